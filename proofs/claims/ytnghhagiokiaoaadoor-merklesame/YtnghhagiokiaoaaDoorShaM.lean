/-
  SHA-256 as plain functions of numbers, as the document says it. No Go in sight.
-/
import Derived.Laws.BitsAllLaws
import Derived.Laws.Bits64b
import Derived.OpenShut
import Derived.Test.YtnghhagiokiaoaaDoorMem
namespace Go.Proofs.YtnghhagiokiaoaaDoor.Sh
set_option linter.unusedVariables false
open Mem

/-- A word: below 2^32. -/
def Wd (x : Int) : Prop := 0 ≤ x ∧ x ≤ 4294967295
def xr (a b : Int) : Int := bits .xor .u32 a b
def an (a b : Int) : Int := bits .and .u32 a b
def ad (a b : Int) : Int := IntKind.u32.wrap (a + b)
/-- A word turned to the right. -/
def rot (x n : Int) : Int := bits .or .u32 (x / 2 ^ n.toNat) (IntKind.u32.wrap (x * 2 ^ (32 - n).toNat))
def s0 (x : Int) : Int := xr (xr (rot x 7) (rot x 18)) (x / 8)
def s1 (x : Int) : Int := xr (xr (rot x 17) (rot x 19)) (x / 1024)
def S0 (x : Int) : Int := xr (xr (rot x 2) (rot x 13)) (rot x 22)
def S1 (x : Int) : Int := xr (xr (rot x 6) (rot x 11)) (rot x 25)
def ch (e f g : Int) : Int := xr (an e f) (an (4294967295 - e) g)
def mj (a b c : Int) : Int := xr (xr (an a b) (an a c)) (an b c)

theorem wd_wf (x : Int) (h : (Lit.int .u32 x).wf = true) : Wd x := bounds_u32 h
theorem xr_wd (a b : Int) : Wd (xr a b) := wd_wf _ (wf_bits _ _ _ _)
theorem an_wd (a b : Int) : Wd (an a b) := wd_wf _ (wf_bits _ _ _ _)
theorem rot_wd (a b : Int) : Wd (rot a b) := wd_wf _ (wf_bits _ _ _ _)
theorem ad_wd (a b : Int) : Wd (ad a b) := by unfold ad Wd; rw [IntKind.wrap_u32']; omega

/-- The words of 64 bytes: the first sixteen. -/
def wd (b : Nat → Int) (t : Nat) : Int := b (4 * t) * 16777216 + b (4 * t + 1) * 65536 + b (4 * t + 2) * 256 + b (4 * t + 3)
/-- The first n of them, zeros behind. -/
def w16 (b : Nat → Int) (n : Nat) : Nat → Int := fun t => if t < n then wd b t else 0
/-- .. and k more. -/
def wrow (b : Nat → Int) : Nat → Nat → Int
  | 0 => w16 b 16
  | k + 1 => upd (wrow b k) (16 + k) (ad (ad (ad (s1 (wrow b k (14 + k))) (wrow b k (9 + k))) (s0 (wrow b k (1 + k)))) (wrow b k k))
def Byts (b : Nat → Int) : Prop := ∀ j, 0 ≤ b j ∧ b j ≤ 255
theorem wd_wd (b : Nat → Int) (h : Byts b) (t : Nat) : Wd (wd b t) := by
  have := h (4 * t); have := h (4 * t + 1); have := h (4 * t + 2); have := h (4 * t + 3)
  unfold wd Wd; omega
theorem w16_wd (b : Nat → Int) (h : Byts b) (n t : Nat) : Wd (w16 b n t) := by
  unfold w16
  split
  · exact wd_wd b h t
  · unfold Wd; omega
theorem w16_succ (b : Nat → Int) (n : Nat) : upd (w16 b n) n (wd b n) = w16 b (n + 1) := by
  funext t
  unfold upd w16
  by_cases h : t = n
  · subst h; rw [if_pos rfl, if_pos (by omega)]
  · rw [if_neg h]
    by_cases h2 : t < n
    · rw [if_pos h2, if_pos (by omega)]
    · rw [if_neg h2, if_neg (by omega)]
theorem upd_wd {o : Nat → Int} (h : ∀ i, Wd (o i)) (x : Nat) {v : Int} (hv : Wd v) : ∀ i, Wd (upd o x v i) := by
  intro i; unfold upd; split
  · exact hv
  · exact h i
theorem wrow_wd (b : Nat → Int) (h : Byts b) : ∀ k t, Wd (wrow b k t)
  | 0 => w16_wd b h 16
  | k + 1 => upd_wd (wrow_wd b h k) _ (ad_wd _ _)

/-- One round: what p, q are, and the state behind it. -/
def rp (k w : Nat → Int) (t : Nat) (v : Nat → Int) : Int := ad (ad (ad (ad (v 7) (S1 (v 4))) (ch (v 4) (v 5) (v 6))) (k t)) (w t)
def rq (v : Nat → Int) : Int := ad (S0 (v 0)) (mj (v 0) (v 1) (v 2))
def round (k w : Nat → Int) (t : Nat) (v : Nat → Int) : Nat → Int := fun i => if i = 0 then ad (rp k w t v) (rq v) else if i = 4 then ad (v 3) (rp k w t v) else v (i - 1)
def rounds (k w : Nat → Int) (v : Nat → Int) : Nat → Nat → Int
  | 0 => v
  | t + 1 => round k w t (rounds k w v t)
theorem round_wd (k w : Nat → Int) (t : Nat) (v : Nat → Int) (h : ∀ i, Wd (v i)) : ∀ i, Wd (round k w t v i) := by
  intro i; unfold round; split
  · exact ad_wd _ _
  · split
    · exact ad_wd _ _
    · exact h _
theorem rounds_wd (k w : Nat → Int) (v : Nat → Int) (h : ∀ i, Wd (v i)) : ∀ t i, Wd (rounds k w v t i)
  | 0 => h
  | t + 1 => round_wd k w t _ (rounds_wd k w v h t)
/-- A state behind 64 bytes. -/
def stepS (k : Nat → Int) (st b : Nat → Int) : Nat → Int := fun i => ad (rounds k (wrow b 48) st 64 i) (st i)
theorem stepS_wd (k st b : Nat → Int) : ∀ i, Wd (stepS k st b i) := fun i => ad_wd _ _
end Go.Proofs.YtnghhagiokiaoaaDoor.Sh
