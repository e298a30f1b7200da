/-
  Layer 3: the program's Reader beside the document's: call by call both answer the same.
-/
import Derived.Test.YtefnncihpilpdaaCodP
namespace Go.Proofs.Ytefnncihpilpdaa.Cod
open Go.RowKit
open Mem Num
set_option linter.unusedVariables false

/-- Where both Readers stand: at the same place of S, with the same error. -/
structure RI (W : World) (gr gx : Nat) (S : ByteArray) (a : Nat) (e : Int) (w : World) : Prop where
  r : RD w gr (rest S a) e
  x : RR w gx S a e
  le : a ≤ S.size
  q : Q W w
/-- The program's is one call ahead. -/
structure HI (W : World) (gr gx : Nat) (S : ByteArray) (a : Nat) (e : Int) (a' : Nat) (e' : Int) (w : World) : Prop where
  r : RD w gr (rest S a') e'
  x : RR w gx S a e
  le : a ≤ S.size
  le' : a' ≤ S.size
  q : Q W w
section
variable {W w : World} {gr gx : Nat} {S : ByteArray} {a a' : Nat} {e e' : Int}
theorem RI.up {w' : World} (h : RI W gr gx S a e w) (q : Q w w') : RI W gr gx S a e w' := ⟨h.r.q q, h.x.q q, h.le, h.q.trans q⟩
theorem HI.up {w' : World} (h : HI W gr gx S a e a' e' w) (q : Q w w') : HI W gr gx S a e a' e' w' := ⟨h.r.q q, h.x.q q, h.le, h.le', h.q.trans q⟩
theorem RI.toH {w' : World} (h : RI W gr gx S a e w) (hr : W.heap.size ≤ gr) (hne : gx ≠ gr) (hl : a' ≤ S.size) (r : RD w' gr (rest S a') e') (c : Ch gr w w') : HI W gr gx S a e a' e' w' := ⟨r, h.x.ch c hne, h.le, hl, c.q h.q hr⟩
theorem HI.toR {w' : World} (h : HI W gr gx S a e a' e' w) (hx : W.heap.size ≤ gx) (hne : gr ≠ gx) (x : RR w' gx S a' e') (c : Ch gx w w') : RI W gr gx S a' e' w' := ⟨h.r.ch c hne, x, h.le', c.q h.q hx⟩

/-- A call of either Reader with these arguments: both answer v, and stand at the same place then. -/
def Same (W : World) (gr gx : Nat) (S : ByteArray) (a : Nat) (e : Int) (fr fx : Nat) (more : List Value) (v : Value) (a' : Nat) (e' : Int) : Prop :=
  (∀ w, RI W gr gx S a e w → Calls Try.prog fr (Value.pointer (some ⟨gr, 0, none⟩) :: more).toArray w fun r w' => r = .returned v ∧ HI W gr gx S a e a' e' w') ∧
  (∀ w, HI W gr gx S a e a' e' w → Calls Try.prog fx (Value.pointer (some ⟨gx, 0, none⟩) :: more).toArray w fun r w' => r = .returned v ∧ RI W gr gx S a' e' w')

theorem byE_le (s : ByteArray) : byE s = 0 → 1 ≤ s.size := by unfold byE; split <;> intro h; assumption; exact absurd h (by decide)
theorem haE_le (s : ByteArray) : haE s = 0 → 16 ≤ s.size := by unfold haE; split <;> intro h; assumption; exact absurd h (by decide)
theorem same_byte (hs : S.size ≤ 1000000000) (ha : a ≤ S.size) (hr : W.heap.size ≤ gr) (hx : W.heap.size ≤ gx) (hne : gr ≠ gx) : ∃ v a' e', Same W gr gx S a e 21 22 [] (.int .i64 v) a' e' := by
  have hz : (rest S a).size ≤ 1000000000 := by rw [rest_size]; omega
  have hl := rdA_le S a e 1 (byE (rest S a)) ha (byE_le _)
  refine ⟨rdV e (byE (rest S a)) (PlainAid.bt (rest S a) 0), rdA a e 1 (byE (rest S a)), failE e (byE (rest S a)), fun w h => (rbyte_any gr _ e w h.r hz).mono ?_, fun w h => (xbyte_any gx S a e w h.x hs ha).mono ?_⟩
  · rintro r w' ⟨rfl, h1, c⟩
    rw [rdS_rest] at h1
    exact ⟨rfl, h.toH hr (Ne.symm hne) hl h1 c⟩
  · rintro r w' ⟨rfl, h1, c⟩
    exact ⟨rfl, h.toR hx hne h1 c⟩
theorem same_num (hs : S.size ≤ 1000000000) (ha : a ≤ S.size) (hr : W.heap.size ≤ gr) (hx : W.heap.size ≤ gx) (hne : gr ≠ gx) : ∃ v a' e', Same W gr gx S a e 23 24 [] (.int .u64 v) a' e' := by
  have hz : (rest S a).size ≤ 1000000000 := by rw [rest_size]; omega
  have hl := rdA_le S a e 8 (getE (rest S a)) ha (getE_yes _)
  refine ⟨rdV e (getE (rest S a)) (getV (rest S a)), rdA a e 8 (getE (rest S a)), failE e (getE (rest S a)), fun w h => (rnum_any gr _ e w h.r hz).mono ?_, fun w h => (xnum_any gx S a e w h.x hs ha).mono ?_⟩
  · rintro r w' ⟨rfl, h1, c⟩
    rw [rdS_rest] at h1
    exact ⟨rfl, h.toH hr (Ne.symm hne) hl h1 c⟩
  · rintro r w' ⟨rfl, h1, c⟩
    exact ⟨rfl, h.toR hx hne h1 c⟩
theorem same_hash (hs : S.size ≤ 1000000000) (ha : a ≤ S.size) (hr : W.heap.size ≤ gr) (hx : W.heap.size ≤ gx) (hne : gr ≠ gx) : ∃ v a' e', Same W gr gx S a e 27 28 [] (.string v) a' e' := by
  have hz : (rest S a).size ≤ 1000000000 := by rw [rest_size]; omega
  have hl := rdA_le S a e 16 (haE (rest S a)) ha (haE_le _)
  refine ⟨rdT e (haE (rest S a)) ((rest S a).extract 0 16), rdA a e 16 (haE (rest S a)), failE e (haE (rest S a)), fun w h => (rhash_any gr _ e w h.r hz).mono ?_, fun w h => (xhash_any gx S a e w h.x hs ha).mono ?_⟩
  · rintro r w' ⟨rfl, h1, c⟩
    rw [rdS_rest] at h1
    exact ⟨rfl, h.toH hr (Ne.symm hne) hl h1 c⟩
  · rintro r w' ⟨rfl, h1, c⟩
    exact ⟨rfl, h.toR hx hne h1 c⟩
theorem same_blob (m : Int) (hs : S.size ≤ 1000000000) (ha : a ≤ S.size) (hr : W.heap.size ≤ gr) (hx : W.heap.size ≤ gx) (hne : gr ≠ gx) : ∃ v a' e', Same W gr gx S a e 25 26 [.int .i64 m] (.string v) a' e' := by
  have hz : (rest S a).size ≤ 1000000000 := by rw [rest_size]; omega
  have hl := rdA_le S a e (2 + blL (rest S a)) (blE (rest S a) m) ha (blE_yes _ _)
  refine ⟨rdT e (blE (rest S a) m) ((rest S a).extract 2 (2 + blL (rest S a))), rdA a e (2 + blL (rest S a)) (blE (rest S a) m), failE e (blE (rest S a) m), fun w h => (rblob_any gr _ e m w h.r hz).mono ?_, fun w h => (xblob_any gx S a e m w h.x hs ha).mono ?_⟩
  · rintro r w' ⟨rfl, h1, c⟩
    rw [rdS_rest] at h1
    exact ⟨rfl, h.toH hr (Ne.symm hne) hl h1 c⟩
  · rintro r w' ⟨rfl, h1, c⟩
    exact ⟨rfl, h.toR hx hne h1 c⟩
theorem same_fail (f : Int) (ha : a ≤ S.size) (hr : W.heap.size ≤ gr) (hx : W.heap.size ≤ gx) (hne : gr ≠ gx) : Same W gr gx S a e 29 30 [.int .i64 f] (.tuple #[]) a (failE e f) :=
  ⟨fun w h => (fail_any gr _ e f w h.r).mono fun r w' ⟨a, b, c⟩ => ⟨a, h.toH hr (Ne.symm hne) h.le b c⟩, fun w h => (xfail_any gx S _ e f w h.x).mono fun r w' ⟨a, b, c⟩ => ⟨a, h.toR hx hne b c⟩⟩
end
end Go.Proofs.Ytefnncihpilpdaa.Cod
