/-
  Layer 2's contracts, their answers as letters.
-/
import Derived.Test.YtklboeephfpokaaDoorLaid
namespace Go.Proofs.YtklboeephfpokaaDoor.Sh
open Go.RowKit
open Mem
set_option linter.unusedVariables false

theorem sum_x {W : World} (s x : ByteArray) (hx : shaS s = x) (hs : s.size ≤ 100000) (hG : GL W) (w : World) (q : Q W w) : Calls Tryd.prog 10 #[.string s] w fun e w' => e = .returned (.string x) ∧ Q W w' := by
  subst hx; exact sum_any s w q hG (by omega)
theorem rsum_x {W : World} (s x : ByteArray) (hx : shaS s = x) (hs : s.size ≤ 100000) (w : World) (q : Q W w) : Calls Tryd.prog 11 #[.string s] w fun e w' => e = .returned (.string x) ∧ Q W w' := by
  subst hx; exact rsum_any s w q (by omega)
theorem short_x {W : World} (s x : ByteArray) (hx : shortS s = x) (hs : s.size ≤ 100000) (hG : GL W) (w : World) (q : Q W w) : Calls Tryd.prog 12 #[.string s] w fun e w' => e = .returned (.string x) ∧ Q W w' := by
  subst hx; exact short_any s w q hG (by omega)
theorem rshort_x {W : World} (s x : ByteArray) (hx : shortS s = x) (hs : s.size ≤ 100000) (w : World) (q : Q W w) : Calls Tryd.prog 13 #[.string s] w fun e w' => e = .returned (.string x) ∧ Q W w' := by
  subst hx; exact rshort_any s w q (by omega)
theorem hex_x {W : World} (s x : ByteArray) (hx : hexS s = x) (hs : s.size ≤ 100000) (w : World) (q : Q W w) : Calls Tryd.prog 14 #[.string s] w fun e w' => e = .returned (.string x) ∧ Q W w' := by
  subst hx; exact hex_any s w q (by omega)
theorem rhex_x {W : World} (s x : ByteArray) (hx : hexS s = x) (hs : s.size ≤ 100000) (w : World) (q : Q W w) : Calls Tryd.prog 15 #[.string s] w fun e w' => e = .returned (.string x) ∧ Q W w' := by
  subst hx; exact rhex_any s w q (by omega)
theorem tag_x {W : World} (word x : ByteArray) (g off n cap : Nat) (ps : Nat → ByteArray) (hx : tagS word ps n = x) (w : World) (q : Q W w) (hG : GL W) (hr : RowS w g off n ps) (hg : 0 < n → g < w.heap.size) (hw : word.size ≤ 1000000) (hn : n ≤ 100) (hp : ∀ i, (ps i).size ≤ 1000000) :
    Calls Tryd.prog 17 #[.string word, .slice (some ⟨g, off, none⟩) n cap] w fun e w' => e = .returned (.string x) ∧ Q W w' := by
  subst hx; exact tag_any word g off n cap ps w q hG hr hg hw hn hp
theorem rtag_x {W : World} (word x : ByteArray) (g off n cap : Nat) (ps : Nat → ByteArray) (hx : tagS word ps n = x) (w : World) (q : Q W w) (hr : RowS w g off n ps) (hg : 0 < n → g < w.heap.size) (hw : word.size ≤ 1000000) (hn : n ≤ 100) (hp : ∀ i, (ps i).size ≤ 1000000) :
    Calls Tryd.prog 18 #[.string word, .slice (some ⟨g, off, none⟩) n cap] w fun e w' => e = .returned (.string x) ∧ Q W w' := by
  subst hx; exact rtag_any word g off n cap ps w q hr hg hw hn hp
theorem cut_le (s : ByteArray) (m : Nat) (mi : Int) (h : mi = (m : Int)) : (s.extract 0 (min (s.size : Int) mi).toNat).size ≤ m := by subst h; rw [ByteArray.size_extract]; omega
/-- A row of texts that came in. -/
def IsRowS (W : World) (a : Option Addr) (len cap : Nat) (S : Nat → ByteArray) : Prop :=
  (a = none ∧ len = 0 ∧ cap = 0) ∨ ∃ x, a = some x ∧ len ≤ cap ∧ cap ≤ maxLen ∧ ∀ i, i < len → W.cell? (x.add i) = some (.string (S i)) ∧ (S i).size ≤ maxLen
/-- What a sign tells. -/
def digS (c : Int) : Int := if 48 ≤ c ∧ c ≤ 57 then c - 48 else if 97 ≤ c ∧ c ≤ 102 then c - 87 else -1000
theorem digS_hd (j : Int) (h0 : 0 ≤ j) (h1 : j ≤ 15) : digS (hd j) = j := by
  unfold digS hd
  by_cases h : j < 10
  · rw [if_pos h, if_pos (by omega)]; omega
  · rw [if_neg h, if_neg (by omega), if_pos (by omega)]; omega
theorem digit_q (c : Int) (h0 : 0 ≤ c) (h1 : c ≤ 255) (w : World) : Calls Tryd.prog 24 #[.int .u8 c] w fun e w' => e = .returned (.int .i64 (digS c)) ∧ ∃ m, w' = w.drewN m := by
  have HD : Hid (digS c = if 48 ≤ c ∧ c ≤ 57 then c - 48 else if 97 ≤ c ∧ c ≤ 102 then c - 87 else -1000) := rfl
  by_cases ha : 48 ≤ c ∧ c ≤ 57
  · have E : Hid (digS c = c - 48) := by show _ = _; rw [HD.out, if_pos ha]
    obtain ⟨a1, a2⟩ := ha
    go_enter Tryd.func24, Tryd.ntmps24
    go_wp2_with fail
    go_ret
    exact ⟨ret1 (by rw [E.out]), 0, rfl⟩
  · by_cases hb : 97 ≤ c ∧ c ≤ 102
    · have E : Hid (digS c = c - 87) := by show _ = _; rw [HD.out, if_neg ha, if_pos hb]
      obtain ⟨a1, a2⟩ := hb
      go_enter Tryd.func24, Tryd.ntmps24
      go_wp2_with fail
      go_ret
      exact ⟨ret1 (by rw [E.out]; omega), 0, rfl⟩
    · have E : Hid (digS c = -1000) := by show _ = _; rw [HD.out, if_neg ha, if_neg hb]
      go_enter Tryd.func24, Tryd.ntmps24
      go_wp2_with fail
      all_goals (go_ret; exact ⟨ret1 (by rw [E.out]), 0, rfl⟩)
end Go.Proofs.YtklboeephfpokaaDoor.Sh
