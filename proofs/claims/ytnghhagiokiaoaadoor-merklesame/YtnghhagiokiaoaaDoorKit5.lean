/-
  Layer 2's contracts, their answers as letters.
-/
import Derived.Test.YtnghhagiokiaoaaDoorLaid
namespace Go.Proofs.YtnghhagiokiaoaaDoor.Sh
open Go.RowKit
open Mem
set_option linter.unusedVariables false

theorem rsum_x {W : World} (s x : ByteArray) (hx : shaS s = x) (hs : s.size ≤ 100000) (w : World) (q : Q W w) : Calls Tryd.prog 75 #[.string s] w fun e w' => e = .returned (.string x) ∧ Q W w' := by
  subst hx; exact rsum_any s w q (by omega)
theorem rshort_x {W : World} (s x : ByteArray) (hx : shortS s = x) (hs : s.size ≤ 100000) (w : World) (q : Q W w) : Calls Tryd.prog 56 #[.string s] w fun e w' => e = .returned (.string x) ∧ Q W w' := by
  subst hx; exact rshort_any s w q (by omega)
theorem tag_x {W : World} (word x : ByteArray) (g off n cap : Nat) (ps : Nat → ByteArray) (hx : tagS word ps n = x) (w : World) (q : Q W w) (hG : GL W) (hr : RowS w g off n ps) (hg : 0 < n → g < w.heap.size) (hw : word.size ≤ 1000000) (hn : n ≤ 100) (hp : ∀ i, (ps i).size ≤ 1000000) :
    Calls Tryd.prog 59 #[.string word, .slice (some ⟨g, off, none⟩) n cap] w fun e w' => e = .returned (.string x) ∧ Q W w' := by
  subst hx; exact tag_any word g off n cap ps w q hG hr hg hw hn hp
theorem rtag_x {W : World} (word x : ByteArray) (g off n cap : Nat) (ps : Nat → ByteArray) (hx : tagS word ps n = x) (w : World) (q : Q W w) (hr : RowS w g off n ps) (hg : 0 < n → g < w.heap.size) (hw : word.size ≤ 1000000) (hn : n ≤ 100) (hp : ∀ i, (ps i).size ≤ 1000000) :
    Calls Tryd.prog 34 #[.string word, .slice (some ⟨g, off, none⟩) n cap] w fun e w' => e = .returned (.string x) ∧ Q W w' := by
  subst hx; exact rtag_any word g off n cap ps w q hr hg hw hn hp
theorem cut_le (s : ByteArray) (m : Nat) (mi : Int) (h : mi = (m : Int)) : (s.extract 0 (min (s.size : Int) mi).toNat).size ≤ m := by subst h; rw [ByteArray.size_extract]; omega
/-- A row of texts that came in. -/
def IsRowS (W : World) (a : Option Addr) (len cap : Nat) (S : Nat → ByteArray) : Prop :=
  (a = none ∧ len = 0 ∧ cap = 0) ∨ ∃ x, a = some x ∧ len ≤ cap ∧ cap ≤ maxLen ∧ ∀ i, i < len → W.cell? (x.add i) = some (.string (S i)) ∧ (S i).size ≤ maxLen
/-- What a sign tells. -/
def digS (c : Int) : Int := if 48 ≤ c ∧ c ≤ 57 then c - 48 else if 97 ≤ c ∧ c ≤ 102 then c - 87 else -1000
end Go.Proofs.YtnghhagiokiaoaaDoor.Sh
