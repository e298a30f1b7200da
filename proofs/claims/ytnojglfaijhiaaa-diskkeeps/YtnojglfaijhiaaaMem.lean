/-
  Memory, as the walks speak of it: what was there is as it was; rows of numbers.
-/
import Derived.Test.YtnojglfaijhiaaaRows
import Derived.WalkKit
import Derived.Outline
import Derived.Handy
import Derived.Lib.Hide
import Derived.ProofKit
import Derived.OpenShut
import Derived.ShutString
import Derived.PlainAid
import Derived.Laws.BytesArg
import Derived.Laws.OwnMore
import Derived.OwnWalk
import Derived.RangeFuncBox
import Derived.Lib.SmallJoins
import Derived.Deep.QuietTactic
import Derived.BigQuiet
import Derived.Deep.RegionHeld3
import Derived.Deep.DeepCutAuto
import Derived.Deep.AppendSrc
import Derived.WalkLawsBesides
import Derived.WalkSpells
namespace Go.Proofs.Ytnojglfaijhiaaa.Mem
open Go.RowKit
set_option linter.unusedVariables false

theorem ret1 {k : IntKind} {a b : Int} (h : a = b) : Ending.returned (.int k a) = .returned (.int k b) := by rw [h]
theorem retS {a b : ByteArray} (h : a = b) : Ending.returned (.string a) = .returned (.string b) := by rw [h]

/-- All that was there in W is there in w, as it was. -/
def Q (W w : World) : Prop := Below W.heap.size W w
theorem Q.refl (w : World) : Q w w := Below.refl _ _
theorem Q.trans {a b c : World} (h : Q a b) (k : Q b c) : Q a c := Below.trans h (Below.mono k h.size)
theorem Q.drewN {a b : World} (h : Q a b) (n : Nat) : Q a (b.drewN n) := below_drewN h n
theorem Q.drew {a b : World} (h : Q a b) : Q a b.drew := Below.drew h
theorem Q.alloc {a b : World} (h : Q a b) (o : Obj) : Q a (b.alloc o) := h.trans (Below.alloc (Below.refl _ _) (Nat.le_refl _) _)
theorem Q.setCell {a b : World} (h : Q a b) {p : Addr} (hp : a.heap.size ≤ p.block) (v : Value) : Q a (b.setCell p v) := Below.setCell h hp v
theorem Q.cell {a b : World} (h : Q a b) {p : Addr} (hp : p.block < a.heap.size) : b.cell? p = a.cell? p := Below.cell h hp
theorem Q.frozen {a b : World} (h : Q a b) {p : Addr} (hp : p.block < a.heap.size) : b.frozen? p = a.frozen? p := Below.frozen h hp

/-- A row of numbers: cell i behind the address holds number i. -/
def Row (k : IntKind) (w : World) (b off len : Nat) (f : Nat → Int) : Prop := ∀ i, i < len → w.cell? ⟨b, off + i, none⟩ = some (.int k (f i))
theorem Row.q {k : IntKind} {w w' : World} {g off n : Nat} {f : Nat → Int} (h : Row k w g off n f) (q : Q w w') (hg : g < w.heap.size) : Row k w' g off n f :=
  fun i hi => by rw [q.cell (p := ⟨g, off + i, none⟩) hg]; exact h i hi
theorem Row.drewN {k : IntKind} {w : World} {g off n : Nat} {f : Nat → Int} (h : Row k w g off n f) (m : Nat) : Row k (w.drewN m) g off n f := fun i hi => h i hi
theorem Row.drew {k : IntKind} {w : World} {g off n : Nat} {f : Nat → Int} (h : Row k w g off n f) : Row k w.drew g off n f := fun i hi => h i hi
theorem Row.at0 {k : IntKind} {w : World} {g n : Nat} {f : Nat → Int} (h : Row k w g 0 n f) (i : Nat) (hi : i < n) : w.cell? ⟨g, i, none⟩ = some (.int k (f i)) := by have := h i hi; rwa [Nat.zero_add] at this
theorem Row.lt {k : IntKind} {w : World} {g off n : Nat} {f : Nat → Int} (h : Row k w g off n f) (hn : 0 < n) : g < w.heap.size := World.block_lt_of_cell? _ _ (h 0 hn)
def upd (o : Nat → Int) (x : Nat) (v : Int) : Nat → Int := fun i => if i = x then v else o i
theorem Row.set {k : IntKind} {w : World} {g n : Nat} {o : Nat → Int} (h : Row k w g 0 n o) (x : Nat) (hx : x < n) (v : Int) : Row k (w.setCell ⟨g, x, none⟩ (.int k v)) g 0 n (upd o x v) := by
  intro i hi
  rw [Nat.zero_add]
  unfold upd
  by_cases e : i = x
  · subst e
    rw [if_pos rfl]
    exact World.cell?_setCell_same _ _ _ (h.at0 i hi)
  · rw [if_neg e, World.cell?_setCell_other (h := by intro h; injection h; omega)]
    exact h.at0 i hi
theorem Row.other {k : IntKind} {w : World} {g off n x gz : Nat} {o : Nat → Int} (h : Row k w g off n o) (hg : g ≠ gz) (v : Value) : Row k (w.setCell ⟨gz, x, none⟩ v) g off n o := by
  intro i hi
  rw [World.cell?_setCell_other (h := by intro h; injection h; omega)]
  exact h i hi
/-- A new block of n cells, all alike. -/
theorem Row.made (k : IntKind) (w : World) (n : Nat) (v : Int) (t : TypeId) : Row k (w.alloc (.cells (Array.replicate n (.int k v)) t)) w.heap.size 0 n (fun _ => v) := by
  intro i hi
  rw [World.cell?_alloc_at _ _ _ _ rfl, Nat.zero_add]
  simp [hi]
theorem made_frozen (w : World) (c : Array Value) (t : TypeId) (i : Nat) : (w.alloc (.cells c t)).frozen? ⟨w.heap.size, i, none⟩ = false := World.frozen?_alloc_at _ _ _ _ rfl

/-- A row of the call's own, as an ending. -/
def OwnRow (k : IntKind) (W : World) (f : Nat → Int) (n : Nat) (e : Ending) (w' : World) : Prop :=
  ∃ g cap, e = .returned (.slice (some ⟨g, 0, none⟩) n cap) ∧ n ≤ cap ∧ cap ≤ maxLen ∧ Row k w' g 0 n f ∧ (∀ i, w'.frozen? ⟨g, i, none⟩ = false) ∧ W.heap.size ≤ g ∧ g < w'.heap.size ∧ Q W w'
end Go.Proofs.Ytnojglfaijhiaaa.Mem
