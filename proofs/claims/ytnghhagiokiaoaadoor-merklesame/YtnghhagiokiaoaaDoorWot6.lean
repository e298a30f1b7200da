/-
  Layer 6: the document's Verify; Ints; a tag of two parts that were made earlier; texts that differ.
-/
import Derived.Test.YtnghhagiokiaoaaDoorWot5
namespace Go.Proofs.YtnghhagiokiaoaaDoor.Wot
open Go.RowKit
open Mem Sh
set_option linter.unusedVariables false

/-- Is it one's? -/
def vfy (p m sig : ByteArray) : Bool := decide (sig.size = 288) && decide (frm m sig = p)
theorem ne_tl (a b : ByteArray) (h : a ≠ b) : (a.toList == b.toList) = false := by
  rw [beq_eq_false_iff_ne]
  intro e
  rw [ByteArray.toList_eq, ByteArray.toList_eq] at e
  exact h (WideShapes.bytes_inj e)
theorem ne_size (a b : ByteArray) (h : a.size ≠ b.size) : a ≠ b := fun e => h (by rw [e])
theorem vfy_no (p m sig : ByteArray) (h : sig.size ≠ 288) : vfy p m sig = false := by unfold vfy; rw [decide_eq_false h]; rfl
theorem vfy_yes (p m sig : ByteArray) (h : sig.size = 288) (e : frm m sig = p) : vfy p m sig = true := by unfold vfy; rw [decide_eq_true h, decide_eq_true e]; rfl
theorem vfy_ne (p m sig : ByteArray) (e : frm m sig ≠ p) : vfy p m sig = false := by unfold vfy; rw [decide_eq_false e, Bool.and_false]

theorem tag2_at {W : World} (word a c x : ByteArray) (hx : tagS word (two a c) 2 = x) (T : TypeId) (wB w : World) (q : Q W w) (qb : Q (wB.alloc (.cells #[.string a, .string c] T)) w) (hG : GL W) (hw : word.size ≤ 1000000) (ha : a.size ≤ 1000000) (hc : c.size ≤ 1000000) :
    Calls Tryd.prog 59 #[.string word, .slice (some ⟨wB.heap.size, 0, none⟩) 2 2] w fun e w' => e = .returned (.string x) ∧ Q W w' := by
  subst hx
  have hlt : wB.heap.size < w.heap.size := by have := qb.size; simp at this; omega
  exact tag_any word wB.heap.size 0 2 2 (two a c) w q hG ((row2 wB a c T).q qb (by simp)) (fun _ => hlt) hw (by omega) (two_size a c _ ha hc)
end Go.Proofs.YtnghhagiokiaoaaDoor.Wot
