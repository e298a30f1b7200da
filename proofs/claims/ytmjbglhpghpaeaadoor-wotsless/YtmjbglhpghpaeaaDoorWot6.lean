/-
  Layer 6: the document's Verify; Ints; a tag of two parts that were made earlier; texts that differ.
-/
import Derived.Test.YtmjbglhpghpaeaaDoorWot5
namespace Go.Proofs.YtmjbglhpghpaeaaDoor.Wot
open Go.RowKit
open Mem Sh
set_option linter.unusedVariables false

/-- Is it one's? -/
def vfy (p m sig : ByteArray) : Bool := decide (sig.size = 288) && decide (frm m sig = p)
theorem ne_tl (a b : ByteArray) (h : a ≠ b) : (a.toList == b.toList) = false := by
  rw [beq_eq_false_iff_ne]
  intro e
  rw [ByteArray.toList_eq, ByteArray.toList_eq] at e
  exact h (WideShapes.bytes_inj e)
theorem ne_size (a b : ByteArray) (h : a.size ≠ b.size) : a ≠ b := fun e => h (by rw [e])
theorem vfy_no (p m sig : ByteArray) (h : sig.size ≠ 288) : vfy p m sig = false := by unfold vfy; rw [decide_eq_false h]; rfl
theorem vfy_yes (p m sig : ByteArray) (h : sig.size = 288) (e : frm m sig = p) : vfy p m sig = true := by unfold vfy; rw [decide_eq_true h, decide_eq_true e]; rfl
theorem vfy_ne (p m sig : ByteArray) (e : frm m sig ≠ p) : vfy p m sig = false := by unfold vfy; rw [decide_eq_false e, Bool.and_false]

theorem rverify_x {W : World} (p m sig : ByteArray) (b : Bool) (hb : vfy p m sig = b) (w : World) (q : Q W w) (hms : m.size ≤ 1000000) :
    Calls Tryd.prog 20 #[.string p, .string m, .string sig] w fun e w' => e = .returned (.bool b) ∧ Q W w' := by
  subst hb
  by_cases hz : sig.size = 288
  · obtain ⟨x, hx⟩ : ∃ x, frm m sig = x := ⟨_, rfl⟩
    have C := Lib.hid (rfrom_any m sig x hx w q hz hms)
    by_cases e : x = p
    · rw [vfy_yes p m sig hz (hx.trans e)]
      subst e
      clear q hx
      go_enter Tryd.func20, Tryd.ntmps20
      go_wp2_with fail
      refine C.out.mono ?_
      rintro r w1 ⟨rfl, q1⟩
      go_wp2_with fail
      go_ret
      exact ⟨rfl, q1⟩
    · rw [vfy_ne p m sig (fun h => e (hx.symm.trans h))]
      have hn := ne_tl x p e
      clear q hx
      go_enter Tryd.func20, Tryd.ntmps20
      go_wp2_with fail
      refine C.out.mono ?_
      rintro r w1 ⟨rfl, q1⟩
      go_wp2_with fail
      go_ret
      exact ⟨rfl, q1⟩
  · rw [vfy_no p m sig hz]
    have C := Lib.hid (rfrom_bad m sig w q hz)
    clear q
    go_enter Tryd.func20, Tryd.ntmps20
    go_wp2_with fail
    refine C.out.mono ?_
    rintro r w1 ⟨rfl, q1⟩
    go_wp2_with fail
    go_ret
    exact ⟨rfl, q1⟩

set_option maxHeartbeats 1000000 in
theorem ints_any {W : World} (g g' n cap cap' : Nat) (f : Nat → Int) (w : World) (q : Q W w) (hr : Row .i64 w g 0 n f) (hr' : Row .i64 w g' 0 n f) (hn : n ≤ 1000) :
    Calls Tryd.prog 9 #[.slice (some ⟨g, 0, none⟩) n cap, .slice (some ⟨g', 0, none⟩) n cap'] w fun e w' => e = .returned (.bool true) ∧ Q W w' := by
  have HR : Hid (∀ w', Q w w' → ∀ i, i < n → w'.cell? ⟨g, i, none⟩ = some (.int .i64 (f i)) ∧ w'.cell? ⟨g', i, none⟩ = some (.int .i64 (f i))) := fun w' h i hi =>
    ⟨(hr.q h (hr.lt (by omega))).at0 i hi, (hr'.q h (hr'.lt (by omega))).at0 i hi⟩
  have HQ := Lib.hid q
  clear hr hr' q
  go_enter Tryd.func9, Tryd.ntmps9
  go_wp2_with fail
  go_loopw [5] (fun i wr => ∃ k : Nat, k ≤ n ∧ i = .int .i64 k ∧ Hid (Q w wr)) (fun i _ => n - (intOf i).toNat)
  case atStart => exact ⟨0, by omega, rfl, Lib.hid (Q.refl w)⟩
  case round =>
    obtain ⟨k, hk, rfl, I⟩ := hrel
    by_cases hlt : k < n
    · have k0 : (0 : Int) ≤ (k : Int) := by omega
      have k1 : (k : Int) < (n : Int) := by omega
      have tk : decide ((k : Int) < (n : Int)) = true := by simp; omega
      obtain ⟨h1, h2⟩ := HR.out wr I.out k hlt
      generalize f k = x at *
      go_wp2_with fail
      go_region
      go_wp2_with fail
      exact ⟨⟨k + 1, by omega, by go_num, Lib.hid I.out.drew⟩, by simp [intOf]; omega⟩
    · obtain rfl : k = n := by omega
      have tk : decide ((k : Int) < (k : Int)) = false := by simp
      go_wp2_with fail
      go_ret
      exact ⟨rfl, HQ.out.trans I.out⟩

theorem tag2_at {W : World} (word a c x : ByteArray) (hx : tagS word (two a c) 2 = x) (T : TypeId) (wB w : World) (q : Q W w) (qb : Q (wB.alloc (.cells #[.string a, .string c] T)) w) (hG : GL W) (hw : word.size ≤ 1000000) (ha : a.size ≤ 1000000) (hc : c.size ≤ 1000000) :
    Calls Tryd.prog 23 #[.string word, .slice (some ⟨wB.heap.size, 0, none⟩) 2 2] w fun e w' => e = .returned (.string x) ∧ Q W w' := by
  subst hx
  have hlt : wB.heap.size < w.heap.size := by have := qb.size; simp at this; omega
  exact tag_any word wB.heap.size 0 2 2 (two a c) w q hG ((row2 wB a c T).q qb (by simp)) (fun _ => hlt) hw (by omega) (two_size a c _ ha hc)
end Go.Proofs.YtmjbglhpghpaeaaDoor.Wot
