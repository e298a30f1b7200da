/-
  Layer 13: what stays in the other files; two swaps.
-/
import Derived.Test.YtnojglfaijhiaaaDkS
namespace Go.Proofs.Ytnojglfaijhiaaa.Dk
open Go.RowKit
open Mem
set_option linter.unusedVariables false

theorem apT_other {n room : Nat} (t : Nat → ByteArray) {i j : Nat} (x : ByteArray) (h : j ≠ i) : apT n room t (i : Int) x j = t j := by
  unfold apT
  split
  · exact put_other _ _ h
  · rfl
theorem cuT_other {n : Nat} (t : Nat → ByteArray) {i j : Nat} (m : Int) (h : j ≠ i) : cuT n t (i : Int) m j = t j := by
  unfold cuT
  split
  · exact put_other _ _ h
  · rfl
theorem sy_at {n i : Nat} (t : Nat → ByteArray) (s : Nat → Nat) (h : i < n) : syS n t s (i : Int) i = (t i).size := by
  unfold syS
  rw [inn_lt h, if_pos rfl]
  exact put_same _ _ _
theorem sy_keep {n i j : Nat} (t : Nat → ByteArray) (s : Nat → Nat) (h : i < n) (e : s j = (t j).size) : syS n t s (i : Int) j = (t j).size := by
  by_cases hj : j = i
  · subst hj; exact sy_at t s h
  · unfold syS
    rw [inn_lt h, if_pos rfl]
    exact (put_other _ _ hj).trans e
theorem put_two {α : Type} (f : Nat → α) (p q : Nat) : put (put f p (f q)) q (f p) p = f q := by
  by_cases h : p = q
  · subst h; rw [put_same]
  · rw [put_other _ _ h, put_same]
theorem sw_facts {n p q : Nat} {t : Nat → ByteArray} {s : Nat → Nat} (hp : p < n) (hq : q < n) (e1 : s p = (t p).size) (e2 : s q = (t q).size) :
    swE n t s (p : Int) (q : Int) = 0 ∧ swT n t s (p : Int) (q : Int) p = t q ∧ swT n t s (p : Int) (q : Int) q = t p ∧ swS n t s (p : Int) (q : Int) p = s q ∧ swS n t s (p : Int) (q : Int) q = s p := by
  have h0 : swE n t s (p : Int) (q : Int) = 0 := by
    unfold swE
    rw [inn_lt hp, if_pos rfl, inn_lt hq, if_pos rfl]
    refine if_neg ?_
    show ¬ (s p < (t p).size ∨ s q < (t q).size)
    omega
  refine ⟨h0, ?_, ?_, ?_, ?_⟩
  · unfold swT; rw [if_pos h0]; exact put_two t p q
  · unfold swT; rw [if_pos h0]; exact put_same _ _ _
  · unfold swS; rw [if_pos h0]; exact put_two s p q
  · unfold swS; rw [if_pos h0]; exact put_same _ _ _
theorem rem3 (n : Nat) : ∃ i : Nat, i < 3 ∧ Int.tmod (n : Int) 3 = (i : Int) := ⟨n % 3, by omega, by rw [Int.tmod_eq_emod_of_nonneg (by omega)]; omega⟩
theorem beside3 {i : Nat} (h : i < 3) : ∃ a b : Nat, a < 3 ∧ b < 3 ∧ a ≠ i ∧ b ≠ i ∧ Int.tmod ((i : Int) + 1) 3 = (a : Int) ∧ Int.tmod ((i : Int) + 2) 3 = (b : Int) :=
  ⟨(i + 1) % 3, (i + 2) % 3, by omega, by omega, by omega, by omega, by rw [Int.tmod_eq_emod_of_nonneg (by omega)]; omega, by rw [Int.tmod_eq_emod_of_nonneg (by omega)]; omega⟩
end Go.Proofs.Ytnojglfaijhiaaa.Dk
