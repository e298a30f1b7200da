/-
  Layer 6: what the laws want besides.
-/
import Derived.Test.YtmjbglhpghpaeaaDoorWot7
namespace Go.Proofs.YtmjbglhpghpaeaaDoor.Wot
open Go.RowKit
open Mem Sh
set_option linter.unusedVariables false

theorem i64_and15 (n : Int) : bits .and .i64 n 15 = n % 16 := by
  have h15 : (BitVec.ofInt 64 15).toNat = 2 ^ 4 - 1 := by decide
  have key : (BitVec.ofInt 64 n &&& BitVec.ofInt 64 15).toNat = (n % ((2 ^ 64 : Nat) : Int)).toNat % 2 ^ 4 := by
    rw [BitVec.toNat_and, BitVec.toNat_ofInt, h15, Nat.and_two_pow_sub_one_eq_mod]
  show IntKind.i64.wrap ((BitVec.ofInt 64 n &&& BitVec.ofInt 64 15).toNat : Nat) = n % 16
  rw [key, IntKind.wrap_i64]
  omega
theorem min_cut (a : Nat) (n : Int) (h : 0 ≤ n) : 0 ≤ min (a : Int) n ∧ min (a : Int) n ≤ (a : Int) := ⟨by rw [Int.le_min]; exact ⟨by omega, h⟩, Int.min_le_left _ _⟩
/-- Has one of the first digits of a below b's there? -/
def lessB (f g : Nat → Int) : Nat → Bool
  | 0 => false
  | k + 1 => lessB f g k || decide (f k < g k)
theorem lessB_iff (f g : Nat → Int) : ∀ k, lessB f g k = true ↔ ∃ j, j < k ∧ f j < g j
  | 0 => by
    show (false = true) ↔ _
    exact ⟨fun h => absurd h (by decide), fun ⟨j, h, _⟩ => absurd h (by omega)⟩
  | k + 1 => by
    show (lessB f g k || decide (f k < g k)) = true ↔ _
    rw [Bool.or_eq_true, decide_eq_true_iff, lessB_iff f g k]
    constructor
    · rintro (⟨j, h1, h2⟩ | h)
      · exact ⟨j, by omega, h2⟩
      · exact ⟨k, by omega, h⟩
    · rintro ⟨j, h1, h2⟩
      by_cases e : j = k
      · subst e; exact .inr h2
      · exact .inl ⟨j, by omega, h2⟩
theorem lessB_flip (a b : ByteArray) : lessB (dig a) (dig b) 18 = lessB (dig b) (dig a) 18 := by
  rw [Bool.eq_iff_iff, lessB_iff, lessB_iff]
  exact ⟨dig_less a b, dig_less b a⟩
end Go.Proofs.YtmjbglhpghpaeaaDoor.Wot
