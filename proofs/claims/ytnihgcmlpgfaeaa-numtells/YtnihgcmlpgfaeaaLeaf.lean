/-
  The walk of bits.LeadingZeros64, and what a number is when it is moved up by its leading zeros.
-/
import Derived.Test.YtnihgcmlpgfaeaaLenA
import Derived.WalkKit
import Derived.Outline
namespace Go.Proofs.Ytnihgcmlpgfaeaa.Num
open Go.RowKit
set_option linter.unusedVariables false

/-- How many zero bits stand ahead of a number of 64 bits. -/
def nlz (y : Int) : Nat := 64 - Lib.bitLen y.toNat

theorem lz64 (x : Int) (w : World) (h0 : 0 ≤ x) (h1 : x ≤ 18446744073709551615) :
    Calls Try.prog 36 #[.int .u64 x] w fun e w' => e = .returned (.int .i64 (nlz x)) ∧ w = w' := by
  have hl : Lib.bitLen x.toNat ≤ 64 := Lib.bitLen_le x.toNat 64 (by omega) (by omega)
  have HE : Hid ((64 - (Lib.bitLen x.toNat : Int)) = (nlz x : Nat)) := by unfold nlz; show _ = _; omega
  go_enter Try.func36, Try.ntmps36
  go_wp2_with (go_at_call 39; refine (len64 _ _ h0 h1).mono ?_; rintro e w' ⟨rfl, rfl⟩)
  go_ret
  exact ⟨by rw [HE.out]; rfl, rfl⟩

theorem bitLen_lo (x : Nat) (h : x < 2 ^ 64) (h0 : x ≠ 0) : ∀ k, 2 ^ k ≤ x → x < 2 ^ (k + 1) → Lib.bitLen x = k + 1 := by
  intro k hk hk1
  have e : x / 2 ^ k = 1 := by
    have := (Nat.div_lt_iff_lt_mul (Nat.two_pow_pos k)).2 (show x < 2 * 2 ^ k by rw [Nat.pow_succ] at hk1; omega)
    have := (Nat.le_div_iff_mul_le (Nat.two_pow_pos k)).2 (show 1 * 2 ^ k ≤ x by omega)
    omega
  rw [Lib.bitLen_shift k x hk h, e]
  rfl

/-- The number, moved up by its leading zeros, has its highest bit. -/
theorem nlz_spec (y : Int) (h0 : 0 < y) (h1 : y ≤ 18446744073709551615) : nlz y ≤ 63 ∧ 9223372036854775808 ≤ y * 2 ^ nlz y ∧ y * 2 ^ nlz y ≤ 18446744073709551615 := by
  obtain ⟨n, rfl⟩ := Int.eq_ofNat_of_zero_le (show 0 ≤ y by omega)
  have hn : n ≠ 0 := by omega
  have a1 := Nat.log2_self_le hn
  have a2 : n < 2 ^ (n.log2 + 1) := Nat.lt_log2_self
  have a3 := (Nat.log2_lt hn).2 (show n < 2 ^ 64 by omega)
  have e := bitLen_lo n (by omega) hn n.log2 a1 a2
  have hz : nlz (n : Int) = 63 - n.log2 := by unfold nlz; rw [Int.toNat_natCast, e]; omega
  rw [hz]
  have p1 : 2 ^ n.log2 * 2 ^ (63 - n.log2) = 2 ^ 63 := by rw [← Nat.pow_add]; congr 1; omega
  have p2 : 2 ^ (n.log2 + 1) * 2 ^ (63 - n.log2) = 2 ^ 64 := by rw [← Nat.pow_add]; congr 1; omega
  have b1 : 2 ^ n.log2 * 2 ^ (63 - n.log2) ≤ n * 2 ^ (63 - n.log2) := Nat.mul_le_mul_right _ a1
  have b2 : n * 2 ^ (63 - n.log2) < 2 ^ (n.log2 + 1) * 2 ^ (63 - n.log2) := Nat.mul_lt_mul_of_pos_right a2 (Nat.two_pow_pos _)
  rw [p1] at b1
  rw [p2] at b2
  have ec : ((n : Int) * 2 ^ (63 - n.log2)) = ((n * 2 ^ (63 - n.log2) : Nat) : Int) := by
    rw [Int.natCast_mul, Int.natCast_pow]; rfl
  rw [ec]
  refine ⟨by omega, ?_, ?_⟩
  · have : (2 : Nat) ^ 63 = 9223372036854775808 := by decide
    omega
  · have : (2 : Nat) ^ 64 = 18446744073709551616 := by decide
    omega
end Go.Proofs.Ytnihgcmlpgfaeaa.Num
