/-
  The document's answer for layer 1: the walks of its Add, Sub, Mul, twice and digits.
-/
import Derived.Test.YtnihgcmlpgfaeaaRef1
import Derived.Test.YtnihgcmlpgfaeaaMath3
import Derived.OwnWalk
import Derived.Deep.DeepCutAuto
namespace Go.Proofs.Ytnihgcmlpgfaeaa.Num
open Go.RowKit
set_option linter.unusedVariables false

theorem radd_any (a b : Int) (w : World) (ha : 0 ≤ a) (ha' : a ≤ 18446744073709551615) (hb : 0 ≤ b) (hb' : b ≤ 18446744073709551615) :
    Calls Try.prog 12 #[.int .u64 a, .int .u64 b] w fun e w' => e = .returned (.tuple #[.int .u64 (addV a b), .int .i64 (addE a b)]) ∧ w = w' := by
  unfold addV addE
  by_cases h : a + b ≤ 18446744073709551615
  · rw [if_pos h, if_pos h]
    go_enter Try.func12, Try.ntmps12
    go_wp2
    go_ret2
    exact ⟨rfl, rfl⟩
  · rw [if_neg h, if_neg h]
    go_enter Try.func12, Try.ntmps12
    go_wp2
    go_ret2
    exact ⟨rfl, rfl⟩

theorem rsub_any (a b : Int) (w : World) (ha : 0 ≤ a) (ha' : a ≤ 18446744073709551615) (hb : 0 ≤ b) (hb' : b ≤ 18446744073709551615) :
    Calls Try.prog 14 #[.int .u64 a, .int .u64 b] w fun e w' => e = .returned (.tuple #[.int .u64 (subV a b), .int .i64 (subE a b)]) ∧ w = w' := by
  unfold subV subE
  by_cases h : b ≤ a
  · rw [if_pos h, if_pos h]
    go_enter Try.func14, Try.ntmps14
    go_wp2
    go_ret2
    exact ⟨rfl, rfl⟩
  · rw [if_neg h, if_neg h]
    go_enter Try.func14, Try.ntmps14
    go_wp2
    go_ret2
    exact ⟨rfl, rfl⟩

theorem rmul_any (a b : Int) (w : World) (ha : 0 ≤ a) (ha' : a ≤ 18446744073709551615) (hb : 0 ≤ b) (hb' : b ≤ 18446744073709551615) :
    Calls Try.prog 16 #[.int .u64 a, .int .u64 b] w fun e w' => e = .returned (.tuple #[.int .u64 (mulV a b), .int .i64 (mulE a b)]) ∧ w = w' := by
  unfold mulV mulE
  have tp := top_any
  by_cases hz : a = 0
  · subst hz
    rw [Int.zero_mul, if_pos (by omega), if_pos (by omega)]
    clear tp
    go_enter Try.func16, Try.ntmps16
    go_wp2
    go_ret2
    exact ⟨ret2 (by simp) rfl, rfl⟩
  · have ha0 : 0 < a := by omega
    have hi : b ≤ 18446744073709551615 / a ↔ b * a ≤ 18446744073709551615 := Int.le_ediv_iff_mul_le ha0
    rw [Int.mul_comm b a] at hi
    have q0 : 0 ≤ 18446744073709551615 / a := Int.ediv_nonneg (by omega) ha
    have q1 : 18446744073709551615 / a ≤ 18446744073709551615 := Int.ediv_le_self _ (by omega)
    have m0 := Int.mul_nonneg ha hb
    clear tp hz
    by_cases h : a * b ≤ 18446744073709551615
    · rw [if_pos h, if_pos h]
      have td : decide (18446744073709551615 / a < b) = false := by simp; omega
      have wm : IntKind.u64.wrap (a * b) = a * b := by rw [IntKind.wrap_u64]; omega
      clear hi
      go_enter Try.func16, Try.ntmps16
      go_wp2
      go_ret2
      exact ⟨rfl, rfl⟩
    · rw [if_neg h, if_neg h]
      have td : decide (18446744073709551615 / a < b) = true := by simp; omega
      have td' : 18446744073709551615 / a < b := by omega
      clear hi h
      go_enter Try.func16, Try.ntmps16
      go_wp2
      go_ret2
      exact ⟨rfl, rfl⟩

/-- twice: what is left of twice n and a bit, and whether c went. -/
theorem twice_any (n t c : Int) (w : World) (h0 : 0 ≤ n) (h1 : n < c) (h2 : c ≤ 18446744073709551615) (t0 : 0 ≤ t) (t1 : t ≤ 1) :
    Calls Try.prog 37 #[.int .u64 n, .int .u64 t, .int .u64 c] w fun e w' => e = .returned (.tuple #[.int .u64 ((2 * n + t) % c), .bool (decide (c ≤ 2 * n + t))]) ∧ w = w' := by
  by_cases h : c - n ≤ n
  · have e1 : (2 * n + t) % c = n - (c - n) + t := by
      have : 2 * n + t = (n - (c - n) + t) + 1 * c := by omega
      rw [this, Int.add_mul_emod_self_right, Int.emod_eq_of_lt (by omega) (by omega)]
    have e2 : decide (c ≤ 2 * n + t) = true := by simp; omega
    rw [e1, e2]
    clear e1 e2
    go_enter Try.func37, Try.ntmps37
    go_wp2
    go_returns
    exact ⟨rfl, rfl⟩
  · by_cases h' : n + n + t = c
    · have e1 : (2 * n + t) % c = 0 := by
        have : 2 * n + t = c := by omega
        rw [this, Int.emod_self]
      have e2 : decide (c ≤ 2 * n + t) = true := by simp; omega
      rw [e1, e2]
      have k1 : n + n + t ≤ c := by omega
      have k2 : c ≤ n + n + t := by omega
      clear e1 e2 h'
      go_enter Try.func37, Try.ntmps37
      go_wp2
      go_returns
      exact ⟨rfl, rfl⟩
    · have e1 : (2 * n + t) % c = n + n + t := by
        have : 2 * n + t = n + n + t := by omega
        rw [this, Int.emod_eq_of_lt (by omega) (by omega)]
      have e2 : decide (c ≤ 2 * n + t) = false := by simp; omega
      rw [e1, e2]
      have k1 : n + n + t < c := by omega
      clear e1 e2 h'
      go_enter Try.func37, Try.ntmps37
      go_wp2
      go_returns
      exact ⟨rfl, rfl⟩
end Go.Proofs.Ytnihgcmlpgfaeaa.Num
