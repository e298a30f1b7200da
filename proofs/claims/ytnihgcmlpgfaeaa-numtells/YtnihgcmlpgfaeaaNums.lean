/-
  What the calls of package num answer, as plain functions of numbers; their walks (numbers alone).
-/
import Derived.Test.YtnihgcmlpgfaeaaScal
namespace Go.Proofs.Ytnihgcmlpgfaeaa.Num
open Go.RowKit
set_option linter.unusedVariables false

/-! ### What they answer -/
def addV (a b : Int) : Int := if a + b ≤ 18446744073709551615 then a + b else 0
def addE (a b : Int) : Int := if a + b ≤ 18446744073709551615 then 0 else 2
def subV (a b : Int) : Int := if b ≤ a then a - b else 0
def subE (a b : Int) : Int := if b ≤ a then 0 else 2
def mulV (a b : Int) : Int := if a * b ≤ 18446744073709551615 then a * b else 0
def mulE (a b : Int) : Int := if a * b ≤ 18446744073709551615 then 0 else 2
def mdV (a b c : Int) : Int := if c = 0 then 0 else if a * b / c ≤ 18446744073709551615 then a * b / c else 0
def mdE (a b c : Int) : Int := if c = 0 then 1 else if a * b / c ≤ 18446744073709551615 then 0 else 2
def remV (a b c : Int) : Int := if c = 0 then 0 else a * b % c
def remE (a b c : Int) : Int := if c = 0 then 1 else 0
def intV (n : Int) : Int := if n ≤ 9223372036854775807 then n else 0
def intE (n : Int) : Int := if n ≤ 9223372036854775807 then 0 else 2
def ofV (n : Int) : Int := if 0 ≤ n then n else 0
def ofE (n : Int) : Int := if 0 ≤ n then 0 else 2

theorem addV_bd (a b : Int) (ha : 0 ≤ a) (hb : 0 ≤ b) : 0 ≤ addV a b ∧ addV a b ≤ 18446744073709551615 := by unfold addV; split <;> omega
theorem subV_bd (a b : Int) (ha' : a ≤ 18446744073709551615) (hb : 0 ≤ b) : 0 ≤ subV a b ∧ subV a b ≤ 18446744073709551615 := by unfold subV; split <;> omega
theorem mulV_bd (a b : Int) (ha : 0 ≤ a) (hb : 0 ≤ b) : 0 ≤ mulV a b ∧ mulV a b ≤ 18446744073709551615 := by
  have := Int.mul_nonneg ha hb
  unfold mulV; split <;> omega
theorem mdV_bd (a b c : Int) (ha : 0 ≤ a) (hb : 0 ≤ b) (hc : 0 ≤ c) : 0 ≤ mdV a b c ∧ mdV a b c ≤ 18446744073709551615 := by
  have := Int.ediv_nonneg (Int.mul_nonneg ha hb) hc
  unfold mdV; split
  · omega
  · split <;> omega

/-! ### The walks -/
theorem product_any (a b : Int) (w : World) (ha : 0 ≤ a) (ha' : a ≤ 18446744073709551615) (hb : 0 ≤ b) (hb' : b ≤ 18446744073709551615) :
    Calls Try.prog 31 #[.int .u64 a, .int .u64 b] w fun e w' => e = .returned (.tuple #[.int .u64 (M.pHi a b), .int .u64 (M.pLo a b)]) ∧ w = w' := by
  have HE := Lib.hid (M.product_eq a b ha ha' hb hb')
  go_enter Try.func31, Try.ntmps31
  go_wp2
  go_ret2
  exact ⟨ret2 HE.out.1 HE.out.2, rfl⟩

theorem add_any (a b : Int) (w : World) (ha : 0 ≤ a) (ha' : a ≤ 18446744073709551615) (hb : 0 ≤ b) (hb' : b ≤ 18446744073709551615) :
    Calls Try.prog 11 #[.int .u64 a, .int .u64 b] w fun e w' => e = .returned (.tuple #[.int .u64 (addV a b), .int .i64 (addE a b)]) ∧ w = w' := by
  unfold addV addE
  by_cases h : a + b ≤ 18446744073709551615
  · rw [if_pos h, if_pos h]
    go_enter Try.func11, Try.ntmps11
    go_wp2
    go_ret2
    exact ⟨rfl, rfl⟩
  · rw [if_neg h, if_neg h]
    go_enter Try.func11, Try.ntmps11
    go_wp2
    go_ret2
    exact ⟨rfl, rfl⟩

theorem sub_any (a b : Int) (w : World) (ha : 0 ≤ a) (ha' : a ≤ 18446744073709551615) (hb : 0 ≤ b) (hb' : b ≤ 18446744073709551615) :
    Calls Try.prog 13 #[.int .u64 a, .int .u64 b] w fun e w' => e = .returned (.tuple #[.int .u64 (subV a b), .int .i64 (subE a b)]) ∧ w = w' := by
  unfold subV subE
  by_cases h : b ≤ a
  · rw [if_pos h, if_pos h]
    go_enter Try.func13, Try.ntmps13
    go_wp2
    go_ret2
    exact ⟨rfl, rfl⟩
  · rw [if_neg h, if_neg h]
    go_enter Try.func13, Try.ntmps13
    go_wp2
    go_ret2
    exact ⟨rfl, rfl⟩

theorem mul_any (a b : Int) (w : World) (ha : 0 ≤ a) (ha' : a ≤ 18446744073709551615) (hb : 0 ≤ b) (hb' : b ≤ 18446744073709551615) :
    Calls Try.prog 15 #[.int .u64 a, .int .u64 b] w fun e w' => e = .returned (.tuple #[.int .u64 (mulV a b), .int .i64 (mulE a b)]) ∧ w = w' := by
  have s := M.p_split a b
  have l := M.pLo_bd a b
  have g := M.pHi_bd a b ha ha' hb hb'
  unfold mulV mulE
  by_cases h : a * b ≤ 18446744073709551615
  · rw [if_pos h, if_pos h]
    have t : (M.pHi a b != 0) = false := by simp; omega
    have HE : Hid (M.pLo a b = a * b) := by show _ = _; omega
    clear s l g h
    go_enter Try.func15, Try.ntmps15
    go_wp2_with (go_at_call 31; refine (product_any _ _ _ ha ha' hb hb').mono ?_; rintro e w' ⟨rfl, rfl⟩)
    go_ret2
    exact ⟨ret2 HE.out rfl, rfl⟩
  · rw [if_neg h, if_neg h]
    have t : (M.pHi a b != 0) = true := by simp; omega
    clear s l g h
    go_enter Try.func15, Try.ntmps15
    go_wp2_with (go_at_call 31; refine (product_any _ _ _ ha ha' hb hb').mono ?_; rintro e w' ⟨rfl, rfl⟩)
    go_ret2
    exact ⟨rfl, rfl⟩

theorem hi_iff (a b c : Int) (hc : 0 < c) (ha : 0 ≤ a) (hb : 0 ≤ b) : a * b / c ≤ 18446744073709551615 ↔ M.pHi a b < c := by
  have h1 : 18446744073709551616 ≤ a * b / c ↔ 18446744073709551616 * c ≤ a * b := Int.le_ediv_iff_mul_le hc
  have h2 : c ≤ M.pHi a b ↔ c * 18446744073709551616 ≤ a * b := Int.le_ediv_iff_mul_le (by omega)
  omega

theorem muldiv_any (a b c : Int) (w : World) (ha : 0 ≤ a) (ha' : a ≤ 18446744073709551615) (hb : 0 ≤ b) (hb' : b ≤ 18446744073709551615) (hc : 0 ≤ c) (hc' : c ≤ 18446744073709551615) :
    Calls Try.prog 17 #[.int .u64 a, .int .u64 b, .int .u64 c] w fun e w' => e = .returned (.tuple #[.int .u64 (mdV a b c), .int .i64 (mdE a b c)]) ∧ Drawn w w' := by
  have g := M.pHi_bd a b ha ha' hb hb'
  have l := M.pLo_bd a b
  have s := M.p_split a b
  unfold mdV mdE
  by_cases hz : c = 0
  · rw [if_pos hz, if_pos hz]
    subst hz
    clear s g l
    go_enter Try.func17, Try.ntmps17
    go_wp2_with fail
    go_ret2
    exact ⟨rfl, 0, rfl⟩
  · rw [if_neg hz, if_neg hz]
    have hi := hi_iff a b c (by omega) ha hb
    have tz : (c == 0) = false := by simp; omega
    by_cases h : a * b / c ≤ 18446744073709551615
    · rw [if_pos h, if_pos h]
      have h' := hi.1 h
      have t : decide (c ≤ M.pHi a b) = false := by simp; omega
      have HE : Hid ((M.pHi a b * 18446744073709551616 + M.pLo a b) / c = a * b / c) := by show _ = _; rw [s]
      clear s h hi hz
      obtain ⟨g0, g1⟩ := g
      obtain ⟨l0, l1⟩ := l
      go_enter Try.func17, Try.ntmps17
      go_wp2_with (first | (go_at_call 31; refine (product_any _ _ _ ha ha' hb hb').mono ?_; rintro e w' ⟨rfl, rfl⟩) | (go_at_call 32; refine (div64 _ _ _ _ g0 h' hc' l0 l1).mono ?_; rintro e w' ⟨rfl, n, rfl⟩))
      go_ret2
      exact ⟨ret2 HE.out rfl, n, rfl⟩
    · rw [if_neg h, if_neg h]
      have h' : c ≤ M.pHi a b := by omega
      clear s h hi hz g l
      go_enter Try.func17, Try.ntmps17
      go_wp2_with (first | (go_at_call 31; refine (product_any _ _ _ ha ha' hb hb').mono ?_; rintro e w' ⟨rfl, rfl⟩))
      go_ret2
      exact ⟨rfl, 0, rfl⟩

theorem rem_any (a b c : Int) (w : World) (ha : 0 ≤ a) (ha' : a ≤ 18446744073709551615) (hb : 0 ≤ b) (hb' : b ≤ 18446744073709551615) (hc : 0 ≤ c) (hc' : c ≤ 18446744073709551615) :
    Calls Try.prog 19 #[.int .u64 a, .int .u64 b, .int .u64 c] w fun e w' => e = .returned (.tuple #[.int .u64 (remV a b c), .int .i64 (remE a b c)]) ∧ Drawn w w' := by
  have g := M.pHi_bd a b ha ha' hb hb'
  have l := M.pLo_bd a b
  have s := M.p_split a b
  unfold remV remE
  by_cases hz : c = 0
  · rw [if_pos hz, if_pos hz]
    subst hz
    clear s g l
    go_enter Try.func19, Try.ntmps19
    go_wp2_with fail
    go_ret2
    exact ⟨rfl, 0, rfl⟩
  · rw [if_neg hz, if_neg hz]
    have tz : (c == 0) = false := by simp; omega
    have HE : Hid ((M.pHi a b * 18446744073709551616 + M.pLo a b) % c = a * b % c) := by show _ = _; rw [s]
    have hc0 : 0 < c := by omega
    clear s hz
    obtain ⟨g0, g1⟩ := g
    obtain ⟨l0, l1⟩ := l
    go_enter Try.func19, Try.ntmps19
    go_wp2_with (first | (go_at_call 31; refine (product_any _ _ _ ha ha' hb hb').mono ?_; rintro e w' ⟨rfl, rfl⟩) | (go_at_call 35; refine (rem64 _ _ _ _ g0 (by omega) hc0 hc' l0 l1).mono ?_; rintro e w' ⟨rfl, n, rfl⟩))
    go_ret2
    exact ⟨ret2 HE.out rfl, n, rfl⟩

theorem int_any (n : Int) (w : World) (h0 : 0 ≤ n) (h1 : n ≤ 18446744073709551615) :
    Calls Try.prog 27 #[.int .u64 n] w fun e w' => e = .returned (.tuple #[.int .i64 (intV n), .int .i64 (intE n)]) ∧ w = w' := by
  unfold intV intE
  by_cases h : n ≤ 9223372036854775807
  · rw [if_pos h, if_pos h]
    go_enter Try.func27, Try.ntmps27
    go_wp2
    go_ret2
    exact ⟨rfl, rfl⟩
  · rw [if_neg h, if_neg h]
    go_enter Try.func27, Try.ntmps27
    go_wp2
    go_ret2
    exact ⟨rfl, rfl⟩

theorem of_any (n : Int) (w : World) (h0 : -9223372036854775808 ≤ n) (h1 : n ≤ 9223372036854775807) :
    Calls Try.prog 26 #[.int .i64 n] w fun e w' => e = .returned (.tuple #[.int .u64 (ofV n), .int .i64 (ofE n)]) ∧ w = w' := by
  unfold ofV ofE
  by_cases h : 0 ≤ n
  · rw [if_pos h, if_pos h]
    go_enter Try.func26, Try.ntmps26
    go_wp2
    go_ret2
    exact ⟨rfl, rfl⟩
  · rw [if_neg h, if_neg h]
    go_enter Try.func26, Try.ntmps26
    go_wp2
    go_ret2
    exact ⟨rfl, rfl⟩
end Go.Proofs.Ytnihgcmlpgfaeaa.Num
