/-
  Numbers that find room: the walks of num.Add, num.Mul, num.Of, and of the document's own Mul.
-/
import Derived.Test.YtnjkikdcalfjgaaDoorMem
import Derived.Test.YtnjkikdcalfjgaaDoorMath
import Derived.Laws.BitsAllLaws
import Derived.Laws.Bits64b
namespace Go.Proofs.YtnjkikdcalfjgaaDoor.Num
open Go.RowKit
open Mem
set_option linter.unusedVariables false

theorem ret2 {k1 k2 : IntKind} {a b c d : Int} (h : a = c) (h' : b = d) : Ending.returned (.tuple #[.int k1 a, .int k2 b]) = .returned (.tuple #[.int k1 c, .int k2 d]) := by rw [h, h']
/-! ### What they answer -/
def addV (a b : Int) : Int := if a + b ≤ 18446744073709551615 then a + b else 0
def addE (a b : Int) : Int := if a + b ≤ 18446744073709551615 then 0 else 2
def subV (a b : Int) : Int := if b ≤ a then a - b else 0
def subE (a b : Int) : Int := if b ≤ a then 0 else 2
def mulV (a b : Int) : Int := if a * b ≤ 18446744073709551615 then a * b else 0
def mulE (a b : Int) : Int := if a * b ≤ 18446744073709551615 then 0 else 2
def mdV (a b c : Int) : Int := if c = 0 then 0 else if a * b / c ≤ 18446744073709551615 then a * b / c else 0
def mdE (a b c : Int) : Int := if c = 0 then 1 else if a * b / c ≤ 18446744073709551615 then 0 else 2
def remV (a b c : Int) : Int := if c = 0 then 0 else a * b % c
def remE (a b c : Int) : Int := if c = 0 then 1 else 0
def intV (n : Int) : Int := if n ≤ 9223372036854775807 then n else 0
def intE (n : Int) : Int := if n ≤ 9223372036854775807 then 0 else 2
def ofV (n : Int) : Int := if 0 ≤ n then n else 0
def ofE (n : Int) : Int := if 0 ≤ n then 0 else 2

theorem addV_bd (a b : Int) (ha : 0 ≤ a) (hb : 0 ≤ b) : 0 ≤ addV a b ∧ addV a b ≤ 18446744073709551615 := by unfold addV; split <;> omega
theorem subV_bd (a b : Int) (ha' : a ≤ 18446744073709551615) (hb : 0 ≤ b) : 0 ≤ subV a b ∧ subV a b ≤ 18446744073709551615 := by unfold subV; split <;> omega
theorem mulV_bd (a b : Int) (ha : 0 ≤ a) (hb : 0 ≤ b) : 0 ≤ mulV a b ∧ mulV a b ≤ 18446744073709551615 := by
  have := Int.mul_nonneg ha hb
  unfold mulV; split <;> omega
theorem mdV_bd (a b c : Int) (ha : 0 ≤ a) (hb : 0 ≤ b) (hc : 0 ≤ c) : 0 ≤ mdV a b c ∧ mdV a b c ≤ 18446744073709551615 := by
  have := Int.ediv_nonneg (Int.mul_nonneg ha hb) hc
  unfold mdV; split
  · omega
  · split <;> omega

theorem product_any (a b : Int) (w : World) (ha : 0 ≤ a) (ha' : a ≤ 18446744073709551615) (hb : 0 ≤ b) (hb' : b ≤ 18446744073709551615) :
    Calls Tryd.prog 37 #[.int .u64 a, .int .u64 b] w fun e w' => e = .returned (.tuple #[.int .u64 (M.pHi a b), .int .u64 (M.pLo a b)]) ∧ w = w' := by
  have HE := Lib.hid (M.product_eq a b ha ha' hb hb')
  go_enter Tryd.func37, Tryd.ntmps37
  go_wp2
  go_ret2
  exact ⟨ret2 HE.out.1 HE.out.2, rfl⟩

theorem add_any (a b : Int) (w : World) (ha : 0 ≤ a) (ha' : a ≤ 18446744073709551615) (hb : 0 ≤ b) (hb' : b ≤ 18446744073709551615) :
    Calls Tryd.prog 22 #[.int .u64 a, .int .u64 b] w fun e w' => e = .returned (.tuple #[.int .u64 (addV a b), .int .i64 (addE a b)]) ∧ w = w' := by
  unfold addV addE
  by_cases h : a + b ≤ 18446744073709551615
  · rw [if_pos h, if_pos h]
    go_enter Tryd.func22, Tryd.ntmps22
    go_wp2
    go_ret2
    exact ⟨rfl, rfl⟩
  · rw [if_neg h, if_neg h]
    go_enter Tryd.func22, Tryd.ntmps22
    go_wp2
    go_ret2
    exact ⟨rfl, rfl⟩

theorem mul_any (a b : Int) (w : World) (ha : 0 ≤ a) (ha' : a ≤ 18446744073709551615) (hb : 0 ≤ b) (hb' : b ≤ 18446744073709551615) :
    Calls Tryd.prog 29 #[.int .u64 a, .int .u64 b] w fun e w' => e = .returned (.tuple #[.int .u64 (mulV a b), .int .i64 (mulE a b)]) ∧ w = w' := by
  have s := M.p_split a b
  have l := M.pLo_bd a b
  have g := M.pHi_bd a b ha ha' hb hb'
  unfold mulV mulE
  by_cases h : a * b ≤ 18446744073709551615
  · rw [if_pos h, if_pos h]
    have t : (M.pHi a b != 0) = false := by simp; omega
    have HE : Hid (M.pLo a b = a * b) := by show _ = _; omega
    clear s l g h
    go_enter Tryd.func29, Tryd.ntmps29
    go_wp2_with (go_at_call 37; refine (product_any _ _ _ ha ha' hb hb').mono ?_; rintro e w' ⟨rfl, rfl⟩)
    go_ret2
    exact ⟨ret2 HE.out rfl, rfl⟩
  · rw [if_neg h, if_neg h]
    have t : (M.pHi a b != 0) = true := by simp; omega
    clear s l g h
    go_enter Tryd.func29, Tryd.ntmps29
    go_wp2_with (go_at_call 37; refine (product_any _ _ _ ha ha' hb hb').mono ?_; rintro e w' ⟨rfl, rfl⟩)
    go_ret2
    exact ⟨rfl, rfl⟩

theorem of_any (n : Int) (w : World) (h0 : -9223372036854775808 ≤ n) (h1 : n ≤ 9223372036854775807) :
    Calls Tryd.prog 28 #[.int .i64 n] w fun e w' => e = .returned (.tuple #[.int .u64 (ofV n), .int .i64 (ofE n)]) ∧ w = w' := by
  unfold ofV ofE
  by_cases h : 0 ≤ n
  · rw [if_pos h, if_pos h]
    go_enter Tryd.func28, Tryd.ntmps28
    go_wp2
    go_ret2
    exact ⟨rfl, rfl⟩
  · rw [if_neg h, if_neg h]
    go_enter Tryd.func28, Tryd.ntmps28
    go_wp2
    go_ret2
    exact ⟨rfl, rfl⟩
theorem top_any (w : World) : Calls Tryd.prog 38 #[] w fun e w' => e = .returned (.int .u64 18446744073709551615) ∧ w' = w := by
  go_enter Tryd.func38, Tryd.ntmps38
  go_wp2
  go_ret
  exact ⟨rfl, rfl⟩

theorem rmul_any (a b : Int) (w : World) (ha : 0 ≤ a) (ha' : a ≤ 18446744073709551615) (hb : 0 ≤ b) (hb' : b ≤ 18446744073709551615) :
    Calls Tryd.prog 30 #[.int .u64 a, .int .u64 b] w fun e w' => e = .returned (.tuple #[.int .u64 (mulV a b), .int .i64 (mulE a b)]) ∧ w = w' := by
  unfold mulV mulE
  have tp := top_any
  by_cases hz : a = 0
  · subst hz
    rw [Int.zero_mul, if_pos (by omega), if_pos (by omega)]
    clear tp
    go_enter Tryd.func30, Tryd.ntmps30
    go_wp2
    go_ret2
    exact ⟨ret2 (by simp) rfl, rfl⟩
  · have ha0 : 0 < a := by omega
    have hi : b ≤ 18446744073709551615 / a ↔ b * a ≤ 18446744073709551615 := Int.le_ediv_iff_mul_le ha0
    rw [Int.mul_comm b a] at hi
    have q0 : 0 ≤ 18446744073709551615 / a := Int.ediv_nonneg (by omega) ha
    have q1 : 18446744073709551615 / a ≤ 18446744073709551615 := Int.ediv_le_self _ (by omega)
    have m0 := Int.mul_nonneg ha hb
    clear tp hz
    by_cases h : a * b ≤ 18446744073709551615
    · rw [if_pos h, if_pos h]
      have td : decide (18446744073709551615 / a < b) = false := by simp; omega
      have wm : IntKind.u64.wrap (a * b) = a * b := by rw [IntKind.wrap_u64]; omega
      clear hi
      go_enter Tryd.func30, Tryd.ntmps30
      go_wp2
      go_ret2
      exact ⟨rfl, rfl⟩
    · rw [if_neg h, if_neg h]
      have td : decide (18446744073709551615 / a < b) = true := by simp; omega
      have td' : 18446744073709551615 / a < b := by omega
      clear hi h
      go_enter Tryd.func30, Tryd.ntmps30
      go_wp2
      go_ret2
      exact ⟨rfl, rfl⟩

end Go.Proofs.YtnjkikdcalfjgaaDoor.Num
