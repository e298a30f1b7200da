/-
  The calls whose answers the document fixes: the walk of 'fixed'.
-/
import Derived.Test.YtnihgcmlpgfaeaaSum
namespace Go.Proofs.Ytnihgcmlpgfaeaa.Num
open Go.RowKit
set_option linter.unusedVariables false

theorem f1 : mdV 9223372036854775808 6 4 = 13835058055282163712 := by decide +kernel
theorem f2 : mdE 9223372036854775808 6 4 = 0 := by decide +kernel
theorem f3 : addE 18446744073709551615 1 = 2 := by decide +kernel
theorem f4 : mdE 1 1 0 = 1 := by decide +kernel
theorem f5 : remV 9223372036854775808 7 10 = 6 := by decide +kernel
theorem f6 : remE 9223372036854775808 7 10 = 0 := by decide +kernel
theorem f7 : mulE 4294967296 4294967296 = 2 := by decide +kernel
theorem f8 : subE 1 2 = 2 := by decide +kernel
theorem f9 : intE 9223372036854775808 = 2 := by decide +kernel
theorem f10 : ofE (-1) = 2 := by decide +kernel
theorem f11 : getV ⟨#[0, 0, 0, 0, 0, 0, 1, 2, 122]⟩ = 258 := by decide +kernel
theorem f12 : getE ⟨#[0, 0, 0, 0, 0, 0, 1, 2, 122]⟩ = 0 := by decide +kernel
theorem f13 : getE ⟨#[49, 50, 51, 52, 53, 54, 55]⟩ = 3 := by decide +kernel
def three (i : Nat) : Int := if i = 0 then 1 else if i = 1 then 2 else 3
theorem f14 : sumV three 3 = 6 := by decide +kernel
theorem f15 : sumE three 3 = 0 := by decide +kernel
theorem three_bd (i : Nat) : 0 ≤ three i ∧ three i ≤ 18446744073709551615 := by unfold three; split; omega; split <;> omega
theorem f16 : ((putS 258).toList == [0, 0, 0, 0, 0, 0, 1, 2]) = true := by decide +kernel

theorem three_row (W : World) (b : Nat) (hb : b = W.heap.size) : Row (W.alloc (.cells #[.int .u64 1, .int .u64 2, .int .u64 3] 22)) b 0 3 three := by
  subst hb
  intro i hi
  match i, hi with
  | 0, _ => simp [three]
  | 1, _ => simp [three]
  | 2, _ => simp [three]
  | n + 3, h => omega

set_option maxHeartbeats 2000000 in
set_option maxRecDepth 100000 in
theorem fixed_any (w : World) :
    Calls Try.prog 21 #[] w fun e w' => e = .returned (.bool true) ∧ Below w.heap.size w w' := by
  have f1 := f1; have f2 := f2; have f3 := f3; have f4 := f4; have f5 := f5; have f6 := f6; have f7 := f7; have f8 := f8
  have f9 := f9; have f10 := f10; have f11 := f11; have f12 := f12; have f13 := f13; have f14 := f14; have f15 := f15; have f16 := f16
  go_enter Try.func21, Try.ntmps21
  go_wp2_with (first
    | (go_at_call 17; refine (muldiv_any _ _ _ _ (by omega) (by omega) (by omega) (by omega) (by omega) (by omega)).mono ?_; rintro e w' ⟨rfl, n, rfl⟩)
    | (go_at_call 19; refine (rem_any _ _ _ _ (by omega) (by omega) (by omega) (by omega) (by omega) (by omega)).mono ?_; rintro e w' ⟨rfl, n, rfl⟩)
    | (go_at_call 11; refine (add_any _ _ _ (by omega) (by omega) (by omega) (by omega)).mono ?_; rintro e w' ⟨rfl, rfl⟩)
    | (go_at_call 13; refine (sub_any _ _ _ (by omega) (by omega) (by omega) (by omega)).mono ?_; rintro e w' ⟨rfl, rfl⟩)
    | (go_at_call 15; refine (mul_any _ _ _ (by omega) (by omega) (by omega) (by omega)).mono ?_; rintro e w' ⟨rfl, rfl⟩)
    | (go_at_call 27; refine (int_any _ _ (by omega) (by omega)).mono ?_; rintro e w' ⟨rfl, rfl⟩)
    | (go_at_call 26; refine (of_any _ _ (by omega) (by omega)).mono ?_; rintro e w' ⟨rfl, rfl⟩)
    | (go_at_call 24; refine (get_any _ _ (by decide +kernel)).mono ?_; rintro e w' ⟨rfl, rfl⟩))
  refine (sum_row _ 0 3 3 three _ (by decide +kernel) (three_row _ _ rfl) (fun i => (three_bd i).1) (fun i => (three_bd i).2)).mono ?_
  rintro e w' ⟨rfl, rfl⟩
  go_wp2_with (first
    | (go_at_call 28; refine (put_any _ _ (by omega) (by omega)).mono ?_; rintro e w' ⟨rfl, hb⟩))
  go_ret
  exact ⟨rfl, ((below_drewN (Below.refl _ w) _).alloc (by simp) _).trans (hb.mono (by simp))⟩
end Go.Proofs.Ytnihgcmlpgfaeaa.Num
