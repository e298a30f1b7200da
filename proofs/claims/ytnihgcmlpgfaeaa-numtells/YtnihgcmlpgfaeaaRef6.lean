/-
  The document's answer for layer 1: the walks of its MulDiv and Rem.
-/
import Derived.Test.YtnihgcmlpgfaeaaRef5
namespace Go.Proofs.Ytnihgcmlpgfaeaa.Num
open Go.RowKit
set_option linter.unusedVariables false

set_option maxHeartbeats 1000000 in
theorem rmuldiv_q {W : World} (a b c : Int) (w : World) (q : Q W w) (ha : 0 ≤ a) (ha' : a ≤ 18446744073709551615) (hb : 0 ≤ b) (hb' : b ≤ 18446744073709551615) (hc : 0 ≤ c) (hc' : c ≤ 18446744073709551615) :
    Calls Try.prog 18 #[.int .u64 a, .int .u64 b, .int .u64 c] w fun e w' => e = .returned (.tuple #[.int .u64 (mdV a b c), .int .i64 (mdE a b c)]) ∧ Q W w' := by
  unfold mdV mdE
  by_cases hz : c = 0
  · rw [if_pos hz, if_pos hz]
    subst hz
    go_enter Try.func18, Try.ntmps18
    go_wp2_with fail
    go_ret2
    exact ⟨rfl, q⟩
  · rw [if_neg hz, if_neg hz]
    have tz : (c == 0) = false := by simp; omega
    have hc0 : 0 < c := by omega
    clear hz
    by_cases h : a * b / c ≤ 18446744073709551615
    · rw [if_pos h, if_pos h]
      have td : decide (18446744073709551616 ≤ a * b / c) = false := by simp; omega
      generalize hP : a * b = P at *
      have HP := Lib.hid hP
      clear hP
      go_enter Try.func18, Try.ntmps18
      go_wp2_with fail
      refine (product_ref a b _ q ha ha' hb hb').mono ?_
      rintro e w1 ⟨o, ho, hv, g, cap, rfl, c1, c2, row, hg, hlt, hq⟩
      go_wp2_with fail
      refine (divide_any g cap o P c w1 c1 row ho (by rw [hv, HP.out]) hc0 hc').mono ?_
      rintro e w2 ⟨x, rfl, hx, rfl⟩
      have HX := Lib.hid (hx h)
      clear hx hv ho row
      go_wp2_with fail
      go_ret2
      exact ⟨ret2 HX.out rfl, hq⟩
    · rw [if_neg h, if_neg h]
      have td : decide (18446744073709551616 ≤ a * b / c) = true := by simp; omega
      generalize hP : a * b = P at *
      have HP := Lib.hid hP
      clear hP
      go_enter Try.func18, Try.ntmps18
      go_wp2_with fail
      refine (product_ref a b _ q ha ha' hb hb').mono ?_
      rintro e w1 ⟨o, ho, hv, g, cap, rfl, c1, c2, row, hg, hlt, hq⟩
      go_wp2_with fail
      refine (divide_any g cap o P c w1 c1 row ho (by rw [hv, HP.out]) hc0 hc').mono ?_
      rintro e w2 ⟨x, rfl, hx, rfl⟩
      clear hx hv ho row
      go_wp2_with fail
      go_ret2
      exact ⟨rfl, hq⟩

set_option maxHeartbeats 1000000 in
theorem rrem_q {W : World} (a b c : Int) (w : World) (q : Q W w) (ha : 0 ≤ a) (ha' : a ≤ 18446744073709551615) (hb : 0 ≤ b) (hb' : b ≤ 18446744073709551615) (hc : 0 ≤ c) (hc' : c ≤ 18446744073709551615) :
    Calls Try.prog 20 #[.int .u64 a, .int .u64 b, .int .u64 c] w fun e w' => e = .returned (.tuple #[.int .u64 (remV a b c), .int .i64 (remE a b c)]) ∧ Q W w' := by
  unfold remV remE
  by_cases hz : c = 0
  · rw [if_pos hz, if_pos hz]
    subst hz
    go_enter Try.func20, Try.ntmps20
    go_wp2_with fail
    go_ret2
    exact ⟨rfl, q⟩
  · rw [if_neg hz, if_neg hz]
    have tz : (c == 0) = false := by simp; omega
    have hc0 : 0 < c := by omega
    clear hz
    generalize hP : a * b = P at *
    have HP := Lib.hid hP
    clear hP
    go_enter Try.func20, Try.ntmps20
    go_wp2_with fail
    refine (product_ref a b _ q ha ha' hb hb').mono ?_
    rintro e w1 ⟨o, ho, hv, g, cap, rfl, c1, c2, row, hg, hlt, hq⟩
    go_wp2_with fail
    refine (divide_any g cap o P c w1 c1 row ho (by rw [hv, HP.out]) hc0 hc').mono ?_
    rintro e w2 ⟨x, rfl, hx, rfl⟩
    clear hx hv ho row
    go_wp2_with fail
    go_ret2
    exact ⟨rfl, hq⟩
end Go.Proofs.Ytnihgcmlpgfaeaa.Num
