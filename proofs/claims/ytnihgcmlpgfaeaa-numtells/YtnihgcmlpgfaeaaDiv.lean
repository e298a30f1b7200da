/-
  The walk of bits.Div64: the quotient of two words by one, and what is left.
-/
import Derived.Test.YtnihgcmlpgfaeaaLeaf
import Derived.Test.YtnihgcmlpgfaeaaMath2
import Derived.WalkKit
import Derived.Outline
import Derived.Lib.Hide
namespace Go.Proofs.Ytnihgcmlpgfaeaa.Num
open Go.RowKit
set_option linter.unusedVariables false
set_option maxHeartbeats 2000000 in
theorem div64_core (hi lo y Y yn1 yn0 un32 un10 un1 un0 Q1 qh ph un21 Q0 qh2 ph2 rr : Int) (w : World)
    (h0 : 0 < hi) (h1 : hi < y) (h2 : y ≤ 18446744073709551615) (n1 : nlz y ≤ 63)
    (e1 : y * 2 ^ nlz y = Y) (e2 : Y / 4294967296 = yn1) (e3 : bits .and .u64 Y 4294967295 = yn0)
    (e4 : bits BinOp.or IntKind.u64 (IntKind.u64.wrap (hi * 2 ^ nlz y)) (lo / 2 ^ (64 - nlz y)) = un32) (e5 : IntKind.u64.wrap (lo * 2 ^ nlz y) = un10)
    (e6 : un10 / 4294967296 = un1) (e7 : bits .and .u64 un10 4294967295 = un0) 
    (b1 : 9223372036854775808 ≤ Y) (b1' : Y ≤ 18446744073709551615) (b2 : 2147483648 ≤ yn1) (b2' : yn1 ≤ 4294967295) (b3 : 0 ≤ yn0) (b3' : yn0 ≤ 4294967295)
    (b4 : 0 ≤ un32) (b4' : un32 < Y) (b5 : 0 ≤ un1) (b5' : un1 ≤ 4294967295) (b6 : 0 ≤ un0) (b6' : un0 ≤ 4294967295)
    (HY : Hid (Y = yn1 * 4294967296 + yn0))
    (G1 : Hid (M.Goes Y (un32 * 4294967296 + un1) Q1)) (c1 : 0 ≤ Q1) (c1' : Q1 < 4294967296)
    (e8 : un32 / yn1 = qh) (d1 : 0 ≤ qh) (d1' : qh ≤ 4294967297) (e9 : IntKind.u64.wrap (qh * yn1) = ph) (d2 : 0 ≤ ph) (d2' : ph ≤ un32) (d3 : un32 - ph < yn1) (I1 : Hid (M.DInv yn1 un32 Q1 qh (un32 - ph)))
    (e10 : IntKind.u64.wrap (IntKind.u64.wrap (IntKind.u64.wrap (un32 * 4294967296) + un1) - IntKind.u64.wrap (Q1 * Y)) = un21) (b7 : 0 ≤ un21) (b7' : un21 < Y)
    (G2 : Hid (M.Goes Y (un21 * 4294967296 + un0) Q0)) (c2 : 0 ≤ Q0) (c2' : Q0 < 4294967296)
    (e11 : un21 / yn1 = qh2) (d4 : 0 ≤ qh2) (d4' : qh2 ≤ 4294967297) (e12 : IntKind.u64.wrap (qh2 * yn1) = ph2) (d5 : 0 ≤ ph2) (d5' : ph2 ≤ un21) (d6 : un21 - ph2 < yn1) (I2 : Hid (M.DInv yn1 un21 Q0 qh2 (un21 - ph2)))
    (e13 : IntKind.u64.wrap (IntKind.u64.wrap (IntKind.u64.wrap (un21 * 4294967296) + un0) - IntKind.u64.wrap (Q0 * Y)) = rr) :
    Calls Try.prog 32 #[.int .u64 hi, .int .u64 lo, .int .u64 y] w fun e w' => e = .returned (.tuple #[.int .u64 (Q1 * 4294967296 + Q0), .int .u64 (rr / 2 ^ nlz y)]) ∧ w = w' := by
  have t1 : decide (y ≤ hi) = false := by simp; omega
  go_enter Try.func32, Try.ntmps32
  go_wp2_with (go_at_call 36; refine (lz64 _ _ (by omega) h2).mono ?_; rintro e w' ⟨rfl, rfl⟩)
  go_loop [15, 16] (fun a b => ∃ q r : Int, a = .int .u64 q ∧ b = .int .u64 r ∧ 0 ≤ q ∧ q ≤ 4294967297 ∧ 0 ≤ r ∧ r ≤ 4294967295 ∧ Hid (M.DInv yn1 un32 Q1 q r)) (fun a _ => (intOf a).toNat)
  case atStart => exact ⟨qh, un32 - ph, (by rw [← e8]), rfl, d1, d1', by omega, by omega, I1⟩
  case round =>
    obtain ⟨q, r, rfl, rfl, x1, x2, x3, x4, I⟩ := hrel
    by_cases hq : 4294967296 ≤ q
    · have J : Hid (M.DInv yn1 un32 Q1 (q - 1) (r + yn1)) := M.step_big I.out c1' hq
      by_cases hr : 4294967296 ≤ r + yn1
      · have hQ1 : q - 1 = Q1 := M.done_rest J.out G1.out HY.out (by omega) (by omega) (by omega) b3 (by omega) b5 hr
        go_wp2_with fail
        clear hQ1 e10 e8 e9 e2 e3 e4 e5 e6 e7 e1 I1
        go_loop [18, 16] (fun a b => ∃ q r : Int, a = .int .u64 q ∧ b = .int .u64 r ∧ 0 ≤ q ∧ q ≤ 4294967297 ∧ 0 ≤ r ∧ r ≤ 4294967295 ∧ Hid (M.DInv yn1 un21 Q0 q r)) (fun a _ => (intOf a).toNat)
        case atStart => exact ⟨qh2, un21 - ph2, (by rw [← e11]), rfl, d4, d4', by omega, by omega, I2⟩
        case round =>
          obtain ⟨q', r', rfl, rfl, z1, z2, z3, z4, I'⟩ := hrel
          by_cases hq' : 4294967296 ≤ q'
          · have J' : Hid (M.DInv yn1 un21 Q0 (q' - 1) (r' + yn1)) := M.step_big I'.out c2' hq'
            by_cases hr' : 4294967296 ≤ r' + yn1
            · have hQ0 : q' - 1 = Q0 := M.done_rest J'.out G2.out HY.out (by omega) (by omega) (by omega) b3 (by omega) b6 hr'
              go_wp2_with fail
              go_ret2
              exact ⟨rfl, rfl⟩
            · go_wp2_with fail
              go_round
              case rel => exact ⟨q' - 1, r' + yn1, rfl, rfl, by omega, by omega, by omega, by omega, J'⟩
              case measure => simp [intOf]; omega
          · obtain ⟨p', hp'⟩ : ∃ p', q' * yn0 = p' := ⟨_, rfl⟩
            have bp := M.prod_bound q' yn0 z1 (by omega) b3 (by omega)
            rw [hp'] at bp
            obtain ⟨bp0, bp1⟩ := bp
            by_cases ht : 4294967296 * r' + un0 < p'
            · have J' : Hid (M.DInv yn1 un21 Q0 (q' - 1) (r' + yn1)) := M.step_test I'.out G2.out HY.out (by omega) (by rw [hp']; exact ht)
              have hz5 : 1 ≤ q' := by have := J'.out.2; omega
              by_cases hr' : 4294967296 ≤ r' + yn1
              · have hQ0 : q' - 1 = Q0 := M.done_rest J'.out G2.out HY.out (by omega) (by omega) (by omega) b3 (by omega) b6 hr'
                go_wp2_with fail
                go_ret2
                exact ⟨rfl, rfl⟩
              · go_wp2_with fail
                go_round
                case rel => exact ⟨q' - 1, r' + yn1, rfl, rfl, by omega, by omega, by omega, by omega, J'⟩
                case measure => simp [intOf]; omega
            · obtain rfl : Q0 = q' := (M.done_test I'.out G2.out HY.out (by omega) (by rw [hp']; omega)).symm
              go_wp2_with fail
              go_ret2
              exact ⟨rfl, rfl⟩
      · go_wp2_with fail
        go_round
        case rel => exact ⟨q - 1, r + yn1, rfl, rfl, by omega, by omega, by omega, by omega, J⟩
        case measure => simp [intOf]; omega
    · obtain ⟨p, hp⟩ : ∃ p, q * yn0 = p := ⟨_, rfl⟩
      have bp := M.prod_bound q yn0 x1 (by omega) b3 (by omega)
      rw [hp] at bp
      obtain ⟨bp0, bp1⟩ := bp
      by_cases ht : 4294967296 * r + un1 < p
      · have J : Hid (M.DInv yn1 un32 Q1 (q - 1) (r + yn1)) := M.step_test I.out G1.out HY.out (by omega) (by rw [hp]; exact ht)
        have hz5 : 1 ≤ q := by have := J.out.2; omega
        by_cases hr : 4294967296 ≤ r + yn1
        · have hQ1 : q - 1 = Q1 := M.done_rest J.out G1.out HY.out (by omega) (by omega) (by omega) b3 (by omega) b5 hr
          go_wp2_with fail
          clear hQ1 e10 e8 e9 e2 e3 e4 e5 e6 e7 e1 I1
          go_loop [18, 16] (fun a b => ∃ q r : Int, a = .int .u64 q ∧ b = .int .u64 r ∧ 0 ≤ q ∧ q ≤ 4294967297 ∧ 0 ≤ r ∧ r ≤ 4294967295 ∧ Hid (M.DInv yn1 un21 Q0 q r)) (fun a _ => (intOf a).toNat)
          case atStart => exact ⟨qh2, un21 - ph2, (by rw [← e11]), rfl, d4, d4', by omega, by omega, I2⟩
          case round =>
            obtain ⟨q', r', rfl, rfl, z1, z2, z3, z4, I'⟩ := hrel
            by_cases hq' : 4294967296 ≤ q'
            · have J' : Hid (M.DInv yn1 un21 Q0 (q' - 1) (r' + yn1)) := M.step_big I'.out c2' hq'
              by_cases hr' : 4294967296 ≤ r' + yn1
              · have hQ0 : q' - 1 = Q0 := M.done_rest J'.out G2.out HY.out (by omega) (by omega) (by omega) b3 (by omega) b6 hr'
                go_wp2_with fail
                go_ret2
                exact ⟨rfl, rfl⟩
              · go_wp2_with fail
                go_round
                case rel => exact ⟨q' - 1, r' + yn1, rfl, rfl, by omega, by omega, by omega, by omega, J'⟩
                case measure => simp [intOf]; omega
            · obtain ⟨p', hp'⟩ : ∃ p', q' * yn0 = p' := ⟨_, rfl⟩
              have bp := M.prod_bound q' yn0 z1 (by omega) b3 (by omega)
              rw [hp'] at bp
              obtain ⟨bp0, bp1⟩ := bp
              by_cases ht : 4294967296 * r' + un0 < p'
              · have J' : Hid (M.DInv yn1 un21 Q0 (q' - 1) (r' + yn1)) := M.step_test I'.out G2.out HY.out (by omega) (by rw [hp']; exact ht)
                have hz5 : 1 ≤ q' := by have := J'.out.2; omega
                by_cases hr' : 4294967296 ≤ r' + yn1
                · have hQ0 : q' - 1 = Q0 := M.done_rest J'.out G2.out HY.out (by omega) (by omega) (by omega) b3 (by omega) b6 hr'
                  go_wp2_with fail
                  go_ret2
                  exact ⟨rfl, rfl⟩
                · go_wp2_with fail
                  go_round
                  case rel => exact ⟨q' - 1, r' + yn1, rfl, rfl, by omega, by omega, by omega, by omega, J'⟩
                  case measure => simp [intOf]; omega
              · obtain rfl : Q0 = q' := (M.done_test I'.out G2.out HY.out (by omega) (by rw [hp']; omega)).symm
                go_wp2_with fail
                go_ret2
                exact ⟨rfl, rfl⟩
        · go_wp2_with fail
          go_round
          case rel => exact ⟨q - 1, r + yn1, rfl, rfl, by omega, by omega, by omega, by omega, J⟩
          case measure => simp [intOf]; omega
      · obtain rfl : Q1 = q := (M.done_test I.out G1.out HY.out (by omega) (by rw [hp]; omega)).symm
        go_wp2_with fail
        clear e10 e8 e9 e2 e3 e4 e5 e6 e7 e1 I1
        go_loop [18, 16] (fun a b => ∃ q r : Int, a = .int .u64 q ∧ b = .int .u64 r ∧ 0 ≤ q ∧ q ≤ 4294967297 ∧ 0 ≤ r ∧ r ≤ 4294967295 ∧ Hid (M.DInv yn1 un21 Q0 q r)) (fun a _ => (intOf a).toNat)
        case atStart => exact ⟨qh2, un21 - ph2, (by rw [← e11]), rfl, d4, d4', by omega, by omega, I2⟩
        case round =>
          obtain ⟨q', r', rfl, rfl, z1, z2, z3, z4, I'⟩ := hrel
          by_cases hq' : 4294967296 ≤ q'
          · have J' : Hid (M.DInv yn1 un21 Q0 (q' - 1) (r' + yn1)) := M.step_big I'.out c2' hq'
            by_cases hr' : 4294967296 ≤ r' + yn1
            · have hQ0 : q' - 1 = Q0 := M.done_rest J'.out G2.out HY.out (by omega) (by omega) (by omega) b3 (by omega) b6 hr'
              go_wp2_with fail
              go_ret2
              exact ⟨rfl, rfl⟩
            · go_wp2_with fail
              go_round
              case rel => exact ⟨q' - 1, r' + yn1, rfl, rfl, by omega, by omega, by omega, by omega, J'⟩
              case measure => simp [intOf]; omega
          · obtain ⟨p', hp'⟩ : ∃ p', q' * yn0 = p' := ⟨_, rfl⟩
            have bp := M.prod_bound q' yn0 z1 (by omega) b3 (by omega)
            rw [hp'] at bp
            obtain ⟨bp0, bp1⟩ := bp
            by_cases ht : 4294967296 * r' + un0 < p'
            · have J' : Hid (M.DInv yn1 un21 Q0 (q' - 1) (r' + yn1)) := M.step_test I'.out G2.out HY.out (by omega) (by rw [hp']; exact ht)
              have hz5 : 1 ≤ q' := by have := J'.out.2; omega
              by_cases hr' : 4294967296 ≤ r' + yn1
              · have hQ0 : q' - 1 = Q0 := M.done_rest J'.out G2.out HY.out (by omega) (by omega) (by omega) b3 (by omega) b6 hr'
                go_wp2_with fail
                go_ret2
                exact ⟨rfl, rfl⟩
              · go_wp2_with fail
                go_round
                case rel => exact ⟨q' - 1, r' + yn1, rfl, rfl, by omega, by omega, by omega, by omega, J'⟩
                case measure => simp [intOf]; omega
            · obtain rfl : Q0 = q' := (M.done_test I'.out G2.out HY.out (by omega) (by rw [hp']; omega)).symm
              go_wp2_with fail
              go_ret2
              exact ⟨rfl, rfl⟩
end Go.Proofs.Ytnihgcmlpgfaeaa.Num
