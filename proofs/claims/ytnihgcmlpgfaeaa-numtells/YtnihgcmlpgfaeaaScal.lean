/-
  What the calls of package num answer, as plain functions of numbers; the walks of those that take and answer numbers alone.
-/
import Derived.Test.YtnihgcmlpgfaeaaDiv
import Derived.Deep.QuietTactic
import Derived.BigQuiet
namespace Go.Proofs.Ytnihgcmlpgfaeaa.Num
open Go.RowKit
set_option linter.unusedVariables false

theorem ret2 {k1 k2 : IntKind} {a b c d : Int} (h : a = c) (h' : b = d) : Ending.returned (.tuple #[.int k1 a, .int k2 b]) = .returned (.tuple #[.int k1 c, .int k2 d]) := by rw [h, h']

/-- The world is the same but for answers that were drawn. -/
def Drawn (w w' : World) : Prop := ∃ n, w' = w.drewN n
theorem Drawn.refl (w : World) : Drawn w w := ⟨0, rfl⟩

/-- bits.Div64: how often, and what is left. -/
theorem div64 (hi lo y : Int) (w : World) (h0 : 0 ≤ hi) (h1 : hi < y) (h2 : y ≤ 18446744073709551615) (h3 : 0 ≤ lo) (h4 : lo ≤ 18446744073709551615) :
    Calls Try.prog 32 #[.int .u64 hi, .int .u64 lo, .int .u64 y] w fun e w' => e = .returned (.tuple #[.int .u64 ((hi * 18446744073709551616 + lo) / y), .int .u64 ((hi * 18446744073709551616 + lo) % y)]) ∧ Drawn w w' := by
  by_cases hz : hi = 0
  · subst hz
    have e : (0 : Int) * 18446744073709551616 + lo = lo := by omega
    rw [e]
    have q1 : 0 ≤ lo / y := Int.ediv_nonneg h3 (by omega)
    have q2 : lo / y ≤ lo := Int.ediv_le_self _ h3
    clear e
    have t1 : decide (y ≤ 0) = false := by simp; omega
    go_enter Try.func32, Try.ntmps32
    go_wp2_with fail
    go_quiet (fail)
    go_wp2_with fail
    go_ret2
    exact ⟨rfl, _, rfl⟩
  · obtain ⟨n1, n2, n3⟩ := nlz_spec y (by omega) h2
    have hs0 : (0 : Int) < 2 ^ nlz y := Int.pow_pos (by decide)
    have m1 : hi * 2 ^ nlz y ≤ (y - 1) * 2 ^ nlz y := Int.mul_le_mul_of_nonneg_right (by omega) (by omega)
    rw [Int.sub_mul, Int.one_mul] at m1
    have m0 : 0 ≤ hi * 2 ^ nlz y := Int.mul_nonneg h0 (by omega)
    obtain ⟨o1, o2, o3, o4⟩ := M.or_up (nlz y) n1 hi lo m0 (by omega) h3 h4
    have a3 := M.and_mask (y * 2 ^ nlz y) (by omega) n3
    have wb : 0 ≤ IntKind.u64.wrap (lo * 2 ^ nlz y) ∧ IntKind.u64.wrap (lo * 2 ^ nlz y) ≤ 18446744073709551615 := by rw [IntKind.wrap_u64]; omega
    have a7 := M.and_mask (IntKind.u64.wrap (lo * 2 ^ nlz y)) wb.1 wb.2
    obtain ⟨Y, eY⟩ : ∃ Y, y * 2 ^ nlz y = Y := ⟨_, rfl⟩
    obtain ⟨yn1, e2⟩ : ∃ x, Y / 4294967296 = x := ⟨_, rfl⟩
    obtain ⟨yn0, e3⟩ : ∃ x, Y % 4294967296 = x := ⟨_, rfl⟩
    obtain ⟨un32, e4⟩ : ∃ x, hi * 2 ^ nlz y + lo / 2 ^ (64 - nlz y) = x := ⟨_, rfl⟩
    obtain ⟨un10, e5⟩ : ∃ x, IntKind.u64.wrap (lo * 2 ^ nlz y) = x := ⟨_, rfl⟩
    obtain ⟨un1, e6⟩ : ∃ x, un10 / 4294967296 = x := ⟨_, rfl⟩
    obtain ⟨un0, e7⟩ : ∃ x, un10 % 4294967296 = x := ⟨_, rfl⟩
    rw [eY] at n2 n3 a3 m1
    rw [e5] at o4 wb a7
    have k1 : un32 < Y := by omega
    have k0 : 0 ≤ un32 := by omega
    have g1 := M.goes_div Y (un32 * 4294967296 + un1) (by omega)
    obtain ⟨Q1, eQ1⟩ : ∃ x, (un32 * 4294967296 + un1) / Y = x := ⟨_, rfl⟩
    rw [eQ1] at g1
    have s1 := M.goes_small g1 (by omega) k1 (by omega) k0 (by omega)
    have hY : Y = yn1 * 4294967296 + yn0 := by omega
    obtain ⟨f1, f2, f3, f4, f5, f6⟩ := M.first_guess g1 hY (by omega) (by omega) (by omega) k1 (by omega) k0 (by omega)
    obtain ⟨l1, l2, l3⟩ := M.left_eq g1 (by omega) n3
    obtain ⟨un21, e10⟩ : ∃ x, un32 * 4294967296 + un1 - Q1 * Y = x := ⟨_, rfl⟩
    rw [e10] at l1 l2 l3
    have g2 := M.goes_div Y (un21 * 4294967296 + un0) (by omega)
    obtain ⟨Q0, eQ0⟩ : ∃ x, (un21 * 4294967296 + un0) / Y = x := ⟨_, rfl⟩
    rw [eQ0] at g2
    have s2 := M.goes_small g2 (by omega) l3 (by omega) l2 (by omega)
    obtain ⟨r1, r2, r3, r4, r5, r6⟩ := M.first_guess g2 hY (by omega) (by omega) (by omega) l3 (by omega) l2 (by omega)
    obtain ⟨j1, j2, j3⟩ := M.left_eq g2 (by omega) n3
    have w1 : IntKind.u64.wrap (un32 / yn1 * yn1) = un32 / yn1 * yn1 := by rw [IntKind.wrap_u64]; omega
    have w2 : IntKind.u64.wrap (un21 / yn1 * yn1) = un21 / yn1 * yn1 := by rw [IntKind.wrap_u64]; omega
    have fin : Q1 * 4294967296 + Q0 = (hi * 18446744073709551616 + lo) / y ∧ (un21 * 4294967296 + un0 - Q0 * Y) / 2 ^ nlz y = (hi * 18446744073709551616 + lo) % y := by
      refine M.div_final (hi * 18446744073709551616 + lo) y (2 ^ nlz y) (Q1 * 4294967296 + Q0) (un21 * 4294967296 + un0 - Q0 * Y) hs0 (by omega) ?_ j2 (by rw [eY]; exact j3)
      rw [eY, Int.add_mul, Int.add_mul]
      have c1 : hi * 18446744073709551616 * 2 ^ nlz y = hi * 2 ^ nlz y * 18446744073709551616 := by grind
      have c2 : Q1 * 4294967296 * Y = Q1 * Y * 4294967296 := by grind
      rw [c1, c2]
      omega
    have core := div64_core hi lo y Y yn1 yn0 un32 un10 un1 un0 Q1 (un32 / yn1) (un32 / yn1 * yn1) un21 Q0 (un21 / yn1) (un21 / yn1 * yn1) (un21 * 4294967296 + un0 - Q0 * Y) w
      (by omega) h1 h2 n1 eY e2 (by rw [a3, e3]) (by rw [o1, e4]) e5 e6 (by rw [a7, e7]) n2 n3 (by omega) (by omega) (by omega) (by omega) k0 k1 (by omega) (by omega) (by omega) (by omega)
      hY g1 s1.1 s1.2 rfl f2 f3 w1 f4 f5 f6 f1 l1 l2 l3 g2 s2.1 s2.2 rfl r2 r3 w2 r4 r5 r6 r1 j1
    refine core.mono ?_
    rintro e w' ⟨rfl, rfl⟩
    exact ⟨ret2 fin.1 fin.2, Drawn.refl _⟩

theorem emod_bd (a y : Int) (h : 0 < y) : 0 ≤ a % y ∧ a % y < y := ⟨Int.emod_nonneg a (by omega), Int.emod_lt_of_pos a h⟩

/-- bits.Rem64: what is left. -/
theorem rem64 (hi lo y : Int) (w : World) (h0 : 0 ≤ hi) (h0' : hi ≤ 18446744073709551615) (h1 : 0 < y) (h2 : y ≤ 18446744073709551615) (h3 : 0 ≤ lo) (h4 : lo ≤ 18446744073709551615) :
    Calls Try.prog 35 #[.int .u64 hi, .int .u64 lo, .int .u64 y] w fun e w' => e = .returned (.int .u64 ((hi * 18446744073709551616 + lo) % y)) ∧ Drawn w w' := by
  have b := emod_bd hi y h1
  obtain ⟨b1, b2⟩ := b
  have HE : Hid ((hi % y * 18446744073709551616 + lo) % y = (hi * 18446744073709551616 + lo) % y) := by
    show _ = _
    rw [Int.add_emod, Int.mul_emod (hi % y), Int.emod_emod, ← Int.mul_emod, ← Int.add_emod]
  go_enter Try.func35, Try.ntmps35
  go_wp2_with (go_at_call 32; refine (div64 _ _ _ _ b1 b2 h2 h3 h4).mono ?_; rintro e w' ⟨rfl, n, rfl⟩)
  go_ret
  exact ⟨by rw [HE.out]; rfl, n, rfl⟩
end Go.Proofs.Ytnihgcmlpgfaeaa.Num
