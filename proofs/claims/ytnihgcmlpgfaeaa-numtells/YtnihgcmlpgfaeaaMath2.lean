/-
  The quotient of two words by one, digit by digit (base 2^32): the plain arithmetic.
-/
import Derived.Test.YtnihgcmlpgfaeaaMath
namespace Go.Proofs.Ytnihgcmlpgfaeaa.M
set_option linter.unusedVariables false

/-- What a guess q of a digit has, with the rest r that goes with it. Q: the true digit. -/
def DInv (yn1 un Q q r : Int) : Prop := q * yn1 + r = un ∧ Q ≤ q
/-- Q is how often Y goes into N. -/
def Goes (Y N Q : Int) : Prop := Q * Y ≤ N ∧ N < (Q + 1) * Y

theorem goes_div (Y N : Int) (h : 0 < Y) : Goes Y N (N / Y) := by
  have h1 := Int.emod_nonneg N (show Y ≠ 0 by omega)
  have h2 := Int.emod_lt_of_pos N h
  have h3 := Int.mul_ediv_add_emod N Y
  have h4 : Y * (N / Y) = N / Y * Y := Int.mul_comm _ _
  have h5 : (N / Y + 1) * Y = N / Y * Y + Y := by rw [Int.add_mul, Int.one_mul]
  unfold Goes
  omega

theorem lt_of_mul {a b c : Int} (h : a * c < b * c) (hc : 0 < c) : a < b := Int.lt_of_mul_lt_mul_right h (by omega)

section
variable {Y yn1 yn0 un u Q q r : Int}

theorem goes_small (g : Goes Y (un * 4294967296 + u) Q) (hu : u < 4294967296) (h : un < Y) (hY : 0 < Y) (h0 : 0 ≤ un) (hu0 : 0 ≤ u) : 0 ≤ Q ∧ Q < 4294967296 := by
  obtain ⟨g1, g2⟩ := g
  constructor
  · have : 0 * Y < (Q + 1) * Y := by rw [Int.zero_mul]; omega
    have := lt_of_mul this hY
    omega
  · have : Q * Y < 4294967296 * Y := by omega
    exact lt_of_mul this hY

theorem mulY (hY : Y = yn1 * 4294967296 + yn0) : q * Y = q * yn1 * 4294967296 + q * yn0 := by
  subst hY; rw [Int.mul_add, Int.mul_assoc]

/-- The guess is too great: by its size. -/
theorem step_big (d : DInv yn1 un Q q r) (hQ : Q < 4294967296) (hq : 4294967296 ≤ q) : DInv yn1 un Q (q - 1) (r + yn1) := by
  obtain ⟨d1, d2⟩ := d
  refine ⟨?_, by omega⟩
  rw [Int.sub_mul, Int.one_mul]; omega

/-- The guess is too great: by the test. -/
theorem step_test (d : DInv yn1 un Q q r) (g : Goes Y (un * 4294967296 + u) Q) (hY : Y = yn1 * 4294967296 + yn0) (hYp : 0 < Y) (ht : 4294967296 * r + u < q * yn0) : DInv yn1 un Q (q - 1) (r + yn1) := by
  obtain ⟨d1, d2⟩ := d
  obtain ⟨g1, g2⟩ := g
  have e := mulY (q := q) hY
  have : Q * Y < q * Y := by omega
  have := lt_of_mul this hYp
  refine ⟨?_, by omega⟩
  rw [Int.sub_mul, Int.one_mul]; omega

/-- The guess is the digit: by the test. -/
theorem done_test (d : DInv yn1 un Q q r) (g : Goes Y (un * 4294967296 + u) Q) (hY : Y = yn1 * 4294967296 + yn0) (hYp : 0 < Y) (ht : q * yn0 ≤ 4294967296 * r + u) : q = Q := by
  obtain ⟨d1, d2⟩ := d
  obtain ⟨g1, g2⟩ := g
  have e := mulY (q := q) hY
  have : q * Y < (Q + 1) * Y := by omega
  have := lt_of_mul this hYp
  omega

/-- The guess is the digit: its rest is great. -/
theorem done_rest (d : DInv yn1 un Q q r) (g : Goes Y (un * 4294967296 + u) Q) (hY : Y = yn1 * 4294967296 + yn0) (hYp : 0 < Y) (hq0 : 0 ≤ q) (hq : q ≤ 4294967296) (h0 : 0 ≤ yn0) (h1 : yn0 < 4294967296) (hu : 0 ≤ u) (hr : 4294967296 ≤ r) : q = Q := by
  refine done_test d g hY hYp ?_
  have a := Int.mul_le_mul hq (show yn0 ≤ 4294967295 by omega) h0 (by omega : (0 : Int) ≤ 4294967296)
  omega

/-- The first guess. -/
theorem first_guess (g : Goes Y (un * 4294967296 + u) Q) (hY : Y = yn1 * 4294967296 + yn0) (h1 : 2147483648 ≤ yn1) (h0 : 0 ≤ yn0) (h0' : yn0 < 4294967296) (hun : un < Y) (hu : u < 4294967296) (hun0 : 0 ≤ un) (hu0 : 0 ≤ u) :
    DInv yn1 un Q (un / yn1) (un - un / yn1 * yn1) ∧ 0 ≤ un / yn1 ∧ un / yn1 ≤ 4294967297 ∧ 0 ≤ un / yn1 * yn1 ∧ un / yn1 * yn1 ≤ un ∧ un - un / yn1 * yn1 < yn1 := by
  obtain ⟨k1, k2⟩ := goes_div yn1 un (by omega)
  obtain ⟨q0, _⟩ := goes_small g hu hun (by omega) hun0 hu0
  obtain ⟨g1, g2⟩ := g
  have e := mulY (q := Q) hY
  have p0 : 0 ≤ Q * yn0 := Int.mul_nonneg q0 h0
  have e2 : (un / yn1 + 1) * yn1 = un / yn1 * yn1 + yn1 := by rw [Int.add_mul, Int.one_mul]
  have hd0 : 0 ≤ un / yn1 := Int.ediv_nonneg hun0 (by omega)
  refine ⟨⟨by omega, ?_⟩, hd0, ?_, Int.mul_nonneg hd0 (by omega), k1, by omega⟩
  · have : Q * yn1 < (un / yn1 + 1) * yn1 := by omega
    have := lt_of_mul this (by omega : 0 < yn1)
    omega
  · have : un / yn1 * yn1 < 4294967298 * yn1 := by omega
    have := lt_of_mul this (by omega : 0 < yn1)
    omega

/-- What is left of two words behind a digit, as the walk spells it. -/
theorem left_eq (g : Goes Y (un * 4294967296 + u) Q) (hY0 : 0 < Y) (hY : Y ≤ 18446744073709551615) :
    IntKind.u64.wrap (IntKind.u64.wrap (IntKind.u64.wrap (un * 4294967296) + u) - IntKind.u64.wrap (Q * Y)) = un * 4294967296 + u - Q * Y ∧ 0 ≤ un * 4294967296 + u - Q * Y ∧ un * 4294967296 + u - Q * Y < Y := by
  obtain ⟨g1, g2⟩ := g
  have e : (Q + 1) * Y = Q * Y + Y := by rw [Int.add_mul, Int.one_mul]
  simp only [IntKind.wrap_u64]
  generalize Q * Y = P at *
  omega
end

theorem div_final (U y P2 Qf rr : Int) (hP : 0 < P2) (hy : 0 < y) (h : U * P2 = Qf * (y * P2) + rr) (h0 : 0 ≤ rr) (h1 : rr < y * P2) : Qf = U / y ∧ rr / P2 = U % y := by
  have e : rr = (U - Qf * y) * P2 := by rw [Int.sub_mul, Int.mul_assoc]; omega
  have e1 : rr / P2 = U - Qf * y := by rw [e]; exact Int.mul_ediv_cancel _ (by omega)
  have a0 : 0 ≤ U - Qf * y := by
    have : 0 * P2 < (U - Qf * y + 1) * P2 := by rw [Int.add_mul, ← e, Int.zero_mul, Int.one_mul]; omega
    have := lt_of_mul this hP
    omega
  have a1 : U - Qf * y < y := by
    have : (U - Qf * y) * P2 < y * P2 := by rw [← e]; exact h1
    exact lt_of_mul this hP
  have := (Int.ediv_emod_unique hy (a := U) (q := Qf) (r := U - Qf * y)).2 ⟨by rw [Int.mul_comm y Qf]; omega, a0, a1⟩
  exact ⟨this.1.symm, by rw [e1, this.2]⟩

/-- The two words moved up: the high one, with the bits that come in from the low one. -/
theorem or_up (s : Nat) (hs : s ≤ 63) (hi lo : Int) (h0 : 0 ≤ hi * 2 ^ s) (h1 : hi * 2 ^ s ≤ 18446744073709551615) (h2 : 0 ≤ lo) (h3 : lo ≤ 18446744073709551615) :
    bits BinOp.or IntKind.u64 (IntKind.u64.wrap (hi * 2 ^ s)) (lo / 2 ^ (64 - s)) = hi * 2 ^ s + lo / 2 ^ (64 - s) ∧ 0 ≤ lo / 2 ^ (64 - s) ∧ lo / 2 ^ (64 - s) < 2 ^ s
      ∧ lo / 2 ^ (64 - s) * 18446744073709551616 + IntKind.u64.wrap (lo * 2 ^ s) = lo * 2 ^ s := by
  have hp : (2 : Int) ^ s * 2 ^ (64 - s) = 18446744073709551616 := by rw [← Int.pow_add, show s + (64 - s) = 64 by omega]; rfl
  have hp0 : (0 : Int) < 2 ^ (64 - s) := Int.pow_pos (by decide)
  have hs0 : (0 : Int) < 2 ^ s := Int.pow_pos (by decide)
  have d0 : 0 ≤ lo / 2 ^ (64 - s) := Int.ediv_nonneg h2 (by omega)
  have d1 : lo / 2 ^ (64 - s) < 2 ^ s := by
    refine Int.ediv_lt_of_lt_mul hp0 ?_
    rw [hp]; omega
  have hw : IntKind.u64.wrap (hi * 2 ^ s) = hi * 2 ^ s := by rw [IntKind.wrap_u64]; omega
  refine ⟨?_, d0, d1, ?_⟩
  · rw [hw]
    have hi0 : 0 ≤ hi := by
      have : 0 * 2 ^ s < (hi + 1) * 2 ^ s := by rw [Int.add_mul, Int.zero_mul, Int.one_mul]; omega
      have := lt_of_mul this hs0
      omega
    obtain ⟨n, rfl⟩ := Int.eq_ofNat_of_zero_le hi0
    obtain ⟨m, hm⟩ := Int.eq_ofNat_of_zero_le d0
    rw [hm] at d1 ⊢
    have ec : ((n : Int) * 2 ^ s) = ((n * 2 ^ s : Nat) : Int) := by rw [Int.natCast_mul, Int.natCast_pow]; rfl
    have ep : ((2 : Int) ^ s) = ((2 ^ s : Nat) : Int) := by rw [Int.natCast_pow]; rfl
    rw [ep] at d1
    have hlt : m < 2 ^ s := by omega
    have hle : 2 ^ s ≤ 2 ^ 63 := Nat.pow_le_pow_right (by decide) hs
    have h63 : (2 : Nat) ^ 63 = 9223372036854775808 := by decide
    rw [ec] at h1 ⊢
    rw [bits_or_u64_nat _ _ (by omega) (by omega), nat_join s _ _ (Nat.mul_mod_left n (2 ^ s)) hlt]
    omega
  · rw [IntKind.wrap_u64]
    have a := Int.mul_ediv_add_emod lo (2 ^ (64 - s))
    have b0 := Int.emod_nonneg lo (show (2 : Int) ^ (64 - s) ≠ 0 by omega)
    have b1 := Int.emod_lt_of_pos lo hp0
    have e : lo * 2 ^ s = lo / 2 ^ (64 - s) * 18446744073709551616 + lo % 2 ^ (64 - s) * 2 ^ s := by
      rw [← hp]
      conv => lhs; rw [← a]
      grind
    have c0 : 0 ≤ lo % 2 ^ (64 - s) * 2 ^ s := Int.mul_nonneg b0 (by omega)
    have c1 : lo % 2 ^ (64 - s) * 2 ^ s < 18446744073709551616 := by
      rw [← hp, Int.mul_comm (2 ^ s)]; exact Int.mul_lt_mul_of_pos_right b1 hs0
    rw [e]
    generalize lo % 2 ^ (64 - s) * 2 ^ s = t at *
    generalize lo / 2 ^ (64 - s) = v at *
    omega
end Go.Proofs.Ytnihgcmlpgfaeaa.M
