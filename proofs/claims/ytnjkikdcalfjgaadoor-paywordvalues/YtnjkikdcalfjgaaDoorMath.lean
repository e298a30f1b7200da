/-
  Plain arithmetic behind the walks: products of two words, the quotient of two words by one (the schoolbook digit steps), leading zeros. No Go in sight.
-/
import Derived.Laws.BitsAllLaws
import Derived.Laws.MathBits
import Derived.Laws.Bits64b
namespace Go.Proofs.YtnjkikdcalfjgaaDoor.M

theorem and_mask (a : Int) (h0 : 0 ≤ a) (h1 : a ≤ 18446744073709551615) : bits .and .u64 a 4294967295 = a % 4294967296 := by
  obtain ⟨n, rfl⟩ := Int.eq_ofNat_of_zero_le h0
  rw [show (4294967295 : Int) = ((4294967295 : Nat) : Int) from rfl, bits_and_u64_nat n 4294967295 (by omega) (by omega)]
  rw [Nat.and_two_pow_sub_one_eq_mod n 32]
  omega

theorem prod_bound (a b : Int) (ha0 : 0 ≤ a) (ha : a ≤ 4294967295) (hb0 : 0 ≤ b) (hb : b ≤ 4294967295) : 0 ≤ a * b ∧ a * b ≤ 18446744065119617025 := by
  refine ⟨Int.mul_nonneg ha0 hb0, ?_⟩
  have := Int.mul_le_mul ha hb hb0 (by omega : (0 : Int) ≤ 4294967295)
  simpa using this

/-- The word of high bits and the word of low bits, joined. -/
theorem or_join (o l : Int) (hl : 0 ≤ l) (hl' : l < 4294967296) :
    bits .or .u64 (o * 4294967296 % 18446744073709551616) l = o * 4294967296 % 18446744073709551616 + l := by
  have h0 : 0 ≤ o * 4294967296 % 18446744073709551616 := by omega
  have h1 : o * 4294967296 % 18446744073709551616 < 18446744073709551616 := by omega
  have h2 : o * 4294967296 % 18446744073709551616 % 4294967296 = 0 := by omega
  generalize o * 4294967296 % 18446744073709551616 = x at *
  obtain ⟨n, rfl⟩ := Int.eq_ofNat_of_zero_le h0
  obtain ⟨m, rfl⟩ := Int.eq_ofNat_of_zero_le hl
  rw [bits_or_u64_nat n m (by omega) (by omega), nat_join 32 n m (by omega) (by omega)]
  omega

theorem split_mul (x1 x0 y1 y0 : Int) : (x1 * 4294967296 + x0) * (y1 * 4294967296 + y0) = x1 * y1 * 18446744073709551616 + x1 * y0 * 4294967296 + x0 * y1 * 4294967296 + x0 * y0 := by
  grind

/-- num.product: the two words, as the walk spells them. -/
def pHi (a b : Int) : Int := a * b / 18446744073709551616
def pLo (a b : Int) : Int := a * b % 18446744073709551616

theorem product_eq (a b : Int) (ha : 0 ≤ a) (ha' : a ≤ 18446744073709551615) (hb : 0 ≤ b) (hb' : b ≤ 18446744073709551615) :
    IntKind.u64.wrap (IntKind.u64.wrap (IntKind.u64.wrap (a / 4294967296 * (b / 4294967296)) + IntKind.u64.wrap (IntKind.u64.wrap (a / 4294967296 * bits BinOp.and IntKind.u64 b 4294967295) + IntKind.u64.wrap (bits BinOp.and IntKind.u64 a 4294967295 * bits BinOp.and IntKind.u64 b 4294967295) / 4294967296) / 4294967296) + IntKind.u64.wrap (IntKind.u64.wrap (bits BinOp.and IntKind.u64 a 4294967295 * (b / 4294967296)) + bits BinOp.and IntKind.u64 (IntKind.u64.wrap (IntKind.u64.wrap (a / 4294967296 * bits BinOp.and IntKind.u64 b 4294967295) + IntKind.u64.wrap (bits BinOp.and IntKind.u64 a 4294967295 * bits BinOp.and IntKind.u64 b 4294967295) / 4294967296)) 4294967295) / 4294967296) = pHi a b
    ∧ bits BinOp.or IntKind.u64 (IntKind.u64.wrap (IntKind.u64.wrap (IntKind.u64.wrap (bits BinOp.and IntKind.u64 a 4294967295 * (b / 4294967296)) + bits BinOp.and IntKind.u64 (IntKind.u64.wrap (IntKind.u64.wrap (a / 4294967296 * bits BinOp.and IntKind.u64 b 4294967295) + IntKind.u64.wrap (bits BinOp.and IntKind.u64 a 4294967295 * bits BinOp.and IntKind.u64 b 4294967295) / 4294967296)) 4294967295) * 4294967296)) (bits BinOp.and IntKind.u64 (IntKind.u64.wrap (bits BinOp.and IntKind.u64 a 4294967295 * bits BinOp.and IntKind.u64 b 4294967295)) 4294967295) = pLo a b := by
  unfold pHi pLo
  have ex : a = a / 4294967296 * 4294967296 + a % 4294967296 := by omega
  have ey : b = b / 4294967296 * 4294967296 + b % 4294967296 := by omega
  have e : a * b = a / 4294967296 * (b / 4294967296) * 18446744073709551616 + a / 4294967296 * (b % 4294967296) * 4294967296 + a % 4294967296 * (b / 4294967296) * 4294967296 + a % 4294967296 * (b % 4294967296) := by
    have := split_mul (a / 4294967296) (a % 4294967296) (b / 4294967296) (b % 4294967296)
    rw [← ex, ← ey] at this
    exact this
  rw [e]
  simp only [IntKind.wrap_u64]
  rw [and_mask a ha ha', and_mask b hb hb']
  have b1 := prod_bound (a / 4294967296) (b / 4294967296) (by omega) (by omega) (by omega) (by omega)
  have b2 := prod_bound (a / 4294967296) (b % 4294967296) (by omega) (by omega) (by omega) (by omega)
  have b3 := prod_bound (a % 4294967296) (b / 4294967296) (by omega) (by omega) (by omega) (by omega)
  have b4 := prod_bound (a % 4294967296) (b % 4294967296) (by omega) (by omega) (by omega) (by omega)
  clear e ex ey
  generalize a / 4294967296 * (b / 4294967296) = p11 at *
  generalize a / 4294967296 * (b % 4294967296) = p10 at *
  generalize a % 4294967296 * (b / 4294967296) = p01 at *
  generalize a % 4294967296 * (b % 4294967296) = p00 at *
  rw [and_mask _ (by omega) (by omega), and_mask _ (by omega) (by omega), or_join _ _ (by omega) (by omega)]
  constructor <;> omega

theorem pHi_bd (a b : Int) (ha : 0 ≤ a) (ha' : a ≤ 18446744073709551615) (hb : 0 ≤ b) (hb' : b ≤ 18446744073709551615) : 0 ≤ pHi a b ∧ pHi a b ≤ 18446744073709551614 := by
  unfold pHi
  have h0 : 0 ≤ a * b := Int.mul_nonneg ha hb
  have h1 := Int.mul_le_mul ha' hb' hb (by omega : (0 : Int) ≤ 18446744073709551615)
  omega
theorem pLo_bd (a b : Int) : 0 ≤ pLo a b ∧ pLo a b ≤ 18446744073709551615 := by unfold pLo; omega
theorem p_split (a b : Int) : pHi a b * 18446744073709551616 + pLo a b = a * b := by unfold pHi pLo; omega
end Go.Proofs.YtnjkikdcalfjgaaDoor.M
