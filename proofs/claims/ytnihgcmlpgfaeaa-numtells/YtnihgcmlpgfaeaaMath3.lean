/-
  Numbers as digits to the base 65536, bits of a number, and the long division bit by bit: the plain arithmetic.
-/
import Derived.Test.YtnihgcmlpgfaeaaMath2
namespace Go.Proofs.Ytnihgcmlpgfaeaa.M
set_option linter.unusedVariables false

def B (k : Nat) : Int := ((65536 ^ k : Nat) : Int)
theorem B_zero : B 0 = 1 := rfl
theorem B_succ (k : Nat) : B (k + 1) = B k * 65536 := by unfold B; rw [Nat.pow_succ, Int.natCast_mul]; rfl
theorem B_pos (k : Nat) : 0 < B k := by unfold B; have := Nat.pow_pos (n := k) (show 0 < 65536 by decide); omega
theorem B_add (i k : Nat) : B (i + k) = B i * B k := by unfold B; rw [Nat.pow_add, Int.natCast_mul]

/-- The number of the first k digits. -/
def Val (o : Nat → Int) : Nat → Int
  | 0 => 0
  | k + 1 => Val o k + o k * B k
def upd (o : Nat → Int) (x : Nat) (v : Int) : Nat → Int := fun i => if i = x then v else o i

theorem Val_upd (o : Nat → Int) (x : Nat) (v : Int) : ∀ n, Val (upd o x v) n = if x < n then Val o n + (v - o x) * B x else Val o n
  | 0 => by simp [Val]
  | n + 1 => by
    show Val (upd o x v) n + upd o x v n * B n = _
    rw [Val_upd o x v n]
    have e : Val o (n + 1) = Val o n + o n * B n := rfl
    unfold upd
    by_cases h : n = x
    · subst h
      rw [if_neg (by omega), if_pos rfl, if_pos (by omega), e, Int.sub_mul]; omega
    · rw [if_neg h]
      by_cases h2 : x < n
      · rw [if_pos h2, if_pos (by omega), e]; omega
      · rw [if_neg h2, if_neg (by omega), e]

theorem Val_bd (o : Nat → Int) : ∀ n, (∀ j, j < n → 0 ≤ o j ∧ o j < 65536) → 0 ≤ Val o n ∧ Val o n < B n
  | 0, _ => by simp [Val, B]
  | n + 1, h => by
    have ⟨i0, i1⟩ := Val_bd o n fun j hj => h j (by omega)
    have ⟨d0, d1⟩ := h n (by omega)
    have hp := B_pos n
    have m0 := Int.mul_nonneg d0 (Int.le_of_lt hp)
    have m1 := Int.mul_le_mul_of_nonneg_right (show o n ≤ 65535 by omega) (Int.le_of_lt hp)
    rw [B_succ]
    show 0 ≤ Val o n + o n * B n ∧ Val o n + o n * B n < _
    omega

theorem Val_digit (o : Nat → Int) : ∀ n, (∀ j, j < n → 0 ≤ o j ∧ o j < 65536) → ∀ j, j < n → Val o n / B j % 65536 = o j
  | 0, _, _, h => by omega
  | n + 1, h, j, hj => by
    have ⟨i0, i1⟩ := Val_bd o n fun j hj => h j (by omega)
    have ⟨d0, d1⟩ := h n (by omega)
    show (Val o n + o n * B n) / B j % 65536 = o j
    by_cases e : j = n
    · subst e
      rw [Int.add_mul_ediv_right _ _ (by have := B_pos j; omega), Int.ediv_eq_zero_of_lt i0 i1]
      omega
    · have ih := Val_digit o n (fun j hj => h j (by omega)) j (by omega)
      obtain ⟨d, hd⟩ : ∃ d, n = j + (d + 1) := ⟨n - j - 1, by omega⟩
      have eB : o n * B n = o n * B d * 65536 * B j := by
        rw [hd, B_add, B_succ]
        grind
      rw [eB, Int.add_mul_ediv_right _ _ (by have := B_pos j; omega), Int.add_mul_emod_self_right]
      exact ih

/-- A number's digits. -/
def dg (n : Int) (i : Nat) : Int := n / B i % 65536
theorem dg_bd (n : Int) (i : Nat) : 0 ≤ dg n i ∧ dg n i ≤ 65535 := by unfold dg; omega
theorem Val_dg (n : Int) (h0 : 0 ≤ n) (h1 : n ≤ 18446744073709551615) : Val (dg n) 4 = n := by
  have b1 : B 1 = 65536 := rfl
  have b2 : B 2 = 4294967296 := rfl
  have b3 : B 3 = 281474976710656 := rfl
  simp only [Val, dg, B_zero, b1, b2, b3]
  omega
theorem div_B (n : Int) (i : Nat) : n / B i / 65536 = n / B (i + 1) := by
  rw [B_succ, Int.ediv_ediv_of_nonneg (Int.le_of_lt (B_pos i))]

/-- What one product of digits brings. -/
theorem Val_step (o : Nat → Int) (s : Nat) (hs : s + 1 < 9) (p : Int) : Val (upd (upd o s (o s + p % 65536)) (s + 1) (o (s + 1) + p / 65536)) 9 = Val o 9 + p * B s := by
  have hn : upd o s (o s + p % 65536) (s + 1) = o (s + 1) := by unfold upd; rw [if_neg (by omega)]
  rw [Val_upd, if_pos hs, hn, Val_upd, if_pos (by omega), B_succ]
  have e1 : o s + p % 65536 - o s = p % 65536 := by omega
  have e2 : o (s + 1) + p / 65536 - o (s + 1) = p / 65536 := by omega
  rw [e1, e2]
  have e3 : p * B s = p % 65536 * B s + p / 65536 * (B s * 65536) := by
    have : p = p % 65536 + p / 65536 * 65536 := by omega
    conv => lhs; rw [this, Int.add_mul]
    grind
  omega

/-- What one carry changes: nothing. -/
theorem Val_carry (o : Nat → Int) (i : Nat) (hi : i + 1 < 9) : Val (upd (upd o (i + 1) (o (i + 1) + o i / 65536)) i (o i % 65536)) 9 = Val o 9 := by
  have hn : upd o (i + 1) (o (i + 1) + o i / 65536) i = o i := by unfold upd; rw [if_neg (by omega)]
  rw [Val_upd, if_pos (by omega), hn, Val_upd, if_pos hi, B_succ]
  have e2 : o (i + 1) + o i / 65536 - o (i + 1) = o i / 65536 := by omega
  have e1 : o i % 65536 - o i = - (o i / 65536 * 65536) := by omega
  rw [e1, e2]
  grind

/-- The partial product behind i whole rows and k digits of the next. -/
def part (a b : Int) (i k : Nat) : Int := Val (dg a) i * Val (dg b) 4 + dg a i * B i * Val (dg b) k
theorem part_step (a b : Int) (i k : Nat) : part a b i (k + 1) = part a b i k + dg a i * dg b k * B (i + k) := by
  unfold part
  have e : Val (dg b) (k + 1) = Val (dg b) k + dg b k * B k := rfl
  rw [e, B_add]
  grind
theorem part_row (a b : Int) (i : Nat) : part a b i 4 = part a b (i + 1) 0 := by
  unfold part
  have e : Val (dg a) (i + 1) = Val (dg a) i + dg a i * B i := rfl
  have e0 : Val (dg b) 0 = 0 := rfl
  rw [e, e0]
  grind
theorem part_zero (a b : Int) : part a b 0 0 = 0 := by unfold part; simp [Val]
theorem part_all (a b : Int) (ha : 0 ≤ a) (ha' : a ≤ 18446744073709551615) (hb : 0 ≤ b) (hb' : b ≤ 18446744073709551615) : part a b 4 0 = a * b := by
  unfold part
  have e0 : Val (dg b) 0 = 0 := rfl
  rw [e0, Val_dg a ha ha', Val_dg b hb hb']
  omega

/-- The number, without its lowest j bits. -/
def D (P : Int) (j : Nat) : Int := P / ((2 ^ j : Nat) : Int)
theorem D_zero (P : Int) : D P 0 = P := by unfold D; simp
theorem D_succ (P : Int) (j : Nat) : D P (j + 1) = D P j / 2 := by
  unfold D
  rw [Nat.pow_succ, Int.natCast_mul, Int.ediv_ediv_of_nonneg (Int.natCast_nonneg _)]
  rfl
theorem D_top (P : Int) (h0 : 0 ≤ P) (h1 : P < B 8) : D P 128 = 0 := by
  unfold D
  refine Int.ediv_eq_zero_of_lt h0 ?_
  have : B 8 = ((2 ^ 128 : Nat) : Int) := by decide +kernel
  omega
theorem D_nonneg (P : Int) (h : 0 ≤ P) (j : Nat) : 0 ≤ D P j := Int.ediv_nonneg h (Int.natCast_nonneg _)

theorem low_bits (x : Int) (r : Nat) (hr : r < 16) : x % 65536 / ((2 ^ r : Nat) : Int) % 2 = x / ((2 ^ r : Nat) : Int) % 2 := by
  have h : r = 0 ∨ r = 1 ∨ r = 2 ∨ r = 3 ∨ r = 4 ∨ r = 5 ∨ r = 6 ∨ r = 7 ∨ r = 8 ∨ r = 9 ∨ r = 10 ∨ r = 11 ∨ r = 12 ∨ r = 13 ∨ r = 14 ∨ r = 15 := by omega
  rcases h with h | h | h | h | h | h | h | h | h | h | h | h | h | h | h | h <;> subst h <;> simp only [Nat.pow_zero, Nat.reducePow] <;> omega

theorem bit_of (o : Nat → Int) (ho : ∀ j, j < 8 → 0 ≤ o j ∧ o j < 65536) (i : Nat) (hi : i < 128) : o (i / 16) / ((2 ^ (i % 16) : Nat) : Int) % 2 = D (Val o 8) i % 2 := by
  have hd := Val_digit o 8 ho (i / 16) (by omega)
  rw [← hd, low_bits _ _ (by omega)]
  unfold D
  have e : ((2 ^ i : Nat) : Int) = B (i / 16) * ((2 ^ (i % 16) : Nat) : Int) := by
    unfold B
    rw [← Int.natCast_mul]
    have : (65536 : Nat) = 2 ^ 16 := by decide
    rw [this, ← Nat.pow_mul, ← Nat.pow_add]
    congr 2
    omega
  rw [e, Int.ediv_ediv_of_nonneg (Int.le_of_lt (B_pos _))]

/-- One bit more: X = 2 T + bit. -/
theorem two_step (X c : Int) (hX : 0 ≤ X) (hc : 0 < c) :
    X % c = (2 * (X / 2 % c) + X % 2) % c ∧ X / c = 2 * (X / 2 / c) + (if c ≤ 2 * (X / 2 % c) + X % 2 then 1 else 0) ∧ 0 ≤ X / 2 % c ∧ X / 2 % c < c := by
  have e := Int.mul_ediv_add_emod (X / 2) c
  have r0 := Int.emod_nonneg (X / 2) (show c ≠ 0 by omega)
  have r1 := Int.emod_lt_of_pos (X / 2) hc
  generalize X / 2 / c = q at *
  generalize X / 2 % c = r at *
  have x2 : X = 2 * (X / 2) + X % 2 := by omega
  have eX : X = c * (2 * q) + (2 * r + X % 2) := by
    have : c * (2 * q) = 2 * (c * q) := by grind
    omega
  have b0 : 0 ≤ X % 2 := by omega
  have b1 : X % 2 ≤ 1 := by omega
  generalize X % 2 = t at *
  refine ⟨?_, ?_, r0, r1⟩
  · rw [eX, Int.mul_add_emod_self_left]
  · rw [eX, Int.mul_add_ediv_left _ _ (by omega : c ≠ 0)]
    split
    · rename_i h
      have : (2 * r + t) / c = 1 := by
        have h1 : 2 * r + t = (2 * r + t - c) + 1 * c := by omega
        rw [h1, Int.add_mul_ediv_right _ _ (by omega), Int.ediv_eq_zero_of_lt (by omega) (by omega)]
        rfl
      omega
    · rename_i h
      have : (2 * r + t) / c = 0 := Int.ediv_eq_zero_of_lt (by omega) (by omega)
      omega
end Go.Proofs.Ytnihgcmlpgfaeaa.M
