/-
  Layer 6: what digits, steps, keys and signatures are, as plain functions; what follows.
-/
import Derived.Test.YtnghhagiokiaoaaDoorKit5
namespace Go.Proofs.YtnghhagiokiaoaaDoor.Wot
open Go.RowKit
open Mem Sh
set_option linter.unusedVariables false

def wMsg : ByteArray := ⟨#[109, 101, 115, 115, 97, 103, 101]⟩
def wStep : ByteArray := ⟨#[115, 116, 101, 112]⟩
def wSec : ByteArray := ⟨#[115, 101, 99, 114, 101, 116]⟩
def wPub : ByteArray := ⟨#[112, 117, 98, 108, 105, 99]⟩
def two (a b : ByteArray) (i : Nat) : ByteArray := if i = 0 then a else b
theorem two_size (a b : ByteArray) (n : Nat) (ha : a.size ≤ n) (hb : b.size ≤ n) (i : Nat) : (two a b i).size ≤ n := by unfold two; split <;> assumption
/-- A place as a byte. -/
def one (p : Nat) : ByteArray := strOfNums [(p : Int)]
theorem one_size (p : Nat) : (one p).size = 1 := by unfold one; rw [strOfNums_size]; rfl
theorem tagS_size (word : ByteArray) (ps : Nat → ByteArray) (n : Nat) : (tagS word ps n).size = 16 := shortS_size _

/-! ### Digits -/
def hm (m : ByteArray) : ByteArray := tagS wMsg (fun _ => m) 1
theorem hm_size (m : ByteArray) : (hm m).size = 16 := tagS_size _ _ _
def nib (h : ByteArray) (j : Nat) : Int := if j % 2 = 0 then PlainAid.bt h (j / 2) / 16 else PlainAid.bt h (j / 2) % 16
theorem nib_even (h : ByteArray) (i : Nat) : nib h (2 * i) = PlainAid.bt h i / 16 := by unfold nib; rw [if_pos (by omega), show 2 * i / 2 = i by omega]
theorem nib_odd (h : ByteArray) (i : Nat) : nib h (2 * i + 1) = PlainAid.bt h i % 16 := by unfold nib; rw [if_neg (by omega), show (2 * i + 1) / 2 = i by omega]
theorem nib_bd (h : ByteArray) (j : Nat) : 0 ≤ nib h j ∧ nib h j ≤ 15 := by
  have x0 := PlainAid.bt_nonneg h (j / 2)
  have x1 := PlainAid.bt_le h (j / 2)
  unfold nib; split <;> omega
/-- The first digits together. -/
def nsum (h : ByteArray) : Nat → Int
  | 0 => 0
  | k + 1 => nsum h k + nib h k
theorem nsum_bd (h : ByteArray) : ∀ k : Nat, 0 ≤ nsum h k ∧ nsum h k ≤ 15 * (k : Int)
  | 0 => by show (0 : Int) ≤ 0 ∧ (0 : Int) ≤ _; omega
  | k + 1 => by
    have := nsum_bd h k
    have := nib_bd h k
    show 0 ≤ nsum h k + nib h k ∧ nsum h k + nib h k ≤ _
    omega
/-- What the 16 digits lack. -/
def lack (h : ByteArray) : Int := 240 - nsum h 16
theorem lack_bd (h : ByteArray) : 0 ≤ lack h ∧ lack h ≤ 240 := by have := nsum_bd h 16; unfold lack; omega
def digH (h : ByteArray) (j : Nat) : Int := if j < 16 then nib h j else if j = 16 then lack h / 16 else lack h % 16
def dig (m : ByteArray) (j : Nat) : Int := digH (hm m) j
theorem digH_nib (h : ByteArray) (j : Nat) (hj : j < 16) : digH h j = nib h j := if_pos hj
theorem digH_16 (h : ByteArray) : digH h 16 = lack h / 16 := by unfold digH; rw [if_neg (by omega), if_pos rfl]
theorem digH_17 (h : ByteArray) : digH h 17 = lack h % 16 := by unfold digH; rw [if_neg (by omega), if_neg (by omega)]
theorem digH_bd (h : ByteArray) (j : Nat) : 0 ≤ digH h j ∧ digH h j ≤ 15 := by
  have := nib_bd h j
  have := lack_bd h
  unfold digH
  split
  · assumption
  · split <;> omega
theorem dig_bd (m : ByteArray) (j : Nat) : 0 ≤ dig m j ∧ dig m j ≤ 15 := digH_bd _ j
/-- The digits in a row, as they are gathered. -/
def digL (h : ByteArray) : Nat → List Int
  | 0 => []
  | k + 1 => digL h k ++ [digH h k]
theorem digL_len (h : ByteArray) : ∀ k, (digL h k).length = k
  | 0 => rfl
  | k + 1 => by show (digL h k ++ _).length = _; rw [List.length_append, digL_len h k]; rfl
theorem digL_get (h : ByteArray) : ∀ k j, j < k → (digL h k).getD j 0 = digH h j
  | 0, _, hj => absurd hj (by omega)
  | k + 1, j, hj => by
    show (digL h k ++ [digH h k]).getD j 0 = _
    rw [List.getD_eq_getElem?_getD]
    by_cases e : j < k
    · rw [List.getElem?_append_left (by rw [digL_len]; exact e), ← List.getD_eq_getElem?_getD]; exact digL_get h k j e
    · obtain rfl : j = k := by omega
      rw [List.getElem?_append_right (by rw [digL_len]; omega), digL_len, Nat.sub_self]; rfl
/-- All 16 and what they lack. -/
def dsum (f : Nat → Int) : Nat → Int
  | 0 => 0
  | k + 1 => dsum f k + f k
theorem dsum_nib (h : ByteArray) : ∀ k, k ≤ 16 → dsum (digH h) k = nsum h k
  | 0, _ => rfl
  | k + 1, hk => by show dsum _ k + digH h k = nsum h k + nib h k; rw [dsum_nib h k (by omega), digH_nib h k (by omega)]
theorem dsum_all (h : ByteArray) : 240 - dsum (digH h) 16 = 16 * digH h 16 + digH h 17 := by
  rw [dsum_nib h 16 (by omega), digH_16, digH_17]; unfold lack; omega

theorem nsum_le (a b : ByteArray) : ∀ k, (∀ j, j < k → nib a j ≤ nib b j) → nsum a k ≤ nsum b k ∧ (nsum a k = nsum b k → ∀ j, j < k → nib a j = nib b j)
  | 0, _ => ⟨by show (0 : Int) ≤ 0; omega, fun _ j hj => absurd hj (by omega)⟩
  | k + 1, h => by
    obtain ⟨h1, h2⟩ := nsum_le a b k (fun j hj => h j (by omega))
    have h3 := h k (by omega)
    show nsum a k + nib a k ≤ nsum b k + nib b k ∧ (nsum a k + nib a k = nsum b k + nib b k → _)
    refine ⟨by omega, fun e j hj => ?_⟩
    by_cases ej : j = k
    · subst ej; omega
    · exact h2 (by omega) j (by omega)
/-- Of two with different digits each has one below the other one's. -/
theorem digH_less (a b : ByteArray) (h : ∀ j, j < 18 → digH a j ≤ digH b j) (j : Nat) (hj : j < 18) : digH a j = digH b j := by
  have hn : ∀ j, j < 16 → nib a j ≤ nib b j := fun j hj => by have := h j (by omega); rwa [digH_nib a j hj, digH_nib b j hj] at this
  obtain ⟨n1, n2⟩ := nsum_le a b 16 hn
  have h16 := h 16 (by omega)
  have h17 := h 17 (by omega)
  have sa := dsum_all a
  have sb' := dsum_all b
  rw [dsum_nib _ 16 (by omega)] at sa sb'
  have e : nsum a 16 = nsum b 16 := by omega
  by_cases j16 : j < 16
  · rw [digH_nib a j j16, digH_nib b j j16]; exact n2 e j j16
  · by_cases j1 : j = 16
    · subst j1; omega
    · obtain rfl : j = 17 := by omega
      omega
theorem dig_less (a b : ByteArray) (h : ∃ j, j < 18 ∧ dig a j < dig b j) : ∃ j, j < 18 ∧ dig b j < dig a j := by
  obtain ⟨j, hj, hl⟩ := h
  by_cases hc : ∃ j, j < 18 ∧ dig b j < dig a j
  · exact hc
  · have := digH_less (hm a) (hm b) (fun i hi => Int.not_lt.1 fun hlt => hc ⟨i, hi, hlt⟩) j hj
    unfold dig at hl; omega

/-! ### Steps -/
def stp (p : Nat) (x : ByteArray) : Nat → ByteArray
  | 0 => x
  | k + 1 => tagS wStep (two (one p) (stp p x k)) 2
theorem stp_size (p : Nat) (x : ByteArray) (hx : x.size = 16) : ∀ k, (stp p x k).size = 16
  | 0 => hx
  | k + 1 => tagS_size _ _ _
theorem stp_add (p : Nat) (x : ByteArray) (a : Nat) : ∀ b, stp p x (a + b) = stp p (stp p x a) b
  | 0 => rfl
  | b + 1 => by show tagS wStep (two (one p) (stp p x (a + b))) 2 = tagS wStep (two (one p) (stp p (stp p x a) b)) 2; rw [stp_add p x a b]
def stpOk (p : Int) (x : ByteArray) (n : Int) : Prop := 0 ≤ p ∧ p ≤ 17 ∧ x.size = 16 ∧ 0 ≤ n ∧ n ≤ 15
open Classical in
noncomputable def stpA (p : Int) (x : ByteArray) (n : Int) : ByteArray := if stpOk p x n then stp p.toNat x n.toNat else ⟨#[]⟩
theorem stpA_yes (p : Nat) (x : ByteArray) (n : Nat) (hp : p ≤ 17) (hx : x.size = 16) (hn : n ≤ 15) : stpA p x n = stp p x n := by
  unfold stpA; rw [if_pos ⟨by omega, by omega, hx, by omega, by omega⟩]; rfl
theorem stpA_no (p : Int) (x : ByteArray) (n : Int) (h : ¬ stpOk p x n) : stpA p x n = ⟨#[]⟩ := by unfold stpA; rw [if_neg h]

/-! ### Keys and signatures -/
def sec (s : ByteArray) (p : Nat) : ByteArray := tagS wSec (two s (one p)) 2
theorem sec_size (s : ByteArray) (p : Nat) : (sec s p).size = 16 := tagS_size _ _ _
/-- Texts one behind the other. -/
def cat (f : Nat → ByteArray) : Nat → ByteArray
  | 0 => ⟨#[]⟩
  | k + 1 => cat f k ++ f k
theorem cat_size (f : Nat → ByteArray) (h : ∀ i, (f i).size = 16) : ∀ k, (cat f k).size = 16 * k
  | 0 => rfl
  | k + 1 => by show (cat f k ++ f k).size = _; rw [ByteArray.size_append, cat_size f h k, h k]; omega
theorem cat_size_le (f : Nat → ByteArray) (c n : Nat) (h : ∀ i, i < n → (f i).size ≤ c) : ∀ k, k ≤ n → (cat f k).size ≤ c * n := by
  intro k hk
  have : (cat f k).size ≤ c * k := by
    induction k with
    | zero => exact Nat.zero_le _
    | succ k ih =>
      have h1 := ih (by omega)
      have h2 := h k (by omega)
      show (cat f k ++ f k).size ≤ _
      rw [ByteArray.size_append, Nat.mul_succ]; omega
  exact Nat.le_trans this (Nat.mul_le_mul_left c hk)
theorem cat_congr (f g : Nat → ByteArray) : ∀ k, (∀ i, i < k → f i = g i) → cat f k = cat g k
  | 0, _ => rfl
  | k + 1, h => by show cat f k ++ f k = cat g k ++ g k; rw [cat_congr f g k (fun i hi => h i (by omega)), h k (by omega)]
theorem ext_left (a b : ByteArray) (i j : Nat) (h : j ≤ a.size) : (a ++ b).extract i j = a.extract i j := by
  apply WideShapes.bytes_inj
  have h' : j ≤ a.data.toList.length := by rw [Array.length_toList]; exact h
  rw [ByteArray.data_extract, ByteArray.data_extract, ByteArray.data_append, Array.toList_extract, Array.toList_extract, Array.toList_append]
  simp only [List.extract_eq_take_drop]
  by_cases hij : i ≤ j
  · rw [List.drop_append_of_le_length (by omega), List.take_append_of_le_length (by rw [List.length_drop]; omega)]
  · rw [show j - i = 0 by omega]; simp
theorem ext_right (a b : ByteArray) (n : Nat) (h : a.size = n) (m : Nat) (hm : b.size = m) : (a ++ b).extract n (n + m) = b := by
  apply WideShapes.bytes_inj
  have h' : a.data.toList.length = n := by rw [Array.length_toList]; exact h
  have hm' : b.data.toList.length = m := by rw [Array.length_toList]; exact hm
  rw [ByteArray.data_extract, ByteArray.data_append, Array.toList_extract, Array.toList_append]
  simp only [List.extract_eq_take_drop]
  rw [List.drop_left' h', show n + m - n = m by omega, List.take_of_length_le (by omega)]
theorem cat_get (f : Nat → ByteArray) (h : ∀ i, (f i).size = 16) : ∀ k i, i < k → (cat f k).extract (16 * i) (16 * i + 16) = f i
  | 0, _, hi => absurd hi (by omega)
  | k + 1, i, hi => by
    show (cat f k ++ f k).extract _ _ = _
    by_cases e : i < k
    · rw [ext_left _ _ _ _ (by rw [cat_size f h k]; omega)]; exact cat_get f h k i e
    · obtain rfl : i = k := by omega
      exact ext_right _ _ _ (cat_size f h i) 16 (h i)
def pubP (s : ByteArray) (i : Nat) : ByteArray := stp i (sec s i) 15
def pub (s : ByteArray) : ByteArray := tagS wPub (fun _ => cat (pubP s) 18) 1
def sgnP (s m : ByteArray) (i : Nat) : ByteArray := stp i (sec s i) (dig m i).toNat
def sgn (s m : ByteArray) : ByteArray := cat (sgnP s m) 18
def part (sig : ByteArray) (i : Nat) : ByteArray := sig.extract (16 * i) (16 * i + 16)
def frmP (m sig : ByteArray) (i : Nat) : ByteArray := stp i (part sig i) (15 - dig m i).toNat
def frm (m sig : ByteArray) : ByteArray := tagS wPub (fun _ => cat (frmP m sig) 18) 1
theorem pubP_size (s : ByteArray) (i : Nat) : (pubP s i).size = 16 := stp_size _ _ (sec_size _ _) _
theorem sgnP_size (s m : ByteArray) (i : Nat) : (sgnP s m i).size = 16 := stp_size _ _ (sec_size _ _) _
theorem part_size (sig : ByteArray) (h : sig.size = 288) (i : Nat) (hi : i < 18) : (part sig i).size = 16 := by unfold part; rw [ByteArray.size_extract]; omega
theorem sgn_size (s m : ByteArray) : (sgn s m).size = 288 := cat_size _ (sgnP_size s m) 18
theorem pub_size (s : ByteArray) : (pub s).size = 16 := tagS_size _ _ _
theorem frm_size (m s : ByteArray) : (frm m s).size = 16 := tagS_size _ _ _
theorem sgn_part (s m : ByteArray) (i : Nat) (hi : i < 18) : part (sgn s m) i = sgnP s m i := cat_get _ (sgnP_size s m) 18 i hi
theorem frm_part (s m : ByteArray) (i : Nat) (hi : i < 18) : frmP m (sgn s m) i = pubP s i := by
  unfold frmP; rw [sgn_part s m i hi]; unfold sgnP pubP
  rw [← stp_add]
  have := dig_bd m i
  rw [show (dig m i).toNat + (15 - dig m i).toNat = 15 by omega]
/-- What is signed verifies. -/
theorem frm_sgn (s m : ByteArray) : frm m (sgn s m) = pub s := by
  unfold frm pub
  rw [cat_congr _ _ 18 (frm_part s m)]
end Go.Proofs.YtnghhagiokiaoaaDoor.Wot
