/-
  Layer 7: what rows, roots, paths, keys and their signatures are, as plain functions; what follows.
-/
import Derived.Test.YtnghhagiokiaoaaDoorWot6
namespace Go.Proofs.YtnghhagiokiaoaaDoor.Mer
open Go.RowKit
open Mem Sh Wot
set_option linter.unusedVariables false

def wNode : ByteArray := ⟨#[110, 111, 100, 101]⟩
def wRoot : ByteArray := ⟨#[114, 111, 111, 116]⟩
def wLeaf : ByteArray := ⟨#[108, 101, 97, 102]⟩
/-- The node above two. -/
def nd (a b : ByteArray) : ByteArray := tagS wNode (two a b) 2
theorem nd_size (a b : ByteArray) : (nd a b).size = 16 := tagS_size _ _ _
/-- The node i of the row k above leaves. -/
def rwS (f : Nat → ByteArray) : Nat → Nat → ByteArray
  | 0, i => f i
  | k + 1, i => nd (rwS f k (2 * i)) (rwS f k (2 * i + 1))
theorem rwS_size (f : Nat → ByteArray) (n : Nat) (h : ∀ i, i < n → (f i).size = 16) : ∀ k i, (k = 0 → i < n) → (rwS f k i).size = 16
  | 0, i, hi => h i (hi rfl)
  | k + 1, i, _ => nd_size _ _
theorem rwS_congr (f g : Nat → ByteArray) : ∀ (k i : Nat), (∀ j, j < 2 ^ k * (i + 1) → f j = g j) → rwS f k i = rwS g k i
  | 0, i, h => h i (by omega)
  | k + 1, i, h => by
    show nd _ _ = nd _ _
    rw [rwS_congr f g k (2 * i) (fun j hj => h j (Nat.lt_of_lt_of_le hj (by rw [Nat.pow_succ, Nat.mul_assoc]; exact Nat.mul_le_mul_left _ (by omega)))),
      rwS_congr f g k (2 * i + 1) (fun j hj => h j (Nat.lt_of_lt_of_le hj (by rw [Nat.pow_succ, Nat.mul_assoc]; exact Nat.mul_le_mul_left _ (by omega))))]
def rtS (h : Nat) (x : ByteArray) : ByteArray := tagS wRoot (two (one h) x) 2
def mroot (h : Nat) (f : Nat → ByteArray) : ByteArray := rtS h (rwS f h 0)
theorem rtS_size (h : Nat) (x : ByteArray) : (rtS h x).size = 16 := tagS_size _ _ _
theorem mroot_size (h : Nat) (f : Nat → ByteArray) : (mroot h f).size = 16 := rtS_size _ _
/-- The place beside. -/
def sib (a : Nat) : Nat := if a % 2 = 0 then a + 1 else a - 1
theorem sib_lt (a n : Nat) (h : a < 2 * n) : sib a < 2 * n := by unfold sib; split <;> omega
def pth (f : Nat → ByteArray) (i j : Nat) : ByteArray := rwS f j (sib (i / 2 ^ j))
/-- Where so many nodes of a path lead. -/
def upx (x : ByteArray) (i : Nat) (p : Nat → ByteArray) : Nat → ByteArray
  | 0 => x
  | k + 1 => if (i / 2 ^ k) % 2 = 0 then nd (upx x i p k) (p k) else nd (p k) (upx x i p k)
theorem upx_size (x : ByteArray) (i : Nat) (p : Nat → ByteArray) (hx : x.size = 16) : ∀ k, (upx x i p k).size = 16
  | 0 => hx
  | k + 1 => by unfold upx; split <;> exact nd_size _ _
theorem upx_congr (x : ByteArray) (i : Nat) (p q : Nat → ByteArray) : ∀ k, (∀ j, j < k → p j = q j) → upx x i p k = upx x i q k
  | 0, _ => rfl
  | k + 1, h => by unfold upx; rw [upx_congr x i p q k (fun j hj => h j (by omega)), h k (by omega)]
theorem div_step (i k : Nat) : i / 2 ^ (k + 1) = i / 2 ^ k / 2 := by rw [Nat.pow_succ, Nat.div_div_eq_div_mul]
/-- A path leads from its leaf to each row's node above it. -/
theorem up_path (f : Nat → ByteArray) (i : Nat) : ∀ k, upx (f i) i (pth f i) k = rwS f k (i / 2 ^ k)
  | 0 => by show f i = rwS f 0 (i / 2 ^ 0); rw [Nat.pow_zero, Nat.div_one]; rfl
  | k + 1 => by
    unfold upx
    rw [up_path f i k, div_step]
    unfold pth
    generalize i / 2 ^ k = a
    show _ = nd (rwS f k (2 * (a / 2))) (rwS f k (2 * (a / 2) + 1))
    unfold sib
    by_cases e : a % 2 = 0
    · rw [if_pos e, if_pos e, show 2 * (a / 2) = a by omega]
    · rw [if_neg e, if_neg e, show 2 * (a / 2) = a - 1 by omega, show a - 1 + 1 = a by omega]
theorem up_root (f : Nat → ByteArray) (h i : Nat) (hi : i < 2 ^ h) : rtS h (upx (f i) i (pth f i) h) = mroot h f := by
  rw [up_path, Nat.div_eq_of_lt hi]; rfl

/-! ### Keys -/
def sdS (s : ByteArray) (i : Nat) : ByteArray := tagS wLeaf (two s (one i)) 2
theorem sdS_size (s : ByteArray) (i : Nat) : (sdS s i).size = 16 := tagS_size _ _ _
def lfS (s : ByteArray) (i : Nat) : ByteArray := pub (sdS s i)
theorem lfS_size (s : ByteArray) (i : Nat) : (lfS s i).size = 16 := pub_size _
def kroot (s : ByteArray) (h : Nat) : ByteArray := mroot h (lfS s)
/-- What is signed: root, leaf and message. -/
def msgS (r : ByteArray) (i : Nat) (m : ByteArray) : ByteArray := r ++ one i ++ m
def ksig (s : ByteArray) (h i : Nat) (m : ByteArray) : ByteArray := one i ++ sgn (sdS s i) (msgS (kroot s h) i m) ++ cat (pth (lfS s) i) h
theorem pth_size (s : ByteArray) (i j : Nat) : (pth (lfS s) i j).size = 16 := by
  unfold pth
  cases j with
  | zero => exact lfS_size _ _
  | succ j => exact nd_size _ _
theorem front_size (s : ByteArray) (h i : Nat) (m : ByteArray) : (one i ++ sgn (sdS s i) (msgS (kroot s h) i m)).size = 289 := by
  rw [ByteArray.size_append, one_size, sgn_size]
theorem ksig_size (s : ByteArray) (h i : Nat) (m : ByteArray) : (ksig s h i m).size = 289 + 16 * h := by
  unfold ksig; rw [ByteArray.size_append, front_size, cat_size _ (pth_size s i) h]
theorem ext_shift (a b : ByteArray) (i j : Nat) : (a ++ b).extract (a.size + i) (a.size + j) = b.extract i j := by
  apply WideShapes.bytes_inj
  have h' : a.data.toList.length = a.size := by rw [Array.length_toList]; rfl
  rw [ByteArray.data_extract, ByteArray.data_extract, ByteArray.data_append, Array.toList_extract, Array.toList_extract, Array.toList_append]
  simp only [List.extract_eq_take_drop]
  rw [← h', List.drop_append]
  rw [show a.data.toList.length + j - (a.data.toList.length + i) = j - i by omega, List.drop_eq_nil_of_le (show a.data.toList.length ≤ a.data.toList.length + i by omega), List.nil_append,
    show a.data.toList.length + i - a.data.toList.length = i by omega]
theorem ksig_sgn (s : ByteArray) (h i : Nat) (m : ByteArray) : (ksig s h i m).extract 1 289 = sgn (sdS s i) (msgS (kroot s h) i m) := by
  unfold ksig
  rw [ext_left _ _ _ _ (by rw [front_size]; omega)]
  have := ext_right (one i) (sgn (sdS s i) (msgS (kroot s h) i m)) 1 (one_size i) 288 (sgn_size _ _)
  exact this
theorem ksig_path (s : ByteArray) (h i : Nat) (m : ByteArray) (j : Nat) (hj : j < h) : (ksig s h i m).extract (289 + 16 * j) (289 + 16 * j + 16) = pth (lfS s) i j := by
  unfold ksig
  have e := ext_shift (one i ++ sgn (sdS s i) (msgS (kroot s h) i m)) (cat (pth (lfS s) i) h) (16 * j) (16 * j + 16)
  rw [front_size] at e
  rw [Nat.add_assoc]
  exact e.trans (cat_get _ (pth_size s i) h j hj)
/-- The nodes that a signature bears. -/
def sgp (sig : ByteArray) (j : Nat) : ByteArray := sig.extract (289 + 16 * j) (289 + 16 * j + 16)
/-- What a signature of so tall a tree, with so great a leaf, leads to. -/
def led (r m sig : ByteArray) (h b : Nat) : ByteArray := rtS h (upx (frm (msgS r b m) (sig.extract 1 289)) b (sgp sig) h)
/-- Is it the signature of leaf b of a tree h tall? -/
def IsSig (sig : ByteArray) (h b : Nat) : Prop := sig.size = 289 + 16 * h ∧ h ≤ 4 ∧ PlainAid.bt sig 0 = (b : Int) ∧ b < 2 ^ h
theorem IsSig.one {sig : ByteArray} {h b h' b' : Nat} (x : IsSig sig h b) (y : IsSig sig h' b') : h = h' ∧ b = b' := by
  obtain ⟨x1, _, x2, _⟩ := x
  obtain ⟨y1, _, y2, _⟩ := y
  exact ⟨by omega, by omega⟩
theorem bt_front (a b : ByteArray) (i : Nat) (h : i < a.size) : PlainAid.bt (a ++ b) i = PlainAid.bt a i := by
  unfold PlainAid.bt
  rw [dif_pos h, dif_pos (by rw [ByteArray.size_append]; omega), ByteArray.getElem_append_left h]
theorem bt_one (i : Nat) (h : i ≤ 255) : PlainAid.bt (one i) 0 = (i : Int) := by
  have hz : 0 < (one i).size := by rw [one_size]; omega
  unfold PlainAid.bt
  rw [dif_pos hz]
  simp [one, strOfNums, ByteArray.getElem_eq_getElem_data]
  omega
theorem ksig_is (s : ByteArray) (h i : Nat) (m : ByteArray) (hh : h ≤ 4) (hi : i < 2 ^ h) : IsSig (ksig s h i m) h i := by
  have h16 : 2 ^ h ≤ 2 ^ 4 := Nat.pow_le_pow_right (by decide) hh
  refine ⟨ksig_size s h i m, hh, ?_, hi⟩
  unfold ksig
  rw [bt_front _ _ _ (by rw [front_size]; omega), bt_front _ _ _ (by rw [one_size]; omega)]
  exact bt_one i (by omega)
open Classical in
/-- Which leaf, and what is wrong. -/
noncomputable def lfV (sig : ByteArray) : Int := if ∃ h b, IsSig sig h b then PlainAid.bt sig 0 else 0
open Classical in
noncomputable def lfE (sig : ByteArray) : Int := if ∃ h b, IsSig sig h b then 0 else 4
open Classical in
/-- Did a root's key? -/
noncomputable def mvf (r m sig : ByteArray) : Bool := decide (r.size = 16 ∧ ∃ h b, IsSig sig h b ∧ led r m sig h b = r)
theorem lf_yes (sig : ByteArray) (h b : Nat) (x : IsSig sig h b) : lfV sig = (b : Int) ∧ lfE sig = 0 := by
  unfold lfV lfE; rw [if_pos ⟨h, b, x⟩, if_pos ⟨h, b, x⟩]; exact ⟨x.2.2.1, rfl⟩
theorem lf_no (sig : ByteArray) (x : ¬ ∃ h b, IsSig sig h b) : lfV sig = 0 ∧ lfE sig = 4 := by
  unfold lfV lfE; rw [if_neg x, if_neg x]; exact ⟨rfl, rfl⟩
theorem mvf_no (r m sig : ByteArray) (x : ¬ ∃ h b, IsSig sig h b) : mvf r m sig = false := by
  unfold mvf; rw [decide_eq_false_iff_not]; rintro ⟨_, h, b, y, _⟩; exact x ⟨h, b, y⟩
theorem mvf_short (r m sig : ByteArray) (x : r.size ≠ 16) : mvf r m sig = false := by
  unfold mvf; rw [decide_eq_false_iff_not]; rintro ⟨y, _⟩; exact x y
theorem mvf_yes (r m sig : ByteArray) (h b : Nat) (hr : r.size = 16) (x : IsSig sig h b) (e : led r m sig h b = r) : mvf r m sig = true := by
  simp only [mvf, decide_eq_true_eq]; exact ⟨hr, h, b, x, e⟩
theorem mvf_ne (r m sig : ByteArray) (h b : Nat) (x : IsSig sig h b) (e : led r m sig h b ≠ r) : mvf r m sig = false := by
  unfold mvf; rw [decide_eq_false_iff_not]
  rintro ⟨_, h', b', y, e'⟩
  obtain ⟨rfl, rfl⟩ := x.one y
  exact e e'
/-- What is signed leads to the key's root. -/
theorem led_ksig (s : ByteArray) (h i : Nat) (m : ByteArray) (hi : i < 2 ^ h) : led (kroot s h) m (ksig s h i m) h i = kroot s h := by
  unfold led
  rw [ksig_sgn, frm_sgn, upx_congr _ _ (sgp (ksig s h i m)) (pth (lfS s) i) h (fun j hj => ksig_path s h i m j hj)]
  exact up_root (lfS s) h i hi
theorem mvf_ksig (s : ByteArray) (h i : Nat) (m : ByteArray) (hh : h ≤ 4) (hi : i < 2 ^ h) : mvf (kroot s h) m (ksig s h i m) = true :=
  mvf_yes _ _ _ h i (mroot_size _ _) (ksig_is s h i m hh hi) (led_ksig s h i m hi)
end Go.Proofs.YtnghhagiokiaoaaDoor.Mer
