import Derived.Test.YtobfgljkckcmcaaGreatDoorYHCoiA
import Derived.Test.YtobfgljkckcmcaaGreatDoorYHCod
import Derived.Deep.MidRow
import Derived.Great.BuildSlice
set_option maxRecDepth 100000
namespace Go.Proofs.YtobfgljkckcmcaaGreatDoor.Coi
open Go.RowKit
open Mem Num Cod
set_option linter.unusedVariables false
theorem bt_nums (l : List Int) (i : Nat) (h : i < l.length) (hb : ∀ x ∈ l, 0 ≤ x ∧ x ≤ 255) : PlainAid.bt (strOfNums l) i = l.getD i 0 := by
 unfold PlainAid.bt
 rw [dif_pos (by rw [strOfNums_size]; exact h)]
 have := hb _ (List.getElem_mem h)
 simp [strOfNums, ByteArray.getElem_eq_getElem_data, List.getD, h]
 omega
theorem drop_front {a t : ByteArray} {k : Nat} (h : k = a.size) : (a ++ t).extract k (a ++ t).size = t := ByteArray.extract_append_eq_right h ByteArray.size_append
theorem back_byte (n : Int) (t : ByteArray) (hn : 0 ≤ n ∧ n ≤ 255) : byE (strOfNums [n] ++ t) = 0 ∧ PlainAid.bt (strOfNums [n] ++ t) 0 = n ∧ rdS (strOfNums [n] ++ t) 0 1 0 = t := by
 have z : (strOfNums [n]).size = 1 := by rw [strOfNums_size]; rfl
 refine ⟨?_, ?_, ?_⟩
 · unfold byE; rw [if_pos (by rw [ByteArray.size_append]; omega)]
 · rw [bt_append, if_pos (by omega), bt_nums _ _ (by simp) (by simpa using hn)]; rfl
 · unfold rdS; rw [if_pos ⟨rfl, rfl⟩]; exact drop_front z.symm
theorem back_hash (s t : ByteArray) (hs : s.size = 16) : haE (s ++ t) = 0 ∧ (s ++ t).extract 0 16 = s ∧ rdS (s ++ t) 0 16 0 = t := by
 refine ⟨?_, ByteArray.extract_append_eq_left hs.symm, ?_⟩
 · unfold haE; rw [if_pos (by rw [ByteArray.size_append]; omega)]
 · unfold rdS; rw [if_pos ⟨rfl, rfl⟩]; exact drop_front hs.symm
theorem back_blob (s t : ByteArray) (m : Int) (hs : s.size ≤ 4096) (hm : (s.size : Int) ≤ m) : blL (blobS s ++ t) = s.size ∧ blE (blobS s ++ t) m = 0 ∧ (blobS s ++ t).extract 2 (2 + s.size) = s ∧ rdS (blobS s ++ t) 0 (2 + s.size) 0 = t := by
 have z := blobS_size s
 have hb : ∀ x ∈ [(s.size : Int) / 256, (s.size : Int) % 256], 0 ≤ x ∧ x ≤ 255 := by
  intro x hx
  simp at hx
  rcases hx with rfl | rfl <;> omega
 have z2 : (strOfNums [(s.size : Int) / 256, (s.size : Int) % 256]).size = 2 := by rw [strOfNums_size]; rfl
 have b0 : PlainAid.bt (blobS s ++ t) 0 = (s.size : Int) / 256 := by
  rw [bt_append, if_pos (by omega)]; unfold blobS; rw [bt_append, if_pos (by omega), bt_nums _ _ (by simp) hb]; rfl
 have b1 : PlainAid.bt (blobS s ++ t) 1 = (s.size : Int) % 256 := by
  rw [bt_append, if_pos (by omega)]; unfold blobS; rw [bt_append, if_pos (by omega), bt_nums _ _ (by simp) hb]; rfl
 have hl : blL (blobS s ++ t) = s.size := by unfold blL; rw [b0, b1]; omega
 refine ⟨hl, ?_, ?_, ?_⟩
 · unfold blE
   rw [hl, ByteArray.size_append, if_neg (by omega), if_neg (by omega), if_neg (by omega)]
 · rw [show blobS s ++ t = strOfNums [(s.size : Int) / 256, (s.size : Int) % 256] ++ (s ++ t) by unfold blobS; rw [ByteArray.append_assoc]]
   have := @ByteArray.extract_append_size_add (strOfNums [(s.size : Int) / 256, (s.size : Int) % 256]) (s ++ t) 0 s.size
   rw [z2] at this
   rw [show 2 = 2 + 0 by rfl, show 2 + 0 + s.size = 2 + s.size by omega, this]
   exact ByteArray.extract_append_eq_left rfl
 · unfold rdS; rw [if_pos ⟨rfl, rfl⟩]; exact drop_front z.symm
theorem getN_put (n : Int) (t : ByteArray) (h0 : 0 ≤ n) (h1 : n ≤ 18446744073709551615) : getN (putS n ++ t) 8 = n := by
 have z := putS_size n
 have hb := putL_digits n h0 h1
 have b : ∀ i, i < 8 → PlainAid.bt (putS n ++ t) i = (putL n).getD i 0 := fun i hi => by
  rw [bt_append, if_pos (by omega)]; unfold putS; exact bt_nums _ _ (by simpa [putL] using hi) (fun x hx => hb x hx)
 simp only [getN, b 0 (by omega), b 1 (by omega), b 2 (by omega), b 3 (by omega), b 4 (by omega), b 5 (by omega), b 6 (by omega), b 7 (by omega)]
 simp [putL]
 omega
theorem back_num (n : Int) (t : ByteArray) (h0 : 0 ≤ n) (h1 : n ≤ 18446744073709551615) : getE (putS n ++ t) = 0 ∧ getV (putS n ++ t) = n ∧ rdS (putS n ++ t) 0 8 0 = t := by
 have z := putS_size n
 refine ⟨?_, ?_, ?_⟩
 · unfold getE; rw [if_pos (by rw [ByteArray.size_append]; omega)]
 · unfold getV; rw [if_pos (by rw [ByteArray.size_append]; omega)]; exact getN_put n t h0 h1
 · unfold rdS; rw [if_pos ⟨rfl, rfl⟩]; exact drop_front z.symm
theorem bt_ex (S : ByteArray) (a b i : Nat) (hb : b ≤ S.size) (hi : a + i < b) : PlainAid.bt (S.extract a b) i = PlainAid.bt S (a + i) := by
 unfold PlainAid.bt
 rw [dif_pos (by rw [ByteArray.size_extract]; omega), dif_pos (by omega), ByteArray.getElem_extract]
theorem bt_same (a b : ByteArray) (hs : a.size = b.size) (h : ∀ i, i < a.size → PlainAid.bt a i = PlainAid.bt b i) : a = b := by
 apply ByteArray.ext_getElem
 · exact hs
 · intro i h1 h2
   have := h i h1
   unfold PlainAid.bt at this
   rw [dif_pos h1, dif_pos h2] at this
   exact UInt8.toNat_inj.1 (by omega)
theorem cut_at (s : ByteArray) (k : Nat) (h : k ≤ s.size) : s = s.extract 0 k ++ s.extract k s.size := by
 rw [ByteArray.extract_append_extract, Nat.zero_min, Nat.max_eq_right h, ByteArray.extract_zero_size]
/-- A Reader: what is left, the error noted. -/
structure PS where
 s : ByteArray
 e : Int
namespace PS
def byV (p : PS) : Int := rdV p.e (byE p.s) (PlainAid.bt p.s 0)
def byt (p : PS) : PS := ⟨rdS p.s p.e 1 (byE p.s), failE p.e (byE p.s)⟩
def nuV (p : PS) : Int := rdV p.e (getE p.s) (getV p.s)
def num (p : PS) : PS := ⟨rdS p.s p.e 8 (getE p.s), failE p.e (getE p.s)⟩
def haV (p : PS) : ByteArray := rdT p.e (haE p.s) (p.s.extract 0 16)
def has (p : PS) : PS := ⟨rdS p.s p.e 16 (haE p.s), failE p.e (haE p.s)⟩
def blV (m : Int) (p : PS) : ByteArray := rdT p.e (blE p.s m) (p.s.extract 2 (2 + blL p.s))
def blo (m : Int) (p : PS) : PS := ⟨rdS p.s p.e (2 + blL p.s) (blE p.s m), failE p.e (blE p.s m)⟩
def fl (f : Int) (p : PS) : PS := ⟨p.s, failE p.e f⟩
def en (p : PS) : Int := endE p.s p.e
end PS
theorem rdS_size (s : ByteArray) (e : Int) (k : Nat) (pe : Int) : (rdS s e k pe).size ≤ s.size := by
 unfold rdS; split
 · rw [ByteArray.size_extract]; omega
 · exact Nat.le_refl _
namespace PS
theorem byt_le (p : PS) : p.byt.s.size ≤ p.s.size := rdS_size _ _ _ _
theorem num_le (p : PS) : p.num.s.size ≤ p.s.size := rdS_size _ _ _ _
theorem has_le (p : PS) : p.has.s.size ≤ p.s.size := rdS_size _ _ _ _
theorem blo_le (m : Int) (p : PS) : (p.blo m).s.size ≤ p.s.size := rdS_size _ _ _ _
theorem failE_err {e f : Int} (h : failE e f = 0) : e = 0 ∧ f = 0 := by
 unfold failE at h; split at h
 · exact ⟨‹_›, h⟩
 · exact absurd h ‹_›
theorem fl_ok {f : Int} {p : PS} (h : (p.fl f).e = 0) : p.e = 0 ∧ f = 0 := failE_err h
theorem byt_err {p : PS} (h : p.e ≠ 0) : p.byt = p := by unfold byt rdS failE; rw [if_neg (fun x => h x.1), if_neg h]
theorem num_err {p : PS} (h : p.e ≠ 0) : p.num = p := by unfold num rdS failE; rw [if_neg (fun x => h x.1), if_neg h]
theorem has_err {p : PS} (h : p.e ≠ 0) : p.has = p := by unfold has rdS failE; rw [if_neg (fun x => h x.1), if_neg h]
theorem blo_err {m : Int} {p : PS} (h : p.e ≠ 0) : p.blo m = p := by unfold blo rdS failE; rw [if_neg (fun x => h x.1), if_neg h]
theorem fl_err {f : Int} {p : PS} (h : p.e ≠ 0) : p.fl f = p := by unfold fl failE; rw [if_neg h]
theorem fl_0 {p : PS} : p.fl 0 = p := by unfold fl failE; cases p with | mk s e => dsimp only; split <;> simp_all
theorem en_err {p : PS} (h : p.e ≠ 0) : p.en = p.e := by unfold en endE; rw [if_neg h]
theorem en_empty : (PS.mk ByteArray.empty 0).en = 0 := by unfold en endE; rw [if_pos rfl]; exact if_pos rfl
theorem en_more (s : ByteArray) (h : 0 < s.size) : (PS.mk s 0).en = 4 := by unfold en endE; rw [if_pos rfl, if_neg (by dsimp only; omega)]
theorem byt_of (n : Int) (t : ByteArray) (hn : 0 ≤ n ∧ n ≤ 255) : (PS.mk (strOfNums [n] ++ t) 0).byV = n ∧ (PS.mk (strOfNums [n] ++ t) 0).byt = ⟨t, 0⟩ := by
 obtain ⟨a, b, c⟩ := back_byte n t hn
 unfold byV byt; dsimp only; rw [a, b, c]; exact ⟨by unfold rdV; rw [if_pos ⟨rfl, rfl⟩], by unfold failE; rw [if_pos rfl]⟩
theorem num_of (n : Int) (t : ByteArray) (hn : 0 ≤ n ∧ n ≤ 18446744073709551615) : (PS.mk (putS n ++ t) 0).nuV = n ∧ (PS.mk (putS n ++ t) 0).num = ⟨t, 0⟩ := by
 obtain ⟨a, b, c⟩ := back_num n t hn.1 hn.2
 unfold nuV num; dsimp only; rw [a, b, c]; exact ⟨by unfold rdV; rw [if_pos ⟨rfl, rfl⟩], by unfold failE; rw [if_pos rfl]⟩
theorem has_of (s t : ByteArray) (hs : s.size = 16) : (PS.mk (s ++ t) 0).haV = s ∧ (PS.mk (s ++ t) 0).has = ⟨t, 0⟩ := by
 obtain ⟨a, b, c⟩ := back_hash s t hs
 unfold haV has; dsimp only; rw [a, b, c]; exact ⟨by unfold rdT; rw [if_pos ⟨rfl, rfl⟩], by unfold failE; rw [if_pos rfl]⟩
theorem blo_of (m : Int) (s t : ByteArray) (hs : s.size ≤ 4096) (hm : (s.size : Int) ≤ m) : (PS.mk (blobS s ++ t) 0).blV m = s ∧ (PS.mk (blobS s ++ t) 0).blo m = ⟨t, 0⟩ := by
 obtain ⟨l, a, b, c⟩ := back_blob s t m hs hm
 unfold blV blo; dsimp only; rw [l, a, b, c]; exact ⟨by unfold rdT; rw [if_pos ⟨rfl, rfl⟩], by unfold failE; rw [if_pos rfl]⟩
theorem blo_by {m : Int} {p : PS} (h : (p.blo m).e = 0) : p.s = blobS (p.blV m) ++ (p.blo m).s ∧ (p.blV m).size ≤ 4096 ∧ ((p.blV m).size : Int) ≤ m := by
 obtain ⟨h1, h2⟩ := failE_err h
 have hb : 2 + blL p.s ≤ p.s.size ∧ (blL p.s : Int) ≤ m ∧ blL p.s ≤ 4096 := by
  unfold blE at h2
  split at h2
  · exact absurd h2 (by decide)
  split at h2
  · exact absurd h2 (by decide)
  split at h2
  · exact absurd h2 (by decide)
  omega
 have hv : p.blV m = p.s.extract 2 (2 + blL p.s) := by unfold blV rdT; rw [if_pos ⟨h1, h2⟩]
 have hr : (p.blo m).s = p.s.extract (2 + blL p.s) p.s.size := by unfold blo rdS; rw [if_pos ⟨h1, h2⟩]
 have hz : (p.s.extract 2 (2 + blL p.s)).size = blL p.s := by rw [ByteArray.size_extract]; omega
 rw [hr, hv, hz]
 refine ⟨?_, by omega, by omega⟩
 conv => lhs; rw [cut_at p.s 2 (by omega)]
 unfold blobS
 rw [ByteArray.append_assoc]
 have hL := blL_int p.s
 congr 1
 · have b0 := PlainAid.bt_nonneg p.s 0
   have b1 := PlainAid.bt_nonneg p.s 1
   have c0 := PlainAid.bt_le p.s 0
   have c1 := PlainAid.bt_le p.s 1
   rw [hz]
   refine bt_same _ _ (by rw [ByteArray.size_extract, strOfNums_size]; simp; omega) fun i hi => ?_
   rw [ByteArray.size_extract] at hi
   rw [bt_ex _ _ _ _ (by omega) (by omega), Nat.zero_add, bt_nums _ _ (by simp; omega) (by intro x hx; simp at hx; rcases hx with rfl | rfl <;> omega)]
   rcases (by omega : i = 0 ∨ i = 1) with rfl | rfl <;> (simp; omega)
 · rw [ByteArray.extract_append_extract]
   congr 1 <;> omega
theorem byV_in (p : PS) : 0 ≤ p.byV ∧ p.byV ≤ 255 := by
 unfold byV rdV; split
 · exact ⟨PlainAid.bt_nonneg _ _, PlainAid.bt_le _ _⟩
 · omega
theorem nuV_in (p : PS) : U64 p.nuV := by
 unfold nuV rdV; split
 · unfold getV; split
   · exact ⟨getN_nonneg _ _, by have := getN_lt p.s 8; omega⟩
   · exact ⟨by omega, by omega⟩
 · exact ⟨by omega, by omega⟩
theorem haV_le (p : PS) : p.haV.size ≤ 16 := by
 unfold haV rdT; split
 · rw [ByteArray.size_extract]; omega
 · exact Nat.zero_le _
theorem blV_le (m : Int) (p : PS) : (p.blV m).size ≤ 4096 := by
 by_cases h : (p.blo m).e = 0
 · exact (blo_by h).2.1
 · unfold blV rdT; rw [if_neg (fun x => h (by show failE _ _ = 0; unfold failE; rw [if_pos x.1]; exact x.2))]; exact Nat.zero_le _
end PS
/-- So many steps. -/
def iter (f : PS → PS) (p : PS) : Nat → PS
 | 0 => p
 | k + 1 => f (iter f p k)
theorem iter_err (f : PS → PS) (hf : ∀ p, p.e ≠ 0 → f p = p) (p : PS) (h : p.e ≠ 0) : ∀ k, iter f p k = p
 | 0 => rfl
 | k + 1 => by show f (iter f p k) = p; rw [iter_err f hf p h k]; exact hf p h
/-- Texts from the kth on, one behind the other. -/
def catF (t : Nat → ByteArray) : Nat → Nat → ByteArray
 | _, 0 => ByteArray.empty
 | k, d + 1 => t k ++ catF t (k + 1) d
theorem catF_snoc (t : Nat → ByteArray) : ∀ d k, catF t k (d + 1) = catF t k d ++ t (k + d)
 | 0, k => by show t k ++ ByteArray.empty = ByteArray.empty ++ t k; rw [ByteArray.append_empty, ByteArray.empty_append]
 | d + 1, k => by show t k ++ catF t (k + 1) (d + 1) = (t k ++ catF t (k + 1) d) ++ t (k + (d + 1)); rw [catF_snoc t d (k + 1), ByteArray.append_assoc]; congr 3; omega
theorem catN_catF (t : Nat → ByteArray) : ∀ n, catN t n = catF t 0 n
 | 0 => rfl
 | n + 1 => by rw [catF_snoc, ← catN_catF t n, Nat.zero_add]; rfl
/-- What was written is read, step by step. -/
theorem iter_of {α : Type} (f : PS → PS) (v : PS → α) (t : Nat → ByteArray) (x : Nat → α) (n : Nat) (hf : ∀ i, i < n → ∀ r, v ⟨t i ++ r, 0⟩ = x i ∧ f ⟨t i ++ r, 0⟩ = ⟨r, 0⟩) (r : ByteArray) :
 ∀ d k, k + d = n → ∀ p : PS, p = ⟨catF t k d ++ r, 0⟩ → iter f p d = ⟨r, 0⟩ ∧ ∀ i, i < d → v (iter f p i) = x (k + i)
 | 0, k, hk, p, hp => by subst hp; exact ⟨by show (⟨ByteArray.empty ++ r, 0⟩ : PS) = _; rw [ByteArray.empty_append], fun i hi => by omega⟩
 | d + 1, k, hk, p, hp => by
  subst hp
  have e1 : catF t k (d + 1) ++ r = t k ++ (catF t (k + 1) d ++ r) := by show (t k ++ catF t (k + 1) d) ++ r = _; rw [ByteArray.append_assoc]
  rw [e1]
  obtain ⟨a, b⟩ := hf k (by omega) (catF t (k + 1) d ++ r)
  obtain ⟨c1, c2⟩ := iter_of f v t x n hf r d (k + 1) (by omega) _ rfl
  have sh : ∀ m, iter f ⟨t k ++ (catF t (k + 1) d ++ r), 0⟩ (m + 1) = iter f ⟨catF t (k + 1) d ++ r, 0⟩ m := by
   intro m
   induction m with
   | zero => exact b
   | succ m ih => show f (iter f _ (m + 1)) = f (iter f _ m); rw [ih]
  refine ⟨by rw [sh]; exact c1, fun i hi => ?_⟩
  cases i with
  | zero => exact a
  | succ i => rw [sh, c2 i (by omega)]; congr 1; omega
theorem iter_of0 {α : Type} (f : PS → PS) (v : PS → α) (t : Nat → ByteArray) (x : Nat → α) (n : Nat) (hf : ∀ i, i < n → ∀ r, v ⟨t i ++ r, 0⟩ = x i ∧ f ⟨t i ++ r, 0⟩ = ⟨r, 0⟩) (r : ByteArray) :
 iter f ⟨catN t n ++ r, 0⟩ n = ⟨r, 0⟩ ∧ ∀ i, i < n → v (iter f ⟨catN t n ++ r, 0⟩ i) = x i := by
 rw [catN_catF]
 obtain ⟨a, b⟩ := iter_of f v t x n hf r n 0 (by omega) _ rfl
 exact ⟨a, fun i hi => by rw [b i hi, Nat.zero_add]⟩
open Go.RowKit
open Mem Num Cod
set_option linter.unusedVariables false
def rdW (p : PS) : WN := ⟨p.haV, p.has.nuV, p.has.num.nuV, p.has.num.num.nuV, p.has.num.num.num.nuV, p.has.num.num.num.num.haV, p.has.num.num.num.num.has.nuV, p.has.num.num.num.num.has.num.blV 400, (p.has.num.num.num.num.has.num.blo 400).blV 32, ((p.has.num.num.num.num.has.num.blo 400).blo 32).nuV⟩
def stW (p : PS) : PS := ((p.has.num.num.num.num.has.num.blo 400).blo 32).num
theorem rdW_ok (p : PS) : (rdW p).ok := by
 have s := PS.haV_le p
 have s2 := PS.haV_le p.has.num.num.num.num
 have b := PS.blV_le 400 p.has.num.num.num.num.has.num
 have b2 := PS.blV_le 32 (p.has.num.num.num.num.has.num.blo 400)
 exact ⟨by show _ ≤ _; unfold rdW; dsimp only; omega, PS.nuV_in _, PS.nuV_in _, PS.nuV_in _, PS.nuV_in _, by unfold rdW; dsimp only; omega, PS.nuV_in _, by unfold rdW; dsimp only; omega, by unfold rdW; dsimp only; omega, PS.nuV_in _⟩
theorem stW_of (x : WN) (hx : WnR x) (hk : x.ok) (r : ByteArray) : rdW ⟨wnB x ++ r, 0⟩ = x ∧ stW ⟨wnB x ++ r, 0⟩ = ⟨r, 0⟩ := by
 obtain ⟨⟨t1, t2, t3⟩, t4⟩ := hx
 have e : wnB x ++ r = x.chan ++ (putS x.serial ++ (putS x.face ++ (putS x.wins ++ (putS x.many ++ (x.commit ++ (putS x.client ++ (blobS x.sig ++ (blobS x.salt ++ (putS x.drawn ++ r))))))))) := by unfold wnB tkB; simp only [ByteArray.append_assoc]
 rw [e]
 unfold rdW stW
 obtain ⟨a1, b1⟩ := PS.has_of x.chan (putS x.serial ++ (putS x.face ++ (putS x.wins ++ (putS x.many ++ (x.commit ++ (putS x.client ++ (blobS x.sig ++ (blobS x.salt ++ (putS x.drawn ++ r))))))))) t1
 obtain ⟨a2, b2⟩ := PS.num_of x.serial (putS x.face ++ (putS x.wins ++ (putS x.many ++ (x.commit ++ (putS x.client ++ (blobS x.sig ++ (blobS x.salt ++ (putS x.drawn ++ r)))))))) hk.serial
 obtain ⟨a3, b3⟩ := PS.num_of x.face (putS x.wins ++ (putS x.many ++ (x.commit ++ (putS x.client ++ (blobS x.sig ++ (blobS x.salt ++ (putS x.drawn ++ r))))))) hk.face
 obtain ⟨a4, b4⟩ := PS.num_of x.wins (putS x.many ++ (x.commit ++ (putS x.client ++ (blobS x.sig ++ (blobS x.salt ++ (putS x.drawn ++ r)))))) hk.wins
 obtain ⟨a5, b5⟩ := PS.num_of x.many (x.commit ++ (putS x.client ++ (blobS x.sig ++ (blobS x.salt ++ (putS x.drawn ++ r))))) hk.many
 obtain ⟨a6, b6⟩ := PS.has_of x.commit (putS x.client ++ (blobS x.sig ++ (blobS x.salt ++ (putS x.drawn ++ r)))) t2
 obtain ⟨a7, b7⟩ := PS.num_of x.client (blobS x.sig ++ (blobS x.salt ++ (putS x.drawn ++ r))) hk.client
 obtain ⟨a8, b8⟩ := PS.blo_of 400 x.sig (blobS x.salt ++ (putS x.drawn ++ r)) (by omega) (by omega)
 obtain ⟨a9, b9⟩ := PS.blo_of 32 x.salt (putS x.drawn ++ r) (by omega) (by omega)
 obtain ⟨a10, b10⟩ := PS.num_of x.drawn r hk.drawn
 simp only [a1, b1, a2, b2, a3, b3, a4, b4, a5, b5, a6, b6, a7, b7, a8, b8, a9, b9, a10, b10]
 first | exact ⟨rfl, rfl⟩ | exact ⟨trivial, rfl⟩ | simp
def PF.zero : PF := ⟨0, ⟨#[]⟩, ⟨#[]⟩, 0, fun _ => ⟨⟨#[]⟩, 0, 0, 0, 0, ⟨#[]⟩, 0, ⟨#[]⟩, ⟨#[]⟩, 0⟩⟩
/-- A proof's head is read. -/
def ndP (s : ByteArray) : PS := ((PS.mk s 0).num.blo 400).blo 16
def ndK (s : ByteArray) : Nat := (min (ndP s).byV 4).toNat
def ndQ (s : ByteArray) (i : Nat) : PS := iter stW (ndP s).byt i
def ndX (s : ByteArray) : PF := ⟨(PS.mk s 0).nuV, (PS.mk s 0).num.blV 400, ((PS.mk s 0).num.blo 400).blV 16, ndK s, fun i => rdW (ndQ s i)⟩
open Classical in
noncomputable def ndE (s : ByteArray) : Int := if (ndQ s (ndK s)).en = 0 then (if RightP (ndX s) then 0 else 4) else (ndQ s (ndK s)).en
open Classical in
noncomputable def ndV (s : ByteArray) : PF := if ndE s = 0 then ndX s else PF.zero
theorem ndK_le (s : ByteArray) : ndK s ≤ 4 := by unfold ndK; have := PS.byV_in (ndP s); omega
theorem ndX_ok (s : ByteArray) : (ndX s).ok := by
 have b := PS.blV_le 400 (PS.mk s 0).num
 have b2 := PS.blV_le 16 ((PS.mk s 0).num.blo 400)
 have k := ndK_le s
 exact ⟨PS.nuV_in _, by unfold ndX; dsimp only; omega, by unfold ndX; dsimp only; omega, by unfold ndX; dsimp only; omega, fun i _ => rdW_ok _⟩
theorem PFz_ok : PF.zero.ok := ⟨⟨by decide, by decide⟩, by decide, by decide, by decide, fun i hi => absurd hi (by show ¬ i < 0; omega)⟩
theorem ndV_ok (s : ByteArray) : (ndV s).ok := by unfold ndV; split; exact ndX_ok s; exact PFz_ok
theorem ndV_err {s : ByteArray} (h : ndE s ≠ 0) : ndV s = PF.zero := by unfold ndV; rw [if_neg h]
/-- What was encoded is decoded. -/
theorem nd_of (p : PF) (h : RightP p) (hk : p.ok) : ndE (pfB p) = 0 ∧ SamP (ndV (pfB p)) p := by
 obtain ⟨h1, h2, h3, h4⟩ := h
 have e : pfB p = putS p.amount ++ (blobS p.sig ++ (blobS p.token ++ (strOfNums [(p.n : Int)] ++ (catN (fun i => wnB (p.w i)) p.n ++ ByteArray.empty)))) := by unfold pfB; simp only [ByteArray.append_assoc, ByteArray.append_empty]
 obtain ⟨a1, b1⟩ := PS.num_of p.amount (blobS p.sig ++ (blobS p.token ++ (strOfNums [(p.n : Int)] ++ (catN (fun i => wnB (p.w i)) p.n ++ ByteArray.empty)))) hk.amount
 obtain ⟨a2, b2⟩ := PS.blo_of 400 p.sig (blobS p.token ++ (strOfNums [(p.n : Int)] ++ (catN (fun i => wnB (p.w i)) p.n ++ ByteArray.empty))) (by omega) (by omega)
 obtain ⟨a3, b3⟩ := PS.blo_of 16 p.token (strOfNums [(p.n : Int)] ++ (catN (fun i => wnB (p.w i)) p.n ++ ByteArray.empty)) (by omega) (by omega)
 obtain ⟨a4, b4⟩ := PS.byt_of (p.n : Int) (catN (fun i => wnB (p.w i)) p.n ++ ByteArray.empty) (by omega)
 obtain ⟨a5, b5⟩ := iter_of0 stW rdW (fun i => wnB (p.w i)) p.w p.n (fun i hi r => stW_of _ (h4 i hi) (hk.w i hi) r) ByteArray.empty
 rw [← e] at a1 b1
 have c3 : ndP (pfB p) = ⟨strOfNums [(p.n : Int)] ++ (catN (fun i => wnB (p.w i)) p.n ++ ByteArray.empty), 0⟩ := by unfold ndP; rw [b1, b2, b3]
 have ck : ndK (pfB p) = p.n := by unfold ndK; rw [c3, a4]; omega
 have cq : ∀ i, ndQ (pfB p) i = iter stW ⟨catN (fun i => wnB (p.w i)) p.n ++ ByteArray.empty, 0⟩ i := fun i => by unfold ndQ; rw [c3, b4]
 have cs : (pfB p).size = (pfB p).size := rfl
 generalize pfB p = B at *
 have c1 : (ndX B).amount = p.amount := a1
 have c2 : (ndX B).sig = p.sig := by show (PS.mk B 0).num.blV 400 = _; rw [b1]; exact a2
 have c3' : (ndX B).token = p.token := by show ((PS.mk B 0).num.blo 400).blV 16 = _; rw [b1, b2]; exact a3
 have c4 : (ndX B).n = p.n := by show ndK B = p.n; exact ck
 have c5 : ∀ i, i < (ndX B).n → (ndX B).w i = p.w i := fun i hi => by
  rw [c4] at hi
  show rdW (ndQ B i) = _
  rw [cq]; exact b5 i hi
 have cx : SamP (ndX B) p := ⟨c1, c2, c3', c4, c5⟩
 have cr : RightP (ndX B) := by
  obtain ⟨x1, x2, x3, x4, x5⟩ := cx
  exact ⟨by rw [x2]; exact h1, by rw [x3]; exact h2, by rw [x4]; exact h3, fun i hi => by rw [x5 i hi]; exact h4 i (by rw [← x4]; exact hi)⟩
 have ce : ndE B = 0 := by unfold ndE; rw [ck, cq, a5, if_pos PS.en_empty, if_pos cr]
 refine ⟨ce, ?_⟩
 unfold ndV; rw [if_pos ce]; exact cx
def rdI (p : PS) : IN := ⟨p.haV, p.has.byV, p.has.byt.byV, ⟨#[]⟩⟩
def stI (p : PS) : PS := p.has.byt.byt
def cn (p : PS) : Nat := if 1 ≤ p.byV ∧ p.byV ≤ 4 then p.byV.toNat else 0
def cnP (p : PS) : PS := if 1 ≤ p.byV ∧ p.byV ≤ 4 then p.byt else p.byt.fl 4
def rdO (sm : Int → Int) (p : PS) : OU :=
 if p.byV = 2 then ⟨p.byV, p.byt.nuV, p.byt.num.haV, p.byt.num.has.haV, sm p.byt.num.has.has.nuV, p.byt.num.has.has.num.haV, p.byt.num.has.has.num.has.nuV, sm p.byt.num.has.has.num.has.num.nuV, ⟨#[]⟩⟩
 else if p.byV = 3 then ⟨p.byV, p.byt.nuV, p.byt.num.haV, p.byt.num.has.haV, sm p.byt.num.has.has.nuV, ⟨#[]⟩, 0, 0, p.byt.num.has.has.num.haV⟩
 else ⟨p.byV, p.byt.nuV, p.byt.num.haV, ⟨#[]⟩, 0, ⟨#[]⟩, 0, 0, ⟨#[]⟩⟩
def stO (p : PS) : PS :=
 if p.byV = 2 then p.byt.num.has.has.num.has.num.num
 else if p.byV = 3 then p.byt.num.has.has.num.has
 else if p.byV = 1 then p.byt.num.has else p.byt.num.has.fl 4
def coP0 (c : ByteArray) : PS := if (PS.mk c 0).byV = 67 then (PS.mk c 0).byt else (PS.mk c 0).byt.fl 4
def coN (c : ByteArray) : Nat := cn (coP0 c)
def coQ (c : ByteArray) (i : Nat) : PS := iter stI (cnP (coP0 c)) i
def coM (c : ByteArray) : Nat := cn (coQ c (coN c))
def coR (c : ByteArray) (i : Nat) : PS := iter stO (cnP (coQ c (coN c))) i
def coX (sm : Int → Int) (c : ByteArray) : TX := ⟨coN c, fun i => rdI (coQ c i), coM c, fun i => rdO sm (coR c i), PF.zero⟩
def coE (c : ByteArray) : Int := if c.size = 0 then 4 else (coR c (coM c)).en
def TX.zero : TX := ⟨0, fun _ => ⟨⟨#[]⟩, 0, 0, ⟨#[]⟩⟩, 0, fun _ => ⟨0, 0, ⟨#[]⟩, ⟨#[]⟩, 0, ⟨#[]⟩, 0, 0, ⟨#[]⟩⟩, PF.zero⟩
def deC (s : ByteArray) : ByteArray := (PS.mk s 0).blV 4096
def deP (s : ByteArray) : PS := (PS.mk s 0).blo 4096
def deQ (s : ByteArray) (i : Nat) : PS := iter (PS.blo 400) (deP s) i
def deB (s : ByteArray) : ByteArray := (deQ s (coN (deC s))).blV 4096
def deR (s : ByteArray) : PS := (deQ s (coN (deC s))).blo 4096
noncomputable def deX (sm : Int → Int) (s : ByteArray) : TX := ⟨coN (deC s), fun i => { rdI (coQ (deC s) i) with sig := (deQ s i).blV 400 }, coM (deC s), fun i => rdO sm (coR (deC s) i), ndV (deB s)⟩
open Classical in
noncomputable def deE (sm : Int → Int) (s : ByteArray) : Int :=
 if (deP s).e ≠ 0 then (deP s).e else if coE (deC s) ≠ 0 then coE (deC s) else if (deR s).e ≠ 0 then (deR s).e else if ndE (deB s) ≠ 0 then ndE (deB s) else if 0 < (deR s).s.size ∨ ¬ RightT (deX sm s) then 4 else 0
open Classical in
noncomputable def deV (sm : Int → Int) (s : ByteArray) : TX := if deE sm s = 0 then deX sm s else TX.zero
theorem cn_le (p : PS) : cn p ≤ 4 := by unfold cn; split <;> omega
/-- Numbers as ints: those that find room, and others. -/
structure Small (sm : Int → Int) : Prop where
 in_ : ∀ n, 0 ≤ n → n ≤ 9223372036854775807 → sm n = n
 out : ∀ n, 9223372036854775807 < n → n ≤ 18446744073709551615 → sm n < 0
 bd : ∀ n, 0 ≤ n → n ≤ 18446744073709551615 → I64 (sm n)
theorem rdI_ok (p : PS) : (rdI p).ok := by
 have a := PS.haV_le p
 have b := PS.byV_in p.has
 have c := PS.byV_in p.has.byt
 exact ⟨by unfold rdI; dsimp only; omega, ⟨by unfold rdI; dsimp only; omega, by unfold rdI; dsimp only; omega⟩, ⟨by unfold rdI; dsimp only; omega, by unfold rdI; dsimp only; omega⟩, by show (0 : Nat) ≤ _; omega⟩
theorem U64.i64 {n : Int} (h : U64 n) {sm : Int → Int} (hm : Small sm) : I64 (sm n) := hm.bd n h.1 h.2
theorem rdO_ok {sm : Int → Int} (hm : Small sm) (p : PS) : (rdO sm p).ok := by
 have a := PS.byV_in p
 have b := PS.haV_le p.byt.num
 have c := PS.haV_le p.byt.num.has
 have d := PS.haV_le p.byt.num.has.has.num
 have z : U64 0 := ⟨by decide, by decide⟩
 have z' : I64 0 := ⟨by decide, by decide⟩
 have e : I64 p.byV := ⟨by omega, by omega⟩
 have s0 : (⟨#[]⟩ : ByteArray).size ≤ 1000000 := by decide
 unfold rdO
 split
 · exact ⟨e, PS.nuV_in _, by dsimp only; omega, by dsimp only; omega, (PS.nuV_in _).i64 hm, by dsimp only; omega, PS.nuV_in _, (PS.nuV_in _).i64 hm, s0⟩
 split
 · exact ⟨e, PS.nuV_in _, by dsimp only; omega, by dsimp only; omega, (PS.nuV_in _).i64 hm, s0, z, z', by dsimp only; omega⟩
 · exact ⟨e, PS.nuV_in _, by dsimp only; omega, s0, z', s0, z, z', s0⟩
theorem coN_le (c : ByteArray) : coN c ≤ 4 := cn_le _
theorem coM_le (c : ByteArray) : coM c ≤ 4 := cn_le _
theorem coX_ok {sm : Int → Int} (hm : Small sm) (c : ByteArray) : (coX sm c).ok :=
 ⟨by have := coN_le c; show coN c ≤ 100; omega, fun i _ => rdI_ok _, by have := coM_le c; show coM c ≤ 100; omega, fun i _ => rdO_ok hm _, PFz_ok⟩
theorem TXz_ok : TX.zero.ok := ⟨by decide, fun i hi => absurd hi (by show ¬ i < 0; omega), by decide, fun i hi => absurd hi (by show ¬ i < 0; omega), PFz_ok⟩
theorem deX_ok {sm : Int → Int} (hm : Small sm) (s : ByteArray) : (deX sm s).ok :=
 ⟨by have := coN_le (deC s); show coN (deC s) ≤ 100; omega, fun i _ => ⟨(rdI_ok _).tx, (rdI_ok _).out, (rdI_ok _).path, by have := PS.blV_le 400 (deQ s i); show _ ≤ 1000000; unfold deX; dsimp only; omega⟩, by have := coM_le (deC s); show coM (deC s) ≤ 100; omega, fun i _ => rdO_ok hm _, ndV_ok _⟩
theorem deV_ok {sm : Int → Int} (hm : Small sm) (s : ByteArray) : (deV sm s).ok := by unfold deV; split; exact deX_ok hm s; exact TXz_ok
theorem deE_0 {sm : Int → Int} {s : ByteArray} (h : deE sm s = 0) : (deP s).e = 0 ∧ coE (deC s) = 0 ∧ (deR s).e = 0 ∧ ndE (deB s) = 0 ∧ (deR s).s.size = 0 ∧ RightT (deX sm s) ∧ deV sm s = deX sm s := by
 have h0 := h
 unfold deE at h
 split at h
 · exact absurd h ‹_›
 rename_i h1
 split at h
 · exact absurd h ‹_›
 rename_i h2
 split at h
 · exact absurd h ‹_›
 rename_i h3
 split at h
 · exact absurd h ‹_›
 rename_i h4
 split at h
 · exact absurd h (by decide)
 rename_i h5
 exact ⟨by simpa using h1, by simpa using h2, by simpa using h3, by simpa using h4, by omega, Classical.byContradiction fun x => h5 (.inr x), by unfold deV; rw [if_pos h0]⟩
theorem deE_yes {sm : Int → Int} {s : ByteArray} (h1 : (deP s).e = 0) (h2 : coE (deC s) = 0) (h3 : (deR s).e = 0) (h4 : ndE (deB s) = 0) (h5 : (deR s).s.size = 0) (h6 : RightT (deX sm s)) : deE sm s = 0 := by
 unfold deE
 rw [if_neg (by simpa using h1), if_neg (by simpa using h2), if_neg (by simpa using h3), if_neg (by simpa using h4), if_neg (fun x => x.elim (fun y => by omega) (fun y => y h6))]
theorem SamR.symm {α : Type} {n n' : Nat} {f f' : Nat → α} (h : SamR n n' f f') : SamR n' n f' f := ⟨h.1.symm, fun i hi => (h.2 i (by rw [h.1]; exact hi)).symm⟩
theorem SamP.symm {a b : PF} (h : SamP a b) : SamP b a := ⟨h.1.symm, h.2.1.symm, h.2.2.1.symm, SamR.symm h.2.2.2⟩
theorem SamT.symm {a b : TX} (h : SamT a b) : SamT b a := ⟨SamR.symm h.1, SamR.symm h.2.1, SamP.symm h.2.2⟩
theorem SamR.trans {α : Type} {n n' n'' : Nat} {f f' f'' : Nat → α} (h : SamR n n' f f') (k : SamR n' n'' f' f'') : SamR n n'' f f'' := ⟨h.1.trans k.1, fun i hi => (h.2 i hi).trans (k.2 i (by rw [← h.1]; exact hi))⟩
theorem SamP.trans {a b c : PF} (h : SamP a b) (k : SamP b c) : SamP a c := ⟨h.1.trans k.1, h.2.1.trans k.2.1, h.2.2.1.trans k.2.2.1, SamR.trans h.2.2.2 k.2.2.2⟩
theorem SamT.trans {a b c : TX} (h : SamT a b) (k : SamT b c) : SamT a c := ⟨SamR.trans h.1 k.1, SamR.trans h.2.1 k.2.1, SamP.trans h.2.2 k.2.2⟩
theorem rightP_sam {a b : PF} (h : SamP a b) (k : RightP b) : RightP a := by
 obtain ⟨x1, x2, x3, x4, x5⟩ := h
 exact ⟨by rw [x2]; exact k.1, by rw [x3]; exact k.2.1, by rw [x4]; exact k.2.2.1, fun i hi => by rw [x5 i hi]; exact k.2.2.2 i (by rw [← x4]; exact hi)⟩
theorem right_sam {a b : TX} (h : SamT a b) (k : RightT b) : RightT a := by
 obtain ⟨⟨x1, x2⟩, ⟨x3, x4⟩, x5⟩ := h
 obtain ⟨k1, k2, k3, k4, k5, k6, k7, k8⟩ := k
 refine ⟨by omega, by omega, fun i hi => by rw [x2 i hi]; exact k3 i (by omega), ?_, by omega, by omega, fun i hi => by rw [x4 i hi]; exact k7 i (by omega), rightP_sam x5 k8⟩
 rintro ⟨i, hi, j, hj, hp⟩
 refine k4 ⟨i, by omega, j, hj, ?_⟩
 rw [← x2 i hi, ← x2 j (by omega)]; exact hp
theorem zero_ba {s : ByteArray} (h : s.size = 0) : s = ⟨#[]⟩ := ByteArray.size_eq_zero_iff.1 h
theorem stI_of (x : IN) (hx : InR x) (r : ByteArray) : rdI ⟨inB x ++ r, 0⟩ = { x with sig := ⟨#[]⟩ } ∧ stI ⟨inB x ++ r, 0⟩ = ⟨r, 0⟩ := by
 obtain ⟨t1, t2, t3, t4, t5, t6⟩ := hx
 have e : inB x ++ r = x.tx ++ (strOfNums [x.out] ++ (strOfNums [x.path] ++ r)) := by unfold inB; simp only [ByteArray.append_assoc]
 rw [e]
 obtain ⟨a1, b1⟩ := PS.has_of x.tx (strOfNums [x.out] ++ (strOfNums [x.path] ++ r)) t1
 obtain ⟨a2, b2⟩ := PS.byt_of x.out (strOfNums [x.path] ++ r) (by omega)
 obtain ⟨a3, b3⟩ := PS.byt_of x.path r (by omega)
 unfold rdI stI
 rw [b1, b2]
 exact ⟨by rw [a1, a2, a3], b3⟩
theorem stO_of {sm : Int → Int} (hm : Small sm) (x : OU) (hx : Fit x) (hk : x.ok) (r : ByteArray) : rdO sm ⟨ouB x ++ r, 0⟩ = x ∧ stO ⟨ouB x ++ r, 0⟩ = ⟨r, 0⟩ := by
 obtain ⟨f1, f2, f3⟩ := hx
 have hA := hk.amount
 have hU := hk.unit
 obtain ⟨kind, amount, key, gate, expiry, anchor, unit, tokens, of_⟩ := x
 dsimp only at *
 rcases f3 with ⟨rfl, g1, rfl, g2, rfl, rfl, g3⟩ | ⟨rfl, g1, g2, g3, g4, g5, g6, g7⟩ | ⟨rfl, g1, g2, g3, g4, g5, rfl, rfl⟩
 · have e : ouB ⟨1, amount, key, gate, 0, anchor, 0, 0, of_⟩ ++ r = strOfNums [1] ++ (putS amount ++ (key ++ r)) := by unfold ouB; rw [if_neg (by dsimp only; omega), if_neg (by dsimp only; omega)]; simp only [ByteArray.append_assoc, ByteArray.append_empty]
   rw [e, zero_ba g1, zero_ba g2, zero_ba g3]
   obtain ⟨a1, b1⟩ := PS.byt_of 1 (putS amount ++ (key ++ r)) (by omega)
   obtain ⟨a2, b2⟩ := PS.num_of amount (key ++ r) hA
   obtain ⟨a3, b3⟩ := PS.has_of key r f2
   unfold rdO stO
   rw [a1, if_neg (by omega), if_neg (by omega), if_neg (by omega), if_neg (by omega), if_pos rfl, b1, b2, b3, a2, a3]
   exact ⟨rfl, rfl⟩
 · have e : ouB ⟨2, amount, key, gate, expiry, anchor, unit, tokens, of_⟩ ++ r = strOfNums [2] ++ (putS amount ++ (key ++ (gate ++ (putS expiry ++ (anchor ++ (putS unit ++ (putS tokens ++ r))))))) := by unfold ouB; rw [if_pos rfl]; simp only [ByteArray.append_assoc]
   rw [e, zero_ba g7]
   obtain ⟨a1, b1⟩ := PS.byt_of 2 (putS amount ++ (key ++ (gate ++ (putS expiry ++ (anchor ++ (putS unit ++ (putS tokens ++ r))))))) (by omega)
   obtain ⟨a2, b2⟩ := PS.num_of amount (key ++ (gate ++ (putS expiry ++ (anchor ++ (putS unit ++ (putS tokens ++ r)))))) hA
   obtain ⟨a3, b3⟩ := PS.has_of key (gate ++ (putS expiry ++ (anchor ++ (putS unit ++ (putS tokens ++ r))))) f2
   obtain ⟨a4, b4⟩ := PS.has_of gate (putS expiry ++ (anchor ++ (putS unit ++ (putS tokens ++ r)))) g1
   obtain ⟨a5, b5⟩ := PS.num_of expiry (anchor ++ (putS unit ++ (putS tokens ++ r))) (by omega)
   obtain ⟨a6, b6⟩ := PS.has_of anchor (putS unit ++ (putS tokens ++ r)) g2
   obtain ⟨a7, b7⟩ := PS.num_of unit (putS tokens ++ r) hU
   obtain ⟨a8, b8⟩ := PS.num_of tokens r (by omega)
   unfold rdO stO
   rw [a1, if_pos rfl, if_pos rfl]
   simp only [b1, b2, b3, b4, b5, b6, b7, b8, a2, a3, a4, a5, a6, a7, a8]
   rw [hm.in_ _ (by omega) (by omega), hm.in_ _ (by omega) (by omega)]
   exact ⟨rfl, trivial⟩
 · have e : ouB ⟨3, amount, key, gate, expiry, anchor, 0, 0, of_⟩ ++ r = strOfNums [3] ++ (putS amount ++ (key ++ (gate ++ (putS expiry ++ (of_ ++ r))))) := by unfold ouB; rw [if_neg (by dsimp only; omega), if_pos rfl]; simp only [ByteArray.append_assoc]
   rw [e, zero_ba g5]
   obtain ⟨a1, b1⟩ := PS.byt_of 3 (putS amount ++ (key ++ (gate ++ (putS expiry ++ (of_ ++ r))))) (by omega)
   obtain ⟨a2, b2⟩ := PS.num_of amount (key ++ (gate ++ (putS expiry ++ (of_ ++ r)))) hA
   obtain ⟨a3, b3⟩ := PS.has_of key (gate ++ (putS expiry ++ (of_ ++ r))) f2
   obtain ⟨a4, b4⟩ := PS.has_of gate (putS expiry ++ (of_ ++ r)) g1
   obtain ⟨a5, b5⟩ := PS.num_of expiry (of_ ++ r) (by omega)
   obtain ⟨a6, b6⟩ := PS.has_of of_ r g2
   unfold rdO stO
   rw [a1, if_neg (by omega), if_pos rfl, if_neg (by omega), if_pos rfl]
   simp only [b1, b2, b3, b4, b5, b6, a2, a3, a4, a5, a6]
   rw [hm.in_ _ (by omega) (by omega)]
   exact ⟨rfl, trivial⟩
theorem cn_of (n : Nat) (r : ByteArray) (h : 1 ≤ n ∧ n ≤ 4) : cn ⟨strOfNums [(n : Int)] ++ r, 0⟩ = n ∧ cnP ⟨strOfNums [(n : Int)] ++ r, 0⟩ = ⟨r, 0⟩ := by
 obtain ⟨a, b⟩ := PS.byt_of (n : Int) r (by omega)
 unfold cn cnP
 rw [a, b, if_pos (by omega), if_pos (by omega)]
 exact ⟨by omega, rfl⟩
theorem co_of {sm : Int → Int} (hm : Small sm) (t : TX) (h : RightT t) (hk : t.ok) : coE (coreS t) = 0 ∧ coN (coreS t) = t.nI ∧ coM (coreS t) = t.nO ∧ (∀ i, i < t.nI → rdI (coQ (coreS t) i) = { t.ins i with sig := ⟨#[]⟩ }) ∧ (∀ i, i < t.nO → rdO sm (coR (coreS t) i) = t.outs i) := by
 obtain ⟨h1, h2, h3, _, h5, h6, h7, _⟩ := h
 have pos := coreS_pos t
 have e : coreS t = strOfNums [67] ++ (strOfNums [(t.nI : Int)] ++ (catN (fun i => inB (t.ins i)) t.nI ++ (strOfNums [(t.nO : Int)] ++ (catN (fun i => ouB (t.outs i)) t.nO ++ ByteArray.empty)))) := by unfold coreS; simp only [ByteArray.append_assoc, ByteArray.append_empty]
 obtain ⟨a1, b1⟩ := PS.byt_of 67 (strOfNums [(t.nI : Int)] ++ (catN (fun i => inB (t.ins i)) t.nI ++ (strOfNums [(t.nO : Int)] ++ (catN (fun i => ouB (t.outs i)) t.nO ++ ByteArray.empty)))) (by omega)
 obtain ⟨a2, b2⟩ := cn_of t.nI (catN (fun i => inB (t.ins i)) t.nI ++ (strOfNums [(t.nO : Int)] ++ (catN (fun i => ouB (t.outs i)) t.nO ++ ByteArray.empty))) ⟨h1, h2⟩
 obtain ⟨a3, b3⟩ := iter_of0 stI rdI (fun i => inB (t.ins i)) (fun i => { t.ins i with sig := ⟨#[]⟩ }) t.nI (fun i hi r => stI_of _ (h3 i hi) r) (strOfNums [(t.nO : Int)] ++ (catN (fun i => ouB (t.outs i)) t.nO ++ ByteArray.empty))
 obtain ⟨a4, b4⟩ := cn_of t.nO (catN (fun i => ouB (t.outs i)) t.nO ++ ByteArray.empty) ⟨h5, h6⟩
 obtain ⟨a5, b5⟩ := iter_of0 stO (rdO sm) (fun i => ouB (t.outs i)) t.outs t.nO (fun i hi r => stO_of hm _ (h7 i hi) (hk.outs i hi) r) ByteArray.empty
 rw [← e] at a1 b1
 generalize coreS t = B at *
 have c0 : coP0 B = ⟨strOfNums [(t.nI : Int)] ++ (catN (fun i => inB (t.ins i)) t.nI ++ (strOfNums [(t.nO : Int)] ++ (catN (fun i => ouB (t.outs i)) t.nO ++ ByteArray.empty))), 0⟩ := by unfold coP0; rw [a1, if_pos rfl, b1]
 have c1 : coN B = t.nI := by unfold coN; rw [c0]; exact a2
 have c2 : ∀ i, coQ B i = iter stI ⟨catN (fun i => inB (t.ins i)) t.nI ++ (strOfNums [(t.nO : Int)] ++ (catN (fun i => ouB (t.outs i)) t.nO ++ ByteArray.empty)), 0⟩ i := fun i => by unfold coQ; rw [c0, b2]
 have c3 : coM B = t.nO := by unfold coM; rw [c1, c2, a3]; exact a4
 have c4 : ∀ i, coR B i = iter stO ⟨catN (fun i => ouB (t.outs i)) t.nO ++ ByteArray.empty, 0⟩ i := fun i => by unfold coR; rw [c1, c2, a3, b4]
 refine ⟨?_, c1, c3, fun i hi => by rw [c2]; exact b3 i hi, fun i hi => by rw [c4]; exact b5 i hi⟩
 unfold coE
 rw [if_neg (by omega), c3, c4, a5]
 exact PS.en_empty
/-- What was encoded is read, whatever stands behind it. -/
theorem de_of {sm : Int → Int} (hm : Small sm) (t : TX) (h : RightT t) (hk : t.ok) (x : ByteArray) :
 (deP (txB t ++ x)).e = 0 ∧ coE (deC (txB t ++ x)) = 0 ∧ deR (txB t ++ x) = ⟨x, 0⟩ ∧ ndE (deB (txB t ++ x)) = 0 ∧ SamT (deX sm (txB t ++ x)) t ∧ RightT (deX sm (txB t ++ x)) := by
 obtain ⟨k1, k2, k3, k4, k5⟩ := co_of hm t h hk
 obtain ⟨p1, p2⟩ := nd_of t.p h.2.2.2.2.2.2.2 hk.p
 have z1 := coreS_size t h
 have z2 := pfB_size t.p h.2.2.2.2.2.2.2
 have e : txB t ++ x = blobS (coreS t) ++ (catN (fun i => blobS (t.ins i).sig) t.nI ++ (blobS (pfB t.p) ++ x)) := by unfold txB; simp only [ByteArray.append_assoc]
 obtain ⟨a1, b1⟩ := PS.blo_of 4096 (coreS t) (catN (fun i => blobS (t.ins i).sig) t.nI ++ (blobS (pfB t.p) ++ x)) (by omega) (by omega)
 obtain ⟨a2, b2⟩ := iter_of0 (PS.blo 400) (PS.blV 400) (fun i => blobS (t.ins i).sig) (fun i => (t.ins i).sig) t.nI (fun i hi r => by have := (h.2.2.1 i hi).2.2.2.2.2; exact PS.blo_of 400 _ r (by omega) (by omega)) (blobS (pfB t.p) ++ x)
 obtain ⟨a3, b3⟩ := PS.blo_of 4096 (pfB t.p) x (by omega) (by omega)
 rw [← e] at a1 b1
 generalize txB t ++ x = B at *
 have c1 : deC B = coreS t := a1
 have c2 : deP B = ⟨catN (fun i => blobS (t.ins i).sig) t.nI ++ (blobS (pfB t.p) ++ x), 0⟩ := b1
 have c3 : ∀ i, deQ B i = iter (PS.blo 400) ⟨catN (fun i => blobS (t.ins i).sig) t.nI ++ (blobS (pfB t.p) ++ x), 0⟩ i := fun i => by unfold deQ; rw [c2]
 have c4 : deB B = pfB t.p := by unfold deB; rw [c1, k2, c3, a2]; exact a3
 have c5 : deR B = ⟨x, 0⟩ := by unfold deR; rw [c1, k2, c3, a2]; exact b3
 have d1 : (deX sm B).nI = t.nI := by show coN (deC B) = _; rw [c1]; exact k2
 have d2 : ∀ i, i < (deX sm B).nI → (deX sm B).ins i = t.ins i := fun i hi => by
  rw [d1] at hi
  show { rdI (coQ (deC B) i) with sig := (deQ B i).blV 400 } = t.ins i
  rw [c1, k4 i hi, c3, b2 i hi]
 have d3 : (deX sm B).nO = t.nO := by show coM (deC B) = _; rw [c1]; exact k3
 have d4 : ∀ i, i < (deX sm B).nO → (deX sm B).outs i = t.outs i := fun i hi => by
  rw [d3] at hi
  show rdO sm (coR (deC B) i) = t.outs i
  rw [c1]; exact k5 i hi
 have d5 : SamP (deX sm B).p t.p := by show SamP (ndV (deB B)) t.p; rw [c4]; exact p2
 have ds : SamT (deX sm B) t := ⟨⟨d1, d2⟩, ⟨d3, d4⟩, d5⟩
 refine ⟨by rw [c2], by rw [c1]; exact k1, c5, by rw [c4]; exact p1, ds, ?_⟩
 exact right_sam ds h
theorem de_ok {sm : Int → Int} (hm : Small sm) (t : TX) (h : RightT t) (hk : t.ok) : deE sm (txB t) = 0 ∧ SamT (deV sm (txB t)) t := by
 have := de_of hm t h hk ByteArray.empty
 rw [ByteArray.append_empty] at this
 obtain ⟨h1, h2, h3, h4, h5, h6⟩ := this
 have e := deE_yes h1 h2 (by rw [h3]) h4 (by rw [h3]; rfl) h6
 exact ⟨e, by unfold deV; rw [if_pos e]; exact h5⟩
theorem small_wrap : Small IntKind.i64.wrap := by
 refine ⟨fun n h0 h1 => ?_, fun n h0 h1 => ?_, fun n h0 h1 => ?_⟩
 · rw [IntKind.wrap_i64]; omega
 · rw [IntKind.wrap_i64]; omega
 · unfold I64; rw [IntKind.wrap_i64]; omega
def smallD (n : Int) : Int := if 9223372036854775807 < n then -1 else n
/-- A block of one's own: its cells, none of them shut. -/
structure Box (w : World) (b : Nat) (cs : List Value) : Prop where
 at_ : ∀ j v, cs[j]? = some v → w.cell? ⟨b, j, none⟩ = some v
 fz : ∀ j, w.frozen? ⟨b, j, none⟩ = false
 lt : b < w.heap.size
section
variable {w w' : World} {b g : Nat} {cs : List Value}
theorem Box.new (w : World) (cs : List Value) (t : TypeId) : Box (w.alloc (.cells cs.toArray t)) w.heap.size cs :=
 ⟨fun j v h => by rw [World.cell?_alloc_at _ _ _ _ rfl]; simpa using h, made_frozen w _ _, by simp⟩
theorem Box.q (h : Box w b cs) (q : Q w w') : Box w' b cs :=
 ⟨fun j v hv => Q.cell' q (h.at_ j v hv), fun j => by rw [q.frozen (p := ⟨b, j, none⟩) h.lt]; exact h.fz j, Nat.lt_of_lt_of_le h.lt q.size⟩
theorem Box.ch (h : Box w b cs) (c : Ch g w w') (hne : b ≠ g) : Box w' b cs :=
 ⟨fun j v hv => c.cell (h.at_ j v hv) hne, fun j => by rw [c.frozen (a := ⟨b, j, none⟩) h.lt hne]; exact h.fz j, Nat.lt_of_lt_of_le h.lt c.size⟩
end
theorem ch_setCells {b : Nat} : ∀ (vs : List Value) (o : Nat) (w : World), Ch b w (w.setCells b o vs)
 | [], _, w => Ch.refl _ w
 | v :: r, o, w => (Ch.set w b o v).trans (ch_setCells r (o + 1) _)
theorem Box.stored {w : World} {b : Nat} {cs cs' : List Value} (h : Box w b cs) (hl : cs'.length = cs.length) : Box (w.setCells b 0 cs') b cs' ∧ Ch b w (w.setCells b 0 cs') := by
 refine ⟨⟨fun j v hv => ?_, fun j => by rw [World.frozen?_setCells]; exact h.fz j, by rw [setCells_size]; exact h.lt⟩, ch_setCells _ _ _⟩
 obtain ⟨hj, e⟩ := List.getElem?_eq_some_iff.1 hv
 have := World.cell?_setCells_in b cs' 0 w (fun i hi => by
  rw [Nat.zero_add]
  have hi' : i < cs.length := by omega
  rw [h.at_ i _ (List.getElem?_eq_getElem hi')]; rfl) j hj
 rw [Nat.zero_add] at this
 rw [this, ← e]
theorem Box.there {w : World} {b : Nat} {cs : List Value} (h : Box w b cs) : w.there b 0 cs.length := fun j hj => by
 rw [Nat.zero_add]
 exact ⟨by rw [h.at_ j _ (List.getElem?_eq_getElem hj)]; rfl, h.fz j⟩
/-- A store of the whole box. -/
theorem st_box {P : Program} {ops : Array Oper} {rest : List Oper} {op : Oper} {a : Act} {w : World} {Q : Exit → Act → World → Prop} (hgd : op.guard = none) (ty : TypeId) (x y : Operand) (ho : op.op = .store ty x y)
 (b : Nat) (cs cs' : List Value) (hx : a.eval x = .pointer (some ⟨b, 0, none⟩)) (hy : a.eval y = .agg cs'.toArray) (hB : Box w b cs) (hl : cs'.length = cs.length) (hi : (P.info? ty).map (·.size) = some cs'.length) (h1 : ∀ v ∈ cs', v.oneCell' = true)
 (h : ∀ w', Box w' b cs' → Ch b w w' → wpList P ops Q rest (a.put op.dst undef) w') : wpList P ops Q (op :: rest) a w := by
 refine wpList_store_mid hgd ty x y ho b 0 cs'.toArray hx hy (by rw [List.size_toArray, hl]; exact hB.there) (by rw [List.size_toArray]; exact hi) (all_oneCell_toArray h1) ?_
 obtain ⟨h2, h3⟩ := hB.stored hl
 exact h _ h2 h3
theorem Box.load {P : Program} {w : World} {b : Nat} {cs : List Value} (h : Box w b cs) (ty : TypeId) {d : TypeDesc} (hu : P.underlying ty = some d) (hd : d.isRow = true) (hi : (P.info? ty).map (·.size) = some cs.length) : (loadVar ty ⟨b, 0, none⟩).run P w = .ok (.agg cs.toArray) w :=
 run_loadVar_mid w b 0 ty cs d (fun j v hv => by rw [Nat.zero_add]; exact h.at_ j v hv) hu hd hi
theorem results_cell_tmp {P : Program} {fn : Func} {p q : Tmp} {ty : TypeId} (h : fn.results = #[.cell p ty, .tmp q]) {tmps : Array Value} {w : World} {a : Addr} {v : Value} (ha : tmps.getD p undef = .pointer (some a)) (hl : (loadVar ty a).run P w = .ok v w) :
 (results fn tmps).run P w = .ok (.tuple #[v, tmps.getD q undef]) w := by
 rw [Array.getD_eq_getD_getElem?] at ha
 simp only [results, h]
 simp [ha, asAddr, hl]
theorem Box.set1 {w : World} {b : Nat} {cs : List Value} (h : Box w b cs) (j : Nat) (v : Value) : Box (w.setCell ⟨b, j, none⟩ v) b (cs.set j v) := by
 refine ⟨fun k u hu => ?_, fun k => by simp [h.fz], by simpa using h.lt⟩
 by_cases e : j = k
 · subst e
   have hj : j < cs.length := by have := (List.getElem?_eq_some_iff.1 hu).1; simpa using this
   rw [List.getElem?_set_self hj] at hu
   injection hu with hu
   rw [← hu]
   exact World.cell?_setCell_same _ _ _ (h.at_ j _ (List.getElem?_eq_getElem hj))
 · rw [List.getElem?_set_ne e] at hu
   rw [World.cell?_setCell_other (h := by intro x; injection x; omega)]
   exact h.at_ k u hu
/-- A load of the whole box. -/
theorem ld_box {P : Program} {ops : Array Oper} {rest : List Oper} {op : Oper} {a : Act} {w : World} {Q : Exit → Act → World → Prop} (hgd : op.guard = none) (ty : TypeId) (x : Operand) (ho : op.op = .load ty x)
 (b : Nat) (cs : List Value) (hx : a.eval x = .pointer (some ⟨b, 0, none⟩)) (hB : Box w b cs) {d : TypeDesc} (hu : P.underlying ty = some d) (hd : d.isRow = true) (hi : (P.info? ty).map (·.size) = some cs.length)
 (h : wpList P ops Q rest (a.put op.dst (.agg cs.toArray)) w) : wpList P ops Q (op :: rest) a w :=
 wpList_load_mid hgd ty x ho b 0 hx cs d (fun j v hv => by rw [Nat.zero_add]; exact hB.at_ j v hv) hu hd hi h
structure RS (w0 : World) (g : Nat) (p : PS) (w : World) : Prop where
 rd : RD w g p.s p.e
 ch : Ch g w0 w
 z : p.s.size ≤ 1000000
section
variable {w0 w w' : World} {g : Nat} {p p' : PS}
theorem RS.q (h : RS w0 g p w) (q : Q w w') : RS w0 g p w' := ⟨h.rd.q q, h.ch.trans (Ch.of_q q g), h.z⟩
theorem RS.up (h : RS w0 g p w) : RS w g p w := ⟨h.rd, Ch.refl _ _, h.z⟩
theorem RS.over (h : RS w0 g p w) (k : RS w g p' w') : RS w0 g p' w' := ⟨k.rd, h.ch.trans k.ch, k.z⟩
theorem RS.lt (h : RS w0 g p w) : g < w.heap.size := h.rd.lt
theorem ch_high {w0 w w' : World} {g b : Nat} (h : Ch g w0 w) (c : Ch b w w') (hb : w0.heap.size ≤ b) : Ch g w0 w' :=
 ⟨c.os.trans h.os, c.tape.trans h.tape, c.output.trans h.output, Nat.le_trans h.size c.size, fun k hk hk2 => (c.block k (Nat.lt_of_lt_of_le hk h.size) (fun e => by injection e with e; omega)).trans (h.block k hk hk2)⟩
/-- A new block is written: the Reader stays. -/
theorem RS.box {b : Nat} (h : RS w0 g p w) (c : Ch b w w') (hb : w0.heap.size ≤ b) (hne : g ≠ b) : RS w0 g p w' := ⟨h.rd.ch c hne, ch_high h.ch c hb, h.z⟩
theorem RS.lt0 (h : RS w0 g p w) (hg : g < w0.heap.size) : g < w.heap.size := h.rd.lt
theorem RS.byte_l {v : Int} (h : RS w0 g p w) (hv : p.byV = v) (hp : p.byt = p') : Calls Tryz.prog 121 #[.pointer (some ⟨g, 0, none⟩)] w fun r w' => r = .returned (.int .i64 v) ∧ RS w0 g p' w' := by
 subst hv hp; exact (rbyte_any g p.s p.e w h.rd (by have := h.z; omega)).mono fun r w' ⟨a, b, c⟩ => ⟨a, b, h.ch.trans c, Nat.le_trans p.byt_le h.z⟩
theorem RS.num_l {v : Int} (h : RS w0 g p w) (hv : p.nuV = v) (hp : p.num = p') : Calls Tryz.prog 122 #[.pointer (some ⟨g, 0, none⟩)] w fun r w' => r = .returned (.int .u64 v) ∧ RS w0 g p' w' := by
 subst hv hp; exact (rnum_any g p.s p.e w h.rd (by have := h.z; omega)).mono fun r w' ⟨a, b, c⟩ => ⟨a, b, h.ch.trans c, Nat.le_trans p.num_le h.z⟩
theorem RS.hash_l {v : ByteArray} (h : RS w0 g p w) (hv : p.haV = v) (hp : p.has = p') : Calls Tryz.prog 123 #[.pointer (some ⟨g, 0, none⟩)] w fun r w' => r = .returned (.string v) ∧ RS w0 g p' w' := by
 subst hv hp; exact (rhash_any g p.s p.e w h.rd (by have := h.z; omega)).mono fun r w' ⟨a, b, c⟩ => ⟨a, b, h.ch.trans c, Nat.le_trans p.has_le h.z⟩
theorem RS.blob_l {m : Int} {v : ByteArray} (h : RS w0 g p w) (hv : p.blV m = v) (hp : p.blo m = p') : Calls Tryz.prog 114 #[.pointer (some ⟨g, 0, none⟩), .int .i64 m] w fun r w' => r = .returned (.string v) ∧ RS w0 g p' w' := by
 subst hv hp; exact (rblob_any g p.s p.e m w h.rd (by have := h.z; omega)).mono fun r w' ⟨a, b, c⟩ => ⟨a, b, h.ch.trans c, Nat.le_trans (p.blo_le m) h.z⟩
theorem RS.fail_l {f : Int} (h : RS w0 g p w) (hp : p.fl f = p') : Calls Tryz.prog 115 #[.pointer (some ⟨g, 0, none⟩), .int .i64 f] w fun r w' => r = .returned (.tuple #[]) ∧ RS w0 g p' w' := by
 subst hp; exact (fail_any g p.s p.e f w h.rd).mono fun r w' ⟨a, b, c⟩ => ⟨a, b, h.ch.trans c, h.z⟩
theorem RS.end_l {v : Int} (h : RS w0 g p w) (hv : p.en = v) : Calls Tryz.prog 117 #[.pointer (some ⟨g, 0, none⟩)] w fun r w' => r = .returned (.int .i64 v) ∧ w = w' := by
 subst hv; exact end_any g p.s p.e w h.rd
theorem read_l (s : ByteArray) (hs : s.size ≤ 1000000) (w : World) : Calls Tryz.prog 112 #[.string s] w fun r w' => r = .returned (.pointer (some ⟨w.heap.size, 0, none⟩)) ∧ RS w' w.heap.size ⟨s, 0⟩ w' ∧ Q w w' :=
 (read_any s w).mono fun r w' ⟨a, b, c⟩ => ⟨a, ⟨b, Ch.refl _ _, hs⟩, c⟩
end
theorem built_ticket (v0 : ByteArray) (v1 v2 v3 v4 : Int) (v5 : ByteArray) (v6 : Int) (v7 : ByteArray) : Tryz.prog.built 133 [(0, .string v0), (1, .int .u64 v1), (2, .int .u64 v2), (3, .int .u64 v3), (4, .int .u64 v4), (5, .string v5), (6, .int .u64 v6), (7, .string v7)] = some #[.string v0, .int .u64 v1, .int .u64 v2, .int .u64 v3, .int .u64 v4, .string v5, .int .u64 v6, .string v7] := by kernel_rfl
theorem wpl_ticket {ops : Array Oper} {rest : List Oper} {o : Oper} {a : Act} {w : World} {Q : Exit → Act → World → Prop} (hg : o.guard = none) {n0 n1 n2 n3 n4 n5 n6 n7 : Nat} (v0 : ByteArray) (v1 v2 v3 v4 : Int) (v5 : ByteArray) (v6 : Int) (v7 : ByteArray) (ho : o.op = .build 133 #[(0, .tmp n0), (1, .tmp n1), (2, .tmp n2), (3, .tmp n3), (4, .tmp n4), (5, .tmp n5), (6, .tmp n6), (7, .tmp n7)]) (d : Option Tmp) (hd : o.dst = d) (h0 : a.eval (.tmp n0) = .string v0) (h1 : a.eval (.tmp n1) = .int .u64 v1) (h2 : a.eval (.tmp n2) = .int .u64 v2) (h3 : a.eval (.tmp n3) = .int .u64 v3) (h4 : a.eval (.tmp n4) = .int .u64 v4) (h5 : a.eval (.tmp n5) = .string v5) (h6 : a.eval (.tmp n6) = .int .u64 v6) (h7 : a.eval (.tmp n7) = .string v7) (h : wpList Tryz.prog ops Q rest (a.put d (.agg #[.string v0, .int .u64 v1, .int .u64 v2, .int .u64 v3, .int .u64 v4, .string v5, .int .u64 v6, .string v7])) w) : wpList Tryz.prog ops Q (o :: rest) a w := by
 refine wpList_buildTo hg 133 _ ho d hd _ ?_ h
 simp only [List.map_toArray, List.map_cons, List.map_nil, h0, h1, h2, h3, h4, h5, h6, h7]
 exact built_ticket v0 v1 v2 v3 v4 v5 v6 v7
set_option maxHeartbeats 4000000 in
theorem rticket_l {w0 w : World} {g : Nat} {q0 : PS} (h : RS w0 g q0 w) {q1 : PS} {v0 : ByteArray} (s0 : q0.has = q1) (x0 : q0.haV = v0) {q2 : PS} {v1 : Int} (s1 : q1.num = q2) (x1 : q1.nuV = v1) {q3 : PS} {v2 : Int} (s2 : q2.num = q3) (x2 : q2.nuV = v2) {q4 : PS} {v3 : Int} (s3 : q3.num = q4) (x3 : q3.nuV = v3) {q5 : PS} {v4 : Int} (s4 : q4.num = q5) (x4 : q4.nuV = v4) {q6 : PS} {v5 : ByteArray} (s5 : q5.has = q6) (x5 : q5.haV = v5) {q7 : PS} {v6 : Int} (s6 : q6.num = q7) (x6 : q6.nuV = v6) {q8 : PS} {v7 : ByteArray} (s7 : q7.blo 400 = q8) (x7 : q7.blV 400 = v7) :
 Calls Tryz.prog 140 #[.pointer (some ⟨g, 0, none⟩)] w fun r w' => r = .returned (.agg #[.string v0, .int .u64 v1, .int .u64 v2, .int .u64 v3, .int .u64 v4, .string v5, .int .u64 v6, .string v7]) ∧ RS w0 g q8 w' := by
 have hgl := h.lt
 have hsz := h.ch.size
 have HE : Hid (∀ o w' p', RS (w.alloc o) g p' w' → RS w0 g p' w') := fun o w' p' k => (h.q ((Q.refl w).alloc o)).over k
 have H0 : Hid (∀ o, RS (w.alloc o) g q0 (w.alloc o)) := fun o => (h.q ((Q.refl w).alloc o)).up
 have HB : Hid (∀ t w', Ch g (w.alloc (.cells #[.string ⟨#[]⟩, .int .u64 0, .int .u64 0, .int .u64 0, .int .u64 0, .string ⟨#[]⟩, .int .u64 0, .string ⟨#[]⟩] t)) w' → Box w' w.heap.size [.string ⟨#[]⟩, .int .u64 0, .int .u64 0, .int .u64 0, .int .u64 0, .string ⟨#[]⟩, .int .u64 0, .string ⟨#[]⟩]) := fun t w' c => (Box.new w [.string ⟨#[]⟩, .int .u64 0, .int .u64 0, .int .u64 0, .int .u64 0, .string ⟨#[]⟩, .int .u64 0, .string ⟨#[]⟩] t).ch c (by omega)
 clear h
 go_enter Tryz.func140, Tryz.ntmps140
 go_wp2_with fail
 refine ((H0.out _).hash_l x0 s0).mono ?_
 rintro r w1 ⟨rfl, h⟩
 have H1 := Lib.hid h
 clear h H0
 go_wp2_with fail
 refine (H1.out.num_l x1 s1).mono ?_
 rintro r w2 ⟨rfl, h⟩
 have H2 := Lib.hid h
 clear h H1
 go_wp2_with fail
 refine (H2.out.num_l x2 s2).mono ?_
 rintro r w3 ⟨rfl, h⟩
 have H3 := Lib.hid h
 clear h H2
 as_aux_lemma =>
 go_wp2_with fail
 refine (H3.out.num_l x3 s3).mono ?_
 rintro r w4 ⟨rfl, h⟩
 have H4 := Lib.hid h
 clear h H3
 go_wp2_with fail
 refine (H4.out.num_l x4 s4).mono ?_
 rintro r w5 ⟨rfl, h⟩
 have H5 := Lib.hid h
 clear h H4
 go_wp2_with fail
 refine (H5.out.hash_l x5 s5).mono ?_
 rintro r w6 ⟨rfl, h⟩
 have H6 := Lib.hid h
 clear h H5
 as_aux_lemma =>
 go_wp2_with fail
 refine (H6.out.num_l x6 s6).mono ?_
 rintro r w7 ⟨rfl, h⟩
 have H7 := Lib.hid h
 clear h H6
 go_wp2_with fail
 refine (H7.out.blob_l x7 s7).mono ?_
 rintro r w8 ⟨rfl, h⟩
 have H8 := Lib.hid h
 clear h H7
 have B := Lib.hid (HB.out _ _ H8.out.ch)
 go_wp2_with (with_reducible (show wpList _ _ _ (⟨_, Op.build 133 _, _, _, _, _⟩ :: _) _ _); refine halt ?_)
 refine Lib.hid (wpl_ticket rfl v0 v1 v2 v3 v4 v5 v6 v7 rfl _ rfl rfl rfl rfl rfl rfl rfl rfl rfl ?_)
 refine (st_box rfl 133 _ _ rfl w.heap.size _ [.string v0, .int .u64 v1, .int .u64 v2, .int .u64 v3, .int .u64 v4, .string v5, .int .u64 v6, .string v7] rfl rfl B.out rfl (by kernel_rfl) (by intro v hv; simp at hv; rcases hv with rfl | rfl | rfl | rfl | rfl | rfl | rfl | rfl <;> rfl) ?_)
 intro w9 B9 c9
 have HL : Hid ((loadVar 133 ⟨w.heap.size, 0, none⟩).run Tryz.prog w9 = .ok (.agg #[.string v0, .int .u64 v1, .int .u64 v2, .int .u64 v3, .int .u64 v4, .string v5, .int .u64 v6, .string v7]) w9) := B9.load _ Tryz.underlying133 rfl (by kernel_rfl)
 have H9 : Hid (RS w0 g q8 w9) := (HE.out _ _ _ H8.out).box c9 hsz (by omega)
 clear B9 c9 B H8
 go_wp2_with fail
 (try simp only [Exit.inBlock, Exit.then])
 refine bodyPost_ret (results_cell rfl rfl HL.out) rfl ?_
 exact ⟨rfl, H9.out⟩
theorem retI {a b : Int} (h : a = b) : Ending.returned (.int .i64 a) = .returned (.int .i64 b) := by rw [h]
set_option maxHeartbeats 4000000 in
theorem rint_l {w0 w : World} {g : Nat} {q0 q1 : PS} {v0 u : Int} (h : RS w0 g q0 w) (s0 : q0.num = q1) (x0 : q0.nuV = v0) (hu : IntKind.i64.wrap v0 = u) :
 Calls Tryz.prog 152 #[.pointer (some ⟨g, 0, none⟩)] w fun r w' => r = .returned (.int .i64 u) ∧ RS w0 g q1 w' := by
 have H0 := Lib.hid h
 clear h
 go_enter Tryz.func152, Tryz.ntmps152
 go_wp2_with fail
 refine (H0.out.num_l x0 s0).mono ?_
 rintro r w1 ⟨rfl, h⟩
 have H1 := Lib.hid h
 clear h H0
 go_wp2_with fail
 go_ret
 exact ⟨rfl, H1.out⟩
set_option maxHeartbeats 4000000 in
theorem rcount_l {w0 w : World} {g : Nat} {p : PS} (h : RS w0 g p w) :
 Calls Tryz.prog 135 #[.pointer (some ⟨g, 0, none⟩), .int .i64 4] w fun r w' => r = .returned (.int .i64 (cn p : Nat)) ∧ RS w0 g (cnP p) w' := by
 have H0 := Lib.hid h
 clear h
 by_cases hb : 1 ≤ p.byV ∧ p.byV ≤ 4
 · have E : Hid (p.byV = (cn p : Int) ∧ p.byt = cnP p) := by unfold cn cnP; rw [if_pos hb, if_pos hb]; exact ⟨by omega, rfl⟩
   have E2 : Hid (decide (1 ≤ p.byV ∧ p.byV ≤ 4) = true) := by show _ = _; simpa using hb
   go_enter Tryz.func135, Tryz.ntmps135
   go_wp2_with fail
   refine (H0.out.byte_l rfl rfl).mono ?_
   rintro r w1 ⟨rfl, h⟩
   have H1 := Lib.hid h
   clear h H0
   go_wp2_with fail
   refine (between_x _ _ _ _).mono ?_
   rintro r _ ⟨rfl, rfl⟩
   rw [E2.out]
   go_wp2_with fail
   go_ret
   exact ⟨retI E.out.1, by rw [← E.out.2]; exact H1.out⟩
 · have E : Hid (cn p = 0 ∧ p.byt.fl 4 = cnP p) := by unfold cn cnP; rw [if_neg hb, if_neg hb]; exact ⟨rfl, rfl⟩
   have E2 : Hid (decide (1 ≤ p.byV ∧ p.byV ≤ 4) = false) := by show _ = _; simpa using hb
   go_enter Tryz.func135, Tryz.ntmps135
   go_wp2_with fail
   refine (H0.out.byte_l rfl rfl).mono ?_
   rintro r w1 ⟨rfl, h⟩
   have H1 := Lib.hid h
   clear h H0
   go_wp2_with fail
   refine (between_x _ _ _ _).mono ?_
   rintro r _ ⟨rfl, rfl⟩
   rw [E2.out]
   go_wp2_with fail
   refine (H1.out.fail_l rfl).mono ?_
   rintro r w2 ⟨rfl, h⟩
   have H2 := Lib.hid h
   clear h H1
   go_wp2_with fail
   go_ret
   exact ⟨retI (by rw [E.out.1]; rfl), by rw [← E.out.2]; exact H2.out⟩
theorem built_ohead (v0 v1 : Int) (v2 : ByteArray) : Tryz.prog.built 47 [(0, .int .i64 v0), (1, .int .u64 v1), (2, .string v2)] = some #[.int .i64 v0, .int .u64 v1, .string v2, .string ⟨#[]⟩, .int .i64 0, .string ⟨#[]⟩, .int .u64 0, .int .i64 0, .string ⟨#[]⟩] := by kernel_rfl
theorem wpl_ohead {ops : Array Oper} {rest : List Oper} {o : Oper} {a : Act} {w : World} {Q : Exit → Act → World → Prop} (hg : o.guard = none) {n0 n1 n2 : Nat} (v0 v1 : Int) (v2 : ByteArray) (ho : o.op = .build 47 #[(0, .tmp n0), (1, .tmp n1), (2, .tmp n2)]) (d : Option Tmp) (hd : o.dst = d) (h0 : a.eval (.tmp n0) = .int .i64 v0) (h1 : a.eval (.tmp n1) = .int .u64 v1) (h2 : a.eval (.tmp n2) = .string v2) (h : wpList Tryz.prog ops Q rest (a.put d (.agg #[.int .i64 v0, .int .u64 v1, .string v2, .string ⟨#[]⟩, .int .i64 0, .string ⟨#[]⟩, .int .u64 0, .int .i64 0, .string ⟨#[]⟩])) w) : wpList Tryz.prog ops Q (o :: rest) a w := by
 refine wpList_buildTo hg 47 _ ho d hd _ ?_ h
 simp only [List.map_toArray, List.map_cons, List.map_nil, h0, h1, h2]
 exact built_ohead v0 v1 v2
theorem one9 {v0 v1 v2 v3 v4 v5 v6 v7 v8 : Value} (h0 : v0.oneCell' = true) (h1 : v1.oneCell' = true) (h2 : v2.oneCell' = true) (h3 : v3.oneCell' = true) (h4 : v4.oneCell' = true) (h5 : v5.oneCell' = true) (h6 : v6.oneCell' = true) (h7 : v7.oneCell' = true) (h8 : v8.oneCell' = true) : ∀ v ∈ [v0, v1, v2, v3, v4, v5, v6, v7, v8], v.oneCell' = true := by
 intro v hv; simp at hv; rcases hv with rfl | rfl | rfl | rfl | rfl | rfl | rfl | rfl | rfl <;> assumption
theorem zero9 (w : World) : (zeroValue 47).run Tryz.prog w = .ok (.agg #[.int .i64 0, .int .u64 0, .string ⟨#[]⟩, .string ⟨#[]⟩, .int .i64 0, .string ⟨#[]⟩, .int .u64 0, .int .i64 0, .string ⟨#[]⟩]) w := by
 have h : (Tryz.prog.info? 47).bind (·.zero) = some (.agg #[.int .i64 0, .int .u64 0, .string ⟨#[]⟩, .string ⟨#[]⟩, .int .i64 0, .string ⟨#[]⟩, .int .u64 0, .int .i64 0, .string ⟨#[]⟩]) := by kernel_rfl
 cases hi : Tryz.prog.info? 47 with
 | none => rw [hi] at h; cases h
 | some i => rw [hi] at h; simp [zeroValue, typeInfo, hi, show i.zero = some (.agg #[.int .i64 0, .int .u64 0, .string ⟨#[]⟩, .string ⟨#[]⟩, .int .i64 0, .string ⟨#[]⟩, .int .u64 0, .int .i64 0, .string ⟨#[]⟩]) from h]
/-- A Reader, a box for what is answered, a box that is written. -/
structure RX (w0 : World) (g gr : Nat) (Z : List Value) (gb : Nat) (cs : List Value) (p : PS) (w : World) : Prop where
 rs : RS w0 g p w
 br : Box w gr Z
 bb : Box w gb cs
 n1 : g ≠ gr
 n2 : g ≠ gb
 n3 : gr ≠ gb
 l1 : w0.heap.size ≤ gr
 l2 : w0.heap.size ≤ gb
section
variable {w0 w w' : World} {g gr gb : Nat} {Z cs cs' : List Value} {p p' : PS}
theorem RX.go (h : RX w0 g gr Z gb cs p w) (k : RS w g p' w') : RX w0 g gr Z gb cs p' w' :=
 ⟨h.rs.over k, h.br.ch k.ch h.n1.symm, h.bb.ch k.ch h.n2.symm, h.n1, h.n2, h.n3, h.l1, h.l2⟩
theorem RX.q (h : RX w0 g gr Z gb cs p w) (q : Q w w') : RX w0 g gr Z gb cs p w' :=
 ⟨h.rs.q q, h.br.q q, h.bb.q q, h.n1, h.n2, h.n3, h.l1, h.l2⟩
theorem RX.put (h : RX w0 g gr Z gb cs p w) (c : Ch gb w w') (b : Box w' gb cs') : RX w0 g gr Z gb cs' p w' :=
 ⟨h.rs.box c h.l2 h.n2, h.br.ch c h.n3, b, h.n1, h.n2, h.n3, h.l1, h.l2⟩
theorem RX.set (h : RX w0 g gr Z gb cs p w) (j : Nat) (v : Value) : RX w0 g gr Z gb (cs.set j v) p (w.setCell ⟨gb, j, none⟩ v) :=
 h.put (Ch.set _ _ _ _) (h.bb.set1 j v)
theorem RX.cell {v : Value} (h : RX w0 g gr Z gb cs p w) (j : Nat) (hv : cs[j]? = some v) : w.cell? ⟨gb, j, none⟩ = some v ∧ w.frozen? ⟨gb, j, none⟩ = false := ⟨h.bb.at_ j v hv, h.bb.fz j⟩
end
set_option maxHeartbeats 4000000 in
theorem rout1_l {w0 w : World} {g : Nat} {q0 : PS} (h : RS w0 g q0 w) {q1 : PS} (s0 : q0.byt = q1) (x0 : q0.byV = 1) {q2 : PS} {v1 : Int} (s1 : q1.num = q2) (x1 : q1.nuV = v1) {q3 : PS} {v2 : ByteArray} (s2 : q2.has = q3) (x2 : q2.haV = v2) :
 Calls Tryz.prog 136 #[.pointer (some ⟨g, 0, none⟩)] w fun r w' => r = .returned (.agg #[.int .i64 1, .int .u64 v1, .string v2, .string ⟨#[]⟩, .int .i64 0, .string ⟨#[]⟩, .int .u64 0, .int .i64 0, .string ⟨#[]⟩]) ∧ RS w0 g q3 w' := by
 have hgl := h.lt
 have hsz := h.ch.size
 have HE : Hid (∀ o w' p', RS (w.alloc o) g p' w' → RS w0 g p' w') := fun o w' p' k => (h.q ((Q.refl w).alloc o)).over k
 have H0 : Hid (∀ o, RS (w.alloc o) g q0 (w.alloc o)) := fun o => (h.q ((Q.refl w).alloc o)).up
 have HB : Hid (∀ t, Box (w.alloc (.cells #[.int .i64 0, .int .u64 0, .string ⟨#[]⟩, .string ⟨#[]⟩, .int .i64 0, .string ⟨#[]⟩, .int .u64 0, .int .i64 0, .string ⟨#[]⟩] t)) w.heap.size [.int .i64 0, .int .u64 0, .string ⟨#[]⟩, .string ⟨#[]⟩, .int .i64 0, .string ⟨#[]⟩, .int .u64 0, .int .i64 0, .string ⟨#[]⟩]) := fun t => Box.new w [.int .i64 0, .int .u64 0, .string ⟨#[]⟩, .string ⟨#[]⟩, .int .i64 0, .string ⟨#[]⟩, .int .u64 0, .int .i64 0, .string ⟨#[]⟩] t
 clear h
 go_enter Tryz.func136, Tryz.ntmps136
 go_wp2_with fail
 have B0 := Lib.hid (HB.out 47)
 have H0 := Lib.hid (H0.out (.cells #[.int .i64 0, .int .u64 0, .string ⟨#[]⟩, .string ⟨#[]⟩, .int .i64 0, .string ⟨#[]⟩, .int .u64 0, .int .i64 0, .string ⟨#[]⟩] 47))
 have HE := Lib.hid (HE.out (.cells #[.int .i64 0, .int .u64 0, .string ⟨#[]⟩, .string ⟨#[]⟩, .int .i64 0, .string ⟨#[]⟩, .int .u64 0, .int .i64 0, .string ⟨#[]⟩] 47))
 have hgr : g ≠ w.heap.size := by omega
 generalize w.alloc (.cells #[.int .i64 0, .int .u64 0, .string ⟨#[]⟩, .string ⟨#[]⟩, .int .i64 0, .string ⟨#[]⟩, .int .u64 0, .int .i64 0, .string ⟨#[]⟩] 47) = wA at *
 generalize w.heap.size = gr at *
 refine (H0.out.byte_l x0 s0).mono ?_
 rintro r w1 ⟨rfl, h⟩
 have H1 := Lib.hid (h)
 clear h H0
 go_wp2_with fail
 refine (H1.out.num_l x1 s1).mono ?_
 rintro r w2 ⟨rfl, h⟩
 have H2 := Lib.hid (h)
 clear h H1
 go_wp2_with fail
 refine (H2.out.hash_l x2 s2).mono ?_
 rintro r w3 ⟨rfl, h⟩
 have H3 := Lib.hid (h)
 clear h H2
 as_aux_lemma =>
 go_wp2_with (with_reducible (show wpList _ _ _ (⟨_, Op.build 47 _, _, _, _, _⟩ :: _) _ _); refine halt ?_)
 refine Lib.hid (wpl_ohead rfl 1 v1 v2 rfl _ rfl rfl rfl rfl ?_)
 refine wpList_allocZ rfl 47 rfl #[.int .i64 0, .int .u64 0, .string ⟨#[]⟩, .string ⟨#[]⟩, .int .i64 0, .string ⟨#[]⟩, .int .u64 0, .int .i64 0, .string ⟨#[]⟩] zero9 ?_
 have G3 := H3.out.lt
 have G4 := (B0.out.ch H3.out.ch hgr.symm).lt
 have G5 := (HE.out _ _ H3.out).ch.size
 refine st_box rfl 47 _ _ rfl w3.heap.size _ [.int .i64 1, .int .u64 v1, .string v2, .string ⟨#[]⟩, .int .i64 0, .string ⟨#[]⟩, .int .u64 0, .int .i64 0, .string ⟨#[]⟩] rfl rfl (Box.new w3 [.int .i64 0, .int .u64 0, .string ⟨#[]⟩, .string ⟨#[]⟩, .int .i64 0, .string ⟨#[]⟩, .int .u64 0, .int .i64 0, .string ⟨#[]⟩] 47) rfl (by kernel_rfl) (one9 rfl rfl rfl rfl rfl rfl rfl rfl rfl) ?_
 intro w4 B4 c4
 have X4 : Hid (RX w0 g gr [.int .i64 0, .int .u64 0, .string ⟨#[]⟩, .string ⟨#[]⟩, .int .i64 0, .string ⟨#[]⟩, .int .u64 0, .int .i64 0, .string ⟨#[]⟩] w3.heap.size [.int .i64 1, .int .u64 v1, .string v2, .string ⟨#[]⟩, .int .i64 0, .string ⟨#[]⟩, .int .u64 0, .int .i64 0, .string ⟨#[]⟩] q3 w4) := ⟨((HE.out _ _ H3.out).q ((Q.refl w3).alloc _)).box c4 G5 (by omega), ((B0.out.ch H3.out.ch hgr.symm).q ((Q.refl w3).alloc _)).ch c4 (by omega), B4, hgr, by omega, by omega, hsz, G5⟩
 generalize w3.heap.size = gb at *
 have c0 := (X4.out.cell 0 rfl).1
 clear B4 c4 H3 HE B0 G3 G4 G5
 go_wp2_with (with_reducible (show wpList _ _ _ (⟨_, Op.load 47 _, _, _, _, _⟩ :: _) _ _); refine halt ?_)
 refine Lib.hid (ld_box rfl 47 _ rfl gb _ rfl X4.out.bb Tryz.underlying47 rfl (by kernel_rfl) ?_)
 refine st_box rfl 47 _ _ rfl gr _ [.int .i64 1, .int .u64 v1, .string v2, .string ⟨#[]⟩, .int .i64 0, .string ⟨#[]⟩, .int .u64 0, .int .i64 0, .string ⟨#[]⟩] rfl rfl X4.out.br rfl (by kernel_rfl) (one9 rfl rfl rfl rfl rfl rfl rfl rfl rfl) ?_
 intro w9 B9 c9
 have HL : Hid ((loadVar 47 ⟨gr, 0, none⟩).run Tryz.prog w9 = .ok (.agg #[.int .i64 1, .int .u64 v1, .string v2, .string ⟨#[]⟩, .int .i64 0, .string ⟨#[]⟩, .int .u64 0, .int .i64 0, .string ⟨#[]⟩]) w9) := B9.load _ Tryz.underlying47 rfl (by kernel_rfl)
 have H9 : Hid (RS w0 g q3 w9) := X4.out.rs.box c9 X4.out.l1 X4.out.n1
 clear B9 c9 X4
 go_wp2_with fail
 (try simp only [Exit.inBlock, Exit.then])
 refine bodyPost_ret (results_cell rfl rfl HL.out) rfl ?_
 exact ⟨rfl, H9.out⟩
set_option maxHeartbeats 4000000 in
theorem rout2_l {w0 w : World} {g : Nat} {q0 : PS} (h : RS w0 g q0 w) {q1 : PS} (s0 : q0.byt = q1) (x0 : q0.byV = 2) {q2 : PS} {v1 : Int} (s1 : q1.num = q2) (x1 : q1.nuV = v1) {q3 : PS} {v2 : ByteArray} (s2 : q2.has = q3) (x2 : q2.haV = v2) {q4 : PS} {v3 : ByteArray} (s3 : q3.has = q4) (x3 : q3.haV = v3) {q5 : PS} {v4 : Int} (s4 : q4.num = q5) (x4 : q4.nuV = v4) {q6 : PS} {v5 : ByteArray} (s5 : q5.has = q6) (x5 : q5.haV = v5) {q7 : PS} {v6 : Int} (s6 : q6.num = q7) (x6 : q6.nuV = v6) {q8 : PS} {v7 : Int} (s7 : q7.num = q8) (x7 : q7.nuV = v7) {u4 : Int} (z4 : IntKind.i64.wrap v4 = u4) {u7 : Int} (z7 : IntKind.i64.wrap v7 = u7) :
 Calls Tryz.prog 136 #[.pointer (some ⟨g, 0, none⟩)] w fun r w' => r = .returned (.agg #[.int .i64 2, .int .u64 v1, .string v2, .string v3, .int .i64 u4, .string v5, .int .u64 v6, .int .i64 u7, .string ⟨#[]⟩]) ∧ RS w0 g q8 w' := by
 have hgl := h.lt
 have hsz := h.ch.size
 have HE : Hid (∀ o w' p', RS (w.alloc o) g p' w' → RS w0 g p' w') := fun o w' p' k => (h.q ((Q.refl w).alloc o)).over k
 have H0 : Hid (∀ o, RS (w.alloc o) g q0 (w.alloc o)) := fun o => (h.q ((Q.refl w).alloc o)).up
 have HB : Hid (∀ t, Box (w.alloc (.cells #[.int .i64 0, .int .u64 0, .string ⟨#[]⟩, .string ⟨#[]⟩, .int .i64 0, .string ⟨#[]⟩, .int .u64 0, .int .i64 0, .string ⟨#[]⟩] t)) w.heap.size [.int .i64 0, .int .u64 0, .string ⟨#[]⟩, .string ⟨#[]⟩, .int .i64 0, .string ⟨#[]⟩, .int .u64 0, .int .i64 0, .string ⟨#[]⟩]) := fun t => Box.new w [.int .i64 0, .int .u64 0, .string ⟨#[]⟩, .string ⟨#[]⟩, .int .i64 0, .string ⟨#[]⟩, .int .u64 0, .int .i64 0, .string ⟨#[]⟩] t
 clear h
 go_enter Tryz.func136, Tryz.ntmps136
 go_wp2_with fail
 have B0 := Lib.hid (HB.out 47)
 have H0 := Lib.hid (H0.out (.cells #[.int .i64 0, .int .u64 0, .string ⟨#[]⟩, .string ⟨#[]⟩, .int .i64 0, .string ⟨#[]⟩, .int .u64 0, .int .i64 0, .string ⟨#[]⟩] 47))
 have HE := Lib.hid (HE.out (.cells #[.int .i64 0, .int .u64 0, .string ⟨#[]⟩, .string ⟨#[]⟩, .int .i64 0, .string ⟨#[]⟩, .int .u64 0, .int .i64 0, .string ⟨#[]⟩] 47))
 have hgr : g ≠ w.heap.size := by omega
 generalize w.alloc (.cells #[.int .i64 0, .int .u64 0, .string ⟨#[]⟩, .string ⟨#[]⟩, .int .i64 0, .string ⟨#[]⟩, .int .u64 0, .int .i64 0, .string ⟨#[]⟩] 47) = wA at *
 generalize w.heap.size = gr at *
 refine (H0.out.byte_l x0 s0).mono ?_
 rintro r w1 ⟨rfl, h⟩
 have H1 := Lib.hid (h)
 clear h H0
 go_wp2_with fail
 refine (H1.out.num_l x1 s1).mono ?_
 rintro r w2 ⟨rfl, h⟩
 have H2 := Lib.hid (h)
 clear h H1
 go_wp2_with fail
 refine (H2.out.hash_l x2 s2).mono ?_
 rintro r w3 ⟨rfl, h⟩
 have H3 := Lib.hid (h)
 clear h H2
 as_aux_lemma =>
 go_wp2_with (with_reducible (show wpList _ _ _ (⟨_, Op.build 47 _, _, _, _, _⟩ :: _) _ _); refine halt ?_)
 refine Lib.hid (wpl_ohead rfl 2 v1 v2 rfl _ rfl rfl rfl rfl ?_)
 refine wpList_allocZ rfl 47 rfl #[.int .i64 0, .int .u64 0, .string ⟨#[]⟩, .string ⟨#[]⟩, .int .i64 0, .string ⟨#[]⟩, .int .u64 0, .int .i64 0, .string ⟨#[]⟩] zero9 ?_
 have G3 := H3.out.lt
 have G4 := (B0.out.ch H3.out.ch hgr.symm).lt
 have G5 := (HE.out _ _ H3.out).ch.size
 refine st_box rfl 47 _ _ rfl w3.heap.size _ [.int .i64 2, .int .u64 v1, .string v2, .string ⟨#[]⟩, .int .i64 0, .string ⟨#[]⟩, .int .u64 0, .int .i64 0, .string ⟨#[]⟩] rfl rfl (Box.new w3 [.int .i64 0, .int .u64 0, .string ⟨#[]⟩, .string ⟨#[]⟩, .int .i64 0, .string ⟨#[]⟩, .int .u64 0, .int .i64 0, .string ⟨#[]⟩] 47) rfl (by kernel_rfl) (one9 rfl rfl rfl rfl rfl rfl rfl rfl rfl) ?_
 intro w4 B4 c4
 have X4 : Hid (RX w0 g gr [.int .i64 0, .int .u64 0, .string ⟨#[]⟩, .string ⟨#[]⟩, .int .i64 0, .string ⟨#[]⟩, .int .u64 0, .int .i64 0, .string ⟨#[]⟩] w3.heap.size [.int .i64 2, .int .u64 v1, .string v2, .string ⟨#[]⟩, .int .i64 0, .string ⟨#[]⟩, .int .u64 0, .int .i64 0, .string ⟨#[]⟩] q3 w4) := ⟨((HE.out _ _ H3.out).q ((Q.refl w3).alloc _)).box c4 G5 (by omega), ((B0.out.ch H3.out.ch hgr.symm).q ((Q.refl w3).alloc _)).ch c4 (by omega), B4, hgr, by omega, by omega, hsz, G5⟩
 generalize w3.heap.size = gb at *
 have c0 := (X4.out.cell 0 rfl).1
 clear B4 c4 H3 HE B0 G3 G4 G5
 go_wp2_with fail
 refine (X4.out.rs.up.hash_l x3 s3).mono ?_
 rintro r w5 ⟨rfl, h⟩
 have X5 := Lib.hid (X4.out.go h)
 clear h X4
 go_wp2_with fail
 refine (rint_l X5.out.rs.up s4 x4 z4).mono ?_
 rintro r w6 ⟨rfl, h⟩
 have X6 := Lib.hid (X5.out.go h)
 clear h X5
 obtain ⟨d3, f3⟩ := X6.out.cell 3 rfl
 obtain ⟨d4, f4⟩ := X6.out.cell 4 rfl
 as_aux_lemma =>
 go_wp2_with fail
 have X6s0 := Lib.hid (X6.out.set 3 (.string v3))
 clear X6
 have X6s1 := Lib.hid (X6s0.out.set 4 (.int .i64 u4))
 clear X6s0
 clear d3 f3 d4 f4
 refine (X6s1.out.rs.up.hash_l x5 s5).mono ?_
 rintro r w7 ⟨rfl, h⟩
 have X7 := Lib.hid (X6s1.out.go h)
 clear h X6s1
 go_wp2_with fail
 refine (X7.out.rs.up.num_l x6 s6).mono ?_
 rintro r w8 ⟨rfl, h⟩
 have X8 := Lib.hid (X7.out.go h)
 clear h X7
 go_wp2_with fail
 refine (rint_l X8.out.rs.up s7 x7 z7).mono ?_
 rintro r w9 ⟨rfl, h⟩
 have X9 := Lib.hid (X8.out.go h)
 clear h X8
 obtain ⟨d5, f5⟩ := X9.out.cell 5 rfl
 obtain ⟨d6, f6⟩ := X9.out.cell 6 rfl
 obtain ⟨d7, f7⟩ := X9.out.cell 7 rfl
 as_aux_lemma =>
 go_wp2_with (with_reducible (show wpList _ _ _ (⟨_, Op.load 47 _, _, _, _, _⟩ :: _) _ _); refine halt ?_)
 have X9s0 := Lib.hid (X9.out.set 5 (.string v5))
 clear X9
 have X9s1 := Lib.hid (X9s0.out.set 6 (.int .u64 v6))
 clear X9s0
 have X9s2 := Lib.hid (X9s1.out.set 7 (.int .i64 u7))
 clear X9s1
 clear d5 f5 d6 f6 d7 f7
 refine Lib.hid (ld_box rfl 47 _ rfl gb _ rfl X9s2.out.bb Tryz.underlying47 rfl (by kernel_rfl) ?_)
 refine st_box rfl 47 _ _ rfl gr _ [.int .i64 2, .int .u64 v1, .string v2, .string v3, .int .i64 u4, .string v5, .int .u64 v6, .int .i64 u7, .string ⟨#[]⟩] rfl rfl X9s2.out.br rfl (by kernel_rfl) (one9 rfl rfl rfl rfl rfl rfl rfl rfl rfl) ?_
 intro w9 B9 c9
 have HL : Hid ((loadVar 47 ⟨gr, 0, none⟩).run Tryz.prog w9 = .ok (.agg #[.int .i64 2, .int .u64 v1, .string v2, .string v3, .int .i64 u4, .string v5, .int .u64 v6, .int .i64 u7, .string ⟨#[]⟩]) w9) := B9.load _ Tryz.underlying47 rfl (by kernel_rfl)
 have H9 : Hid (RS w0 g q8 w9) := X9s2.out.rs.box c9 X9s2.out.l1 X9s2.out.n1
 clear B9 c9 X9s2
 go_wp2_with fail
 (try simp only [Exit.inBlock, Exit.then])
 refine bodyPost_ret (results_cell rfl rfl HL.out) rfl ?_
 exact ⟨rfl, H9.out⟩
set_option maxHeartbeats 4000000 in
theorem rout3_l {w0 w : World} {g : Nat} {q0 : PS} (h : RS w0 g q0 w) {q1 : PS} (s0 : q0.byt = q1) (x0 : q0.byV = 3) {q2 : PS} {v1 : Int} (s1 : q1.num = q2) (x1 : q1.nuV = v1) {q3 : PS} {v2 : ByteArray} (s2 : q2.has = q3) (x2 : q2.haV = v2) {q4 : PS} {v3 : ByteArray} (s3 : q3.has = q4) (x3 : q3.haV = v3) {q5 : PS} {v4 : Int} (s4 : q4.num = q5) (x4 : q4.nuV = v4) {q6 : PS} {v5 : ByteArray} (s5 : q5.has = q6) (x5 : q5.haV = v5) {u4 : Int} (z4 : IntKind.i64.wrap v4 = u4) :
 Calls Tryz.prog 136 #[.pointer (some ⟨g, 0, none⟩)] w fun r w' => r = .returned (.agg #[.int .i64 3, .int .u64 v1, .string v2, .string v3, .int .i64 u4, .string ⟨#[]⟩, .int .u64 0, .int .i64 0, .string v5]) ∧ RS w0 g q6 w' := by
 have hgl := h.lt
 have hsz := h.ch.size
 have HE : Hid (∀ o w' p', RS (w.alloc o) g p' w' → RS w0 g p' w') := fun o w' p' k => (h.q ((Q.refl w).alloc o)).over k
 have H0 : Hid (∀ o, RS (w.alloc o) g q0 (w.alloc o)) := fun o => (h.q ((Q.refl w).alloc o)).up
 have HB : Hid (∀ t, Box (w.alloc (.cells #[.int .i64 0, .int .u64 0, .string ⟨#[]⟩, .string ⟨#[]⟩, .int .i64 0, .string ⟨#[]⟩, .int .u64 0, .int .i64 0, .string ⟨#[]⟩] t)) w.heap.size [.int .i64 0, .int .u64 0, .string ⟨#[]⟩, .string ⟨#[]⟩, .int .i64 0, .string ⟨#[]⟩, .int .u64 0, .int .i64 0, .string ⟨#[]⟩]) := fun t => Box.new w [.int .i64 0, .int .u64 0, .string ⟨#[]⟩, .string ⟨#[]⟩, .int .i64 0, .string ⟨#[]⟩, .int .u64 0, .int .i64 0, .string ⟨#[]⟩] t
 clear h
 go_enter Tryz.func136, Tryz.ntmps136
 go_wp2_with fail
 have B0 := Lib.hid (HB.out 47)
 have H0 := Lib.hid (H0.out (.cells #[.int .i64 0, .int .u64 0, .string ⟨#[]⟩, .string ⟨#[]⟩, .int .i64 0, .string ⟨#[]⟩, .int .u64 0, .int .i64 0, .string ⟨#[]⟩] 47))
 have HE := Lib.hid (HE.out (.cells #[.int .i64 0, .int .u64 0, .string ⟨#[]⟩, .string ⟨#[]⟩, .int .i64 0, .string ⟨#[]⟩, .int .u64 0, .int .i64 0, .string ⟨#[]⟩] 47))
 have hgr : g ≠ w.heap.size := by omega
 generalize w.alloc (.cells #[.int .i64 0, .int .u64 0, .string ⟨#[]⟩, .string ⟨#[]⟩, .int .i64 0, .string ⟨#[]⟩, .int .u64 0, .int .i64 0, .string ⟨#[]⟩] 47) = wA at *
 generalize w.heap.size = gr at *
 refine (H0.out.byte_l x0 s0).mono ?_
 rintro r w1 ⟨rfl, h⟩
 have H1 := Lib.hid (h)
 clear h H0
 go_wp2_with fail
 refine (H1.out.num_l x1 s1).mono ?_
 rintro r w2 ⟨rfl, h⟩
 have H2 := Lib.hid (h)
 clear h H1
 go_wp2_with fail
 refine (H2.out.hash_l x2 s2).mono ?_
 rintro r w3 ⟨rfl, h⟩
 have H3 := Lib.hid (h)
 clear h H2
 as_aux_lemma =>
 go_wp2_with (with_reducible (show wpList _ _ _ (⟨_, Op.build 47 _, _, _, _, _⟩ :: _) _ _); refine halt ?_)
 refine Lib.hid (wpl_ohead rfl 3 v1 v2 rfl _ rfl rfl rfl rfl ?_)
 refine wpList_allocZ rfl 47 rfl #[.int .i64 0, .int .u64 0, .string ⟨#[]⟩, .string ⟨#[]⟩, .int .i64 0, .string ⟨#[]⟩, .int .u64 0, .int .i64 0, .string ⟨#[]⟩] zero9 ?_
 have G3 := H3.out.lt
 have G4 := (B0.out.ch H3.out.ch hgr.symm).lt
 have G5 := (HE.out _ _ H3.out).ch.size
 refine st_box rfl 47 _ _ rfl w3.heap.size _ [.int .i64 3, .int .u64 v1, .string v2, .string ⟨#[]⟩, .int .i64 0, .string ⟨#[]⟩, .int .u64 0, .int .i64 0, .string ⟨#[]⟩] rfl rfl (Box.new w3 [.int .i64 0, .int .u64 0, .string ⟨#[]⟩, .string ⟨#[]⟩, .int .i64 0, .string ⟨#[]⟩, .int .u64 0, .int .i64 0, .string ⟨#[]⟩] 47) rfl (by kernel_rfl) (one9 rfl rfl rfl rfl rfl rfl rfl rfl rfl) ?_
 intro w4 B4 c4
 have X4 : Hid (RX w0 g gr [.int .i64 0, .int .u64 0, .string ⟨#[]⟩, .string ⟨#[]⟩, .int .i64 0, .string ⟨#[]⟩, .int .u64 0, .int .i64 0, .string ⟨#[]⟩] w3.heap.size [.int .i64 3, .int .u64 v1, .string v2, .string ⟨#[]⟩, .int .i64 0, .string ⟨#[]⟩, .int .u64 0, .int .i64 0, .string ⟨#[]⟩] q3 w4) := ⟨((HE.out _ _ H3.out).q ((Q.refl w3).alloc _)).box c4 G5 (by omega), ((B0.out.ch H3.out.ch hgr.symm).q ((Q.refl w3).alloc _)).ch c4 (by omega), B4, hgr, by omega, by omega, hsz, G5⟩
 generalize w3.heap.size = gb at *
 have c0 := (X4.out.cell 0 rfl).1
 clear B4 c4 H3 HE B0 G3 G4 G5
 go_wp2_with fail
 refine (X4.out.rs.up.hash_l x3 s3).mono ?_
 rintro r w5 ⟨rfl, h⟩
 have X5 := Lib.hid (X4.out.go h)
 clear h X4
 go_wp2_with fail
 refine (rint_l X5.out.rs.up s4 x4 z4).mono ?_
 rintro r w6 ⟨rfl, h⟩
 have X6 := Lib.hid (X5.out.go h)
 clear h X5
 go_wp2_with fail
 refine (X6.out.rs.up.hash_l x5 s5).mono ?_
 rintro r w7 ⟨rfl, h⟩
 have X7 := Lib.hid (X6.out.go h)
 clear h X6
 obtain ⟨d3, f3⟩ := X7.out.cell 3 rfl
 obtain ⟨d4, f4⟩ := X7.out.cell 4 rfl
 obtain ⟨d8, f8⟩ := X7.out.cell 8 rfl
 as_aux_lemma =>
 go_wp2_with (with_reducible (show wpList _ _ _ (⟨_, Op.load 47 _, _, _, _, _⟩ :: _) _ _); refine halt ?_)
 have X7s0 := Lib.hid (X7.out.set 3 (.string v3))
 clear X7
 have X7s1 := Lib.hid (X7s0.out.set 4 (.int .i64 u4))
 clear X7s0
 have X7s2 := Lib.hid (X7s1.out.set 8 (.string v5))
 clear X7s1
 clear d3 f3 d4 f4 d8 f8
 refine Lib.hid (ld_box rfl 47 _ rfl gb _ rfl X7s2.out.bb Tryz.underlying47 rfl (by kernel_rfl) ?_)
 refine st_box rfl 47 _ _ rfl gr _ [.int .i64 3, .int .u64 v1, .string v2, .string v3, .int .i64 u4, .string ⟨#[]⟩, .int .u64 0, .int .i64 0, .string v5] rfl rfl X7s2.out.br rfl (by kernel_rfl) (one9 rfl rfl rfl rfl rfl rfl rfl rfl rfl) ?_
 intro w9 B9 c9
 have HL : Hid ((loadVar 47 ⟨gr, 0, none⟩).run Tryz.prog w9 = .ok (.agg #[.int .i64 3, .int .u64 v1, .string v2, .string v3, .int .i64 u4, .string ⟨#[]⟩, .int .u64 0, .int .i64 0, .string v5]) w9) := B9.load _ Tryz.underlying47 rfl (by kernel_rfl)
 have H9 : Hid (RS w0 g q6 w9) := X7s2.out.rs.box c9 X7s2.out.l1 X7s2.out.n1
 clear B9 c9 X7s2
 go_wp2_with fail
 (try simp only [Exit.inBlock, Exit.then])
 refine bodyPost_ret (results_cell rfl rfl HL.out) rfl ?_
 exact ⟨rfl, H9.out⟩
set_option maxHeartbeats 4000000 in
theorem routX_l {w0 w : World} {g : Nat} {q0 : PS} (h : RS w0 g q0 w) {q1 : PS} {v0 : Int} (s0 : q0.byt = q1) (x0 : q0.byV = v0) {q2 : PS} {v1 : Int} (s1 : q1.num = q2) (x1 : q1.nuV = v1) {q3 : PS} {v2 : ByteArray} (s2 : q2.has = q3) (x2 : q2.haV = v2) (k1 : v0 ≠ 1) (k2 : v0 ≠ 2) (k3 : v0 ≠ 3) :
 Calls Tryz.prog 136 #[.pointer (some ⟨g, 0, none⟩)] w fun r w' => r = .returned (.agg #[.int .i64 v0, .int .u64 v1, .string v2, .string ⟨#[]⟩, .int .i64 0, .string ⟨#[]⟩, .int .u64 0, .int .i64 0, .string ⟨#[]⟩]) ∧ RS w0 g (q3.fl 4) w' := by
 have hgl := h.lt
 have hsz := h.ch.size
 have HE : Hid (∀ o w' p', RS (w.alloc o) g p' w' → RS w0 g p' w') := fun o w' p' k => (h.q ((Q.refl w).alloc o)).over k
 have H0 : Hid (∀ o, RS (w.alloc o) g q0 (w.alloc o)) := fun o => (h.q ((Q.refl w).alloc o)).up
 have HB : Hid (∀ t, Box (w.alloc (.cells #[.int .i64 0, .int .u64 0, .string ⟨#[]⟩, .string ⟨#[]⟩, .int .i64 0, .string ⟨#[]⟩, .int .u64 0, .int .i64 0, .string ⟨#[]⟩] t)) w.heap.size [.int .i64 0, .int .u64 0, .string ⟨#[]⟩, .string ⟨#[]⟩, .int .i64 0, .string ⟨#[]⟩, .int .u64 0, .int .i64 0, .string ⟨#[]⟩]) := fun t => Box.new w [.int .i64 0, .int .u64 0, .string ⟨#[]⟩, .string ⟨#[]⟩, .int .i64 0, .string ⟨#[]⟩, .int .u64 0, .int .i64 0, .string ⟨#[]⟩] t
 clear h
 have t1 : (v0 == 1) = false := by simpa using k1
 have t2 : (v0 == 2) = false := by simpa using k2
 have t3 : (v0 == 3) = false := by simpa using k3
 clear k1 k2 k3
 go_enter Tryz.func136, Tryz.ntmps136
 go_wp2_with fail
 have B0 := Lib.hid (HB.out 47)
 have H0 := Lib.hid (H0.out (.cells #[.int .i64 0, .int .u64 0, .string ⟨#[]⟩, .string ⟨#[]⟩, .int .i64 0, .string ⟨#[]⟩, .int .u64 0, .int .i64 0, .string ⟨#[]⟩] 47))
 have HE := Lib.hid (HE.out (.cells #[.int .i64 0, .int .u64 0, .string ⟨#[]⟩, .string ⟨#[]⟩, .int .i64 0, .string ⟨#[]⟩, .int .u64 0, .int .i64 0, .string ⟨#[]⟩] 47))
 have hgr : g ≠ w.heap.size := by omega
 generalize w.alloc (.cells #[.int .i64 0, .int .u64 0, .string ⟨#[]⟩, .string ⟨#[]⟩, .int .i64 0, .string ⟨#[]⟩, .int .u64 0, .int .i64 0, .string ⟨#[]⟩] 47) = wA at *
 generalize w.heap.size = gr at *
 refine (H0.out.byte_l x0 s0).mono ?_
 rintro r w1 ⟨rfl, h⟩
 have H1 := Lib.hid (h)
 clear h H0
 go_wp2_with fail
 refine (H1.out.num_l x1 s1).mono ?_
 rintro r w2 ⟨rfl, h⟩
 have H2 := Lib.hid (h)
 clear h H1
 go_wp2_with fail
 refine (H2.out.hash_l x2 s2).mono ?_
 rintro r w3 ⟨rfl, h⟩
 have H3 := Lib.hid (h)
 clear h H2
 as_aux_lemma =>
 go_wp2_with (with_reducible (show wpList _ _ _ (⟨_, Op.build 47 _, _, _, _, _⟩ :: _) _ _); refine halt ?_)
 refine Lib.hid (wpl_ohead rfl v0 v1 v2 rfl _ rfl rfl rfl rfl ?_)
 refine wpList_allocZ rfl 47 rfl #[.int .i64 0, .int .u64 0, .string ⟨#[]⟩, .string ⟨#[]⟩, .int .i64 0, .string ⟨#[]⟩, .int .u64 0, .int .i64 0, .string ⟨#[]⟩] zero9 ?_
 have G3 := H3.out.lt
 have G4 := (B0.out.ch H3.out.ch hgr.symm).lt
 have G5 := (HE.out _ _ H3.out).ch.size
 refine st_box rfl 47 _ _ rfl w3.heap.size _ [.int .i64 v0, .int .u64 v1, .string v2, .string ⟨#[]⟩, .int .i64 0, .string ⟨#[]⟩, .int .u64 0, .int .i64 0, .string ⟨#[]⟩] rfl rfl (Box.new w3 [.int .i64 0, .int .u64 0, .string ⟨#[]⟩, .string ⟨#[]⟩, .int .i64 0, .string ⟨#[]⟩, .int .u64 0, .int .i64 0, .string ⟨#[]⟩] 47) rfl (by kernel_rfl) (one9 rfl rfl rfl rfl rfl rfl rfl rfl rfl) ?_
 intro w4 B4 c4
 have X4 : Hid (RX w0 g gr [.int .i64 0, .int .u64 0, .string ⟨#[]⟩, .string ⟨#[]⟩, .int .i64 0, .string ⟨#[]⟩, .int .u64 0, .int .i64 0, .string ⟨#[]⟩] w3.heap.size [.int .i64 v0, .int .u64 v1, .string v2, .string ⟨#[]⟩, .int .i64 0, .string ⟨#[]⟩, .int .u64 0, .int .i64 0, .string ⟨#[]⟩] q3 w4) := ⟨((HE.out _ _ H3.out).q ((Q.refl w3).alloc _)).box c4 G5 (by omega), ((B0.out.ch H3.out.ch hgr.symm).q ((Q.refl w3).alloc _)).ch c4 (by omega), B4, hgr, by omega, by omega, hsz, G5⟩
 generalize w3.heap.size = gb at *
 have c0 := (X4.out.cell 0 rfl).1
 clear B4 c4 H3 HE B0 G3 G4 G5
 go_wp2_with fail
 refine (X4.out.rs.up.fail_l rfl).mono ?_
 rintro r w5 ⟨rfl, h⟩
 have X5 := Lib.hid (X4.out.go h)
 clear h X4 c0
 go_wp2_with (with_reducible (show wpList _ _ _ (⟨_, Op.load 47 _, _, _, _, _⟩ :: _) _ _); refine halt ?_)
 refine Lib.hid (ld_box rfl 47 _ rfl gb _ rfl X5.out.bb Tryz.underlying47 rfl (by kernel_rfl) ?_)
 refine st_box rfl 47 _ _ rfl gr _ [.int .i64 v0, .int .u64 v1, .string v2, .string ⟨#[]⟩, .int .i64 0, .string ⟨#[]⟩, .int .u64 0, .int .i64 0, .string ⟨#[]⟩] rfl rfl X5.out.br rfl (by kernel_rfl) (one9 rfl rfl rfl rfl rfl rfl rfl rfl rfl) ?_
 intro w9 B9 c9
 have HL : Hid ((loadVar 47 ⟨gr, 0, none⟩).run Tryz.prog w9 = .ok (.agg #[.int .i64 v0, .int .u64 v1, .string v2, .string ⟨#[]⟩, .int .i64 0, .string ⟨#[]⟩, .int .u64 0, .int .i64 0, .string ⟨#[]⟩]) w9) := B9.load _ Tryz.underlying47 rfl (by kernel_rfl)
 have H9 : Hid (RS w0 g (q3.fl 4) w9) := X5.out.rs.box c9 X5.out.l1 X5.out.n1
 clear B9 c9 X5
 go_wp2_with fail
 (try simp only [Exit.inBlock, Exit.then])
 refine bodyPost_ret (results_cell rfl rfl HL.out) rfl ?_
 exact ⟨rfl, H9.out⟩
theorem rout_l {w0 w : World} {g : Nat} {p : PS} (h : RS w0 g p w) :
 Calls Tryz.prog 136 #[.pointer (some ⟨g, 0, none⟩)] w fun r w' => r = .returned (ouV (rdO IntKind.i64.wrap p)) ∧ RS w0 g (stO p) w' := by
 by_cases h1 : p.byV = 1
 · have e : rdO IntKind.i64.wrap p = ⟨p.byV, p.byt.nuV, p.byt.num.haV, ⟨#[]⟩, 0, ⟨#[]⟩, 0, 0, ⟨#[]⟩⟩ := by unfold rdO; rw [if_neg (by omega), if_neg (by omega)]
   have e2 : stO p = p.byt.num.has := by unfold stO; rw [if_neg (by omega), if_neg (by omega), if_pos h1]
   rw [e, e2, h1]
   exact rout1_l h rfl h1 rfl rfl rfl rfl
 by_cases h2 : p.byV = 2
 · have e : rdO IntKind.i64.wrap p = ⟨p.byV, p.byt.nuV, p.byt.num.haV, p.byt.num.has.haV, IntKind.i64.wrap p.byt.num.has.has.nuV, p.byt.num.has.has.num.haV, p.byt.num.has.has.num.has.nuV, IntKind.i64.wrap p.byt.num.has.has.num.has.num.nuV, ⟨#[]⟩⟩ := by unfold rdO; rw [if_pos h2]
   have e2 : stO p = p.byt.num.has.has.num.has.num.num := by unfold stO; rw [if_pos h2]
   rw [e, e2, h2]
   exact rout2_l h rfl h2 rfl rfl rfl rfl rfl rfl rfl rfl rfl rfl rfl rfl rfl rfl rfl rfl
 by_cases h3 : p.byV = 3
 · have e : rdO IntKind.i64.wrap p = ⟨p.byV, p.byt.nuV, p.byt.num.haV, p.byt.num.has.haV, IntKind.i64.wrap p.byt.num.has.has.nuV, ⟨#[]⟩, 0, 0, p.byt.num.has.has.num.haV⟩ := by unfold rdO; rw [if_neg h2, if_pos h3]
   have e2 : stO p = p.byt.num.has.has.num.has := by unfold stO; rw [if_neg h2, if_pos h3]
   rw [e, e2, h3]
   exact rout3_l h rfl h3 rfl rfl rfl rfl rfl rfl rfl rfl rfl rfl rfl
 · have e : rdO IntKind.i64.wrap p = ⟨p.byV, p.byt.nuV, p.byt.num.haV, ⟨#[]⟩, 0, ⟨#[]⟩, 0, 0, ⟨#[]⟩⟩ := by unfold rdO; rw [if_neg h2, if_neg h3]
   have e2 : stO p = p.byt.num.has.fl 4 := by unfold stO; rw [if_neg h2, if_neg h3, if_neg h1]
   rw [e, e2]
   exact routX_l h rfl rfl rfl rfl rfl rfl h1 h2 h3
theorem info_of {P : Program} {t : TypeId} {z : Value} {k b : Nat} (h : (P.info? t).map (fun i => (i.zero, i.size, i.bytes)) = some (some z, k, b)) : ∃ i, P.info? t = some i ∧ i.zero = some z ∧ i.size = k ∧ i.bytes = b := by
 cases hi : P.info? t with
 | none => rw [hi] at h; cases h
 | some i =>
  rw [hi] at h
  simp only [Option.map_some, Option.some.injEq, Prod.mk.injEq] at h
  exact ⟨i, rfl, h.1, h.2.1, h.2.2⟩
theorem built_win (v0 : ByteArray) (v1 v2 v3 v4 : Int) (v5 : ByteArray) (v6 : Int) (v7 v8 : ByteArray) (v9 : Int) : Tryz.prog.built 135 [(0, .agg #[.string v0, .int .u64 v1, .int .u64 v2, .int .u64 v3, .int .u64 v4, .string v5, .int .u64 v6, .string v7]), (1, .string v8), (2, .int .u64 v9)] = some #[.string v0, .int .u64 v1, .int .u64 v2, .int .u64 v3, .int .u64 v4, .string v5, .int .u64 v6, .string v7, .string v8, .int .u64 v9] := by kernel_rfl
theorem wpo_win {o : Oper} {a : Act} {w : World} {K : Act → World → Prop} {Q : Exit → Act → World → Prop} {n0 n1 n2 : Nat} (v0 : ByteArray) (v1 v2 v3 v4 : Int) (v5 : ByteArray) (v6 : Int) (v7 v8 : ByteArray) (v9 : Int) (ho : o.op = .build 135 #[(0, .tmp n0), (1, .tmp n1), (2, .tmp n2)]) (h0 : a.eval (.tmp n0) = .agg #[.string v0, .int .u64 v1, .int .u64 v2, .int .u64 v3, .int .u64 v4, .string v5, .int .u64 v6, .string v7]) (h1 : a.eval (.tmp n1) = .string v8) (h2 : a.eval (.tmp n2) = .int .u64 v9) (h : K (a.put o.dst (.agg #[.string v0, .int .u64 v1, .int .u64 v2, .int .u64 v3, .int .u64 v4, .string v5, .int .u64 v6, .string v7, .string v8, .int .u64 v9])) w) : o.wp Tryz.prog a w K Q := by
 have e : Tryz.prog.built 135 ((#[(0, .tmp n0), (1, .tmp n1), (2, .tmp n2)] : Array (Nat × Operand)).map fun (i, x) => (i, a.eval x)).toList = some #[.string v0, .int .u64 v1, .int .u64 v2, .int .u64 v3, .int .u64 v4, .string v5, .int .u64 v6, .string v7, .string v8, .int .u64 v9] := by
  simp only [List.map_toArray, List.map_cons, List.map_nil, h0, h1, h2]
  exact built_win v0 v1 v2 v3 v4 v5 v6 v7 v8 v9
 refine wp_build 135 _ ho (by rw [e]; rfl) ?_
 rw [e]
 exact h
theorem info_win : (Tryz.prog.info? 135).map (fun i => (i.zero, i.size, i.bytes)) = some (some (.agg #[.string ⟨#[]⟩, .int .u64 0, .int .u64 0, .int .u64 0, .int .u64 0, .string ⟨#[]⟩, .int .u64 0, .string ⟨#[]⟩, .string ⟨#[]⟩, .int .u64 0]), 10, 112) := by kernel_rfl
theorem fill_win (v0 : ByteArray) (v1 v2 v3 v4 : Int) (v5 : ByteArray) (v6 : Int) (v7 v8 : ByteArray) (v9 : Int) : Instr.fill (fun i => some (i * 10, 10)) ((Array.range (1 * 10)).map ((Value.agg #[.string ⟨#[]⟩, .int .u64 0, .int .u64 0, .int .u64 0, .int .u64 0, .string ⟨#[]⟩, .int .u64 0, .string ⟨#[]⟩, .string ⟨#[]⟩, .int .u64 0]).cells[· % (Value.agg #[.string ⟨#[]⟩, .int .u64 0, .int .u64 0, .int .u64 0, .int .u64 0, .string ⟨#[]⟩, .int .u64 0, .string ⟨#[]⟩, .string ⟨#[]⟩, .int .u64 0]).cells.size]!)) [(0, .agg #[.string v0, .int .u64 v1, .int .u64 v2, .int .u64 v3, .int .u64 v4, .string v5, .int .u64 v6, .string v7, .string v8, .int .u64 v9])] = some #[.string v0, .int .u64 v1, .int .u64 v2, .int .u64 v3, .int .u64 v4, .string v5, .int .u64 v6, .string v7, .string v8, .int .u64 v9] := by kernel_rfl
theorem wpo_rowwin {o : Oper} {a : Act} {w : World} {K : Act → World → Prop} {Q : Exit → Act → World → Prop} {n0 : Nat} (v0 : ByteArray) (v1 v2 v3 v4 : Int) (v5 : ByteArray) (v6 : Int) (v7 v8 : ByteArray) (v9 : Int) (ho : o.op = .buildSlice 25 1 #[(0, .tmp n0)]) (h0 : a.eval (.tmp n0) = .agg #[.string v0, .int .u64 v1, .int .u64 v2, .int .u64 v3, .int .u64 v4, .string v5, .int .u64 v6, .string v7, .string v8, .int .u64 v9])
 (h : K (a.put o.dst (.slice (some ⟨w.heap.size, 0, none⟩) 1 1)) (w.alloc (.cells #[.string v0, .int .u64 v1, .int .u64 v2, .int .u64 v3, .int .u64 v4, .string v5, .int .u64 v6, .string v7, .string v8, .int .u64 v9] 135))) : o.wp Tryz.prog a w K Q := by
 obtain ⟨i0, hi0, hz0, hz1, hz2⟩ := info_of info_win
 refine wp_buildSlice 25 135 1 _ ho #[.string v0, .int .u64 v1, .int .u64 v2, .int .u64 v3, .int .u64 v4, .string v5, .int .u64 v6, .string v7, .string v8, .int .u64 v9] i0 _ Tryz.underlying25 hi0 hz0 (by rw [hz1]; decide) (by rw [hz1]; decide) ?_ h
 rw [hz1]
 simp only [List.map_toArray, List.map_cons, List.map_nil, h0]
 exact fill_win v0 v1 v2 v3 v4 v5 v6 v7 v8 v9
theorem built_pzero  : Tryz.prog.built 27 [] = some #[.int .u64 0, .string ⟨#[]⟩, .string ⟨#[]⟩, .slice none 0 0] := by kernel_rfl
theorem wpl_pzero {ops : Array Oper} {rest : List Oper} {o : Oper} {a : Act} {w : World} {Q : Exit → Act → World → Prop} (hg : o.guard = none)  (ho : o.op = .build 27 #[]) (d : Option Tmp) (hd : o.dst = d)  (h : wpList Tryz.prog ops Q rest (a.put d (.agg #[.int .u64 0, .string ⟨#[]⟩, .string ⟨#[]⟩, .slice none 0 0])) w) : wpList Tryz.prog ops Q (o :: rest) a w := by
 refine wpList_buildTo hg 27 _ ho d hd _ ?_ h
 simp only [List.map_toArray, List.map_nil]
 exact built_pzero
theorem built_phead (v0 : Int) (v1 v2 : ByteArray) : Tryz.prog.built 27 [(0, .int .u64 v0), (1, .string v1), (2, .string v2)] = some #[.int .u64 v0, .string v1, .string v2, .slice none 0 0] := by kernel_rfl
theorem wpl_phead {ops : Array Oper} {rest : List Oper} {o : Oper} {a : Act} {w : World} {Q : Exit → Act → World → Prop} (hg : o.guard = none) {n0 n1 n2 : Nat} (v0 : Int) (v1 v2 : ByteArray) (ho : o.op = .build 27 #[(0, .tmp n0), (1, .tmp n1), (2, .tmp n2)]) (d : Option Tmp) (hd : o.dst = d) (h0 : a.eval (.tmp n0) = .int .u64 v0) (h1 : a.eval (.tmp n1) = .string v1) (h2 : a.eval (.tmp n2) = .string v2) (h : wpList Tryz.prog ops Q rest (a.put d (.agg #[.int .u64 v0, .string v1, .string v2, .slice none 0 0])) w) : wpList Tryz.prog ops Q (o :: rest) a w := by
 refine wpList_buildTo hg 27 _ ho d hd _ ?_ h
 simp only [List.map_toArray, List.map_cons, List.map_nil, h0, h1, h2]
 exact built_phead v0 v1 v2
theorem one4 {v0 v1 v2 v3 : Value} (h0 : v0.oneCell' = true) (h1 : v1.oneCell' = true) (h2 : v2.oneCell' = true) (h3 : v3.oneCell' = true) : ∀ v ∈ [v0, v1, v2, v3], v.oneCell' = true := by
 intro v hv; simp at hv; rcases hv with rfl | rfl | rfl | rfl <;> assumption
theorem one10 {v0 v1 v2 v3 v4 v5 v6 v7 v8 v9 : Value} (h0 : v0.oneCell' = true) (h1 : v1.oneCell' = true) (h2 : v2.oneCell' = true) (h3 : v3.oneCell' = true) (h4 : v4.oneCell' = true) (h5 : v5.oneCell' = true) (h6 : v6.oneCell' = true) (h7 : v7.oneCell' = true) (h8 : v8.oneCell' = true) (h9 : v9.oneCell' = true) : ∀ v ∈ [v0, v1, v2, v3, v4, v5, v6, v7, v8, v9], v.oneCell' = true := by
 intro v hv; simp at hv; rcases hv with rfl | rfl | rfl | rfl | rfl | rfl | rfl | rfl | rfl | rfl <;> assumption
theorem zeroP (w : World) : (zeroValue 27).run Tryz.prog w = .ok (.agg #[.int .u64 0, .string ⟨#[]⟩, .string ⟨#[]⟩, .slice none 0 0]) w := by
 have h : (Tryz.prog.info? 27).bind (·.zero) = some (.agg #[.int .u64 0, .string ⟨#[]⟩, .string ⟨#[]⟩, .slice none 0 0]) := by kernel_rfl
 cases hi : Tryz.prog.info? 27 with
 | none => rw [hi] at h; cases h
 | some i => rw [hi] at h; simp [zeroValue, typeInfo, hi, show i.zero = some (.agg #[.int .u64 0, .string ⟨#[]⟩, .string ⟨#[]⟩, .slice none 0 0]) from h]
theorem rowN (w : World) (v0 : ByteArray) (v1 v2 v3 v4 : Int) (v5 : ByteArray) (v6 : Int) (v7 v8 : ByteArray) (v9 : Int) : ∀ j u, [.string v0, .int .u64 v1, .int .u64 v2, .int .u64 v3, .int .u64 v4, .string v5, .int .u64 v6, .string v7, .string v8, .int .u64 v9][j]? = some u → (w.alloc (.cells #[.string v0, .int .u64 v1, .int .u64 v2, .int .u64 v3, .int .u64 v4, .string v5, .int .u64 v6, .string v7, .string v8, .int .u64 v9] 135)).cell? ((⟨w.heap.size, 0, none⟩ : Addr).add j) = some u := by
 intro j u hu
 rw [Go.WideShapes.add_plain, Nat.zero_add, World.cell?_alloc_at _ _ _ _ rfl]
 simpa using hu
theorem RX.grown {w0 w w' : World} {g gr gb : Nat} {Z cs : List Value} {p : PS} {o : Option Nat} {B : Nat} (h : RX w0 g gr Z gb cs p w) (k : w.grownBy w' o) (ho : ∀ j, o = some j → B ≤ j) (h1 : gb < B) (h2 : g < B) (h3 : gr < B) (h4 : w0.heap.size ≤ B) : RX w0 g gr Z gb cs p w' := by
 have bl : ∀ j, j < B → j < w.heap.size → w'.heap[j]? = w.heap[j]? := fun j hj hl => k.block j hl (fun e => by have := ho j e.symm; omega)
 have bx : ∀ b cs, b < B → Box w b cs → Box w' b cs := fun b cs hb H => ⟨fun j v hv => by rw [World.cell?_of_block (a := ⟨b, j, none⟩) (bl b hb H.lt)]; exact H.at_ j v hv, fun j => by rw [World.frozen?_of_block (a := ⟨b, j, none⟩) (bl b hb H.lt)]; exact H.fz j, Nat.lt_of_lt_of_le H.lt k.size⟩
 have hl := h.rs.lt
 refine ⟨⟨⟨?_, ?_, fun j => ?_⟩, ⟨k.os.trans h.rs.ch.os, k.tape.trans h.rs.ch.tape, k.output.trans h.rs.ch.output, Nat.le_trans h.rs.ch.size k.size, fun j hj hj2 => (bl j (by omega) (Nat.lt_of_lt_of_le hj h.rs.ch.size)).trans (h.rs.ch.block j hj hj2)⟩, h.rs.z⟩, bx _ _ h3 h.br, bx _ _ h1 h.bb, h.n1, h.n2, h.n3, h.l1, h.l2⟩
 · rw [World.cell?_of_block (a := ⟨g, 0, none⟩) (bl g h2 hl)]; exact h.rs.rd.s0
 · rw [World.cell?_of_block (a := ⟨g, 1, none⟩) (bl g h2 hl)]; exact h.rs.rd.e1
 · rw [World.frozen?_of_block (a := ⟨g, j, none⟩) (bl g h2 hl)]; exact h.rs.rd.fz j
/-- What note.Decode answers. -/
def NDo (s : ByteArray) (w : World) (r : Ending) (w' : World) : Prop := ∃ a c, r = .returned (.tuple #[pfV (ndV s) a c, .int .i64 (ndE s)]) ∧ SL WN.cells 10 w' a (ndV s).n (ndV s).w ∧ (∀ x, a = some x → w.heap.size ≤ x.block) ∧ Q w w'
set_option maxHeartbeats 4000000 in
theorem ndecode_x (s : ByteArray) (hs : s.size ≤ 1000000) (W : World) : Calls Tryz.prog 116 #[.string s] W (NDo s W) := by
 have HB : Hid (∀ t, Box (W.alloc (.cells #[.int .u64 0, .string ⟨#[]⟩, .string ⟨#[]⟩, .slice none 0 0] t)) W.heap.size [.int .u64 0, .string ⟨#[]⟩, .string ⟨#[]⟩, .slice none 0 0]) := fun t => Box.new W _ t
 have HQ : Hid (∀ o, Q W (W.alloc o)) := fun o => (Q.refl W).alloc o
 go_enter Tryz.func116, Tryz.ntmps116
 go_wp2_with fail
 have B0 := Lib.hid (HB.out 27)
 have Q0 := Lib.hid (HQ.out (.cells #[.int .u64 0, .string ⟨#[]⟩, .string ⟨#[]⟩, .slice none 0 0] 27))
 clear HB HQ
 have hsz : (W.alloc (.cells #[.int .u64 0, .string ⟨#[]⟩, .string ⟨#[]⟩, .slice none 0 0] 27)).heap.size = W.heap.size + 1 := by simp
 generalize W.alloc (.cells #[.int .u64 0, .string ⟨#[]⟩, .string ⟨#[]⟩, .slice none 0 0] 27) = wA at *
 refine (read_l s hs _).mono ?_
 rintro r w1 ⟨rfl, h, q1⟩
 have H1 : Hid (RS W wA.heap.size ⟨s, 0⟩ w1) := ⟨h.rd, Ch.of_q (Q0.out.trans q1) _, h.z⟩
 have B1 := Lib.hid (B0.out.q q1)
 have n1 : wA.heap.size ≠ W.heap.size := by omega
 have l3 : W.heap.size ≤ wA.heap.size := by omega
 generalize wA.heap.size = g at *
 clear h q1 Q0 B0 hsz
 have l1 : W.heap.size ≤ W.heap.size := Nat.le_refl _
 obtain ⟨v0, x0⟩ : ∃ v, (PS.mk s 0).nuV = v := ⟨_, rfl⟩
 obtain ⟨q1, s0⟩ : ∃ v, (PS.mk s 0).num = v := ⟨_, rfl⟩
 obtain ⟨v1, x1⟩ : ∃ v, q1.blV 400 = v := ⟨_, rfl⟩
 obtain ⟨q2, s1⟩ : ∃ v, q1.blo 400 = v := ⟨_, rfl⟩
 obtain ⟨v2, x2⟩ : ∃ v, q2.blV 16 = v := ⟨_, rfl⟩
 obtain ⟨q3, s2⟩ : ∃ v, q2.blo 16 = v := ⟨_, rfl⟩
 have HP : Hid (ndP s = q3) := by show _ = _; unfold ndP; rw [s0, s1, s2]
 have HX : Hid (ndX s = ⟨v0, v1, v2, ndK s, fun i => rdW (ndQ s i)⟩) := by show _ = _; unfold ndX; rw [x0, s0, x1, s1, x2]
 go_wp2_with fail
 refine (H1.out.up.num_l x0 s0).mono ?_
 rintro r w2 ⟨rfl, h⟩
 have B2 := Lib.hid (B1.out.ch h.ch n1.symm)
 have H2 := Lib.hid (H1.out.over h)
 clear h H1 B1
 go_wp2_with fail
 refine (H2.out.up.blob_l x1 s1).mono ?_
 rintro r w3 ⟨rfl, h⟩
 have B3 := Lib.hid (B2.out.ch h.ch n1.symm)
 have H3 := Lib.hid (H2.out.over h)
 clear h H2 B2
 go_wp2_with fail
 refine (H3.out.up.blob_l x2 s2).mono ?_
 rintro r w4 ⟨rfl, h⟩
 have B4 := Lib.hid (B3.out.ch h.ch n1.symm)
 have H4 := Lib.hid (H3.out.over h)
 clear h H3 B3
 as_aux_lemma =>
 go_wp2_with (with_reducible (show wpList _ _ _ (⟨_, Op.build 27 _, _, _, _, _⟩ :: _) _ _); refine halt ?_)
 refine Lib.hid (wpl_phead rfl v0 v1 v2 rfl _ rfl rfl rfl rfl ?_)
 refine wpList_allocZ rfl 27 rfl #[.int .u64 0, .string ⟨#[]⟩, .string ⟨#[]⟩, .slice none 0 0] zeroP ?_
 have G3 := H4.out.lt
 have G4 := B4.out.lt
 have G5 := H4.out.ch.size
 refine st_box rfl 27 _ _ rfl w4.heap.size _ [.int .u64 v0, .string v1, .string v2, .slice none 0 0] rfl rfl (Box.new w4 [.int .u64 0, .string ⟨#[]⟩, .string ⟨#[]⟩, .slice none 0 0] 27) rfl (by kernel_rfl) (one4 rfl rfl rfl rfl) ?_
 intro w5 B5 c5
 have X5 : Hid (RX W g W.heap.size [.int .u64 0, .string ⟨#[]⟩, .string ⟨#[]⟩, .slice none 0 0] w4.heap.size [.int .u64 v0, .string v1, .string v2, .slice none 0 0] q3 w5) := ⟨(H4.out.q ((Q.refl w4).alloc _)).box c5 G5 (by omega), (B4.out.q ((Q.refl w4).alloc _)).ch c5 (by omega), B5, n1, by omega, by omega, l1, G5⟩
 generalize w4.heap.size = gb at *
 clear B5 c5 H4 B4 G3 G4 G5
 go_wp2_with fail
 refine (X5.out.rs.up.byte_l rfl rfl).mono ?_
 rintro r w6 ⟨rfl, h⟩
 have X6 := Lib.hid (X5.out.go h)
 clear h X5
 have hK : min q3.byV 4 = (ndK s : Int) := by unfold ndK; rw [HP.out]; have := PS.byV_in q3; omega
 have hK4 := ndK_le s
 have e0 : Hid (q3.byt = ndQ s 0) := by show _ = _; unfold ndQ; rw [HP.out]; rfl
 go_wp2_with fail
 have X7 : Hid (RX W g W.heap.size [.int .u64 0, .string ⟨#[]⟩, .string ⟨#[]⟩, .slice none 0 0] gb [.int .u64 v0, .string v1, .string v2, .slice none 0 0] (ndQ s 0) w6) := by rw [← e0.out]; exact X6.out
 have hlB := X6.out.bb.lt
 have hlB2 := X6.out.rs.lt
 have hlB3 := X6.out.br.lt
 have hlB4 := X6.out.rs.ch.size
 have O7 := Lib.hid (OR.nil 135 WN.cells 10 w6 w6.heap.size (fun i => rdW (ndQ s i)))
 clear X6 e0 HP
 obtain ⟨B, hB⟩ : ∃ n, w6.heap.size = n := ⟨_, rfl⟩
 rw [hB] at hlB hlB2 hlB3 hlB4 O7
 have HBE := Lib.hid (Nat.le_of_eq hB.symm)
 clear hB
 go_loopw [19] (fun i wr => ∃ (k : Nat) (a : Option Addr) (cap : Nat), k ≤ ndK s ∧ i = .int .i64 k ∧ B ≤ wr.heap.size ∧ Hid (RX W g W.heap.size [.int .u64 0, .string ⟨#[]⟩, .string ⟨#[]⟩, .slice none 0 0] gb [.int .u64 v0, .string v1, .string v2, .slice a k cap] (ndQ s k) wr) ∧ Hid (OR 135 WN.cells 10 wr B a k cap (fun i => rdW (ndQ s i)))) (fun i _ => ndK s - (intOf i).toNat)
 case atStart => exact ⟨0, none, 0, by omega, rfl, HBE.out, X7, O7⟩
 case round =>
  obtain ⟨k, a, cap, hk, rfl, hb, X, O⟩ := hrel
  clear X7 O7
  have k0 : (0 : Int) ≤ (k : Int) := by omega
  by_cases hlt : k < ndK s
  · have k1 : (k : Int) < (ndK s : Int) := by omega
    obtain ⟨p0, hp0⟩ : ∃ v, ndQ s k = v := ⟨_, rfl⟩
    obtain ⟨y0, b0⟩ : ∃ v, p0.haV = v := ⟨_, rfl⟩
    obtain ⟨p1, a0⟩ : ∃ v, p0.has = v := ⟨_, rfl⟩
    obtain ⟨y1, b1⟩ : ∃ v, p1.nuV = v := ⟨_, rfl⟩
    obtain ⟨p2, a1⟩ : ∃ v, p1.num = v := ⟨_, rfl⟩
    obtain ⟨y2, b2⟩ : ∃ v, p2.nuV = v := ⟨_, rfl⟩
    obtain ⟨p3, a2⟩ : ∃ v, p2.num = v := ⟨_, rfl⟩
    obtain ⟨y3, b3⟩ : ∃ v, p3.nuV = v := ⟨_, rfl⟩
    obtain ⟨p4, a3⟩ : ∃ v, p3.num = v := ⟨_, rfl⟩
    obtain ⟨y4, b4⟩ : ∃ v, p4.nuV = v := ⟨_, rfl⟩
    obtain ⟨p5, a4⟩ : ∃ v, p4.num = v := ⟨_, rfl⟩
    obtain ⟨y5, b5⟩ : ∃ v, p5.haV = v := ⟨_, rfl⟩
    obtain ⟨p6, a5⟩ : ∃ v, p5.has = v := ⟨_, rfl⟩
    obtain ⟨y6, b6⟩ : ∃ v, p6.nuV = v := ⟨_, rfl⟩
    obtain ⟨p7, a6⟩ : ∃ v, p6.num = v := ⟨_, rfl⟩
    obtain ⟨y7, b7⟩ : ∃ v, p7.blV 400 = v := ⟨_, rfl⟩
    obtain ⟨p8, a7⟩ : ∃ v, p7.blo 400 = v := ⟨_, rfl⟩
    obtain ⟨y8, b8⟩ : ∃ v, p8.blV 32 = v := ⟨_, rfl⟩
    obtain ⟨p9, a8⟩ : ∃ v, p8.blo 32 = v := ⟨_, rfl⟩
    obtain ⟨y9, b9⟩ : ∃ v, p9.nuV = v := ⟨_, rfl⟩
    obtain ⟨p10, a9⟩ : ∃ v, p9.num = v := ⟨_, rfl⟩
    have HW : Hid ((rdW (ndQ s k)).cells = [.string y0, .int .u64 y1, .int .u64 y2, .int .u64 y3, .int .u64 y4, .string y5, .int .u64 y6, .string y7, .string y8, .int .u64 y9]) := by show _ = _; rw [hp0]; unfold rdW WN.cells; rw [b0, a0, b1, a1, b2, a2, b3, a3, b4, a4, b5, a5, b6, a6, b7, a7, b8, a8, b9]
    have HS : Hid (p10 = ndQ s (k + 1)) := by show _ = stW (ndQ s k); rw [hp0]; unfold stW; rw [a0, a1, a2, a3, a4, a5, a6, a7, a8, a9]
    rw [hp0] at X
    clear hp0
    have XD := Lib.hid (X.out.q (Q.refl _).drew)
    have OD := Lib.hid (O.out.q (Q.refl _).drew)
    have hbD : B ≤ wr.drew.heap.size := hb
    clear X O
    go_wp2_with fail
    as_aux_lemma =>
    obtain ⟨i0, hi0, hz0, hz1, hz2⟩ := info_of info_win
    refine wp_region_held_drew (S := fun _ => True) (by kernel_rfl) trivial (fun hHeld => ?_)
    refine wtk (i := 0) (v := ?_) (gat rfl) (by kernel_rfl) (by exact fun _ _ _ h => h) (Or.inl ⟨by rfl, ?_⟩) (by assumption) ?_
    rotate_left
    · (intro wx hSw; (try dsimp only at hSw); go_simp; (try rw [if_neg (by omega)]); try (with_reducible rfl))
    try simp only [Act.put, pu]
    refine wtk (i := 2) (v := ?_) (gat rfl) (by kernel_rfl) (by exact fun _ _ _ h => h) (Or.inl ⟨by rfl, ?_⟩) (by assumption) ?_
    rotate_left
    · (intro wx hSw; (try dsimp only at hSw); go_simp; (try rw [if_neg (by omega)]); try (with_reducible rfl))
    try simp only [Act.put, pu]
    refine wtk (i := 4) (v := ?_) (gat rfl) (by kernel_rfl) (by exact fun _ _ _ h => h) (Or.inl ⟨by rfl, ?_⟩) (by assumption) ?_
    rotate_left
    · (intro wx hSw; (try dsimp only at hSw); go_simp; (try rw [if_neg (by omega)]); try (with_reducible rfl))
    try simp only [Act.put, pu]
    refine wtk (i := 6) (v := ?_) (gat rfl) (by kernel_rfl) (by exact fun _ _ _ h => h) (Or.inl ⟨by rfl, ?_⟩) (by assumption) ?_
    rotate_left
    · (intro wx hSw; (try dsimp only at hSw); go_simp; (try rw [if_neg (by omega)]); try (with_reducible rfl))
    try simp only [Act.put, pu]
    refine wpAnyH_ready (rs := [1, 3]) (by kernel_rfl) (by simp) ?_
    refine AllReadyH.cons (gat rfl) (fun K hK => ?_) (ar1 (gat rfl) fun K hK => ?_)
    · as_aux_lemma =>
      have dl := (XD.out.cell 3 rfl).1
      go_simp
      refine hK.out _ _ trivial (fun _ => ?_)
      clear hK K dl
      try simp only [Act.put, pu]
      refine wpAnyH_ready (rs := [3]) (by kernel_rfl) (by simp) ?_
      refine ar1 (gat rfl) fun K hK => ?_
      go_simp
      refine (rticket_l XD.out.rs.up a0 b0 a1 b1 a2 b2 a3 b3 a4 b4 a5 b5 a6 b6 a7 b7).mono ?_
      rintro r z1 ⟨rfl, h⟩
      have X1z := Lib.hid (XD.out.go h)
      have O1z := Lib.hid (OD.out.low h.ch hlB2)
      have hb1 : B ≤ z1.heap.size := Nat.le_trans hbD h.ch.size
      clear h XD OD
      dsimp only
      refine hK.out _ _ trivial (fun _ => ?_)
      clear hK K
      try simp only [Act.put, pu]
      refine wpAnyH_ready (rs := [5]) (by kernel_rfl) (by simp) ?_
      refine ar1 (gat rfl) fun K hK => ?_
      go_simp
      refine (X1z.out.rs.up.blob_l b8 a8).mono ?_
      rintro r z2 ⟨rfl, h⟩
      have X2z := Lib.hid (X1z.out.go h)
      have O2z := Lib.hid (O1z.out.low h.ch hlB2)
      have hb2 : B ≤ z2.heap.size := Nat.le_trans hb1 h.ch.size
      clear h X1z O1z
      dsimp only
      refine hK.out _ _ trivial (fun _ => ?_)
      clear hK K
      try simp only [Act.put, pu]
      refine wpAnyH_ready (rs := [7]) (by kernel_rfl) (by simp) ?_
      refine ar1 (gat rfl) fun K hK => ?_
      go_simp
      refine (X2z.out.rs.up.num_l b9 a9).mono ?_
      rintro r z3 ⟨rfl, h⟩
      have X3z := Lib.hid (X2z.out.go h)
      have O3z := Lib.hid (O2z.out.low h.ch hlB2)
      have hb3 : B ≤ z3.heap.size := Nat.le_trans hb2 h.ch.size
      clear h X2z O2z
      dsimp only
      refine hK.out _ _ trivial (fun _ => ?_)
      clear hK K
      try simp only [Act.put, pu]
      refine wpAnyH_ready (rs := [8]) (by kernel_rfl) (by simp) ?_
      refine ar1 (gat rfl) fun K hK => ?_
      rw [if_pos (by rfl)]
      refine wpo_win y0 y1 y2 y3 y4 y5 y6 y7 y8 y9 rfl rfl rfl rfl ?_
      refine hK.out _ _ trivial (fun _ => ?_)
      clear hK K
      try simp only [Act.put, pu]
      refine wpAnyH_ready (rs := [9]) (by kernel_rfl) (by simp) ?_
      refine ar1 (gat rfl) fun K hK => ?_
      rw [if_pos (by rfl)]
      refine wpo_rowwin y0 y1 y2 y3 y4 y5 y6 y7 y8 y9 rfl rfl ?_
      have X4z := Lib.hid (X3z.out.q ((Q.refl z3).alloc (.cells #[.string y0, .int .u64 y1, .int .u64 y2, .int .u64 y3, .int .u64 y4, .string y5, .int .u64 y6, .string y7, .string y8, .int .u64 y9] 135)))
      have O4z := Lib.hid (O3z.out.q ((Q.refl z3).alloc (.cells #[.string y0, .int .u64 y1, .int .u64 y2, .int .u64 y3, .int .u64 y4, .string y5, .int .u64 y6, .string y7, .string y8, .int .u64 y9] 135)))
      have N4z := Lib.hid (rowN z3 y0 y1 y2 y3 y4 y5 y6 y7 y8 y9)
      have hb4 : B ≤ (z3.alloc (.cells #[.string y0, .int .u64 y1, .int .u64 y2, .int .u64 y3, .int .u64 y4, .string y5, .int .u64 y6, .string y7, .string y8, .int .u64 y9] 135)).heap.size := Nat.le_trans hb3 (by simp)
      clear X3z O3z
      refine hK.out _ _ trivial (fun _ => ?_)
      clear hK K
      try simp only [Act.put, pu]
      as_aux_lemma =>
      refine wpAnyH_ready (rs := [10]) (by kernel_rfl) (by simp) ?_
      refine ar1 (gat rfl) fun K hK => ?_
      rw [if_pos (by rfl)]
      refine wp_append_own _ (.tmp 22) (.tmp 30) 25 rfl B 135 i0 _ 10 112 Tryz.underlying25 hi0 hz0 hz1 hz2 rfl (by decide) _ _ _ rfl O4z.out ⟨z3.heap.size, 0, none⟩ 1 1 [.string y0, .int .u64 y1, .int .u64 y2, .int .u64 y3, .int .u64 y4, .string y5, .int .u64 y6, .string y7, .string y8, .int .u64 y9] rfl rfl N4z.out (one10 rfl rfl rfl rfl rfl rfl rfl rfl rfl rfl) (by unfold maxLen; omega) (by omega) hb4 ?_
      intro v3 w3 hown3 hgrow3 _hn
      rw [← HW.out] at hown3
      have hb3 : B ≤ w3.heap.size := Nat.le_trans hb4 hgrow3.size
      have X3 := Lib.hid (RX.grown X4z.out hgrow3 (fun j hj => (World.ownsRow.lt O4z.out j hj).1) hlB hlB2 hlB3 hlB4)
      obtain ⟨g3, cap3, rfl, o3⟩ := OR.next hown3
      have O3 := Lib.hid o3
      clear hgrow3 _hn hown3 o3 X4z O4z N4z
      refine hK.out _ _ trivial (fun _ => ?_)
      clear hK K
      try simp only [Act.put, pu]
      refine wpAnyH_ready (rs := [11]) (by kernel_rfl) (by simp) ?_
      refine ar1 (gat rfl) fun K hK => ?_
      go_simp
      refine hK.out _ _ trivial (fun _ => ?_)
      clear hK K
      try simp only [Act.put, pu]
      obtain ⟨d3, f3⟩ := X3.out.cell 3 rfl
      refine wpAnyH_ready (rs := [12]) (by kernel_rfl) (by simp) ?_
      refine ar1 (gat rfl) fun K hK => ?_
      go_simp
      refine hK.out _ _ trivial (fun _ => ?_)
      clear hK K
      try simp only [Act.put, pu]
      clear d3 f3
      have X4 := Lib.hid (X3.out.set 3 (.slice (some ⟨g3, 0, none⟩) (k + 1) cap3))
      have O4 := Lib.hid (O3.out.low (Ch.set w3 gb 3 (.slice (some ⟨g3, 0, none⟩) (k + 1) cap3)) hlB)
      have hb4 : B ≤ (w3.setCell ⟨gb, 3, none⟩ (.slice (some ⟨g3, 0, none⟩) (k + 1) cap3)).heap.size := by simpa using hb3
      clear X3 O3 hb3
      rw [HS.out] at X4
      refine wpAnyH_done (by kernel_rfl) ?_ _
      go_wp2_with fail
      go_roundw
      case rel => exact ⟨k + 1, _, cap3, by omega, by go_num, hb4, X4, O4⟩
      case measure => simp [intOf]; omega
    · as_aux_lemma =>
      go_simp
      refine (rticket_l XD.out.rs.up a0 b0 a1 b1 a2 b2 a3 b3 a4 b4 a5 b5 a6 b6 a7 b7).mono ?_
      rintro r z5 ⟨rfl, h⟩
      have X5z := Lib.hid (XD.out.go h)
      have O5z := Lib.hid (OD.out.low h.ch hlB2)
      have hb5 : B ≤ z5.heap.size := Nat.le_trans hbD h.ch.size
      clear h XD OD
      dsimp only
      refine hK.out _ _ trivial (fun _ => ?_)
      clear hK K
      try simp only [Act.put, pu]
      refine wpAnyH_ready (rs := [1, 5]) (by kernel_rfl) (by simp) ?_
      refine AllReadyH.cons (gat rfl) (fun K hK => ?_) (ar1 (gat rfl) fun K hK => ?_)
      · as_aux_lemma =>
        have dl := (X5z.out.cell 3 rfl).1
        go_simp
        refine hK.out _ _ trivial (fun _ => ?_)
        clear hK K dl
        try simp only [Act.put, pu]
        refine wpAnyH_ready (rs := [5]) (by kernel_rfl) (by simp) ?_
        refine ar1 (gat rfl) fun K hK => ?_
        go_simp
        refine (X5z.out.rs.up.blob_l b8 a8).mono ?_
        rintro r z6 ⟨rfl, h⟩
        have X6z := Lib.hid (X5z.out.go h)
        have O6z := Lib.hid (O5z.out.low h.ch hlB2)
        have hb6 : B ≤ z6.heap.size := Nat.le_trans hb5 h.ch.size
        clear h X5z O5z
        dsimp only
        refine hK.out _ _ trivial (fun _ => ?_)
        clear hK K
        try simp only [Act.put, pu]
        refine wpAnyH_ready (rs := [7]) (by kernel_rfl) (by simp) ?_
        refine ar1 (gat rfl) fun K hK => ?_
        go_simp
        refine (X6z.out.rs.up.num_l b9 a9).mono ?_
        rintro r z7 ⟨rfl, h⟩
        have X7z := Lib.hid (X6z.out.go h)
        have O7z := Lib.hid (O6z.out.low h.ch hlB2)
        have hb7 : B ≤ z7.heap.size := Nat.le_trans hb6 h.ch.size
        clear h X6z O6z
        dsimp only
        refine hK.out _ _ trivial (fun _ => ?_)
        clear hK K
        try simp only [Act.put, pu]
        refine wpAnyH_ready (rs := [8]) (by kernel_rfl) (by simp) ?_
        refine ar1 (gat rfl) fun K hK => ?_
        rw [if_pos (by rfl)]
        refine wpo_win y0 y1 y2 y3 y4 y5 y6 y7 y8 y9 rfl rfl rfl rfl ?_
        refine hK.out _ _ trivial (fun _ => ?_)
        clear hK K
        try simp only [Act.put, pu]
        refine wpAnyH_ready (rs := [9]) (by kernel_rfl) (by simp) ?_
        refine ar1 (gat rfl) fun K hK => ?_
        rw [if_pos (by rfl)]
        refine wpo_rowwin y0 y1 y2 y3 y4 y5 y6 y7 y8 y9 rfl rfl ?_
        have X8z := Lib.hid (X7z.out.q ((Q.refl z7).alloc (.cells #[.string y0, .int .u64 y1, .int .u64 y2, .int .u64 y3, .int .u64 y4, .string y5, .int .u64 y6, .string y7, .string y8, .int .u64 y9] 135)))
        have O8z := Lib.hid (O7z.out.q ((Q.refl z7).alloc (.cells #[.string y0, .int .u64 y1, .int .u64 y2, .int .u64 y3, .int .u64 y4, .string y5, .int .u64 y6, .string y7, .string y8, .int .u64 y9] 135)))
        have N8z := Lib.hid (rowN z7 y0 y1 y2 y3 y4 y5 y6 y7 y8 y9)
        have hb8 : B ≤ (z7.alloc (.cells #[.string y0, .int .u64 y1, .int .u64 y2, .int .u64 y3, .int .u64 y4, .string y5, .int .u64 y6, .string y7, .string y8, .int .u64 y9] 135)).heap.size := Nat.le_trans hb7 (by simp)
        clear X7z O7z
        refine hK.out _ _ trivial (fun _ => ?_)
        clear hK K
        try simp only [Act.put, pu]
        as_aux_lemma =>
        refine wpAnyH_ready (rs := [10]) (by kernel_rfl) (by simp) ?_
        refine ar1 (gat rfl) fun K hK => ?_
        rw [if_pos (by rfl)]
        refine wp_append_own _ (.tmp 22) (.tmp 30) 25 rfl B 135 i0 _ 10 112 Tryz.underlying25 hi0 hz0 hz1 hz2 rfl (by decide) _ _ _ rfl O8z.out ⟨z7.heap.size, 0, none⟩ 1 1 [.string y0, .int .u64 y1, .int .u64 y2, .int .u64 y3, .int .u64 y4, .string y5, .int .u64 y6, .string y7, .string y8, .int .u64 y9] rfl rfl N8z.out (one10 rfl rfl rfl rfl rfl rfl rfl rfl rfl rfl) (by unfold maxLen; omega) (by omega) hb8 ?_
        intro v3 w3 hown3 hgrow3 _hn
        rw [← HW.out] at hown3
        have hb3 : B ≤ w3.heap.size := Nat.le_trans hb8 hgrow3.size
        have X3 := Lib.hid (RX.grown X8z.out hgrow3 (fun j hj => (World.ownsRow.lt O8z.out j hj).1) hlB hlB2 hlB3 hlB4)
        obtain ⟨g3, cap3, rfl, o3⟩ := OR.next hown3
        have O3 := Lib.hid o3
        clear hgrow3 _hn hown3 o3 X8z O8z N8z
        refine hK.out _ _ trivial (fun _ => ?_)
        clear hK K
        try simp only [Act.put, pu]
        refine wpAnyH_ready (rs := [11]) (by kernel_rfl) (by simp) ?_
        refine ar1 (gat rfl) fun K hK => ?_
        go_simp
        refine hK.out _ _ trivial (fun _ => ?_)
        clear hK K
        try simp only [Act.put, pu]
        obtain ⟨d3, f3⟩ := X3.out.cell 3 rfl
        refine wpAnyH_ready (rs := [12]) (by kernel_rfl) (by simp) ?_
        refine ar1 (gat rfl) fun K hK => ?_
        go_simp
        refine hK.out _ _ trivial (fun _ => ?_)
        clear hK K
        try simp only [Act.put, pu]
        clear d3 f3
        have X4 := Lib.hid (X3.out.set 3 (.slice (some ⟨g3, 0, none⟩) (k + 1) cap3))
        have O4 := Lib.hid (O3.out.low (Ch.set w3 gb 3 (.slice (some ⟨g3, 0, none⟩) (k + 1) cap3)) hlB)
        have hb4 : B ≤ (w3.setCell ⟨gb, 3, none⟩ (.slice (some ⟨g3, 0, none⟩) (k + 1) cap3)).heap.size := by simpa using hb3
        clear X3 O3 hb3
        rw [HS.out] at X4
        refine wpAnyH_done (by kernel_rfl) ?_ _
        go_wp2_with fail
        go_roundw
        case rel => exact ⟨k + 1, _, cap3, by omega, by go_num, hb4, X4, O4⟩
        case measure => simp [intOf]; omega
      · as_aux_lemma =>
        go_simp
        refine (X5z.out.rs.up.blob_l b8 a8).mono ?_
        rintro r z9 ⟨rfl, h⟩
        have X9z := Lib.hid (X5z.out.go h)
        have O9z := Lib.hid (O5z.out.low h.ch hlB2)
        have hb9 : B ≤ z9.heap.size := Nat.le_trans hb5 h.ch.size
        clear h X5z O5z
        dsimp only
        refine hK.out _ _ trivial (fun _ => ?_)
        clear hK K
        try simp only [Act.put, pu]
        refine wpAnyH_ready (rs := [1, 7]) (by kernel_rfl) (by simp) ?_
        refine AllReadyH.cons (gat rfl) (fun K hK => ?_) (ar1 (gat rfl) fun K hK => ?_)
        · as_aux_lemma =>
          have dl := (X9z.out.cell 3 rfl).1
          go_simp
          refine hK.out _ _ trivial (fun _ => ?_)
          clear hK K dl
          try simp only [Act.put, pu]
          refine wpAnyH_ready (rs := [7]) (by kernel_rfl) (by simp) ?_
          refine ar1 (gat rfl) fun K hK => ?_
          go_simp
          refine (X9z.out.rs.up.num_l b9 a9).mono ?_
          rintro r z10 ⟨rfl, h⟩
          have X10z := Lib.hid (X9z.out.go h)
          have O10z := Lib.hid (O9z.out.low h.ch hlB2)
          have hb10 : B ≤ z10.heap.size := Nat.le_trans hb9 h.ch.size
          clear h X9z O9z
          dsimp only
          refine hK.out _ _ trivial (fun _ => ?_)
          clear hK K
          try simp only [Act.put, pu]
          refine wpAnyH_ready (rs := [8]) (by kernel_rfl) (by simp) ?_
          refine ar1 (gat rfl) fun K hK => ?_
          rw [if_pos (by rfl)]
          refine wpo_win y0 y1 y2 y3 y4 y5 y6 y7 y8 y9 rfl rfl rfl rfl ?_
          refine hK.out _ _ trivial (fun _ => ?_)
          clear hK K
          try simp only [Act.put, pu]
          refine wpAnyH_ready (rs := [9]) (by kernel_rfl) (by simp) ?_
          refine ar1 (gat rfl) fun K hK => ?_
          rw [if_pos (by rfl)]
          refine wpo_rowwin y0 y1 y2 y3 y4 y5 y6 y7 y8 y9 rfl rfl ?_
          have X11z := Lib.hid (X10z.out.q ((Q.refl z10).alloc (.cells #[.string y0, .int .u64 y1, .int .u64 y2, .int .u64 y3, .int .u64 y4, .string y5, .int .u64 y6, .string y7, .string y8, .int .u64 y9] 135)))
          have O11z := Lib.hid (O10z.out.q ((Q.refl z10).alloc (.cells #[.string y0, .int .u64 y1, .int .u64 y2, .int .u64 y3, .int .u64 y4, .string y5, .int .u64 y6, .string y7, .string y8, .int .u64 y9] 135)))
          have N11z := Lib.hid (rowN z10 y0 y1 y2 y3 y4 y5 y6 y7 y8 y9)
          have hb11 : B ≤ (z10.alloc (.cells #[.string y0, .int .u64 y1, .int .u64 y2, .int .u64 y3, .int .u64 y4, .string y5, .int .u64 y6, .string y7, .string y8, .int .u64 y9] 135)).heap.size := Nat.le_trans hb10 (by simp)
          clear X10z O10z
          refine hK.out _ _ trivial (fun _ => ?_)
          clear hK K
          try simp only [Act.put, pu]
          as_aux_lemma =>
          refine wpAnyH_ready (rs := [10]) (by kernel_rfl) (by simp) ?_
          refine ar1 (gat rfl) fun K hK => ?_
          rw [if_pos (by rfl)]
          refine wp_append_own _ (.tmp 22) (.tmp 30) 25 rfl B 135 i0 _ 10 112 Tryz.underlying25 hi0 hz0 hz1 hz2 rfl (by decide) _ _ _ rfl O11z.out ⟨z10.heap.size, 0, none⟩ 1 1 [.string y0, .int .u64 y1, .int .u64 y2, .int .u64 y3, .int .u64 y4, .string y5, .int .u64 y6, .string y7, .string y8, .int .u64 y9] rfl rfl N11z.out (one10 rfl rfl rfl rfl rfl rfl rfl rfl rfl rfl) (by unfold maxLen; omega) (by omega) hb11 ?_
          intro v3 w3 hown3 hgrow3 _hn
          rw [← HW.out] at hown3
          have hb3 : B ≤ w3.heap.size := Nat.le_trans hb11 hgrow3.size
          have X3 := Lib.hid (RX.grown X11z.out hgrow3 (fun j hj => (World.ownsRow.lt O11z.out j hj).1) hlB hlB2 hlB3 hlB4)
          obtain ⟨g3, cap3, rfl, o3⟩ := OR.next hown3
          have O3 := Lib.hid o3
          clear hgrow3 _hn hown3 o3 X11z O11z N11z
          refine hK.out _ _ trivial (fun _ => ?_)
          clear hK K
          try simp only [Act.put, pu]
          refine wpAnyH_ready (rs := [11]) (by kernel_rfl) (by simp) ?_
          refine ar1 (gat rfl) fun K hK => ?_
          go_simp
          refine hK.out _ _ trivial (fun _ => ?_)
          clear hK K
          try simp only [Act.put, pu]
          obtain ⟨d3, f3⟩ := X3.out.cell 3 rfl
          refine wpAnyH_ready (rs := [12]) (by kernel_rfl) (by simp) ?_
          refine ar1 (gat rfl) fun K hK => ?_
          go_simp
          refine hK.out _ _ trivial (fun _ => ?_)
          clear hK K
          try simp only [Act.put, pu]
          clear d3 f3
          have X4 := Lib.hid (X3.out.set 3 (.slice (some ⟨g3, 0, none⟩) (k + 1) cap3))
          have O4 := Lib.hid (O3.out.low (Ch.set w3 gb 3 (.slice (some ⟨g3, 0, none⟩) (k + 1) cap3)) hlB)
          have hb4 : B ≤ (w3.setCell ⟨gb, 3, none⟩ (.slice (some ⟨g3, 0, none⟩) (k + 1) cap3)).heap.size := by simpa using hb3
          clear X3 O3 hb3
          rw [HS.out] at X4
          refine wpAnyH_done (by kernel_rfl) ?_ _
          go_wp2_with fail
          go_roundw
          case rel => exact ⟨k + 1, _, cap3, by omega, by go_num, hb4, X4, O4⟩
          case measure => simp [intOf]; omega
        · as_aux_lemma =>
          go_simp
          refine (X9z.out.rs.up.num_l b9 a9).mono ?_
          rintro r z12 ⟨rfl, h⟩
          have X12z := Lib.hid (X9z.out.go h)
          have O12z := Lib.hid (O9z.out.low h.ch hlB2)
          have hb12 : B ≤ z12.heap.size := Nat.le_trans hb9 h.ch.size
          clear h X9z O9z
          dsimp only
          refine hK.out _ _ trivial (fun _ => ?_)
          clear hK K
          try simp only [Act.put, pu]
          refine wpAnyH_ready (rs := [1, 8]) (by kernel_rfl) (by simp) ?_
          refine AllReadyH.cons (gat rfl) (fun K hK => ?_) (ar1 (gat rfl) fun K hK => ?_)
          · as_aux_lemma =>
            have dl := (X12z.out.cell 3 rfl).1
            go_simp
            refine hK.out _ _ trivial (fun _ => ?_)
            clear hK K dl
            try simp only [Act.put, pu]
            refine wpAnyH_ready (rs := [8]) (by kernel_rfl) (by simp) ?_
            refine ar1 (gat rfl) fun K hK => ?_
            rw [if_pos (by rfl)]
            refine wpo_win y0 y1 y2 y3 y4 y5 y6 y7 y8 y9 rfl rfl rfl rfl ?_
            refine hK.out _ _ trivial (fun _ => ?_)
            clear hK K
            try simp only [Act.put, pu]
            refine wpAnyH_ready (rs := [9]) (by kernel_rfl) (by simp) ?_
            refine ar1 (gat rfl) fun K hK => ?_
            rw [if_pos (by rfl)]
            refine wpo_rowwin y0 y1 y2 y3 y4 y5 y6 y7 y8 y9 rfl rfl ?_
            have X13z := Lib.hid (X12z.out.q ((Q.refl z12).alloc (.cells #[.string y0, .int .u64 y1, .int .u64 y2, .int .u64 y3, .int .u64 y4, .string y5, .int .u64 y6, .string y7, .string y8, .int .u64 y9] 135)))
            have O13z := Lib.hid (O12z.out.q ((Q.refl z12).alloc (.cells #[.string y0, .int .u64 y1, .int .u64 y2, .int .u64 y3, .int .u64 y4, .string y5, .int .u64 y6, .string y7, .string y8, .int .u64 y9] 135)))
            have N13z := Lib.hid (rowN z12 y0 y1 y2 y3 y4 y5 y6 y7 y8 y9)
            have hb13 : B ≤ (z12.alloc (.cells #[.string y0, .int .u64 y1, .int .u64 y2, .int .u64 y3, .int .u64 y4, .string y5, .int .u64 y6, .string y7, .string y8, .int .u64 y9] 135)).heap.size := Nat.le_trans hb12 (by simp)
            clear X12z O12z
            refine hK.out _ _ trivial (fun _ => ?_)
            clear hK K
            try simp only [Act.put, pu]
            as_aux_lemma =>
            refine wpAnyH_ready (rs := [10]) (by kernel_rfl) (by simp) ?_
            refine ar1 (gat rfl) fun K hK => ?_
            rw [if_pos (by rfl)]
            refine wp_append_own _ (.tmp 22) (.tmp 30) 25 rfl B 135 i0 _ 10 112 Tryz.underlying25 hi0 hz0 hz1 hz2 rfl (by decide) _ _ _ rfl O13z.out ⟨z12.heap.size, 0, none⟩ 1 1 [.string y0, .int .u64 y1, .int .u64 y2, .int .u64 y3, .int .u64 y4, .string y5, .int .u64 y6, .string y7, .string y8, .int .u64 y9] rfl rfl N13z.out (one10 rfl rfl rfl rfl rfl rfl rfl rfl rfl rfl) (by unfold maxLen; omega) (by omega) hb13 ?_
            intro v3 w3 hown3 hgrow3 _hn
            rw [← HW.out] at hown3
            have hb3 : B ≤ w3.heap.size := Nat.le_trans hb13 hgrow3.size
            have X3 := Lib.hid (RX.grown X13z.out hgrow3 (fun j hj => (World.ownsRow.lt O13z.out j hj).1) hlB hlB2 hlB3 hlB4)
            obtain ⟨g3, cap3, rfl, o3⟩ := OR.next hown3
            have O3 := Lib.hid o3
            clear hgrow3 _hn hown3 o3 X13z O13z N13z
            refine hK.out _ _ trivial (fun _ => ?_)
            clear hK K
            try simp only [Act.put, pu]
            refine wpAnyH_ready (rs := [11]) (by kernel_rfl) (by simp) ?_
            refine ar1 (gat rfl) fun K hK => ?_
            go_simp
            refine hK.out _ _ trivial (fun _ => ?_)
            clear hK K
            try simp only [Act.put, pu]
            obtain ⟨d3, f3⟩ := X3.out.cell 3 rfl
            refine wpAnyH_ready (rs := [12]) (by kernel_rfl) (by simp) ?_
            refine ar1 (gat rfl) fun K hK => ?_
            go_simp
            refine hK.out _ _ trivial (fun _ => ?_)
            clear hK K
            try simp only [Act.put, pu]
            clear d3 f3
            have X4 := Lib.hid (X3.out.set 3 (.slice (some ⟨g3, 0, none⟩) (k + 1) cap3))
            have O4 := Lib.hid (O3.out.low (Ch.set w3 gb 3 (.slice (some ⟨g3, 0, none⟩) (k + 1) cap3)) hlB)
            have hb4 : B ≤ (w3.setCell ⟨gb, 3, none⟩ (.slice (some ⟨g3, 0, none⟩) (k + 1) cap3)).heap.size := by simpa using hb3
            clear X3 O3 hb3
            rw [HS.out] at X4
            refine wpAnyH_done (by kernel_rfl) ?_ _
            go_wp2_with fail
            go_roundw
            case rel => exact ⟨k + 1, _, cap3, by omega, by go_num, hb4, X4, O4⟩
            case measure => simp [intOf]; omega
          · as_aux_lemma =>
            rw [if_pos (by rfl)]
            refine wpo_win y0 y1 y2 y3 y4 y5 y6 y7 y8 y9 rfl rfl rfl rfl ?_
            refine hK.out _ _ trivial (fun _ => ?_)
            clear hK K
            try simp only [Act.put, pu]
            refine wpAnyH_ready (rs := [1, 9]) (by kernel_rfl) (by simp) ?_
            refine AllReadyH.cons (gat rfl) (fun K hK => ?_) (ar1 (gat rfl) fun K hK => ?_)
            · as_aux_lemma =>
              have dl := (X12z.out.cell 3 rfl).1
              go_simp
              refine hK.out _ _ trivial (fun _ => ?_)
              clear hK K dl
              try simp only [Act.put, pu]
              refine wpAnyH_ready (rs := [9]) (by kernel_rfl) (by simp) ?_
              refine ar1 (gat rfl) fun K hK => ?_
              rw [if_pos (by rfl)]
              refine wpo_rowwin y0 y1 y2 y3 y4 y5 y6 y7 y8 y9 rfl rfl ?_
              have X14z := Lib.hid (X12z.out.q ((Q.refl z12).alloc (.cells #[.string y0, .int .u64 y1, .int .u64 y2, .int .u64 y3, .int .u64 y4, .string y5, .int .u64 y6, .string y7, .string y8, .int .u64 y9] 135)))
              have O14z := Lib.hid (O12z.out.q ((Q.refl z12).alloc (.cells #[.string y0, .int .u64 y1, .int .u64 y2, .int .u64 y3, .int .u64 y4, .string y5, .int .u64 y6, .string y7, .string y8, .int .u64 y9] 135)))
              have N14z := Lib.hid (rowN z12 y0 y1 y2 y3 y4 y5 y6 y7 y8 y9)
              have hb14 : B ≤ (z12.alloc (.cells #[.string y0, .int .u64 y1, .int .u64 y2, .int .u64 y3, .int .u64 y4, .string y5, .int .u64 y6, .string y7, .string y8, .int .u64 y9] 135)).heap.size := Nat.le_trans hb12 (by simp)
              clear X12z O12z
              refine hK.out _ _ trivial (fun _ => ?_)
              clear hK K
              try simp only [Act.put, pu]
              as_aux_lemma =>
              refine wpAnyH_ready (rs := [10]) (by kernel_rfl) (by simp) ?_
              refine ar1 (gat rfl) fun K hK => ?_
              rw [if_pos (by rfl)]
              refine wp_append_own _ (.tmp 22) (.tmp 30) 25 rfl B 135 i0 _ 10 112 Tryz.underlying25 hi0 hz0 hz1 hz2 rfl (by decide) _ _ _ rfl O14z.out ⟨z12.heap.size, 0, none⟩ 1 1 [.string y0, .int .u64 y1, .int .u64 y2, .int .u64 y3, .int .u64 y4, .string y5, .int .u64 y6, .string y7, .string y8, .int .u64 y9] rfl rfl N14z.out (one10 rfl rfl rfl rfl rfl rfl rfl rfl rfl rfl) (by unfold maxLen; omega) (by omega) hb14 ?_
              intro v3 w3 hown3 hgrow3 _hn
              rw [← HW.out] at hown3
              have hb3 : B ≤ w3.heap.size := Nat.le_trans hb14 hgrow3.size
              have X3 := Lib.hid (RX.grown X14z.out hgrow3 (fun j hj => (World.ownsRow.lt O14z.out j hj).1) hlB hlB2 hlB3 hlB4)
              obtain ⟨g3, cap3, rfl, o3⟩ := OR.next hown3
              have O3 := Lib.hid o3
              clear hgrow3 _hn hown3 o3 X14z O14z N14z
              refine hK.out _ _ trivial (fun _ => ?_)
              clear hK K
              try simp only [Act.put, pu]
              refine wpAnyH_ready (rs := [11]) (by kernel_rfl) (by simp) ?_
              refine ar1 (gat rfl) fun K hK => ?_
              go_simp
              refine hK.out _ _ trivial (fun _ => ?_)
              clear hK K
              try simp only [Act.put, pu]
              obtain ⟨d3, f3⟩ := X3.out.cell 3 rfl
              refine wpAnyH_ready (rs := [12]) (by kernel_rfl) (by simp) ?_
              refine ar1 (gat rfl) fun K hK => ?_
              go_simp
              refine hK.out _ _ trivial (fun _ => ?_)
              clear hK K
              try simp only [Act.put, pu]
              clear d3 f3
              have X4 := Lib.hid (X3.out.set 3 (.slice (some ⟨g3, 0, none⟩) (k + 1) cap3))
              have O4 := Lib.hid (O3.out.low (Ch.set w3 gb 3 (.slice (some ⟨g3, 0, none⟩) (k + 1) cap3)) hlB)
              have hb4 : B ≤ (w3.setCell ⟨gb, 3, none⟩ (.slice (some ⟨g3, 0, none⟩) (k + 1) cap3)).heap.size := by simpa using hb3
              clear X3 O3 hb3
              rw [HS.out] at X4
              refine wpAnyH_done (by kernel_rfl) ?_ _
              go_wp2_with fail
              go_roundw
              case rel => exact ⟨k + 1, _, cap3, by omega, by go_num, hb4, X4, O4⟩
              case measure => simp [intOf]; omega
            · as_aux_lemma =>
              rw [if_pos (by rfl)]
              refine wpo_rowwin y0 y1 y2 y3 y4 y5 y6 y7 y8 y9 rfl rfl ?_
              have X15z := Lib.hid (X12z.out.q ((Q.refl z12).alloc (.cells #[.string y0, .int .u64 y1, .int .u64 y2, .int .u64 y3, .int .u64 y4, .string y5, .int .u64 y6, .string y7, .string y8, .int .u64 y9] 135)))
              have O15z := Lib.hid (O12z.out.q ((Q.refl z12).alloc (.cells #[.string y0, .int .u64 y1, .int .u64 y2, .int .u64 y3, .int .u64 y4, .string y5, .int .u64 y6, .string y7, .string y8, .int .u64 y9] 135)))
              have N15z := Lib.hid (rowN z12 y0 y1 y2 y3 y4 y5 y6 y7 y8 y9)
              have hb15 : B ≤ (z12.alloc (.cells #[.string y0, .int .u64 y1, .int .u64 y2, .int .u64 y3, .int .u64 y4, .string y5, .int .u64 y6, .string y7, .string y8, .int .u64 y9] 135)).heap.size := Nat.le_trans hb12 (by simp)
              clear X12z O12z
              refine hK.out _ _ trivial (fun _ => ?_)
              clear hK K
              try simp only [Act.put, pu]
              refine wpAnyH_ready (rs := [1]) (by kernel_rfl) (by simp) ?_
              refine ar1 (gat rfl) fun K hK => ?_
              have dl := (X15z.out.cell 3 rfl).1
              go_simp
              refine hK.out _ _ trivial (fun _ => ?_)
              clear hK K dl
              try simp only [Act.put, pu]
              as_aux_lemma =>
              refine wpAnyH_ready (rs := [10]) (by kernel_rfl) (by simp) ?_
              refine ar1 (gat rfl) fun K hK => ?_
              rw [if_pos (by rfl)]
              refine wp_append_own _ (.tmp 22) (.tmp 30) 25 rfl B 135 i0 _ 10 112 Tryz.underlying25 hi0 hz0 hz1 hz2 rfl (by decide) _ _ _ rfl O15z.out ⟨z12.heap.size, 0, none⟩ 1 1 [.string y0, .int .u64 y1, .int .u64 y2, .int .u64 y3, .int .u64 y4, .string y5, .int .u64 y6, .string y7, .string y8, .int .u64 y9] rfl rfl N15z.out (one10 rfl rfl rfl rfl rfl rfl rfl rfl rfl rfl) (by unfold maxLen; omega) (by omega) hb15 ?_
              intro v3 w3 hown3 hgrow3 _hn
              rw [← HW.out] at hown3
              have hb3 : B ≤ w3.heap.size := Nat.le_trans hb15 hgrow3.size
              have X3 := Lib.hid (RX.grown X15z.out hgrow3 (fun j hj => (World.ownsRow.lt O15z.out j hj).1) hlB hlB2 hlB3 hlB4)
              obtain ⟨g3, cap3, rfl, o3⟩ := OR.next hown3
              have O3 := Lib.hid o3
              clear hgrow3 _hn hown3 o3 X15z O15z N15z
              refine hK.out _ _ trivial (fun _ => ?_)
              clear hK K
              try simp only [Act.put, pu]
              refine wpAnyH_ready (rs := [11]) (by kernel_rfl) (by simp) ?_
              refine ar1 (gat rfl) fun K hK => ?_
              go_simp
              refine hK.out _ _ trivial (fun _ => ?_)
              clear hK K
              try simp only [Act.put, pu]
              obtain ⟨d3, f3⟩ := X3.out.cell 3 rfl
              refine wpAnyH_ready (rs := [12]) (by kernel_rfl) (by simp) ?_
              refine ar1 (gat rfl) fun K hK => ?_
              go_simp
              refine hK.out _ _ trivial (fun _ => ?_)
              clear hK K
              try simp only [Act.put, pu]
              clear d3 f3
              have X4 := Lib.hid (X3.out.set 3 (.slice (some ⟨g3, 0, none⟩) (k + 1) cap3))
              have O4 := Lib.hid (O3.out.low (Ch.set w3 gb 3 (.slice (some ⟨g3, 0, none⟩) (k + 1) cap3)) hlB)
              have hb4 : B ≤ (w3.setCell ⟨gb, 3, none⟩ (.slice (some ⟨g3, 0, none⟩) (k + 1) cap3)).heap.size := by simpa using hb3
              clear X3 O3 hb3
              rw [HS.out] at X4
              refine wpAnyH_done (by kernel_rfl) ?_ _
              go_wp2_with fail
              go_roundw
              case rel => exact ⟨k + 1, _, cap3, by omega, by go_num, hb4, X4, O4⟩
              case measure => simp [intOf]; omega
  · obtain rfl : k = ndK s := by omega
    have td : decide (ndK s < ndK s) = false := by simp
    clear hlt k0 hb HBE
    as_aux_lemma =>
    go_wp2_with fail
    refine (X.out.rs.end_l rfl).mono ?_
    rintro r _ ⟨rfl, rfl⟩
    have HXX : Hid (SL WN.cells 10 wr a (ndK s) (fun i => rdW (ndQ s i))) := O.out.sl win_len
    have SLB : Hid (∀ x, a = some x → x.block ≠ W.heap.size) := fun x hx => by
     rcases O.out.shape with ⟨h1, _⟩ | ⟨z, h1, h2, _⟩
     · rw [h1] at hx; cases hx
     · rw [h1] at hx; injection hx with hx; subst hx; show z ≠ _; omega
    have SLC : Hid (∀ x, a = some x → W.heap.size ≤ x.block) := fun x hx => by
     rcases O.out.shape with ⟨h1, _⟩ | ⟨z, h1, h2, _⟩
     · rw [h1] at hx; cases hx
     · rw [h1] at hx; injection hx with hx; subst hx; show _ ≤ z; omega
    clear O
    by_cases he : (ndQ s (ndK s)).en = 0
    rotate_left
    · have E1 : Hid (ndE s = (ndQ s (ndK s)).en ∧ ndV s = PF.zero) := by
       have : ndE s = (ndQ s (ndK s)).en := by unfold ndE; rw [if_neg he]
       exact ⟨this, ndV_err (by rw [this]; exact he)⟩
      have t1 : ((ndQ s (ndK s)).en == 0) = false := by simpa using he
      have t2 : ((ndQ s (ndK s)).en != 0) = true := by simpa using he
      generalize (ndQ s (ndK s)).en = EN at *
      clear he
      go_wp2_with (with_reducible (show wpList _ _ _ (⟨_, Op.build 27 _, _, _, _, _⟩ :: _) _ _); refine halt ?_)
      refine Lib.hid (wpl_pzero rfl rfl _ rfl ?_)
      go_wp2_with (with_reducible (show wpList _ _ _ (⟨_, Op.store 27 _ _, _, _, _, _⟩ :: _) _ _); refine halt ?_)
      refine Lib.hid (st_box rfl 27 _ _ rfl W.heap.size _ [.int .u64 0, .string ⟨#[]⟩, .string ⟨#[]⟩, .slice none 0 0] rfl rfl X.out.br rfl (by kernel_rfl) (one4 rfl rfl rfl rfl) ?_)
      intro w9 B9 c9
      have HL : Hid ((loadVar 27 ⟨W.heap.size, 0, none⟩).run Tryz.prog w9 = .ok (.agg #[.int .u64 0, .string ⟨#[]⟩, .string ⟨#[]⟩, .slice none 0 0]) w9) := B9.load _ Tryz.underlying27 rfl (by kernel_rfl)
      have Q9 : Hid (Q W w9) := (X.out.rs.box c9 X.out.l1 X.out.n1).ch.q (Q.refl W) l3
      clear B9 c9
      go_wp2_with fail
      (try simp only [Exit.inBlock, Exit.then])
      refine bodyPost_ret (results_cell_tmp rfl rfl HL.out) rfl ?_
      exact ⟨none, 0, by rw [E1.out.1, E1.out.2]; rfl, by rw [E1.out.2]; exact SL.nil rfl, (fun x h => by cases h), Q9.out⟩
    have e0 : (ndQ s (ndK s)).en = 0 := he
    rw [e0]
    clear he
    have HLD := Lib.hid X.out.bb
    go_wp2_with (with_reducible (show wpList _ _ _ (⟨_, Op.load 27 _, _, _, _, _⟩ :: _) _ _); refine halt ?_)
    refine Lib.hid (ld_box rfl 27 _ rfl gb _ rfl HLD.out Tryz.underlying27 rfl (by kernel_rfl) ?_)
    go_wp2_with fail
    have HRI : Hid (Calls Tryz.prog 61 #[.agg #[.int .u64 v0, .string v1, .string v2, .slice a (ndK s) cap]] wr (Tells (RightP (ndX s)) wr)) := by show Calls _ _ _ _ _; rw [HX.out]; exact nright_x ⟨v0, v1, v2, ndK s, fun i => rdW (ndQ s i)⟩ a cap _ HXX.out (by show ndK s ≤ 100; omega)
    refine HRI.out.mono ?_
    rintro r w7 ⟨b, rfl, hz, q7⟩
    have X8 := Lib.hid (X.out.q q7)
    have SL8 := Lib.hid (HXX.out.q q7)
    clear q7 X HXX HRI HLD
    rcases two hz with ⟨rfl, Z⟩ | ⟨rfl, Z⟩
    · have E1 : Hid (ndE s = 0 ∧ ndV s = ⟨v0, v1, v2, ndK s, fun i => rdW (ndQ s i)⟩) := by
       have : ndE s = 0 := by unfold ndE; rw [if_pos e0, if_pos Z]
       exact ⟨this, by unfold ndV; rw [if_pos this]; exact HX.out⟩
      clear hz Z e0
      go_wp2_with (with_reducible (show wpList _ _ _ (⟨_, Op.load 27 _, _, _, _, _⟩ :: _) _ _); refine halt ?_)
      refine Lib.hid (ld_box rfl 27 _ rfl gb _ rfl X8.out.bb Tryz.underlying27 rfl (by kernel_rfl) ?_)
      refine st_box rfl 27 _ _ rfl W.heap.size _ [.int .u64 v0, .string v1, .string v2, .slice a (ndK s) cap] rfl rfl X8.out.br rfl (by kernel_rfl) (one4 rfl rfl rfl rfl) ?_
      intro w9 B9 c9
      have HL : Hid ((loadVar 27 ⟨W.heap.size, 0, none⟩).run Tryz.prog w9 = .ok (.agg #[.int .u64 v0, .string v1, .string v2, .slice a (ndK s) cap]) w9) := B9.load _ Tryz.underlying27 rfl (by kernel_rfl)
      have Q9 : Hid (Q W w9) := (X8.out.rs.box c9 X8.out.l1 X8.out.n1).ch.q (Q.refl W) l3
      have SL9 : Hid (SL WN.cells 10 w9 a (ndK s) (fun i => rdW (ndQ s i))) := SL8.out.ch c9 (fun x hx => SLB.out x hx)
      clear B9 c9 SL8 X8
      go_wp2_with fail
      (try simp only [Exit.inBlock, Exit.then])
      refine bodyPost_ret (results_cell_tmp rfl rfl HL.out) rfl ?_
      exact ⟨a, cap, by rw [E1.out.1, E1.out.2]; rfl, by rw [E1.out.2]; exact SL9.out, SLC.out, Q9.out⟩
    · have E1 : Hid (ndE s = 4 ∧ ndV s = PF.zero) := by
       have : ndE s = 4 := by unfold ndE; rw [if_pos e0, if_neg Z]
       exact ⟨this, ndV_err (by rw [this]; decide)⟩
      clear hz Z e0
      go_wp2_with (with_reducible (show wpList _ _ _ (⟨_, Op.build 27 _, _, _, _, _⟩ :: _) _ _); refine halt ?_)
      refine Lib.hid (wpl_pzero rfl rfl _ rfl ?_)
      go_wp2_with (with_reducible (show wpList _ _ _ (⟨_, Op.store 27 _ _, _, _, _, _⟩ :: _) _ _); refine halt ?_)
      refine Lib.hid (st_box rfl 27 _ _ rfl W.heap.size _ [.int .u64 0, .string ⟨#[]⟩, .string ⟨#[]⟩, .slice none 0 0] rfl rfl X8.out.br rfl (by kernel_rfl) (one4 rfl rfl rfl rfl) ?_)
      intro w9 B9 c9
      have HL : Hid ((loadVar 27 ⟨W.heap.size, 0, none⟩).run Tryz.prog w9 = .ok (.agg #[.int .u64 0, .string ⟨#[]⟩, .string ⟨#[]⟩, .slice none 0 0]) w9) := B9.load _ Tryz.underlying27 rfl (by kernel_rfl)
      have Q9 : Hid (Q W w9) := (X8.out.rs.box c9 X8.out.l1 X8.out.n1).ch.q (Q.refl W) l3
      clear B9 c9
      go_wp2_with fail
      (try simp only [Exit.inBlock, Exit.then])
      refine bodyPost_ret (results_cell_tmp rfl rfl HL.out) rfl ?_
      exact ⟨none, 0, by rw [E1.out.1, E1.out.2]; rfl, by rw [E1.out.2]; exact SL.nil rfl, (fun x h => by cases h), Q9.out⟩
end Go.Proofs.YtobfgljkckcmcaaGreatDoor.Coi
