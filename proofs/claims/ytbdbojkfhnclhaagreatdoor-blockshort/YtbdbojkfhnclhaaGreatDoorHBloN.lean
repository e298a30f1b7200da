/-
  Layer 10: a block's bytes, cut off anywhere, are too short.
-/
import Derived.Test.YtbdbojkfhnclhaaGreatDoorHBloB
namespace Go.Proofs.YtbdbojkfhnclhaaGreatDoor.Coi
open Go.RowKit
open Mem Num Cod
set_option linter.unusedVariables false
set_option linter.unusedSimpArgs false

theorem cut_far {a t : ByteArray} {c : Nat} (h : a.size ≤ c) : (a ++ t).extract 0 c = a ++ t.extract 0 (c - a.size) := by
  rw [ByteArray.extract_append, Nat.zero_sub]
  congr 1
  rw [show a.extract 0 c = a.extract 0 a.size by
    apply ByteArray.ext_getElem
    · simp only [ByteArray.size_extract]; omega
    · intro i h1 h2
      rw [ByteArray.getElem_extract, ByteArray.getElem_extract]]
  exact ByteArray.extract_zero_size
theorem cut_near {a t : ByteArray} {c : Nat} (h : c < a.size) : (a ++ t).extract 0 c = a.extract 0 c := by
  rw [ByteArray.extract_append]
  rw [show t.extract (0 - a.size) (c - a.size) = ByteArray.empty by
    apply ByteArray.size_eq_zero_iff.1
    rw [ByteArray.size_extract]; omega]
  exact ByteArray.append_empty
theorem cut_blob (s : ByteArray) (c : Nat) (hs : s.size ≤ 4096) (hc : c < (blobS s).size) : blE ((blobS s).extract 0 c) 4096 = 3 := by
  have z := blobS_size s
  have zc : ((blobS s).extract 0 c).size = c := by rw [ByteArray.size_extract]; omega
  unfold blE
  rw [zc]
  by_cases h2 : c < 2
  · rw [if_pos h2]
  · rw [if_neg h2]
    obtain ⟨b0, _⟩ := back_blob s ByteArray.empty 4096 hs (by omega)
    rw [ByteArray.append_empty] at b0
    have hl : blL ((blobS s).extract 0 c) = s.size := by
      rw [← b0]
      unfold blL
      rw [bt_ex _ 0 c 0 (by omega) (by omega), bt_ex _ 0 c 1 (by omega) (by omega)]
    rw [hl, if_neg (by omega), if_pos (by omega)]
/-- A Reader that has too little left: of what is to come it has the beginning, and less; or it was too short. -/
def Lk (q : PS) (r : ByteArray) : Prop := q.e = 3 ∨ q.e = 0 ∧ ∃ k, k < r.size ∧ q.s = r.extract 0 k
theorem Lk.none {q : PS} (h : Lk q ByteArray.empty) : q.e = 3 := by
  rcases h with h | ⟨_, k, hk, _⟩
  · exact h
  · exact absurd hk (Nat.not_lt_zero _)
/-- Either the whole part is there, or too little of it. -/
theorem Lk.split {q : PS} {a t : ByteArray} (h : Lk q (a ++ t)) : q.e = 3 ∨ (∃ r, q = ⟨a ++ r, 0⟩ ∧ Lk ⟨r, 0⟩ t) ∨ (∃ k, k < a.size ∧ q = ⟨a.extract 0 k, 0⟩) := by
  obtain ⟨qs, qe⟩ := q
  rcases h with h | ⟨h0, k, hk, h1⟩
  · exact .inl h
  dsimp only at h0 h1
  subst h0 h1
  rw [ByteArray.size_append] at hk
  by_cases c : a.size ≤ k
  · refine .inr (.inl ⟨t.extract 0 (k - a.size), by rw [cut_far c], .inr ⟨rfl, k - a.size, by omega, rfl⟩⟩)
  · exact .inr (.inr ⟨k, by omega, by rw [cut_near (by omega)]⟩)
theorem Lk.byt {q : PS} {n : Int} {t : ByteArray} (hn : 0 ≤ n ∧ n ≤ 255) (h : Lk q (strOfNums [n] ++ t)) : q.byt.e = 3 ∨ q.byV = n ∧ Lk q.byt t := by
  rcases h.split with h | ⟨r, rfl, hr⟩ | ⟨k, hk, rfl⟩
  · left; rw [PS.byt_err (by rw [h]; decide)]; exact h
  · right
    obtain ⟨a, b⟩ := PS.byt_of n r hn
    exact ⟨a, by rw [b]; exact hr⟩
  · left
    rw [strOfNums_size] at hk
    have hk : k < 1 := hk
    have e : byE ((strOfNums [n]).extract 0 k) = 3 := by unfold byE; rw [if_neg (by rw [ByteArray.size_extract]; omega)]
    unfold PS.byt failE; dsimp only; rw [e, if_pos rfl]
theorem Lk.num {q : PS} {n : Int} {t : ByteArray} (hn : 0 ≤ n ∧ n ≤ 18446744073709551615) (h : Lk q (putS n ++ t)) : Lk q.num t := by
  rcases h.split with h | ⟨r, rfl, hr⟩ | ⟨k, hk, rfl⟩
  · left; rw [PS.num_err (by rw [h]; decide)]; exact h
  · obtain ⟨a, b⟩ := PS.num_of n r hn
    rw [b]; exact hr
  · left
    rw [putS_size] at hk
    have e : getE ((putS n).extract 0 k) = 3 := by unfold getE; rw [if_neg (by rw [ByteArray.size_extract]; omega)]
    unfold PS.num failE; dsimp only; rw [e, if_pos rfl]
theorem Lk.has {q : PS} {s t : ByteArray} (hs : s.size = 16) (h : Lk q (s ++ t)) : Lk q.has t := by
  rcases h.split with h | ⟨r, rfl, hr⟩ | ⟨k, hk, rfl⟩
  · left; rw [PS.has_err (by rw [h]; decide)]; exact h
  · obtain ⟨a, b⟩ := PS.has_of s r hs
    rw [b]; exact hr
  · left
    have e : haE (s.extract 0 k) = 3 := by unfold haE; rw [if_neg (by rw [ByteArray.size_extract]; omega)]
    unfold PS.has failE; dsimp only; rw [e, if_pos rfl]
theorem Lk.blo {q : PS} {s t : ByteArray} (hs : s.size ≤ 4096) (h : Lk q (blobS s ++ t)) : Lk (q.blo 4096) t := by
  rcases h.split with h | ⟨r, rfl, hr⟩ | ⟨k, hk, rfl⟩
  · left; rw [PS.blo_err (by rw [h]; decide)]; exact h
  · obtain ⟨a, b⟩ := PS.blo_of 4096 s r hs (by omega)
    rw [b]; exact hr
  · left
    have e := cut_blob s k hs hk
    unfold PS.blo failE; dsimp only; rw [e, if_pos rfl]
theorem iter_front (f : PS → PS) (p : PS) : ∀ d, iter f p (d + 1) = iter f (f p) d
  | 0 => rfl
  | d + 1 => by show f (iter f p (d + 1)) = f (iter f (f p) d); rw [iter_front f p d]
theorem Lk.its (x : Nat → ByteArray) : ∀ (d k : Nat) (q : PS), (∀ i, k ≤ i → i < k + d → (x i).size ≤ 4096) → Lk q (catF (fun i => blobS (x i)) k d) → (Coi.iter (PS.blo 4096) q d).e = 3
  | 0, k, q, hx, h => h.none
  | d + 1, k, q, hx, h => by
    rw [iter_front]
    exact Lk.its x d (k + 1) _ (fun i a b => hx i (by omega) (by omega)) (Lk.blo (hx k (by omega) (by omega)) h)
theorem bk_short {sm : Int → Int} (z : BK) (h : RightK z) (N : Nat) (hN : N < (bkK z).size) : bkE sm ((bkK z).extract 0 N) = 3 := by
  obtain ⟨h1, h2, h3, h4, h5⟩ := h
  obtain ⟨C, hC⟩ : ∃ C, catN (fun i => blobS (txB (z.tx i))) z.n = C := ⟨_, rfl⟩
  have e : bkK z = strOfNums [66] ++ (putS z.h ++ (z.prev ++ (strOfNums [(z.n : Int)] ++ C))) := by unfold bkK; rw [hC]; simp only [ByteArray.append_assoc]
  have L0 : Lk ⟨(bkK z).extract 0 N, 0⟩ (bkK z) := .inr ⟨rfl, N, hN, rfl⟩
  generalize (bkK z).extract 0 N = B at *
  rw [e] at L0
  rcases L0.byt (by omega) with f | ⟨a, L1⟩
  · refine bk_e3 (by decide) ?_
    unfold bkP
    split
    · exact f
    · rw [PS.fl_err (by rw [f]; decide)]; exact f
  have c0 : bkP B = (PS.mk B 0).byt := by unfold bkP; rw [a, if_pos rfl]
  have L2 : Lk (bkC B) (strOfNums [(z.n : Int)] ++ C) := by unfold bkC; rw [c0]; exact (L1.num (by omega)).has h3
  have last : (bkQ B (bkN B)).e = 3 := by
    rcases L2.byt (by omega) with f | ⟨a2, L3⟩
    · have t : (tnP (bkC B)).e = 3 := by
        unfold tnP
        split
        · exact f
        · rw [PS.fl_err (by rw [f]; decide)]; exact f
      unfold bkQ
      rw [iter_err _ (fun p hp => PS.blo_err hp) _ (by rw [t]; decide)]
      exact t
    · have c2 : bkN B = z.n := by unfold bkN tn; rw [a2, if_pos (by omega)]; omega
      have c3 : tnP (bkC B) = (bkC B).byt := by unfold tnP; rw [a2, if_pos (by omega)]
      unfold bkQ
      rw [c3, c2]
      rw [← hC, catN_catF] at L3
      exact Lk.its (fun i => txB (z.tx i)) z.n 0 _ (fun i _ b => txB_4096 _ (h5 i (by omega))) L3
  unfold bkE bkG
  rw [bkF_err (by rw [last]; decide)]
  split
  · rw [PS.en_err (by rw [last]; decide)]; exact last
  · rw [PS.fl_err (by rw [last]; decide), PS.en_err (by rw [last]; decide)]; exact last
end Go.Proofs.YtbdbojkfhnclhaaGreatDoor.Coi
