/-
  Layer 3: what is written, cut off: read part by part it comes to its end too early.
-/
import Derived.Test.YtefnncihpilpdaaCodB
namespace Go.Proofs.Ytefnncihpilpdaa.Cod
open Go.RowKit
open Mem Num
set_option linter.unusedVariables false

theorem i64_and20 (n : Int) : bits .and .i64 n 1048575 = n % 1048576 := by
  have h127 : (BitVec.ofInt 64 1048575).toNat = 2 ^ 20 - 1 := by decide
  have key : (BitVec.ofInt 64 n &&& BitVec.ofInt 64 1048575).toNat = (n % ((2 ^ 64 : Nat) : Int)).toNat % 2 ^ 20 := by
    rw [BitVec.toNat_and, BitVec.toNat_ofInt, h127, Nat.and_two_pow_sub_one_eq_mod]
  show IntKind.i64.wrap ((BitVec.ofInt 64 n &&& BitVec.ofInt 64 1048575).toNat : Nat) = n % 1048576
  rw [key, IntKind.wrap_i64]
  omega

/-- What is left is the beginning of what was to come, and less; or it was too short. -/
def Lack (l : List Pt) (i : Nat) (s : ByteArray) (e : Int) : Prop := e = 3 ∨ (e = 0 ∧ ∃ c, c < (txt (l.drop i)).size ∧ s = (txt (l.drop i)).extract 0 c)
structure SI (w2 : World) (gr : Nat) (l : List Pt) (i : Nat) (w : World) : Prop where
  r : ∃ s e, RD w gr s e ∧ Lack l i s e ∧ s.size ≤ 100000000
  q : Q w2 w

theorem front_ext {a t : ByteArray} {c : Nat} (h : a.size ≤ c) : (a ++ t).extract 0 c = a ++ t.extract 0 (c - a.size) := by
  rw [ByteArray.extract_append, Nat.zero_sub]
  congr 1
  rw [show a.extract 0 c = a.extract 0 a.size by
    apply ByteArray.ext_getElem
    · simp only [ByteArray.size_extract]; omega
    · intro i h1 h2
      rw [ByteArray.getElem_extract, ByteArray.getElem_extract]]
  exact ByteArray.extract_zero_size
theorem short_ext {a t : ByteArray} {c : Nat} (h : c < a.size) : (a ++ t).extract 0 c = a.extract 0 c := by
  rw [ByteArray.extract_append]
  rw [show t.extract (0 - a.size) (c - a.size) = ByteArray.empty by
    apply ByteArray.size_eq_zero_iff.1
    rw [ByteArray.size_extract]; omega]
  exact ByteArray.append_empty
/-- Either the whole part is there, or too little of it. -/
theorem Lack.split {l : List Pt} {i : Nat} {s : ByteArray} {p : Pt} (h : Lack l i s 0) (hp : l[i]? = some p) :
    (∃ t, s = pT p ++ t ∧ Lack l (i + 1) t 0) ∨ (s.size < (pT p).size ∧ ∃ c, c < (pT p).size ∧ s = (pT p).extract 0 c) := by
  rcases h with h | ⟨_, c, hc, rfl⟩
  · exact absurd h (by decide)
  have e : l.drop i = p :: l.drop (i + 1) := by
    obtain ⟨hi, rfl⟩ := List.getElem?_eq_some_iff.1 hp
    exact List.drop_eq_getElem_cons hi
  rw [e] at hc ⊢
  have e2 : txt (p :: l.drop (i + 1)) = pT p ++ txt (l.drop (i + 1)) := rfl
  rw [e2] at hc ⊢
  rw [ByteArray.size_append] at hc
  by_cases k : (pT p).size ≤ c
  · left
    rw [front_ext k]
    exact ⟨_, rfl, .inr ⟨rfl, c - (pT p).size, by omega, rfl⟩⟩
  · right
    rw [short_ext (by omega)]
    refine ⟨by rw [ByteArray.size_extract]; omega, c, by omega, rfl⟩
theorem bt_short (a : ByteArray) (c i : Nat) (hc : c ≤ a.size) (hi : i < c) : PlainAid.bt (a.extract 0 c) i = PlainAid.bt a i := by
  have := bt_ext a 0 c i hc (by omega)
  rwa [Nat.zero_add] at this

section
variable {w2 w : World} {gr i : Nat} {l : List Pt} {p : Pt}
theorem SI.of {w' : World} {s : ByteArray} {e : Int} (h : SI w2 gr l i w) (c : Ch gr w w') (hr : w2.heap.size ≤ gr) (r : RD w' gr s e) (k : Lack l (i + 1) s e) (hs : s.size ≤ 100000000) : SI w2 gr l (i + 1) w' := ⟨⟨s, e, r, k, hs⟩, c.q h.q hr⟩
/-- A call that reads a part: with an error nothing; the part, where it is whole; else that it is short. -/
theorem SI.byte (h : SI w2 gr l i w) (hp : l[i]? = some p) (hg : p.good) (h0 : p.k = 0) (hr : w2.heap.size ≤ gr) : Calls Try.prog 21 #[.pointer (some ⟨gr, 0, none⟩)] w fun r w' => (∃ v, r = .returned (.int .i64 v)) ∧ SI w2 gr l (i + 1) w' := by
  obtain ⟨s, e, hd, hk, hs⟩ := h.r
  have he := hg.e
  rw [pE_0 h0] at he
  rcases hk with rfl | ⟨rfl, hk⟩
  · exact (rbyte_x hd (by omega) rfl (rdS_err s 3 _ _ (by decide)) (failE_ne 3 _ (by decide))).mono fun r w' ⟨a, b, c⟩ => ⟨⟨_, a⟩, h.of c hr b (.inl rfl) hs⟩
  · rcases Lack.split (.inr ⟨rfl, hk⟩) hp with ⟨t, rfl, ht⟩ | ⟨hlt, _⟩
    · rw [pT_0 h0] at hd hs
      obtain ⟨b1, b2, b3⟩ := back_byte p.n t (wyE_0 he)
      rw [ByteArray.size_append] at hs
      exact (rbyte_x hd (by rw [ByteArray.size_append]; omega) rfl (by rw [b1]; exact b3) (by rw [b1]; rfl)).mono fun r w' ⟨a, b, c⟩ => ⟨⟨_, a⟩, h.of c hr b ht (by omega)⟩
    · have hz3 : (pT p).size = 1 := by rw [pT_0 h0, strOfNums_size]; rfl
      have b1 : byE s = 3 := by unfold byE; rw [if_neg (by omega)]
      exact (rbyte_x hd (by omega) rfl (rdS_ne s 0 _ _ (by rw [b1]; decide)) (by rw [b1]; rfl)).mono fun r w' ⟨a, b, c⟩ => ⟨⟨_, a⟩, h.of c hr b (.inl rfl) hs⟩
theorem SI.num (h : SI w2 gr l i w) (hp : l[i]? = some p) (h0 : p.k = 1) (hr : w2.heap.size ≤ gr) : Calls Try.prog 23 #[.pointer (some ⟨gr, 0, none⟩)] w fun r w' => (∃ v, r = .returned (.int .u64 v)) ∧ SI w2 gr l (i + 1) w' := by
  obtain ⟨s, e, hd, hk, hs⟩ := h.r
  rcases hk with rfl | ⟨rfl, hk⟩
  · exact (rnum_x hd (by omega) rfl (rdS_err s 3 _ _ (by decide)) (failE_ne 3 _ (by decide))).mono fun r w' ⟨a, b, c⟩ => ⟨⟨_, a⟩, h.of c hr b (.inl rfl) hs⟩
  · rcases Lack.split (.inr ⟨rfl, hk⟩) hp with ⟨t, rfl, ht⟩ | ⟨hlt, _⟩
    · rw [pT_1 h0] at hd hs
      obtain ⟨b1, b2, b3⟩ := back_num (p.n % 18446744073709551616) t (by omega) (by omega)
      rw [ByteArray.size_append] at hs
      exact (rnum_x hd (by rw [ByteArray.size_append]; omega) rfl (by rw [b1]; exact b3) (by rw [b1]; rfl)).mono fun r w' ⟨a, b, c⟩ => ⟨⟨_, a⟩, h.of c hr b ht (by omega)⟩
    · have hz3 : (pT p).size = 8 := by rw [pT_1 h0, putS_size]
      have b1 : getE s = 3 := by unfold getE; rw [if_neg (by omega)]
      exact (rnum_x hd (by omega) rfl (rdS_ne s 0 _ _ (by rw [b1]; decide)) (by rw [b1]; rfl)).mono fun r w' ⟨a, b, c⟩ => ⟨⟨_, a⟩, h.of c hr b (.inl rfl) hs⟩
theorem SI.hash (h : SI w2 gr l i w) (hp : l[i]? = some p) (hg : p.good) (h0 : p.k ≠ 0) (h1 : p.k ≠ 1) (h2 : p.k ≠ 2) (hr : w2.heap.size ≤ gr) : Calls Try.prog 27 #[.pointer (some ⟨gr, 0, none⟩)] w fun r w' => (∃ v, r = .returned (.string v)) ∧ SI w2 gr l (i + 1) w' := by
  obtain ⟨s, e, hd, hk, hs⟩ := h.r
  have he := hg.e
  rw [pE_3 h0 h1 h2] at he
  rcases hk with rfl | ⟨rfl, hk⟩
  · exact (rhash_x hd (by omega) rfl (rdS_err s 3 _ _ (by decide)) (failE_ne 3 _ (by decide))).mono fun r w' ⟨a, b, c⟩ => ⟨⟨_, a⟩, h.of c hr b (.inl rfl) hs⟩
  · rcases Lack.split (.inr ⟨rfl, hk⟩) hp with ⟨t, rfl, ht⟩ | ⟨hlt, _⟩
    · rw [pT_3 h0 h1 h2] at hd hs
      obtain ⟨b1, b2, b3⟩ := back_hash p.s t (waE_0 he)
      rw [ByteArray.size_append] at hs
      exact (rhash_x hd (by rw [ByteArray.size_append]; omega) rfl (by rw [b1]; exact b3) (by rw [b1]; rfl)).mono fun r w' ⟨a, b, c⟩ => ⟨⟨_, a⟩, h.of c hr b ht (by omega)⟩
    · have hz3 : (pT p).size = 16 := by rw [pT_3 h0 h1 h2, waE_0 he]
      have b1 : haE s = 3 := by unfold haE; rw [if_neg (by omega)]
      exact (rhash_x hd (by omega) rfl (rdS_ne s 0 _ _ (by rw [b1]; decide)) (by rw [b1]; rfl)).mono fun r w' ⟨a, b, c⟩ => ⟨⟨_, a⟩, h.of c hr b (.inl rfl) hs⟩
theorem short_blob (s : ByteArray) (c : Nat) (hs : s.size ≤ 4096) (hc : c < (blobS s).size) : blE ((blobS s).extract 0 c) 4096 = 3 := by
  have z := blobS_size s
  have zc : ((blobS s).extract 0 c).size = c := by rw [ByteArray.size_extract]; omega
  unfold blE
  rw [zc]
  by_cases h2 : c < 2
  · rw [if_pos h2]
  · rw [if_neg h2]
    obtain ⟨b0, _⟩ := back_blob s ByteArray.empty 4096 hs (by omega)
    rw [ByteArray.append_empty] at b0
    have hl : blL ((blobS s).extract 0 c) = s.size := by
      rw [← b0]
      unfold blL
      rw [bt_short _ _ _ (by omega) (by omega), bt_short _ _ _ (by omega) (by omega)]
    rw [hl, if_neg (by omega), if_pos (by omega)]
theorem SI.blob (h : SI w2 gr l i w) (hp : l[i]? = some p) (hg : p.good) (h0 : p.k = 2) (hr : w2.heap.size ≤ gr) : Calls Try.prog 25 #[.pointer (some ⟨gr, 0, none⟩), .int .i64 4096] w fun r w' => (∃ v, r = .returned (.string v)) ∧ SI w2 gr l (i + 1) w' := by
  obtain ⟨s, e, hd, hk, hs⟩ := h.r
  have he := hg.e
  rw [pE_2 h0] at he
  have h4 := wbE_0 he
  rcases hk with rfl | ⟨rfl, hk⟩
  · exact (rblob_x 4096 hd (by omega) rfl (rdS_err s 3 _ _ (by decide)) (failE_ne 3 _ (by decide))).mono fun r w' ⟨a, b, c⟩ => ⟨⟨_, a⟩, h.of c hr b (.inl rfl) hs⟩
  · rcases Lack.split (.inr ⟨rfl, hk⟩) hp with ⟨t, rfl, ht⟩ | ⟨hlt, c, hc, hsc⟩
    · rw [pT_2 h0] at hd hs
      obtain ⟨b0, b1, b2, b3⟩ := back_blob p.s t 4096 h4 (by omega)
      rw [ByteArray.size_append] at hs
      exact (rblob_x 4096 hd (by rw [ByteArray.size_append]; omega) rfl (by rw [b1, b0]; exact b3) (by rw [b1]; rfl)).mono fun r w' ⟨a, b, c⟩ => ⟨⟨_, a⟩, h.of c hr b ht (by omega)⟩
    · rw [pT_2 h0] at hc hsc
      have b1 : blE s 4096 = 3 := by rw [hsc]; exact short_blob p.s c h4 hc
      exact (rblob_x 4096 hd (by omega) rfl (rdS_ne s 0 _ _ (by rw [b1]; decide)) (by rw [b1]; rfl)).mono fun r w' ⟨a, b, c⟩ => ⟨⟨_, a⟩, h.of c hr b (.inl rfl) hs⟩
theorem SI.last (h : SI w2 gr l l.length w) : ∃ s, RD w gr s 3 := by
  obtain ⟨s, e, hd, hk, hs⟩ := h.r
  rcases hk with rfl | ⟨rfl, c, hc, _⟩
  · exact ⟨s, hd⟩
  · rw [List.drop_length] at hc
    exact absurd hc (Nat.not_lt_zero _)
end
end Go.Proofs.Ytefnncihpilpdaa.Cod
