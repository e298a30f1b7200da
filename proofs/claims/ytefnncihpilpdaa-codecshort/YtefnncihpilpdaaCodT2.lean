/-
  Layer 3: two Readers of the program, at the same place: call by call both answer the same; one with an error reads nothing.
-/
import Derived.Test.YtefnncihpilpdaaCodT
namespace Go.Proofs.Ytefnncihpilpdaa.Cod
open Go.RowKit
open Mem Num
set_option linter.unusedVariables false

structure PI (W : World) (gr gc : Nat) (s : ByteArray) (e : Int) (t : ByteArray) (d : Int) (w : World) : Prop where
  r : RD w gr s e
  c : RD w gc t d
  q : Q W w
section
variable {W : World} {gr gc : Nat} {S s t : ByteArray} {a : Nat} {e d : Int}
theorem PI.up {w w' : World} (h : PI W gr gc s e t d w) (q : Q w w') : PI W gr gc s e t d w' := ⟨h.r.q q, h.c.q q, h.q.trans q⟩
theorem PI.onR {w w' : World} {s' : ByteArray} {e' : Int} (h : PI W gr gc s e t d w) (hr : W.heap.size ≤ gr) (hne : gc ≠ gr) (r : RD w' gr s' e') (c : Ch gr w w') : PI W gr gc s' e' t d w' := ⟨r, h.c.ch c hne, c.q h.q hr⟩
theorem PI.onC {w w' : World} {t' : ByteArray} {d' : Int} (h : PI W gr gc s e t d w) (hc : W.heap.size ≤ gc) (hne : gr ≠ gc) (r : RD w' gc t' d') (c : Ch gc w w') : PI W gr gc s e t' d' w' := ⟨h.r.ch c hne, r, c.q h.q hc⟩
def Pair (W : World) (gr gc : Nat) (S : ByteArray) (a : Nat) (fr : Nat) (more : List Value) (v : Value) (a' : Nat) (e' : Int) : Prop :=
  (∀ w, PI W gr gc (rest S a) 0 (rest S a) 0 w → Calls Try.prog fr (Value.pointer (some ⟨gr, 0, none⟩) :: more).toArray w fun r w' => r = .returned v ∧ PI W gr gc (rest S a') e' (rest S a) 0 w') ∧
  (∀ w, PI W gr gc (rest S a') e' (rest S a) 0 w → Calls Try.prog fr (Value.pointer (some ⟨gc, 0, none⟩) :: more).toArray w fun r w' => r = .returned v ∧ PI W gr gc (rest S a') e' (rest S a') e' w') ∧
  a' ≤ S.size ∧ (e' = 0 ∨ e' = 3 ∨ e' = 5)
theorem failE_of0 (pe : Int) : failE 0 pe = pe := by unfold failE; rw [if_pos rfl]
theorem byE_is (s : ByteArray) : byE s = 0 ∨ byE s = 3 ∨ byE s = 5 := by unfold byE; split <;> simp
theorem haE_is (s : ByteArray) : haE s = 0 ∨ haE s = 3 ∨ haE s = 5 := by unfold haE; split <;> simp
theorem getE_is (s : ByteArray) : getE s = 0 ∨ getE s = 3 ∨ getE s = 5 := by unfold getE; split <;> simp
theorem blE_is (s : ByteArray) (m : Int) : blE s m = 0 ∨ blE s m = 3 ∨ blE s m = 5 := by
  unfold blE
  by_cases h1 : s.size < 2
  · rw [if_pos h1]; exact .inr (.inl rfl)
  · rw [if_neg h1]
    by_cases h2 : m < (blL s : Int) ∨ 4096 < blL s
    · rw [if_pos h2]; exact .inr (.inr rfl)
    · rw [if_neg h2]
      by_cases h3 : s.size < 2 + blL s
      · rw [if_pos h3]; exact .inr (.inl rfl)
      · rw [if_neg h3]; exact .inl rfl
theorem pair_byte (hs : S.size ≤ 1000000000) (ha : a ≤ S.size) (hr : W.heap.size ≤ gr) (hc : W.heap.size ≤ gc) (hne : gr ≠ gc) : ∃ v a' e', Pair W gr gc S a 21 [] (.int .i64 v) a' e' := by
  have hz : (rest S a).size ≤ 1000000000 := by rw [rest_size]; omega
  have hl := rdA_le S a 0 1 (byE (rest S a)) ha (byE_le _)
  refine ⟨rdV 0 (byE (rest S a)) (PlainAid.bt (rest S a) 0), rdA a 0 1 (byE (rest S a)), failE 0 (byE (rest S a)), fun w h => (rbyte_any gr _ 0 w h.r hz).mono ?_, fun w h => (rbyte_any gc _ 0 w h.c hz).mono ?_, hl, by rw [failE_of0]; exact byE_is _⟩
  · rintro r w' ⟨rfl, h1, c⟩
    rw [rdS_rest] at h1
    exact ⟨rfl, h.onR hr (Ne.symm hne) h1 c⟩
  · rintro r w' ⟨rfl, h1, c⟩
    rw [rdS_rest] at h1
    exact ⟨rfl, h.onC hc hne h1 c⟩
theorem pair_num (hs : S.size ≤ 1000000000) (ha : a ≤ S.size) (hr : W.heap.size ≤ gr) (hc : W.heap.size ≤ gc) (hne : gr ≠ gc) : ∃ v a' e', Pair W gr gc S a 23 [] (.int .u64 v) a' e' := by
  have hz : (rest S a).size ≤ 1000000000 := by rw [rest_size]; omega
  have hl := rdA_le S a 0 8 (getE (rest S a)) ha (getE_yes _)
  refine ⟨rdV 0 (getE (rest S a)) (getV (rest S a)), rdA a 0 8 (getE (rest S a)), failE 0 (getE (rest S a)), fun w h => (rnum_any gr _ 0 w h.r hz).mono ?_, fun w h => (rnum_any gc _ 0 w h.c hz).mono ?_, hl, by rw [failE_of0]; exact getE_is _⟩
  · rintro r w' ⟨rfl, h1, c⟩
    rw [rdS_rest] at h1
    exact ⟨rfl, h.onR hr (Ne.symm hne) h1 c⟩
  · rintro r w' ⟨rfl, h1, c⟩
    rw [rdS_rest] at h1
    exact ⟨rfl, h.onC hc hne h1 c⟩
theorem pair_hash (hs : S.size ≤ 1000000000) (ha : a ≤ S.size) (hr : W.heap.size ≤ gr) (hc : W.heap.size ≤ gc) (hne : gr ≠ gc) : ∃ v a' e', Pair W gr gc S a 27 [] (.string v) a' e' := by
  have hz : (rest S a).size ≤ 1000000000 := by rw [rest_size]; omega
  have hl := rdA_le S a 0 16 (haE (rest S a)) ha (haE_le _)
  refine ⟨rdT 0 (haE (rest S a)) ((rest S a).extract 0 16), rdA a 0 16 (haE (rest S a)), failE 0 (haE (rest S a)), fun w h => (rhash_any gr _ 0 w h.r hz).mono ?_, fun w h => (rhash_any gc _ 0 w h.c hz).mono ?_, hl, by rw [failE_of0]; exact haE_is _⟩
  · rintro r w' ⟨rfl, h1, c⟩
    rw [rdS_rest] at h1
    exact ⟨rfl, h.onR hr (Ne.symm hne) h1 c⟩
  · rintro r w' ⟨rfl, h1, c⟩
    rw [rdS_rest] at h1
    exact ⟨rfl, h.onC hc hne h1 c⟩
theorem pair_blob (m : Int) (hs : S.size ≤ 1000000000) (ha : a ≤ S.size) (hr : W.heap.size ≤ gr) (hc : W.heap.size ≤ gc) (hne : gr ≠ gc) : ∃ v a' e', Pair W gr gc S a 25 [.int .i64 m] (.string v) a' e' := by
  have hz : (rest S a).size ≤ 1000000000 := by rw [rest_size]; omega
  have hl := rdA_le S a 0 (2 + blL (rest S a)) (blE (rest S a) m) ha (blE_yes _ _)
  refine ⟨rdT 0 (blE (rest S a) m) ((rest S a).extract 2 (2 + blL (rest S a))), rdA a 0 (2 + blL (rest S a)) (blE (rest S a) m), failE 0 (blE (rest S a) m), fun w h => (rblob_any gr _ 0 m w h.r hz).mono ?_, fun w h => (rblob_any gc _ 0 m w h.c hz).mono ?_, hl, by rw [failE_of0]; exact blE_is _ _⟩
  · rintro r w' ⟨rfl, h1, c⟩
    rw [rdS_rest] at h1
    exact ⟨rfl, h.onR hr (Ne.symm hne) h1 c⟩
  · rintro r w' ⟨rfl, h1, c⟩
    rw [rdS_rest] at h1
    exact ⟨rfl, h.onC hc hne h1 c⟩

theorem rdS_err (s : ByteArray) (e : Int) (k : Nat) (pe : Int) (h : e ≠ 0) : rdS s e k pe = s := by unfold rdS; rw [if_neg (fun x => h x.1)]
/-- A Reader with an error. -/
structure EI (W : World) (g : Nat) (s : ByteArray) (e : Int) (w : World) : Prop where
  r : RD w g s e
  q : Q W w
theorem EI.byte {w : World} {g : Nat} (h : EI W g s e w) (he : e ≠ 0) (hs : s.size ≤ 1000000000) (hg : W.heap.size ≤ g) : Calls Try.prog 21 #[.pointer (some ⟨g, 0, none⟩)] w fun r w' => r = .returned (.int .i64 0) ∧ EI W g s e w' :=
  (rbyte_x h.r hs (rdV_err e _ _ he) (rdS_err s e _ _ he) (failE_ne e _ he)).mono fun r w' ⟨a, b, c⟩ => ⟨a, b, c.q h.q hg⟩
theorem EI.num {w : World} {g : Nat} (h : EI W g s e w) (he : e ≠ 0) (hs : s.size ≤ 1000000000) (hg : W.heap.size ≤ g) : Calls Try.prog 23 #[.pointer (some ⟨g, 0, none⟩)] w fun r w' => r = .returned (.int .u64 0) ∧ EI W g s e w' :=
  (rnum_x h.r hs (rdV_err e _ _ he) (rdS_err s e _ _ he) (failE_ne e _ he)).mono fun r w' ⟨a, b, c⟩ => ⟨a, b, c.q h.q hg⟩
theorem EI.hash {w : World} {g : Nat} (h : EI W g s e w) (he : e ≠ 0) (hs : s.size ≤ 1000000000) (hg : W.heap.size ≤ g) : Calls Try.prog 27 #[.pointer (some ⟨g, 0, none⟩)] w fun r w' => r = .returned (.string ByteArray.empty) ∧ EI W g s e w' :=
  (rhash_x h.r hs (rdT_err e _ _ he) (rdS_err s e _ _ he) (failE_ne e _ he)).mono fun r w' ⟨a, b, c⟩ => ⟨a, b, c.q h.q hg⟩
theorem EI.blob {w : World} {g : Nat} (h : EI W g s e w) (m : Int) (he : e ≠ 0) (hs : s.size ≤ 1000000000) (hg : W.heap.size ≤ g) : Calls Try.prog 25 #[.pointer (some ⟨g, 0, none⟩), .int .i64 m] w fun r w' => r = .returned (.string ByteArray.empty) ∧ EI W g s e w' :=
  (rblob_x m h.r hs (rdT_err e _ _ he) (rdS_err s e _ _ he) (failE_ne e _ he)).mono fun r w' ⟨a, b, c⟩ => ⟨a, b, c.q h.q hg⟩
theorem EI.end_ {w : World} {g : Nat} (h : EI W g s e w) (he : e ≠ 0) : Calls Try.prog 33 #[.pointer (some ⟨g, 0, none⟩)] w fun r w' => r = .returned (.int .i64 e) ∧ w = w' :=
  end_x h.r (by unfold endE; rw [if_neg he])
theorem EI.fail {w : World} {g : Nat} (h : EI W g s e w) (f : Int) (he : e ≠ 0) (hg : W.heap.size ≤ g) : Calls Try.prog 29 #[.pointer (some ⟨g, 0, none⟩), .int .i64 f] w fun r w' => r = .returned (.tuple #[]) ∧ EI W g s e w' :=
  (fail_any g s e f w h.r).mono fun r w' ⟨a, b, c⟩ => ⟨a, by rw [failE_ne e f he] at b; exact b, c.q h.q hg⟩
end
end Go.Proofs.Ytefnncihpilpdaa.Cod
