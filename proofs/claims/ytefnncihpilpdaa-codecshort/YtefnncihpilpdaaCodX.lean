/-
  Layer 3: the document's own Reader in memory; the walks of its calls, in the words of the program's.
-/
import Derived.Test.YtefnncihpilpdaaCodR
namespace Go.Proofs.Ytefnncihpilpdaa.Cod
open Go.RowKit
open Mem Num
set_option linter.unusedVariables false

structure RR (w : World) (g : Nat) (S : ByteArray) (at_ : Nat) (e : Int) : Prop where
  s0 : w.cell? ⟨g, 0, none⟩ = some (.string S)
  a1 : w.cell? ⟨g, 1, none⟩ = some (.int .i64 at_)
  e2 : w.cell? ⟨g, 2, none⟩ = some (.int .i64 e)
  fz : ∀ j, w.frozen? ⟨g, j, none⟩ = false
theorem RR.lt {w : World} {g : Nat} {S : ByteArray} {a : Nat} {e : Int} (h : RR w g S a e) : g < w.heap.size := World.block_lt_of_cell? _ _ h.s0
theorem RR.ch {w w' : World} {g g' : Nat} {S : ByteArray} {a : Nat} {e : Int} (h : RR w g S a e) (c : Ch g' w w') (hne : g ≠ g') : RR w' g S a e :=
  ⟨c.cell h.s0 hne, c.cell h.a1 hne, c.cell h.e2 hne, fun j => by rw [c.frozen (a := ⟨g, j, none⟩) h.lt hne]; exact h.fz j⟩
theorem RR.q {w w' : World} {g : Nat} {S : ByteArray} {a : Nat} {e : Int} (h : RR w g S a e) (q : Q w w') : RR w' g S a e :=
  ⟨by rw [q.cell (p := ⟨g, 0, none⟩) h.lt]; exact h.s0, by rw [q.cell (p := ⟨g, 1, none⟩) h.lt]; exact h.a1, by rw [q.cell (p := ⟨g, 2, none⟩) h.lt]; exact h.e2, fun j => by rw [q.frozen (p := ⟨g, j, none⟩) h.lt]; exact h.fz j⟩
theorem RR.setE {w : World} {g : Nat} {S : ByteArray} {a : Nat} {e : Int} (h : RR w g S a e) (e' : Int) : RR (w.setCell ⟨g, 2, none⟩ (.int .i64 e')) g S a e' :=
  ⟨by rw [World.cell?_setCell_other (h := by intro h; injection h; omega)]; exact h.s0, by rw [World.cell?_setCell_other (h := by intro h; injection h; omega)]; exact h.a1, World.cell?_setCell_same _ _ _ h.e2, fun j => by simp [h.fz]⟩
theorem RR.setA {w : World} {g : Nat} {S : ByteArray} {a : Nat} {e : Int} (h : RR w g S a e) (a' : Nat) : RR (w.setCell ⟨g, 1, none⟩ (.int .i64 a')) g S a' e :=
  ⟨by rw [World.cell?_setCell_other (h := by intro h; injection h; omega)]; exact h.s0, World.cell?_setCell_same _ _ _ h.a1, by rw [World.cell?_setCell_other (h := by intro h; injection h; omega)]; exact h.e2, fun j => by simp [h.fz]⟩

set_option maxHeartbeats 1000000 in
theorem rtake_err (g : Nat) (S : ByteArray) (a : Nat) (e : Int) (n : Nat) (w : World) (h : RR w g S a e) (he : e ≠ 0) : Calls Try.prog 44 #[.pointer (some ⟨g, 0, none⟩), .int .i64 n] w fun r w' =>
    r = .returned (.string ByteArray.empty) ∧ RR w' g S a e ∧ Ch g w w' := by
  have c2 := h.e2
  have H := Lib.hid h
  have h0' : (e == 0) = false := by simpa using he
  have h0'' : (e != 0) = true := by simpa using he
  clear h he
  go_enter Try.func44, Try.ntmps44
  go_wp2_with fail
  go_quiet (fail)
  go_wp2_with fail
  go_ret
  exact ⟨rfl, H.out.q ((Q.refl _).drewN _), (Ch.refl _ _).drewN _⟩
set_option maxHeartbeats 1000000 in
theorem rtake_short (g : Nat) (S : ByteArray) (a : Nat) (n : Nat) (w : World) (h : RR w g S a 0) (hs : S.size ≤ 1000000000) (ha : a ≤ S.size) (hn : n ≤ 1000000000) (hsh : S.size < a + n) : Calls Try.prog 44 #[.pointer (some ⟨g, 0, none⟩), .int .i64 n] w fun r w' =>
    r = .returned (.string ByteArray.empty) ∧ RR w' g S a 3 ∧ Ch g w w' := by
  have c0 := h.s0
  have c1 := h.a1
  have c2 := h.e2
  have f2 := h.fz 2
  have H := Lib.hid h
  have wr : IntKind.i64.wrap ((S.size : Int) - (a : Int)) = (S.size : Int) - (a : Int) := IntWalk.i64_in _ (by omega)
  have td : decide ((S.size : Int) - (a : Int) < (n : Int)) = true := by simp; omega
  clear h
  go_enter Try.func44, Try.ntmps44
  go_wp2_with fail
  go_quiet (fail)
  go_wp2_with fail
  go_ret
  exact ⟨rfl, (H.out.q ((Q.refl _).drewN _)).setE 3, ((Ch.refl _ _).drewN _).trans (Ch.set _ _ _ _)⟩
set_option maxHeartbeats 1000000 in
theorem rtake_yes (g : Nat) (S : ByteArray) (a : Nat) (n : Nat) (w : World) (h : RR w g S a 0) (hs : S.size ≤ 1000000000) (hn : n ≤ 1000000000) (hsh : a + n ≤ S.size) : Calls Try.prog 44 #[.pointer (some ⟨g, 0, none⟩), .int .i64 n] w fun r w' =>
    r = .returned (.string (S.extract a (a + n))) ∧ RR w' g S (a + n) 0 ∧ Ch g w w' := by
  have c0 := h.s0
  have c1 := h.a1
  have c2 := h.e2
  have f1 := h.fz 1
  have H := Lib.hid h
  have wr : IntKind.i64.wrap ((S.size : Int) - (a : Int)) = (S.size : Int) - (a : Int) := IntWalk.i64_in _ (by omega)
  have wr2 : IntKind.i64.wrap ((a : Int) + (n : Int) - (n : Int)) = (a : Int) := by rw [show (a : Int) + (n : Int) - (n : Int) = (a : Int) by omega]; exact IntWalk.i64_in _ (by omega)
  have e1 : (a : Int) + (n : Int) - (n : Int) = (a : Int) := by omega
  have td : decide ((S.size : Int) - (a : Int) < (n : Int)) = false := by simp; omega
  have a0 : (0 : Int) ≤ (a : Int) := by omega
  have a1 : (a : Int) ≤ (a : Int) + (n : Int) := by omega
  have a2 : (a : Int) + (n : Int) ≤ (S.size : Int) := by omega
  have a3 : ((a : Int) + (n : Int)).toNat = a + n := by omega
  have HF : Hid (∀ m k, RR (((w.drewN m).setCell ⟨g, 1, none⟩ (.int .i64 ((a : Int) + (n : Int)))).drewN k) g S (a + n) 0) := fun m k => by
    have := (h.q ((Q.refl w).drewN m)).setA (a + n)
    rw [show ((a + n : Nat) : Int) = (a : Int) + (n : Int) by omega] at this
    exact this.q ((Q.refl _).drewN _)
  clear h
  go_enter Try.func44, Try.ntmps44
  go_wp2_with fail
  go_quiet (fail)
  go_wp2_with fail
  go_quiet (fail)
  go_wp2_with fail
  go_ret
  exact ⟨rfl, HF.out _ _, (((Ch.refl _ _).drewN _).trans (Ch.set _ _ _ _)).drewN _⟩

/-- What is left from a place on. -/
def rest (S : ByteArray) (a : Nat) : ByteArray := S.extract a S.size
theorem rest_size (S : ByteArray) (a : Nat) : (rest S a).size = S.size - a := by unfold rest; rw [ByteArray.size_extract]; omega
theorem bt_ext (S : ByteArray) (a b i : Nat) (hb : b ≤ S.size) (hi : a + i < b) : PlainAid.bt (S.extract a b) i = PlainAid.bt S (a + i) := by
  unfold PlainAid.bt
  rw [dif_pos (by rw [ByteArray.size_extract]; omega), dif_pos (by omega), ByteArray.getElem_extract]
theorem bt_rest (S : ByteArray) (a i : Nat) (hi : a + i < S.size) : PlainAid.bt (rest S a) i = PlainAid.bt S (a + i) := bt_ext S a S.size i (Nat.le_refl _) hi
theorem rest_ext (S : ByteArray) (a k : Nat) : (rest S a).extract k (rest S a).size = rest S (a + k) := by
  rw [rest_size]
  unfold rest
  rw [ByteArray.extract_extract]
  congr 1
  omega
theorem rest_part (S : ByteArray) (a i j : Nat) (h : a + j ≤ S.size) : (rest S a).extract i j = S.extract (a + i) (a + j) := by
  unfold rest
  rw [ByteArray.extract_extract]
  congr 1
  omega
def rdA (a : Nat) (e : Int) (k : Nat) (pe : Int) : Nat := if e = 0 ∧ pe = 0 then a + k else a
theorem rdS_rest (S : ByteArray) (a : Nat) (e : Int) (k : Nat) (pe : Int) : rdS (rest S a) e k pe = rest S (rdA a e k pe) := by
  unfold rdS rdA
  split
  · exact rest_ext S a k
  · rfl
theorem rdA_le (S : ByteArray) (a : Nat) (e : Int) (k : Nat) (pe : Int) (ha : a ≤ S.size) (hk : pe = 0 → k ≤ (rest S a).size) : rdA a e k pe ≤ S.size := by
  unfold rdA
  split
  · rename_i h; have := hk h.2; rw [rest_size] at this; omega
  · exact ha
theorem rdA_ne (a : Nat) (e : Int) (k : Nat) (pe : Int) (h : e ≠ 0 ∨ pe ≠ 0) : rdA a e k pe = a := by unfold rdA; rw [if_neg (fun x => h.elim (fun y => y x.1) (fun y => y x.2))]
theorem failE_ne (e pe : Int) (h : e ≠ 0) : failE e pe = e := by unfold failE; rw [if_neg h]
theorem rdV_err (e pe v : Int) (h : e ≠ 0) : rdV e pe v = 0 := by unfold rdV; rw [if_neg (fun x => h x.1)]
theorem rdT_err (e pe : Int) (v : ByteArray) (h : e ≠ 0) : rdT e pe v = ByteArray.empty := by unfold rdT; rw [if_neg (fun x => h x.1)]
theorem isEmpty_pos (t : ByteArray) (h : 0 < t.size) : t.toList.isEmpty = false := by
  rw [ByteArray.toList_eq]
  cases hl : t.data.toList with
  | nil => have h2 : t.size = 0 := by rw [Lib.size_eq, hl]; rfl
           omega
  | cons x l => rfl

/-- The three ways of the document's take, in one word. -/
theorem rtake_any (g : Nat) (S : ByteArray) (a : Nat) (e : Int) (n : Nat) (w : World) (h : RR w g S a e) (hs : S.size ≤ 1000000000) (ha : a ≤ S.size) (hn : n ≤ 1000000000) (pe : Int) (hp : pe = if a + n ≤ S.size then 0 else 3) :
    Calls Try.prog 44 #[.pointer (some ⟨g, 0, none⟩), .int .i64 n] w fun r w' => r = .returned (.string (rdT e pe (S.extract a (a + n)))) ∧ RR w' g S (rdA a e n pe) (failE e pe) ∧ Ch g w w' := by
  by_cases he : e = 0
  · subst he
    by_cases hk : a + n ≤ S.size
    · rw [if_pos hk] at hp; subst hp
      exact rtake_yes g S a n w h hs hn hk
    · rw [if_neg hk] at hp; subst hp
      exact rtake_short g S a n w h hs ha hn (by omega)
  · rw [rdT_err _ _ _ he, rdA_ne _ _ _ _ (.inl he), failE_ne _ _ he]
    exact rtake_err g S a e n w h he

theorem xhash_any (g : Nat) (S : ByteArray) (a : Nat) (e : Int) (w : World) (h : RR w g S a e) (hs : S.size ≤ 1000000000) (ha : a ≤ S.size) : Calls Try.prog 28 #[.pointer (some ⟨g, 0, none⟩)] w fun r w' =>
    r = .returned (.string (rdT e (haE (rest S a)) ((rest S a).extract 0 16))) ∧ RR w' g S (rdA a e 16 (haE (rest S a))) (failE e (haE (rest S a))) ∧ Ch g w w' := by
  have C := Lib.hid (rtake_any g S a e 16 w h hs ha (by omega) (haE (rest S a)) (by unfold haE; rw [rest_size]; by_cases hk : a + 16 ≤ S.size; rw [if_pos hk, if_pos (by omega)]; rw [if_neg hk, if_neg (by omega)]))
  have E : Hid (rdT e (haE (rest S a)) (S.extract a (a + 16)) = rdT e (haE (rest S a)) ((rest S a).extract 0 16)) := by
    show _ = _
    by_cases h : 16 ≤ S.size - a
    · rw [rest_part S a 0 16 (by omega)]
      rfl
    · have : haE (rest S a) = 3 := by unfold haE; rw [rest_size, if_neg h]
      rw [rdT_ne _ _ _ (by rw [this]; decide), rdT_ne _ _ _ (by rw [this]; decide)]
  clear h
  go_enter Try.func28, Try.ntmps28
  go_wp2_with fail
  refine C.out.mono ?_
  rintro r w' ⟨rfl, h'⟩
  rw [E.out]
  have H' := Lib.hid h'
  clear h'
  go_wp2_with fail
  go_ret
  exact ⟨rfl, H'.out⟩

set_option maxHeartbeats 1000000 in
theorem xbyte_any (g : Nat) (S : ByteArray) (a : Nat) (e : Int) (w : World) (h : RR w g S a e) (hs : S.size ≤ 1000000000) (ha : a ≤ S.size) : Calls Try.prog 22 #[.pointer (some ⟨g, 0, none⟩)] w fun r w' =>
    r = .returned (.int .i64 (rdV e (byE (rest S a)) (PlainAid.bt (rest S a) 0))) ∧ RR w' g S (rdA a e 1 (byE (rest S a))) (failE e (byE (rest S a))) ∧ Ch g w w' := by
  have C := Lib.hid (rtake_any g S a e 1 w h hs ha (by omega) (byE (rest S a)) (by unfold byE; rw [rest_size]; by_cases hk : a + 1 ≤ S.size; rw [if_pos hk, if_pos (by omega)]; rw [if_neg hk, if_neg (by omega)]))
  have HB : Hid (byE (rest S a) = if 1 ≤ S.size - a then 0 else 3) := by show _ = _; unfold byE; rw [rest_size]
  clear h
  by_cases hk : e = 0 ∧ byE (rest S a) = 0
  · have hz : 1 ≤ S.size - a := by by_cases h : 1 ≤ S.size - a; exact h; have := HB.out; rw [if_neg h, hk.2] at this; exact absurd this (by decide)
    have EV : Hid (rdV e (byE (rest S a)) (PlainAid.bt (rest S a) 0) = PlainAid.bt (S.extract a (a + 1)) 0) := by
      show _ = _; unfold rdV; rw [if_pos hk, bt_rest S a 0 (by omega), bt_ext S a (a + 1) 0 (by omega) (by omega)]
    have ET : rdT e (byE (rest S a)) (S.extract a (a + 1)) = S.extract a (a + 1) := by unfold rdT; rw [if_pos hk]
    rw [ET] at C
    have tz : (S.extract a (a + 1)).size = 1 := by rw [ByteArray.size_extract]; omega
    generalize S.extract a (a + 1) = t at *
    have he := isEmpty_pos t (by omega)
    have t0 : 0 < t.size := by omega
    have hb := PlainAid.get_bt t
    have b0 := PlainAid.bt_nonneg t 0
    have b1 := PlainAid.bt_le t 0
    clear tz hk
    go_enter Try.func22, Try.ntmps22
    go_wp2_with fail
    refine C.out.mono ?_
    rintro r w' ⟨rfl, h'⟩
    have H' := Lib.hid h'
    clear h'
    go_wp2_with fail
    go_ret
    exact ⟨by rw [EV.out]; rfl, H'.out⟩
  · have EV : Hid (rdV e (byE (rest S a)) (PlainAid.bt (rest S a) 0) = 0) := by show _ = _; unfold rdV; rw [if_neg hk]
    have ET : rdT e (byE (rest S a)) (S.extract a (a + 1)) = ByteArray.empty := by unfold rdT; rw [if_neg hk]
    rw [ET] at C
    clear hk
    go_enter Try.func22, Try.ntmps22
    go_wp2_with fail
    refine C.out.mono ?_
    rintro r w' ⟨rfl, h'⟩
    have H' := Lib.hid h'
    clear h'
    go_wp2_with fail
    go_ret
    exact ⟨by rw [EV.out]; rfl, H'.out⟩

theorem getN_congr (s t : ByteArray) : ∀ k, (∀ i, i < k → PlainAid.bt s i = PlainAid.bt t i) → getN s k = getN t k
  | 0, _ => rfl
  | k + 1, h => by show getN s k * 256 + _ = getN t k * 256 + _; rw [getN_congr s t k fun i hi => h i (by omega), h k (by omega)]
set_option maxHeartbeats 1000000 in
theorem xnum_any (g : Nat) (S : ByteArray) (a : Nat) (e : Int) (w : World) (h : RR w g S a e) (hs : S.size ≤ 1000000000) (ha : a ≤ S.size) : Calls Try.prog 24 #[.pointer (some ⟨g, 0, none⟩)] w fun r w' =>
    r = .returned (.int .u64 (rdV e (getE (rest S a)) (getV (rest S a)))) ∧ RR w' g S (rdA a e 8 (getE (rest S a))) (failE e (getE (rest S a))) ∧ Ch g w w' := by
  have C := Lib.hid (rtake_any g S a e 8 w h hs ha (by omega) (getE (rest S a)) (by unfold getE; rw [rest_size]; by_cases hk : a + 8 ≤ S.size; rw [if_pos hk, if_pos (by omega)]; rw [if_neg hk, if_neg (by omega)]))
  have HB : Hid (getE (rest S a) = if 8 ≤ S.size - a then 0 else 3) := by show _ = _; unfold getE; rw [rest_size]
  obtain ⟨t, ht, hts, hV⟩ : ∃ t, rdT e (getE (rest S a)) (S.extract a (a + 8)) = t ∧ t.size ≤ 8 ∧ rdV e (getE (rest S a)) (getV (rest S a)) = getV t := by
    refine ⟨_, rfl, ?_, ?_⟩
    · unfold rdT; split
      · rw [ByteArray.size_extract]; omega
      · show ByteArray.empty.size ≤ 8; simp
    · unfold rdT rdV
      by_cases hk : e = 0 ∧ getE (rest S a) = 0
      · rw [if_pos hk, if_pos hk]
        have hz : 8 ≤ S.size - a := by by_cases h : 8 ≤ S.size - a; exact h; have := HB.out; rw [if_neg h, hk.2] at this; exact absurd this (by decide)
        unfold getV
        rw [rest_size, if_pos hz, ByteArray.size_extract, if_pos (by omega)]
        exact getN_congr _ _ 8 fun i hi => by rw [bt_rest S a i (by omega), bt_ext S a (a + 8) i (by omega) (by omega)]
      · rw [if_neg hk, if_neg hk]
        rfl
  rw [ht] at C
  have HV := Lib.hid hV
  clear h ht hV
  have G : Hid (∀ w, Calls Try.prog 47 #[.string t] w fun e w' => e = .returned (.tuple #[.int .u64 (getV t), .int .i64 (getE t)]) ∧ w = w') := fun w => rget_any t w (by unfold maxLen; omega)
  go_enter Try.func24, Try.ntmps24
  go_wp2_with fail
  refine C.out.mono ?_
  rintro r w' ⟨rfl, h'⟩
  have H' := Lib.hid h'
  clear h'
  go_wp2_with fail
  refine (G.out w').mono ?_
  rintro r w'' ⟨rfl, rfl⟩
  go_wp2_with fail
  go_ret
  exact ⟨by rw [HV.out]; rfl, H'.out⟩

theorem xleft_any (g : Nat) (S : ByteArray) (a : Nat) (e : Int) (w : World) (h : RR w g S a e) (hs : S.size ≤ 1000000000) (ha : a ≤ S.size) : Calls Try.prog 32 #[.pointer (some ⟨g, 0, none⟩)] w fun r w' => r = .returned (.int .i64 (rest S a).size) ∧ Q w w' := by
  have c0 := h.s0
  have c1 := h.a1
  have E : Hid (((rest S a).size : Int) = (S.size : Int) - (a : Int)) := by show _ = _; rw [rest_size]; omega
  have wr : IntKind.i64.wrap ((S.size : Int) - (a : Int)) = (S.size : Int) - (a : Int) := IntWalk.i64_in _ (by omega)
  clear h
  go_enter Try.func32, Try.ntmps32
  go_wp2_with fail
  go_quiet (fail)
  go_wp2_with fail
  go_ret
  exact ⟨by rw [E.out]; rfl, (Q.refl _).drewN _⟩
theorem xend_any (g : Nat) (S : ByteArray) (a : Nat) (e : Int) (w : World) (h : RR w g S a e) (hs : S.size ≤ 1000000000) (ha : a ≤ S.size) : Calls Try.prog 34 #[.pointer (some ⟨g, 0, none⟩)] w fun r w' => r = .returned (.int .i64 (endE (rest S a) e)) ∧ Q w w' := by
  have c1 := h.e2
  have HE : Hid (endE (rest S a) e = if e = 0 then (if (rest S a).size = 0 then 0 else 4) else e) := rfl
  have LE := Lib.hid (xleft_any g S a e w h hs ha)
  clear h
  generalize rest S a = s at *
  by_cases h0 : e = 0
  · subst h0
    by_cases hs : s.size = 0
    · rw [if_pos rfl, if_pos hs] at HE
      have hs' : (s.size : Int) ≤ 0 := by omega
      clear hs
      go_enter Try.func34, Try.ntmps34
      go_wp2_with fail
      refine LE.out.mono ?_
      rintro e w' ⟨rfl, q'⟩
      have HQ := Lib.hid q'
      clear q'
      go_wp2_with fail
      go_ret
      exact ⟨ret1 HE.out.symm, HQ.out⟩
    · rw [if_pos rfl, if_neg hs] at HE
      have hs' : 0 < (s.size : Int) := by omega
      clear hs
      go_enter Try.func34, Try.ntmps34
      go_wp2_with fail
      refine LE.out.mono ?_
      rintro e w' ⟨rfl, q'⟩
      have HQ := Lib.hid q'
      clear q'
      go_wp2_with fail
      go_ret
      exact ⟨ret1 HE.out.symm, HQ.out⟩
  · rw [if_neg h0] at HE
    have h0' : (e == 0) = false := by simpa using h0
    have h0'' : (e != 0) = true := by simpa using h0
    go_enter Try.func34, Try.ntmps34
    go_wp2_with fail
    go_ret
    exact ⟨ret1 HE.out.symm, Q.refl _⟩
theorem xfail_any (g : Nat) (S : ByteArray) (a : Nat) (e f : Int) (w : World) (h : RR w g S a e) : Calls Try.prog 30 #[.pointer (some ⟨g, 0, none⟩), .int .i64 f] w fun r w' => r = .returned (.tuple #[]) ∧ RR w' g S a (failE e f) ∧ Ch g w w' := by
  have c1 := h.e2
  have f1 := h.fz 2
  have HE : Hid (failE e f = if e = 0 then f else e) := rfl
  have H := Lib.hid h
  clear h
  by_cases h0 : e = 0
  · subst h0
    rw [if_pos rfl] at HE
    go_enter Try.func30, Try.ntmps30
    go_wp2_with fail
    go_end0
    exact ⟨rfl, by rw [HE.out]; exact H.out.setE f, Ch.set _ _ _ _⟩
  · rw [if_neg h0] at HE
    have h0' : (e == 0) = false := by simpa using h0
    have h0'' : (e != 0) = true := by simpa using h0
    go_enter Try.func30, Try.ntmps30
    go_wp2_with fail
    go_end0
    exact ⟨rfl, by rw [HE.out]; exact H.out, Ch.refl _ _⟩
end Go.Proofs.Ytefnncihpilpdaa.Cod
