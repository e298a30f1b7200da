/-
  Layer 3: the walk of the document's own Blob.
-/
import Derived.Test.YtefnncihpilpdaaCodX
namespace Go.Proofs.Ytefnncihpilpdaa.Cod
open Go.RowKit
open Mem Num
set_option linter.unusedVariables false

/-- What Blob answers, and leaves, as a word of its own. -/
def XB (g : Nat) (S : ByteArray) (a : Nat) (e m : Int) (w : World) (r : Ending) (w' : World) : Prop :=
  r = .returned (.string (rdT e (blE (rest S a) m) ((rest S a).extract 2 (2 + blL (rest S a))))) ∧ RR w' g S (rdA a e (2 + blL (rest S a)) (blE (rest S a) m)) (failE e (blE (rest S a) m)) ∧ Ch g w w'
theorem XB.no {g : Nat} {S : ByteArray} {a : Nat} {m : Int} {w w' : World} (pe : Int) (hp : blE (rest S a) m = pe) (h0 : pe ≠ 0) (h : RR w' g S a pe) (c : Ch g w w') : XB g S a 0 m w (.returned (.string ByteArray.empty)) w' := by
  subst hp
  refine ⟨?_, ?_, c⟩
  · rw [rdT_ne _ _ _ h0]
  · rw [rdA_ne _ _ _ _ (.inr h0)]
    exact h
set_option maxHeartbeats 1000000 in
theorem xblob_err (g : Nat) (S : ByteArray) (a : Nat) (e m : Int) (w : World) (h : RR w g S a e) (he : e ≠ 0) : Calls Try.prog 26 #[.pointer (some ⟨g, 0, none⟩), .int .i64 m] w (XB g S a e m w) := by
  have C := Lib.hid (rtake_err g S a e 2 w h he)
  have HF : Hid (∀ w', RR w' g S a e → Ch g w w' → XB g S a e m w (.returned (.string ByteArray.empty)) w') := fun w' h c => ⟨by rw [rdT_err _ _ _ he], by rw [rdA_ne _ _ _ _ (.inl he), failE_ne _ _ he]; exact h, c⟩
  have c1 := h.a1
  clear h he
  go_enter Try.func26, Try.ntmps26
  go_wp2_with fail
  refine C.out.mono ?_
  rintro r w' ⟨rfl, h'⟩
  have H' := Lib.hid h'
  clear h'
  go_wp2_with fail
  go_ret
  exact HF.out _ H'.out.1 H'.out.2
set_option maxHeartbeats 1000000 in
theorem xblob_short (g : Nat) (S : ByteArray) (a : Nat) (m : Int) (w : World) (h : RR w g S a 0) (hs : S.size ≤ 1000000000) (ha : a ≤ S.size) (h2 : S.size < a + 2) : Calls Try.prog 26 #[.pointer (some ⟨g, 0, none⟩), .int .i64 m] w (XB g S a 0 m w) := by
  have C := Lib.hid (rtake_short g S a 2 w h hs ha (by omega) h2)
  have HF : Hid (∀ w', RR w' g S a 3 → Ch g w w' → XB g S a 0 m w (.returned (.string ByteArray.empty)) w') := fun w' h c => XB.no 3 (by unfold blE; rw [rest_size, if_pos (by omega)]) (by decide) h c
  have c1 := h.a1
  clear h
  go_enter Try.func26, Try.ntmps26
  go_wp2_with fail
  refine C.out.mono ?_
  rintro r w' ⟨rfl, h'⟩
  have H' := Lib.hid h'
  clear h'
  go_wp2_with fail
  go_ret
  exact HF.out _ H'.out.1 H'.out.2
set_option maxHeartbeats 1000000 in
theorem xblob_more (g : Nat) (S : ByteArray) (a : Nat) (m : Int) (w : World) (h : RR w g S a 0) (hs : S.size ≤ 1000000000) (h2 : a + 2 ≤ S.size) : Calls Try.prog 26 #[.pointer (some ⟨g, 0, none⟩), .int .i64 m] w (XB g S a 0 m w) := by
  have C := Lib.hid (rtake_yes g S a 2 w h hs (by omega) h2)
  have e0 : PlainAid.bt (S.extract a (a + 2)) 0 = PlainAid.bt (rest S a) 0 := by rw [bt_ext S a (a + 2) 0 h2 (by omega), bt_rest S a 0 (by omega)]
  have e1 : PlainAid.bt (S.extract a (a + 2)) 1 = PlainAid.bt (rest S a) 1 := by rw [bt_ext S a (a + 2) 1 h2 (by omega), bt_rest S a 1 (by omega)]
  have hBL := blL_int (rest S a)
  rw [← e0, ← e1] at hBL
  have hLe := blL_le (rest S a)
  have HE : Hid (blE (rest S a) m = if m < (blL (rest S a) : Int) ∨ 4096 < blL (rest S a) then 5 else if S.size - a < 2 + blL (rest S a) then 3 else 0) := by
    show _ = _; unfold blE; rw [rest_size, if_neg (show ¬ S.size - a < 2 by omega)]
  have HY : Hid (blE (rest S a) m = 0 → a + 2 + blL (rest S a) ≤ S.size → ∀ w', RR w' g S (a + 2 + blL (rest S a)) 0 → Ch g w w' → XB g S a 0 m w (.returned (.string (S.extract (a + 2) (a + 2 + blL (rest S a))))) w') := by
    intro hz hl w' h c
    unfold XB
    rw [hz]
    refine ⟨?_, ?_, c⟩
    · unfold rdT; rw [if_pos ⟨rfl, rfl⟩, rest_part S a 2 _ (by omega), ← Nat.add_assoc]
    · unfold rdA failE; rw [if_pos ⟨rfl, rfl⟩, if_pos rfl, ← Nat.add_assoc]; exact h
  have HN : Hid (∀ (pe : Int) w', blE (rest S a) m = pe → pe ≠ 0 → RR w' g S a pe → Ch g w w' → XB g S a 0 m w (.returned (.string ByteArray.empty)) w') := fun pe w' hp h0 h c => XB.no pe hp h0 h c
  have T3 : Hid (∀ w1, RR w1 g S (a + 2) 0 → S.size < a + 2 + blL (rest S a) → Calls Try.prog 44 #[.pointer (some ⟨g, 0, none⟩), .int .i64 (blL (rest S a))] w1 fun r w' => r = .returned (.string ByteArray.empty) ∧ RR w' g S (a + 2) 3 ∧ Ch g w1 w') := fun w1 h1 hl => rtake_short g S (a + 2) _ w1 h1 hs h2 (by omega) hl
  have T4 : Hid (∀ w1, RR w1 g S (a + 2) 0 → a + 2 + blL (rest S a) ≤ S.size → Calls Try.prog 44 #[.pointer (some ⟨g, 0, none⟩), .int .i64 (blL (rest S a))] w1 fun r w' => r = .returned (.string (S.extract (a + 2) (a + 2 + blL (rest S a)))) ∧ RR w' g S (a + 2 + blL (rest S a)) 0 ∧ Ch g w1 w') := fun w1 h1 hl => rtake_yes g S (a + 2) _ w1 h1 hs (by omega) hl
  have tz : (S.extract a (a + 2)).size = 2 := by rw [ByteArray.size_extract]; omega
  clear e0 e1
  generalize S.extract a (a + 2) = t at *
  generalize S.extract (a + 2) (a + 2 + blL (rest S a)) = u at *
  generalize blE (rest S a) m = pe at *
  generalize blL (rest S a) = L at *
  have he := isEmpty_pos t (by omega)
  have t0 : 0 < t.size := by omega
  have t1 : 1 < t.size := by omega
  have t0' : (0 : Int) < (t.size : Int) := by omega
  have t1' : (1 : Int) < (t.size : Int) := by omega
  have hb := PlainAid.get_bt t
  have b0 := PlainAid.bt_nonneg t 0
  have b1 := PlainAid.bt_le t 0
  have b2 := PlainAid.bt_nonneg t 1
  have b3 := PlainAid.bt_le t 1
  have wr0 : IntKind.i64.wrap (PlainAid.bt t 0 * 256) = PlainAid.bt t 0 * 256 := IntWalk.i64_in _ (by omega)
  have wr1 : IntKind.i64.wrap (L : Int) = (L : Int) := IntWalk.i64_in _ (by omega)
  have c1 := h.a1
  clear h tz
  by_cases h3 : m < (L : Int)
  · rw [if_pos (Or.inl h3)] at HE
    have t3 : decide (m < (L : Int)) = true := by simp; omega
    go_enter Try.func26, Try.ntmps26
    go_wp2_with fail
    refine C.out.mono ?_
    rintro r w1 ⟨rfl, h', k'⟩
    have f1 := h'.fz 1
    have f2 := h'.fz 2
    have d1 := h'.a1
    have d2 := h'.e2
    have HF : Hid (∀ n, XB g S a 0 m w (.returned (.string ByteArray.empty)) ((((w1.drewN n).setCell ⟨g, 2, none⟩ (.int .i64 5)).setCell ⟨g, 1, none⟩ (.int .i64 a)))) := fun n =>
      HN.out 5 _ HE.out (by decide) (((h'.q ((Q.refl w1).drewN n)).setE 5).setA a) (((k'.drewN n).trans (Ch.set _ _ _ _)).trans (Ch.set _ _ _ _))
    clear h' k' C HY T3 T4 HN
    go_wp2_with fail
    go_quiet (fail)
    go_wp2_with fail
    go_ret
    exact HF.out _
  · have t3 : decide (m < (L : Int)) = false := by simp; omega
    by_cases h4 : 4096 < L
    · rw [if_pos (Or.inr h4)] at HE
      have t4 : decide ((4096 : Int) < (L : Int)) = true := by simp; omega
      go_enter Try.func26, Try.ntmps26
      go_wp2_with fail
      refine C.out.mono ?_
      rintro r w1 ⟨rfl, h', k'⟩
      have f1 := h'.fz 1
      have f2 := h'.fz 2
      have d1 := h'.a1
      have d2 := h'.e2
      have HF : Hid (∀ n, XB g S a 0 m w (.returned (.string ByteArray.empty)) ((((w1.drewN n).setCell ⟨g, 2, none⟩ (.int .i64 5)).setCell ⟨g, 1, none⟩ (.int .i64 a)))) := fun n =>
        HN.out 5 _ HE.out (by decide) (((h'.q ((Q.refl w1).drewN n)).setE 5).setA a) (((k'.drewN n).trans (Ch.set _ _ _ _)).trans (Ch.set _ _ _ _))
      clear h' k' C HY T3 T4 HN
      go_wp2_with fail
      go_quiet (fail)
      go_wp2_with fail
      go_ret
      exact HF.out _
    · have t4 : decide ((4096 : Int) < (L : Int)) = false := by simp; omega
      rw [if_neg (by omega)] at HE
      by_cases h5 : S.size - a < 2 + L
      · rw [if_pos h5] at HE
        go_enter Try.func26, Try.ntmps26
        go_wp2_with fail
        refine C.out.mono ?_
        rintro r w1 ⟨rfl, h', k'⟩
        have H1 := Lib.hid h'
        have K1 := Lib.hid k'
        clear h' k' C HY T4
        go_wp2_with fail
        go_quiet (fail)
        go_wp2_with fail
        refine (T3.out (w1.drewN nq) (H1.out.q ((Q.refl w1).drewN nq)) (by omega)).mono ?_
        rintro r w2 ⟨rfl, h', k'⟩
        have f1 := h'.fz 1
        have d1 := h'.a1
        have d2 := h'.e2
        have HF : Hid (XB g S a 0 m w (.returned (.string ByteArray.empty)) (w2.setCell ⟨g, 1, none⟩ (.int .i64 a))) :=
          HN.out 3 _ HE.out (by decide) (h'.setA a) (((K1.out.drewN _).trans k').trans (Ch.set _ _ _ _))
        clear h' k' T3 HN
        go_wp2_with fail
        go_ret
        exact HF.out
      · rw [if_neg h5] at HE
        go_enter Try.func26, Try.ntmps26
        go_wp2_with fail
        refine C.out.mono ?_
        rintro r w1 ⟨rfl, h', k'⟩
        have H1 := Lib.hid h'
        have K1 := Lib.hid k'
        clear h' k' C HN T3
        go_wp2_with fail
        go_quiet (fail)
        go_wp2_with fail
        refine (T4.out (w1.drewN nq) (H1.out.q ((Q.refl w1).drewN nq)) (by omega)).mono ?_
        rintro r w2 ⟨rfl, h', k'⟩
        have d2 := h'.e2
        have HF : Hid (XB g S a 0 m w (.returned (.string u)) w2) :=
          HY.out HE.out (by omega) w2 h' ((K1.out.drewN _).trans k')
        clear h' k' T4 HY
        go_wp2_with fail
        go_ret
        exact HF.out
theorem xblob_any (g : Nat) (S : ByteArray) (a : Nat) (e m : Int) (w : World) (h : RR w g S a e) (hs : S.size ≤ 1000000000) (ha : a ≤ S.size) : Calls Try.prog 26 #[.pointer (some ⟨g, 0, none⟩), .int .i64 m] w (XB g S a e m w) := by
  by_cases he : e = 0
  · subst he
    by_cases h2 : a + 2 ≤ S.size
    · exact xblob_more g S a m w h hs h2
    · exact xblob_short g S a m w h hs ha (by omega)
  · exact xblob_err g S a e m w h he
end Go.Proofs.Ytefnncihpilpdaa.Cod
