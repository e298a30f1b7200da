/-
  Layer 3: the document's own Writer in memory; the walks of its calls, in the words of the program's.
-/
import Derived.Test.YtefnncihpilpdaaCodW3
import Derived.BigRegion
namespace Go.Proofs.Ytefnncihpilpdaa.Cod
open Go.RowKit
open Mem Num
set_option linter.unusedVariables false

structure RW (w : World) (g : Nat) (S : ByteArray) (e : Int) : Prop where
  s0 : w.cell? ⟨g, 0, none⟩ = some (.string S)
  e1 : w.cell? ⟨g, 1, none⟩ = some (.int .i64 e)
  fz : ∀ j, w.frozen? ⟨g, j, none⟩ = false
theorem RW.rd {w : World} {g : Nat} {S : ByteArray} {e : Int} (h : RW w g S e) : RD w g S e := ⟨h.s0, h.e1, h.fz⟩
theorem RW.of {w : World} {g : Nat} {S : ByteArray} {e : Int} (h : RD w g S e) : RW w g S e := ⟨h.s0, h.e1, h.fz⟩

/-- What was written, whatever is wrong. -/
def xwT (S t : ByteArray) (pe : Int) : ByteArray := if pe = 0 then S ++ t else S
def XDone (g : Nat) (S : ByteArray) (e : Int) (t : ByteArray) (pe : Int) (w : World) (r : Ending) (w' : World) : Prop := r = .returned (.tuple #[]) ∧ RD w' g (xwT S t pe) (failE e pe) ∧ Ch g w w'

set_option maxHeartbeats 1000000 in
theorem xfail_w (g : Nat) (S : ByteArray) (e f : Int) (w : World) (h : RD w g S e) : Calls Try.prog 40 #[.pointer (some ⟨g, 0, none⟩), .int .i64 f] w fun r w' => r = .returned (.tuple #[]) ∧ RD w' g S (failE e f) ∧ Ch g w w' := by
  have c1 := h.e1
  have f1 := h.fz 1
  have HE : Hid (failE e f = if e = 0 then f else e) := rfl
  have H := Lib.hid h
  clear h
  by_cases h0 : e = 0
  · subst h0
    rw [if_pos rfl] at HE
    go_enter Try.func40, Try.ntmps40
    go_wp2_with fail
    go_end0
    exact ⟨rfl, by rw [HE.out]; exact H.out.setE f, Ch.set _ _ _ _⟩
  · rw [if_neg h0] at HE
    have h0' : (e == 0) = false := by simpa using h0
    have h0'' : (e != 0) = true := by simpa using h0
    go_enter Try.func40, Try.ntmps40
    go_wp2_with fail
    go_end0
    exact ⟨rfl, by rw [HE.out]; exact H.out, Ch.refl _ _⟩

theorem XDone.failed {g : Nat} {S : ByteArray} {e f : Int} {t : ByteArray} {w w' : World} (hf : f ≠ 0) (h : RD w' g S (failE e f)) (c : Ch g w w') : XDone g S e t f w (.returned (.tuple #[])) w' :=
  ⟨rfl, by unfold xwT; rw [if_neg hf]; exact h, c⟩
theorem XDone.wrote {g : Nat} {S : ByteArray} {e : Int} {t : ByteArray} {w w1 : World} (q : Q w w1) (h : RD w1 g S e) : XDone g S e t 0 w (.returned (.tuple #[])) (w1.setCell ⟨g, 0, none⟩ (.string (S ++ t))) :=
  ⟨rfl, by unfold xwT; rw [if_pos rfl, failE_0]; exact h.setS _, (Ch.of_q q g).trans (Ch.set _ _ _ _)⟩
theorem XDone.made {g : Nat} {S : ByteArray} {e : Int} {t : ByteArray} {w w1 : World} (q : Q w w1) (h : RD w1 g S e) (o : Obj) : XDone g S e t 0 w (.returned (.tuple #[])) ((w1.setCell ⟨g, 0, none⟩ (.string (S ++ t))).alloc o) :=
  ⟨rfl, by unfold xwT; rw [if_pos rfl, failE_0]; exact (h.setS _).q ((Q.refl _).alloc _), ((Ch.of_q q g).trans (Ch.set _ _ _ _)).alloc _⟩

theorem xhash_w (g : Nat) (S : ByteArray) (e : Int) (s : ByteArray) (w : World) (h : RD w g S e) (hs : S.size ≤ 100000000) (hl : s.size ≤ 100000000) : Calls Try.prog 15 #[.pointer (some ⟨g, 0, none⟩), .string s] w (XDone g S e s (waE s) w) := by
  by_cases h16 : s.size = 16
  · have E : waE s = 0 := by unfold waE; rw [if_pos h16]
    rw [E]
    have c0 := h.s0
    have f0 := h.fz 0
    have HF := Lib.hid (XDone.wrote (t := s) (Q.refl w) h)
    have td : ((s.size : Int) != 16) = false := by simp; omega
    have td' : ((s.size : Int) == 16) = true := by simp; omega
    clear h h16 E
    go_enter Try.func15, Try.ntmps15
    go_wp2_with fail
    go_end0
    exact HF.out
  · have E : waE s = 1 := by unfold waE; rw [if_neg h16]
    rw [E]
    have P := Lib.hid (xfail_w g S e 1 w h)
    have td : ((s.size : Int) != 16) = true := by simp; omega
    have td' : ((s.size : Int) == 16) = false := by simp; omega
    clear h h16 E
    go_enter Try.func15, Try.ntmps15
    go_wp2_with fail
    refine P.out.mono ?_
    rintro r w2 ⟨rfl, h2, k2⟩
    have HF := Lib.hid (XDone.failed (t := s) (by decide) h2 k2)
    clear h2 k2 P
    go_wp2_with fail
    refine bodyPost_ret (results_none rfl _ _ _) rfl ?_
    exact HF.out

set_option maxHeartbeats 1000000 in
theorem xbyte_w (g : Nat) (S : ByteArray) (e n : Int) (w : World) (h : RD w g S e) (hs : S.size ≤ 100000000) : Calls Try.prog 12 #[.pointer (some ⟨g, 0, none⟩), .int .i64 n] w (XDone g S e (strOfNums [n]) (wyE n) w) := by
  by_cases hn : 0 ≤ n ∧ n ≤ 255
  · have E : wyE n = 0 := by unfold wyE; rw [if_pos hn]
    rw [E]
    obtain ⟨n0, n1⟩ := hn
    obtain ⟨v, hv⟩ : ∃ v, w.drew = v := ⟨_, rfl⟩
    have qv : Q w v := by rw [← hv]; exact (Q.refl w).drew
    have h' := h.q qv
    have cv := conv1 v n
    have z : (strOfNums [n]).size = 1 := by rw [strOfNums_size]; rfl
    have c0 := h'.s0
    have f0 := h'.fz 0
    have hgv := h'.lt
    have hne : g ≠ v.heap.size := by omega
    have HF := Lib.hid (XDone.made (t := strOfNums [n]) qv h' (.cells #[.int .u8 n] 5))
    have t0 : decide (n < 0) = false := by simp; omega
    have t1 : decide (255 < n) = false := by simp; omega
    clear h h' E qv
    generalize strOfNums [n] = t at *
    go_enter Try.func12, Try.ntmps12
    go_wp2_with fail
    go_region
    go_end0
    exact HF.out
  · have E : wyE n = 1 := by unfold wyE; rw [if_neg hn]
    rw [E]
    have P := Lib.hid (xfail_w g S e 1 w h)
    have HH : Hid (∀ w2, RD w2 g S (failE e 1) → Ch g w w2 → XDone g S e (strOfNums [n]) 1 w (.returned (.tuple #[])) w2) := fun w2 a b => XDone.failed (by decide) a b
    clear h E
    generalize strOfNums [n] = t at *
    by_cases h0 : n < 0
    · have t0 : decide (n < 0) = true := by simp; omega
      clear hn
      go_enter Try.func12, Try.ntmps12
      go_wp2_with fail
      refine P.out.mono ?_
      rintro r w2 ⟨rfl, h2, k2⟩
      have HF := Lib.hid (HH.out w2 h2 k2)
      clear h2 k2 P
      go_wp2_with fail
      refine bodyPost_ret (results_none rfl _ _ _) rfl ?_
      exact HF.out
    · have t0 : decide (n < 0) = false := by simp; omega
      have t1 : decide (255 < n) = true := by simp; omega
      clear hn
      go_enter Try.func12, Try.ntmps12
      go_wp2_with fail
      refine P.out.mono ?_
      rintro r w2 ⟨rfl, h2, k2⟩
      have HF := Lib.hid (HH.out w2 h2 k2)
      clear h2 k2 P
      go_wp2_with fail
      refine bodyPost_ret (results_none rfl _ _ _) rfl ?_
      exact HF.out

set_option maxHeartbeats 1000000 in
theorem xblob_w (g : Nat) (S : ByteArray) (e : Int) (s : ByteArray) (w : World) (h : RD w g S e) (hs : S.size ≤ 100000000) : Calls Try.prog 14 #[.pointer (some ⟨g, 0, none⟩), .string s] w (XDone g S e (blobS s) (wbE s) w) := by
  by_cases hn : s.size ≤ 4096
  · have E : wbE s = 0 := by unfold wbE; rw [if_pos hn]
    rw [E]
    obtain ⟨v, hv⟩ : ∃ v, w.drew = v := ⟨_, rfl⟩
    have qv : Q w v := by rw [← hv]; exact (Q.refl w).drew
    have h' := h.q qv
    have cv := conv2 v ((s.size : Int) / 256) ((s.size : Int) % 256)
    have c0 := h'.s0
    have f0 := h'.fz 0
    have hgv := h'.lt
    have hne : g ≠ v.heap.size := by omega
    have HF := Lib.hid (XDone.made (t := blobS s) qv h' (.cells #[.int .u8 ((s.size : Int) / 256), .int .u8 ((s.size : Int) % 256)] 5))
    have HB : strOfNums [(s.size : Int) / 256, (s.size : Int) % 256] ++ s = blobS s := rfl
    have t0 : decide ((4096 : Int) < (s.size : Int)) = false := by simp; omega
    have u0 : IntKind.u8.wrap ((s.size : Int) / 256) = (s.size : Int) / 256 := by rw [IntKind.wrap_u8]; omega
    have u1 : IntKind.u8.wrap ((s.size : Int) % 256) = (s.size : Int) % 256 := by rw [IntKind.wrap_u8]; omega
    have z2 : (strOfNums [(s.size : Int) / 256, (s.size : Int) % 256]).size = 2 := by rw [strOfNums_size]; rfl
    have z3 := blobS_size s
    clear h h' E qv
    generalize blobS s = t at *
    go_enter Try.func14, Try.ntmps14
    go_wp2_with fail
    go_region
    go_end0
    exact HF.out
  · have E : wbE s = 5 := by unfold wbE; rw [if_neg hn]
    rw [E]
    have P := Lib.hid (xfail_w g S e 5 w h)
    have HH : Hid (∀ w2, RD w2 g S (failE e 5) → Ch g w w2 → XDone g S e (blobS s) 5 w (.returned (.tuple #[])) w2) := fun w2 a b => XDone.failed (by decide) a b
    have t0 : decide ((4096 : Int) < (s.size : Int)) = true := by simp; omega
    clear h E hn
    generalize blobS s = t at *
    go_enter Try.func14, Try.ntmps14
    go_wp2_with fail
    refine P.out.mono ?_
    rintro r w2 ⟨rfl, h2, k2⟩
    have HF := Lib.hid (HH.out w2 h2 k2)
    clear h2 k2 P
    go_wp2_with fail
    refine bodyPost_ret (results_none rfl _ _ _) rfl ?_
    exact HF.out
set_option maxHeartbeats 1000000 in
theorem xnum_w (g : Nat) (S : ByteArray) (e n : Int) (w : World) (h : RD w g S e) (hs : S.size ≤ 100000000) (n0 : 0 ≤ n) (n1 : n ≤ 18446744073709551615) : Calls Try.prog 13 #[.pointer (some ⟨g, 0, none⟩), .int .u64 n] w (XDone g S e (putS n) 0 w) := by
  obtain ⟨v, hv⟩ : ∃ v, w.drew = v := ⟨_, rfl⟩
  have qv : Q w v := by rw [← hv]; exact (Q.refl w).drew
  have h' := h.q qv
  have c0 := h'.s0
  have f0 := h'.fz 0
  have P : Hid (∀ w1, Calls Try.prog 41 #[.int .u64 n] w1 fun e w' => e = .returned (.string (putS n)) ∧ Q w1 w') := fun w1 => rput_q n w1 (Q.refl w1) n0 n1
  have z := putS_size n
  have HF : Hid (∀ w1, Q v w1 → XDone g S e (putS n) 0 w (.returned (.tuple #[])) (w1.setCell ⟨g, 0, none⟩ (.string (S ++ putS n)))) := fun w1 q1 => XDone.wrote (qv.trans q1) (h'.q q1)
  have HR := Lib.hid h'
  clear h h' qv
  generalize putS n = t at *
  go_enter Try.func13, Try.ntmps13
  go_wp2_with fail
  go_region_with (go_at_call 41; refine (P.out _).mono ?_; rintro r w1 ⟨rfl, q1⟩; have d0 := (HR.out.q q1).s0; have g0 := (HR.out.q q1).fz 0; have Q1 := Lib.hid q1; clear q1)
  all_goals (go_end0; exact HF.out _ Q1.out)
theorem xtext_w (g : Nat) (S : ByteArray) (e : Int) (w : World) (h : RD w g S e) : Calls Try.prog 17 #[.pointer (some ⟨g, 0, none⟩)] w fun r w' => r = .returned (.string (if e = 0 then S else ByteArray.empty)) ∧ w = w' := by
  have c0 := h.s0
  have c1 := h.e1
  clear h
  by_cases h0 : e = 0
  · rw [if_pos h0]
    subst h0
    go_enter Try.func17, Try.ntmps17
    go_wp2_with fail
    go_ret
    exact ⟨rfl, rfl⟩
  · rw [if_neg h0]
    have h0' : (e == 0) = false := by simpa using h0
    have h0'' : (e != 0) = true := by simpa using h0
    go_enter Try.func17, Try.ntmps17
    go_wp2_with fail
    go_ret
    exact ⟨rfl, rfl⟩
end Go.Proofs.Ytefnncihpilpdaa.Cod
