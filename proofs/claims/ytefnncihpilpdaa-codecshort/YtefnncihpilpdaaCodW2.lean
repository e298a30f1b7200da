/-
  Layer 3: the walks of a Writer's calls.
-/
import Derived.Test.YtefnncihpilpdaaCodW
namespace Go.Proofs.Ytefnncihpilpdaa.Cod
open Go.RowKit
open Mem Num
set_option linter.unusedVariables false

/-- The world behind a first error. -/
def failW (w : World) (g : Nat) (f : Int) : World := ((w.setCell ⟨g, 0, none⟩ (.pointer none)).setCell ⟨g, 1, none⟩ (.int .i64 0)).setCell ⟨g, 2, none⟩ (.int .i64 f)
theorem WR.failed {w : World} {g K : Nat} {T : ByteArray} {e : Int} (h : WR w g K T e) (f : Int) : WR (failW w g f) g K ByteArray.empty f ∧ Ch g w (failW w g f) := by
  obtain ⟨p, l, h1, h2, h3⟩ := h.ch
  refine ⟨⟨⟨none, [], ?_, rfl, rfl⟩, ?_, ?_, ?_, h.le, ?_, fun _ => rfl⟩, ?_⟩
  · exact setC_cell _ _ (setC_cell _ _ (World.cell?_setCell_same _ _ _ h1) (.inr (by decide))) (.inr (by decide))
  · exact setC_cell _ _ (World.cell?_setCell_same _ _ _ (setC_cell _ _ h.n1 (.inr (by decide)))) (.inr (by decide))
  · exact World.cell?_setCell_same _ _ _ (setC_cell _ _ (setC_cell _ _ h.e2 (.inr (by decide))) (.inr (by decide)))
  · intro j; simp only [failW, World.frozen?_setCell]; exact h.fz j
  · have := h.lt; simp [failW, World.setCell]; omega
  · exact ((Ch.set _ _ _ _).trans (Ch.set _ _ _ _)).trans (Ch.set _ _ _ _)
set_option maxHeartbeats 1000000 in
theorem fail_w (g K : Nat) (T : ByteArray) (e f : Int) (t : ByteArray) (w : World) (h : WR w g K T e) (hf : f ≠ 0) : Calls Try.prog 54 #[.pointer (some ⟨g, 0, none⟩), .int .i64 f] w fun r w' =>
    r = .returned (.tuple #[]) ∧ WR w' g K (wrT T e t f) (failE e f) ∧ Ch g w w' := by
  have HT : Hid (wrT T e t f = if e = 0 then (if f = 0 then T ++ t else ByteArray.empty) else T) := rfl
  rw [if_neg hf] at HT
  have HE : Hid (failE e f = if e = 0 then f else e) := rfl
  have c1 := h.n1
  have c2 := h.e2
  obtain ⟨p, l, c0, _, _⟩ := h.ch
  have f0 := h.fz 0
  have f1 := h.fz 1
  have f2 := h.fz 2
  clear hf
  by_cases he : e = 0
  · subst he
    have HF : Hid (WR (failW w g f) g K ByteArray.empty f ∧ Ch g w (failW w g f)) := h.failed f
    rw [if_pos rfl] at HT HE
    unfold failW at HF
    clear h
    go_enter Try.func54, Try.ntmps54
    go_wp2_with fail
    go_end0
    refine ⟨rfl, ?_⟩
    rw [HT.out, HE.out]
    exact HF.out
  · have H := Lib.hid h
    have h0' : (e == 0) = false := by simpa using he
    have h0'' : (e != 0) = true := by simpa using he
    rw [if_neg he] at HT HE
    clear h
    go_enter Try.func54, Try.ntmps54
    go_wp2_with fail
    go_end0
    refine ⟨rfl, ?_, Ch.refl _ _⟩
    rw [HT.out, HE.out]
    exact H.out
theorem err_w (g K : Nat) (T : ByteArray) (e : Int) (w : World) (h : WR w g K T e) : Calls Try.prog 18 #[.pointer (some ⟨g, 0, none⟩)] w fun r w' => r = .returned (.int .i64 e) ∧ w = w' := by
  have c2 := h.e2
  clear h
  go_enter Try.func18, Try.ntmps18
  go_wp2_with fail
  go_ret
  exact ⟨rfl, rfl⟩

/-- What a write does, as a word. -/
def WDone (g K : Nat) (T : ByteArray) (e : Int) (t : ByteArray) (pe : Int) (w : World) (r : Ending) (w' : World) : Prop := r = .returned (.tuple #[]) ∧ WR w' g K (wrT T e t pe) (failE e pe) ∧ Ch g w w'
theorem failE_0 (e : Int) : failE e 0 = e := by unfold failE; split <;> simp_all
theorem WDone.of {g K : Nat} {T : ByteArray} {e : Int} {t : ByteArray} {w w1 w' : World} (q : Q w w1) (h : WR w' g K (wrT T e t 0) e) (c : Ch g w1 w') : WDone g K T e t 0 w (.returned (.tuple #[])) w' :=
  ⟨rfl, by rw [failE_0]; exact h, (Ch.of_q q g).trans c⟩

theorem num_w (g K : Nat) (T : ByteArray) (e n : Int) (w : World) (h : WR w g K T e) (hs : T.size ≤ 100000000) (n0 : 0 ≤ n) (n1 : n ≤ 18446744073709551615) : Calls Try.prog 36 #[.pointer (some ⟨g, 0, none⟩), .int .u64 n] w (WDone g K T e (putS n) 0 w) := by
  have C := Lib.hid (put_any n w n0 n1)
  have z := putS_size n
  have P : Hid (∀ w1, Q w w1 → Calls Try.prog 52 #[.pointer (some ⟨g, 0, none⟩), .string (putS n)] w1 fun r w' => r = .returned (.tuple #[]) ∧ WR w' g K (wrT T e (putS n) 0) e ∧ Ch g w1 w') := fun w1 q => put_w g K T e (putS n) w1 (h.q q) (by omega) (by omega)
  clear h
  generalize putS n = t at *
  go_enter Try.func36, Try.ntmps36
  go_wp2_with fail
  refine C.out.mono ?_
  rintro r w1 ⟨rfl, q1⟩
  have Q1 : Hid (Q w w1) := q1
  clear q1
  go_wp2_with fail
  refine (P.out w1 Q1.out).mono ?_
  rintro r w2 ⟨rfl, h2, k2⟩
  have HF := Lib.hid (WDone.of Q1.out h2 k2)
  clear h2 k2 P C
  go_wp2_with fail
  go_end0
  exact HF.out

def waE (s : ByteArray) : Int := if s.size = 16 then 0 else 1
theorem hash_w (g K : Nat) (T : ByteArray) (e : Int) (s : ByteArray) (w : World) (h : WR w g K T e) (hs : T.size ≤ 100000000) (hl : s.size ≤ 100000000) : Calls Try.prog 39 #[.pointer (some ⟨g, 0, none⟩), .string s] w (WDone g K T e s (waE s) w) := by
  by_cases h16 : s.size = 16
  · have E : waE s = 0 := by unfold waE; rw [if_pos h16]
    rw [E]
    have P := Lib.hid (put_w g K T e s w h (by omega) (by omega))
    have td : ((s.size : Int) != 16) = false := by simp; omega
    have td' : ((s.size : Int) == 16) = true := by simp; omega
    clear h h16 E
    go_enter Try.func39, Try.ntmps39
    go_wp2_with fail
    refine P.out.mono ?_
    rintro r w2 ⟨rfl, h2, k2⟩
    have HF := Lib.hid (WDone.of (Q.refl w) h2 k2)
    clear h2 k2 P
    go_wp2_with fail
    go_end0
    exact HF.out
  · have E : waE s = 1 := by unfold waE; rw [if_neg h16]
    rw [E]
    have P := Lib.hid (fail_w g K T e 1 s w h (by decide))
    have td : ((s.size : Int) != 16) = true := by simp; omega
    have td' : ((s.size : Int) == 16) = false := by simp; omega
    clear h h16 E
    go_enter Try.func39, Try.ntmps39
    go_wp2_with fail
    refine P.out.mono ?_
    rintro r w2 ⟨rfl, h2, k2⟩
    have HF : Hid (WDone g K T e s 1 w (.returned (.tuple #[])) w2) := ⟨rfl, h2, k2⟩
    clear h2 k2 P
    go_wp2_with fail
    refine bodyPost_ret (results_none rfl _ _ _) rfl ?_
    exact HF.out

theorem conv2 (w : World) (x y : Int) :
    (convert 60 9 (.slice (some ⟨w.heap.size, 0, none⟩) 2 2)).run Try.prog (w.alloc (.cells #[.int .u8 x, .int .u8 y] 5)) = .ok (.string (strOfNums [x, y])) (w.alloc (.cells #[.int .u8 x, .int .u8 y] 5)) := by
  refine run_convert_bytes_arg _ 60 5 Try.underlying60 Try.underlying5 _ 0 2 2 [x, y] rfl ?_ 9 Try.underlying9
  intro i hi
  match i, hi with
  | 0, _ => simp
  | 1, _ => simp
  | n + 2, h => omega

def wyE (n : Int) : Int := if 0 ≤ n ∧ n ≤ 255 then 0 else 1
set_option maxHeartbeats 1000000 in
theorem byte_w (g K : Nat) (T : ByteArray) (e n : Int) (w : World) (h : WR w g K T e) (hs : T.size ≤ 100000000) : Calls Try.prog 38 #[.pointer (some ⟨g, 0, none⟩), .int .i64 n] w (WDone g K T e (strOfNums [n]) (wyE n) w) := by
  by_cases hn : 0 ≤ n ∧ n ≤ 255
  · have E : wyE n = 0 := by unfold wyE; rw [if_pos hn]
    rw [E]
    obtain ⟨n0, n1⟩ := hn
    have cv := conv1 w n
    have z : (strOfNums [n]).size = 1 := by rw [strOfNums_size]; rfl
    have P : Hid (∀ w1, Q w w1 → Calls Try.prog 52 #[.pointer (some ⟨g, 0, none⟩), .string (strOfNums [n])] w1 fun r w' => r = .returned (.tuple #[]) ∧ WR w' g K (wrT T e (strOfNums [n]) 0) e ∧ Ch g w1 w') := fun w1 q => put_w g K T e (strOfNums [n]) w1 (h.q q) (by omega) (by omega)
    have Q1 : Hid (∀ o, Q w (w.alloc o)) := fun o => (Q.refl w).alloc o
    have t0 : decide (n < 0) = false := by simp; omega
    have t1 : decide (255 < n) = false := by simp; omega
    clear h E z
    generalize strOfNums [n] = t at *
    go_enter Try.func38, Try.ntmps38
    go_wp2_with fail
    refine (P.out _ (Q1.out _)).mono ?_
    rintro r w2 ⟨rfl, h2, k2⟩
    have HF := Lib.hid (WDone.of (Q1.out _) h2 k2)
    clear h2 k2 P
    go_wp2_with fail
    go_end0
    exact HF.out
  · have E : wyE n = 1 := by unfold wyE; rw [if_neg hn]
    rw [E]
    have P := Lib.hid (fail_w g K T e 1 (strOfNums [n]) w h (by decide))
    have HH : Hid (∀ w2, WR w2 g K (wrT T e (strOfNums [n]) 1) (failE e 1) → Ch g w w2 → WDone g K T e (strOfNums [n]) 1 w (.returned (.tuple #[])) w2) := fun w2 a b => ⟨rfl, a, b⟩
    clear h E
    generalize strOfNums [n] = t at *
    by_cases h0 : n < 0
    · have t0 : decide (n < 0) = true := by simp; omega
      clear hn
      go_enter Try.func38, Try.ntmps38
      go_wp2_with fail
      refine P.out.mono ?_
      rintro r w2 ⟨rfl, h2, k2⟩
      have HF := Lib.hid (HH.out w2 h2 k2)
      clear h2 k2 P
      go_wp2_with fail
      refine bodyPost_ret (results_none rfl _ _ _) rfl ?_
      exact HF.out
    · have t0 : decide (n < 0) = false := by simp; omega
      have t1 : decide (255 < n) = true := by simp; omega
      clear hn
      go_enter Try.func38, Try.ntmps38
      go_wp2_with fail
      refine P.out.mono ?_
      rintro r w2 ⟨rfl, h2, k2⟩
      have HF := Lib.hid (HH.out w2 h2 k2)
      clear h2 k2 P
      go_wp2_with fail
      refine bodyPost_ret (results_none rfl _ _ _) rfl ?_
      exact HF.out

/-- A text behind its length. -/
def blobS (s : ByteArray) : ByteArray := strOfNums [(s.size : Int) / 256, (s.size : Int) % 256] ++ s
theorem blobS_size (s : ByteArray) : (blobS s).size = 2 + s.size := by unfold blobS; rw [ByteArray.size_append, strOfNums_size]; rfl
def wbE (s : ByteArray) : Int := if s.size ≤ 4096 then 0 else 5
set_option maxHeartbeats 1000000 in
theorem blob_w (g K : Nat) (T : ByteArray) (e : Int) (s : ByteArray) (w : World) (h : WR w g K T e) (hs : T.size ≤ 100000000) : Calls Try.prog 37 #[.pointer (some ⟨g, 0, none⟩), .string s] w (WDone g K T e (blobS s) (wbE s) w) := by
  by_cases hn : s.size ≤ 4096
  · have E : wbE s = 0 := by unfold wbE; rw [if_pos hn]
    rw [E]
    have cv := conv2 w ((s.size : Int) / 256) ((s.size : Int) % 256)
    have z := blobS_size s
    have P : Hid (∀ w1, Q w w1 → Calls Try.prog 52 #[.pointer (some ⟨g, 0, none⟩), .string (blobS s)] w1 fun r w' => r = .returned (.tuple #[]) ∧ WR w' g K (wrT T e (blobS s) 0) e ∧ Ch g w1 w') := fun w1 q => put_w g K T e (blobS s) w1 (h.q q) (by omega) (by omega)
    have Q1 : Hid (∀ o, Q w (w.alloc o)) := fun o => (Q.refl w).alloc o
    have HB : strOfNums [(s.size : Int) / 256, (s.size : Int) % 256] ++ s = blobS s := rfl
    have t0 : decide ((4096 : Int) < (s.size : Int)) = false := by simp; omega
    have u0 : IntKind.u8.wrap ((s.size : Int) / 256) = (s.size : Int) / 256 := by rw [IntKind.wrap_u8]; omega
    have u1 : IntKind.u8.wrap (s.size : Int) = (s.size : Int) % 256 := by rw [IntKind.wrap_u8]
    have z2 : (strOfNums [(s.size : Int) / 256, (s.size : Int) % 256]).size = 2 := by rw [strOfNums_size]; rfl
    clear h E z
    generalize blobS s = t at *
    go_enter Try.func37, Try.ntmps37
    go_wp2_with fail
    refine (P.out _ (Q1.out _)).mono ?_
    rintro r w2 ⟨rfl, h2, k2⟩
    have HF := Lib.hid (WDone.of (Q1.out _) h2 k2)
    clear h2 k2 P
    go_wp2_with fail
    go_end0
    exact HF.out
  · have E : wbE s = 5 := by unfold wbE; rw [if_neg hn]
    rw [E]
    have P := Lib.hid (fail_w g K T e 5 (blobS s) w h (by decide))
    have HH : Hid (∀ w2, WR w2 g K (wrT T e (blobS s) 5) (failE e 5) → Ch g w w2 → WDone g K T e (blobS s) 5 w (.returned (.tuple #[])) w2) := fun w2 a b => ⟨rfl, a, b⟩
    have t0 : decide ((4096 : Int) < (s.size : Int)) = true := by simp; omega
    clear h E hn
    generalize blobS s = t at *
    go_enter Try.func37, Try.ntmps37
    go_wp2_with fail
    refine P.out.mono ?_
    rintro r w2 ⟨rfl, h2, k2⟩
    have HF := Lib.hid (HH.out w2 h2 k2)
    clear h2 k2 P
    go_wp2_with fail
    refine bodyPost_ret (results_none rfl _ _ _) rfl ?_
    exact HF.out
end Go.Proofs.Ytefnncihpilpdaa.Cod
