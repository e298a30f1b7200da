import Derived.Test.YtobfgljkckcmcaaGreatDoorYHCod
import Derived.Test.YtobfgljkckcmcaaGreatDoorYHMem
import Derived.BigRegion
set_option maxRecDepth 100000
namespace Go.Proofs.YtobfgljkckcmcaaGreatDoor.Cod
open Go.RowKit
open Mem Num
set_option linter.unusedVariables false
/-- Pieces, the last one first, each in a block above K. -/
def Chain (w : World) (K : Nat) : Option Addr → List ByteArray → Prop
 | p, [] => p = none
 | p, t :: r => ∃ b q, p = some ⟨b, 0, none⟩ ∧ K < b ∧ 0 < t.size ∧ w.cell? ⟨b, 0, none⟩ = some (.string t) ∧ w.cell? ⟨b, 1, none⟩ = some (.pointer q) ∧ Chain w K q r
/-- All of them, one behind the other. -/
def cat : List ByteArray → ByteArray
 | [] => ByteArray.empty
 | t :: r => cat r ++ t
theorem Chain.keep {w w' : World} {K : Nat} : ∀ {p : Option Addr} {l : List ByteArray}, Chain w K p l → (∀ b o v, K < b → w.cell? ⟨b, o, none⟩ = some v → w'.cell? ⟨b, o, none⟩ = some v) → Chain w' K p l
 | p, [], h, _ => h
 | p, t :: r, ⟨b, q, h1, h2, h3, h4, h5, h6⟩, k => ⟨b, q, h1, h2, h3, k _ _ _ h2 h4, k _ _ _ h2 h5, Chain.keep h6 k⟩
/-- A Writer at g: what it wrote, its error; K: above it lie its pieces. -/
structure WR (w : World) (g K : Nat) (T : ByteArray) (e : Int) : Prop where
 ch : ∃ p l, w.cell? ⟨g, 0, none⟩ = some (.pointer p) ∧ Chain w K p l ∧ cat l = T
 n1 : w.cell? ⟨g, 1, none⟩ = some (.int .i64 T.size)
 e2 : w.cell? ⟨g, 2, none⟩ = some (.int .i64 e)
 fz : ∀ j, w.frozen? ⟨g, j, none⟩ = false
 le : g ≤ K
 lt : K < w.heap.size
 er : e ≠ 0 → T = ByteArray.empty
theorem WR.glt {w : World} {g K : Nat} {T : ByteArray} {e : Int} (h : WR w g K T e) : g < w.heap.size := Nat.lt_of_le_of_lt h.le h.lt
theorem Q.cell' {w w' : World} (q : Q w w') {a : Addr} {v : Value} (h : w.cell? a = some v) : w'.cell? a = some v := by rw [q.cell (World.block_lt_of_cell? _ _ h)]; exact h
theorem WR.q {w w' : World} {g K : Nat} {T : ByteArray} {e : Int} (h : WR w g K T e) (q : Q w w') : WR w' g K T e := by
 obtain ⟨p, l, h1, h2, h3⟩ := h.ch
 exact ⟨⟨p, l, Q.cell' q h1, h2.keep fun b o v hb hv => Q.cell' q hv, h3⟩, Q.cell' q h.n1, Q.cell' q h.e2, fun j => by rw [q.frozen (p := ⟨g, j, none⟩) h.glt]; exact h.fz j, h.le, Nat.lt_of_lt_of_le h.lt q.size, h.er⟩
/-- What stands behind a part t that was written; pe: the part's own error. -/
def wrT (T : ByteArray) (e : Int) (t : ByteArray) (pe : Int) : ByteArray := if e = 0 then (if pe = 0 then T ++ t else ByteArray.empty) else T
/-- The world behind a put. -/
def putW (w : World) (g : Nat) (t : ByteArray) (p : Option Addr) (n : Int) (ty : TypeId) : World :=
 ((w.setCell ⟨g, 0, none⟩ (.pointer (some ⟨w.heap.size, 0, none⟩))).setCell ⟨g, 1, none⟩ (.int .i64 n)).alloc (.cells #[.string t, .pointer p] ty)
theorem setC_cell (w : World) {g j : Nat} (v : Value) {b o : Nat} {u : Value} (h : w.cell? ⟨b, o, none⟩ = some u) (hne : b ≠ g ∨ o ≠ j) : (w.setCell ⟨g, j, none⟩ v).cell? ⟨b, o, none⟩ = some u := by
 rw [World.cell?_setCell_other (h := by intro h; injection h; omega)]; exact h
theorem alloc_cell (w : World) (o : Obj) {a : Addr} {u : Value} (h : w.cell? a = some u) : (w.alloc o).cell? a = some u := Q.cell' ((Q.refl w).alloc o) h
theorem WR.put {w : World} {g K : Nat} {T : ByteArray} (h : WR w g K T 0) (t : ByteArray) (ht : 0 < t.size) (p : Option Addr) (hp : w.cell? ⟨g, 0, none⟩ = some (.pointer p)) (ty : TypeId) :
 WR (putW w g t p ((T.size : Int) + (t.size : Int)) ty) g K (T ++ t) 0 ∧ Ch g w (putW w g t p ((T.size : Int) + (t.size : Int)) ty) := by
 obtain ⟨p', l, h1, h2, h3⟩ := h.ch
 rw [hp] at h1
 injection h1 with h1
 injection h1 with h1
 subst h1
 have hg := h.glt
 have k0 : ∀ b o v, b ≠ g → w.cell? ⟨b, o, none⟩ = some v → (putW w g t p ((T.size : Int) + (t.size : Int)) ty).cell? ⟨b, o, none⟩ = some v := fun b o v hb hv =>
  alloc_cell _ _ (setC_cell _ _ (setC_cell _ _ hv (.inl hb)) (.inl hb))
 have hz : ((w.setCell ⟨g, 0, none⟩ (.pointer (some ⟨w.heap.size, 0, none⟩))).setCell ⟨g, 1, none⟩ (.int .i64 ((T.size : Int) + (t.size : Int)))).heap.size = w.heap.size := by simp [World.setCell]
 have hn : ∀ o, (putW w g t p ((T.size : Int) + (t.size : Int)) ty).cell? ⟨w.heap.size, o, none⟩ = #[Value.string t, .pointer p][o]? := fun o => by
  unfold putW
  rw [World.cell?_alloc_at _ _ _ _ hz.symm]
 refine ⟨⟨⟨some ⟨w.heap.size, 0, none⟩, t :: l, ?_, ?_, by rw [← h3]; rfl⟩, ?_, ?_, ?_, h.le, ?_, fun h => absurd rfl h⟩, ?_⟩
 · exact alloc_cell _ _ (setC_cell _ _ (World.cell?_setCell_same _ _ _ hp) (.inr (by decide)))
 · exact ⟨w.heap.size, p, rfl, h.lt, ht, hn 0, hn 1, h2.keep fun b o v hb hv => k0 _ _ _ (by have := h.le; omega) hv⟩
 · rw [show (((T ++ t).size : Nat) : Int) = (T.size : Int) + (t.size : Int) by simp]
   exact alloc_cell _ _ (World.cell?_setCell_same _ _ _ (setC_cell _ _ h.n1 (.inr (by decide))))
 · exact alloc_cell _ _ (setC_cell _ _ (setC_cell _ _ h.e2 (.inr (by decide))) (.inr (by decide)))
 · intro j
   unfold putW
   rw [((Q.refl _).alloc _).frozen (p := ⟨g, j, none⟩) (by rw [hz]; exact hg)]
   simp only [World.frozen?_setCell]
   exact h.fz j
 · have := h.lt
   simp [putW, World.setCell]
   omega
 · exact ((Ch.set _ _ _ _).trans (Ch.set _ _ _ _)).alloc _
set_option maxHeartbeats 1000000 in
theorem put_w (g K : Nat) (T : ByteArray) (e : Int) (t : ByteArray) (w : World) (h : WR w g K T e) (ht : 0 < t.size) (hs : T.size + t.size ≤ 1000000000) : Calls Tryz.prog 105 #[.pointer (some ⟨g, 0, none⟩), .string t] w fun r w' =>
 r = .returned (.tuple #[]) ∧ WR w' g K (wrT T e t 0) e ∧ Ch g w w' := by
 have HT : Hid (wrT T e t 0 = if e = 0 then (if (0 : Int) = 0 then T ++ t else ByteArray.empty) else T) := rfl
 rw [if_pos (show (0 : Int) = 0 from rfl)] at HT
 have c1 := h.n1
 have c2 := h.e2
 obtain ⟨p, l, c0, _, _⟩ := h.ch
 have f0 := h.fz 0
 have f1 := h.fz 1
 have hg := h.glt
 by_cases he : e = 0
 · subst he
   have HF : Hid (∀ ty, WR (putW w g t p ((T.size : Int) + (t.size : Int)) ty) g K (T ++ t) 0 ∧ Ch g w (putW w g t p ((T.size : Int) + (t.size : Int)) ty)) := fun ty => h.put t ht p c0 ty
   rw [if_pos rfl] at HT
   unfold putW at HF
   clear h
   go_enter Tryz.func105, Tryz.ntmps105
   go_wp2_with fail
   go_end0
   refine ⟨rfl, ?_⟩
   rw [HT.out]
   exact HF.out _
 · have H := Lib.hid h
   have h0' : (e == 0) = false := by simpa using he
   have h0'' : (e != 0) = true := by simpa using he
   rw [if_neg he] at HT
   clear h
   go_enter Tryz.func105, Tryz.ntmps105
   go_wp2_with fail
   refine bodyPost_ret (results_none rfl _ _ _) rfl ?_
   refine ⟨rfl, ?_, Ch.refl _ _⟩
   rw [HT.out]
   exact H.out
/-- The world behind a first error. -/
def failW (w : World) (g : Nat) (f : Int) : World := ((w.setCell ⟨g, 0, none⟩ (.pointer none)).setCell ⟨g, 1, none⟩ (.int .i64 0)).setCell ⟨g, 2, none⟩ (.int .i64 f)
theorem WR.failed {w : World} {g K : Nat} {T : ByteArray} {e : Int} (h : WR w g K T e) (f : Int) : WR (failW w g f) g K ByteArray.empty f ∧ Ch g w (failW w g f) := by
 obtain ⟨p, l, h1, h2, h3⟩ := h.ch
 refine ⟨⟨⟨none, [], ?_, rfl, rfl⟩, ?_, ?_, ?_, h.le, ?_, fun _ => rfl⟩, ?_⟩
 · exact setC_cell _ _ (setC_cell _ _ (World.cell?_setCell_same _ _ _ h1) (.inr (by decide))) (.inr (by decide))
 · exact setC_cell _ _ (World.cell?_setCell_same _ _ _ (setC_cell _ _ h.n1 (.inr (by decide)))) (.inr (by decide))
 · exact World.cell?_setCell_same _ _ _ (setC_cell _ _ (setC_cell _ _ h.e2 (.inr (by decide))) (.inr (by decide)))
 · intro j; simp only [failW, World.frozen?_setCell]; exact h.fz j
 · have := h.lt; simp [failW, World.setCell]; omega
 · exact ((Ch.set _ _ _ _).trans (Ch.set _ _ _ _)).trans (Ch.set _ _ _ _)
set_option maxHeartbeats 1000000 in
theorem fail_w (g K : Nat) (T : ByteArray) (e f : Int) (t : ByteArray) (w : World) (h : WR w g K T e) (hf : f ≠ 0) : Calls Tryz.prog 104 #[.pointer (some ⟨g, 0, none⟩), .int .i64 f] w fun r w' =>
 r = .returned (.tuple #[]) ∧ WR w' g K (wrT T e t f) (failE e f) ∧ Ch g w w' := by
 have HT : Hid (wrT T e t f = if e = 0 then (if f = 0 then T ++ t else ByteArray.empty) else T) := rfl
 rw [if_neg hf] at HT
 have HE : Hid (failE e f = if e = 0 then f else e) := rfl
 have c1 := h.n1
 have c2 := h.e2
 obtain ⟨p, l, c0, _, _⟩ := h.ch
 have f0 := h.fz 0
 have f1 := h.fz 1
 have f2 := h.fz 2
 clear hf
 by_cases he : e = 0
 · subst he
   have HF : Hid (WR (failW w g f) g K ByteArray.empty f ∧ Ch g w (failW w g f)) := h.failed f
   rw [if_pos rfl] at HT HE
   unfold failW at HF
   clear h
   go_enter Tryz.func104, Tryz.ntmps104
   go_wp2_with fail
   go_end0
   refine ⟨rfl, ?_⟩
   rw [HT.out, HE.out]
   exact HF.out
 · have H := Lib.hid h
   have h0' : (e == 0) = false := by simpa using he
   have h0'' : (e != 0) = true := by simpa using he
   rw [if_neg he] at HT HE
   clear h
   go_enter Tryz.func104, Tryz.ntmps104
   go_wp2_with fail
   go_end0
   refine ⟨rfl, ?_, Ch.refl _ _⟩
   rw [HT.out, HE.out]
   exact H.out
/-- What a write does, as a word. -/
def WDone (g K : Nat) (T : ByteArray) (e : Int) (t : ByteArray) (pe : Int) (w : World) (r : Ending) (w' : World) : Prop := r = .returned (.tuple #[]) ∧ WR w' g K (wrT T e t pe) (failE e pe) ∧ Ch g w w'
theorem failE_0 (e : Int) : failE e 0 = e := by unfold failE; split <;> simp_all
theorem WDone.of {g K : Nat} {T : ByteArray} {e : Int} {t : ByteArray} {w w1 w' : World} (q : Q w w1) (h : WR w' g K (wrT T e t 0) e) (c : Ch g w1 w') : WDone g K T e t 0 w (.returned (.tuple #[])) w' :=
 ⟨rfl, by rw [failE_0]; exact h, (Ch.of_q q g).trans c⟩
theorem num_w (g K : Nat) (T : ByteArray) (e n : Int) (w : World) (h : WR w g K T e) (hs : T.size ≤ 100000000) (n0 : 0 ≤ n) (n1 : n ≤ 18446744073709551615) : Calls Tryz.prog 84 #[.pointer (some ⟨g, 0, none⟩), .int .u64 n] w (WDone g K T e (putS n) 0 w) := by
 have C := Lib.hid (put_any n w n0 n1)
 have z := putS_size n
 have P : Hid (∀ w1, Q w w1 → Calls Tryz.prog 105 #[.pointer (some ⟨g, 0, none⟩), .string (putS n)] w1 fun r w' => r = .returned (.tuple #[]) ∧ WR w' g K (wrT T e (putS n) 0) e ∧ Ch g w1 w') := fun w1 q => put_w g K T e (putS n) w1 (h.q q) (by omega) (by omega)
 clear h
 generalize putS n = t at *
 go_enter Tryz.func84, Tryz.ntmps84
 go_wp2_with fail
 refine C.out.mono ?_
 rintro r w1 ⟨rfl, q1⟩
 have Q1 : Hid (Q w w1) := q1
 clear q1
 go_wp2_with fail
 refine (P.out w1 Q1.out).mono ?_
 rintro r w2 ⟨rfl, h2, k2⟩
 have HF := Lib.hid (WDone.of Q1.out h2 k2)
 clear h2 k2 P C
 go_wp2_with fail
 go_end0
 exact HF.out
def waE (s : ByteArray) : Int := if s.size = 16 then 0 else 1
theorem hash_w (g K : Nat) (T : ByteArray) (e : Int) (s : ByteArray) (w : World) (h : WR w g K T e) (hs : T.size ≤ 100000000) (hl : s.size ≤ 100000000) : Calls Tryz.prog 64 #[.pointer (some ⟨g, 0, none⟩), .string s] w (WDone g K T e s (waE s) w) := by
 by_cases h16 : s.size = 16
 · have E : waE s = 0 := by unfold waE; rw [if_pos h16]
   rw [E]
   have P := Lib.hid (put_w g K T e s w h (by omega) (by omega))
   have td : ((s.size : Int) != 16) = false := by simp; omega
   have td' : ((s.size : Int) == 16) = true := by simp; omega
   clear h h16 E
   go_enter Tryz.func64, Tryz.ntmps64
   go_wp2_with fail
   refine P.out.mono ?_
   rintro r w2 ⟨rfl, h2, k2⟩
   have HF := Lib.hid (WDone.of (Q.refl w) h2 k2)
   clear h2 k2 P
   go_wp2_with fail
   go_end0
   exact HF.out
 · have E : waE s = 1 := by unfold waE; rw [if_neg h16]
   rw [E]
   have P := Lib.hid (fail_w g K T e 1 s w h (by decide))
   have td : ((s.size : Int) != 16) = true := by simp; omega
   have td' : ((s.size : Int) == 16) = false := by simp; omega
   clear h h16 E
   go_enter Tryz.func64, Tryz.ntmps64
   go_wp2_with fail
   refine P.out.mono ?_
   rintro r w2 ⟨rfl, h2, k2⟩
   have HF : Hid (WDone g K T e s 1 w (.returned (.tuple #[])) w2) := ⟨rfl, h2, k2⟩
   clear h2 k2 P
   go_wp2_with fail
   refine bodyPost_ret (results_none rfl _ _ _) rfl ?_
   exact HF.out
theorem conv2 (w : World) (x y : Int) :
 (convert 121 9 (.slice (some ⟨w.heap.size, 0, none⟩) 2 2)).run Tryz.prog (w.alloc (.cells #[.int .u8 x, .int .u8 y] 5)) = .ok (.string (strOfNums [x, y])) (w.alloc (.cells #[.int .u8 x, .int .u8 y] 5)) := by
 refine run_convert_bytes_arg _ 121 5 Tryz.underlying121 Tryz.underlying5 _ 0 2 2 [x, y] rfl ?_ 9 Tryz.underlying9
 intro i hi
 match i, hi with
 | 0, _ => simp
 | 1, _ => simp
 | n + 2, h => omega
def wyE (n : Int) : Int := if 0 ≤ n ∧ n ≤ 255 then 0 else 1
set_option maxHeartbeats 1000000 in
theorem byte_w (g K : Nat) (T : ByteArray) (e n : Int) (w : World) (h : WR w g K T e) (hs : T.size ≤ 100000000) : Calls Tryz.prog 63 #[.pointer (some ⟨g, 0, none⟩), .int .i64 n] w (WDone g K T e (strOfNums [n]) (wyE n) w) := by
 by_cases hn : 0 ≤ n ∧ n ≤ 255
 · have E : wyE n = 0 := by unfold wyE; rw [if_pos hn]
   rw [E]
   obtain ⟨n0, n1⟩ := hn
   have cv := conv1 w n
   have z : (strOfNums [n]).size = 1 := by rw [strOfNums_size]; rfl
   have P : Hid (∀ w1, Q w w1 → Calls Tryz.prog 105 #[.pointer (some ⟨g, 0, none⟩), .string (strOfNums [n])] w1 fun r w' => r = .returned (.tuple #[]) ∧ WR w' g K (wrT T e (strOfNums [n]) 0) e ∧ Ch g w1 w') := fun w1 q => put_w g K T e (strOfNums [n]) w1 (h.q q) (by omega) (by omega)
   have Q1 : Hid (∀ o, Q w (w.alloc o)) := fun o => (Q.refl w).alloc o
   have t0 : decide (n < 0) = false := by simp; omega
   have t1 : decide (255 < n) = false := by simp; omega
   clear h E z
   generalize strOfNums [n] = t at *
   go_enter Tryz.func63, Tryz.ntmps63
   go_wp2_with fail
   refine (P.out _ (Q1.out _)).mono ?_
   rintro r w2 ⟨rfl, h2, k2⟩
   have HF := Lib.hid (WDone.of (Q1.out _) h2 k2)
   clear h2 k2 P
   go_wp2_with fail
   go_end0
   exact HF.out
 · have E : wyE n = 1 := by unfold wyE; rw [if_neg hn]
   rw [E]
   have P := Lib.hid (fail_w g K T e 1 (strOfNums [n]) w h (by decide))
   have HH : Hid (∀ w2, WR w2 g K (wrT T e (strOfNums [n]) 1) (failE e 1) → Ch g w w2 → WDone g K T e (strOfNums [n]) 1 w (.returned (.tuple #[])) w2) := fun w2 a b => ⟨rfl, a, b⟩
   clear h E
   generalize strOfNums [n] = t at *
   by_cases h0 : n < 0
   · have t0 : decide (n < 0) = true := by simp; omega
     clear hn
     go_enter Tryz.func63, Tryz.ntmps63
     go_wp2_with fail
     refine P.out.mono ?_
     rintro r w2 ⟨rfl, h2, k2⟩
     have HF := Lib.hid (HH.out w2 h2 k2)
     clear h2 k2 P
     go_wp2_with fail
     refine bodyPost_ret (results_none rfl _ _ _) rfl ?_
     exact HF.out
   · have t0 : decide (n < 0) = false := by simp; omega
     have t1 : decide (255 < n) = true := by simp; omega
     clear hn
     go_enter Tryz.func63, Tryz.ntmps63
     go_wp2_with fail
     refine P.out.mono ?_
     rintro r w2 ⟨rfl, h2, k2⟩
     have HF := Lib.hid (HH.out w2 h2 k2)
     clear h2 k2 P
     go_wp2_with fail
     refine bodyPost_ret (results_none rfl _ _ _) rfl ?_
     exact HF.out
/-- A text behind its length. -/
def blobS (s : ByteArray) : ByteArray := strOfNums [(s.size : Int) / 256, (s.size : Int) % 256] ++ s
theorem blobS_size (s : ByteArray) : (blobS s).size = 2 + s.size := by unfold blobS; rw [ByteArray.size_append, strOfNums_size]; rfl
def wbE (s : ByteArray) : Int := if s.size ≤ 4096 then 0 else 5
set_option maxHeartbeats 1000000 in
theorem blob_w (g K : Nat) (T : ByteArray) (e : Int) (s : ByteArray) (w : World) (h : WR w g K T e) (hs : T.size ≤ 100000000) : Calls Tryz.prog 73 #[.pointer (some ⟨g, 0, none⟩), .string s] w (WDone g K T e (blobS s) (wbE s) w) := by
 by_cases hn : s.size ≤ 4096
 · have E : wbE s = 0 := by unfold wbE; rw [if_pos hn]
   rw [E]
   have cv := conv2 w ((s.size : Int) / 256) ((s.size : Int) % 256)
   have z := blobS_size s
   have P : Hid (∀ w1, Q w w1 → Calls Tryz.prog 105 #[.pointer (some ⟨g, 0, none⟩), .string (blobS s)] w1 fun r w' => r = .returned (.tuple #[]) ∧ WR w' g K (wrT T e (blobS s) 0) e ∧ Ch g w1 w') := fun w1 q => put_w g K T e (blobS s) w1 (h.q q) (by omega) (by omega)
   have Q1 : Hid (∀ o, Q w (w.alloc o)) := fun o => (Q.refl w).alloc o
   have HB : strOfNums [(s.size : Int) / 256, (s.size : Int) % 256] ++ s = blobS s := rfl
   have t0 : decide ((4096 : Int) < (s.size : Int)) = false := by simp; omega
   have u0 : IntKind.u8.wrap ((s.size : Int) / 256) = (s.size : Int) / 256 := by rw [IntKind.wrap_u8]; omega
   have u1 : IntKind.u8.wrap (s.size : Int) = (s.size : Int) % 256 := by rw [IntKind.wrap_u8]
   have z2 : (strOfNums [(s.size : Int) / 256, (s.size : Int) % 256]).size = 2 := by rw [strOfNums_size]; rfl
   clear h E z
   generalize blobS s = t at *
   go_enter Tryz.func73, Tryz.ntmps73
   go_wp2_with fail
   refine (P.out _ (Q1.out _)).mono ?_
   rintro r w2 ⟨rfl, h2, k2⟩
   have HF := Lib.hid (WDone.of (Q1.out _) h2 k2)
   clear h2 k2 P
   go_wp2_with fail
   go_end0
   exact HF.out
 · have E : wbE s = 5 := by unfold wbE; rw [if_neg hn]
   rw [E]
   have P := Lib.hid (fail_w g K T e 5 (blobS s) w h (by decide))
   have HH : Hid (∀ w2, WR w2 g K (wrT T e (blobS s) 5) (failE e 5) → Ch g w w2 → WDone g K T e (blobS s) 5 w (.returned (.tuple #[])) w2) := fun w2 a b => ⟨rfl, a, b⟩
   have t0 : decide ((4096 : Int) < (s.size : Int)) = true := by simp; omega
   clear h E hn
   generalize blobS s = t at *
   go_enter Tryz.func73, Tryz.ntmps73
   go_wp2_with fail
   refine P.out.mono ?_
   rintro r w2 ⟨rfl, h2, k2⟩
   have HF := Lib.hid (HH.out w2 h2 k2)
   clear h2 k2 P
   go_wp2_with fail
   refine bodyPost_ret (results_none rfl _ _ _) rfl ?_
   exact HF.out
def nb (s : ByteArray) : List Int := s.data.toList.map fun b => (b.toNat : Int)
theorem nb_len (s : ByteArray) : (nb s).length = s.size := by unfold nb; rw [List.length_map, Array.length_toList]; rfl
theorem nb_bt (s : ByteArray) (i : Nat) : (nb s).getD i 0 = PlainAid.bt s i := by
 unfold PlainAid.bt nb
 by_cases h : i < s.size
 · rw [dif_pos h]
   have h' : i < s.data.size := h
   simp [List.getD, ByteArray.getElem_eq_getElem_data]
   rw [Array.getElem?_eq_getElem h']
   rfl
 · rw [dif_neg h]
   have h' : ¬ i < s.data.size := h
   simp [List.getD]
   rw [Array.getElem?_eq_none (by omega)]
   rfl
theorem nb_str (s : ByteArray) : strOfNums (nb s) = s := by unfold nb; rw [Lib.Lz.strOfNums_map]
theorem bt_append (a b : ByteArray) (i : Nat) : PlainAid.bt (a ++ b) i = if i < a.size then PlainAid.bt a i else PlainAid.bt b (i - a.size) := by
 unfold PlainAid.bt
 by_cases h : i < a.size
 · rw [if_pos h, dif_pos h, dif_pos (by rw [ByteArray.size_append]; omega), ByteArray.getElem_append_left h]
 · rw [if_neg h]
   by_cases k : i - a.size < b.size
   · rw [dif_pos k, dif_pos (by rw [ByteArray.size_append]; omega), ByteArray.getElem_append_right (by omega)]
   · rw [dif_neg k, dif_neg (by rw [ByteArray.size_append]; omega)]
/-- A text's cells. -/
def bcl (t : ByteArray) : List Value := t.data.toList.map fun x => Value.int .u8 (x.toNat : Int)
theorem bcl_len (t : ByteArray) : (bcl t).length = t.size := by unfold bcl; rw [List.length_map, ← Lib.size_eq]
theorem bcl_get (t : ByteArray) (j : Nat) (h : j < t.size) : (bcl t)[j]? = some (.int .u8 (PlainAid.bt t j)) := by
 have h' : j < t.data.size := h
 unfold bcl PlainAid.bt
 rw [dif_pos h]
 simp [ByteArray.getElem_eq_getElem_data]
 rw [Array.getElem?_eq_getElem h']
 exact ⟨_, rfl, rfl⟩
/-- A block as long as T that holds T from place m on. -/
def Filled (w : World) (G : Nat) (T : ByteArray) (m : Nat) : Prop :=
 ∃ f, Row .u8 w G 0 T.size f ∧ (∀ j, w.frozen? ⟨G, j, none⟩ = false) ∧ ∀ i, m ≤ i → i < T.size → f i = PlainAid.bt T i
theorem Filled.made (w : World) (T : ByteArray) : Filled (w.alloc (.cells (madeCells (Value.int IntKind.u8 0).cells T.size) 5)) w.heap.size T T.size := by
 refine ⟨fun _ => 0, ?_, made_frozen w _ _, fun i h1 h2 => by omega⟩
 intro i hi
 rw [World.cell?_alloc_at _ _ _ _ rfl, Nat.zero_add]
 unfold madeCells
 simp [Value.cells, hi, Nat.mod_one]
theorem Filled.copied {w : World} {G : Nat} {T : ByteArray} {m : Nat} {t : ByteArray} (h : Filled w G T (m + t.size)) (hm : m + t.size ≤ T.size) (ht : ∀ i, i < t.size → PlainAid.bt T (m + i) = PlainAid.bt t i) : Filled (w.setCells G m (bcl t)) G T m := by
 obtain ⟨f, h1, h2, h3⟩ := h
 refine ⟨fun i => if m ≤ i ∧ i < m + t.size then PlainAid.bt t (i - m) else f i, ?_, fun j => by rw [World.frozen?_setCells]; exact h2 j, ?_⟩
 · intro i hi
   rw [Nat.zero_add]
   by_cases k : m ≤ i ∧ i < m + t.size
   · have hth : w.there G m (bcl t).length := by
      rw [bcl_len]
      intro j hj
      have := h1 (m + j) (by omega)
      rw [Nat.zero_add] at this
      exact ⟨by rw [this]; rfl, h2 _⟩
     have := World.rangeAt_setCells_same w G m (bcl t) hth (i - m) _ (bcl_get t (i - m) (by omega))
     rw [show m + (i - m) = i by omega] at this
     rw [this]
     simp only [if_pos k]
   · rw [World.cell?_setCells_out G (bcl t) m w ⟨G, i, none⟩ (fun _ _ => by
      rw [bcl_len]
      show i < m ∨ m + t.size ≤ i
      omega)]
     have := h1 i hi
     rw [Nat.zero_add] at this
     rw [this]
     simp only [if_neg k]
 · intro i hi1 hi2
   by_cases k : m ≤ i ∧ i < m + t.size
   · simp only [if_pos k]
     rw [← ht (i - m) (by omega), show m + (i - m) = i by omega]
   · simp only [if_neg k]
     exact h3 i (by omega) hi2
theorem cat_cons (t : ByteArray) (r : List ByteArray) : cat (t :: r) = cat r ++ t := rfl
theorem Filled.next {w : World} {G : Nat} {T t D : ByteArray} {r : List ByteArray} (h : Filled w G T (cat (t :: r)).size) (hT : cat (t :: r) ++ D = T) : Filled (w.setCells G (cat r).size (bcl t)) G T (cat r).size := by
 have e : (cat (t :: r)).size = (cat r).size + t.size := by rw [cat_cons, ByteArray.size_append]
 rw [e] at h
 refine Filled.copied h (by rw [← hT, ByteArray.size_append]; omega) fun i hi => ?_
 rw [← hT, bt_append, if_pos (by omega), cat_cons, bt_append, if_neg (by omega)]
 congr 1
 omega
theorem Filled.all {w : World} {G : Nat} {T : ByteArray} (h : Filled w G T 0) (i : Nat) (hi : i < T.size) : w.cell? ⟨G, 0 + i, none⟩ = some (.int .u8 ((nb T).getD i 0)) := by
 obtain ⟨f, h1, h2, h3⟩ := h
 rw [h1 i hi, h3 i (by omega) hi, nb_bt]
theorem Filled.q {w w' : World} {G : Nat} {T : ByteArray} {m : Nat} (h : Filled w G T m) (q : Q w w') (hg : G < w.heap.size) : Filled w' G T m := by
 obtain ⟨f, h1, h2, h3⟩ := h
 exact ⟨f, h1.q q hg, fun j => by rw [q.frozen (p := ⟨G, j, none⟩) hg]; exact h2 j, h3⟩
theorem Filled.some {w : World} {G : Nat} {T : ByteArray} {m : Nat} (h : Filled w G T m) (i : Nat) (hi : i < T.size) : (w.cell? ⟨G, i, none⟩).isSome = true := by
 obtain ⟨f, h1, h2, h3⟩ := h
 have := h1 i hi
 rw [Nat.zero_add] at this
 rw [this]; rfl
theorem Filled.unfrozen {w : World} {G : Nat} {T : ByteArray} {m : Nat} (h : Filled w G T m) (i : Nat) : w.frozen? ⟨G, i, none⟩ = false := h.elim fun f h => h.2.1 i
theorem Filled.drew {w : World} {G : Nat} {T : ByteArray} {m : Nat} (h : Filled w G T m) : Filled w.drew G T m := h
theorem infoB8 : (Tryz.prog.info? 5).map (fun i => (i.zero, i.size, i.bytes)) = some (some (.int .u8 0), 1, 1) := by kernel_rfl
set_option maxHeartbeats 1000000 in
theorem text_w (g K : Nat) (T : ByteArray) (e : Int) (w : World) (h : WR w g K T e) (hs : T.size ≤ 1000000000) : Calls Tryz.prog 66 #[.pointer (some ⟨g, 0, none⟩)] w fun r w' => r = .returned (.string T) ∧ Q w w' := by
 obtain ⟨i0, hi0, hz0, hz1, hz2⟩ := info_parts infoB8
 have c1 := h.n1
 obtain ⟨p, l, c0, hch, hcat⟩ := h.ch
 have hmk := run_make (P := Tryz.prog) w 121 5 i0 (.int .u8 0) Tryz.underlying121 hi0 hz0 .i64 .i64 (T.size : Int) (T.size : Int) (by omega) (by omega) (by rw [hz2]; omega) (by omega)
 rw [hz1, Nat.mul_one, show (T.size : Int).toNat = T.size by omega] at hmk
 have hF := Filled.made w T
 have hQ : Q w (w.alloc (.cells (madeCells (Value.int IntKind.u8 0).cells T.size) 5)) := (Q.refl w).alloc _
 have d0 := Q.cell' hQ c0
 have d1 := Q.cell' hQ c1
 have hlt : w.heap.size < (w.alloc (.cells (madeCells (Value.int IntKind.u8 0).cells T.size) 5)).heap.size := by simp
 obtain ⟨G, hG⟩ : ∃ G, w.heap.size = G := ⟨_, rfl⟩
 have HG := Lib.hid hG
 rw [hG] at hmk hF
 clear hG
 generalize w.alloc (.cells (madeCells (Value.int IntKind.u8 0).cells T.size) 5) = w1 at *
 have HF := Lib.hid hF
 have HQ := Lib.hid hQ
 have HC : Hid (Chain w K p l ∧ cat l ++ ByteArray.empty = T) := ⟨hch, by rw [ByteArray.append_empty]; exact hcat⟩
 have HZ : Hid ((T.size : Int) = ((cat l).size : Int)) := by show _ = _; rw [hcat]
 have H0 : Hid (Filled w1 G T (cat l).size) := by show Filled _ _ _ _; rw [hcat]; exact hF
 clear h hi0 hz0 hz1 hz2 hch hcat hF hQ hlt
 go_enter Tryz.func66, Tryz.ntmps66
 go_wp2_with fail
 clear hmk d0 d1 c0 c1
 go_loopw [4, 5] (fun v u wr => ∃ p r D, v = .int .i64 ((cat r).size : Int) ∧ u = .pointer p ∧ Hid (Chain w K p r ∧ cat r ++ D = T) ∧ Hid (Filled wr G T (cat r).size) ∧ Hid (Q w wr)) (fun v _ _ => (intOf v).toNat)
 case atStart => exact ⟨p, l, _, congrArg (Value.int .i64) HZ.out, rfl, HC, H0, HQ⟩
 case round =>
  obtain ⟨p, r, D, rfl, rfl, HCr, HFr, HQr⟩ := hrel
  clear HF HQ HC HZ H0
  cases r with
  | nil =>
   have hp : p = none := HCr.out.1
   subst hp
   have hcv := run_convert_bytes_arg (P := Tryz.prog) wr 121 5 Tryz.underlying121 Tryz.underlying5 G 0 T.size T.size (nb T) (nb_len T) (fun i hi => Filled.all HFr.out i hi) 9 Tryz.underlying9
   rw [nb_str] at hcv
   go_wp2_with fail
   go_ret
   exact ⟨rfl, HQr.out⟩
  | cons t r =>
   obtain ⟨b, q, hp, hKb, ht, e0, e1, hch⟩ := HCr.out.1
   subst hp
   have hcs : (cat (t :: r)).size = (cat r).size + t.size := by rw [cat_cons, ByteArray.size_append]
   have hTs : (cat r).size + t.size ≤ T.size := by rw [← HCr.out.2, ByteArray.size_append]; omega
   have HN : Hid (Filled (wr.drew.setCells G (cat r).size (bcl t)) G T (cat r).size) := Filled.next HFr.out.drew HCr.out.2
   have HQ2 : Hid (Q w (wr.drew.setCells G (cat r).size (bcl t))) := below_setCells (Nat.le_of_eq HG.out) _ _ _ HQr.out.drew
   have HC2 : Hid (Chain w K q r ∧ cat r ++ (t ++ D) = T) := ⟨hch, by rw [← ByteArray.append_assoc]; exact HCr.out.2⟩
   have b0 := Q.cell' HQr.out e0
   have b1 := Q.cell' HQr.out e1
   have b2 := Q.cell' HQ2.out e1
   have hcp := run_copy_part (P := Tryz.prog) wr.drew 121 9 3 5 G (cat r).size (T.size - (cat r).size) (T.size - (cat r).size) t Tryz.underlying121 (by intro w; kernel_rfl)
    (fun j hj => Filled.some HFr.out _ (by omega)) (fun j hj => Filled.unfrozen HFr.out _)
   rw [show min t.size (T.size - (cat r).size) = t.size by omega, show ((t.data.toList.map fun x => Value.int .u8 (x.toNat : Int)).take t.size) = bcl t by unfold bcl; rw [List.take_of_length_le]; rw [List.length_map, ← Lib.size_eq]; exact Nat.le_refl _] at hcp
   have es : ((cat (t :: r)).size : Int) - (t.size : Int) = ((cat r).size : Int) := by omega
   have ew : IntKind.i64.wrap (((cat (t :: r)).size : Int) - (t.size : Int)) = ((cat r).size : Int) := by rw [es]; exact IntWalk.i64_in _ (by omega)
   have hlt : (cat r).size < T.size := by omega
   have hlt2 : ((cat r).size : Int) < ((cat (t :: r)).size : Int) := by omega
   generalize (cat (t :: r)).size = N at *
   generalize hM : (cat r).size = M at *
   clear e0 e1 hch HCr HFr hcs
   go_wp2_with fail
   go_region
   go_wp2_with fail
   go_roundw
   case rel => exact ⟨q, r, t ++ D, congrArg (Value.int .i64) (by rw [hM]), rfl, HC2, by rw [hM]; exact HN, HQ2⟩
   case measure => simp [intOf]; omega
structure RW (w : World) (g : Nat) (S : ByteArray) (e : Int) : Prop where
 s0 : w.cell? ⟨g, 0, none⟩ = some (.string S)
 e1 : w.cell? ⟨g, 1, none⟩ = some (.int .i64 e)
 fz : ∀ j, w.frozen? ⟨g, j, none⟩ = false
theorem RW.rd {w : World} {g : Nat} {S : ByteArray} {e : Int} (h : RW w g S e) : RD w g S e := ⟨h.s0, h.e1, h.fz⟩
theorem RW.of {w : World} {g : Nat} {S : ByteArray} {e : Int} (h : RD w g S e) : RW w g S e := ⟨h.s0, h.e1, h.fz⟩
/-- What was written, whatever is wrong. -/
def xwT (S t : ByteArray) (pe : Int) : ByteArray := if pe = 0 then S ++ t else S
def XDone (g : Nat) (S : ByteArray) (e : Int) (t : ByteArray) (pe : Int) (w : World) (r : Ending) (w' : World) : Prop := r = .returned (.tuple #[]) ∧ RD w' g (xwT S t pe) (failE e pe) ∧ Ch g w w'
set_option maxHeartbeats 1000000 in
theorem xfail_w (g : Nat) (S : ByteArray) (e f : Int) (w : World) (h : RD w g S e) : Calls Tryz.prog 106 #[.pointer (some ⟨g, 0, none⟩), .int .i64 f] w fun r w' => r = .returned (.tuple #[]) ∧ RD w' g S (failE e f) ∧ Ch g w w' := by
 have c1 := h.e1
 have f1 := h.fz 1
 have HE : Hid (failE e f = if e = 0 then f else e) := rfl
 have H := Lib.hid h
 clear h
 by_cases h0 : e = 0
 · subst h0
   rw [if_pos rfl] at HE
   go_enter Tryz.func106, Tryz.ntmps106
   go_wp2_with fail
   go_end0
   exact ⟨rfl, by rw [HE.out]; exact H.out.setE f, Ch.set _ _ _ _⟩
 · rw [if_neg h0] at HE
   have h0' : (e == 0) = false := by simpa using h0
   have h0'' : (e != 0) = true := by simpa using h0
   go_enter Tryz.func106, Tryz.ntmps106
   go_wp2_with fail
   go_end0
   exact ⟨rfl, by rw [HE.out]; exact H.out, Ch.refl _ _⟩
theorem XDone.failed {g : Nat} {S : ByteArray} {e f : Int} {t : ByteArray} {w w' : World} (hf : f ≠ 0) (h : RD w' g S (failE e f)) (c : Ch g w w') : XDone g S e t f w (.returned (.tuple #[])) w' :=
 ⟨rfl, by unfold xwT; rw [if_neg hf]; exact h, c⟩
theorem XDone.wrote {g : Nat} {S : ByteArray} {e : Int} {t : ByteArray} {w w1 : World} (q : Q w w1) (h : RD w1 g S e) : XDone g S e t 0 w (.returned (.tuple #[])) (w1.setCell ⟨g, 0, none⟩ (.string (S ++ t))) :=
 ⟨rfl, by unfold xwT; rw [if_pos rfl, failE_0]; exact h.setS _, (Ch.of_q q g).trans (Ch.set _ _ _ _)⟩
theorem XDone.made {g : Nat} {S : ByteArray} {e : Int} {t : ByteArray} {w w1 : World} (q : Q w w1) (h : RD w1 g S e) (o : Obj) : XDone g S e t 0 w (.returned (.tuple #[])) ((w1.setCell ⟨g, 0, none⟩ (.string (S ++ t))).alloc o) :=
 ⟨rfl, by unfold xwT; rw [if_pos rfl, failE_0]; exact (h.setS _).q ((Q.refl _).alloc _), ((Ch.of_q q g).trans (Ch.set _ _ _ _)).alloc _⟩
theorem xhash_w (g : Nat) (S : ByteArray) (e : Int) (s : ByteArray) (w : World) (h : RD w g S e) (hs : S.size ≤ 100000000) (hl : s.size ≤ 100000000) : Calls Tryz.prog 68 #[.pointer (some ⟨g, 0, none⟩), .string s] w (XDone g S e s (waE s) w) := by
 by_cases h16 : s.size = 16
 · have E : waE s = 0 := by unfold waE; rw [if_pos h16]
   rw [E]
   have c0 := h.s0
   have f0 := h.fz 0
   have HF := Lib.hid (XDone.wrote (t := s) (Q.refl w) h)
   have td : ((s.size : Int) != 16) = false := by simp; omega
   have td' : ((s.size : Int) == 16) = true := by simp; omega
   clear h h16 E
   go_enter Tryz.func68, Tryz.ntmps68
   go_wp2_with fail
   go_end0
   exact HF.out
 · have E : waE s = 1 := by unfold waE; rw [if_neg h16]
   rw [E]
   have P := Lib.hid (xfail_w g S e 1 w h)
   have td : ((s.size : Int) != 16) = true := by simp; omega
   have td' : ((s.size : Int) == 16) = false := by simp; omega
   clear h h16 E
   go_enter Tryz.func68, Tryz.ntmps68
   go_wp2_with fail
   refine P.out.mono ?_
   rintro r w2 ⟨rfl, h2, k2⟩
   have HF := Lib.hid (XDone.failed (t := s) (by decide) h2 k2)
   clear h2 k2 P
   go_wp2_with fail
   refine bodyPost_ret (results_none rfl _ _ _) rfl ?_
   exact HF.out
set_option maxHeartbeats 1000000 in
theorem xbyte_w (g : Nat) (S : ByteArray) (e n : Int) (w : World) (h : RD w g S e) (hs : S.size ≤ 100000000) : Calls Tryz.prog 67 #[.pointer (some ⟨g, 0, none⟩), .int .i64 n] w (XDone g S e (strOfNums [n]) (wyE n) w) := by
 by_cases hn : 0 ≤ n ∧ n ≤ 255
 · have E : wyE n = 0 := by unfold wyE; rw [if_pos hn]
   rw [E]
   obtain ⟨n0, n1⟩ := hn
   obtain ⟨v, hv⟩ : ∃ v, w.drew = v := ⟨_, rfl⟩
   have qv : Q w v := by rw [← hv]; exact (Q.refl w).drew
   have h' := h.q qv
   have cv := conv1 v n
   have z : (strOfNums [n]).size = 1 := by rw [strOfNums_size]; rfl
   have c0 := h'.s0
   have f0 := h'.fz 0
   have hgv := h'.lt
   have hne : g ≠ v.heap.size := by omega
   have HF := Lib.hid (XDone.made (t := strOfNums [n]) qv h' (.cells #[.int .u8 n] 5))
   have t0 : decide (n < 0) = false := by simp; omega
   have t1 : decide (255 < n) = false := by simp; omega
   clear h h' E qv
   generalize strOfNums [n] = t at *
   go_enter Tryz.func67, Tryz.ntmps67
   go_wp2_with fail
   go_region
   go_end0
   exact HF.out
 · have E : wyE n = 1 := by unfold wyE; rw [if_neg hn]
   rw [E]
   have P := Lib.hid (xfail_w g S e 1 w h)
   have HH : Hid (∀ w2, RD w2 g S (failE e 1) → Ch g w w2 → XDone g S e (strOfNums [n]) 1 w (.returned (.tuple #[])) w2) := fun w2 a b => XDone.failed (by decide) a b
   clear h E
   generalize strOfNums [n] = t at *
   by_cases h0 : n < 0
   · have t0 : decide (n < 0) = true := by simp; omega
     clear hn
     go_enter Tryz.func67, Tryz.ntmps67
     go_wp2_with fail
     refine P.out.mono ?_
     rintro r w2 ⟨rfl, h2, k2⟩
     have HF := Lib.hid (HH.out w2 h2 k2)
     clear h2 k2 P
     go_wp2_with fail
     refine bodyPost_ret (results_none rfl _ _ _) rfl ?_
     exact HF.out
   · have t0 : decide (n < 0) = false := by simp; omega
     have t1 : decide (255 < n) = true := by simp; omega
     clear hn
     go_enter Tryz.func67, Tryz.ntmps67
     go_wp2_with fail
     refine P.out.mono ?_
     rintro r w2 ⟨rfl, h2, k2⟩
     have HF := Lib.hid (HH.out w2 h2 k2)
     clear h2 k2 P
     go_wp2_with fail
     refine bodyPost_ret (results_none rfl _ _ _) rfl ?_
     exact HF.out
set_option maxHeartbeats 1000000 in
theorem xblob_w (g : Nat) (S : ByteArray) (e : Int) (s : ByteArray) (w : World) (h : RD w g S e) (hs : S.size ≤ 100000000) : Calls Tryz.prog 75 #[.pointer (some ⟨g, 0, none⟩), .string s] w (XDone g S e (blobS s) (wbE s) w) := by
 by_cases hn : s.size ≤ 4096
 · have E : wbE s = 0 := by unfold wbE; rw [if_pos hn]
   rw [E]
   obtain ⟨v, hv⟩ : ∃ v, w.drew = v := ⟨_, rfl⟩
   have qv : Q w v := by rw [← hv]; exact (Q.refl w).drew
   have h' := h.q qv
   have cv := conv2 v ((s.size : Int) / 256) ((s.size : Int) % 256)
   have c0 := h'.s0
   have f0 := h'.fz 0
   have hgv := h'.lt
   have hne : g ≠ v.heap.size := by omega
   have HF := Lib.hid (XDone.made (t := blobS s) qv h' (.cells #[.int .u8 ((s.size : Int) / 256), .int .u8 ((s.size : Int) % 256)] 5))
   have HB : strOfNums [(s.size : Int) / 256, (s.size : Int) % 256] ++ s = blobS s := rfl
   have t0 : decide ((4096 : Int) < (s.size : Int)) = false := by simp; omega
   have u0 : IntKind.u8.wrap ((s.size : Int) / 256) = (s.size : Int) / 256 := by rw [IntKind.wrap_u8]; omega
   have u1 : IntKind.u8.wrap ((s.size : Int) % 256) = (s.size : Int) % 256 := by rw [IntKind.wrap_u8]; omega
   have z2 : (strOfNums [(s.size : Int) / 256, (s.size : Int) % 256]).size = 2 := by rw [strOfNums_size]; rfl
   have z3 := blobS_size s
   clear h h' E qv
   generalize blobS s = t at *
   go_enter Tryz.func75, Tryz.ntmps75
   go_wp2_with fail
   go_region
   go_end0
   exact HF.out
 · have E : wbE s = 5 := by unfold wbE; rw [if_neg hn]
   rw [E]
   have P := Lib.hid (xfail_w g S e 5 w h)
   have HH : Hid (∀ w2, RD w2 g S (failE e 5) → Ch g w w2 → XDone g S e (blobS s) 5 w (.returned (.tuple #[])) w2) := fun w2 a b => XDone.failed (by decide) a b
   have t0 : decide ((4096 : Int) < (s.size : Int)) = true := by simp; omega
   clear h E hn
   generalize blobS s = t at *
   go_enter Tryz.func75, Tryz.ntmps75
   go_wp2_with fail
   refine P.out.mono ?_
   rintro r w2 ⟨rfl, h2, k2⟩
   have HF := Lib.hid (HH.out w2 h2 k2)
   clear h2 k2 P
   go_wp2_with fail
   refine bodyPost_ret (results_none rfl _ _ _) rfl ?_
   exact HF.out
set_option maxHeartbeats 1000000 in
theorem xnum_w (g : Nat) (S : ByteArray) (e n : Int) (w : World) (h : RD w g S e) (hs : S.size ≤ 100000000) (n0 : 0 ≤ n) (n1 : n ≤ 18446744073709551615) : Calls Tryz.prog 69 #[.pointer (some ⟨g, 0, none⟩), .int .u64 n] w (XDone g S e (putS n) 0 w) := by
 obtain ⟨v, hv⟩ : ∃ v, w.drew = v := ⟨_, rfl⟩
 have qv : Q w v := by rw [← hv]; exact (Q.refl w).drew
 have h' := h.q qv
 have c0 := h'.s0
 have f0 := h'.fz 0
 have P : Hid (∀ w1, Calls Tryz.prog 83 #[.int .u64 n] w1 fun e w' => e = .returned (.string (putS n)) ∧ Q w1 w') := fun w1 => rput_q n w1 (Q.refl w1) n0 n1
 have z := putS_size n
 have HF : Hid (∀ w1, Q v w1 → XDone g S e (putS n) 0 w (.returned (.tuple #[])) (w1.setCell ⟨g, 0, none⟩ (.string (S ++ putS n)))) := fun w1 q1 => XDone.wrote (qv.trans q1) (h'.q q1)
 have HR := Lib.hid h'
 clear h h' qv
 generalize putS n = t at *
 go_enter Tryz.func69, Tryz.ntmps69
 go_wp2_with fail
 go_region_with (go_at_call 83; refine (P.out _).mono ?_; rintro r w1 ⟨rfl, q1⟩; have d0 := (HR.out.q q1).s0; have g0 := (HR.out.q q1).fz 0; have Q1 := Lib.hid q1; clear q1)
 all_goals (go_end0; exact HF.out _ Q1.out)
theorem xtext_w (g : Nat) (S : ByteArray) (e : Int) (w : World) (h : RD w g S e) : Calls Tryz.prog 70 #[.pointer (some ⟨g, 0, none⟩)] w fun r w' => r = .returned (.string (if e = 0 then S else ByteArray.empty)) ∧ w = w' := by
 have c0 := h.s0
 have c1 := h.e1
 clear h
 by_cases h0 : e = 0
 · rw [if_pos h0]
   subst h0
   go_enter Tryz.func70, Tryz.ntmps70
   go_wp2_with fail
   go_ret
   exact ⟨rfl, rfl⟩
 · rw [if_neg h0]
   have h0' : (e == 0) = false := by simpa using h0
   have h0'' : (e != 0) = true := by simpa using h0
   go_enter Tryz.func70, Tryz.ntmps70
   go_wp2_with fail
   go_ret
   exact ⟨rfl, rfl⟩
theorem byte_x {g K : Nat} {T : ByteArray} {e : Int} {w : World} (h : WR w g K T e) (n : Int) (hs : T.size ≤ 100000000) {T' : ByteArray} {e' : Int} (hT : wrT T e (strOfNums [n]) (wyE n) = T') (hE : failE e (wyE n) = e') :
 Calls Tryz.prog 63 #[.pointer (some ⟨g, 0, none⟩), .int .i64 n] w fun r w' => r = .returned (.tuple #[]) ∧ WR w' g K T' e' ∧ Ch g w w' := by
 subst hT hE; exact byte_w g K T e n w h hs
theorem num_x {g K : Nat} {T : ByteArray} {e : Int} {w : World} (h : WR w g K T e) (n : Int) (hs : T.size ≤ 100000000) (n0 : 0 ≤ n) (n1 : n ≤ 18446744073709551615) {T' : ByteArray} (hT : wrT T e (putS n) 0 = T') :
 Calls Tryz.prog 84 #[.pointer (some ⟨g, 0, none⟩), .int .u64 n] w fun r w' => r = .returned (.tuple #[]) ∧ WR w' g K T' e ∧ Ch g w w' := by
 subst hT
 exact (num_w g K T e n w h hs n0 n1).mono fun r w' ⟨a, b, c⟩ => ⟨a, by rw [failE_0] at b; exact b, c⟩
theorem blob_x {g K : Nat} {T : ByteArray} {e : Int} {w : World} (h : WR w g K T e) (s : ByteArray) (hs : T.size ≤ 100000000) {T' : ByteArray} {e' : Int} (hT : wrT T e (blobS s) (wbE s) = T') (hE : failE e (wbE s) = e') :
 Calls Tryz.prog 73 #[.pointer (some ⟨g, 0, none⟩), .string s] w fun r w' => r = .returned (.tuple #[]) ∧ WR w' g K T' e' ∧ Ch g w w' := by
 subst hT hE; exact blob_w g K T e s w h hs
theorem hash_x {g K : Nat} {T : ByteArray} {e : Int} {w : World} (h : WR w g K T e) (s : ByteArray) (hs : T.size ≤ 100000000) (hl : s.size ≤ 100000000) {T' : ByteArray} {e' : Int} (hT : wrT T e s (waE s) = T') (hE : failE e (waE s) = e') :
 Calls Tryz.prog 64 #[.pointer (some ⟨g, 0, none⟩), .string s] w fun r w' => r = .returned (.tuple #[]) ∧ WR w' g K T' e' ∧ Ch g w w' := by
 subst hT hE; exact hash_w g K T e s w h hs hl
/-- A new Writer. -/
theorem WR.new (w : World) (t : TypeId) : WR (w.alloc (.cells #[.pointer none, .int .i64 0, .int .i64 0] t)) w.heap.size w.heap.size ByteArray.empty 0 := by
 have hc : ∀ o, (w.alloc (.cells #[.pointer none, .int .i64 0, .int .i64 0] t)).cell? ⟨w.heap.size, o, none⟩ = #[Value.pointer none, .int .i64 0, .int .i64 0][o]? := fun o => by rw [World.cell?_alloc_at _ _ _ _ rfl]
 exact ⟨⟨none, [], hc 0, rfl, rfl⟩, hc 1, hc 2, made_frozen w _ _, Nat.le_refl _, by simp, fun h => absurd rfl h⟩
def L29 : ByteArray := ⟨#[5, 0, 2, 97, 98, 0, 0, 0, 0, 0, 0, 0, 7, 48, 49, 50, 51, 52, 53, 54, 55, 56, 57, 97, 98, 99, 100, 101, 102]⟩
def L28 : ByteArray := ⟨#[0, 2, 97, 98, 0, 0, 0, 0, 0, 0, 0, 7, 48, 49, 50, 51, 52, 53, 54, 55, 56, 57, 97, 98, 99, 100, 101, 102]⟩
def L24 : ByteArray := ⟨#[0, 0, 0, 0, 0, 0, 0, 7, 48, 49, 50, 51, 52, 53, 54, 55, 56, 57, 97, 98, 99, 100, 101, 102]⟩
def L16 : ByteArray := ⟨#[48, 49, 50, 51, 52, 53, 54, 55, 56, 57, 97, 98, 99, 100, 101, 102]⟩
def ab : ByteArray := ⟨#[97, 98]⟩
end Go.Proofs.YtobfgljkckcmcaaGreatDoor.Cod
