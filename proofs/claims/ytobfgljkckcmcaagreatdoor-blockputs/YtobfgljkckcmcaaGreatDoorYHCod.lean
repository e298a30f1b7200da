import Derived.Test.YtobfgljkckcmcaaGreatDoorYHNum
import Derived.Test.YtobfgljkckcmcaaGreatDoorYHShelf
import Derived.Maps.AppendAt
import Derived.Deep.AppendLies
set_option maxRecDepth 100000
namespace Go.Proofs.YtobfgljkckcmcaaGreatDoor.Cod
open Go.RowKit
open Mem Num
set_option linter.unusedVariables false
/-- Of what was there only block g may have turned. -/
def Ch (g : Nat) (w w' : World) : Prop := w.grownBy w' (some g)
theorem Ch.refl (g : Nat) (w : World) : Ch g w w := World.grownBy.refl w _
theorem Ch.trans {g : Nat} {a b c : World} (h : Ch g a b) (k : Ch g b c) : Ch g a c := World.grownBy.trans h k
theorem Ch.of_q {a b : World} (h : Q a b) (g : Nat) : Ch g a b := ⟨h.os, h.tape, h.output, h.size, fun k hk _ => h.block k hk⟩
theorem Ch.q {W a b : World} {g : Nat} (k : Ch g a b) (h : Q W a) (hg : W.heap.size ≤ g) : Q W b := Below.grown h k h.size (by intro j e; cases e; exact hg)
theorem Ch.cell {g : Nat} {w w' : World} (c : Ch g w w') {a : Addr} {v : Value} (h : w.cell? a = some v) (hne : a.block ≠ g) : w'.cell? a = some v := World.grownBy.cell c h (fun e => hne (by injection e))
theorem Ch.frozen {g : Nat} {w w' : World} (c : Ch g w w') {a : Addr} (hl : a.block < w.heap.size) (hne : a.block ≠ g) : w'.frozen? a = w.frozen? a := World.grownBy.frozen_far c a hl (fun e => hne (by injection e))
theorem Ch.set (w : World) (g j : Nat) (v : Value) : Ch g w (w.setCell ⟨g, j, none⟩ v) :=
 ⟨rfl, rfl, rfl, by simp [World.setCell], fun k _ hk => Below.heap_setCell _ _ _ _ (fun e => hk (by rw [e]))⟩
theorem Ch.alloc {g : Nat} {a b : World} (h : Ch g a b) (o : Obj) : Ch g a (b.alloc o) := h.trans (World.grownBy_alloc b o _)
theorem Ch.drewN {g : Nat} {a b : World} (h : Ch g a b) (n : Nat) : Ch g a (b.drewN n) := ⟨h.os, h.tape, h.output, h.size, h.block⟩
theorem Ch.drew {g : Nat} {a b : World} (h : Ch g a b) : Ch g a b.drew := ⟨h.os, h.tape, h.output, h.size, h.block⟩
/-- A Reader at g: what is left, the error noted. -/
structure RD (w : World) (g : Nat) (s : ByteArray) (e : Int) : Prop where
 s0 : w.cell? ⟨g, 0, none⟩ = some (.string s)
 e1 : w.cell? ⟨g, 1, none⟩ = some (.int .i64 e)
 fz : ∀ j, w.frozen? ⟨g, j, none⟩ = false
theorem RD.lt {w : World} {g : Nat} {s : ByteArray} {e : Int} (h : RD w g s e) : g < w.heap.size := World.block_lt_of_cell? _ _ h.s0
theorem RD.ch {w w' : World} {g g' : Nat} {s : ByteArray} {e : Int} (h : RD w g s e) (c : Ch g' w w') (hne : g ≠ g') : RD w' g s e :=
 ⟨c.cell h.s0 hne, c.cell h.e1 hne, fun j => by rw [c.frozen (a := ⟨g, j, none⟩) h.lt hne]; exact h.fz j⟩
theorem RD.q {w w' : World} {g : Nat} {s : ByteArray} {e : Int} (h : RD w g s e) (q : Q w w') : RD w' g s e :=
 ⟨by rw [q.cell (p := ⟨g, 0, none⟩) h.lt]; exact h.s0, by rw [q.cell (p := ⟨g, 1, none⟩) h.lt]; exact h.e1, fun j => by rw [q.frozen (p := ⟨g, j, none⟩) h.lt]; exact h.fz j⟩
theorem RD.setE {w : World} {g : Nat} {s : ByteArray} {e : Int} (h : RD w g s e) (e' : Int) : RD (w.setCell ⟨g, 1, none⟩ (.int .i64 e')) g s e' :=
 ⟨by rw [World.cell?_setCell_other (h := by intro h; injection h; omega)]; exact h.s0, World.cell?_setCell_same _ _ _ h.e1, fun j => by simp [h.fz]⟩
theorem RD.setS {w : World} {g : Nat} {s : ByteArray} {e : Int} (h : RD w g s e) (s' : ByteArray) : RD (w.setCell ⟨g, 0, none⟩ (.string s')) g s' e :=
 ⟨World.cell?_setCell_same _ _ _ h.s0, by rw [World.cell?_setCell_other (h := by intro h; injection h; omega)]; exact h.e1, fun j => by simp [h.fz]⟩
theorem clone_any (s : ByteArray) (w : World) (hs : s.size ≤ 1000000000) : Calls Tryz.prog 93 #[.string s] w fun e w' => e = .returned (.string s) ∧ Q w w' := by
 have C := Lib.hid (Tryz.stringslite_Clone s w (by omega))
 go_enter Tryz.func93, Tryz.ntmps93
 go_wp2_with fail
 refine C.out.mono ?_
 rintro e w' ⟨rfl, hb⟩
 go_wp2_with fail
 go_ret
 exact ⟨rfl, hb⟩
theorem read_any (s : ByteArray) (w : World) : Calls Tryz.prog 112 #[.string s] w fun e w' => e = .returned (.pointer (some ⟨w.heap.size, 0, none⟩)) ∧ RD w' w.heap.size s 0 ∧ Q w w' := by
 go_enter Tryz.func112, Tryz.ntmps112
 go_wp2_with fail
 go_ret
 refine ⟨rfl, ⟨?_, ?_, made_frozen w _ _⟩, (Q.refl w).alloc _⟩
 · rw [World.cell?_alloc_at _ _ _ _ rfl]; rfl
 · rw [World.cell?_alloc_at _ _ _ _ rfl]; rfl
theorem left_any (g : Nat) (s : ByteArray) (e : Int) (w : World) (h : RD w g s e) : Calls Tryz.prog 141 #[.pointer (some ⟨g, 0, none⟩)] w fun r w' => r = .returned (.int .i64 s.size) ∧ w = w' := by
 have c0 := h.s0
 clear h
 go_enter Tryz.func141, Tryz.ntmps141
 go_wp2_with fail
 go_ret
 exact ⟨rfl, rfl⟩
def endE (s : ByteArray) (e : Int) : Int := if e = 0 then (if s.size = 0 then 0 else 4) else e
theorem end_any (g : Nat) (s : ByteArray) (e : Int) (w : World) (h : RD w g s e) : Calls Tryz.prog 117 #[.pointer (some ⟨g, 0, none⟩)] w fun r w' => r = .returned (.int .i64 (endE s e)) ∧ w = w' := by
 have c1 := h.e1
 have HE : Hid (endE s e = if e = 0 then (if s.size = 0 then 0 else 4) else e) := rfl
 have LE := Lib.hid (left_any g s e w h)
 clear h
 by_cases h0 : e = 0
 · subst h0
   by_cases hs : s.size = 0
   · rw [if_pos rfl, if_pos hs] at HE
     have hs' : (s.size : Int) ≤ 0 := by omega
     clear hs
     go_enter Tryz.func117, Tryz.ntmps117
     go_wp2_with fail
     refine LE.out.mono ?_
     rintro e w' ⟨rfl, rfl⟩
     go_wp2_with fail
     go_ret
     exact ⟨ret1 HE.out.symm, rfl⟩
   · rw [if_pos rfl, if_neg hs] at HE
     have hs' : 0 < (s.size : Int) := by omega
     clear hs
     go_enter Tryz.func117, Tryz.ntmps117
     go_wp2_with fail
     refine LE.out.mono ?_
     rintro e w' ⟨rfl, rfl⟩
     go_wp2_with fail
     go_ret
     exact ⟨ret1 HE.out.symm, rfl⟩
 · rw [if_neg h0] at HE
   have h0' : (e == 0) = false := by simpa using h0
   have h0'' : (e != 0) = true := by simpa using h0
   go_enter Tryz.func117, Tryz.ntmps117
   go_wp2_with fail
   go_ret
   exact ⟨ret1 HE.out.symm, rfl⟩
/-- The first error stays. -/
def failE (e f : Int) : Int := if e = 0 then f else e
theorem fail_any (g : Nat) (s : ByteArray) (e f : Int) (w : World) (h : RD w g s e) : Calls Tryz.prog 115 #[.pointer (some ⟨g, 0, none⟩), .int .i64 f] w fun r w' => r = .returned (.tuple #[]) ∧ RD w' g s (failE e f) ∧ Ch g w w' := by
 have c1 := h.e1
 have f1 := h.fz 1
 have HE : Hid (failE e f = if e = 0 then f else e) := rfl
 have H := Lib.hid h
 clear h
 by_cases h0 : e = 0
 · subst h0
   rw [if_pos rfl] at HE
   go_enter Tryz.func115, Tryz.ntmps115
   go_wp2_with fail
   go_end0
   exact ⟨rfl, by rw [HE.out]; exact H.out.setE f, Ch.set _ _ _ _⟩
 · rw [if_neg h0] at HE
   have h0' : (e == 0) = false := by simpa using h0
   have h0'' : (e != 0) = true := by simpa using h0
   go_enter Tryz.func115, Tryz.ntmps115
   go_wp2_with fail
   go_end0
   exact ⟨rfl, by rw [HE.out]; exact H.out, Ch.refl _ _⟩
/-- What is left, if a part of k bytes was read; the part's error is pe. -/
def rdS (s : ByteArray) (e : Int) (k : Nat) (pe : Int) : ByteArray := if e = 0 ∧ pe = 0 then s.extract k s.size else s
def rdV (e pe : Int) (v : Int) : Int := if e = 0 ∧ pe = 0 then v else 0
def rdT (e pe : Int) (v : ByteArray) : ByteArray := if e = 0 ∧ pe = 0 then v else ByteArray.empty
set_option maxHeartbeats 1000000 in
theorem takeByte (g : Nat) (s : ByteArray) (e : Int) (w : World) (h : RD w g s e) (hs : s.size ≤ 1000000000) (pv : Int) (k : Nat) (pe : Int) (hk : pe = 0 → k ≤ s.size)
 (hp : Calls Tryz.prog 144 #[.string s] w fun r w' => r = .returned (.tuple #[.int .i64 pv, .int .i64 k, .int .i64 pe]) ∧ Q w w') :
 Calls Tryz.prog 143 #[.pointer (some ⟨g, 0, none⟩), .func (.func 144) #[] #[]] w fun r w' => r = .returned (.int .i64 (rdV e pe pv)) ∧ RD w' g (rdS s e k pe) (failE e pe) ∧ Ch g w w' := by
 have c0 := h.s0
 have c1 := h.e1
 have HP := Lib.hid hp
 have H := Lib.hid h
 have HV : Hid (rdV e pe pv = if e = 0 ∧ pe = 0 then pv else 0) := rfl
 have HS : Hid (rdS s e k pe = if e = 0 ∧ pe = 0 then s.extract k s.size else s) := rfl
 have HE : Hid (failE e pe = if e = 0 then pe else e) := rfl
 clear h hp
 by_cases h0 : e = 0
 · subst h0
   by_cases hpe : pe = 0
   · subst hpe
     have k1 := hk rfl
     clear hk
     rw [if_pos ⟨rfl, rfl⟩] at HV HS
     rw [if_pos rfl] at HE
     go_enter Tryz.func143, Tryz.ntmps143
     go_wp2_with fail
     refine HP.out.mono ?_
     rintro r w1 ⟨rfl, q1⟩
     have H1 := Lib.hid (H.out.q q1)
     have Q1 := Lib.hid q1
     have d0 := H1.out.s0
     have f0 := H1.out.fz 0
     clear q1 c0 c1
     go_wp2_with fail
     go_ret
     exact ⟨by rw [HV.out]; rfl, by rw [HS.out, HE.out]; exact H1.out.setS _, (Ch.of_q Q1.out g).trans (Ch.set _ _ _ _)⟩
   · have p0 : (pe == 0) = false := by simpa using hpe
     have p1 : (pe != 0) = true := by simpa using hpe
     rw [if_neg (fun h => hpe h.2)] at HV HS
     clear hk hpe
     go_enter Tryz.func143, Tryz.ntmps143
     go_wp2_with fail
     refine HP.out.mono ?_
     rintro r w1 ⟨rfl, q1⟩
     have H1 := Lib.hid (H.out.q q1)
     have Q1 := Lib.hid q1
     clear q1 c0 c1
     go_wp2_with fail
     refine (fail_any g s 0 pe w1 H1.out).mono ?_
     rintro r w2 ⟨rfl, h2, k2⟩
     have H2 := Lib.hid h2
     have K2 := Lib.hid k2
     clear h2 k2
     go_wp2_with fail
     go_ret
     exact ⟨by rw [HV.out]; rfl, by rw [HS.out]; exact H2.out, (Ch.of_q Q1.out g).trans K2.out⟩
 · have h0' : (e == 0) = false := by simpa using h0
   have h0'' : (e != 0) = true := by simpa using h0
   rw [if_neg (fun h => h0 h.1)] at HV HS
   rw [if_neg h0] at HE
   clear hk
   go_enter Tryz.func143, Tryz.ntmps143
   go_wp2_with fail
   go_ret
   exact ⟨by rw [HV.out]; rfl, by rw [HS.out, HE.out]; exact H.out, Ch.refl _ _⟩
set_option maxHeartbeats 1000000 in
theorem takeNum (g : Nat) (s : ByteArray) (e : Int) (w : World) (h : RD w g s e) (hs : s.size ≤ 1000000000) (pv : Int) (k : Nat) (pe : Int) (hk : pe = 0 → k ≤ s.size)
 (hp : Calls Tryz.prog 146 #[.string s] w fun r w' => r = .returned (.tuple #[.int .u64 pv, .int .i64 k, .int .i64 pe]) ∧ Q w w') :
 Calls Tryz.prog 145 #[.pointer (some ⟨g, 0, none⟩), .func (.func 146) #[] #[]] w fun r w' => r = .returned (.int .u64 (rdV e pe pv)) ∧ RD w' g (rdS s e k pe) (failE e pe) ∧ Ch g w w' := by
 have c0 := h.s0
 have c1 := h.e1
 have HP := Lib.hid hp
 have H := Lib.hid h
 have HV : Hid (rdV e pe pv = if e = 0 ∧ pe = 0 then pv else 0) := rfl
 have HS : Hid (rdS s e k pe = if e = 0 ∧ pe = 0 then s.extract k s.size else s) := rfl
 have HE : Hid (failE e pe = if e = 0 then pe else e) := rfl
 clear h hp
 by_cases h0 : e = 0
 · subst h0
   by_cases hpe : pe = 0
   · subst hpe
     have k1 := hk rfl
     clear hk
     rw [if_pos ⟨rfl, rfl⟩] at HV HS
     rw [if_pos rfl] at HE
     go_enter Tryz.func145, Tryz.ntmps145
     go_wp2_with fail
     refine HP.out.mono ?_
     rintro r w1 ⟨rfl, q1⟩
     have H1 := Lib.hid (H.out.q q1)
     have Q1 := Lib.hid q1
     have d0 := H1.out.s0
     have f0 := H1.out.fz 0
     clear q1 c0 c1
     go_wp2_with fail
     go_ret
     exact ⟨by rw [HV.out]; rfl, by rw [HS.out, HE.out]; exact H1.out.setS _, (Ch.of_q Q1.out g).trans (Ch.set _ _ _ _)⟩
   · have p0 : (pe == 0) = false := by simpa using hpe
     have p1 : (pe != 0) = true := by simpa using hpe
     rw [if_neg (fun h => hpe h.2)] at HV HS
     clear hk hpe
     go_enter Tryz.func145, Tryz.ntmps145
     go_wp2_with fail
     refine HP.out.mono ?_
     rintro r w1 ⟨rfl, q1⟩
     have H1 := Lib.hid (H.out.q q1)
     have Q1 := Lib.hid q1
     clear q1 c0 c1
     go_wp2_with fail
     refine (fail_any g s 0 pe w1 H1.out).mono ?_
     rintro r w2 ⟨rfl, h2, k2⟩
     have H2 := Lib.hid h2
     have K2 := Lib.hid k2
     clear h2 k2
     go_wp2_with fail
     go_ret
     exact ⟨by rw [HV.out]; rfl, by rw [HS.out]; exact H2.out, (Ch.of_q Q1.out g).trans K2.out⟩
 · have h0' : (e == 0) = false := by simpa using h0
   have h0'' : (e != 0) = true := by simpa using h0
   rw [if_neg (fun h => h0 h.1)] at HV HS
   rw [if_neg h0] at HE
   clear hk
   go_enter Tryz.func145, Tryz.ntmps145
   go_wp2_with fail
   go_ret
   exact ⟨by rw [HV.out]; rfl, by rw [HS.out, HE.out]; exact H.out, Ch.refl _ _⟩
set_option maxHeartbeats 1000000 in
theorem takeHash (g : Nat) (s : ByteArray) (e : Int) (w : World) (h : RD w g s e) (hs : s.size ≤ 1000000000) (pv : ByteArray) (k : Nat) (pe : Int) (hk : pe = 0 → k ≤ s.size)
 (hp : Calls Tryz.prog 147 #[.string s] w fun r w' => r = .returned (.tuple #[.string pv, .int .i64 k, .int .i64 pe]) ∧ Q w w') :
 Calls Tryz.prog 137 #[.pointer (some ⟨g, 0, none⟩), .func (.func 147) #[] #[]] w fun r w' => r = .returned (.string (rdT e pe pv)) ∧ RD w' g (rdS s e k pe) (failE e pe) ∧ Ch g w w' := by
 have c0 := h.s0
 have c1 := h.e1
 have HP := Lib.hid hp
 have H := Lib.hid h
 have HV : Hid (rdT e pe pv = if e = 0 ∧ pe = 0 then pv else ByteArray.empty) := rfl
 have HS : Hid (rdS s e k pe = if e = 0 ∧ pe = 0 then s.extract k s.size else s) := rfl
 have HE : Hid (failE e pe = if e = 0 then pe else e) := rfl
 clear h hp
 by_cases h0 : e = 0
 · subst h0
   by_cases hpe : pe = 0
   · subst hpe
     have k1 := hk rfl
     clear hk
     rw [if_pos ⟨rfl, rfl⟩] at HV HS
     rw [if_pos rfl] at HE
     go_enter Tryz.func137, Tryz.ntmps137
     go_wp2_with fail
     refine HP.out.mono ?_
     rintro r w1 ⟨rfl, q1⟩
     have H1 := Lib.hid (H.out.q q1)
     have Q1 := Lib.hid q1
     have d0 := H1.out.s0
     have f0 := H1.out.fz 0
     clear q1 c0 c1
     go_wp2_with fail
     go_ret
     exact ⟨by rw [HV.out]; rfl, by rw [HS.out, HE.out]; exact H1.out.setS _, (Ch.of_q Q1.out g).trans (Ch.set _ _ _ _)⟩
   · have p0 : (pe == 0) = false := by simpa using hpe
     have p1 : (pe != 0) = true := by simpa using hpe
     rw [if_neg (fun h => hpe h.2)] at HV HS
     clear hk hpe
     go_enter Tryz.func137, Tryz.ntmps137
     go_wp2_with fail
     refine HP.out.mono ?_
     rintro r w1 ⟨rfl, q1⟩
     have H1 := Lib.hid (H.out.q q1)
     have Q1 := Lib.hid q1
     clear q1 c0 c1
     go_wp2_with fail
     refine (fail_any g s 0 pe w1 H1.out).mono ?_
     rintro r w2 ⟨rfl, h2, k2⟩
     have H2 := Lib.hid h2
     have K2 := Lib.hid k2
     clear h2 k2
     go_wp2_with fail
     go_ret
     exact ⟨by rw [HV.out]; rfl, by rw [HS.out]; exact H2.out, (Ch.of_q Q1.out g).trans K2.out⟩
 · have h0' : (e == 0) = false := by simpa using h0
   have h0'' : (e != 0) = true := by simpa using h0
   rw [if_neg (fun h => h0 h.1)] at HV HS
   rw [if_neg h0] at HE
   clear hk
   go_enter Tryz.func137, Tryz.ntmps137
   go_wp2_with fail
   go_ret
   exact ⟨by rw [HV.out]; rfl, by rw [HS.out, HE.out]; exact H.out, Ch.refl _ _⟩
set_option maxHeartbeats 1000000 in
theorem takeBlob (g : Nat) (s : ByteArray) (e : Int) (w : World) (b : Nat) (h : RD w g s e) (hs : s.size ≤ 1000000000) (pv : ByteArray) (k : Nat) (pe : Int) (hk : pe = 0 → k ≤ s.size)
 (hp : Calls Tryz.prog 138 #[.string s, .pointer (some ⟨b, 0, none⟩)] w fun r w' => r = .returned (.tuple #[.string pv, .int .i64 k, .int .i64 pe]) ∧ Q w w') :
 Calls Tryz.prog 137 #[.pointer (some ⟨g, 0, none⟩), .func (.func 138) #[] #[.pointer (some ⟨b, 0, none⟩)]] w fun r w' => r = .returned (.string (rdT e pe pv)) ∧ RD w' g (rdS s e k pe) (failE e pe) ∧ Ch g w w' := by
 have c0 := h.s0
 have c1 := h.e1
 have HP := Lib.hid hp
 have H := Lib.hid h
 have HV : Hid (rdT e pe pv = if e = 0 ∧ pe = 0 then pv else ByteArray.empty) := rfl
 have HS : Hid (rdS s e k pe = if e = 0 ∧ pe = 0 then s.extract k s.size else s) := rfl
 have HE : Hid (failE e pe = if e = 0 then pe else e) := rfl
 clear h hp
 by_cases h0 : e = 0
 · subst h0
   by_cases hpe : pe = 0
   · subst hpe
     have k1 := hk rfl
     clear hk
     rw [if_pos ⟨rfl, rfl⟩] at HV HS
     rw [if_pos rfl] at HE
     go_enter Tryz.func137, Tryz.ntmps137
     go_wp2_with fail
     refine HP.out.mono ?_
     rintro r w1 ⟨rfl, q1⟩
     have H1 := Lib.hid (H.out.q q1)
     have Q1 := Lib.hid q1
     have d0 := H1.out.s0
     have f0 := H1.out.fz 0
     clear q1 c0 c1
     go_wp2_with fail
     go_ret
     exact ⟨by rw [HV.out]; rfl, by rw [HS.out, HE.out]; exact H1.out.setS _, (Ch.of_q Q1.out g).trans (Ch.set _ _ _ _)⟩
   · have p0 : (pe == 0) = false := by simpa using hpe
     have p1 : (pe != 0) = true := by simpa using hpe
     rw [if_neg (fun h => hpe h.2)] at HV HS
     clear hk hpe
     go_enter Tryz.func137, Tryz.ntmps137
     go_wp2_with fail
     refine HP.out.mono ?_
     rintro r w1 ⟨rfl, q1⟩
     have H1 := Lib.hid (H.out.q q1)
     have Q1 := Lib.hid q1
     clear q1 c0 c1
     go_wp2_with fail
     refine (fail_any g s 0 pe w1 H1.out).mono ?_
     rintro r w2 ⟨rfl, h2, k2⟩
     have H2 := Lib.hid h2
     have K2 := Lib.hid k2
     clear h2 k2
     go_wp2_with fail
     go_ret
     exact ⟨by rw [HV.out]; rfl, by rw [HS.out]; exact H2.out, (Ch.of_q Q1.out g).trans K2.out⟩
 · have h0' : (e == 0) = false := by simpa using h0
   have h0'' : (e != 0) = true := by simpa using h0
   rw [if_neg (fun h => h0 h.1)] at HV HS
   rw [if_neg h0] at HE
   clear hk
   go_enter Tryz.func137, Tryz.ntmps137
   go_wp2_with fail
   go_ret
   exact ⟨by rw [HV.out]; rfl, by rw [HS.out, HE.out]; exact H.out, Ch.refl _ _⟩
theorem bits_or_i64_nat (a b : Nat) (ha : a < 4611686018427387904) (hb : b < 4611686018427387904) : bits .or .i64 (a : Int) (b : Int) = ((a ||| b : Nat) : Int) := by
 have hx : a ||| b < 2 ^ 62 := Nat.or_lt_two_pow (by omega) (by omega)
 have h1 : (BitVec.ofInt 64 (a : Int)).toNat = a := by
  rw [BitVec.ofInt_natCast, BitVec.toNat_ofNat]; exact Nat.mod_eq_of_lt (by omega)
 have h2 : (BitVec.ofInt 64 (b : Int)).toNat = b := by
  rw [BitVec.ofInt_natCast, BitVec.toNat_ofNat]; exact Nat.mod_eq_of_lt (by omega)
 show IntKind.i64.wrap ((BitVec.ofInt 64 (a : Int) ||| BitVec.ofInt 64 (b : Int)).toNat : Int) = _
 rw [BitVec.toNat_or, h1, h2, IntKind.wrap_i64]
 omega
theorem or_two (a b : Int) (a0 : 0 ≤ a) (a1 : a ≤ 255) (b0 : 0 ≤ b) (b1 : b ≤ 255) : bits BinOp.or IntKind.i64 (a * 256) b = a * 256 + b := by
 obtain ⟨x, rfl⟩ := Int.eq_ofNat_of_zero_le a0
 obtain ⟨y, rfl⟩ := Int.eq_ofNat_of_zero_le b0
 rw [show ((x : Int) * 256) = ((x * 256 : Nat) : Int) by omega, bits_or_i64_nat _ _ (by omega) (by omega), nat_join 8 _ _ (by omega) (by omega)]
 omega
theorem rdS_ne (s : ByteArray) (e : Int) (k : Nat) (pe : Int) (h : pe ≠ 0) : rdS s e k pe = s := by unfold rdS; rw [if_neg (fun x => h x.2)]
theorem rdV_ne (e pe v : Int) (h : pe ≠ 0) : rdV e pe v = 0 := by unfold rdV; rw [if_neg (fun x => h x.2)]
theorem rdT_ne (e pe : Int) (v : ByteArray) (h : pe ≠ 0) : rdT e pe v = ByteArray.empty := by unfold rdT; rw [if_neg (fun x => h x.2)]
def byE (s : ByteArray) : Int := if 1 ≤ s.size then 0 else 3
theorem byteOf_yes (s : ByteArray) (w : World) (h : 1 ≤ s.size) (hs : s.size ≤ 1000000000) : Calls Tryz.prog 144 #[.string s] w fun r w' => r = .returned (.tuple #[.int .i64 (PlainAid.bt s 0), .int .i64 (1 : Nat), .int .i64 0]) ∧ Q w w' := by
 have hb := PlainAid.get_bt s
 have td : decide ((s.size : Int) < 1) = false := by simp; omega
 have t0 : 0 < s.size := by omega
 have b0 := PlainAid.bt_nonneg s 0
 have b1 := PlainAid.bt_le s 0
 go_enter Tryz.func144, Tryz.ntmps144
 go_wp2_with fail
 go_ret3
 exact ⟨rfl, Q.refl _⟩
theorem byteOf_no (s : ByteArray) (w : World) (h : ¬ 1 ≤ s.size) : Calls Tryz.prog 144 #[.string s] w fun r w' => r = .returned (.tuple #[.int .i64 0, .int .i64 (0 : Nat), .int .i64 3]) ∧ Q w w' := by
 have td : decide ((s.size : Int) < 1) = true := by simp; omega
 go_enter Tryz.func144, Tryz.ntmps144
 go_wp2_with fail
 go_ret3
 exact ⟨rfl, Q.refl _⟩
theorem rbyte_any (g : Nat) (s : ByteArray) (e : Int) (w : World) (h : RD w g s e) (hs : s.size ≤ 1000000000) : Calls Tryz.prog 121 #[.pointer (some ⟨g, 0, none⟩)] w fun r w' =>
 r = .returned (.int .i64 (rdV e (byE s) (PlainAid.bt s 0))) ∧ RD w' g (rdS s e 1 (byE s)) (failE e (byE s)) ∧ Ch g w w' := by
 have C : Hid (Calls Tryz.prog 143 #[.pointer (some ⟨g, 0, none⟩), .func (.func 144) #[] #[]] w fun r w' =>
  r = .returned (.int .i64 (rdV e (byE s) (PlainAid.bt s 0))) ∧ RD w' g (rdS s e 1 (byE s)) (failE e (byE s)) ∧ Ch g w w') := by
  show Calls _ _ _ _ _
  by_cases h1 : 1 ≤ s.size
  · have E : byE s = 0 := by unfold byE; rw [if_pos h1]
    rw [E]
    exact takeByte g s e w h hs _ 1 0 (fun _ => h1) (byteOf_yes s w h1 hs)
  · have E : byE s = 3 := by unfold byE; rw [if_neg h1]
    have T := takeByte g s e w h hs _ 0 3 (fun h => absurd h (by decide)) (byteOf_no s w h1)
    rw [rdV_ne _ _ _ (by decide), rdS_ne _ _ _ _ (by decide)] at T
    rw [E, rdV_ne _ _ _ (by decide), rdS_ne _ _ _ _ (by decide)]
    exact T
 clear h
 go_enter Tryz.func121, Tryz.ntmps121
 go_wp2_with fail
 refine C.out.mono ?_
 rintro r w' ⟨rfl, h'⟩
 have H' := Lib.hid h'
 clear h'
 go_wp2_with fail
 go_ret
 exact ⟨rfl, H'.out⟩
theorem getE_yes (s : ByteArray) : getE s = 0 → 8 ≤ s.size := by unfold getE; split <;> intro h; assumption; exact absurd h (by decide)
theorem numOf_any (s : ByteArray) (w : World) (hs : s.size ≤ 1000000000) : Calls Tryz.prog 146 #[.string s] w fun r w' => r = .returned (.tuple #[.int .u64 (getV s), .int .i64 (8 : Nat), .int .i64 (getE s)]) ∧ Q w w' := by
 have C := Lib.hid (get_any s w (by unfold maxLen; omega))
 go_enter Tryz.func146, Tryz.ntmps146
 go_wp2_with fail
 refine C.out.mono ?_
 rintro r w' ⟨rfl, rfl⟩
 go_wp2_with fail
 go_ret3
 exact ⟨rfl, Q.refl _⟩
theorem rnum_any (g : Nat) (s : ByteArray) (e : Int) (w : World) (h : RD w g s e) (hs : s.size ≤ 1000000000) : Calls Tryz.prog 122 #[.pointer (some ⟨g, 0, none⟩)] w fun r w' =>
 r = .returned (.int .u64 (rdV e (getE s) (getV s))) ∧ RD w' g (rdS s e 8 (getE s)) (failE e (getE s)) ∧ Ch g w w' := by
 have C := Lib.hid (takeNum g s e w h hs _ 8 _ (getE_yes s) (numOf_any s w hs))
 clear h
 go_enter Tryz.func122, Tryz.ntmps122
 go_wp2_with fail
 refine C.out.mono ?_
 rintro r w' ⟨rfl, h'⟩
 have H' := Lib.hid h'
 clear h'
 go_wp2_with fail
 go_ret
 exact ⟨rfl, H'.out⟩
def haE (s : ByteArray) : Int := if 16 ≤ s.size then 0 else 3
theorem hashOf_yes (s : ByteArray) (w : World) (h : 16 ≤ s.size) (hs : s.size ≤ 1000000000) : Calls Tryz.prog 147 #[.string s] w fun r w' => r = .returned (.tuple #[.string (s.extract 0 16), .int .i64 (16 : Nat), .int .i64 0]) ∧ Q w w' := by
 have td : decide ((s.size : Int) < 16) = false := by simp; omega
 have C := Lib.hid (clone_any (s.extract 0 16) w (by rw [ByteArray.size_extract]; omega))
 go_enter Tryz.func147, Tryz.ntmps147
 go_wp2_with fail
 refine C.out.mono ?_
 rintro r w' ⟨rfl, q⟩
 have HQ := Lib.hid q
 clear q
 go_wp2_with fail
 go_ret3
 exact ⟨rfl, HQ.out⟩
theorem hashOf_no (s : ByteArray) (w : World) (h : ¬ 16 ≤ s.size) : Calls Tryz.prog 147 #[.string s] w fun r w' => r = .returned (.tuple #[.string ByteArray.empty, .int .i64 (0 : Nat), .int .i64 3]) ∧ Q w w' := by
 have td : decide ((s.size : Int) < 16) = true := by simp; omega
 go_enter Tryz.func147, Tryz.ntmps147
 go_wp2_with fail
 go_ret3
 exact ⟨rfl, Q.refl _⟩
theorem rhash_any (g : Nat) (s : ByteArray) (e : Int) (w : World) (h : RD w g s e) (hs : s.size ≤ 1000000000) : Calls Tryz.prog 123 #[.pointer (some ⟨g, 0, none⟩)] w fun r w' =>
 r = .returned (.string (rdT e (haE s) (s.extract 0 16))) ∧ RD w' g (rdS s e 16 (haE s)) (failE e (haE s)) ∧ Ch g w w' := by
 have C : Hid (Calls Tryz.prog 137 #[.pointer (some ⟨g, 0, none⟩), .func (.func 147) #[] #[]] w fun r w' =>
  r = .returned (.string (rdT e (haE s) (s.extract 0 16))) ∧ RD w' g (rdS s e 16 (haE s)) (failE e (haE s)) ∧ Ch g w w') := by
  show Calls _ _ _ _ _
  by_cases h1 : 16 ≤ s.size
  · have E : haE s = 0 := by unfold haE; rw [if_pos h1]
    rw [E]
    exact takeHash g s e w h hs _ 16 0 (fun _ => h1) (hashOf_yes s w h1 hs)
  · have E : haE s = 3 := by unfold haE; rw [if_neg h1]
    have T := takeHash g s e w h hs _ 0 3 (fun h => absurd h (by decide)) (hashOf_no s w h1)
    rw [rdT_ne _ _ _ (by decide), rdS_ne _ _ _ _ (by decide)] at T
    rw [E, rdT_ne _ _ _ (by decide), rdS_ne _ _ _ _ (by decide)]
    exact T
 clear h
 go_enter Tryz.func123, Tryz.ntmps123
 go_wp2_with fail
 refine C.out.mono ?_
 rintro r w' ⟨rfl, h'⟩
 have H' := Lib.hid h'
 clear h'
 go_wp2_with fail
 go_ret
 exact ⟨rfl, H'.out⟩
/-- The length with which a text begins. -/
def blL (s : ByteArray) : Nat := (PlainAid.bt s 0 * 256 + PlainAid.bt s 1).toNat
theorem blL_int (s : ByteArray) : PlainAid.bt s 0 * 256 + PlainAid.bt s 1 = (blL s : Int) := by
 have := PlainAid.bt_nonneg s 0
 have := PlainAid.bt_nonneg s 1
 unfold blL
 omega
theorem blL_le (s : ByteArray) : blL s ≤ 65535 := by
 have := PlainAid.bt_le s 0
 have := PlainAid.bt_le s 1
 unfold blL
 omega
def blE (s : ByteArray) (m : Int) : Int := if s.size < 2 then 3 else if m < (blL s : Int) ∨ 4096 < blL s then 5 else if s.size < 2 + blL s then 3 else 0
set_option maxHeartbeats 1000000 in
theorem blobOf_any (s : ByteArray) (m : Int) (w : World) (hs : s.size ≤ 1000000000) : Calls Tryz.prog 139 #[.string s, .int .i64 m] w fun r w' =>
 r = .returned (.tuple #[.string (if blE s m = 0 then s.extract 2 (2 + blL s) else ByteArray.empty), .int .i64 ((if blE s m = 0 then 2 + blL s else 0 : Nat) : Int), .int .i64 (blE s m)]) ∧ Q w w' := by
 have HE : Hid (blE s m = if s.size < 2 then 3 else if m < (blL s : Int) ∨ 4096 < blL s then 5 else if s.size < 2 + blL s then 3 else 0) := rfl
 have hb := PlainAid.get_bt s
 by_cases h2 : s.size < 2
 · rw [if_pos h2] at HE
   have td : decide ((s.size : Int) < 2) = true := by simp; omega
   rw [HE.out, if_neg (by decide), if_neg (by decide)]
   go_enter Tryz.func139, Tryz.ntmps139
   go_wp2_with fail
   go_ret3
   exact ⟨rfl, Q.refl _⟩
 · rw [if_neg h2] at HE
   have td : decide ((s.size : Int) < 2) = false := by simp; omega
   have b0 := PlainAid.bt_nonneg s 0
   have b1 := PlainAid.bt_le s 0
   have b2 := PlainAid.bt_nonneg s 1
   have b3 := PlainAid.bt_le s 1
   have s0 : (0 : Int) < (s.size : Int) := by omega
   have s1 : (1 : Int) < (s.size : Int) := by omega
   have s0' : 0 < s.size := by omega
   have s1' : 1 < s.size := by omega
   have HO := or_two (PlainAid.bt s 0) (PlainAid.bt s 1) b0 b1 b2 b3
   rw [blL_int s] at HO
   have hL := blL_le s
   by_cases h3 : m < (blL s : Int)
   · rw [if_pos (Or.inl h3)] at HE
     rw [HE.out, if_neg (by decide), if_neg (by decide)]
     have t3 : decide (m < (blL s : Int)) = true := by simp; omega
     go_enter Tryz.func139, Tryz.ntmps139
     go_wp2_with fail
     go_quiet (fail)
     go_wp2_with fail
     go_ret3
     exact ⟨rfl, (Q.refl _).drewN _⟩
   · have t3 : decide (m < (blL s : Int)) = false := by simp; omega
     by_cases h4 : 4096 < blL s
     · rw [if_pos (Or.inr h4)] at HE
       rw [HE.out, if_neg (by decide), if_neg (by decide)]
       have t4 : decide ((4096 : Int) < (blL s : Int)) = true := by simp; omega
       go_enter Tryz.func139, Tryz.ntmps139
       go_wp2_with fail
       go_quiet (fail)
       go_wp2_with fail
       go_ret3
       exact ⟨rfl, (Q.refl _).drewN _⟩
     · have t4 : decide ((4096 : Int) < (blL s : Int)) = false := by simp; omega
       rw [if_neg (by omega)] at HE
       by_cases h5 : s.size < 2 + blL s
       · rw [if_pos h5] at HE
         rw [HE.out, if_neg (by decide), if_neg (by decide)]
         have t5 : decide ((s.size : Int) < 2 + (blL s : Int)) = true := by simp; omega
         go_enter Tryz.func139, Tryz.ntmps139
         go_wp2_with fail
         go_quiet (fail)
         go_wp2_with fail
         go_ret3
         exact ⟨rfl, (Q.refl _).drewN _⟩
       · rw [if_neg h5] at HE
         rw [HE.out, if_pos rfl, if_pos rfl]
         have t5 : decide ((s.size : Int) < 2 + (blL s : Int)) = false := by simp; omega
         have hn : ((2 : Int) + (blL s : Int)).toNat = 2 + blL s := by omega
         have C : Hid (∀ w, Calls Tryz.prog 93 #[.string (s.extract 2 (2 + blL s))] w fun e w' => e = .returned (.string (s.extract 2 (2 + blL s))) ∧ Q w w') := fun w => clone_any _ w (by rw [ByteArray.size_extract]; omega)
         go_enter Tryz.func139, Tryz.ntmps139
         go_wp2_with fail
         go_quiet (fail)
         go_wp2_with fail
         refine (C.out _).mono ?_
         rintro r w' ⟨rfl, q⟩
         have HQ := Lib.hid q
         clear q
         go_wp2_with fail
         go_ret3
         exact ⟨by simp, ((Q.refl w).drewN _).trans HQ.out⟩
theorem blobPart (s : ByteArray) (m : Int) (b : Nat) (w : World) (hs : s.size ≤ 1000000000) (hm : w.cell? ⟨b, 0, none⟩ = some (.int .i64 m)) : Calls Tryz.prog 138 #[.string s, .pointer (some ⟨b, 0, none⟩)] w fun r w' =>
 r = .returned (.tuple #[.string (if blE s m = 0 then s.extract 2 (2 + blL s) else ByteArray.empty), .int .i64 ((if blE s m = 0 then 2 + blL s else 0 : Nat) : Int), .int .i64 (blE s m)]) ∧ Q w w' := by
 have C := Lib.hid (blobOf_any s m w hs)
 generalize (if blE s m = 0 then s.extract 2 (2 + blL s) else ByteArray.empty) = x at *
 generalize (if blE s m = 0 then 2 + blL s else 0) = y at *
 generalize blE s m = z at *
 go_enter Tryz.func138, Tryz.ntmps138
 go_wp2_with fail
 refine C.out.mono ?_
 rintro r w' ⟨rfl, q⟩
 have HQ := Lib.hid q
 clear q
 go_wp2_with fail
 go_ret3
 exact ⟨rfl, HQ.out⟩
theorem blE_yes (s : ByteArray) (m : Int) (h : blE s m = 0) : 2 + blL s ≤ s.size := by
 unfold blE at h
 split at h
 · exact absurd h (by decide)
 · split at h
   · exact absurd h (by decide)
   · split at h
     · exact absurd h (by decide)
     · omega
theorem rblob_any (g : Nat) (s : ByteArray) (e m : Int) (w : World) (h : RD w g s e) (hs : s.size ≤ 1000000000) : Calls Tryz.prog 114 #[.pointer (some ⟨g, 0, none⟩), .int .i64 m] w fun r w' =>
 r = .returned (.string (rdT e (blE s m) (s.extract 2 (2 + blL s)))) ∧ RD w' g (rdS s e (2 + blL s) (blE s m)) (failE e (blE s m)) ∧ Ch g w w' := by
 have C : Hid (∀ t, Calls Tryz.prog 137 #[.pointer (some ⟨g, 0, none⟩), .func (.func 138) #[] #[.pointer (some ⟨w.heap.size, 0, none⟩)]] (w.alloc (.cells #[.int .i64 m] t)) fun r w' =>
  r = .returned (.string (rdT e (blE s m) (s.extract 2 (2 + blL s)))) ∧ RD w' g (rdS s e (2 + blL s) (blE s m)) (failE e (blE s m)) ∧ Ch g w w') := by
  intro t
  have hm : (w.alloc (.cells #[.int .i64 m] t)).cell? ⟨w.heap.size, 0, none⟩ = some (.int .i64 m) := by rw [World.cell?_alloc_at _ _ _ _ rfl]; rfl
  have T := takeBlob g s e _ w.heap.size (h.q ((Q.refl w).alloc _)) hs _ _ _ (fun h => by rw [if_pos h]; exact blE_yes s m h) (blobPart s m w.heap.size _ hs hm)
  by_cases hz : blE s m = 0
  · rw [if_pos hz, if_pos hz] at T
    exact T.mono fun _ _ ⟨a, b, c⟩ => ⟨a, b, (Ch.of_q ((Q.refl w).alloc _) g).trans c⟩
  · rw [rdT_ne _ _ _ hz, rdS_ne _ _ _ _ hz] at T
    rw [rdT_ne _ _ _ hz, rdS_ne _ _ _ _ hz]
    exact T.mono fun _ _ ⟨a, b, c⟩ => ⟨a, b, (Ch.of_q ((Q.refl w).alloc _) g).trans c⟩
 clear h
 go_enter Tryz.func114, Tryz.ntmps114
 go_wp2_with fail
 refine (C.out _).mono ?_
 rintro r w' ⟨rfl, h'⟩
 have H' := Lib.hid h'
 clear h'
 go_wp2_with fail
 go_ret
 exact ⟨rfl, H'.out⟩
structure RR (w : World) (g : Nat) (S : ByteArray) (at_ : Nat) (e : Int) : Prop where
 s0 : w.cell? ⟨g, 0, none⟩ = some (.string S)
 a1 : w.cell? ⟨g, 1, none⟩ = some (.int .i64 at_)
 e2 : w.cell? ⟨g, 2, none⟩ = some (.int .i64 e)
 fz : ∀ j, w.frozen? ⟨g, j, none⟩ = false
theorem RR.lt {w : World} {g : Nat} {S : ByteArray} {a : Nat} {e : Int} (h : RR w g S a e) : g < w.heap.size := World.block_lt_of_cell? _ _ h.s0
theorem RR.ch {w w' : World} {g g' : Nat} {S : ByteArray} {a : Nat} {e : Int} (h : RR w g S a e) (c : Ch g' w w') (hne : g ≠ g') : RR w' g S a e :=
 ⟨c.cell h.s0 hne, c.cell h.a1 hne, c.cell h.e2 hne, fun j => by rw [c.frozen (a := ⟨g, j, none⟩) h.lt hne]; exact h.fz j⟩
theorem RR.q {w w' : World} {g : Nat} {S : ByteArray} {a : Nat} {e : Int} (h : RR w g S a e) (q : Q w w') : RR w' g S a e :=
 ⟨by rw [q.cell (p := ⟨g, 0, none⟩) h.lt]; exact h.s0, by rw [q.cell (p := ⟨g, 1, none⟩) h.lt]; exact h.a1, by rw [q.cell (p := ⟨g, 2, none⟩) h.lt]; exact h.e2, fun j => by rw [q.frozen (p := ⟨g, j, none⟩) h.lt]; exact h.fz j⟩
theorem RR.setE {w : World} {g : Nat} {S : ByteArray} {a : Nat} {e : Int} (h : RR w g S a e) (e' : Int) : RR (w.setCell ⟨g, 2, none⟩ (.int .i64 e')) g S a e' :=
 ⟨by rw [World.cell?_setCell_other (h := by intro h; injection h; omega)]; exact h.s0, by rw [World.cell?_setCell_other (h := by intro h; injection h; omega)]; exact h.a1, World.cell?_setCell_same _ _ _ h.e2, fun j => by simp [h.fz]⟩
theorem RR.setA {w : World} {g : Nat} {S : ByteArray} {a : Nat} {e : Int} (h : RR w g S a e) (a' : Nat) : RR (w.setCell ⟨g, 1, none⟩ (.int .i64 a')) g S a' e :=
 ⟨by rw [World.cell?_setCell_other (h := by intro h; injection h; omega)]; exact h.s0, World.cell?_setCell_same _ _ _ h.a1, by rw [World.cell?_setCell_other (h := by intro h; injection h; omega)]; exact h.e2, fun j => by simp [h.fz]⟩
/-- What is left from a place on. -/
def rest (S : ByteArray) (a : Nat) : ByteArray := S.extract a S.size
theorem rest_size (S : ByteArray) (a : Nat) : (rest S a).size = S.size - a := by unfold rest; rw [ByteArray.size_extract]; omega
theorem bt_ext (S : ByteArray) (a b i : Nat) (hb : b ≤ S.size) (hi : a + i < b) : PlainAid.bt (S.extract a b) i = PlainAid.bt S (a + i) := by
 unfold PlainAid.bt
 rw [dif_pos (by rw [ByteArray.size_extract]; omega), dif_pos (by omega), ByteArray.getElem_extract]
theorem bt_rest (S : ByteArray) (a i : Nat) (hi : a + i < S.size) : PlainAid.bt (rest S a) i = PlainAid.bt S (a + i) := bt_ext S a S.size i (Nat.le_refl _) hi
theorem rest_ext (S : ByteArray) (a k : Nat) : (rest S a).extract k (rest S a).size = rest S (a + k) := by
 rw [rest_size]
 unfold rest
 rw [ByteArray.extract_extract]
 congr 1
 omega
theorem rest_part (S : ByteArray) (a i j : Nat) (h : a + j ≤ S.size) : (rest S a).extract i j = S.extract (a + i) (a + j) := by
 unfold rest
 rw [ByteArray.extract_extract]
 congr 1
 omega
def rdA (a : Nat) (e : Int) (k : Nat) (pe : Int) : Nat := if e = 0 ∧ pe = 0 then a + k else a
theorem rdS_rest (S : ByteArray) (a : Nat) (e : Int) (k : Nat) (pe : Int) : rdS (rest S a) e k pe = rest S (rdA a e k pe) := by
 unfold rdS rdA
 split
 · exact rest_ext S a k
 · rfl
theorem rdA_le (S : ByteArray) (a : Nat) (e : Int) (k : Nat) (pe : Int) (ha : a ≤ S.size) (hk : pe = 0 → k ≤ (rest S a).size) : rdA a e k pe ≤ S.size := by
 unfold rdA
 split
 · rename_i h; have := hk h.2; rw [rest_size] at this; omega
 · exact ha
theorem rdA_ne (a : Nat) (e : Int) (k : Nat) (pe : Int) (h : e ≠ 0 ∨ pe ≠ 0) : rdA a e k pe = a := by unfold rdA; rw [if_neg (fun x => h.elim (fun y => y x.1) (fun y => y x.2))]
theorem failE_ne (e pe : Int) (h : e ≠ 0) : failE e pe = e := by unfold failE; rw [if_neg h]
theorem rdT_err (e pe : Int) (v : ByteArray) (h : e ≠ 0) : rdT e pe v = ByteArray.empty := by unfold rdT; rw [if_neg (fun x => h x.1)]
theorem isEmpty_pos (t : ByteArray) (h : 0 < t.size) : t.toList.isEmpty = false := by
 rw [ByteArray.toList_eq]
 cases hl : t.data.toList with
 | nil => have h2 : t.size = 0 := by rw [Lib.size_eq, hl]; rfl
          omega
 | cons x l => rfl
theorem getN_congr (s t : ByteArray) : ∀ k, (∀ i, i < k → PlainAid.bt s i = PlainAid.bt t i) → getN s k = getN t k
 | 0, _ => rfl
 | k + 1, h => by show getN s k * 256 + _ = getN t k * 256 + _; rw [getN_congr s t k fun i hi => h i (by omega), h k (by omega)]
/-- What Blob answers, and leaves, as a word of its own. -/
def XB (g : Nat) (S : ByteArray) (a : Nat) (e m : Int) (w : World) (r : Ending) (w' : World) : Prop :=
 r = .returned (.string (rdT e (blE (rest S a) m) ((rest S a).extract 2 (2 + blL (rest S a))))) ∧ RR w' g S (rdA a e (2 + blL (rest S a)) (blE (rest S a) m)) (failE e (blE (rest S a) m)) ∧ Ch g w w'
theorem XB.no {g : Nat} {S : ByteArray} {a : Nat} {m : Int} {w w' : World} (pe : Int) (hp : blE (rest S a) m = pe) (h0 : pe ≠ 0) (h : RR w' g S a pe) (c : Ch g w w') : XB g S a 0 m w (.returned (.string ByteArray.empty)) w' := by
 subst hp
 refine ⟨?_, ?_, c⟩
 · rw [rdT_ne _ _ _ h0]
 · rw [rdA_ne _ _ _ _ (.inr h0)]
   exact h
end Go.Proofs.YtobfgljkckcmcaaGreatDoor.Cod
