import Derived.Test.YtjiepemapffgjaaGreatDoorXHNum
import Derived.Test.YtjiepemapffgjaaGreatDoorXHShelf
import Derived.Maps.AppendAt
import Derived.Deep.AppendLies
set_option maxRecDepth 100000
namespace Go.Proofs.YtjiepemapffgjaaGreatDoor.Cod
open Go.RowKit
open Mem Num
set_option linter.unusedVariables false

/-- Of what was there only block g may have turned. -/
def Ch (g : Nat) (w w' : World) : Prop := w.grownBy w' (some g)
theorem Ch.refl (g : Nat) (w : World) : Ch g w w := World.grownBy.refl w _
theorem Ch.trans {g : Nat} {a b c : World} (h : Ch g a b) (k : Ch g b c) : Ch g a c := World.grownBy.trans h k
theorem Ch.of_q {a b : World} (h : Q a b) (g : Nat) : Ch g a b := ⟨h.os, h.tape, h.output, h.size, fun k hk _ => h.block k hk⟩
theorem Ch.q {W a b : World} {g : Nat} (k : Ch g a b) (h : Q W a) (hg : W.heap.size ≤ g) : Q W b := Below.grown h k h.size (by intro j e; cases e; exact hg)
theorem Ch.cell {g : Nat} {w w' : World} (c : Ch g w w') {a : Addr} {v : Value} (h : w.cell? a = some v) (hne : a.block ≠ g) : w'.cell? a = some v := World.grownBy.cell c h (fun e => hne (by injection e))
theorem Ch.frozen {g : Nat} {w w' : World} (c : Ch g w w') {a : Addr} (hl : a.block < w.heap.size) (hne : a.block ≠ g) : w'.frozen? a = w.frozen? a := World.grownBy.frozen_far c a hl (fun e => hne (by injection e))
theorem Ch.set (w : World) (g j : Nat) (v : Value) : Ch g w (w.setCell ⟨g, j, none⟩ v) :=
  ⟨rfl, rfl, rfl, by simp [World.setCell], fun k _ hk => Below.heap_setCell _ _ _ _ (fun e => hk (by rw [e]))⟩
theorem Ch.alloc {g : Nat} {a b : World} (h : Ch g a b) (o : Obj) : Ch g a (b.alloc o) := h.trans (World.grownBy_alloc b o _)
theorem Ch.drewN {g : Nat} {a b : World} (h : Ch g a b) (n : Nat) : Ch g a (b.drewN n) := ⟨h.os, h.tape, h.output, h.size, h.block⟩
theorem Ch.drew {g : Nat} {a b : World} (h : Ch g a b) : Ch g a b.drew := ⟨h.os, h.tape, h.output, h.size, h.block⟩

/-- A Reader at g: what is left, the error noted. -/
structure RD (w : World) (g : Nat) (s : ByteArray) (e : Int) : Prop where
  s0 : w.cell? ⟨g, 0, none⟩ = some (.string s)
  e1 : w.cell? ⟨g, 1, none⟩ = some (.int .i64 e)
  fz : ∀ j, w.frozen? ⟨g, j, none⟩ = false
theorem RD.lt {w : World} {g : Nat} {s : ByteArray} {e : Int} (h : RD w g s e) : g < w.heap.size := World.block_lt_of_cell? _ _ h.s0
theorem RD.ch {w w' : World} {g g' : Nat} {s : ByteArray} {e : Int} (h : RD w g s e) (c : Ch g' w w') (hne : g ≠ g') : RD w' g s e :=
  ⟨c.cell h.s0 hne, c.cell h.e1 hne, fun j => by rw [c.frozen (a := ⟨g, j, none⟩) h.lt hne]; exact h.fz j⟩
theorem RD.q {w w' : World} {g : Nat} {s : ByteArray} {e : Int} (h : RD w g s e) (q : Q w w') : RD w' g s e :=
  ⟨by rw [q.cell (p := ⟨g, 0, none⟩) h.lt]; exact h.s0, by rw [q.cell (p := ⟨g, 1, none⟩) h.lt]; exact h.e1, fun j => by rw [q.frozen (p := ⟨g, j, none⟩) h.lt]; exact h.fz j⟩
theorem RD.setE {w : World} {g : Nat} {s : ByteArray} {e : Int} (h : RD w g s e) (e' : Int) : RD (w.setCell ⟨g, 1, none⟩ (.int .i64 e')) g s e' :=
  ⟨by rw [World.cell?_setCell_other (h := by intro h; injection h; omega)]; exact h.s0, World.cell?_setCell_same _ _ _ h.e1, fun j => by simp [h.fz]⟩
theorem RD.setS {w : World} {g : Nat} {s : ByteArray} {e : Int} (h : RD w g s e) (s' : ByteArray) : RD (w.setCell ⟨g, 0, none⟩ (.string s')) g s' e :=
  ⟨World.cell?_setCell_same _ _ _ h.s0, by rw [World.cell?_setCell_other (h := by intro h; injection h; omega)]; exact h.e1, fun j => by simp [h.fz]⟩

theorem clone_any (s : ByteArray) (w : World) (hs : s.size ≤ 1000000000) : Calls Tryz.prog 116 #[.string s] w fun e w' => e = .returned (.string s) ∧ Q w w' := by
  have C := Lib.hid (Tryz.stringslite_Clone s w (by omega))
  go_enter Tryz.func116, Tryz.ntmps116
  go_wp2_with fail
  refine C.out.mono ?_
  rintro e w' ⟨rfl, hb⟩
  go_wp2_with fail
  go_ret
  exact ⟨rfl, hb⟩

theorem read_any (s : ByteArray) (w : World) : Calls Tryz.prog 85 #[.string s] w fun e w' => e = .returned (.pointer (some ⟨w.heap.size, 0, none⟩)) ∧ RD w' w.heap.size s 0 ∧ Q w w' := by
  go_enter Tryz.func85, Tryz.ntmps85
  go_wp2_with fail
  go_ret
  refine ⟨rfl, ⟨?_, ?_, made_frozen w _ _⟩, (Q.refl w).alloc _⟩
  · rw [World.cell?_alloc_at _ _ _ _ rfl]; rfl
  · rw [World.cell?_alloc_at _ _ _ _ rfl]; rfl

theorem left_any (g : Nat) (s : ByteArray) (e : Int) (w : World) (h : RD w g s e) : Calls Tryz.prog 141 #[.pointer (some ⟨g, 0, none⟩)] w fun r w' => r = .returned (.int .i64 s.size) ∧ w = w' := by
  have c0 := h.s0
  clear h
  go_enter Tryz.func141, Tryz.ntmps141
  go_wp2_with fail
  go_ret
  exact ⟨rfl, rfl⟩

def endE (s : ByteArray) (e : Int) : Int := if e = 0 then (if s.size = 0 then 0 else 4) else e
theorem end_any (g : Nat) (s : ByteArray) (e : Int) (w : World) (h : RD w g s e) : Calls Tryz.prog 90 #[.pointer (some ⟨g, 0, none⟩)] w fun r w' => r = .returned (.int .i64 (endE s e)) ∧ w = w' := by
  have c1 := h.e1
  have HE : Hid (endE s e = if e = 0 then (if s.size = 0 then 0 else 4) else e) := rfl
  have LE := Lib.hid (left_any g s e w h)
  clear h
  by_cases h0 : e = 0
  · subst h0
    by_cases hs : s.size = 0
    · rw [if_pos rfl, if_pos hs] at HE
      have hs' : (s.size : Int) ≤ 0 := by omega
      clear hs
      go_enter Tryz.func90, Tryz.ntmps90
      go_wp2_with fail
      refine LE.out.mono ?_
      rintro e w' ⟨rfl, rfl⟩
      go_wp2_with fail
      go_ret
      exact ⟨ret1 HE.out.symm, rfl⟩
    · rw [if_pos rfl, if_neg hs] at HE
      have hs' : 0 < (s.size : Int) := by omega
      clear hs
      go_enter Tryz.func90, Tryz.ntmps90
      go_wp2_with fail
      refine LE.out.mono ?_
      rintro e w' ⟨rfl, rfl⟩
      go_wp2_with fail
      go_ret
      exact ⟨ret1 HE.out.symm, rfl⟩
  · rw [if_neg h0] at HE
    have h0' : (e == 0) = false := by simpa using h0
    have h0'' : (e != 0) = true := by simpa using h0
    go_enter Tryz.func90, Tryz.ntmps90
    go_wp2_with fail
    go_ret
    exact ⟨ret1 HE.out.symm, rfl⟩

/-- The first error stays. -/
def failE (e f : Int) : Int := if e = 0 then f else e
theorem fail_any (g : Nat) (s : ByteArray) (e f : Int) (w : World) (h : RD w g s e) : Calls Tryz.prog 88 #[.pointer (some ⟨g, 0, none⟩), .int .i64 f] w fun r w' => r = .returned (.tuple #[]) ∧ RD w' g s (failE e f) ∧ Ch g w w' := by
  have c1 := h.e1
  have f1 := h.fz 1
  have HE : Hid (failE e f = if e = 0 then f else e) := rfl
  have H := Lib.hid h
  clear h
  by_cases h0 : e = 0
  · subst h0
    rw [if_pos rfl] at HE
    go_enter Tryz.func88, Tryz.ntmps88
    go_wp2_with fail
    go_end0
    exact ⟨rfl, by rw [HE.out]; exact H.out.setE f, Ch.set _ _ _ _⟩
  · rw [if_neg h0] at HE
    have h0' : (e == 0) = false := by simpa using h0
    have h0'' : (e != 0) = true := by simpa using h0
    go_enter Tryz.func88, Tryz.ntmps88
    go_wp2_with fail
    go_end0
    exact ⟨rfl, by rw [HE.out]; exact H.out, Ch.refl _ _⟩
end Go.Proofs.YtjiepemapffgjaaGreatDoor.Cod

namespace Go.Proofs.YtjiepemapffgjaaGreatDoor.Cod
open Go.RowKit
open Mem Num
set_option linter.unusedVariables false

/-- What is left, if a part of k bytes was read; the part's error is pe. -/
def rdS (s : ByteArray) (e : Int) (k : Nat) (pe : Int) : ByteArray := if e = 0 ∧ pe = 0 then s.extract k s.size else s
def rdV (e pe : Int) (v : Int) : Int := if e = 0 ∧ pe = 0 then v else 0
def rdT (e pe : Int) (v : ByteArray) : ByteArray := if e = 0 ∧ pe = 0 then v else ByteArray.empty

set_option maxHeartbeats 1000000 in
theorem takeByte (g : Nat) (s : ByteArray) (e : Int) (w : World) (h : RD w g s e) (hs : s.size ≤ 1000000000) (pv : Int) (k : Nat) (pe : Int) (hk : pe = 0 → k ≤ s.size)
    (hp : Calls Tryz.prog 149 #[.string s] w fun r w' => r = .returned (.tuple #[.int .i64 pv, .int .i64 k, .int .i64 pe]) ∧ Q w w') :
    Calls Tryz.prog 148 #[.pointer (some ⟨g, 0, none⟩), .func (.func 149) #[] #[]] w fun r w' => r = .returned (.int .i64 (rdV e pe pv)) ∧ RD w' g (rdS s e k pe) (failE e pe) ∧ Ch g w w' := by
  have c0 := h.s0
  have c1 := h.e1
  have HP := Lib.hid hp
  have H := Lib.hid h
  have HV : Hid (rdV e pe pv = if e = 0 ∧ pe = 0 then pv else 0) := rfl
  have HS : Hid (rdS s e k pe = if e = 0 ∧ pe = 0 then s.extract k s.size else s) := rfl
  have HE : Hid (failE e pe = if e = 0 then pe else e) := rfl
  clear h hp
  by_cases h0 : e = 0
  · subst h0
    by_cases hpe : pe = 0
    · subst hpe
      have k1 := hk rfl
      clear hk
      rw [if_pos ⟨rfl, rfl⟩] at HV HS
      rw [if_pos rfl] at HE
      go_enter Tryz.func148, Tryz.ntmps148
      go_wp2_with fail
      refine HP.out.mono ?_
      rintro r w1 ⟨rfl, q1⟩
      have H1 := Lib.hid (H.out.q q1)
      have Q1 := Lib.hid q1
      have d0 := H1.out.s0
      have f0 := H1.out.fz 0
      clear q1 c0 c1
      go_wp2_with fail
      go_ret
      exact ⟨by rw [HV.out]; rfl, by rw [HS.out, HE.out]; exact H1.out.setS _, (Ch.of_q Q1.out g).trans (Ch.set _ _ _ _)⟩
    · have p0 : (pe == 0) = false := by simpa using hpe
      have p1 : (pe != 0) = true := by simpa using hpe
      rw [if_neg (fun h => hpe h.2)] at HV HS
      clear hk hpe
      go_enter Tryz.func148, Tryz.ntmps148
      go_wp2_with fail
      refine HP.out.mono ?_
      rintro r w1 ⟨rfl, q1⟩
      have H1 := Lib.hid (H.out.q q1)
      have Q1 := Lib.hid q1
      clear q1 c0 c1
      go_wp2_with fail
      refine (fail_any g s 0 pe w1 H1.out).mono ?_
      rintro r w2 ⟨rfl, h2, k2⟩
      have H2 := Lib.hid h2
      have K2 := Lib.hid k2
      clear h2 k2
      go_wp2_with fail
      go_ret
      exact ⟨by rw [HV.out]; rfl, by rw [HS.out]; exact H2.out, (Ch.of_q Q1.out g).trans K2.out⟩
  · have h0' : (e == 0) = false := by simpa using h0
    have h0'' : (e != 0) = true := by simpa using h0
    rw [if_neg (fun h => h0 h.1)] at HV HS
    rw [if_neg h0] at HE
    clear hk
    go_enter Tryz.func148, Tryz.ntmps148
    go_wp2_with fail
    go_ret
    exact ⟨by rw [HV.out]; rfl, by rw [HS.out, HE.out]; exact H.out, Ch.refl _ _⟩

set_option maxHeartbeats 1000000 in
theorem takeNum (g : Nat) (s : ByteArray) (e : Int) (w : World) (h : RD w g s e) (hs : s.size ≤ 1000000000) (pv : Int) (k : Nat) (pe : Int) (hk : pe = 0 → k ≤ s.size)
    (hp : Calls Tryz.prog 151 #[.string s] w fun r w' => r = .returned (.tuple #[.int .u64 pv, .int .i64 k, .int .i64 pe]) ∧ Q w w') :
    Calls Tryz.prog 150 #[.pointer (some ⟨g, 0, none⟩), .func (.func 151) #[] #[]] w fun r w' => r = .returned (.int .u64 (rdV e pe pv)) ∧ RD w' g (rdS s e k pe) (failE e pe) ∧ Ch g w w' := by
  have c0 := h.s0
  have c1 := h.e1
  have HP := Lib.hid hp
  have H := Lib.hid h
  have HV : Hid (rdV e pe pv = if e = 0 ∧ pe = 0 then pv else 0) := rfl
  have HS : Hid (rdS s e k pe = if e = 0 ∧ pe = 0 then s.extract k s.size else s) := rfl
  have HE : Hid (failE e pe = if e = 0 then pe else e) := rfl
  clear h hp
  by_cases h0 : e = 0
  · subst h0
    by_cases hpe : pe = 0
    · subst hpe
      have k1 := hk rfl
      clear hk
      rw [if_pos ⟨rfl, rfl⟩] at HV HS
      rw [if_pos rfl] at HE
      go_enter Tryz.func150, Tryz.ntmps150
      go_wp2_with fail
      refine HP.out.mono ?_
      rintro r w1 ⟨rfl, q1⟩
      have H1 := Lib.hid (H.out.q q1)
      have Q1 := Lib.hid q1
      have d0 := H1.out.s0
      have f0 := H1.out.fz 0
      clear q1 c0 c1
      go_wp2_with fail
      go_ret
      exact ⟨by rw [HV.out]; rfl, by rw [HS.out, HE.out]; exact H1.out.setS _, (Ch.of_q Q1.out g).trans (Ch.set _ _ _ _)⟩
    · have p0 : (pe == 0) = false := by simpa using hpe
      have p1 : (pe != 0) = true := by simpa using hpe
      rw [if_neg (fun h => hpe h.2)] at HV HS
      clear hk hpe
      go_enter Tryz.func150, Tryz.ntmps150
      go_wp2_with fail
      refine HP.out.mono ?_
      rintro r w1 ⟨rfl, q1⟩
      have H1 := Lib.hid (H.out.q q1)
      have Q1 := Lib.hid q1
      clear q1 c0 c1
      go_wp2_with fail
      refine (fail_any g s 0 pe w1 H1.out).mono ?_
      rintro r w2 ⟨rfl, h2, k2⟩
      have H2 := Lib.hid h2
      have K2 := Lib.hid k2
      clear h2 k2
      go_wp2_with fail
      go_ret
      exact ⟨by rw [HV.out]; rfl, by rw [HS.out]; exact H2.out, (Ch.of_q Q1.out g).trans K2.out⟩
  · have h0' : (e == 0) = false := by simpa using h0
    have h0'' : (e != 0) = true := by simpa using h0
    rw [if_neg (fun h => h0 h.1)] at HV HS
    rw [if_neg h0] at HE
    clear hk
    go_enter Tryz.func150, Tryz.ntmps150
    go_wp2_with fail
    go_ret
    exact ⟨by rw [HV.out]; rfl, by rw [HS.out, HE.out]; exact H.out, Ch.refl _ _⟩

set_option maxHeartbeats 1000000 in
theorem takeHash (g : Nat) (s : ByteArray) (e : Int) (w : World) (h : RD w g s e) (hs : s.size ≤ 1000000000) (pv : ByteArray) (k : Nat) (pe : Int) (hk : pe = 0 → k ≤ s.size)
    (hp : Calls Tryz.prog 152 #[.string s] w fun r w' => r = .returned (.tuple #[.string pv, .int .i64 k, .int .i64 pe]) ∧ Q w w') :
    Calls Tryz.prog 137 #[.pointer (some ⟨g, 0, none⟩), .func (.func 152) #[] #[]] w fun r w' => r = .returned (.string (rdT e pe pv)) ∧ RD w' g (rdS s e k pe) (failE e pe) ∧ Ch g w w' := by
  have c0 := h.s0
  have c1 := h.e1
  have HP := Lib.hid hp
  have H := Lib.hid h
  have HV : Hid (rdT e pe pv = if e = 0 ∧ pe = 0 then pv else ByteArray.empty) := rfl
  have HS : Hid (rdS s e k pe = if e = 0 ∧ pe = 0 then s.extract k s.size else s) := rfl
  have HE : Hid (failE e pe = if e = 0 then pe else e) := rfl
  clear h hp
  by_cases h0 : e = 0
  · subst h0
    by_cases hpe : pe = 0
    · subst hpe
      have k1 := hk rfl
      clear hk
      rw [if_pos ⟨rfl, rfl⟩] at HV HS
      rw [if_pos rfl] at HE
      go_enter Tryz.func137, Tryz.ntmps137
      go_wp2_with fail
      refine HP.out.mono ?_
      rintro r w1 ⟨rfl, q1⟩
      have H1 := Lib.hid (H.out.q q1)
      have Q1 := Lib.hid q1
      have d0 := H1.out.s0
      have f0 := H1.out.fz 0
      clear q1 c0 c1
      go_wp2_with fail
      go_ret
      exact ⟨by rw [HV.out]; rfl, by rw [HS.out, HE.out]; exact H1.out.setS _, (Ch.of_q Q1.out g).trans (Ch.set _ _ _ _)⟩
    · have p0 : (pe == 0) = false := by simpa using hpe
      have p1 : (pe != 0) = true := by simpa using hpe
      rw [if_neg (fun h => hpe h.2)] at HV HS
      clear hk hpe
      go_enter Tryz.func137, Tryz.ntmps137
      go_wp2_with fail
      refine HP.out.mono ?_
      rintro r w1 ⟨rfl, q1⟩
      have H1 := Lib.hid (H.out.q q1)
      have Q1 := Lib.hid q1
      clear q1 c0 c1
      go_wp2_with fail
      refine (fail_any g s 0 pe w1 H1.out).mono ?_
      rintro r w2 ⟨rfl, h2, k2⟩
      have H2 := Lib.hid h2
      have K2 := Lib.hid k2
      clear h2 k2
      go_wp2_with fail
      go_ret
      exact ⟨by rw [HV.out]; rfl, by rw [HS.out]; exact H2.out, (Ch.of_q Q1.out g).trans K2.out⟩
  · have h0' : (e == 0) = false := by simpa using h0
    have h0'' : (e != 0) = true := by simpa using h0
    rw [if_neg (fun h => h0 h.1)] at HV HS
    rw [if_neg h0] at HE
    clear hk
    go_enter Tryz.func137, Tryz.ntmps137
    go_wp2_with fail
    go_ret
    exact ⟨by rw [HV.out]; rfl, by rw [HS.out, HE.out]; exact H.out, Ch.refl _ _⟩

set_option maxHeartbeats 1000000 in
theorem takeBlob (g : Nat) (s : ByteArray) (e : Int) (w : World) (b : Nat) (h : RD w g s e) (hs : s.size ≤ 1000000000) (pv : ByteArray) (k : Nat) (pe : Int) (hk : pe = 0 → k ≤ s.size)
    (hp : Calls Tryz.prog 138 #[.string s, .pointer (some ⟨b, 0, none⟩)] w fun r w' => r = .returned (.tuple #[.string pv, .int .i64 k, .int .i64 pe]) ∧ Q w w') :
    Calls Tryz.prog 137 #[.pointer (some ⟨g, 0, none⟩), .func (.func 138) #[] #[.pointer (some ⟨b, 0, none⟩)]] w fun r w' => r = .returned (.string (rdT e pe pv)) ∧ RD w' g (rdS s e k pe) (failE e pe) ∧ Ch g w w' := by
  have c0 := h.s0
  have c1 := h.e1
  have HP := Lib.hid hp
  have H := Lib.hid h
  have HV : Hid (rdT e pe pv = if e = 0 ∧ pe = 0 then pv else ByteArray.empty) := rfl
  have HS : Hid (rdS s e k pe = if e = 0 ∧ pe = 0 then s.extract k s.size else s) := rfl
  have HE : Hid (failE e pe = if e = 0 then pe else e) := rfl
  clear h hp
  by_cases h0 : e = 0
  · subst h0
    by_cases hpe : pe = 0
    · subst hpe
      have k1 := hk rfl
      clear hk
      rw [if_pos ⟨rfl, rfl⟩] at HV HS
      rw [if_pos rfl] at HE
      go_enter Tryz.func137, Tryz.ntmps137
      go_wp2_with fail
      refine HP.out.mono ?_
      rintro r w1 ⟨rfl, q1⟩
      have H1 := Lib.hid (H.out.q q1)
      have Q1 := Lib.hid q1
      have d0 := H1.out.s0
      have f0 := H1.out.fz 0
      clear q1 c0 c1
      go_wp2_with fail
      go_ret
      exact ⟨by rw [HV.out]; rfl, by rw [HS.out, HE.out]; exact H1.out.setS _, (Ch.of_q Q1.out g).trans (Ch.set _ _ _ _)⟩
    · have p0 : (pe == 0) = false := by simpa using hpe
      have p1 : (pe != 0) = true := by simpa using hpe
      rw [if_neg (fun h => hpe h.2)] at HV HS
      clear hk hpe
      go_enter Tryz.func137, Tryz.ntmps137
      go_wp2_with fail
      refine HP.out.mono ?_
      rintro r w1 ⟨rfl, q1⟩
      have H1 := Lib.hid (H.out.q q1)
      have Q1 := Lib.hid q1
      clear q1 c0 c1
      go_wp2_with fail
      refine (fail_any g s 0 pe w1 H1.out).mono ?_
      rintro r w2 ⟨rfl, h2, k2⟩
      have H2 := Lib.hid h2
      have K2 := Lib.hid k2
      clear h2 k2
      go_wp2_with fail
      go_ret
      exact ⟨by rw [HV.out]; rfl, by rw [HS.out]; exact H2.out, (Ch.of_q Q1.out g).trans K2.out⟩
  · have h0' : (e == 0) = false := by simpa using h0
    have h0'' : (e != 0) = true := by simpa using h0
    rw [if_neg (fun h => h0 h.1)] at HV HS
    rw [if_neg h0] at HE
    clear hk
    go_enter Tryz.func137, Tryz.ntmps137
    go_wp2_with fail
    go_ret
    exact ⟨by rw [HV.out]; rfl, by rw [HS.out, HE.out]; exact H.out, Ch.refl _ _⟩

theorem bits_or_i64_nat (a b : Nat) (ha : a < 4611686018427387904) (hb : b < 4611686018427387904) : bits .or .i64 (a : Int) (b : Int) = ((a ||| b : Nat) : Int) := by
  have hx : a ||| b < 2 ^ 62 := Nat.or_lt_two_pow (by omega) (by omega)
  have h1 : (BitVec.ofInt 64 (a : Int)).toNat = a := by
    rw [BitVec.ofInt_natCast, BitVec.toNat_ofNat]; exact Nat.mod_eq_of_lt (by omega)
  have h2 : (BitVec.ofInt 64 (b : Int)).toNat = b := by
    rw [BitVec.ofInt_natCast, BitVec.toNat_ofNat]; exact Nat.mod_eq_of_lt (by omega)
  show IntKind.i64.wrap ((BitVec.ofInt 64 (a : Int) ||| BitVec.ofInt 64 (b : Int)).toNat : Int) = _
  rw [BitVec.toNat_or, h1, h2, IntKind.wrap_i64]
  omega
theorem or_two (a b : Int) (a0 : 0 ≤ a) (a1 : a ≤ 255) (b0 : 0 ≤ b) (b1 : b ≤ 255) : bits BinOp.or IntKind.i64 (a * 256) b = a * 256 + b := by
  obtain ⟨x, rfl⟩ := Int.eq_ofNat_of_zero_le a0
  obtain ⟨y, rfl⟩ := Int.eq_ofNat_of_zero_le b0
  rw [show ((x : Int) * 256) = ((x * 256 : Nat) : Int) by omega, bits_or_i64_nat _ _ (by omega) (by omega), nat_join 8 _ _ (by omega) (by omega)]
  omega

theorem rdS_ne (s : ByteArray) (e : Int) (k : Nat) (pe : Int) (h : pe ≠ 0) : rdS s e k pe = s := by unfold rdS; rw [if_neg (fun x => h x.2)]
theorem rdV_ne (e pe v : Int) (h : pe ≠ 0) : rdV e pe v = 0 := by unfold rdV; rw [if_neg (fun x => h x.2)]
theorem rdT_ne (e pe : Int) (v : ByteArray) (h : pe ≠ 0) : rdT e pe v = ByteArray.empty := by unfold rdT; rw [if_neg (fun x => h x.2)]

def byE (s : ByteArray) : Int := if 1 ≤ s.size then 0 else 3
theorem byteOf_yes (s : ByteArray) (w : World) (h : 1 ≤ s.size) (hs : s.size ≤ 1000000000) : Calls Tryz.prog 149 #[.string s] w fun r w' => r = .returned (.tuple #[.int .i64 (PlainAid.bt s 0), .int .i64 (1 : Nat), .int .i64 0]) ∧ Q w w' := by
  have hb := PlainAid.get_bt s
  have td : decide ((s.size : Int) < 1) = false := by simp; omega
  have t0 : 0 < s.size := by omega
  have b0 := PlainAid.bt_nonneg s 0
  have b1 := PlainAid.bt_le s 0
  go_enter Tryz.func149, Tryz.ntmps149
  go_wp2_with fail
  go_ret3
  exact ⟨rfl, Q.refl _⟩
theorem byteOf_no (s : ByteArray) (w : World) (h : ¬ 1 ≤ s.size) : Calls Tryz.prog 149 #[.string s] w fun r w' => r = .returned (.tuple #[.int .i64 0, .int .i64 (0 : Nat), .int .i64 3]) ∧ Q w w' := by
  have td : decide ((s.size : Int) < 1) = true := by simp; omega
  go_enter Tryz.func149, Tryz.ntmps149
  go_wp2_with fail
  go_ret3
  exact ⟨rfl, Q.refl _⟩
theorem rbyte_any (g : Nat) (s : ByteArray) (e : Int) (w : World) (h : RD w g s e) (hs : s.size ≤ 1000000000) : Calls Tryz.prog 104 #[.pointer (some ⟨g, 0, none⟩)] w fun r w' =>
    r = .returned (.int .i64 (rdV e (byE s) (PlainAid.bt s 0))) ∧ RD w' g (rdS s e 1 (byE s)) (failE e (byE s)) ∧ Ch g w w' := by
  have C : Hid (Calls Tryz.prog 148 #[.pointer (some ⟨g, 0, none⟩), .func (.func 149) #[] #[]] w fun r w' =>
      r = .returned (.int .i64 (rdV e (byE s) (PlainAid.bt s 0))) ∧ RD w' g (rdS s e 1 (byE s)) (failE e (byE s)) ∧ Ch g w w') := by
    show Calls _ _ _ _ _
    by_cases h1 : 1 ≤ s.size
    · have E : byE s = 0 := by unfold byE; rw [if_pos h1]
      rw [E]
      exact takeByte g s e w h hs _ 1 0 (fun _ => h1) (byteOf_yes s w h1 hs)
    · have E : byE s = 3 := by unfold byE; rw [if_neg h1]
      have T := takeByte g s e w h hs _ 0 3 (fun h => absurd h (by decide)) (byteOf_no s w h1)
      rw [rdV_ne _ _ _ (by decide), rdS_ne _ _ _ _ (by decide)] at T
      rw [E, rdV_ne _ _ _ (by decide), rdS_ne _ _ _ _ (by decide)]
      exact T
  clear h
  go_enter Tryz.func104, Tryz.ntmps104
  go_wp2_with fail
  refine C.out.mono ?_
  rintro r w' ⟨rfl, h'⟩
  have H' := Lib.hid h'
  clear h'
  go_wp2_with fail
  go_ret
  exact ⟨rfl, H'.out⟩

theorem getE_yes (s : ByteArray) : getE s = 0 → 8 ≤ s.size := by unfold getE; split <;> intro h; assumption; exact absurd h (by decide)
theorem numOf_any (s : ByteArray) (w : World) (hs : s.size ≤ 1000000000) : Calls Tryz.prog 151 #[.string s] w fun r w' => r = .returned (.tuple #[.int .u64 (getV s), .int .i64 (8 : Nat), .int .i64 (getE s)]) ∧ Q w w' := by
  have C := Lib.hid (get_any s w (by unfold maxLen; omega))
  go_enter Tryz.func151, Tryz.ntmps151
  go_wp2_with fail
  refine C.out.mono ?_
  rintro r w' ⟨rfl, rfl⟩
  go_wp2_with fail
  go_ret3
  exact ⟨rfl, Q.refl _⟩
theorem rnum_any (g : Nat) (s : ByteArray) (e : Int) (w : World) (h : RD w g s e) (hs : s.size ≤ 1000000000) : Calls Tryz.prog 105 #[.pointer (some ⟨g, 0, none⟩)] w fun r w' =>
    r = .returned (.int .u64 (rdV e (getE s) (getV s))) ∧ RD w' g (rdS s e 8 (getE s)) (failE e (getE s)) ∧ Ch g w w' := by
  have C := Lib.hid (takeNum g s e w h hs _ 8 _ (getE_yes s) (numOf_any s w hs))
  clear h
  go_enter Tryz.func105, Tryz.ntmps105
  go_wp2_with fail
  refine C.out.mono ?_
  rintro r w' ⟨rfl, h'⟩
  have H' := Lib.hid h'
  clear h'
  go_wp2_with fail
  go_ret
  exact ⟨rfl, H'.out⟩

def haE (s : ByteArray) : Int := if 16 ≤ s.size then 0 else 3
theorem hashOf_yes (s : ByteArray) (w : World) (h : 16 ≤ s.size) (hs : s.size ≤ 1000000000) : Calls Tryz.prog 152 #[.string s] w fun r w' => r = .returned (.tuple #[.string (s.extract 0 16), .int .i64 (16 : Nat), .int .i64 0]) ∧ Q w w' := by
  have td : decide ((s.size : Int) < 16) = false := by simp; omega
  have C := Lib.hid (clone_any (s.extract 0 16) w (by rw [ByteArray.size_extract]; omega))
  go_enter Tryz.func152, Tryz.ntmps152
  go_wp2_with fail
  refine C.out.mono ?_
  rintro r w' ⟨rfl, q⟩
  have HQ := Lib.hid q
  clear q
  go_wp2_with fail
  go_ret3
  exact ⟨rfl, HQ.out⟩
theorem hashOf_no (s : ByteArray) (w : World) (h : ¬ 16 ≤ s.size) : Calls Tryz.prog 152 #[.string s] w fun r w' => r = .returned (.tuple #[.string ByteArray.empty, .int .i64 (0 : Nat), .int .i64 3]) ∧ Q w w' := by
  have td : decide ((s.size : Int) < 16) = true := by simp; omega
  go_enter Tryz.func152, Tryz.ntmps152
  go_wp2_with fail
  go_ret3
  exact ⟨rfl, Q.refl _⟩
theorem rhash_any (g : Nat) (s : ByteArray) (e : Int) (w : World) (h : RD w g s e) (hs : s.size ≤ 1000000000) : Calls Tryz.prog 106 #[.pointer (some ⟨g, 0, none⟩)] w fun r w' =>
    r = .returned (.string (rdT e (haE s) (s.extract 0 16))) ∧ RD w' g (rdS s e 16 (haE s)) (failE e (haE s)) ∧ Ch g w w' := by
  have C : Hid (Calls Tryz.prog 137 #[.pointer (some ⟨g, 0, none⟩), .func (.func 152) #[] #[]] w fun r w' =>
      r = .returned (.string (rdT e (haE s) (s.extract 0 16))) ∧ RD w' g (rdS s e 16 (haE s)) (failE e (haE s)) ∧ Ch g w w') := by
    show Calls _ _ _ _ _
    by_cases h1 : 16 ≤ s.size
    · have E : haE s = 0 := by unfold haE; rw [if_pos h1]
      rw [E]
      exact takeHash g s e w h hs _ 16 0 (fun _ => h1) (hashOf_yes s w h1 hs)
    · have E : haE s = 3 := by unfold haE; rw [if_neg h1]
      have T := takeHash g s e w h hs _ 0 3 (fun h => absurd h (by decide)) (hashOf_no s w h1)
      rw [rdT_ne _ _ _ (by decide), rdS_ne _ _ _ _ (by decide)] at T
      rw [E, rdT_ne _ _ _ (by decide), rdS_ne _ _ _ _ (by decide)]
      exact T
  clear h
  go_enter Tryz.func106, Tryz.ntmps106
  go_wp2_with fail
  refine C.out.mono ?_
  rintro r w' ⟨rfl, h'⟩
  have H' := Lib.hid h'
  clear h'
  go_wp2_with fail
  go_ret
  exact ⟨rfl, H'.out⟩

/-- The length with which a text begins. -/
def blL (s : ByteArray) : Nat := (PlainAid.bt s 0 * 256 + PlainAid.bt s 1).toNat
theorem blL_int (s : ByteArray) : PlainAid.bt s 0 * 256 + PlainAid.bt s 1 = (blL s : Int) := by
  have := PlainAid.bt_nonneg s 0
  have := PlainAid.bt_nonneg s 1
  unfold blL
  omega
theorem blL_le (s : ByteArray) : blL s ≤ 65535 := by
  have := PlainAid.bt_le s 0
  have := PlainAid.bt_le s 1
  unfold blL
  omega
def blE (s : ByteArray) (m : Int) : Int := if s.size < 2 then 3 else if m < (blL s : Int) ∨ 4096 < blL s then 5 else if s.size < 2 + blL s then 3 else 0
set_option maxHeartbeats 1000000 in
theorem blobOf_any (s : ByteArray) (m : Int) (w : World) (hs : s.size ≤ 1000000000) : Calls Tryz.prog 139 #[.string s, .int .i64 m] w fun r w' =>
    r = .returned (.tuple #[.string (if blE s m = 0 then s.extract 2 (2 + blL s) else ByteArray.empty), .int .i64 ((if blE s m = 0 then 2 + blL s else 0 : Nat) : Int), .int .i64 (blE s m)]) ∧ Q w w' := by
  have HE : Hid (blE s m = if s.size < 2 then 3 else if m < (blL s : Int) ∨ 4096 < blL s then 5 else if s.size < 2 + blL s then 3 else 0) := rfl
  have hb := PlainAid.get_bt s
  by_cases h2 : s.size < 2
  · rw [if_pos h2] at HE
    have td : decide ((s.size : Int) < 2) = true := by simp; omega
    rw [HE.out, if_neg (by decide), if_neg (by decide)]
    go_enter Tryz.func139, Tryz.ntmps139
    go_wp2_with fail
    go_ret3
    exact ⟨rfl, Q.refl _⟩
  · rw [if_neg h2] at HE
    have td : decide ((s.size : Int) < 2) = false := by simp; omega
    have b0 := PlainAid.bt_nonneg s 0
    have b1 := PlainAid.bt_le s 0
    have b2 := PlainAid.bt_nonneg s 1
    have b3 := PlainAid.bt_le s 1
    have s0 : (0 : Int) < (s.size : Int) := by omega
    have s1 : (1 : Int) < (s.size : Int) := by omega
    have s0' : 0 < s.size := by omega
    have s1' : 1 < s.size := by omega
    have HO := or_two (PlainAid.bt s 0) (PlainAid.bt s 1) b0 b1 b2 b3
    rw [blL_int s] at HO
    have hL := blL_le s
    by_cases h3 : m < (blL s : Int)
    · rw [if_pos (Or.inl h3)] at HE
      rw [HE.out, if_neg (by decide), if_neg (by decide)]
      have t3 : decide (m < (blL s : Int)) = true := by simp; omega
      go_enter Tryz.func139, Tryz.ntmps139
      go_wp2_with fail
      go_quiet (fail)
      go_wp2_with fail
      go_ret3
      exact ⟨rfl, (Q.refl _).drewN _⟩
    · have t3 : decide (m < (blL s : Int)) = false := by simp; omega
      by_cases h4 : 4096 < blL s
      · rw [if_pos (Or.inr h4)] at HE
        rw [HE.out, if_neg (by decide), if_neg (by decide)]
        have t4 : decide ((4096 : Int) < (blL s : Int)) = true := by simp; omega
        go_enter Tryz.func139, Tryz.ntmps139
        go_wp2_with fail
        go_quiet (fail)
        go_wp2_with fail
        go_ret3
        exact ⟨rfl, (Q.refl _).drewN _⟩
      · have t4 : decide ((4096 : Int) < (blL s : Int)) = false := by simp; omega
        rw [if_neg (by omega)] at HE
        by_cases h5 : s.size < 2 + blL s
        · rw [if_pos h5] at HE
          rw [HE.out, if_neg (by decide), if_neg (by decide)]
          have t5 : decide ((s.size : Int) < 2 + (blL s : Int)) = true := by simp; omega
          go_enter Tryz.func139, Tryz.ntmps139
          go_wp2_with fail
          go_quiet (fail)
          go_wp2_with fail
          go_ret3
          exact ⟨rfl, (Q.refl _).drewN _⟩
        · rw [if_neg h5] at HE
          rw [HE.out, if_pos rfl, if_pos rfl]
          have t5 : decide ((s.size : Int) < 2 + (blL s : Int)) = false := by simp; omega
          have hn : ((2 : Int) + (blL s : Int)).toNat = 2 + blL s := by omega
          have C : Hid (∀ w, Calls Tryz.prog 116 #[.string (s.extract 2 (2 + blL s))] w fun e w' => e = .returned (.string (s.extract 2 (2 + blL s))) ∧ Q w w') := fun w => clone_any _ w (by rw [ByteArray.size_extract]; omega)
          go_enter Tryz.func139, Tryz.ntmps139
          go_wp2_with fail
          go_quiet (fail)
          go_wp2_with fail
          refine (C.out _).mono ?_
          rintro r w' ⟨rfl, q⟩
          have HQ := Lib.hid q
          clear q
          go_wp2_with fail
          go_ret3
          exact ⟨by simp, ((Q.refl w).drewN _).trans HQ.out⟩
theorem blobPart (s : ByteArray) (m : Int) (b : Nat) (w : World) (hs : s.size ≤ 1000000000) (hm : w.cell? ⟨b, 0, none⟩ = some (.int .i64 m)) : Calls Tryz.prog 138 #[.string s, .pointer (some ⟨b, 0, none⟩)] w fun r w' =>
    r = .returned (.tuple #[.string (if blE s m = 0 then s.extract 2 (2 + blL s) else ByteArray.empty), .int .i64 ((if blE s m = 0 then 2 + blL s else 0 : Nat) : Int), .int .i64 (blE s m)]) ∧ Q w w' := by
  have C := Lib.hid (blobOf_any s m w hs)
  generalize (if blE s m = 0 then s.extract 2 (2 + blL s) else ByteArray.empty) = x at *
  generalize (if blE s m = 0 then 2 + blL s else 0) = y at *
  generalize blE s m = z at *
  go_enter Tryz.func138, Tryz.ntmps138
  go_wp2_with fail
  refine C.out.mono ?_
  rintro r w' ⟨rfl, q⟩
  have HQ := Lib.hid q
  clear q
  go_wp2_with fail
  go_ret3
  exact ⟨rfl, HQ.out⟩
theorem blE_yes (s : ByteArray) (m : Int) (h : blE s m = 0) : 2 + blL s ≤ s.size := by
  unfold blE at h
  split at h
  · exact absurd h (by decide)
  · split at h
    · exact absurd h (by decide)
    · split at h
      · exact absurd h (by decide)
      · omega
theorem rblob_any (g : Nat) (s : ByteArray) (e m : Int) (w : World) (h : RD w g s e) (hs : s.size ≤ 1000000000) : Calls Tryz.prog 87 #[.pointer (some ⟨g, 0, none⟩), .int .i64 m] w fun r w' =>
    r = .returned (.string (rdT e (blE s m) (s.extract 2 (2 + blL s)))) ∧ RD w' g (rdS s e (2 + blL s) (blE s m)) (failE e (blE s m)) ∧ Ch g w w' := by
  have C : Hid (∀ t, Calls Tryz.prog 137 #[.pointer (some ⟨g, 0, none⟩), .func (.func 138) #[] #[.pointer (some ⟨w.heap.size, 0, none⟩)]] (w.alloc (.cells #[.int .i64 m] t)) fun r w' =>
      r = .returned (.string (rdT e (blE s m) (s.extract 2 (2 + blL s)))) ∧ RD w' g (rdS s e (2 + blL s) (blE s m)) (failE e (blE s m)) ∧ Ch g w w') := by
    intro t
    have hm : (w.alloc (.cells #[.int .i64 m] t)).cell? ⟨w.heap.size, 0, none⟩ = some (.int .i64 m) := by rw [World.cell?_alloc_at _ _ _ _ rfl]; rfl
    have T := takeBlob g s e _ w.heap.size (h.q ((Q.refl w).alloc _)) hs _ _ _ (fun h => by rw [if_pos h]; exact blE_yes s m h) (blobPart s m w.heap.size _ hs hm)
    by_cases hz : blE s m = 0
    · rw [if_pos hz, if_pos hz] at T
      exact T.mono fun _ _ ⟨a, b, c⟩ => ⟨a, b, (Ch.of_q ((Q.refl w).alloc _) g).trans c⟩
    · rw [rdT_ne _ _ _ hz, rdS_ne _ _ _ _ hz] at T
      rw [rdT_ne _ _ _ hz, rdS_ne _ _ _ _ hz]
      exact T.mono fun _ _ ⟨a, b, c⟩ => ⟨a, b, (Ch.of_q ((Q.refl w).alloc _) g).trans c⟩
  clear h
  go_enter Tryz.func87, Tryz.ntmps87
  go_wp2_with fail
  refine (C.out _).mono ?_
  rintro r w' ⟨rfl, h'⟩
  have H' := Lib.hid h'
  clear h'
  go_wp2_with fail
  go_ret
  exact ⟨rfl, H'.out⟩
end Go.Proofs.YtjiepemapffgjaaGreatDoor.Cod

namespace Go.Proofs.YtjiepemapffgjaaGreatDoor.Cod
open Go.RowKit
open Mem Num
set_option linter.unusedVariables false

structure RR (w : World) (g : Nat) (S : ByteArray) (at_ : Nat) (e : Int) : Prop where
  s0 : w.cell? ⟨g, 0, none⟩ = some (.string S)
  a1 : w.cell? ⟨g, 1, none⟩ = some (.int .i64 at_)
  e2 : w.cell? ⟨g, 2, none⟩ = some (.int .i64 e)
  fz : ∀ j, w.frozen? ⟨g, j, none⟩ = false
theorem RR.lt {w : World} {g : Nat} {S : ByteArray} {a : Nat} {e : Int} (h : RR w g S a e) : g < w.heap.size := World.block_lt_of_cell? _ _ h.s0
theorem RR.ch {w w' : World} {g g' : Nat} {S : ByteArray} {a : Nat} {e : Int} (h : RR w g S a e) (c : Ch g' w w') (hne : g ≠ g') : RR w' g S a e :=
  ⟨c.cell h.s0 hne, c.cell h.a1 hne, c.cell h.e2 hne, fun j => by rw [c.frozen (a := ⟨g, j, none⟩) h.lt hne]; exact h.fz j⟩
theorem RR.q {w w' : World} {g : Nat} {S : ByteArray} {a : Nat} {e : Int} (h : RR w g S a e) (q : Q w w') : RR w' g S a e :=
  ⟨by rw [q.cell (p := ⟨g, 0, none⟩) h.lt]; exact h.s0, by rw [q.cell (p := ⟨g, 1, none⟩) h.lt]; exact h.a1, by rw [q.cell (p := ⟨g, 2, none⟩) h.lt]; exact h.e2, fun j => by rw [q.frozen (p := ⟨g, j, none⟩) h.lt]; exact h.fz j⟩
theorem RR.setE {w : World} {g : Nat} {S : ByteArray} {a : Nat} {e : Int} (h : RR w g S a e) (e' : Int) : RR (w.setCell ⟨g, 2, none⟩ (.int .i64 e')) g S a e' :=
  ⟨by rw [World.cell?_setCell_other (h := by intro h; injection h; omega)]; exact h.s0, by rw [World.cell?_setCell_other (h := by intro h; injection h; omega)]; exact h.a1, World.cell?_setCell_same _ _ _ h.e2, fun j => by simp [h.fz]⟩
theorem RR.setA {w : World} {g : Nat} {S : ByteArray} {a : Nat} {e : Int} (h : RR w g S a e) (a' : Nat) : RR (w.setCell ⟨g, 1, none⟩ (.int .i64 a')) g S a' e :=
  ⟨by rw [World.cell?_setCell_other (h := by intro h; injection h; omega)]; exact h.s0, World.cell?_setCell_same _ _ _ h.a1, by rw [World.cell?_setCell_other (h := by intro h; injection h; omega)]; exact h.e2, fun j => by simp [h.fz]⟩

set_option maxHeartbeats 1000000 in
theorem rtake_err (g : Nat) (S : ByteArray) (a : Nat) (e : Int) (n : Nat) (w : World) (h : RR w g S a e) (he : e ≠ 0) : Calls Tryz.prog 142 #[.pointer (some ⟨g, 0, none⟩), .int .i64 n] w fun r w' =>
    r = .returned (.string ByteArray.empty) ∧ RR w' g S a e ∧ Ch g w w' := by
  have c2 := h.e2
  have H := Lib.hid h
  have h0' : (e == 0) = false := by simpa using he
  have h0'' : (e != 0) = true := by simpa using he
  clear h he
  go_enter Tryz.func142, Tryz.ntmps142
  go_wp2_with fail
  go_quiet (fail)
  go_wp2_with fail
  go_ret
  exact ⟨rfl, H.out.q ((Q.refl _).drewN _), (Ch.refl _ _).drewN _⟩
set_option maxHeartbeats 1000000 in
theorem rtake_short (g : Nat) (S : ByteArray) (a : Nat) (n : Nat) (w : World) (h : RR w g S a 0) (hs : S.size ≤ 1000000000) (ha : a ≤ S.size) (hn : n ≤ 1000000000) (hsh : S.size < a + n) : Calls Tryz.prog 142 #[.pointer (some ⟨g, 0, none⟩), .int .i64 n] w fun r w' =>
    r = .returned (.string ByteArray.empty) ∧ RR w' g S a 3 ∧ Ch g w w' := by
  have c0 := h.s0
  have c1 := h.a1
  have c2 := h.e2
  have f2 := h.fz 2
  have H := Lib.hid h
  have wr : IntKind.i64.wrap ((S.size : Int) - (a : Int)) = (S.size : Int) - (a : Int) := IntWalk.i64_in _ (by omega)
  have td : decide ((S.size : Int) - (a : Int) < (n : Int)) = true := by simp; omega
  clear h
  go_enter Tryz.func142, Tryz.ntmps142
  go_wp2_with fail
  go_quiet (fail)
  go_wp2_with fail
  go_ret
  exact ⟨rfl, (H.out.q ((Q.refl _).drewN _)).setE 3, ((Ch.refl _ _).drewN _).trans (Ch.set _ _ _ _)⟩
set_option maxHeartbeats 1000000 in
theorem rtake_yes (g : Nat) (S : ByteArray) (a : Nat) (n : Nat) (w : World) (h : RR w g S a 0) (hs : S.size ≤ 1000000000) (hn : n ≤ 1000000000) (hsh : a + n ≤ S.size) : Calls Tryz.prog 142 #[.pointer (some ⟨g, 0, none⟩), .int .i64 n] w fun r w' =>
    r = .returned (.string (S.extract a (a + n))) ∧ RR w' g S (a + n) 0 ∧ Ch g w w' := by
  have c0 := h.s0
  have c1 := h.a1
  have c2 := h.e2
  have f1 := h.fz 1
  have H := Lib.hid h
  have wr : IntKind.i64.wrap ((S.size : Int) - (a : Int)) = (S.size : Int) - (a : Int) := IntWalk.i64_in _ (by omega)
  have wr2 : IntKind.i64.wrap ((a : Int) + (n : Int) - (n : Int)) = (a : Int) := by rw [show (a : Int) + (n : Int) - (n : Int) = (a : Int) by omega]; exact IntWalk.i64_in _ (by omega)
  have e1 : (a : Int) + (n : Int) - (n : Int) = (a : Int) := by omega
  have td : decide ((S.size : Int) - (a : Int) < (n : Int)) = false := by simp; omega
  have a0 : (0 : Int) ≤ (a : Int) := by omega
  have a1 : (a : Int) ≤ (a : Int) + (n : Int) := by omega
  have a2 : (a : Int) + (n : Int) ≤ (S.size : Int) := by omega
  have a3 : ((a : Int) + (n : Int)).toNat = a + n := by omega
  have HF : Hid (∀ m k, RR (((w.drewN m).setCell ⟨g, 1, none⟩ (.int .i64 ((a : Int) + (n : Int)))).drewN k) g S (a + n) 0) := fun m k => by
    have := (h.q ((Q.refl w).drewN m)).setA (a + n)
    rw [show ((a + n : Nat) : Int) = (a : Int) + (n : Int) by omega] at this
    exact this.q ((Q.refl _).drewN _)
  clear h
  go_enter Tryz.func142, Tryz.ntmps142
  go_wp2_with fail
  go_quiet (fail)
  go_wp2_with fail
  go_quiet (fail)
  go_wp2_with fail
  go_ret
  exact ⟨rfl, HF.out _ _, (((Ch.refl _ _).drewN _).trans (Ch.set _ _ _ _)).drewN _⟩

/-- What is left from a place on. -/
def rest (S : ByteArray) (a : Nat) : ByteArray := S.extract a S.size
theorem rest_size (S : ByteArray) (a : Nat) : (rest S a).size = S.size - a := by unfold rest; rw [ByteArray.size_extract]; omega
theorem bt_ext (S : ByteArray) (a b i : Nat) (hb : b ≤ S.size) (hi : a + i < b) : PlainAid.bt (S.extract a b) i = PlainAid.bt S (a + i) := by
  unfold PlainAid.bt
  rw [dif_pos (by rw [ByteArray.size_extract]; omega), dif_pos (by omega), ByteArray.getElem_extract]
theorem bt_rest (S : ByteArray) (a i : Nat) (hi : a + i < S.size) : PlainAid.bt (rest S a) i = PlainAid.bt S (a + i) := bt_ext S a S.size i (Nat.le_refl _) hi
theorem rest_ext (S : ByteArray) (a k : Nat) : (rest S a).extract k (rest S a).size = rest S (a + k) := by
  rw [rest_size]
  unfold rest
  rw [ByteArray.extract_extract]
  congr 1
  omega
theorem rest_part (S : ByteArray) (a i j : Nat) (h : a + j ≤ S.size) : (rest S a).extract i j = S.extract (a + i) (a + j) := by
  unfold rest
  rw [ByteArray.extract_extract]
  congr 1
  omega
def rdA (a : Nat) (e : Int) (k : Nat) (pe : Int) : Nat := if e = 0 ∧ pe = 0 then a + k else a
theorem rdS_rest (S : ByteArray) (a : Nat) (e : Int) (k : Nat) (pe : Int) : rdS (rest S a) e k pe = rest S (rdA a e k pe) := by
  unfold rdS rdA
  split
  · exact rest_ext S a k
  · rfl
theorem rdA_le (S : ByteArray) (a : Nat) (e : Int) (k : Nat) (pe : Int) (ha : a ≤ S.size) (hk : pe = 0 → k ≤ (rest S a).size) : rdA a e k pe ≤ S.size := by
  unfold rdA
  split
  · rename_i h; have := hk h.2; rw [rest_size] at this; omega
  · exact ha
theorem rdA_ne (a : Nat) (e : Int) (k : Nat) (pe : Int) (h : e ≠ 0 ∨ pe ≠ 0) : rdA a e k pe = a := by unfold rdA; rw [if_neg (fun x => h.elim (fun y => y x.1) (fun y => y x.2))]
theorem failE_ne (e pe : Int) (h : e ≠ 0) : failE e pe = e := by unfold failE; rw [if_neg h]
theorem rdT_err (e pe : Int) (v : ByteArray) (h : e ≠ 0) : rdT e pe v = ByteArray.empty := by unfold rdT; rw [if_neg (fun x => h x.1)]
theorem isEmpty_pos (t : ByteArray) (h : 0 < t.size) : t.toList.isEmpty = false := by
  rw [ByteArray.toList_eq]
  cases hl : t.data.toList with
  | nil => have h2 : t.size = 0 := by rw [Lib.size_eq, hl]; rfl
           omega
  | cons x l => rfl

/-- The three ways of the document's take, in one word. -/
theorem rtake_any (g : Nat) (S : ByteArray) (a : Nat) (e : Int) (n : Nat) (w : World) (h : RR w g S a e) (hs : S.size ≤ 1000000000) (ha : a ≤ S.size) (hn : n ≤ 1000000000) (pe : Int) (hp : pe = if a + n ≤ S.size then 0 else 3) :
    Calls Tryz.prog 142 #[.pointer (some ⟨g, 0, none⟩), .int .i64 n] w fun r w' => r = .returned (.string (rdT e pe (S.extract a (a + n)))) ∧ RR w' g S (rdA a e n pe) (failE e pe) ∧ Ch g w w' := by
  by_cases he : e = 0
  · subst he
    by_cases hk : a + n ≤ S.size
    · rw [if_pos hk] at hp; subst hp
      exact rtake_yes g S a n w h hs hn hk
    · rw [if_neg hk] at hp; subst hp
      exact rtake_short g S a n w h hs ha hn (by omega)
  · rw [rdT_err _ _ _ he, rdA_ne _ _ _ _ (.inl he), failE_ne _ _ he]
    exact rtake_err g S a e n w h he

theorem xhash_any (g : Nat) (S : ByteArray) (a : Nat) (e : Int) (w : World) (h : RR w g S a e) (hs : S.size ≤ 1000000000) (ha : a ≤ S.size) : Calls Tryz.prog 109 #[.pointer (some ⟨g, 0, none⟩)] w fun r w' =>
    r = .returned (.string (rdT e (haE (rest S a)) ((rest S a).extract 0 16))) ∧ RR w' g S (rdA a e 16 (haE (rest S a))) (failE e (haE (rest S a))) ∧ Ch g w w' := by
  have C := Lib.hid (rtake_any g S a e 16 w h hs ha (by omega) (haE (rest S a)) (by unfold haE; rw [rest_size]; by_cases hk : a + 16 ≤ S.size; rw [if_pos hk, if_pos (by omega)]; rw [if_neg hk, if_neg (by omega)]))
  have E : Hid (rdT e (haE (rest S a)) (S.extract a (a + 16)) = rdT e (haE (rest S a)) ((rest S a).extract 0 16)) := by
    show _ = _
    by_cases h : 16 ≤ S.size - a
    · rw [rest_part S a 0 16 (by omega)]
      rfl
    · have : haE (rest S a) = 3 := by unfold haE; rw [rest_size, if_neg h]
      rw [rdT_ne _ _ _ (by rw [this]; decide), rdT_ne _ _ _ (by rw [this]; decide)]
  clear h
  go_enter Tryz.func109, Tryz.ntmps109
  go_wp2_with fail
  refine C.out.mono ?_
  rintro r w' ⟨rfl, h'⟩
  rw [E.out]
  have H' := Lib.hid h'
  clear h'
  go_wp2_with fail
  go_ret
  exact ⟨rfl, H'.out⟩

set_option maxHeartbeats 1000000 in
theorem xbyte_any (g : Nat) (S : ByteArray) (a : Nat) (e : Int) (w : World) (h : RR w g S a e) (hs : S.size ≤ 1000000000) (ha : a ≤ S.size) : Calls Tryz.prog 110 #[.pointer (some ⟨g, 0, none⟩)] w fun r w' =>
    r = .returned (.int .i64 (rdV e (byE (rest S a)) (PlainAid.bt (rest S a) 0))) ∧ RR w' g S (rdA a e 1 (byE (rest S a))) (failE e (byE (rest S a))) ∧ Ch g w w' := by
  have C := Lib.hid (rtake_any g S a e 1 w h hs ha (by omega) (byE (rest S a)) (by unfold byE; rw [rest_size]; by_cases hk : a + 1 ≤ S.size; rw [if_pos hk, if_pos (by omega)]; rw [if_neg hk, if_neg (by omega)]))
  have HB : Hid (byE (rest S a) = if 1 ≤ S.size - a then 0 else 3) := by show _ = _; unfold byE; rw [rest_size]
  clear h
  by_cases hk : e = 0 ∧ byE (rest S a) = 0
  · have hz : 1 ≤ S.size - a := by by_cases h : 1 ≤ S.size - a; exact h; have := HB.out; rw [if_neg h, hk.2] at this; exact absurd this (by decide)
    have EV : Hid (rdV e (byE (rest S a)) (PlainAid.bt (rest S a) 0) = PlainAid.bt (S.extract a (a + 1)) 0) := by
      show _ = _; unfold rdV; rw [if_pos hk, bt_rest S a 0 (by omega), bt_ext S a (a + 1) 0 (by omega) (by omega)]
    have ET : rdT e (byE (rest S a)) (S.extract a (a + 1)) = S.extract a (a + 1) := by unfold rdT; rw [if_pos hk]
    rw [ET] at C
    have tz : (S.extract a (a + 1)).size = 1 := by rw [ByteArray.size_extract]; omega
    generalize S.extract a (a + 1) = t at *
    have he := isEmpty_pos t (by omega)
    have t0 : 0 < t.size := by omega
    have hb := PlainAid.get_bt t
    have b0 := PlainAid.bt_nonneg t 0
    have b1 := PlainAid.bt_le t 0
    clear tz hk
    go_enter Tryz.func110, Tryz.ntmps110
    go_wp2_with fail
    refine C.out.mono ?_
    rintro r w' ⟨rfl, h'⟩
    have H' := Lib.hid h'
    clear h'
    go_wp2_with fail
    go_ret
    exact ⟨by rw [EV.out]; rfl, H'.out⟩
  · have EV : Hid (rdV e (byE (rest S a)) (PlainAid.bt (rest S a) 0) = 0) := by show _ = _; unfold rdV; rw [if_neg hk]
    have ET : rdT e (byE (rest S a)) (S.extract a (a + 1)) = ByteArray.empty := by unfold rdT; rw [if_neg hk]
    rw [ET] at C
    clear hk
    go_enter Tryz.func110, Tryz.ntmps110
    go_wp2_with fail
    refine C.out.mono ?_
    rintro r w' ⟨rfl, h'⟩
    have H' := Lib.hid h'
    clear h'
    go_wp2_with fail
    go_ret
    exact ⟨by rw [EV.out]; rfl, H'.out⟩

theorem getN_congr (s t : ByteArray) : ∀ k, (∀ i, i < k → PlainAid.bt s i = PlainAid.bt t i) → getN s k = getN t k
  | 0, _ => rfl
  | k + 1, h => by show getN s k * 256 + _ = getN t k * 256 + _; rw [getN_congr s t k fun i hi => h i (by omega), h k (by omega)]
set_option maxHeartbeats 1000000 in
theorem xnum_any (g : Nat) (S : ByteArray) (a : Nat) (e : Int) (w : World) (h : RR w g S a e) (hs : S.size ≤ 1000000000) (ha : a ≤ S.size) : Calls Tryz.prog 108 #[.pointer (some ⟨g, 0, none⟩)] w fun r w' =>
    r = .returned (.int .u64 (rdV e (getE (rest S a)) (getV (rest S a)))) ∧ RR w' g S (rdA a e 8 (getE (rest S a))) (failE e (getE (rest S a))) ∧ Ch g w w' := by
  have C := Lib.hid (rtake_any g S a e 8 w h hs ha (by omega) (getE (rest S a)) (by unfold getE; rw [rest_size]; by_cases hk : a + 8 ≤ S.size; rw [if_pos hk, if_pos (by omega)]; rw [if_neg hk, if_neg (by omega)]))
  have HB : Hid (getE (rest S a) = if 8 ≤ S.size - a then 0 else 3) := by show _ = _; unfold getE; rw [rest_size]
  obtain ⟨t, ht, hts, hV⟩ : ∃ t, rdT e (getE (rest S a)) (S.extract a (a + 8)) = t ∧ t.size ≤ 8 ∧ rdV e (getE (rest S a)) (getV (rest S a)) = getV t := by
    refine ⟨_, rfl, ?_, ?_⟩
    · unfold rdT; split
      · rw [ByteArray.size_extract]; omega
      · show ByteArray.empty.size ≤ 8; simp
    · unfold rdT rdV
      by_cases hk : e = 0 ∧ getE (rest S a) = 0
      · rw [if_pos hk, if_pos hk]
        have hz : 8 ≤ S.size - a := by by_cases h : 8 ≤ S.size - a; exact h; have := HB.out; rw [if_neg h, hk.2] at this; exact absurd this (by decide)
        unfold getV
        rw [rest_size, if_pos hz, ByteArray.size_extract, if_pos (by omega)]
        exact getN_congr _ _ 8 fun i hi => by rw [bt_rest S a i (by omega), bt_ext S a (a + 8) i (by omega) (by omega)]
      · rw [if_neg hk, if_neg hk]
        rfl
  rw [ht] at C
  have HV := Lib.hid hV
  clear h ht hV
  have G : Hid (∀ w, Calls Tryz.prog 153 #[.string t] w fun e w' => e = .returned (.tuple #[.int .u64 (getV t), .int .i64 (getE t)]) ∧ w = w') := fun w => rget_any t w (by unfold maxLen; omega)
  go_enter Tryz.func108, Tryz.ntmps108
  go_wp2_with fail
  refine C.out.mono ?_
  rintro r w' ⟨rfl, h'⟩
  have H' := Lib.hid h'
  clear h'
  go_wp2_with fail
  refine (G.out w').mono ?_
  rintro r w'' ⟨rfl, rfl⟩
  go_wp2_with fail
  go_ret
  exact ⟨by rw [HV.out]; rfl, H'.out⟩

theorem xleft_any (g : Nat) (S : ByteArray) (a : Nat) (e : Int) (w : World) (h : RR w g S a e) (hs : S.size ≤ 1000000000) (ha : a ≤ S.size) : Calls Tryz.prog 94 #[.pointer (some ⟨g, 0, none⟩)] w fun r w' => r = .returned (.int .i64 (rest S a).size) ∧ Q w w' := by
  have c0 := h.s0
  have c1 := h.a1
  have E : Hid (((rest S a).size : Int) = (S.size : Int) - (a : Int)) := by show _ = _; rw [rest_size]; omega
  have wr : IntKind.i64.wrap ((S.size : Int) - (a : Int)) = (S.size : Int) - (a : Int) := IntWalk.i64_in _ (by omega)
  clear h
  go_enter Tryz.func94, Tryz.ntmps94
  go_wp2_with fail
  go_quiet (fail)
  go_wp2_with fail
  go_ret
  exact ⟨by rw [E.out]; rfl, (Q.refl _).drewN _⟩
theorem xend_any (g : Nat) (S : ByteArray) (a : Nat) (e : Int) (w : World) (h : RR w g S a e) (hs : S.size ≤ 1000000000) (ha : a ≤ S.size) : Calls Tryz.prog 144 #[.pointer (some ⟨g, 0, none⟩)] w fun r w' => r = .returned (.int .i64 (endE (rest S a) e)) ∧ Q w w' := by
  have c1 := h.e2
  have HE : Hid (endE (rest S a) e = if e = 0 then (if (rest S a).size = 0 then 0 else 4) else e) := rfl
  have LE := Lib.hid (xleft_any g S a e w h hs ha)
  clear h
  generalize rest S a = s at *
  by_cases h0 : e = 0
  · subst h0
    by_cases hs : s.size = 0
    · rw [if_pos rfl, if_pos hs] at HE
      have hs' : (s.size : Int) ≤ 0 := by omega
      clear hs
      go_enter Tryz.func144, Tryz.ntmps144
      go_wp2_with fail
      refine LE.out.mono ?_
      rintro e w' ⟨rfl, q'⟩
      have HQ := Lib.hid q'
      clear q'
      go_wp2_with fail
      go_ret
      exact ⟨ret1 HE.out.symm, HQ.out⟩
    · rw [if_pos rfl, if_neg hs] at HE
      have hs' : 0 < (s.size : Int) := by omega
      clear hs
      go_enter Tryz.func144, Tryz.ntmps144
      go_wp2_with fail
      refine LE.out.mono ?_
      rintro e w' ⟨rfl, q'⟩
      have HQ := Lib.hid q'
      clear q'
      go_wp2_with fail
      go_ret
      exact ⟨ret1 HE.out.symm, HQ.out⟩
  · rw [if_neg h0] at HE
    have h0' : (e == 0) = false := by simpa using h0
    have h0'' : (e != 0) = true := by simpa using h0
    go_enter Tryz.func144, Tryz.ntmps144
    go_wp2_with fail
    go_ret
    exact ⟨ret1 HE.out.symm, Q.refl _⟩
theorem xfail_any (g : Nat) (S : ByteArray) (a : Nat) (e f : Int) (w : World) (h : RR w g S a e) : Calls Tryz.prog 111 #[.pointer (some ⟨g, 0, none⟩), .int .i64 f] w fun r w' => r = .returned (.tuple #[]) ∧ RR w' g S a (failE e f) ∧ Ch g w w' := by
  have c1 := h.e2
  have f1 := h.fz 2
  have HE : Hid (failE e f = if e = 0 then f else e) := rfl
  have H := Lib.hid h
  clear h
  by_cases h0 : e = 0
  · subst h0
    rw [if_pos rfl] at HE
    go_enter Tryz.func111, Tryz.ntmps111
    go_wp2_with fail
    go_end0
    exact ⟨rfl, by rw [HE.out]; exact H.out.setE f, Ch.set _ _ _ _⟩
  · rw [if_neg h0] at HE
    have h0' : (e == 0) = false := by simpa using h0
    have h0'' : (e != 0) = true := by simpa using h0
    go_enter Tryz.func111, Tryz.ntmps111
    go_wp2_with fail
    go_end0
    exact ⟨rfl, by rw [HE.out]; exact H.out, Ch.refl _ _⟩
end Go.Proofs.YtjiepemapffgjaaGreatDoor.Cod

namespace Go.Proofs.YtjiepemapffgjaaGreatDoor.Cod
open Go.RowKit
open Mem Num
set_option linter.unusedVariables false

/-- What Blob answers, and leaves, as a word of its own. -/
def XB (g : Nat) (S : ByteArray) (a : Nat) (e m : Int) (w : World) (r : Ending) (w' : World) : Prop :=
  r = .returned (.string (rdT e (blE (rest S a) m) ((rest S a).extract 2 (2 + blL (rest S a))))) ∧ RR w' g S (rdA a e (2 + blL (rest S a)) (blE (rest S a) m)) (failE e (blE (rest S a) m)) ∧ Ch g w w'
theorem XB.no {g : Nat} {S : ByteArray} {a : Nat} {m : Int} {w w' : World} (pe : Int) (hp : blE (rest S a) m = pe) (h0 : pe ≠ 0) (h : RR w' g S a pe) (c : Ch g w w') : XB g S a 0 m w (.returned (.string ByteArray.empty)) w' := by
  subst hp
  refine ⟨?_, ?_, c⟩
  · rw [rdT_ne _ _ _ h0]
  · rw [rdA_ne _ _ _ _ (.inr h0)]
    exact h
set_option maxHeartbeats 1000000 in
theorem xblob_err (g : Nat) (S : ByteArray) (a : Nat) (e m : Int) (w : World) (h : RR w g S a e) (he : e ≠ 0) : Calls Tryz.prog 91 #[.pointer (some ⟨g, 0, none⟩), .int .i64 m] w (XB g S a e m w) := by
  have C := Lib.hid (rtake_err g S a e 2 w h he)
  have HF : Hid (∀ w', RR w' g S a e → Ch g w w' → XB g S a e m w (.returned (.string ByteArray.empty)) w') := fun w' h c => ⟨by rw [rdT_err _ _ _ he], by rw [rdA_ne _ _ _ _ (.inl he), failE_ne _ _ he]; exact h, c⟩
  have c1 := h.a1
  clear h he
  go_enter Tryz.func91, Tryz.ntmps91
  go_wp2_with fail
  refine C.out.mono ?_
  rintro r w' ⟨rfl, h'⟩
  have H' := Lib.hid h'
  clear h'
  go_wp2_with fail
  go_ret
  exact HF.out _ H'.out.1 H'.out.2
set_option maxHeartbeats 1000000 in
theorem xblob_short (g : Nat) (S : ByteArray) (a : Nat) (m : Int) (w : World) (h : RR w g S a 0) (hs : S.size ≤ 1000000000) (ha : a ≤ S.size) (h2 : S.size < a + 2) : Calls Tryz.prog 91 #[.pointer (some ⟨g, 0, none⟩), .int .i64 m] w (XB g S a 0 m w) := by
  have C := Lib.hid (rtake_short g S a 2 w h hs ha (by omega) h2)
  have HF : Hid (∀ w', RR w' g S a 3 → Ch g w w' → XB g S a 0 m w (.returned (.string ByteArray.empty)) w') := fun w' h c => XB.no 3 (by unfold blE; rw [rest_size, if_pos (by omega)]) (by decide) h c
  have c1 := h.a1
  clear h
  go_enter Tryz.func91, Tryz.ntmps91
  go_wp2_with fail
  refine C.out.mono ?_
  rintro r w' ⟨rfl, h'⟩
  have H' := Lib.hid h'
  clear h'
  go_wp2_with fail
  go_ret
  exact HF.out _ H'.out.1 H'.out.2
set_option maxHeartbeats 1000000 in
theorem xblob_more (g : Nat) (S : ByteArray) (a : Nat) (m : Int) (w : World) (h : RR w g S a 0) (hs : S.size ≤ 1000000000) (h2 : a + 2 ≤ S.size) : Calls Tryz.prog 91 #[.pointer (some ⟨g, 0, none⟩), .int .i64 m] w (XB g S a 0 m w) := by
  have C := Lib.hid (rtake_yes g S a 2 w h hs (by omega) h2)
  have e0 : PlainAid.bt (S.extract a (a + 2)) 0 = PlainAid.bt (rest S a) 0 := by rw [bt_ext S a (a + 2) 0 h2 (by omega), bt_rest S a 0 (by omega)]
  have e1 : PlainAid.bt (S.extract a (a + 2)) 1 = PlainAid.bt (rest S a) 1 := by rw [bt_ext S a (a + 2) 1 h2 (by omega), bt_rest S a 1 (by omega)]
  have hBL := blL_int (rest S a)
  rw [← e0, ← e1] at hBL
  have hLe := blL_le (rest S a)
  have HE : Hid (blE (rest S a) m = if m < (blL (rest S a) : Int) ∨ 4096 < blL (rest S a) then 5 else if S.size - a < 2 + blL (rest S a) then 3 else 0) := by
    show _ = _; unfold blE; rw [rest_size, if_neg (show ¬ S.size - a < 2 by omega)]
  have HY : Hid (blE (rest S a) m = 0 → a + 2 + blL (rest S a) ≤ S.size → ∀ w', RR w' g S (a + 2 + blL (rest S a)) 0 → Ch g w w' → XB g S a 0 m w (.returned (.string (S.extract (a + 2) (a + 2 + blL (rest S a))))) w') := by
    intro hz hl w' h c
    unfold XB
    rw [hz]
    refine ⟨?_, ?_, c⟩
    · unfold rdT; rw [if_pos ⟨rfl, rfl⟩, rest_part S a 2 _ (by omega), ← Nat.add_assoc]
    · unfold rdA failE; rw [if_pos ⟨rfl, rfl⟩, if_pos rfl, ← Nat.add_assoc]; exact h
  have HN : Hid (∀ (pe : Int) w', blE (rest S a) m = pe → pe ≠ 0 → RR w' g S a pe → Ch g w w' → XB g S a 0 m w (.returned (.string ByteArray.empty)) w') := fun pe w' hp h0 h c => XB.no pe hp h0 h c
  have T3 : Hid (∀ w1, RR w1 g S (a + 2) 0 → S.size < a + 2 + blL (rest S a) → Calls Tryz.prog 142 #[.pointer (some ⟨g, 0, none⟩), .int .i64 (blL (rest S a))] w1 fun r w' => r = .returned (.string ByteArray.empty) ∧ RR w' g S (a + 2) 3 ∧ Ch g w1 w') := fun w1 h1 hl => rtake_short g S (a + 2) _ w1 h1 hs h2 (by omega) hl
  have T4 : Hid (∀ w1, RR w1 g S (a + 2) 0 → a + 2 + blL (rest S a) ≤ S.size → Calls Tryz.prog 142 #[.pointer (some ⟨g, 0, none⟩), .int .i64 (blL (rest S a))] w1 fun r w' => r = .returned (.string (S.extract (a + 2) (a + 2 + blL (rest S a)))) ∧ RR w' g S (a + 2 + blL (rest S a)) 0 ∧ Ch g w1 w') := fun w1 h1 hl => rtake_yes g S (a + 2) _ w1 h1 hs (by omega) hl
  have tz : (S.extract a (a + 2)).size = 2 := by rw [ByteArray.size_extract]; omega
  clear e0 e1
  generalize S.extract a (a + 2) = t at *
  generalize S.extract (a + 2) (a + 2 + blL (rest S a)) = u at *
  generalize blE (rest S a) m = pe at *
  generalize blL (rest S a) = L at *
  have he := isEmpty_pos t (by omega)
  have t0 : 0 < t.size := by omega
  have t1 : 1 < t.size := by omega
  have t0' : (0 : Int) < (t.size : Int) := by omega
  have t1' : (1 : Int) < (t.size : Int) := by omega
  have hb := PlainAid.get_bt t
  have b0 := PlainAid.bt_nonneg t 0
  have b1 := PlainAid.bt_le t 0
  have b2 := PlainAid.bt_nonneg t 1
  have b3 := PlainAid.bt_le t 1
  have wr0 : IntKind.i64.wrap (PlainAid.bt t 0 * 256) = PlainAid.bt t 0 * 256 := IntWalk.i64_in _ (by omega)
  have wr1 : IntKind.i64.wrap (L : Int) = (L : Int) := IntWalk.i64_in _ (by omega)
  have c1 := h.a1
  clear h tz
  by_cases h3 : m < (L : Int)
  · rw [if_pos (Or.inl h3)] at HE
    have t3 : decide (m < (L : Int)) = true := by simp; omega
    go_enter Tryz.func91, Tryz.ntmps91
    go_wp2_with fail
    refine C.out.mono ?_
    rintro r w1 ⟨rfl, h', k'⟩
    have f1 := h'.fz 1
    have f2 := h'.fz 2
    have d1 := h'.a1
    have d2 := h'.e2
    have HF : Hid (∀ n, XB g S a 0 m w (.returned (.string ByteArray.empty)) ((((w1.drewN n).setCell ⟨g, 2, none⟩ (.int .i64 5)).setCell ⟨g, 1, none⟩ (.int .i64 a)))) := fun n =>
      HN.out 5 _ HE.out (by decide) (((h'.q ((Q.refl w1).drewN n)).setE 5).setA a) (((k'.drewN n).trans (Ch.set _ _ _ _)).trans (Ch.set _ _ _ _))
    clear h' k' C HY T3 T4 HN
    go_wp2_with fail
    go_quiet (fail)
    go_wp2_with fail
    go_ret
    exact HF.out _
  · have t3 : decide (m < (L : Int)) = false := by simp; omega
    by_cases h4 : 4096 < L
    · rw [if_pos (Or.inr h4)] at HE
      have t4 : decide ((4096 : Int) < (L : Int)) = true := by simp; omega
      go_enter Tryz.func91, Tryz.ntmps91
      go_wp2_with fail
      refine C.out.mono ?_
      rintro r w1 ⟨rfl, h', k'⟩
      have f1 := h'.fz 1
      have f2 := h'.fz 2
      have d1 := h'.a1
      have d2 := h'.e2
      have HF : Hid (∀ n, XB g S a 0 m w (.returned (.string ByteArray.empty)) ((((w1.drewN n).setCell ⟨g, 2, none⟩ (.int .i64 5)).setCell ⟨g, 1, none⟩ (.int .i64 a)))) := fun n =>
        HN.out 5 _ HE.out (by decide) (((h'.q ((Q.refl w1).drewN n)).setE 5).setA a) (((k'.drewN n).trans (Ch.set _ _ _ _)).trans (Ch.set _ _ _ _))
      clear h' k' C HY T3 T4 HN
      go_wp2_with fail
      go_quiet (fail)
      go_wp2_with fail
      go_ret
      exact HF.out _
    · have t4 : decide ((4096 : Int) < (L : Int)) = false := by simp; omega
      rw [if_neg (by omega)] at HE
      by_cases h5 : S.size - a < 2 + L
      · rw [if_pos h5] at HE
        go_enter Tryz.func91, Tryz.ntmps91
        go_wp2_with fail
        refine C.out.mono ?_
        rintro r w1 ⟨rfl, h', k'⟩
        have H1 := Lib.hid h'
        have K1 := Lib.hid k'
        clear h' k' C HY T4
        go_wp2_with fail
        go_quiet (fail)
        go_wp2_with fail
        refine (T3.out (w1.drewN nq) (H1.out.q ((Q.refl w1).drewN nq)) (by omega)).mono ?_
        rintro r w2 ⟨rfl, h', k'⟩
        have f1 := h'.fz 1
        have d1 := h'.a1
        have d2 := h'.e2
        have HF : Hid (XB g S a 0 m w (.returned (.string ByteArray.empty)) (w2.setCell ⟨g, 1, none⟩ (.int .i64 a))) :=
          HN.out 3 _ HE.out (by decide) (h'.setA a) (((K1.out.drewN _).trans k').trans (Ch.set _ _ _ _))
        clear h' k' T3 HN
        go_wp2_with fail
        go_ret
        exact HF.out
      · rw [if_neg h5] at HE
        go_enter Tryz.func91, Tryz.ntmps91
        go_wp2_with fail
        refine C.out.mono ?_
        rintro r w1 ⟨rfl, h', k'⟩
        have H1 := Lib.hid h'
        have K1 := Lib.hid k'
        clear h' k' C HN T3
        go_wp2_with fail
        go_quiet (fail)
        go_wp2_with fail
        refine (T4.out (w1.drewN nq) (H1.out.q ((Q.refl w1).drewN nq)) (by omega)).mono ?_
        rintro r w2 ⟨rfl, h', k'⟩
        have d2 := h'.e2
        have HF : Hid (XB g S a 0 m w (.returned (.string u)) w2) :=
          HY.out HE.out (by omega) w2 h' ((K1.out.drewN _).trans k')
        clear h' k' T4 HY
        go_wp2_with fail
        go_ret
        exact HF.out
theorem xblob_any (g : Nat) (S : ByteArray) (a : Nat) (e m : Int) (w : World) (h : RR w g S a e) (hs : S.size ≤ 1000000000) (ha : a ≤ S.size) : Calls Tryz.prog 91 #[.pointer (some ⟨g, 0, none⟩), .int .i64 m] w (XB g S a e m w) := by
  by_cases he : e = 0
  · subst he
    by_cases h2 : a + 2 ≤ S.size
    · exact xblob_more g S a m w h hs h2
    · exact xblob_short g S a m w h hs ha (by omega)
  · exact xblob_err g S a e m w h he
end Go.Proofs.YtjiepemapffgjaaGreatDoor.Cod

