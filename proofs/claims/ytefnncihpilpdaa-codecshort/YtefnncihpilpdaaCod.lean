/-
  Layer 3: memory of which one block may turn; what a Reader is in memory.
-/
import Derived.Test.YtefnncihpilpdaaNum3
import Derived.Test.YtefnncihpilpdaaShelf
import Derived.Maps.AppendAt
import Derived.Deep.AppendLies
namespace Go.Proofs.Ytefnncihpilpdaa.Cod
open Go.RowKit
open Mem Num
set_option linter.unusedVariables false

/-- Of what was there only block g may have turned. -/
def Ch (g : Nat) (w w' : World) : Prop := w.grownBy w' (some g)
theorem Ch.refl (g : Nat) (w : World) : Ch g w w := World.grownBy.refl w _
theorem Ch.trans {g : Nat} {a b c : World} (h : Ch g a b) (k : Ch g b c) : Ch g a c := World.grownBy.trans h k
theorem Ch.of_q {a b : World} (h : Q a b) (g : Nat) : Ch g a b := ⟨h.os, h.tape, h.output, h.size, fun k hk _ => h.block k hk⟩
theorem Ch.q {W a b : World} {g : Nat} (k : Ch g a b) (h : Q W a) (hg : W.heap.size ≤ g) : Q W b := Below.grown h k h.size (by intro j e; cases e; exact hg)
theorem Ch.cell {g : Nat} {w w' : World} (c : Ch g w w') {a : Addr} {v : Value} (h : w.cell? a = some v) (hne : a.block ≠ g) : w'.cell? a = some v := World.grownBy.cell c h (fun e => hne (by injection e))
theorem Ch.frozen {g : Nat} {w w' : World} (c : Ch g w w') {a : Addr} (hl : a.block < w.heap.size) (hne : a.block ≠ g) : w'.frozen? a = w.frozen? a := World.grownBy.frozen_far c a hl (fun e => hne (by injection e))
theorem Ch.set (w : World) (g j : Nat) (v : Value) : Ch g w (w.setCell ⟨g, j, none⟩ v) :=
  ⟨rfl, rfl, rfl, by simp [World.setCell], fun k _ hk => Below.heap_setCell _ _ _ _ (fun e => hk (by rw [e]))⟩
theorem Ch.alloc {g : Nat} {a b : World} (h : Ch g a b) (o : Obj) : Ch g a (b.alloc o) := h.trans (World.grownBy_alloc b o _)
theorem Ch.drewN {g : Nat} {a b : World} (h : Ch g a b) (n : Nat) : Ch g a (b.drewN n) := ⟨h.os, h.tape, h.output, h.size, h.block⟩
theorem Ch.drew {g : Nat} {a b : World} (h : Ch g a b) : Ch g a b.drew := ⟨h.os, h.tape, h.output, h.size, h.block⟩

/-- A Reader at g: what is left, the error noted. -/
structure RD (w : World) (g : Nat) (s : ByteArray) (e : Int) : Prop where
  s0 : w.cell? ⟨g, 0, none⟩ = some (.string s)
  e1 : w.cell? ⟨g, 1, none⟩ = some (.int .i64 e)
  fz : ∀ j, w.frozen? ⟨g, j, none⟩ = false
theorem RD.lt {w : World} {g : Nat} {s : ByteArray} {e : Int} (h : RD w g s e) : g < w.heap.size := World.block_lt_of_cell? _ _ h.s0
theorem RD.ch {w w' : World} {g g' : Nat} {s : ByteArray} {e : Int} (h : RD w g s e) (c : Ch g' w w') (hne : g ≠ g') : RD w' g s e :=
  ⟨c.cell h.s0 hne, c.cell h.e1 hne, fun j => by rw [c.frozen (a := ⟨g, j, none⟩) h.lt hne]; exact h.fz j⟩
theorem RD.q {w w' : World} {g : Nat} {s : ByteArray} {e : Int} (h : RD w g s e) (q : Q w w') : RD w' g s e :=
  ⟨by rw [q.cell (p := ⟨g, 0, none⟩) h.lt]; exact h.s0, by rw [q.cell (p := ⟨g, 1, none⟩) h.lt]; exact h.e1, fun j => by rw [q.frozen (p := ⟨g, j, none⟩) h.lt]; exact h.fz j⟩
theorem RD.setE {w : World} {g : Nat} {s : ByteArray} {e : Int} (h : RD w g s e) (e' : Int) : RD (w.setCell ⟨g, 1, none⟩ (.int .i64 e')) g s e' :=
  ⟨by rw [World.cell?_setCell_other (h := by intro h; injection h; omega)]; exact h.s0, World.cell?_setCell_same _ _ _ h.e1, fun j => by simp [h.fz]⟩
theorem RD.setS {w : World} {g : Nat} {s : ByteArray} {e : Int} (h : RD w g s e) (s' : ByteArray) : RD (w.setCell ⟨g, 0, none⟩ (.string s')) g s' e :=
  ⟨World.cell?_setCell_same _ _ _ h.s0, by rw [World.cell?_setCell_other (h := by intro h; injection h; omega)]; exact h.e1, fun j => by simp [h.fz]⟩

theorem clone_any (s : ByteArray) (w : World) (hs : s.size ≤ 1000000000) : Calls Try.prog 56 #[.string s] w fun e w' => e = .returned (.string s) ∧ Q w w' := by
  have C := Lib.hid (Try.stringslite_Clone s w (by omega))
  go_enter Try.func56, Try.ntmps56
  go_wp2_with fail
  refine C.out.mono ?_
  rintro e w' ⟨rfl, hb⟩
  go_wp2_with fail
  go_ret
  exact ⟨rfl, hb⟩

theorem read_any (s : ByteArray) (w : World) : Calls Try.prog 20 #[.string s] w fun e w' => e = .returned (.pointer (some ⟨w.heap.size, 0, none⟩)) ∧ RD w' w.heap.size s 0 ∧ Q w w' := by
  go_enter Try.func20, Try.ntmps20
  go_wp2_with fail
  go_ret
  refine ⟨rfl, ⟨?_, ?_, made_frozen w _ _⟩, (Q.refl w).alloc _⟩
  · rw [World.cell?_alloc_at _ _ _ _ rfl]; rfl
  · rw [World.cell?_alloc_at _ _ _ _ rfl]; rfl

theorem left_any (g : Nat) (s : ByteArray) (e : Int) (w : World) (h : RD w g s e) : Calls Try.prog 31 #[.pointer (some ⟨g, 0, none⟩)] w fun r w' => r = .returned (.int .i64 s.size) ∧ w = w' := by
  have c0 := h.s0
  clear h
  go_enter Try.func31, Try.ntmps31
  go_wp2_with fail
  go_ret
  exact ⟨rfl, rfl⟩

def endE (s : ByteArray) (e : Int) : Int := if e = 0 then (if s.size = 0 then 0 else 4) else e
theorem end_any (g : Nat) (s : ByteArray) (e : Int) (w : World) (h : RD w g s e) : Calls Try.prog 33 #[.pointer (some ⟨g, 0, none⟩)] w fun r w' => r = .returned (.int .i64 (endE s e)) ∧ w = w' := by
  have c1 := h.e1
  have HE : Hid (endE s e = if e = 0 then (if s.size = 0 then 0 else 4) else e) := rfl
  have LE := Lib.hid (left_any g s e w h)
  clear h
  by_cases h0 : e = 0
  · subst h0
    by_cases hs : s.size = 0
    · rw [if_pos rfl, if_pos hs] at HE
      have hs' : (s.size : Int) ≤ 0 := by omega
      clear hs
      go_enter Try.func33, Try.ntmps33
      go_wp2_with fail
      refine LE.out.mono ?_
      rintro e w' ⟨rfl, rfl⟩
      go_wp2_with fail
      go_ret
      exact ⟨ret1 HE.out.symm, rfl⟩
    · rw [if_pos rfl, if_neg hs] at HE
      have hs' : 0 < (s.size : Int) := by omega
      clear hs
      go_enter Try.func33, Try.ntmps33
      go_wp2_with fail
      refine LE.out.mono ?_
      rintro e w' ⟨rfl, rfl⟩
      go_wp2_with fail
      go_ret
      exact ⟨ret1 HE.out.symm, rfl⟩
  · rw [if_neg h0] at HE
    have h0' : (e == 0) = false := by simpa using h0
    have h0'' : (e != 0) = true := by simpa using h0
    go_enter Try.func33, Try.ntmps33
    go_wp2_with fail
    go_ret
    exact ⟨ret1 HE.out.symm, rfl⟩

/-- The first error stays. -/
def failE (e f : Int) : Int := if e = 0 then f else e
theorem fail_any (g : Nat) (s : ByteArray) (e f : Int) (w : World) (h : RD w g s e) : Calls Try.prog 29 #[.pointer (some ⟨g, 0, none⟩), .int .i64 f] w fun r w' => r = .returned (.tuple #[]) ∧ RD w' g s (failE e f) ∧ Ch g w w' := by
  have c1 := h.e1
  have f1 := h.fz 1
  have HE : Hid (failE e f = if e = 0 then f else e) := rfl
  have H := Lib.hid h
  clear h
  by_cases h0 : e = 0
  · subst h0
    rw [if_pos rfl] at HE
    go_enter Try.func29, Try.ntmps29
    go_wp2_with fail
    go_end0
    exact ⟨rfl, by rw [HE.out]; exact H.out.setE f, Ch.set _ _ _ _⟩
  · rw [if_neg h0] at HE
    have h0' : (e == 0) = false := by simpa using h0
    have h0'' : (e != 0) = true := by simpa using h0
    go_enter Try.func29, Try.ntmps29
    go_wp2_with fail
    go_end0
    exact ⟨rfl, by rw [HE.out]; exact H.out, Ch.refl _ _⟩
end Go.Proofs.Ytefnncihpilpdaa.Cod
