/-
  Layer 4: what tokens are, as plain functions; memory of which one block may turn; the walks of Next, walk, its closure, and the document's Next.
-/
import Derived.Test.YtnjkikdcalfjgaaDoorKit5
import Derived.Test.YtnjkikdcalfjgaaDoorNum4
import Derived.Test.YtnjkikdcalfjgaaDoorShelf
import Derived.Maps.AppendAt
import Derived.Deep.AppendLies
namespace Go.Proofs.YtnjkikdcalfjgaaDoor.Pay
open Go.RowKit
open Mem Sh Num
set_option linter.unusedVariables false

/-- Of what was there only block g may have turned. -/
def Ch (g : Nat) (w w' : World) : Prop := w.grownBy w' (some g)
theorem Ch.refl (g : Nat) (w : World) : Ch g w w := World.grownBy.refl w _
theorem Ch.trans {g : Nat} {a b c : World} (h : Ch g a b) (k : Ch g b c) : Ch g a c := World.grownBy.trans h k
theorem Ch.of_q {a b : World} (h : Q a b) (g : Nat) : Ch g a b := ⟨h.os, h.tape, h.output, h.size, fun k hk _ => h.block k hk⟩
theorem Ch.q {W a b : World} {g : Nat} (k : Ch g a b) (h : Q W a) (hg : W.heap.size ≤ g) : Q W b := Below.grown h k h.size (by intro j e; cases e; exact hg)
theorem Ch.cell {g : Nat} {w w' : World} (c : Ch g w w') {a : Addr} {v : Value} (h : w.cell? a = some v) (hne : a.block ≠ g) : w'.cell? a = some v := World.grownBy.cell c h (fun e => hne (by injection e))
theorem Ch.frozen {g : Nat} {w w' : World} (c : Ch g w w') {a : Addr} (hl : a.block < w.heap.size) (hne : a.block ≠ g) : w'.frozen? a = w.frozen? a := World.grownBy.frozen_far c a hl (fun e => hne (by injection e))
theorem Ch.set (w : World) (g j : Nat) (v : Value) : Ch g w (w.setCell ⟨g, j, none⟩ v) :=
  ⟨rfl, rfl, rfl, by simp [World.setCell], fun k _ hk => Below.heap_setCell _ _ _ _ (fun e => hk (by rw [e]))⟩
theorem Ch.alloc {g : Nat} {a b : World} (h : Ch g a b) (o : Obj) : Ch g a (b.alloc o) := h.trans (World.grownBy_alloc b o _)
theorem Ch.size {g : Nat} {w w' : World} (c : Ch g w w') : w.heap.size ≤ w'.heap.size := World.grownBy.size c
theorem GL.ch {g : Nat} {w w' : World} (h : GL w) (c : Ch g w w') (hg : 1 < g) : GL w' :=
  ⟨fun i hi => c.cell (h.i0 i hi) (by show (0 : Nat) ≠ g; omega), fun i hi => c.cell (h.k i hi) (by show (1 : Nat) ≠ g; omega)⟩

/-! ### Tokens -/
def pw : ByteArray := ⟨#[112, 97, 121, 119, 111, 114, 100]⟩
def sd : ByteArray := ⟨#[115, 101, 101, 100]⟩
def nextS (t : ByteArray) : ByteArray := tagS pw (fun _ => t) 1
def seedS (s : ByteArray) : ByteArray := tagS sd (fun _ => s) 1
/-- The token behind so many steps. -/
def farS (t : ByteArray) : Nat → ByteArray
  | 0 => t
  | k + 1 => nextS (farS t k)
theorem nextS_size (t : ByteArray) : (nextS t).size = 16 := shortS_size _
theorem seedS_size (s : ByteArray) : (seedS s).size = 16 := shortS_size _
theorem farS_size (t : ByteArray) (h : t.size = 16) : ∀ k, (farS t k).size = 16
  | 0 => h
  | k + 1 => nextS_size _
theorem farS_add (t : ByteArray) (a : Nat) : ∀ b, farS t (a + b) = farS (farS t a) b
  | 0 => rfl
  | b + 1 => by show nextS (farS t (a + b)) = nextS (farS (farS t a) b); rw [farS_add t a b]

theorem row1 (w : World) (t : ByteArray) (T : TypeId) : RowS (w.alloc (.cells #[.string t] T)) w.heap.size 0 1 (fun _ => t) := by
  intro i hi
  rw [World.cell?_alloc_at _ _ _ _ rfl, Nat.zero_add]
  obtain rfl : i = 0 := by omega
  rfl
theorem tag1 {W : World} (word t : ByteArray) (T : TypeId) (w : World) (q : Q W w) (hG : GL W) (hw : word.size ≤ 1000000) (ht : t.size ≤ 1000000) :
    Calls Tryd.prog 24 #[.string word, .slice (some ⟨w.heap.size, 0, none⟩) 1 1] (w.alloc (.cells #[.string t] T)) fun e w' => e = .returned (.string (tagS word (fun _ => t) 1)) ∧ Q W w' :=
  tag_any word w.heap.size 0 1 1 (fun _ => t) _ (q.alloc _) hG (row1 w t T) (fun _ => by simp) hw (by omega) (fun _ => ht)
theorem rtag1 {W : World} (word t : ByteArray) (T : TypeId) (w : World) (q : Q W w) (hw : word.size ≤ 1000000) (ht : t.size ≤ 1000000) :
    Calls Tryd.prog 26 #[.string word, .slice (some ⟨w.heap.size, 0, none⟩) 1 1] (w.alloc (.cells #[.string t] T)) fun e w' => e = .returned (.string (tagS word (fun _ => t) 1)) ∧ Q W w' :=
  rtag_any word w.heap.size 0 1 1 (fun _ => t) _ (q.alloc _) (row1 w t T) (fun _ => by simp) hw (by omega) (fun _ => ht)

theorem next_any {W : World} (t : ByteArray) (w : World) (q : Q W w) (hG : GL W) (ht : t.size ≤ 1000000) :
    Calls Tryd.prog 14 #[.string t] w fun e w' => e = .returned (.string (nextS t)) ∧ Q W w' := by
  have C := Lib.hid (fun T => tag1 pw t T w q hG (by decide) ht)
  clear q hG
  go_enter Tryd.func14, Tryd.ntmps14
  go_wp2_with fail
  refine (C.out _).mono ?_
  rintro e w' ⟨rfl, hq⟩
  go_wp2_with fail
  go_ret
  exact ⟨rfl, hq⟩
theorem rnext_any {W : World} (t : ByteArray) (w : World) (q : Q W w) (ht : t.size ≤ 1000000) :
    Calls Tryd.prog 15 #[.string t] w fun e w' => e = .returned (.string (nextS t)) ∧ Q W w' := by
  have C := Lib.hid (fun T => rtag1 pw t T w q (by decide) ht)
  clear q
  go_enter Tryd.func15, Tryd.ntmps15
  go_wp2_with fail
  refine (C.out _).mono ?_
  rintro e w' ⟨rfl, hq⟩
  go_wp2_with fail
  go_ret
  exact ⟨rfl, hq⟩

/-! ### The closure -/
/-- The variable that the closure walks, at g. -/
structure Box (w : World) (g : Nat) (t : ByteArray) : Prop where
  c : w.cell? ⟨g, 0, none⟩ = some (.string t)
  f : w.frozen? ⟨g, 0, none⟩ = false
theorem Box.lt {w : World} {g : Nat} {t : ByteArray} (h : Box w g t) : g < w.heap.size := World.block_lt_of_cell? _ _ h.c
theorem Box.q {w w' : World} {g : Nat} {t : ByteArray} (h : Box w g t) (q : Q w w') : Box w' g t :=
  ⟨by rw [q.cell (p := ⟨g, 0, none⟩) h.lt]; exact h.c, by rw [q.frozen (p := ⟨g, 0, none⟩) h.lt]; exact h.f⟩
theorem Box.ch {w w' : World} {g g' : Nat} {t : ByteArray} (h : Box w g t) (c : Ch g' w w') (hg : g ≠ g') : Box w' g t :=
  ⟨c.cell h.c hg, by rw [c.frozen (a := ⟨g, 0, none⟩) h.lt hg]; exact h.f⟩
def bx (t : ByteArray) : Obj := .cells #[.string t] 9
theorem Box.new (w : World) (t : ByteArray) : Box (w.alloc (bx t)) w.heap.size t := ⟨by unfold bx; rw [World.cell?_alloc_at _ _ _ _ rfl]; rfl, made_frozen w _ _ _⟩
/-- The closure over the variable at g. -/
def stepV (g : Nat) : Value := .func (.func 35) #[] #[.pointer (some ⟨g, 0, none⟩)]

theorem walk_any (t : ByteArray) (w : World) : Calls Tryd.prog 25 #[.string t] w fun e w' => e = .returned (stepV w.heap.size) ∧ w' = w.alloc (bx t) := by
  go_enter Tryd.func25, Tryd.ntmps25
  have hmf : ∀ (fn : Fn) (first cap : Array Value) (w : World), (Instr.makeFunc fn first cap).run Tryd.prog w = .ok (.func fn first cap) w := fun _ _ _ _ => rfl
  go_wp2_with fail
  go_ret
  exact ⟨rfl, rfl⟩

theorem step_x (g : Nat) (t x : ByteArray) (w : World) (hb : Box w g t) (hC : Hid (Calls Tryd.prog 14 #[.string t] w fun e w' => e = .returned (.string x) ∧ Q w w')) :
    Calls Tryd.prog 35 #[.pointer (some ⟨g, 0, none⟩)] w fun e w' => e = .returned (.string x) ∧ Box w' g x ∧ Ch g w w' := by
  have HB := Lib.hid hb
  have hc := hb.c
  clear hb
  go_enter Tryd.func35, Tryd.ntmps35
  go_wp2_with fail
  refine hC.out.mono ?_
  rintro e w1 ⟨rfl, hq⟩
  have B1 := Lib.hid (HB.out.q hq)
  have HC : Hid (Ch g w (w1.setCell ⟨g, 0, none⟩ (.string x))) := (Ch.of_q hq g).trans (Ch.set _ _ _ _)
  have hc1 := B1.out.c
  have hf1 := B1.out.f
  have HN : Hid (Box (w1.setCell ⟨g, 0, none⟩ (.string x)) g x) := ⟨World.cell?_setCell_same _ _ _ hc1, by rw [World.frozen?_setCell]; exact hf1⟩
  have hc2 := HN.out.c
  clear hq hc B1
  go_wp2_with fail
  go_ret
  exact ⟨rfl, HN.out, HC.out⟩
theorem step_any (g : Nat) (t : ByteArray) (w : World) (hb : Box w g t) (hG : GL w) (hg : 1 < g) (ht : t.size ≤ 1000000) :
    Calls Tryd.prog 35 #[.pointer (some ⟨g, 0, none⟩)] w fun e w' => e = .returned (.string (nextS t)) ∧ Box w' g (nextS t) ∧ Ch g w w' :=
  step_x g t (nextS t) w hb (Lib.hid (next_any t w (Q.refl w) hG ht))
end Go.Proofs.YtnjkikdcalfjgaaDoor.Pay
