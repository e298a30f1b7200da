/-
  Layer 7: the program's keys: New, Root, Next, Left, Burn, Sign.
-/
import Derived.Test.YtnghhagiokiaoaaDoorMerJ
namespace Go.Proofs.YtnghhagiokiaoaaDoor.Mer
open Go.RowKit
open Mem Sh Wot
set_option linter.unusedVariables false

/-- A key in memory, at g: of seed s, h tall, n leaves, of which nx is next. -/
structure KY (w : World) (g : Nat) (s : ByteArray) (h n nx gl cl : Nat) : Prop where
  c0 : w.cell? ⟨g, 0, none⟩ = some (.int .i64 nx)
  c1 : w.cell? ⟨g, 1, none⟩ = some (.int .i64 n)
  c2 : w.cell? ⟨g, 2, none⟩ = some (.string s)
  c3 : w.cell? ⟨g, 3, none⟩ = some (.string (kroot s h))
  c4 : w.cell? ⟨g, 4, none⟩ = some (.slice (some ⟨gl, 0, none⟩) n cl)
  t : TR w gl 0 n (lfS s)
  fz : ∀ i, w.frozen? ⟨g, i, none⟩ = false
  hh : h ≤ 4
  hn : 2 ^ h = n
  hx : nx ≤ n
theorem KY.lt {w : World} {g : Nat} {s : ByteArray} {h n nx gl cl : Nat} (k : KY w g s h n nx gl cl) : g < w.heap.size := World.block_lt_of_cell? _ _ k.c0
theorem KY.n16 {w : World} {g : Nat} {s : ByteArray} {h n nx gl cl : Nat} (k : KY w g s h n nx gl cl) : n ≤ 16 := by rw [← k.hn]; exact pow_le16 h k.hh
theorem KY.n1 {w : World} {g : Nat} {s : ByteArray} {h n nx gl cl : Nat} (k : KY w g s h n nx gl cl) : 1 ≤ n := by rw [← k.hn]; exact pow_pos2 h
theorem KY.lv {w : World} {g : Nat} {s : ByteArray} {h n nx gl cl : Nat} (k : KY w g s h n nx gl cl) : IsLv (lfS s) n h := ⟨k.hh, k.hn.symm, fun i _ => lfS_size s i⟩
theorem KY.q {w w' : World} {g : Nat} {s : ByteArray} {h n nx gl cl : Nat} (k : KY w g s h n nx gl cl) (q : Q w w') : KY w' g s h n nx gl cl where
  c0 := (q.cell (p := ⟨g, 0, none⟩) k.lt).trans k.c0
  c1 := (q.cell (p := ⟨g, 1, none⟩) k.lt).trans k.c1
  c2 := (q.cell (p := ⟨g, 2, none⟩) k.lt).trans k.c2
  c3 := (q.cell (p := ⟨g, 3, none⟩) k.lt).trans k.c3
  c4 := (q.cell (p := ⟨g, 4, none⟩) k.lt).trans k.c4
  t := k.t.q q
  fz := fun i => (q.frozen (p := ⟨g, i, none⟩) k.lt).trans (k.fz i)
  hh := k.hh
  hn := k.hn
  hx := k.hx
/-- The leaves of one key lie in no key. -/
theorem KY.apart {w : World} {g g' : Nat} {s s' : ByteArray} {h n nx gl cl h' n' nx' gl' cl' : Nat} (k : KY w g s h n nx gl cl) (k' : KY w g' s' h' n' nx' gl' cl') : gl' ≠ g := by
  intro e
  have := k'.t.r 0 k'.n1
  rw [e, Nat.zero_add, k.c0] at this
  simp at this
theorem KY.other {w w' : World} {g g' : Nat} {s s' : ByteArray} {h n nx gl cl h' n' nx' gl' cl' : Nat} (k' : KY w g' s' h' n' nx' gl' cl') (k : KY w g s h n nx gl cl) (c : Ch g w w') (ne : g' ≠ g) : KY w' g' s' h' n' nx' gl' cl' where
  c0 := c.cell k'.c0 ne
  c1 := c.cell k'.c1 ne
  c2 := c.cell k'.c2 ne
  c3 := c.cell k'.c3 ne
  c4 := c.cell k'.c4 ne
  t := k'.t.keep c (fun e => k.apart k' (by injection e with e; exact e.symm))
  fz := fun i => (c.frozen (a := ⟨g', i, none⟩) k'.lt ne).trans (k'.fz i)
  hh := k'.hh
  hn := k'.hn
  hx := k'.hx
theorem KY.set {w : World} {g : Nat} {s : ByteArray} {h n nx gl cl : Nat} (k : KY w g s h n nx gl cl) (y : Nat) (hy : y ≤ n) : KY (w.setCell ⟨g, 0, none⟩ (.int .i64 y)) g s h n y gl cl :=
  have C := Ch.set w g 0 (.int .i64 y)
  { c0 := World.cell?_setCell_same _ _ _ k.c0
    c1 := by rw [World.cell?_setCell_other (h := by intro h; injection h; omega)]; exact k.c1
    c2 := by rw [World.cell?_setCell_other (h := by intro h; injection h; omega)]; exact k.c2
    c3 := by rw [World.cell?_setCell_other (h := by intro h; injection h; omega)]; exact k.c3
    c4 := by rw [World.cell?_setCell_other (h := by intro h; injection h; omega)]; exact k.c4
    t := k.t.keep C (fun e => k.apart k (by injection e with e; exact e.symm))
    fz := fun i => by rw [World.frozen?_setCell]; exact k.fz i
    hh := k.hh
    hn := k.hn
    hx := hy }

theorem kroot_q {w : World} {g : Nat} {s : ByteArray} {h n nx gl cl : Nat} (k : KY w g s h n nx gl cl) (r : ByteArray) (hr : kroot s h = r) :
    Calls Tryd.prog 20 #[.pointer (some ⟨g, 0, none⟩)] w fun e w' => e = .returned (.string r) ∧ w = w' := by
  have c := k.c3
  rw [hr] at c
  go_enter Tryd.func20, Tryd.ntmps20
  go_wp2_with fail
  go_ret
  exact ⟨rfl, rfl⟩
theorem next_q {w : World} {g : Nat} {s : ByteArray} {h n nx gl cl : Nat} (k : KY w g s h n nx gl cl) :
    Calls Tryd.prog 21 #[.pointer (some ⟨g, 0, none⟩)] w fun e w' => e = .returned (.int .i64 nx) ∧ w = w' := by
  have c := k.c0
  go_enter Tryd.func21, Tryd.ntmps21
  go_wp2_with fail
  go_ret
  exact ⟨rfl, rfl⟩
theorem left_q {W w : World} {g : Nat} {s : ByteArray} {h n nx gl cl : Nat} (k : KY w g s h n nx gl cl) (q : Q W w) (d : Nat) (hd : nx + d = n) :
    Calls Tryd.prog 23 #[.pointer (some ⟨g, 0, none⟩)] w fun e w' => e = .returned (.int .i64 d) ∧ KY w' g s h n nx gl cl ∧ Q W w' ∧ Ch g w w' := by
  have c0 := k.c0
  have c1 := k.c1
  have HK := Lib.hid k
  have HQ := Lib.hid q
  have n16 := k.n16
  have hn' : (n : Int) ≤ 16 := by omega
  have hx' : (nx : Int) ≤ 16 := by have := k.hx; omega
  have n0 : (0 : Int) ≤ (n : Int) := by omega
  have x0 : (0 : Int) ≤ (nx : Int) := by omega
  have HD := Lib.hid hd
  clear q k hd
  go_enter Tryd.func23, Tryd.ntmps23
  go_wp2_with fail
  go_region
  go_wp2_with fail
  go_ret
  exact ⟨ret1 (by have := HD.out; first | omega | (rw [IntKind.wrap_i64]; omega) | (unfold wrap64; omega)), HK.out.q (Q.refl w).drew, HQ.out.drew, Ch.of_q (Q.refl w).drew g⟩
theorem take_q {W w : World} {g : Nat} {s : ByteArray} {h n nx gl cl : Nat} (k : KY w g s h n nx gl cl) (q : Q W w) (hg : W.heap.size ≤ g) (hlt : nx < n) :
    Calls Tryd.prog 46 #[.pointer (some ⟨g, 0, none⟩)] w fun e w' => e = .returned (.int .i64 nx) ∧ KY w' g s h n (nx + 1) gl cl ∧ Q W w' ∧ Ch g w w' := by
  have c0 := k.c0
  have f0 := k.fz 0
  have n16 := k.n16
  have x0 : (0 : Int) ≤ (nx : Int) := by omega
  have x1 : (nx : Int) ≤ 16 := by omega
  have HK := Lib.hid (k.set (nx + 1) hlt)
  have HC := Lib.hid (Ch.set w g 0 (.int .i64 ((nx + 1 : Nat) : Int)))
  have HQ := Lib.hid (HC.out.q q hg)
  have e1 : ((nx + 1 : Nat) : Int) = (nx : Int) + 1 := by omega
  rw [e1] at HK HC HQ
  have cs := HK.out.c0
  rw [e1] at cs
  clear k q e1
  go_enter Tryd.func46, Tryd.ntmps46
  go_wp2_with fail
  go_ret
  exact ⟨ret1 (by omega), HK.out, HQ.out, HC.out⟩
theorem burn_ok {W w : World} {g : Nat} {s : ByteArray} {h n nx gl cl : Nat} (k : KY w g s h n nx gl cl) (q : Q W w) (hg : W.heap.size ≤ g) (b : Nat) (hb : b ≤ n) :
    Calls Tryd.prog 29 #[.pointer (some ⟨g, 0, none⟩), .int .i64 b] w fun e w' => e = .returned (.int .i64 0) ∧ KY w' g s h n (max nx b) gl cl ∧ Q W w' ∧ Ch g w w' := by
  have c0 := k.c0
  have c1 := k.c1
  have f0 := k.fz 0
  have b0 : (0 : Int) ≤ (b : Int) := by omega
  have b1 : (b : Int) ≤ (n : Int) := by omega
  have HK := Lib.hid (k.set (max nx b) (by have := k.hx; omega))
  have HC := Lib.hid (Ch.set w g 0 (.int .i64 ((max nx b : Nat) : Int)))
  have HQ := Lib.hid (HC.out.q q hg)
  have e1 : ((max nx b : Nat) : Int) = max (nx : Int) (b : Int) := by omega
  rw [e1] at HK HC HQ
  clear k q e1
  go_enter Tryd.func29, Tryd.ntmps29
  go_wp2_with fail
  go_ret
  exact ⟨rfl, HK.out, HQ.out, HC.out⟩
theorem burn_bad {W w : World} {g : Nat} {s : ByteArray} {h n nx gl cl : Nat} (k : KY w g s h n nx gl cl) (q : Q W w) (b : Int) (hb : b < 0 ∨ n < b) :
    Calls Tryd.prog 29 #[.pointer (some ⟨g, 0, none⟩), .int .i64 b] w fun e w' => e = .returned (.int .i64 1) ∧ KY w' g s h n nx gl cl ∧ Q W w' ∧ Ch g w w' := by
  have c0 := k.c0
  have c1 := k.c1
  have HK := Lib.hid k
  clear k
  by_cases c : b < 0
  · go_enter Tryd.func29, Tryd.ntmps29
    go_wp2_with fail
    go_ret
    exact ⟨rfl, HK.out, q, Ch.refl g w⟩
  · have d : 0 ≤ b := by omega
    have d2 : (n : Int) < b := by omega
    go_enter Tryd.func29, Tryd.ntmps29
    go_wp2_with fail
    go_ret
    exact ⟨rfl, HK.out, q, Ch.refl g w⟩
theorem sign_used {W w : World} {g : Nat} {s : ByteArray} {h n nx gl cl : Nat} (k : KY w g s h n nx gl cl) (q : Q W w) (m : ByteArray) (he : nx = n) :
    Calls Tryd.prog 22 #[.pointer (some ⟨g, 0, none⟩), .string m] w fun e w' => e = .returned (.tuple #[.string ⟨#[]⟩, .int .i64 14]) ∧ KY w' g s h n nx gl cl ∧ Q W w' ∧ Ch g w w' := by
  have C := Lib.hid (left_q k q 0 (by omega))
  clear k q he
  go_enter Tryd.func22, Tryd.ntmps22
  go_wp2_with fail
  refine C.out.mono ?_
  rintro e w1 ⟨rfl, k1, q1, ch1⟩
  have K1 := Lib.hid k1
  have Q1 := Lib.hid q1
  have C1 := Lib.hid ch1
  clear k1 q1 ch1 C
  go_wp2_with fail
  go_ret2
  exact ⟨rfl, K1.out, Q1.out, C1.out⟩
end Go.Proofs.YtnghhagiokiaoaaDoor.Mer
