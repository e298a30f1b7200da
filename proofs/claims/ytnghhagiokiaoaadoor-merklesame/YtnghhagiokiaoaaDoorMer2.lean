/-
  Layer 7: rows of texts of one's own; memory of which one block may turn; the document's tall, above, Root, Path, Up.
-/
import Derived.Test.YtnghhagiokiaoaaDoorMer1
import Derived.Maps.AppendAt
import Derived.Deep.AppendLies
import Derived.Laws.MakeOwn
namespace Go.Proofs.YtnghhagiokiaoaaDoor.Mer
open Go.RowKit
open Mem Sh Wot
set_option linter.unusedVariables false

/-- Of what was there only block g may have turned. -/
def Ch (g : Nat) (w w' : World) : Prop := w.grownBy w' (some g)
theorem Ch.refl (g : Nat) (w : World) : Ch g w w := World.grownBy.refl w _
theorem Ch.trans {g : Nat} {a b c : World} (h : Ch g a b) (k : Ch g b c) : Ch g a c := World.grownBy.trans h k
theorem Ch.of_q {a b : World} (h : Q a b) (g : Nat) : Ch g a b := ⟨h.os, h.tape, h.output, h.size, fun k hk _ => h.block k hk⟩
theorem Ch.q {W a b : World} {g : Nat} (k : Ch g a b) (h : Q W a) (hg : W.heap.size ≤ g) : Q W b := Below.grown h k h.size (by intro j e; cases e; exact hg)
theorem Ch.cell {g : Nat} {w w' : World} (c : Ch g w w') {a : Addr} {v : Value} (h : w.cell? a = some v) (hne : a.block ≠ g) : w'.cell? a = some v := World.grownBy.cell c h (fun e => hne (by injection e))
theorem Ch.frozen {g : Nat} {w w' : World} (c : Ch g w w') {a : Addr} (hl : a.block < w.heap.size) (hne : a.block ≠ g) : w'.frozen? a = w.frozen? a := World.grownBy.frozen_far c a hl (fun e => hne (by injection e))
theorem Ch.set (w : World) (g j : Nat) (v : Value) : Ch g w (w.setCell ⟨g, j, none⟩ v) :=
  ⟨rfl, rfl, rfl, by simp [World.setCell], fun k _ hk => Below.heap_setCell _ _ _ _ (fun e => hk (by rw [e]))⟩
theorem Ch.alloc {g : Nat} {a b : World} (h : Ch g a b) (o : Obj) : Ch g a (b.alloc o) := h.trans (World.grownBy_alloc b o _)
theorem Ch.size {g : Nat} {w w' : World} (c : Ch g w w') : w.heap.size ≤ w'.heap.size := World.grownBy.size c
theorem GL.ch {g : Nat} {w w' : World} (h : GL w) (c : Ch g w w') (hg : 1 < g) : GL w' :=
  ⟨fun i hi => c.cell (h.i0 i hi) (by show (0 : Nat) ≠ g; omega), fun i hi => c.cell (h.k i hi) (by show (1 : Nat) ≠ g; omega)⟩

/-! ### Rows of texts of one's own -/
def tsL (f : Nat → ByteArray) : Nat → List Value
  | 0 => []
  | k + 1 => tsL f k ++ [.string (f k)]
theorem tsL_len (f : Nat → ByteArray) : ∀ k, (tsL f k).length = k
  | 0 => rfl
  | k + 1 => by show (tsL f k ++ _).length = _; rw [List.length_append, tsL_len f k]; rfl
theorem tsL_get (f : Nat → ByteArray) : ∀ k j, j < k → (tsL f k)[j]? = some (.string (f j))
  | 0, _, hj => absurd hj (by omega)
  | k + 1, j, hj => by
    show (tsL f k ++ [.string (f k)])[j]? = _
    by_cases e : j < k
    · rw [List.getElem?_append_left (by rw [tsL_len]; exact e)]; exact tsL_get f k j e
    · obtain rfl : j = k := by omega
      rw [List.getElem?_append_right (by rw [tsL_len]; omega), tsL_len, Nat.sub_self]; rfl
theorem tsL_congr (f h : Nat → ByteArray) : ∀ k, (∀ j, j < k → f j = h j) → tsL f k = tsL h k
  | 0, _ => rfl
  | k + 1, e => by show tsL f k ++ [.string (f k)] = tsL h k ++ [.string (h k)]; rw [tsL_congr f h k (fun j hj => e j (by omega)), e k (by omega)]
theorem infoT : (Tryd.prog.info? 9).map (fun i => (i.zero, i.size, i.bytes)) = some (some (.string ⟨#[]⟩), 1, 16) := by kernel_rfl
/-- A row of n texts of one's own at block g, above B. -/
def OT (w : World) (B g n cap : Nat) (f : Nat → ByteArray) : Prop := w.ownsRow B 9 1 (.slice (some ⟨g, 0, none⟩) n cap) n (tsL f n)
theorem OT.lo {w : World} {B g n cap : Nat} {f : Nat → ByteArray} (h : OT w B g n cap f) : B ≤ g := (World.ownsRow.lt h g rfl).1
theorem OT.lt {w : World} {B g n cap : Nat} {f : Nat → ByteArray} (h : OT w B g n cap f) : g < w.heap.size := (World.ownsRow.lt h g rfl).2
theorem OT.caps {w : World} {B g n cap : Nat} {f : Nat → ByteArray} (h : OT w B g n cap f) : n ≤ cap ∧ cap ≤ maxLen := by
  obtain ⟨_, h | ⟨g', cap', cur, h, _, _, h4, h5, _⟩⟩ := h
  · simp at h
  · simp only [Value.slice.injEq] at h
    obtain ⟨_, _, rfl⟩ := h
    exact ⟨h4, h5⟩
theorem OT.row {w : World} {B g n cap : Nat} {f : Nat → ByteArray} (h : OT w B g n cap f) : RowS w g 0 n f := fun i hi => by
  rw [Nat.zero_add, World.ownsRow.cellAt h i (by omega)]; exact tsL_get f n i hi
theorem OT.fz {w : World} {B g n cap : Nat} {f : Nat → ByteArray} (h : OT w B g n cap f) (i : Nat) : w.frozen? ⟨g, i, none⟩ = false := World.ownsRow.frozenAt h i
theorem OT.lit (w : World) (B : Nat) (f : Nat → ByteArray) (h : B ≤ w.heap.size) : OT (w.alloc (.cells #[] 9)) B w.heap.size 0 0 f := World.ownsRow_lit w #[] 0 h (by decide +kernel) rfl
theorem OT.ch {w w' : World} {B g n cap : Nat} {f : Nat → ByteArray} (h : OT w B g n cap f) {x : Nat} (c : Ch x w w') (hx : g ≠ x) : OT w' B g n cap f :=
  World.ownsRow.kept h c (.inr (by show some g ≠ some x; intro e; injection e; exact hx (by assumption)))
theorem OT.q {w w' : World} {B g n cap : Nat} {f : Nat → ByteArray} (h : OT w B g n cap f) (q : Q w w') : OT w' B g n cap f :=
  h.ch (Ch.of_q q w.heap.size) (by have := h.lt; omega)
theorem OT.congr {w : World} {B g n cap : Nat} {f f' : Nat → ByteArray} (h : OT w B g n cap f) (e : ∀ j, j < n → f j = f' j) : OT w B g n cap f' := by unfold OT; rw [← tsL_congr f f' n e]; exact h
theorem OT.down {w : World} {B B' g n cap : Nat} {f : Nat → ByteArray} (h : OT w B g n cap f) (hb : B' ≤ B) : OT w B' g n cap f := by
  have hl := h.lo
  obtain ⟨h1, h | ⟨g', cap', cur, e, h3, r⟩⟩ := h
  · exact ⟨h1, .inl h⟩
  · exact ⟨h1, .inr ⟨g', cap', cur, e, by omega, r⟩⟩
/-- One text more. -/
theorem append_o {o : Oper} {a : Act} {K : Act → World → Prop} {K' : Exit → Act → World → Prop} (w : World) (s x : Operand)
    (ho : o.op = .call { callee := .builtin .append, args := #[s, x], argTypes := #[22, 22] }) (B g n cap : Nat) (f : Nat → ByteArray) (y : ByteArray) (hy : f n = y)
    (hs : a.eval s = .slice (some ⟨g, 0, none⟩) n cap) (hO : OT w B g n cap f) (hx : a.eval x = .slice (some ⟨w.heap.size, 0, none⟩) 1 1) (hn : n ≤ 100000) (hB : B ≤ w.heap.size)
    (h : ∀ g' cap' w', OT w' B g' (n + 1) cap' f → Ch g w w' → K (a.put o.dst (.slice (some ⟨g', 0, none⟩) (n + 1) cap')) w') :
    o.wp Tryd.prog a (w.alloc (.cells #[.string y] 9)) K K' := by
  obtain ⟨i0, hi0, hz0, hz1, hz2⟩ := info_parts infoT
  refine wp_append_own _ s x 22 ho B 9 i0 (.string ⟨#[]⟩) 1 16 Tryd.underlying22 hi0 hz0 hz1 hz2 rfl (by decide) _ _ _ hs (World.ownsRow.alloc hO _) ⟨w.heap.size, 0, none⟩ 1 1 [.string y] hx rfl (cell_one_new _ _ _) (fun x hx => by simp at hx; subst hx; rfl) (by unfold maxLen; omega) (by omega) (by simp; omega) ?_
  intro v' w' hown hg hn'
  obtain ⟨g', cap', rfl⟩ := ownsRow_succ hown
  refine h g' cap' w' ?_ ((World.grownBy_alloc w _ _).trans hg)
  unfold OT
  show World.ownsRow _ _ _ _ _ _ (tsL f n ++ [.string (f n)])
  rw [hy]; exact hown
theorem append_t {ops : Array Oper} {rest : List Oper} {o : Oper} {a : Act} {K : Exit → Act → World → Prop} (w : World) (hgd : o.guard = none) (s x : Operand)
    (ho : o.op = .call { callee := .builtin .append, args := #[s, x], argTypes := #[22, 22] }) (B g n cap : Nat) (f : Nat → ByteArray) (y : ByteArray) (hy : f n = y)
    (hs : a.eval s = .slice (some ⟨g, 0, none⟩) n cap) (hO : OT w B g n cap f) (hx : a.eval x = .slice (some ⟨w.heap.size, 0, none⟩) 1 1) (hn : n ≤ 100000) (hB : B ≤ w.heap.size)
    (h : ∀ g' cap' w', OT w' B g' (n + 1) cap' f → Ch g w w' → wpList Tryd.prog ops K rest (a.put o.dst (.slice (some ⟨g', 0, none⟩) (n + 1) cap')) w') :
    wpList Tryd.prog ops K (o :: rest) a (w.alloc (.cells #[.string y] 9)) :=
  wpList_plain hgd fun _ hK => append_o w s x ho B g n cap f y hy hs hO hx hn hB fun g' cap' w' h1 h2 => hK _ _ (h g' cap' w' h1 h2)

/-! ### How tall -/
theorem pow_inj2 (a b : Nat) (h : 2 ^ a = 2 ^ b) : a = b := (Nat.pow_right_inj (by decide)).1 h
/-- They are leaves, so tall. -/
structure IsLv (f : Nat → ByteArray) (n h : Nat) : Prop where
  hh : h ≤ 4
  hn : n = 2 ^ h
  hz : ∀ i, i < n → (f i).size = 16
theorem IsLv.one' {f : Nat → ByteArray} {n h h' : Nat} (a : IsLv f n h) (b : IsLv f n h') : h = h' := pow_inj2 _ _ (a.hn.symm.trans b.hn)
theorem pow_le16 (h : Nat) (hh : h ≤ 4) : 2 ^ h ≤ 16 := Nat.pow_le_pow_right (by decide) hh
theorem pow_pos2 (h : Nat) : 1 ≤ 2 ^ h := Nat.one_le_two_pow
theorem IsLv.n16 {f : Nat → ByteArray} {n h : Nat} (a : IsLv f n h) : n ≤ 16 := by rw [a.hn]; exact pow_le16 h a.hh
theorem IsLv.n1 {f : Nat → ByteArray} {n h : Nat} (a : IsLv f n h) : 1 ≤ n := by rw [a.hn]; exact pow_pos2 h

end Go.Proofs.YtnghhagiokiaoaaDoor.Mer
