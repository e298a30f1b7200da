import Derived.Test.YtobfgljkckcmcaaGreatDoorYJBloM
set_option maxRecDepth 100000
namespace Go.Proofs.YtobfgljkckcmcaaGreatDoor.Coi
open Go.RowKit
open Mem Num Cod Sh Plan
set_option linter.unusedVariables false
set_option linter.unusedSimpArgs false
/-- One of its rows lies there. -/
def TXI.at' (z : TXI) (b : Nat) : Prop := (∃ x, z.aI = some x ∧ x.block = b) ∨ (∃ x, z.aO = some x ∧ x.block = b) ∨ (∃ x, z.aW = some x ∧ x.block = b)
abbrev TXI.own (z : TXI) (w : World) (B : Nat) : Prop := OT w B z.t z.aI z.cI z.aO z.cO z.aW z.cW
theorem own_at {z : TXI} {w : World} {B b : Nat} (h : z.own w B) (hb : z.at' b) : B ≤ b ∧ b < w.heap.size := by
 rcases hb with ⟨x, hx, rfl⟩ | ⟨x, hx, rfl⟩ | ⟨x, hx, rfl⟩
 · exact h.i.blk_ x hx
 · exact h.o.blk_ x hx
 · exact h.w.blk_ x hx
theorem own_ch {z : TXI} {w w' : World} {B g : Nat} (h : z.own w B) (c : Ch g w w') (hg : ¬ z.at' g) : z.own w' B :=
 ⟨h.i.ch c fun x e e2 => hg (.inl ⟨x, e, e2⟩), h.o.ch c fun x e e2 => hg (.inr (.inl ⟨x, e, e2⟩)), h.w.ch c fun x e e2 => hg (.inr (.inr ⟨x, e, e2⟩))⟩
theorem own_down {z : TXI} {w : World} {B B' : Nat} (h : z.own w B) (hb : B' ≤ B) : z.own w B' := ⟨h.i.down hb, h.o.down hb, h.w.down hb⟩
/-- Where Cut stands: k transactions are cut. -/
structure KS (W : World) (b1 b2 b5 Bt : Nat) (v1 v2 : List Value) (hh : Int) (pv : ByteArray) (f : Nat → TXI) (k : Nat) (G : Nat → TXI) (a : Option Addr) (c : Nat) (w : World) : Prop where
 y : Box w b1 v1
 z : Box w b2 v2
 b : Box w b5 [.int .i64 hh, .string pv, .slice a k c]
 o : OR 29 TXI.cells 6 w Bt a k c G
 m : ∀ i, i < k → (G i).own w Bt
 p : ∀ i, i < k → Apart (G i).aI (G i).aO ∧ Apart (G i).aI (G i).aW
 v : ∀ i, i < k → (G i).t = cutX (f i).t
 l : ∀ i, i < k → ∀ b, (G i).at' b → ∀ y, a = some y → b ≠ y.block
 d : ∀ i j, i < j → j < k → ∀ b, (G i).at' b → ¬ (G j).at' b
 q : Q W w
 h : Bt ≤ w.heap.size
/-- What stays as it is. -/
structure KC (W : World) (b1 b2 b5 Bt : Nat) : Prop where
 l1 : b1 < Bt
 l2 : b2 < Bt
 l5 : b5 < Bt
 n1 : b1 ≠ b5
 n2 : b2 ≠ b5
 w5 : W.heap.size ≤ b5
section
variable {W : World} {b1 b2 b5 Bt k : Nat} {v1 v2 : List Value} {hh : Int} {pv : ByteArray} {f G G' : Nat → TXI} {a : Option Addr} {c : Nat} {w w' : World}
theorem KS.q_ (h : KS W b1 b2 b5 Bt v1 v2 hh pv f k G a c w) (q : Q w w') : KS W b1 b2 b5 Bt v1 v2 hh pv f k G a c w' :=
 ⟨h.y.q q, h.z.q q, h.b.q q, h.o.q q, fun i hi => (h.m i hi).q q, h.p, h.v, h.l, h.d, h.q.trans q, Nat.le_trans h.h q.size⟩
theorem KS.push {g' c' B0 : Nat} {w2 : World} (h : KS W b1 b2 b5 Bt v1 v2 hh pv f k G a c w) (D : KC W b1 b2 b5 Bt) (hG : ∀ i, i < k → G i = G' i) (O : OR 29 TXI.cells 6 w' Bt (some ⟨g', 0, none⟩) (k + 1) c' G') (gr : Grow w w' (blk a) g')
 (tk : (G' k).own w B0) (hB : Bt ≤ B0) (hB1 : ∀ i, i < k → ∀ b, (G i).at' b → b < B0) (hB2 : ∀ y, a = some y → y.block < B0) (pk : Apart (G' k).aI (G' k).aO ∧ Apart (G' k).aI (G' k).aW) (vk : (G' k).t = cutX (f k).t)
 (B : Box w2 b5 [.int .i64 hh, .string pv, .slice (some ⟨g', 0, none⟩) (k + 1) c']) (cb : Ch b5 w' w2) :
 KS W b1 b2 b5 Bt v1 v2 hh pv f (k + 1) G' (some ⟨g', 0, none⟩) c' w2 := by
 obtain ⟨jb, cj, j1, j2⟩ := grow_ch gr
 have D1 := D.l1; have D2 := D.l2; have D3 := D.l5; have D5 := D.w5
 have hh0 := h.h
 have jB : Bt ≤ jb := by
  cases ha : a with
  | none => rw [j2 ha]; exact h.h
  | some y => rw [j1 y ha]; exact (h.o.blk_ y ha).1
 have all : ∀ i, i < k + 1 → (G' i).own w Bt ∧ (G' i).t = cutX (f i).t ∧ (∀ b, (G' i).at' b → ∀ y, a = some y → b ≠ y.block) ∧ Apart (G' i).aI (G' i).aO ∧ Apart (G' i).aI (G' i).aW := by
  intro i hi
  by_cases e : i = k
  · subst e
    exact ⟨own_down tk hB, vk, fun b hb y hy => by have := (own_at tk hb).1; have := hB2 y hy; omega, pk⟩
  · rw [← hG i (by omega)]; exact ⟨h.m i (by omega), h.v i (by omega), h.l i (by omega), h.p i (by omega)⟩
 have nj : ∀ i, i < k + 1 → ¬ (G' i).at' jb := fun i hi ho => by
  cases ha : a with
  | none => have := (own_at (all i hi).1 ho).2; rw [j2 ha] at this; omega
  | some y => exact (all i hi).2.2.1 _ ho y ha (j1 y ha)
 have ng : ∀ i, i < k + 1 → ∀ b, (G' i).at' b → b ≠ g' := fun i hi b ho => by
  rcases gr.at_ with e | e
  · cases ha : a with
    | none => rw [ha] at e; cases e
    | some y => rw [ha] at e; simp only [blk, Option.map_some, Option.some.injEq] at e; rw [← e]; exact (all i hi).2.2.1 _ ho y ha
  · have := (own_at (all i hi).1 ho).2; omega
 have qq : Q W w' := h.o.q_grow h.q (by omega) gr
 refine ⟨(h.y.ch cj (by omega)).ch cb D.n1, (h.z.ch cj (by omega)).ch cb D.n2, B, O.low cb D3, fun i hi => own_ch (own_ch (all i hi).1 cj (nj i hi)) cb (fun ho => by have := (own_at (all i hi).1 ho).1; omega), fun i hi => (all i hi).2.2.2, fun i hi => (all i hi).2.1,
  fun i hi b ho y hy => by injection hy with hy; subst hy; exact ng i hi b ho, fun i j hij hj b hi' hj' => ?_, cb.q qq D5, ?_⟩
 · by_cases e : j = k
   · subst e
     have a1 := (own_at tk hj').1
     rw [← hG i hij] at hi'
     have a2 := hB1 i hij b hi'
     omega
   · rw [← hG i (by omega)] at hi'
     rw [← hG j (by omega)] at hj'
     exact h.d i j hij (by omega) b hi' hj'
 · have := cj.size; have := cb.size; omega
end
def cutB (b : BK) : BK := ⟨b.h, cutS b.prev 40, min b.n 9, fun i => cutX (b.tx i)⟩
end Go.Proofs.YtobfgljkckcmcaaGreatDoor.Coi
