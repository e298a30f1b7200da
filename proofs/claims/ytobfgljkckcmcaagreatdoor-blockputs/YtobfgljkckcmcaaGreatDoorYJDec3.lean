import Derived.Test.YtobfgljkckcmcaaGreatDoorYJDec2
import Derived.Test.YtobfgljkckcmcaaGreatDoorYJPlan
set_option maxRecDepth 100000
namespace Go.Proofs.YtobfgljkckcmcaaGreatDoor.Coi
open Go.RowKit
open Mem Num Cod
set_option linter.unusedVariables false
set_option linter.unusedSimpArgs false
theorem zeroDP (w : World) : (zeroValue 41).run Tryz.prog w = .ok (.agg #[.int .u64 0, .string ⟨#[]⟩, .string ⟨#[]⟩, .slice none 0 0]) w := by
 have h : (Tryz.prog.info? 41).bind (·.zero) = some (.agg #[.int .u64 0, .string ⟨#[]⟩, .string ⟨#[]⟩, .slice none 0 0]) := by kernel_rfl
 cases hi : Tryz.prog.info? 41 with
 | none => rw [hi] at h; cases h
 | some i => rw [hi] at h; simp [zeroValue, typeInfo, hi, show i.zero = some (.agg #[.int .u64 0, .string ⟨#[]⟩, .string ⟨#[]⟩, .slice none 0 0]) from h]
theorem info_dwin : (Tryz.prog.info? 141).map (fun i => (i.zero, i.size, i.bytes)) = some (some (.agg #[.string ⟨#[]⟩, .int .u64 0, .int .u64 0, .int .u64 0, .int .u64 0, .string ⟨#[]⟩, .int .u64 0, .string ⟨#[]⟩, .string ⟨#[]⟩, .int .u64 0]), 10, 112) := by kernel_rfl
theorem fill_dwin (y0 : ByteArray) (y1 y2 y3 y4 : Int) (y5 : ByteArray) (y6 : Int) (y7 y8 : ByteArray) (y9 : Int) : Instr.fill (fun i => some (i * 10, 10)) ((Array.range (1 * 10)).map ((Value.agg #[.string ⟨#[]⟩, .int .u64 0, .int .u64 0, .int .u64 0, .int .u64 0, .string ⟨#[]⟩, .int .u64 0, .string ⟨#[]⟩, .string ⟨#[]⟩, .int .u64 0]).cells[· % (Value.agg #[.string ⟨#[]⟩, .int .u64 0, .int .u64 0, .int .u64 0, .int .u64 0, .string ⟨#[]⟩, .int .u64 0, .string ⟨#[]⟩, .string ⟨#[]⟩, .int .u64 0]).cells.size]!)) [(0, .agg #[.string y0, .int .u64 y1, .int .u64 y2, .int .u64 y3, .int .u64 y4, .string y5, .int .u64 y6, .string y7, .string y8, .int .u64 y9])] = some #[.string y0, .int .u64 y1, .int .u64 y2, .int .u64 y3, .int .u64 y4, .string y5, .int .u64 y6, .string y7, .string y8, .int .u64 y9] := by kernel_rfl
theorem wpo_rowdwin {o : Oper} {a : Act} {w : World} {K : Act → World → Prop} {Q : Exit → Act → World → Prop} {n0 : Nat} (y0 : ByteArray) (y1 y2 y3 y4 : Int) (y5 : ByteArray) (y6 : Int) (y7 y8 : ByteArray) (y9 : Int) (ho : o.op = .buildSlice 39 1 #[(0, .tmp n0)]) (h0 : a.eval (.tmp n0) = .agg #[.string y0, .int .u64 y1, .int .u64 y2, .int .u64 y3, .int .u64 y4, .string y5, .int .u64 y6, .string y7, .string y8, .int .u64 y9])
 (h : K (a.put o.dst (.slice (some ⟨w.heap.size, 0, none⟩) 1 1)) (w.alloc (.cells #[.string y0, .int .u64 y1, .int .u64 y2, .int .u64 y3, .int .u64 y4, .string y5, .int .u64 y6, .string y7, .string y8, .int .u64 y9] 141))) : o.wp Tryz.prog a w K Q := by
 obtain ⟨i0, hi0, hz0, hz1, hz2⟩ := info_of info_dwin
 refine wp_buildSlice 39 141 1 _ ho #[.string y0, .int .u64 y1, .int .u64 y2, .int .u64 y3, .int .u64 y4, .string y5, .int .u64 y6, .string y7, .string y8, .int .u64 y9] i0 _ Tryz.underlying39 hi0 hz0 (by rw [hz1]; decide) (by rw [hz1]; decide) ?_ h
 rw [hz1]
 simp only [List.map_toArray, List.map_cons, List.map_nil, h0]
 exact fill_dwin y0 y1 y2 y3 y4 y5 y6 y7 y8 y9
/-- A Reader of the document, a box for what is answered, a box that is written. -/
structure DX (w0 : World) (g gr : Nat) (Z : List Value) (gb : Nat) (cs : List Value) (p : PS) (w : World) : Prop where
 rs : DR w0 g p w
 br : Box w gr Z
 bb : Box w gb cs
 n1 : g ≠ gr
 n2 : g ≠ gb
 n3 : gr ≠ gb
 l1 : w0.heap.size ≤ gr
 l2 : w0.heap.size ≤ gb
section
variable {w0 w w' : World} {g gr gb : Nat} {Z cs cs' : List Value} {p p' : PS}
theorem DX.go (h : DX w0 g gr Z gb cs p w) (k : DR w g p' w') : DX w0 g gr Z gb cs p' w' :=
 ⟨h.rs.over k, h.br.ch k.ch h.n1.symm, h.bb.ch k.ch h.n2.symm, h.n1, h.n2, h.n3, h.l1, h.l2⟩
theorem DX.q (h : DX w0 g gr Z gb cs p w) (q : Q w w') : DX w0 g gr Z gb cs p w' :=
 ⟨h.rs.q q, h.br.q q, h.bb.q q, h.n1, h.n2, h.n3, h.l1, h.l2⟩
theorem DX.put (h : DX w0 g gr Z gb cs p w) (c : Ch gb w w') (b : Box w' gb cs') : DX w0 g gr Z gb cs' p w' :=
 ⟨h.rs.box c h.l2 h.n2, h.br.ch c h.n3, b, h.n1, h.n2, h.n3, h.l1, h.l2⟩
theorem DX.set (h : DX w0 g gr Z gb cs p w) (j : Nat) (v : Value) : DX w0 g gr Z gb (cs.set j v) p (w.setCell ⟨gb, j, none⟩ v) :=
 h.put (Ch.set _ _ _ _) (h.bb.set1 j v)
theorem DX.cell {v : Value} (h : DX w0 g gr Z gb cs p w) (j : Nat) (hv : cs[j]? = some v) : w.cell? ⟨gb, j, none⟩ = some v ∧ w.frozen? ⟨gb, j, none⟩ = false := ⟨h.bb.at_ j v hv, h.bb.fz j⟩
/-- Another block turns. -/
theorem DX.oth {j : Nat} (h : DX w0 g gr Z gb cs p w) (c : Ch j w w') (hj : w0.heap.size ≤ j) (h1 : g ≠ j) (h2 : gr ≠ j) (h3 : gb ≠ j) : DX w0 g gr Z gb cs p w' :=
 ⟨h.rs.box c hj h1, h.br.ch c h2, h.bb.ch c h3, h.n1, h.n2, h.n3, h.l1, h.l2⟩
theorem grow_c {a : Option Addr} {g' : Nat} (G : Grow w w' (blk a) g') : ∃ j, Ch j w w' ∧ (∀ y, a = some y → j = y.block) ∧ (a = none → j = w.heap.size) := by
 have gr := G.gr
 cases a with
 | none => exact ⟨w.heap.size, ⟨gr.os, gr.tape, gr.output, gr.size, fun i hi _ => gr.block i hi (by simp [blk])⟩, fun y h => (by cases h), fun _ => rfl⟩
 | some x => exact ⟨x.block, gr, fun y h => (by injection h with h; rw [h]), fun h => (by cases h)⟩
end
/-- And a box that is new in each round, and records of one's own that it is appended to. -/
structure DY {α : Type} (t : TypeId) (C : α → List Value) (K : Nat) (w0 : World) (g gr : Nat) (Z : List Value) (gb : Nat) (cs : List Value) (B gx : Nat) (xs : List Value) (a : Option Addr) (k cap : Nat) (F : Nat → α) (p : PS) (w : World) : Prop where
 x : DX w0 g gr Z gb cs p w
 bx : Box w gx xs
 o : OR t C K w B a k cap F
 hb : B ≤ w.heap.size
 lg : g < B
 lr : gr < B
 lb : gb < B
 lx : B ≤ gx
 l0 : w0.heap.size ≤ B
 na : ∀ y, a = some y → y.block ≠ gx
section
variable {α : Type} {t : TypeId} {C : α → List Value} {K : Nat} {w0 w w' : World} {g gr gb B gx k cap : Nat} {Z cs xs : List Value} {a : Option Addr} {F : Nat → α} {p p' : PS}
theorem DY.go (h : DY t C K w0 g gr Z gb cs B gx xs a k cap F p w) (r : DR w g p' w') : DY t C K w0 g gr Z gb cs B gx xs a k cap F p' w' :=
 ⟨h.x.go r, h.bx.ch r.ch (by have := h.lg; have := h.lx; omega), h.o.low r.ch h.lg, Nat.le_trans h.hb r.ch.size, h.lg, h.lr, h.lb, h.lx, h.l0, h.na⟩
theorem DY.set (h : DY t C K w0 g gr Z gb cs B gx xs a k cap F p w) (j : Nat) (v : Value) : DY t C K w0 g gr Z gb cs B gx (xs.set j v) a k cap F p (w.setCell ⟨gx, j, none⟩ v) := by
 have h1 := h.lx; have h2 := h.lg; have h3 := h.lr; have h4 := h.lb; have h5 := h.l0
 exact ⟨h.x.oth (Ch.set _ _ _ _) (by omega) (by omega) (by omega) (by omega), h.bx.set1 j v, h.o.ch (Ch.set _ _ _ _) h.na, by simpa using h.hb, h2, h3, h4, h1, h5, h.na⟩
theorem DY.cell {v : Value} (h : DY t C K w0 g gr Z gb cs B gx xs a k cap F p w) (j : Nat) (hv : xs[j]? = some v) : w.cell? ⟨gx, j, none⟩ = some v ∧ w.frozen? ⟨gx, j, none⟩ = false := ⟨h.bx.at_ j v hv, h.bx.fz j⟩
theorem DX.made {gx : Nat} (h : DX w0 g gr Z gb cs p w) (o : OR t C K w B a k cap F) (hb : B ≤ w.heap.size) (lg : g < B) (lr : gr < B) (lb : gb < B) (l0 : w0.heap.size ≤ B) (he : w.heap.size = gx) (c : Ch gx w w') (b : Box w' gx xs) :
 DY t C K w0 g gr Z gb cs B gx xs a k cap F p w' :=
 ⟨h.oth c (by omega) (by omega) (by omega) (by omega), b, o.ch c (fun y hy => by have := (o.blk_ y hy).2; omega), Nat.le_trans hb c.size, lg, lr, lb, by omega, l0, fun y hy => by have := (o.blk_ y hy).2; omega⟩
/-- The records were made longer: the rest stays. -/
theorem DX.grown {w2 : World} {g' : Nat} (h : DX w0 g gr Z gb cs p w) (o : OR t C K w B a k cap F) (hb : B ≤ w.heap.size) (lg : g < B) (lr : gr < B) (lb : gb < B) (l0 : w0.heap.size ≤ B) (G : Grow w w2 (blk a) g') : DX w0 g gr Z gb cs p w2 := by
 obtain ⟨j, c, h1, h2⟩ := grow_c G
 have : B ≤ j := by
  cases ha : a with
  | none => rw [h2 ha]; exact hb
  | some y => rw [h1 y ha]; exact (o.blk_ y ha).1
 exact h.oth c (by omega) (by omega) (by omega) (by omega)
end
end Go.Proofs.YtobfgljkckcmcaaGreatDoor.Coi
