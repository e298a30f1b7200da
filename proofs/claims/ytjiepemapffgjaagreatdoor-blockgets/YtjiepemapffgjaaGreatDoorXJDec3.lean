import Derived.Test.YtjiepemapffgjaaGreatDoorXJDec2
import Derived.Test.YtjiepemapffgjaaGreatDoorXJPlan
set_option maxRecDepth 100000
namespace Go.Proofs.YtjiepemapffgjaaGreatDoor.Coi
open Go.RowKit
open Mem Num Cod
set_option linter.unusedVariables false
set_option linter.unusedSimpArgs false
theorem built_drd (s : ByteArray) : Tryz.prog.built 140 [(0, .string s)] = some #[.string s, .int .i64 0, .int .i64 0] := by kernel_rfl
theorem wpl_drd {ops : Array Oper} {rest : List Oper} {o : Oper} {a : Act} {w : World} {Q : Exit → Act → World → Prop} (hg : o.guard = none) {n0 : Nat} (s : ByteArray) (ho : o.op = .build 140 #[(0, .tmp n0)]) (d : Option Tmp) (hd : o.dst = d) (h0 : a.eval (.tmp n0) = .string s) (h : wpList Tryz.prog ops Q rest (a.put d (.agg #[.string s, .int .i64 0, .int .i64 0])) w) : wpList Tryz.prog ops Q (o :: rest) a w := by
 refine wpList_buildTo hg 140 _ ho d hd _ ?_ h
 simp only [List.map_toArray, List.map_cons, List.map_nil, h0]
 exact built_drd s
theorem built_dwz  : Tryz.prog.built 160 [] = some #[.string ⟨#[]⟩, .int .u64 0, .int .u64 0, .int .u64 0, .int .u64 0, .string ⟨#[]⟩, .int .u64 0, .string ⟨#[]⟩, .string ⟨#[]⟩, .int .u64 0] := by kernel_rfl
theorem wpl_dwz {ops : Array Oper} {rest : List Oper} {o : Oper} {a : Act} {w : World} {Q : Exit → Act → World → Prop} (hg : o.guard = none)  (ho : o.op = .build 160 #[]) (d : Option Tmp) (hd : o.dst = d)  (h : wpList Tryz.prog ops Q rest (a.put d (.agg #[.string ⟨#[]⟩, .int .u64 0, .int .u64 0, .int .u64 0, .int .u64 0, .string ⟨#[]⟩, .int .u64 0, .string ⟨#[]⟩, .string ⟨#[]⟩, .int .u64 0])) w) : wpList Tryz.prog ops Q (o :: rest) a w := by
 refine wpList_buildTo hg 160 _ ho d hd _ ?_ h
 simp only [List.map_toArray, List.map_nil]
 exact built_dwz
theorem built_dph (v0 : Int) : Tryz.prog.built 41 [(0, .int .u64 v0)] = some #[.int .u64 v0, .string ⟨#[]⟩, .string ⟨#[]⟩, .slice none 0 0] := by kernel_rfl
theorem wpl_dph {ops : Array Oper} {rest : List Oper} {o : Oper} {a : Act} {w : World} {Q : Exit → Act → World → Prop} (hg : o.guard = none) {n0 : Nat} (v0 : Int) (ho : o.op = .build 41 #[(0, .tmp n0)]) (d : Option Tmp) (hd : o.dst = d) (h0 : a.eval (.tmp n0) = .int .u64 v0) (h : wpList Tryz.prog ops Q rest (a.put d (.agg #[.int .u64 v0, .string ⟨#[]⟩, .string ⟨#[]⟩, .slice none 0 0])) w) : wpList Tryz.prog ops Q (o :: rest) a w := by
 refine wpList_buildTo hg 41 _ ho d hd _ ?_ h
 simp only [List.map_toArray, List.map_cons, List.map_nil, h0]
 exact built_dph v0
theorem built_dpz  : Tryz.prog.built 41 [] = some #[.int .u64 0, .string ⟨#[]⟩, .string ⟨#[]⟩, .slice none 0 0] := by kernel_rfl
theorem wpl_dpz {ops : Array Oper} {rest : List Oper} {o : Oper} {a : Act} {w : World} {Q : Exit → Act → World → Prop} (hg : o.guard = none)  (ho : o.op = .build 41 #[]) (d : Option Tmp) (hd : o.dst = d)  (h : wpList Tryz.prog ops Q rest (a.put d (.agg #[.int .u64 0, .string ⟨#[]⟩, .string ⟨#[]⟩, .slice none 0 0])) w) : wpList Tryz.prog ops Q (o :: rest) a w := by
 refine wpList_buildTo hg 41 _ ho d hd _ ?_ h
 simp only [List.map_toArray, List.map_nil]
 exact built_dpz
theorem zeroDW (w : World) : (zeroValue 160).run Tryz.prog w = .ok (.agg #[.string ⟨#[]⟩, .int .u64 0, .int .u64 0, .int .u64 0, .int .u64 0, .string ⟨#[]⟩, .int .u64 0, .string ⟨#[]⟩, .string ⟨#[]⟩, .int .u64 0]) w := by
 have h : (Tryz.prog.info? 160).bind (·.zero) = some (.agg #[.string ⟨#[]⟩, .int .u64 0, .int .u64 0, .int .u64 0, .int .u64 0, .string ⟨#[]⟩, .int .u64 0, .string ⟨#[]⟩, .string ⟨#[]⟩, .int .u64 0]) := by kernel_rfl
 cases hi : Tryz.prog.info? 160 with
 | none => rw [hi] at h; cases h
 | some i => rw [hi] at h; simp [zeroValue, typeInfo, hi, show i.zero = some (.agg #[.string ⟨#[]⟩, .int .u64 0, .int .u64 0, .int .u64 0, .int .u64 0, .string ⟨#[]⟩, .int .u64 0, .string ⟨#[]⟩, .string ⟨#[]⟩, .int .u64 0]) from h]
theorem zeroDP (w : World) : (zeroValue 41).run Tryz.prog w = .ok (.agg #[.int .u64 0, .string ⟨#[]⟩, .string ⟨#[]⟩, .slice none 0 0]) w := by
 have h : (Tryz.prog.info? 41).bind (·.zero) = some (.agg #[.int .u64 0, .string ⟨#[]⟩, .string ⟨#[]⟩, .slice none 0 0]) := by kernel_rfl
 cases hi : Tryz.prog.info? 41 with
 | none => rw [hi] at h; cases h
 | some i => rw [hi] at h; simp [zeroValue, typeInfo, hi, show i.zero = some (.agg #[.int .u64 0, .string ⟨#[]⟩, .string ⟨#[]⟩, .slice none 0 0]) from h]
theorem info_dwin : (Tryz.prog.info? 160).map (fun i => (i.zero, i.size, i.bytes)) = some (some (.agg #[.string ⟨#[]⟩, .int .u64 0, .int .u64 0, .int .u64 0, .int .u64 0, .string ⟨#[]⟩, .int .u64 0, .string ⟨#[]⟩, .string ⟨#[]⟩, .int .u64 0]), 10, 112) := by kernel_rfl
theorem fill_dwin (y0 : ByteArray) (y1 y2 y3 y4 : Int) (y5 : ByteArray) (y6 : Int) (y7 y8 : ByteArray) (y9 : Int) : Instr.fill (fun i => some (i * 10, 10)) ((Array.range (1 * 10)).map ((Value.agg #[.string ⟨#[]⟩, .int .u64 0, .int .u64 0, .int .u64 0, .int .u64 0, .string ⟨#[]⟩, .int .u64 0, .string ⟨#[]⟩, .string ⟨#[]⟩, .int .u64 0]).cells[· % (Value.agg #[.string ⟨#[]⟩, .int .u64 0, .int .u64 0, .int .u64 0, .int .u64 0, .string ⟨#[]⟩, .int .u64 0, .string ⟨#[]⟩, .string ⟨#[]⟩, .int .u64 0]).cells.size]!)) [(0, .agg #[.string y0, .int .u64 y1, .int .u64 y2, .int .u64 y3, .int .u64 y4, .string y5, .int .u64 y6, .string y7, .string y8, .int .u64 y9])] = some #[.string y0, .int .u64 y1, .int .u64 y2, .int .u64 y3, .int .u64 y4, .string y5, .int .u64 y6, .string y7, .string y8, .int .u64 y9] := by kernel_rfl
theorem wpo_rowdwin {o : Oper} {a : Act} {w : World} {K : Act → World → Prop} {Q : Exit → Act → World → Prop} {n0 : Nat} (y0 : ByteArray) (y1 y2 y3 y4 : Int) (y5 : ByteArray) (y6 : Int) (y7 y8 : ByteArray) (y9 : Int) (ho : o.op = .buildSlice 39 1 #[(0, .tmp n0)]) (h0 : a.eval (.tmp n0) = .agg #[.string y0, .int .u64 y1, .int .u64 y2, .int .u64 y3, .int .u64 y4, .string y5, .int .u64 y6, .string y7, .string y8, .int .u64 y9])
 (h : K (a.put o.dst (.slice (some ⟨w.heap.size, 0, none⟩) 1 1)) (w.alloc (.cells #[.string y0, .int .u64 y1, .int .u64 y2, .int .u64 y3, .int .u64 y4, .string y5, .int .u64 y6, .string y7, .string y8, .int .u64 y9] 160))) : o.wp Tryz.prog a w K Q := by
 obtain ⟨i0, hi0, hz0, hz1, hz2⟩ := info_of info_dwin
 refine wp_buildSlice 39 160 1 _ ho #[.string y0, .int .u64 y1, .int .u64 y2, .int .u64 y3, .int .u64 y4, .string y5, .int .u64 y6, .string y7, .string y8, .int .u64 y9] i0 _ Tryz.underlying39 hi0 hz0 (by rw [hz1]; decide) (by rw [hz1]; decide) ?_ h
 rw [hz1]
 simp only [List.map_toArray, List.map_cons, List.map_nil, h0]
 exact fill_dwin y0 y1 y2 y3 y4 y5 y6 y7 y8 y9
theorem wpl_rowdwin {ops : Array Oper} {rest : List Oper} {o : Oper} {a : Act} {w : World} {Q : Exit → Act → World → Prop} {n0 : Nat} (hg : o.guard = none) (y0 : ByteArray) (y1 y2 y3 y4 : Int) (y5 : ByteArray) (y6 : Int) (y7 y8 : ByteArray) (y9 : Int) (ho : o.op = .buildSlice 39 1 #[(0, .tmp n0)]) (h0 : a.eval (.tmp n0) = .agg #[.string y0, .int .u64 y1, .int .u64 y2, .int .u64 y3, .int .u64 y4, .string y5, .int .u64 y6, .string y7, .string y8, .int .u64 y9])
 (h : wpList Tryz.prog ops Q rest (a.put o.dst (.slice (some ⟨w.heap.size, 0, none⟩) 1 1)) (w.alloc (.cells #[.string y0, .int .u64 y1, .int .u64 y2, .int .u64 y3, .int .u64 y4, .string y5, .int .u64 y6, .string y7, .string y8, .int .u64 y9] 160))) : wpList Tryz.prog ops Q (o :: rest) a w :=
 wpList_plain hg fun K hK => wpo_rowdwin y0 y1 y2 y3 y4 y5 y6 y7 y8 y9 ho h0 (hK _ _ h)
/-- A Reader of the document, a box for what is answered, a box that is written. -/
structure DX (w0 : World) (g gr : Nat) (Z : List Value) (gb : Nat) (cs : List Value) (p : PS) (w : World) : Prop where
 rs : DR w0 g p w
 br : Box w gr Z
 bb : Box w gb cs
 n1 : g ≠ gr
 n2 : g ≠ gb
 n3 : gr ≠ gb
 l1 : w0.heap.size ≤ gr
 l2 : w0.heap.size ≤ gb
section
variable {w0 w w' : World} {g gr gb : Nat} {Z cs cs' : List Value} {p p' : PS}
theorem DX.go (h : DX w0 g gr Z gb cs p w) (k : DR w g p' w') : DX w0 g gr Z gb cs p' w' :=
 ⟨h.rs.over k, h.br.ch k.ch h.n1.symm, h.bb.ch k.ch h.n2.symm, h.n1, h.n2, h.n3, h.l1, h.l2⟩
theorem DX.q (h : DX w0 g gr Z gb cs p w) (q : Q w w') : DX w0 g gr Z gb cs p w' :=
 ⟨h.rs.q q, h.br.q q, h.bb.q q, h.n1, h.n2, h.n3, h.l1, h.l2⟩
theorem DX.put (h : DX w0 g gr Z gb cs p w) (c : Ch gb w w') (b : Box w' gb cs') : DX w0 g gr Z gb cs' p w' :=
 ⟨h.rs.box c h.l2 h.n2, h.br.ch c h.n3, b, h.n1, h.n2, h.n3, h.l1, h.l2⟩
theorem DX.set (h : DX w0 g gr Z gb cs p w) (j : Nat) (v : Value) : DX w0 g gr Z gb (cs.set j v) p (w.setCell ⟨gb, j, none⟩ v) :=
 h.put (Ch.set _ _ _ _) (h.bb.set1 j v)
theorem DX.cell {v : Value} (h : DX w0 g gr Z gb cs p w) (j : Nat) (hv : cs[j]? = some v) : w.cell? ⟨gb, j, none⟩ = some v ∧ w.frozen? ⟨gb, j, none⟩ = false := ⟨h.bb.at_ j v hv, h.bb.fz j⟩
/-- Another block turns. -/
theorem DX.oth {j : Nat} (h : DX w0 g gr Z gb cs p w) (c : Ch j w w') (hj : w0.heap.size ≤ j) (h1 : g ≠ j) (h2 : gr ≠ j) (h3 : gb ≠ j) : DX w0 g gr Z gb cs p w' :=
 ⟨h.rs.box c hj h1, h.br.ch c h2, h.bb.ch c h3, h.n1, h.n2, h.n3, h.l1, h.l2⟩
theorem grow_c {a : Option Addr} {g' : Nat} (G : Grow w w' (blk a) g') : ∃ j, Ch j w w' ∧ (∀ y, a = some y → j = y.block) ∧ (a = none → j = w.heap.size) := by
 have gr := G.gr
 cases a with
 | none => exact ⟨w.heap.size, ⟨gr.os, gr.tape, gr.output, gr.size, fun i hi _ => gr.block i hi (by simp [blk])⟩, fun y h => (by cases h), fun _ => rfl⟩
 | some x => exact ⟨x.block, gr, fun y h => (by injection h with h; rw [h]), fun h => (by cases h)⟩
end
/-- And a box that is new in each round, and records of one's own that it is appended to. -/
structure DY {α : Type} (t : TypeId) (C : α → List Value) (K : Nat) (w0 : World) (g gr : Nat) (Z : List Value) (gb : Nat) (cs : List Value) (B gx : Nat) (xs : List Value) (a : Option Addr) (k cap : Nat) (F : Nat → α) (p : PS) (w : World) : Prop where
 x : DX w0 g gr Z gb cs p w
 bx : Box w gx xs
 o : OR t C K w B a k cap F
 hb : B ≤ w.heap.size
 lg : g < B
 lr : gr < B
 lb : gb < B
 lx : B ≤ gx
 l0 : w0.heap.size ≤ B
 na : ∀ y, a = some y → y.block ≠ gx
section
variable {α : Type} {t : TypeId} {C : α → List Value} {K : Nat} {w0 w w' : World} {g gr gb B gx k cap : Nat} {Z cs xs : List Value} {a : Option Addr} {F : Nat → α} {p p' : PS}
theorem DY.go (h : DY t C K w0 g gr Z gb cs B gx xs a k cap F p w) (r : DR w g p' w') : DY t C K w0 g gr Z gb cs B gx xs a k cap F p' w' :=
 ⟨h.x.go r, h.bx.ch r.ch (by have := h.lg; have := h.lx; omega), h.o.low r.ch h.lg, Nat.le_trans h.hb r.ch.size, h.lg, h.lr, h.lb, h.lx, h.l0, h.na⟩
theorem DY.set (h : DY t C K w0 g gr Z gb cs B gx xs a k cap F p w) (j : Nat) (v : Value) : DY t C K w0 g gr Z gb cs B gx (xs.set j v) a k cap F p (w.setCell ⟨gx, j, none⟩ v) := by
 have h1 := h.lx; have h2 := h.lg; have h3 := h.lr; have h4 := h.lb; have h5 := h.l0
 exact ⟨h.x.oth (Ch.set _ _ _ _) (by omega) (by omega) (by omega) (by omega), h.bx.set1 j v, h.o.ch (Ch.set _ _ _ _) h.na, by simpa using h.hb, h2, h3, h4, h1, h5, h.na⟩
theorem DY.cell {v : Value} (h : DY t C K w0 g gr Z gb cs B gx xs a k cap F p w) (j : Nat) (hv : xs[j]? = some v) : w.cell? ⟨gx, j, none⟩ = some v ∧ w.frozen? ⟨gx, j, none⟩ = false := ⟨h.bx.at_ j v hv, h.bx.fz j⟩
theorem DX.made {gx : Nat} (h : DX w0 g gr Z gb cs p w) (o : OR t C K w B a k cap F) (hb : B ≤ w.heap.size) (lg : g < B) (lr : gr < B) (lb : gb < B) (l0 : w0.heap.size ≤ B) (he : w.heap.size = gx) (c : Ch gx w w') (b : Box w' gx xs) :
 DY t C K w0 g gr Z gb cs B gx xs a k cap F p w' :=
 ⟨h.oth c (by omega) (by omega) (by omega) (by omega), b, o.ch c (fun y hy => by have := (o.blk_ y hy).2; omega), Nat.le_trans hb c.size, lg, lr, lb, by omega, l0, fun y hy => by have := (o.blk_ y hy).2; omega⟩
/-- The records were made longer: the rest stays. -/
theorem DX.grown {w2 : World} {g' : Nat} (h : DX w0 g gr Z gb cs p w) (o : OR t C K w B a k cap F) (hb : B ≤ w.heap.size) (lg : g < B) (lr : gr < B) (lb : gb < B) (l0 : w0.heap.size ≤ B) (G : Grow w w2 (blk a) g') : DX w0 g gr Z gb cs p w2 := by
 obtain ⟨j, c, h1, h2⟩ := grow_c G
 have : B ≤ j := by
  cases ha : a with
  | none => rw [h2 ha]; exact hb
  | some y => rw [h1 y ha]; exact (o.blk_ y ha).1
 exact h.oth c (by omega) (by omega) (by omega) (by omega)
end
set_option maxHeartbeats 4000000 in
set_option maxRecDepth 100000 in
theorem d8decode_x (s : ByteArray) (hs : s.size ≤ 1000000) (W : World) : Calls Tryz.prog 93 #[.string s] W (NDo s W) := by
 have HB : Hid (∀ t, Box (W.alloc (.cells #[.int .u64 0, .string ⟨#[]⟩, .string ⟨#[]⟩, .slice none 0 0] t)) W.heap.size [.int .u64 0, .string ⟨#[]⟩, .string ⟨#[]⟩, .slice none 0 0]) := fun t => Box.new W _ t
 have HQ : Hid (∀ o, Q W (W.alloc o)) := fun o => (Q.refl W).alloc o
 go_enter Tryz.func93, Tryz.ntmps93
 go_wp2_with (with_reducible (show wpList _ _ _ (⟨_, Op.build 140 _, _, _, _, _⟩ :: _) _ _); refine halt ?_)
 have B0 := Lib.hid (HB.out 41)
 have Q0 := Lib.hid (HQ.out (.cells #[.int .u64 0, .string ⟨#[]⟩, .string ⟨#[]⟩, .slice none 0 0] 41))
 clear HB HQ
 have hsz : (W.alloc (.cells #[.int .u64 0, .string ⟨#[]⟩, .string ⟨#[]⟩, .slice none 0 0] 41)).heap.size = W.heap.size + 1 := by simp
 generalize W.alloc (.cells #[.int .u64 0, .string ⟨#[]⟩, .string ⟨#[]⟩, .slice none 0 0] 41) = wA at *
 have n1 : wA.heap.size ≠ W.heap.size := by omega
 have l3 : W.heap.size ≤ wA.heap.size := by omega
 clear hsz
 refine Lib.hid (wpl_drd rfl s rfl _ rfl rfl ?_)
 have D0 := Lib.hid (DR.new s hs wA 140)
 have Q1 : Hid (Q W (wA.alloc (.cells #[.string s, .int .i64 0, .int .i64 0] 140))) := Q0.out.alloc _
 have B1 : Hid (Box (wA.alloc (.cells #[.string s, .int .i64 0, .int .i64 0] 140)) W.heap.size [.int .u64 0, .string ⟨#[]⟩, .string ⟨#[]⟩, .slice none 0 0]) := B0.out.q ((Q.refl _).alloc _)
 go_wp2_with fail
 generalize wA.alloc (.cells #[.string s, .int .i64 0, .int .i64 0] 140) = wB at *
 have H1 : Hid (DR W wA.heap.size ⟨s, 0⟩ wB) := ⟨D0.out.rd, Ch.of_q Q1.out _⟩
 generalize wA.heap.size = g at *
 clear Q0 Q1 B0 D0
 have l1 : W.heap.size ≤ W.heap.size := Nat.le_refl _
 obtain ⟨v0, x0⟩ : ∃ v, (PS.mk s 0).nuV = v := ⟨_, rfl⟩
 obtain ⟨q1, s0⟩ : ∃ v, (PS.mk s 0).num = v := ⟨_, rfl⟩
 obtain ⟨v1, x1⟩ : ∃ v, q1.blV 400 = v := ⟨_, rfl⟩
 obtain ⟨q2, s1⟩ : ∃ v, q1.blo 400 = v := ⟨_, rfl⟩
 obtain ⟨v2, x2⟩ : ∃ v, q2.blV 16 = v := ⟨_, rfl⟩
 obtain ⟨q3, s2⟩ : ∃ v, q2.blo 16 = v := ⟨_, rfl⟩
 have HP : Hid (ndP s = q3) := by show _ = _; unfold ndP; rw [s0, s1, s2]
 have HX : Hid (ndX s = ⟨v0, v1, v2, ndK s, fun i => rdW (ndQ s i)⟩) := by show _ = _; unfold ndX; rw [x0, s0, x1, s1, x2]
 refine (H1.out.up.num_l x0 s0).mono ?_
 rintro r w2 ⟨rfl, h⟩
 have B2 := Lib.hid (B1.out.ch h.ch n1.symm)
 have H2 := Lib.hid (H1.out.over h)
 clear h H1 B1
 go_wp2_with (with_reducible (show wpList _ _ _ (⟨_, Op.build 41 _, _, _, _, _⟩ :: _) _ _); refine halt ?_)
 refine Lib.hid (wpl_dph rfl v0 rfl _ rfl rfl ?_)
 refine wpList_allocZ rfl 41 rfl #[.int .u64 0, .string ⟨#[]⟩, .string ⟨#[]⟩, .slice none 0 0] zeroDP ?_
 have G3 := H2.out.lt
 have G4 := B2.out.lt
 have G5 := H2.out.ch.size
 refine st_box rfl 41 _ _ rfl w2.heap.size _ [.int .u64 v0, .string ⟨#[]⟩, .string ⟨#[]⟩, .slice none 0 0] rfl rfl (Box.new w2 [.int .u64 0, .string ⟨#[]⟩, .string ⟨#[]⟩, .slice none 0 0] 41) rfl (by kernel_rfl) (one4 rfl rfl rfl rfl) ?_
 intro w3 B3 c3
 have X3 : Hid (DX W g W.heap.size [.int .u64 0, .string ⟨#[]⟩, .string ⟨#[]⟩, .slice none 0 0] w2.heap.size [.int .u64 v0, .string ⟨#[]⟩, .string ⟨#[]⟩, .slice none 0 0] q1 w3) := ⟨(H2.out.q ((Q.refl w2).alloc _)).box c3 G5 (by omega), (B2.out.q ((Q.refl w2).alloc _)).ch c3 (by omega), B3, n1, by omega, by omega, l1, G5⟩
 generalize w2.heap.size = gb at *
 clear B3 c3 H2 B2 G3 G4 G5
 as_aux_lemma =>
 go_wp2_with fail
 refine (X3.out.rs.up.blob_l x1 s1).mono ?_
 rintro r w4 ⟨rfl, h⟩
 have X4 := Lib.hid (X3.out.go h)
 clear h X3
 obtain ⟨d1, f1⟩ := X4.out.cell 1 rfl
 go_wp2_with fail
 clear d1 f1
 have X5 := Lib.hid (X4.out.set 1 (.string v1))
 clear X4
 refine (X5.out.rs.up.blob_l x2 s2).mono ?_
 rintro r w6 ⟨rfl, h⟩
 have X6 := Lib.hid (X5.out.go h)
 clear h X5
 obtain ⟨d1, f1⟩ := X6.out.cell 2 rfl
 go_wp2_with fail
 clear d1 f1
 have X7 := Lib.hid (X6.out.set 2 (.string v2))
 clear X6
 obtain ⟨n, hn⟩ : ∃ v, q3.byV = v := ⟨_, rfl⟩
 obtain ⟨q4, hq4⟩ : ∃ v, q3.byt = v := ⟨_, rfl⟩
 refine (X7.out.rs.up.byte_l hn hq4).mono ?_
 rintro r w8 ⟨rfl, h⟩
 have X8 := Lib.hid (X7.out.go h)
 clear h X7
 have nn := PS.byV_in q3
 rw [hn] at nn
 have hK : min n 4 = (ndK s : Int) := by unfold ndK; rw [HP.out, hn]; omega
 have hK4 := ndK_le s
 have e0 : q4 = ndQ s 0 := by unfold ndQ; rw [HP.out, hq4]; rfl
 rw [e0] at X8
 clear e0 hq4 HP hn s0 s1 s2 x0 x1 x2
 have lB := X8.out.bb.lt
 have lG := X8.out.rs.lt
 have lR := X8.out.br.lt
 have l0 := X8.out.rs.ch.size
 have O8 := Lib.hid (OR.nil 160 WN.cells 10 w8 w8.heap.size (fun i => rdW (ndQ s i)))
 obtain ⟨B, hB⟩ : ∃ n, w8.heap.size = n := ⟨_, rfl⟩
 rw [hB] at lB lG lR l0 O8
 have HBE := Lib.hid (Nat.le_of_eq hB.symm)
 clear hB
 as_aux_lemma =>
 go_wp2_with fail
 go_loopw [7, 8] (fun i z wr => ∃ (k : Nat) (a : Option Addr) (cap : Nat), k ≤ ndK s ∧ i = .int .i64 k ∧ B ≤ wr.heap.size ∧ Hid (DX W g W.heap.size [.int .u64 0, .string ⟨#[]⟩, .string ⟨#[]⟩, .slice none 0 0] gb [.int .u64 v0, .string v1, .string v2, .slice a k cap] (ndQ s k) wr) ∧ Hid (OR 160 WN.cells 10 wr B a k cap (fun i => rdW (ndQ s i)))) (fun i _ _ => ndK s - (intOf i).toNat)
 case atStart => exact ⟨0, none, 0, by omega, rfl, HBE.out, X8, O8⟩
 case round =>
 obtain ⟨k, a, cap, hk, rfl, hb, X, O⟩ := hrel
 clear X8 O8
 have k0 : (0 : Int) ≤ (k : Int) := by omega
 by_cases hlt : k < ndK s
 · have k1 : (k : Int) < n := by omega
   have k2 : (k : Int) < 4 := by omega
   have t1 : decide ((k : Int) < n) = true := by simpa using k1
   have t2 : decide ((k : Int) < 4) = true := by simpa using k2
   obtain ⟨p0, hp0⟩ : ∃ v, ndQ s k = v := ⟨_, rfl⟩
   obtain ⟨y0, b0⟩ : ∃ v, p0.haV = v := ⟨_, rfl⟩
   obtain ⟨p1, a0⟩ : ∃ v, p0.has = v := ⟨_, rfl⟩
   obtain ⟨y1, b1⟩ : ∃ v, p1.nuV = v := ⟨_, rfl⟩
   obtain ⟨p2, a1⟩ : ∃ v, p1.num = v := ⟨_, rfl⟩
   obtain ⟨y2, b2⟩ : ∃ v, p2.nuV = v := ⟨_, rfl⟩
   obtain ⟨p3, a2⟩ : ∃ v, p2.num = v := ⟨_, rfl⟩
   obtain ⟨y3, b3⟩ : ∃ v, p3.nuV = v := ⟨_, rfl⟩
   obtain ⟨p4, a3⟩ : ∃ v, p3.num = v := ⟨_, rfl⟩
   obtain ⟨y4, b4⟩ : ∃ v, p4.nuV = v := ⟨_, rfl⟩
   obtain ⟨p5, a4⟩ : ∃ v, p4.num = v := ⟨_, rfl⟩
   obtain ⟨y5, b5⟩ : ∃ v, p5.haV = v := ⟨_, rfl⟩
   obtain ⟨p6, a5⟩ : ∃ v, p5.has = v := ⟨_, rfl⟩
   obtain ⟨y6, b6⟩ : ∃ v, p6.nuV = v := ⟨_, rfl⟩
   obtain ⟨p7, a6⟩ : ∃ v, p6.num = v := ⟨_, rfl⟩
   obtain ⟨y7, b7⟩ : ∃ v, p7.blV 400 = v := ⟨_, rfl⟩
   obtain ⟨p8, a7⟩ : ∃ v, p7.blo 400 = v := ⟨_, rfl⟩
   obtain ⟨y8, b8⟩ : ∃ v, p8.blV 32 = v := ⟨_, rfl⟩
   obtain ⟨p9, a8⟩ : ∃ v, p8.blo 32 = v := ⟨_, rfl⟩
   obtain ⟨y9, b9⟩ : ∃ v, p9.nuV = v := ⟨_, rfl⟩
   obtain ⟨p10, a9⟩ : ∃ v, p9.num = v := ⟨_, rfl⟩
   have HW : Hid ((rdW (ndQ s k)).cells = [.string y0, .int .u64 y1, .int .u64 y2, .int .u64 y3, .int .u64 y4, .string y5, .int .u64 y6, .string y7, .string y8, .int .u64 y9]) := by show _ = _; rw [hp0]; unfold rdW WN.cells; rw [b0, a0, b1, a1, b2, a2, b3, a3, b4, a4, b5, a5, b6, a6, b7, a7, b8, a8, b9]
   have HS : Hid (p10 = ndQ s (k + 1)) := by show _ = stW (ndQ s k); rw [hp0]; unfold stW; rw [a0, a1, a2, a3, a4, a5, a6, a7, a8, a9]
   rw [hp0] at X
   clear hp0 hK
   go_wp2_with (with_reducible (show wpList _ _ _ (⟨_, Op.build 160 _, _, _, _, _⟩ :: _) _ _); refine halt ?_)
   refine Lib.hid (wpl_dwz rfl rfl _ rfl ?_)
   refine wpList_allocZ rfl 160 rfl #[.string ⟨#[]⟩, .int .u64 0, .int .u64 0, .int .u64 0, .int .u64 0, .string ⟨#[]⟩, .int .u64 0, .string ⟨#[]⟩, .string ⟨#[]⟩, .int .u64 0] zeroDW ?_
   refine st_box rfl 160 _ _ rfl wr.heap.size _ [.string ⟨#[]⟩, .int .u64 0, .int .u64 0, .int .u64 0, .int .u64 0, .string ⟨#[]⟩, .int .u64 0, .string ⟨#[]⟩, .string ⟨#[]⟩, .int .u64 0] rfl rfl (Box.new wr [.string ⟨#[]⟩, .int .u64 0, .int .u64 0, .int .u64 0, .int .u64 0, .string ⟨#[]⟩, .int .u64 0, .string ⟨#[]⟩, .string ⟨#[]⟩, .int .u64 0] 160) rfl (by kernel_rfl) (one10 rfl rfl rfl rfl rfl rfl rfl rfl rfl rfl) ?_
   intro u0 Bx cx
   obtain ⟨gx, hgx⟩ : ∃ n, wr.heap.size = n := ⟨_, rfl⟩
   have Y0 : Hid (DY 160 WN.cells 10 W g W.heap.size [.int .u64 0, .string ⟨#[]⟩, .string ⟨#[]⟩, .slice none 0 0] gb [.int .u64 v0, .string v1, .string v2, .slice a k cap] B gx [.string ⟨#[]⟩, .int .u64 0, .int .u64 0, .int .u64 0, .int .u64 0, .string ⟨#[]⟩, .int .u64 0, .string ⟨#[]⟩, .string ⟨#[]⟩, .int .u64 0] a k cap (fun i => rdW (ndQ s i)) p0 u0) := by
    have XA := X.out.q ((Q.refl wr).alloc (.cells #[.string ⟨#[]⟩, .int .u64 0, .int .u64 0, .int .u64 0, .int .u64 0, .string ⟨#[]⟩, .int .u64 0, .string ⟨#[]⟩, .string ⟨#[]⟩, .int .u64 0] 160))
    have OA := O.out.q ((Q.refl wr).alloc (.cells #[.string ⟨#[]⟩, .int .u64 0, .int .u64 0, .int .u64 0, .int .u64 0, .string ⟨#[]⟩, .int .u64 0, .string ⟨#[]⟩, .string ⟨#[]⟩, .int .u64 0] 160))
    have hsw : (wr.alloc (.cells #[.string ⟨#[]⟩, .int .u64 0, .int .u64 0, .int .u64 0, .int .u64 0, .string ⟨#[]⟩, .int .u64 0, .string ⟨#[]⟩, .string ⟨#[]⟩, .int .u64 0] 160)).heap.size = wr.heap.size + 1 := by simp
    have hbo : ∀ y, a = some y → y.block < wr.heap.size := fun y hy => (O.out.blk_ y hy).2
    rw [hgx] at Bx cx
    exact ⟨XA.oth cx (by omega) (by omega) (by omega) (by omega), Bx, OA.ch cx (fun y hy => by have := hbo y hy; omega), by have h1 := cx.size; rw [hsw] at h1; omega, lG, lR, lB, by omega, l0, fun y hy => by have := hbo y hy; omega⟩
   rw [hgx] at *
   clear Bx cx X O hgx
   go_wp2_with fail
   refine (Y0.out.x.rs.up.hash_l b0 a0).mono ?_
   rintro r z0 ⟨rfl, h⟩
   have Z0 := Lib.hid (Y0.out.go h)
   clear h Y0
   obtain ⟨d1, f1⟩ := Z0.out.cell 0 rfl
   go_wp2_with fail
   clear d1 f1
   have Y1 := Lib.hid (Z0.out.set 0 (.string y0))
   clear Z0
   refine (Y1.out.x.rs.up.num_l b1 a1).mono ?_
   rintro r z1 ⟨rfl, h⟩
   have Z1 := Lib.hid (Y1.out.go h)
   clear h Y1
   obtain ⟨d1, f1⟩ := Z1.out.cell 1 rfl
   go_wp2_with fail
   clear d1 f1
   have Y2 := Lib.hid (Z1.out.set 1 (.int .u64 y1))
   clear Z1
   refine (Y2.out.x.rs.up.num_l b2 a2).mono ?_
   rintro r z2 ⟨rfl, h⟩
   have Z2 := Lib.hid (Y2.out.go h)
   clear h Y2
   obtain ⟨d1, f1⟩ := Z2.out.cell 2 rfl
   go_wp2_with fail
   clear d1 f1
   have Y3 := Lib.hid (Z2.out.set 2 (.int .u64 y2))
   clear Z2
   refine (Y3.out.x.rs.up.num_l b3 a3).mono ?_
   rintro r z3 ⟨rfl, h⟩
   have Z3 := Lib.hid (Y3.out.go h)
   clear h Y3
   obtain ⟨d1, f1⟩ := Z3.out.cell 3 rfl
   as_aux_lemma =>
   go_wp2_with fail
   clear d1 f1
   have Y4 := Lib.hid (Z3.out.set 3 (.int .u64 y3))
   clear Z3
   refine (Y4.out.x.rs.up.num_l b4 a4).mono ?_
   rintro r z4 ⟨rfl, h⟩
   have Z4 := Lib.hid (Y4.out.go h)
   clear h Y4
   obtain ⟨d1, f1⟩ := Z4.out.cell 4 rfl
   go_wp2_with fail
   clear d1 f1
   have Y5 := Lib.hid (Z4.out.set 4 (.int .u64 y4))
   clear Z4
   refine (Y5.out.x.rs.up.hash_l b5 a5).mono ?_
   rintro r z5 ⟨rfl, h⟩
   have Z5 := Lib.hid (Y5.out.go h)
   clear h Y5
   obtain ⟨d1, f1⟩ := Z5.out.cell 5 rfl
   go_wp2_with fail
   clear d1 f1
   have Y6 := Lib.hid (Z5.out.set 5 (.string y5))
   clear Z5
   refine (Y6.out.x.rs.up.num_l b6 a6).mono ?_
   rintro r z6 ⟨rfl, h⟩
   have Z6 := Lib.hid (Y6.out.go h)
   clear h Y6
   obtain ⟨d1, f1⟩ := Z6.out.cell 6 rfl
   as_aux_lemma =>
   go_wp2_with fail
   clear d1 f1
   have Y7 := Lib.hid (Z6.out.set 6 (.int .u64 y6))
   clear Z6
   refine (Y7.out.x.rs.up.blob_l b7 a7).mono ?_
   rintro r z7 ⟨rfl, h⟩
   have Z7 := Lib.hid (Y7.out.go h)
   clear h Y7
   obtain ⟨d1, f1⟩ := Z7.out.cell 7 rfl
   go_wp2_with fail
   clear d1 f1
   have Y8 := Lib.hid (Z7.out.set 7 (.string y7))
   clear Z7
   refine (Y8.out.x.rs.up.blob_l b8 a8).mono ?_
   rintro r z8 ⟨rfl, h⟩
   have Z8 := Lib.hid (Y8.out.go h)
   clear h Y8
   obtain ⟨d1, f1⟩ := Z8.out.cell 8 rfl
   go_wp2_with fail
   clear d1 f1
   have Y9 := Lib.hid (Z8.out.set 8 (.string y8))
   clear Z8
   refine (Y9.out.x.rs.up.num_l b9 a9).mono ?_
   rintro r z9 ⟨rfl, h⟩
   have Z9 := Lib.hid (Y9.out.go h)
   clear h Y9
   obtain ⟨d1, f1⟩ := Z9.out.cell 9 rfl
   have d3 := (Z9.out.x.cell 3 rfl).1
   go_wp2_with (with_reducible (show wpList _ _ _ (⟨_, Op.load 160 _, _, _, _, _⟩ :: _) _ _); refine halt ?_)
   clear d1 f1 d3
   have Y10 := Lib.hid (Z9.out.set 9 (.int .u64 y9))
   clear Z9
   as_aux_lemma =>
   refine Lib.hid (ld_box rfl 160 _ rfl gx _ rfl Y10.out.bx Tryz.underlying160 rfl (by kernel_rfl) ?_)
   refine Lib.hid (wpl_rowdwin rfl y0 y1 y2 y3 y4 y5 y6 y7 y8 y9 rfl rfl ?_)
   generalize z9.setCell ⟨gx, 9, none⟩ (.int .u64 y9) = z10 at *
   have qz : Q z10 (z10.alloc (.cells #[.string y0, .int .u64 y1, .int .u64 y2, .int .u64 y3, .int .u64 y4, .string y5, .int .u64 y6, .string y7, .string y8, .int .u64 y9] 160)) := (Q.refl z10).alloc _
   have X11 := Lib.hid (Y10.out.x.q qz)
   have O11 := Lib.hid (Y10.out.o.q qz)
   have hb11 : Hid (B ≤ (z10.alloc (.cells #[.string y0, .int .u64 y1, .int .u64 y2, .int .u64 y3, .int .u64 y4, .string y5, .int .u64 y6, .string y7, .string y8, .int .u64 y9] 160)).heap.size) := Nat.le_trans Y10.out.hb qz.size
   have C11 : Hid (∀ j u, ([.string y0, .int .u64 y1, .int .u64 y2, .int .u64 y3, .int .u64 y4, .string y5, .int .u64 y6, .string y7, .string y8, .int .u64 y9] : List Value)[j]? = some u → (z10.alloc (.cells #[.string y0, .int .u64 y1, .int .u64 y2, .int .u64 y3, .int .u64 y4, .string y5, .int .u64 y6, .string y7, .string y8, .int .u64 y9] 160)).cell? ⟨z10.heap.size, j, none⟩ = some u) := fun j u hj => by rw [World.cell?_alloc_at _ _ _ _ rfl]; simpa using hj
   clear qz Y10
   generalize z10.alloc (.cells #[.string y0, .int .u64 y1, .int .u64 y2, .int .u64 y3, .int .u64 y4, .string y5, .int .u64 y6, .string y7, .string y8, .int .u64 y9] 160) = z11 at *
   obtain ⟨i0, hi0, hz0, hz1, hz2⟩ := info_of info_dwin
   refine Lib.hid (wpl_app rfl (.tmp 73) (.tmp 75) 39 rfl i0 _ 112 Tryz.underlying39 hi0 hz0 hz1 hz2 rfl (by decide) rfl O11.out z10.heap.size rfl (by rw [HW.out]; rfl) (fun j u hj => C11.out j u (by rw [HW.out] at hj; exact hj)) (by rw [HW.out]; exact one10 rfl rfl rfl rfl rfl rfl rfl rfl rfl rfl) (by omega) (by decide) hb11.out ?_)
   intro g' c' z12 O12 Gr
   have X12 := Lib.hid (X11.out.grown O11.out hb11.out lG lR lB l0 Gr)
   have hb12 : B ≤ z12.heap.size := by have := hb11.out; have := Gr.gr.size; omega
   have O12 := Lib.hid O12
   clear Gr X11 O11 hb11 C11
   obtain ⟨d3, f3⟩ := X12.out.cell 3 rfl
   go_wp2_with fail
   clear d3 f3
   have X13 := Lib.hid (X12.out.set 3 (.slice (some ⟨g', 0, none⟩) (k + 1) c'))
   have O13 := Lib.hid (O12.out.low (Ch.set z12 gb 3 (.slice (some ⟨g', 0, none⟩) (k + 1) c')) lB)
   have hb13 : B ≤ (z12.setCell ⟨gb, 3, none⟩ (.slice (some ⟨g', 0, none⟩) (k + 1) c')).heap.size := by simpa using hb12
   rw [HS.out] at X13
   clear X12 O12 hb12
   go_roundw
   case rel => exact ⟨k + 1, _, c', by omega, by go_num, hb13, X13, O13⟩
   case measure => simp [intOf]; omega
 · obtain rfl : k = ndK s := by omega
   have SLX := Lib.hid (O.out.sl win_len)
   have SLB : Hid (∀ x, a = some x → x.block ≠ W.heap.size ∧ W.heap.size ≤ x.block) := fun x hx => by have := (O.out.blk_ x hx).1; exact ⟨by omega, by omega⟩
   clear O hb
   have HH : Hid (∀ {P : Prop}, ((decide ((ndK s : Int) < n) = false → P) → (decide ((ndK s : Int) < n) = true ∧ decide ((ndK s : Int) < 4) = false → P) → P)) := fun h1 h2 => by
    by_cases h : (ndK s : Int) < n
    · exact h2 ⟨by simpa using h, by simp; omega⟩
    · exact h1 (by simpa using h)
   obtain ⟨E, hE⟩ : ∃ v, (ndQ s (ndK s)).en = v := ⟨_, rfl⟩
   have TAIL : Hid (∀ P : Prop, P → P) := fun P h => h
   clear TAIL
   generalize hKK : ndK s = KK at *
   by_cases hn : (KK : Int) < n
   · have t1 : decide ((KK : Int) < n) = true := by simpa using hn
     have k2 : ¬ (KK : Int) < 4 := by omega
     have t2 : decide ((KK : Int) < 4) = false := by simpa using k2
     clear HH
     go_wp2_with fail
     clear t1
     subst hKK
     as_aux_lemma =>
     refine (X.out.rs.end_l hE).mono ?_
     rintro r w5 ⟨rfl, q5⟩
     have X := Lib.hid (X.out.q q5)
     have SLX := Lib.hid (SLX.out.q q5)
     clear q5
     by_cases he : E = 0
     · subst he
       go_wp2_with (with_reducible (show wpList _ _ _ (⟨_, Op.load 41 _, _, _, _, _⟩ :: _) _ _); refine halt ?_)
       refine Lib.hid (ld_box rfl 41 _ rfl gb _ rfl X.out.bb Tryz.underlying41 rfl (by kernel_rfl) ?_)
       go_wp2_with fail
       have HRI : Hid (∀ w, SL WN.cells 10 w a (ndK s) (fun i => rdW (ndQ s i)) → Calls Tryz.prog 69 #[.agg #[.int .u64 v0, .string v1, .string v2, .slice a (ndK s) cap]] w (Tells (RightP (ndX s)) w)) := fun w h => by rw [HX.out]; exact d8right_x ⟨v0, v1, v2, ndK s, fun i => rdW (ndQ s i)⟩ a cap w h (by show ndK s ≤ 100; omega)
       refine (HRI.out _ SLX.out).mono ?_
       rintro r w7 ⟨b, rfl, hz, q7⟩
       have X := Lib.hid (X.out.q q7)
       have SLX := Lib.hid (SLX.out.q q7)
       clear q7 HRI
       rcases two hz with ⟨rfl, Z⟩ | ⟨rfl, Z⟩
       · have E1 : Hid (ndE s = 0 ∧ ndV s = ⟨v0, v1, v2, ndK s, fun i => rdW (ndQ s i)⟩) := by
          have : ndE s = 0 := by unfold ndE; rw [if_pos hE, if_pos Z]
          exact ⟨this, by unfold ndV; rw [if_pos this]; exact HX.out⟩
         clear hz Z hE
         go_wp2_with (with_reducible (show wpList _ _ _ (⟨_, Op.load 41 _, _, _, _, _⟩ :: _) _ _); refine halt ?_)
         refine Lib.hid (ld_box rfl 41 _ rfl gb _ rfl X.out.bb Tryz.underlying41 rfl (by kernel_rfl) ?_)
         refine st_box rfl 41 _ _ rfl W.heap.size _ [.int .u64 v0, .string v1, .string v2, .slice a (ndK s) cap] rfl rfl X.out.br rfl (by kernel_rfl) (one4 rfl rfl rfl rfl) ?_
         intro w9 B9 c9
         have HL : Hid ((loadVar 41 ⟨W.heap.size, 0, none⟩).run Tryz.prog w9 = .ok (.agg #[.int .u64 v0, .string v1, .string v2, .slice a (ndK s) cap]) w9) := B9.load _ Tryz.underlying41 rfl (by kernel_rfl)
         have Q9 : Hid (Q W w9) := (X.out.rs.box c9 X.out.l1 X.out.n1).ch.q (Q.refl W) l3
         have SL9 : Hid (SL WN.cells 10 w9 a (ndK s) (fun i => rdW (ndQ s i))) := SLX.out.ch c9 (fun x hx => (SLB.out x hx).1)
         clear B9 c9 SLX X
         go_wp2_with fail
         (try simp only [Exit.inBlock, Exit.then])
         refine bodyPost_ret (results_cell_tmp rfl rfl HL.out) rfl ?_
         exact ⟨a, cap, by rw [E1.out.1, E1.out.2]; rfl, by rw [E1.out.2]; exact SL9.out, fun x hx => (SLB.out x hx).2, Q9.out⟩
       · have E1 : Hid (ndE s = 4 ∧ ndV s = PF.zero) := by
          have : ndE s = 4 := by unfold ndE; rw [if_pos hE, if_neg Z]
          exact ⟨this, ndV_err (by rw [this]; decide)⟩
         clear hz Z hE
         go_wp2_with (with_reducible (show wpList _ _ _ (⟨_, Op.build 41 _, _, _, _, _⟩ :: _) _ _); refine halt ?_)
         refine Lib.hid (wpl_dpz rfl rfl _ rfl ?_)
         go_wp2_with (with_reducible (show wpList _ _ _ (⟨_, Op.store 41 _ _, _, _, _, _⟩ :: _) _ _); refine halt ?_)
         refine Lib.hid (st_box rfl 41 _ _ rfl W.heap.size _ [.int .u64 0, .string ⟨#[]⟩, .string ⟨#[]⟩, .slice none 0 0] rfl rfl X.out.br rfl (by kernel_rfl) (one4 rfl rfl rfl rfl) ?_)
         intro w9 B9 c9
         have HL : Hid ((loadVar 41 ⟨W.heap.size, 0, none⟩).run Tryz.prog w9 = .ok (.agg #[.int .u64 0, .string ⟨#[]⟩, .string ⟨#[]⟩, .slice none 0 0]) w9) := B9.load _ Tryz.underlying41 rfl (by kernel_rfl)
         have Q9 : Hid (Q W w9) := (X.out.rs.box c9 X.out.l1 X.out.n1).ch.q (Q.refl W) l3
         clear B9 c9
         go_wp2_with fail
         (try simp only [Exit.inBlock, Exit.then])
         refine bodyPost_ret (results_cell_tmp rfl rfl HL.out) rfl ?_
         exact ⟨none, 0, by rw [E1.out.1, E1.out.2]; rfl, by rw [E1.out.2]; exact SL.nil rfl, (fun x h => by cases h), Q9.out⟩
     · have E1 : Hid (ndE s = E ∧ ndV s = PF.zero) := by
        have : ndE s = E := by unfold ndE; rw [hE, if_neg he]
        exact ⟨this, ndV_err (by rw [this]; exact he)⟩
       have e1 : (E == 0) = false := by simpa using he
       have e2 : (E != 0) = true := by simpa using he
       clear he hE
       go_wp2_with (with_reducible (show wpList _ _ _ (⟨_, Op.build 41 _, _, _, _, _⟩ :: _) _ _); refine halt ?_)
       refine Lib.hid (wpl_dpz rfl rfl _ rfl ?_)
       go_wp2_with (with_reducible (show wpList _ _ _ (⟨_, Op.store 41 _ _, _, _, _, _⟩ :: _) _ _); refine halt ?_)
       refine Lib.hid (st_box rfl 41 _ _ rfl W.heap.size _ [.int .u64 0, .string ⟨#[]⟩, .string ⟨#[]⟩, .slice none 0 0] rfl rfl X.out.br rfl (by kernel_rfl) (one4 rfl rfl rfl rfl) ?_)
       intro w9 B9 c9
       have HL : Hid ((loadVar 41 ⟨W.heap.size, 0, none⟩).run Tryz.prog w9 = .ok (.agg #[.int .u64 0, .string ⟨#[]⟩, .string ⟨#[]⟩, .slice none 0 0]) w9) := B9.load _ Tryz.underlying41 rfl (by kernel_rfl)
       have Q9 : Hid (Q W w9) := (X.out.rs.box c9 X.out.l1 X.out.n1).ch.q (Q.refl W) l3
       clear B9 c9
       go_wp2_with fail
       (try simp only [Exit.inBlock, Exit.then])
       refine bodyPost_ret (results_cell_tmp rfl rfl HL.out) rfl ?_
       exact ⟨none, 0, by rw [E1.out.1, E1.out.2]; rfl, by rw [E1.out.2]; exact SL.nil rfl, (fun x h => by cases h), Q9.out⟩
   · have t1 : decide ((KK : Int) < n) = false := by simpa using hn
     clear HH
     go_wp2_with fail
     clear t1
     subst hKK
     as_aux_lemma =>
     refine (X.out.rs.end_l hE).mono ?_
     rintro r w5 ⟨rfl, q5⟩
     have X := Lib.hid (X.out.q q5)
     have SLX := Lib.hid (SLX.out.q q5)
     clear q5
     by_cases he : E = 0
     · subst he
       go_wp2_with (with_reducible (show wpList _ _ _ (⟨_, Op.load 41 _, _, _, _, _⟩ :: _) _ _); refine halt ?_)
       refine Lib.hid (ld_box rfl 41 _ rfl gb _ rfl X.out.bb Tryz.underlying41 rfl (by kernel_rfl) ?_)
       go_wp2_with fail
       have HRI : Hid (∀ w, SL WN.cells 10 w a (ndK s) (fun i => rdW (ndQ s i)) → Calls Tryz.prog 69 #[.agg #[.int .u64 v0, .string v1, .string v2, .slice a (ndK s) cap]] w (Tells (RightP (ndX s)) w)) := fun w h => by rw [HX.out]; exact d8right_x ⟨v0, v1, v2, ndK s, fun i => rdW (ndQ s i)⟩ a cap w h (by show ndK s ≤ 100; omega)
       refine (HRI.out _ SLX.out).mono ?_
       rintro r w7 ⟨b, rfl, hz, q7⟩
       have X := Lib.hid (X.out.q q7)
       have SLX := Lib.hid (SLX.out.q q7)
       clear q7 HRI
       rcases two hz with ⟨rfl, Z⟩ | ⟨rfl, Z⟩
       · have E1 : Hid (ndE s = 0 ∧ ndV s = ⟨v0, v1, v2, ndK s, fun i => rdW (ndQ s i)⟩) := by
          have : ndE s = 0 := by unfold ndE; rw [if_pos hE, if_pos Z]
          exact ⟨this, by unfold ndV; rw [if_pos this]; exact HX.out⟩
         clear hz Z hE
         go_wp2_with (with_reducible (show wpList _ _ _ (⟨_, Op.load 41 _, _, _, _, _⟩ :: _) _ _); refine halt ?_)
         refine Lib.hid (ld_box rfl 41 _ rfl gb _ rfl X.out.bb Tryz.underlying41 rfl (by kernel_rfl) ?_)
         refine st_box rfl 41 _ _ rfl W.heap.size _ [.int .u64 v0, .string v1, .string v2, .slice a (ndK s) cap] rfl rfl X.out.br rfl (by kernel_rfl) (one4 rfl rfl rfl rfl) ?_
         intro w9 B9 c9
         have HL : Hid ((loadVar 41 ⟨W.heap.size, 0, none⟩).run Tryz.prog w9 = .ok (.agg #[.int .u64 v0, .string v1, .string v2, .slice a (ndK s) cap]) w9) := B9.load _ Tryz.underlying41 rfl (by kernel_rfl)
         have Q9 : Hid (Q W w9) := (X.out.rs.box c9 X.out.l1 X.out.n1).ch.q (Q.refl W) l3
         have SL9 : Hid (SL WN.cells 10 w9 a (ndK s) (fun i => rdW (ndQ s i))) := SLX.out.ch c9 (fun x hx => (SLB.out x hx).1)
         clear B9 c9 SLX X
         go_wp2_with fail
         (try simp only [Exit.inBlock, Exit.then])
         refine bodyPost_ret (results_cell_tmp rfl rfl HL.out) rfl ?_
         exact ⟨a, cap, by rw [E1.out.1, E1.out.2]; rfl, by rw [E1.out.2]; exact SL9.out, fun x hx => (SLB.out x hx).2, Q9.out⟩
       · have E1 : Hid (ndE s = 4 ∧ ndV s = PF.zero) := by
          have : ndE s = 4 := by unfold ndE; rw [if_pos hE, if_neg Z]
          exact ⟨this, ndV_err (by rw [this]; decide)⟩
         clear hz Z hE
         go_wp2_with (with_reducible (show wpList _ _ _ (⟨_, Op.build 41 _, _, _, _, _⟩ :: _) _ _); refine halt ?_)
         refine Lib.hid (wpl_dpz rfl rfl _ rfl ?_)
         go_wp2_with (with_reducible (show wpList _ _ _ (⟨_, Op.store 41 _ _, _, _, _, _⟩ :: _) _ _); refine halt ?_)
         refine Lib.hid (st_box rfl 41 _ _ rfl W.heap.size _ [.int .u64 0, .string ⟨#[]⟩, .string ⟨#[]⟩, .slice none 0 0] rfl rfl X.out.br rfl (by kernel_rfl) (one4 rfl rfl rfl rfl) ?_)
         intro w9 B9 c9
         have HL : Hid ((loadVar 41 ⟨W.heap.size, 0, none⟩).run Tryz.prog w9 = .ok (.agg #[.int .u64 0, .string ⟨#[]⟩, .string ⟨#[]⟩, .slice none 0 0]) w9) := B9.load _ Tryz.underlying41 rfl (by kernel_rfl)
         have Q9 : Hid (Q W w9) := (X.out.rs.box c9 X.out.l1 X.out.n1).ch.q (Q.refl W) l3
         clear B9 c9
         go_wp2_with fail
         (try simp only [Exit.inBlock, Exit.then])
         refine bodyPost_ret (results_cell_tmp rfl rfl HL.out) rfl ?_
         exact ⟨none, 0, by rw [E1.out.1, E1.out.2]; rfl, by rw [E1.out.2]; exact SL.nil rfl, (fun x h => by cases h), Q9.out⟩
     · have E1 : Hid (ndE s = E ∧ ndV s = PF.zero) := by
        have : ndE s = E := by unfold ndE; rw [hE, if_neg he]
        exact ⟨this, ndV_err (by rw [this]; exact he)⟩
       have e1 : (E == 0) = false := by simpa using he
       have e2 : (E != 0) = true := by simpa using he
       clear he hE
       go_wp2_with (with_reducible (show wpList _ _ _ (⟨_, Op.build 41 _, _, _, _, _⟩ :: _) _ _); refine halt ?_)
       refine Lib.hid (wpl_dpz rfl rfl _ rfl ?_)
       go_wp2_with (with_reducible (show wpList _ _ _ (⟨_, Op.store 41 _ _, _, _, _, _⟩ :: _) _ _); refine halt ?_)
       refine Lib.hid (st_box rfl 41 _ _ rfl W.heap.size _ [.int .u64 0, .string ⟨#[]⟩, .string ⟨#[]⟩, .slice none 0 0] rfl rfl X.out.br rfl (by kernel_rfl) (one4 rfl rfl rfl rfl) ?_)
       intro w9 B9 c9
       have HL : Hid ((loadVar 41 ⟨W.heap.size, 0, none⟩).run Tryz.prog w9 = .ok (.agg #[.int .u64 0, .string ⟨#[]⟩, .string ⟨#[]⟩, .slice none 0 0]) w9) := B9.load _ Tryz.underlying41 rfl (by kernel_rfl)
       have Q9 : Hid (Q W w9) := (X.out.rs.box c9 X.out.l1 X.out.n1).ch.q (Q.refl W) l3
       clear B9 c9
       go_wp2_with fail
       (try simp only [Exit.inBlock, Exit.then])
       refine bodyPost_ret (results_cell_tmp rfl rfl HL.out) rfl ?_
       exact ⟨none, 0, by rw [E1.out.1, E1.out.2]; rfl, by rw [E1.out.2]; exact SL.nil rfl, (fun x h => by cases h), Q9.out⟩
end Go.Proofs.YtjiepemapffgjaaGreatDoor.Coi
