import Derived.Test.YtjiepemapffgjaaGreatDoorXJDec3
import Derived.Test.YtjiepemapffgjaaGreatDoorXHCoiB
set_option maxRecDepth 100000
namespace Go.Proofs.YtjiepemapffgjaaGreatDoor.Coi
open Go.RowKit
open Mem Num Cod
set_option linter.unusedVariables false
set_option linter.unusedSimpArgs false
theorem built_doh (v0 v1 : Int) : Tryz.prog.built 49 [(0, .int .i64 v0), (1, .int .u64 v1)] = some #[.int .i64 v0, .int .u64 v1, .string ⟨#[]⟩, .string ⟨#[]⟩, .int .i64 0, .string ⟨#[]⟩, .int .u64 0, .int .i64 0, .string ⟨#[]⟩] := by kernel_rfl
theorem wpl_doh {ops : Array Oper} {rest : List Oper} {o : Oper} {a : Act} {w : World} {Q : Exit → Act → World → Prop} (hg : o.guard = none) {n0 n1 : Nat} (v0 v1 : Int) (ho : o.op = .build 49 #[(0, .tmp n0), (1, .tmp n1)]) (d : Option Tmp) (hd : o.dst = d) (h0 : a.eval (.tmp n0) = .int .i64 v0) (h1 : a.eval (.tmp n1) = .int .u64 v1) (h : wpList Tryz.prog ops Q rest (a.put d (.agg #[.int .i64 v0, .int .u64 v1, .string ⟨#[]⟩, .string ⟨#[]⟩, .int .i64 0, .string ⟨#[]⟩, .int .u64 0, .int .i64 0, .string ⟨#[]⟩])) w) : wpList Tryz.prog ops Q (o :: rest) a w := by
 refine wpList_buildTo hg 49 _ ho d hd _ ?_ h
 simp only [List.map_toArray, List.map_cons, List.map_nil, h0, h1]
 exact built_doh v0 v1
theorem zeroDO (w : World) : (zeroValue 49).run Tryz.prog w = .ok (.agg #[.int .i64 0, .int .u64 0, .string ⟨#[]⟩, .string ⟨#[]⟩, .int .i64 0, .string ⟨#[]⟩, .int .u64 0, .int .i64 0, .string ⟨#[]⟩]) w := by
 have h : (Tryz.prog.info? 49).bind (·.zero) = some (.agg #[.int .i64 0, .int .u64 0, .string ⟨#[]⟩, .string ⟨#[]⟩, .int .i64 0, .string ⟨#[]⟩, .int .u64 0, .int .i64 0, .string ⟨#[]⟩]) := by kernel_rfl
 cases hi : Tryz.prog.info? 49 with
 | none => rw [hi] at h; cases h
 | some i => rw [hi] at h; simp [zeroValue, typeInfo, hi, show i.zero = some (.agg #[.int .i64 0, .int .u64 0, .string ⟨#[]⟩, .string ⟨#[]⟩, .int .i64 0, .string ⟨#[]⟩, .int .u64 0, .int .i64 0, .string ⟨#[]⟩]) from h]
/-- A store into one cell of a box, in a plain region. -/
theorem st_one {P : Program} {ops : Array Oper} {rest : List Oper} {op : Oper} {a : Act} {w : World} {Q : Exit → Act → World → Prop} (hgd : op.guard = none) (ty : TypeId) (x y : Operand) (ho : op.op = .store ty x y) {b j : Nat} {cs : List Value} {v old : Value}
 (hx : a.eval x = .pointer (some ⟨b, j, none⟩)) (hy : a.eval y = v) (hB : Box w b cs) (hj : cs[j]? = some old) (hrun : ∀ w : World, w.cell? ⟨b, j, none⟩ = some old → w.frozen? ⟨b, j, none⟩ = false → (Instr.storeAt ty (.pointer (some ⟨b, j, none⟩)) v).run P w = .ok () (w.setCell ⟨b, j, none⟩ v))
 (h : ∀ w', Box w' b (cs.set j v) → Ch b w w' → wpList P ops Q rest (a.put op.dst undef) w') : wpList P ops Q (op :: rest) a w :=
 wpList_plain hgd fun K hK => wpo_st1 ty x y ho hx hy hB hj hrun fun w' h1 h2 => hK _ _ (h w' h1 h2)
set_option maxHeartbeats 4000000 in
set_option maxRecDepth 100000 in
theorem dout1_l {w0 w : World} {g : Nat} {q0 : PS} (h : DR w0 g q0 w) {q1 : PS} (s0 : q0.byt = q1) (x0 : q0.byV = 1) {q2 : PS} {v1 : Int} (s1 : q1.num = q2) (x1 : q1.nuV = v1) {q3 : PS} {v2 : ByteArray} (s2 : q2.has = q3) (x2 : q2.haV = v2) :
 Calls Tryz.prog 143 #[.pointer (some ⟨g, 0, none⟩)] w fun r w' => r = .returned (.agg #[.int .i64 1, .int .u64 v1, .string v2, .string ⟨#[]⟩, .int .i64 0, .string ⟨#[]⟩, .int .u64 0, .int .i64 0, .string ⟨#[]⟩]) ∧ DR w0 g q3 w' := by
 have hgl := h.lt
 have hsz := h.ch.size
 have H0 : Hid (∀ o, DR w0 g q0 (w.alloc o)) := fun o => h.q ((Q.refl w).alloc o)
 have HB : Hid (∀ t, Box (w.alloc (.cells #[.int .i64 0, .int .u64 0, .string ⟨#[]⟩, .string ⟨#[]⟩, .int .i64 0, .string ⟨#[]⟩, .int .u64 0, .int .i64 0, .string ⟨#[]⟩] t)) w.heap.size [.int .i64 0, .int .u64 0, .string ⟨#[]⟩, .string ⟨#[]⟩, .int .i64 0, .string ⟨#[]⟩, .int .u64 0, .int .i64 0, .string ⟨#[]⟩]) := fun t => Box.new w [.int .i64 0, .int .u64 0, .string ⟨#[]⟩, .string ⟨#[]⟩, .int .i64 0, .string ⟨#[]⟩, .int .u64 0, .int .i64 0, .string ⟨#[]⟩] t
 have hgr : g ≠ w.heap.size := by omega
 clear h
 go_enter Tryz.func143, Tryz.ntmps143
 go_wp2_with fail
 have B0 := Lib.hid (HB.out 49)
 have H0 := Lib.hid (H0.out (.cells #[.int .i64 0, .int .u64 0, .string ⟨#[]⟩, .string ⟨#[]⟩, .int .i64 0, .string ⟨#[]⟩, .int .u64 0, .int .i64 0, .string ⟨#[]⟩] 49))
 clear HB
 generalize w.alloc (.cells #[.int .i64 0, .int .u64 0, .string ⟨#[]⟩, .string ⟨#[]⟩, .int .i64 0, .string ⟨#[]⟩, .int .u64 0, .int .i64 0, .string ⟨#[]⟩] 49) = wA at *
 generalize w.heap.size = gr at *
 refine (H0.out.up.byte_l x0 s0).mono ?_
 rintro r w1 ⟨rfl, h⟩
 have H1 := Lib.hid (H0.out.over h)
 have B1 := Lib.hid (B0.out.ch h.ch hgr.symm)
 clear h H0 B0
 go_wp2_with fail
 refine (H1.out.up.num_l x1 s1).mono ?_
 rintro r w2 ⟨rfl, h⟩
 have H2 := Lib.hid (H1.out.over h)
 have B2 := Lib.hid (B1.out.ch h.ch hgr.symm)
 clear h H1 B1
 go_wp2_with (with_reducible (show wpList _ _ _ (⟨_, Op.build 49 _, _, _, _, _⟩ :: _) _ _); refine halt ?_)
 refine Lib.hid (wpl_doh rfl 1 v1 rfl _ rfl rfl rfl ?_)
 refine wpList_allocZ rfl 49 rfl #[.int .i64 0, .int .u64 0, .string ⟨#[]⟩, .string ⟨#[]⟩, .int .i64 0, .string ⟨#[]⟩, .int .u64 0, .int .i64 0, .string ⟨#[]⟩] zeroDO ?_
 have G3 := H2.out.lt
 have G4 := B2.out.lt
 have G5 := H2.out.ch.size
 refine st_box rfl 49 _ _ rfl w2.heap.size _ [.int .i64 1, .int .u64 v1, .string ⟨#[]⟩, .string ⟨#[]⟩, .int .i64 0, .string ⟨#[]⟩, .int .u64 0, .int .i64 0, .string ⟨#[]⟩] rfl rfl (Box.new w2 [.int .i64 0, .int .u64 0, .string ⟨#[]⟩, .string ⟨#[]⟩, .int .i64 0, .string ⟨#[]⟩, .int .u64 0, .int .i64 0, .string ⟨#[]⟩] 49) rfl (by kernel_rfl) (one9 rfl rfl rfl rfl rfl rfl rfl rfl rfl) ?_
 intro w3 B3 c3
 have X3 : Hid (DX w0 g gr [.int .i64 0, .int .u64 0, .string ⟨#[]⟩, .string ⟨#[]⟩, .int .i64 0, .string ⟨#[]⟩, .int .u64 0, .int .i64 0, .string ⟨#[]⟩] w2.heap.size [.int .i64 1, .int .u64 v1, .string ⟨#[]⟩, .string ⟨#[]⟩, .int .i64 0, .string ⟨#[]⟩, .int .u64 0, .int .i64 0, .string ⟨#[]⟩] q2 w3) := ⟨(H2.out.q ((Q.refl w2).alloc _)).box c3 G5 (by omega), (B2.out.q ((Q.refl w2).alloc _)).ch c3 (by omega), B3, hgr, by omega, by omega, by omega, G5⟩
 generalize w2.heap.size = gb at *
 clear B3 c3 H2 B2 G3 G4 G5 hsz hgl hgr
 go_wp2_with fail
 refine (X3.out.rs.up.hash_l x2 s2).mono ?_
 rintro r w4 ⟨rfl, h⟩
 have X4 := Lib.hid (X3.out.go h)
 clear h X3
 go_wp2_with (with_reducible (show wpList _ _ _ (⟨_, Op.store 9 _ _, _, _, _, _⟩ :: _) _ _); refine halt ?_)
 refine Lib.hid (st_one rfl 9 _ _ rfl rfl rfl X4.out.bb rfl (fun w hc hf => by simp [go_sem, hc, hf]) ?_)
 intro w5 BB_ cc_
 have X5 := Lib.hid (X4.out.put cc_ BB_)
 clear BB_ cc_ X4
 have c0 := (X5.out.cell 0 rfl).1
 go_wp2_with (with_reducible (show wpList _ _ _ (⟨_, Op.load 49 _, _, _, _, _⟩ :: _) _ _); refine halt ?_)
 clear c0
 refine Lib.hid (ld_box rfl 49 _ rfl gb _ rfl X5.out.bb Tryz.underlying49 rfl (by kernel_rfl) ?_)
 refine st_box rfl 49 _ _ rfl gr _ [.int .i64 1, .int .u64 v1, .string v2, .string ⟨#[]⟩, .int .i64 0, .string ⟨#[]⟩, .int .u64 0, .int .i64 0, .string ⟨#[]⟩] rfl rfl X5.out.br rfl (by kernel_rfl) (one9 rfl rfl rfl rfl rfl rfl rfl rfl rfl) ?_
 intro w9 B9 c9
 have HL : Hid ((loadVar 49 ⟨gr, 0, none⟩).run Tryz.prog w9 = .ok (.agg #[.int .i64 1, .int .u64 v1, .string v2, .string ⟨#[]⟩, .int .i64 0, .string ⟨#[]⟩, .int .u64 0, .int .i64 0, .string ⟨#[]⟩]) w9) := B9.load _ Tryz.underlying49 rfl (by kernel_rfl)
 have H9 : Hid (DR w0 g q3 w9) := X5.out.rs.box c9 X5.out.l1 X5.out.n1
 clear B9 c9 X5
 go_wp2_with fail
 (try simp only [Exit.inBlock, Exit.then])
 refine bodyPost_ret (results_cell rfl rfl HL.out) rfl ?_
 exact ⟨rfl, H9.out⟩
set_option maxHeartbeats 4000000 in
set_option maxRecDepth 100000 in
theorem dout2_l {w0 w : World} {g : Nat} {q0 : PS} (h : DR w0 g q0 w) {q1 : PS} (s0 : q0.byt = q1) (x0 : q0.byV = 2) {q2 : PS} {v1 : Int} (s1 : q1.num = q2) (x1 : q1.nuV = v1) {q3 : PS} {v2 : ByteArray} (s2 : q2.has = q3) (x2 : q2.haV = v2) {q4 : PS} {v3 : ByteArray} (s3 : q3.has = q4) (x3 : q3.haV = v3) {q5 : PS} {v4 : Int} (s4 : q4.num = q5) (x4 : q4.nuV = v4) {q6 : PS} {v5 : ByteArray} (s5 : q5.has = q6) (x5 : q5.haV = v5) {q7 : PS} {v6 : Int} (s6 : q6.num = q7) (x6 : q6.nuV = v6) {q8 : PS} {v7 : Int} (s7 : q7.num = q8) (x7 : q7.nuV = v7) {u4 : Int} (z4 : smallD v4 = u4) {u7 : Int} (z7 : smallD v7 = u7) :
 Calls Tryz.prog 143 #[.pointer (some ⟨g, 0, none⟩)] w fun r w' => r = .returned (.agg #[.int .i64 2, .int .u64 v1, .string v2, .string v3, .int .i64 u4, .string v5, .int .u64 v6, .int .i64 u7, .string ⟨#[]⟩]) ∧ DR w0 g q8 w' := by
 have hgl := h.lt
 have hsz := h.ch.size
 have H0 : Hid (∀ o, DR w0 g q0 (w.alloc o)) := fun o => h.q ((Q.refl w).alloc o)
 have HB : Hid (∀ t, Box (w.alloc (.cells #[.int .i64 0, .int .u64 0, .string ⟨#[]⟩, .string ⟨#[]⟩, .int .i64 0, .string ⟨#[]⟩, .int .u64 0, .int .i64 0, .string ⟨#[]⟩] t)) w.heap.size [.int .i64 0, .int .u64 0, .string ⟨#[]⟩, .string ⟨#[]⟩, .int .i64 0, .string ⟨#[]⟩, .int .u64 0, .int .i64 0, .string ⟨#[]⟩]) := fun t => Box.new w [.int .i64 0, .int .u64 0, .string ⟨#[]⟩, .string ⟨#[]⟩, .int .i64 0, .string ⟨#[]⟩, .int .u64 0, .int .i64 0, .string ⟨#[]⟩] t
 have hgr : g ≠ w.heap.size := by omega
 clear h
 have SM4 : Hid (∀ w, Calls Tryz.prog 165 #[.int .u64 v4] w fun e w' => e = .returned (.int .i64 u4) ∧ Q w w') := fun w => by rw [← z4]; exact small_x v4 (by rw [← x4]; exact PS.nuV_in _) w
 clear z4
 have SM7 : Hid (∀ w, Calls Tryz.prog 165 #[.int .u64 v7] w fun e w' => e = .returned (.int .i64 u7) ∧ Q w w') := fun w => by rw [← z7]; exact small_x v7 (by rw [← x7]; exact PS.nuV_in _) w
 clear z7
 go_enter Tryz.func143, Tryz.ntmps143
 go_wp2_with fail
 have B0 := Lib.hid (HB.out 49)
 have H0 := Lib.hid (H0.out (.cells #[.int .i64 0, .int .u64 0, .string ⟨#[]⟩, .string ⟨#[]⟩, .int .i64 0, .string ⟨#[]⟩, .int .u64 0, .int .i64 0, .string ⟨#[]⟩] 49))
 clear HB
 generalize w.alloc (.cells #[.int .i64 0, .int .u64 0, .string ⟨#[]⟩, .string ⟨#[]⟩, .int .i64 0, .string ⟨#[]⟩, .int .u64 0, .int .i64 0, .string ⟨#[]⟩] 49) = wA at *
 generalize w.heap.size = gr at *
 refine (H0.out.up.byte_l x0 s0).mono ?_
 rintro r w1 ⟨rfl, h⟩
 have H1 := Lib.hid (H0.out.over h)
 have B1 := Lib.hid (B0.out.ch h.ch hgr.symm)
 clear h H0 B0
 go_wp2_with fail
 refine (H1.out.up.num_l x1 s1).mono ?_
 rintro r w2 ⟨rfl, h⟩
 have H2 := Lib.hid (H1.out.over h)
 have B2 := Lib.hid (B1.out.ch h.ch hgr.symm)
 clear h H1 B1
 go_wp2_with (with_reducible (show wpList _ _ _ (⟨_, Op.build 49 _, _, _, _, _⟩ :: _) _ _); refine halt ?_)
 refine Lib.hid (wpl_doh rfl 2 v1 rfl _ rfl rfl rfl ?_)
 refine wpList_allocZ rfl 49 rfl #[.int .i64 0, .int .u64 0, .string ⟨#[]⟩, .string ⟨#[]⟩, .int .i64 0, .string ⟨#[]⟩, .int .u64 0, .int .i64 0, .string ⟨#[]⟩] zeroDO ?_
 have G3 := H2.out.lt
 have G4 := B2.out.lt
 have G5 := H2.out.ch.size
 refine st_box rfl 49 _ _ rfl w2.heap.size _ [.int .i64 2, .int .u64 v1, .string ⟨#[]⟩, .string ⟨#[]⟩, .int .i64 0, .string ⟨#[]⟩, .int .u64 0, .int .i64 0, .string ⟨#[]⟩] rfl rfl (Box.new w2 [.int .i64 0, .int .u64 0, .string ⟨#[]⟩, .string ⟨#[]⟩, .int .i64 0, .string ⟨#[]⟩, .int .u64 0, .int .i64 0, .string ⟨#[]⟩] 49) rfl (by kernel_rfl) (one9 rfl rfl rfl rfl rfl rfl rfl rfl rfl) ?_
 intro w3 B3 c3
 have X3 : Hid (DX w0 g gr [.int .i64 0, .int .u64 0, .string ⟨#[]⟩, .string ⟨#[]⟩, .int .i64 0, .string ⟨#[]⟩, .int .u64 0, .int .i64 0, .string ⟨#[]⟩] w2.heap.size [.int .i64 2, .int .u64 v1, .string ⟨#[]⟩, .string ⟨#[]⟩, .int .i64 0, .string ⟨#[]⟩, .int .u64 0, .int .i64 0, .string ⟨#[]⟩] q2 w3) := ⟨(H2.out.q ((Q.refl w2).alloc _)).box c3 G5 (by omega), (B2.out.q ((Q.refl w2).alloc _)).ch c3 (by omega), B3, hgr, by omega, by omega, by omega, G5⟩
 generalize w2.heap.size = gb at *
 clear B3 c3 H2 B2 G3 G4 G5 hsz hgl hgr
 go_wp2_with fail
 refine (X3.out.rs.up.hash_l x2 s2).mono ?_
 rintro r w4 ⟨rfl, h⟩
 have X4 := Lib.hid (X3.out.go h)
 clear h X3
 go_wp2_with (with_reducible (show wpList _ _ _ (⟨_, Op.store 9 _ _, _, _, _, _⟩ :: _) _ _); refine halt ?_)
 refine Lib.hid (st_one rfl 9 _ _ rfl rfl rfl X4.out.bb rfl (fun w hc hf => by simp [go_sem, hc, hf]) ?_)
 intro w5 BB_ cc_
 have X5 := Lib.hid (X4.out.put cc_ BB_)
 clear BB_ cc_ X4
 have c0 := (X5.out.cell 0 rfl).1
 as_aux_lemma =>
 go_wp2_with fail
 refine (X5.out.rs.up.hash_l x3 s3).mono ?_
 rintro r y3 ⟨rfl, h⟩
 have X6 := Lib.hid (X5.out.go h)
 clear h X5
 clear c0
 go_wp2_with (with_reducible (show wpList _ _ _ (⟨_, Op.store 9 _ _, _, _, _, _⟩ :: _) _ _); refine halt ?_)
 refine Lib.hid (st_one rfl 9 _ _ rfl rfl rfl X6.out.bb rfl (fun w hc hf => by simp [go_sem, hc, hf]) ?_)
 intro t3 BB_ cc_
 have X7 := Lib.hid (X6.out.put cc_ BB_)
 clear BB_ cc_ X6
 have c0 := (X7.out.cell 0 rfl).1
 go_wp2_with fail
 refine (X7.out.rs.up.num_l x4 s4).mono ?_
 rintro r y4 ⟨rfl, h⟩
 have X8 := Lib.hid (X7.out.go h)
 clear h X7
 clear c0
 go_wp2_with fail
 refine (SM4.out _).mono ?_
 rintro r y4b ⟨rfl, q⟩
 have X9 := Lib.hid (X8.out.q q)
 clear q X8 SM4
 go_wp2_with (with_reducible (show wpList _ _ _ (⟨_, Op.store 3 _ _, _, _, _, _⟩ :: _) _ _); refine halt ?_)
 refine Lib.hid (st_one rfl 3 _ _ rfl rfl rfl X9.out.bb rfl (fun w hc hf => by simp [go_sem, hc, hf]) ?_)
 intro t4 BB_ cc_
 have X10 := Lib.hid (X9.out.put cc_ BB_)
 clear BB_ cc_ X9
 have c0 := (X10.out.cell 0 rfl).1
 go_wp2_with fail
 refine (X10.out.rs.up.hash_l x5 s5).mono ?_
 rintro r y5 ⟨rfl, h⟩
 have X11 := Lib.hid (X10.out.go h)
 clear h X10
 clear c0
 go_wp2_with (with_reducible (show wpList _ _ _ (⟨_, Op.store 9 _ _, _, _, _, _⟩ :: _) _ _); refine halt ?_)
 refine Lib.hid (st_one rfl 9 _ _ rfl rfl rfl X11.out.bb rfl (fun w hc hf => by simp [go_sem, hc, hf]) ?_)
 intro t5 BB_ cc_
 have X12 := Lib.hid (X11.out.put cc_ BB_)
 clear BB_ cc_ X11
 have c0 := (X12.out.cell 0 rfl).1
 as_aux_lemma =>
 go_wp2_with fail
 refine (X12.out.rs.up.num_l x6 s6).mono ?_
 rintro r y6 ⟨rfl, h⟩
 have X13 := Lib.hid (X12.out.go h)
 clear h X12
 clear c0
 go_wp2_with (with_reducible (show wpList _ _ _ (⟨_, Op.store 24 _ _, _, _, _, _⟩ :: _) _ _); refine halt ?_)
 refine Lib.hid (st_one rfl 24 _ _ rfl rfl rfl X13.out.bb rfl (fun w hc hf => by simp [go_sem, hc, hf]) ?_)
 intro t6 BB_ cc_
 have X14 := Lib.hid (X13.out.put cc_ BB_)
 clear BB_ cc_ X13
 have c0 := (X14.out.cell 0 rfl).1
 go_wp2_with fail
 refine (X14.out.rs.up.num_l x7 s7).mono ?_
 rintro r y7 ⟨rfl, h⟩
 have X15 := Lib.hid (X14.out.go h)
 clear h X14
 clear c0
 go_wp2_with fail
 refine (SM7.out _).mono ?_
 rintro r y7b ⟨rfl, q⟩
 have X16 := Lib.hid (X15.out.q q)
 clear q X15 SM7
 go_wp2_with (with_reducible (show wpList _ _ _ (⟨_, Op.store 3 _ _, _, _, _, _⟩ :: _) _ _); refine halt ?_)
 refine Lib.hid (st_one rfl 3 _ _ rfl rfl rfl X16.out.bb rfl (fun w hc hf => by simp [go_sem, hc, hf]) ?_)
 intro t7 BB_ cc_
 have X17 := Lib.hid (X16.out.put cc_ BB_)
 clear BB_ cc_ X16
 have c0 := (X17.out.cell 0 rfl).1
 go_wp2_with (with_reducible (show wpList _ _ _ (⟨_, Op.load 49 _, _, _, _, _⟩ :: _) _ _); refine halt ?_)
 clear c0
 refine Lib.hid (ld_box rfl 49 _ rfl gb _ rfl X17.out.bb Tryz.underlying49 rfl (by kernel_rfl) ?_)
 refine st_box rfl 49 _ _ rfl gr _ [.int .i64 2, .int .u64 v1, .string v2, .string v3, .int .i64 u4, .string v5, .int .u64 v6, .int .i64 u7, .string ⟨#[]⟩] rfl rfl X17.out.br rfl (by kernel_rfl) (one9 rfl rfl rfl rfl rfl rfl rfl rfl rfl) ?_
 intro w9 B9 c9
 have HL : Hid ((loadVar 49 ⟨gr, 0, none⟩).run Tryz.prog w9 = .ok (.agg #[.int .i64 2, .int .u64 v1, .string v2, .string v3, .int .i64 u4, .string v5, .int .u64 v6, .int .i64 u7, .string ⟨#[]⟩]) w9) := B9.load _ Tryz.underlying49 rfl (by kernel_rfl)
 have H9 : Hid (DR w0 g q8 w9) := X17.out.rs.box c9 X17.out.l1 X17.out.n1
 clear B9 c9 X17
 go_wp2_with fail
 (try simp only [Exit.inBlock, Exit.then])
 refine bodyPost_ret (results_cell rfl rfl HL.out) rfl ?_
 exact ⟨rfl, H9.out⟩
set_option maxHeartbeats 4000000 in
set_option maxRecDepth 100000 in
theorem dout3_l {w0 w : World} {g : Nat} {q0 : PS} (h : DR w0 g q0 w) {q1 : PS} (s0 : q0.byt = q1) (x0 : q0.byV = 3) {q2 : PS} {v1 : Int} (s1 : q1.num = q2) (x1 : q1.nuV = v1) {q3 : PS} {v2 : ByteArray} (s2 : q2.has = q3) (x2 : q2.haV = v2) {q4 : PS} {v3 : ByteArray} (s3 : q3.has = q4) (x3 : q3.haV = v3) {q5 : PS} {v4 : Int} (s4 : q4.num = q5) (x4 : q4.nuV = v4) {q6 : PS} {v5 : ByteArray} (s5 : q5.has = q6) (x5 : q5.haV = v5) {u4 : Int} (z4 : smallD v4 = u4) :
 Calls Tryz.prog 143 #[.pointer (some ⟨g, 0, none⟩)] w fun r w' => r = .returned (.agg #[.int .i64 3, .int .u64 v1, .string v2, .string v3, .int .i64 u4, .string ⟨#[]⟩, .int .u64 0, .int .i64 0, .string v5]) ∧ DR w0 g q6 w' := by
 have hgl := h.lt
 have hsz := h.ch.size
 have H0 : Hid (∀ o, DR w0 g q0 (w.alloc o)) := fun o => h.q ((Q.refl w).alloc o)
 have HB : Hid (∀ t, Box (w.alloc (.cells #[.int .i64 0, .int .u64 0, .string ⟨#[]⟩, .string ⟨#[]⟩, .int .i64 0, .string ⟨#[]⟩, .int .u64 0, .int .i64 0, .string ⟨#[]⟩] t)) w.heap.size [.int .i64 0, .int .u64 0, .string ⟨#[]⟩, .string ⟨#[]⟩, .int .i64 0, .string ⟨#[]⟩, .int .u64 0, .int .i64 0, .string ⟨#[]⟩]) := fun t => Box.new w [.int .i64 0, .int .u64 0, .string ⟨#[]⟩, .string ⟨#[]⟩, .int .i64 0, .string ⟨#[]⟩, .int .u64 0, .int .i64 0, .string ⟨#[]⟩] t
 have hgr : g ≠ w.heap.size := by omega
 clear h
 have SM4 : Hid (∀ w, Calls Tryz.prog 165 #[.int .u64 v4] w fun e w' => e = .returned (.int .i64 u4) ∧ Q w w') := fun w => by rw [← z4]; exact small_x v4 (by rw [← x4]; exact PS.nuV_in _) w
 clear z4
 go_enter Tryz.func143, Tryz.ntmps143
 go_wp2_with fail
 have B0 := Lib.hid (HB.out 49)
 have H0 := Lib.hid (H0.out (.cells #[.int .i64 0, .int .u64 0, .string ⟨#[]⟩, .string ⟨#[]⟩, .int .i64 0, .string ⟨#[]⟩, .int .u64 0, .int .i64 0, .string ⟨#[]⟩] 49))
 clear HB
 generalize w.alloc (.cells #[.int .i64 0, .int .u64 0, .string ⟨#[]⟩, .string ⟨#[]⟩, .int .i64 0, .string ⟨#[]⟩, .int .u64 0, .int .i64 0, .string ⟨#[]⟩] 49) = wA at *
 generalize w.heap.size = gr at *
 refine (H0.out.up.byte_l x0 s0).mono ?_
 rintro r w1 ⟨rfl, h⟩
 have H1 := Lib.hid (H0.out.over h)
 have B1 := Lib.hid (B0.out.ch h.ch hgr.symm)
 clear h H0 B0
 go_wp2_with fail
 refine (H1.out.up.num_l x1 s1).mono ?_
 rintro r w2 ⟨rfl, h⟩
 have H2 := Lib.hid (H1.out.over h)
 have B2 := Lib.hid (B1.out.ch h.ch hgr.symm)
 clear h H1 B1
 go_wp2_with (with_reducible (show wpList _ _ _ (⟨_, Op.build 49 _, _, _, _, _⟩ :: _) _ _); refine halt ?_)
 refine Lib.hid (wpl_doh rfl 3 v1 rfl _ rfl rfl rfl ?_)
 refine wpList_allocZ rfl 49 rfl #[.int .i64 0, .int .u64 0, .string ⟨#[]⟩, .string ⟨#[]⟩, .int .i64 0, .string ⟨#[]⟩, .int .u64 0, .int .i64 0, .string ⟨#[]⟩] zeroDO ?_
 have G3 := H2.out.lt
 have G4 := B2.out.lt
 have G5 := H2.out.ch.size
 refine st_box rfl 49 _ _ rfl w2.heap.size _ [.int .i64 3, .int .u64 v1, .string ⟨#[]⟩, .string ⟨#[]⟩, .int .i64 0, .string ⟨#[]⟩, .int .u64 0, .int .i64 0, .string ⟨#[]⟩] rfl rfl (Box.new w2 [.int .i64 0, .int .u64 0, .string ⟨#[]⟩, .string ⟨#[]⟩, .int .i64 0, .string ⟨#[]⟩, .int .u64 0, .int .i64 0, .string ⟨#[]⟩] 49) rfl (by kernel_rfl) (one9 rfl rfl rfl rfl rfl rfl rfl rfl rfl) ?_
 intro w3 B3 c3
 have X3 : Hid (DX w0 g gr [.int .i64 0, .int .u64 0, .string ⟨#[]⟩, .string ⟨#[]⟩, .int .i64 0, .string ⟨#[]⟩, .int .u64 0, .int .i64 0, .string ⟨#[]⟩] w2.heap.size [.int .i64 3, .int .u64 v1, .string ⟨#[]⟩, .string ⟨#[]⟩, .int .i64 0, .string ⟨#[]⟩, .int .u64 0, .int .i64 0, .string ⟨#[]⟩] q2 w3) := ⟨(H2.out.q ((Q.refl w2).alloc _)).box c3 G5 (by omega), (B2.out.q ((Q.refl w2).alloc _)).ch c3 (by omega), B3, hgr, by omega, by omega, by omega, G5⟩
 generalize w2.heap.size = gb at *
 clear B3 c3 H2 B2 G3 G4 G5 hsz hgl hgr
 go_wp2_with fail
 refine (X3.out.rs.up.hash_l x2 s2).mono ?_
 rintro r w4 ⟨rfl, h⟩
 have X4 := Lib.hid (X3.out.go h)
 clear h X3
 go_wp2_with (with_reducible (show wpList _ _ _ (⟨_, Op.store 9 _ _, _, _, _, _⟩ :: _) _ _); refine halt ?_)
 refine Lib.hid (st_one rfl 9 _ _ rfl rfl rfl X4.out.bb rfl (fun w hc hf => by simp [go_sem, hc, hf]) ?_)
 intro w5 BB_ cc_
 have X5 := Lib.hid (X4.out.put cc_ BB_)
 clear BB_ cc_ X4
 have c0 := (X5.out.cell 0 rfl).1
 as_aux_lemma =>
 go_wp2_with fail
 refine (X5.out.rs.up.hash_l x3 s3).mono ?_
 rintro r y3 ⟨rfl, h⟩
 have X6 := Lib.hid (X5.out.go h)
 clear h X5
 clear c0
 go_wp2_with (with_reducible (show wpList _ _ _ (⟨_, Op.store 9 _ _, _, _, _, _⟩ :: _) _ _); refine halt ?_)
 refine Lib.hid (st_one rfl 9 _ _ rfl rfl rfl X6.out.bb rfl (fun w hc hf => by simp [go_sem, hc, hf]) ?_)
 intro t3 BB_ cc_
 have X7 := Lib.hid (X6.out.put cc_ BB_)
 clear BB_ cc_ X6
 have c0 := (X7.out.cell 0 rfl).1
 go_wp2_with fail
 refine (X7.out.rs.up.num_l x4 s4).mono ?_
 rintro r y4 ⟨rfl, h⟩
 have X8 := Lib.hid (X7.out.go h)
 clear h X7
 clear c0
 go_wp2_with fail
 refine (SM4.out _).mono ?_
 rintro r y4b ⟨rfl, q⟩
 have X9 := Lib.hid (X8.out.q q)
 clear q X8 SM4
 go_wp2_with (with_reducible (show wpList _ _ _ (⟨_, Op.store 3 _ _, _, _, _, _⟩ :: _) _ _); refine halt ?_)
 refine Lib.hid (st_one rfl 3 _ _ rfl rfl rfl X9.out.bb rfl (fun w hc hf => by simp [go_sem, hc, hf]) ?_)
 intro t4 BB_ cc_
 have X10 := Lib.hid (X9.out.put cc_ BB_)
 clear BB_ cc_ X9
 have c0 := (X10.out.cell 0 rfl).1
 go_wp2_with fail
 refine (X10.out.rs.up.hash_l x5 s5).mono ?_
 rintro r y5 ⟨rfl, h⟩
 have X11 := Lib.hid (X10.out.go h)
 clear h X10
 clear c0
 go_wp2_with (with_reducible (show wpList _ _ _ (⟨_, Op.store 9 _ _, _, _, _, _⟩ :: _) _ _); refine halt ?_)
 refine Lib.hid (st_one rfl 9 _ _ rfl rfl rfl X11.out.bb rfl (fun w hc hf => by simp [go_sem, hc, hf]) ?_)
 intro t5 BB_ cc_
 have X12 := Lib.hid (X11.out.put cc_ BB_)
 clear BB_ cc_ X11
 have c0 := (X12.out.cell 0 rfl).1
 go_wp2_with (with_reducible (show wpList _ _ _ (⟨_, Op.load 49 _, _, _, _, _⟩ :: _) _ _); refine halt ?_)
 clear c0
 refine Lib.hid (ld_box rfl 49 _ rfl gb _ rfl X12.out.bb Tryz.underlying49 rfl (by kernel_rfl) ?_)
 refine st_box rfl 49 _ _ rfl gr _ [.int .i64 3, .int .u64 v1, .string v2, .string v3, .int .i64 u4, .string ⟨#[]⟩, .int .u64 0, .int .i64 0, .string v5] rfl rfl X12.out.br rfl (by kernel_rfl) (one9 rfl rfl rfl rfl rfl rfl rfl rfl rfl) ?_
 intro w9 B9 c9
 have HL : Hid ((loadVar 49 ⟨gr, 0, none⟩).run Tryz.prog w9 = .ok (.agg #[.int .i64 3, .int .u64 v1, .string v2, .string v3, .int .i64 u4, .string ⟨#[]⟩, .int .u64 0, .int .i64 0, .string v5]) w9) := B9.load _ Tryz.underlying49 rfl (by kernel_rfl)
 have H9 : Hid (DR w0 g q6 w9) := X12.out.rs.box c9 X12.out.l1 X12.out.n1
 clear B9 c9 X12
 go_wp2_with fail
 (try simp only [Exit.inBlock, Exit.then])
 refine bodyPost_ret (results_cell rfl rfl HL.out) rfl ?_
 exact ⟨rfl, H9.out⟩
set_option maxHeartbeats 4000000 in
set_option maxRecDepth 100000 in
theorem doutXL_l {w0 w : World} {g : Nat} {q0 : PS} (h : DR w0 g q0 w) {q1 : PS} {v0 : Int} (s0 : q0.byt = q1) (x0 : q0.byV = v0) {q2 : PS} {v1 : Int} (s1 : q1.num = q2) (x1 : q1.nuV = v1) {q3 : PS} {v2 : ByteArray} (s2 : q2.has = q3) (x2 : q2.haV = v2) (k1 : v0 < 1) :
 Calls Tryz.prog 143 #[.pointer (some ⟨g, 0, none⟩)] w fun r w' => r = .returned (.agg #[.int .i64 v0, .int .u64 v1, .string v2, .string ⟨#[]⟩, .int .i64 0, .string ⟨#[]⟩, .int .u64 0, .int .i64 0, .string ⟨#[]⟩]) ∧ DR w0 g (q3.fl 4) w' := by
 have hgl := h.lt
 have hsz := h.ch.size
 have H0 : Hid (∀ o, DR w0 g q0 (w.alloc o)) := fun o => h.q ((Q.refl w).alloc o)
 have HB : Hid (∀ t, Box (w.alloc (.cells #[.int .i64 0, .int .u64 0, .string ⟨#[]⟩, .string ⟨#[]⟩, .int .i64 0, .string ⟨#[]⟩, .int .u64 0, .int .i64 0, .string ⟨#[]⟩] t)) w.heap.size [.int .i64 0, .int .u64 0, .string ⟨#[]⟩, .string ⟨#[]⟩, .int .i64 0, .string ⟨#[]⟩, .int .u64 0, .int .i64 0, .string ⟨#[]⟩]) := fun t => Box.new w [.int .i64 0, .int .u64 0, .string ⟨#[]⟩, .string ⟨#[]⟩, .int .i64 0, .string ⟨#[]⟩, .int .u64 0, .int .i64 0, .string ⟨#[]⟩] t
 have hgr : g ≠ w.heap.size := by omega
 clear h
 have t1 : (v0 == 2) = false := by simp; omega
 have t2 : (v0 == 3) = false := by simp; omega
 have t3 : decide (v0 < 1) = true := by simpa using k1
 go_enter Tryz.func143, Tryz.ntmps143
 go_wp2_with fail
 have B0 := Lib.hid (HB.out 49)
 have H0 := Lib.hid (H0.out (.cells #[.int .i64 0, .int .u64 0, .string ⟨#[]⟩, .string ⟨#[]⟩, .int .i64 0, .string ⟨#[]⟩, .int .u64 0, .int .i64 0, .string ⟨#[]⟩] 49))
 clear HB
 generalize w.alloc (.cells #[.int .i64 0, .int .u64 0, .string ⟨#[]⟩, .string ⟨#[]⟩, .int .i64 0, .string ⟨#[]⟩, .int .u64 0, .int .i64 0, .string ⟨#[]⟩] 49) = wA at *
 generalize w.heap.size = gr at *
 refine (H0.out.up.byte_l x0 s0).mono ?_
 rintro r w1 ⟨rfl, h⟩
 have H1 := Lib.hid (H0.out.over h)
 have B1 := Lib.hid (B0.out.ch h.ch hgr.symm)
 clear h H0 B0
 go_wp2_with fail
 refine (H1.out.up.num_l x1 s1).mono ?_
 rintro r w2 ⟨rfl, h⟩
 have H2 := Lib.hid (H1.out.over h)
 have B2 := Lib.hid (B1.out.ch h.ch hgr.symm)
 clear h H1 B1
 go_wp2_with (with_reducible (show wpList _ _ _ (⟨_, Op.build 49 _, _, _, _, _⟩ :: _) _ _); refine halt ?_)
 refine Lib.hid (wpl_doh rfl v0 v1 rfl _ rfl rfl rfl ?_)
 refine wpList_allocZ rfl 49 rfl #[.int .i64 0, .int .u64 0, .string ⟨#[]⟩, .string ⟨#[]⟩, .int .i64 0, .string ⟨#[]⟩, .int .u64 0, .int .i64 0, .string ⟨#[]⟩] zeroDO ?_
 have G3 := H2.out.lt
 have G4 := B2.out.lt
 have G5 := H2.out.ch.size
 refine st_box rfl 49 _ _ rfl w2.heap.size _ [.int .i64 v0, .int .u64 v1, .string ⟨#[]⟩, .string ⟨#[]⟩, .int .i64 0, .string ⟨#[]⟩, .int .u64 0, .int .i64 0, .string ⟨#[]⟩] rfl rfl (Box.new w2 [.int .i64 0, .int .u64 0, .string ⟨#[]⟩, .string ⟨#[]⟩, .int .i64 0, .string ⟨#[]⟩, .int .u64 0, .int .i64 0, .string ⟨#[]⟩] 49) rfl (by kernel_rfl) (one9 rfl rfl rfl rfl rfl rfl rfl rfl rfl) ?_
 intro w3 B3 c3
 have X3 : Hid (DX w0 g gr [.int .i64 0, .int .u64 0, .string ⟨#[]⟩, .string ⟨#[]⟩, .int .i64 0, .string ⟨#[]⟩, .int .u64 0, .int .i64 0, .string ⟨#[]⟩] w2.heap.size [.int .i64 v0, .int .u64 v1, .string ⟨#[]⟩, .string ⟨#[]⟩, .int .i64 0, .string ⟨#[]⟩, .int .u64 0, .int .i64 0, .string ⟨#[]⟩] q2 w3) := ⟨(H2.out.q ((Q.refl w2).alloc _)).box c3 G5 (by omega), (B2.out.q ((Q.refl w2).alloc _)).ch c3 (by omega), B3, hgr, by omega, by omega, by omega, G5⟩
 generalize w2.heap.size = gb at *
 clear B3 c3 H2 B2 G3 G4 G5 hsz hgl hgr
 go_wp2_with fail
 refine (X3.out.rs.up.hash_l x2 s2).mono ?_
 rintro r w4 ⟨rfl, h⟩
 have X4 := Lib.hid (X3.out.go h)
 clear h X3
 go_wp2_with (with_reducible (show wpList _ _ _ (⟨_, Op.store 9 _ _, _, _, _, _⟩ :: _) _ _); refine halt ?_)
 refine Lib.hid (st_one rfl 9 _ _ rfl rfl rfl X4.out.bb rfl (fun w hc hf => by simp [go_sem, hc, hf]) ?_)
 intro w5 BB_ cc_
 have X5 := Lib.hid (X4.out.put cc_ BB_)
 clear BB_ cc_ X4
 have c0 := (X5.out.cell 0 rfl).1
 go_wp2_with fail
 refine (X5.out.rs.up.fail_l rfl).mono ?_
 rintro r w6 ⟨rfl, h⟩
 have X6 := Lib.hid (X5.out.go h)
 clear h X5 c0
 have c0 := (X6.out.cell 0 rfl).1
 go_wp2_with (with_reducible (show wpList _ _ _ (⟨_, Op.load 49 _, _, _, _, _⟩ :: _) _ _); refine halt ?_)
 clear c0
 refine Lib.hid (ld_box rfl 49 _ rfl gb _ rfl X6.out.bb Tryz.underlying49 rfl (by kernel_rfl) ?_)
 refine st_box rfl 49 _ _ rfl gr _ [.int .i64 v0, .int .u64 v1, .string v2, .string ⟨#[]⟩, .int .i64 0, .string ⟨#[]⟩, .int .u64 0, .int .i64 0, .string ⟨#[]⟩] rfl rfl X6.out.br rfl (by kernel_rfl) (one9 rfl rfl rfl rfl rfl rfl rfl rfl rfl) ?_
 intro w9 B9 c9
 have HL : Hid ((loadVar 49 ⟨gr, 0, none⟩).run Tryz.prog w9 = .ok (.agg #[.int .i64 v0, .int .u64 v1, .string v2, .string ⟨#[]⟩, .int .i64 0, .string ⟨#[]⟩, .int .u64 0, .int .i64 0, .string ⟨#[]⟩]) w9) := B9.load _ Tryz.underlying49 rfl (by kernel_rfl)
 have H9 : Hid (DR w0 g (q3.fl 4) w9) := X6.out.rs.box c9 X6.out.l1 X6.out.n1
 clear B9 c9 X6
 go_wp2_with fail
 (try simp only [Exit.inBlock, Exit.then])
 refine bodyPost_ret (results_cell rfl rfl HL.out) rfl ?_
 exact ⟨rfl, H9.out⟩
set_option maxHeartbeats 4000000 in
set_option maxRecDepth 100000 in
theorem doutXH_l {w0 w : World} {g : Nat} {q0 : PS} (h : DR w0 g q0 w) {q1 : PS} {v0 : Int} (s0 : q0.byt = q1) (x0 : q0.byV = v0) {q2 : PS} {v1 : Int} (s1 : q1.num = q2) (x1 : q1.nuV = v1) {q3 : PS} {v2 : ByteArray} (s2 : q2.has = q3) (x2 : q2.haV = v2) (k1 : 3 < v0) :
 Calls Tryz.prog 143 #[.pointer (some ⟨g, 0, none⟩)] w fun r w' => r = .returned (.agg #[.int .i64 v0, .int .u64 v1, .string v2, .string ⟨#[]⟩, .int .i64 0, .string ⟨#[]⟩, .int .u64 0, .int .i64 0, .string ⟨#[]⟩]) ∧ DR w0 g (q3.fl 4) w' := by
 have hgl := h.lt
 have hsz := h.ch.size
 have H0 : Hid (∀ o, DR w0 g q0 (w.alloc o)) := fun o => h.q ((Q.refl w).alloc o)
 have HB : Hid (∀ t, Box (w.alloc (.cells #[.int .i64 0, .int .u64 0, .string ⟨#[]⟩, .string ⟨#[]⟩, .int .i64 0, .string ⟨#[]⟩, .int .u64 0, .int .i64 0, .string ⟨#[]⟩] t)) w.heap.size [.int .i64 0, .int .u64 0, .string ⟨#[]⟩, .string ⟨#[]⟩, .int .i64 0, .string ⟨#[]⟩, .int .u64 0, .int .i64 0, .string ⟨#[]⟩]) := fun t => Box.new w [.int .i64 0, .int .u64 0, .string ⟨#[]⟩, .string ⟨#[]⟩, .int .i64 0, .string ⟨#[]⟩, .int .u64 0, .int .i64 0, .string ⟨#[]⟩] t
 have hgr : g ≠ w.heap.size := by omega
 clear h
 have t1 : (v0 == 2) = false := by simp; omega
 have t2 : (v0 == 3) = false := by simp; omega
 have t3 : decide (v0 < 1) = false := by simp; omega
 have t4 : decide (3 < v0) = true := by simpa using k1
 go_enter Tryz.func143, Tryz.ntmps143
 go_wp2_with fail
 have B0 := Lib.hid (HB.out 49)
 have H0 := Lib.hid (H0.out (.cells #[.int .i64 0, .int .u64 0, .string ⟨#[]⟩, .string ⟨#[]⟩, .int .i64 0, .string ⟨#[]⟩, .int .u64 0, .int .i64 0, .string ⟨#[]⟩] 49))
 clear HB
 generalize w.alloc (.cells #[.int .i64 0, .int .u64 0, .string ⟨#[]⟩, .string ⟨#[]⟩, .int .i64 0, .string ⟨#[]⟩, .int .u64 0, .int .i64 0, .string ⟨#[]⟩] 49) = wA at *
 generalize w.heap.size = gr at *
 refine (H0.out.up.byte_l x0 s0).mono ?_
 rintro r w1 ⟨rfl, h⟩
 have H1 := Lib.hid (H0.out.over h)
 have B1 := Lib.hid (B0.out.ch h.ch hgr.symm)
 clear h H0 B0
 go_wp2_with fail
 refine (H1.out.up.num_l x1 s1).mono ?_
 rintro r w2 ⟨rfl, h⟩
 have H2 := Lib.hid (H1.out.over h)
 have B2 := Lib.hid (B1.out.ch h.ch hgr.symm)
 clear h H1 B1
 go_wp2_with (with_reducible (show wpList _ _ _ (⟨_, Op.build 49 _, _, _, _, _⟩ :: _) _ _); refine halt ?_)
 refine Lib.hid (wpl_doh rfl v0 v1 rfl _ rfl rfl rfl ?_)
 refine wpList_allocZ rfl 49 rfl #[.int .i64 0, .int .u64 0, .string ⟨#[]⟩, .string ⟨#[]⟩, .int .i64 0, .string ⟨#[]⟩, .int .u64 0, .int .i64 0, .string ⟨#[]⟩] zeroDO ?_
 have G3 := H2.out.lt
 have G4 := B2.out.lt
 have G5 := H2.out.ch.size
 refine st_box rfl 49 _ _ rfl w2.heap.size _ [.int .i64 v0, .int .u64 v1, .string ⟨#[]⟩, .string ⟨#[]⟩, .int .i64 0, .string ⟨#[]⟩, .int .u64 0, .int .i64 0, .string ⟨#[]⟩] rfl rfl (Box.new w2 [.int .i64 0, .int .u64 0, .string ⟨#[]⟩, .string ⟨#[]⟩, .int .i64 0, .string ⟨#[]⟩, .int .u64 0, .int .i64 0, .string ⟨#[]⟩] 49) rfl (by kernel_rfl) (one9 rfl rfl rfl rfl rfl rfl rfl rfl rfl) ?_
 intro w3 B3 c3
 have X3 : Hid (DX w0 g gr [.int .i64 0, .int .u64 0, .string ⟨#[]⟩, .string ⟨#[]⟩, .int .i64 0, .string ⟨#[]⟩, .int .u64 0, .int .i64 0, .string ⟨#[]⟩] w2.heap.size [.int .i64 v0, .int .u64 v1, .string ⟨#[]⟩, .string ⟨#[]⟩, .int .i64 0, .string ⟨#[]⟩, .int .u64 0, .int .i64 0, .string ⟨#[]⟩] q2 w3) := ⟨(H2.out.q ((Q.refl w2).alloc _)).box c3 G5 (by omega), (B2.out.q ((Q.refl w2).alloc _)).ch c3 (by omega), B3, hgr, by omega, by omega, by omega, G5⟩
 generalize w2.heap.size = gb at *
 clear B3 c3 H2 B2 G3 G4 G5 hsz hgl hgr
 go_wp2_with fail
 refine (X3.out.rs.up.hash_l x2 s2).mono ?_
 rintro r w4 ⟨rfl, h⟩
 have X4 := Lib.hid (X3.out.go h)
 clear h X3
 go_wp2_with (with_reducible (show wpList _ _ _ (⟨_, Op.store 9 _ _, _, _, _, _⟩ :: _) _ _); refine halt ?_)
 refine Lib.hid (st_one rfl 9 _ _ rfl rfl rfl X4.out.bb rfl (fun w hc hf => by simp [go_sem, hc, hf]) ?_)
 intro w5 BB_ cc_
 have X5 := Lib.hid (X4.out.put cc_ BB_)
 clear BB_ cc_ X4
 have c0 := (X5.out.cell 0 rfl).1
 go_wp2_with fail
 refine (X5.out.rs.up.fail_l rfl).mono ?_
 rintro r w6 ⟨rfl, h⟩
 have X6 := Lib.hid (X5.out.go h)
 clear h X5 c0
 have c0 := (X6.out.cell 0 rfl).1
 go_wp2_with (with_reducible (show wpList _ _ _ (⟨_, Op.load 49 _, _, _, _, _⟩ :: _) _ _); refine halt ?_)
 clear c0
 refine Lib.hid (ld_box rfl 49 _ rfl gb _ rfl X6.out.bb Tryz.underlying49 rfl (by kernel_rfl) ?_)
 refine st_box rfl 49 _ _ rfl gr _ [.int .i64 v0, .int .u64 v1, .string v2, .string ⟨#[]⟩, .int .i64 0, .string ⟨#[]⟩, .int .u64 0, .int .i64 0, .string ⟨#[]⟩] rfl rfl X6.out.br rfl (by kernel_rfl) (one9 rfl rfl rfl rfl rfl rfl rfl rfl rfl) ?_
 intro w9 B9 c9
 have HL : Hid ((loadVar 49 ⟨gr, 0, none⟩).run Tryz.prog w9 = .ok (.agg #[.int .i64 v0, .int .u64 v1, .string v2, .string ⟨#[]⟩, .int .i64 0, .string ⟨#[]⟩, .int .u64 0, .int .i64 0, .string ⟨#[]⟩]) w9) := B9.load _ Tryz.underlying49 rfl (by kernel_rfl)
 have H9 : Hid (DR w0 g (q3.fl 4) w9) := X6.out.rs.box c9 X6.out.l1 X6.out.n1
 clear B9 c9 X6
 go_wp2_with fail
 (try simp only [Exit.inBlock, Exit.then])
 refine bodyPost_ret (results_cell rfl rfl HL.out) rfl ?_
 exact ⟨rfl, H9.out⟩
theorem d9out_l {w0 w : World} {g : Nat} {p : PS} (h : DR w0 g p w) :
 Calls Tryz.prog 143 #[.pointer (some ⟨g, 0, none⟩)] w fun r w' => r = .returned (ouV (rdO smallD p)) ∧ DR w0 g (stO p) w' := by
 by_cases h1 : p.byV = 1
 · have e : rdO smallD p = ⟨p.byV, p.byt.nuV, p.byt.num.haV, ⟨#[]⟩, 0, ⟨#[]⟩, 0, 0, ⟨#[]⟩⟩ := by unfold rdO; rw [if_neg (by omega), if_neg (by omega)]
   have e2 : stO p = p.byt.num.has := by unfold stO; rw [if_neg (by omega), if_neg (by omega), if_pos h1]
   rw [e, e2, h1]
   exact dout1_l h rfl h1 rfl rfl rfl rfl
 by_cases h2 : p.byV = 2
 · have e : rdO smallD p = ⟨p.byV, p.byt.nuV, p.byt.num.haV, p.byt.num.has.haV, smallD p.byt.num.has.has.nuV, p.byt.num.has.has.num.haV, p.byt.num.has.has.num.has.nuV, smallD p.byt.num.has.has.num.has.num.nuV, ⟨#[]⟩⟩ := by unfold rdO; rw [if_pos h2]
   have e2 : stO p = p.byt.num.has.has.num.has.num.num := by unfold stO; rw [if_pos h2]
   rw [e, e2, h2]
   exact dout2_l h rfl h2 rfl rfl rfl rfl rfl rfl rfl rfl rfl rfl rfl rfl rfl rfl rfl rfl
 by_cases h3 : p.byV = 3
 · have e : rdO smallD p = ⟨p.byV, p.byt.nuV, p.byt.num.haV, p.byt.num.has.haV, smallD p.byt.num.has.has.nuV, ⟨#[]⟩, 0, 0, p.byt.num.has.has.num.haV⟩ := by unfold rdO; rw [if_neg h2, if_pos h3]
   have e2 : stO p = p.byt.num.has.has.num.has := by unfold stO; rw [if_neg h2, if_pos h3]
   rw [e, e2, h3]
   exact dout3_l h rfl h3 rfl rfl rfl rfl rfl rfl rfl rfl rfl rfl rfl
 · have e : rdO smallD p = ⟨p.byV, p.byt.nuV, p.byt.num.haV, ⟨#[]⟩, 0, ⟨#[]⟩, 0, 0, ⟨#[]⟩⟩ := by unfold rdO; rw [if_neg h2, if_neg h3]
   have e2 : stO p = p.byt.num.has.fl 4 := by unfold stO; rw [if_neg h2, if_neg h3, if_neg h1]
   have hb := PS.byV_in p
   rw [e, e2]
   by_cases h4 : p.byV < 1
   · exact doutXL_l h rfl rfl rfl rfl rfl rfl h4
   · exact doutXH_l h rfl rfl rfl rfl rfl rfl (by omega)
end Go.Proofs.YtjiepemapffgjaaGreatDoor.Coi
