import Derived.Test.YtobfgljkckcmcaaGreatDoorYHCoiB
import Derived.Laws.OwnMore
set_option maxRecDepth 100000
namespace Go.Proofs.YtobfgljkckcmcaaGreatDoor.Coi
open Go.RowKit
open Mem Num Cod
set_option linter.unusedVariables false
theorem built_point (v0 : ByteArray) (v1 : Int) : Tryz.prog.built 31 [(0, .string v0), (1, .int .i64 v1)] = some #[.string v0, .int .i64 v1] := by kernel_rfl
theorem built_in (v0 : ByteArray) (v1 v2 : Int) : Tryz.prog.built 53 [(0, .agg #[.string v0, .int .i64 v1]), (1, .int .i64 v2)] = some #[.string v0, .int .i64 v1, .int .i64 v2, .string ⟨#[]⟩] := by kernel_rfl
theorem built_tzero  : Tryz.prog.built 29 [] = some #[.slice none 0 0, .slice none 0 0, .int .u64 0, .string ⟨#[]⟩, .string ⟨#[]⟩, .slice none 0 0] := by kernel_rfl
theorem wpl_tzero {ops : Array Oper} {rest : List Oper} {o : Oper} {a : Act} {w : World} {Q : Exit → Act → World → Prop} (hg : o.guard = none)  (ho : o.op = .build 29 #[]) (d : Option Tmp) (hd : o.dst = d)  (h : wpList Tryz.prog ops Q rest (a.put d (.agg #[.slice none 0 0, .slice none 0 0, .int .u64 0, .string ⟨#[]⟩, .string ⟨#[]⟩, .slice none 0 0])) w) : wpList Tryz.prog ops Q (o :: rest) a w := by
 refine wpList_buildTo hg 29 _ ho d hd _ ?_ h
 simp only [List.map_toArray, List.map_nil]
 exact built_tzero
theorem info_in : (Tryz.prog.info? 53).map (fun i => (i.zero, i.size, i.bytes)) = some (some (.agg #[.string ⟨#[]⟩, .int .i64 0, .int .i64 0, .string ⟨#[]⟩]), 4, 48) := by kernel_rfl
theorem fill_in (v0 : ByteArray) (v1 v2 : Int) : Instr.fill (fun i => some (i * 4, 4)) ((Array.range (1 * 4)).map ((Value.agg #[.string ⟨#[]⟩, .int .i64 0, .int .i64 0, .string ⟨#[]⟩]).cells[· % (Value.agg #[.string ⟨#[]⟩, .int .i64 0, .int .i64 0, .string ⟨#[]⟩]).cells.size]!)) [(0, .agg #[.string v0, .int .i64 v1, .int .i64 v2, .string ⟨#[]⟩])] = some #[.string v0, .int .i64 v1, .int .i64 v2, .string ⟨#[]⟩] := by kernel_rfl
theorem wpo_rowin {o : Oper} {a : Act} {w : World} {K : Act → World → Prop} {Q : Exit → Act → World → Prop} {n0 : Nat} (v0 : ByteArray) (v1 v2 : Int) (ho : o.op = .buildSlice 22 1 #[(0, .tmp n0)]) (h0 : a.eval (.tmp n0) = .agg #[.string v0, .int .i64 v1, .int .i64 v2, .string ⟨#[]⟩])
 (h : K (a.put o.dst (.slice (some ⟨w.heap.size, 0, none⟩) 1 1)) (w.alloc (.cells #[.string v0, .int .i64 v1, .int .i64 v2, .string ⟨#[]⟩] 53))) : o.wp Tryz.prog a w K Q := by
 obtain ⟨i0, hi0, hz0, hz1, hz2⟩ := info_of info_in
 refine wp_buildSlice 22 53 1 _ ho #[.string v0, .int .i64 v1, .int .i64 v2, .string ⟨#[]⟩] i0 _ Tryz.underlying22 hi0 hz0 (by rw [hz1]; decide) (by rw [hz1]; decide) ?_ h
 rw [hz1]
 simp only [List.map_toArray, List.map_cons, List.map_nil, h0]
 exact fill_in v0 v1 v2
theorem info_out : (Tryz.prog.info? 47).map (fun i => (i.zero, i.size, i.bytes)) = some (some (.agg #[.int .i64 0, .int .u64 0, .string ⟨#[]⟩, .string ⟨#[]⟩, .int .i64 0, .string ⟨#[]⟩, .int .u64 0, .int .i64 0, .string ⟨#[]⟩]), 9, 104) := by kernel_rfl
theorem fill_out (v0 v1 : Int) (v2 v3 : ByteArray) (v4 : Int) (v5 : ByteArray) (v6 v7 : Int) (v8 : ByteArray) : Instr.fill (fun i => some (i * 9, 9)) ((Array.range (1 * 9)).map ((Value.agg #[.int .i64 0, .int .u64 0, .string ⟨#[]⟩, .string ⟨#[]⟩, .int .i64 0, .string ⟨#[]⟩, .int .u64 0, .int .i64 0, .string ⟨#[]⟩]).cells[· % (Value.agg #[.int .i64 0, .int .u64 0, .string ⟨#[]⟩, .string ⟨#[]⟩, .int .i64 0, .string ⟨#[]⟩, .int .u64 0, .int .i64 0, .string ⟨#[]⟩]).cells.size]!)) [(0, .agg #[.int .i64 v0, .int .u64 v1, .string v2, .string v3, .int .i64 v4, .string v5, .int .u64 v6, .int .i64 v7, .string v8])] = some #[.int .i64 v0, .int .u64 v1, .string v2, .string v3, .int .i64 v4, .string v5, .int .u64 v6, .int .i64 v7, .string v8] := by kernel_rfl
theorem wpo_rowout {o : Oper} {a : Act} {w : World} {K : Act → World → Prop} {Q : Exit → Act → World → Prop} {n0 : Nat} (v0 v1 : Int) (v2 v3 : ByteArray) (v4 : Int) (v5 : ByteArray) (v6 v7 : Int) (v8 : ByteArray) (ho : o.op = .buildSlice 23 1 #[(0, .tmp n0)]) (h0 : a.eval (.tmp n0) = .agg #[.int .i64 v0, .int .u64 v1, .string v2, .string v3, .int .i64 v4, .string v5, .int .u64 v6, .int .i64 v7, .string v8])
 (h : K (a.put o.dst (.slice (some ⟨w.heap.size, 0, none⟩) 1 1)) (w.alloc (.cells #[.int .i64 v0, .int .u64 v1, .string v2, .string v3, .int .i64 v4, .string v5, .int .u64 v6, .int .i64 v7, .string v8] 47))) : o.wp Tryz.prog a w K Q := by
 obtain ⟨i0, hi0, hz0, hz1, hz2⟩ := info_of info_out
 refine wp_buildSlice 23 47 1 _ ho #[.int .i64 v0, .int .u64 v1, .string v2, .string v3, .int .i64 v4, .string v5, .int .u64 v6, .int .i64 v7, .string v8] i0 _ Tryz.underlying23 hi0 hz0 (by rw [hz1]; decide) (by rw [hz1]; decide) ?_ h
 rw [hz1]
 simp only [List.map_toArray, List.map_cons, List.map_nil, h0]
 exact fill_out v0 v1 v2 v3 v4 v5 v6 v7 v8
theorem rowNI (w : World) (v0 : ByteArray) (v1 v2 : Int) : ∀ j u, [.string v0, .int .i64 v1, .int .i64 v2, .string ⟨#[]⟩][j]? = some u → (w.alloc (.cells #[.string v0, .int .i64 v1, .int .i64 v2, .string ⟨#[]⟩] 53)).cell? ((⟨w.heap.size, 0, none⟩ : Addr).add j) = some u := by
 intro j u hu
 rw [Go.WideShapes.add_plain, Nat.zero_add, World.cell?_alloc_at _ _ _ _ rfl]
 simpa using hu
theorem rowNO (w : World) (v0 v1 : Int) (v2 v3 : ByteArray) (v4 : Int) (v5 : ByteArray) (v6 v7 : Int) (v8 : ByteArray) : ∀ j u, [.int .i64 v0, .int .u64 v1, .string v2, .string v3, .int .i64 v4, .string v5, .int .u64 v6, .int .i64 v7, .string v8][j]? = some u → (w.alloc (.cells #[.int .i64 v0, .int .u64 v1, .string v2, .string v3, .int .i64 v4, .string v5, .int .u64 v6, .int .i64 v7, .string v8] 47)).cell? ((⟨w.heap.size, 0, none⟩ : Addr).add j) = some u := by
 intro j u hu
 rw [Go.WideShapes.add_plain, Nat.zero_add, World.cell?_alloc_at _ _ _ _ rfl]
 simpa using hu
theorem zeroT (w : World) : (zeroValue 29).run Tryz.prog w = .ok (.agg #[.slice none 0 0, .slice none 0 0, .int .u64 0, .string ⟨#[]⟩, .string ⟨#[]⟩, .slice none 0 0]) w := by
 have h : (Tryz.prog.info? 29).bind (·.zero) = some (.agg #[.slice none 0 0, .slice none 0 0, .int .u64 0, .string ⟨#[]⟩, .string ⟨#[]⟩, .slice none 0 0]) := by kernel_rfl
 cases hi : Tryz.prog.info? 29 with
 | none => rw [hi] at h; cases h
 | some i => rw [hi] at h; simp [zeroValue, typeInfo, hi, show i.zero = some (.agg #[.slice none 0 0, .slice none 0 0, .int .u64 0, .string ⟨#[]⟩, .string ⟨#[]⟩, .slice none 0 0]) from h]
theorem one6 {v0 v1 v2 v3 v4 v5 : Value} (h0 : v0.oneCell' = true) (h1 : v1.oneCell' = true) (h2 : v2.oneCell' = true) (h3 : v3.oneCell' = true) (h4 : v4.oneCell' = true) (h5 : v5.oneCell' = true) : ∀ v ∈ [v0, v1, v2, v3, v4, v5], v.oneCell' = true := by
 intro v hv; simp at hv; rcases hv with rfl | rfl | rfl | rfl | rfl | rfl <;> assumption
/-- A value that is built may be taken first. -/
theorem yields_build {P : Program} {ops : Array Oper} {S : World → Prop} {o : Oper} {a : Act} (t : TypeId) (parts : Array (Nat × Operand)) (cells : Array Value) (ho : o.op = .build t parts)
 (hw : Region.wanted o (yielded ops a.tmps) = true) (hf : P.built t (parts.map fun (i, x) => (i, a.eval x)).toList = some cells) : YieldsIf P ops S o (.agg cells) a := by
 refine Or.inl ⟨hw, fun w _ => ?_⟩
 unfold execOp
 simp only [ho, Sem.run_bind, run_build w t _ cells hf, Result.andThen_ok, Sem.run_pure]
theorem ch_of_grown {w w' : World} {o : Option Nat} {B : Nat} (k : w.grownBy w' o) (ho : ∀ j, o = some j → B ≤ j) : ∃ j, B ≤ j ∧ Ch j w w' := by
 cases o with
 | some j => exact ⟨j, ho j rfl, k⟩
 | none => exact ⟨B, Nat.le_refl _, ⟨k.os, k.tape, k.output, k.size, fun i hi _ => k.block i hi (by simp)⟩⟩
/-- What readCore answers. -/
def RCo (c : ByteArray) (W : World) (r : Ending) (w' : World) : Prop := ∃ aI cI aO cO B t0, t0 = (if coE c = 0 then coX IntKind.i64.wrap c else TX.zero) ∧ r = .returned (.tuple #[txV t0 aI cI aO cO none 0, .int .i64 (coE c)]) ∧
 W.heap.size ≤ B ∧ OR 53 IN.cells 4 w' B aI t0.nI cI t0.ins ∧ SL OU.cells 9 w' aO t0.nO t0.outs ∧ (∀ x y, aI = some x → aO = some y → x.block ≠ y.block) ∧ (∀ y, aO = some y → W.heap.size ≤ y.block ∧ y.block < w'.heap.size) ∧ Q W w'
set_option maxHeartbeats 4000000 in
theorem rcore_x (c : ByteArray) (hs : c.size ≤ 1000000) (W : World) : Calls Tryz.prog 113 #[.string c] W (RCo c W) := by
 have HB : Hid (∀ t, Box (W.alloc (.cells #[.slice none 0 0, .slice none 0 0, .int .u64 0, .string ⟨#[]⟩, .string ⟨#[]⟩, .slice none 0 0] t)) W.heap.size [.slice none 0 0, .slice none 0 0, .int .u64 0, .string ⟨#[]⟩, .string ⟨#[]⟩, .slice none 0 0]) := fun t => Box.new W _ t
 have HQ : Hid (∀ o, Q W (W.alloc o)) := fun o => (Q.refl W).alloc o
 have B0 := Lib.hid (HB.out 29)
 have Q0 := Lib.hid (HQ.out (.cells #[.slice none 0 0, .slice none 0 0, .int .u64 0, .string ⟨#[]⟩, .string ⟨#[]⟩, .slice none 0 0] 29))
 clear HB HQ
 by_cases hc : c.size = 0
 · have E1 : Hid ((coE c : Int) = 4 ∧ ¬ coE c = 0) := by
    have : coE c = 4 := by unfold coE; rw [if_pos hc]
    exact ⟨this, by rw [this]; decide⟩
   have u1 : c.toList.isEmpty = true := by
    have : c.toList = [] := by rw [tl_nil]; exact hc
    simpa using this
   go_enter Tryz.func113, Tryz.ntmps113
   go_wp2_with (with_reducible (show wpList _ _ _ (⟨_, Op.build 29 _, _, _, _, _⟩ :: _) _ _); refine halt ?_)
   refine Lib.hid (wpl_tzero rfl rfl _ rfl ?_)
   go_wp2_with (with_reducible (show wpList _ _ _ (⟨_, Op.store 29 _ _, _, _, _, _⟩ :: _) _ _); refine halt ?_)
   refine Lib.hid (st_box rfl 29 _ _ rfl W.heap.size _ [.slice none 0 0, .slice none 0 0, .int .u64 0, .string ⟨#[]⟩, .string ⟨#[]⟩, .slice none 0 0] rfl rfl B0.out rfl (by kernel_rfl) (one6 rfl rfl rfl rfl rfl rfl) ?_)
   intro w9 B9 c9
   have HL : Hid ((loadVar 29 ⟨W.heap.size, 0, none⟩).run Tryz.prog w9 = .ok (.agg #[.slice none 0 0, .slice none 0 0, .int .u64 0, .string ⟨#[]⟩, .string ⟨#[]⟩, .slice none 0 0]) w9) := B9.load _ Tryz.underlying29 rfl (by kernel_rfl)
   have Q9 : Hid (Q W w9) := c9.q Q0.out (Nat.le_refl _)
   clear B9 c9
   go_wp2_with fail
   (try simp only [Exit.inBlock, Exit.then])
   refine bodyPost_ret (results_cell_tmp rfl rfl HL.out) rfl ?_
   exact ⟨none, 0, none, 0, W.heap.size, TX.zero, by rw [if_neg E1.out.2], by rw [E1.out.1]; rfl, Nat.le_refl _, OR.nil _ _ _ _ _ _, SL.nil rfl, (fun x y h => by cases h), (fun y h => by cases h), Q9.out⟩
 have hc' : 0 < c.size := by omega
 have u1 : c.toList.isEmpty = false := isEmpty_pos c hc'
 have hE : Hid (coE c = (coR c (coM c)).en) := by show _ = _; unfold coE; rw [if_neg hc]
 clear hc
 go_enter Tryz.func113, Tryz.ntmps113
 go_wp2_with fail
 have hsz : (W.alloc (.cells #[.slice none 0 0, .slice none 0 0, .int .u64 0, .string ⟨#[]⟩, .string ⟨#[]⟩, .slice none 0 0] 29)).heap.size = W.heap.size + 1 := by simp
 generalize W.alloc (.cells #[.slice none 0 0, .slice none 0 0, .int .u64 0, .string ⟨#[]⟩, .string ⟨#[]⟩, .slice none 0 0] 29) = wA at *
 refine (read_l c hs _).mono ?_
 rintro r w1 ⟨rfl, h, q1⟩
 have H1 : Hid (RS W wA.heap.size ⟨c, 0⟩ w1) := ⟨h.rd, Ch.of_q (Q0.out.trans q1) _, h.z⟩
 have B1 := Lib.hid (B0.out.q q1)
 have n1 : wA.heap.size ≠ W.heap.size := by omega
 have l3 : W.heap.size ≤ wA.heap.size := by omega
 generalize wA.heap.size = g at *
 clear h q1 Q0 B0 hsz
 have l1 : W.heap.size ≤ W.heap.size := Nat.le_refl _
 go_wp2_with fail
 refine (H1.out.up.byte_l rfl rfl).mono ?_
 rintro r w2 ⟨rfl, h⟩
 have B2 := Lib.hid (B1.out.ch h.ch n1.symm)
 have H2 := Lib.hid (H1.out.over h)
 clear h H1 B1
 by_cases h67 : (PS.mk c 0).byV = 67
 · have hp : Hid ((PS.mk c 0).byt = coP0 c) := by show _ = _; unfold coP0; rw [if_pos h67]
   have t0 : ((PS.mk c 0).byV == 67) = true := by simpa using h67
   have t0' : ((PS.mk c 0).byV != 67) = false := by simpa using h67
   rw [hp.out] at H2
   clear h67
   go_wp2_with fail
   have G3 := H2.out.lt
   have G4 := B2.out.lt
   have G5 := H2.out.ch.size
   have X5 : Hid (RX W g W.heap.size [.slice none 0 0, .slice none 0 0, .int .u64 0, .string ⟨#[]⟩, .string ⟨#[]⟩, .slice none 0 0] w2.heap.size [.slice none 0 0, .slice none 0 0, .int .u64 0, .string ⟨#[]⟩, .string ⟨#[]⟩, .slice none 0 0] (coP0 c) (w2.alloc (.cells #[.slice none 0 0, .slice none 0 0, .int .u64 0, .string ⟨#[]⟩, .string ⟨#[]⟩, .slice none 0 0] 29))) := ⟨H2.out.q ((Q.refl w2).alloc _), B2.out.q ((Q.refl w2).alloc _), Box.new w2 _ _, n1, by omega, by omega, l1, G5⟩
   generalize w2.alloc (.cells #[.slice none 0 0, .slice none 0 0, .int .u64 0, .string ⟨#[]⟩, .string ⟨#[]⟩, .slice none 0 0] 29) = w5 at *
   generalize w2.heap.size = gb at *
   clear H2 B2 G3 G4 G5
   refine (rcount_l X5.out.rs.up).mono ?_
   rintro r w6 ⟨rfl, h⟩
   have X6 := Lib.hid (X5.out.go h)
   clear h X5
   have hN : (cn (coP0 c) : Int) = (coN c : Int) := rfl
   have hK4 := coN_le c
   go_wp2_with fail
   have X7 : Hid (RX W g W.heap.size [.slice none 0 0, .slice none 0 0, .int .u64 0, .string ⟨#[]⟩, .string ⟨#[]⟩, .slice none 0 0] gb [.slice none 0 0, .slice none 0 0, .int .u64 0, .string ⟨#[]⟩, .string ⟨#[]⟩, .slice none 0 0] (coQ c 0) w6) := X6.out
   have hlB := X6.out.bb.lt
   have hlB2 := X6.out.rs.lt
   have hlB3 := X6.out.br.lt
   have hlB4 := X6.out.rs.ch.size
   have O7 := Lib.hid (OR.nil 53 IN.cells 4 w6 w6.heap.size (fun i => rdI (coQ c i)))
   clear X6
   obtain ⟨B, hB⟩ : ∃ n, w6.heap.size = n := ⟨_, rfl⟩
   rw [hB] at hlB hlB2 hlB3 hlB4 O7
   have HBE := Lib.hid (Nat.le_of_eq hB.symm)
   clear hB
   go_loopw [19] (fun i wr => ∃ (k : Nat) (a : Option Addr) (cap : Nat), k ≤ coN c ∧ i = .int .i64 k ∧ B ≤ wr.heap.size ∧ Hid (RX W g W.heap.size [.slice none 0 0, .slice none 0 0, .int .u64 0, .string ⟨#[]⟩, .string ⟨#[]⟩, .slice none 0 0] gb [.slice a k cap, .slice none 0 0, .int .u64 0, .string ⟨#[]⟩, .string ⟨#[]⟩, .slice none 0 0] (coQ c k) wr) ∧ Hid (OR 53 IN.cells 4 wr B a k cap (fun i => rdI (coQ c i)))) (fun i _ => coN c - (intOf i).toNat)
   case atStart => exact ⟨0, none, 0, by omega, rfl, HBE.out, X7, O7⟩
   case round =>
    obtain ⟨k, a, cap, hk, rfl, hb, X, O⟩ := hrel
    clear X7 O7
    have k0 : (0 : Int) ≤ (k : Int) := by omega
    by_cases hlt : k < coN c
    · have k1 : (k : Int) < (cn (coP0 c) : Int) := by rw [hN]; omega
      obtain ⟨p0, hp0⟩ : ∃ v, coQ c k = v := ⟨_, rfl⟩
      obtain ⟨y0, b0⟩ : ∃ v, p0.haV = v := ⟨_, rfl⟩
      obtain ⟨p1, a0⟩ : ∃ v, p0.has = v := ⟨_, rfl⟩
      obtain ⟨y1, b1⟩ : ∃ v, p1.byV = v := ⟨_, rfl⟩
      obtain ⟨p2, a1⟩ : ∃ v, p1.byt = v := ⟨_, rfl⟩
      obtain ⟨y2, b2⟩ : ∃ v, p2.byV = v := ⟨_, rfl⟩
      obtain ⟨p3, a2⟩ : ∃ v, p2.byt = v := ⟨_, rfl⟩
      have HW : Hid ((rdI (coQ c k)).cells = [.string y0, .int .i64 y1, .int .i64 y2, .string ⟨#[]⟩]) := by show _ = _; rw [hp0]; unfold rdI IN.cells; rw [b0, a0, b1, a1, b2]
      have HS : Hid (p3 = coQ c (k + 1)) := by show _ = stI (coQ c k); rw [hp0]; unfold stI; rw [a0, a1, a2]
      rw [hp0] at X
      clear hp0
      have XD := Lib.hid (X.out.q (Q.refl _).drew)
      have OD := Lib.hid (O.out.q (Q.refl _).drew)
      have hbD : B ≤ wr.drew.heap.size := hb
      clear X O
      go_wp2_with fail
      as_aux_lemma =>
      obtain ⟨i0, hi0, hz0, hz1, hz2⟩ := info_of info_in
      refine wp_region_held_drew (S := fun _ => True) (by kernel_rfl) trivial (fun hHeld => ?_)
      refine wtk (i := 0) (v := ?_) (gat rfl) (by kernel_rfl) (by exact fun _ _ _ h => h) (Or.inl ⟨by rfl, ?_⟩) (by assumption) ?_
      rotate_left
      · (intro wx hSw; (try dsimp only at hSw); go_simp; (try rw [if_neg (by omega)]); try (with_reducible rfl))
      try simp only [Act.put, pu]
      refine wtk (i := 2) (v := ?_) (gat rfl) (by kernel_rfl) (by exact fun _ _ _ h => h) (Or.inl ⟨by rfl, ?_⟩) (by assumption) ?_
      rotate_left
      · (intro wx hSw; (try dsimp only at hSw); go_simp; (try rw [if_neg (by omega)]); try (with_reducible rfl))
      try simp only [Act.put, pu]
      refine wtk (i := 4) (v := ?_) (gat rfl) (by kernel_rfl) (by exact fun _ _ _ h => h) (Or.inl ⟨by rfl, ?_⟩) (by assumption) ?_
      rotate_left
      · (intro wx hSw; (try dsimp only at hSw); go_simp; (try rw [if_neg (by omega)]); try (with_reducible rfl))
      try simp only [Act.put, pu]
      refine wtk (i := 7) (v := ?_) (gat rfl) (by kernel_rfl) (by exact fun _ _ _ h => h) (Or.inl ⟨by rfl, ?_⟩) (by assumption) ?_
      rotate_left
      · (intro wx hSw; (try dsimp only at hSw); go_simp; (try rw [if_neg (by omega)]); try (with_reducible rfl))
      try simp only [Act.put, pu]
      refine wpAnyH_ready (rs := [1, 3]) (by kernel_rfl) (by simp) ?_
      refine AllReadyH.cons (gat rfl) (fun K hK => ?_) (ar1 (gat rfl) fun K hK => ?_)
      · as_aux_lemma =>
        have dl := (XD.out.cell 0 rfl).1
        go_simp
        refine hK.out _ _ trivial (fun _ => ?_)
        clear hK K dl
        try simp only [Act.put, pu]
        refine wpAnyH_ready (rs := [3]) (by kernel_rfl) (by simp) ?_
        refine ar1 (gat rfl) fun K hK => ?_
        go_simp
        refine (XD.out.rs.up.hash_l b0 a0).mono ?_
        rintro r z1 ⟨rfl, h⟩
        have X1z := Lib.hid (XD.out.go h)
        have O1z := Lib.hid (OD.out.low h.ch hlB2)
        have hb1 : B ≤ z1.heap.size := Nat.le_trans hbD h.ch.size
        clear h XD OD
        dsimp only
        refine hK.out _ _ trivial (fun _ => ?_)
        clear hK K
        try simp only [Act.put, pu]
        refine wpAnyH_ready (rs := [5]) (by kernel_rfl) (by simp) ?_
        refine ar1 (gat rfl) fun K hK => ?_
        go_simp
        refine (X1z.out.rs.up.byte_l b1 a1).mono ?_
        rintro r z2 ⟨rfl, h⟩
        have X2z := Lib.hid (X1z.out.go h)
        have O2z := Lib.hid (O1z.out.low h.ch hlB2)
        have hb2 : B ≤ z2.heap.size := Nat.le_trans hb1 h.ch.size
        clear h X1z O1z
        dsimp only
        refine hK.out _ _ trivial (fun _ => ?_)
        clear hK K
        try simp only [Act.put, pu]
        refine wtk (i := 6) (v := .agg #[.string y0, .int .i64 y1]) (gat rfl) (by kernel_rfl) (by exact fun _ _ _ h => h) (yields_build _ _ _ rfl (by rfl) (by simp only [List.map_toArray, List.map_cons, List.map_nil]; exact built_point y0 y1)) (by assumption) ?_
        try simp only [Act.put, pu]
        refine wpAnyH_ready (rs := [8]) (by kernel_rfl) (by simp) ?_
        refine ar1 (gat rfl) fun K hK => ?_
        go_simp
        refine (X2z.out.rs.up.byte_l b2 a2).mono ?_
        rintro r z3 ⟨rfl, h⟩
        have X3z := Lib.hid (X2z.out.go h)
        have O3z := Lib.hid (O2z.out.low h.ch hlB2)
        have hb3 : B ≤ z3.heap.size := Nat.le_trans hb2 h.ch.size
        clear h X2z O2z
        dsimp only
        refine hK.out _ _ trivial (fun _ => ?_)
        clear hK K
        try simp only [Act.put, pu]
        refine wtk (i := 9) (v := .agg #[.string y0, .int .i64 y1, .int .i64 y2, .string ⟨#[]⟩]) (gat rfl) (by kernel_rfl) (by exact fun _ _ _ h => h) (yields_build _ _ _ rfl (by rfl) (by simp only [List.map_toArray, List.map_cons, List.map_nil]; exact built_in y0 y1 y2)) (by assumption) ?_
        try simp only [Act.put, pu]
        refine wpAnyH_ready (rs := [10]) (by kernel_rfl) (by simp) ?_
        refine ar1 (gat rfl) fun K hK => ?_
        rw [if_pos (by rfl)]
        refine wpo_rowin y0 y1 y2 rfl rfl ?_
        have X4z := Lib.hid (X3z.out.q ((Q.refl z3).alloc (.cells #[.string y0, .int .i64 y1, .int .i64 y2, .string ⟨#[]⟩] 53)))
        have O4z := Lib.hid (O3z.out.q ((Q.refl z3).alloc (.cells #[.string y0, .int .i64 y1, .int .i64 y2, .string ⟨#[]⟩] 53)))
        have N4z := Lib.hid (rowNI z3 y0 y1 y2)
        have hb4 : B ≤ (z3.alloc (.cells #[.string y0, .int .i64 y1, .int .i64 y2, .string ⟨#[]⟩] 53)).heap.size := Nat.le_trans hb3 (by simp)
        clear X3z O3z
        refine hK.out _ _ trivial (fun _ => ?_)
        clear hK K
        try simp only [Act.put, pu]
        as_aux_lemma =>
        refine wpAnyH_ready (rs := [11]) (by kernel_rfl) (by simp) ?_
        refine ar1 (gat rfl) fun K hK => ?_
        rw [if_pos (by rfl)]
        refine wp_append_own _ (.tmp 22) (.tmp 31) 22 rfl B 53 i0 _ 4 48 Tryz.underlying22 hi0 hz0 hz1 hz2 rfl (by decide) _ _ _ rfl O4z.out ⟨z3.heap.size, 0, none⟩ 1 1 [.string y0, .int .i64 y1, .int .i64 y2, .string ⟨#[]⟩] rfl rfl N4z.out (by intro v hv; simp at hv; rcases hv with rfl | rfl | rfl | rfl <;> rfl) (by unfold maxLen; omega) (by omega) hb4 ?_
        intro v3 w3 hown3 hgrow3 _hn
        rw [← HW.out] at hown3
        have hb3 : B ≤ w3.heap.size := Nat.le_trans hb4 hgrow3.size
        have X3 := Lib.hid (RX.grown X4z.out hgrow3 (fun j hj => (World.ownsRow.lt O4z.out j hj).1) hlB hlB2 hlB3 hlB4)
        obtain ⟨g3, cap3, rfl, o3⟩ := OR.next hown3
        have O3 := Lib.hid o3
        clear hgrow3 _hn hown3 o3 X4z O4z N4z
        refine hK.out _ _ trivial (fun _ => ?_)
        clear hK K
        try simp only [Act.put, pu]
        refine wpAnyH_ready (rs := [12]) (by kernel_rfl) (by simp) ?_
        refine ar1 (gat rfl) fun K hK => ?_
        go_simp
        refine hK.out _ _ trivial (fun _ => ?_)
        clear hK K
        try simp only [Act.put, pu]
        obtain ⟨d3, f3⟩ := X3.out.cell 0 rfl
        refine wpAnyH_ready (rs := [13]) (by kernel_rfl) (by simp) ?_
        refine ar1 (gat rfl) fun K hK => ?_
        go_simp
        refine hK.out _ _ trivial (fun _ => ?_)
        clear hK K
        try simp only [Act.put, pu]
        clear d3 f3
        have X4 := Lib.hid (X3.out.set 0 (.slice (some ⟨g3, 0, none⟩) (k + 1) cap3))
        have O4 := Lib.hid (O3.out.low (Ch.set w3 gb 0 (.slice (some ⟨g3, 0, none⟩) (k + 1) cap3)) hlB)
        have hb4 : B ≤ (w3.setCell ⟨gb, 0, none⟩ (.slice (some ⟨g3, 0, none⟩) (k + 1) cap3)).heap.size := by simpa using hb3
        clear X3 O3 hb3
        rw [HS.out] at X4
        refine wpAnyH_done (by kernel_rfl) ?_ _
        go_wp2_with fail
        go_roundw
        case rel => exact ⟨k + 1, _, cap3, by omega, by go_num, hb4, X4, O4⟩
        case measure => simp [intOf]; omega
      · as_aux_lemma =>
        go_simp
        refine (XD.out.rs.up.hash_l b0 a0).mono ?_
        rintro r z5 ⟨rfl, h⟩
        have X5z := Lib.hid (XD.out.go h)
        have O5z := Lib.hid (OD.out.low h.ch hlB2)
        have hb5 : B ≤ z5.heap.size := Nat.le_trans hbD h.ch.size
        clear h XD OD
        dsimp only
        refine hK.out _ _ trivial (fun _ => ?_)
        clear hK K
        try simp only [Act.put, pu]
        refine wpAnyH_ready (rs := [1, 5]) (by kernel_rfl) (by simp) ?_
        refine AllReadyH.cons (gat rfl) (fun K hK => ?_) (ar1 (gat rfl) fun K hK => ?_)
        · as_aux_lemma =>
          have dl := (X5z.out.cell 0 rfl).1
          go_simp
          refine hK.out _ _ trivial (fun _ => ?_)
          clear hK K dl
          try simp only [Act.put, pu]
          refine wpAnyH_ready (rs := [5]) (by kernel_rfl) (by simp) ?_
          refine ar1 (gat rfl) fun K hK => ?_
          go_simp
          refine (X5z.out.rs.up.byte_l b1 a1).mono ?_
          rintro r z6 ⟨rfl, h⟩
          have X6z := Lib.hid (X5z.out.go h)
          have O6z := Lib.hid (O5z.out.low h.ch hlB2)
          have hb6 : B ≤ z6.heap.size := Nat.le_trans hb5 h.ch.size
          clear h X5z O5z
          dsimp only
          refine hK.out _ _ trivial (fun _ => ?_)
          clear hK K
          try simp only [Act.put, pu]
          refine wtk (i := 6) (v := .agg #[.string y0, .int .i64 y1]) (gat rfl) (by kernel_rfl) (by exact fun _ _ _ h => h) (yields_build _ _ _ rfl (by rfl) (by simp only [List.map_toArray, List.map_cons, List.map_nil]; exact built_point y0 y1)) (by assumption) ?_
          try simp only [Act.put, pu]
          refine wpAnyH_ready (rs := [8]) (by kernel_rfl) (by simp) ?_
          refine ar1 (gat rfl) fun K hK => ?_
          go_simp
          refine (X6z.out.rs.up.byte_l b2 a2).mono ?_
          rintro r z7 ⟨rfl, h⟩
          have X7z := Lib.hid (X6z.out.go h)
          have O7z := Lib.hid (O6z.out.low h.ch hlB2)
          have hb7 : B ≤ z7.heap.size := Nat.le_trans hb6 h.ch.size
          clear h X6z O6z
          dsimp only
          refine hK.out _ _ trivial (fun _ => ?_)
          clear hK K
          try simp only [Act.put, pu]
          refine wtk (i := 9) (v := .agg #[.string y0, .int .i64 y1, .int .i64 y2, .string ⟨#[]⟩]) (gat rfl) (by kernel_rfl) (by exact fun _ _ _ h => h) (yields_build _ _ _ rfl (by rfl) (by simp only [List.map_toArray, List.map_cons, List.map_nil]; exact built_in y0 y1 y2)) (by assumption) ?_
          try simp only [Act.put, pu]
          refine wpAnyH_ready (rs := [10]) (by kernel_rfl) (by simp) ?_
          refine ar1 (gat rfl) fun K hK => ?_
          rw [if_pos (by rfl)]
          refine wpo_rowin y0 y1 y2 rfl rfl ?_
          have X8z := Lib.hid (X7z.out.q ((Q.refl z7).alloc (.cells #[.string y0, .int .i64 y1, .int .i64 y2, .string ⟨#[]⟩] 53)))
          have O8z := Lib.hid (O7z.out.q ((Q.refl z7).alloc (.cells #[.string y0, .int .i64 y1, .int .i64 y2, .string ⟨#[]⟩] 53)))
          have N8z := Lib.hid (rowNI z7 y0 y1 y2)
          have hb8 : B ≤ (z7.alloc (.cells #[.string y0, .int .i64 y1, .int .i64 y2, .string ⟨#[]⟩] 53)).heap.size := Nat.le_trans hb7 (by simp)
          clear X7z O7z
          refine hK.out _ _ trivial (fun _ => ?_)
          clear hK K
          try simp only [Act.put, pu]
          as_aux_lemma =>
          refine wpAnyH_ready (rs := [11]) (by kernel_rfl) (by simp) ?_
          refine ar1 (gat rfl) fun K hK => ?_
          rw [if_pos (by rfl)]
          refine wp_append_own _ (.tmp 22) (.tmp 31) 22 rfl B 53 i0 _ 4 48 Tryz.underlying22 hi0 hz0 hz1 hz2 rfl (by decide) _ _ _ rfl O8z.out ⟨z7.heap.size, 0, none⟩ 1 1 [.string y0, .int .i64 y1, .int .i64 y2, .string ⟨#[]⟩] rfl rfl N8z.out (by intro v hv; simp at hv; rcases hv with rfl | rfl | rfl | rfl <;> rfl) (by unfold maxLen; omega) (by omega) hb8 ?_
          intro v3 w3 hown3 hgrow3 _hn
          rw [← HW.out] at hown3
          have hb3 : B ≤ w3.heap.size := Nat.le_trans hb8 hgrow3.size
          have X3 := Lib.hid (RX.grown X8z.out hgrow3 (fun j hj => (World.ownsRow.lt O8z.out j hj).1) hlB hlB2 hlB3 hlB4)
          obtain ⟨g3, cap3, rfl, o3⟩ := OR.next hown3
          have O3 := Lib.hid o3
          clear hgrow3 _hn hown3 o3 X8z O8z N8z
          refine hK.out _ _ trivial (fun _ => ?_)
          clear hK K
          try simp only [Act.put, pu]
          refine wpAnyH_ready (rs := [12]) (by kernel_rfl) (by simp) ?_
          refine ar1 (gat rfl) fun K hK => ?_
          go_simp
          refine hK.out _ _ trivial (fun _ => ?_)
          clear hK K
          try simp only [Act.put, pu]
          obtain ⟨d3, f3⟩ := X3.out.cell 0 rfl
          refine wpAnyH_ready (rs := [13]) (by kernel_rfl) (by simp) ?_
          refine ar1 (gat rfl) fun K hK => ?_
          go_simp
          refine hK.out _ _ trivial (fun _ => ?_)
          clear hK K
          try simp only [Act.put, pu]
          clear d3 f3
          have X4 := Lib.hid (X3.out.set 0 (.slice (some ⟨g3, 0, none⟩) (k + 1) cap3))
          have O4 := Lib.hid (O3.out.low (Ch.set w3 gb 0 (.slice (some ⟨g3, 0, none⟩) (k + 1) cap3)) hlB)
          have hb4 : B ≤ (w3.setCell ⟨gb, 0, none⟩ (.slice (some ⟨g3, 0, none⟩) (k + 1) cap3)).heap.size := by simpa using hb3
          clear X3 O3 hb3
          rw [HS.out] at X4
          refine wpAnyH_done (by kernel_rfl) ?_ _
          go_wp2_with fail
          go_roundw
          case rel => exact ⟨k + 1, _, cap3, by omega, by go_num, hb4, X4, O4⟩
          case measure => simp [intOf]; omega
        · as_aux_lemma =>
          go_simp
          refine (X5z.out.rs.up.byte_l b1 a1).mono ?_
          rintro r z9 ⟨rfl, h⟩
          have X9z := Lib.hid (X5z.out.go h)
          have O9z := Lib.hid (O5z.out.low h.ch hlB2)
          have hb9 : B ≤ z9.heap.size := Nat.le_trans hb5 h.ch.size
          clear h X5z O5z
          dsimp only
          refine hK.out _ _ trivial (fun _ => ?_)
          clear hK K
          try simp only [Act.put, pu]
          refine wtk (i := 6) (v := .agg #[.string y0, .int .i64 y1]) (gat rfl) (by kernel_rfl) (by exact fun _ _ _ h => h) (yields_build _ _ _ rfl (by rfl) (by simp only [List.map_toArray, List.map_cons, List.map_nil]; exact built_point y0 y1)) (by assumption) ?_
          try simp only [Act.put, pu]
          refine wpAnyH_ready (rs := [1, 8]) (by kernel_rfl) (by simp) ?_
          refine AllReadyH.cons (gat rfl) (fun K hK => ?_) (ar1 (gat rfl) fun K hK => ?_)
          · as_aux_lemma =>
            have dl := (X9z.out.cell 0 rfl).1
            go_simp
            refine hK.out _ _ trivial (fun _ => ?_)
            clear hK K dl
            try simp only [Act.put, pu]
            refine wpAnyH_ready (rs := [8]) (by kernel_rfl) (by simp) ?_
            refine ar1 (gat rfl) fun K hK => ?_
            go_simp
            refine (X9z.out.rs.up.byte_l b2 a2).mono ?_
            rintro r z10 ⟨rfl, h⟩
            have X10z := Lib.hid (X9z.out.go h)
            have O10z := Lib.hid (O9z.out.low h.ch hlB2)
            have hb10 : B ≤ z10.heap.size := Nat.le_trans hb9 h.ch.size
            clear h X9z O9z
            dsimp only
            refine hK.out _ _ trivial (fun _ => ?_)
            clear hK K
            try simp only [Act.put, pu]
            refine wtk (i := 9) (v := .agg #[.string y0, .int .i64 y1, .int .i64 y2, .string ⟨#[]⟩]) (gat rfl) (by kernel_rfl) (by exact fun _ _ _ h => h) (yields_build _ _ _ rfl (by rfl) (by simp only [List.map_toArray, List.map_cons, List.map_nil]; exact built_in y0 y1 y2)) (by assumption) ?_
            try simp only [Act.put, pu]
            refine wpAnyH_ready (rs := [10]) (by kernel_rfl) (by simp) ?_
            refine ar1 (gat rfl) fun K hK => ?_
            rw [if_pos (by rfl)]
            refine wpo_rowin y0 y1 y2 rfl rfl ?_
            have X11z := Lib.hid (X10z.out.q ((Q.refl z10).alloc (.cells #[.string y0, .int .i64 y1, .int .i64 y2, .string ⟨#[]⟩] 53)))
            have O11z := Lib.hid (O10z.out.q ((Q.refl z10).alloc (.cells #[.string y0, .int .i64 y1, .int .i64 y2, .string ⟨#[]⟩] 53)))
            have N11z := Lib.hid (rowNI z10 y0 y1 y2)
            have hb11 : B ≤ (z10.alloc (.cells #[.string y0, .int .i64 y1, .int .i64 y2, .string ⟨#[]⟩] 53)).heap.size := Nat.le_trans hb10 (by simp)
            clear X10z O10z
            refine hK.out _ _ trivial (fun _ => ?_)
            clear hK K
            try simp only [Act.put, pu]
            as_aux_lemma =>
            refine wpAnyH_ready (rs := [11]) (by kernel_rfl) (by simp) ?_
            refine ar1 (gat rfl) fun K hK => ?_
            rw [if_pos (by rfl)]
            refine wp_append_own _ (.tmp 22) (.tmp 31) 22 rfl B 53 i0 _ 4 48 Tryz.underlying22 hi0 hz0 hz1 hz2 rfl (by decide) _ _ _ rfl O11z.out ⟨z10.heap.size, 0, none⟩ 1 1 [.string y0, .int .i64 y1, .int .i64 y2, .string ⟨#[]⟩] rfl rfl N11z.out (by intro v hv; simp at hv; rcases hv with rfl | rfl | rfl | rfl <;> rfl) (by unfold maxLen; omega) (by omega) hb11 ?_
            intro v3 w3 hown3 hgrow3 _hn
            rw [← HW.out] at hown3
            have hb3 : B ≤ w3.heap.size := Nat.le_trans hb11 hgrow3.size
            have X3 := Lib.hid (RX.grown X11z.out hgrow3 (fun j hj => (World.ownsRow.lt O11z.out j hj).1) hlB hlB2 hlB3 hlB4)
            obtain ⟨g3, cap3, rfl, o3⟩ := OR.next hown3
            have O3 := Lib.hid o3
            clear hgrow3 _hn hown3 o3 X11z O11z N11z
            refine hK.out _ _ trivial (fun _ => ?_)
            clear hK K
            try simp only [Act.put, pu]
            refine wpAnyH_ready (rs := [12]) (by kernel_rfl) (by simp) ?_
            refine ar1 (gat rfl) fun K hK => ?_
            go_simp
            refine hK.out _ _ trivial (fun _ => ?_)
            clear hK K
            try simp only [Act.put, pu]
            obtain ⟨d3, f3⟩ := X3.out.cell 0 rfl
            refine wpAnyH_ready (rs := [13]) (by kernel_rfl) (by simp) ?_
            refine ar1 (gat rfl) fun K hK => ?_
            go_simp
            refine hK.out _ _ trivial (fun _ => ?_)
            clear hK K
            try simp only [Act.put, pu]
            clear d3 f3
            have X4 := Lib.hid (X3.out.set 0 (.slice (some ⟨g3, 0, none⟩) (k + 1) cap3))
            have O4 := Lib.hid (O3.out.low (Ch.set w3 gb 0 (.slice (some ⟨g3, 0, none⟩) (k + 1) cap3)) hlB)
            have hb4 : B ≤ (w3.setCell ⟨gb, 0, none⟩ (.slice (some ⟨g3, 0, none⟩) (k + 1) cap3)).heap.size := by simpa using hb3
            clear X3 O3 hb3
            rw [HS.out] at X4
            refine wpAnyH_done (by kernel_rfl) ?_ _
            go_wp2_with fail
            go_roundw
            case rel => exact ⟨k + 1, _, cap3, by omega, by go_num, hb4, X4, O4⟩
            case measure => simp [intOf]; omega
          · as_aux_lemma =>
            go_simp
            refine (X9z.out.rs.up.byte_l b2 a2).mono ?_
            rintro r z12 ⟨rfl, h⟩
            have X12z := Lib.hid (X9z.out.go h)
            have O12z := Lib.hid (O9z.out.low h.ch hlB2)
            have hb12 : B ≤ z12.heap.size := Nat.le_trans hb9 h.ch.size
            clear h X9z O9z
            dsimp only
            refine hK.out _ _ trivial (fun _ => ?_)
            clear hK K
            try simp only [Act.put, pu]
            refine wtk (i := 9) (v := .agg #[.string y0, .int .i64 y1, .int .i64 y2, .string ⟨#[]⟩]) (gat rfl) (by kernel_rfl) (by exact fun _ _ _ h => h) (yields_build _ _ _ rfl (by rfl) (by simp only [List.map_toArray, List.map_cons, List.map_nil]; exact built_in y0 y1 y2)) (by assumption) ?_
            try simp only [Act.put, pu]
            refine wpAnyH_ready (rs := [1, 10]) (by kernel_rfl) (by simp) ?_
            refine AllReadyH.cons (gat rfl) (fun K hK => ?_) (ar1 (gat rfl) fun K hK => ?_)
            · as_aux_lemma =>
              have dl := (X12z.out.cell 0 rfl).1
              go_simp
              refine hK.out _ _ trivial (fun _ => ?_)
              clear hK K dl
              try simp only [Act.put, pu]
              refine wpAnyH_ready (rs := [10]) (by kernel_rfl) (by simp) ?_
              refine ar1 (gat rfl) fun K hK => ?_
              rw [if_pos (by rfl)]
              refine wpo_rowin y0 y1 y2 rfl rfl ?_
              have X13z := Lib.hid (X12z.out.q ((Q.refl z12).alloc (.cells #[.string y0, .int .i64 y1, .int .i64 y2, .string ⟨#[]⟩] 53)))
              have O13z := Lib.hid (O12z.out.q ((Q.refl z12).alloc (.cells #[.string y0, .int .i64 y1, .int .i64 y2, .string ⟨#[]⟩] 53)))
              have N13z := Lib.hid (rowNI z12 y0 y1 y2)
              have hb13 : B ≤ (z12.alloc (.cells #[.string y0, .int .i64 y1, .int .i64 y2, .string ⟨#[]⟩] 53)).heap.size := Nat.le_trans hb12 (by simp)
              clear X12z O12z
              refine hK.out _ _ trivial (fun _ => ?_)
              clear hK K
              try simp only [Act.put, pu]
              as_aux_lemma =>
              refine wpAnyH_ready (rs := [11]) (by kernel_rfl) (by simp) ?_
              refine ar1 (gat rfl) fun K hK => ?_
              rw [if_pos (by rfl)]
              refine wp_append_own _ (.tmp 22) (.tmp 31) 22 rfl B 53 i0 _ 4 48 Tryz.underlying22 hi0 hz0 hz1 hz2 rfl (by decide) _ _ _ rfl O13z.out ⟨z12.heap.size, 0, none⟩ 1 1 [.string y0, .int .i64 y1, .int .i64 y2, .string ⟨#[]⟩] rfl rfl N13z.out (by intro v hv; simp at hv; rcases hv with rfl | rfl | rfl | rfl <;> rfl) (by unfold maxLen; omega) (by omega) hb13 ?_
              intro v3 w3 hown3 hgrow3 _hn
              rw [← HW.out] at hown3
              have hb3 : B ≤ w3.heap.size := Nat.le_trans hb13 hgrow3.size
              have X3 := Lib.hid (RX.grown X13z.out hgrow3 (fun j hj => (World.ownsRow.lt O13z.out j hj).1) hlB hlB2 hlB3 hlB4)
              obtain ⟨g3, cap3, rfl, o3⟩ := OR.next hown3
              have O3 := Lib.hid o3
              clear hgrow3 _hn hown3 o3 X13z O13z N13z
              refine hK.out _ _ trivial (fun _ => ?_)
              clear hK K
              try simp only [Act.put, pu]
              refine wpAnyH_ready (rs := [12]) (by kernel_rfl) (by simp) ?_
              refine ar1 (gat rfl) fun K hK => ?_
              go_simp
              refine hK.out _ _ trivial (fun _ => ?_)
              clear hK K
              try simp only [Act.put, pu]
              obtain ⟨d3, f3⟩ := X3.out.cell 0 rfl
              refine wpAnyH_ready (rs := [13]) (by kernel_rfl) (by simp) ?_
              refine ar1 (gat rfl) fun K hK => ?_
              go_simp
              refine hK.out _ _ trivial (fun _ => ?_)
              clear hK K
              try simp only [Act.put, pu]
              clear d3 f3
              have X4 := Lib.hid (X3.out.set 0 (.slice (some ⟨g3, 0, none⟩) (k + 1) cap3))
              have O4 := Lib.hid (O3.out.low (Ch.set w3 gb 0 (.slice (some ⟨g3, 0, none⟩) (k + 1) cap3)) hlB)
              have hb4 : B ≤ (w3.setCell ⟨gb, 0, none⟩ (.slice (some ⟨g3, 0, none⟩) (k + 1) cap3)).heap.size := by simpa using hb3
              clear X3 O3 hb3
              rw [HS.out] at X4
              refine wpAnyH_done (by kernel_rfl) ?_ _
              go_wp2_with fail
              go_roundw
              case rel => exact ⟨k + 1, _, cap3, by omega, by go_num, hb4, X4, O4⟩
              case measure => simp [intOf]; omega
            · as_aux_lemma =>
              rw [if_pos (by rfl)]
              refine wpo_rowin y0 y1 y2 rfl rfl ?_
              have X14z := Lib.hid (X12z.out.q ((Q.refl z12).alloc (.cells #[.string y0, .int .i64 y1, .int .i64 y2, .string ⟨#[]⟩] 53)))
              have O14z := Lib.hid (O12z.out.q ((Q.refl z12).alloc (.cells #[.string y0, .int .i64 y1, .int .i64 y2, .string ⟨#[]⟩] 53)))
              have N14z := Lib.hid (rowNI z12 y0 y1 y2)
              have hb14 : B ≤ (z12.alloc (.cells #[.string y0, .int .i64 y1, .int .i64 y2, .string ⟨#[]⟩] 53)).heap.size := Nat.le_trans hb12 (by simp)
              clear X12z O12z
              refine hK.out _ _ trivial (fun _ => ?_)
              clear hK K
              try simp only [Act.put, pu]
              refine wpAnyH_ready (rs := [1]) (by kernel_rfl) (by simp) ?_
              refine ar1 (gat rfl) fun K hK => ?_
              have dl := (X14z.out.cell 0 rfl).1
              go_simp
              refine hK.out _ _ trivial (fun _ => ?_)
              clear hK K dl
              try simp only [Act.put, pu]
              as_aux_lemma =>
              refine wpAnyH_ready (rs := [11]) (by kernel_rfl) (by simp) ?_
              refine ar1 (gat rfl) fun K hK => ?_
              rw [if_pos (by rfl)]
              refine wp_append_own _ (.tmp 22) (.tmp 31) 22 rfl B 53 i0 _ 4 48 Tryz.underlying22 hi0 hz0 hz1 hz2 rfl (by decide) _ _ _ rfl O14z.out ⟨z12.heap.size, 0, none⟩ 1 1 [.string y0, .int .i64 y1, .int .i64 y2, .string ⟨#[]⟩] rfl rfl N14z.out (by intro v hv; simp at hv; rcases hv with rfl | rfl | rfl | rfl <;> rfl) (by unfold maxLen; omega) (by omega) hb14 ?_
              intro v3 w3 hown3 hgrow3 _hn
              rw [← HW.out] at hown3
              have hb3 : B ≤ w3.heap.size := Nat.le_trans hb14 hgrow3.size
              have X3 := Lib.hid (RX.grown X14z.out hgrow3 (fun j hj => (World.ownsRow.lt O14z.out j hj).1) hlB hlB2 hlB3 hlB4)
              obtain ⟨g3, cap3, rfl, o3⟩ := OR.next hown3
              have O3 := Lib.hid o3
              clear hgrow3 _hn hown3 o3 X14z O14z N14z
              refine hK.out _ _ trivial (fun _ => ?_)
              clear hK K
              try simp only [Act.put, pu]
              refine wpAnyH_ready (rs := [12]) (by kernel_rfl) (by simp) ?_
              refine ar1 (gat rfl) fun K hK => ?_
              go_simp
              refine hK.out _ _ trivial (fun _ => ?_)
              clear hK K
              try simp only [Act.put, pu]
              obtain ⟨d3, f3⟩ := X3.out.cell 0 rfl
              refine wpAnyH_ready (rs := [13]) (by kernel_rfl) (by simp) ?_
              refine ar1 (gat rfl) fun K hK => ?_
              go_simp
              refine hK.out _ _ trivial (fun _ => ?_)
              clear hK K
              try simp only [Act.put, pu]
              clear d3 f3
              have X4 := Lib.hid (X3.out.set 0 (.slice (some ⟨g3, 0, none⟩) (k + 1) cap3))
              have O4 := Lib.hid (O3.out.low (Ch.set w3 gb 0 (.slice (some ⟨g3, 0, none⟩) (k + 1) cap3)) hlB)
              have hb4 : B ≤ (w3.setCell ⟨gb, 0, none⟩ (.slice (some ⟨g3, 0, none⟩) (k + 1) cap3)).heap.size := by simpa using hb3
              clear X3 O3 hb3
              rw [HS.out] at X4
              refine wpAnyH_done (by kernel_rfl) ?_ _
              go_wp2_with fail
              go_roundw
              case rel => exact ⟨k + 1, _, cap3, by omega, by go_num, hb4, X4, O4⟩
              case measure => simp [intOf]; omega
    · obtain rfl : k = coN c := by omega
      have td : decide (coN c < cn (coP0 c)) = false := by simp [coN]
      have td2 : decide ((coN c : Int) < (cn (coP0 c) : Int)) = false := by simp [coN]
      clear hlt k0
      as_aux_lemma =>
      go_wp2_with fail
      refine (rcount_l X.out.rs.up).mono ?_
      rintro r w8 ⟨rfl, h⟩
      have X8 := Lib.hid (X.out.go h)
      have OI := Lib.hid (O.out.low h.ch hlB2)
      have hb8 : B ≤ w8.heap.size := Nat.le_trans hb h.ch.size
      clear h X O hb HBE
      have hM : (cn (coQ c (coN c)) : Int) = (coM c : Int) := rfl
      have hM4 := coM_le c
      go_wp2_with fail
      have Y7 : Hid (RX W g W.heap.size [.slice none 0 0, .slice none 0 0, .int .u64 0, .string ⟨#[]⟩, .string ⟨#[]⟩, .slice none 0 0] gb [.slice a (coN c) cap, .slice none 0 0, .int .u64 0, .string ⟨#[]⟩, .string ⟨#[]⟩, .slice none 0 0] (coR c 0) w8) := X8.out
      have hmB := X8.out.bb.lt
      have hmB2 := X8.out.rs.lt
      have hmB3 := X8.out.br.lt
      have hmB4 := X8.out.rs.ch.size
      have hIl : Hid (∀ x, a = some x → x.block < w8.heap.size) := fun x hx => by
       rcases OI.out.shape with ⟨h1, _⟩ | ⟨z, h1, h2, h3, _⟩
       · rw [h1] at hx; cases hx
       · rw [h1] at hx; injection hx with hx; subst hx; exact h3
      have P7 := Lib.hid (OR.nil 47 OU.cells 9 w8 w8.heap.size (fun i => rdO IntKind.i64.wrap (coR c i)))
      clear X8
      obtain ⟨D, hD⟩ : ∃ n, w8.heap.size = n := ⟨_, rfl⟩
      rw [hD] at hmB hmB2 hmB3 hmB4 P7 hIl hb8
      have HDE := Lib.hid (Nat.le_of_eq hD.symm)
      clear hD
      go_loopw [37] (fun i wr => ∃ (k : Nat) (ao : Option Addr) (co : Nat), k ≤ coM c ∧ i = .int .i64 k ∧ D ≤ wr.heap.size ∧ Hid (RX W g W.heap.size [.slice none 0 0, .slice none 0 0, .int .u64 0, .string ⟨#[]⟩, .string ⟨#[]⟩, .slice none 0 0] gb [.slice a (coN c) cap, .slice ao k co, .int .u64 0, .string ⟨#[]⟩, .string ⟨#[]⟩, .slice none 0 0] (coR c k) wr) ∧ Hid (OR 47 OU.cells 9 wr D ao k co (fun i => rdO IntKind.i64.wrap (coR c i))) ∧ Hid (OR 53 IN.cells 4 wr B a (coN c) cap (fun i => rdI (coQ c i)))) (fun i _ => coM c - (intOf i).toNat)
      case atStart => exact ⟨0, none, 0, by omega, rfl, HDE.out, Y7, P7, OI⟩
      case round =>
       obtain ⟨k, ao, co, hk, rfl, hb, X, O, OI'⟩ := hrel
       clear Y7 P7 OI
       have OI := OI'
       clear OI'
       have k0 : (0 : Int) ≤ (k : Int) := by omega
       by_cases hlt : k < coM c
       · have k1 : (k : Int) < (cn (coQ c (coN c)) : Int) := by rw [hM]; omega
         have HS : Hid (stO (coR c k) = coR c (k + 1)) := rfl
         obtain ⟨ou, hou⟩ : ∃ v, rdO IntKind.i64.wrap (coR c k) = v := ⟨_, rfl⟩
         have HR : Hid (∀ w, RS w g (coR c k) w → Calls Tryz.prog 136 #[.pointer (some ⟨g, 0, none⟩)] w fun r w' => r = .returned (ouV ou) ∧ RS w g (coR c (k + 1)) w') := fun w h => by rw [← hou]; exact rout_l h
         have HW0 : Hid ((fun i => rdO IntKind.i64.wrap (coR c i)) k = ou) := hou
         clear hou
         obtain ⟨y0, y1, y2, y3, y4, y5, y6, y7, y8⟩ := ou
         have HW : Hid ((rdO IntKind.i64.wrap (coR c k)).cells = [.int .i64 y0, .int .u64 y1, .string y2, .string y3, .int .i64 y4, .string y5, .int .u64 y6, .int .i64 y7, .string y8]) := by show _ = _; have := HW0.out; dsimp only at this; rw [this]; rfl
         clear HW0
         have XD := Lib.hid (X.out.q (Q.refl _).drew)
         have OD := Lib.hid (O.out.q (Q.refl _).drew)
         have ID := Lib.hid (OI.out.q (Q.refl _).drew)
         have hbD : D ≤ wr.drew.heap.size := hb
         clear X O OI
         go_wp2_with fail
         as_aux_lemma =>
         obtain ⟨i0, hi0, hz0, hz1, hz2⟩ := info_of info_out
         refine wp_region_held_drew (S := fun _ => True) (by kernel_rfl) trivial (fun hHeld => ?_)
         refine wtk (i := 0) (v := ?_) (gat rfl) (by kernel_rfl) (by exact fun _ _ _ h => h) (Or.inl ⟨by rfl, ?_⟩) (by assumption) ?_
         rotate_left
         · (intro wx hSw; (try dsimp only at hSw); go_simp; (try rw [if_neg (by omega)]); try (with_reducible rfl))
         try simp only [Act.put, pu]
         refine wtk (i := 2) (v := ?_) (gat rfl) (by kernel_rfl) (by exact fun _ _ _ h => h) (Or.inl ⟨by rfl, ?_⟩) (by assumption) ?_
         rotate_left
         · (intro wx hSw; (try dsimp only at hSw); go_simp; (try rw [if_neg (by omega)]); try (with_reducible rfl))
         try simp only [Act.put, pu]
         refine wpAnyH_ready (rs := [1, 3]) (by kernel_rfl) (by simp) ?_
         refine AllReadyH.cons (gat rfl) (fun K hK => ?_) (ar1 (gat rfl) fun K hK => ?_)
         · as_aux_lemma =>
           have dl := (XD.out.cell 1 rfl).1
           go_simp
           refine hK.out _ _ trivial (fun _ => ?_)
           clear hK K dl
           try simp only [Act.put, pu]
           refine wpAnyH_ready (rs := [3]) (by kernel_rfl) (by simp) ?_
           refine ar1 (gat rfl) fun K hK => ?_
           go_simp
           refine (HR.out _ XD.out.rs.up).mono ?_
           rintro r z15 ⟨rfl, h⟩
           have X15z := Lib.hid (XD.out.go h)
           have O15z := Lib.hid (OD.out.low h.ch hmB2)
           have I15z := Lib.hid (ID.out.low h.ch hlB2)
           have hb15 : D ≤ z15.heap.size := Nat.le_trans hbD h.ch.size
           clear h XD OD ID
           dsimp only
           refine hK.out _ _ trivial (fun _ => ?_)
           clear hK K
           try simp only [Act.put, pu]
           refine wpAnyH_ready (rs := [4]) (by kernel_rfl) (by simp) ?_
           refine ar1 (gat rfl) fun K hK => ?_
           rw [if_pos (by rfl)]
           refine wpo_rowout y0 y1 y2 y3 y4 y5 y6 y7 y8 rfl rfl ?_
           have X16z := Lib.hid (X15z.out.q ((Q.refl z15).alloc (.cells #[.int .i64 y0, .int .u64 y1, .string y2, .string y3, .int .i64 y4, .string y5, .int .u64 y6, .int .i64 y7, .string y8] 47)))
           have O16z := Lib.hid (O15z.out.q ((Q.refl z15).alloc (.cells #[.int .i64 y0, .int .u64 y1, .string y2, .string y3, .int .i64 y4, .string y5, .int .u64 y6, .int .i64 y7, .string y8] 47)))
           have I16z := Lib.hid (I15z.out.q ((Q.refl z15).alloc (.cells #[.int .i64 y0, .int .u64 y1, .string y2, .string y3, .int .i64 y4, .string y5, .int .u64 y6, .int .i64 y7, .string y8] 47)))
           have N16z := Lib.hid (rowNO z15 y0 y1 y2 y3 y4 y5 y6 y7 y8)
           have hb16 : D ≤ (z15.alloc (.cells #[.int .i64 y0, .int .u64 y1, .string y2, .string y3, .int .i64 y4, .string y5, .int .u64 y6, .int .i64 y7, .string y8] 47)).heap.size := Nat.le_trans hb15 (by simp)
           clear X15z O15z I15z
           refine hK.out _ _ trivial (fun _ => ?_)
           clear hK K
           try simp only [Act.put, pu]
           as_aux_lemma =>
           refine wpAnyH_ready (rs := [5]) (by kernel_rfl) (by simp) ?_
           refine ar1 (gat rfl) fun K hK => ?_
           rw [if_pos (by rfl)]
           refine wp_append_own _ (.tmp 40) (.tmp 43) 23 rfl D 47 i0 _ 9 104 Tryz.underlying23 hi0 hz0 hz1 hz2 rfl (by decide) _ _ _ rfl O16z.out ⟨z15.heap.size, 0, none⟩ 1 1 [.int .i64 y0, .int .u64 y1, .string y2, .string y3, .int .i64 y4, .string y5, .int .u64 y6, .int .i64 y7, .string y8] rfl rfl N16z.out (one9 rfl rfl rfl rfl rfl rfl rfl rfl rfl) (by unfold maxLen; omega) (by omega) hb16 ?_
           intro v3 w3 hown3 hgrow3 _hn
           rw [← HW.out] at hown3
           have hb3 : D ≤ w3.heap.size := Nat.le_trans hb16 hgrow3.size
           have X3 := Lib.hid (RX.grown X16z.out hgrow3 (fun j hj => (World.ownsRow.lt O16z.out j hj).1) hmB hmB2 hmB3 hmB4)
           obtain ⟨jg, hjg, cg⟩ := ch_of_grown hgrow3 (fun j hj => (World.ownsRow.lt O16z.out j hj).1)
           have I3 := Lib.hid (I16z.out.ch cg (fun x hx => by have := hIl.out x hx; omega))
           clear cg hjg jg I16z
           obtain ⟨g3, cap3, rfl, o3⟩ := OR.next hown3
           have O3 := Lib.hid o3
           clear hgrow3 _hn hown3 o3 X16z O16z N16z
           refine hK.out _ _ trivial (fun _ => ?_)
           clear hK K
           try simp only [Act.put, pu]
           refine wpAnyH_ready (rs := [6]) (by kernel_rfl) (by simp) ?_
           refine ar1 (gat rfl) fun K hK => ?_
           go_simp
           refine hK.out _ _ trivial (fun _ => ?_)
           clear hK K
           try simp only [Act.put, pu]
           obtain ⟨d3, f3⟩ := X3.out.cell 1 rfl
           refine wpAnyH_ready (rs := [7]) (by kernel_rfl) (by simp) ?_
           refine ar1 (gat rfl) fun K hK => ?_
           go_simp
           refine hK.out _ _ trivial (fun _ => ?_)
           clear hK K
           try simp only [Act.put, pu]
           clear d3 f3
           have X4 := Lib.hid (X3.out.set 1 (.slice (some ⟨g3, 0, none⟩) (k + 1) cap3))
           have O4 := Lib.hid (O3.out.low (Ch.set w3 gb 1 (.slice (some ⟨g3, 0, none⟩) (k + 1) cap3)) hmB)
           have I4 := Lib.hid (I3.out.low (Ch.set w3 gb 1 (.slice (some ⟨g3, 0, none⟩) (k + 1) cap3)) hlB)
           clear I3
           have hb4 : D ≤ (w3.setCell ⟨gb, 1, none⟩ (.slice (some ⟨g3, 0, none⟩) (k + 1) cap3)).heap.size := by simpa using hb3
           clear X3 O3 hb3
           refine wpAnyH_done (by kernel_rfl) ?_ _
           go_wp2_with fail
           go_roundw
           case rel => exact ⟨k + 1, _, cap3, by omega, by go_num, hb4, X4, O4, I4⟩
           case measure => simp [intOf]; omega
         · as_aux_lemma =>
           go_simp
           refine (HR.out _ XD.out.rs.up).mono ?_
           rintro r z17 ⟨rfl, h⟩
           have X17z := Lib.hid (XD.out.go h)
           have O17z := Lib.hid (OD.out.low h.ch hmB2)
           have I17z := Lib.hid (ID.out.low h.ch hlB2)
           have hb17 : D ≤ z17.heap.size := Nat.le_trans hbD h.ch.size
           clear h XD OD ID
           dsimp only
           refine hK.out _ _ trivial (fun _ => ?_)
           clear hK K
           try simp only [Act.put, pu]
           refine wpAnyH_ready (rs := [1, 4]) (by kernel_rfl) (by simp) ?_
           refine AllReadyH.cons (gat rfl) (fun K hK => ?_) (ar1 (gat rfl) fun K hK => ?_)
           · as_aux_lemma =>
             have dl := (X17z.out.cell 1 rfl).1
             go_simp
             refine hK.out _ _ trivial (fun _ => ?_)
             clear hK K dl
             try simp only [Act.put, pu]
             refine wpAnyH_ready (rs := [4]) (by kernel_rfl) (by simp) ?_
             refine ar1 (gat rfl) fun K hK => ?_
             rw [if_pos (by rfl)]
             refine wpo_rowout y0 y1 y2 y3 y4 y5 y6 y7 y8 rfl rfl ?_
             have X18z := Lib.hid (X17z.out.q ((Q.refl z17).alloc (.cells #[.int .i64 y0, .int .u64 y1, .string y2, .string y3, .int .i64 y4, .string y5, .int .u64 y6, .int .i64 y7, .string y8] 47)))
             have O18z := Lib.hid (O17z.out.q ((Q.refl z17).alloc (.cells #[.int .i64 y0, .int .u64 y1, .string y2, .string y3, .int .i64 y4, .string y5, .int .u64 y6, .int .i64 y7, .string y8] 47)))
             have I18z := Lib.hid (I17z.out.q ((Q.refl z17).alloc (.cells #[.int .i64 y0, .int .u64 y1, .string y2, .string y3, .int .i64 y4, .string y5, .int .u64 y6, .int .i64 y7, .string y8] 47)))
             have N18z := Lib.hid (rowNO z17 y0 y1 y2 y3 y4 y5 y6 y7 y8)
             have hb18 : D ≤ (z17.alloc (.cells #[.int .i64 y0, .int .u64 y1, .string y2, .string y3, .int .i64 y4, .string y5, .int .u64 y6, .int .i64 y7, .string y8] 47)).heap.size := Nat.le_trans hb17 (by simp)
             clear X17z O17z I17z
             refine hK.out _ _ trivial (fun _ => ?_)
             clear hK K
             try simp only [Act.put, pu]
             as_aux_lemma =>
             refine wpAnyH_ready (rs := [5]) (by kernel_rfl) (by simp) ?_
             refine ar1 (gat rfl) fun K hK => ?_
             rw [if_pos (by rfl)]
             refine wp_append_own _ (.tmp 40) (.tmp 43) 23 rfl D 47 i0 _ 9 104 Tryz.underlying23 hi0 hz0 hz1 hz2 rfl (by decide) _ _ _ rfl O18z.out ⟨z17.heap.size, 0, none⟩ 1 1 [.int .i64 y0, .int .u64 y1, .string y2, .string y3, .int .i64 y4, .string y5, .int .u64 y6, .int .i64 y7, .string y8] rfl rfl N18z.out (one9 rfl rfl rfl rfl rfl rfl rfl rfl rfl) (by unfold maxLen; omega) (by omega) hb18 ?_
             intro v3 w3 hown3 hgrow3 _hn
             rw [← HW.out] at hown3
             have hb3 : D ≤ w3.heap.size := Nat.le_trans hb18 hgrow3.size
             have X3 := Lib.hid (RX.grown X18z.out hgrow3 (fun j hj => (World.ownsRow.lt O18z.out j hj).1) hmB hmB2 hmB3 hmB4)
             obtain ⟨jg, hjg, cg⟩ := ch_of_grown hgrow3 (fun j hj => (World.ownsRow.lt O18z.out j hj).1)
             have I3 := Lib.hid (I18z.out.ch cg (fun x hx => by have := hIl.out x hx; omega))
             clear cg hjg jg I18z
             obtain ⟨g3, cap3, rfl, o3⟩ := OR.next hown3
             have O3 := Lib.hid o3
             clear hgrow3 _hn hown3 o3 X18z O18z N18z
             refine hK.out _ _ trivial (fun _ => ?_)
             clear hK K
             try simp only [Act.put, pu]
             refine wpAnyH_ready (rs := [6]) (by kernel_rfl) (by simp) ?_
             refine ar1 (gat rfl) fun K hK => ?_
             go_simp
             refine hK.out _ _ trivial (fun _ => ?_)
             clear hK K
             try simp only [Act.put, pu]
             obtain ⟨d3, f3⟩ := X3.out.cell 1 rfl
             refine wpAnyH_ready (rs := [7]) (by kernel_rfl) (by simp) ?_
             refine ar1 (gat rfl) fun K hK => ?_
             go_simp
             refine hK.out _ _ trivial (fun _ => ?_)
             clear hK K
             try simp only [Act.put, pu]
             clear d3 f3
             have X4 := Lib.hid (X3.out.set 1 (.slice (some ⟨g3, 0, none⟩) (k + 1) cap3))
             have O4 := Lib.hid (O3.out.low (Ch.set w3 gb 1 (.slice (some ⟨g3, 0, none⟩) (k + 1) cap3)) hmB)
             have I4 := Lib.hid (I3.out.low (Ch.set w3 gb 1 (.slice (some ⟨g3, 0, none⟩) (k + 1) cap3)) hlB)
             clear I3
             have hb4 : D ≤ (w3.setCell ⟨gb, 1, none⟩ (.slice (some ⟨g3, 0, none⟩) (k + 1) cap3)).heap.size := by simpa using hb3
             clear X3 O3 hb3
             refine wpAnyH_done (by kernel_rfl) ?_ _
             go_wp2_with fail
             go_roundw
             case rel => exact ⟨k + 1, _, cap3, by omega, by go_num, hb4, X4, O4, I4⟩
             case measure => simp [intOf]; omega
           · as_aux_lemma =>
             rw [if_pos (by rfl)]
             refine wpo_rowout y0 y1 y2 y3 y4 y5 y6 y7 y8 rfl rfl ?_
             have X19z := Lib.hid (X17z.out.q ((Q.refl z17).alloc (.cells #[.int .i64 y0, .int .u64 y1, .string y2, .string y3, .int .i64 y4, .string y5, .int .u64 y6, .int .i64 y7, .string y8] 47)))
             have O19z := Lib.hid (O17z.out.q ((Q.refl z17).alloc (.cells #[.int .i64 y0, .int .u64 y1, .string y2, .string y3, .int .i64 y4, .string y5, .int .u64 y6, .int .i64 y7, .string y8] 47)))
             have I19z := Lib.hid (I17z.out.q ((Q.refl z17).alloc (.cells #[.int .i64 y0, .int .u64 y1, .string y2, .string y3, .int .i64 y4, .string y5, .int .u64 y6, .int .i64 y7, .string y8] 47)))
             have N19z := Lib.hid (rowNO z17 y0 y1 y2 y3 y4 y5 y6 y7 y8)
             have hb19 : D ≤ (z17.alloc (.cells #[.int .i64 y0, .int .u64 y1, .string y2, .string y3, .int .i64 y4, .string y5, .int .u64 y6, .int .i64 y7, .string y8] 47)).heap.size := Nat.le_trans hb17 (by simp)
             clear X17z O17z I17z
             refine hK.out _ _ trivial (fun _ => ?_)
             clear hK K
             try simp only [Act.put, pu]
             refine wpAnyH_ready (rs := [1]) (by kernel_rfl) (by simp) ?_
             refine ar1 (gat rfl) fun K hK => ?_
             have dl := (X19z.out.cell 1 rfl).1
             go_simp
             refine hK.out _ _ trivial (fun _ => ?_)
             clear hK K dl
             try simp only [Act.put, pu]
             as_aux_lemma =>
             refine wpAnyH_ready (rs := [5]) (by kernel_rfl) (by simp) ?_
             refine ar1 (gat rfl) fun K hK => ?_
             rw [if_pos (by rfl)]
             refine wp_append_own _ (.tmp 40) (.tmp 43) 23 rfl D 47 i0 _ 9 104 Tryz.underlying23 hi0 hz0 hz1 hz2 rfl (by decide) _ _ _ rfl O19z.out ⟨z17.heap.size, 0, none⟩ 1 1 [.int .i64 y0, .int .u64 y1, .string y2, .string y3, .int .i64 y4, .string y5, .int .u64 y6, .int .i64 y7, .string y8] rfl rfl N19z.out (one9 rfl rfl rfl rfl rfl rfl rfl rfl rfl) (by unfold maxLen; omega) (by omega) hb19 ?_
             intro v3 w3 hown3 hgrow3 _hn
             rw [← HW.out] at hown3
             have hb3 : D ≤ w3.heap.size := Nat.le_trans hb19 hgrow3.size
             have X3 := Lib.hid (RX.grown X19z.out hgrow3 (fun j hj => (World.ownsRow.lt O19z.out j hj).1) hmB hmB2 hmB3 hmB4)
             obtain ⟨jg, hjg, cg⟩ := ch_of_grown hgrow3 (fun j hj => (World.ownsRow.lt O19z.out j hj).1)
             have I3 := Lib.hid (I19z.out.ch cg (fun x hx => by have := hIl.out x hx; omega))
             clear cg hjg jg I19z
             obtain ⟨g3, cap3, rfl, o3⟩ := OR.next hown3
             have O3 := Lib.hid o3
             clear hgrow3 _hn hown3 o3 X19z O19z N19z
             refine hK.out _ _ trivial (fun _ => ?_)
             clear hK K
             try simp only [Act.put, pu]
             refine wpAnyH_ready (rs := [6]) (by kernel_rfl) (by simp) ?_
             refine ar1 (gat rfl) fun K hK => ?_
             go_simp
             refine hK.out _ _ trivial (fun _ => ?_)
             clear hK K
             try simp only [Act.put, pu]
             obtain ⟨d3, f3⟩ := X3.out.cell 1 rfl
             refine wpAnyH_ready (rs := [7]) (by kernel_rfl) (by simp) ?_
             refine ar1 (gat rfl) fun K hK => ?_
             go_simp
             refine hK.out _ _ trivial (fun _ => ?_)
             clear hK K
             try simp only [Act.put, pu]
             clear d3 f3
             have X4 := Lib.hid (X3.out.set 1 (.slice (some ⟨g3, 0, none⟩) (k + 1) cap3))
             have O4 := Lib.hid (O3.out.low (Ch.set w3 gb 1 (.slice (some ⟨g3, 0, none⟩) (k + 1) cap3)) hmB)
             have I4 := Lib.hid (I3.out.low (Ch.set w3 gb 1 (.slice (some ⟨g3, 0, none⟩) (k + 1) cap3)) hlB)
             clear I3
             have hb4 : D ≤ (w3.setCell ⟨gb, 1, none⟩ (.slice (some ⟨g3, 0, none⟩) (k + 1) cap3)).heap.size := by simpa using hb3
             clear X3 O3 hb3
             refine wpAnyH_done (by kernel_rfl) ?_ _
             go_wp2_with fail
             go_roundw
             case rel => exact ⟨k + 1, _, cap3, by omega, by go_num, hb4, X4, O4, I4⟩
             case measure => simp [intOf]; omega
       · obtain rfl : k = coM c := by omega
         have td : decide (coM c < cn (coQ c (coN c))) = false := by simp [coM]
         have td2 : decide ((coM c : Int) < (cn (coQ c (coN c)) : Int)) = false := by simp [coM]
         clear hlt k0 hb HDE
         as_aux_lemma =>
         go_wp2_with fail
         refine (X.out.rs.end_l hE.out.symm).mono ?_
         rintro r _ ⟨rfl, rfl⟩
         by_cases he : coE c = 0
         rotate_left
         · have E1 : Hid (¬ coE c = 0) := he
           have t1 : (coE c == 0) = false := by simpa using he
           have t2 : (coE c != 0) = true := by simpa using he
           clear O OI he
           go_wp2_with (with_reducible (show wpList _ _ _ (⟨_, Op.build 29 _, _, _, _, _⟩ :: _) _ _); refine halt ?_)
           refine Lib.hid (wpl_tzero rfl rfl _ rfl ?_)
           go_wp2_with (with_reducible (show wpList _ _ _ (⟨_, Op.store 29 _ _, _, _, _, _⟩ :: _) _ _); refine halt ?_)
           refine Lib.hid (st_box rfl 29 _ _ rfl W.heap.size _ [.slice none 0 0, .slice none 0 0, .int .u64 0, .string ⟨#[]⟩, .string ⟨#[]⟩, .slice none 0 0] rfl rfl X.out.br rfl (by kernel_rfl) (one6 rfl rfl rfl rfl rfl rfl) ?_)
           intro w9 B9 c9
           have HL : Hid ((loadVar 29 ⟨W.heap.size, 0, none⟩).run Tryz.prog w9 = .ok (.agg #[.slice none 0 0, .slice none 0 0, .int .u64 0, .string ⟨#[]⟩, .string ⟨#[]⟩, .slice none 0 0]) w9) := B9.load _ Tryz.underlying29 rfl (by kernel_rfl)
           have Q9 : Hid (Q W w9) := (X.out.rs.box c9 X.out.l1 X.out.n1).ch.q (Q.refl W) l3
           clear B9 c9
           go_wp2_with fail
           (try simp only [Exit.inBlock, Exit.then])
           refine bodyPost_ret (results_cell_tmp rfl rfl HL.out) rfl ?_
           exact ⟨none, 0, none, 0, W.heap.size, TX.zero, by rw [if_neg E1.out], by rfl, Nat.le_refl _, OR.nil _ _ _ _ _ _, SL.nil rfl, (fun x y h => by cases h), (fun y h => by cases h), Q9.out⟩
         have t1 : (coE c == 0) = true := by simpa using he
         have t2 : (coE c != 0) = false := by simpa using he
         have SB : Hid (∀ x y, a = some x → ao = some y → x.block ≠ y.block) := fun x y hx hy => by
          have := hIl.out x hx
          rcases O.out.shape with ⟨h1, _⟩ | ⟨z, h1, h2, h3, _⟩
          · rw [h1] at hy; cases hy
          · rw [h1] at hy; injection hy with hy; subst hy; show x.block ≠ z; omega
         have SO : Hid (∀ x, ao = some x → x.block ≠ W.heap.size) := fun x hx => by
          rcases O.out.shape with ⟨h1, _⟩ | ⟨z, h1, h2, h3, _⟩
          · rw [h1] at hx; cases hx
          · rw [h1] at hx; injection hx with hx; subst hx; show z ≠ _; omega
         have SD : Hid (∀ y, ao = some y → W.heap.size ≤ y.block ∧ y.block < wr.heap.size) := fun y hy => by
          rcases O.out.shape with ⟨h1, _⟩ | ⟨z, h1, h2, h3, _⟩
          · rw [h1] at hy; cases hy
          · rw [h1] at hy; injection hy with hy; subst hy; exact ⟨by show _ ≤ z; omega, h3⟩
         go_wp2_with (with_reducible (show wpList _ _ _ (⟨_, Op.load 29 _, _, _, _, _⟩ :: _) _ _); refine halt ?_)
         refine Lib.hid (ld_box rfl 29 _ rfl gb _ rfl X.out.bb Tryz.underlying29 rfl (by kernel_rfl) ?_)
         refine st_box rfl 29 _ _ rfl W.heap.size _ [.slice a (coN c) cap, .slice ao (coM c) co, .int .u64 0, .string ⟨#[]⟩, .string ⟨#[]⟩, .slice none 0 0] rfl rfl X.out.br rfl (by kernel_rfl) (one6 rfl rfl rfl rfl rfl rfl) ?_
         intro w9 B9 c9
         have HL : Hid ((loadVar 29 ⟨W.heap.size, 0, none⟩).run Tryz.prog w9 = .ok (.agg #[.slice a (coN c) cap, .slice ao (coM c) co, .int .u64 0, .string ⟨#[]⟩, .string ⟨#[]⟩, .slice none 0 0]) w9) := B9.load _ Tryz.underlying29 rfl (by kernel_rfl)
         have Q9 : Hid (Q W w9) := (X.out.rs.box c9 X.out.l1 X.out.n1).ch.q (Q.refl W) l3
         have D9 : Hid (∀ y, ao = some y → W.heap.size ≤ y.block ∧ y.block < w9.heap.size) := fun y hy => ⟨(SD.out y hy).1, Nat.lt_of_lt_of_le (SD.out y hy).2 c9.size⟩
         have I9 := Lib.hid (OI.out.low c9 hlB3)
         have S9 := Lib.hid ((O.out.sl out_len).ch c9 SO.out)
         clear B9 c9 X O OI
         go_wp2_with fail
         (try simp only [Exit.inBlock, Exit.then])
         refine bodyPost_ret (results_cell_tmp rfl rfl HL.out) rfl ?_
         exact ⟨a, cap, ao, co, B, coX IntKind.i64.wrap c, by rw [if_pos he], by rw [he]; rfl, hlB4, I9.out, S9.out, SB.out, D9.out, Q9.out⟩
 · have hp : Hid ((PS.mk c 0).byt.fl 4 = coP0 c) := by show _ = _; unfold coP0; rw [if_neg h67]
   have t0 : ((PS.mk c 0).byV == 67) = false := by simpa using h67
   have t0' : ((PS.mk c 0).byV != 67) = true := by simpa using h67
   clear h67
   go_wp2_with fail
   refine (H2.out.up.fail_l hp.out).mono ?_
   rintro r w3 ⟨rfl, h⟩
   have B3 := Lib.hid (B2.out.ch h.ch n1.symm)
   have H3 := Lib.hid (H2.out.over h)
   clear h H2 B2
   go_wp2_with fail
   have G3 := H3.out.lt
   have G4 := B3.out.lt
   have G5 := H3.out.ch.size
   have X5 : Hid (RX W g W.heap.size [.slice none 0 0, .slice none 0 0, .int .u64 0, .string ⟨#[]⟩, .string ⟨#[]⟩, .slice none 0 0] w3.heap.size [.slice none 0 0, .slice none 0 0, .int .u64 0, .string ⟨#[]⟩, .string ⟨#[]⟩, .slice none 0 0] (coP0 c) (w3.alloc (.cells #[.slice none 0 0, .slice none 0 0, .int .u64 0, .string ⟨#[]⟩, .string ⟨#[]⟩, .slice none 0 0] 29))) := ⟨H3.out.q ((Q.refl w3).alloc _), B3.out.q ((Q.refl w3).alloc _), Box.new w3 _ _, n1, by omega, by omega, l1, G5⟩
   generalize w3.alloc (.cells #[.slice none 0 0, .slice none 0 0, .int .u64 0, .string ⟨#[]⟩, .string ⟨#[]⟩, .slice none 0 0] 29) = w5 at *
   generalize w3.heap.size = gb at *
   clear H3 B3 G3 G4 G5
   refine (rcount_l X5.out.rs.up).mono ?_
   rintro r w6 ⟨rfl, h⟩
   have X6 := Lib.hid (X5.out.go h)
   clear h X5
   have hN : (cn (coP0 c) : Int) = (coN c : Int) := rfl
   have hK4 := coN_le c
   go_wp2_with fail
   have X7 : Hid (RX W g W.heap.size [.slice none 0 0, .slice none 0 0, .int .u64 0, .string ⟨#[]⟩, .string ⟨#[]⟩, .slice none 0 0] gb [.slice none 0 0, .slice none 0 0, .int .u64 0, .string ⟨#[]⟩, .string ⟨#[]⟩, .slice none 0 0] (coQ c 0) w6) := X6.out
   have hlB := X6.out.bb.lt
   have hlB2 := X6.out.rs.lt
   have hlB3 := X6.out.br.lt
   have hlB4 := X6.out.rs.ch.size
   have O7 := Lib.hid (OR.nil 53 IN.cells 4 w6 w6.heap.size (fun i => rdI (coQ c i)))
   clear X6
   obtain ⟨B, hB⟩ : ∃ n, w6.heap.size = n := ⟨_, rfl⟩
   rw [hB] at hlB hlB2 hlB3 hlB4 O7
   have HBE := Lib.hid (Nat.le_of_eq hB.symm)
   clear hB
   go_loopw [19] (fun i wr => ∃ (k : Nat) (a : Option Addr) (cap : Nat), k ≤ coN c ∧ i = .int .i64 k ∧ B ≤ wr.heap.size ∧ Hid (RX W g W.heap.size [.slice none 0 0, .slice none 0 0, .int .u64 0, .string ⟨#[]⟩, .string ⟨#[]⟩, .slice none 0 0] gb [.slice a k cap, .slice none 0 0, .int .u64 0, .string ⟨#[]⟩, .string ⟨#[]⟩, .slice none 0 0] (coQ c k) wr) ∧ Hid (OR 53 IN.cells 4 wr B a k cap (fun i => rdI (coQ c i)))) (fun i _ => coN c - (intOf i).toNat)
   case atStart => exact ⟨0, none, 0, by omega, rfl, HBE.out, X7, O7⟩
   case round =>
    obtain ⟨k, a, cap, hk, rfl, hb, X, O⟩ := hrel
    clear X7 O7
    have k0 : (0 : Int) ≤ (k : Int) := by omega
    by_cases hlt : k < coN c
    · have k1 : (k : Int) < (cn (coP0 c) : Int) := by rw [hN]; omega
      obtain ⟨p0, hp0⟩ : ∃ v, coQ c k = v := ⟨_, rfl⟩
      obtain ⟨y0, b0⟩ : ∃ v, p0.haV = v := ⟨_, rfl⟩
      obtain ⟨p1, a0⟩ : ∃ v, p0.has = v := ⟨_, rfl⟩
      obtain ⟨y1, b1⟩ : ∃ v, p1.byV = v := ⟨_, rfl⟩
      obtain ⟨p2, a1⟩ : ∃ v, p1.byt = v := ⟨_, rfl⟩
      obtain ⟨y2, b2⟩ : ∃ v, p2.byV = v := ⟨_, rfl⟩
      obtain ⟨p3, a2⟩ : ∃ v, p2.byt = v := ⟨_, rfl⟩
      have HW : Hid ((rdI (coQ c k)).cells = [.string y0, .int .i64 y1, .int .i64 y2, .string ⟨#[]⟩]) := by show _ = _; rw [hp0]; unfold rdI IN.cells; rw [b0, a0, b1, a1, b2]
      have HS : Hid (p3 = coQ c (k + 1)) := by show _ = stI (coQ c k); rw [hp0]; unfold stI; rw [a0, a1, a2]
      rw [hp0] at X
      clear hp0
      have XD := Lib.hid (X.out.q (Q.refl _).drew)
      have OD := Lib.hid (O.out.q (Q.refl _).drew)
      have hbD : B ≤ wr.drew.heap.size := hb
      clear X O
      go_wp2_with fail
      as_aux_lemma =>
      obtain ⟨i0, hi0, hz0, hz1, hz2⟩ := info_of info_in
      refine wp_region_held_drew (S := fun _ => True) (by kernel_rfl) trivial (fun hHeld => ?_)
      refine wtk (i := 0) (v := ?_) (gat rfl) (by kernel_rfl) (by exact fun _ _ _ h => h) (Or.inl ⟨by rfl, ?_⟩) (by assumption) ?_
      rotate_left
      · (intro wx hSw; (try dsimp only at hSw); go_simp; (try rw [if_neg (by omega)]); try (with_reducible rfl))
      try simp only [Act.put, pu]
      refine wtk (i := 2) (v := ?_) (gat rfl) (by kernel_rfl) (by exact fun _ _ _ h => h) (Or.inl ⟨by rfl, ?_⟩) (by assumption) ?_
      rotate_left
      · (intro wx hSw; (try dsimp only at hSw); go_simp; (try rw [if_neg (by omega)]); try (with_reducible rfl))
      try simp only [Act.put, pu]
      refine wtk (i := 4) (v := ?_) (gat rfl) (by kernel_rfl) (by exact fun _ _ _ h => h) (Or.inl ⟨by rfl, ?_⟩) (by assumption) ?_
      rotate_left
      · (intro wx hSw; (try dsimp only at hSw); go_simp; (try rw [if_neg (by omega)]); try (with_reducible rfl))
      try simp only [Act.put, pu]
      refine wtk (i := 7) (v := ?_) (gat rfl) (by kernel_rfl) (by exact fun _ _ _ h => h) (Or.inl ⟨by rfl, ?_⟩) (by assumption) ?_
      rotate_left
      · (intro wx hSw; (try dsimp only at hSw); go_simp; (try rw [if_neg (by omega)]); try (with_reducible rfl))
      try simp only [Act.put, pu]
      refine wpAnyH_ready (rs := [1, 3]) (by kernel_rfl) (by simp) ?_
      refine AllReadyH.cons (gat rfl) (fun K hK => ?_) (ar1 (gat rfl) fun K hK => ?_)
      · as_aux_lemma =>
        have dl := (XD.out.cell 0 rfl).1
        go_simp
        refine hK.out _ _ trivial (fun _ => ?_)
        clear hK K dl
        try simp only [Act.put, pu]
        refine wpAnyH_ready (rs := [3]) (by kernel_rfl) (by simp) ?_
        refine ar1 (gat rfl) fun K hK => ?_
        go_simp
        refine (XD.out.rs.up.hash_l b0 a0).mono ?_
        rintro r z1 ⟨rfl, h⟩
        have X1z := Lib.hid (XD.out.go h)
        have O1z := Lib.hid (OD.out.low h.ch hlB2)
        have hb1 : B ≤ z1.heap.size := Nat.le_trans hbD h.ch.size
        clear h XD OD
        dsimp only
        refine hK.out _ _ trivial (fun _ => ?_)
        clear hK K
        try simp only [Act.put, pu]
        refine wpAnyH_ready (rs := [5]) (by kernel_rfl) (by simp) ?_
        refine ar1 (gat rfl) fun K hK => ?_
        go_simp
        refine (X1z.out.rs.up.byte_l b1 a1).mono ?_
        rintro r z2 ⟨rfl, h⟩
        have X2z := Lib.hid (X1z.out.go h)
        have O2z := Lib.hid (O1z.out.low h.ch hlB2)
        have hb2 : B ≤ z2.heap.size := Nat.le_trans hb1 h.ch.size
        clear h X1z O1z
        dsimp only
        refine hK.out _ _ trivial (fun _ => ?_)
        clear hK K
        try simp only [Act.put, pu]
        refine wtk (i := 6) (v := .agg #[.string y0, .int .i64 y1]) (gat rfl) (by kernel_rfl) (by exact fun _ _ _ h => h) (yields_build _ _ _ rfl (by rfl) (by simp only [List.map_toArray, List.map_cons, List.map_nil]; exact built_point y0 y1)) (by assumption) ?_
        try simp only [Act.put, pu]
        refine wpAnyH_ready (rs := [8]) (by kernel_rfl) (by simp) ?_
        refine ar1 (gat rfl) fun K hK => ?_
        go_simp
        refine (X2z.out.rs.up.byte_l b2 a2).mono ?_
        rintro r z3 ⟨rfl, h⟩
        have X3z := Lib.hid (X2z.out.go h)
        have O3z := Lib.hid (O2z.out.low h.ch hlB2)
        have hb3 : B ≤ z3.heap.size := Nat.le_trans hb2 h.ch.size
        clear h X2z O2z
        dsimp only
        refine hK.out _ _ trivial (fun _ => ?_)
        clear hK K
        try simp only [Act.put, pu]
        refine wtk (i := 9) (v := .agg #[.string y0, .int .i64 y1, .int .i64 y2, .string ⟨#[]⟩]) (gat rfl) (by kernel_rfl) (by exact fun _ _ _ h => h) (yields_build _ _ _ rfl (by rfl) (by simp only [List.map_toArray, List.map_cons, List.map_nil]; exact built_in y0 y1 y2)) (by assumption) ?_
        try simp only [Act.put, pu]
        refine wpAnyH_ready (rs := [10]) (by kernel_rfl) (by simp) ?_
        refine ar1 (gat rfl) fun K hK => ?_
        rw [if_pos (by rfl)]
        refine wpo_rowin y0 y1 y2 rfl rfl ?_
        have X4z := Lib.hid (X3z.out.q ((Q.refl z3).alloc (.cells #[.string y0, .int .i64 y1, .int .i64 y2, .string ⟨#[]⟩] 53)))
        have O4z := Lib.hid (O3z.out.q ((Q.refl z3).alloc (.cells #[.string y0, .int .i64 y1, .int .i64 y2, .string ⟨#[]⟩] 53)))
        have N4z := Lib.hid (rowNI z3 y0 y1 y2)
        have hb4 : B ≤ (z3.alloc (.cells #[.string y0, .int .i64 y1, .int .i64 y2, .string ⟨#[]⟩] 53)).heap.size := Nat.le_trans hb3 (by simp)
        clear X3z O3z
        refine hK.out _ _ trivial (fun _ => ?_)
        clear hK K
        try simp only [Act.put, pu]
        as_aux_lemma =>
        refine wpAnyH_ready (rs := [11]) (by kernel_rfl) (by simp) ?_
        refine ar1 (gat rfl) fun K hK => ?_
        rw [if_pos (by rfl)]
        refine wp_append_own _ (.tmp 22) (.tmp 31) 22 rfl B 53 i0 _ 4 48 Tryz.underlying22 hi0 hz0 hz1 hz2 rfl (by decide) _ _ _ rfl O4z.out ⟨z3.heap.size, 0, none⟩ 1 1 [.string y0, .int .i64 y1, .int .i64 y2, .string ⟨#[]⟩] rfl rfl N4z.out (by intro v hv; simp at hv; rcases hv with rfl | rfl | rfl | rfl <;> rfl) (by unfold maxLen; omega) (by omega) hb4 ?_
        intro v3 w3 hown3 hgrow3 _hn
        rw [← HW.out] at hown3
        have hb3 : B ≤ w3.heap.size := Nat.le_trans hb4 hgrow3.size
        have X3 := Lib.hid (RX.grown X4z.out hgrow3 (fun j hj => (World.ownsRow.lt O4z.out j hj).1) hlB hlB2 hlB3 hlB4)
        obtain ⟨g3, cap3, rfl, o3⟩ := OR.next hown3
        have O3 := Lib.hid o3
        clear hgrow3 _hn hown3 o3 X4z O4z N4z
        refine hK.out _ _ trivial (fun _ => ?_)
        clear hK K
        try simp only [Act.put, pu]
        refine wpAnyH_ready (rs := [12]) (by kernel_rfl) (by simp) ?_
        refine ar1 (gat rfl) fun K hK => ?_
        go_simp
        refine hK.out _ _ trivial (fun _ => ?_)
        clear hK K
        try simp only [Act.put, pu]
        obtain ⟨d3, f3⟩ := X3.out.cell 0 rfl
        refine wpAnyH_ready (rs := [13]) (by kernel_rfl) (by simp) ?_
        refine ar1 (gat rfl) fun K hK => ?_
        go_simp
        refine hK.out _ _ trivial (fun _ => ?_)
        clear hK K
        try simp only [Act.put, pu]
        clear d3 f3
        have X4 := Lib.hid (X3.out.set 0 (.slice (some ⟨g3, 0, none⟩) (k + 1) cap3))
        have O4 := Lib.hid (O3.out.low (Ch.set w3 gb 0 (.slice (some ⟨g3, 0, none⟩) (k + 1) cap3)) hlB)
        have hb4 : B ≤ (w3.setCell ⟨gb, 0, none⟩ (.slice (some ⟨g3, 0, none⟩) (k + 1) cap3)).heap.size := by simpa using hb3
        clear X3 O3 hb3
        rw [HS.out] at X4
        refine wpAnyH_done (by kernel_rfl) ?_ _
        go_wp2_with fail
        go_roundw
        case rel => exact ⟨k + 1, _, cap3, by omega, by go_num, hb4, X4, O4⟩
        case measure => simp [intOf]; omega
      · as_aux_lemma =>
        go_simp
        refine (XD.out.rs.up.hash_l b0 a0).mono ?_
        rintro r z5 ⟨rfl, h⟩
        have X5z := Lib.hid (XD.out.go h)
        have O5z := Lib.hid (OD.out.low h.ch hlB2)
        have hb5 : B ≤ z5.heap.size := Nat.le_trans hbD h.ch.size
        clear h XD OD
        dsimp only
        refine hK.out _ _ trivial (fun _ => ?_)
        clear hK K
        try simp only [Act.put, pu]
        refine wpAnyH_ready (rs := [1, 5]) (by kernel_rfl) (by simp) ?_
        refine AllReadyH.cons (gat rfl) (fun K hK => ?_) (ar1 (gat rfl) fun K hK => ?_)
        · as_aux_lemma =>
          have dl := (X5z.out.cell 0 rfl).1
          go_simp
          refine hK.out _ _ trivial (fun _ => ?_)
          clear hK K dl
          try simp only [Act.put, pu]
          refine wpAnyH_ready (rs := [5]) (by kernel_rfl) (by simp) ?_
          refine ar1 (gat rfl) fun K hK => ?_
          go_simp
          refine (X5z.out.rs.up.byte_l b1 a1).mono ?_
          rintro r z6 ⟨rfl, h⟩
          have X6z := Lib.hid (X5z.out.go h)
          have O6z := Lib.hid (O5z.out.low h.ch hlB2)
          have hb6 : B ≤ z6.heap.size := Nat.le_trans hb5 h.ch.size
          clear h X5z O5z
          dsimp only
          refine hK.out _ _ trivial (fun _ => ?_)
          clear hK K
          try simp only [Act.put, pu]
          refine wtk (i := 6) (v := .agg #[.string y0, .int .i64 y1]) (gat rfl) (by kernel_rfl) (by exact fun _ _ _ h => h) (yields_build _ _ _ rfl (by rfl) (by simp only [List.map_toArray, List.map_cons, List.map_nil]; exact built_point y0 y1)) (by assumption) ?_
          try simp only [Act.put, pu]
          refine wpAnyH_ready (rs := [8]) (by kernel_rfl) (by simp) ?_
          refine ar1 (gat rfl) fun K hK => ?_
          go_simp
          refine (X6z.out.rs.up.byte_l b2 a2).mono ?_
          rintro r z7 ⟨rfl, h⟩
          have X7z := Lib.hid (X6z.out.go h)
          have O7z := Lib.hid (O6z.out.low h.ch hlB2)
          have hb7 : B ≤ z7.heap.size := Nat.le_trans hb6 h.ch.size
          clear h X6z O6z
          dsimp only
          refine hK.out _ _ trivial (fun _ => ?_)
          clear hK K
          try simp only [Act.put, pu]
          refine wtk (i := 9) (v := .agg #[.string y0, .int .i64 y1, .int .i64 y2, .string ⟨#[]⟩]) (gat rfl) (by kernel_rfl) (by exact fun _ _ _ h => h) (yields_build _ _ _ rfl (by rfl) (by simp only [List.map_toArray, List.map_cons, List.map_nil]; exact built_in y0 y1 y2)) (by assumption) ?_
          try simp only [Act.put, pu]
          refine wpAnyH_ready (rs := [10]) (by kernel_rfl) (by simp) ?_
          refine ar1 (gat rfl) fun K hK => ?_
          rw [if_pos (by rfl)]
          refine wpo_rowin y0 y1 y2 rfl rfl ?_
          have X8z := Lib.hid (X7z.out.q ((Q.refl z7).alloc (.cells #[.string y0, .int .i64 y1, .int .i64 y2, .string ⟨#[]⟩] 53)))
          have O8z := Lib.hid (O7z.out.q ((Q.refl z7).alloc (.cells #[.string y0, .int .i64 y1, .int .i64 y2, .string ⟨#[]⟩] 53)))
          have N8z := Lib.hid (rowNI z7 y0 y1 y2)
          have hb8 : B ≤ (z7.alloc (.cells #[.string y0, .int .i64 y1, .int .i64 y2, .string ⟨#[]⟩] 53)).heap.size := Nat.le_trans hb7 (by simp)
          clear X7z O7z
          refine hK.out _ _ trivial (fun _ => ?_)
          clear hK K
          try simp only [Act.put, pu]
          as_aux_lemma =>
          refine wpAnyH_ready (rs := [11]) (by kernel_rfl) (by simp) ?_
          refine ar1 (gat rfl) fun K hK => ?_
          rw [if_pos (by rfl)]
          refine wp_append_own _ (.tmp 22) (.tmp 31) 22 rfl B 53 i0 _ 4 48 Tryz.underlying22 hi0 hz0 hz1 hz2 rfl (by decide) _ _ _ rfl O8z.out ⟨z7.heap.size, 0, none⟩ 1 1 [.string y0, .int .i64 y1, .int .i64 y2, .string ⟨#[]⟩] rfl rfl N8z.out (by intro v hv; simp at hv; rcases hv with rfl | rfl | rfl | rfl <;> rfl) (by unfold maxLen; omega) (by omega) hb8 ?_
          intro v3 w3 hown3 hgrow3 _hn
          rw [← HW.out] at hown3
          have hb3 : B ≤ w3.heap.size := Nat.le_trans hb8 hgrow3.size
          have X3 := Lib.hid (RX.grown X8z.out hgrow3 (fun j hj => (World.ownsRow.lt O8z.out j hj).1) hlB hlB2 hlB3 hlB4)
          obtain ⟨g3, cap3, rfl, o3⟩ := OR.next hown3
          have O3 := Lib.hid o3
          clear hgrow3 _hn hown3 o3 X8z O8z N8z
          refine hK.out _ _ trivial (fun _ => ?_)
          clear hK K
          try simp only [Act.put, pu]
          refine wpAnyH_ready (rs := [12]) (by kernel_rfl) (by simp) ?_
          refine ar1 (gat rfl) fun K hK => ?_
          go_simp
          refine hK.out _ _ trivial (fun _ => ?_)
          clear hK K
          try simp only [Act.put, pu]
          obtain ⟨d3, f3⟩ := X3.out.cell 0 rfl
          refine wpAnyH_ready (rs := [13]) (by kernel_rfl) (by simp) ?_
          refine ar1 (gat rfl) fun K hK => ?_
          go_simp
          refine hK.out _ _ trivial (fun _ => ?_)
          clear hK K
          try simp only [Act.put, pu]
          clear d3 f3
          have X4 := Lib.hid (X3.out.set 0 (.slice (some ⟨g3, 0, none⟩) (k + 1) cap3))
          have O4 := Lib.hid (O3.out.low (Ch.set w3 gb 0 (.slice (some ⟨g3, 0, none⟩) (k + 1) cap3)) hlB)
          have hb4 : B ≤ (w3.setCell ⟨gb, 0, none⟩ (.slice (some ⟨g3, 0, none⟩) (k + 1) cap3)).heap.size := by simpa using hb3
          clear X3 O3 hb3
          rw [HS.out] at X4
          refine wpAnyH_done (by kernel_rfl) ?_ _
          go_wp2_with fail
          go_roundw
          case rel => exact ⟨k + 1, _, cap3, by omega, by go_num, hb4, X4, O4⟩
          case measure => simp [intOf]; omega
        · as_aux_lemma =>
          go_simp
          refine (X5z.out.rs.up.byte_l b1 a1).mono ?_
          rintro r z9 ⟨rfl, h⟩
          have X9z := Lib.hid (X5z.out.go h)
          have O9z := Lib.hid (O5z.out.low h.ch hlB2)
          have hb9 : B ≤ z9.heap.size := Nat.le_trans hb5 h.ch.size
          clear h X5z O5z
          dsimp only
          refine hK.out _ _ trivial (fun _ => ?_)
          clear hK K
          try simp only [Act.put, pu]
          refine wtk (i := 6) (v := .agg #[.string y0, .int .i64 y1]) (gat rfl) (by kernel_rfl) (by exact fun _ _ _ h => h) (yields_build _ _ _ rfl (by rfl) (by simp only [List.map_toArray, List.map_cons, List.map_nil]; exact built_point y0 y1)) (by assumption) ?_
          try simp only [Act.put, pu]
          refine wpAnyH_ready (rs := [1, 8]) (by kernel_rfl) (by simp) ?_
          refine AllReadyH.cons (gat rfl) (fun K hK => ?_) (ar1 (gat rfl) fun K hK => ?_)
          · as_aux_lemma =>
            have dl := (X9z.out.cell 0 rfl).1
            go_simp
            refine hK.out _ _ trivial (fun _ => ?_)
            clear hK K dl
            try simp only [Act.put, pu]
            refine wpAnyH_ready (rs := [8]) (by kernel_rfl) (by simp) ?_
            refine ar1 (gat rfl) fun K hK => ?_
            go_simp
            refine (X9z.out.rs.up.byte_l b2 a2).mono ?_
            rintro r z10 ⟨rfl, h⟩
            have X10z := Lib.hid (X9z.out.go h)
            have O10z := Lib.hid (O9z.out.low h.ch hlB2)
            have hb10 : B ≤ z10.heap.size := Nat.le_trans hb9 h.ch.size
            clear h X9z O9z
            dsimp only
            refine hK.out _ _ trivial (fun _ => ?_)
            clear hK K
            try simp only [Act.put, pu]
            refine wtk (i := 9) (v := .agg #[.string y0, .int .i64 y1, .int .i64 y2, .string ⟨#[]⟩]) (gat rfl) (by kernel_rfl) (by exact fun _ _ _ h => h) (yields_build _ _ _ rfl (by rfl) (by simp only [List.map_toArray, List.map_cons, List.map_nil]; exact built_in y0 y1 y2)) (by assumption) ?_
            try simp only [Act.put, pu]
            refine wpAnyH_ready (rs := [10]) (by kernel_rfl) (by simp) ?_
            refine ar1 (gat rfl) fun K hK => ?_
            rw [if_pos (by rfl)]
            refine wpo_rowin y0 y1 y2 rfl rfl ?_
            have X11z := Lib.hid (X10z.out.q ((Q.refl z10).alloc (.cells #[.string y0, .int .i64 y1, .int .i64 y2, .string ⟨#[]⟩] 53)))
            have O11z := Lib.hid (O10z.out.q ((Q.refl z10).alloc (.cells #[.string y0, .int .i64 y1, .int .i64 y2, .string ⟨#[]⟩] 53)))
            have N11z := Lib.hid (rowNI z10 y0 y1 y2)
            have hb11 : B ≤ (z10.alloc (.cells #[.string y0, .int .i64 y1, .int .i64 y2, .string ⟨#[]⟩] 53)).heap.size := Nat.le_trans hb10 (by simp)
            clear X10z O10z
            refine hK.out _ _ trivial (fun _ => ?_)
            clear hK K
            try simp only [Act.put, pu]
            as_aux_lemma =>
            refine wpAnyH_ready (rs := [11]) (by kernel_rfl) (by simp) ?_
            refine ar1 (gat rfl) fun K hK => ?_
            rw [if_pos (by rfl)]
            refine wp_append_own _ (.tmp 22) (.tmp 31) 22 rfl B 53 i0 _ 4 48 Tryz.underlying22 hi0 hz0 hz1 hz2 rfl (by decide) _ _ _ rfl O11z.out ⟨z10.heap.size, 0, none⟩ 1 1 [.string y0, .int .i64 y1, .int .i64 y2, .string ⟨#[]⟩] rfl rfl N11z.out (by intro v hv; simp at hv; rcases hv with rfl | rfl | rfl | rfl <;> rfl) (by unfold maxLen; omega) (by omega) hb11 ?_
            intro v3 w3 hown3 hgrow3 _hn
            rw [← HW.out] at hown3
            have hb3 : B ≤ w3.heap.size := Nat.le_trans hb11 hgrow3.size
            have X3 := Lib.hid (RX.grown X11z.out hgrow3 (fun j hj => (World.ownsRow.lt O11z.out j hj).1) hlB hlB2 hlB3 hlB4)
            obtain ⟨g3, cap3, rfl, o3⟩ := OR.next hown3
            have O3 := Lib.hid o3
            clear hgrow3 _hn hown3 o3 X11z O11z N11z
            refine hK.out _ _ trivial (fun _ => ?_)
            clear hK K
            try simp only [Act.put, pu]
            refine wpAnyH_ready (rs := [12]) (by kernel_rfl) (by simp) ?_
            refine ar1 (gat rfl) fun K hK => ?_
            go_simp
            refine hK.out _ _ trivial (fun _ => ?_)
            clear hK K
            try simp only [Act.put, pu]
            obtain ⟨d3, f3⟩ := X3.out.cell 0 rfl
            refine wpAnyH_ready (rs := [13]) (by kernel_rfl) (by simp) ?_
            refine ar1 (gat rfl) fun K hK => ?_
            go_simp
            refine hK.out _ _ trivial (fun _ => ?_)
            clear hK K
            try simp only [Act.put, pu]
            clear d3 f3
            have X4 := Lib.hid (X3.out.set 0 (.slice (some ⟨g3, 0, none⟩) (k + 1) cap3))
            have O4 := Lib.hid (O3.out.low (Ch.set w3 gb 0 (.slice (some ⟨g3, 0, none⟩) (k + 1) cap3)) hlB)
            have hb4 : B ≤ (w3.setCell ⟨gb, 0, none⟩ (.slice (some ⟨g3, 0, none⟩) (k + 1) cap3)).heap.size := by simpa using hb3
            clear X3 O3 hb3
            rw [HS.out] at X4
            refine wpAnyH_done (by kernel_rfl) ?_ _
            go_wp2_with fail
            go_roundw
            case rel => exact ⟨k + 1, _, cap3, by omega, by go_num, hb4, X4, O4⟩
            case measure => simp [intOf]; omega
          · as_aux_lemma =>
            go_simp
            refine (X9z.out.rs.up.byte_l b2 a2).mono ?_
            rintro r z12 ⟨rfl, h⟩
            have X12z := Lib.hid (X9z.out.go h)
            have O12z := Lib.hid (O9z.out.low h.ch hlB2)
            have hb12 : B ≤ z12.heap.size := Nat.le_trans hb9 h.ch.size
            clear h X9z O9z
            dsimp only
            refine hK.out _ _ trivial (fun _ => ?_)
            clear hK K
            try simp only [Act.put, pu]
            refine wtk (i := 9) (v := .agg #[.string y0, .int .i64 y1, .int .i64 y2, .string ⟨#[]⟩]) (gat rfl) (by kernel_rfl) (by exact fun _ _ _ h => h) (yields_build _ _ _ rfl (by rfl) (by simp only [List.map_toArray, List.map_cons, List.map_nil]; exact built_in y0 y1 y2)) (by assumption) ?_
            try simp only [Act.put, pu]
            refine wpAnyH_ready (rs := [1, 10]) (by kernel_rfl) (by simp) ?_
            refine AllReadyH.cons (gat rfl) (fun K hK => ?_) (ar1 (gat rfl) fun K hK => ?_)
            · as_aux_lemma =>
              have dl := (X12z.out.cell 0 rfl).1
              go_simp
              refine hK.out _ _ trivial (fun _ => ?_)
              clear hK K dl
              try simp only [Act.put, pu]
              refine wpAnyH_ready (rs := [10]) (by kernel_rfl) (by simp) ?_
              refine ar1 (gat rfl) fun K hK => ?_
              rw [if_pos (by rfl)]
              refine wpo_rowin y0 y1 y2 rfl rfl ?_
              have X13z := Lib.hid (X12z.out.q ((Q.refl z12).alloc (.cells #[.string y0, .int .i64 y1, .int .i64 y2, .string ⟨#[]⟩] 53)))
              have O13z := Lib.hid (O12z.out.q ((Q.refl z12).alloc (.cells #[.string y0, .int .i64 y1, .int .i64 y2, .string ⟨#[]⟩] 53)))
              have N13z := Lib.hid (rowNI z12 y0 y1 y2)
              have hb13 : B ≤ (z12.alloc (.cells #[.string y0, .int .i64 y1, .int .i64 y2, .string ⟨#[]⟩] 53)).heap.size := Nat.le_trans hb12 (by simp)
              clear X12z O12z
              refine hK.out _ _ trivial (fun _ => ?_)
              clear hK K
              try simp only [Act.put, pu]
              as_aux_lemma =>
              refine wpAnyH_ready (rs := [11]) (by kernel_rfl) (by simp) ?_
              refine ar1 (gat rfl) fun K hK => ?_
              rw [if_pos (by rfl)]
              refine wp_append_own _ (.tmp 22) (.tmp 31) 22 rfl B 53 i0 _ 4 48 Tryz.underlying22 hi0 hz0 hz1 hz2 rfl (by decide) _ _ _ rfl O13z.out ⟨z12.heap.size, 0, none⟩ 1 1 [.string y0, .int .i64 y1, .int .i64 y2, .string ⟨#[]⟩] rfl rfl N13z.out (by intro v hv; simp at hv; rcases hv with rfl | rfl | rfl | rfl <;> rfl) (by unfold maxLen; omega) (by omega) hb13 ?_
              intro v3 w3 hown3 hgrow3 _hn
              rw [← HW.out] at hown3
              have hb3 : B ≤ w3.heap.size := Nat.le_trans hb13 hgrow3.size
              have X3 := Lib.hid (RX.grown X13z.out hgrow3 (fun j hj => (World.ownsRow.lt O13z.out j hj).1) hlB hlB2 hlB3 hlB4)
              obtain ⟨g3, cap3, rfl, o3⟩ := OR.next hown3
              have O3 := Lib.hid o3
              clear hgrow3 _hn hown3 o3 X13z O13z N13z
              refine hK.out _ _ trivial (fun _ => ?_)
              clear hK K
              try simp only [Act.put, pu]
              refine wpAnyH_ready (rs := [12]) (by kernel_rfl) (by simp) ?_
              refine ar1 (gat rfl) fun K hK => ?_
              go_simp
              refine hK.out _ _ trivial (fun _ => ?_)
              clear hK K
              try simp only [Act.put, pu]
              obtain ⟨d3, f3⟩ := X3.out.cell 0 rfl
              refine wpAnyH_ready (rs := [13]) (by kernel_rfl) (by simp) ?_
              refine ar1 (gat rfl) fun K hK => ?_
              go_simp
              refine hK.out _ _ trivial (fun _ => ?_)
              clear hK K
              try simp only [Act.put, pu]
              clear d3 f3
              have X4 := Lib.hid (X3.out.set 0 (.slice (some ⟨g3, 0, none⟩) (k + 1) cap3))
              have O4 := Lib.hid (O3.out.low (Ch.set w3 gb 0 (.slice (some ⟨g3, 0, none⟩) (k + 1) cap3)) hlB)
              have hb4 : B ≤ (w3.setCell ⟨gb, 0, none⟩ (.slice (some ⟨g3, 0, none⟩) (k + 1) cap3)).heap.size := by simpa using hb3
              clear X3 O3 hb3
              rw [HS.out] at X4
              refine wpAnyH_done (by kernel_rfl) ?_ _
              go_wp2_with fail
              go_roundw
              case rel => exact ⟨k + 1, _, cap3, by omega, by go_num, hb4, X4, O4⟩
              case measure => simp [intOf]; omega
            · as_aux_lemma =>
              rw [if_pos (by rfl)]
              refine wpo_rowin y0 y1 y2 rfl rfl ?_
              have X14z := Lib.hid (X12z.out.q ((Q.refl z12).alloc (.cells #[.string y0, .int .i64 y1, .int .i64 y2, .string ⟨#[]⟩] 53)))
              have O14z := Lib.hid (O12z.out.q ((Q.refl z12).alloc (.cells #[.string y0, .int .i64 y1, .int .i64 y2, .string ⟨#[]⟩] 53)))
              have N14z := Lib.hid (rowNI z12 y0 y1 y2)
              have hb14 : B ≤ (z12.alloc (.cells #[.string y0, .int .i64 y1, .int .i64 y2, .string ⟨#[]⟩] 53)).heap.size := Nat.le_trans hb12 (by simp)
              clear X12z O12z
              refine hK.out _ _ trivial (fun _ => ?_)
              clear hK K
              try simp only [Act.put, pu]
              refine wpAnyH_ready (rs := [1]) (by kernel_rfl) (by simp) ?_
              refine ar1 (gat rfl) fun K hK => ?_
              have dl := (X14z.out.cell 0 rfl).1
              go_simp
              refine hK.out _ _ trivial (fun _ => ?_)
              clear hK K dl
              try simp only [Act.put, pu]
              as_aux_lemma =>
              refine wpAnyH_ready (rs := [11]) (by kernel_rfl) (by simp) ?_
              refine ar1 (gat rfl) fun K hK => ?_
              rw [if_pos (by rfl)]
              refine wp_append_own _ (.tmp 22) (.tmp 31) 22 rfl B 53 i0 _ 4 48 Tryz.underlying22 hi0 hz0 hz1 hz2 rfl (by decide) _ _ _ rfl O14z.out ⟨z12.heap.size, 0, none⟩ 1 1 [.string y0, .int .i64 y1, .int .i64 y2, .string ⟨#[]⟩] rfl rfl N14z.out (by intro v hv; simp at hv; rcases hv with rfl | rfl | rfl | rfl <;> rfl) (by unfold maxLen; omega) (by omega) hb14 ?_
              intro v3 w3 hown3 hgrow3 _hn
              rw [← HW.out] at hown3
              have hb3 : B ≤ w3.heap.size := Nat.le_trans hb14 hgrow3.size
              have X3 := Lib.hid (RX.grown X14z.out hgrow3 (fun j hj => (World.ownsRow.lt O14z.out j hj).1) hlB hlB2 hlB3 hlB4)
              obtain ⟨g3, cap3, rfl, o3⟩ := OR.next hown3
              have O3 := Lib.hid o3
              clear hgrow3 _hn hown3 o3 X14z O14z N14z
              refine hK.out _ _ trivial (fun _ => ?_)
              clear hK K
              try simp only [Act.put, pu]
              refine wpAnyH_ready (rs := [12]) (by kernel_rfl) (by simp) ?_
              refine ar1 (gat rfl) fun K hK => ?_
              go_simp
              refine hK.out _ _ trivial (fun _ => ?_)
              clear hK K
              try simp only [Act.put, pu]
              obtain ⟨d3, f3⟩ := X3.out.cell 0 rfl
              refine wpAnyH_ready (rs := [13]) (by kernel_rfl) (by simp) ?_
              refine ar1 (gat rfl) fun K hK => ?_
              go_simp
              refine hK.out _ _ trivial (fun _ => ?_)
              clear hK K
              try simp only [Act.put, pu]
              clear d3 f3
              have X4 := Lib.hid (X3.out.set 0 (.slice (some ⟨g3, 0, none⟩) (k + 1) cap3))
              have O4 := Lib.hid (O3.out.low (Ch.set w3 gb 0 (.slice (some ⟨g3, 0, none⟩) (k + 1) cap3)) hlB)
              have hb4 : B ≤ (w3.setCell ⟨gb, 0, none⟩ (.slice (some ⟨g3, 0, none⟩) (k + 1) cap3)).heap.size := by simpa using hb3
              clear X3 O3 hb3
              rw [HS.out] at X4
              refine wpAnyH_done (by kernel_rfl) ?_ _
              go_wp2_with fail
              go_roundw
              case rel => exact ⟨k + 1, _, cap3, by omega, by go_num, hb4, X4, O4⟩
              case measure => simp [intOf]; omega
    · obtain rfl : k = coN c := by omega
      have td : decide (coN c < cn (coP0 c)) = false := by simp [coN]
      have td2 : decide ((coN c : Int) < (cn (coP0 c) : Int)) = false := by simp [coN]
      clear hlt k0
      as_aux_lemma =>
      go_wp2_with fail
      refine (rcount_l X.out.rs.up).mono ?_
      rintro r w8 ⟨rfl, h⟩
      have X8 := Lib.hid (X.out.go h)
      have OI := Lib.hid (O.out.low h.ch hlB2)
      have hb8 : B ≤ w8.heap.size := Nat.le_trans hb h.ch.size
      clear h X O hb HBE
      have hM : (cn (coQ c (coN c)) : Int) = (coM c : Int) := rfl
      have hM4 := coM_le c
      go_wp2_with fail
      have Y7 : Hid (RX W g W.heap.size [.slice none 0 0, .slice none 0 0, .int .u64 0, .string ⟨#[]⟩, .string ⟨#[]⟩, .slice none 0 0] gb [.slice a (coN c) cap, .slice none 0 0, .int .u64 0, .string ⟨#[]⟩, .string ⟨#[]⟩, .slice none 0 0] (coR c 0) w8) := X8.out
      have hmB := X8.out.bb.lt
      have hmB2 := X8.out.rs.lt
      have hmB3 := X8.out.br.lt
      have hmB4 := X8.out.rs.ch.size
      have hIl : Hid (∀ x, a = some x → x.block < w8.heap.size) := fun x hx => by
       rcases OI.out.shape with ⟨h1, _⟩ | ⟨z, h1, h2, h3, _⟩
       · rw [h1] at hx; cases hx
       · rw [h1] at hx; injection hx with hx; subst hx; exact h3
      have P7 := Lib.hid (OR.nil 47 OU.cells 9 w8 w8.heap.size (fun i => rdO IntKind.i64.wrap (coR c i)))
      clear X8
      obtain ⟨D, hD⟩ : ∃ n, w8.heap.size = n := ⟨_, rfl⟩
      rw [hD] at hmB hmB2 hmB3 hmB4 P7 hIl hb8
      have HDE := Lib.hid (Nat.le_of_eq hD.symm)
      clear hD
      go_loopw [37] (fun i wr => ∃ (k : Nat) (ao : Option Addr) (co : Nat), k ≤ coM c ∧ i = .int .i64 k ∧ D ≤ wr.heap.size ∧ Hid (RX W g W.heap.size [.slice none 0 0, .slice none 0 0, .int .u64 0, .string ⟨#[]⟩, .string ⟨#[]⟩, .slice none 0 0] gb [.slice a (coN c) cap, .slice ao k co, .int .u64 0, .string ⟨#[]⟩, .string ⟨#[]⟩, .slice none 0 0] (coR c k) wr) ∧ Hid (OR 47 OU.cells 9 wr D ao k co (fun i => rdO IntKind.i64.wrap (coR c i))) ∧ Hid (OR 53 IN.cells 4 wr B a (coN c) cap (fun i => rdI (coQ c i)))) (fun i _ => coM c - (intOf i).toNat)
      case atStart => exact ⟨0, none, 0, by omega, rfl, HDE.out, Y7, P7, OI⟩
      case round =>
       obtain ⟨k, ao, co, hk, rfl, hb, X, O, OI'⟩ := hrel
       clear Y7 P7 OI
       have OI := OI'
       clear OI'
       have k0 : (0 : Int) ≤ (k : Int) := by omega
       by_cases hlt : k < coM c
       · have k1 : (k : Int) < (cn (coQ c (coN c)) : Int) := by rw [hM]; omega
         have HS : Hid (stO (coR c k) = coR c (k + 1)) := rfl
         obtain ⟨ou, hou⟩ : ∃ v, rdO IntKind.i64.wrap (coR c k) = v := ⟨_, rfl⟩
         have HR : Hid (∀ w, RS w g (coR c k) w → Calls Tryz.prog 136 #[.pointer (some ⟨g, 0, none⟩)] w fun r w' => r = .returned (ouV ou) ∧ RS w g (coR c (k + 1)) w') := fun w h => by rw [← hou]; exact rout_l h
         have HW0 : Hid ((fun i => rdO IntKind.i64.wrap (coR c i)) k = ou) := hou
         clear hou
         obtain ⟨y0, y1, y2, y3, y4, y5, y6, y7, y8⟩ := ou
         have HW : Hid ((rdO IntKind.i64.wrap (coR c k)).cells = [.int .i64 y0, .int .u64 y1, .string y2, .string y3, .int .i64 y4, .string y5, .int .u64 y6, .int .i64 y7, .string y8]) := by show _ = _; have := HW0.out; dsimp only at this; rw [this]; rfl
         clear HW0
         have XD := Lib.hid (X.out.q (Q.refl _).drew)
         have OD := Lib.hid (O.out.q (Q.refl _).drew)
         have ID := Lib.hid (OI.out.q (Q.refl _).drew)
         have hbD : D ≤ wr.drew.heap.size := hb
         clear X O OI
         go_wp2_with fail
         as_aux_lemma =>
         obtain ⟨i0, hi0, hz0, hz1, hz2⟩ := info_of info_out
         refine wp_region_held_drew (S := fun _ => True) (by kernel_rfl) trivial (fun hHeld => ?_)
         refine wtk (i := 0) (v := ?_) (gat rfl) (by kernel_rfl) (by exact fun _ _ _ h => h) (Or.inl ⟨by rfl, ?_⟩) (by assumption) ?_
         rotate_left
         · (intro wx hSw; (try dsimp only at hSw); go_simp; (try rw [if_neg (by omega)]); try (with_reducible rfl))
         try simp only [Act.put, pu]
         refine wtk (i := 2) (v := ?_) (gat rfl) (by kernel_rfl) (by exact fun _ _ _ h => h) (Or.inl ⟨by rfl, ?_⟩) (by assumption) ?_
         rotate_left
         · (intro wx hSw; (try dsimp only at hSw); go_simp; (try rw [if_neg (by omega)]); try (with_reducible rfl))
         try simp only [Act.put, pu]
         refine wpAnyH_ready (rs := [1, 3]) (by kernel_rfl) (by simp) ?_
         refine AllReadyH.cons (gat rfl) (fun K hK => ?_) (ar1 (gat rfl) fun K hK => ?_)
         · as_aux_lemma =>
           have dl := (XD.out.cell 1 rfl).1
           go_simp
           refine hK.out _ _ trivial (fun _ => ?_)
           clear hK K dl
           try simp only [Act.put, pu]
           refine wpAnyH_ready (rs := [3]) (by kernel_rfl) (by simp) ?_
           refine ar1 (gat rfl) fun K hK => ?_
           go_simp
           refine (HR.out _ XD.out.rs.up).mono ?_
           rintro r z15 ⟨rfl, h⟩
           have X15z := Lib.hid (XD.out.go h)
           have O15z := Lib.hid (OD.out.low h.ch hmB2)
           have I15z := Lib.hid (ID.out.low h.ch hlB2)
           have hb15 : D ≤ z15.heap.size := Nat.le_trans hbD h.ch.size
           clear h XD OD ID
           dsimp only
           refine hK.out _ _ trivial (fun _ => ?_)
           clear hK K
           try simp only [Act.put, pu]
           refine wpAnyH_ready (rs := [4]) (by kernel_rfl) (by simp) ?_
           refine ar1 (gat rfl) fun K hK => ?_
           rw [if_pos (by rfl)]
           refine wpo_rowout y0 y1 y2 y3 y4 y5 y6 y7 y8 rfl rfl ?_
           have X16z := Lib.hid (X15z.out.q ((Q.refl z15).alloc (.cells #[.int .i64 y0, .int .u64 y1, .string y2, .string y3, .int .i64 y4, .string y5, .int .u64 y6, .int .i64 y7, .string y8] 47)))
           have O16z := Lib.hid (O15z.out.q ((Q.refl z15).alloc (.cells #[.int .i64 y0, .int .u64 y1, .string y2, .string y3, .int .i64 y4, .string y5, .int .u64 y6, .int .i64 y7, .string y8] 47)))
           have I16z := Lib.hid (I15z.out.q ((Q.refl z15).alloc (.cells #[.int .i64 y0, .int .u64 y1, .string y2, .string y3, .int .i64 y4, .string y5, .int .u64 y6, .int .i64 y7, .string y8] 47)))
           have N16z := Lib.hid (rowNO z15 y0 y1 y2 y3 y4 y5 y6 y7 y8)
           have hb16 : D ≤ (z15.alloc (.cells #[.int .i64 y0, .int .u64 y1, .string y2, .string y3, .int .i64 y4, .string y5, .int .u64 y6, .int .i64 y7, .string y8] 47)).heap.size := Nat.le_trans hb15 (by simp)
           clear X15z O15z I15z
           refine hK.out _ _ trivial (fun _ => ?_)
           clear hK K
           try simp only [Act.put, pu]
           as_aux_lemma =>
           refine wpAnyH_ready (rs := [5]) (by kernel_rfl) (by simp) ?_
           refine ar1 (gat rfl) fun K hK => ?_
           rw [if_pos (by rfl)]
           refine wp_append_own _ (.tmp 40) (.tmp 43) 23 rfl D 47 i0 _ 9 104 Tryz.underlying23 hi0 hz0 hz1 hz2 rfl (by decide) _ _ _ rfl O16z.out ⟨z15.heap.size, 0, none⟩ 1 1 [.int .i64 y0, .int .u64 y1, .string y2, .string y3, .int .i64 y4, .string y5, .int .u64 y6, .int .i64 y7, .string y8] rfl rfl N16z.out (one9 rfl rfl rfl rfl rfl rfl rfl rfl rfl) (by unfold maxLen; omega) (by omega) hb16 ?_
           intro v3 w3 hown3 hgrow3 _hn
           rw [← HW.out] at hown3
           have hb3 : D ≤ w3.heap.size := Nat.le_trans hb16 hgrow3.size
           have X3 := Lib.hid (RX.grown X16z.out hgrow3 (fun j hj => (World.ownsRow.lt O16z.out j hj).1) hmB hmB2 hmB3 hmB4)
           obtain ⟨jg, hjg, cg⟩ := ch_of_grown hgrow3 (fun j hj => (World.ownsRow.lt O16z.out j hj).1)
           have I3 := Lib.hid (I16z.out.ch cg (fun x hx => by have := hIl.out x hx; omega))
           clear cg hjg jg I16z
           obtain ⟨g3, cap3, rfl, o3⟩ := OR.next hown3
           have O3 := Lib.hid o3
           clear hgrow3 _hn hown3 o3 X16z O16z N16z
           refine hK.out _ _ trivial (fun _ => ?_)
           clear hK K
           try simp only [Act.put, pu]
           refine wpAnyH_ready (rs := [6]) (by kernel_rfl) (by simp) ?_
           refine ar1 (gat rfl) fun K hK => ?_
           go_simp
           refine hK.out _ _ trivial (fun _ => ?_)
           clear hK K
           try simp only [Act.put, pu]
           obtain ⟨d3, f3⟩ := X3.out.cell 1 rfl
           refine wpAnyH_ready (rs := [7]) (by kernel_rfl) (by simp) ?_
           refine ar1 (gat rfl) fun K hK => ?_
           go_simp
           refine hK.out _ _ trivial (fun _ => ?_)
           clear hK K
           try simp only [Act.put, pu]
           clear d3 f3
           have X4 := Lib.hid (X3.out.set 1 (.slice (some ⟨g3, 0, none⟩) (k + 1) cap3))
           have O4 := Lib.hid (O3.out.low (Ch.set w3 gb 1 (.slice (some ⟨g3, 0, none⟩) (k + 1) cap3)) hmB)
           have I4 := Lib.hid (I3.out.low (Ch.set w3 gb 1 (.slice (some ⟨g3, 0, none⟩) (k + 1) cap3)) hlB)
           clear I3
           have hb4 : D ≤ (w3.setCell ⟨gb, 1, none⟩ (.slice (some ⟨g3, 0, none⟩) (k + 1) cap3)).heap.size := by simpa using hb3
           clear X3 O3 hb3
           refine wpAnyH_done (by kernel_rfl) ?_ _
           go_wp2_with fail
           go_roundw
           case rel => exact ⟨k + 1, _, cap3, by omega, by go_num, hb4, X4, O4, I4⟩
           case measure => simp [intOf]; omega
         · as_aux_lemma =>
           go_simp
           refine (HR.out _ XD.out.rs.up).mono ?_
           rintro r z17 ⟨rfl, h⟩
           have X17z := Lib.hid (XD.out.go h)
           have O17z := Lib.hid (OD.out.low h.ch hmB2)
           have I17z := Lib.hid (ID.out.low h.ch hlB2)
           have hb17 : D ≤ z17.heap.size := Nat.le_trans hbD h.ch.size
           clear h XD OD ID
           dsimp only
           refine hK.out _ _ trivial (fun _ => ?_)
           clear hK K
           try simp only [Act.put, pu]
           refine wpAnyH_ready (rs := [1, 4]) (by kernel_rfl) (by simp) ?_
           refine AllReadyH.cons (gat rfl) (fun K hK => ?_) (ar1 (gat rfl) fun K hK => ?_)
           · as_aux_lemma =>
             have dl := (X17z.out.cell 1 rfl).1
             go_simp
             refine hK.out _ _ trivial (fun _ => ?_)
             clear hK K dl
             try simp only [Act.put, pu]
             refine wpAnyH_ready (rs := [4]) (by kernel_rfl) (by simp) ?_
             refine ar1 (gat rfl) fun K hK => ?_
             rw [if_pos (by rfl)]
             refine wpo_rowout y0 y1 y2 y3 y4 y5 y6 y7 y8 rfl rfl ?_
             have X18z := Lib.hid (X17z.out.q ((Q.refl z17).alloc (.cells #[.int .i64 y0, .int .u64 y1, .string y2, .string y3, .int .i64 y4, .string y5, .int .u64 y6, .int .i64 y7, .string y8] 47)))
             have O18z := Lib.hid (O17z.out.q ((Q.refl z17).alloc (.cells #[.int .i64 y0, .int .u64 y1, .string y2, .string y3, .int .i64 y4, .string y5, .int .u64 y6, .int .i64 y7, .string y8] 47)))
             have I18z := Lib.hid (I17z.out.q ((Q.refl z17).alloc (.cells #[.int .i64 y0, .int .u64 y1, .string y2, .string y3, .int .i64 y4, .string y5, .int .u64 y6, .int .i64 y7, .string y8] 47)))
             have N18z := Lib.hid (rowNO z17 y0 y1 y2 y3 y4 y5 y6 y7 y8)
             have hb18 : D ≤ (z17.alloc (.cells #[.int .i64 y0, .int .u64 y1, .string y2, .string y3, .int .i64 y4, .string y5, .int .u64 y6, .int .i64 y7, .string y8] 47)).heap.size := Nat.le_trans hb17 (by simp)
             clear X17z O17z I17z
             refine hK.out _ _ trivial (fun _ => ?_)
             clear hK K
             try simp only [Act.put, pu]
             as_aux_lemma =>
             refine wpAnyH_ready (rs := [5]) (by kernel_rfl) (by simp) ?_
             refine ar1 (gat rfl) fun K hK => ?_
             rw [if_pos (by rfl)]
             refine wp_append_own _ (.tmp 40) (.tmp 43) 23 rfl D 47 i0 _ 9 104 Tryz.underlying23 hi0 hz0 hz1 hz2 rfl (by decide) _ _ _ rfl O18z.out ⟨z17.heap.size, 0, none⟩ 1 1 [.int .i64 y0, .int .u64 y1, .string y2, .string y3, .int .i64 y4, .string y5, .int .u64 y6, .int .i64 y7, .string y8] rfl rfl N18z.out (one9 rfl rfl rfl rfl rfl rfl rfl rfl rfl) (by unfold maxLen; omega) (by omega) hb18 ?_
             intro v3 w3 hown3 hgrow3 _hn
             rw [← HW.out] at hown3
             have hb3 : D ≤ w3.heap.size := Nat.le_trans hb18 hgrow3.size
             have X3 := Lib.hid (RX.grown X18z.out hgrow3 (fun j hj => (World.ownsRow.lt O18z.out j hj).1) hmB hmB2 hmB3 hmB4)
             obtain ⟨jg, hjg, cg⟩ := ch_of_grown hgrow3 (fun j hj => (World.ownsRow.lt O18z.out j hj).1)
             have I3 := Lib.hid (I18z.out.ch cg (fun x hx => by have := hIl.out x hx; omega))
             clear cg hjg jg I18z
             obtain ⟨g3, cap3, rfl, o3⟩ := OR.next hown3
             have O3 := Lib.hid o3
             clear hgrow3 _hn hown3 o3 X18z O18z N18z
             refine hK.out _ _ trivial (fun _ => ?_)
             clear hK K
             try simp only [Act.put, pu]
             refine wpAnyH_ready (rs := [6]) (by kernel_rfl) (by simp) ?_
             refine ar1 (gat rfl) fun K hK => ?_
             go_simp
             refine hK.out _ _ trivial (fun _ => ?_)
             clear hK K
             try simp only [Act.put, pu]
             obtain ⟨d3, f3⟩ := X3.out.cell 1 rfl
             refine wpAnyH_ready (rs := [7]) (by kernel_rfl) (by simp) ?_
             refine ar1 (gat rfl) fun K hK => ?_
             go_simp
             refine hK.out _ _ trivial (fun _ => ?_)
             clear hK K
             try simp only [Act.put, pu]
             clear d3 f3
             have X4 := Lib.hid (X3.out.set 1 (.slice (some ⟨g3, 0, none⟩) (k + 1) cap3))
             have O4 := Lib.hid (O3.out.low (Ch.set w3 gb 1 (.slice (some ⟨g3, 0, none⟩) (k + 1) cap3)) hmB)
             have I4 := Lib.hid (I3.out.low (Ch.set w3 gb 1 (.slice (some ⟨g3, 0, none⟩) (k + 1) cap3)) hlB)
             clear I3
             have hb4 : D ≤ (w3.setCell ⟨gb, 1, none⟩ (.slice (some ⟨g3, 0, none⟩) (k + 1) cap3)).heap.size := by simpa using hb3
             clear X3 O3 hb3
             refine wpAnyH_done (by kernel_rfl) ?_ _
             go_wp2_with fail
             go_roundw
             case rel => exact ⟨k + 1, _, cap3, by omega, by go_num, hb4, X4, O4, I4⟩
             case measure => simp [intOf]; omega
           · as_aux_lemma =>
             rw [if_pos (by rfl)]
             refine wpo_rowout y0 y1 y2 y3 y4 y5 y6 y7 y8 rfl rfl ?_
             have X19z := Lib.hid (X17z.out.q ((Q.refl z17).alloc (.cells #[.int .i64 y0, .int .u64 y1, .string y2, .string y3, .int .i64 y4, .string y5, .int .u64 y6, .int .i64 y7, .string y8] 47)))
             have O19z := Lib.hid (O17z.out.q ((Q.refl z17).alloc (.cells #[.int .i64 y0, .int .u64 y1, .string y2, .string y3, .int .i64 y4, .string y5, .int .u64 y6, .int .i64 y7, .string y8] 47)))
             have I19z := Lib.hid (I17z.out.q ((Q.refl z17).alloc (.cells #[.int .i64 y0, .int .u64 y1, .string y2, .string y3, .int .i64 y4, .string y5, .int .u64 y6, .int .i64 y7, .string y8] 47)))
             have N19z := Lib.hid (rowNO z17 y0 y1 y2 y3 y4 y5 y6 y7 y8)
             have hb19 : D ≤ (z17.alloc (.cells #[.int .i64 y0, .int .u64 y1, .string y2, .string y3, .int .i64 y4, .string y5, .int .u64 y6, .int .i64 y7, .string y8] 47)).heap.size := Nat.le_trans hb17 (by simp)
             clear X17z O17z I17z
             refine hK.out _ _ trivial (fun _ => ?_)
             clear hK K
             try simp only [Act.put, pu]
             refine wpAnyH_ready (rs := [1]) (by kernel_rfl) (by simp) ?_
             refine ar1 (gat rfl) fun K hK => ?_
             have dl := (X19z.out.cell 1 rfl).1
             go_simp
             refine hK.out _ _ trivial (fun _ => ?_)
             clear hK K dl
             try simp only [Act.put, pu]
             as_aux_lemma =>
             refine wpAnyH_ready (rs := [5]) (by kernel_rfl) (by simp) ?_
             refine ar1 (gat rfl) fun K hK => ?_
             rw [if_pos (by rfl)]
             refine wp_append_own _ (.tmp 40) (.tmp 43) 23 rfl D 47 i0 _ 9 104 Tryz.underlying23 hi0 hz0 hz1 hz2 rfl (by decide) _ _ _ rfl O19z.out ⟨z17.heap.size, 0, none⟩ 1 1 [.int .i64 y0, .int .u64 y1, .string y2, .string y3, .int .i64 y4, .string y5, .int .u64 y6, .int .i64 y7, .string y8] rfl rfl N19z.out (one9 rfl rfl rfl rfl rfl rfl rfl rfl rfl) (by unfold maxLen; omega) (by omega) hb19 ?_
             intro v3 w3 hown3 hgrow3 _hn
             rw [← HW.out] at hown3
             have hb3 : D ≤ w3.heap.size := Nat.le_trans hb19 hgrow3.size
             have X3 := Lib.hid (RX.grown X19z.out hgrow3 (fun j hj => (World.ownsRow.lt O19z.out j hj).1) hmB hmB2 hmB3 hmB4)
             obtain ⟨jg, hjg, cg⟩ := ch_of_grown hgrow3 (fun j hj => (World.ownsRow.lt O19z.out j hj).1)
             have I3 := Lib.hid (I19z.out.ch cg (fun x hx => by have := hIl.out x hx; omega))
             clear cg hjg jg I19z
             obtain ⟨g3, cap3, rfl, o3⟩ := OR.next hown3
             have O3 := Lib.hid o3
             clear hgrow3 _hn hown3 o3 X19z O19z N19z
             refine hK.out _ _ trivial (fun _ => ?_)
             clear hK K
             try simp only [Act.put, pu]
             refine wpAnyH_ready (rs := [6]) (by kernel_rfl) (by simp) ?_
             refine ar1 (gat rfl) fun K hK => ?_
             go_simp
             refine hK.out _ _ trivial (fun _ => ?_)
             clear hK K
             try simp only [Act.put, pu]
             obtain ⟨d3, f3⟩ := X3.out.cell 1 rfl
             refine wpAnyH_ready (rs := [7]) (by kernel_rfl) (by simp) ?_
             refine ar1 (gat rfl) fun K hK => ?_
             go_simp
             refine hK.out _ _ trivial (fun _ => ?_)
             clear hK K
             try simp only [Act.put, pu]
             clear d3 f3
             have X4 := Lib.hid (X3.out.set 1 (.slice (some ⟨g3, 0, none⟩) (k + 1) cap3))
             have O4 := Lib.hid (O3.out.low (Ch.set w3 gb 1 (.slice (some ⟨g3, 0, none⟩) (k + 1) cap3)) hmB)
             have I4 := Lib.hid (I3.out.low (Ch.set w3 gb 1 (.slice (some ⟨g3, 0, none⟩) (k + 1) cap3)) hlB)
             clear I3
             have hb4 : D ≤ (w3.setCell ⟨gb, 1, none⟩ (.slice (some ⟨g3, 0, none⟩) (k + 1) cap3)).heap.size := by simpa using hb3
             clear X3 O3 hb3
             refine wpAnyH_done (by kernel_rfl) ?_ _
             go_wp2_with fail
             go_roundw
             case rel => exact ⟨k + 1, _, cap3, by omega, by go_num, hb4, X4, O4, I4⟩
             case measure => simp [intOf]; omega
       · obtain rfl : k = coM c := by omega
         have td : decide (coM c < cn (coQ c (coN c))) = false := by simp [coM]
         have td2 : decide ((coM c : Int) < (cn (coQ c (coN c)) : Int)) = false := by simp [coM]
         clear hlt k0 hb HDE
         as_aux_lemma =>
         go_wp2_with fail
         refine (X.out.rs.end_l hE.out.symm).mono ?_
         rintro r _ ⟨rfl, rfl⟩
         by_cases he : coE c = 0
         rotate_left
         · have E1 : Hid (¬ coE c = 0) := he
           have t1 : (coE c == 0) = false := by simpa using he
           have t2 : (coE c != 0) = true := by simpa using he
           clear O OI he
           go_wp2_with (with_reducible (show wpList _ _ _ (⟨_, Op.build 29 _, _, _, _, _⟩ :: _) _ _); refine halt ?_)
           refine Lib.hid (wpl_tzero rfl rfl _ rfl ?_)
           go_wp2_with (with_reducible (show wpList _ _ _ (⟨_, Op.store 29 _ _, _, _, _, _⟩ :: _) _ _); refine halt ?_)
           refine Lib.hid (st_box rfl 29 _ _ rfl W.heap.size _ [.slice none 0 0, .slice none 0 0, .int .u64 0, .string ⟨#[]⟩, .string ⟨#[]⟩, .slice none 0 0] rfl rfl X.out.br rfl (by kernel_rfl) (one6 rfl rfl rfl rfl rfl rfl) ?_)
           intro w9 B9 c9
           have HL : Hid ((loadVar 29 ⟨W.heap.size, 0, none⟩).run Tryz.prog w9 = .ok (.agg #[.slice none 0 0, .slice none 0 0, .int .u64 0, .string ⟨#[]⟩, .string ⟨#[]⟩, .slice none 0 0]) w9) := B9.load _ Tryz.underlying29 rfl (by kernel_rfl)
           have Q9 : Hid (Q W w9) := (X.out.rs.box c9 X.out.l1 X.out.n1).ch.q (Q.refl W) l3
           clear B9 c9
           go_wp2_with fail
           (try simp only [Exit.inBlock, Exit.then])
           refine bodyPost_ret (results_cell_tmp rfl rfl HL.out) rfl ?_
           exact ⟨none, 0, none, 0, W.heap.size, TX.zero, by rw [if_neg E1.out], by rfl, Nat.le_refl _, OR.nil _ _ _ _ _ _, SL.nil rfl, (fun x y h => by cases h), (fun y h => by cases h), Q9.out⟩
         have t1 : (coE c == 0) = true := by simpa using he
         have t2 : (coE c != 0) = false := by simpa using he
         have SB : Hid (∀ x y, a = some x → ao = some y → x.block ≠ y.block) := fun x y hx hy => by
          have := hIl.out x hx
          rcases O.out.shape with ⟨h1, _⟩ | ⟨z, h1, h2, h3, _⟩
          · rw [h1] at hy; cases hy
          · rw [h1] at hy; injection hy with hy; subst hy; show x.block ≠ z; omega
         have SO : Hid (∀ x, ao = some x → x.block ≠ W.heap.size) := fun x hx => by
          rcases O.out.shape with ⟨h1, _⟩ | ⟨z, h1, h2, h3, _⟩
          · rw [h1] at hx; cases hx
          · rw [h1] at hx; injection hx with hx; subst hx; show z ≠ _; omega
         have SD : Hid (∀ y, ao = some y → W.heap.size ≤ y.block ∧ y.block < wr.heap.size) := fun y hy => by
          rcases O.out.shape with ⟨h1, _⟩ | ⟨z, h1, h2, h3, _⟩
          · rw [h1] at hy; cases hy
          · rw [h1] at hy; injection hy with hy; subst hy; exact ⟨by show _ ≤ z; omega, h3⟩
         go_wp2_with (with_reducible (show wpList _ _ _ (⟨_, Op.load 29 _, _, _, _, _⟩ :: _) _ _); refine halt ?_)
         refine Lib.hid (ld_box rfl 29 _ rfl gb _ rfl X.out.bb Tryz.underlying29 rfl (by kernel_rfl) ?_)
         refine st_box rfl 29 _ _ rfl W.heap.size _ [.slice a (coN c) cap, .slice ao (coM c) co, .int .u64 0, .string ⟨#[]⟩, .string ⟨#[]⟩, .slice none 0 0] rfl rfl X.out.br rfl (by kernel_rfl) (one6 rfl rfl rfl rfl rfl rfl) ?_
         intro w9 B9 c9
         have HL : Hid ((loadVar 29 ⟨W.heap.size, 0, none⟩).run Tryz.prog w9 = .ok (.agg #[.slice a (coN c) cap, .slice ao (coM c) co, .int .u64 0, .string ⟨#[]⟩, .string ⟨#[]⟩, .slice none 0 0]) w9) := B9.load _ Tryz.underlying29 rfl (by kernel_rfl)
         have Q9 : Hid (Q W w9) := (X.out.rs.box c9 X.out.l1 X.out.n1).ch.q (Q.refl W) l3
         have D9 : Hid (∀ y, ao = some y → W.heap.size ≤ y.block ∧ y.block < w9.heap.size) := fun y hy => ⟨(SD.out y hy).1, Nat.lt_of_lt_of_le (SD.out y hy).2 c9.size⟩
         have I9 := Lib.hid (OI.out.low c9 hlB3)
         have S9 := Lib.hid ((O.out.sl out_len).ch c9 SO.out)
         clear B9 c9 X O OI
         go_wp2_with fail
         (try simp only [Exit.inBlock, Exit.then])
         refine bodyPost_ret (results_cell_tmp rfl rfl HL.out) rfl ?_
         exact ⟨a, cap, ao, co, B, coX IntKind.i64.wrap c, by rw [if_pos he], by rw [he]; rfl, hlB4, I9.out, S9.out, SB.out, D9.out, Q9.out⟩
/-- A box of which a part is written. -/
theorem Box.mid {w : World} {b : Nat} {x0 x1 y0 y1 y2 y3 z0 z1 z2 z3 : Value} (h : Box w b [x0, x1, y0, y1, y2, y3]) : Box (w.setCells b 2 [z0, z1, z2, z3]) b [x0, x1, z0, z1, z2, z3] := by
 refine ⟨fun j v hv => ?_, fun j => by rw [World.frozen?_setCells]; exact h.fz j, by rw [setCells_size]; exact h.lt⟩
 have hj : j < 6 := by have := (List.getElem?_eq_some_iff.1 hv).1; simpa using this
 by_cases e : j < 2
 · rw [World.cell?_setCells_out b _ 2 w ⟨b, j, none⟩ (fun _ _ => .inl (by show j < 2; omega))]
   refine h.at_ j v ?_
   rcases (by omega : j = 0 ∨ j = 1) with rfl | rfl <;> exact hv
 · obtain ⟨i, rfl⟩ : ∃ i, j = 2 + i := ⟨j - 2, by omega⟩
   have hi : i < 4 := by omega
   have := World.cell?_setCells_in b [z0, z1, z2, z3] 2 w (fun k hk => by
    have hk4 : k < 4 := by simpa using hk
    rcases (by omega : k = 0 ∨ k = 1 ∨ k = 2 ∨ k = 3) with rfl | rfl | rfl | rfl
    · rw [h.at_ 2 _ rfl]; rfl
    · rw [h.at_ 3 _ rfl]; rfl
    · rw [h.at_ 4 _ rfl]; rfl
    · rw [h.at_ 5 _ rfl]; rfl) i (by simpa using hi)
   rw [this]
   rcases (by omega : i = 0 ∨ i = 1 ∨ i = 2 ∨ i = 3) with rfl | rfl | rfl | rfl <;> exact hv
theorem Box.there2 {w : World} {b : Nat} {x0 x1 y0 y1 y2 y3 : Value} (h : Box w b [x0, x1, y0, y1, y2, y3]) : w.there b 2 4 := fun j hj => by
 refine ⟨?_, h.fz _⟩
 rcases (by omega : j = 0 ∨ j = 1 ∨ j = 2 ∨ j = 3) with rfl | rfl | rfl | rfl
 · rw [h.at_ 2 _ rfl]; rfl
 · rw [h.at_ 3 _ rfl]; rfl
 · rw [h.at_ 4 _ rfl]; rfl
 · rw [h.at_ 5 _ rfl]; rfl
/-- Inputs that may be written. -/
structure SW (w : World) (b n : Nat) (f : Nat → IN) : Prop where
 at_ : ∀ i, i < n → ∀ j v, ((f i).cells)[j]? = some v → w.cell? ⟨b, i * 4 + j, none⟩ = some v
 fz : ∀ j, w.frozen? ⟨b, j, none⟩ = false
 lt : b < w.heap.size
section
variable {w w' : World} {b g n : Nat} {f f' : Nat → IN}
theorem SW.q (h : SW w b n f) (q : Q w w') : SW w' b n f :=
 ⟨fun i hi j v hv => Q.cell' q (h.at_ i hi j v hv), fun j => by rw [q.frozen (p := ⟨b, j, none⟩) h.lt]; exact h.fz j, Nat.lt_of_lt_of_le h.lt q.size⟩
theorem SW.ch (h : SW w b n f) (c : Ch g w w') (hne : b ≠ g) : SW w' b n f :=
 ⟨fun i hi j v hv => c.cell (h.at_ i hi j v hv) hne, fun j => by rw [c.frozen (a := ⟨b, j, none⟩) h.lt hne]; exact h.fz j, Nat.lt_of_lt_of_le h.lt c.size⟩
theorem SW.sl (h : SW w b n f) : SL IN.cells 4 w (some ⟨b, 0, none⟩) n f := .inr ⟨b, 0, rfl, fun i hi j v hv => by rw [Nat.zero_add]; exact h.at_ i hi j v hv⟩
theorem SW.of {t : TypeId} {B cap : Nat} (h : OR t IN.cells 4 w B (some ⟨b, 0, none⟩) n cap f) : SW w b n f := by
 have hl := World.ownsRow.lt h b rfl
 refine ⟨fun i hi j v hv => ?_, fun j => World.ownsRow.frozenAt h j, hl.2⟩
 have := World.ownsRow.cells h (g := b) rfl _ _ (rc_get in_len i j v hv n hi)
 rw [Go.WideShapes.add_plain, Nat.zero_add] at this
 exact this
/-- A signature is written. -/
theorem SW.sig (h : SW w b n f) (k : Nat) (hk : k < n) (s : ByteArray) (e : ∀ i, i < n → f' i = if i = k then { f i with sig := s } else f i) : SW (w.setCell ⟨b, k * 4 + 3, none⟩ (.string s)) b n f' := by
 refine ⟨fun i hi j v hv => ?_, fun j => by simp [h.fz], by simpa using h.lt⟩
 rw [e i hi] at hv
 by_cases hik : i = k
 · subst hik
   rw [if_pos rfl] at hv
   have hj : j < 4 := by have := (List.getElem?_eq_some_iff.1 hv).1; simpa [IN.cells] using this
   rcases (by omega : j < 3 ∨ j = 3) with h3 | rfl
   · rw [World.cell?_setCell_other (h := by intro x; injection x; omega)]
     refine h.at_ i hi j v ?_
     rcases (by omega : j = 0 ∨ j = 1 ∨ j = 2) with rfl | rfl | rfl <;> exact hv
   · have : v = .string s := by simpa [IN.cells] using hv.symm
     subst this
     exact World.cell?_setCell_same _ _ _ (h.at_ i hi 3 _ rfl)
 · rw [if_neg hik] at hv
   have hj : j < 4 := by have := (List.getElem?_eq_some_iff.1 hv).1; simpa [IN.cells] using this
   rw [World.cell?_setCell_other (h := by intro x; injection x; omega)]
   exact h.at_ i hi j v hv
end
theorem RX.low {w0 w w' : World} {g gr gb b : Nat} {Z cs : List Value} {p : PS} (h : RX w0 g gr Z gb cs p w) (c : Ch b w w') (h1 : b ≠ gb) (h2 : b ≠ g) (h3 : b ≠ gr) (h4 : w0.heap.size ≤ b) : RX w0 g gr Z gb cs p w' :=
 ⟨h.rs.box c h4 h2.symm, h.br.ch c h3.symm, h.bb.ch c h1.symm, h.n1, h.n2, h.n3, h.l1, h.l2⟩
def pg0 (s : ByteArray) : TX := if coE (deC s) = 0 then coX IntKind.i64.wrap (deC s) else TX.zero
def pgP (s : ByteArray) : PS := (deP s).fl (coE (deC s))
def pgQ (s : ByteArray) (i : Nat) : PS := iter (PS.blo 400) (pgP s) i
def pgB (s : ByteArray) : ByteArray := (pgQ s (pg0 s).nI).blV 4096
def pgR (s : ByteArray) : PS := (pgQ s (pg0 s).nI).blo 4096
noncomputable def pgS (s : ByteArray) : PS := (pgR s).fl (ndE (pgB s))
noncomputable def pgT (s : ByteArray) : TX := ⟨(pg0 s).nI, fun i => { (pg0 s).ins i with sig := (pgQ s i).blV 400 }, (pg0 s).nO, (pg0 s).outs, ndV (pgB s)⟩
open Classical in
noncomputable def pgU (s : ByteArray) : PS := if RightT (pgT s) then pgS s else (pgS s).fl 4
theorem pg_err {s : ByteArray} (h : (pgP s).e ≠ 0) : (pgU s).en = (pgP s).e := by
 have q : ∀ i, pgQ s i = pgP s := fun i => iter_err _ (fun p hp => PS.blo_err hp) _ h i
 have r : pgR s = pgP s := by unfold pgR; rw [q, PS.blo_err h]
 have t : pgS s = pgP s := by unfold pgS; rw [r, PS.fl_err h]
 have u : pgU s = pgP s := by unfold pgU; split; exact t; rw [t, PS.fl_err h]
 rw [u, PS.en_err h]
theorem pg_ok {s : ByteArray} (h1 : (deP s).e = 0) (h2 : coE (deC s) = 0) : pgR s = deR s ∧ pgB s = deB s ∧ pgT s = deX IntKind.i64.wrap s := by
 have p : pgP s = deP s := by unfold pgP; rw [h2, PS.fl_0]
 have z : pg0 s = coX IntKind.i64.wrap (deC s) := by unfold pg0; rw [if_pos h2]
 have q : ∀ i, pgQ s i = deQ s i := fun i => by unfold pgQ deQ; rw [p]
 have n : (pg0 s).nI = coN (deC s) := by rw [z]; rfl
 have r : pgR s = deR s := by unfold pgR deR; rw [n, q]
 have b : pgB s = deB s := by unfold pgB deB; rw [n, q]
 refine ⟨r, b, ?_⟩
 unfold pgT deX
 rw [b, z]
 have : (fun i => { (coX IntKind.i64.wrap (deC s)).ins i with sig := (pgQ s i).blV 400 }) = (fun i => { rdI (coQ (deC s) i) with sig := (deQ s i).blV 400 }) := by
  funext i; rw [q]; rfl
 rw [this]
 rfl
open Classical in
theorem pg_all (s : ByteArray) : (pgU s).en = deE IntKind.i64.wrap s ∧ ((pgU s).en = 0 → pgT s = deV IntKind.i64.wrap s) := by
 have fe : ∀ (p : PS) f, p.e = 0 → (p.fl f).e = f := fun p f h => by unfold PS.fl failE; rw [if_pos h]
 by_cases h : (pgP s).e = 0
 · obtain ⟨h1, h2⟩ := PS.fl_ok h
   obtain ⟨r, b, t⟩ := pg_ok h1 h2
   have S : pgS s = (deR s).fl (ndE (deB s)) := by unfold pgS; rw [r, b]
   have key : (pgU s).en = deE IntKind.i64.wrap s := by
    have D : deE IntKind.i64.wrap s = if (deR s).e ≠ 0 then (deR s).e else if ndE (deB s) ≠ 0 then ndE (deB s) else if 0 < (deR s).s.size ∨ ¬ RightT (deX IntKind.i64.wrap s) then 4 else 0 := by
     unfold deE; rw [if_neg (fun x => x h1), if_neg (fun x => x h2)]
    have U : pgU s = if RightT (deX IntKind.i64.wrap s) then (deR s).fl (ndE (deB s)) else ((deR s).fl (ndE (deB s))).fl 4 := by unfold pgU; rw [S, t]
    by_cases h3 : (deR s).e = 0
    · rw [if_neg (fun x => x h3)] at D
      by_cases h4 : ndE (deB s) = 0
      · rw [if_neg (fun x => x h4)] at D
        rw [h4, PS.fl_0] at U
        by_cases h5 : RightT (deX IntKind.i64.wrap s)
        · rw [if_pos h5] at U
          rw [U]
          by_cases h6 : 0 < (deR s).s.size
          · rw [D, if_pos (.inl h6)]; unfold PS.en endE; rw [if_pos h3, if_neg (by omega)]
          · rw [D, if_neg (fun x => x.elim h6 (fun y => y h5))]; unfold PS.en endE; rw [if_pos h3, if_pos (by omega)]
        · rw [if_neg h5] at U
          rw [U, D, if_pos (.inr h5), PS.en_err (by rw [fe _ _ h3]; decide), fe _ _ h3]
      · rw [if_pos h4] at D
        have e : ((deR s).fl (ndE (deB s))).e ≠ 0 := by rw [fe _ _ h3]; exact h4
        rw [PS.fl_err e, ite_self] at U
        rw [U, D, PS.en_err e, fe _ _ h3]
    · rw [if_pos h3] at D
      rw [PS.fl_err h3, PS.fl_err h3, ite_self] at U
      rw [U, D, PS.en_err h3]
   refine ⟨key, fun h0 => ?_⟩
   rw [key] at h0
   rw [t, (deE_0 h0).2.2.2.2.2.2]
 · rw [pg_err h]
   refine ⟨?_, fun x => absurd x h⟩
   unfold deE pgP PS.fl failE
   dsimp only
   by_cases h1 : (deP s).e = 0
   · have h2 : coE (deC s) ≠ 0 := fun x => h (by unfold pgP; rw [x, PS.fl_0]; exact h1)
     rw [if_pos h1, if_neg (fun x => x h1), if_pos h2]
   · rw [if_neg h1, if_pos h1]
theorem pg0_ok (s : ByteArray) : (pg0 s).ok := by unfold pg0; split; exact coX_ok small_wrap _; exact TXz_ok
theorem pgT_ok (s : ByteArray) : (pgT s).ok :=
 ⟨(pg0_ok s).nI, fun i hi => ⟨((pg0_ok s).ins i hi).tx, ((pg0_ok s).ins i hi).out, ((pg0_ok s).ins i hi).path, by have := PS.blV_le 400 (pgQ s i); show _ ≤ 1000000; unfold pgT; dsimp only; omega⟩, (pg0_ok s).nO, (pg0_ok s).outs, ndV_ok _⟩
/-- Inputs of which the first k have their signatures. -/
def pgF (s : ByteArray) (k i : Nat) : IN := if i < k then { (pg0 s).ins i with sig := (pgQ s i).blV 400 } else (pg0 s).ins i
theorem pgF_0 (s : ByteArray) (i : Nat) : pgF s 0 i = (pg0 s).ins i := by unfold pgF; rw [if_neg (by omega)]
theorem pgF_n (s : ByteArray) (i : Nat) (h : i < (pg0 s).nI) : pgF s (pg0 s).nI i = (pgT s).ins i := by unfold pgF; rw [if_pos h]; rfl
theorem pgF_s (s : ByteArray) (k i : Nat) : pgF s (k + 1) i = if i = k then { pgF s k i with sig := (pgQ s k).blV 400 } else pgF s k i := by
 unfold pgF
 by_cases e : i = k
 · subst e; rw [if_pos (by omega), if_pos rfl, if_neg (by omega)]
 · rw [if_neg e]
   by_cases h : i < k
   · rw [if_pos (by omega), if_pos h]
   · rw [if_neg (by omega), if_neg h]
/-- What coin.Decode answers, with where its lists lie. -/
def DEn (s : ByteArray) (W : World) (r : Ending) (w' : World) : Prop := ∃ aI cI aO cO aW cW, r = .returned (.tuple #[txV (deV IntKind.i64.wrap s) aI cI aO cO aW cW, .int .i64 (deE IntKind.i64.wrap s)]) ∧ TM w' aI cI aO aW (deV IntKind.i64.wrap s) ∧ Q W w' ∧ ∀ x, aI = some x ∨ aO = some x ∨ aW = some x → W.heap.size ≤ x.block
set_option maxHeartbeats 4000000 in
theorem decode_n (s : ByteArray) (hs : s.size ≤ 1000000) (W : World) : Calls Tryz.prog 78 #[.string s] W (DEn s W) := by
 have HB : Hid (∀ t, Box (W.alloc (.cells #[.slice none 0 0, .slice none 0 0, .int .u64 0, .string ⟨#[]⟩, .string ⟨#[]⟩, .slice none 0 0] t)) W.heap.size [.slice none 0 0, .slice none 0 0, .int .u64 0, .string ⟨#[]⟩, .string ⟨#[]⟩, .slice none 0 0]) := fun t => Box.new W _ t
 have HQ : Hid (∀ o, Q W (W.alloc o)) := fun o => (Q.refl W).alloc o
 have B0 := Lib.hid (HB.out 29)
 have Q0 := Lib.hid (HQ.out (.cells #[.slice none 0 0, .slice none 0 0, .int .u64 0, .string ⟨#[]⟩, .string ⟨#[]⟩, .slice none 0 0] 29))
 clear HB HQ
 go_enter Tryz.func78, Tryz.ntmps78
 go_wp2_with fail
 have hsz : (W.alloc (.cells #[.slice none 0 0, .slice none 0 0, .int .u64 0, .string ⟨#[]⟩, .string ⟨#[]⟩, .slice none 0 0] 29)).heap.size = W.heap.size + 1 := by simp
 generalize W.alloc (.cells #[.slice none 0 0, .slice none 0 0, .int .u64 0, .string ⟨#[]⟩, .string ⟨#[]⟩, .slice none 0 0] 29) = wA at *
 refine (read_l s hs _).mono ?_
 rintro r w1 ⟨rfl, h, q1⟩
 have H1 : Hid (RS W wA.heap.size ⟨s, 0⟩ w1) := ⟨h.rd, Ch.of_q (Q0.out.trans q1) _, h.z⟩
 have B1 := Lib.hid (B0.out.q q1)
 have n1 : wA.heap.size ≠ W.heap.size := by omega
 have l3 : W.heap.size ≤ wA.heap.size := by omega
 generalize wA.heap.size = g at *
 clear h q1 Q0 B0 hsz
 have l1 : W.heap.size ≤ W.heap.size := Nat.le_refl _
 obtain ⟨c, hc⟩ : ∃ c, (PS.mk s 0).blV 4096 = c := ⟨_, rfl⟩
 have hc' : Hid (deC s = c) := hc
 have hcz : c.size ≤ 1000000 := by rw [← hc]; have := PS.blV_le 4096 (PS.mk s 0); omega
 go_wp2_with fail
 refine (H1.out.up.blob_l hc (p' := deP s) rfl).mono ?_
 rintro r w2 ⟨rfl, h⟩
 have B2 := Lib.hid (B1.out.ch h.ch n1.symm)
 have H2 := Lib.hid (H1.out.over h)
 clear h H1 B1 hc
 go_wp2_with fail
 refine (rcore_x c hcz _).mono ?_
 rintro r w3 ⟨aI, cI, aO, cO, B, t0, ht0, rfl, hB, oi, so, ne, sd, q3⟩
 have T0 : Hid (pg0 s = t0) := by show _ = _; unfold pg0; rw [hc'.out]; exact ht0.symm
 have E0 : Hid (coE c = coE (deC s)) := by show _ = _; rw [hc'.out]
 clear ht0
 have K0 : Hid (t0.ok) := by show t0.ok; rw [← T0.out]; exact pg0_ok s
 have H3 := Lib.hid (H2.out.q q3)
 have B3 := Lib.hid (B2.out.q q3)
 have OI := Lib.hid oi
 have SO := Lib.hid so
 have NE := Lib.hid ne
 have SD := Lib.hid sd
 have g1 := H2.out.lt
 have g2 := B2.out.lt
 have g3 := q3.size
 have ALI : Hid (∀ x, aI = some x → W.heap.size ≤ x.block) := fun x hx => by
  have h1 := H2.out.ch.size
  rcases oi.shape with ⟨e, _⟩ | ⟨g', e, h2, _⟩
  · rw [e] at hx; cases hx
  · rw [e] at hx; injection hx with hx; subst hx; show W.heap.size ≤ g'; omega
 have ALO : Hid (∀ x, aO = some x → W.heap.size ≤ x.block) := fun x hx => by
  have h1 := H2.out.ch.size
  have := (sd x hx).1
  omega
 clear oi so ne sd q3 H2 B2
 as_aux_lemma =>
 obtain ⟨ce, hce⟩ : ∃ v, coE c = v := ⟨_, rfl⟩
 rw [hce] at E0 ⊢
 clear hce
 go_wp2_with (with_reducible (show wpList _ _ _ (⟨_, Op.alloc 29 , _, _, _, _⟩ :: _) _ _); refine halt ?_)
 refine Lib.hid (wpList_allocZ rfl 29 rfl #[.slice none 0 0, .slice none 0 0, .int .u64 0, .string ⟨#[]⟩, .string ⟨#[]⟩, .slice none 0 0] zeroT ?_)
 have G3 := H3.out.lt
 have G4 := B3.out.lt
 have G5 := H3.out.ch.size
 refine st_box rfl 29 _ _ rfl w3.heap.size _ [.slice aI t0.nI cI, .slice aO t0.nO cO, .int .u64 t0.p.amount, .string t0.p.sig, .string t0.p.token, .slice none t0.p.n 0] rfl rfl (Box.new w3 [.slice none 0 0, .slice none 0 0, .int .u64 0, .string ⟨#[]⟩, .string ⟨#[]⟩, .slice none 0 0] 29) rfl (by kernel_rfl) (one6 rfl rfl rfl rfl rfl rfl) ?_
 intro w5 B5 c5
 have X5 : Hid (RX W g W.heap.size [.slice none 0 0, .slice none 0 0, .int .u64 0, .string ⟨#[]⟩, .string ⟨#[]⟩, .slice none 0 0] w3.heap.size [.slice aI t0.nI cI, .slice aO t0.nO cO, .int .u64 t0.p.amount, .string t0.p.sig, .string t0.p.token, .slice none t0.p.n 0] (deP s) w5) := ⟨(H3.out.q ((Q.refl w3).alloc _)).box c5 G5 (by omega), (B3.out.q ((Q.refl w3).alloc _)).ch c5 (by omega), B5, n1, by omega, by omega, l1, G5⟩
 have I5 : Hid (t0.nI = 0 ∨ ∃ b, aI = some ⟨b, 0, none⟩ ∧ w3.heap.size ≠ b ∧ g ≠ b ∧ W.heap.size ≠ b ∧ W.heap.size ≤ b ∧ t0.nI ≤ cI ∧ cI ≤ maxLen ∧ SW w5 b t0.nI t0.ins) := by
  rcases OI.out.shape with ⟨h1, h2, _⟩ | ⟨b, rfl, h2, h3, h4, h5⟩
  · exact .inl h2
  · exact .inr ⟨b, rfl, by omega, by omega, by omega, by omega, h4, h5, ((SW.of OI.out).q ((Q.refl w3).alloc _)).ch c5 (by omega)⟩
 have SO5 : Hid (SL OU.cells 9 w5 aO t0.nO t0.outs ∧ (∀ x, aO = some x → x.block ≠ w3.heap.size ∧ x.block ≠ g ∧ x.block ≠ W.heap.size ∧ ∀ y, aI = some y → y.block ≠ x.block)) := by
  have d : ∀ x, aO = some x → x.block ≠ w3.heap.size ∧ x.block ≠ g ∧ x.block ≠ W.heap.size ∧ ∀ y, aI = some y → y.block ≠ x.block := fun x hx => by
   have := SD.out x hx; exact ⟨by omega, by omega, by omega, fun y hy => NE.out y x hy hx⟩
  exact ⟨((SO.out.q ((Q.refl w3).alloc _))).ch c5 (fun x hx => (d x hx).1), d⟩
 have lb : W.heap.size ≤ w3.heap.size := G5
 generalize w3.heap.size = gb at *
 clear c5 B5 H3 B3 SO SD OI G3 G4 hB g1 g2 g3
 go_wp2_with fail
 refine (X5.out.rs.up.fail_l (p' := pgP s) (by unfold pgP; rw [E0.out])).mono ?_
 rintro r w6 ⟨rfl, h⟩
 have X6 := Lib.hid (X5.out.go h)
 have I6 : Hid (t0.nI = 0 ∨ ∃ b, aI = some ⟨b, 0, none⟩ ∧ gb ≠ b ∧ g ≠ b ∧ W.heap.size ≠ b ∧ W.heap.size ≤ b ∧ t0.nI ≤ cI ∧ cI ≤ maxLen ∧ SW w6 b t0.nI t0.ins) := I5.out.imp id (fun ⟨b, h1, h2, h3, h4, h5, h6, h7, k⟩ => ⟨b, h1, h2, h3, h4, h5, h6, h7, k.ch h.ch h3.symm⟩)
 have S6 : Hid (SL OU.cells 9 w6 aO t0.nO t0.outs ∧ (∀ x, aO = some x → x.block ≠ gb ∧ x.block ≠ g ∧ x.block ≠ W.heap.size ∧ ∀ y, aI = some y → y.block ≠ x.block)) := ⟨SO5.out.1.ch h.ch (fun x hx => (SO5.out.2 x hx).2.1), SO5.out.2⟩
 clear h X5 I5 SO5
 obtain ⟨d0, _⟩ := X6.out.cell 0 rfl
 go_wp2_with fail
 clear d0
 have hn4 : t0.nI ≤ 4 := by rw [← T0.out]; unfold pg0; split; exact coN_le _; exact Nat.zero_le _
 have X7 : Hid (RX W g W.heap.size [.slice none 0 0, .slice none 0 0, .int .u64 0, .string ⟨#[]⟩, .string ⟨#[]⟩, .slice none 0 0] gb [.slice aI t0.nI cI, .slice aO t0.nO cO, .int .u64 t0.p.amount, .string t0.p.sig, .string t0.p.token, .slice none t0.p.n 0] (pgQ s 0) w6) := X6.out
 have I7 : Hid (t0.nI = 0 ∨ ∃ b, aI = some ⟨b, 0, none⟩ ∧ gb ≠ b ∧ g ≠ b ∧ W.heap.size ≠ b ∧ W.heap.size ≤ b ∧ t0.nI ≤ cI ∧ cI ≤ maxLen ∧ SW w6 b t0.nI (pgF s 0)) := I6.out.imp id (fun ⟨b, h1, h2, h3, h4, h5, h6, h7, k⟩ => ⟨b, h1, h2, h3, h4, h5, h6, h7, ⟨fun i hi => by rw [pgF_0, T0.out]; exact k.at_ i hi, k.fz, k.lt⟩⟩)
 clear X6 I6
 go_loopw [7, 23] (fun z i wr => ∃ k : Nat, k ≤ t0.nI ∧ i = .int .i64 k ∧ Hid (RX W g W.heap.size [.slice none 0 0, .slice none 0 0, .int .u64 0, .string ⟨#[]⟩, .string ⟨#[]⟩, .slice none 0 0] gb [.slice aI t0.nI cI, .slice aO t0.nO cO, .int .u64 t0.p.amount, .string t0.p.sig, .string t0.p.token, .slice none t0.p.n 0] (pgQ s k) wr) ∧ Hid (t0.nI = 0 ∨ ∃ b, aI = some ⟨b, 0, none⟩ ∧ gb ≠ b ∧ g ≠ b ∧ W.heap.size ≠ b ∧ W.heap.size ≤ b ∧ t0.nI ≤ cI ∧ cI ≤ maxLen ∧ SW wr b t0.nI (pgF s k)) ∧ Hid (SL OU.cells 9 wr aO t0.nO t0.outs ∧ (∀ x, aO = some x → x.block ≠ gb ∧ x.block ≠ g ∧ x.block ≠ W.heap.size ∧ ∀ y, aI = some y → y.block ≠ x.block))) (fun _ i _ => t0.nI - (intOf i).toNat)
 case atStart => exact ⟨0, by omega, rfl, X7, I7, S6⟩
 case round =>
  obtain ⟨k, hk, rfl, X, I, S⟩ := hrel
  clear X7 I7 S6
  have k0 : (0 : Int) ≤ (k : Int) := by omega
  by_cases hlt : k < t0.nI
  · have k1 : (k : Int) < (t0.nI : Int) := by omega
    obtain ⟨b, rfl, e1, e2, e3, e4, e5, e6, SWk⟩ := I.out.resolve_left (by omega)
    have W0 := Lib.hid SWk
    clear SWk I
    unfold maxLen at e6
    obtain ⟨sg, hsg⟩ : ∃ v, (pgQ s k).blV 400 = v := ⟨_, rfl⟩
    have HC : Hid (∀ p w', RX W g W.heap.size [.slice none 0 0, .slice none 0 0, .int .u64 0, .string ⟨#[]⟩, .string ⟨#[]⟩, .slice none 0 0] gb [.slice (some ⟨b, 0, none⟩) t0.nI cI, .slice aO t0.nO cO, .int .u64 t0.p.amount, .string t0.p.sig, .string t0.p.token, .slice none t0.p.n 0] p w' → w'.cell? ⟨gb, 0, none⟩ = some (.slice (some ⟨b, 0, none⟩) t0.nI cI)) := fun p w' x => (x.cell 0 rfl).1
    have XD := Lib.hid (X.out.q (Q.refl _).drew)
    have WD := Lib.hid (W0.out.q (Q.refl _).drew)
    have SD := Lib.hid (S.out.1.q (Q.refl _).drew)
    have SN := Lib.hid S.out.2
    clear X W0 S
    have c0 := HC.out _ _ XD.out
    go_wp2_with fail
    as_aux_lemma =>
    have b3 : Hid (k < t0.nI) := hlt
    refine wp_region_held_drew (S := fun w' => w'.cell? ⟨gb, 0, none⟩ = some (.slice (some ⟨b, 0, none⟩) t0.nI cI)) (by kernel_rfl) c0 (fun hHeld => ?_)
    refine wtk (i := 0) (v := ?_) (gat rfl) (by kernel_rfl) (by exact fun _ _ _ h => h) (Or.inl ⟨by rfl, ?_⟩) (by assumption) ?_
    rotate_left
    · (intro wx hSw; (try dsimp only at hSw); go_simp; (try rw [if_neg (by omega)]); try (with_reducible rfl))
    try simp only [Act.put, pu]
    refine wtk (i := 1) (v := ?_) (gat rfl) (by kernel_rfl) (by exact fun _ _ _ h => h) (Or.inl ⟨by rfl, ?_⟩) (by assumption) ?_
    rotate_left
    · (intro wx hSw; (try dsimp only at hSw); go_simp; (try rw [if_neg (by omega)]); try (with_reducible rfl))
    try simp only [Act.put, pu]
    refine wtk (i := 2) (v := ?_) (gat rfl) (by kernel_rfl) (by exact fun _ _ _ h => h) (Or.inl ⟨by rfl, ?_⟩) (by assumption) ?_
    rotate_left
    · (intro wx hSw; (try dsimp only at hSw); go_simp; (try rw [if_neg (by omega)]); try (with_reducible rfl))
    try simp only [Act.put, pu]
    refine wtk (i := 3) (v := ?_) (gat rfl) (by kernel_rfl) (by exact fun _ _ _ h => h) (Or.inl ⟨by rfl, ?_⟩) (by assumption) ?_
    rotate_left
    · (intro wx hSw; (try dsimp only at hSw); go_simp; (try rw [if_neg (by omega)]); try (with_reducible rfl))
    try simp only [Act.put, pu]
    refine wpAnyH_ready (rs := [4]) (by kernel_rfl) (by simp) ?_
    refine ar1 (gat rfl) fun K hK => ?_
    go_simp
    refine (XD.out.rs.up.blob_l hsg (p' := pgQ s (k + 1)) rfl).mono ?_
    rintro r w7 ⟨rfl, h⟩
    have XE := Lib.hid (XD.out.go h)
    have WE := Lib.hid (WD.out.ch h.ch e2.symm)
    have SE := Lib.hid (SD.out.ch h.ch (fun x hx => (SN.out x hx).2.1))
    have c1 := HC.out _ _ XE.out
    clear h XD WD SD c0
    dsimp only
    refine hK.out _ _ c1 (fun hHeld4 => ?_)
    clear hK K
    try simp only [Act.put, pu]
    refine wtk (i := 5) (v := ?_) (gat rfl) (by kernel_rfl) (by exact fun _ _ _ h => h) (Or.inl ⟨by rfl, ?_⟩) (by assumption) ?_
    rotate_left
    · (intro wx hSw; (try dsimp only at hSw); go_simp; (try rw [if_neg (by omega)]); try (with_reducible rfl))
    try simp only [Act.put, pu]
    refine wtk (i := 6) (v := ?_) (gat rfl) (by kernel_rfl) (by exact fun _ _ _ h => h) (Or.inl ⟨by rfl, ?_⟩) (by assumption) ?_
    rotate_left
    · (intro wx hSw; (try dsimp only at hSw); go_simp; (try rw [if_neg (by omega)]); try (with_reducible rfl))
    try simp only [Act.put, pu]
    have d3 := WE.out.at_ k b3.out 3 _ rfl
    have f3 := WE.out.fz (k * 4 + 3)
    refine wpAnyH_ready (rs := [7]) (by kernel_rfl) (by simp) ?_
    refine ar1 (gat rfl) fun K hK => ?_
    go_simp
    have c2 : (w7.setCell ⟨b, k * 4 + 3, none⟩ (.string sg)).cell? ⟨gb, 0, none⟩ = some (.slice (some ⟨b, 0, none⟩) t0.nI cI) := by rw [World.cell?_setCell_other (h := by intro x; injection x; omega)]; exact c1
    refine hK.out _ _ c2 (fun _ => ?_)
    clear hK K c1 d3 f3
    try simp only [Act.put, pu]
    have cc := Ch.set w7 b (k * 4 + 3) (.string sg)
    have X4 := Lib.hid (RX.low XE.out cc e1.symm e2.symm e3.symm e4)
    have W4 := Lib.hid (WE.out.sig (f' := pgF s (k + 1)) k b3.out sg (fun i hi => by rw [pgF_s, hsg]))
    have S4 := Lib.hid (SE.out.ch cc (fun x hx => ((SN.out x hx).2.2.2 ⟨b, 0, none⟩ rfl).symm))
    clear cc c2 XE WE SE
    refine wpAnyH_done (by kernel_rfl) ?_ _
    go_wp2_with fail
    go_roundw
    case rel => exact ⟨k + 1, by omega, by go_num, X4, .inr ⟨b, rfl, e1, e2, e3, e4, e5, by unfold maxLen; exact e6, W4.out⟩, ⟨S4.out, SN.out⟩⟩
    case measure => simp [intOf]; omega
  · obtain rfl : k = t0.nI := by omega
    have td : decide (t0.nI < t0.nI) = false := by simp
    clear hlt k0
    as_aux_lemma =>
    obtain ⟨b, hb⟩ : ∃ v, (pgQ s t0.nI).blV 4096 = v := ⟨_, rfl⟩
    have hbz : b.size ≤ 1000000 := by rw [← hb]; have := PS.blV_le 4096 (pgQ s t0.nI); omega
    have V1 : Hid (pgB s = b) := by show _ = _; unfold pgB; rw [T0.out]; exact hb
    have R1 : Hid ((pgQ s t0.nI).blo 4096 = pgR s) := by show _ = _; unfold pgR; rw [T0.out]
    go_wp2_with fail
    refine (X.out.rs.up.blob_l hb R1.out).mono ?_
    rintro r w7 ⟨rfl, h⟩
    have X7 := Lib.hid (X.out.go h)
    have I7 : Hid (t0.nI = 0 ∨ ∃ b, aI = some ⟨b, 0, none⟩ ∧ gb ≠ b ∧ g ≠ b ∧ W.heap.size ≠ b ∧ W.heap.size ≤ b ∧ t0.nI ≤ cI ∧ cI ≤ maxLen ∧ SW w7 b t0.nI (pgF s t0.nI)) := I.out.imp id (fun ⟨b, h1, h2, h3, h4, h5, h6, h7, k⟩ => ⟨b, h1, h2, h3, h4, h5, h6, h7, k.ch h.ch h3.symm⟩)
    have S7 : Hid (SL OU.cells 9 w7 aO t0.nO t0.outs ∧ (∀ x, aO = some x → x.block ≠ gb ∧ x.block ≠ g ∧ x.block ≠ W.heap.size ∧ ∀ y, aI = some y → y.block ≠ x.block)) := ⟨S.out.1.ch h.ch (fun x hx => (S.out.2 x hx).2.1), S.out.2⟩
    clear h X I S hb
    go_wp2_with fail
    refine (ndecode_x b hbz _).mono ?_
    rintro r w8 ⟨aW, cW, rfl, sw, sb, q8⟩
    have hl1 := X7.out.bb.lt
    have hl2 := X7.out.rs.lt
    have hl3 := X7.out.br.lt
    have hl4 := X7.out.rs.ch.size
    have ALW : Hid (∀ x, aW = some x → W.heap.size ≤ x.block) := fun x hx => by have := sb x hx; omega
    have X8 := Lib.hid (X7.out.q q8)
    have I8 : Hid (t0.nI = 0 ∨ ∃ b, aI = some ⟨b, 0, none⟩ ∧ gb ≠ b ∧ g ≠ b ∧ W.heap.size ≠ b ∧ W.heap.size ≤ b ∧ t0.nI ≤ cI ∧ cI ≤ maxLen ∧ SW w8 b t0.nI (pgF s t0.nI)) := I7.out.imp id (fun ⟨b, h1, h2, h3, h4, h5, h6, h7, k⟩ => ⟨b, h1, h2, h3, h4, h5, h6, h7, k.q q8⟩)
    have S8 : Hid (SL OU.cells 9 w8 aO t0.nO t0.outs ∧ (∀ x, aO = some x → x.block ≠ gb ∧ x.block ≠ g ∧ x.block ≠ W.heap.size ∧ ∀ y, aI = some y → y.block ≠ x.block)) := ⟨S7.out.1.q q8, S7.out.2⟩
    have W8 := Lib.hid sw
    have WB : Hid (∀ x, aW = some x → x.block ≠ gb ∧ x.block ≠ g ∧ x.block ≠ W.heap.size) := fun x hx => by
     have := sb x hx
     exact ⟨by omega, by omega, by omega⟩
    obtain ⟨v, hv⟩ : ∃ v, ndV b = v := ⟨_, rfl⟩
    have V2 : Hid (ndV (pgB s) = v) := by show _ = _; rw [V1.out]; exact hv
    rw [hv] at W8 ⊢
    obtain ⟨ne, hne⟩ : ∃ v, ndE b = v := ⟨_, rfl⟩
    have V3 : Hid ((pgR s).fl ne = pgS s) := by show _ = _; unfold pgS; rw [V1.out, hne]
    rw [hne]
    clear sw sb q8 X7 I7 S7 hv hne V1
    as_aux_lemma =>
    go_wp2_with (with_reducible (show wpList _ _ _ (⟨_, Op.store 27 _ _, _, _, _, _⟩ :: _) _ _); refine halt ?_)
    refine Lib.hid (wpList_store_mid rfl 27 _ _ rfl gb 2 #[.int .u64 v.amount, .string v.sig, .string v.token, .slice aW v.n cW] rfl rfl X8.out.bb.there2 (by kernel_rfl) (all_oneCell_toArray (one4 rfl rfl rfl rfl)) ?_)
    have c9 := ch_setCells (b := gb) [.int .u64 v.amount, .string v.sig, .string v.token, .slice aW v.n cW] 2 w8
    have B9 := X8.out.bb.mid (z0 := .int .u64 v.amount) (z1 := .string v.sig) (z2 := .string v.token) (z3 := .slice aW v.n cW)
    show wpList _ _ _ _ _ (w8.setCells gb 2 [.int .u64 v.amount, .string v.sig, .string v.token, .slice aW v.n cW])
    generalize w8.setCells gb 2 [.int .u64 v.amount, .string v.sig, .string v.token, .slice aW v.n cW] = w9 at *
    have X9 := Lib.hid (X8.out.put c9 B9)
    have I9 : Hid (t0.nI = 0 ∨ ∃ b, aI = some ⟨b, 0, none⟩ ∧ gb ≠ b ∧ g ≠ b ∧ W.heap.size ≠ b ∧ W.heap.size ≤ b ∧ t0.nI ≤ cI ∧ cI ≤ maxLen ∧ SW w9 b t0.nI (pgF s t0.nI)) := I8.out.imp id (fun ⟨b, h1, h2, h3, h4, h5, h6, h7, k⟩ => ⟨b, h1, h2, h3, h4, h5, h6, h7, k.ch c9 h2.symm⟩)
    have S9 : Hid (SL OU.cells 9 w9 aO t0.nO t0.outs ∧ (∀ x, aO = some x → x.block ≠ gb ∧ x.block ≠ g ∧ x.block ≠ W.heap.size ∧ ∀ y, aI = some y → y.block ≠ x.block)) := ⟨S8.out.1.ch c9 (fun x hx => (S8.out.2 x hx).1), S8.out.2⟩
    have W9 := Lib.hid (W8.out.ch c9 (fun x hx => (WB.out x hx).1))
    clear c9 B9 X8 I8 S8 W8
    go_wp2_with fail
    refine (X9.out.rs.up.fail_l V3.out).mono ?_
    rintro r w10 ⟨rfl, h⟩
    have X10 := Lib.hid (X9.out.go h)
    have I10 : Hid (t0.nI = 0 ∨ ∃ b, aI = some ⟨b, 0, none⟩ ∧ gb ≠ b ∧ g ≠ b ∧ W.heap.size ≠ b ∧ W.heap.size ≤ b ∧ t0.nI ≤ cI ∧ cI ≤ maxLen ∧ SW w10 b t0.nI (pgF s t0.nI)) := I9.out.imp id (fun ⟨b, h1, h2, h3, h4, h5, h6, h7, k⟩ => ⟨b, h1, h2, h3, h4, h5, h6, h7, k.ch h.ch h3.symm⟩)
    have S10 : Hid (SL OU.cells 9 w10 aO t0.nO t0.outs ∧ (∀ x, aO = some x → x.block ≠ gb ∧ x.block ≠ g ∧ x.block ≠ W.heap.size ∧ ∀ y, aI = some y → y.block ≠ x.block)) := ⟨S9.out.1.ch h.ch (fun x hx => (S9.out.2 x hx).2.1), S9.out.2⟩
    have W10 := Lib.hid (W9.out.ch h.ch (fun x hx => (WB.out x hx).2.1))
    clear h X9 I9 S9 W9
    as_aux_lemma =>
    have N1 : Hid ((pgT s).nI = t0.nI ∧ (pgT s).nO = t0.nO ∧ (pgT s).outs = t0.outs ∧ (pgT s).p = v) := by show _ ∧ _; unfold pgT; dsimp only; rw [V2.out, T0.out]; exact ⟨rfl, rfl, rfl, rfl⟩
    have TX1 : Hid (∀ aI cI aO cO aW cW, txV (pgT s) aI cI aO cO aW cW = .agg #[.slice aI t0.nI cI, .slice aO t0.nO cO, .int .u64 v.amount, .string v.sig, .string v.token, .slice aW v.n cW]) := fun aI cI aO cO aW cW => by show Value.agg _ = _; rw [N1.out.1, N1.out.2.1, N1.out.2.2.2]
    have TM1 : Hid (∀ w, (t0.nI = 0 ∨ ∃ b, aI = some ⟨b, 0, none⟩ ∧ gb ≠ b ∧ g ≠ b ∧ W.heap.size ≠ b ∧ W.heap.size ≤ b ∧ t0.nI ≤ cI ∧ cI ≤ maxLen ∧ SW w b t0.nI (pgF s t0.nI)) → (SL OU.cells 9 w aO t0.nO t0.outs ∧ (∀ x, aO = some x → x.block ≠ gb ∧ x.block ≠ g ∧ x.block ≠ W.heap.size ∧ ∀ y, aI = some y → y.block ≠ x.block)) → SL WN.cells 10 w aW v.n v.w → TM w aI cI aO aW (pgT s)) := fun w hi ho hw => by
     have F : ∀ i, i < t0.nI → pgF s t0.nI i = (pgT s).ins i := fun i hi => by have := pgF_n s i (by rw [T0.out]; exact hi); rw [T0.out] at this; exact this
     refine ⟨?_, ?_, by rw [N1.out.2.1, N1.out.2.2.1]; exact ho.1, by rw [N1.out.2.2.2]; exact hw⟩
     · rw [N1.out.1]
       rcases hi with h0 | ⟨b, rfl, _, _, _, _, _, _, k⟩
       · exact SL.nil h0
       · exact k.sl.congr F
     · rw [N1.out.1]
       rcases hi with h0 | ⟨b, rfl, _, _, _, _, h6, _, k⟩
       · omega
       · exact h6
    have HR : Hid (Calls Tryz.prog 14 #[.agg #[.slice aI t0.nI cI, .slice aO t0.nO cO, .int .u64 v.amount, .string v.sig, .string v.token, .slice aW v.n cW]] w10 (Tells (RightT (pgT s)) w10)) := by show Calls _ _ _ _ _; rw [← TX1.out]; exact right_x (pgT s) aI aO aW cI cO cW w10 (TM1.out _ I10.out S10.out W10.out) (pgT_ok s)
    go_wp2_with (with_reducible (show wpList _ _ _ (⟨_, Op.load 29 _, _, _, _, _⟩ :: _) _ _); refine halt ?_)
    refine Lib.hid (ld_box rfl 29 _ rfl gb _ rfl X10.out.bb Tryz.underlying29 rfl (by kernel_rfl) ?_)
    go_wp2_with fail
    refine HR.out.mono ?_
    rintro r w11 ⟨bb, rfl, hz, q11⟩
    have X11 := Lib.hid (X10.out.q q11)
    have I11 : Hid (t0.nI = 0 ∨ ∃ b, aI = some ⟨b, 0, none⟩ ∧ gb ≠ b ∧ g ≠ b ∧ W.heap.size ≠ b ∧ W.heap.size ≤ b ∧ t0.nI ≤ cI ∧ cI ≤ maxLen ∧ SW w11 b t0.nI (pgF s t0.nI)) := I10.out.imp id (fun ⟨b, h1, h2, h3, h4, h5, h6, h7, k⟩ => ⟨b, h1, h2, h3, h4, h5, h6, h7, k.q q11⟩)
    have S11 : Hid (SL OU.cells 9 w11 aO t0.nO t0.outs ∧ (∀ x, aO = some x → x.block ≠ gb ∧ x.block ≠ g ∧ x.block ≠ W.heap.size ∧ ∀ y, aI = some y → y.block ≠ x.block)) := ⟨S10.out.1.q q11, S10.out.2⟩
    have W11 := Lib.hid (W10.out.q q11)
    clear q11 X10 I10 S10 W10 HR
    have PA := Lib.hid (pg_all s)
    rcases two hz with ⟨rfl, Z⟩ | ⟨rfl, Z⟩
    · have U : Hid (pgS s = pgU s) := by show _ = _; unfold pgU; rw [if_pos Z]
      rw [U.out] at X11
      clear hz Z
      as_aux_lemma =>
      go_wp2_with fail
      refine (X11.out.rs.end_l PA.out.1).mono ?_
      rintro r _ ⟨rfl, rfl⟩
      obtain ⟨ev, hev⟩ : ∃ v, deE IntKind.i64.wrap s = v := ⟨_, rfl⟩
      have PE := Lib.hid hev
      rw [hev]
      clear hev
      by_cases he : ev = 0
      rotate_left
      · have t1 : (ev == 0) = false := by simpa using he
        have t2 : (ev != 0) = true := by simpa using he
        have E1 : Hid (deV IntKind.i64.wrap s = TX.zero) := by show _ = _; unfold deV; rw [if_neg (by rw [PE.out]; exact he)]
        clear he I11 S11 W11
        go_wp2_with (with_reducible (show wpList _ _ _ (⟨_, Op.build 29 _, _, _, _, _⟩ :: _) _ _); refine halt ?_)
        refine Lib.hid (wpl_tzero rfl rfl _ rfl ?_)
        go_wp2_with (with_reducible (show wpList _ _ _ (⟨_, Op.store 29 _ _, _, _, _, _⟩ :: _) _ _); refine halt ?_)
        refine Lib.hid (st_box rfl 29 _ _ rfl W.heap.size _ [.slice none 0 0, .slice none 0 0, .int .u64 0, .string ⟨#[]⟩, .string ⟨#[]⟩, .slice none 0 0] rfl rfl X11.out.br rfl (by kernel_rfl) (one6 rfl rfl rfl rfl rfl rfl) ?_)
        intro w19 B9 c9
        have HL : Hid ((loadVar 29 ⟨W.heap.size, 0, none⟩).run Tryz.prog w19 = .ok (.agg #[.slice none 0 0, .slice none 0 0, .int .u64 0, .string ⟨#[]⟩, .string ⟨#[]⟩, .slice none 0 0]) w19) := B9.load _ Tryz.underlying29 rfl (by kernel_rfl)
        have Q9 : Hid (Q W w19) := (X11.out.rs.box c9 X11.out.l1 X11.out.n1).ch.q (Q.refl W) l3
        clear B9 c9
        go_wp2_with fail
        (try simp only [Exit.inBlock, Exit.then])
        refine bodyPost_ret (results_cell_tmp rfl rfl HL.out) rfl ?_
        exact ⟨none, 0, none, 0, none, 0, by rw [E1.out, PE.out]; rfl, by rw [E1.out]; exact ⟨SL.nil rfl, Nat.le_refl _, SL.nil rfl, SL.nil rfl⟩, Q9.out, fun x h => by rcases h with h | h | h <;> cases h⟩
      subst he
      have E1 : Hid (pgT s = deV IntKind.i64.wrap s) := PA.out.2 (by rw [PA.out.1]; exact PE.out)
      go_wp2_with (with_reducible (show wpList _ _ _ (⟨_, Op.load 29 _, _, _, _, _⟩ :: _) _ _); refine halt ?_)
      refine Lib.hid (ld_box rfl 29 _ rfl gb _ rfl X11.out.bb Tryz.underlying29 rfl (by kernel_rfl) ?_)
      refine st_box rfl 29 _ _ rfl W.heap.size _ [.slice aI t0.nI cI, .slice aO t0.nO cO, .int .u64 v.amount, .string v.sig, .string v.token, .slice aW v.n cW] rfl rfl X11.out.br rfl (by kernel_rfl) (one6 rfl rfl rfl rfl rfl rfl) ?_
      intro w19 B9 c9
      have HL : Hid ((loadVar 29 ⟨W.heap.size, 0, none⟩).run Tryz.prog w19 = .ok (.agg #[.slice aI t0.nI cI, .slice aO t0.nO cO, .int .u64 v.amount, .string v.sig, .string v.token, .slice aW v.n cW]) w19) := B9.load _ Tryz.underlying29 rfl (by kernel_rfl)
      have Q9 : Hid (Q W w19) := (X11.out.rs.box c9 X11.out.l1 X11.out.n1).ch.q (Q.refl W) l3
      have I19 : Hid (t0.nI = 0 ∨ ∃ b, aI = some ⟨b, 0, none⟩ ∧ gb ≠ b ∧ g ≠ b ∧ W.heap.size ≠ b ∧ W.heap.size ≤ b ∧ t0.nI ≤ cI ∧ cI ≤ maxLen ∧ SW w19 b t0.nI (pgF s t0.nI)) := I11.out.imp id (fun ⟨b, h1, h2, h3, h4, h5, h6, h7, k⟩ => ⟨b, h1, h2, h3, h4, h5, h6, h7, k.ch c9 h4.symm⟩)
      have S19 : Hid (SL OU.cells 9 w19 aO t0.nO t0.outs ∧ (∀ x, aO = some x → x.block ≠ gb ∧ x.block ≠ g ∧ x.block ≠ W.heap.size ∧ ∀ y, aI = some y → y.block ≠ x.block)) := ⟨S11.out.1.ch c9 (fun x hx => (S11.out.2 x hx).2.2.1), S11.out.2⟩
      have W19 := Lib.hid (W11.out.ch c9 (fun x hx => (WB.out x hx).2.2))
      clear B9 c9 X11 I11 S11 W11
      go_wp2_with fail
      (try simp only [Exit.inBlock, Exit.then])
      refine bodyPost_ret (results_cell_tmp rfl rfl HL.out) rfl ?_
      exact ⟨aI, cI, aO, cO, aW, cW, by rw [PE.out, ← E1.out, TX1.out]; rfl, by rw [← E1.out]; exact TM1.out _ I19.out S19.out W19.out, Q9.out, fun x h => h.elim (ALI.out x) (fun h => h.elim (ALO.out x) (ALW.out x))⟩
    · have U : Hid ((pgS s).fl 4 = pgU s) := by show _ = _; unfold pgU; rw [if_neg Z]
      clear hz Z
      as_aux_lemma =>
      go_wp2_with fail
      refine (X11.out.rs.up.fail_l U.out).mono ?_
      rintro r w12 ⟨rfl, h⟩
      have X12 := Lib.hid (X11.out.go h)
      have I12 : Hid (t0.nI = 0 ∨ ∃ b, aI = some ⟨b, 0, none⟩ ∧ gb ≠ b ∧ g ≠ b ∧ W.heap.size ≠ b ∧ W.heap.size ≤ b ∧ t0.nI ≤ cI ∧ cI ≤ maxLen ∧ SW w12 b t0.nI (pgF s t0.nI)) := I11.out.imp id (fun ⟨b, h1, h2, h3, h4, h5, h6, h7, k⟩ => ⟨b, h1, h2, h3, h4, h5, h6, h7, k.ch h.ch h3.symm⟩)
      have S12 : Hid (SL OU.cells 9 w12 aO t0.nO t0.outs ∧ (∀ x, aO = some x → x.block ≠ gb ∧ x.block ≠ g ∧ x.block ≠ W.heap.size ∧ ∀ y, aI = some y → y.block ≠ x.block)) := ⟨S11.out.1.ch h.ch (fun x hx => (S11.out.2 x hx).2.1), S11.out.2⟩
      have W12 := Lib.hid (W11.out.ch h.ch (fun x hx => (WB.out x hx).2.1))
      clear h X11 I11 S11 W11
      go_wp2_with fail
      refine (X12.out.rs.end_l PA.out.1).mono ?_
      rintro r _ ⟨rfl, rfl⟩
      obtain ⟨ev, hev⟩ : ∃ v, deE IntKind.i64.wrap s = v := ⟨_, rfl⟩
      have PE := Lib.hid hev
      rw [hev]
      clear hev
      by_cases he : ev = 0
      rotate_left
      · have t1 : (ev == 0) = false := by simpa using he
        have t2 : (ev != 0) = true := by simpa using he
        have E1 : Hid (deV IntKind.i64.wrap s = TX.zero) := by show _ = _; unfold deV; rw [if_neg (by rw [PE.out]; exact he)]
        clear he I12 S12 W12
        go_wp2_with (with_reducible (show wpList _ _ _ (⟨_, Op.build 29 _, _, _, _, _⟩ :: _) _ _); refine halt ?_)
        refine Lib.hid (wpl_tzero rfl rfl _ rfl ?_)
        go_wp2_with (with_reducible (show wpList _ _ _ (⟨_, Op.store 29 _ _, _, _, _, _⟩ :: _) _ _); refine halt ?_)
        refine Lib.hid (st_box rfl 29 _ _ rfl W.heap.size _ [.slice none 0 0, .slice none 0 0, .int .u64 0, .string ⟨#[]⟩, .string ⟨#[]⟩, .slice none 0 0] rfl rfl X12.out.br rfl (by kernel_rfl) (one6 rfl rfl rfl rfl rfl rfl) ?_)
        intro w19 B9 c9
        have HL : Hid ((loadVar 29 ⟨W.heap.size, 0, none⟩).run Tryz.prog w19 = .ok (.agg #[.slice none 0 0, .slice none 0 0, .int .u64 0, .string ⟨#[]⟩, .string ⟨#[]⟩, .slice none 0 0]) w19) := B9.load _ Tryz.underlying29 rfl (by kernel_rfl)
        have Q9 : Hid (Q W w19) := (X12.out.rs.box c9 X12.out.l1 X12.out.n1).ch.q (Q.refl W) l3
        clear B9 c9
        go_wp2_with fail
        (try simp only [Exit.inBlock, Exit.then])
        refine bodyPost_ret (results_cell_tmp rfl rfl HL.out) rfl ?_
        exact ⟨none, 0, none, 0, none, 0, by rw [E1.out, PE.out]; rfl, by rw [E1.out]; exact ⟨SL.nil rfl, Nat.le_refl _, SL.nil rfl, SL.nil rfl⟩, Q9.out, fun x h => by rcases h with h | h | h <;> cases h⟩
      subst he
      have E1 : Hid (pgT s = deV IntKind.i64.wrap s) := PA.out.2 (by rw [PA.out.1]; exact PE.out)
      go_wp2_with (with_reducible (show wpList _ _ _ (⟨_, Op.load 29 _, _, _, _, _⟩ :: _) _ _); refine halt ?_)
      refine Lib.hid (ld_box rfl 29 _ rfl gb _ rfl X12.out.bb Tryz.underlying29 rfl (by kernel_rfl) ?_)
      refine st_box rfl 29 _ _ rfl W.heap.size _ [.slice aI t0.nI cI, .slice aO t0.nO cO, .int .u64 v.amount, .string v.sig, .string v.token, .slice aW v.n cW] rfl rfl X12.out.br rfl (by kernel_rfl) (one6 rfl rfl rfl rfl rfl rfl) ?_
      intro w19 B9 c9
      have HL : Hid ((loadVar 29 ⟨W.heap.size, 0, none⟩).run Tryz.prog w19 = .ok (.agg #[.slice aI t0.nI cI, .slice aO t0.nO cO, .int .u64 v.amount, .string v.sig, .string v.token, .slice aW v.n cW]) w19) := B9.load _ Tryz.underlying29 rfl (by kernel_rfl)
      have Q9 : Hid (Q W w19) := (X12.out.rs.box c9 X12.out.l1 X12.out.n1).ch.q (Q.refl W) l3
      have I19 : Hid (t0.nI = 0 ∨ ∃ b, aI = some ⟨b, 0, none⟩ ∧ gb ≠ b ∧ g ≠ b ∧ W.heap.size ≠ b ∧ W.heap.size ≤ b ∧ t0.nI ≤ cI ∧ cI ≤ maxLen ∧ SW w19 b t0.nI (pgF s t0.nI)) := I12.out.imp id (fun ⟨b, h1, h2, h3, h4, h5, h6, h7, k⟩ => ⟨b, h1, h2, h3, h4, h5, h6, h7, k.ch c9 h4.symm⟩)
      have S19 : Hid (SL OU.cells 9 w19 aO t0.nO t0.outs ∧ (∀ x, aO = some x → x.block ≠ gb ∧ x.block ≠ g ∧ x.block ≠ W.heap.size ∧ ∀ y, aI = some y → y.block ≠ x.block)) := ⟨S12.out.1.ch c9 (fun x hx => (S12.out.2 x hx).2.2.1), S12.out.2⟩
      have W19 := Lib.hid (W12.out.ch c9 (fun x hx => (WB.out x hx).2.2))
      clear B9 c9 X12 I12 S12 W12
      go_wp2_with fail
      (try simp only [Exit.inBlock, Exit.then])
      refine bodyPost_ret (results_cell_tmp rfl rfl HL.out) rfl ?_
      exact ⟨aI, cI, aO, cO, aW, cW, by rw [PE.out, ← E1.out, TX1.out]; rfl, by rw [← E1.out]; exact TM1.out _ I19.out S19.out W19.out, Q9.out, fun x h => h.elim (ALI.out x) (fun h => h.elim (ALO.out x) (ALW.out x))⟩
/-- What coin.Decode answers. -/
def DEo (s : ByteArray) (W : World) (r : Ending) (w' : World) : Prop := ∃ aI cI aO cO aW cW, r = .returned (.tuple #[txV (deV IntKind.i64.wrap s) aI cI aO cO aW cW, .int .i64 (deE IntKind.i64.wrap s)]) ∧ TM w' aI cI aO aW (deV IntKind.i64.wrap s) ∧ Q W w'
end Go.Proofs.YtobfgljkckcmcaaGreatDoor.Coi
