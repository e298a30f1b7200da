import Derived.Test.YtobfgljkckcmcaaGreatDoorYJDec8
set_option maxRecDepth 100000
namespace Go.Proofs.YtobfgljkckcmcaaGreatDoor.Coi
open Go.RowKit
open Mem Num Cod Plan
set_option linter.unusedVariables false
set_option linter.unusedSimpArgs false
theorem zeroDTx (w : World) : (zeroValue 43).run Tryz.prog w = .ok (.agg #[.slice none 0 0, .slice none 0 0, .int .u64 0, .string ⟨#[]⟩, .string ⟨#[]⟩, .slice none 0 0]) w := by
 have h : (Tryz.prog.info? 43).bind (·.zero) = some (.agg #[.slice none 0 0, .slice none 0 0, .int .u64 0, .string ⟨#[]⟩, .string ⟨#[]⟩, .slice none 0 0]) := by kernel_rfl
 cases hi : Tryz.prog.info? 43 with
 | none => rw [hi] at h; cases h
 | some i => rw [hi] at h; simp [zeroValue, typeInfo, hi, show i.zero = some (.agg #[.slice none 0 0, .slice none 0 0, .int .u64 0, .string ⟨#[]⟩, .string ⟨#[]⟩, .slice none 0 0]) from h]
theorem built_dtxp (v0 : Int) (v1 v2 : ByteArray) (v3 : Option Addr) (v4 v5 : Nat) : Tryz.prog.built 43 [(2, .agg #[.int .u64 v0, .string v1, .string v2, .slice v3 v4 v5])] = some #[.slice none 0 0, .slice none 0 0, .int .u64 v0, .string v1, .string v2, .slice v3 v4 v5] := by kernel_rfl
theorem wpl_dtxp {ops : Array Oper} {rest : List Oper} {o : Oper} {a : Act} {w : World} {Q : Exit → Act → World → Prop} (hg : o.guard = none) {n0 : Nat} (v0 : Int) (v1 v2 : ByteArray) (v3 : Option Addr) (v4 v5 : Nat) (ho : o.op = .build 43 #[(2, .tmp n0)]) (d : Option Tmp) (hd : o.dst = d) (h0 : a.eval (.tmp n0) = .agg #[.int .u64 v0, .string v1, .string v2, .slice v3 v4 v5]) (h : wpList Tryz.prog ops Q rest (a.put d (.agg #[.slice none 0 0, .slice none 0 0, .int .u64 v0, .string v1, .string v2, .slice v3 v4 v5])) w) : wpList Tryz.prog ops Q (o :: rest) a w := by
 refine wpList_buildTo hg 43 _ ho d hd _ ?_ h
 simp only [List.map_toArray, List.map_cons, List.map_nil, h0]
 exact built_dtxp v0 v1 v2 v3 v4 v5
theorem built_din (v0 : ByteArray) (v1 v2 : Int) (v3 : ByteArray) : Tryz.prog.built 88 [(0, .agg #[.string v0, .int .i64 v1]), (1, .int .i64 v2), (2, .string v3)] = some #[.string v0, .int .i64 v1, .int .i64 v2, .string v3] := by kernel_rfl
theorem info_dinn : (Tryz.prog.info? 88).map (fun i => (i.zero, i.size, i.bytes)) = some (some (.agg #[.string ⟨#[]⟩, .int .i64 0, .int .i64 0, .string ⟨#[]⟩]), 4, 48) := by kernel_rfl
theorem fill_dinn (v0 : ByteArray) (v1 v2 : Int) (v3 : ByteArray) : Instr.fill (fun i => some (i * 4, 4)) ((Array.range (1 * 4)).map ((Value.agg #[.string ⟨#[]⟩, .int .i64 0, .int .i64 0, .string ⟨#[]⟩]).cells[· % (Value.agg #[.string ⟨#[]⟩, .int .i64 0, .int .i64 0, .string ⟨#[]⟩]).cells.size]!)) [(0, .agg #[.string v0, .int .i64 v1, .int .i64 v2, .string v3])] = some #[.string v0, .int .i64 v1, .int .i64 v2, .string v3] := by kernel_rfl
theorem wpo_rowdinn {o : Oper} {a : Act} {w : World} {K : Act → World → Prop} {Q : Exit → Act → World → Prop} {n0 : Nat} (v0 : ByteArray) (v1 v2 : Int) (v3 : ByteArray) (ho : o.op = .buildSlice 37 1 #[(0, .tmp n0)]) (h0 : a.eval (.tmp n0) = .agg #[.string v0, .int .i64 v1, .int .i64 v2, .string v3])
 (h : K (a.put o.dst (.slice (some ⟨w.heap.size, 0, none⟩) 1 1)) (w.alloc (.cells #[.string v0, .int .i64 v1, .int .i64 v2, .string v3] 88))) : o.wp Tryz.prog a w K Q := by
 obtain ⟨i0, hi0, hz0, hz1, hz2⟩ := info_of info_dinn
 refine wp_buildSlice 37 88 1 _ ho #[.string v0, .int .i64 v1, .int .i64 v2, .string v3] i0 _ Tryz.underlying37 hi0 hz0 (by rw [hz1]; decide) (by rw [hz1]; decide) ?_ h
 rw [hz1]
 simp only [List.map_toArray, List.map_cons, List.map_nil, h0]
 exact fill_dinn v0 v1 v2 v3
theorem info_dout : (Tryz.prog.info? 49).map (fun i => (i.zero, i.size, i.bytes)) = some (some (.agg #[.int .i64 0, .int .u64 0, .string ⟨#[]⟩, .string ⟨#[]⟩, .int .i64 0, .string ⟨#[]⟩, .int .u64 0, .int .i64 0, .string ⟨#[]⟩]), 9, 104) := by kernel_rfl
theorem fill_dout (v0 v1 : Int) (v2 v3 : ByteArray) (v4 : Int) (v5 : ByteArray) (v6 v7 : Int) (v8 : ByteArray) : Instr.fill (fun i => some (i * 9, 9)) ((Array.range (1 * 9)).map ((Value.agg #[.int .i64 0, .int .u64 0, .string ⟨#[]⟩, .string ⟨#[]⟩, .int .i64 0, .string ⟨#[]⟩, .int .u64 0, .int .i64 0, .string ⟨#[]⟩]).cells[· % (Value.agg #[.int .i64 0, .int .u64 0, .string ⟨#[]⟩, .string ⟨#[]⟩, .int .i64 0, .string ⟨#[]⟩, .int .u64 0, .int .i64 0, .string ⟨#[]⟩]).cells.size]!)) [(0, .agg #[.int .i64 v0, .int .u64 v1, .string v2, .string v3, .int .i64 v4, .string v5, .int .u64 v6, .int .i64 v7, .string v8])] = some #[.int .i64 v0, .int .u64 v1, .string v2, .string v3, .int .i64 v4, .string v5, .int .u64 v6, .int .i64 v7, .string v8] := by kernel_rfl
theorem wpo_rowdout {o : Oper} {a : Act} {w : World} {K : Act → World → Prop} {Q : Exit → Act → World → Prop} {n0 : Nat} (v0 v1 : Int) (v2 v3 : ByteArray) (v4 : Int) (v5 : ByteArray) (v6 v7 : Int) (v8 : ByteArray) (ho : o.op = .buildSlice 38 1 #[(0, .tmp n0)]) (h0 : a.eval (.tmp n0) = .agg #[.int .i64 v0, .int .u64 v1, .string v2, .string v3, .int .i64 v4, .string v5, .int .u64 v6, .int .i64 v7, .string v8])
 (h : K (a.put o.dst (.slice (some ⟨w.heap.size, 0, none⟩) 1 1)) (w.alloc (.cells #[.int .i64 v0, .int .u64 v1, .string v2, .string v3, .int .i64 v4, .string v5, .int .u64 v6, .int .i64 v7, .string v8] 49))) : o.wp Tryz.prog a w K Q := by
 obtain ⟨i0, hi0, hz0, hz1, hz2⟩ := info_of info_dout
 refine wp_buildSlice 38 49 1 _ ho #[.int .i64 v0, .int .u64 v1, .string v2, .string v3, .int .i64 v4, .string v5, .int .u64 v6, .int .i64 v7, .string v8] i0 _ Tryz.underlying38 hi0 hz0 (by rw [hz1]; decide) (by rw [hz1]; decide) ?_ h
 rw [hz1]
 simp only [List.map_toArray, List.map_cons, List.map_nil, h0]
 exact fill_dout v0 v1 v2 v3 v4 v5 v6 v7 v8
theorem one6d {v0 v1 v2 v3 v4 v5 : Value} (h0 : v0.oneCell' = true) (h1 : v1.oneCell' = true) (h2 : v2.oneCell' = true) (h3 : v3.oneCell' = true) (h4 : v4.oneCell' = true) (h5 : v5.oneCell' = true) : ∀ v ∈ [v0, v1, v2, v3, v4, v5], v.oneCell' = true := by
 intro v hv; simp at hv; rcases hv with rfl | rfl | rfl | rfl | rfl | rfl <;> assumption
theorem OR.downd {α : Type} {t : TypeId} {C : α → List Value} {k : Nat} {w : World} {B B' : Nat} {a : Option Addr} {n cap : Nat} {f : Nat → α} (h : OR t C k w B a n cap f) (hb : B' ≤ B) : OR t C k w B' a n cap f := by
 obtain ⟨h1, h2 | ⟨g, c, cur, h3, h4, h5⟩⟩ := h
 · exact ⟨h1, .inl h2⟩
 · exact ⟨h1, .inr ⟨g, c, cur, h3, Nat.le_trans hb h4, h5⟩⟩
/-- Records of one's own that hold a transaction of the document's. -/
structure DT (w : World) (B : Nat) (t : TX) (aI : Option Addr) (cI : Nat) (aO : Option Addr) (cO : Nat) (aW : Option Addr) (cW : Nat) : Prop where
 i : OR 88 IN.cells 4 w B aI t.nI cI t.ins
 o : OR 49 OU.cells 9 w B aO t.nO cO t.outs
 w : OR 141 WN.cells 10 w B aW t.p.n cW t.p.w
set_option maxHeartbeats 4000000 in
theorem ref9_x (t : TX) (aI : Option Addr) (cI : Nat) (aO : Option Addr) (cO : Nat) (aW : Option Addr) (cW : Nat) (w0 : World) (hi : SL IN.cells 4 w0 aI t.nI t.ins) (ho : SL OU.cells 9 w0 aO t.nO t.outs) (hw : SL WN.cells 10 w0 aW t.p.n t.p.w) (zI : t.nI ≤ 100) (zO : t.nO ≤ 100) (zW : t.p.n ≤ 100) :
 Calls Tryz.prog 8 #[txV t aI cI aO cO aW cW] w0 fun e w' => ∃ aI2 cI2 aO2 cO2 aW2 cW2, e = .returned (txV t aI2 cI2 aO2 cO2 aW2 cW2) ∧ DT w' w0.heap.size t aI2 cI2 aO2 cO2 aW2 cW2 ∧ Q w0 w' := by
 obtain ⟨nI, FI, nO, FO, pf⟩ := t
 obtain ⟨am, sg, tk, nW, FW⟩ := pf
 dsimp only at hi ho hw zI zO zW
 have HI := Lib.hid hi
 have HO := Lib.hid ho
 have HW := Lib.hid hw
 clear hi ho hw
 have HQ : Hid (Q w0 ((w0.alloc (.cells #[.slice aI nI cI, .slice aO nO cO, .int .u64 am, .string sg, .string tk, .slice aW nW cW] 29)).alloc (.cells #[.slice none 0 0, .slice none 0 0, .int .u64 0, .string ⟨#[]⟩, .string ⟨#[]⟩, .slice none 0 0] 43))) := ((Q.refl w0).alloc _).alloc _
 have B1 : Hid (Box ((w0.alloc (.cells #[.slice aI nI cI, .slice aO nO cO, .int .u64 am, .string sg, .string tk, .slice aW nW cW] 29)).alloc (.cells #[.slice none 0 0, .slice none 0 0, .int .u64 0, .string ⟨#[]⟩, .string ⟨#[]⟩, .slice none 0 0] 43)) w0.heap.size [.slice aI nI cI, .slice aO nO cO, .int .u64 am, .string sg, .string tk, .slice aW nW cW]) := (Box.new w0 [.slice aI nI cI, .slice aO nO cO, .int .u64 am, .string sg, .string tk, .slice aW nW cW] 29).q ((Q.refl _).alloc _)
 have B2 : Hid (Box ((w0.alloc (.cells #[.slice aI nI cI, .slice aO nO cO, .int .u64 am, .string sg, .string tk, .slice aW nW cW] 29)).alloc (.cells #[.slice none 0 0, .slice none 0 0, .int .u64 0, .string ⟨#[]⟩, .string ⟨#[]⟩, .slice none 0 0] 43)) (w0.heap.size + 1) [.slice none 0 0, .slice none 0 0, .int .u64 0, .string ⟨#[]⟩, .string ⟨#[]⟩, .slice none 0 0]) := by
  have := Box.new (w0.alloc (.cells #[.slice aI nI cI, .slice aO nO cO, .int .u64 am, .string sg, .string tk, .slice aW nW cW] 29)) [.slice none 0 0, .slice none 0 0, .int .u64 0, .string ⟨#[]⟩, .string ⟨#[]⟩, .slice none 0 0] 43
  rw [show (w0.alloc (.cells #[.slice aI nI cI, .slice aO nO cO, .int .u64 am, .string sg, .string tk, .slice aW nW cW] 29)).heap.size = w0.heap.size + 1 by simp] at this
  exact this
 go_enter Tryz.func8, Tryz.ntmps8
 go_wp2_with (with_reducible (show wpList _ _ _ (⟨_, Op.load 27 _, _, _, _, _⟩ :: _) _ _); refine halt ?_)
 generalize (w0.alloc (.cells #[.slice aI nI cI, .slice aO nO cO, .int .u64 am, .string sg, .string tk, .slice aW nW cW] 29)).alloc (.cells #[.slice none 0 0, .slice none 0 0, .int .u64 0, .string ⟨#[]⟩, .string ⟨#[]⟩, .slice none 0 0] 43) = wA at *
 obtain ⟨b2, hb⟩ : ∃ b, w0.heap.size + 1 = b := ⟨_, rfl⟩
 rw [hb] at B2 ⊢
 obtain ⟨b1, hb1⟩ : ∃ b, w0.heap.size = b := ⟨_, rfl⟩
 rw [hb1] at B1 ⊢
 refine Lib.hid (wpList_load_mid rfl 27 _ rfl b1 2 rfl [.int .u64 am, .string sg, .string tk, .slice aW nW cW] _ (B1.out.rangeo 2 (r := []) rfl) Tryz.underlying27 rfl (by kernel_rfl) ?_)
 go_wp2_with fail
 refine (ref8_x ⟨am, sg, tk, nW, FW⟩ aW cW _ (HW.out.q HQ.out) zW).mono ?_
 rintro e w1 ⟨aV, cV, rfl, ow, q1⟩
 dsimp only at ow
 go_wp2_with (with_reducible (show wpList _ _ _ (⟨_, Op.build 43 _, _, _, _, _⟩ :: _) _ _); refine halt ?_)
 refine Lib.hid (wpl_dtxp rfl am sg tk aV nW cV rfl _ rfl rfl ?_)
 refine wpList_allocZ rfl 43 rfl #[.slice none 0 0, .slice none 0 0, .int .u64 0, .string ⟨#[]⟩, .string ⟨#[]⟩, .slice none 0 0] zeroDTx ?_
 refine st_box rfl 43 _ _ rfl w1.heap.size _ [.slice none 0 0, .slice none 0 0, .int .u64 am, .string sg, .string tk, .slice aV nW cV] rfl rfl (Box.new w1 [.slice none 0 0, .slice none 0 0, .int .u64 0, .string ⟨#[]⟩, .string ⟨#[]⟩, .slice none 0 0] 43) rfl (by kernel_rfl) (one6d rfl rfl rfl rfl rfl rfl) ?_
 intro w3 B3 c3
 have l1 := B1.out.lt
 have l2 := B2.out.lt
 have s0 := HQ.out.size
 have s1 := q1.size
 have qA : Q w1 (w1.alloc (.cells #[.slice none 0 0, .slice none 0 0, .int .u64 0, .string ⟨#[]⟩, .string ⟨#[]⟩, .slice none 0 0] 43)) := (Q.refl w1).alloc _
 have C1 := Lib.hid (((B1.out.q q1).q qA).ch c3 (show b1 ≠ w1.heap.size by omega))
 have C2 := Lib.hid (((B2.out.q q1).q qA).ch c3 (show b2 ≠ w1.heap.size by omega))
 have C3 := Lib.hid B3
 have hwb : ∀ x, aV = some x → wA.heap.size ≤ x.block ∧ x.block < w1.heap.size := fun x hx => ow.blk_ x hx
 have OW := Lib.hid (((ow.q qA).ch c3 (fun x hx => by have := (hwb x hx).2; omega)).downd s0)
 have AB0 : Hid (∀ x, aV = some x → x.block ≠ w1.heap.size) := fun x hx => by have := (hwb x hx).2; omega
 have AB2 : Hid (∀ x, aV = some x → x.block ≠ b2) := fun x hx => by have := (hwb x hx).1; omega
 have Q3 : Hid (Q w0 w3) := c3.q ((HQ.out.trans q1).trans qA) (by omega)
 have n13 : b1 ≠ w1.heap.size := by omega
 have n23 : b2 ≠ w1.heap.size := by omega
 have hb30 : w0.heap.size ≤ w1.heap.size := by omega
 have hb20 : w0.heap.size ≤ b2 := by omega
 generalize w1.heap.size = b3 at *
 clear c3 B3 B1 B2 HQ qA hb hb1 l1 l2 s0 s1 ow q1 hwb HW
 as_aux_lemma =>
 go_wp2_with fail
 have OA := Lib.hid (OR.nil 88 IN.cells 4 w3 w0.heap.size FI)
 obtain ⟨i0, hi0, hz0, hz1, hz2⟩ := info_of info_dinn
 go_loopw [4] (fun i wr => ∃ (k : Nat) (ad : Option Addr) (c : Nat), k ≤ nI ∧ i = .int .i64 k ∧ Hid (OR 88 IN.cells 4 wr w0.heap.size ad k c FI) ∧ Hid (Box wr b3 [.slice ad k c, .slice none 0 0, .int .u64 am, .string sg, .string tk, .slice aV nW cV]) ∧ Hid (Box wr b1 [.slice aI nI cI, .slice aO nO cO, .int .u64 am, .string sg, .string tk, .slice aW nW cW]) ∧ Hid (Box wr b2 [.slice none 0 0, .slice none 0 0, .int .u64 0, .string ⟨#[]⟩, .string ⟨#[]⟩, .slice none 0 0]) ∧ Hid (∀ x, ad = some x → x.block ≠ b1 ∧ x.block ≠ b2 ∧ x.block ≠ b3) ∧ Hid (Q w0 wr) ∧ Hid (OR 141 WN.cells 10 wr w0.heap.size aV nW cV FW) ∧ Hid (Apart ad aV)) (fun i _ => nI - (intOf i).toNat)
 case atStart => exact ⟨0, none, 0, by omega, rfl, OA, C3, C1, C2, Lib.hid (fun x h => by cases h), Q3, OW, Lib.hid (fun x y h => by cases h)⟩
 case round =>
 obtain ⟨k, ad, c, hk, rfl, O, D3, D1, D2, AP, QR, OX, AX⟩ := hrel
 clear C1 C2 C3 Q3 OA OW
 have k0 : (0 : Int) ≤ (k : Int) := by omega
 have m3 := D1.out.at_ 0 _ rfl
 by_cases hlt : k < nI
 · have k1 : (k : Int) < (nI : Int) := by omega
   go_wp2_with fail
   clear m3
   obtain ⟨b, off, hab, hrow⟩ := (HI.out.q QR.out).some_ (by omega)
   obtain ⟨yy, hy⟩ : ∃ z, FI k = z := ⟨_, rfl⟩
   have HKy : Hid (FI k = yy) := hy
   have hrow := hrow k hlt
   rw [hy] at hrow
   have RW : Hid (∀ w', Q wr w' → ∀ j v, (IN.cells yy)[j]? = some v → w'.cell? ⟨b, off + k * 4 + j, none⟩ = some v) := fun w' q j v hv => Q.cell' q (hrow j v hv)
   clear hy hrow
   obtain ⟨gp, hg1, hg2⟩ : ∃ gp, (∀ x, ad = some x → x.block = gp) ∧ gp < wr.heap.size := by
    rcases O.out.shape with ⟨e, _⟩ | ⟨g, e, _, hl, _⟩
    · exact ⟨b3, (fun x hx => by rw [e] at hx; cases hx), D3.out.lt⟩
    · exact ⟨g, (fun x hx => by rw [e] at hx; injection hx with hx; rw [← hx]), hl⟩
   as_aux_lemma =>
   have hS0 : Q wr wr.drew := (Q.refl wr).drew
   refine region_gen3 ?_
   intro OPS QQ A0 hO hQQ hA
   have hz : A0.tmps.size = 60 := by rw [hA]; rfl
   have hs : sound OPS A0.tmps.size = true := by rw [hz, hO]; kernel_rfl
   have bz_1 : A0.eval (.tmp 1) = .pointer (some ⟨b1, 0, none⟩) := by rw [hA]; rfl
   have frz_1 : free OPS 1 = true := by rw [hO]; kernel_rfl
   have bz_3 : A0.eval (.tmp 3) = .pointer (some ⟨b3, 0, none⟩) := by rw [hA]; rfl
   have frz_3 : free OPS 3 = true := by rw [hO]; kernel_rfl
   have bz_4 : A0.eval (.tmp 4) = .int .i64 k := by rw [hA]; rfl
   have frz_4 : free OPS 4 = true := by rw [hO]; kernel_rfl
   obtain ⟨VV, hVV⟩ : ∃ V : Nat → Value → World → Prop, V = fun i => ([fun v _ => v = .pointer (some ⟨b3, 0, none⟩), fun v _ => v = .slice ad k c, fun v _ => v = .pointer (some ⟨b1, 0, none⟩), fun v _ => v = .slice aI nI cI, fun v _ => v = .int .i64 k, fun v _ => v = .pointer (some ⟨b, off + k * 4, none⟩), fun v _ => v = .pointer (some ⟨b, off + k * 4, none⟩), fun v _ => v = .agg #[.string yy.tx, .int .i64 yy.out], fun v _ => v = .pointer (some ⟨b1, 0, none⟩), fun v _ => v = .slice aI nI cI, fun v _ => v = .int .i64 k, fun v _ => v = .pointer (some ⟨b, off + k * 4, none⟩), fun v _ => v = .pointer (some ⟨b, off + k * 4 + 2, none⟩), fun v _ => v = .int .i64 yy.path, fun v _ => v = .pointer (some ⟨b1, 0, none⟩), fun v _ => v = .slice aI nI cI, fun v _ => v = .int .i64 k, fun v _ => v = .pointer (some ⟨b, off + k * 4, none⟩), fun v _ => v = .pointer (some ⟨b, off + k * 4 + 3, none⟩), fun v _ => v = .string yy.sig, fun v _ => v = .agg #[.string yy.tx, .int .i64 yy.out, .int .i64 yy.path, .string yy.sig], fun v w => ∃ g, v = .slice (some ⟨g, 0, none⟩) 1 1 ∧ g ≠ gp ∧ ∀ j u, (IN.cells yy)[j]? = some u → w.cell? ⟨g, j, none⟩ = some u, fun v w' => ∃ g' c', v = .slice (some ⟨g', 0, none⟩) (k + 1) c' ∧ OR 88 IN.cells 4 w' w0.heap.size (some ⟨g', 0, none⟩) (k + 1) c' FI ∧ Box w' b3 [.slice ad k c, .slice none 0 0, .int .u64 am, .string sg, .string tk, .slice aV nW cV] ∧ Box w' b1 [.slice aI nI cI, .slice aO nO cO, .int .u64 am, .string sg, .string tk, .slice aW nW cW] ∧ Box w' b2 [.slice none 0 0, .slice none 0 0, .int .u64 0, .string ⟨#[]⟩, .string ⟨#[]⟩, .slice none 0 0] ∧ (g' ≠ b1 ∧ g' ≠ b2 ∧ g' ≠ b3) ∧ Q w0 w' ∧ OR 141 WN.cells 10 w' w0.heap.size aV nW cV FW ∧ Apart (some ⟨g', 0, none⟩) aV, fun v _ => v = .pointer (some ⟨b3, 0, none⟩)] : List (Value → World → Prop)).getD i (fun _ _ => True) := ⟨_, rfl⟩
   have vz_0 : VV 0 = fun v _ => v = .pointer (some ⟨b3, 0, none⟩) := vat hVV 0
   have vz_1 : VV 1 = fun v _ => v = .slice ad k c := vat hVV 1
   have vz_2 : VV 2 = fun v _ => v = .pointer (some ⟨b1, 0, none⟩) := vat hVV 2
   have vz_3 : VV 3 = fun v _ => v = .slice aI nI cI := vat hVV 3
   have vz_4 : VV 4 = fun v _ => v = .int .i64 k := vat hVV 4
   have vz_5 : VV 5 = fun v _ => v = .pointer (some ⟨b, off + k * 4, none⟩) := vat hVV 5
   have vz_6 : VV 6 = fun v _ => v = .pointer (some ⟨b, off + k * 4, none⟩) := vat hVV 6
   have vz_7 : VV 7 = fun v _ => v = .agg #[.string yy.tx, .int .i64 yy.out] := vat hVV 7
   have vz_8 : VV 8 = fun v _ => v = .pointer (some ⟨b1, 0, none⟩) := vat hVV 8
   have vz_9 : VV 9 = fun v _ => v = .slice aI nI cI := vat hVV 9
   have vz_10 : VV 10 = fun v _ => v = .int .i64 k := vat hVV 10
   have vz_11 : VV 11 = fun v _ => v = .pointer (some ⟨b, off + k * 4, none⟩) := vat hVV 11
   have vz_12 : VV 12 = fun v _ => v = .pointer (some ⟨b, off + k * 4 + 2, none⟩) := vat hVV 12
   have vz_13 : VV 13 = fun v _ => v = .int .i64 yy.path := vat hVV 13
   have vz_14 : VV 14 = fun v _ => v = .pointer (some ⟨b1, 0, none⟩) := vat hVV 14
   have vz_15 : VV 15 = fun v _ => v = .slice aI nI cI := vat hVV 15
   have vz_16 : VV 16 = fun v _ => v = .int .i64 k := vat hVV 16
   have vz_17 : VV 17 = fun v _ => v = .pointer (some ⟨b, off + k * 4, none⟩) := vat hVV 17
   have vz_18 : VV 18 = fun v _ => v = .pointer (some ⟨b, off + k * 4 + 3, none⟩) := vat hVV 18
   have vz_19 : VV 19 = fun v _ => v = .string yy.sig := vat hVV 19
   have vz_20 : VV 20 = fun v _ => v = .agg #[.string yy.tx, .int .i64 yy.out, .int .i64 yy.path, .string yy.sig] := vat hVV 20
   have vz_21 : VV 21 = fun v w => ∃ g, v = .slice (some ⟨g, 0, none⟩) 1 1 ∧ g ≠ gp ∧ ∀ j u, (IN.cells yy)[j]? = some u → w.cell? ⟨g, j, none⟩ = some u := vat hVV 21
   have vz_22 : VV 22 = fun v w' => ∃ g' c', v = .slice (some ⟨g', 0, none⟩) (k + 1) c' ∧ OR 88 IN.cells 4 w' w0.heap.size (some ⟨g', 0, none⟩) (k + 1) c' FI ∧ Box w' b3 [.slice ad k c, .slice none 0 0, .int .u64 am, .string sg, .string tk, .slice aV nW cV] ∧ Box w' b1 [.slice aI nI cI, .slice aO nO cO, .int .u64 am, .string sg, .string tk, .slice aW nW cW] ∧ Box w' b2 [.slice none 0 0, .slice none 0 0, .int .u64 0, .string ⟨#[]⟩, .string ⟨#[]⟩, .slice none 0 0] ∧ (g' ≠ b1 ∧ g' ≠ b2 ∧ g' ≠ b3) ∧ Q w0 w' ∧ OR 141 WN.cells 10 w' w0.heap.size aV nW cV FW ∧ Apart (some ⟨g', 0, none⟩) aV := vat hVV 22
   have vz_23 : VV 23 = fun v _ => v = .pointer (some ⟨b3, 0, none⟩) := vat hVV 23
   have hV := stablex_of (T := Ch gp) (p := 22) hVV ((kx (kx (kx (kx (kx (kx (kx (kx (kx (kx (kx (kx (kx (kx (kx (kx (kx (kx (kx (kx (kx (sx_cons (fun v w w' h t => by obtain ⟨g, h1, h2, h3⟩ := h; exact ⟨g, h1, h2, fun j u hj => t.cell (h3 j u hj) h2⟩) (sx_skip rfl (kx trivial)))))))))))))))))))))))))
   clear hVV
   have iz_0 := pget_at hO 0 rfl
   have iz_1 := pget_at hO 1 rfl
   have iz_2 := pget_at hO 2 rfl
   have iz_3 := pget_at hO 3 rfl
   have iz_4 := pget_at hO 4 rfl
   have iz_5 := pget_at hO 5 rfl
   have iz_6 := pget_at hO 6 rfl
   have iz_7 := pget_at hO 7 rfl
   have iz_8 := pget_at hO 8 rfl
   have iz_9 := pget_at hO 9 rfl
   have iz_10 := pget_at hO 10 rfl
   have iz_11 := pget_at hO 11 rfl
   have iz_12 := pget_at hO 12 rfl
   have iz_13 := pget_at hO 13 rfl
   have iz_14 := pget_at hO 14 rfl
   have iz_15 := pget_at hO 15 rfl
   have iz_16 := pget_at hO 16 rfl
   have iz_17 := pget_at hO 17 rfl
   have iz_18 := pget_at hO 18 rfl
   have iz_19 := pget_at hO 19 rfl
   have iz_20 := pget_at hO 20 rfl
   have iz_21 := pget_at hO 21 rfl
   have iz_22 := pget_at hO 22 rfl
   have iz_23 := pget_at hO 23 rfl
   have iz_24 := pget_at hO 24 rfl
   have MK24 := @Step2.pure Tryz.prog OPS QQ VV (Ch gp) (Q wr) A0 22
   have sz_0 := MK24 iz_0 (by rw [hO]; kernel_rfl) (.pointer (some ⟨b3, 0, none⟩)) (Ch.refl gp ·) (fun l a w hI hl hS => ⟨wanted_none rfl, (by have e0 : a.eval (.tmp 3) = _ := ((hI.base 3 frz_3).trans bz_3); generalize a.eval = ρ at e0 ⊢; simp [go_sem, e0]), at_mk vz_0 rfl⟩)
   have sz_1 := MK24 iz_1 (by rw [hO]; kernel_rfl) (.slice ad k c) (Ch.refl gp ·) (fun l a w hI hl hS => ⟨wanted_none rfl, (by have e0 : a.eval (.tmp 17) = _ := (at_eq vz_0 (hI.at_ 0 17 _ iz_0 rfl (hl_at hl 0 rfl rfl))); have x0 := (D3.out.q hS).at_ 0 _ rfl; generalize a.eval = ρ at e0 ⊢; simp [go_sem, e0, x0]), at_mk vz_1 rfl⟩)
   have sz_2 := MK24 iz_2 (by rw [hO]; kernel_rfl) (.pointer (some ⟨b1, 0, none⟩)) (Ch.refl gp ·) (fun l a w hI hl hS => ⟨wanted_none rfl, (by have e0 : a.eval (.tmp 1) = _ := ((hI.base 1 frz_1).trans bz_1); generalize a.eval = ρ at e0 ⊢; simp [go_sem, e0]), at_mk vz_2 rfl⟩)
   have sz_3 := MK24 iz_3 (by rw [hO]; kernel_rfl) (.slice aI nI cI) (Ch.refl gp ·) (fun l a w hI hl hS => ⟨wanted_none rfl, (by have e0 : a.eval (.tmp 19) = _ := (at_eq vz_2 (hI.at_ 2 19 _ iz_2 rfl (hl_at hl 0 rfl rfl))); have x0 := (D1.out.q hS).at_ 0 _ rfl; generalize a.eval = ρ at e0 ⊢; simp [go_sem, e0, x0]), at_mk vz_3 rfl⟩)
   have sz_4 := MK24 iz_4 (by rw [hO]; kernel_rfl) (.int .i64 k) (Ch.refl gp ·) (fun l a w hI hl hS => ⟨wanted_none rfl, ex_move rfl ((hI.base 4 frz_4).trans bz_4), at_mk vz_4 rfl⟩)
   have sz_5 := MK24 iz_5 (by rw [hO]; kernel_rfl) (.pointer (some ⟨b, off + k * 4, none⟩)) (Ch.refl gp ·) (fun l a w hI hl hS => ⟨wanted_none rfl, (by have e0 : a.eval (.tmp 20) = _ := (at_eq vz_3 (hI.at_ 3 20 _ iz_3 rfl (hl_at hl 0 rfl rfl))); have e1 : a.eval (.tmp 21) = _ := (at_eq vz_4 (hI.at_ 4 21 _ iz_4 rfl (hl_at hl 1 rfl rfl))); generalize a.eval = ρ at e0 e1 ⊢; simp [go_sem, e0, e1, k0, k1, hab]), at_mk vz_5 rfl⟩)
   have sz_6 := MK24 iz_6 (by rw [hO]; kernel_rfl) (.pointer (some ⟨b, off + k * 4, none⟩)) (Ch.refl gp ·) (fun l a w hI hl hS => ⟨wanted_none rfl, (by have e0 : a.eval (.tmp 22) = _ := (at_eq vz_5 (hI.at_ 5 22 _ iz_5 rfl (hl_at hl 0 rfl rfl))); generalize a.eval = ρ at e0 ⊢; simp [go_sem, e0]), at_mk vz_6 rfl⟩)
   have sz_7 := MK24 iz_7 (by rw [hO]; kernel_rfl) (.agg #[.string yy.tx, .int .i64 yy.out]) (Ch.refl gp ·) (fun l a w hI hl hS => ⟨wanted_none rfl, ex_loado 31 rfl b (off + k * 4) [.string yy.tx, .int .i64 yy.out] _ (at_eq vz_6 (hI.at_ 6 23 _ iz_6 rfl (hl_at hl 0 rfl rfl))) (fun j v hv => RW.out w hS j v (by rcases j with _ | _ | j <;> first | exact hv | cases hv)) Tryz.underlying31 rfl (by kernel_rfl), at_mk vz_7 rfl⟩)
   have sz_8 := MK24 iz_8 (by rw [hO]; kernel_rfl) (.pointer (some ⟨b1, 0, none⟩)) (Ch.refl gp ·) (fun l a w hI hl hS => ⟨wanted_none rfl, (by have e0 : a.eval (.tmp 1) = _ := ((hI.base 1 frz_1).trans bz_1); generalize a.eval = ρ at e0 ⊢; simp [go_sem, e0]), at_mk vz_8 rfl⟩)
   have sz_9 := MK24 iz_9 (by rw [hO]; kernel_rfl) (.slice aI nI cI) (Ch.refl gp ·) (fun l a w hI hl hS => ⟨wanted_none rfl, (by have e0 : a.eval (.tmp 25) = _ := (at_eq vz_8 (hI.at_ 8 25 _ iz_8 rfl (hl_at hl 0 rfl rfl))); have x0 := (D1.out.q hS).at_ 0 _ rfl; generalize a.eval = ρ at e0 ⊢; simp [go_sem, e0, x0]), at_mk vz_9 rfl⟩)
   have sz_10 := MK24 iz_10 (by rw [hO]; kernel_rfl) (.int .i64 k) (Ch.refl gp ·) (fun l a w hI hl hS => ⟨wanted_none rfl, ex_move rfl ((hI.base 4 frz_4).trans bz_4), at_mk vz_10 rfl⟩)
   have sz_11 := MK24 iz_11 (by rw [hO]; kernel_rfl) (.pointer (some ⟨b, off + k * 4, none⟩)) (Ch.refl gp ·) (fun l a w hI hl hS => ⟨wanted_none rfl, (by have e0 : a.eval (.tmp 26) = _ := (at_eq vz_9 (hI.at_ 9 26 _ iz_9 rfl (hl_at hl 0 rfl rfl))); have e1 : a.eval (.tmp 27) = _ := (at_eq vz_10 (hI.at_ 10 27 _ iz_10 rfl (hl_at hl 1 rfl rfl))); generalize a.eval = ρ at e0 e1 ⊢; simp [go_sem, e0, e1, k0, k1, hab]), at_mk vz_11 rfl⟩)
   have sz_12 := MK24 iz_12 (by rw [hO]; kernel_rfl) (.pointer (some ⟨b, off + k * 4 + 2, none⟩)) (Ch.refl gp ·) (fun l a w hI hl hS => ⟨wanted_none rfl, (by have e0 : a.eval (.tmp 28) = _ := (at_eq vz_11 (hI.at_ 11 28 _ iz_11 rfl (hl_at hl 0 rfl rfl))); generalize a.eval = ρ at e0 ⊢; simp [go_sem, e0]), at_mk vz_12 rfl⟩)
   have sz_13 := MK24 iz_13 (by rw [hO]; kernel_rfl) (.int .i64 yy.path) (Ch.refl gp ·) (fun l a w hI hl hS => ⟨wanted_none rfl, (by have e0 : a.eval (.tmp 29) = _ := (at_eq vz_12 (hI.at_ 12 29 _ iz_12 rfl (hl_at hl 0 rfl rfl))); have x0 := RW.out w hS 2 _ rfl; generalize a.eval = ρ at e0 ⊢; simp [go_sem, e0, x0]), at_mk vz_13 rfl⟩)
   have sz_14 := MK24 iz_14 (by rw [hO]; kernel_rfl) (.pointer (some ⟨b1, 0, none⟩)) (Ch.refl gp ·) (fun l a w hI hl hS => ⟨wanted_none rfl, (by have e0 : a.eval (.tmp 1) = _ := ((hI.base 1 frz_1).trans bz_1); generalize a.eval = ρ at e0 ⊢; simp [go_sem, e0]), at_mk vz_14 rfl⟩)
   have sz_15 := MK24 iz_15 (by rw [hO]; kernel_rfl) (.slice aI nI cI) (Ch.refl gp ·) (fun l a w hI hl hS => ⟨wanted_none rfl, (by have e0 : a.eval (.tmp 31) = _ := (at_eq vz_14 (hI.at_ 14 31 _ iz_14 rfl (hl_at hl 0 rfl rfl))); have x0 := (D1.out.q hS).at_ 0 _ rfl; generalize a.eval = ρ at e0 ⊢; simp [go_sem, e0, x0]), at_mk vz_15 rfl⟩)
   have sz_16 := MK24 iz_16 (by rw [hO]; kernel_rfl) (.int .i64 k) (Ch.refl gp ·) (fun l a w hI hl hS => ⟨wanted_none rfl, ex_move rfl ((hI.base 4 frz_4).trans bz_4), at_mk vz_16 rfl⟩)
   have sz_17 := MK24 iz_17 (by rw [hO]; kernel_rfl) (.pointer (some ⟨b, off + k * 4, none⟩)) (Ch.refl gp ·) (fun l a w hI hl hS => ⟨wanted_none rfl, (by have e0 : a.eval (.tmp 32) = _ := (at_eq vz_15 (hI.at_ 15 32 _ iz_15 rfl (hl_at hl 0 rfl rfl))); have e1 : a.eval (.tmp 33) = _ := (at_eq vz_16 (hI.at_ 16 33 _ iz_16 rfl (hl_at hl 1 rfl rfl))); generalize a.eval = ρ at e0 e1 ⊢; simp [go_sem, e0, e1, k0, k1, hab]), at_mk vz_17 rfl⟩)
   have sz_18 := MK24 iz_18 (by rw [hO]; kernel_rfl) (.pointer (some ⟨b, off + k * 4 + 3, none⟩)) (Ch.refl gp ·) (fun l a w hI hl hS => ⟨wanted_none rfl, (by have e0 : a.eval (.tmp 34) = _ := (at_eq vz_17 (hI.at_ 17 34 _ iz_17 rfl (hl_at hl 0 rfl rfl))); generalize a.eval = ρ at e0 ⊢; simp [go_sem, e0]), at_mk vz_18 rfl⟩)
   have sz_19 := MK24 iz_19 (by rw [hO]; kernel_rfl) (.string yy.sig) (Ch.refl gp ·) (fun l a w hI hl hS => ⟨wanted_none rfl, (by have e0 : a.eval (.tmp 35) = _ := (at_eq vz_18 (hI.at_ 18 35 _ iz_18 rfl (hl_at hl 0 rfl rfl))); have x0 := RW.out w hS 3 _ rfl; generalize a.eval = ρ at e0 ⊢; simp [go_sem, e0, x0]), at_mk vz_19 rfl⟩)
   have sz_20 := MK24 iz_20 (by rw [hO]; kernel_rfl) (.agg #[.string yy.tx, .int .i64 yy.out, .int .i64 yy.path, .string yy.sig]) (Ch.refl gp ·) (fun l a w hI hl hS => ⟨wanted_none rfl, ex_build rfl (by simp only [List.map_toArray, List.map_cons, List.map_nil, (show a.eval (.tmp 24) = _ from (at_eq vz_7 (hI.at_ 7 24 _ iz_7 rfl (hl_at hl 0 rfl rfl)))), (show a.eval (.tmp 30) = _ from (at_eq vz_13 (hI.at_ 13 30 _ iz_13 rfl (hl_at hl 1 rfl rfl)))), (show a.eval (.tmp 36) = _ from (at_eq vz_19 (hI.at_ 19 36 _ iz_19 rfl (hl_at hl 2 rfl rfl))))]; exact built_din yy.tx yy.out yy.path yy.sig), at_mk vz_20 rfl⟩)
   have MK25 := @Step2.done Tryz.prog OPS QQ VV (Ch gp) (Q wr) A0 22
   have sz_21 := MK25 iz_21 (by rw [hO]; kernel_rfl) (fun l a w hI hl hS => by
    refine ⟨wanted_none rfl, ?_⟩
    refine wpo_rowdinn yy.tx yy.out yy.path yy.sig rfl (at_eq vz_20 (hI.at_ 20 37 _ iz_20 rfl (hl_at hl 0 rfl rfl))) ?_
    exact ⟨_, rfl, Ch.of_q ((Q.refl w).alloc _) gp, hS.alloc _, p_at vz_21 ⟨w.heap.size, rfl, by have := hS.size; omega, fun j u hj => by rw [World.cell?_alloc_at _ _ _ _ rfl]; unfold IN.cells at hj; simpa using hj⟩⟩)
   have sz_22 := StepP.done (P := Tryz.prog) (V := VV) (T := Ch gp) (S := (Q wr)) (a0 := A0) (p := 22) (Qx := QQ) iz_22 (fun l a w hI hl hS => by
    obtain ⟨g, eg, hgne, hcell⟩ := at_p vz_21 (hI.at_ 21 38 _ iz_21 rfl (hl_at hl 1 rfl rfl))
    refine ⟨wanted_none rfl, ?_⟩
    refine wpo_app (.tmp 18) (.tmp 38) 37 rfl i0 _ 48 Tryz.underlying37 hi0 hz0 hz1 hz2 rfl (by decide) (at_eq vz_1 (hI.at_ 1 18 _ iz_1 rfl (hl_at hl 0 rfl rfl))) (O.out.q hS) g eg rfl (fun j u hj => hcell j u (by rw [HKy.out] at hj; exact hj)) (by rw [HKy.out]; exact one4 rfl rfl rfl rfl) (by omega) (by decide) (by have := QR.out.size; have := hS.size; omega) ?_
    intro g' c' w' O' G
    obtain ⟨OX0, AX0⟩ := (OX.out.q hS).over AX.out G
    exact ⟨_, rfl, G.chp gp hg1, p_at vz_22 ⟨g', c', rfl, O', (D3.out.q hS).over (fun x hx => (AP.out x hx).2.2) G, (D1.out.q hS).over (fun x hx => (AP.out x hx).1) G, (D2.out.q hS).over (fun x hx => (AP.out x hx).2.1) G, ⟨G.ne b1 (D1.out.q hS).lt (fun x hx => (AP.out x hx).1), G.ne b2 (D2.out.q hS).lt (fun x hx => (AP.out x hx).2.1), G.ne b3 (D3.out.q hS).lt (fun x hx => (AP.out x hx).2.2)⟩, (O.out.q hS).q_grow (QR.out.trans hS) (Nat.le_refl _) G, OX0, AX0⟩⟩)
   have MK26 := @StepQ.pure Tryz.prog OPS QQ VV (Q wr) A0 22
   have sz_23 := MK26 iz_23 (.pointer (some ⟨b3, 0, none⟩)) (fun l a w hI hl => ⟨wanted_none rfl, (by have e0 : a.eval (.tmp 3) = _ := ((hI.base 3 frz_3).trans bz_3); generalize a.eval = ρ at e0 ⊢; simp [go_sem, e0]), at_mk vz_23 rfl⟩)
   refine wp_plan2 VV (Ch gp) (Q wr) 22 24 (by kernel_rfl) hs (by rw [hO]; rfl) (by rw [hO]; kernel_rfl) hV hS0 (steps2_all hO _ rfl ((s2_cons sz_0 (s2_cons sz_1 (s2_cons sz_2 (s2_cons sz_3 (s2_cons sz_4 (s2_cons sz_5 (s2_cons sz_6 (s2_cons sz_7 (s2_cons sz_8 (s2_cons sz_9 (s2_cons sz_10 (s2_cons sz_11 (s2_cons sz_12 (s2_cons sz_13 (s2_cons sz_14 (s2_cons sz_15 (s2_cons sz_16 (s2_cons sz_17 (s2_cons sz_18 (s2_cons sz_19 (s2_cons sz_20 (s2_cons sz_21 (sp_cons rfl sz_22 (sq_cons sz_23 trivial)))))))))))))))))))))))))) ?_
   intro l a w hall hln hI
   as_aux_lemma =>
   obtain ⟨g', c', eg, O', E3, E1, E2, ⟨x1, x2, x3⟩, Q', ox0, ax0⟩ := (at_p vz_22 (hI.at_ 22 39 _ iz_22 rfl (hall 22 (by decide))))
   refine fin_of iz_24 (wanted_none rfl) ?_
   refine wpo_st1 37 _ _ rfl (at_eq vz_23 (hI.at_ 23 40 _ iz_23 rfl (hall 23 (by decide)))) eg E3 rfl (fun w hc hf => by simp [go_sem, hc, hf]) ?_
   intro w5 B3' c5
   rw [hQQ]
   obtain ⟨ts, ds⟩ := a
   have hd : ds = [] := by have := hI.df; rw [hA] at this; exact this
   have hts : ts.size = 60 := by have := hI.sz; rw [hz] at this; exact this
   have f1 : ts.getD 1 undef = .pointer (some ⟨b1, 0, none⟩) := ((hI.base 1 frz_1).trans bz_1)
   have f3 : ts.getD 3 undef = .pointer (some ⟨b3, 0, none⟩) := ((hI.base 3 frz_3).trans bz_3)
   have f4 : ts.getD 4 undef = .int .i64 k := ((hI.base 4 frz_4).trans bz_4)
   have f0 := (hI.base 0 (by rw [hO]; kernel_rfl)).trans (base_at hA 0 rfl)
   have f2 := (hI.base 2 (by rw [hO]; kernel_rfl)).trans (base_at hA 2 rfl)
   have f5 := (hI.base 5 (by rw [hO]; kernel_rfl)).trans (base_at hA 5 rfl)
   have f6 := (hI.base 6 (by rw [hO]; kernel_rfl)).trans (base_at hA 6 rfl)
   have f7 := (hI.base 7 (by rw [hO]; kernel_rfl)).trans (base_at hA 7 rfl)
   have f8 := (hI.base 8 (by rw [hO]; kernel_rfl)).trans (base_at hA 8 rfl)
   have f9 := (hI.base 9 (by rw [hO]; kernel_rfl)).trans (base_at hA 9 rfl)
   have f10 := (hI.base 10 (by rw [hO]; kernel_rfl)).trans (base_at hA 10 rfl)
   have f11 := (hI.base 11 (by rw [hO]; kernel_rfl)).trans (base_at hA 11 rfl)
   have f12 := (hI.base 12 (by rw [hO]; kernel_rfl)).trans (base_at hA 12 rfl)
   have f13 := (hI.base 13 (by rw [hO]; kernel_rfl)).trans (base_at hA 13 rfl)
   have f14 := (hI.base 14 (by rw [hO]; kernel_rfl)).trans (base_at hA 14 rfl)
   have f15 := (hI.base 15 (by rw [hO]; kernel_rfl)).trans (base_at hA 15 rfl)
   have f16 := (hI.base 16 (by rw [hO]; kernel_rfl)).trans (base_at hA 16 rfl)
   have f41 := (hI.base 41 (by rw [hO]; kernel_rfl)).trans (base_at hA 41 rfl)
   have f42 := (hI.base 42 (by rw [hO]; kernel_rfl)).trans (base_at hA 42 rfl)
   have f43 := (hI.base 43 (by rw [hO]; kernel_rfl)).trans (base_at hA 43 rfl)
   have f44 := (hI.base 44 (by rw [hO]; kernel_rfl)).trans (base_at hA 44 rfl)
   have f45 := (hI.base 45 (by rw [hO]; kernel_rfl)).trans (base_at hA 45 rfl)
   have f46 := (hI.base 46 (by rw [hO]; kernel_rfl)).trans (base_at hA 46 rfl)
   have f47 := (hI.base 47 (by rw [hO]; kernel_rfl)).trans (base_at hA 47 rfl)
   have f48 := (hI.base 48 (by rw [hO]; kernel_rfl)).trans (base_at hA 48 rfl)
   have f49 := (hI.base 49 (by rw [hO]; kernel_rfl)).trans (base_at hA 49 rfl)
   have f50 := (hI.base 50 (by rw [hO]; kernel_rfl)).trans (base_at hA 50 rfl)
   have f51 := (hI.base 51 (by rw [hO]; kernel_rfl)).trans (base_at hA 51 rfl)
   have f52 := (hI.base 52 (by rw [hO]; kernel_rfl)).trans (base_at hA 52 rfl)
   have f53 := (hI.base 53 (by rw [hO]; kernel_rfl)).trans (base_at hA 53 rfl)
   have f54 := (hI.base 54 (by rw [hO]; kernel_rfl)).trans (base_at hA 54 rfl)
   have f55 := (hI.base 55 (by rw [hO]; kernel_rfl)).trans (base_at hA 55 rfl)
   have f56 := (hI.base 56 (by rw [hO]; kernel_rfl)).trans (base_at hA 56 rfl)
   have f57 := (hI.base 57 (by rw [hO]; kernel_rfl)).trans (base_at hA 57 rfl)
   have f58 := (hI.base 58 (by rw [hO]; kernel_rfl)).trans (base_at hA 58 rfl)
   have f59 := (hI.base 59 (by rw [hO]; kernel_rfl)).trans (base_at hA 59 rfl)
   obtain ⟨tl0, rfl⟩ : ∃ tl : List Value, ts = tl.toArray := ⟨ts.toList, by simp⟩
   have htl0 : tl0.length = 60 := by simpa using hts
   clear hts
   obtain ⟨y0, y1, y2, y3, y4, y5, y6, y7, tl8, et, htl8⟩ := len_8 htl0
   clear htl0
   subst et
   obtain ⟨y8, y9, y10, y11, y12, y13, y14, y15, tl16, et, htl16⟩ := len_8 htl8
   clear htl8
   subst et
   obtain ⟨y16, y17, y18, y19, y20, y21, y22, y23, tl24, et, htl24⟩ := len_8 htl16
   clear htl16
   subst et
   obtain ⟨y24, y25, y26, y27, y28, y29, y30, y31, tl32, et, htl32⟩ := len_8 htl24
   clear htl24
   subst et
   obtain ⟨y32, y33, y34, y35, y36, y37, y38, y39, tl40, et, htl40⟩ := len_8 htl32
   clear htl32
   subst et
   obtain ⟨y40, y41, y42, y43, y44, y45, y46, y47, tl48, et, htl48⟩ := len_8 htl40
   clear htl40
   subst et
   obtain ⟨y48, y49, y50, y51, y52, y53, y54, y55, tl56, et, htl56⟩ := len_8 htl48
   clear htl48
   subst et
   obtain ⟨y56, tl57, et, htl57⟩ := len_succ htl56
   clear htl56
   subst et
   obtain ⟨y57, tl58, et, htl58⟩ := len_succ htl57
   clear htl57
   subst et
   obtain ⟨y58, tl59, et, htl59⟩ := len_succ htl58
   clear htl58
   subst et
   obtain ⟨y59, tl60, et, htl60⟩ := len_succ htl59
   clear htl59
   subst et
   have et := List.eq_nil_of_length_eq_zero htl60
   clear htl60
   subst et
   have g1 : y1 = .pointer (some ⟨b1, 0, none⟩) := f1
   have g3 : y3 = .pointer (some ⟨b3, 0, none⟩) := f3
   have g4 : y4 = .int .i64 k := f4
   have g0 : y0 = _ := f0
   have g2 : y2 = _ := f2
   have g5 : y5 = _ := f5
   have g6 : y6 = _ := f6
   have g7 : y7 = _ := f7
   have g8 : y8 = _ := f8
   have g9 : y9 = _ := f9
   have g10 : y10 = _ := f10
   have g11 : y11 = _ := f11
   have g12 : y12 = _ := f12
   have g13 : y13 = _ := f13
   have g14 : y14 = _ := f14
   have g15 : y15 = _ := f15
   have g16 : y16 = _ := f16
   have g41 : y41 = _ := f41
   have g42 : y42 = _ := f42
   have g43 : y43 = _ := f43
   have g44 : y44 = _ := f44
   have g45 : y45 = _ := f45
   have g46 : y46 = _ := f46
   have g47 : y47 = _ := f47
   have g48 : y48 = _ := f48
   have g49 : y49 = _ := f49
   have g50 : y50 = _ := f50
   have g51 : y51 = _ := f51
   have g52 : y52 = _ := f52
   have g53 : y53 = _ := f53
   have g54 : y54 = _ := f54
   have g55 : y55 = _ := f55
   have g56 : y56 = _ := f56
   have g57 : y57 = _ := f57
   have g58 : y58 = _ := f58
   have g59 : y59 = _ := f59
   clear f1 f3 f4 f0 f2 f5 f6 f7 f8 f9 f10 f11 f12 f13 f14 f15 f16 f41 f42 f43 f44 f45 f46 f47 f48 f49 f50 f51 f52 f53 f54 f55 f56 f57 f58 f59
   subst hd g1 g3 g4 g0 g2 g5 g6 g7 g8 g9 g10 g11 g12 g13 g14 g15 g16 g41 g42 g43 g44 g45 g46 g47 g48 g49 g50 g51 g52 g53 g54 g55 g56 g57 g58 g59
   have Z1 := Lib.hid (E1.ch c5 n13)
   have Z2 := Lib.hid (E2.ch c5 n23)
   have Z3 : Hid (Box w5 b3 [.slice (some ⟨g', 0, none⟩) (k + 1) c', .slice none 0 0, .int .u64 am, .string sg, .string tk, .slice aV nW cV]) := B3'
   have O9 := Lib.hid (O'.ch c5 (fun x hx => by injection hx with hx; subst hx; exact x3))
   have OX0 := Lib.hid (ox0.ch c5 (fun x hx => (AB0.out x hx)))
   have AX0 := Lib.hid ax0
   have Q9 : Hid (Q w0 w5) := c5.q Q' hb30
   have A9 : Hid (∀ x, some (⟨g', 0, none⟩ : Addr) = some x → x.block ≠ b1 ∧ x.block ≠ b2 ∧ x.block ≠ b3) := fun x hx => by injection hx with hx; subst hx; exact ⟨x1, x2, x3⟩
   clear hI hall hln c5 B3' eg O' E3 E1 E2 Q' x1 x2 x3 ox0 ax0 O D1 D2 D3 AP QR OX AX RW hg1 hg2 hab HKy hV hs hz hA vz_0 sz_0 vz_1 sz_1 vz_2 sz_2 vz_3 sz_3 vz_4 sz_4 vz_5 sz_5 vz_6 sz_6 vz_7 sz_7 vz_8 sz_8 vz_9 sz_9 vz_10 sz_10 vz_11 sz_11 vz_12 sz_12 vz_13 sz_13 vz_14 sz_14 vz_15 sz_15 vz_16 sz_16 vz_17 sz_17 vz_18 sz_18 vz_19 sz_19 vz_20 sz_20 vz_21 sz_21 vz_22 sz_22 vz_23 sz_23
   clear iz_0 iz_1 iz_2 iz_3 iz_4 iz_5 iz_6 iz_7 iz_8 iz_9 iz_10 iz_11 iz_12 iz_13 iz_14 iz_15 iz_16 iz_17 iz_18 iz_19 iz_20 iz_21 iz_22 iz_23 iz_24 bz_1 frz_1 bz_3 frz_3 bz_4 frz_4 hO hQQ
   as_aux_lemma =>
   go_wp2_with fail
   go_roundw
   case rel => exact ⟨k + 1, some ⟨g', 0, none⟩, c', by omega, by go_num, O9, Z3, Z1, Z2, A9, Q9, OX0, AX0⟩
   case measure => simp [intOf]; omega
 · obtain rfl : nI = k := by omega
   have k1 : ¬ (nI : Int) < (nI : Int) := by omega
   have t3 : decide (nI < nI) = false := by simp
   go_wp2_with fail
   clear k1 t3 m3 k0 hk hlt hi0 hz0 hz1 hz2 HI
   have OI := Lib.hid O.out
   have API := Lib.hid AP.out
   have AIW := Lib.hid AX.out
   have OW := Lib.hid OX.out
   have E3 := Lib.hid D3.out
   have E1 := Lib.hid D1.out
   have E2 := Lib.hid D2.out
   have QI := Lib.hid QR.out
   clear O AP AX OX D3 D1 D2 QR i0
   as_aux_lemma =>
   have AB1 := Lib.hid AB0.out
   have AB0 : Hid (∀ x, ad = some x → x.block ≠ b3) := fun x hx => (API.out x hx).2.2
   have OA := Lib.hid (OR.nil 49 OU.cells 9 wr w0.heap.size FO)
   obtain ⟨i0, hi0, hz0, hz1, hz2⟩ := info_of info_dout
   go_loopw [5] (fun i wr => ∃ (k2 : Nat) (ao : Option Addr) (c2 : Nat), k2 ≤ nO ∧ i = .int .i64 k2 ∧ Hid (OR 49 OU.cells 9 wr w0.heap.size ao k2 c2 FO) ∧ Hid (Box wr b3 [.slice ad nI c, .slice ao k2 c2, .int .u64 am, .string sg, .string tk, .slice aV nW cV]) ∧ Hid (Box wr b1 [.slice aI nI cI, .slice aO nO cO, .int .u64 am, .string sg, .string tk, .slice aW nW cW]) ∧ Hid (Box wr b2 [.slice none 0 0, .slice none 0 0, .int .u64 0, .string ⟨#[]⟩, .string ⟨#[]⟩, .slice none 0 0]) ∧ Hid (∀ x, ao = some x → x.block ≠ b1 ∧ x.block ≠ b2 ∧ x.block ≠ b3) ∧ Hid (Q w0 wr) ∧ Hid (OR 88 IN.cells 4 wr w0.heap.size ad nI c FI) ∧ Hid (Apart ao ad) ∧ Hid (OR 141 WN.cells 10 wr w0.heap.size aV nW cV FW) ∧ Hid (Apart ao aV)) (fun i _ => nO - (intOf i).toNat)
   case atStart => exact ⟨0, none, 0, by omega, rfl, OA, E3, E1, E2, Lib.hid (fun x h => by cases h), QI, OI, Lib.hid (fun x y h => by cases h), OW, Lib.hid (fun x y h => by cases h)⟩
   case round =>
   obtain ⟨k2, ao, c2, hk, rfl, O, D3, D1, D2, AP, QR, OXI, AXI, OXW, AXW⟩ := hrel
   clear E1 E2 E3 QI OA OI OW
   have k0 : (0 : Int) ≤ (k2 : Int) := by omega
   have m3 := D1.out.at_ 1 _ rfl
   by_cases hlt : k2 < nO
   · have k1 : (k2 : Int) < (nO : Int) := by omega
     go_wp2_with fail
     clear m3
     obtain ⟨b, off, hab, hrow⟩ := (HO.out.q QR.out).some_ (by omega)
     obtain ⟨yy, hy⟩ : ∃ z, FO k2 = z := ⟨_, rfl⟩
     have HKy : Hid (FO k2 = yy) := hy
     have hrow := hrow k2 hlt
     rw [hy] at hrow
     have RW : Hid (∀ w', Q wr w' → w'.rangeAt b (off + k2 * 9) (OU.cells yy)) := fun w' q j v hv => Q.cell' q (hrow j v hv)
     clear hy hrow
     obtain ⟨gp, hg1, hg2⟩ : ∃ gp, (∀ x, ao = some x → x.block = gp) ∧ gp < wr.heap.size := by
      rcases O.out.shape with ⟨e, _⟩ | ⟨g, e, _, hl, _⟩
      · exact ⟨b3, (fun x hx => by rw [e] at hx; cases hx), D3.out.lt⟩
      · exact ⟨g, (fun x hx => by rw [e] at hx; injection hx with hx; rw [← hx]), hl⟩
     as_aux_lemma =>
     have hS0 : Q wr wr.drew := (Q.refl wr).drew
     refine region_gen3 ?_
     intro OPS QQ A0 hO hQQ hA
     have hz : A0.tmps.size = 60 := by rw [hA]; rfl
     have hs : sound OPS A0.tmps.size = true := by rw [hz, hO]; kernel_rfl
     have bz_1 : A0.eval (.tmp 1) = .pointer (some ⟨b1, 0, none⟩) := by rw [hA]; rfl
     have frz_1 : free OPS 1 = true := by rw [hO]; kernel_rfl
     have bz_3 : A0.eval (.tmp 3) = .pointer (some ⟨b3, 0, none⟩) := by rw [hA]; rfl
     have frz_3 : free OPS 3 = true := by rw [hO]; kernel_rfl
     have bz_5 : A0.eval (.tmp 5) = .int .i64 k2 := by rw [hA]; rfl
     have frz_5 : free OPS 5 = true := by rw [hO]; kernel_rfl
     obtain ⟨VV, hVV⟩ : ∃ V : Nat → Value → World → Prop, V = fun i => ([fun v _ => v = .pointer (some ⟨b3, 1, none⟩), fun v _ => v = .slice ao k2 c2, fun v _ => v = .pointer (some ⟨b1, 1, none⟩), fun v _ => v = .slice aO nO cO, fun v _ => v = .int .i64 k2, fun v _ => v = .pointer (some ⟨b, off + k2 * 9, none⟩), fun v _ => v = ouV yy, fun v _ => v = ouV yy, fun v w => ∃ g, v = .slice (some ⟨g, 0, none⟩) 1 1 ∧ g ≠ gp ∧ ∀ j u, (OU.cells yy)[j]? = some u → w.cell? ⟨g, j, none⟩ = some u, fun v w' => ∃ g' c', v = .slice (some ⟨g', 0, none⟩) (k2 + 1) c' ∧ OR 49 OU.cells 9 w' w0.heap.size (some ⟨g', 0, none⟩) (k2 + 1) c' FO ∧ Box w' b3 [.slice ad nI c, .slice ao k2 c2, .int .u64 am, .string sg, .string tk, .slice aV nW cV] ∧ Box w' b1 [.slice aI nI cI, .slice aO nO cO, .int .u64 am, .string sg, .string tk, .slice aW nW cW] ∧ Box w' b2 [.slice none 0 0, .slice none 0 0, .int .u64 0, .string ⟨#[]⟩, .string ⟨#[]⟩, .slice none 0 0] ∧ (g' ≠ b1 ∧ g' ≠ b2 ∧ g' ≠ b3) ∧ Q w0 w' ∧ OR 88 IN.cells 4 w' w0.heap.size ad nI c FI ∧ Apart (some ⟨g', 0, none⟩) ad ∧ OR 141 WN.cells 10 w' w0.heap.size aV nW cV FW ∧ Apart (some ⟨g', 0, none⟩) aV, fun v _ => v = .pointer (some ⟨b3, 1, none⟩)] : List (Value → World → Prop)).getD i (fun _ _ => True) := ⟨_, rfl⟩
     have vz_0 : VV 0 = fun v _ => v = .pointer (some ⟨b3, 1, none⟩) := vat hVV 0
     have vz_1 : VV 1 = fun v _ => v = .slice ao k2 c2 := vat hVV 1
     have vz_2 : VV 2 = fun v _ => v = .pointer (some ⟨b1, 1, none⟩) := vat hVV 2
     have vz_3 : VV 3 = fun v _ => v = .slice aO nO cO := vat hVV 3
     have vz_4 : VV 4 = fun v _ => v = .int .i64 k2 := vat hVV 4
     have vz_5 : VV 5 = fun v _ => v = .pointer (some ⟨b, off + k2 * 9, none⟩) := vat hVV 5
     have vz_6 : VV 6 = fun v _ => v = ouV yy := vat hVV 6
     have vz_7 : VV 7 = fun v _ => v = ouV yy := vat hVV 7
     have vz_8 : VV 8 = fun v w => ∃ g, v = .slice (some ⟨g, 0, none⟩) 1 1 ∧ g ≠ gp ∧ ∀ j u, (OU.cells yy)[j]? = some u → w.cell? ⟨g, j, none⟩ = some u := vat hVV 8
     have vz_9 : VV 9 = fun v w' => ∃ g' c', v = .slice (some ⟨g', 0, none⟩) (k2 + 1) c' ∧ OR 49 OU.cells 9 w' w0.heap.size (some ⟨g', 0, none⟩) (k2 + 1) c' FO ∧ Box w' b3 [.slice ad nI c, .slice ao k2 c2, .int .u64 am, .string sg, .string tk, .slice aV nW cV] ∧ Box w' b1 [.slice aI nI cI, .slice aO nO cO, .int .u64 am, .string sg, .string tk, .slice aW nW cW] ∧ Box w' b2 [.slice none 0 0, .slice none 0 0, .int .u64 0, .string ⟨#[]⟩, .string ⟨#[]⟩, .slice none 0 0] ∧ (g' ≠ b1 ∧ g' ≠ b2 ∧ g' ≠ b3) ∧ Q w0 w' ∧ OR 88 IN.cells 4 w' w0.heap.size ad nI c FI ∧ Apart (some ⟨g', 0, none⟩) ad ∧ OR 141 WN.cells 10 w' w0.heap.size aV nW cV FW ∧ Apart (some ⟨g', 0, none⟩) aV := vat hVV 9
     have vz_10 : VV 10 = fun v _ => v = .pointer (some ⟨b3, 1, none⟩) := vat hVV 10
     have hV := stablex_of (T := Ch gp) (p := 9) hVV ((kx (kx (kx (kx (kx (kx (kx (kx (sx_cons (fun v w w' h t => by obtain ⟨g, h1, h2, h3⟩ := h; exact ⟨g, h1, h2, fun j u hj => t.cell (h3 j u hj) h2⟩) (sx_skip rfl (kx trivial))))))))))))
     clear hVV
     have iz_0 := pget_at hO 0 rfl
     have iz_1 := pget_at hO 1 rfl
     have iz_2 := pget_at hO 2 rfl
     have iz_3 := pget_at hO 3 rfl
     have iz_4 := pget_at hO 4 rfl
     have iz_5 := pget_at hO 5 rfl
     have iz_6 := pget_at hO 6 rfl
     have iz_7 := pget_at hO 7 rfl
     have iz_8 := pget_at hO 8 rfl
     have iz_9 := pget_at hO 9 rfl
     have iz_10 := pget_at hO 10 rfl
     have iz_11 := pget_at hO 11 rfl
     have MK27 := @Step2.pure Tryz.prog OPS QQ VV (Ch gp) (Q wr) A0 9
     have sz_0 := MK27 iz_0 (by rw [hO]; kernel_rfl) (.pointer (some ⟨b3, 1, none⟩)) (Ch.refl gp ·) (fun l a w hI hl hS => ⟨wanted_none rfl, (by have e0 : a.eval (.tmp 3) = _ := ((hI.base 3 frz_3).trans bz_3); generalize a.eval = ρ at e0 ⊢; simp [go_sem, e0]), at_mk vz_0 rfl⟩)
     have sz_1 := MK27 iz_1 (by rw [hO]; kernel_rfl) (.slice ao k2 c2) (Ch.refl gp ·) (fun l a w hI hl hS => ⟨wanted_none rfl, (by have e0 : a.eval (.tmp 48) = _ := (at_eq vz_0 (hI.at_ 0 48 _ iz_0 rfl (hl_at hl 0 rfl rfl))); have x0 := (D3.out.q hS).at_ 1 _ rfl; generalize a.eval = ρ at e0 ⊢; simp [go_sem, e0, x0]), at_mk vz_1 rfl⟩)
     have sz_2 := MK27 iz_2 (by rw [hO]; kernel_rfl) (.pointer (some ⟨b1, 1, none⟩)) (Ch.refl gp ·) (fun l a w hI hl hS => ⟨wanted_none rfl, (by have e0 : a.eval (.tmp 1) = _ := ((hI.base 1 frz_1).trans bz_1); generalize a.eval = ρ at e0 ⊢; simp [go_sem, e0]), at_mk vz_2 rfl⟩)
     have sz_3 := MK27 iz_3 (by rw [hO]; kernel_rfl) (.slice aO nO cO) (Ch.refl gp ·) (fun l a w hI hl hS => ⟨wanted_none rfl, (by have e0 : a.eval (.tmp 50) = _ := (at_eq vz_2 (hI.at_ 2 50 _ iz_2 rfl (hl_at hl 0 rfl rfl))); have x0 := (D1.out.q hS).at_ 1 _ rfl; generalize a.eval = ρ at e0 ⊢; simp [go_sem, e0, x0]), at_mk vz_3 rfl⟩)
     have sz_4 := MK27 iz_4 (by rw [hO]; kernel_rfl) (.int .i64 k2) (Ch.refl gp ·) (fun l a w hI hl hS => ⟨wanted_none rfl, ex_move rfl ((hI.base 5 frz_5).trans bz_5), at_mk vz_4 rfl⟩)
     have sz_5 := MK27 iz_5 (by rw [hO]; kernel_rfl) (.pointer (some ⟨b, off + k2 * 9, none⟩)) (Ch.refl gp ·) (fun l a w hI hl hS => ⟨wanted_none rfl, (by have e0 : a.eval (.tmp 51) = _ := (at_eq vz_3 (hI.at_ 3 51 _ iz_3 rfl (hl_at hl 0 rfl rfl))); have e1 : a.eval (.tmp 52) = _ := (at_eq vz_4 (hI.at_ 4 52 _ iz_4 rfl (hl_at hl 1 rfl rfl))); generalize a.eval = ρ at e0 e1 ⊢; simp [go_sem, e0, e1, k0, k1, hab]), at_mk vz_5 rfl⟩)
     have sz_6 := MK27 iz_6 (by rw [hO]; kernel_rfl) (ouV yy) (Ch.refl gp ·) (fun l a w hI hl hS => ⟨wanted_none rfl, ex_loado 47 rfl b (off + k2 * 9) (OU.cells yy) _ (at_eq vz_5 (hI.at_ 5 53 _ iz_5 rfl (hl_at hl 0 rfl rfl))) (RW.out w hS) Tryz.underlying47 rfl (by kernel_rfl), at_mk vz_6 rfl⟩)
     have MK28 := @Step2.done Tryz.prog OPS QQ VV (Ch gp) (Q wr) A0 9
     have sz_7 := MK28 iz_7 (by rw [hO]; kernel_rfl) (fun l a w hI hl hS => by
      refine ⟨wanted_none rfl, ?_⟩
      refine wp_enter (f := 11) (args := #[ouV yy]) ?_ ?_
      · exact ex_call rfl (by simp only [List.map_toArray, List.map_cons, List.map_nil, ev_const, (show a.eval (.tmp 54) = _ from (at_eq vz_6 (hI.at_ 6 54 _ iz_6 rfl (hl_at hl 0 rfl rfl))))]) Tryz.func11 (by kernel_rfl) (by kernel_rfl)
      · refine (refout_x2 yy w).mono fun e w' hc => ?_
        obtain ⟨rfl, hq⟩ := hc
        exact ⟨_, rfl, Ch.of_q hq gp, hS.trans hq, at_mk vz_7 rfl⟩)
     have sz_8 := MK28 iz_8 (by rw [hO]; kernel_rfl) (fun l a w hI hl hS => by
      refine ⟨wanted_none rfl, ?_⟩
      refine wpo_rowdout yy.kind yy.amount yy.key yy.gate yy.expiry yy.anchor yy.unit yy.tokens yy.of_ rfl (at_eq vz_7 (hI.at_ 7 55 _ iz_7 rfl (hl_at hl 0 rfl rfl))) ?_
      exact ⟨_, rfl, Ch.of_q ((Q.refl w).alloc _) gp, hS.alloc _, p_at vz_8 ⟨w.heap.size, rfl, by have := hS.size; omega, fun j u hj => by rw [World.cell?_alloc_at _ _ _ _ rfl]; unfold OU.cells at hj; simpa using hj⟩⟩)
     have sz_9 := StepP.done (P := Tryz.prog) (V := VV) (T := Ch gp) (S := (Q wr)) (a0 := A0) (p := 9) (Qx := QQ) iz_9 (fun l a w hI hl hS => by
      obtain ⟨g, eg, hgne, hcell⟩ := at_p vz_8 (hI.at_ 8 56 _ iz_8 rfl (hl_at hl 1 rfl rfl))
      refine ⟨wanted_none rfl, ?_⟩
      refine wpo_app (.tmp 49) (.tmp 56) 38 rfl i0 _ 104 Tryz.underlying38 hi0 hz0 hz1 hz2 rfl (by decide) (at_eq vz_1 (hI.at_ 1 49 _ iz_1 rfl (hl_at hl 0 rfl rfl))) (O.out.q hS) g eg rfl (fun j u hj => hcell j u (by rw [HKy.out] at hj; exact hj)) (by rw [HKy.out]; exact one9 rfl rfl rfl rfl rfl rfl rfl rfl rfl) (by omega) (by decide) (by have := QR.out.size; have := hS.size; omega) ?_
      intro g' c' w' O' G
      obtain ⟨OX0, AX0⟩ := (OXI.out.q hS).over AXI.out G
      obtain ⟨OX1, AX1⟩ := (OXW.out.q hS).over AXW.out G
      exact ⟨_, rfl, G.chp gp hg1, p_at vz_9 ⟨g', c', rfl, O', (D3.out.q hS).over (fun x hx => (AP.out x hx).2.2) G, (D1.out.q hS).over (fun x hx => (AP.out x hx).1) G, (D2.out.q hS).over (fun x hx => (AP.out x hx).2.1) G, ⟨G.ne b1 (D1.out.q hS).lt (fun x hx => (AP.out x hx).1), G.ne b2 (D2.out.q hS).lt (fun x hx => (AP.out x hx).2.1), G.ne b3 (D3.out.q hS).lt (fun x hx => (AP.out x hx).2.2)⟩, (O.out.q hS).q_grow (QR.out.trans hS) (Nat.le_refl _) G, OX0, AX0, OX1, AX1⟩⟩)
     have MK29 := @StepQ.pure Tryz.prog OPS QQ VV (Q wr) A0 9
     have sz_10 := MK29 iz_10 (.pointer (some ⟨b3, 1, none⟩)) (fun l a w hI hl => ⟨wanted_none rfl, (by have e0 : a.eval (.tmp 3) = _ := ((hI.base 3 frz_3).trans bz_3); generalize a.eval = ρ at e0 ⊢; simp [go_sem, e0]), at_mk vz_10 rfl⟩)
     refine wp_plan2 VV (Ch gp) (Q wr) 9 11 (by kernel_rfl) hs (by rw [hO]; rfl) (by rw [hO]; kernel_rfl) hV hS0 (steps2_all hO _ rfl ((s2_cons sz_0 (s2_cons sz_1 (s2_cons sz_2 (s2_cons sz_3 (s2_cons sz_4 (s2_cons sz_5 (s2_cons sz_6 (s2_cons sz_7 (s2_cons sz_8 (sp_cons rfl sz_9 (sq_cons sz_10 trivial))))))))))))) ?_
     intro l a w hall hln hI
     as_aux_lemma =>
     obtain ⟨g', c', eg, O', E3, E1, E2, ⟨x1, x2, x3⟩, Q', ox0, ax0, ox1, ax1⟩ := (at_p vz_9 (hI.at_ 9 57 _ iz_9 rfl (hall 9 (by decide))))
     refine fin_of iz_11 (wanted_none rfl) ?_
     refine wpo_st1 38 _ _ rfl (at_eq vz_10 (hI.at_ 10 58 _ iz_10 rfl (hall 10 (by decide)))) eg E3 rfl (fun w hc hf => by simp [go_sem, hc, hf]) ?_
     intro w5 B3' c5
     rw [hQQ]
     obtain ⟨ts, ds⟩ := a
     have hd : ds = [] := by have := hI.df; rw [hA] at this; exact this
     have hts : ts.size = 60 := by have := hI.sz; rw [hz] at this; exact this
     have f1 : ts.getD 1 undef = .pointer (some ⟨b1, 0, none⟩) := ((hI.base 1 frz_1).trans bz_1)
     have f3 : ts.getD 3 undef = .pointer (some ⟨b3, 0, none⟩) := ((hI.base 3 frz_3).trans bz_3)
     have f5 : ts.getD 5 undef = .int .i64 k2 := ((hI.base 5 frz_5).trans bz_5)
     have f0 := (hI.base 0 (by rw [hO]; kernel_rfl)).trans (base_at hA 0 rfl)
     have f2 := (hI.base 2 (by rw [hO]; kernel_rfl)).trans (base_at hA 2 rfl)
     have f4 := (hI.base 4 (by rw [hO]; kernel_rfl)).trans (base_at hA 4 rfl)
     have f6 := (hI.base 6 (by rw [hO]; kernel_rfl)).trans (base_at hA 6 rfl)
     have f7 := (hI.base 7 (by rw [hO]; kernel_rfl)).trans (base_at hA 7 rfl)
     have f8 := (hI.base 8 (by rw [hO]; kernel_rfl)).trans (base_at hA 8 rfl)
     have f9 := (hI.base 9 (by rw [hO]; kernel_rfl)).trans (base_at hA 9 rfl)
     have f10 := (hI.base 10 (by rw [hO]; kernel_rfl)).trans (base_at hA 10 rfl)
     have f11 := (hI.base 11 (by rw [hO]; kernel_rfl)).trans (base_at hA 11 rfl)
     have f12 := (hI.base 12 (by rw [hO]; kernel_rfl)).trans (base_at hA 12 rfl)
     have f13 := (hI.base 13 (by rw [hO]; kernel_rfl)).trans (base_at hA 13 rfl)
     have f14 := (hI.base 14 (by rw [hO]; kernel_rfl)).trans (base_at hA 14 rfl)
     have f15 := (hI.base 15 (by rw [hO]; kernel_rfl)).trans (base_at hA 15 rfl)
     have f16 := (hI.base 16 (by rw [hO]; kernel_rfl)).trans (base_at hA 16 rfl)
     have f17 := (hI.base 17 (by rw [hO]; kernel_rfl)).trans (base_at hA 17 rfl)
     have f18 := (hI.base 18 (by rw [hO]; kernel_rfl)).trans (base_at hA 18 rfl)
     have f19 := (hI.base 19 (by rw [hO]; kernel_rfl)).trans (base_at hA 19 rfl)
     have f20 := (hI.base 20 (by rw [hO]; kernel_rfl)).trans (base_at hA 20 rfl)
     have f21 := (hI.base 21 (by rw [hO]; kernel_rfl)).trans (base_at hA 21 rfl)
     have f22 := (hI.base 22 (by rw [hO]; kernel_rfl)).trans (base_at hA 22 rfl)
     have f23 := (hI.base 23 (by rw [hO]; kernel_rfl)).trans (base_at hA 23 rfl)
     have f24 := (hI.base 24 (by rw [hO]; kernel_rfl)).trans (base_at hA 24 rfl)
     have f25 := (hI.base 25 (by rw [hO]; kernel_rfl)).trans (base_at hA 25 rfl)
     have f26 := (hI.base 26 (by rw [hO]; kernel_rfl)).trans (base_at hA 26 rfl)
     have f27 := (hI.base 27 (by rw [hO]; kernel_rfl)).trans (base_at hA 27 rfl)
     have f28 := (hI.base 28 (by rw [hO]; kernel_rfl)).trans (base_at hA 28 rfl)
     have f29 := (hI.base 29 (by rw [hO]; kernel_rfl)).trans (base_at hA 29 rfl)
     have f30 := (hI.base 30 (by rw [hO]; kernel_rfl)).trans (base_at hA 30 rfl)
     have f31 := (hI.base 31 (by rw [hO]; kernel_rfl)).trans (base_at hA 31 rfl)
     have f32 := (hI.base 32 (by rw [hO]; kernel_rfl)).trans (base_at hA 32 rfl)
     have f33 := (hI.base 33 (by rw [hO]; kernel_rfl)).trans (base_at hA 33 rfl)
     have f34 := (hI.base 34 (by rw [hO]; kernel_rfl)).trans (base_at hA 34 rfl)
     have f35 := (hI.base 35 (by rw [hO]; kernel_rfl)).trans (base_at hA 35 rfl)
     have f36 := (hI.base 36 (by rw [hO]; kernel_rfl)).trans (base_at hA 36 rfl)
     have f37 := (hI.base 37 (by rw [hO]; kernel_rfl)).trans (base_at hA 37 rfl)
     have f38 := (hI.base 38 (by rw [hO]; kernel_rfl)).trans (base_at hA 38 rfl)
     have f39 := (hI.base 39 (by rw [hO]; kernel_rfl)).trans (base_at hA 39 rfl)
     have f40 := (hI.base 40 (by rw [hO]; kernel_rfl)).trans (base_at hA 40 rfl)
     have f41 := (hI.base 41 (by rw [hO]; kernel_rfl)).trans (base_at hA 41 rfl)
     have f42 := (hI.base 42 (by rw [hO]; kernel_rfl)).trans (base_at hA 42 rfl)
     have f43 := (hI.base 43 (by rw [hO]; kernel_rfl)).trans (base_at hA 43 rfl)
     have f44 := (hI.base 44 (by rw [hO]; kernel_rfl)).trans (base_at hA 44 rfl)
     have f45 := (hI.base 45 (by rw [hO]; kernel_rfl)).trans (base_at hA 45 rfl)
     have f46 := (hI.base 46 (by rw [hO]; kernel_rfl)).trans (base_at hA 46 rfl)
     have f47 := (hI.base 47 (by rw [hO]; kernel_rfl)).trans (base_at hA 47 rfl)
     have f59 := (hI.base 59 (by rw [hO]; kernel_rfl)).trans (base_at hA 59 rfl)
     obtain ⟨tl0, rfl⟩ : ∃ tl : List Value, ts = tl.toArray := ⟨ts.toList, by simp⟩
     have htl0 : tl0.length = 60 := by simpa using hts
     clear hts
     obtain ⟨y0, y1, y2, y3, y4, y5, y6, y7, tl8, et, htl8⟩ := len_8 htl0
     clear htl0
     subst et
     obtain ⟨y8, y9, y10, y11, y12, y13, y14, y15, tl16, et, htl16⟩ := len_8 htl8
     clear htl8
     subst et
     obtain ⟨y16, y17, y18, y19, y20, y21, y22, y23, tl24, et, htl24⟩ := len_8 htl16
     clear htl16
     subst et
     obtain ⟨y24, y25, y26, y27, y28, y29, y30, y31, tl32, et, htl32⟩ := len_8 htl24
     clear htl24
     subst et
     obtain ⟨y32, y33, y34, y35, y36, y37, y38, y39, tl40, et, htl40⟩ := len_8 htl32
     clear htl32
     subst et
     obtain ⟨y40, y41, y42, y43, y44, y45, y46, y47, tl48, et, htl48⟩ := len_8 htl40
     clear htl40
     subst et
     obtain ⟨y48, y49, y50, y51, y52, y53, y54, y55, tl56, et, htl56⟩ := len_8 htl48
     clear htl48
     subst et
     obtain ⟨y56, tl57, et, htl57⟩ := len_succ htl56
     clear htl56
     subst et
     obtain ⟨y57, tl58, et, htl58⟩ := len_succ htl57
     clear htl57
     subst et
     obtain ⟨y58, tl59, et, htl59⟩ := len_succ htl58
     clear htl58
     subst et
     obtain ⟨y59, tl60, et, htl60⟩ := len_succ htl59
     clear htl59
     subst et
     have et := List.eq_nil_of_length_eq_zero htl60
     clear htl60
     subst et
     have g1 : y1 = .pointer (some ⟨b1, 0, none⟩) := f1
     have g3 : y3 = .pointer (some ⟨b3, 0, none⟩) := f3
     have g5 : y5 = .int .i64 k2 := f5
     have g0 : y0 = _ := f0
     have g2 : y2 = _ := f2
     have g4 : y4 = _ := f4
     have g6 : y6 = _ := f6
     have g7 : y7 = _ := f7
     have g8 : y8 = _ := f8
     have g9 : y9 = _ := f9
     have g10 : y10 = _ := f10
     have g11 : y11 = _ := f11
     have g12 : y12 = _ := f12
     have g13 : y13 = _ := f13
     have g14 : y14 = _ := f14
     have g15 : y15 = _ := f15
     have g16 : y16 = _ := f16
     have g17 : y17 = _ := f17
     have g18 : y18 = _ := f18
     have g19 : y19 = _ := f19
     have g20 : y20 = _ := f20
     have g21 : y21 = _ := f21
     have g22 : y22 = _ := f22
     have g23 : y23 = _ := f23
     have g24 : y24 = _ := f24
     have g25 : y25 = _ := f25
     have g26 : y26 = _ := f26
     have g27 : y27 = _ := f27
     have g28 : y28 = _ := f28
     have g29 : y29 = _ := f29
     have g30 : y30 = _ := f30
     have g31 : y31 = _ := f31
     have g32 : y32 = _ := f32
     have g33 : y33 = _ := f33
     have g34 : y34 = _ := f34
     have g35 : y35 = _ := f35
     have g36 : y36 = _ := f36
     have g37 : y37 = _ := f37
     have g38 : y38 = _ := f38
     have g39 : y39 = _ := f39
     have g40 : y40 = _ := f40
     have g41 : y41 = _ := f41
     have g42 : y42 = _ := f42
     have g43 : y43 = _ := f43
     have g44 : y44 = _ := f44
     have g45 : y45 = _ := f45
     have g46 : y46 = _ := f46
     have g47 : y47 = _ := f47
     have g59 : y59 = _ := f59
     clear f1 f3 f5 f0 f2 f4 f6 f7 f8 f9 f10 f11 f12 f13 f14 f15 f16 f17 f18 f19 f20 f21 f22 f23 f24 f25 f26 f27 f28 f29 f30 f31 f32 f33 f34 f35 f36 f37 f38 f39 f40 f41 f42 f43 f44 f45 f46 f47 f59
     subst hd g1 g3 g5 g0 g2 g4 g6 g7 g8 g9 g10 g11 g12 g13 g14 g15 g16 g17 g18 g19 g20 g21 g22 g23 g24 g25 g26 g27 g28 g29 g30 g31 g32 g33 g34 g35 g36 g37 g38 g39 g40 g41 g42 g43 g44 g45 g46 g47 g59
     have Z1 := Lib.hid (E1.ch c5 n13)
     have Z2 := Lib.hid (E2.ch c5 n23)
     have Z3 : Hid (Box w5 b3 [.slice ad nI c, .slice (some ⟨g', 0, none⟩) (k2 + 1) c', .int .u64 am, .string sg, .string tk, .slice aV nW cV]) := B3'
     have O9 := Lib.hid (O'.ch c5 (fun x hx => by injection hx with hx; subst hx; exact x3))
     have OX0 := Lib.hid (ox0.ch c5 (fun x hx => (AB0.out x hx)))
     have OX1 := Lib.hid (ox1.ch c5 (fun x hx => (AB1.out x hx)))
     have AX0 := Lib.hid ax0
     have AX1 := Lib.hid ax1
     have Q9 : Hid (Q w0 w5) := c5.q Q' hb30
     have A9 : Hid (∀ x, some (⟨g', 0, none⟩ : Addr) = some x → x.block ≠ b1 ∧ x.block ≠ b2 ∧ x.block ≠ b3) := fun x hx => by injection hx with hx; subst hx; exact ⟨x1, x2, x3⟩
     clear hI hall hln c5 B3' eg O' E3 E1 E2 Q' x1 x2 x3 ox0 ax0 ox1 ax1 O D1 D2 D3 AP QR OXI AXI OXW AXW RW hg1 hg2 hab HKy hV hs hz hA vz_0 sz_0 vz_1 sz_1 vz_2 sz_2 vz_3 sz_3 vz_4 sz_4 vz_5 sz_5 vz_6 sz_6 vz_7 sz_7 vz_8 sz_8 vz_9 sz_9 vz_10 sz_10
     clear iz_0 iz_1 iz_2 iz_3 iz_4 iz_5 iz_6 iz_7 iz_8 iz_9 iz_10 iz_11 bz_1 frz_1 bz_3 frz_3 bz_5 frz_5 hO hQQ
     as_aux_lemma =>
     go_wp2_with fail
     go_roundw
     case rel => exact ⟨k2 + 1, some ⟨g', 0, none⟩, c', by omega, by go_num, O9, Z3, Z1, Z2, A9, Q9, OX0, AX0, OX1, AX1⟩
     case measure => simp [intOf]; omega
   · obtain rfl : nO = k2 := by omega
     have k1 : ¬ (nO : Int) < (nO : Int) := by omega
     have t3 : decide (nO < nO) = false := by simp
     go_wp2_with (with_reducible (show wpList _ _ _ (⟨_, Op.load 43 _, _, _, _, _⟩ :: _) _ _); refine halt ?_)
     refine Lib.hid (ld_box rfl 43 _ rfl b3 _ rfl D3.out Tryz.underlying43 rfl (by kernel_rfl) ?_)
     refine st_box rfl 43 _ _ rfl b2 _ [.slice ad nI c, .slice ao nO c2, .int .u64 am, .string sg, .string tk, .slice aV nW cV] rfl rfl D2.out rfl (by kernel_rfl) (one6d rfl rfl rfl rfl rfl rfl) ?_
     intro w9 B9 c9
     have HL : Hid ((loadVar 43 ⟨b2, 0, none⟩).run Tryz.prog w9 = .ok (.agg #[.slice ad nI c, .slice ao nO c2, .int .u64 am, .string sg, .string tk, .slice aV nW cV]) w9) := B9.load _ Tryz.underlying43 rfl (by kernel_rfl)
     have O9 := Lib.hid (O.out.ch c9 (fun x hx => (AP.out x hx).2.1))
     have OI9 := Lib.hid (OXI.out.ch c9 (fun x hx => (API.out x hx).2.1))
     have OW9 := Lib.hid (OXW.out.ch c9 (fun x hx => AB2.out x hx))
     have Q9 : Hid (Q w0 w9) := c9.q QR.out hb20
     clear B9 c9 O QR D1 D2 D3 OXI OXW
     simp only [Act.put, pu]
     refine wpList_nil ?_
     go_step
     go_step
     go_step
     refine bodyPost_ret (results_cell rfl rfl HL.out) rfl ?_
     exact ⟨ad, c, ao, c2, aV, cV, rfl, ⟨OI9.out, O9.out, OW9.out⟩, Q9.out⟩
end Go.Proofs.YtobfgljkckcmcaaGreatDoor.Coi
