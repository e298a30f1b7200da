import Derived.Test.YtobfgljkckcmcaaGreatDoorYJCut
import Derived.Test.YtobfgljkckcmcaaGreatDoorYJPlan
set_option maxRecDepth 100000
namespace Go.Proofs.YtobfgljkckcmcaaGreatDoor.Coi
open Go.RowKit
open Mem Num Cod Plan
set_option linter.unusedVariables false
set_option linter.unusedSimpArgs false
theorem built_txp (v0 : Int) (v1 v2 : ByteArray) (v3 : Option Addr) (v4 v5 : Nat) : Tryz.prog.built 29 [(2, .agg #[.int .u64 v0, .string v1, .string v2, .slice v3 v4 v5])] = some #[.slice none 0 0, .slice none 0 0, .int .u64 v0, .string v1, .string v2, .slice v3 v4 v5] := by kernel_rfl
theorem wpl_txp {ops : Array Oper} {rest : List Oper} {o : Oper} {a : Act} {w : World} {Q : Exit → Act → World → Prop} (hg : o.guard = none) {n0 : Nat} (v0 : Int) (v1 v2 : ByteArray) (v3 : Option Addr) (v4 v5 : Nat) (ho : o.op = .build 29 #[(2, .tmp n0)]) (d : Option Tmp) (hd : o.dst = d) (h0 : a.eval (.tmp n0) = .agg #[.int .u64 v0, .string v1, .string v2, .slice v3 v4 v5]) (h : wpList Tryz.prog ops Q rest (a.put d (.agg #[.slice none 0 0, .slice none 0 0, .int .u64 v0, .string v1, .string v2, .slice v3 v4 v5])) w) : wpList Tryz.prog ops Q (o :: rest) a w := by
 refine wpList_buildTo hg 29 _ ho d hd _ ?_ h
 simp only [List.map_toArray, List.map_cons, List.map_nil, h0]
 exact built_txp v0 v1 v2 v3 v4 v5
theorem zeroI (w : World) : (zeroValue 53).run Tryz.prog w = .ok (.agg #[.string ⟨#[]⟩, .int .i64 0, .int .i64 0, .string ⟨#[]⟩]) w := by
 have h : (Tryz.prog.info? 53).map (·.zero) = some (some (.agg #[.string ⟨#[]⟩, .int .i64 0, .int .i64 0, .string ⟨#[]⟩])) := by kernel_rfl
 cases hi : Tryz.prog.info? 53 with
 | none => rw [hi] at h; cases h
 | some i => rw [hi] at h; simp [zeroValue, typeInfo, hi, show i.zero = some (.agg #[.string ⟨#[]⟩, .int .i64 0, .int .i64 0, .string ⟨#[]⟩]) by simpa using h]
theorem wpl_st1 {P : Program} {ops : Array Oper} {rest : List Oper} {op : Oper} {a : Act} {w : World} {Q : Exit → Act → World → Prop} (hg : op.guard = none) (ty : TypeId) (x y : Operand) (ho : op.op = .store ty x y) {b j : Nat} {cs : List Value} {v old : Value}
 (hx : a.eval x = .pointer (some ⟨b, j, none⟩)) (hy : a.eval y = v) (hB : Box w b cs) (hj : cs[j]? = some old) (hrun : ∀ w : World, w.cell? ⟨b, j, none⟩ = some old → w.frozen? ⟨b, j, none⟩ = false → (Instr.storeAt ty (.pointer (some ⟨b, j, none⟩)) v).run P w = .ok () (w.setCell ⟨b, j, none⟩ v))
 (h : ∀ w', Box w' b (cs.set j v) → Ch b w w' → wpList P ops Q rest (a.put op.dst undef) w') : wpList P ops Q (op :: rest) a w :=
 wpList_plain hg fun K hK => wpo_st1 ty x y ho hx hy hB hj hrun fun w' hb hc => hK _ _ (h w' hb hc)
def cutI (x : IN) : IN := ⟨cutS x.tx 40, x.out, x.path, cutS x.sig 450⟩
def cutX (t : TX) : TX := ⟨min t.nI 6, fun i => cutI (t.ins i), min t.nO 6, fun i => cutO (t.outs i), cutP t.p⟩
theorem OR.down {α : Type} {t : TypeId} {C : α → List Value} {k : Nat} {w : World} {B B' : Nat} {a : Option Addr} {n cap : Nat} {f : Nat → α} (h : OR t C k w B a n cap f) (hb : B' ≤ B) : OR t C k w B' a n cap f := by
 obtain ⟨h1, h2 | ⟨g, c, cur, h3, h4, h5⟩⟩ := h
 · exact ⟨h1, .inl h2⟩
 · exact ⟨h1, .inr ⟨g, c, cur, h3, Nat.le_trans hb h4, h5⟩⟩
theorem Ins.q {α : Type} {C : α → List Value} {k : Nat} {P : α → Prop} {W W' : World} {a : Option Addr} {len cap : Nat} {f : Nat → α} (h : Ins C k P W a len cap f) (q : Q W W') : Ins C k P W' a len cap f := ⟨h.sl.q q, h.le, h.cap, h.ok⟩
set_option maxHeartbeats 40000000 in
theorem cutx_x (nI : Nat) (ins : Nat → IN) (nO : Nat) (outs : Nat → OU) (pp : PF) (aI aO aW : Option Addr) (cI cO cW : Nat) (w0 : World) (hi : Ins IN.cells 4 IN.wide w0 aI nI cI ins) (ho : Ins OU.cells 9 OU.wide w0 aO nO cO outs) (hw : Ins WN.cells 10 WN.wide w0 aW pp.n cW pp.w) (h1 : pp.sig.size ≤ maxLen) (h2 : pp.token.size ≤ maxLen) :
 Calls Tryz.prog 5 #[txV ⟨nI, ins, nO, outs, pp⟩ aI cI aO cO aW cW] w0 fun e w' => ∃ aI2 cI2 aO2 cO2 aW2 cW2, e = .returned (txV (cutX ⟨nI, ins, nO, outs, pp⟩) aI2 cI2 aO2 cO2 aW2 cW2) ∧
  OR 53 IN.cells 4 w' w0.heap.size aI2 (min nI 6) cI2 (fun i => cutI (ins i)) ∧ OR 47 OU.cells 9 w' w0.heap.size aO2 (min nO 6) cO2 (fun i => cutO (outs i)) ∧ OR 135 WN.cells 10 w' w0.heap.size aW2 (min pp.n 6) cW2 (cutP pp).w ∧ Apart aI2 aO2 ∧ Apart aI2 aW2 ∧ Apart aO2 aW2 ∧ Q w0 w' := by
 go_enter Tryz.func5, Tryz.ntmps5
 go_wp2_with (with_reducible (show wpList _ _ _ (⟨_, Op.load 27 _, _, _, _, _⟩ :: _) _ _); refine halt ?_)
 have HQ : Hid (Q w0 ((w0.alloc (.cells #[.slice aI nI cI, .slice aO nO cO, .int .u64 pp.amount, .string pp.sig, .string pp.token, .slice aW pp.n cW] 29)).alloc (.cells #[.slice none 0 0, .slice none 0 0, .int .u64 0, .string ⟨#[]⟩, .string ⟨#[]⟩, .slice none 0 0] 29))) := ((Q.refl w0).alloc _).alloc _
 have B1 : Hid (Box ((w0.alloc (.cells #[.slice aI nI cI, .slice aO nO cO, .int .u64 pp.amount, .string pp.sig, .string pp.token, .slice aW pp.n cW] 29)).alloc (.cells #[.slice none 0 0, .slice none 0 0, .int .u64 0, .string ⟨#[]⟩, .string ⟨#[]⟩, .slice none 0 0] 29)) w0.heap.size [.slice aI nI cI, .slice aO nO cO, .int .u64 pp.amount, .string pp.sig, .string pp.token, .slice aW pp.n cW]) := (Box.new w0 [.slice aI nI cI, .slice aO nO cO, .int .u64 pp.amount, .string pp.sig, .string pp.token, .slice aW pp.n cW] 29).q ((Q.refl _).alloc _)
 have B2 : Hid (Box ((w0.alloc (.cells #[.slice aI nI cI, .slice aO nO cO, .int .u64 pp.amount, .string pp.sig, .string pp.token, .slice aW pp.n cW] 29)).alloc (.cells #[.slice none 0 0, .slice none 0 0, .int .u64 0, .string ⟨#[]⟩, .string ⟨#[]⟩, .slice none 0 0] 29)) (w0.heap.size + 1) [.slice none 0 0, .slice none 0 0, .int .u64 0, .string ⟨#[]⟩, .string ⟨#[]⟩, .slice none 0 0]) := by
  have := Box.new (w0.alloc (.cells #[.slice aI nI cI, .slice aO nO cO, .int .u64 pp.amount, .string pp.sig, .string pp.token, .slice aW pp.n cW] 29)) [.slice none 0 0, .slice none 0 0, .int .u64 0, .string ⟨#[]⟩, .string ⟨#[]⟩, .slice none 0 0] 29
  rw [show (w0.alloc (.cells #[.slice aI nI cI, .slice aO nO cO, .int .u64 pp.amount, .string pp.sig, .string pp.token, .slice aW pp.n cW] 29)).heap.size = w0.heap.size + 1 by simp] at this
  exact this
 generalize (w0.alloc (.cells #[.slice aI nI cI, .slice aO nO cO, .int .u64 pp.amount, .string pp.sig, .string pp.token, .slice aW pp.n cW] 29)).alloc (.cells #[.slice none 0 0, .slice none 0 0, .int .u64 0, .string ⟨#[]⟩, .string ⟨#[]⟩, .slice none 0 0] 29) = wA at *
 obtain ⟨b2, hb⟩ : ∃ b, w0.heap.size + 1 = b := ⟨_, rfl⟩
 rw [hb] at B2 ⊢
 obtain ⟨b1, hb1⟩ : ∃ b, w0.heap.size = b := ⟨_, rfl⟩
 rw [hb1] at B1 ⊢
 have I3 := Lib.hid hi
 have J3 := Lib.hid ho
 have HWn := Lib.hid (hw.q HQ.out)
 clear hi ho hw
 refine Lib.hid (wpList_load_mid rfl 27 _ rfl b1 2 rfl [.int .u64 pp.amount, .string pp.sig, .string pp.token, .slice aW pp.n cW] _ (B1.out.rangeo 2 (r := []) rfl) Tryz.underlying27 rfl (by kernel_rfl) ?_)
 go_wp2_with fail
 refine (cutp_x pp aW cW _ HWn.out h1 h2).mono ?_
 rintro e w1 ⟨aW2, cW2, rfl, ow, q1⟩
 go_wp2_with (with_reducible (show wpList _ _ _ (⟨_, Op.build 29 _, _, _, _, _⟩ :: _) _ _); refine halt ?_)
 refine Lib.hid (wpl_txp rfl (cutP pp).amount (cutP pp).sig (cutP pp).token aW2 (cutP pp).n cW2 rfl _ rfl rfl ?_)
 refine wpList_allocZ rfl 29 rfl #[.slice none 0 0, .slice none 0 0, .int .u64 0, .string ⟨#[]⟩, .string ⟨#[]⟩, .slice none 0 0] zeroT ?_
 refine st_box rfl 29 _ _ rfl w1.heap.size _ [.slice none 0 0, .slice none 0 0, .int .u64 (cutP pp).amount, .string (cutP pp).sig, .string (cutP pp).token, .slice aW2 (cutP pp).n cW2] rfl rfl (Box.new w1 [.slice none 0 0, .slice none 0 0, .int .u64 0, .string ⟨#[]⟩, .string ⟨#[]⟩, .slice none 0 0] 29) rfl (by kernel_rfl) (one6 rfl rfl rfl rfl rfl rfl) ?_
 intro w3 B3' c3
 have hb13 : w0.heap.size < w1.heap.size := by have := q1.size; have := B1.out.lt; omega
 have hb23 : b2 < w1.heap.size := by have := q1.size; have := B2.out.lt; omega
 have hq1s : wA.heap.size ≤ w1.heap.size := q1.size
 have HA1 : w0.heap.size ≤ wA.heap.size := HQ.out.size
 have HB2 : w0.heap.size ≤ b2 := by omega
 have HA2 : b2 < wA.heap.size := B2.out.lt
 have hwb : ∀ x, aW2 = some x → wA.heap.size ≤ x.block ∧ x.block < w1.heap.size := by
  intro x hx
  rcases ow.shape with ⟨e, _⟩ | ⟨g, e, hl0, hl, _⟩
  · rw [e] at hx; cases hx
  · rw [e] at hx; injection hx with hx; subst hx; exact ⟨hl0, hl⟩
 have OW := Lib.hid (((ow.q ((Q.refl w1).alloc (.cells #[.slice none 0 0, .slice none 0 0, .int .u64 0, .string ⟨#[]⟩, .string ⟨#[]⟩, .slice none 0 0] 29))).ch c3 (fun x hx => by have := (hwb x hx).2; omega)).down HA1)
 have AW : Hid (∀ x, aW2 = some x → x.block ≠ b1 ∧ x.block ≠ b2 ∧ x.block ≠ w1.heap.size) := fun x hx => by have := hwb x hx; omega
 clear hwb
 have C1 := Lib.hid (((B1.out.q q1).q ((Q.refl w1).alloc (.cells #[.slice none 0 0, .slice none 0 0, .int .u64 0, .string ⟨#[]⟩, .string ⟨#[]⟩, .slice none 0 0] 29))).ch c3 (show b1 ≠ w1.heap.size by omega))
 have C2 := Lib.hid (((B2.out.q q1).q ((Q.refl w1).alloc (.cells #[.slice none 0 0, .slice none 0 0, .int .u64 0, .string ⟨#[]⟩, .string ⟨#[]⟩, .slice none 0 0] 29))).ch c3 (show b2 ≠ w1.heap.size by omega))
 have C3 := Lib.hid B3'
 have Q3 : Hid (Q w0 w3) := c3.q ((HQ.out.trans q1).alloc _) (by omega)
 have n13 : b1 ≠ w1.heap.size := by omega
 have n23 : b2 ≠ w1.heap.size := by omega
 have hb30 : w0.heap.size ≤ w1.heap.size := by omega
 generalize w1.heap.size = b3 at *
 clear c3 B3' ow q1 HQ HWn B1 B2 h1 h2
 obtain ⟨n, hn⟩ : ∃ n, min nI 6 = n := ⟨_, rfl⟩
 obtain ⟨m, hm⟩ : ∃ n, min nO 6 = n := ⟨_, rfl⟩
 obtain ⟨FI, hFI⟩ : ∃ F : Nat → IN, F = fun i => cutI (ins i) := ⟨_, rfl⟩
 obtain ⟨FO, hFO⟩ : ∃ F : Nat → OU, F = fun i => cutO (outs i) := ⟨_, rfl⟩
 have HFI : Hid (∀ i, FI i = cutI (ins i)) := fun i => by rw [hFI]
 have HFO : Hid (∀ i, FO i = cutO (outs i)) := fun i => by rw [hFO]
 have HE : Hid (∀ aI2 cI2 aO2 cO2, txV (cutX ⟨nI, ins, nO, outs, pp⟩) aI2 cI2 aO2 cO2 aW2 cW2 = .agg #[.slice aI2 n cI2, .slice aO2 m cO2, .int .u64 (cutP pp).amount, .string (cutP pp).sig, .string (cutP pp).token, .slice aW2 (cutP pp).n cW2]) := fun a1 c1 a2 c2 => by rw [← hn, ← hm]; rfl
 have HEI := Lib.hid hFI
 have HEO := Lib.hid hFO
 have n6 : n ≤ 6 := by omega
 have nl : n ≤ nI := by omega
 have m6 : m ≤ 6 := by omega
 have ml : m ≤ nO := by omega
 clear hFI hFO
 have nIB : nI ≤ 9223372036854775807 := by have := I3.out.le; have := I3.out.cap; unfold maxLen at *; omega
 have nOB : nO ≤ 9223372036854775807 := by have := J3.out.le; have := J3.out.cap; unfold maxLen at *; omega
 generalize (cutP pp).amount = pa at *
 generalize (cutP pp).sig = ps at *
 generalize (cutP pp).token = pt at *
 as_aux_lemma =>
 go_wp2_with fail
 have OA := Lib.hid (OR.nil 53 IN.cells 4 w3 w0.heap.size FI)
 obtain ⟨i0, hi0, hz0, hz1, hz2⟩ := info_of info_inx
 go_loopw [4, 5] (fun i x wr => ∃ (k : Nat) (ad : Option Addr) (c : Nat), k ≤ n ∧ i = .int .i64 k ∧ Hid (OR 53 IN.cells 4 wr w0.heap.size ad k c FI) ∧ Hid (Box wr b3 [.slice ad k c, .slice none 0 0, .int .u64 pa, .string ps, .string pt, .slice aW2 (cutP pp).n cW2]) ∧ Hid (Box wr b1 [.slice aI nI cI, .slice aO nO cO, .int .u64 pp.amount, .string pp.sig, .string pp.token, .slice aW pp.n cW]) ∧ Hid (Box wr b2 [.slice none 0 0, .slice none 0 0, .int .u64 0, .string ⟨#[]⟩, .string ⟨#[]⟩, .slice none 0 0]) ∧ Hid (∀ x, ad = some x → x.block ≠ b1 ∧ x.block ≠ b2 ∧ x.block ≠ b3) ∧ Hid (OR 135 WN.cells 10 wr w0.heap.size aW2 (min pp.n 6) cW2 (cutP pp).w) ∧ Hid (Apart ad aW2) ∧ Hid (Q w0 wr)) (fun i _ _ => n - (intOf i).toNat)
 case atStart => exact ⟨0, none, 0, by omega, rfl, OA, C3, C1, C2, Lib.hid (fun x h => by cases h), OW, Lib.hid (fun x y h => by cases h), Q3⟩
 case round =>
 obtain ⟨k, ad, c, hk, rfl, O, D3, D1, D2, AP, OW', AA, QR⟩ := hrel
 have k0 : (0 : Int) ≤ (k : Int) := by omega
 have m0 := D1.out.at_ 0 _ rfl
 by_cases hlt : k < n
 · have k1 : (k : Int) < (nI : Int) := by omega
   have k2 : (k : Int) < 6 := by omega
   obtain ⟨b, off, rfl, hrow⟩ := (I3.out.sl.q QR.out).some_ (by omega)
   have hrow := hrow k (by omega)
   obtain ⟨y, hy⟩ : ∃ y, ins k = y := ⟨_, rfl⟩
   have FY : Hid (FI k = cutI y) := by show _ = _; rw [HFI.out k, hy]
   have wy := I3.out.ok k (by omega)
   rw [hy] at hrow wy
   obtain ⟨z0, z1, z2, z3⟩ := wy
   obtain ⟨vt, vo, vp, vs⟩ := y
   dsimp only at z0 z3
   obtain ⟨tx2, eA⟩ : ∃ z, vt.extract 0 (min (vt.size : Int) 40).toNat = z := ⟨_, rfl⟩
   obtain ⟨sg2, eB⟩ : ∃ z, vs.extract 0 (min (vs.size : Int) 450).toNat = z := ⟨_, rfl⟩
   have FZ : Hid (FI k = ⟨tx2, vo, vp, sg2⟩) := by show _ = _; rw [FY.out, ← eA, ← eB]; rfl
   unfold maxLen at z0 z3
   clear hy FY
   have RW : Hid (wr.rangeAt b (off + k * 4) [.string vt, .int .i64 vo, .int .i64 vp, .string vs]) := hrow
   clear hrow
   go_wp2_with (with_reducible (show wpList _ _ _ (⟨_, Op.load 53 _, _, _, _, _⟩ :: _) _ _); refine halt ?_)
   refine Lib.hid (wpList_load_mid rfl 53 _ rfl b (off + k * 4) rfl [.string vt, .int .i64 vo, .int .i64 vp, .string vs] _ RW.out Tryz.underlying53 rfl (by kernel_rfl) ?_)
   refine wpList_allocZ rfl 53 rfl #[.string ⟨#[]⟩, .int .i64 0, .int .i64 0, .string ⟨#[]⟩] zeroI ?_
   refine st_box rfl 53 _ _ rfl wr.heap.size _ [.string vt, .int .i64 vo, .int .i64 vp, .string vs] rfl rfl (Box.new wr [.string ⟨#[]⟩, .int .i64 0, .int .i64 0, .string ⟨#[]⟩] 53) rfl (by kernel_rfl) (one4 rfl rfl rfl rfl) ?_
   intro w5 B5 c5
   obtain ⟨b5, hb5⟩ : ∃ x, wr.heap.size = x := ⟨_, rfl⟩
   rw [hb5] at B5 c5 ⊢
   have m5 := B5.at_ 0 _ rfl
   go_wp2_with (with_reducible (show wpList _ _ _ (⟨_, Op.store 9 _ _, _, _, _, _⟩ :: _) _ _); refine halt ?_)
   clear m5
   refine Lib.hid (wpl_st1 rfl 9 _ _ rfl rfl rfl B5 rfl (fun w hc hf => by simp [go_sem, hc, hf]) ?_)
   intro w6 B6 c6
   have m6 := B6.at_ 3 _ rfl
   go_wp2_with (with_reducible (show wpList _ _ _ (⟨_, Op.store 9 _ _, _, _, _, _⟩ :: _) _ _); refine halt ?_)
   clear m6
   refine Lib.hid (wpl_st1 rfl 9 _ _ rfl rfl rfl B6 rfl (fun w hc hf => by simp [go_sem, hc, hf]) ?_)
   intro w7 B7 c7
   have c57 : Ch b5 (wr.alloc (.cells #[.string ⟨#[]⟩, .int .i64 0, .int .i64 0, .string ⟨#[]⟩] 53)) w7 := (c5.trans c6).trans c7
   have q7 : Q wr w7 := c57.q ((Q.refl wr).alloc _) (by omega)
   clear c5 c6 c7 c57 B5 B6
   have O7 := Lib.hid (O.out.q q7)
   have E3 := Lib.hid (D3.out.q q7)
   have E1 := Lib.hid (D1.out.q q7)
   have E2 := Lib.hid (D2.out.q q7)
   have OW7 := Lib.hid (OW'.out.q q7)
   have QR7 := Lib.hid (QR.out.trans q7)
   have hs7 := q7.size
   clear O D1 D2 D3 OW' QR m0 q7
   have m3 := E3.out.at_ 0 _ rfl
   go_wp2_with (with_reducible (show wpList _ _ _ (⟨_, Op.load 53 _, _, _, _, _⟩ :: _) _ _); refine halt ?_)
   clear m3
   have B8 : Box w7 b5 [.string tx2, .int .i64 vo, .int .i64 vp, .string sg2] := B7
   refine Lib.hid (ld_box rfl 53 _ rfl b5 _ rfl B8 Tryz.underlying53 rfl (by kernel_rfl) ?_)
   refine wpr_inx rfl tx2 vo vp sg2 rfl rfl ?_
   clear B7 B8 eA eB RW
   have qa : Q w7 (w7.alloc (.cells #[.string tx2, .int .i64 vo, .int .i64 vp, .string sg2] 53)) := (Q.refl w7).alloc _
   have O8 := Lib.hid (O7.out.q qa)
   have X1 := Lib.hid (E1.out.q qa)
   have X2 := Lib.hid (E2.out.q qa)
   have X3 := Lib.hid (E3.out.q qa)
   have OW8 := Lib.hid (OW7.out.q qa)
   have QR8 := Lib.hid (QR7.out.trans qa)
   have hs8 := QR8.out.size
   clear qa O7 E1 E2 E3 OW7 QR7
   refine wpl_app rfl (.tmp 47) (.tmp 49) 22 rfl i0 _ 48 Tryz.underlying22 hi0 hz0 hz1 hz2 rfl (by decide) rfl O8.out w7.heap.size rfl rfl (fun j u hj => ?_) (by rw [FZ.out]; exact one4 rfl rfl rfl rfl) (by omega) (by decide) (by omega) ?_
   · rw [FZ.out] at hj
     rw [World.cell?_alloc_at _ _ _ _ rfl]
     unfold IN.cells at hj
     simpa using hj
   intro g' c' w8 O9 G
   have Y1 := (X1.out).over (fun x hx => (AP.out x hx).1) G
   have Y2 := (X2.out).over (fun x hx => (AP.out x hx).2.1) G
   have Y3 := (X3.out).over (fun x hx => (AP.out x hx).2.2) G
   have x1 : g' ≠ b1 := G.ne b1 X1.out.lt (fun x hx => (AP.out x hx).1)
   have x2 : g' ≠ b2 := G.ne b2 X2.out.lt (fun x hx => (AP.out x hx).2.1)
   have x3 : g' ≠ b3 := G.ne b3 X3.out.lt (fun x hx => (AP.out x hx).2.2)
   obtain ⟨OW9, AA9⟩ := OW8.out.over AA.out G
   have QR9 := O8.out.q_grow QR8.out (Nat.le_refl _) G
   clear O8 X1 X2 X3 OW8 QR8 G
   go_wp2_with (with_reducible (show wpList _ _ _ (⟨_, Op.store 22 _ _, _, _, _, _⟩ :: _) _ _); refine halt ?_)
   refine Lib.hid (wpl_st1 rfl 22 _ _ rfl rfl rfl Y3 rfl (fun w hc hf => by simp [go_sem, hc, hf]) ?_)
   intro w9 B9 c9
   have Z1 := Lib.hid (Y1.ch c9 n13)
   have Z2 := Lib.hid (Y2.ch c9 n23)
   have Z3 : Hid (Box w9 b3 [.slice (some ⟨g', 0, none⟩) (k + 1) c', .slice none 0 0, .int .u64 pa, .string ps, .string pt, .slice aW2 (cutP pp).n cW2]) := B9
   have O10 := Lib.hid (O9.ch c9 (fun x hx => by injection hx with hx; subst hx; exact x3))
   have OW10 := Lib.hid (OW9.ch c9 (fun x hx => (AW.out x hx).2.2))
   have QR10 : Hid (Q w0 w9) := c9.q QR9 hb30
   have AP10 : Hid (∀ x, some (⟨g', 0, none⟩ : Addr) = some x → x.block ≠ b1 ∧ x.block ≠ b2 ∧ x.block ≠ b3) := fun x hx => by injection hx with hx; subst hx; exact ⟨x1, x2, x3⟩
   have AA10 := Lib.hid AA9
   clear Y1 Y2 Y3 B9 c9 O9 OW9 QR9 x1 x2 x3 AA9 FZ AA AP
   go_wp2_with fail
   go_roundw
   case rel => exact ⟨k + 1, some ⟨g', 0, none⟩, c', by omega, by go_num, O10, Z3, Z1, Z2, AP10, OW10, AA10, QR10⟩
   case measure => simp [intOf]; omega
 · obtain rfl : k = n := by omega
   clear hk hlt
   by_cases h6 : k < nI
   · have k1 : (k : Int) < (nI : Int) := by omega
     have k2 : ¬ (k : Int) < 6 := by omega
     have t2 : decide ((k : Int) < 6) = false := by simp; omega
     have t3 : decide (k < 6) = false := by simp; omega
     go_wp2_with fail
     as_aux_lemma =>
     have OA := Lib.hid (OR.nil 47 OU.cells 9 wr w0.heap.size FO)
     obtain ⟨i1, gi0, gz0, gz1, gz2⟩ := info_of info_out
     go_loopw [6] (fun i wr => ∃ (k2 : Nat) (ao : Option Addr) (c2 : Nat), k2 ≤ m ∧ i = .int .i64 k2 ∧ Hid (OR 47 OU.cells 9 wr w0.heap.size ao k2 c2 FO) ∧ Hid (Box wr b3 [.slice ad k c, .slice ao k2 c2, .int .u64 pa, .string ps, .string pt, .slice aW2 (cutP pp).n cW2]) ∧ Hid (Box wr b1 [.slice aI nI cI, .slice aO nO cO, .int .u64 pp.amount, .string pp.sig, .string pp.token, .slice aW pp.n cW]) ∧ Hid (Box wr b2 [.slice none 0 0, .slice none 0 0, .int .u64 0, .string ⟨#[]⟩, .string ⟨#[]⟩, .slice none 0 0]) ∧ Hid (∀ x, ao = some x → x.block ≠ b1 ∧ x.block ≠ b2 ∧ x.block ≠ b3) ∧ Hid (OR 53 IN.cells 4 wr w0.heap.size ad k c FI) ∧ Hid (OR 135 WN.cells 10 wr w0.heap.size aW2 (min pp.n 6) cW2 (cutP pp).w) ∧ Hid (Apart ao ad) ∧ Hid (Apart ao aW2) ∧ Hid (Q w0 wr)) (fun i _ => m - (intOf i).toNat)
     case atStart => exact ⟨0, none, 0, by omega, rfl, OA, D3, D1, D2, Lib.hid (fun x h => by cases h), O, OW', Lib.hid (fun x y h => by cases h), Lib.hid (fun x y h => by cases h), QR⟩
     case round =>
     obtain ⟨k2, ao, c2, hk2, rfl, O2, D3, D1, D2, AO, OI, OW2, AA1, AA2, QR2⟩ := hrel
     clear O OW' QR OA k1 t2 t3 m0
     have j0 : (0 : Int) ≤ (k2 : Int) := by omega
     have m3 := D1.out.at_ 1 _ rfl
     by_cases hl2 : k2 < m
     · have j1 : (k2 : Int) < (nO : Int) := by omega
       have j2 : (k2 : Int) < 6 := by omega
       go_wp2_with fail
       clear m3
       obtain ⟨b, off, hab, hrow⟩ := (J3.out.sl.q QR2.out).some_ (by omega)
       obtain ⟨y, hy⟩ : ∃ y, outs k2 = y := ⟨_, rfl⟩
       have HKy : Hid (FO k2 = cutO y) := by show _ = _; rw [HFO.out k2, hy]
       have wy := Lib.hid (J3.out.ok k2 (by omega))
       have hrow := hrow k2 (by omega)
       rw [hy] at hrow wy
       have RW : Hid (∀ w', Q wr w' → w'.rangeAt b (off + k2 * 9) (OU.cells y)) := fun w' q j v hv => Q.cell' q (hrow j v hv)
       have CW : Hid (∀ w, Calls Tryz.prog 42 #[ouV y] w fun e w' => e = .returned (ouV (cutO y)) ∧ Q w w') := fun w => cutout_x y w wy.out.key wy.out.gate wy.out.anchor wy.out.of_
       clear hy hrow wy
       obtain ⟨gp, hg1, hg2⟩ : ∃ gp, (∀ x, ao = some x → x.block = gp) ∧ gp < wr.heap.size := by
        rcases O2.out.shape with ⟨e, _⟩ | ⟨g, e, _, hl, _⟩
        · exact ⟨b3, (fun x hx => by rw [e] at hx; cases hx), D3.out.lt⟩
        · exact ⟨g, (fun x hx => by rw [e] at hx; injection hx with hx; rw [← hx]), hl⟩
       as_aux_lemma =>
       have hS0 : Q wr wr.drew := (Q.refl wr).drew
       refine region_gen3 ?_
       intro OPS QQ A0 hO hQQ hA
       have hz : A0.tmps.size = 75 := by rw [hA]; rfl
       have hs : sound OPS A0.tmps.size = true := by rw [hz, hO]; kernel_rfl
       have bz_1 : A0.eval (.tmp 1) = .pointer (some ⟨b1, 0, none⟩) := by rw [hA]; rfl
       have frz_1 : free OPS 1 = true := by rw [hO]; kernel_rfl
       have bz_3 : A0.eval (.tmp 3) = .pointer (some ⟨b3, 0, none⟩) := by rw [hA]; rfl
       have frz_3 : free OPS 3 = true := by rw [hO]; kernel_rfl
       have bz_6 : A0.eval (.tmp 6) = .int .i64 k2 := by rw [hA]; rfl
       have frz_6 : free OPS 6 = true := by rw [hO]; kernel_rfl
       obtain ⟨VV, hVV⟩ : ∃ V : Nat → Value → World → Prop, V = fun i => ([fun v _ => v = .pointer (some ⟨b3, 1, none⟩), fun v _ => v = .slice ao k2 c2, fun v _ => v = .pointer (some ⟨b1, 1, none⟩), fun v _ => v = .slice aO nO cO, fun v _ => v = .int .i64 k2, fun v _ => v = .pointer (some ⟨b, off + k2 * 9, none⟩), fun v _ => v = ouV y, fun v _ => v = ouV (cutO y), fun v w => ∃ g, v = .slice (some ⟨g, 0, none⟩) 1 1 ∧ g ≠ gp ∧ ∀ j u, (OU.cells (cutO y))[j]? = some u → w.cell? ⟨g, j, none⟩ = some u, fun v w' => ∃ g' c', v = .slice (some ⟨g', 0, none⟩) (k2 + 1) c' ∧ OR 47 OU.cells 9 w' w0.heap.size (some ⟨g', 0, none⟩) (k2 + 1) c' FO ∧ Box w' b3 [.slice ad k c, .slice ao k2 c2, .int .u64 pa, .string ps, .string pt, .slice aW2 (cutP pp).n cW2] ∧ Box w' b1 [.slice aI nI cI, .slice aO nO cO, .int .u64 pp.amount, .string pp.sig, .string pp.token, .slice aW pp.n cW] ∧ Box w' b2 [.slice none 0 0, .slice none 0 0, .int .u64 0, .string ⟨#[]⟩, .string ⟨#[]⟩, .slice none 0 0] ∧ (g' ≠ b1 ∧ g' ≠ b2 ∧ g' ≠ b3) ∧ OR 53 IN.cells 4 w' w0.heap.size ad k c FI ∧ OR 135 WN.cells 10 w' w0.heap.size aW2 (min pp.n 6) cW2 (cutP pp).w ∧ Apart (some ⟨g', 0, none⟩) ad ∧ Apart (some ⟨g', 0, none⟩) aW2 ∧ Q w0 w', fun v _ => v = .pointer (some ⟨b3, 1, none⟩)] : List (Value → World → Prop)).getD i (fun _ _ => True) := ⟨_, rfl⟩
       have vz_0 : VV 0 = fun v _ => v = .pointer (some ⟨b3, 1, none⟩) := vat hVV 0
       have vz_1 : VV 1 = fun v _ => v = .slice ao k2 c2 := vat hVV 1
       have vz_2 : VV 2 = fun v _ => v = .pointer (some ⟨b1, 1, none⟩) := vat hVV 2
       have vz_3 : VV 3 = fun v _ => v = .slice aO nO cO := vat hVV 3
       have vz_4 : VV 4 = fun v _ => v = .int .i64 k2 := vat hVV 4
       have vz_5 : VV 5 = fun v _ => v = .pointer (some ⟨b, off + k2 * 9, none⟩) := vat hVV 5
       have vz_6 : VV 6 = fun v _ => v = ouV y := vat hVV 6
       have vz_7 : VV 7 = fun v _ => v = ouV (cutO y) := vat hVV 7
       have vz_8 : VV 8 = fun v w => ∃ g, v = .slice (some ⟨g, 0, none⟩) 1 1 ∧ g ≠ gp ∧ ∀ j u, (OU.cells (cutO y))[j]? = some u → w.cell? ⟨g, j, none⟩ = some u := vat hVV 8
       have vz_9 : VV 9 = fun v w' => ∃ g' c', v = .slice (some ⟨g', 0, none⟩) (k2 + 1) c' ∧ OR 47 OU.cells 9 w' w0.heap.size (some ⟨g', 0, none⟩) (k2 + 1) c' FO ∧ Box w' b3 [.slice ad k c, .slice ao k2 c2, .int .u64 pa, .string ps, .string pt, .slice aW2 (cutP pp).n cW2] ∧ Box w' b1 [.slice aI nI cI, .slice aO nO cO, .int .u64 pp.amount, .string pp.sig, .string pp.token, .slice aW pp.n cW] ∧ Box w' b2 [.slice none 0 0, .slice none 0 0, .int .u64 0, .string ⟨#[]⟩, .string ⟨#[]⟩, .slice none 0 0] ∧ (g' ≠ b1 ∧ g' ≠ b2 ∧ g' ≠ b3) ∧ OR 53 IN.cells 4 w' w0.heap.size ad k c FI ∧ OR 135 WN.cells 10 w' w0.heap.size aW2 (min pp.n 6) cW2 (cutP pp).w ∧ Apart (some ⟨g', 0, none⟩) ad ∧ Apart (some ⟨g', 0, none⟩) aW2 ∧ Q w0 w' := vat hVV 9
       have vz_10 : VV 10 = fun v _ => v = .pointer (some ⟨b3, 1, none⟩) := vat hVV 10
       have hV := stablex_of (T := Ch gp) (p := 9) hVV ((kx (kx (kx (kx (kx (kx (kx (kx (sx_cons (fun v w w' h t => by obtain ⟨g, h1, h2, h3⟩ := h; exact ⟨g, h1, h2, fun j u hj => t.cell (h3 j u hj) h2⟩) (sx_skip rfl (kx trivial))))))))))))
       clear hVV
       have iz_0 := pget_at hO 0 rfl
       have iz_1 := pget_at hO 1 rfl
       have iz_2 := pget_at hO 2 rfl
       have iz_3 := pget_at hO 3 rfl
       have iz_4 := pget_at hO 4 rfl
       have iz_5 := pget_at hO 5 rfl
       have iz_6 := pget_at hO 6 rfl
       have iz_7 := pget_at hO 7 rfl
       have iz_8 := pget_at hO 8 rfl
       have iz_9 := pget_at hO 9 rfl
       have iz_10 := pget_at hO 10 rfl
       have iz_11 := pget_at hO 11 rfl
       have MK8 := @Step2.pure Tryz.prog OPS QQ VV (Ch gp) (Q wr) A0 9
       have sz_0 := MK8 iz_0 (by rw [hO]; kernel_rfl) (.pointer (some ⟨b3, 1, none⟩)) (Ch.refl gp ·) (fun l a w hI hl hS => ⟨wanted_none rfl, (by have e0 : a.eval (.tmp 3) = _ := ((hI.base 3 frz_3).trans bz_3); generalize a.eval = ρ at e0 ⊢; simp [go_sem, e0]), at_mk vz_0 rfl⟩)
       have sz_1 := MK8 iz_1 (by rw [hO]; kernel_rfl) (.slice ao k2 c2) (Ch.refl gp ·) (fun l a w hI hl hS => ⟨wanted_none rfl, (by have e0 : a.eval (.tmp 63) = _ := (at_eq vz_0 (hI.at_ 0 63 _ iz_0 rfl (hl_at hl 0 rfl rfl))); have x0 := (D3.out.q hS).at_ 1 _ rfl; generalize a.eval = ρ at e0 ⊢; simp [go_sem, e0, x0]), at_mk vz_1 rfl⟩)
       have sz_2 := MK8 iz_2 (by rw [hO]; kernel_rfl) (.pointer (some ⟨b1, 1, none⟩)) (Ch.refl gp ·) (fun l a w hI hl hS => ⟨wanted_none rfl, (by have e0 : a.eval (.tmp 1) = _ := ((hI.base 1 frz_1).trans bz_1); generalize a.eval = ρ at e0 ⊢; simp [go_sem, e0]), at_mk vz_2 rfl⟩)
       have sz_3 := MK8 iz_3 (by rw [hO]; kernel_rfl) (.slice aO nO cO) (Ch.refl gp ·) (fun l a w hI hl hS => ⟨wanted_none rfl, (by have e0 : a.eval (.tmp 65) = _ := (at_eq vz_2 (hI.at_ 2 65 _ iz_2 rfl (hl_at hl 0 rfl rfl))); have x0 := (D1.out.q hS).at_ 1 _ rfl; generalize a.eval = ρ at e0 ⊢; simp [go_sem, e0, x0]), at_mk vz_3 rfl⟩)
       have sz_4 := MK8 iz_4 (by rw [hO]; kernel_rfl) (.int .i64 k2) (Ch.refl gp ·) (fun l a w hI hl hS => ⟨wanted_none rfl, ex_move rfl ((hI.base 6 frz_6).trans bz_6), at_mk vz_4 rfl⟩)
       have sz_5 := MK8 iz_5 (by rw [hO]; kernel_rfl) (.pointer (some ⟨b, off + k2 * 9, none⟩)) (Ch.refl gp ·) (fun l a w hI hl hS => ⟨wanted_none rfl, (by have e0 : a.eval (.tmp 66) = _ := (at_eq vz_3 (hI.at_ 3 66 _ iz_3 rfl (hl_at hl 0 rfl rfl))); have e1 : a.eval (.tmp 67) = _ := (at_eq vz_4 (hI.at_ 4 67 _ iz_4 rfl (hl_at hl 1 rfl rfl))); generalize a.eval = ρ at e0 e1 ⊢; simp [go_sem, e0, e1, j0, j1, hab]), at_mk vz_5 rfl⟩)
       have sz_6 := MK8 iz_6 (by rw [hO]; kernel_rfl) (ouV y) (Ch.refl gp ·) (fun l a w hI hl hS => ⟨wanted_none rfl, ex_loado 47 rfl b (off + k2 * 9) (OU.cells y) _ (at_eq vz_5 (hI.at_ 5 68 _ iz_5 rfl (hl_at hl 0 rfl rfl))) (RW.out w hS) Tryz.underlying47 rfl (by kernel_rfl), at_mk vz_6 rfl⟩)
       have MK9 := @Step2.done Tryz.prog OPS QQ VV (Ch gp) (Q wr) A0 9
       have sz_7 := MK9 iz_7 (by rw [hO]; kernel_rfl) (fun l a w hI hl hS => by
        refine ⟨wanted_none rfl, ?_⟩
        refine wp_enter (f := 42) (args := #[ouV y]) ?_ ?_
        · exact ex_call rfl (by simp only [List.map_toArray, List.map_cons, List.map_nil, ev_const, (show a.eval (.tmp 69) = _ from (at_eq vz_6 (hI.at_ 6 69 _ iz_6 rfl (hl_at hl 0 rfl rfl))))]) Tryz.func42 (by kernel_rfl) (by kernel_rfl)
        · refine (CW.out w).mono fun e w' hc => ?_
          obtain ⟨rfl, hq⟩ := hc
          exact ⟨_, rfl, Ch.of_q hq gp, hS.trans hq, at_mk vz_7 rfl⟩)
       have sz_8 := MK9 iz_8 (by rw [hO]; kernel_rfl) (fun l a w hI hl hS => by
        refine ⟨wanted_none rfl, ?_⟩
        refine wpo_rowout (cutO y).kind (cutO y).amount (cutO y).key (cutO y).gate (cutO y).expiry (cutO y).anchor (cutO y).unit (cutO y).tokens (cutO y).of_ rfl (at_eq vz_7 (hI.at_ 7 70 _ iz_7 rfl (hl_at hl 0 rfl rfl))) ?_
        exact ⟨_, rfl, Ch.of_q ((Q.refl w).alloc _) gp, hS.alloc _, p_at vz_8 ⟨w.heap.size, rfl, by have := hS.size; omega, fun j u hj => by rw [World.cell?_alloc_at _ _ _ _ rfl]; unfold OU.cells at hj; simpa using hj⟩⟩)
       have sz_9 := StepP.done (P := Tryz.prog) (V := VV) (T := Ch gp) (S := (Q wr)) (a0 := A0) (p := 9) (Qx := QQ) iz_9 (fun l a w hI hl hS => by
        obtain ⟨g, eg, hgne, hcell⟩ := at_p vz_8 (hI.at_ 8 71 _ iz_8 rfl (hl_at hl 1 rfl rfl))
        refine ⟨wanted_none rfl, ?_⟩
        refine wpo_app (.tmp 64) (.tmp 71) 23 rfl i1 _ 104 Tryz.underlying23 gi0 gz0 gz1 gz2 rfl (by decide) (at_eq vz_1 (hI.at_ 1 64 _ iz_1 rfl (hl_at hl 0 rfl rfl))) (O2.out.q hS) g eg rfl (fun j u hj => hcell j u (by rw [HKy.out] at hj; exact hj)) (by rw [HKy.out]; exact one9 rfl rfl rfl rfl rfl rfl rfl rfl rfl) (by omega) (by decide) (by have := QR2.out.size; have := hS.size; omega) ?_
        intro g' c' w' O' G
        obtain ⟨OI', A1⟩ := (OI.out.q hS).over AA1.out G
        obtain ⟨OW9, A2⟩ := (OW2.out.q hS).over AA2.out G
        exact ⟨_, rfl, G.chp gp hg1, p_at vz_9 ⟨g', c', rfl, O', (D3.out.q hS).over (fun x hx => (AO.out x hx).2.2) G, (D1.out.q hS).over (fun x hx => (AO.out x hx).1) G, (D2.out.q hS).over (fun x hx => (AO.out x hx).2.1) G, ⟨G.ne b1 (D1.out.q hS).lt (fun x hx => (AO.out x hx).1), G.ne b2 (D2.out.q hS).lt (fun x hx => (AO.out x hx).2.1), G.ne b3 (D3.out.q hS).lt (fun x hx => (AO.out x hx).2.2)⟩, OI', OW9, A1, A2, (O2.out.q hS).q_grow (QR2.out.trans hS) (Nat.le_refl _) G⟩⟩)
       have MK10 := @StepQ.pure Tryz.prog OPS QQ VV (Q wr) A0 9
       have sz_10 := MK10 iz_10 (.pointer (some ⟨b3, 1, none⟩)) (fun l a w hI hl => ⟨wanted_none rfl, (by have e0 : a.eval (.tmp 3) = _ := ((hI.base 3 frz_3).trans bz_3); generalize a.eval = ρ at e0 ⊢; simp [go_sem, e0]), at_mk vz_10 rfl⟩)
       refine wp_plan2 VV (Ch gp) (Q wr) 9 11 (by kernel_rfl) hs (by rw [hO]; rfl) (by rw [hO]; kernel_rfl) hV hS0 (steps2_all hO _ rfl ((s2_cons sz_0 (s2_cons sz_1 (s2_cons sz_2 (s2_cons sz_3 (s2_cons sz_4 (s2_cons sz_5 (s2_cons sz_6 (s2_cons sz_7 (s2_cons sz_8 (sp_cons rfl sz_9 (sq_cons sz_10 trivial))))))))))))) ?_
       intro l a w hall hln hI
       as_aux_lemma =>
       obtain ⟨g', c', eg, O', E3, E1, E2, ⟨x1, x2, x3⟩, OI', OW9, A1, A2, Q'⟩ := (at_p vz_9 (hI.at_ 9 72 _ iz_9 rfl (hall 9 (by decide))))
       refine fin_of iz_11 (wanted_none rfl) ?_
       refine wpo_st1 23 _ _ rfl (at_eq vz_10 (hI.at_ 10 73 _ iz_10 rfl (hall 10 (by decide)))) eg E3 rfl (fun w hc hf => by simp [go_sem, hc, hf]) ?_
       intro w5 B3' c5
       rw [hQQ]
       obtain ⟨ts, ds⟩ := a
       have hd : ds = [] := by have := hI.df; rw [hA] at this; exact this
       have hts : ts.size = 75 := by have := hI.sz; rw [hz] at this; exact this
       have f1 : ts.getD 1 undef = .pointer (some ⟨b1, 0, none⟩) := ((hI.base 1 frz_1).trans bz_1)
       have f3 : ts.getD 3 undef = .pointer (some ⟨b3, 0, none⟩) := ((hI.base 3 frz_3).trans bz_3)
       have f6 : ts.getD 6 undef = .int .i64 k2 := ((hI.base 6 frz_6).trans bz_6)
       have f0 := (hI.base 0 (by rw [hO]; kernel_rfl)).trans (base_at hA 0 rfl)
       have f2 := (hI.base 2 (by rw [hO]; kernel_rfl)).trans (base_at hA 2 rfl)
       have f4 := (hI.base 4 (by rw [hO]; kernel_rfl)).trans (base_at hA 4 rfl)
       have f5 := (hI.base 5 (by rw [hO]; kernel_rfl)).trans (base_at hA 5 rfl)
       have f7 := (hI.base 7 (by rw [hO]; kernel_rfl)).trans (base_at hA 7 rfl)
       have f8 := (hI.base 8 (by rw [hO]; kernel_rfl)).trans (base_at hA 8 rfl)
       have f9 := (hI.base 9 (by rw [hO]; kernel_rfl)).trans (base_at hA 9 rfl)
       have f10 := (hI.base 10 (by rw [hO]; kernel_rfl)).trans (base_at hA 10 rfl)
       have f11 := (hI.base 11 (by rw [hO]; kernel_rfl)).trans (base_at hA 11 rfl)
       have f12 := (hI.base 12 (by rw [hO]; kernel_rfl)).trans (base_at hA 12 rfl)
       have f13 := (hI.base 13 (by rw [hO]; kernel_rfl)).trans (base_at hA 13 rfl)
       have f14 := (hI.base 14 (by rw [hO]; kernel_rfl)).trans (base_at hA 14 rfl)
       have f15 := (hI.base 15 (by rw [hO]; kernel_rfl)).trans (base_at hA 15 rfl)
       have f16 := (hI.base 16 (by rw [hO]; kernel_rfl)).trans (base_at hA 16 rfl)
       have f17 := (hI.base 17 (by rw [hO]; kernel_rfl)).trans (base_at hA 17 rfl)
       have f18 := (hI.base 18 (by rw [hO]; kernel_rfl)).trans (base_at hA 18 rfl)
       have f19 := (hI.base 19 (by rw [hO]; kernel_rfl)).trans (base_at hA 19 rfl)
       have f20 := (hI.base 20 (by rw [hO]; kernel_rfl)).trans (base_at hA 20 rfl)
       have f21 := (hI.base 21 (by rw [hO]; kernel_rfl)).trans (base_at hA 21 rfl)
       have f22 := (hI.base 22 (by rw [hO]; kernel_rfl)).trans (base_at hA 22 rfl)
       have f23 := (hI.base 23 (by rw [hO]; kernel_rfl)).trans (base_at hA 23 rfl)
       have f24 := (hI.base 24 (by rw [hO]; kernel_rfl)).trans (base_at hA 24 rfl)
       have f25 := (hI.base 25 (by rw [hO]; kernel_rfl)).trans (base_at hA 25 rfl)
       have f26 := (hI.base 26 (by rw [hO]; kernel_rfl)).trans (base_at hA 26 rfl)
       have f27 := (hI.base 27 (by rw [hO]; kernel_rfl)).trans (base_at hA 27 rfl)
       have f28 := (hI.base 28 (by rw [hO]; kernel_rfl)).trans (base_at hA 28 rfl)
       have f29 := (hI.base 29 (by rw [hO]; kernel_rfl)).trans (base_at hA 29 rfl)
       have f30 := (hI.base 30 (by rw [hO]; kernel_rfl)).trans (base_at hA 30 rfl)
       have f31 := (hI.base 31 (by rw [hO]; kernel_rfl)).trans (base_at hA 31 rfl)
       have f32 := (hI.base 32 (by rw [hO]; kernel_rfl)).trans (base_at hA 32 rfl)
       have f33 := (hI.base 33 (by rw [hO]; kernel_rfl)).trans (base_at hA 33 rfl)
       have f34 := (hI.base 34 (by rw [hO]; kernel_rfl)).trans (base_at hA 34 rfl)
       have f35 := (hI.base 35 (by rw [hO]; kernel_rfl)).trans (base_at hA 35 rfl)
       have f36 := (hI.base 36 (by rw [hO]; kernel_rfl)).trans (base_at hA 36 rfl)
       have f37 := (hI.base 37 (by rw [hO]; kernel_rfl)).trans (base_at hA 37 rfl)
       have f38 := (hI.base 38 (by rw [hO]; kernel_rfl)).trans (base_at hA 38 rfl)
       have f39 := (hI.base 39 (by rw [hO]; kernel_rfl)).trans (base_at hA 39 rfl)
       have f40 := (hI.base 40 (by rw [hO]; kernel_rfl)).trans (base_at hA 40 rfl)
       have f41 := (hI.base 41 (by rw [hO]; kernel_rfl)).trans (base_at hA 41 rfl)
       have f42 := (hI.base 42 (by rw [hO]; kernel_rfl)).trans (base_at hA 42 rfl)
       have f43 := (hI.base 43 (by rw [hO]; kernel_rfl)).trans (base_at hA 43 rfl)
       have f44 := (hI.base 44 (by rw [hO]; kernel_rfl)).trans (base_at hA 44 rfl)
       have f45 := (hI.base 45 (by rw [hO]; kernel_rfl)).trans (base_at hA 45 rfl)
       have f46 := (hI.base 46 (by rw [hO]; kernel_rfl)).trans (base_at hA 46 rfl)
       have f47 := (hI.base 47 (by rw [hO]; kernel_rfl)).trans (base_at hA 47 rfl)
       have f48 := (hI.base 48 (by rw [hO]; kernel_rfl)).trans (base_at hA 48 rfl)
       have f49 := (hI.base 49 (by rw [hO]; kernel_rfl)).trans (base_at hA 49 rfl)
       have f50 := (hI.base 50 (by rw [hO]; kernel_rfl)).trans (base_at hA 50 rfl)
       have f51 := (hI.base 51 (by rw [hO]; kernel_rfl)).trans (base_at hA 51 rfl)
       have f52 := (hI.base 52 (by rw [hO]; kernel_rfl)).trans (base_at hA 52 rfl)
       have f53 := (hI.base 53 (by rw [hO]; kernel_rfl)).trans (base_at hA 53 rfl)
       have f54 := (hI.base 54 (by rw [hO]; kernel_rfl)).trans (base_at hA 54 rfl)
       have f55 := (hI.base 55 (by rw [hO]; kernel_rfl)).trans (base_at hA 55 rfl)
       have f56 := (hI.base 56 (by rw [hO]; kernel_rfl)).trans (base_at hA 56 rfl)
       have f57 := (hI.base 57 (by rw [hO]; kernel_rfl)).trans (base_at hA 57 rfl)
       have f58 := (hI.base 58 (by rw [hO]; kernel_rfl)).trans (base_at hA 58 rfl)
       have f59 := (hI.base 59 (by rw [hO]; kernel_rfl)).trans (base_at hA 59 rfl)
       have f60 := (hI.base 60 (by rw [hO]; kernel_rfl)).trans (base_at hA 60 rfl)
       have f61 := (hI.base 61 (by rw [hO]; kernel_rfl)).trans (base_at hA 61 rfl)
       have f62 := (hI.base 62 (by rw [hO]; kernel_rfl)).trans (base_at hA 62 rfl)
       have f74 := (hI.base 74 (by rw [hO]; kernel_rfl)).trans (base_at hA 74 rfl)
       obtain ⟨tl0, rfl⟩ : ∃ tl : List Value, ts = tl.toArray := ⟨ts.toList, by simp⟩
       have htl0 : tl0.length = 75 := by simpa using hts
       clear hts
       obtain ⟨y0, y1, y2, y3, y4, y5, y6, y7, tl8, et, htl8⟩ := len_8 htl0
       clear htl0
       subst et
       obtain ⟨y8, y9, y10, y11, y12, y13, y14, y15, tl16, et, htl16⟩ := len_8 htl8
       clear htl8
       subst et
       obtain ⟨y16, y17, y18, y19, y20, y21, y22, y23, tl24, et, htl24⟩ := len_8 htl16
       clear htl16
       subst et
       obtain ⟨y24, y25, y26, y27, y28, y29, y30, y31, tl32, et, htl32⟩ := len_8 htl24
       clear htl24
       subst et
       obtain ⟨y32, y33, y34, y35, y36, y37, y38, y39, tl40, et, htl40⟩ := len_8 htl32
       clear htl32
       subst et
       obtain ⟨y40, y41, y42, y43, y44, y45, y46, y47, tl48, et, htl48⟩ := len_8 htl40
       clear htl40
       subst et
       obtain ⟨y48, y49, y50, y51, y52, y53, y54, y55, tl56, et, htl56⟩ := len_8 htl48
       clear htl48
       subst et
       obtain ⟨y56, y57, y58, y59, y60, y61, y62, y63, tl64, et, htl64⟩ := len_8 htl56
       clear htl56
       subst et
       obtain ⟨y64, y65, y66, y67, y68, y69, y70, y71, tl72, et, htl72⟩ := len_8 htl64
       clear htl64
       subst et
       obtain ⟨y72, tl73, et, htl73⟩ := len_succ htl72
       clear htl72
       subst et
       obtain ⟨y73, tl74, et, htl74⟩ := len_succ htl73
       clear htl73
       subst et
       obtain ⟨y74, tl75, et, htl75⟩ := len_succ htl74
       clear htl74
       subst et
       have et := List.eq_nil_of_length_eq_zero htl75
       clear htl75
       subst et
       have g1 : y1 = .pointer (some ⟨b1, 0, none⟩) := f1
       have g3 : y3 = .pointer (some ⟨b3, 0, none⟩) := f3
       have g6 : y6 = .int .i64 k2 := f6
       have g0 : y0 = _ := f0
       have g2 : y2 = _ := f2
       have g4 : y4 = _ := f4
       have g5 : y5 = _ := f5
       have g7 : y7 = _ := f7
       have g8 : y8 = _ := f8
       have g9 : y9 = _ := f9
       have g10 : y10 = _ := f10
       have g11 : y11 = _ := f11
       have g12 : y12 = _ := f12
       have g13 : y13 = _ := f13
       have g14 : y14 = _ := f14
       have g15 : y15 = _ := f15
       have g16 : y16 = _ := f16
       have g17 : y17 = _ := f17
       have g18 : y18 = _ := f18
       have g19 : y19 = _ := f19
       have g20 : y20 = _ := f20
       have g21 : y21 = _ := f21
       have g22 : y22 = _ := f22
       have g23 : y23 = _ := f23
       have g24 : y24 = _ := f24
       have g25 : y25 = _ := f25
       have g26 : y26 = _ := f26
       have g27 : y27 = _ := f27
       have g28 : y28 = _ := f28
       have g29 : y29 = _ := f29
       have g30 : y30 = _ := f30
       have g31 : y31 = _ := f31
       have g32 : y32 = _ := f32
       have g33 : y33 = _ := f33
       have g34 : y34 = _ := f34
       have g35 : y35 = _ := f35
       have g36 : y36 = _ := f36
       have g37 : y37 = _ := f37
       have g38 : y38 = _ := f38
       have g39 : y39 = _ := f39
       have g40 : y40 = _ := f40
       have g41 : y41 = _ := f41
       have g42 : y42 = _ := f42
       have g43 : y43 = _ := f43
       have g44 : y44 = _ := f44
       have g45 : y45 = _ := f45
       have g46 : y46 = _ := f46
       have g47 : y47 = _ := f47
       have g48 : y48 = _ := f48
       have g49 : y49 = _ := f49
       have g50 : y50 = _ := f50
       have g51 : y51 = _ := f51
       have g52 : y52 = _ := f52
       have g53 : y53 = _ := f53
       have g54 : y54 = _ := f54
       have g55 : y55 = _ := f55
       have g56 : y56 = _ := f56
       have g57 : y57 = _ := f57
       have g58 : y58 = _ := f58
       have g59 : y59 = _ := f59
       have g60 : y60 = _ := f60
       have g61 : y61 = _ := f61
       have g62 : y62 = _ := f62
       have g74 : y74 = _ := f74
       clear f1 f3 f6 f0 f2 f4 f5 f7 f8 f9 f10 f11 f12 f13 f14 f15 f16 f17 f18 f19 f20 f21 f22 f23 f24 f25 f26 f27 f28 f29 f30 f31 f32 f33 f34 f35 f36 f37 f38 f39 f40 f41 f42 f43 f44 f45 f46 f47 f48 f49 f50 f51 f52 f53 f54 f55 f56 f57 f58 f59 f60 f61 f62 f74
       subst hd g1 g3 g6 g0 g2 g4 g5 g7 g8 g9 g10 g11 g12 g13 g14 g15 g16 g17 g18 g19 g20 g21 g22 g23 g24 g25 g26 g27 g28 g29 g30 g31 g32 g33 g34 g35 g36 g37 g38 g39 g40 g41 g42 g43 g44 g45 g46 g47 g48 g49 g50 g51 g52 g53 g54 g55 g56 g57 g58 g59 g60 g61 g62 g74
       have Z1 := Lib.hid (E1.ch c5 n13)
       have Z2 := Lib.hid (E2.ch c5 n23)
       have Z3 : Hid (Box w5 b3 [.slice ad k c, .slice (some ⟨g', 0, none⟩) (k2 + 1) c', .int .u64 pa, .string ps, .string pt, .slice aW2 (cutP pp).n cW2]) := B3'
       have O10 := Lib.hid (O'.ch c5 (fun x hx => by injection hx with hx; subst hx; exact x3))
       have OI10 := Lib.hid (OI'.ch c5 (fun x hx => (AP.out x hx).2.2))
       have OW10 := Lib.hid (OW9.ch c5 (fun x hx => (AW.out x hx).2.2))
       have QR10 : Hid (Q w0 w5) := c5.q Q' hb30
       have AP10 : Hid (∀ x, some (⟨g', 0, none⟩ : Addr) = some x → x.block ≠ b1 ∧ x.block ≠ b2 ∧ x.block ≠ b3) := fun x hx => by injection hx with hx; subst hx; exact ⟨x1, x2, x3⟩
       have A110 := Lib.hid A1
       have A210 := Lib.hid A2
       clear hI hall hln c5 B3' eg O' E3 E1 E2 OI' OW9 A1 A2 Q' x1 x2 x3 O2 D1 D2 D3 AO QR2 OI OW2 AA1 AA2 RW CW hg1 hg2 hab hV hs hz hA vz_0 sz_0 vz_1 sz_1 vz_2 sz_2 vz_3 sz_3 vz_4 sz_4 vz_5 sz_5 vz_6 sz_6 vz_7 sz_7 vz_8 sz_8 vz_9 sz_9 vz_10 sz_10
       clear iz_0 iz_1 iz_2 iz_3 iz_4 iz_5 iz_6 iz_7 iz_8 iz_9 iz_10 iz_11 bz_1 frz_1 bz_3 frz_3 bz_6 frz_6 hO hQQ
       as_aux_lemma =>
       go_wp2_with fail
       go_roundw
       case rel => exact ⟨k2 + 1, some ⟨g', 0, none⟩, c', by omega, by go_num, O10, Z3, Z1, Z2, AP10, OI10, OW10, A110, A210, QR10⟩
       case measure => simp [intOf]; omega
     · obtain rfl : k2 = m := by omega
       by_cases h7 : k2 < nO
       · have j1 : (k2 : Int) < (nO : Int) := by omega
         have j2 : ¬ (k2 : Int) < 6 := by omega
         have t2 : decide ((k2 : Int) < 6) = false := by simp; omega
         have t3 : decide (k2 < 6) = false := by simp; omega
         go_wp2_with (with_reducible (show wpList _ _ _ (⟨_, Op.load 29 _, _, _, _, _⟩ :: _) _ _); refine halt ?_)
         refine Lib.hid (ld_box rfl 29 _ rfl b3 _ rfl D3.out Tryz.underlying29 rfl (by kernel_rfl) ?_)
         refine st_box rfl 29 _ _ rfl b2 _ [.slice ad k c, .slice ao k2 c2, .int .u64 pa, .string ps, .string pt, .slice aW2 (cutP pp).n cW2] rfl rfl D2.out rfl (by kernel_rfl) (one6 rfl rfl rfl rfl rfl rfl) ?_
         intro w9 B9 c9
         have HL : Hid ((loadVar 29 ⟨b2, 0, none⟩).run Tryz.prog w9 = .ok (.agg #[.slice ad k c, .slice ao k2 c2, .int .u64 pa, .string ps, .string pt, .slice aW2 (cutP pp).n cW2]) w9) := B9.load _ Tryz.underlying29 rfl (by kernel_rfl)
         have O9 := Lib.hid (O2.out.ch c9 (fun x hx => (AO.out x hx).2.1))
         have OI9 := Lib.hid (OI.out.ch c9 (fun x hx => (AP.out x hx).2.1))
         have OW9 := Lib.hid (OW2.out.ch c9 (fun x hx => (AW.out x hx).2.1))
         have Q9 : Hid (Q w0 w9) := c9.q QR2.out HB2
         clear B9 c9 O2 QR2 D1 D2 D3 OI OW2
         simp only [Act.put, pu]
         refine wpList_nil ?_
         go_step
         go_step
         go_step
         refine bodyPost_ret (results_cell rfl rfl HL.out) rfl ?_
         exact ⟨ad, c, ao, c2, aW2, cW2, by rw [HE.out], by rw [hn, ← HEI.out]; exact OI9.out, by rw [hm, ← HEO.out]; exact O9.out, OW9.out, AA1.out.symm, AA.out, AA2.out, Q9.out⟩
       · have j1 : ¬ (k2 : Int) < (nO : Int) := by omega
         have t2 : decide ((k2 : Int) < (nO : Int)) = false := by simp; omega
         have t3 : decide (k2 < nO) = false := by simp; omega
         go_wp2_with (with_reducible (show wpList _ _ _ (⟨_, Op.load 29 _, _, _, _, _⟩ :: _) _ _); refine halt ?_)
         refine Lib.hid (ld_box rfl 29 _ rfl b3 _ rfl D3.out Tryz.underlying29 rfl (by kernel_rfl) ?_)
         refine st_box rfl 29 _ _ rfl b2 _ [.slice ad k c, .slice ao k2 c2, .int .u64 pa, .string ps, .string pt, .slice aW2 (cutP pp).n cW2] rfl rfl D2.out rfl (by kernel_rfl) (one6 rfl rfl rfl rfl rfl rfl) ?_
         intro w9 B9 c9
         have HL : Hid ((loadVar 29 ⟨b2, 0, none⟩).run Tryz.prog w9 = .ok (.agg #[.slice ad k c, .slice ao k2 c2, .int .u64 pa, .string ps, .string pt, .slice aW2 (cutP pp).n cW2]) w9) := B9.load _ Tryz.underlying29 rfl (by kernel_rfl)
         have O9 := Lib.hid (O2.out.ch c9 (fun x hx => (AO.out x hx).2.1))
         have OI9 := Lib.hid (OI.out.ch c9 (fun x hx => (AP.out x hx).2.1))
         have OW9 := Lib.hid (OW2.out.ch c9 (fun x hx => (AW.out x hx).2.1))
         have Q9 : Hid (Q w0 w9) := c9.q QR2.out HB2
         clear B9 c9 O2 QR2 D1 D2 D3 OI OW2
         simp only [Act.put, pu]
         refine wpList_nil ?_
         go_step
         go_step
         go_step
         refine bodyPost_ret (results_cell rfl rfl HL.out) rfl ?_
         exact ⟨ad, c, ao, c2, aW2, cW2, by rw [HE.out], by rw [hn, ← HEI.out]; exact OI9.out, by rw [hm, ← HEO.out]; exact O9.out, OW9.out, AA1.out.symm, AA.out, AA2.out, Q9.out⟩
   · have k1 : ¬ (k : Int) < (nI : Int) := by omega
     have t2 : decide ((k : Int) < (nI : Int)) = false := by simp; omega
     have t3 : decide (k < nI) = false := by simp; omega
     go_wp2_with fail
     as_aux_lemma =>
     have OA := Lib.hid (OR.nil 47 OU.cells 9 wr w0.heap.size FO)
     obtain ⟨i1, gi0, gz0, gz1, gz2⟩ := info_of info_out
     go_loopw [6] (fun i wr => ∃ (k2 : Nat) (ao : Option Addr) (c2 : Nat), k2 ≤ m ∧ i = .int .i64 k2 ∧ Hid (OR 47 OU.cells 9 wr w0.heap.size ao k2 c2 FO) ∧ Hid (Box wr b3 [.slice ad k c, .slice ao k2 c2, .int .u64 pa, .string ps, .string pt, .slice aW2 (cutP pp).n cW2]) ∧ Hid (Box wr b1 [.slice aI nI cI, .slice aO nO cO, .int .u64 pp.amount, .string pp.sig, .string pp.token, .slice aW pp.n cW]) ∧ Hid (Box wr b2 [.slice none 0 0, .slice none 0 0, .int .u64 0, .string ⟨#[]⟩, .string ⟨#[]⟩, .slice none 0 0]) ∧ Hid (∀ x, ao = some x → x.block ≠ b1 ∧ x.block ≠ b2 ∧ x.block ≠ b3) ∧ Hid (OR 53 IN.cells 4 wr w0.heap.size ad k c FI) ∧ Hid (OR 135 WN.cells 10 wr w0.heap.size aW2 (min pp.n 6) cW2 (cutP pp).w) ∧ Hid (Apart ao ad) ∧ Hid (Apart ao aW2) ∧ Hid (Q w0 wr)) (fun i _ => m - (intOf i).toNat)
     case atStart => exact ⟨0, none, 0, by omega, rfl, OA, D3, D1, D2, Lib.hid (fun x h => by cases h), O, OW', Lib.hid (fun x y h => by cases h), Lib.hid (fun x y h => by cases h), QR⟩
     case round =>
     obtain ⟨k2, ao, c2, hk2, rfl, O2, D3, D1, D2, AO, OI, OW2, AA1, AA2, QR2⟩ := hrel
     clear O OW' QR OA k1 t2 t3 m0
     have j0 : (0 : Int) ≤ (k2 : Int) := by omega
     have m3 := D1.out.at_ 1 _ rfl
     by_cases hl2 : k2 < m
     · have j1 : (k2 : Int) < (nO : Int) := by omega
       have j2 : (k2 : Int) < 6 := by omega
       go_wp2_with fail
       clear m3
       obtain ⟨b, off, hab, hrow⟩ := (J3.out.sl.q QR2.out).some_ (by omega)
       obtain ⟨y, hy⟩ : ∃ y, outs k2 = y := ⟨_, rfl⟩
       have HKy : Hid (FO k2 = cutO y) := by show _ = _; rw [HFO.out k2, hy]
       have wy := Lib.hid (J3.out.ok k2 (by omega))
       have hrow := hrow k2 (by omega)
       rw [hy] at hrow wy
       have RW : Hid (∀ w', Q wr w' → w'.rangeAt b (off + k2 * 9) (OU.cells y)) := fun w' q j v hv => Q.cell' q (hrow j v hv)
       have CW : Hid (∀ w, Calls Tryz.prog 42 #[ouV y] w fun e w' => e = .returned (ouV (cutO y)) ∧ Q w w') := fun w => cutout_x y w wy.out.key wy.out.gate wy.out.anchor wy.out.of_
       clear hy hrow wy
       obtain ⟨gp, hg1, hg2⟩ : ∃ gp, (∀ x, ao = some x → x.block = gp) ∧ gp < wr.heap.size := by
        rcases O2.out.shape with ⟨e, _⟩ | ⟨g, e, _, hl, _⟩
        · exact ⟨b3, (fun x hx => by rw [e] at hx; cases hx), D3.out.lt⟩
        · exact ⟨g, (fun x hx => by rw [e] at hx; injection hx with hx; rw [← hx]), hl⟩
       as_aux_lemma =>
       have hS0 : Q wr wr.drew := (Q.refl wr).drew
       refine region_gen3 ?_
       intro OPS QQ A0 hO hQQ hA
       have hz : A0.tmps.size = 75 := by rw [hA]; rfl
       have hs : sound OPS A0.tmps.size = true := by rw [hz, hO]; kernel_rfl
       have bz_1 : A0.eval (.tmp 1) = .pointer (some ⟨b1, 0, none⟩) := by rw [hA]; rfl
       have frz_1 : free OPS 1 = true := by rw [hO]; kernel_rfl
       have bz_3 : A0.eval (.tmp 3) = .pointer (some ⟨b3, 0, none⟩) := by rw [hA]; rfl
       have frz_3 : free OPS 3 = true := by rw [hO]; kernel_rfl
       have bz_6 : A0.eval (.tmp 6) = .int .i64 k2 := by rw [hA]; rfl
       have frz_6 : free OPS 6 = true := by rw [hO]; kernel_rfl
       obtain ⟨VV, hVV⟩ : ∃ V : Nat → Value → World → Prop, V = fun i => ([fun v _ => v = .pointer (some ⟨b3, 1, none⟩), fun v _ => v = .slice ao k2 c2, fun v _ => v = .pointer (some ⟨b1, 1, none⟩), fun v _ => v = .slice aO nO cO, fun v _ => v = .int .i64 k2, fun v _ => v = .pointer (some ⟨b, off + k2 * 9, none⟩), fun v _ => v = ouV y, fun v _ => v = ouV (cutO y), fun v w => ∃ g, v = .slice (some ⟨g, 0, none⟩) 1 1 ∧ g ≠ gp ∧ ∀ j u, (OU.cells (cutO y))[j]? = some u → w.cell? ⟨g, j, none⟩ = some u, fun v w' => ∃ g' c', v = .slice (some ⟨g', 0, none⟩) (k2 + 1) c' ∧ OR 47 OU.cells 9 w' w0.heap.size (some ⟨g', 0, none⟩) (k2 + 1) c' FO ∧ Box w' b3 [.slice ad k c, .slice ao k2 c2, .int .u64 pa, .string ps, .string pt, .slice aW2 (cutP pp).n cW2] ∧ Box w' b1 [.slice aI nI cI, .slice aO nO cO, .int .u64 pp.amount, .string pp.sig, .string pp.token, .slice aW pp.n cW] ∧ Box w' b2 [.slice none 0 0, .slice none 0 0, .int .u64 0, .string ⟨#[]⟩, .string ⟨#[]⟩, .slice none 0 0] ∧ (g' ≠ b1 ∧ g' ≠ b2 ∧ g' ≠ b3) ∧ OR 53 IN.cells 4 w' w0.heap.size ad k c FI ∧ OR 135 WN.cells 10 w' w0.heap.size aW2 (min pp.n 6) cW2 (cutP pp).w ∧ Apart (some ⟨g', 0, none⟩) ad ∧ Apart (some ⟨g', 0, none⟩) aW2 ∧ Q w0 w', fun v _ => v = .pointer (some ⟨b3, 1, none⟩)] : List (Value → World → Prop)).getD i (fun _ _ => True) := ⟨_, rfl⟩
       have vz_0 : VV 0 = fun v _ => v = .pointer (some ⟨b3, 1, none⟩) := vat hVV 0
       have vz_1 : VV 1 = fun v _ => v = .slice ao k2 c2 := vat hVV 1
       have vz_2 : VV 2 = fun v _ => v = .pointer (some ⟨b1, 1, none⟩) := vat hVV 2
       have vz_3 : VV 3 = fun v _ => v = .slice aO nO cO := vat hVV 3
       have vz_4 : VV 4 = fun v _ => v = .int .i64 k2 := vat hVV 4
       have vz_5 : VV 5 = fun v _ => v = .pointer (some ⟨b, off + k2 * 9, none⟩) := vat hVV 5
       have vz_6 : VV 6 = fun v _ => v = ouV y := vat hVV 6
       have vz_7 : VV 7 = fun v _ => v = ouV (cutO y) := vat hVV 7
       have vz_8 : VV 8 = fun v w => ∃ g, v = .slice (some ⟨g, 0, none⟩) 1 1 ∧ g ≠ gp ∧ ∀ j u, (OU.cells (cutO y))[j]? = some u → w.cell? ⟨g, j, none⟩ = some u := vat hVV 8
       have vz_9 : VV 9 = fun v w' => ∃ g' c', v = .slice (some ⟨g', 0, none⟩) (k2 + 1) c' ∧ OR 47 OU.cells 9 w' w0.heap.size (some ⟨g', 0, none⟩) (k2 + 1) c' FO ∧ Box w' b3 [.slice ad k c, .slice ao k2 c2, .int .u64 pa, .string ps, .string pt, .slice aW2 (cutP pp).n cW2] ∧ Box w' b1 [.slice aI nI cI, .slice aO nO cO, .int .u64 pp.amount, .string pp.sig, .string pp.token, .slice aW pp.n cW] ∧ Box w' b2 [.slice none 0 0, .slice none 0 0, .int .u64 0, .string ⟨#[]⟩, .string ⟨#[]⟩, .slice none 0 0] ∧ (g' ≠ b1 ∧ g' ≠ b2 ∧ g' ≠ b3) ∧ OR 53 IN.cells 4 w' w0.heap.size ad k c FI ∧ OR 135 WN.cells 10 w' w0.heap.size aW2 (min pp.n 6) cW2 (cutP pp).w ∧ Apart (some ⟨g', 0, none⟩) ad ∧ Apart (some ⟨g', 0, none⟩) aW2 ∧ Q w0 w' := vat hVV 9
       have vz_10 : VV 10 = fun v _ => v = .pointer (some ⟨b3, 1, none⟩) := vat hVV 10
       have hV := stablex_of (T := Ch gp) (p := 9) hVV ((kx (kx (kx (kx (kx (kx (kx (kx (sx_cons (fun v w w' h t => by obtain ⟨g, h1, h2, h3⟩ := h; exact ⟨g, h1, h2, fun j u hj => t.cell (h3 j u hj) h2⟩) (sx_skip rfl (kx trivial))))))))))))
       clear hVV
       have iz_0 := pget_at hO 0 rfl
       have iz_1 := pget_at hO 1 rfl
       have iz_2 := pget_at hO 2 rfl
       have iz_3 := pget_at hO 3 rfl
       have iz_4 := pget_at hO 4 rfl
       have iz_5 := pget_at hO 5 rfl
       have iz_6 := pget_at hO 6 rfl
       have iz_7 := pget_at hO 7 rfl
       have iz_8 := pget_at hO 8 rfl
       have iz_9 := pget_at hO 9 rfl
       have iz_10 := pget_at hO 10 rfl
       have iz_11 := pget_at hO 11 rfl
       have MK11 := @Step2.pure Tryz.prog OPS QQ VV (Ch gp) (Q wr) A0 9
       have sz_0 := MK11 iz_0 (by rw [hO]; kernel_rfl) (.pointer (some ⟨b3, 1, none⟩)) (Ch.refl gp ·) (fun l a w hI hl hS => ⟨wanted_none rfl, (by have e0 : a.eval (.tmp 3) = _ := ((hI.base 3 frz_3).trans bz_3); generalize a.eval = ρ at e0 ⊢; simp [go_sem, e0]), at_mk vz_0 rfl⟩)
       have sz_1 := MK11 iz_1 (by rw [hO]; kernel_rfl) (.slice ao k2 c2) (Ch.refl gp ·) (fun l a w hI hl hS => ⟨wanted_none rfl, (by have e0 : a.eval (.tmp 63) = _ := (at_eq vz_0 (hI.at_ 0 63 _ iz_0 rfl (hl_at hl 0 rfl rfl))); have x0 := (D3.out.q hS).at_ 1 _ rfl; generalize a.eval = ρ at e0 ⊢; simp [go_sem, e0, x0]), at_mk vz_1 rfl⟩)
       have sz_2 := MK11 iz_2 (by rw [hO]; kernel_rfl) (.pointer (some ⟨b1, 1, none⟩)) (Ch.refl gp ·) (fun l a w hI hl hS => ⟨wanted_none rfl, (by have e0 : a.eval (.tmp 1) = _ := ((hI.base 1 frz_1).trans bz_1); generalize a.eval = ρ at e0 ⊢; simp [go_sem, e0]), at_mk vz_2 rfl⟩)
       have sz_3 := MK11 iz_3 (by rw [hO]; kernel_rfl) (.slice aO nO cO) (Ch.refl gp ·) (fun l a w hI hl hS => ⟨wanted_none rfl, (by have e0 : a.eval (.tmp 65) = _ := (at_eq vz_2 (hI.at_ 2 65 _ iz_2 rfl (hl_at hl 0 rfl rfl))); have x0 := (D1.out.q hS).at_ 1 _ rfl; generalize a.eval = ρ at e0 ⊢; simp [go_sem, e0, x0]), at_mk vz_3 rfl⟩)
       have sz_4 := MK11 iz_4 (by rw [hO]; kernel_rfl) (.int .i64 k2) (Ch.refl gp ·) (fun l a w hI hl hS => ⟨wanted_none rfl, ex_move rfl ((hI.base 6 frz_6).trans bz_6), at_mk vz_4 rfl⟩)
       have sz_5 := MK11 iz_5 (by rw [hO]; kernel_rfl) (.pointer (some ⟨b, off + k2 * 9, none⟩)) (Ch.refl gp ·) (fun l a w hI hl hS => ⟨wanted_none rfl, (by have e0 : a.eval (.tmp 66) = _ := (at_eq vz_3 (hI.at_ 3 66 _ iz_3 rfl (hl_at hl 0 rfl rfl))); have e1 : a.eval (.tmp 67) = _ := (at_eq vz_4 (hI.at_ 4 67 _ iz_4 rfl (hl_at hl 1 rfl rfl))); generalize a.eval = ρ at e0 e1 ⊢; simp [go_sem, e0, e1, j0, j1, hab]), at_mk vz_5 rfl⟩)
       have sz_6 := MK11 iz_6 (by rw [hO]; kernel_rfl) (ouV y) (Ch.refl gp ·) (fun l a w hI hl hS => ⟨wanted_none rfl, ex_loado 47 rfl b (off + k2 * 9) (OU.cells y) _ (at_eq vz_5 (hI.at_ 5 68 _ iz_5 rfl (hl_at hl 0 rfl rfl))) (RW.out w hS) Tryz.underlying47 rfl (by kernel_rfl), at_mk vz_6 rfl⟩)
       have MK12 := @Step2.done Tryz.prog OPS QQ VV (Ch gp) (Q wr) A0 9
       have sz_7 := MK12 iz_7 (by rw [hO]; kernel_rfl) (fun l a w hI hl hS => by
        refine ⟨wanted_none rfl, ?_⟩
        refine wp_enter (f := 42) (args := #[ouV y]) ?_ ?_
        · exact ex_call rfl (by simp only [List.map_toArray, List.map_cons, List.map_nil, ev_const, (show a.eval (.tmp 69) = _ from (at_eq vz_6 (hI.at_ 6 69 _ iz_6 rfl (hl_at hl 0 rfl rfl))))]) Tryz.func42 (by kernel_rfl) (by kernel_rfl)
        · refine (CW.out w).mono fun e w' hc => ?_
          obtain ⟨rfl, hq⟩ := hc
          exact ⟨_, rfl, Ch.of_q hq gp, hS.trans hq, at_mk vz_7 rfl⟩)
       have sz_8 := MK12 iz_8 (by rw [hO]; kernel_rfl) (fun l a w hI hl hS => by
        refine ⟨wanted_none rfl, ?_⟩
        refine wpo_rowout (cutO y).kind (cutO y).amount (cutO y).key (cutO y).gate (cutO y).expiry (cutO y).anchor (cutO y).unit (cutO y).tokens (cutO y).of_ rfl (at_eq vz_7 (hI.at_ 7 70 _ iz_7 rfl (hl_at hl 0 rfl rfl))) ?_
        exact ⟨_, rfl, Ch.of_q ((Q.refl w).alloc _) gp, hS.alloc _, p_at vz_8 ⟨w.heap.size, rfl, by have := hS.size; omega, fun j u hj => by rw [World.cell?_alloc_at _ _ _ _ rfl]; unfold OU.cells at hj; simpa using hj⟩⟩)
       have sz_9 := StepP.done (P := Tryz.prog) (V := VV) (T := Ch gp) (S := (Q wr)) (a0 := A0) (p := 9) (Qx := QQ) iz_9 (fun l a w hI hl hS => by
        obtain ⟨g, eg, hgne, hcell⟩ := at_p vz_8 (hI.at_ 8 71 _ iz_8 rfl (hl_at hl 1 rfl rfl))
        refine ⟨wanted_none rfl, ?_⟩
        refine wpo_app (.tmp 64) (.tmp 71) 23 rfl i1 _ 104 Tryz.underlying23 gi0 gz0 gz1 gz2 rfl (by decide) (at_eq vz_1 (hI.at_ 1 64 _ iz_1 rfl (hl_at hl 0 rfl rfl))) (O2.out.q hS) g eg rfl (fun j u hj => hcell j u (by rw [HKy.out] at hj; exact hj)) (by rw [HKy.out]; exact one9 rfl rfl rfl rfl rfl rfl rfl rfl rfl) (by omega) (by decide) (by have := QR2.out.size; have := hS.size; omega) ?_
        intro g' c' w' O' G
        obtain ⟨OI', A1⟩ := (OI.out.q hS).over AA1.out G
        obtain ⟨OW9, A2⟩ := (OW2.out.q hS).over AA2.out G
        exact ⟨_, rfl, G.chp gp hg1, p_at vz_9 ⟨g', c', rfl, O', (D3.out.q hS).over (fun x hx => (AO.out x hx).2.2) G, (D1.out.q hS).over (fun x hx => (AO.out x hx).1) G, (D2.out.q hS).over (fun x hx => (AO.out x hx).2.1) G, ⟨G.ne b1 (D1.out.q hS).lt (fun x hx => (AO.out x hx).1), G.ne b2 (D2.out.q hS).lt (fun x hx => (AO.out x hx).2.1), G.ne b3 (D3.out.q hS).lt (fun x hx => (AO.out x hx).2.2)⟩, OI', OW9, A1, A2, (O2.out.q hS).q_grow (QR2.out.trans hS) (Nat.le_refl _) G⟩⟩)
       have MK13 := @StepQ.pure Tryz.prog OPS QQ VV (Q wr) A0 9
       have sz_10 := MK13 iz_10 (.pointer (some ⟨b3, 1, none⟩)) (fun l a w hI hl => ⟨wanted_none rfl, (by have e0 : a.eval (.tmp 3) = _ := ((hI.base 3 frz_3).trans bz_3); generalize a.eval = ρ at e0 ⊢; simp [go_sem, e0]), at_mk vz_10 rfl⟩)
       refine wp_plan2 VV (Ch gp) (Q wr) 9 11 (by kernel_rfl) hs (by rw [hO]; rfl) (by rw [hO]; kernel_rfl) hV hS0 (steps2_all hO _ rfl ((s2_cons sz_0 (s2_cons sz_1 (s2_cons sz_2 (s2_cons sz_3 (s2_cons sz_4 (s2_cons sz_5 (s2_cons sz_6 (s2_cons sz_7 (s2_cons sz_8 (sp_cons rfl sz_9 (sq_cons sz_10 trivial))))))))))))) ?_
       intro l a w hall hln hI
       as_aux_lemma =>
       obtain ⟨g', c', eg, O', E3, E1, E2, ⟨x1, x2, x3⟩, OI', OW9, A1, A2, Q'⟩ := (at_p vz_9 (hI.at_ 9 72 _ iz_9 rfl (hall 9 (by decide))))
       refine fin_of iz_11 (wanted_none rfl) ?_
       refine wpo_st1 23 _ _ rfl (at_eq vz_10 (hI.at_ 10 73 _ iz_10 rfl (hall 10 (by decide)))) eg E3 rfl (fun w hc hf => by simp [go_sem, hc, hf]) ?_
       intro w5 B3' c5
       rw [hQQ]
       obtain ⟨ts, ds⟩ := a
       have hd : ds = [] := by have := hI.df; rw [hA] at this; exact this
       have hts : ts.size = 75 := by have := hI.sz; rw [hz] at this; exact this
       have f1 : ts.getD 1 undef = .pointer (some ⟨b1, 0, none⟩) := ((hI.base 1 frz_1).trans bz_1)
       have f3 : ts.getD 3 undef = .pointer (some ⟨b3, 0, none⟩) := ((hI.base 3 frz_3).trans bz_3)
       have f6 : ts.getD 6 undef = .int .i64 k2 := ((hI.base 6 frz_6).trans bz_6)
       have f0 := (hI.base 0 (by rw [hO]; kernel_rfl)).trans (base_at hA 0 rfl)
       have f2 := (hI.base 2 (by rw [hO]; kernel_rfl)).trans (base_at hA 2 rfl)
       have f4 := (hI.base 4 (by rw [hO]; kernel_rfl)).trans (base_at hA 4 rfl)
       have f5 := (hI.base 5 (by rw [hO]; kernel_rfl)).trans (base_at hA 5 rfl)
       have f7 := (hI.base 7 (by rw [hO]; kernel_rfl)).trans (base_at hA 7 rfl)
       have f8 := (hI.base 8 (by rw [hO]; kernel_rfl)).trans (base_at hA 8 rfl)
       have f9 := (hI.base 9 (by rw [hO]; kernel_rfl)).trans (base_at hA 9 rfl)
       have f10 := (hI.base 10 (by rw [hO]; kernel_rfl)).trans (base_at hA 10 rfl)
       have f11 := (hI.base 11 (by rw [hO]; kernel_rfl)).trans (base_at hA 11 rfl)
       have f12 := (hI.base 12 (by rw [hO]; kernel_rfl)).trans (base_at hA 12 rfl)
       have f13 := (hI.base 13 (by rw [hO]; kernel_rfl)).trans (base_at hA 13 rfl)
       have f14 := (hI.base 14 (by rw [hO]; kernel_rfl)).trans (base_at hA 14 rfl)
       have f15 := (hI.base 15 (by rw [hO]; kernel_rfl)).trans (base_at hA 15 rfl)
       have f16 := (hI.base 16 (by rw [hO]; kernel_rfl)).trans (base_at hA 16 rfl)
       have f17 := (hI.base 17 (by rw [hO]; kernel_rfl)).trans (base_at hA 17 rfl)
       have f18 := (hI.base 18 (by rw [hO]; kernel_rfl)).trans (base_at hA 18 rfl)
       have f19 := (hI.base 19 (by rw [hO]; kernel_rfl)).trans (base_at hA 19 rfl)
       have f20 := (hI.base 20 (by rw [hO]; kernel_rfl)).trans (base_at hA 20 rfl)
       have f21 := (hI.base 21 (by rw [hO]; kernel_rfl)).trans (base_at hA 21 rfl)
       have f22 := (hI.base 22 (by rw [hO]; kernel_rfl)).trans (base_at hA 22 rfl)
       have f23 := (hI.base 23 (by rw [hO]; kernel_rfl)).trans (base_at hA 23 rfl)
       have f24 := (hI.base 24 (by rw [hO]; kernel_rfl)).trans (base_at hA 24 rfl)
       have f25 := (hI.base 25 (by rw [hO]; kernel_rfl)).trans (base_at hA 25 rfl)
       have f26 := (hI.base 26 (by rw [hO]; kernel_rfl)).trans (base_at hA 26 rfl)
       have f27 := (hI.base 27 (by rw [hO]; kernel_rfl)).trans (base_at hA 27 rfl)
       have f28 := (hI.base 28 (by rw [hO]; kernel_rfl)).trans (base_at hA 28 rfl)
       have f29 := (hI.base 29 (by rw [hO]; kernel_rfl)).trans (base_at hA 29 rfl)
       have f30 := (hI.base 30 (by rw [hO]; kernel_rfl)).trans (base_at hA 30 rfl)
       have f31 := (hI.base 31 (by rw [hO]; kernel_rfl)).trans (base_at hA 31 rfl)
       have f32 := (hI.base 32 (by rw [hO]; kernel_rfl)).trans (base_at hA 32 rfl)
       have f33 := (hI.base 33 (by rw [hO]; kernel_rfl)).trans (base_at hA 33 rfl)
       have f34 := (hI.base 34 (by rw [hO]; kernel_rfl)).trans (base_at hA 34 rfl)
       have f35 := (hI.base 35 (by rw [hO]; kernel_rfl)).trans (base_at hA 35 rfl)
       have f36 := (hI.base 36 (by rw [hO]; kernel_rfl)).trans (base_at hA 36 rfl)
       have f37 := (hI.base 37 (by rw [hO]; kernel_rfl)).trans (base_at hA 37 rfl)
       have f38 := (hI.base 38 (by rw [hO]; kernel_rfl)).trans (base_at hA 38 rfl)
       have f39 := (hI.base 39 (by rw [hO]; kernel_rfl)).trans (base_at hA 39 rfl)
       have f40 := (hI.base 40 (by rw [hO]; kernel_rfl)).trans (base_at hA 40 rfl)
       have f41 := (hI.base 41 (by rw [hO]; kernel_rfl)).trans (base_at hA 41 rfl)
       have f42 := (hI.base 42 (by rw [hO]; kernel_rfl)).trans (base_at hA 42 rfl)
       have f43 := (hI.base 43 (by rw [hO]; kernel_rfl)).trans (base_at hA 43 rfl)
       have f44 := (hI.base 44 (by rw [hO]; kernel_rfl)).trans (base_at hA 44 rfl)
       have f45 := (hI.base 45 (by rw [hO]; kernel_rfl)).trans (base_at hA 45 rfl)
       have f46 := (hI.base 46 (by rw [hO]; kernel_rfl)).trans (base_at hA 46 rfl)
       have f47 := (hI.base 47 (by rw [hO]; kernel_rfl)).trans (base_at hA 47 rfl)
       have f48 := (hI.base 48 (by rw [hO]; kernel_rfl)).trans (base_at hA 48 rfl)
       have f49 := (hI.base 49 (by rw [hO]; kernel_rfl)).trans (base_at hA 49 rfl)
       have f50 := (hI.base 50 (by rw [hO]; kernel_rfl)).trans (base_at hA 50 rfl)
       have f51 := (hI.base 51 (by rw [hO]; kernel_rfl)).trans (base_at hA 51 rfl)
       have f52 := (hI.base 52 (by rw [hO]; kernel_rfl)).trans (base_at hA 52 rfl)
       have f53 := (hI.base 53 (by rw [hO]; kernel_rfl)).trans (base_at hA 53 rfl)
       have f54 := (hI.base 54 (by rw [hO]; kernel_rfl)).trans (base_at hA 54 rfl)
       have f55 := (hI.base 55 (by rw [hO]; kernel_rfl)).trans (base_at hA 55 rfl)
       have f56 := (hI.base 56 (by rw [hO]; kernel_rfl)).trans (base_at hA 56 rfl)
       have f57 := (hI.base 57 (by rw [hO]; kernel_rfl)).trans (base_at hA 57 rfl)
       have f58 := (hI.base 58 (by rw [hO]; kernel_rfl)).trans (base_at hA 58 rfl)
       have f59 := (hI.base 59 (by rw [hO]; kernel_rfl)).trans (base_at hA 59 rfl)
       have f60 := (hI.base 60 (by rw [hO]; kernel_rfl)).trans (base_at hA 60 rfl)
       have f61 := (hI.base 61 (by rw [hO]; kernel_rfl)).trans (base_at hA 61 rfl)
       have f62 := (hI.base 62 (by rw [hO]; kernel_rfl)).trans (base_at hA 62 rfl)
       have f74 := (hI.base 74 (by rw [hO]; kernel_rfl)).trans (base_at hA 74 rfl)
       obtain ⟨tl0, rfl⟩ : ∃ tl : List Value, ts = tl.toArray := ⟨ts.toList, by simp⟩
       have htl0 : tl0.length = 75 := by simpa using hts
       clear hts
       obtain ⟨y0, y1, y2, y3, y4, y5, y6, y7, tl8, et, htl8⟩ := len_8 htl0
       clear htl0
       subst et
       obtain ⟨y8, y9, y10, y11, y12, y13, y14, y15, tl16, et, htl16⟩ := len_8 htl8
       clear htl8
       subst et
       obtain ⟨y16, y17, y18, y19, y20, y21, y22, y23, tl24, et, htl24⟩ := len_8 htl16
       clear htl16
       subst et
       obtain ⟨y24, y25, y26, y27, y28, y29, y30, y31, tl32, et, htl32⟩ := len_8 htl24
       clear htl24
       subst et
       obtain ⟨y32, y33, y34, y35, y36, y37, y38, y39, tl40, et, htl40⟩ := len_8 htl32
       clear htl32
       subst et
       obtain ⟨y40, y41, y42, y43, y44, y45, y46, y47, tl48, et, htl48⟩ := len_8 htl40
       clear htl40
       subst et
       obtain ⟨y48, y49, y50, y51, y52, y53, y54, y55, tl56, et, htl56⟩ := len_8 htl48
       clear htl48
       subst et
       obtain ⟨y56, y57, y58, y59, y60, y61, y62, y63, tl64, et, htl64⟩ := len_8 htl56
       clear htl56
       subst et
       obtain ⟨y64, y65, y66, y67, y68, y69, y70, y71, tl72, et, htl72⟩ := len_8 htl64
       clear htl64
       subst et
       obtain ⟨y72, tl73, et, htl73⟩ := len_succ htl72
       clear htl72
       subst et
       obtain ⟨y73, tl74, et, htl74⟩ := len_succ htl73
       clear htl73
       subst et
       obtain ⟨y74, tl75, et, htl75⟩ := len_succ htl74
       clear htl74
       subst et
       have et := List.eq_nil_of_length_eq_zero htl75
       clear htl75
       subst et
       have g1 : y1 = .pointer (some ⟨b1, 0, none⟩) := f1
       have g3 : y3 = .pointer (some ⟨b3, 0, none⟩) := f3
       have g6 : y6 = .int .i64 k2 := f6
       have g0 : y0 = _ := f0
       have g2 : y2 = _ := f2
       have g4 : y4 = _ := f4
       have g5 : y5 = _ := f5
       have g7 : y7 = _ := f7
       have g8 : y8 = _ := f8
       have g9 : y9 = _ := f9
       have g10 : y10 = _ := f10
       have g11 : y11 = _ := f11
       have g12 : y12 = _ := f12
       have g13 : y13 = _ := f13
       have g14 : y14 = _ := f14
       have g15 : y15 = _ := f15
       have g16 : y16 = _ := f16
       have g17 : y17 = _ := f17
       have g18 : y18 = _ := f18
       have g19 : y19 = _ := f19
       have g20 : y20 = _ := f20
       have g21 : y21 = _ := f21
       have g22 : y22 = _ := f22
       have g23 : y23 = _ := f23
       have g24 : y24 = _ := f24
       have g25 : y25 = _ := f25
       have g26 : y26 = _ := f26
       have g27 : y27 = _ := f27
       have g28 : y28 = _ := f28
       have g29 : y29 = _ := f29
       have g30 : y30 = _ := f30
       have g31 : y31 = _ := f31
       have g32 : y32 = _ := f32
       have g33 : y33 = _ := f33
       have g34 : y34 = _ := f34
       have g35 : y35 = _ := f35
       have g36 : y36 = _ := f36
       have g37 : y37 = _ := f37
       have g38 : y38 = _ := f38
       have g39 : y39 = _ := f39
       have g40 : y40 = _ := f40
       have g41 : y41 = _ := f41
       have g42 : y42 = _ := f42
       have g43 : y43 = _ := f43
       have g44 : y44 = _ := f44
       have g45 : y45 = _ := f45
       have g46 : y46 = _ := f46
       have g47 : y47 = _ := f47
       have g48 : y48 = _ := f48
       have g49 : y49 = _ := f49
       have g50 : y50 = _ := f50
       have g51 : y51 = _ := f51
       have g52 : y52 = _ := f52
       have g53 : y53 = _ := f53
       have g54 : y54 = _ := f54
       have g55 : y55 = _ := f55
       have g56 : y56 = _ := f56
       have g57 : y57 = _ := f57
       have g58 : y58 = _ := f58
       have g59 : y59 = _ := f59
       have g60 : y60 = _ := f60
       have g61 : y61 = _ := f61
       have g62 : y62 = _ := f62
       have g74 : y74 = _ := f74
       clear f1 f3 f6 f0 f2 f4 f5 f7 f8 f9 f10 f11 f12 f13 f14 f15 f16 f17 f18 f19 f20 f21 f22 f23 f24 f25 f26 f27 f28 f29 f30 f31 f32 f33 f34 f35 f36 f37 f38 f39 f40 f41 f42 f43 f44 f45 f46 f47 f48 f49 f50 f51 f52 f53 f54 f55 f56 f57 f58 f59 f60 f61 f62 f74
       subst hd g1 g3 g6 g0 g2 g4 g5 g7 g8 g9 g10 g11 g12 g13 g14 g15 g16 g17 g18 g19 g20 g21 g22 g23 g24 g25 g26 g27 g28 g29 g30 g31 g32 g33 g34 g35 g36 g37 g38 g39 g40 g41 g42 g43 g44 g45 g46 g47 g48 g49 g50 g51 g52 g53 g54 g55 g56 g57 g58 g59 g60 g61 g62 g74
       have Z1 := Lib.hid (E1.ch c5 n13)
       have Z2 := Lib.hid (E2.ch c5 n23)
       have Z3 : Hid (Box w5 b3 [.slice ad k c, .slice (some ⟨g', 0, none⟩) (k2 + 1) c', .int .u64 pa, .string ps, .string pt, .slice aW2 (cutP pp).n cW2]) := B3'
       have O10 := Lib.hid (O'.ch c5 (fun x hx => by injection hx with hx; subst hx; exact x3))
       have OI10 := Lib.hid (OI'.ch c5 (fun x hx => (AP.out x hx).2.2))
       have OW10 := Lib.hid (OW9.ch c5 (fun x hx => (AW.out x hx).2.2))
       have QR10 : Hid (Q w0 w5) := c5.q Q' hb30
       have AP10 : Hid (∀ x, some (⟨g', 0, none⟩ : Addr) = some x → x.block ≠ b1 ∧ x.block ≠ b2 ∧ x.block ≠ b3) := fun x hx => by injection hx with hx; subst hx; exact ⟨x1, x2, x3⟩
       have A110 := Lib.hid A1
       have A210 := Lib.hid A2
       clear hI hall hln c5 B3' eg O' E3 E1 E2 OI' OW9 A1 A2 Q' x1 x2 x3 O2 D1 D2 D3 AO QR2 OI OW2 AA1 AA2 RW CW hg1 hg2 hab hV hs hz hA vz_0 sz_0 vz_1 sz_1 vz_2 sz_2 vz_3 sz_3 vz_4 sz_4 vz_5 sz_5 vz_6 sz_6 vz_7 sz_7 vz_8 sz_8 vz_9 sz_9 vz_10 sz_10
       clear iz_0 iz_1 iz_2 iz_3 iz_4 iz_5 iz_6 iz_7 iz_8 iz_9 iz_10 iz_11 bz_1 frz_1 bz_3 frz_3 bz_6 frz_6 hO hQQ
       as_aux_lemma =>
       go_wp2_with fail
       go_roundw
       case rel => exact ⟨k2 + 1, some ⟨g', 0, none⟩, c', by omega, by go_num, O10, Z3, Z1, Z2, AP10, OI10, OW10, A110, A210, QR10⟩
       case measure => simp [intOf]; omega
     · obtain rfl : k2 = m := by omega
       by_cases h7 : k2 < nO
       · have j1 : (k2 : Int) < (nO : Int) := by omega
         have j2 : ¬ (k2 : Int) < 6 := by omega
         have t2 : decide ((k2 : Int) < 6) = false := by simp; omega
         have t3 : decide (k2 < 6) = false := by simp; omega
         go_wp2_with (with_reducible (show wpList _ _ _ (⟨_, Op.load 29 _, _, _, _, _⟩ :: _) _ _); refine halt ?_)
         refine Lib.hid (ld_box rfl 29 _ rfl b3 _ rfl D3.out Tryz.underlying29 rfl (by kernel_rfl) ?_)
         refine st_box rfl 29 _ _ rfl b2 _ [.slice ad k c, .slice ao k2 c2, .int .u64 pa, .string ps, .string pt, .slice aW2 (cutP pp).n cW2] rfl rfl D2.out rfl (by kernel_rfl) (one6 rfl rfl rfl rfl rfl rfl) ?_
         intro w9 B9 c9
         have HL : Hid ((loadVar 29 ⟨b2, 0, none⟩).run Tryz.prog w9 = .ok (.agg #[.slice ad k c, .slice ao k2 c2, .int .u64 pa, .string ps, .string pt, .slice aW2 (cutP pp).n cW2]) w9) := B9.load _ Tryz.underlying29 rfl (by kernel_rfl)
         have O9 := Lib.hid (O2.out.ch c9 (fun x hx => (AO.out x hx).2.1))
         have OI9 := Lib.hid (OI.out.ch c9 (fun x hx => (AP.out x hx).2.1))
         have OW9 := Lib.hid (OW2.out.ch c9 (fun x hx => (AW.out x hx).2.1))
         have Q9 : Hid (Q w0 w9) := c9.q QR2.out HB2
         clear B9 c9 O2 QR2 D1 D2 D3 OI OW2
         simp only [Act.put, pu]
         refine wpList_nil ?_
         go_step
         go_step
         go_step
         refine bodyPost_ret (results_cell rfl rfl HL.out) rfl ?_
         exact ⟨ad, c, ao, c2, aW2, cW2, by rw [HE.out], by rw [hn, ← HEI.out]; exact OI9.out, by rw [hm, ← HEO.out]; exact O9.out, OW9.out, AA1.out.symm, AA.out, AA2.out, Q9.out⟩
       · have j1 : ¬ (k2 : Int) < (nO : Int) := by omega
         have t2 : decide ((k2 : Int) < (nO : Int)) = false := by simp; omega
         have t3 : decide (k2 < nO) = false := by simp; omega
         go_wp2_with (with_reducible (show wpList _ _ _ (⟨_, Op.load 29 _, _, _, _, _⟩ :: _) _ _); refine halt ?_)
         refine Lib.hid (ld_box rfl 29 _ rfl b3 _ rfl D3.out Tryz.underlying29 rfl (by kernel_rfl) ?_)
         refine st_box rfl 29 _ _ rfl b2 _ [.slice ad k c, .slice ao k2 c2, .int .u64 pa, .string ps, .string pt, .slice aW2 (cutP pp).n cW2] rfl rfl D2.out rfl (by kernel_rfl) (one6 rfl rfl rfl rfl rfl rfl) ?_
         intro w9 B9 c9
         have HL : Hid ((loadVar 29 ⟨b2, 0, none⟩).run Tryz.prog w9 = .ok (.agg #[.slice ad k c, .slice ao k2 c2, .int .u64 pa, .string ps, .string pt, .slice aW2 (cutP pp).n cW2]) w9) := B9.load _ Tryz.underlying29 rfl (by kernel_rfl)
         have O9 := Lib.hid (O2.out.ch c9 (fun x hx => (AO.out x hx).2.1))
         have OI9 := Lib.hid (OI.out.ch c9 (fun x hx => (AP.out x hx).2.1))
         have OW9 := Lib.hid (OW2.out.ch c9 (fun x hx => (AW.out x hx).2.1))
         have Q9 : Hid (Q w0 w9) := c9.q QR2.out HB2
         clear B9 c9 O2 QR2 D1 D2 D3 OI OW2
         simp only [Act.put, pu]
         refine wpList_nil ?_
         go_step
         go_step
         go_step
         refine bodyPost_ret (results_cell rfl rfl HL.out) rfl ?_
         exact ⟨ad, c, ao, c2, aW2, cW2, by rw [HE.out], by rw [hn, ← HEI.out]; exact OI9.out, by rw [hm, ← HEO.out]; exact O9.out, OW9.out, AA1.out.symm, AA.out, AA2.out, Q9.out⟩
section
open Go.ChangeShapes Go.WideShapes Go.Deep
variable {H : Type} {enc : TypeId × Value → H} {w : World} {base : Nat} {spare : Nat → Bool} {held : Bool}
theorem inps_cells : Tryz.prog.cellsOf 22 = 1 := by kernel_rfl
theorem outs_cells : Tryz.prog.cellsOf 23 = 1 := by kernel_rfl
theorem wins_cells : Tryz.prog.cellsOf 25 = 1 := by kernel_rfl
theorem proof_cells : Tryz.prog.cellsOf 27 = 4 := by kernel_rfl
theorem tx_cells : Tryz.prog.cellsOf 29 = 6 := by kernel_rfl
theorem trod_proof {fuel : Nat} {cs : List Value} {x : DataW H × List MemPlace} (hl : cs.length = 4) (h : DataW.trod enc Tryz.prog w base spare held fuel 27 cs = some x) :
 ∃ z : PFI, cs = [.int .u64 z.p.amount, .string z.p.sig, .string z.p.token, .slice z.a z.p.n z.c] ∧ z.In w := by
 obtain ⟨ys, n', _, _, hlen, hyl, hf⟩ := DataW.trod_struct Tryz.underlying27 h
 obtain ⟨c0, c1, c2, c3, rfl⟩ : ∃ c0 c1 c2 c3, cs = [c0, c1, c2, c3] := by
  match cs, hl with
  | [c0, c1, c2, c3], _ => exact ⟨c0, c1, c2, c3, rfl⟩
 obtain ⟨y0, y1, y2, y3, rfl⟩ : ∃ y0 y1 y2 y3, ys = [y0, y1, y2, y3] := by
  match ys, hyl with
  | [y0, y1, y2, y3], _ => exact ⟨y0, y1, y2, y3, rfl⟩
 have g0 : DataW.trod enc Tryz.prog w base spare held n' 24 [c0] = some y0 := by have := hf 0 _ rfl; simpa [int_cells, u64_cells, str_cells, wins_cells] using this
 obtain ⟨v0, k0, _, b0⟩ := DataW.trod_int Tryz.underlying24 g0
 have g1 : DataW.trod enc Tryz.prog w base spare held n' 9 [c1] = some y1 := by have := hf 1 _ rfl; simpa [int_cells, u64_cells, str_cells, wins_cells] using this
 obtain ⟨v1, k1, _, b1⟩ := DataW.trod_string Tryz.underlying9 g1
 have g2 : DataW.trod enc Tryz.prog w base spare held n' 9 [c2] = some y2 := by have := hf 2 _ rfl; simpa [int_cells, u64_cells, str_cells, wins_cells] using this
 obtain ⟨v2, k2, _, b2⟩ := DataW.trod_string Tryz.underlying9 g2
 have g3 : DataW.trod enc Tryz.prog w base spare held n' 25 [c3] = some y3 := by have := hf 3 _ rfl; simpa [int_cells, u64_cells, str_cells, wins_cells] using this
 obtain ⟨a, len, cap, f, k3, b3⟩ := open_wins g3
 simp only [List.cons.injEq, and_true] at k0 k1 k2 k3
 subst k0 k1 k2 k3
 exact ⟨⟨⟨v0, v1, v2, len, f⟩, a, cap⟩, rfl, ⟨b3, bounds_u64 b0, b1, b2⟩⟩
theorem trod_tx {fuel : Nat} {cs : List Value} {x : DataW H × List MemPlace} (hl : cs.length = 6) (h : DataW.trod enc Tryz.prog w base spare held fuel 29 cs = some x) :
 ∃ z : TXI, cs = [.slice z.aI z.t.nI z.cI, .slice z.aO z.t.nO z.cO, .int .u64 z.t.p.amount, .string z.t.p.sig, .string z.t.p.token, .slice z.aW z.t.p.n z.cW] ∧ z.In w := by
 obtain ⟨ys, n', _, _, hlen, hyl, hf⟩ := DataW.trod_struct Tryz.underlying29 h
 obtain ⟨c0, c1, c2, c3, c4, c5, rfl⟩ : ∃ c0 c1 c2 c3 c4 c5, cs = [c0, c1, c2, c3, c4, c5] := by
  match cs, hl with
  | [c0, c1, c2, c3, c4, c5], _ => exact ⟨c0, c1, c2, c3, c4, c5, rfl⟩
 obtain ⟨y0, y1, y2, rfl⟩ : ∃ y0 y1 y2, ys = [y0, y1, y2] := by
  match ys, hyl with
  | [y0, y1, y2], _ => exact ⟨y0, y1, y2, rfl⟩
 have g0 : DataW.trod enc Tryz.prog w base spare held n' 22 [c0] = some y0 := by have := hf 0 _ rfl; simpa [inps_cells, outs_cells, proof_cells] using this
 obtain ⟨aI, lI, cI, fI, k0, b0⟩ := open_inps g0
 have g1 : DataW.trod enc Tryz.prog w base spare held n' 23 [c1] = some y1 := by have := hf 1 _ rfl; simpa [inps_cells, outs_cells, proof_cells] using this
 obtain ⟨aO, lO, cO, fO, k1, b1⟩ := open_outs g1
 have g2 : DataW.trod enc Tryz.prog w base spare held n' 27 [c2, c3, c4, c5] = some y2 := by have := hf 2 _ rfl; simpa [inps_cells, outs_cells, proof_cells] using this
 obtain ⟨z, k2, b2⟩ := trod_proof rfl g2
 simp only [List.cons.injEq, and_true] at k0 k1 k2
 obtain ⟨k2, k3, k4, k5⟩ := k2
 subst k0 k1 k2 k3 k4 k5
 exact ⟨⟨⟨lI, fI, lO, fO, z.p⟩, aI, cI, aO, cO, z.a, z.c⟩, rfl, ⟨b0, b1, b2.w, b2.amount, b2.sig, b2.token⟩⟩
structure PTI where
 tx : ByteArray
 out : Int
abbrev PTI.val (z : PTI) : Value := .agg #[.string z.tx, .int .i64 z.out]
structure PTI.In (z : PTI) (W : World) : Prop where
 tx : z.tx.size ≤ maxLen
 out : I64 z.out
end
theorem cut_1m (s : ByteArray) {m : Int} (k : Nat) (hm : m = k) (hk : k ≤ 1000000) : (cutS s m).size ≤ 1000000 := Nat.le_trans (cutS_le s m k hm) hk
theorem cutI_ok {x : IN} (h : x.wide) : (cutI x).ok := ⟨cut_1m _ 40 rfl (by decide), h.out, h.path, cut_1m _ 450 rfl (by decide)⟩
theorem cutO_ok {x : OU} (h : x.wide) : (cutO x).ok := ⟨h.kind, h.amount, cut_1m _ 40 rfl (by decide), cut_1m _ 40 rfl (by decide), h.expiry, cut_1m _ 40 rfl (by decide), h.unit, h.tokens, cut_1m _ 40 rfl (by decide)⟩
theorem cutW_ok {x : WN} (h : x.wide) : (cutW x).ok := ⟨cut_1m _ 40 rfl (by decide), h.serial, h.face, h.wins, h.many, cut_1m _ 40 rfl (by decide), h.client, cut_1m _ 450 rfl (by decide), cut_1m _ 40 rfl (by decide), h.drawn⟩
theorem cutP_ok {p : PF} (ha : U64 p.amount) (hw : ∀ i, i < p.n → (p.w i).wide) : (cutP p).ok := ⟨ha, cut_1m _ 450 rfl (by decide), cut_1m _ 40 rfl (by decide), by show min p.n 6 ≤ 100; omega, fun i hi => cutW_ok (hw i (by have : i < min p.n 6 := hi; omega))⟩
theorem cutX_ok {t : TX} (hi : ∀ i, i < t.nI → (t.ins i).wide) (ho : ∀ i, i < t.nO → (t.outs i).wide) (ha : U64 t.p.amount) (hw : ∀ i, i < t.p.n → (t.p.w i).wide) : (cutX t).ok :=
 ⟨by show min t.nI 6 ≤ 100; omega, fun i h => cutI_ok (hi i (by have : i < min t.nI 6 := h; omega)), by show min t.nO 6 ≤ 100; omega, fun i h => cutO_ok (ho i (by have : i < min t.nO 6 := h; omega)), cutP_ok ha hw⟩
theorem wide_of_ok_in {x : IN} (h : x.ok) : x.wide := ⟨Nat.le_trans h.tx (by decide), h.out, h.path, Nat.le_trans h.sig (by decide)⟩
theorem wide_of_ok_out {x : OU} (h : x.ok) : x.wide := ⟨h.kind, h.amount, Nat.le_trans h.key (by decide), Nat.le_trans h.gate (by decide), h.expiry, Nat.le_trans h.anchor (by decide), h.unit, h.tokens, Nat.le_trans h.of_ (by decide)⟩
theorem wide_of_ok_win {x : WN} (h : x.ok) : x.wide := ⟨Nat.le_trans h.chan (by decide), h.serial, h.face, h.wins, h.many, Nat.le_trans h.commit (by decide), h.client, Nat.le_trans h.sig (by decide), Nat.le_trans h.salt (by decide), h.drawn⟩
theorem cut_x (t T : TX) (hT : cutX t = T) (aI : Option Addr) (cI : Nat) (aO : Option Addr) (cO : Nat) (aW : Option Addr) (cW : Nat) (w0 : World) (hi : Ins IN.cells 4 IN.wide w0 aI t.nI cI t.ins) (ho : Ins OU.cells 9 OU.wide w0 aO t.nO cO t.outs) (hw : Ins WN.cells 10 WN.wide w0 aW t.p.n cW t.p.w) (h1 : t.p.sig.size ≤ maxLen) (h2 : t.p.token.size ≤ maxLen) :
 Calls Tryz.prog 5 #[.agg #[.slice aI t.nI cI, .slice aO t.nO cO, .int .u64 t.p.amount, .string t.p.sig, .string t.p.token, .slice aW t.p.n cW]] w0 fun e w' => ∃ aI2 cI2 aO2 cO2 aW2 cW2,
  e = .returned (.agg #[.slice aI2 T.nI cI2, .slice aO2 T.nO cO2, .int .u64 T.p.amount, .string T.p.sig, .string T.p.token, .slice aW2 T.p.n cW2]) ∧ OT w' w0.heap.size T aI2 cI2 aO2 cO2 aW2 cW2 ∧ Apart aI2 aO2 ∧ Apart aI2 aW2 ∧ Q w0 w' := by
 subst hT
 refine (cutx_x t.nI t.ins t.nO t.outs t.p aI aO aW cI cO cW w0 hi ho hw h1 h2).mono ?_
 rintro e w' ⟨aI2, cI2, aO2, cO2, aW2, cW2, rfl, o1, o2, o3, p1, p2, _, q⟩
 exact ⟨aI2, cI2, aO2, cO2, aW2, cW2, rfl, ⟨o1, o2, o3⟩, p1, p2, q⟩
theorem OT.cut {w : World} {B : Nat} {T : TX} {aI aO aW : Option Addr} {cI cO cW : Nat} (h : OT w B T aI cI aO cO aW cW) (hk : T.ok) (hT : cutX T = T) (w0 : World) (hw : OT w0 B T aI cI aO cO aW cW) :
 Calls Tryz.prog 5 #[.agg #[.slice aI T.nI cI, .slice aO T.nO cO, .int .u64 T.p.amount, .string T.p.sig, .string T.p.token, .slice aW T.p.n cW]] w0 fun e w' => ∃ aI2 cI2 aO2 cO2 aW2 cW2,
  e = .returned (.agg #[.slice aI2 T.nI cI2, .slice aO2 T.nO cO2, .int .u64 T.p.amount, .string T.p.sig, .string T.p.token, .slice aW2 T.p.n cW2]) ∧ OT w' w0.heap.size T aI2 cI2 aO2 cO2 aW2 cW2 ∧ Apart aI2 aO2 ∧ Apart aI2 aW2 ∧ Q w0 w' :=
 cut_x T T hT aI cI aO cO aW cW w0 (hw.i.ins in_len fun i hi => wide_of_ok_in (hk.ins i hi)) (hw.o.ins out_len fun i hi => wide_of_ok_out (hk.outs i hi)) (hw.w.ins win_len fun i hi => wide_of_ok_win (hk.p.w i hi)) (Nat.le_trans hk.p.sig (by decide)) (Nat.le_trans hk.p.token (by decide))
end Go.Proofs.YtobfgljkckcmcaaGreatDoor.Coi
