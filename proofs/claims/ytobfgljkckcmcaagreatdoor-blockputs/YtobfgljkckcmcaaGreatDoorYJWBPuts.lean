import Derived.Test.YtobfgljkckcmcaaGreatDoorYJDecK
import Derived.Test.YtobfgljkckcmcaaGreatDoorYJDecC
import Derived.Test.YtobfgljkckcmcaaGreatDoorYJDecD
import Derived.Test.YtobfgljkckcmcaaGreatDoorYJBloS
import Derived.Test.YtobfgljkckcmcaaGreatDoorYJBloL
import Derived.Test.YtobfgljkckcmcaaGreatDoorYJBloB
set_option maxRecDepth 100000
namespace Go.Proofs.YtobfgljkckcmcaaGreatDoor.Coi
open Go.RowKit
open Mem Num Cod Sh Plan
set_option linter.unusedVariables false
set_option linter.unusedSimpArgs false
theorem eqb_samek (x y : Operand) (b : Bool) (w : World) : (do eqGuard .eql 4 x y (.bool b) (.bool b); binOp .eql 4 (.bool b) (.bool b) : Sem Value).run Tryz.prog w = .ok (.bool true) w := by
 cases b <;> kernel_rfl
theorem built_fp2 (v0 : ByteArray) : Tryz.prog.built 31 [(0, .string v0), (1, .int .i64 2)] = some #[.string v0, .int .i64 2] := by kernel_rfl
theorem tells_bk {P : Prop} {b : Bool} (hb : b = true ↔ P) {w w' : World} {e : Ending} (h : Tells P w e w') : e = .returned (.bool b) ∧ Q w w' := by
 obtain ⟨c, rfl, hc, q⟩ := h
 have : c = b := by rw [Bool.eq_iff_iff, hc, hb]
 rw [this]; exact ⟨rfl, q⟩
theorem bool_ofk (P : Prop) : ∃ b : Bool, b = true ↔ P := by
 by_cases h : P
 · exact ⟨true, by simp [h]⟩
 · exact ⟨false, by simp [h]⟩
theorem enc_bk {R : Prop} {T s : ByteArray} (hs : (R ∧ s = T) ∨ (¬ R ∧ s = ⟨#[]⟩)) {w w' : World} {e : Ending} (h : Enc R T w e w') : e = .returned (.string s) ∧ Q w w' := by
 obtain ⟨c, rfl, hc, q⟩ := h
 have : c = s := by
  rcases hs with ⟨h1, h2⟩ | ⟨h1, h2⟩ <;> rcases hc with ⟨h3, h4⟩ | ⟨h3, h4⟩
  · rw [h2, h4]
  · exact absurd h1 h3
  · exact absurd h3 h1
  · rw [h2, h4]
 rw [this]; exact ⟨rfl, q⟩
theorem enc_ofk (R : Prop) (T : ByteArray) : ∃ s : ByteArray, (R ∧ s = T) ∨ (¬ R ∧ s = ⟨#[]⟩) := by
 by_cases h : R
 · exact ⟨T, .inl ⟨h, rfl⟩⟩
 · exact ⟨⟨#[]⟩, .inr ⟨h, rfl⟩⟩
/-- Two blocks that are alike, wherever they lie. -/
def Lik (y z : BKI) : Prop := y.h = z.h ∧ y.prev = z.prev ∧ y.n = z.n ∧ ∀ i, i < y.n → (y.g i).t = (z.g i).t
theorem Lik.right {y z : BKI} (h : Lik y z) : RightB y ↔ RightB z := by
 obtain ⟨h1, h2, h3, h4⟩ := h
 unfold RightB
 rw [h1, h2, h3]
 rw [h3] at h4
 refine ⟨fun ⟨a1, a2, a3, a4, a5⟩ => ⟨a1, a2, a3, a4, fun i hi => ?_⟩, fun ⟨a1, a2, a3, a4, a5⟩ => ⟨a1, a2, a3, a4, fun i hi => ?_⟩⟩
 · rw [← h4 i hi]; exact a5 i hi
 · rw [h4 i hi]; exact a5 i hi
theorem Lik.id {y z : BKI} (h : Lik y z) : bidS y = bidS z := by
 obtain ⟨h1, h2, h3, h4⟩ := h
 unfold bidS
 rw [h1, h2, h3, catN_congr (fun i => idS (y.g i).t) (fun i => idS (z.g i).t) z.n (fun i hi => by show idS _ = idS _; rw [h4 i (by omega)])]
theorem Lik.bytes {y z : BKI} (h : Lik y z) : bkB y = bkB z := by
 obtain ⟨h1, h2, h3, h4⟩ := h
 unfold bkB
 rw [h1, h2, h3, catN_congr (fun i => blobS (txB (y.g i).t)) (fun i => blobS (txB (z.g i).t)) z.n (fun i hi => by show blobS (txB _) = blobS (txB _); rw [h4 i (by omega)])]
theorem Lik.same {y z y' z' : BKI} (h : Lik y z) (h' : Lik y' z') : SamB y y' ↔ SamB z z' := by
 obtain ⟨h1, h2, h3, h4⟩ := h
 obtain ⟨k1, k2, k3, k4⟩ := h'
 unfold SamB SamL
 rw [h1, h2, h3, k1, k2, k3]
 refine ⟨fun ⟨a1, a2, a3, a4⟩ => ⟨a1, a2, a3, fun i hi => ?_⟩, fun ⟨a1, a2, a3, a4⟩ => ⟨a1, a2, a3, fun i hi => ?_⟩⟩
 · rw [← h4 i (by omega), ← k4 i (by omega)]; exact a4 i hi
 · rw [h4 i (by omega), k4 i (by omega)]; exact a4 i hi
theorem Lik.ok {y z : BKI} (h : Lik y z) (hk : z.ok) : y.ok := ⟨by rw [h.1]; exact hk.h, by rw [h.2.1]; exact hk.prev, by rw [h.2.2.1]; exact hk.n⟩
/-- Where BlockPuts stands: both blocks, and both lists of outputs. -/
structure BpS (W : World) (b3 b4 : Nat) (y1 y2 : BKI) (g1 g2 n : Nat) (F : Nat → OU) (w : World) : Prop where
 ba : BB w b3 y1
 bb : BB w b4 y2
 x1 : SL OU.cells 9 w (some ⟨g1, 0, none⟩) n F
 x2 : SL OU.cells 9 w (some ⟨g2, 0, none⟩) n F
 q : Q W w
theorem BpS.up {W : World} {b3 b4 : Nat} {y1 y2 : BKI} {g1 g2 n : Nat} {F : Nat → OU} {w w' : World} (h : BpS W b3 b4 y1 y2 g1 g2 n F w) (q : Q w w') : BpS W b3 b4 y1 y2 g1 g2 n F w' := ⟨h.ba.q q, h.bb.q q, h.x1.q q, h.x2.q q, h.q.trans q⟩
set_option maxHeartbeats 40000000 in
theorem bputs_walk (W : World) (hG : GL W) (z1 : BKI) (hz1 : z1.In W) (z2 : BKI) (hz2 : z2.In W) (ab : Option Addr) (nb cb : Nat) (f : Nat → OU) (hr : Ins OU.cells 9 OU.wide W ab nb cb f) :
 Calls Tryz.prog 4 #[z1.val, z2.val, .slice ab nb cb] W fun e W' => e = .returned (.bool true) ∧ Below W.heap.size W W' := by
 dsimp only [BKI.val]
 have hG := Lib.hid hG
 have HZ1 := Lib.hid hz1
 have HZ2 := Lib.hid hz2
 have HR := Lib.hid hr
 clear hz1 hz2 hr
 go_enter Tryz.func4, Tryz.ntmps4
 go_wp2_with (with_reducible (show wpList _ _ _ (⟨_, Op.load 64 (.tmp 3), _, _, _, _⟩ :: _) _ _); refine halt ?_)
 have QA : Hid (Q W ((W.alloc (.cells #[.int .i64 z1.h, .string z1.prev, .slice z1.a z1.n z1.c] 64)).alloc (.cells #[.int .i64 z2.h, .string z2.prev, .slice z2.a z2.n z2.c] 64))) := ((Q.refl W).alloc _).alloc _
 have B3 : Hid (Box ((W.alloc (.cells #[.int .i64 z1.h, .string z1.prev, .slice z1.a z1.n z1.c] 64)).alloc (.cells #[.int .i64 z2.h, .string z2.prev, .slice z2.a z2.n z2.c] 64)) W.heap.size [.int .i64 z1.h, .string z1.prev, .slice z1.a z1.n z1.c]) := (Box.new W [.int .i64 z1.h, .string z1.prev, .slice z1.a z1.n z1.c] 64).q ((Q.refl _).alloc _)
 have B4 : Hid (Box ((W.alloc (.cells #[.int .i64 z1.h, .string z1.prev, .slice z1.a z1.n z1.c] 64)).alloc (.cells #[.int .i64 z2.h, .string z2.prev, .slice z2.a z2.n z2.c] 64)) (W.heap.size + 1) [.int .i64 z2.h, .string z2.prev, .slice z2.a z2.n z2.c]) := by
  have := Box.new (W.alloc (.cells #[.int .i64 z1.h, .string z1.prev, .slice z1.a z1.n z1.c] 64)) [.int .i64 z2.h, .string z2.prev, .slice z2.a z2.n z2.c] 64
  rw [show (W.alloc (.cells #[.int .i64 z1.h, .string z1.prev, .slice z1.a z1.n z1.c] 64)).heap.size = W.heap.size + 1 by simp] at this
  exact this
 generalize (W.alloc (.cells #[.int .i64 z1.h, .string z1.prev, .slice z1.a z1.n z1.c] 64)).alloc (.cells #[.int .i64 z2.h, .string z2.prev, .slice z2.a z2.n z2.c] 64) = wA at *
 obtain ⟨b4, hb4⟩ : ∃ b, W.heap.size + 1 = b := ⟨_, rfl⟩
 rw [hb4] at B4 ⊢
 obtain ⟨b3, hb3⟩ : ∃ b, W.heap.size = b := ⟨_, rfl⟩
 rw [hb3] at B3 ⊢
 have l3 : b3 < wA.heap.size := B3.out.lt
 have l4 : b4 < wA.heap.size := B4.out.lt
 have n34 : b4 ≠ b3 := by omega
 have BBW : W.heap.size ≤ wA.heap.size := QA.out.size
 refine Lib.hid (ld_box rfl 64 _ rfl b3 _ rfl B3.out Tryz.underlying64 rfl (by kernel_rfl) ?_)
 go_wp2_with fail
 refine (bcut_x z1 _ (BKI.In.q_ HZ1.out QA.out)).mono ?_
 rintro e w1 ⟨y1, rfl, o1, ok1, is1, q1⟩
 clear is1
 go_wp2_with (with_reducible (show wpList _ _ _ (⟨_, Op.store 64 _ _, _, _, _, _⟩ :: _) _ _); refine halt ?_)
 refine Lib.hid (st_box rfl 64 _ _ rfl b3 _ [.int .i64 y1.h, .string y1.prev, .slice y1.a y1.n y1.c] rfl rfl (B3.out.q q1) rfl (by kernel_rfl) (one3 rfl rfl rfl) ?_)
 intro w2 B3' c2
 have OA2 := Lib.hid (o1.low c2 l3)
 have B32 := Lib.hid B3'
 have B42 := Lib.hid ((B4.out.q q1).ch c2 n34)
 have Q2 : Hid (Q W w2) := c2.q (QA.out.trans q1) (by omega)
 have OK1 := Lib.hid ok1
 have s2 : wA.heap.size ≤ w2.heap.size := Nat.le_trans q1.size c2.size
 clear c2 B3' o1 ok1 q1 B3 B4 QA HZ1
 go_wp2_with (with_reducible (show wpList _ _ _ (⟨_, Op.load 64 (.tmp 4), _, _, _, _⟩ :: _) _ _); refine halt ?_)
 refine Lib.hid (ld_box rfl 64 _ rfl b4 _ rfl B42.out Tryz.underlying64 rfl (by kernel_rfl) ?_)
 go_wp2_with fail
 refine (bcut_x z2 _ (BKI.In.q_ HZ2.out Q2.out)).mono ?_
 rintro e w3 ⟨y2, rfl, o3, ok3, is3, q3⟩
 clear is3
 go_wp2_with (with_reducible (show wpList _ _ _ (⟨_, Op.store 64 _ _, _, _, _, _⟩ :: _) _ _); refine halt ?_)
 refine Lib.hid (st_box rfl 64 _ _ rfl b4 _ [.int .i64 y2.h, .string y2.prev, .slice y2.a y2.n y2.c] rfl rfl (B42.out.q q3) rfl (by kernel_rfl) (one3 rfl rfl rfl) ?_)
 intro w4 B4' c4
 have BA4 : Hid (BB w4 b3 y1) := ⟨(B32.out.q q3).ch c4 (Ne.symm n34), ((OA2.out.q q3).low c4 l4).tl⟩
 have BB4 : Hid (BB w4 b4 y2) := ⟨B4', (o3.low c4 (by omega)).tl⟩
 have Q4 : Hid (Q W w4) := c4.q (Q2.out.trans q3) (by omega)
 have OK2 := Lib.hid ok3
 clear c4 B4' o3 ok3 q3 OA2 B32 B42 Q2 HZ2 s2
 have F0 : Hid (∀ i, i < min nb 6 → U64 (cutO (f i)).amount ∧ (cutO (f i)).key.size ≤ 2000) := fun i hi => ⟨(HR.out.ok i (by omega)).amount, Nat.le_trans (cutS_le _ 40 40 rfl) (by decide)⟩
 as_aux_lemma =>
 go_wp2_with fail
 refine (outs_x ab nb cb f _ ⟨HR.out.sl.q Q4.out, HR.out.le, HR.out.cap, HR.out.ok⟩).mono ?_
 rintro e w5 ⟨g1, c1, g2, c2, rfl, o1, o2, q5⟩
 obtain ⟨n, hn⟩ : ∃ n, min nb 6 = n := ⟨_, rfl⟩
 rw [hn] at o1 o2 F0 ⊢
 have n6 : n ≤ 100 := by omega
 obtain ⟨F, hF⟩ : ∃ F : Nat → OU, (fun i => cutO (f i)) = F := ⟨_, rfl⟩
 have HF : Hid (∀ i, i < n → U64 (F i).amount ∧ (F i).key.size ≤ 2000) := by rw [← hF]; exact F0.out
 rw [hF] at o1 o2
 have S5 : Hid (BpS W b3 b4 y1 y2 g1 g2 n F w5) := ⟨BA4.out.q q5, BB4.out.q q5, o1.sl out_len, o2.sl out_len, Q4.out.trans q5⟩
 clear o1 o2 q5 BA4 BB4 Q4 F0 HR hF hn
 go_wp2_with fail
 obtain ⟨rb, hrb⟩ := bool_ofk (RightB y1)
 obtain ⟨ii, hii⟩ := enc_ofk (RightB y1) (bidS y1)
 obtain ⟨xx, hxx⟩ := enc_ofk (RightB y1) (bkB y1)
 obtain ⟨sb, hsb⟩ := bool_ofk (SamB y1 y2)
 obtain ⟨ff, hff⟩ : ∃ z, fstS n F = z := ⟨_, rfl⟩
 have R1 : Hid (∀ w, BpS W b3 b4 y1 y2 g1 g2 n F w → Calls Tryz.prog 28 #[.agg #[.int .i64 y1.h, .string y1.prev, .slice y1.a y1.n y1.c]] w fun e w' => e = .returned (.bool rb) ∧ Q w w') := fun w h => (bright_x y1 w h.ba.tl OK1.out).mono fun e w' k => tells_bk hrb k
 have I1 : Hid (∀ w, BpS W b3 b4 y1 y2 g1 g2 n F w → Calls Tryz.prog 31 #[.agg #[.int .i64 y1.h, .string y1.prev, .slice y1.a y1.n y1.c]] w fun e w' => e = .returned (.string ii) ∧ Q w w') := fun w h => (bid_x y1 w (hG.out.q h.q) h.ba.tl OK1.out).mono fun e w' k => enc_bk hii k
 have E1 : Hid (∀ w, BpS W b3 b4 y1 y2 g1 g2 n F w → Calls Tryz.prog 33 #[.agg #[.int .i64 y1.h, .string y1.prev, .slice y1.a y1.n y1.c]] w fun e w' => e = .returned (.string xx) ∧ Q w w') := fun w h => (bencode_x y1 w h.ba.tl OK1.out).mono fun e w' k => enc_bk hxx k
 have M1 : Hid (∀ w, BpS W b3 b4 y1 y2 g1 g2 n F w → Calls Tryz.prog 35 #[.agg #[.int .i64 y1.h, .string y1.prev, .slice y1.a y1.n y1.c], .agg #[.int .i64 y2.h, .string y2.prev, .slice y2.a y2.n y2.c]] w fun e w' => e = .returned (.bool sb) ∧ Q w w') := fun w h => (bsame_x y1 y2 w h.ba.tl h.bb.tl OK1.out.n OK2.out.n).mono fun e w' k => tells_bk hsb k
 have P1 : Hid (∀ w, BpS W b3 b4 y1 y2 g1 g2 n F w → Calls Tryz.prog 37 #[.slice (some ⟨g1, 0, none⟩) n c1] w fun e w' => e = .returned (.string ff) ∧ Q w w') := fun w h => by rw [← hff]; exact first_x (some ⟨g1, 0, none⟩) n c1 F w (hG.out.q h.q) h.x1 n6 HF.out
 have P2 : Hid (∀ w, BpS W b3 b4 y1 y2 g1 g2 n F w → Calls Tryz.prog 38 #[.slice (some ⟨g2, 0, none⟩) n c2] w fun e w' => e = .returned (.string ff) ∧ Q w w') := fun w h => by rw [← hff]; exact d10first_x (some ⟨g2, 0, none⟩) n c2 F w h.x2 n6 HF.out
 have G1 : Hid (∀ w, BpS W b3 b4 y1 y2 g1 g2 n F w → Calls Tryz.prog 39 #[.slice (some ⟨g1, 0, none⟩) n c1, .int .i64 2] w fun e w' => e = .returned (.agg #[.string ff, .int .i64 2]) ∧ Q w w') := fun w h => by rw [← hff]; exact begin_x (some ⟨g1, 0, none⟩) n c1 F 2 w (hG.out.q h.q) h.x1 n6 HF.out
 have FX : Hid (∀ w, BpS W b3 b4 y1 y2 g1 g2 n F w → Calls Tryz.prog 40 #[] w fun e w' => e = .returned (.bool true) ∧ Q w w') := fun w h => bfixed_x (hG.out.q h.q)
 have RF1 : Hid (∀ w, BpS W b3 b4 y1 y2 g1 g2 n F w → Calls Tryz.prog 30 #[.agg #[.int .i64 y1.h, .string y1.prev, .slice y1.a y1.n y1.c]] w fun e w' => ∃ z : BKI, e = .returned z.val ∧ z.tl w' ∧ Lik z y1 ∧ Q w w') := fun w h => ref10_x y1 w h.ba.tl OK1.out.n
 have RF2 : Hid (∀ w, BpS W b3 b4 y1 y2 g1 g2 n F w → Calls Tryz.prog 30 #[.agg #[.int .i64 y2.h, .string y2.prev, .slice y2.a y2.n y2.c]] w fun e w' => ∃ z : BKI, e = .returned z.val ∧ z.tl w' ∧ Lik z y2 ∧ Q w w') := fun w h => ref10_x y2 w h.bb.tl OK2.out.n
 have R2 : Hid (∀ (z : BKI) w, z.tl w → Lik z y1 → Calls Tryz.prog 29 #[z.val] w fun e w' => e = .returned (.bool rb) ∧ Q w w') := fun z w h k => (d10right_x z w h (k.ok OK1.out)).mono fun e w' j => tells_bk (hrb.trans k.right.symm) j
 have I2 : Hid (∀ (z : BKI) w, z.tl w → Lik z y1 → Calls Tryz.prog 32 #[z.val] w fun e w' => e = .returned (.string ii) ∧ Q w w') := fun z w h k => (d10id_x z w h (k.ok OK1.out)).mono fun e w' j => enc_bk (by rw [k.right, k.id]; exact hii) j
 have E2 : Hid (∀ (z : BKI) w, z.tl w → Lik z y1 → Calls Tryz.prog 34 #[z.val] w fun e w' => e = .returned (.string xx) ∧ Q w w') := fun z w h k => (d10encode_x z w h (k.ok OK1.out)).mono fun e w' j => enc_bk (by rw [k.right, k.bytes]; exact hxx) j
 have M2 : Hid (∀ (z z' : BKI) w, z.tl w → Lik z y1 → z'.tl w → Lik z' y2 → Calls Tryz.prog 36 #[z.val, z'.val] w fun e w' => e = .returned (.bool sb) ∧ Q w w') := fun z z' w h k h' k' => (d10same_x z z' w h h' (k.ok OK1.out).n (k'.ok OK2.out).n).mono fun e w' j => tells_bk (hsb.trans (k.same k').symm) j
 clear hrb hii hxx hsb hff hG OK1 OK2 HF
 as_aux_lemma =>
 have hS0 : Q w5 w5.drew := (Q.refl w5).drew
 refine region_gen3 ?_
 intro OPS QQ A0 hO hQQ hA
 have hz : A0.tmps.size = 69 := by rw [hA]; rfl
 have hs : sound OPS A0.tmps.size = true := by rw [hz, hO]; kernel_rfl
 have b_3 : A0.eval (.tmp 3) = .pointer (some ⟨b3, 0, none⟩) := by rw [hA]; rfl
 have fr_3 : free OPS 3 = true := by rw [hO]; kernel_rfl
 have b_4 : A0.eval (.tmp 4) = .pointer (some ⟨b4, 0, none⟩) := by rw [hA]; rfl
 have fr_4 : free OPS 4 = true := by rw [hO]; kernel_rfl
 have b_7 : A0.eval (.tmp 7) = .slice (some ⟨g1, 0, none⟩) n c1 := by rw [hA]; rfl
 have fr_7 : free OPS 7 = true := by rw [hO]; kernel_rfl
 have b_8 : A0.eval (.tmp 8) = .slice (some ⟨g2, 0, none⟩) n c2 := by rw [hA]; rfl
 have fr_8 : free OPS 8 = true := by rw [hO]; kernel_rfl
 obtain ⟨VV, hVV⟩ : ∃ V : Nat → Value → World → Prop, V = fun i => ([fun v _ => v = .agg #[.int .i64 y1.h, .string y1.prev, .slice y1.a y1.n y1.c], fun v _ => v = .bool rb, fun v _ => v = .agg #[.int .i64 y1.h, .string y1.prev, .slice y1.a y1.n y1.c], fun v w => ∃ z : BKI, v = z.val ∧ z.tl w ∧ Lik z y1, fun v _ => v = .bool rb, fun v _ => v = .bool true, fun v _ => v = .bool true, fun v _ => v = .agg #[.int .i64 y1.h, .string y1.prev, .slice y1.a y1.n y1.c], fun v _ => v = .string ii, fun v _ => v = .agg #[.int .i64 y1.h, .string y1.prev, .slice y1.a y1.n y1.c], fun v w => ∃ z : BKI, v = z.val ∧ z.tl w ∧ Lik z y1, fun v _ => v = .string ii, fun v _ => v = .bool true, fun v _ => v = .bool true, fun v _ => v = .bool true, fun v _ => v = .agg #[.int .i64 y1.h, .string y1.prev, .slice y1.a y1.n y1.c], fun v _ => v = .string xx, fun v _ => v = .agg #[.int .i64 y1.h, .string y1.prev, .slice y1.a y1.n y1.c], fun v w => ∃ z : BKI, v = z.val ∧ z.tl w ∧ Lik z y1, fun v _ => v = .string xx, fun v _ => v = .bool true, fun v _ => v = .bool true, fun v _ => v = .bool true, fun v _ => v = .agg #[.int .i64 y1.h, .string y1.prev, .slice y1.a y1.n y1.c], fun v _ => v = .agg #[.int .i64 y2.h, .string y2.prev, .slice y2.a y2.n y2.c], fun v _ => v = .bool sb, fun v _ => v = .agg #[.int .i64 y1.h, .string y1.prev, .slice y1.a y1.n y1.c], fun v w => ∃ z : BKI, v = z.val ∧ z.tl w ∧ Lik z y1, fun v _ => v = .agg #[.int .i64 y2.h, .string y2.prev, .slice y2.a y2.n y2.c], fun v w => ∃ z : BKI, v = z.val ∧ z.tl w ∧ Lik z y2, fun v _ => v = .bool sb, fun v _ => v = .bool true, fun v _ => v = .bool true, fun v _ => v = .bool true, fun v _ => v = .slice (some ⟨g1, 0, none⟩) n c1, fun v _ => v = .string ff, fun v _ => v = .slice (some ⟨g2, 0, none⟩) n c2, fun v _ => v = .string ff, fun v _ => v = .bool true, fun v _ => v = .bool true, fun v _ => v = .bool true, fun v _ => v = .slice (some ⟨g1, 0, none⟩) n c1, fun v _ => v = .agg #[.string ff, .int .i64 2], fun v _ => v = .slice (some ⟨g2, 0, none⟩) n c2, fun v _ => v = .string ff, fun v _ => v = .agg #[.string ff, .int .i64 2], fun v _ => v = .bool true, fun v _ => v = .bool true, fun v _ => v = .bool true, fun v _ => v = .bool true, fun v _ => v = .bool true, fun v _ => v = .bool true] : List (Value → World → Prop)).getD i (fun _ _ => True) := ⟨_, rfl⟩
 have v_0 : VV 0 = fun v _ => v = .agg #[.int .i64 y1.h, .string y1.prev, .slice y1.a y1.n y1.c] := vat hVV 0
 have v_1 : VV 1 = fun v _ => v = .bool rb := vat hVV 1
 have v_2 : VV 2 = fun v _ => v = .agg #[.int .i64 y1.h, .string y1.prev, .slice y1.a y1.n y1.c] := vat hVV 2
 have v_3 : VV 3 = fun v w => ∃ z : BKI, v = z.val ∧ z.tl w ∧ Lik z y1 := vat hVV 3
 have v_4 : VV 4 = fun v _ => v = .bool rb := vat hVV 4
 have v_5 : VV 5 = fun v _ => v = .bool true := vat hVV 5
 have v_6 : VV 6 = fun v _ => v = .bool true := vat hVV 6
 have v_7 : VV 7 = fun v _ => v = .agg #[.int .i64 y1.h, .string y1.prev, .slice y1.a y1.n y1.c] := vat hVV 7
 have v_8 : VV 8 = fun v _ => v = .string ii := vat hVV 8
 have v_9 : VV 9 = fun v _ => v = .agg #[.int .i64 y1.h, .string y1.prev, .slice y1.a y1.n y1.c] := vat hVV 9
 have v_10 : VV 10 = fun v w => ∃ z : BKI, v = z.val ∧ z.tl w ∧ Lik z y1 := vat hVV 10
 have v_11 : VV 11 = fun v _ => v = .string ii := vat hVV 11
 have v_12 : VV 12 = fun v _ => v = .bool true := vat hVV 12
 have v_13 : VV 13 = fun v _ => v = .bool true := vat hVV 13
 have v_14 : VV 14 = fun v _ => v = .bool true := vat hVV 14
 have v_15 : VV 15 = fun v _ => v = .agg #[.int .i64 y1.h, .string y1.prev, .slice y1.a y1.n y1.c] := vat hVV 15
 have v_16 : VV 16 = fun v _ => v = .string xx := vat hVV 16
 have v_17 : VV 17 = fun v _ => v = .agg #[.int .i64 y1.h, .string y1.prev, .slice y1.a y1.n y1.c] := vat hVV 17
 have v_18 : VV 18 = fun v w => ∃ z : BKI, v = z.val ∧ z.tl w ∧ Lik z y1 := vat hVV 18
 have v_19 : VV 19 = fun v _ => v = .string xx := vat hVV 19
 have v_20 : VV 20 = fun v _ => v = .bool true := vat hVV 20
 have v_21 : VV 21 = fun v _ => v = .bool true := vat hVV 21
 have v_22 : VV 22 = fun v _ => v = .bool true := vat hVV 22
 have v_23 : VV 23 = fun v _ => v = .agg #[.int .i64 y1.h, .string y1.prev, .slice y1.a y1.n y1.c] := vat hVV 23
 have v_24 : VV 24 = fun v _ => v = .agg #[.int .i64 y2.h, .string y2.prev, .slice y2.a y2.n y2.c] := vat hVV 24
 have v_25 : VV 25 = fun v _ => v = .bool sb := vat hVV 25
 have v_26 : VV 26 = fun v _ => v = .agg #[.int .i64 y1.h, .string y1.prev, .slice y1.a y1.n y1.c] := vat hVV 26
 have v_27 : VV 27 = fun v w => ∃ z : BKI, v = z.val ∧ z.tl w ∧ Lik z y1 := vat hVV 27
 have v_28 : VV 28 = fun v _ => v = .agg #[.int .i64 y2.h, .string y2.prev, .slice y2.a y2.n y2.c] := vat hVV 28
 have v_29 : VV 29 = fun v w => ∃ z : BKI, v = z.val ∧ z.tl w ∧ Lik z y2 := vat hVV 29
 have v_30 : VV 30 = fun v _ => v = .bool sb := vat hVV 30
 have v_31 : VV 31 = fun v _ => v = .bool true := vat hVV 31
 have v_32 : VV 32 = fun v _ => v = .bool true := vat hVV 32
 have v_33 : VV 33 = fun v _ => v = .bool true := vat hVV 33
 have v_34 : VV 34 = fun v _ => v = .slice (some ⟨g1, 0, none⟩) n c1 := vat hVV 34
 have v_35 : VV 35 = fun v _ => v = .string ff := vat hVV 35
 have v_36 : VV 36 = fun v _ => v = .slice (some ⟨g2, 0, none⟩) n c2 := vat hVV 36
 have v_37 : VV 37 = fun v _ => v = .string ff := vat hVV 37
 have v_38 : VV 38 = fun v _ => v = .bool true := vat hVV 38
 have v_39 : VV 39 = fun v _ => v = .bool true := vat hVV 39
 have v_40 : VV 40 = fun v _ => v = .bool true := vat hVV 40
 have v_41 : VV 41 = fun v _ => v = .slice (some ⟨g1, 0, none⟩) n c1 := vat hVV 41
 have v_42 : VV 42 = fun v _ => v = .agg #[.string ff, .int .i64 2] := vat hVV 42
 have v_43 : VV 43 = fun v _ => v = .slice (some ⟨g2, 0, none⟩) n c2 := vat hVV 43
 have v_44 : VV 44 = fun v _ => v = .string ff := vat hVV 44
 have v_45 : VV 45 = fun v _ => v = .agg #[.string ff, .int .i64 2] := vat hVV 45
 have v_46 : VV 46 = fun v _ => v = .bool true := vat hVV 46
 have v_47 : VV 47 = fun v _ => v = .bool true := vat hVV 47
 have v_48 : VV 48 = fun v _ => v = .bool true := vat hVV 48
 have v_49 : VV 49 = fun v _ => v = .bool true := vat hVV 49
 have v_50 : VV 50 = fun v _ => v = .bool true := vat hVV 50
 have v_51 : VV 51 = fun v _ => v = .bool true := vat hVV 51
 have hV := stable_of (T := Q) hVV ((sk (sk (sk (sl_cons (fun v w w' h t => by obtain ⟨z, h0, h1, h2⟩ := h; exact ⟨z, h0, TL.q_ h1 t, h2⟩) (sk (sk (sk (sk (sk (sk (sl_cons (fun v w w' h t => by obtain ⟨z, h0, h1, h2⟩ := h; exact ⟨z, h0, TL.q_ h1 t, h2⟩) (sk (sk (sk (sk (sk (sk (sk (sl_cons (fun v w w' h t => by obtain ⟨z, h0, h1, h2⟩ := h; exact ⟨z, h0, TL.q_ h1 t, h2⟩) (sk (sk (sk (sk (sk (sk (sk (sk (sl_cons (fun v w w' h t => by obtain ⟨z, h0, h1, h2⟩ := h; exact ⟨z, h0, TL.q_ h1 t, h2⟩) (sk (sl_cons (fun v w w' h t => by obtain ⟨z, h0, h1, h2⟩ := h; exact ⟨z, h0, TL.q_ h1 t, h2⟩) (sk (sk (sk (sk (sk (sk (sk (sk (sk (sk (sk (sk (sk (sk (sk (sk (sk (sk (sk (sk (sk (sk trivial)))))))))))))))))))))))))))))))))))))))))))))))))))))
 clear hVV
 have i_0 := pget_at hO 0 rfl
 have i_1 := pget_at hO 1 rfl
 have i_2 := pget_at hO 2 rfl
 have i_3 := pget_at hO 3 rfl
 have i_4 := pget_at hO 4 rfl
 have i_5 := pget_at hO 5 rfl
 have i_6 := pget_at hO 6 rfl
 have i_7 := pget_at hO 7 rfl
 have i_8 := pget_at hO 8 rfl
 have i_9 := pget_at hO 9 rfl
 have i_10 := pget_at hO 10 rfl
 have i_11 := pget_at hO 11 rfl
 have i_12 := pget_at hO 12 rfl
 have i_13 := pget_at hO 13 rfl
 have i_14 := pget_at hO 14 rfl
 have i_15 := pget_at hO 15 rfl
 have i_16 := pget_at hO 16 rfl
 have i_17 := pget_at hO 17 rfl
 have i_18 := pget_at hO 18 rfl
 have i_19 := pget_at hO 19 rfl
 have i_20 := pget_at hO 20 rfl
 have i_21 := pget_at hO 21 rfl
 have i_22 := pget_at hO 22 rfl
 have i_23 := pget_at hO 23 rfl
 have i_24 := pget_at hO 24 rfl
 have i_25 := pget_at hO 25 rfl
 have i_26 := pget_at hO 26 rfl
 have i_27 := pget_at hO 27 rfl
 have i_28 := pget_at hO 28 rfl
 have i_29 := pget_at hO 29 rfl
 have i_30 := pget_at hO 30 rfl
 have i_31 := pget_at hO 31 rfl
 have i_32 := pget_at hO 32 rfl
 have i_33 := pget_at hO 33 rfl
 have i_34 := pget_at hO 34 rfl
 have i_35 := pget_at hO 35 rfl
 have i_36 := pget_at hO 36 rfl
 have i_37 := pget_at hO 37 rfl
 have i_38 := pget_at hO 38 rfl
 have i_39 := pget_at hO 39 rfl
 have i_40 := pget_at hO 40 rfl
 have i_41 := pget_at hO 41 rfl
 have i_42 := pget_at hO 42 rfl
 have i_43 := pget_at hO 43 rfl
 have i_44 := pget_at hO 44 rfl
 have i_45 := pget_at hO 45 rfl
 have i_46 := pget_at hO 46 rfl
 have i_47 := pget_at hO 47 rfl
 have i_48 := pget_at hO 48 rfl
 have i_49 := pget_at hO 49 rfl
 have i_50 := pget_at hO 50 rfl
 have i_51 := pget_at hO 51 rfl
 have MK41 := @Step.pure Tryz.prog OPS QQ VV Q (Q w5) A0
 have s_0 := MK41 i_0 (.agg #[.int .i64 y1.h, .string y1.prev, .slice y1.a y1.n y1.c]) (Q.refl ·) (fun l a w hI hl => ⟨wanted_none rfl, ex_loado 64 rfl b3 0 [.int .i64 y1.h, .string y1.prev, .slice y1.a y1.n y1.c] _ ((hI.base 3 fr_3).trans b_3) ((S5.out.up hI.st).ba.box.rangeo 0 (r := []) rfl) Tryz.underlying64 rfl (by kernel_rfl), at_mk v_0 rfl⟩)
 have s_1 := Step.call (P := Tryz.prog) (V := VV) (T := Q) (S := (Q w5)) (a0 := A0) (Qx := QQ) (R := fun _ _ _ => True) i_1 (fun l a w hI hl => by
  refine ⟨wanted_none rfl, 28, #[.agg #[.int .i64 y1.h, .string y1.prev, .slice y1.a y1.n y1.c]], ?_, ?_⟩
  · exact ex_call rfl (by simp only [List.map_toArray, List.map_cons, List.map_nil, ev_const, (show a.eval (.tmp 18) = _ from (at_eq v_0 (hI.at_ 0 18 _ i_0 rfl (hl_at hl 0 rfl rfl))))]) Tryz.func28 (by kernel_rfl) (by kernel_rfl)
  · exact (R1.out w (S5.out.up hI.st)).mono fun e w' hc => by
     obtain ⟨rfl, hq⟩ := hc
     exact ⟨_, rfl, hq, hI.st.trans hq, at_mk v_1 rfl⟩)
 have s_2 := MK41 i_2 (.agg #[.int .i64 y1.h, .string y1.prev, .slice y1.a y1.n y1.c]) (Q.refl ·) (fun l a w hI hl => ⟨wanted_none rfl, ex_loado 64 rfl b3 0 [.int .i64 y1.h, .string y1.prev, .slice y1.a y1.n y1.c] _ ((hI.base 3 fr_3).trans b_3) ((S5.out.up hI.st).ba.box.rangeo 0 (r := []) rfl) Tryz.underlying64 rfl (by kernel_rfl), at_mk v_2 rfl⟩)
 have MK42 := @Step.done Tryz.prog OPS QQ VV Q (Q w5) A0
 have s_3 := MK42 i_3 (fun l a w hI hl => by
  refine ⟨wanted_none rfl, ?_⟩
  refine wp_enter (f := 30) (args := #[.agg #[.int .i64 y1.h, .string y1.prev, .slice y1.a y1.n y1.c]]) ?_ ?_
  · exact ex_call rfl (by simp only [List.map_toArray, List.map_cons, List.map_nil, ev_const, (show a.eval (.tmp 20) = _ from (at_eq v_2 (hI.at_ 2 20 _ i_2 rfl (hl_at hl 0 rfl rfl))))]) Tryz.func30 (by kernel_rfl) (by kernel_rfl)
  · refine (RF1.out w (S5.out.up hI.st)).mono fun e w' hc => ?_
    obtain ⟨z, rfl, h1, h2, hq⟩ := hc
    exact ⟨_, rfl, hq, hI.st.trans hq, p_at v_3 ⟨z, rfl, h1, h2⟩⟩)
 have s_4 := MK42 i_4 (fun l a w hI hl => by
  obtain ⟨z, e23, h1, h2⟩ := at_p v_3 (hI.at_ 3 21 _ i_3 rfl (hl_at hl 0 rfl rfl))
  refine ⟨wanted_none rfl, ?_⟩
  refine wp_enter (f := 29) (args := #[z.val]) ?_ ?_
  · exact ex_call rfl (by simp only [List.map_toArray, List.map_cons, List.map_nil, ev_const, (show a.eval (.tmp 21) = _ from e23)]) Tryz.func29 (by kernel_rfl) (by kernel_rfl)
  · refine (R2.out z w h1 h2).mono fun e w' hc => ?_
    obtain ⟨rfl, hq⟩ := hc
    exact ⟨_, rfl, hq, hI.st.trans hq, at_mk v_4 rfl⟩)
 have s_5 := MK41 i_5 (.bool true) (Q.refl ·) (fun l a w hI hl => ⟨wanted_none rfl, ex_bin rfl (at_eq v_1 (hI.at_ 1 19 _ i_1 rfl (hl_at hl 0 rfl rfl))) (at_eq v_4 (hI.at_ 4 22 _ i_4 rfl (hl_at hl 1 rfl rfl))) (eqb_samek _ _ _ _), at_mk v_5 rfl⟩)
 have s_6 := MK41 i_6 (.bool true) (Q.refl ·) (fun l a w hI hl => ⟨wanted_none rfl, ex_move rfl (at_eq v_5 (hI.at_ 5 23 _ i_5 rfl (hl_at hl 0 rfl rfl))), at_mk v_6 rfl⟩)
 have s_7 := MK41 i_7 (.agg #[.int .i64 y1.h, .string y1.prev, .slice y1.a y1.n y1.c]) (Q.refl ·) (fun l a w hI hl => ⟨wanted_of rfl i_6 rfl (lt_of hI hz rfl) (at_eq v_6 (hI.at_ 6 24 _ i_6 rfl (hl_at hl 0 rfl rfl))), ex_loado 64 rfl b3 0 [.int .i64 y1.h, .string y1.prev, .slice y1.a y1.n y1.c] _ ((hI.base 3 fr_3).trans b_3) ((S5.out.up hI.st).ba.box.rangeo 0 (r := []) rfl) Tryz.underlying64 rfl (by kernel_rfl), at_mk v_7 rfl⟩)
 have s_8 := Step.call (P := Tryz.prog) (V := VV) (T := Q) (S := (Q w5)) (a0 := A0) (Qx := QQ) (R := fun _ _ _ => True) i_8 (fun l a w hI hl => by
  refine ⟨wanted_of rfl i_6 rfl (lt_of hI hz rfl) (at_eq v_6 (hI.at_ 6 24 _ i_6 rfl (hl_at hl 1 rfl rfl))), 31, #[.agg #[.int .i64 y1.h, .string y1.prev, .slice y1.a y1.n y1.c]], ?_, ?_⟩
  · exact ex_call rfl (by simp only [List.map_toArray, List.map_cons, List.map_nil, ev_const, (show a.eval (.tmp 25) = _ from (at_eq v_7 (hI.at_ 7 25 _ i_7 rfl (hl_at hl 0 rfl rfl))))]) Tryz.func31 (by kernel_rfl) (by kernel_rfl)
  · exact (I1.out w (S5.out.up hI.st)).mono fun e w' hc => by
     obtain ⟨rfl, hq⟩ := hc
     exact ⟨_, rfl, hq, hI.st.trans hq, at_mk v_8 rfl⟩)
 have s_9 := MK41 i_9 (.agg #[.int .i64 y1.h, .string y1.prev, .slice y1.a y1.n y1.c]) (Q.refl ·) (fun l a w hI hl => ⟨wanted_of rfl i_6 rfl (lt_of hI hz rfl) (at_eq v_6 (hI.at_ 6 24 _ i_6 rfl (hl_at hl 0 rfl rfl))), ex_loado 64 rfl b3 0 [.int .i64 y1.h, .string y1.prev, .slice y1.a y1.n y1.c] _ ((hI.base 3 fr_3).trans b_3) ((S5.out.up hI.st).ba.box.rangeo 0 (r := []) rfl) Tryz.underlying64 rfl (by kernel_rfl), at_mk v_9 rfl⟩)
 have s_10 := MK42 i_10 (fun l a w hI hl => by
  refine ⟨wanted_of rfl i_6 rfl (lt_of hI hz rfl) (at_eq v_6 (hI.at_ 6 24 _ i_6 rfl (hl_at hl 2 rfl rfl))), ?_⟩
  refine wp_enter (f := 30) (args := #[.agg #[.int .i64 y1.h, .string y1.prev, .slice y1.a y1.n y1.c]]) ?_ ?_
  · exact ex_call rfl (by simp only [List.map_toArray, List.map_cons, List.map_nil, ev_const, (show a.eval (.tmp 27) = _ from (at_eq v_9 (hI.at_ 9 27 _ i_9 rfl (hl_at hl 0 rfl rfl))))]) Tryz.func30 (by kernel_rfl) (by kernel_rfl)
  · refine (RF1.out w (S5.out.up hI.st)).mono fun e w' hc => ?_
    obtain ⟨z, rfl, h1, h2, hq⟩ := hc
    exact ⟨_, rfl, hq, hI.st.trans hq, p_at v_10 ⟨z, rfl, h1, h2⟩⟩)
 have s_11 := MK42 i_11 (fun l a w hI hl => by
  obtain ⟨z, e23, h1, h2⟩ := at_p v_10 (hI.at_ 10 28 _ i_10 rfl (hl_at hl 0 rfl rfl))
  refine ⟨wanted_of rfl i_6 rfl (lt_of hI hz rfl) (at_eq v_6 (hI.at_ 6 24 _ i_6 rfl (hl_at hl 2 rfl rfl))), ?_⟩
  refine wp_enter (f := 32) (args := #[z.val]) ?_ ?_
  · exact ex_call rfl (by simp only [List.map_toArray, List.map_cons, List.map_nil, ev_const, (show a.eval (.tmp 28) = _ from e23)]) Tryz.func32 (by kernel_rfl) (by kernel_rfl)
  · refine (I2.out z w h1 h2).mono fun e w' hc => ?_
    obtain ⟨rfl, hq⟩ := hc
    exact ⟨_, rfl, hq, hI.st.trans hq, at_mk v_11 rfl⟩)
 have s_12 := MK41 i_12 (.bool true) (Q.refl ·) (fun l a w hI hl => ⟨wanted_of rfl i_6 rfl (lt_of hI hz rfl) (at_eq v_6 (hI.at_ 6 24 _ i_6 rfl (hl_at hl 2 rfl rfl))), ex_bin rfl (at_eq v_8 (hI.at_ 8 26 _ i_8 rfl (hl_at hl 0 rfl rfl))) (at_eq v_11 (hI.at_ 11 29 _ i_11 rfl (hl_at hl 1 rfl rfl))) (eqs_same _ _ _ _ _), at_mk v_12 rfl⟩)
 have s_13 := MK41 i_13 (.bool true) (Q.refl ·) (fun l a w hI hl => ⟨wanted_none rfl, ex_pick_t rfl (at_eq v_6 (hI.at_ 6 24 _ i_6 rfl (hl_at hl 0 rfl rfl))) (at_eq v_12 (hI.at_ 12 30 _ i_12 rfl (hl_at hl 1 rfl rfl))), at_mk v_13 rfl⟩)
 have s_14 := MK41 i_14 (.bool true) (Q.refl ·) (fun l a w hI hl => ⟨wanted_none rfl, ex_move rfl (at_eq v_13 (hI.at_ 13 31 _ i_13 rfl (hl_at hl 0 rfl rfl))), at_mk v_14 rfl⟩)
 have s_15 := MK41 i_15 (.agg #[.int .i64 y1.h, .string y1.prev, .slice y1.a y1.n y1.c]) (Q.refl ·) (fun l a w hI hl => ⟨wanted_of rfl i_14 rfl (lt_of hI hz rfl) (at_eq v_14 (hI.at_ 14 32 _ i_14 rfl (hl_at hl 0 rfl rfl))), ex_loado 64 rfl b3 0 [.int .i64 y1.h, .string y1.prev, .slice y1.a y1.n y1.c] _ ((hI.base 3 fr_3).trans b_3) ((S5.out.up hI.st).ba.box.rangeo 0 (r := []) rfl) Tryz.underlying64 rfl (by kernel_rfl), at_mk v_15 rfl⟩)
 have s_16 := Step.call (P := Tryz.prog) (V := VV) (T := Q) (S := (Q w5)) (a0 := A0) (Qx := QQ) (R := fun _ _ _ => True) i_16 (fun l a w hI hl => by
  refine ⟨wanted_of rfl i_14 rfl (lt_of hI hz rfl) (at_eq v_14 (hI.at_ 14 32 _ i_14 rfl (hl_at hl 1 rfl rfl))), 33, #[.agg #[.int .i64 y1.h, .string y1.prev, .slice y1.a y1.n y1.c]], ?_, ?_⟩
  · exact ex_call rfl (by simp only [List.map_toArray, List.map_cons, List.map_nil, ev_const, (show a.eval (.tmp 33) = _ from (at_eq v_15 (hI.at_ 15 33 _ i_15 rfl (hl_at hl 0 rfl rfl))))]) Tryz.func33 (by kernel_rfl) (by kernel_rfl)
  · exact (E1.out w (S5.out.up hI.st)).mono fun e w' hc => by
     obtain ⟨rfl, hq⟩ := hc
     exact ⟨_, rfl, hq, hI.st.trans hq, at_mk v_16 rfl⟩)
 have s_17 := MK41 i_17 (.agg #[.int .i64 y1.h, .string y1.prev, .slice y1.a y1.n y1.c]) (Q.refl ·) (fun l a w hI hl => ⟨wanted_of rfl i_14 rfl (lt_of hI hz rfl) (at_eq v_14 (hI.at_ 14 32 _ i_14 rfl (hl_at hl 0 rfl rfl))), ex_loado 64 rfl b3 0 [.int .i64 y1.h, .string y1.prev, .slice y1.a y1.n y1.c] _ ((hI.base 3 fr_3).trans b_3) ((S5.out.up hI.st).ba.box.rangeo 0 (r := []) rfl) Tryz.underlying64 rfl (by kernel_rfl), at_mk v_17 rfl⟩)
 have s_18 := MK42 i_18 (fun l a w hI hl => by
  refine ⟨wanted_of rfl i_14 rfl (lt_of hI hz rfl) (at_eq v_14 (hI.at_ 14 32 _ i_14 rfl (hl_at hl 2 rfl rfl))), ?_⟩
  refine wp_enter (f := 30) (args := #[.agg #[.int .i64 y1.h, .string y1.prev, .slice y1.a y1.n y1.c]]) ?_ ?_
  · exact ex_call rfl (by simp only [List.map_toArray, List.map_cons, List.map_nil, ev_const, (show a.eval (.tmp 35) = _ from (at_eq v_17 (hI.at_ 17 35 _ i_17 rfl (hl_at hl 0 rfl rfl))))]) Tryz.func30 (by kernel_rfl) (by kernel_rfl)
  · refine (RF1.out w (S5.out.up hI.st)).mono fun e w' hc => ?_
    obtain ⟨z, rfl, h1, h2, hq⟩ := hc
    exact ⟨_, rfl, hq, hI.st.trans hq, p_at v_18 ⟨z, rfl, h1, h2⟩⟩)
 have s_19 := MK42 i_19 (fun l a w hI hl => by
  obtain ⟨z, e23, h1, h2⟩ := at_p v_18 (hI.at_ 18 36 _ i_18 rfl (hl_at hl 0 rfl rfl))
  refine ⟨wanted_of rfl i_14 rfl (lt_of hI hz rfl) (at_eq v_14 (hI.at_ 14 32 _ i_14 rfl (hl_at hl 2 rfl rfl))), ?_⟩
  refine wp_enter (f := 34) (args := #[z.val]) ?_ ?_
  · exact ex_call rfl (by simp only [List.map_toArray, List.map_cons, List.map_nil, ev_const, (show a.eval (.tmp 36) = _ from e23)]) Tryz.func34 (by kernel_rfl) (by kernel_rfl)
  · refine (E2.out z w h1 h2).mono fun e w' hc => ?_
    obtain ⟨rfl, hq⟩ := hc
    exact ⟨_, rfl, hq, hI.st.trans hq, at_mk v_19 rfl⟩)
 have s_20 := MK41 i_20 (.bool true) (Q.refl ·) (fun l a w hI hl => ⟨wanted_of rfl i_14 rfl (lt_of hI hz rfl) (at_eq v_14 (hI.at_ 14 32 _ i_14 rfl (hl_at hl 2 rfl rfl))), ex_bin rfl (at_eq v_16 (hI.at_ 16 34 _ i_16 rfl (hl_at hl 0 rfl rfl))) (at_eq v_19 (hI.at_ 19 37 _ i_19 rfl (hl_at hl 1 rfl rfl))) (eqs_same _ _ _ _ _), at_mk v_20 rfl⟩)
 have s_21 := MK41 i_21 (.bool true) (Q.refl ·) (fun l a w hI hl => ⟨wanted_none rfl, ex_pick_t rfl (at_eq v_14 (hI.at_ 14 32 _ i_14 rfl (hl_at hl 0 rfl rfl))) (at_eq v_20 (hI.at_ 20 38 _ i_20 rfl (hl_at hl 1 rfl rfl))), at_mk v_21 rfl⟩)
 have s_22 := MK41 i_22 (.bool true) (Q.refl ·) (fun l a w hI hl => ⟨wanted_none rfl, ex_move rfl (at_eq v_21 (hI.at_ 21 39 _ i_21 rfl (hl_at hl 0 rfl rfl))), at_mk v_22 rfl⟩)
 have s_23 := MK41 i_23 (.agg #[.int .i64 y1.h, .string y1.prev, .slice y1.a y1.n y1.c]) (Q.refl ·) (fun l a w hI hl => ⟨wanted_of rfl i_22 rfl (lt_of hI hz rfl) (at_eq v_22 (hI.at_ 22 40 _ i_22 rfl (hl_at hl 0 rfl rfl))), ex_loado 64 rfl b3 0 [.int .i64 y1.h, .string y1.prev, .slice y1.a y1.n y1.c] _ ((hI.base 3 fr_3).trans b_3) ((S5.out.up hI.st).ba.box.rangeo 0 (r := []) rfl) Tryz.underlying64 rfl (by kernel_rfl), at_mk v_23 rfl⟩)
 have s_24 := MK41 i_24 (.agg #[.int .i64 y2.h, .string y2.prev, .slice y2.a y2.n y2.c]) (Q.refl ·) (fun l a w hI hl => ⟨wanted_of rfl i_22 rfl (lt_of hI hz rfl) (at_eq v_22 (hI.at_ 22 40 _ i_22 rfl (hl_at hl 0 rfl rfl))), ex_loado 64 rfl b4 0 [.int .i64 y2.h, .string y2.prev, .slice y2.a y2.n y2.c] _ ((hI.base 4 fr_4).trans b_4) ((S5.out.up hI.st).bb.box.rangeo 0 (r := []) rfl) Tryz.underlying64 rfl (by kernel_rfl), at_mk v_24 rfl⟩)
 have s_25 := Step.call (P := Tryz.prog) (V := VV) (T := Q) (S := (Q w5)) (a0 := A0) (Qx := QQ) (R := fun _ _ _ => True) i_25 (fun l a w hI hl => by
  refine ⟨wanted_of rfl i_22 rfl (lt_of hI hz rfl) (at_eq v_22 (hI.at_ 22 40 _ i_22 rfl (hl_at hl 2 rfl rfl))), 35, #[.agg #[.int .i64 y1.h, .string y1.prev, .slice y1.a y1.n y1.c], .agg #[.int .i64 y2.h, .string y2.prev, .slice y2.a y2.n y2.c]], ?_, ?_⟩
  · exact ex_call rfl (by simp only [List.map_toArray, List.map_cons, List.map_nil, ev_const, (show a.eval (.tmp 41) = _ from (at_eq v_23 (hI.at_ 23 41 _ i_23 rfl (hl_at hl 0 rfl rfl)))), (show a.eval (.tmp 42) = _ from (at_eq v_24 (hI.at_ 24 42 _ i_24 rfl (hl_at hl 1 rfl rfl))))]) Tryz.func35 (by kernel_rfl) (by kernel_rfl)
  · exact (M1.out w (S5.out.up hI.st)).mono fun e w' hc => by
     obtain ⟨rfl, hq⟩ := hc
     exact ⟨_, rfl, hq, hI.st.trans hq, at_mk v_25 rfl⟩)
 have s_26 := MK41 i_26 (.agg #[.int .i64 y1.h, .string y1.prev, .slice y1.a y1.n y1.c]) (Q.refl ·) (fun l a w hI hl => ⟨wanted_of rfl i_22 rfl (lt_of hI hz rfl) (at_eq v_22 (hI.at_ 22 40 _ i_22 rfl (hl_at hl 0 rfl rfl))), ex_loado 64 rfl b3 0 [.int .i64 y1.h, .string y1.prev, .slice y1.a y1.n y1.c] _ ((hI.base 3 fr_3).trans b_3) ((S5.out.up hI.st).ba.box.rangeo 0 (r := []) rfl) Tryz.underlying64 rfl (by kernel_rfl), at_mk v_26 rfl⟩)
 have s_27 := MK42 i_27 (fun l a w hI hl => by
  refine ⟨wanted_of rfl i_22 rfl (lt_of hI hz rfl) (at_eq v_22 (hI.at_ 22 40 _ i_22 rfl (hl_at hl 2 rfl rfl))), ?_⟩
  refine wp_enter (f := 30) (args := #[.agg #[.int .i64 y1.h, .string y1.prev, .slice y1.a y1.n y1.c]]) ?_ ?_
  · exact ex_call rfl (by simp only [List.map_toArray, List.map_cons, List.map_nil, ev_const, (show a.eval (.tmp 44) = _ from (at_eq v_26 (hI.at_ 26 44 _ i_26 rfl (hl_at hl 0 rfl rfl))))]) Tryz.func30 (by kernel_rfl) (by kernel_rfl)
  · refine (RF1.out w (S5.out.up hI.st)).mono fun e w' hc => ?_
    obtain ⟨z, rfl, h1, h2, hq⟩ := hc
    exact ⟨_, rfl, hq, hI.st.trans hq, p_at v_27 ⟨z, rfl, h1, h2⟩⟩)
 have s_28 := MK41 i_28 (.agg #[.int .i64 y2.h, .string y2.prev, .slice y2.a y2.n y2.c]) (Q.refl ·) (fun l a w hI hl => ⟨wanted_of rfl i_22 rfl (lt_of hI hz rfl) (at_eq v_22 (hI.at_ 22 40 _ i_22 rfl (hl_at hl 0 rfl rfl))), ex_loado 64 rfl b4 0 [.int .i64 y2.h, .string y2.prev, .slice y2.a y2.n y2.c] _ ((hI.base 4 fr_4).trans b_4) ((S5.out.up hI.st).bb.box.rangeo 0 (r := []) rfl) Tryz.underlying64 rfl (by kernel_rfl), at_mk v_28 rfl⟩)
 have s_29 := MK42 i_29 (fun l a w hI hl => by
  refine ⟨wanted_of rfl i_22 rfl (lt_of hI hz rfl) (at_eq v_22 (hI.at_ 22 40 _ i_22 rfl (hl_at hl 2 rfl rfl))), ?_⟩
  refine wp_enter (f := 30) (args := #[.agg #[.int .i64 y2.h, .string y2.prev, .slice y2.a y2.n y2.c]]) ?_ ?_
  · exact ex_call rfl (by simp only [List.map_toArray, List.map_cons, List.map_nil, ev_const, (show a.eval (.tmp 46) = _ from (at_eq v_28 (hI.at_ 28 46 _ i_28 rfl (hl_at hl 0 rfl rfl))))]) Tryz.func30 (by kernel_rfl) (by kernel_rfl)
  · refine (RF2.out w (S5.out.up hI.st)).mono fun e w' hc => ?_
    obtain ⟨z, rfl, h1, h2, hq⟩ := hc
    exact ⟨_, rfl, hq, hI.st.trans hq, p_at v_29 ⟨z, rfl, h1, h2⟩⟩)
 have s_30 := MK42 i_30 (fun l a w hI hl => by
  obtain ⟨z, e23, h1, h2⟩ := at_p v_27 (hI.at_ 27 45 _ i_27 rfl (hl_at hl 0 rfl rfl))
  obtain ⟨z', e24, h3, h4⟩ := at_p v_29 (hI.at_ 29 47 _ i_29 rfl (hl_at hl 1 rfl rfl))
  refine ⟨wanted_of rfl i_22 rfl (lt_of hI hz rfl) (at_eq v_22 (hI.at_ 22 40 _ i_22 rfl (hl_at hl 3 rfl rfl))), ?_⟩
  refine wp_enter (f := 36) (args := #[z.val, z'.val]) ?_ ?_
  · exact ex_call rfl (by simp only [List.map_toArray, List.map_cons, List.map_nil, ev_const, (show a.eval (.tmp 45) = _ from e23), (show a.eval (.tmp 47) = _ from e24)]) Tryz.func36 (by kernel_rfl) (by kernel_rfl)
  · refine (M2.out z z' w h1 h2 h3 h4).mono fun e w' hc => ?_
    obtain ⟨rfl, hq⟩ := hc
    exact ⟨_, rfl, hq, hI.st.trans hq, at_mk v_30 rfl⟩)
 have s_31 := MK41 i_31 (.bool true) (Q.refl ·) (fun l a w hI hl => ⟨wanted_of rfl i_22 rfl (lt_of hI hz rfl) (at_eq v_22 (hI.at_ 22 40 _ i_22 rfl (hl_at hl 2 rfl rfl))), ex_bin rfl (at_eq v_25 (hI.at_ 25 43 _ i_25 rfl (hl_at hl 0 rfl rfl))) (at_eq v_30 (hI.at_ 30 48 _ i_30 rfl (hl_at hl 1 rfl rfl))) (eqb_samek _ _ _ _), at_mk v_31 rfl⟩)
 have s_32 := MK41 i_32 (.bool true) (Q.refl ·) (fun l a w hI hl => ⟨wanted_none rfl, ex_pick_t rfl (at_eq v_22 (hI.at_ 22 40 _ i_22 rfl (hl_at hl 0 rfl rfl))) (at_eq v_31 (hI.at_ 31 49 _ i_31 rfl (hl_at hl 1 rfl rfl))), at_mk v_32 rfl⟩)
 have s_33 := MK41 i_33 (.bool true) (Q.refl ·) (fun l a w hI hl => ⟨wanted_none rfl, ex_move rfl (at_eq v_32 (hI.at_ 32 50 _ i_32 rfl (hl_at hl 0 rfl rfl))), at_mk v_33 rfl⟩)
 have s_34 := MK41 i_34 (.slice (some ⟨g1, 0, none⟩) n c1) (Q.refl ·) (fun l a w hI hl => ⟨wanted_of rfl i_33 rfl (lt_of hI hz rfl) (at_eq v_33 (hI.at_ 33 51 _ i_33 rfl (hl_at hl 0 rfl rfl))), ex_move rfl ((hI.base 7 fr_7).trans b_7), at_mk v_34 rfl⟩)
 have s_35 := Step.call (P := Tryz.prog) (V := VV) (T := Q) (S := (Q w5)) (a0 := A0) (Qx := QQ) (R := fun _ _ _ => True) i_35 (fun l a w hI hl => by
  refine ⟨wanted_of rfl i_33 rfl (lt_of hI hz rfl) (at_eq v_33 (hI.at_ 33 51 _ i_33 rfl (hl_at hl 1 rfl rfl))), 37, #[.slice (some ⟨g1, 0, none⟩) n c1], ?_, ?_⟩
  · exact ex_call rfl (by simp only [List.map_toArray, List.map_cons, List.map_nil, ev_const, (show a.eval (.tmp 52) = _ from (at_eq v_34 (hI.at_ 34 52 _ i_34 rfl (hl_at hl 0 rfl rfl))))]) Tryz.func37 (by kernel_rfl) (by kernel_rfl)
  · exact (P1.out w (S5.out.up hI.st)).mono fun e w' hc => by
     obtain ⟨rfl, hq⟩ := hc
     exact ⟨_, rfl, hq, hI.st.trans hq, at_mk v_35 rfl⟩)
 have s_36 := MK41 i_36 (.slice (some ⟨g2, 0, none⟩) n c2) (Q.refl ·) (fun l a w hI hl => ⟨wanted_of rfl i_33 rfl (lt_of hI hz rfl) (at_eq v_33 (hI.at_ 33 51 _ i_33 rfl (hl_at hl 0 rfl rfl))), ex_move rfl ((hI.base 8 fr_8).trans b_8), at_mk v_36 rfl⟩)
 have s_37 := Step.call (P := Tryz.prog) (V := VV) (T := Q) (S := (Q w5)) (a0 := A0) (Qx := QQ) (R := fun _ _ _ => True) i_37 (fun l a w hI hl => by
  refine ⟨wanted_of rfl i_33 rfl (lt_of hI hz rfl) (at_eq v_33 (hI.at_ 33 51 _ i_33 rfl (hl_at hl 2 rfl rfl))), 38, #[.slice (some ⟨g2, 0, none⟩) n c2], ?_, ?_⟩
  · exact ex_call rfl (by simp only [List.map_toArray, List.map_cons, List.map_nil, ev_const, (show a.eval (.tmp 54) = _ from (at_eq v_36 (hI.at_ 36 54 _ i_36 rfl (hl_at hl 0 rfl rfl))))]) Tryz.func38 (by kernel_rfl) (by kernel_rfl)
  · exact (P2.out w (S5.out.up hI.st)).mono fun e w' hc => by
     obtain ⟨rfl, hq⟩ := hc
     exact ⟨_, rfl, hq, hI.st.trans hq, at_mk v_37 rfl⟩)
 have s_38 := MK41 i_38 (.bool true) (Q.refl ·) (fun l a w hI hl => ⟨wanted_of rfl i_33 rfl (lt_of hI hz rfl) (at_eq v_33 (hI.at_ 33 51 _ i_33 rfl (hl_at hl 2 rfl rfl))), ex_bin rfl (at_eq v_35 (hI.at_ 35 53 _ i_35 rfl (hl_at hl 0 rfl rfl))) (at_eq v_37 (hI.at_ 37 55 _ i_37 rfl (hl_at hl 1 rfl rfl))) (eqs_same _ _ _ _ _), at_mk v_38 rfl⟩)
 have s_39 := MK41 i_39 (.bool true) (Q.refl ·) (fun l a w hI hl => ⟨wanted_none rfl, ex_pick_t rfl (at_eq v_33 (hI.at_ 33 51 _ i_33 rfl (hl_at hl 0 rfl rfl))) (at_eq v_38 (hI.at_ 38 56 _ i_38 rfl (hl_at hl 1 rfl rfl))), at_mk v_39 rfl⟩)
 have s_40 := MK41 i_40 (.bool true) (Q.refl ·) (fun l a w hI hl => ⟨wanted_none rfl, ex_move rfl (at_eq v_39 (hI.at_ 39 57 _ i_39 rfl (hl_at hl 0 rfl rfl))), at_mk v_40 rfl⟩)
 have s_41 := MK41 i_41 (.slice (some ⟨g1, 0, none⟩) n c1) (Q.refl ·) (fun l a w hI hl => ⟨wanted_of rfl i_40 rfl (lt_of hI hz rfl) (at_eq v_40 (hI.at_ 40 58 _ i_40 rfl (hl_at hl 0 rfl rfl))), ex_move rfl ((hI.base 7 fr_7).trans b_7), at_mk v_41 rfl⟩)
 have s_42 := Step.call (P := Tryz.prog) (V := VV) (T := Q) (S := (Q w5)) (a0 := A0) (Qx := QQ) (R := fun _ _ _ => True) i_42 (fun l a w hI hl => by
  refine ⟨wanted_of rfl i_40 rfl (lt_of hI hz rfl) (at_eq v_40 (hI.at_ 40 58 _ i_40 rfl (hl_at hl 1 rfl rfl))), 39, #[.slice (some ⟨g1, 0, none⟩) n c1, .int .i64 2], ?_, ?_⟩
  · exact ex_call rfl (by simp only [List.map_toArray, List.map_cons, List.map_nil, ev_const, (show a.eval (.tmp 59) = _ from (at_eq v_41 (hI.at_ 41 59 _ i_41 rfl (hl_at hl 0 rfl rfl))))]) Tryz.func39 (by kernel_rfl) (by kernel_rfl)
  · exact (G1.out w (S5.out.up hI.st)).mono fun e w' hc => by
     obtain ⟨rfl, hq⟩ := hc
     exact ⟨_, rfl, hq, hI.st.trans hq, at_mk v_42 rfl⟩)
 have s_43 := MK41 i_43 (.slice (some ⟨g2, 0, none⟩) n c2) (Q.refl ·) (fun l a w hI hl => ⟨wanted_of rfl i_40 rfl (lt_of hI hz rfl) (at_eq v_40 (hI.at_ 40 58 _ i_40 rfl (hl_at hl 0 rfl rfl))), ex_move rfl ((hI.base 8 fr_8).trans b_8), at_mk v_43 rfl⟩)
 have s_44 := Step.call (P := Tryz.prog) (V := VV) (T := Q) (S := (Q w5)) (a0 := A0) (Qx := QQ) (R := fun _ _ _ => True) i_44 (fun l a w hI hl => by
  refine ⟨wanted_of rfl i_40 rfl (lt_of hI hz rfl) (at_eq v_40 (hI.at_ 40 58 _ i_40 rfl (hl_at hl 2 rfl rfl))), 38, #[.slice (some ⟨g2, 0, none⟩) n c2], ?_, ?_⟩
  · exact ex_call rfl (by simp only [List.map_toArray, List.map_cons, List.map_nil, ev_const, (show a.eval (.tmp 61) = _ from (at_eq v_43 (hI.at_ 43 61 _ i_43 rfl (hl_at hl 0 rfl rfl))))]) Tryz.func38 (by kernel_rfl) (by kernel_rfl)
  · exact (P2.out w (S5.out.up hI.st)).mono fun e w' hc => by
     obtain ⟨rfl, hq⟩ := hc
     exact ⟨_, rfl, hq, hI.st.trans hq, at_mk v_44 rfl⟩)
 have s_45 := MK41 i_45 (.agg #[.string ff, .int .i64 2]) (Q.refl ·) (fun l a w hI hl => ⟨wanted_of rfl i_40 rfl (lt_of hI hz rfl) (at_eq v_40 (hI.at_ 40 58 _ i_40 rfl (hl_at hl 1 rfl rfl))), ex_build rfl (by simp only [List.map_toArray, List.map_cons, List.map_nil, ev_const, (show a.eval (.tmp 62) = _ from (at_eq v_44 (hI.at_ 44 62 _ i_44 rfl (hl_at hl 0 rfl rfl))))]; exact built_fp2 ff), at_mk v_45 rfl⟩)
 have s_46 := MK41 i_46 (.bool true) (Q.refl ·) (fun l a w hI hl => ⟨wanted_of rfl i_40 rfl (lt_of hI hz rfl) (at_eq v_40 (hI.at_ 40 58 _ i_40 rfl (hl_at hl 2 rfl rfl))), ex_bin rfl (at_eq v_42 (hI.at_ 42 60 _ i_42 rfl (hl_at hl 0 rfl rfl))) (at_eq v_45 (hI.at_ 45 63 _ i_45 rfl (hl_at hl 1 rfl rfl))) (eqp_same _ _ _ _ _), at_mk v_46 rfl⟩)
 have s_47 := MK41 i_47 (.bool true) (Q.refl ·) (fun l a w hI hl => ⟨wanted_none rfl, ex_pick_t rfl (at_eq v_40 (hI.at_ 40 58 _ i_40 rfl (hl_at hl 0 rfl rfl))) (at_eq v_46 (hI.at_ 46 64 _ i_46 rfl (hl_at hl 1 rfl rfl))), at_mk v_47 rfl⟩)
 have s_48 := MK41 i_48 (.bool true) (Q.refl ·) (fun l a w hI hl => ⟨wanted_none rfl, ex_move rfl (at_eq v_47 (hI.at_ 47 65 _ i_47 rfl (hl_at hl 0 rfl rfl))), at_mk v_48 rfl⟩)
 have s_49 := Step.call (P := Tryz.prog) (V := VV) (T := Q) (S := (Q w5)) (a0 := A0) (Qx := QQ) (R := fun _ _ _ => True) i_49 (fun l a w hI hl => by
  refine ⟨wanted_of rfl i_48 rfl (lt_of hI hz rfl) (at_eq v_48 (hI.at_ 48 66 _ i_48 rfl (hl_at hl 0 rfl rfl))), 40, #[], ?_, ?_⟩
  · exact ex_call rfl (by simp only [List.map_toArray, List.map_cons, List.map_nil, ev_const]) Tryz.func40 (by kernel_rfl) (by kernel_rfl)
  · exact (FX.out w (S5.out.up hI.st)).mono fun e w' hc => by
     obtain ⟨rfl, hq⟩ := hc
     exact ⟨_, rfl, hq, hI.st.trans hq, at_mk v_49 rfl⟩)
 have s_50 := MK41 i_50 (.bool true) (Q.refl ·) (fun l a w hI hl => ⟨wanted_none rfl, ex_pick_t rfl (at_eq v_48 (hI.at_ 48 66 _ i_48 rfl (hl_at hl 0 rfl rfl))) (at_eq v_49 (hI.at_ 49 67 _ i_49 rfl (hl_at hl 1 rfl rfl))), at_mk v_50 rfl⟩)
 have s_51 := MK41 i_51 (.bool true) (Q.refl ·) (fun l a w hI hl => ⟨wanted_none rfl, ex_assign rfl (at_eq v_50 (hI.at_ 50 68 _ i_50 rfl (hl_at hl 0 rfl rfl))), at_mk v_51 rfl⟩)
 refine wp_plan VV Q (Q w5) (by kernel_rfl) hs hV hS0 (steps_all hO ((sf_cons s_0 (sf_cons s_1 (sf_cons s_2 (sf_cons s_3 (sf_cons s_4 (sf_cons s_5 (sf_cons s_6 (sf_cons s_7 (sf_cons s_8 (sf_cons s_9 (sf_cons s_10 (sf_cons s_11 (sf_cons s_12 (sf_cons s_13 (sf_cons s_14 (sf_cons s_15 (sf_cons s_16 (sf_cons s_17 (sf_cons s_18 (sf_cons s_19 (sf_cons s_20 (sf_cons s_21 (sf_cons s_22 (sf_cons s_23 (sf_cons s_24 (sf_cons s_25 (sf_cons s_26 (sf_cons s_27 (sf_cons s_28 (sf_cons s_29 (sf_cons s_30 (sf_cons s_31 (sf_cons s_32 (sf_cons s_33 (sf_cons s_34 (sf_cons s_35 (sf_cons s_36 (sf_cons s_37 (sf_cons s_38 (sf_cons s_39 (sf_cons s_40 (sf_cons s_41 (sf_cons s_42 (sf_cons s_43 (sf_cons s_44 (sf_cons s_45 (sf_cons s_46 (sf_cons s_47 (sf_cons s_48 (sf_cons s_49 (sf_cons s_50 (sf_cons s_51 trivial)))))))))))))))))))))))))))))))))))))))))))))))))))))) ?_
 intro l a' w' hall hIv
 have e0 : a'.eval (.tmp 6) = .bool true := at_eq v_51 (hIv.at_ 51 6 _ i_51 rfl (hall 51 (by rw [hO]; decide)))
 have hd : a'.defers = [] := by (rw [hIv.df, hA]; try rfl)
 have hst := S5.out.q.trans hIv.st
 rw [hQQ]
 clear hIv hall
 go_wp2_with fail
 (try simp only [Exit.inBlock, Exit.then])
 refine bodyPost_ret (results_tmp rfl _ _ _) hd ?_
 exact ⟨congrArg Ending.returned e0, hst⟩
end Go.Proofs.YtobfgljkckcmcaaGreatDoor.Coi
