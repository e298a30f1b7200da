import Derived.Test.YtobfgljkckcmcaaGreatDoorYJDecI
import Derived.Test.YtobfgljkckcmcaaGreatDoorYJDecB
import Derived.Test.YtobfgljkckcmcaaGreatDoorYJBloA
set_option maxRecDepth 100000
namespace Go.Proofs.YtobfgljkckcmcaaGreatDoor.Coi
open Go.RowKit
open Mem Num Cod Sh Plan
set_option linter.unusedVariables false
set_option linter.unusedSimpArgs false
theorem enc_valk {R : Prop} {T : ByteArray} {w w' : World} {e : Ending} (hR : R) (h : Enc R T w e w') : e = .returned (.string T) ∧ Q w w' := by
 obtain ⟨s, rfl, h1 | h1, q⟩ := h
 · rw [h1.2]; exact ⟨rfl, q⟩
 · exact absurd hR h1.1
theorem dtri_at (word a b c x : ByteArray) (hx : tagS word (tri a b c) 3 = x) (T : TypeId) (wB w : World) (qb : Q (wB.alloc (.cells #[.string a, .string b, .string c] T)) w) (hw : word.size ≤ 1000000) (ha : a.size ≤ 1000000) (hb : b.size ≤ 1000000) (hc : c.size ≤ 1000000) :
 Calls Tryz.prog 72 #[.string word, .slice (some ⟨wB.heap.size, 0, none⟩) 3 3] w fun e w' => e = .returned (.string x) ∧ Q w w' := by
 subst hx
 have hlt : wB.heap.size < w.heap.size := by have := qb.size; simp at this; omega
 exact rtag_any word wB.heap.size 0 3 3 (tri a b c) w (Q.refl w) ((row3 wB a b c T).q qb (by simp)) (fun _ => hlt) hw (by omega) (tri_size a b c _ ha hb hc)
set_option maxHeartbeats 40000000 in
theorem d10id_x (z : BKI) (w0 : World) (htl : z.tl w0) (hk : z.ok) : Calls Tryz.prog 32 #[z.val] w0 (Enc (RightB z) (bidS z) w0) := by
 have HR : Hid (∀ o, Calls Tryz.prog 29 #[z.val] (w0.alloc o) (Tells (RightB z) (w0.alloc o))) := fun o => d10right_x z _ (htl.q ((Q.refl w0).alloc o)) hk
 have HT := Lib.hid htl
 have HK := Lib.hid hk
 clear htl hk
 obtain ⟨hh, pv, nn, gg, aa, cc⟩ := z
 dsimp only [BKI.val] at HR ⊢
 have HT : Hid (TL w0 aa nn gg) := HT
 go_enter Tryz.func32, Tryz.ntmps32
 go_wp2_with (with_reducible (show wpList _ _ _ (⟨_, Op.load 72 (.tmp 1), _, _, _, _⟩ :: _) _ _); refine halt ?_)
 have QA : Hid (Q w0 (w0.alloc (.cells #[.int .i64 hh, .string pv, .slice aa nn cc] 72))) := (Q.refl w0).alloc _
 have B1 : Hid (Box (w0.alloc (.cells #[.int .i64 hh, .string pv, .slice aa nn cc] 72)) w0.heap.size [.int .i64 hh, .string pv, .slice aa nn cc]) := Box.new w0 [.int .i64 hh, .string pv, .slice aa nn cc] 72
 have HR := Lib.hid (HR.out (.cells #[.int .i64 hh, .string pv, .slice aa nn cc] 72))
 generalize w0.alloc (.cells #[.int .i64 hh, .string pv, .slice aa nn cc] 72) = wA at *
 obtain ⟨b1, hb1⟩ : ∃ b, w0.heap.size = b := ⟨_, rfl⟩
 rw [hb1] at B1 ⊢
 refine Lib.hid (ld_box rfl 72 _ rfl b1 _ rfl B1.out Tryz.underlying72 rfl (by kernel_rfl) ?_)
 go_wp2_with fail
 refine HR.out.mono ?_
 rintro e w1 ⟨b, rfl, hz, q1⟩
 have B2 := Lib.hid (B1.out.q q1)
 have Q1 := Lib.hid (QA.out.trans q1)
 have lb : b1 < w1.heap.size := B2.out.lt
 clear B1 QA q1 HR
 rcases two hz with ⟨rfl, Z⟩ | ⟨rfl, Z⟩
 rotate_left
 · have Z1 := Lib.hid Z
   clear Z hz
   go_wp2_with fail
   go_ret
   exact Enc.no Z1.out Q1.out
 have Z1 := Lib.hid Z
 obtain ⟨r1, r2, r3, r4, r5⟩ := Z
 dsimp only at r1 r2 r3 r4 r5
 have R5 := Lib.hid r5
 clear hz r5
 have zcn : ∀ k, k ≤ nn → (catN (fun i => idS (gg i).t) k).size ≤ 1000 := fun k hk => by
  have := catN_size (fun i => idS (gg i).t) 16 k (fun i _ => Nat.le_of_eq (idS_size _))
  omega
 have ZCN := Lib.hid zcn
 clear zcn
 as_aux_lemma =>
 go_wp2_with fail
 go_loopw [3, 4] (fun v i wr => ∃ k : Nat, k ≤ nn ∧ i = .int .i64 k ∧ v = .string (catN (fun i => idS (gg i).t) k) ∧ Hid (Q w1 wr)) (fun _ i _ => nn - (intOf i).toNat)
 case atStart => exact ⟨0, by omega, rfl, rfl, Lib.hid (Q.refl w1)⟩
 case round =>
 obtain ⟨k, hk, rfl, rfl, QR⟩ := hrel
 have k0 : (0 : Int) ≤ (k : Int) := by omega
 have m2 := (B2.out.q QR.out).at_ 2 _ rfl
 have nn8 : nn ≤ 8 := r4
 by_cases hlt : k < nn
 · have k1 : (k : Int) < (nn : Int) := by omega
   obtain ⟨sc, hsc⟩ : ∃ s, catN (fun i => idS (gg i).t) k = s := ⟨_, rfl⟩
   have zsc : sc.size ≤ 1000 := by rw [← hsc]; exact ZCN.out k hk
   have HSC := Lib.hid hsc
   rw [hsc]
   clear hsc
   obtain ⟨b, off, rfl, hrow⟩ := (HT.out.q (Q1.out.trans QR.out)).l.some_ (by omega)
   have hrow := hrow k hlt
   have ZM := Lib.hid ((HT.out.q (Q1.out.trans QR.out)).m k hlt)
   have ZK := Lib.hid (HT.out.k k hlt)
   have ZR := Lib.hid (R5.out k hlt)
   obtain ⟨x, hx⟩ : ∃ x, gg k = x := ⟨_, rfl⟩
   have HX := Lib.hid hx
   rw [hx] at hrow ZM ZK ZR
   clear hx
   go_wp2_with (with_reducible (show wpList _ _ _ (⟨_, Op.load 43 _, _, _, _, _⟩ :: _) _ _); refine halt ?_)
   refine Lib.hid (ld_row rfl 43 _ rfl b (off + k * 6) [.slice x.aI x.t.nI x.cI, .slice x.aO x.t.nO x.cO, .int .u64 x.t.p.amount, .string x.t.p.sig, .string x.t.p.token, .slice x.aW x.t.p.n x.cW] rfl (fun j v hv => hrow j v hv) Tryz.underlying43 rfl (by kernel_rfl) ?_)
   clear hrow m2
   go_wp2_with fail
   refine (d9id_x x.t x.aI x.cI x.aO x.cO x.aW x.cW _ ZM.out.i ZM.out.o ZM.out.w ZK.out).mono ?_
   intro e w3 he
   obtain ⟨rfl, q3⟩ := enc_valk ZR.out he
   have Q3 := Lib.hid (QR.out.trans q3)
   obtain ⟨id, hid⟩ : ∃ s, idS x.t = s := ⟨_, rfl⟩
   have zid : id.size = 16 := by rw [← hid]; exact idS_size _
   have HID := Lib.hid hid
   rw [hid]
   clear he q3 QR hid
   go_wp2_with fail
   go_roundw
   case rel => exact ⟨k + 1, by omega, by go_num, by rw [← HSC.out, ← HID.out, ← HX.out]; rfl, Q3⟩
   case measure => simp [intOf]; omega
 · obtain rfl : k = nn := by omega
   have k1 : ¬ (k : Int) < (k : Int) := by omega
   have td : decide (k < k) = false := by simp
   as_aux_lemma =>
   go_wp2_with fail
   clear m2 k0 k1 td hlt hk
   have HU : U64 hh := ⟨by omega, by omega⟩
   obtain ⟨p8, hp⟩ : ∃ s, putS hh = s := ⟨_, rfl⟩
   obtain ⟨cn, hcn⟩ : ∃ s, catN (fun i => idS (gg i).t) k = s := ⟨_, rfl⟩
   obtain ⟨ii, hii⟩ : ∃ s, bidS ⟨hh, pv, k, gg, aa, cc⟩ = s := ⟨_, rfl⟩
   have HI : Hid (tagS wBlock (tri p8 pv cn) 3 = ii) := by show _ = _; rw [← hii, ← hp, ← hcn]; rfl
   have HII := Lib.hid hii
   have z8 : p8.size ≤ 1000000 := by rw [← hp, putS_size]; decide
   have zp : pv.size ≤ 1000000 := by omega
   have zc : cn.size ≤ 1000000 := by rw [← hcn]; exact Nat.le_trans (ZCN.out k (Nat.le_refl _)) (by decide)
   have HWR : Hid (IntKind.u64.wrap hh = hh) := by show _ = _; rw [IntKind.wrap_u64]; omega
   have PUT : Hid (∀ w, Calls Tryz.prog 83 #[.int .u64 hh] w fun e w' => e = .returned (.string p8) ∧ Q w w') := fun w => by rw [← hp]; exact rput_q _ w (Q.refl w) HU.1 HU.2
   rw [hcn]
   clear hp hcn hii r1 r2 r3 r4 R5 HU ZCN nn8
   have hS0 : Q wr wr.drew := (Q.refl wr).drew
   refine region_gen3 ?_
   intro OPS QQ A0 hO hQQ hA
   have hz : A0.tmps.size = 32 := by rw [hA]; rfl
   have hs : sound OPS A0.tmps.size = true := by rw [hz, hO]; kernel_rfl
   have b_1 : A0.eval (.tmp 1) = .pointer (some ⟨b1, 0, none⟩) := by rw [hA]; rfl
   have fr_1 : free OPS 1 = true := by rw [hO]; kernel_rfl
   have b_3 : A0.eval (.tmp 3) = .string cn := by rw [hA]; rfl
   have fr_3 : free OPS 3 = true := by rw [hO]; kernel_rfl
   obtain ⟨VV, hVV⟩ : ∃ V : Nat → Value → World → Prop, V = fun i => ([fun v _ => v = .pointer (some ⟨b1, 0, none⟩), fun v _ => v = .int .i64 hh, fun v _ => v = .int .u64 hh, fun v _ => v = .string p8, fun v _ => v = .pointer (some ⟨b1, 1, none⟩), fun v _ => v = .string pv, fun v _ => v = .string cn, fun v w => ∃ wB : World, v = .slice (some ⟨wB.heap.size, 0, none⟩) 3 3 ∧ Q (wB.alloc (.cells #[.string p8, .string pv, .string cn] 9)) w, fun v _ => v = .string ii, fun v _ => v = .string ii] : List (Value → World → Prop)).getD i (fun _ _ => True) := ⟨_, rfl⟩
   have v_0 : VV 0 = fun v _ => v = .pointer (some ⟨b1, 0, none⟩) := vat hVV 0
   have v_1 : VV 1 = fun v _ => v = .int .i64 hh := vat hVV 1
   have v_2 : VV 2 = fun v _ => v = .int .u64 hh := vat hVV 2
   have v_3 : VV 3 = fun v _ => v = .string p8 := vat hVV 3
   have v_4 : VV 4 = fun v _ => v = .pointer (some ⟨b1, 1, none⟩) := vat hVV 4
   have v_5 : VV 5 = fun v _ => v = .string pv := vat hVV 5
   have v_6 : VV 6 = fun v _ => v = .string cn := vat hVV 6
   have v_7 : VV 7 = fun v w => ∃ wB : World, v = .slice (some ⟨wB.heap.size, 0, none⟩) 3 3 ∧ Q (wB.alloc (.cells #[.string p8, .string pv, .string cn] 9)) w := vat hVV 7
   have v_8 : VV 8 = fun v _ => v = .string ii := vat hVV 8
   have v_9 : VV 9 = fun v _ => v = .string ii := vat hVV 9
   have hV := stable_of (T := Q) hVV ((sk (sk (sk (sk (sk (sk (sk (sl_cons (fun _ _ _ h q => by obtain ⟨wB, h1, h2⟩ := h; exact ⟨wB, h1, h2.trans q⟩) (sk (sk trivial)))))))))))
   clear hVV
   have i_0 := pget_at hO 0 rfl
   have i_1 := pget_at hO 1 rfl
   have i_2 := pget_at hO 2 rfl
   have i_3 := pget_at hO 3 rfl
   have i_4 := pget_at hO 4 rfl
   have i_5 := pget_at hO 5 rfl
   have i_6 := pget_at hO 6 rfl
   have i_7 := pget_at hO 7 rfl
   have i_8 := pget_at hO 8 rfl
   have i_9 := pget_at hO 9 rfl
   have MK34 := @Step.pure Tryz.prog OPS QQ VV Q (Q wr) A0
   have s_0 := MK34 i_0 (.pointer (some ⟨b1, 0, none⟩)) (Q.refl ·) (fun l a w hI hl => ⟨wanted_none rfl, (by have e0 : a.eval (.tmp 1) = _ := ((hI.base 1 fr_1).trans b_1); generalize a.eval = ρ at e0 ⊢; simp [go_sem, e0]), at_mk v_0 rfl⟩)
   have s_1 := MK34 i_1 (.int .i64 hh) (Q.refl ·) (fun l a w hI hl => ⟨wanted_none rfl, (by have e0 : a.eval (.tmp 23) = _ := (at_eq v_0 (hI.at_ 0 23 _ i_0 rfl (hl_at hl 0 rfl rfl))); have x0 := (B2.out.q (QR.out.trans hI.st)).at_ 0 _ rfl; generalize a.eval = ρ at e0 ⊢; simp [go_sem, e0, x0]), at_mk v_1 rfl⟩)
   have s_2 := MK34 i_2 (.int .u64 hh) (Q.refl ·) (fun l a w hI hl => ⟨wanted_none rfl, (by have e0 : a.eval (.tmp 24) = _ := (at_eq v_1 (hI.at_ 1 24 _ i_1 rfl (hl_at hl 0 rfl rfl))); have x0 := HWR.out; generalize a.eval = ρ at e0 ⊢; simp [go_sem, e0, x0]), at_mk v_2 rfl⟩)
   have s_3 := Step.call (P := Tryz.prog) (V := VV) (T := Q) (S := (Q wr)) (a0 := A0) (Qx := QQ) (R := fun _ _ _ => True) i_3 (fun l a w hI hl => by
    refine ⟨wanted_none rfl, 83, #[.int .u64 hh], ?_, ?_⟩
    · exact ex_call rfl (by simp only [List.map_toArray, List.map_cons, List.map_nil, ev_const, (show a.eval (.tmp 25) = _ from (at_eq v_2 (hI.at_ 2 25 _ i_2 rfl (hl_at hl 0 rfl rfl))))]) Tryz.func83 (by kernel_rfl) (by kernel_rfl)
    · exact (PUT.out w).mono fun e w' hc => by
       obtain ⟨rfl, hq⟩ := hc
       exact ⟨_, rfl, hq, hI.st.trans hq, at_mk v_3 rfl⟩)
   have s_4 := MK34 i_4 (.pointer (some ⟨b1, 1, none⟩)) (Q.refl ·) (fun l a w hI hl => ⟨wanted_none rfl, (by have e0 : a.eval (.tmp 1) = _ := ((hI.base 1 fr_1).trans b_1); generalize a.eval = ρ at e0 ⊢; simp [go_sem, e0]), at_mk v_4 rfl⟩)
   have s_5 := MK34 i_5 (.string pv) (Q.refl ·) (fun l a w hI hl => ⟨wanted_none rfl, (by have e0 : a.eval (.tmp 27) = _ := (at_eq v_4 (hI.at_ 4 27 _ i_4 rfl (hl_at hl 0 rfl rfl))); have x0 := (B2.out.q (QR.out.trans hI.st)).at_ 1 _ rfl; generalize a.eval = ρ at e0 ⊢; simp [go_sem, e0, x0]), at_mk v_5 rfl⟩)
   have s_6 := MK34 i_6 (.string cn) (Q.refl ·) (fun l a w hI hl => ⟨wanted_none rfl, ex_move rfl ((hI.base 3 fr_3).trans b_3), at_mk v_6 rfl⟩)
   have MK35 := @Step.done Tryz.prog OPS QQ VV Q (Q wr) A0
   have s_7 := MK35 i_7 (fun l a w hI hl => by
    refine ⟨wanted_none rfl, ?_⟩
    refine wpo_s3 p8 pv cn rfl (at_eq v_3 (hI.at_ 3 26 _ i_3 rfl (hl_at hl 0 rfl rfl))) (at_eq v_5 (hI.at_ 5 28 _ i_5 rfl (hl_at hl 1 rfl rfl))) (at_eq v_6 (hI.at_ 6 29 _ i_6 rfl (hl_at hl 2 rfl rfl))) ?_
    exact ⟨_, rfl, (Q.refl w).alloc _, hI.st.alloc _, p_at v_7 ⟨w, rfl, Q.refl _⟩⟩)
   have s_8 := MK35 i_8 (fun l a w hI hl => by
    obtain ⟨wB, eB, qB⟩ := at_p v_7 (hI.at_ 7 30 _ i_7 rfl (hl_at hl 0 rfl rfl))
    refine ⟨wanted_none rfl, ?_⟩
    refine wp_enter (f := 72) (args := #[.string wBlock, .slice (some ⟨wB.heap.size, 0, none⟩) 3 3]) ?_ ?_
    · exact ex_call rfl (by simp only [List.map_toArray, List.map_cons, List.map_nil, ev_const, eB]; rfl) Tryz.func72 (by kernel_rfl) (by kernel_rfl)
    · refine (dtri_at wBlock p8 pv cn ii HI.out 9 wB w qB (by decide) z8 zp zc).mono fun e w' hc => ?_
      obtain ⟨rfl, hq⟩ := hc
      exact ⟨_, rfl, hq, hI.st.trans hq, at_mk v_8 rfl⟩)
   have s_9 := MK34 i_9 (.string ii) (Q.refl ·) (fun l a w hI hl => ⟨wanted_none rfl, ex_assign rfl (at_eq v_8 (hI.at_ 8 31 _ i_8 rfl (hl_at hl 0 rfl rfl))), at_mk v_9 rfl⟩)
   refine wp_plan VV Q (Q wr) (by kernel_rfl) hs hV hS0 (steps_all hO ((sf_cons s_0 (sf_cons s_1 (sf_cons s_2 (sf_cons s_3 (sf_cons s_4 (sf_cons s_5 (sf_cons s_6 (sf_cons s_7 (sf_cons s_8 (sf_cons s_9 trivial)))))))))))) ?_
   intro l a' w' hall hIv
   have e0 : a'.eval (.tmp 2) = .string ii := at_eq v_9 (hIv.at_ 9 2 _ i_9 rfl (hall 9 (by rw [hO]; decide)))
   have hd : a'.defers = [] := by (rw [hIv.df, hA]; try rfl)
   have hst := Q1.out.trans (QR.out.trans hIv.st)
   rw [hQQ]
   clear hIv hall
   go_wp2_with fail
   (try simp only [Exit.inBlock, Exit.then])
   refine bodyPost_ret (results_tmp rfl _ _ _) hd ?_
   exact ⟨_, congrArg Ending.returned e0, .inl ⟨Z1.out, by rw [HII.out]⟩, hst⟩
set_option maxHeartbeats 40000000 in
theorem d10encode_x (z : BKI) (w0 : World) (htl : z.tl w0) (hk : z.ok) : Calls Tryz.prog 34 #[z.val] w0 (Enc (RightB z) (bkB z) w0) := by
 have HR : Hid (∀ o, Calls Tryz.prog 29 #[z.val] (w0.alloc o) (Tells (RightB z) (w0.alloc o))) := fun o => d10right_x z _ (htl.q ((Q.refl w0).alloc o)) hk
 have HT := Lib.hid htl
 have HK := Lib.hid hk
 clear htl hk
 obtain ⟨hh, pv, nn, gg, aa, cc⟩ := z
 dsimp only [BKI.val] at HR ⊢
 have HT : Hid (TL w0 aa nn gg) := HT
 go_enter Tryz.func34, Tryz.ntmps34
 go_wp2_with (with_reducible (show wpList _ _ _ (⟨_, Op.load 72 (.tmp 1), _, _, _, _⟩ :: _) _ _); refine halt ?_)
 have QA : Hid (Q w0 (w0.alloc (.cells #[.int .i64 hh, .string pv, .slice aa nn cc] 72))) := (Q.refl w0).alloc _
 have B1 : Hid (Box (w0.alloc (.cells #[.int .i64 hh, .string pv, .slice aa nn cc] 72)) w0.heap.size [.int .i64 hh, .string pv, .slice aa nn cc]) := Box.new w0 [.int .i64 hh, .string pv, .slice aa nn cc] 72
 have HR := Lib.hid (HR.out (.cells #[.int .i64 hh, .string pv, .slice aa nn cc] 72))
 generalize w0.alloc (.cells #[.int .i64 hh, .string pv, .slice aa nn cc] 72) = wA at *
 obtain ⟨b1, hb1⟩ : ∃ b, w0.heap.size = b := ⟨_, rfl⟩
 rw [hb1] at B1 ⊢
 refine Lib.hid (ld_box rfl 72 _ rfl b1 _ rfl B1.out Tryz.underlying72 rfl (by kernel_rfl) ?_)
 go_wp2_with fail
 refine HR.out.mono ?_
 rintro e w1 ⟨b, rfl, hz, q1⟩
 have B2 := Lib.hid (B1.out.q q1)
 have Q1 := Lib.hid (QA.out.trans q1)
 have lb : b1 < w1.heap.size := B2.out.lt
 clear B1 QA q1 HR
 rcases two hz with ⟨rfl, Z⟩ | ⟨rfl, Z⟩
 rotate_left
 · have Z1 := Lib.hid Z
   clear Z hz
   go_wp2_with fail
   go_ret
   exact Enc.no Z1.out Q1.out
 have Z1 := Lib.hid Z
 obtain ⟨r1, r2, r3, r4, r5⟩ := Z
 dsimp only at r1 r2 r3 r4 r5
 have R5 := Lib.hid r5
 clear hz r5
 have nn8 : nn ≤ 8 := r4
 have HU : U64 hh := ⟨by omega, by omega⟩
 have HWR : IntKind.u64.wrap hh = hh := by rw [IntKind.wrap_u64]; omega
 have z16 : pv.size = 16 := r3
 as_aux_lemma =>
 go_wp2_with (with_reducible (show wpList _ _ _ (⟨_, Op.build 113 _, _, _, _, _⟩ :: _) _ _); refine halt ?_)
 refine Lib.hid (wpl_dwr rfl rfl _ rfl ?_)
 have H0 := Lib.hid (XS.new w1 113)
 have QA : Hid (Q w1 (w1.alloc (.cells #[.string ⟨#[]⟩, .int .i64 0] 113))) := (Q.refl w1).alloc _
 go_wp2_with fail
 generalize w1.alloc (.cells #[.string ⟨#[]⟩, .int .i64 0] 113) = wW at *
 have lw := Q1.out.size
 generalize w1.heap.size = g at *
 have hbg : b1 ≠ g := by omega
 have QB : Hid (∀ w', Ch g wW w' → Q w0 w') := fun w' k => k.q (Q1.out.trans QA.out) lw
 have BB : Hid (∀ w', Ch g wW w' → Box w' b1 [.int .i64 hh, .string pv, .slice aa nn cc]) := fun w' k => (B2.out.q QA.out).ch k hbg
 clear QA Q1 B2 lb lw r1 r2 r3 r4
 as_aux_lemma =>
 refine (H0.out.byte 66 (by omega) (by omega)).mono ?_
 rintro r w_1 ⟨rfl, h⟩
 have H1 := Lib.hid h
 clear h H0
 have m0 := (BB.out _ H1.out.ch).at_ 0 _ rfl
 go_wp2_with fail
 refine (H1.out.num hh HU (by omega)).mono ?_
 rintro r w_2 ⟨rfl, h⟩
 have H2 := Lib.hid h
 clear h H1 m0
 have m1 := (BB.out _ H2.out.ch).at_ 1 _ rfl
 go_wp2_with fail
 refine (H2.out.hash pv z16 (by omega)).mono ?_
 rintro r w_3 ⟨rfl, h⟩
 have H3 := Lib.hid h
 clear h H2 m1
 have m2 := (BB.out _ H3.out.ch).at_ 2 _ rfl
 go_wp2_with fail
 refine (H3.out.byte (nn : Int) ⟨by omega, by omega⟩ (by omega)).mono ?_
 rintro r w_4 ⟨rfl, h⟩
 have H4 := Lib.hid h
 clear h H3 m2
 go_wp2_with fail
 go_loopw [4] (fun i wr => ∃ k : Nat, k ≤ nn ∧ i = .int .i64 k ∧ Hid (XS wW g (strOfNums [66] ++ putS hh ++ pv ++ strOfNums [(nn : Int)] ++ catN (fun i => blobS (txB (gg i).t)) k) (30000 + k * 60000) wr)) (fun i _ => nn - (intOf i).toNat)
 case atStart => exact ⟨0, by omega, rfl, Lib.hid (H4.out.to (by show _ = _ ++ ByteArray.empty; simp only [ByteArray.append_empty, ByteArray.empty_append]) (by omega))⟩
 case round =>
 obtain ⟨k, hk, rfl, H⟩ := hrel
 clear H4
 have k0 : (0 : Int) ≤ (k : Int) := by omega
 have m2 := (BB.out _ H.out.ch).at_ 2 _ rfl
 by_cases hlt : k < nn
 · have k1 : (k : Int) < (nn : Int) := by omega
   obtain ⟨b, off, rfl, hrow⟩ := (HT.out.q (QB.out _ H.out.ch)).l.some_ (by omega)
   have hrow := hrow k hlt
   have ZM := Lib.hid ((HT.out.q (QB.out _ H.out.ch)).m k hlt)
   have ZK := Lib.hid (HT.out.k k hlt)
   have ZR := Lib.hid (R5.out k hlt)
   obtain ⟨x, hx⟩ : ∃ x, gg k = x := ⟨_, rfl⟩
   have HX := Lib.hid hx
   rw [hx] at hrow ZM ZK ZR
   clear hx
   go_wp2_with (with_reducible (show wpList _ _ _ (⟨_, Op.load 43 _, _, _, _, _⟩ :: _) _ _); refine halt ?_)
   refine Lib.hid (ld_row rfl 43 _ rfl b (off + k * 6) [.slice x.aI x.t.nI x.cI, .slice x.aO x.t.nO x.cO, .int .u64 x.t.p.amount, .string x.t.p.sig, .string x.t.p.token, .slice x.aW x.t.p.n x.cW] rfl (fun j v hv => hrow j v hv) Tryz.underlying43 rfl (by kernel_rfl) ?_)
   clear hrow m2
   go_wp2_with fail
   refine (d9encode_x x.t x.aI x.cI x.aO x.cO x.aW x.cW _ ZM.out.i ZM.out.o ZM.out.w ZK.out).mono ?_
   intro e w3 he
   obtain ⟨rfl, q3⟩ := enc_valk ZR.out he
   have H5 := Lib.hid (H.out.q q3)
   have zx : Hid ((txB x.t).size ≤ 4096) := txB_4096 _ ZR.out
   clear he q3 H
   go_wp2_with fail
   refine (H5.out.blob _ zx.out (by omega)).mono ?_
   rintro r w6 ⟨rfl, h⟩
   have H6 := Lib.hid h
   clear h H5
   go_wp2_with fail
   go_roundw
   case rel => exact ⟨k + 1, by omega, by go_num, Lib.hid (H6.out.to (by rw [← HX.out]; show _ = _ ++ (catN _ k ++ blobS (txB (gg k).t)); simp only [ByteArray.append_assoc]) (by omega))⟩
   case measure => simp [intOf]; omega
 · obtain rfl : k = nn := by omega
   have k1 : ¬ (k : Int) < (k : Int) := by omega
   have td : decide (k < k) = false := by simp
   go_wp2_with fail
   refine (H.out.text).mono ?_
   rintro r w8 ⟨rfl, rfl⟩
   have Q8 := Lib.hid (QB.out _ H.out.ch)
   go_wp2_with fail
   go_ret
   exact Enc.yes Z1.out rfl Q8.out
set_option maxHeartbeats 40000000 in
theorem d10first_x (a : Option Addr) (n c : Nat) (f : Nat → OU) (w0 : World) (h : SL OU.cells 9 w0 a n f) (hn : n ≤ 100) (hyp : ∀ i, i < n → U64 (f i).amount ∧ (f i).key.size ≤ 2000) :
 Calls Tryz.prog 38 #[.slice a n c] w0 fun e w' => e = .returned (.string (fstS n f)) ∧ Q w0 w' := by
 have HT := Lib.hid h
 have HH := Lib.hid hyp
 have ZCN : Hid (∀ k, k ≤ n → (catN (fun i => akS (f i)) k).size ≤ 300000) := fun k hk => by
  have := catN_size (fun i => akS (f i)) 2008 k (fun i hi => by unfold akS; rw [ByteArray.size_append, putS_size]; have := (hyp i (by omega)).2; omega)
  have : k * 2008 ≤ 100 * 2008 := Nat.mul_le_mul_right _ (by omega)
  omega
 obtain ⟨ii, hii⟩ : ∃ s, fstS n f = s := ⟨_, rfl⟩
 have HII := Lib.hid hii
 rw [hii]
 clear h hyp hii
 go_enter Tryz.func38, Tryz.ntmps38
 go_wp2_with fail
 go_loopw [3, 4] (fun v i wr => ∃ k : Nat, k ≤ n ∧ i = .int .i64 k ∧ v = .string (catN (fun i => akS (f i)) k) ∧ Hid (Q w0 wr)) (fun _ i _ => n - (intOf i).toNat)
 case atStart => exact ⟨0, by omega, rfl, rfl, Lib.hid (Q.refl w0)⟩
 case round =>
 obtain ⟨k, hk, rfl, rfl, QR⟩ := hrel
 have k0 : (0 : Int) ≤ (k : Int) := by omega
 by_cases hlt : k < n
 · have k1 : (k : Int) < (n : Int) := by omega
   obtain ⟨sc, hsc⟩ : ∃ s, catN (fun i => akS (f i)) k = s := ⟨_, rfl⟩
   have zsc : sc.size ≤ 300000 := by rw [← hsc]; exact ZCN.out k hk
   have HSC := Lib.hid hsc
   rw [hsc]
   clear hsc
   obtain ⟨b, off, rfl, hrow⟩ := (HT.out.q QR.out).some_ (by omega)
   have hrow := Lib.hid (hrow k hlt)
   obtain ⟨hu, hkz⟩ := HH.out k hlt
   obtain ⟨x, hx⟩ : ∃ x, f k = x := ⟨_, rfl⟩
   have HX := Lib.hid hx
   rw [hx] at hrow hu hkz
   clear hx
   obtain ⟨p8, hp⟩ : ∃ s, putS x.amount = s := ⟨_, rfl⟩
   obtain ⟨ky, hky⟩ : ∃ s, x.key = s := ⟨_, rfl⟩
   obtain ⟨am, ham⟩ : ∃ s, x.amount = s := ⟨_, rfl⟩
   obtain ⟨ak, hak⟩ : ∃ s, p8 ++ ky = s := ⟨_, rfl⟩
   obtain ⟨sn, hsn⟩ : ∃ s, sc ++ ak = s := ⟨_, rfl⟩
   have z8 : p8.size = 8 := by rw [← hp, putS_size]
   have zak : ak.size ≤ 1000000 := by rw [← hak, ByteArray.size_append, ← hky]; omega
   have PUT : Hid (∀ w, Calls Tryz.prog 83 #[.int .u64 am] w fun e w' => e = .returned (.string p8) ∧ Q w w') := fun w => by rw [← hp, ham]; rw [ham] at hu; exact rput_q _ w (Q.refl w) hu.1 hu.2
   have C1 : Hid (∀ w, Q wr w → w.cell? ⟨b, off + k * 9 + 1, none⟩ = some (.int .u64 am)) := fun w q => by rw [← ham]; exact Q.cell' q (hrow.out 1 _ rfl)
   have C2 : Hid (∀ w, Q wr w → w.cell? ⟨b, off + k * 9 + 2, none⟩ = some (.string ky)) := fun w q => by rw [← hky]; exact Q.cell' q (hrow.out 2 _ rfl)
   have HN : Hid (catN (fun i => akS (f i)) (k + 1) = sn) := by show catN _ k ++ akS (f k) = sn; rw [HSC.out, HX.out, ← hsn, ← hak, ← hp, ← hky]; rfl
   have HAK := Lib.hid hak
   have HSN := Lib.hid hsn
   have zky : ky.size ≤ 1000000 := by rw [← hky]; omega
   clear hak hsn hp hky ham hu hkz hrow HX HSC
   go_wp2_with fail
   refine wp_region_held_drew (S := fun w' => Q wr w') (by kernel_rfl) ((Q.refl wr).drew) (fun hHeld => ?_)
   refine wtk (i := 0) (v := .string sc) (gat rfl) (by kernel_rfl) (by exact fun _ _ _ h => h) (Or.inl ⟨by rfl, ?_⟩) (by assumption) ?_
   · intro wx hSw
     (try dsimp only at hSw); go_simp; (try rw [if_neg (by omega)]); try (with_reducible rfl)
   try simp only [Act.put, pu]
   refine wtk (i := 1) (v := .slice (some ⟨b, off, none⟩) n c) (gat rfl) (by kernel_rfl) (by exact fun _ _ _ h => h) (Or.inl ⟨by rfl, ?_⟩) (by assumption) ?_
   · intro wx hSw
     (try dsimp only at hSw); go_simp; (try rw [if_neg (by omega)]); try (with_reducible rfl)
   try simp only [Act.put, pu]
   refine wtk (i := 2) (v := .int .i64 k) (gat rfl) (by kernel_rfl) (by exact fun _ _ _ h => h) (Or.inl ⟨by rfl, ?_⟩) (by assumption) ?_
   · intro wx hSw
     (try dsimp only at hSw); go_simp; (try rw [if_neg (by omega)]); try (with_reducible rfl)
   try simp only [Act.put, pu]
   refine wtk (i := 3) (v := .pointer (some ⟨b, off + k * 9, none⟩)) (gat rfl) (by kernel_rfl) (by exact fun _ _ _ h => h) (Or.inl ⟨by rfl, ?_⟩) (by assumption) ?_
   · intro wx hSw
     (try dsimp only at hSw); go_simp; (try rw [if_neg (by omega)]); try (with_reducible rfl)
   try simp only [Act.put, pu]
   refine wtk (i := 4) (v := .pointer (some ⟨b, off + k * 9 + 1, none⟩)) (gat rfl) (by kernel_rfl) (by exact fun _ _ _ h => h) (Or.inl ⟨by rfl, ?_⟩) (by assumption) ?_
   · intro wx hSw
     (try dsimp only at hSw); go_simp; (try rw [if_neg (by omega)]); try (with_reducible rfl)
   try simp only [Act.put, pu]
   refine wtk (i := 5) (v := .int .u64 am) (gat rfl) (by kernel_rfl) (by exact fun _ _ _ h => h) (Or.inl ⟨by rfl, ?_⟩) (by assumption) ?_
   · intro wx hSw
     have m1 := C1.out _ hSw; go_simp; (try rw [if_neg (by omega)]); try (with_reducible rfl)
   try simp only [Act.put, pu]
   refine wtk (i := 7) (v := .slice (some ⟨b, off, none⟩) n c) (gat rfl) (by kernel_rfl) (by exact fun _ _ _ h => h) (Or.inl ⟨by rfl, ?_⟩) (by assumption) ?_
   · intro wx hSw
     (try dsimp only at hSw); go_simp; (try rw [if_neg (by omega)]); try (with_reducible rfl)
   try simp only [Act.put, pu]
   refine wtk (i := 8) (v := .int .i64 k) (gat rfl) (by kernel_rfl) (by exact fun _ _ _ h => h) (Or.inl ⟨by rfl, ?_⟩) (by assumption) ?_
   · intro wx hSw
     (try dsimp only at hSw); go_simp; (try rw [if_neg (by omega)]); try (with_reducible rfl)
   try simp only [Act.put, pu]
   refine wtk (i := 9) (v := .pointer (some ⟨b, off + k * 9, none⟩)) (gat rfl) (by kernel_rfl) (by exact fun _ _ _ h => h) (Or.inl ⟨by rfl, ?_⟩) (by assumption) ?_
   · intro wx hSw
     (try dsimp only at hSw); go_simp; (try rw [if_neg (by omega)]); try (with_reducible rfl)
   try simp only [Act.put, pu]
   refine wtk (i := 10) (v := .pointer (some ⟨b, off + k * 9 + 2, none⟩)) (gat rfl) (by kernel_rfl) (by exact fun _ _ _ h => h) (Or.inl ⟨by rfl, ?_⟩) (by assumption) ?_
   · intro wx hSw
     (try dsimp only at hSw); go_simp; (try rw [if_neg (by omega)]); try (with_reducible rfl)
   try simp only [Act.put, pu]
   refine wtk (i := 11) (v := .string ky) (gat rfl) (by kernel_rfl) (by exact fun _ _ _ h => h) (Or.inl ⟨by rfl, ?_⟩) (by assumption) ?_
   · intro wx hSw
     have m1 := C2.out _ hSw; go_simp; (try rw [if_neg (by omega)]); try (with_reducible rfl)
   try simp only [Act.put, pu]
   refine wpAnyH_ready (rs := [6]) (by kernel_rfl) (by simp) ?_
   refine ar1 (gat rfl) fun K hK => ?_
   go_simp
   refine (PUT.out _).mono ?_
   rintro r w2 ⟨rfl, q2⟩
   have QD := Lib.hid (hHeld.trans q2)
   clear q2 PUT
   dsimp only
   refine hK.out _ _ QD.out (fun hHeld6 => ?_)
   clear hK K
   try simp only [Act.put, pu]
   refine wtk (i := 12) (v := .string ak) (gat rfl) (by kernel_rfl) (by exact fun _ _ _ h => h) (Or.inl ⟨by rfl, ?_⟩) (by assumption) ?_
   · intro wx hSw
     exact ex_bin rfl rfl rfl (cats (by omega) zky HAK.out)
   try simp only [Act.put, pu]
   refine wtk (i := 13) (v := .string sn) (gat rfl) (by kernel_rfl) (by exact fun _ _ _ h => h) (Or.inl ⟨by rfl, ?_⟩) (by assumption) ?_
   · intro wx hSw
     exact ex_bin rfl rfl rfl (cats (by omega) zak HSN.out)
   try simp only [Act.put, pu]
   refine wtk (i := 14) (v := .string sn) (gat rfl) (by kernel_rfl) (by exact fun _ _ _ h => h) (Or.inl ⟨by rfl, ?_⟩) (by assumption) ?_
   · intro wx hSw
     (try dsimp only at hSw); go_simp; (try rw [if_neg (by omega)]); try (with_reducible rfl)
   try simp only [Act.put, pu]
   refine wpAnyH_done (by kernel_rfl) ?_ _
   have Q4 := Lib.hid (QR.out.trans QD.out)
   clear QR QD hHeld hHeld6 C1 C2
   go_wp2_with fail
   go_roundw
   case rel => exact ⟨k + 1, by omega, by go_num, by rw [HN.out], Q4⟩
   case measure => simp [intOf]; omega
 · obtain rfl : k = n := by omega
   have k1 : ¬ (k : Int) < (k : Int) := by omega
   have td : decide (k < k) = false := by simp
   obtain ⟨cn, hcn⟩ : ∃ s, catN (fun i => akS (f i)) k = s := ⟨_, rfl⟩
   have zc : cn.size ≤ 1000000 := by rw [← hcn]; exact Nat.le_trans (ZCN.out k (Nat.le_refl _)) (by decide)
   have HI : Hid (tagS wFirst (fun _ => cn) 1 = ii) := by show _ = _; rw [← hcn, ← HII.out]; rfl
   rw [hcn]
   clear hcn
   have C := Lib.hid fun T => rtag1_x wFirst cn ii HI.out T wr _ rfl QR.out (by decide) zc
   go_wp2_with fail
   refine (C.out _).mono ?_
   rintro e w2 ⟨rfl, q2⟩
   have Q2 := Lib.hid q2
   clear q2 C
   go_wp2_with fail
   go_ret
   exact ⟨rfl, Q2.out⟩
end Go.Proofs.YtobfgljkckcmcaaGreatDoor.Coi
