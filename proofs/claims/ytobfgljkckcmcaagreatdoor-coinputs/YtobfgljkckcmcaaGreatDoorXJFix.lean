import Derived.Test.YtobfgljkckcmcaaGreatDoorXJCoiD
set_option maxRecDepth 100000
namespace Go.Proofs.YtobfgljkckcmcaaGreatDoor.Coi
open Go.RowKit
open Mem Num Cod Sh Plan
set_option linter.unusedVariables false
set_option linter.unusedSimpArgs false
set_option maxHeartbeats 40000000 in
theorem fixed_x {W : World} (hG : GL W) (w : World) (q : Q W w) : Calls Tryz.prog 25 #[] w fun e w' => e = .returned (.bool true) ∧ Q W w' := by
 obtain ⟨h, hh⟩ : ∃ h, h16 = h := ⟨_, rfl⟩
 have hh' : (⟨#[48, 49, 50, 51, 52, 53, 54, 55, 56, 57, 97, 98, 99, 100, 101, 102]⟩ : ByteArray) = h := hh
 have zh : h.size = 16 := by rw [← hh]; rfl
 obtain ⟨c1, d1⟩ : ∃ c, (⟨#[67, 1]⟩ : ByteArray) ++ h = c := ⟨_, rfl⟩
 obtain ⟨c2, d2⟩ : ∃ c, c1 ++ (⟨#[1, 1, 1, 1, 0, 0, 0, 0, 0, 0, 0, 5]⟩ : ByteArray) = c := ⟨_, rfl⟩
 obtain ⟨c, d3⟩ : ∃ x, c2 ++ h = x := ⟨_, rfl⟩
 have y1 : c1.size = 18 := by rw [← d1, ByteArray.size_append, zh]; rfl
 have y2 : c2.size = 30 := by rw [← d2, ByteArray.size_append, y1]; rfl
 have y3 : c.size = 46 := by rw [← d3, ByteArray.size_append, y2, zh]
 have HC : Hid (coreS fxT = c) := by show _ = _; rw [fx_core, ← d3, ← d2, ← d1, ← hh]; decide +kernel
 have HW := Lib.hid q
 clear q
 go_enter Tryz.func25, Tryz.ntmps25
 go_wp2_with (with_reducible (show wpList _ _ _ (⟨_, Op.build 31 _, _, _, _, _⟩ :: _) _ _); refine halt ?_)
 simp only [hh']
 refine Lib.hid (wpl_fxp rfl h rfl _ rfl rfl ?_)
 refine wpl_fxi rfl h rfl _ rfl rfl ?_
 refine wpr_inx rfl h 1 1 ⟨#[115]⟩ rfl rfl ?_
 go_wp2_with (with_reducible (show wpList _ _ _ (⟨_, Op.build 47 _, _, _, _, _⟩ :: _) _ _); refine halt ?_)
 refine Lib.hid (wpl_fxo rfl h rfl _ rfl rfl ?_)
 refine wpr_out rfl 1 5 h ⟨#[]⟩ 0 ⟨#[]⟩ 0 0 ⟨#[]⟩ rfl rfl ?_
 refine wpl_fxt rfl w.heap.size (w.alloc (.cells #[.string h, .int .i64 1, .int .i64 1, .string ⟨#[115]⟩] 53)).heap.size rfl _ rfl rfl rfl ?_
 refine wpList_allocZ rfl 29 rfl #[.slice none 0 0, .slice none 0 0, .int .u64 0, .string ⟨#[]⟩, .string ⟨#[]⟩, .slice none 0 0] zeroT ?_
 have SI : Hid (SL IN.cells 4 (w.alloc (.cells #[.string h, .int .i64 1, .int .i64 1, .string ⟨#[115]⟩] 53)) (some ⟨w.heap.size, 0, none⟩) 1 (fun _ => fxI)) := by have := SL.one (C := IN.cells) (k := 4) w fxI 53; unfold fxI at this; rw [hh] at this; show SL _ _ _ _ _ _; unfold fxI; rw [hh]; exact this
 have Q1 := Lib.hid (HW.out.alloc (.cells #[.string h, .int .i64 1, .int .i64 1, .string ⟨#[115]⟩] 53))
 generalize hwI : w.alloc (.cells #[.string h, .int .i64 1, .int .i64 1, .string ⟨#[115]⟩] 53) = wI at *
 have hbI : w.heap.size < wI.heap.size := by rw [← hwI]; simp
 clear hwI
 generalize w.heap.size = bI at *
 clear HW
 have SO : Hid (SL OU.cells 9 (wI.alloc (.cells #[.int .i64 1, .int .u64 5, .string h, .string ⟨#[]⟩, .int .i64 0, .string ⟨#[]⟩, .int .u64 0, .int .i64 0, .string ⟨#[]⟩] 47)) (some ⟨wI.heap.size, 0, none⟩) 1 (fun _ => fxO)) := by have := SL.one (C := OU.cells) (k := 9) wI fxO 47; unfold fxO at this; rw [hh] at this; show SL _ _ _ _ _ _; unfold fxO; rw [hh]; exact this
 have SI2 := Lib.hid (SI.out.q ((Q.refl wI).alloc (.cells #[.int .i64 1, .int .u64 5, .string h, .string ⟨#[]⟩, .int .i64 0, .string ⟨#[]⟩, .int .u64 0, .int .i64 0, .string ⟨#[]⟩] 47)))
 have Q2 := Lib.hid (Q1.out.alloc (.cells #[.int .i64 1, .int .u64 5, .string h, .string ⟨#[]⟩, .int .i64 0, .string ⟨#[]⟩, .int .u64 0, .int .i64 0, .string ⟨#[]⟩] 47))
 generalize hwO : wI.alloc (.cells #[.int .i64 1, .int .u64 5, .string h, .string ⟨#[]⟩, .int .i64 0, .string ⟨#[]⟩, .int .u64 0, .int .i64 0, .string ⟨#[]⟩] 47) = wO at *
 have hbO : wI.heap.size < wO.heap.size := by rw [← hwO]; simp
 clear hwO
 generalize wI.heap.size = bO at *
 clear Q1 SI
 refine st_box rfl 29 _ _ rfl wO.heap.size _ [.slice (some ⟨bI, 0, none⟩) 1 1, .slice (some ⟨bO, 0, none⟩) 1 1, .int .u64 0, .string ⟨#[]⟩, .string ⟨#[]⟩, .slice none 0 0] rfl rfl (Box.new wO [.slice none 0 0, .slice none 0 0, .int .u64 0, .string ⟨#[]⟩, .string ⟨#[]⟩, .slice none 0 0] 29) rfl (by kernel_rfl) (one6 rfl rfl rfl rfl rfl rfl) ?_
 intro w3 B3 c3
 have F3 : Hid (FX W bI bO wO.heap.size w3) := ⟨c3.q (Q2.out.alloc _) Q2.out.size, B3, ⟨(SI2.out.q ((Q.refl wO).alloc _)).ch c3 (fun x hx => by injection hx with hx; subst hx; show bI ≠ wO.heap.size; omega), by decide, (SO.out.q ((Q.refl wO).alloc _)).ch c3 (fun x hx => by injection hx with hx; subst hx; show bO ≠ wO.heap.size; omega), SL.nil rfl⟩⟩
 generalize wO.heap.size = b2 at *
 clear B3 c3 Q2 SI2 SO hbI hbO
 as_aux_lemma =>
 have m0 := F3.out.b.at_ 0 _ rfl
 have m1 := F3.out.b.at_ 1 _ rfl
 have m2 := F3.out.b.at_ 2 _ rfl
 have m3 := F3.out.b.at_ 3 _ rfl
 have m4 := F3.out.b.at_ 4 _ rfl
 have m5 := F3.out.b.at_ 5 _ rfl
 go_wp2_with fail
 refine (encode_x fxT (some ⟨bI, 0, none⟩) (some ⟨bO, 0, none⟩) none 1 1 0 _ F3.out.t fx_ok).mono ?_
 rintro e w4 ⟨s, rfl, hz, q4⟩
 have HS : Hid (s = txB fxT) := hz.elim (fun x => x.2) (fun x => absurd fx_right x.1)
 have zs : s.size = 66 := by rw [HS.out, fx_tx]; rfl
 have F4 := Lib.hid (F3.out.up q4)
 clear hz q4 F3
 clear m0 m1 m2 m3 m4 m5
 as_aux_lemma =>
 have DD := Lib.hid (de_ok small_wrap fxT fx_right fx_ok)
 rw [← HS.out] at DD
 go_wp2_with fail
 refine (decode_x s (by omega) _).mono ?_
 rintro e w5 ⟨aI, cI, aO, cO, aW, cW, rfl, t5, q5⟩
 rw [DD.out.1]
 have US := Lib.hid DD.out.2
 have UK := Lib.hid (deV_ok small_wrap s)
 obtain ⟨u, hu⟩ : ∃ u, deV IntKind.i64.wrap s = u := ⟨_, rfl⟩
 rw [hu] at t5 US UK ⊢
 have F5 := Lib.hid (F4.out.up q5)
 have T5 := Lib.hid t5
 clear t5 q5 F4 DD hu
 go_wp2_with (with_reducible (show wpList _ _ _ (⟨_, Op.alloc 29 , _, _, _, _⟩ :: _) _ _); refine halt ?_)
 refine Lib.hid (wpList_allocZ rfl 29 rfl #[.slice none 0 0, .slice none 0 0, .int .u64 0, .string ⟨#[]⟩, .string ⟨#[]⟩, .slice none 0 0] zeroT ?_)
 refine st_box rfl 29 _ _ rfl w5.heap.size _ [.slice aI u.nI cI, .slice aO u.nO cO, .int .u64 u.p.amount, .string u.p.sig, .string u.p.token, .slice aW u.p.n cW] rfl rfl (Box.new w5 [.slice none 0 0, .slice none 0 0, .int .u64 0, .string ⟨#[]⟩, .string ⟨#[]⟩, .slice none 0 0] 29) rfl (by kernel_rfl) (one6 rfl rfl rfl rfl rfl rfl) ?_
 intro w6 B6 c6
 have q6 : Q w5 w6 := c6.q ((Q.refl w5).alloc _) (Nat.le_refl _)
 have F6 := Lib.hid (F5.out.up q6)
 have U6 : Hid (FU w5.heap.size u aI cI aO cO aW cW w6) := ⟨B6, T5.out.q q6⟩
 generalize w5.heap.size = b5 at *
 clear B6 c6 q6 F5 T5
 as_aux_lemma =>
 obtain ⟨sx, hsx⟩ : ∃ x, s ++ (⟨#[120]⟩ : ByteArray) = x := ⟨_, rfl⟩
 have zsx : sx.size = 67 := by rw [← hsx, ByteArray.size_append, zs]; rfl
 have DM : Hid (deE IntKind.i64.wrap sx = 4) := by show _ = _; rw [← hsx, HS.out]; exact de_more small_wrap fxT fx_right fx_ok _ (by decide)
 go_wp2_with fail
 refine (decode_x sx (by omega) _).mono ?_
 rintro e w7 ⟨aI7, cI7, aO7, cO7, aW7, cW7, rfl, _, q7⟩
 rw [DM.out]
 obtain ⟨u7, hu7⟩ : ∃ u, deV IntKind.i64.wrap sx = u := ⟨_, rfl⟩
 rw [hu7]
 go_wp2_with (with_reducible (show wpList _ _ _ (⟨_, Op.alloc 29 , _, _, _, _⟩ :: _) _ _); refine halt ?_)
 refine Lib.hid (wpList_allocZ rfl 29 rfl #[.slice none 0 0, .slice none 0 0, .int .u64 0, .string ⟨#[]⟩, .string ⟨#[]⟩, .slice none 0 0] zeroT ?_)
 refine st_box rfl 29 _ _ rfl w7.heap.size _ [.slice aI7 u7.nI cI7, .slice aO7 u7.nO cO7, .int .u64 u7.p.amount, .string u7.p.sig, .string u7.p.token, .slice aW7 u7.p.n cW7] rfl rfl (Box.new w7 [.slice none 0 0, .slice none 0 0, .int .u64 0, .string ⟨#[]⟩, .string ⟨#[]⟩, .slice none 0 0] 29) rfl (by kernel_rfl) (one6 rfl rfl rfl rfl rfl rfl) ?_
 intro w8 _ c8
 have r7 : Q w7 w8 := c8.q ((Q.refl w7).alloc _) (Nat.le_refl _)
 have F8 := Lib.hid ((F6.out.up q7).up r7)
 have U8 := Lib.hid ((U6.out.up q7).up r7)
 clear c8 q7 r7 hu7 F6 U6
 as_aux_lemma =>
 have DS : Hid (deE IntKind.i64.wrap (⟨#[]⟩ : ByteArray) = 3) := de_short _
 go_wp2_with fail
 refine (decode_x ⟨#[]⟩ (by decide) _).mono ?_
 rintro e w9 ⟨aI9, cI9, aO9, cO9, aW9, cW9, rfl, _, q9⟩
 rw [DS.out]
 obtain ⟨u9, hu9⟩ : ∃ u, deV IntKind.i64.wrap ⟨#[]⟩ = u := ⟨_, rfl⟩
 rw [hu9]
 go_wp2_with (with_reducible (show wpList _ _ _ (⟨_, Op.alloc 29 , _, _, _, _⟩ :: _) _ _); refine halt ?_)
 refine Lib.hid (wpList_allocZ rfl 29 rfl #[.slice none 0 0, .slice none 0 0, .int .u64 0, .string ⟨#[]⟩, .string ⟨#[]⟩, .slice none 0 0] zeroT ?_)
 refine st_box rfl 29 _ _ rfl w9.heap.size _ [.slice aI9 u9.nI cI9, .slice aO9 u9.nO cO9, .int .u64 u9.p.amount, .string u9.p.sig, .string u9.p.token, .slice aW9 u9.p.n cW9] rfl rfl (Box.new w9 [.slice none 0 0, .slice none 0 0, .int .u64 0, .string ⟨#[]⟩, .string ⟨#[]⟩, .slice none 0 0] 29) rfl (by kernel_rfl) (one6 rfl rfl rfl rfl rfl rfl) ?_
 intro w10 _ c10
 have r9 : Q w9 w10 := c10.q ((Q.refl w9).alloc _) (Nat.le_refl _)
 have F10 := Lib.hid ((F8.out.up q9).up r9)
 have U10 := Lib.hid ((U8.out.up q9).up r9)
 clear c10 q9 r9 hu9 F8 U8
 as_aux_lemma =>
 go_wp2_with (with_reducible (show wpList _ _ _ (⟨_, Op.build 47 _, _, _, _, _⟩ :: _) _ _); refine halt ?_)
 refine Lib.hid (wpl_fxa rfl 3 rfl _ rfl ?_)
 refine wpl_fxa rfl 4 rfl _ rfl ?_
 refine wpr_out2 rfl 3 4 rfl rfl rfl ?_
 have SF := Lib.hid (fxF_sl w10 3 4 47)
 have F10' := Lib.hid (F10.out.up ((Q.refl w10).alloc (.cells #[.int .i64 0, .int .u64 3, .string ⟨#[]⟩, .string ⟨#[]⟩, .int .i64 0, .string ⟨#[]⟩, .int .u64 0, .int .i64 0, .string ⟨#[]⟩, .int .i64 0, .int .u64 4, .string ⟨#[]⟩, .string ⟨#[]⟩, .int .i64 0, .string ⟨#[]⟩, .int .u64 0, .int .i64 0, .string ⟨#[]⟩] 47)))
 have U10' := Lib.hid (U10.out.up ((Q.refl w10).alloc (.cells #[.int .i64 0, .int .u64 3, .string ⟨#[]⟩, .string ⟨#[]⟩, .int .i64 0, .string ⟨#[]⟩, .int .u64 0, .int .i64 0, .string ⟨#[]⟩, .int .i64 0, .int .u64 4, .string ⟨#[]⟩, .string ⟨#[]⟩, .int .i64 0, .string ⟨#[]⟩, .int .u64 0, .int .i64 0, .string ⟨#[]⟩] 47)))
 generalize w10.alloc (.cells #[.int .i64 0, .int .u64 3, .string ⟨#[]⟩, .string ⟨#[]⟩, .int .i64 0, .string ⟨#[]⟩, .int .u64 0, .int .i64 0, .string ⟨#[]⟩, .int .i64 0, .int .u64 4, .string ⟨#[]⟩, .string ⟨#[]⟩, .int .i64 0, .string ⟨#[]⟩, .int .u64 0, .int .i64 0, .string ⟨#[]⟩] 47) = v10 at *
 clear F10 U10
 go_wp2_with fail
 refine (whole_x _ 2 2 (fxF 3 4) _ SF.out (by omega) (fxF_in _ _ ⟨by decide, by decide⟩ ⟨by decide, by decide⟩)).mono ?_
 rintro e w11 ⟨rfl, q11⟩
 rw [fx_sum1.1, fx_sum1.2]
 have F11 := Lib.hid (F10'.out.up q11)
 have U11 := Lib.hid (U10'.out.up q11)
 clear q11 F10' U10' SF
 as_aux_lemma =>
 go_wp2_with (with_reducible (show wpList _ _ _ (⟨_, Op.build 47 _, _, _, _, _⟩ :: _) _ _); refine halt ?_)
 refine Lib.hid (wpl_fxa rfl 9223372036854775808 rfl _ rfl ?_)
 refine wpl_fxa rfl 9223372036854775808 rfl _ rfl ?_
 refine wpr_out2 rfl 9223372036854775808 9223372036854775808 rfl rfl rfl ?_
 have SF := Lib.hid (fxF_sl w11 9223372036854775808 9223372036854775808 47)
 have F11' := Lib.hid (F11.out.up ((Q.refl w11).alloc (.cells #[.int .i64 0, .int .u64 9223372036854775808, .string ⟨#[]⟩, .string ⟨#[]⟩, .int .i64 0, .string ⟨#[]⟩, .int .u64 0, .int .i64 0, .string ⟨#[]⟩, .int .i64 0, .int .u64 9223372036854775808, .string ⟨#[]⟩, .string ⟨#[]⟩, .int .i64 0, .string ⟨#[]⟩, .int .u64 0, .int .i64 0, .string ⟨#[]⟩] 47)))
 have U11' := Lib.hid (U11.out.up ((Q.refl w11).alloc (.cells #[.int .i64 0, .int .u64 9223372036854775808, .string ⟨#[]⟩, .string ⟨#[]⟩, .int .i64 0, .string ⟨#[]⟩, .int .u64 0, .int .i64 0, .string ⟨#[]⟩, .int .i64 0, .int .u64 9223372036854775808, .string ⟨#[]⟩, .string ⟨#[]⟩, .int .i64 0, .string ⟨#[]⟩, .int .u64 0, .int .i64 0, .string ⟨#[]⟩] 47)))
 generalize w11.alloc (.cells #[.int .i64 0, .int .u64 9223372036854775808, .string ⟨#[]⟩, .string ⟨#[]⟩, .int .i64 0, .string ⟨#[]⟩, .int .u64 0, .int .i64 0, .string ⟨#[]⟩, .int .i64 0, .int .u64 9223372036854775808, .string ⟨#[]⟩, .string ⟨#[]⟩, .int .i64 0, .string ⟨#[]⟩, .int .u64 0, .int .i64 0, .string ⟨#[]⟩] 47) = v11 at *
 clear F11 U11
 go_wp2_with fail
 refine (whole_x _ 2 2 (fxF 9223372036854775808 9223372036854775808) _ SF.out (by omega) (fxF_in _ _ ⟨by decide, by decide⟩ ⟨by decide, by decide⟩)).mono ?_
 rintro e w12 ⟨rfl, q12⟩
 rw [fx_sum2]
 have F12 := Lib.hid (F11'.out.up q12)
 have U12 := Lib.hid (U11'.out.up q12)
 clear q12 F11' U11' SF
 as_aux_lemma =>
 go_wp2_with (with_reducible (show wpList _ _ _ (⟨_, Op.build 47 _, _, _, _, _⟩ :: _) _ _); refine halt ?_)
 refine Lib.hid (wpl_fxl rfl h rfl _ rfl rfl rfl rfl ?_)
 refine wpList_allocZ rfl 47 rfl #[.int .i64 0, .int .u64 0, .string ⟨#[]⟩, .string ⟨#[]⟩, .int .i64 0, .string ⟨#[]⟩, .int .u64 0, .int .i64 0, .string ⟨#[]⟩] zero9 ?_
 refine st_box rfl 47 _ _ rfl w12.heap.size _ [.int .i64 2, .int .u64 1, .string h, .string h, .int .i64 9, .string h, .int .u64 2, .int .i64 3, .string ⟨#[]⟩] rfl rfl (Box.new w12 [.int .i64 0, .int .u64 0, .string ⟨#[]⟩, .string ⟨#[]⟩, .int .i64 0, .string ⟨#[]⟩, .int .u64 0, .int .i64 0, .string ⟨#[]⟩] 47) rfl (by kernel_rfl) (one9 rfl rfl rfl rfl rfl rfl rfl rfl rfl) ?_
 intro w13 B13 c13
 have r12 : Q w12 w13 := c13.q ((Q.refl w12).alloc _) (Nat.le_refl _)
 have F13 := Lib.hid (F12.out.up r12)
 have U13 := Lib.hid (U12.out.up r12)
 have L13 := Lib.hid B13
 generalize w12.heap.size = bl12 at *
 clear B13 c13 r12 F12 U12
 as_aux_lemma =>
 go_wp2_with (with_reducible (show wpList _ _ _ (⟨_, Op.build 47 _, _, _, _, _⟩ :: _) _ _); refine halt ?_)
 refine Lib.hid (wpl_fxq rfl h rfl _ rfl rfl rfl rfl ?_)
 refine wpList_allocZ rfl 47 rfl #[.int .i64 0, .int .u64 0, .string ⟨#[]⟩, .string ⟨#[]⟩, .int .i64 0, .string ⟨#[]⟩, .int .u64 0, .int .i64 0, .string ⟨#[]⟩] zero9 ?_
 refine st_box rfl 47 _ _ rfl w13.heap.size _ [.int .i64 3, .int .u64 1, .string h, .string h, .int .i64 9, .string ⟨#[]⟩, .int .u64 0, .int .i64 0, .string h] rfl rfl (Box.new w13 [.int .i64 0, .int .u64 0, .string ⟨#[]⟩, .string ⟨#[]⟩, .int .i64 0, .string ⟨#[]⟩, .int .u64 0, .int .i64 0, .string ⟨#[]⟩] 47) rfl (by kernel_rfl) (one9 rfl rfl rfl rfl rfl rfl rfl rfl rfl) ?_
 intro w14 B14 c14
 have r13 : Q w13 w14 := c14.q ((Q.refl w13).alloc _) (Nat.le_refl _)
 have F14 := Lib.hid (F13.out.up r13)
 have U14 := Lib.hid (U13.out.up r13)
 have L14 := Lib.hid B14
 have L14p := Lib.hid (L13.out.q r13)
 generalize w13.heap.size = bl13 at *
 clear B14 c14 r13 F13 U13
 as_aux_lemma =>
 have m0 := F14.out.b.at_ 0 _ rfl
 have m1 := F14.out.b.at_ 1 _ rfl
 have m2 := F14.out.b.at_ 2 _ rfl
 have m3 := F14.out.b.at_ 3 _ rfl
 have m4 := F14.out.b.at_ 4 _ rfl
 have m5 := F14.out.b.at_ 5 _ rfl
 have RC : Hid (∀ w', Q w14 w' → (fun w' => FX W bI bO b2 w' ∧ FU b5 u aI cI aO cO aW cW w' ∧ Box w' bl12 [.int .i64 2, .int .u64 1, .string h, .string h, .int .i64 9, .string h, .int .u64 2, .int .i64 3, .string ⟨#[]⟩] ∧ Box w' bl13 [.int .i64 3, .int .u64 1, .string h, .string h, .int .i64 9, .string ⟨#[]⟩, .int .u64 0, .int .i64 0, .string h]) w') := fun w' q => ⟨F14.out.up q, U14.out.up q, L14p.out.q q, L14.out.q q⟩
 have hS0 : Q w14 w14.drew := (Q.refl w14).drew
 have CORE : Hid (∀ w', FX W bI bO b2 w' → Calls Tryz.prog 16 #[.agg #[.slice (some ⟨bI, 0, none⟩) 1 1, .slice (some ⟨bO, 0, none⟩) 1 1, .int .u64 0, .string ⟨#[]⟩, .string ⟨#[]⟩, .slice none 0 0]] w' fun e w'' => e = .returned (.string c) ∧ Q w' w'') := fun w' f => (core_x fxT (some ⟨bI, 0, none⟩) (some ⟨bO, 0, none⟩) none 1 1 0 w' f.t fx_ok).mono fun e w'' ⟨s, h1, h2, h3⟩ => ⟨by rw [h1, h2.elim (fun x => x.2.trans HC.out) (fun x => absurd fx_right x.1)], h3⟩
 obtain ⟨ii, hii⟩ : ∃ i, idS fxT = i := ⟨_, rfl⟩
 have TI : Hid (tagS wTx (fun _ => c) 1 = ii) := by show _ = _; rw [← hii, ← HC.out]; rfl
 have CID : Hid (∀ w', FX W bI bO b2 w' → Calls Tryz.prog 18 #[.agg #[.slice (some ⟨bI, 0, none⟩) 1 1, .slice (some ⟨bO, 0, none⟩) 1 1, .int .u64 0, .string ⟨#[]⟩, .string ⟨#[]⟩, .slice none 0 0]] w' fun e w'' => e = .returned (.string ii) ∧ Q w' w'') := fun w' f => (id_x fxT (some ⟨bI, 0, none⟩) (some ⟨bO, 0, none⟩) none 1 1 0 w' (hG.q f.q) f.t fx_ok).mono fun e w'' ⟨s, h1, h2, h3⟩ => ⟨by rw [h1, h2.elim (fun x => x.2.trans hii) (fun x => absurd fx_right x.1)], h3⟩
 obtain ⟨pz, hpz⟩ : ∃ i, pfB PF.zero = i := ⟨_, rfl⟩
 have zpz : pz.size = 13 := by rw [← hpz, fx_pz]; rfl
 have CENC : Hid (∀ w', Calls Tryz.prog 74 #[.agg #[.int .u64 0, .string ⟨#[]⟩, .string ⟨#[]⟩, .slice none 0 0]] w' fun e w'' => e = .returned (.string pz) ∧ Q w' w'') := fun w' => (nencode_x PF.zero none 0 w' (SL.nil rfl) PFz_ok).mono fun e w'' ⟨s, h1, h2, h3⟩ => ⟨by rw [h1, h2.elim (fun x => x.2.trans hpz) (fun x => absurd fx_right.2.2.2.2.2.2.2 x.1)], h3⟩
 have CSAM : Hid (∀ w', FX W bI bO b2 w' → FU b5 u aI cI aO cO aW cW w' → Calls Tryz.prog 13 #[.agg #[.slice (some ⟨bI, 0, none⟩) 1 1, .slice (some ⟨bO, 0, none⟩) 1 1, .int .u64 0, .string ⟨#[]⟩, .string ⟨#[]⟩, .slice none 0 0], .agg #[.slice aI u.nI cI, .slice aO u.nO cO, .int .u64 u.p.amount, .string u.p.sig, .string u.p.token, .slice aW u.p.n cW]] w' fun e w'' => e = .returned (.bool true) ∧ Q w' w'') := fun w' f g => (same_x fxT u (some ⟨bI, 0, none⟩) (some ⟨bO, 0, none⟩) none aI aO aW 1 1 0 cI cO cW w' f.t g.t fx_ok UK.out).mono fun e w'' ⟨b, h1, h2, h3⟩ => ⟨by rw [h1, h2.2 US.out.symm], h3⟩
 obtain ⟨nn, hnn⟩ : ∃ i, nmS h 2 = i := ⟨_, rfl⟩
 have TN : Hid (tagS wLock (duo h ⟨#[2]⟩) 2 = nn) := by show _ = _; rw [← hnn]; unfold nmS; rw [show strOfNums [IntKind.u8.wrap 2] = ⟨#[2]⟩ by decide +kernel]
 have CNAM : Hid (∀ w', Q W w' → Calls Tryz.prog 23 #[.agg #[.string h, .int .i64 2]] w' fun e w'' => e = .returned (.string nn) ∧ Q w' w'') := fun w' q => (name_x h 2 w' (hG.q q) (by omega)).mono fun e w'' ⟨h1, h2⟩ => ⟨by rw [h1, hnn], h2⟩
 have CF1 : Hid (∀ w', Calls Tryz.prog 9 #[.agg #[.int .i64 2, .int .u64 1, .string h, .string h, .int .i64 9, .string h, .int .u64 2, .int .i64 3, .string ⟨#[]⟩]] w' fun e w'' => e = .returned (.bool true) ∧ Q w' w'') := fun w' => by have := fits_x fxL w'; unfold fxL at this; rw [hh] at this; refine this.mono fun e w'' ⟨h1, h2⟩ => ⟨?_, h2⟩; rw [h1, ← hh]; exact retB (by have := fx_fits.1; simpa [fxL] using this)
 have CF2 : Hid (∀ w', Calls Tryz.prog 9 #[.agg #[.int .i64 3, .int .u64 1, .string h, .string h, .int .i64 9, .string ⟨#[]⟩, .int .u64 0, .int .i64 0, .string h]] w' fun e w'' => e = .returned (.bool true) ∧ Q w' w'') := fun w' => by have := fits_x fxP w'; unfold fxP at this; rw [hh] at this; refine this.mono fun e w'' ⟨h1, h2⟩ => ⟨?_, h2⟩; rw [h1, ← hh]; exact retB (by have := fx_fits.2.1; simpa [fxP] using this)
 have CF3 : Hid (∀ w', Calls Tryz.prog 9 #[.agg #[.int .i64 1, .int .u64 1, .string h, .string ⟨#[]⟩, .int .i64 0, .string ⟨#[]⟩, .int .u64 0, .int .i64 0, .string h]] w' fun e w'' => e = .returned (.bool false) ∧ Q w' w'') := fun w' => by have := fits_x fxN w'; unfold fxN at this; rw [hh] at this; refine this.mono fun e w'' ⟨h1, h2⟩ => ⟨?_, h2⟩; rw [h1, ← hh]; exact retB (by have := fx_fits.2.2; simpa [fxN] using this)
 have CRZ : Hid (∀ w', Calls Tryz.prog 14 #[.agg #[.slice none 0 0, .slice none 0 0, .int .u64 0, .string ⟨#[]⟩, .string ⟨#[]⟩, .slice none 0 0]] w' fun e w'' => e = .returned (.bool false) ∧ Q w' w'') := fun w' => (right_x TX.zero none none none 0 0 0 w' ⟨SL.nil rfl, Nat.le_refl _, SL.nil rfl, SL.nil rfl⟩ TXz_ok).mono fun e w'' ⟨b, h1, h2, h3⟩ => ⟨by rw [h1]; exact retB (by rw [← Bool.not_eq_true, h2]; exact zero_right), h3⟩
 have CIZ : Hid (∀ w', Q W w' → Calls Tryz.prog 18 #[.agg #[.slice none 0 0, .slice none 0 0, .int .u64 0, .string ⟨#[]⟩, .string ⟨#[]⟩, .slice none 0 0]] w' fun e w'' => e = .returned (.string ⟨#[]⟩) ∧ Q w' w'') := fun w' q => (id_x TX.zero none none none 0 0 0 w' (hG.q q) ⟨SL.nil rfl, Nat.le_refl _, SL.nil rfl, SL.nil rfl⟩ TXz_ok).mono fun e w'' ⟨s, h1, h2, h3⟩ => ⟨by rw [h1, h2.elim (fun x => absurd x.1 zero_right) (fun x => x.2)], h3⟩
 obtain ⟨l46, hl⟩ : ∃ x, strOfNums [46] = x := ⟨_, rfl⟩
 have CL := Lib.hid hl
 have zl : l46.size = 1 := by rw [← hl]; exact one_size 46
 obtain ⟨g1, e1⟩ : ∃ x, (⟨#[0]⟩ : ByteArray) ++ l46 = x := ⟨_, rfl⟩
 obtain ⟨g2, e2⟩ : ∃ x, g1 ++ c = x := ⟨_, rfl⟩
 obtain ⟨g3, e3⟩ : ∃ x, g2 ++ (⟨#[0, 1, 115, 0, 13]⟩ : ByteArray) = x := ⟨_, rfl⟩
 have e4 : g3 ++ pz = s := by rw [← e3, ← e2, ← e1, ← hl, ← hpz, ← HC.out, HS.out, fx_core, fx_tx, fx_pz]; decide +kernel
 have x1 : g1.size = 2 := by rw [← e1, ByteArray.size_append, zl]; rfl
 have x2 : g2.size = 48 := by rw [← e2, ByteArray.size_append, x1, y3]
 have x3 : g3.size = 53 := by rw [← e3, ByteArray.size_append, x2]; rfl
 have zc : c.size ≤ 1000000 := by omega
 have y3' : (c.size : Int) = 46 := by omega
 clear hl hpz hii hnn d1 d2 d3 hsx y1 y2 DM DS F14 U14 L14 L14p m0 m1 m2 m3 m4 m5 US UK zsx
 go_wp2_with fail
 as_aux_lemma =>
 refine region_gen3 ?_
 intro OPS QQ A0 hO hQQ hA
 have RC : ∀ w', Q w14 w' → (fun w' => FX W bI bO b2 w' ∧ FU b5 u aI cI aO cO aW cW w' ∧ Box w' bl12 [.int .i64 2, .int .u64 1, .string h, .string h, .int .i64 9, .string h, .int .u64 2, .int .i64 3, .string ⟨#[]⟩] ∧ Box w' bl13 [.int .i64 3, .int .u64 1, .string h, .string h, .int .i64 9, .string ⟨#[]⟩, .int .u64 0, .int .i64 0, .string h]) w' := RC.out
 have hz : A0.tmps.size = 160 := by rw [hA]; rfl
 have hs : sound OPS A0.tmps.size = true := by rw [hz, hO]; kernel_rfl
 have b_1 : A0.eval (.tmp 1) = .string h := by rw [hA]; rfl
 have fr_1 : free OPS 1 = true := by rw [hO]; kernel_rfl
 have b_2 : A0.eval (.tmp 2) = .pointer (some ⟨b2, 0, none⟩) := by rw [hA]; rfl
 have fr_2 : free OPS 2 = true := by rw [hO]; kernel_rfl
 have b_3 : A0.eval (.tmp 3) = .string c := by rw [hA]; rfl
 have fr_3 : free OPS 3 = true := by rw [hO]; kernel_rfl
 have b_4 : A0.eval (.tmp 4) = .string s := by rw [hA]; rfl
 have fr_4 : free OPS 4 = true := by rw [hO]; kernel_rfl
 have b_5 : A0.eval (.tmp 5) = .pointer (some ⟨b5, 0, none⟩) := by rw [hA]; rfl
 have fr_5 : free OPS 5 = true := by rw [hO]; kernel_rfl
 have b_6 : A0.eval (.tmp 6) = .int .i64 0 := by rw [hA]; rfl
 have fr_6 : free OPS 6 = true := by rw [hO]; kernel_rfl
 have b_8 : A0.eval (.tmp 8) = .int .i64 4 := by rw [hA]; rfl
 have fr_8 : free OPS 8 = true := by rw [hO]; kernel_rfl
 have b_10 : A0.eval (.tmp 10) = .int .i64 3 := by rw [hA]; rfl
 have fr_10 : free OPS 10 = true := by rw [hO]; kernel_rfl
 have b_11 : A0.eval (.tmp 11) = .int .u64 7 := by rw [hA]; rfl
 have fr_11 : free OPS 11 = true := by rw [hO]; kernel_rfl
 have b_12 : A0.eval (.tmp 12) = .int .i64 0 := by rw [hA]; rfl
 have fr_12 : free OPS 12 = true := by rw [hO]; kernel_rfl
 have b_14 : A0.eval (.tmp 14) = .int .i64 2 := by rw [hA]; rfl
 have fr_14 : free OPS 14 = true := by rw [hO]; kernel_rfl
 have b_15 : A0.eval (.tmp 15) = .pointer (some ⟨bl12, 0, none⟩) := by rw [hA]; rfl
 have fr_15 : free OPS 15 = true := by rw [hO]; kernel_rfl
 have b_16 : A0.eval (.tmp 16) = .pointer (some ⟨bl13, 0, none⟩) := by rw [hA]; rfl
 have fr_16 : free OPS 16 = true := by rw [hO]; kernel_rfl
 obtain ⟨VV, hVV⟩ : ∃ V : Nat → Value → World → Prop, V = fun i => ([fun v _ => v = .agg #[.slice (some ⟨bI, 0, none⟩) 1 1, .slice (some ⟨bO, 0, none⟩) 1 1, .int .u64 0, .string ⟨#[]⟩, .string ⟨#[]⟩, .slice none 0 0], fun v _ => v = .string c, fun v _ => v = .string c, fun v _ => v = .bool true, fun v _ => v = .bool true, fun v _ => v = .agg #[.slice (some ⟨bI, 0, none⟩) 1 1, .slice (some ⟨bO, 0, none⟩) 1 1, .int .u64 0, .string ⟨#[]⟩, .string ⟨#[]⟩, .slice none 0 0], fun v _ => v = .string ii, fun v _ => v = .string c, fun v w => ∃ wB : World, v = .slice (some ⟨wB.heap.size, 0, none⟩) 1 1 ∧ Q (wB.alloc (.cells #[.string c] 9)) w, fun v _ => v = .string ii, fun v _ => v = .bool true, fun v _ => v = .bool true, fun v _ => v = .bool true, fun v _ => v = .string s, fun v _ => v = .string c, fun v _ => v = .int .i64 46, fun v _ => v = .int .u8 46, fun v w => ∃ wB : World, v = .slice (some ⟨wB.heap.size, 0, none⟩) 1 1 ∧ Q (wB.alloc (.cells #[.int .u8 46] 5)) w, fun v _ => v = .string l46, fun v _ => v = .string g1, fun v _ => v = .string c, fun v _ => v = .string g2, fun v _ => v = .string g3, fun v _ => v = .agg #[.int .u64 0, .string ⟨#[]⟩, .string ⟨#[]⟩, .slice none 0 0], fun v _ => v = .string pz, fun v _ => v = .string s, fun v _ => v = .bool true, fun v _ => v = .bool true, fun v _ => v = .bool true, fun v _ => v = .agg #[.slice (some ⟨bI, 0, none⟩) 1 1, .slice (some ⟨bO, 0, none⟩) 1 1, .int .u64 0, .string ⟨#[]⟩, .string ⟨#[]⟩, .slice none 0 0], fun v _ => v = .agg #[.slice aI u.nI cI, .slice aO u.nO cO, .int .u64 u.p.amount, .string u.p.sig, .string u.p.token, .slice aW u.p.n cW], fun v _ => v = .bool true, fun v _ => v = .bool true, fun v _ => v = .bool true, fun v _ => v = .int .i64 0, fun v _ => v = .bool true, fun v _ => v = .bool true, fun v _ => v = .bool true, fun v _ => v = .int .i64 4, fun v _ => v = .bool true, fun v _ => v = .bool true, fun v _ => v = .bool true, fun v _ => v = .int .i64 3, fun v _ => v = .bool true, fun v _ => v = .bool true, fun v _ => v = .bool true, fun v _ => v = .int .u64 7, fun v _ => v = .bool true, fun v _ => v = .bool true, fun v _ => v = .bool true, fun v _ => v = .int .i64 0, fun v _ => v = .bool true, fun v _ => v = .bool true, fun v _ => v = .bool true, fun v _ => v = .int .i64 2, fun v _ => v = .bool true, fun v _ => v = .bool true, fun v _ => v = .bool true, fun v _ => v = .string h, fun v _ => v = .agg #[.string h, .int .i64 2], fun v _ => v = .string nn, fun v _ => v = .string h, fun v w => ∃ wB : World, v = .slice (some ⟨wB.heap.size, 0, none⟩) 2 2 ∧ Q (wB.alloc (.cells #[.string h, .string ⟨#[2]⟩] 9)) w, fun v _ => v = .string nn, fun v _ => v = .bool true, fun v _ => v = .bool true, fun v _ => v = .bool true, fun v _ => v = .agg #[.int .i64 2, .int .u64 1, .string h, .string h, .int .i64 9, .string h, .int .u64 2, .int .i64 3, .string ⟨#[]⟩], fun v _ => v = .bool true, fun v _ => v = .bool true, fun v _ => v = .bool true, fun v _ => v = .agg #[.int .i64 3, .int .u64 1, .string h, .string h, .int .i64 9, .string ⟨#[]⟩, .int .u64 0, .int .i64 0, .string h], fun v _ => v = .bool true, fun v _ => v = .bool true, fun v _ => v = .bool true, fun v _ => v = .string h, fun v _ => v = .string h, fun v _ => v = .agg #[.int .i64 1, .int .u64 1, .string h, .string ⟨#[]⟩, .int .i64 0, .string ⟨#[]⟩, .int .u64 0, .int .i64 0, .string h], fun v _ => v = .bool false, fun v _ => v = .bool true, fun v _ => v = .bool true, fun v _ => v = .bool true, fun v _ => v = .agg #[.slice none 0 0, .slice none 0 0, .int .u64 0, .string ⟨#[]⟩, .string ⟨#[]⟩, .slice none 0 0], fun v _ => v = .bool false, fun v _ => v = .bool true, fun v _ => v = .bool true, fun v _ => v = .bool true, fun v _ => v = .agg #[.slice none 0 0, .slice none 0 0, .int .u64 0, .string ⟨#[]⟩, .string ⟨#[]⟩, .slice none 0 0], fun v _ => v = .string ⟨#[]⟩, fun v _ => v = .bool true, fun v _ => v = .bool true, fun v _ => v = .bool true] : List (Value → World → Prop)).getD i (fun _ _ => True) := ⟨_, rfl⟩
 have v_0 : VV 0 = fun v _ => v = .agg #[.slice (some ⟨bI, 0, none⟩) 1 1, .slice (some ⟨bO, 0, none⟩) 1 1, .int .u64 0, .string ⟨#[]⟩, .string ⟨#[]⟩, .slice none 0 0] := vat hVV 0
 have v_1 : VV 1 = fun v _ => v = .string c := vat hVV 1
 have v_2 : VV 2 = fun v _ => v = .string c := vat hVV 2
 have v_3 : VV 3 = fun v _ => v = .bool true := vat hVV 3
 have v_4 : VV 4 = fun v _ => v = .bool true := vat hVV 4
 have v_5 : VV 5 = fun v _ => v = .agg #[.slice (some ⟨bI, 0, none⟩) 1 1, .slice (some ⟨bO, 0, none⟩) 1 1, .int .u64 0, .string ⟨#[]⟩, .string ⟨#[]⟩, .slice none 0 0] := vat hVV 5
 have v_6 : VV 6 = fun v _ => v = .string ii := vat hVV 6
 have v_7 : VV 7 = fun v _ => v = .string c := vat hVV 7
 have v_8 : VV 8 = fun v w => ∃ wB : World, v = .slice (some ⟨wB.heap.size, 0, none⟩) 1 1 ∧ Q (wB.alloc (.cells #[.string c] 9)) w := vat hVV 8
 have v_9 : VV 9 = fun v _ => v = .string ii := vat hVV 9
 have v_10 : VV 10 = fun v _ => v = .bool true := vat hVV 10
 have v_11 : VV 11 = fun v _ => v = .bool true := vat hVV 11
 have v_12 : VV 12 = fun v _ => v = .bool true := vat hVV 12
 have v_13 : VV 13 = fun v _ => v = .string s := vat hVV 13
 have v_14 : VV 14 = fun v _ => v = .string c := vat hVV 14
 have v_15 : VV 15 = fun v _ => v = .int .i64 46 := vat hVV 15
 have v_16 : VV 16 = fun v _ => v = .int .u8 46 := vat hVV 16
 have v_17 : VV 17 = fun v w => ∃ wB : World, v = .slice (some ⟨wB.heap.size, 0, none⟩) 1 1 ∧ Q (wB.alloc (.cells #[.int .u8 46] 5)) w := vat hVV 17
 have v_18 : VV 18 = fun v _ => v = .string l46 := vat hVV 18
 have v_19 : VV 19 = fun v _ => v = .string g1 := vat hVV 19
 have v_20 : VV 20 = fun v _ => v = .string c := vat hVV 20
 have v_21 : VV 21 = fun v _ => v = .string g2 := vat hVV 21
 have v_22 : VV 22 = fun v _ => v = .string g3 := vat hVV 22
 have v_23 : VV 23 = fun v _ => v = .agg #[.int .u64 0, .string ⟨#[]⟩, .string ⟨#[]⟩, .slice none 0 0] := vat hVV 23
 have v_24 : VV 24 = fun v _ => v = .string pz := vat hVV 24
 have v_25 : VV 25 = fun v _ => v = .string s := vat hVV 25
 have v_26 : VV 26 = fun v _ => v = .bool true := vat hVV 26
 have v_27 : VV 27 = fun v _ => v = .bool true := vat hVV 27
 have v_28 : VV 28 = fun v _ => v = .bool true := vat hVV 28
 have v_29 : VV 29 = fun v _ => v = .agg #[.slice (some ⟨bI, 0, none⟩) 1 1, .slice (some ⟨bO, 0, none⟩) 1 1, .int .u64 0, .string ⟨#[]⟩, .string ⟨#[]⟩, .slice none 0 0] := vat hVV 29
 have v_30 : VV 30 = fun v _ => v = .agg #[.slice aI u.nI cI, .slice aO u.nO cO, .int .u64 u.p.amount, .string u.p.sig, .string u.p.token, .slice aW u.p.n cW] := vat hVV 30
 have v_31 : VV 31 = fun v _ => v = .bool true := vat hVV 31
 have v_32 : VV 32 = fun v _ => v = .bool true := vat hVV 32
 have v_33 : VV 33 = fun v _ => v = .bool true := vat hVV 33
 have v_34 : VV 34 = fun v _ => v = .int .i64 0 := vat hVV 34
 have v_35 : VV 35 = fun v _ => v = .bool true := vat hVV 35
 have v_36 : VV 36 = fun v _ => v = .bool true := vat hVV 36
 have v_37 : VV 37 = fun v _ => v = .bool true := vat hVV 37
 have v_38 : VV 38 = fun v _ => v = .int .i64 4 := vat hVV 38
 have v_39 : VV 39 = fun v _ => v = .bool true := vat hVV 39
 have v_40 : VV 40 = fun v _ => v = .bool true := vat hVV 40
 have v_41 : VV 41 = fun v _ => v = .bool true := vat hVV 41
 have v_42 : VV 42 = fun v _ => v = .int .i64 3 := vat hVV 42
 have v_43 : VV 43 = fun v _ => v = .bool true := vat hVV 43
 have v_44 : VV 44 = fun v _ => v = .bool true := vat hVV 44
 have v_45 : VV 45 = fun v _ => v = .bool true := vat hVV 45
 have v_46 : VV 46 = fun v _ => v = .int .u64 7 := vat hVV 46
 have v_47 : VV 47 = fun v _ => v = .bool true := vat hVV 47
 have v_48 : VV 48 = fun v _ => v = .bool true := vat hVV 48
 have v_49 : VV 49 = fun v _ => v = .bool true := vat hVV 49
 have v_50 : VV 50 = fun v _ => v = .int .i64 0 := vat hVV 50
 have v_51 : VV 51 = fun v _ => v = .bool true := vat hVV 51
 have v_52 : VV 52 = fun v _ => v = .bool true := vat hVV 52
 have v_53 : VV 53 = fun v _ => v = .bool true := vat hVV 53
 have v_54 : VV 54 = fun v _ => v = .int .i64 2 := vat hVV 54
 have v_55 : VV 55 = fun v _ => v = .bool true := vat hVV 55
 have v_56 : VV 56 = fun v _ => v = .bool true := vat hVV 56
 have v_57 : VV 57 = fun v _ => v = .bool true := vat hVV 57
 have v_58 : VV 58 = fun v _ => v = .string h := vat hVV 58
 have v_59 : VV 59 = fun v _ => v = .agg #[.string h, .int .i64 2] := vat hVV 59
 have v_60 : VV 60 = fun v _ => v = .string nn := vat hVV 60
 have v_61 : VV 61 = fun v _ => v = .string h := vat hVV 61
 have v_62 : VV 62 = fun v w => ∃ wB : World, v = .slice (some ⟨wB.heap.size, 0, none⟩) 2 2 ∧ Q (wB.alloc (.cells #[.string h, .string ⟨#[2]⟩] 9)) w := vat hVV 62
 have v_63 : VV 63 = fun v _ => v = .string nn := vat hVV 63
 have v_64 : VV 64 = fun v _ => v = .bool true := vat hVV 64
 have v_65 : VV 65 = fun v _ => v = .bool true := vat hVV 65
 have v_66 : VV 66 = fun v _ => v = .bool true := vat hVV 66
 have v_67 : VV 67 = fun v _ => v = .agg #[.int .i64 2, .int .u64 1, .string h, .string h, .int .i64 9, .string h, .int .u64 2, .int .i64 3, .string ⟨#[]⟩] := vat hVV 67
 have v_68 : VV 68 = fun v _ => v = .bool true := vat hVV 68
 have v_69 : VV 69 = fun v _ => v = .bool true := vat hVV 69
 have v_70 : VV 70 = fun v _ => v = .bool true := vat hVV 70
 have v_71 : VV 71 = fun v _ => v = .agg #[.int .i64 3, .int .u64 1, .string h, .string h, .int .i64 9, .string ⟨#[]⟩, .int .u64 0, .int .i64 0, .string h] := vat hVV 71
 have v_72 : VV 72 = fun v _ => v = .bool true := vat hVV 72
 have v_73 : VV 73 = fun v _ => v = .bool true := vat hVV 73
 have v_74 : VV 74 = fun v _ => v = .bool true := vat hVV 74
 have v_75 : VV 75 = fun v _ => v = .string h := vat hVV 75
 have v_76 : VV 76 = fun v _ => v = .string h := vat hVV 76
 have v_77 : VV 77 = fun v _ => v = .agg #[.int .i64 1, .int .u64 1, .string h, .string ⟨#[]⟩, .int .i64 0, .string ⟨#[]⟩, .int .u64 0, .int .i64 0, .string h] := vat hVV 77
 have v_78 : VV 78 = fun v _ => v = .bool false := vat hVV 78
 have v_79 : VV 79 = fun v _ => v = .bool true := vat hVV 79
 have v_80 : VV 80 = fun v _ => v = .bool true := vat hVV 80
 have v_81 : VV 81 = fun v _ => v = .bool true := vat hVV 81
 have v_82 : VV 82 = fun v _ => v = .agg #[.slice none 0 0, .slice none 0 0, .int .u64 0, .string ⟨#[]⟩, .string ⟨#[]⟩, .slice none 0 0] := vat hVV 82
 have v_83 : VV 83 = fun v _ => v = .bool false := vat hVV 83
 have v_84 : VV 84 = fun v _ => v = .bool true := vat hVV 84
 have v_85 : VV 85 = fun v _ => v = .bool true := vat hVV 85
 have v_86 : VV 86 = fun v _ => v = .bool true := vat hVV 86
 have v_87 : VV 87 = fun v _ => v = .agg #[.slice none 0 0, .slice none 0 0, .int .u64 0, .string ⟨#[]⟩, .string ⟨#[]⟩, .slice none 0 0] := vat hVV 87
 have v_88 : VV 88 = fun v _ => v = .string ⟨#[]⟩ := vat hVV 88
 have v_89 : VV 89 = fun v _ => v = .bool true := vat hVV 89
 have v_90 : VV 90 = fun v _ => v = .bool true := vat hVV 90
 have v_91 : VV 91 = fun v _ => v = .bool true := vat hVV 91
 have hV := stable_of (T := Q) hVV ((sl_cons (fun _ _ _ h _ => h) (sl_cons (fun _ _ _ h _ => h) (sl_cons (fun _ _ _ h _ => h) (sl_cons (fun _ _ _ h _ => h) (sl_cons (fun _ _ _ h _ => h) (sl_cons (fun _ _ _ h _ => h) (sl_cons (fun _ _ _ h _ => h) (sl_cons (fun _ _ _ h _ => h) (sl_cons (fun _ _ _ h q => by obtain ⟨wB, h1, h2⟩ := h; exact ⟨wB, h1, h2.trans q⟩) (sl_cons (fun _ _ _ h _ => h) (sl_cons (fun _ _ _ h _ => h) (sl_cons (fun _ _ _ h _ => h) (sl_cons (fun _ _ _ h _ => h) (sl_cons (fun _ _ _ h _ => h) (sl_cons (fun _ _ _ h _ => h) (sl_cons (fun _ _ _ h _ => h) (sl_cons (fun _ _ _ h _ => h) (sl_cons (fun _ _ _ h q => by obtain ⟨wB, h1, h2⟩ := h; exact ⟨wB, h1, h2.trans q⟩) (sl_cons (fun _ _ _ h _ => h) (sl_cons (fun _ _ _ h _ => h) (sl_cons (fun _ _ _ h _ => h) (sl_cons (fun _ _ _ h _ => h) (sl_cons (fun _ _ _ h _ => h) (sl_cons (fun _ _ _ h _ => h) (sl_cons (fun _ _ _ h _ => h) (sl_cons (fun _ _ _ h _ => h) (sl_cons (fun _ _ _ h _ => h) (sl_cons (fun _ _ _ h _ => h) (sl_cons (fun _ _ _ h _ => h) (sl_cons (fun _ _ _ h _ => h) (sl_cons (fun _ _ _ h _ => h) (sl_cons (fun _ _ _ h _ => h) (sl_cons (fun _ _ _ h _ => h) (sl_cons (fun _ _ _ h _ => h) (sl_cons (fun _ _ _ h _ => h) (sl_cons (fun _ _ _ h _ => h) (sl_cons (fun _ _ _ h _ => h) (sl_cons (fun _ _ _ h _ => h) (sl_cons (fun _ _ _ h _ => h) (sl_cons (fun _ _ _ h _ => h) (sl_cons (fun _ _ _ h _ => h) (sl_cons (fun _ _ _ h _ => h) (sl_cons (fun _ _ _ h _ => h) (sl_cons (fun _ _ _ h _ => h) (sl_cons (fun _ _ _ h _ => h) (sl_cons (fun _ _ _ h _ => h) (sl_cons (fun _ _ _ h _ => h) (sl_cons (fun _ _ _ h _ => h) (sl_cons (fun _ _ _ h _ => h) (sl_cons (fun _ _ _ h _ => h) (sl_cons (fun _ _ _ h _ => h) (sl_cons (fun _ _ _ h _ => h) (sl_cons (fun _ _ _ h _ => h) (sl_cons (fun _ _ _ h _ => h) (sl_cons (fun _ _ _ h _ => h) (sl_cons (fun _ _ _ h _ => h) (sl_cons (fun _ _ _ h _ => h) (sl_cons (fun _ _ _ h _ => h) (sl_cons (fun _ _ _ h _ => h) (sl_cons (fun _ _ _ h _ => h) (sl_cons (fun _ _ _ h _ => h) (sl_cons (fun _ _ _ h _ => h) (sl_cons (fun _ _ _ h q => by obtain ⟨wB, h1, h2⟩ := h; exact ⟨wB, h1, h2.trans q⟩) (sl_cons (fun _ _ _ h _ => h) (sl_cons (fun _ _ _ h _ => h) (sl_cons (fun _ _ _ h _ => h) (sl_cons (fun _ _ _ h _ => h) (sl_cons (fun _ _ _ h _ => h) (sl_cons (fun _ _ _ h _ => h) (sl_cons (fun _ _ _ h _ => h) (sl_cons (fun _ _ _ h _ => h) (sl_cons (fun _ _ _ h _ => h) (sl_cons (fun _ _ _ h _ => h) (sl_cons (fun _ _ _ h _ => h) (sl_cons (fun _ _ _ h _ => h) (sl_cons (fun _ _ _ h _ => h) (sl_cons (fun _ _ _ h _ => h) (sl_cons (fun _ _ _ h _ => h) (sl_cons (fun _ _ _ h _ => h) (sl_cons (fun _ _ _ h _ => h) (sl_cons (fun _ _ _ h _ => h) (sl_cons (fun _ _ _ h _ => h) (sl_cons (fun _ _ _ h _ => h) (sl_cons (fun _ _ _ h _ => h) (sl_cons (fun _ _ _ h _ => h) (sl_cons (fun _ _ _ h _ => h) (sl_cons (fun _ _ _ h _ => h) (sl_cons (fun _ _ _ h _ => h) (sl_cons (fun _ _ _ h _ => h) (sl_cons (fun _ _ _ h _ => h) (sl_cons (fun _ _ _ h _ => h) (sl_cons (fun _ _ _ h _ => h) trivial)))))))))))))))))))))))))))))))))))))))))))))))))))))))))))))))))))))))))))))))))))))))))))))
 clear hVV
 have i_0 := pget_at hO 0 rfl
 have i_1 := pget_at hO 1 rfl
 have i_2 := pget_at hO 2 rfl
 have i_3 := pget_at hO 3 rfl
 have i_4 := pget_at hO 4 rfl
 have i_5 := pget_at hO 5 rfl
 have i_6 := pget_at hO 6 rfl
 have i_7 := pget_at hO 7 rfl
 have i_8 := pget_at hO 8 rfl
 have i_9 := pget_at hO 9 rfl
 have i_10 := pget_at hO 10 rfl
 have i_11 := pget_at hO 11 rfl
 have i_12 := pget_at hO 12 rfl
 have i_13 := pget_at hO 13 rfl
 have i_14 := pget_at hO 14 rfl
 have i_15 := pget_at hO 15 rfl
 have i_16 := pget_at hO 16 rfl
 have i_17 := pget_at hO 17 rfl
 have i_18 := pget_at hO 18 rfl
 have i_19 := pget_at hO 19 rfl
 have i_20 := pget_at hO 20 rfl
 have i_21 := pget_at hO 21 rfl
 have i_22 := pget_at hO 22 rfl
 have i_23 := pget_at hO 23 rfl
 have i_24 := pget_at hO 24 rfl
 have i_25 := pget_at hO 25 rfl
 have i_26 := pget_at hO 26 rfl
 have i_27 := pget_at hO 27 rfl
 have i_28 := pget_at hO 28 rfl
 have i_29 := pget_at hO 29 rfl
 have i_30 := pget_at hO 30 rfl
 have i_31 := pget_at hO 31 rfl
 have i_32 := pget_at hO 32 rfl
 have i_33 := pget_at hO 33 rfl
 have i_34 := pget_at hO 34 rfl
 have i_35 := pget_at hO 35 rfl
 have i_36 := pget_at hO 36 rfl
 have i_37 := pget_at hO 37 rfl
 have i_38 := pget_at hO 38 rfl
 have i_39 := pget_at hO 39 rfl
 have i_40 := pget_at hO 40 rfl
 have i_41 := pget_at hO 41 rfl
 have i_42 := pget_at hO 42 rfl
 have i_43 := pget_at hO 43 rfl
 have i_44 := pget_at hO 44 rfl
 have i_45 := pget_at hO 45 rfl
 have i_46 := pget_at hO 46 rfl
 have i_47 := pget_at hO 47 rfl
 have i_48 := pget_at hO 48 rfl
 have i_49 := pget_at hO 49 rfl
 have i_50 := pget_at hO 50 rfl
 have i_51 := pget_at hO 51 rfl
 have i_52 := pget_at hO 52 rfl
 have i_53 := pget_at hO 53 rfl
 have i_54 := pget_at hO 54 rfl
 have i_55 := pget_at hO 55 rfl
 have i_56 := pget_at hO 56 rfl
 have i_57 := pget_at hO 57 rfl
 have i_58 := pget_at hO 58 rfl
 have i_59 := pget_at hO 59 rfl
 have i_60 := pget_at hO 60 rfl
 have i_61 := pget_at hO 61 rfl
 have i_62 := pget_at hO 62 rfl
 have i_63 := pget_at hO 63 rfl
 have i_64 := pget_at hO 64 rfl
 have i_65 := pget_at hO 65 rfl
 have i_66 := pget_at hO 66 rfl
 have i_67 := pget_at hO 67 rfl
 have i_68 := pget_at hO 68 rfl
 have i_69 := pget_at hO 69 rfl
 have i_70 := pget_at hO 70 rfl
 have i_71 := pget_at hO 71 rfl
 have i_72 := pget_at hO 72 rfl
 have i_73 := pget_at hO 73 rfl
 have i_74 := pget_at hO 74 rfl
 have i_75 := pget_at hO 75 rfl
 have i_76 := pget_at hO 76 rfl
 have i_77 := pget_at hO 77 rfl
 have i_78 := pget_at hO 78 rfl
 have i_79 := pget_at hO 79 rfl
 have i_80 := pget_at hO 80 rfl
 have i_81 := pget_at hO 81 rfl
 have i_82 := pget_at hO 82 rfl
 have i_83 := pget_at hO 83 rfl
 have i_84 := pget_at hO 84 rfl
 have i_85 := pget_at hO 85 rfl
 have i_86 := pget_at hO 86 rfl
 have i_87 := pget_at hO 87 rfl
 have i_88 := pget_at hO 88 rfl
 have i_89 := pget_at hO 89 rfl
 have i_90 := pget_at hO 90 rfl
 have i_91 := pget_at hO 91 rfl
 have MK1 := @Step.pure Tryz.prog OPS QQ VV Q (Q w14) A0
 have s_0 := MK1 i_0 (.agg #[.slice (some ⟨bI, 0, none⟩) 1 1, .slice (some ⟨bO, 0, none⟩) 1 1, .int .u64 0, .string ⟨#[]⟩, .string ⟨#[]⟩, .slice none 0 0]) (Q.refl ·) (fun l a w hI hl => ⟨wanted_none rfl, ex_load 29 rfl b2 [.slice (some ⟨bI, 0, none⟩) 1 1, .slice (some ⟨bO, 0, none⟩) 1 1, .int .u64 0, .string ⟨#[]⟩, .string ⟨#[]⟩, .slice none 0 0] _ ((hI.base 2 fr_2).trans b_2) ((RC w hI.st).1.b.range) Tryz.underlying29 rfl (by kernel_rfl), at_mk v_0 rfl⟩)
 have s_1 := Step.call (P := Tryz.prog) (V := VV) (T := Q) (S := (Q w14)) (a0 := A0) (Qx := QQ) (R := fun _ _ _ => True) i_1 (fun l a w hI hl => by
  refine ⟨wanted_none rfl, 16, #[.agg #[.slice (some ⟨bI, 0, none⟩) 1 1, .slice (some ⟨bO, 0, none⟩) 1 1, .int .u64 0, .string ⟨#[]⟩, .string ⟨#[]⟩, .slice none 0 0]], ?_, ?_⟩
  · exact ex_call rfl (by simp only [List.map_toArray, List.map_cons, List.map_nil, ev_const, (show a.eval (.tmp 69) = _ from (at_eq v_0 (hI.at_ 0 69 _ i_0 rfl (hl_at hl 0 rfl rfl))))]) Tryz.func16 (by kernel_rfl) (by kernel_rfl)
  · exact (CORE.out _ (RC w hI.st).1).mono fun e w' hc => by
     obtain ⟨rfl, hq⟩ := hc
     exact ⟨_, rfl, hq, hI.st.trans hq, at_mk v_1 rfl⟩)
 have s_2 := MK1 i_2 (.string c) (Q.refl ·) (fun l a w hI hl => ⟨wanted_none rfl, ex_move rfl ((hI.base 3 fr_3).trans b_3), at_mk v_2 rfl⟩)
 have s_3 := MK1 i_3 (.bool true) (Q.refl ·) (fun l a w hI hl => ⟨wanted_none rfl, ex_bin rfl (at_eq v_1 (hI.at_ 1 70 _ i_1 rfl (hl_at hl 0 rfl rfl))) (at_eq v_2 (hI.at_ 2 71 _ i_2 rfl (hl_at hl 1 rfl rfl))) (eqs_same _ _ _ _ _), at_mk v_3 rfl⟩)
 have s_4 := MK1 i_4 (.bool true) (Q.refl ·) (fun l a w hI hl => ⟨wanted_none rfl, ex_move rfl (at_eq v_3 (hI.at_ 3 72 _ i_3 rfl (hl_at hl 0 rfl rfl))), at_mk v_4 rfl⟩)
 have s_5 := MK1 i_5 (.agg #[.slice (some ⟨bI, 0, none⟩) 1 1, .slice (some ⟨bO, 0, none⟩) 1 1, .int .u64 0, .string ⟨#[]⟩, .string ⟨#[]⟩, .slice none 0 0]) (Q.refl ·) (fun l a w hI hl => ⟨wanted_of rfl i_4 rfl (lt_of hI hz rfl) (at_eq v_4 (hI.at_ 4 73 _ i_4 rfl (hl_at hl 0 rfl rfl))), ex_load 29 rfl b2 [.slice (some ⟨bI, 0, none⟩) 1 1, .slice (some ⟨bO, 0, none⟩) 1 1, .int .u64 0, .string ⟨#[]⟩, .string ⟨#[]⟩, .slice none 0 0] _ ((hI.base 2 fr_2).trans b_2) ((RC w hI.st).1.b.range) Tryz.underlying29 rfl (by kernel_rfl), at_mk v_5 rfl⟩)
 have s_6 := Step.call (P := Tryz.prog) (V := VV) (T := Q) (S := (Q w14)) (a0 := A0) (Qx := QQ) (R := fun _ _ _ => True) i_6 (fun l a w hI hl => by
  refine ⟨wanted_of rfl i_4 rfl (lt_of hI hz rfl) (at_eq v_4 (hI.at_ 4 73 _ i_4 rfl (hl_at hl 1 rfl rfl))), 18, #[.agg #[.slice (some ⟨bI, 0, none⟩) 1 1, .slice (some ⟨bO, 0, none⟩) 1 1, .int .u64 0, .string ⟨#[]⟩, .string ⟨#[]⟩, .slice none 0 0]], ?_, ?_⟩
  · exact ex_call rfl (by simp only [List.map_toArray, List.map_cons, List.map_nil, ev_const, (show a.eval (.tmp 74) = _ from (at_eq v_5 (hI.at_ 5 74 _ i_5 rfl (hl_at hl 0 rfl rfl))))]) Tryz.func18 (by kernel_rfl) (by kernel_rfl)
  · exact (CID.out _ (RC w hI.st).1).mono fun e w' hc => by
     obtain ⟨rfl, hq⟩ := hc
     exact ⟨_, rfl, hq, hI.st.trans hq, at_mk v_6 rfl⟩)
 have s_7 := MK1 i_7 (.string c) (Q.refl ·) (fun l a w hI hl => ⟨wanted_of rfl i_4 rfl (lt_of hI hz rfl) (at_eq v_4 (hI.at_ 4 73 _ i_4 rfl (hl_at hl 0 rfl rfl))), ex_move rfl ((hI.base 3 fr_3).trans b_3), at_mk v_7 rfl⟩)
 have MK2 := @Step.done Tryz.prog OPS QQ VV Q (Q w14) A0
 have s_8 := MK2 i_8 (fun l a w hI hl => by
  refine ⟨wanted_of rfl i_4 rfl (lt_of hI hz rfl) (at_eq v_4 (hI.at_ 4 73 _ i_4 rfl (hl_at hl 1 rfl rfl))), ?_⟩
  refine wpo_s1 (c) rfl (at_eq v_7 (hI.at_ 7 76 _ i_7 rfl (hl_at hl 0 rfl rfl))) ?_
  exact ⟨_, rfl, (Q.refl w).alloc _, hI.st.alloc _, p_at v_8 ⟨w, rfl, Q.refl _⟩⟩)
 have s_9 := MK2 i_9 (fun l a w hI hl => by
  obtain ⟨wB, eB, qB⟩ := at_p v_8 (hI.at_ 8 77 _ i_8 rfl (hl_at hl 0 rfl rfl))
  refine ⟨wanted_of rfl i_4 rfl (lt_of hI hz rfl) (at_eq v_4 (hI.at_ 4 73 _ i_4 rfl (hl_at hl 2 rfl rfl))), ?_⟩
  refine wp_enter (f := 71) (args := #[.string ⟨#[116, 120]⟩, .slice (some ⟨wB.heap.size, 0, none⟩) 1 1]) ?_ ?_
  · exact ex_call rfl (by simp only [List.map_toArray, List.map_cons, List.map_nil, ev_const, eB]) Tryz.func71 (by kernel_rfl) (by kernel_rfl)
  · refine (tag1_at wTx c ii TI.out 9 wB w qB (hG.q (RC w hI.st).1.q) (by decide) zc).mono fun e w' hc => ?_
    obtain ⟨rfl, hq⟩ := hc
    exact ⟨_, rfl, hq, hI.st.trans hq, at_mk v_9 rfl⟩)
 have s_10 := MK1 i_10 (.bool true) (Q.refl ·) (fun l a w hI hl => ⟨wanted_of rfl i_4 rfl (lt_of hI hz rfl) (at_eq v_4 (hI.at_ 4 73 _ i_4 rfl (hl_at hl 2 rfl rfl))), ex_bin rfl (at_eq v_6 (hI.at_ 6 75 _ i_6 rfl (hl_at hl 0 rfl rfl))) (at_eq v_9 (hI.at_ 9 78 _ i_9 rfl (hl_at hl 1 rfl rfl))) (eqs_same _ _ _ _ _), at_mk v_10 rfl⟩)
 have s_11 := MK1 i_11 (.bool true) (Q.refl ·) (fun l a w hI hl => ⟨wanted_none rfl, ex_pick_t rfl (at_eq v_4 (hI.at_ 4 73 _ i_4 rfl (hl_at hl 0 rfl rfl))) (at_eq v_10 (hI.at_ 10 79 _ i_10 rfl (hl_at hl 1 rfl rfl))), at_mk v_11 rfl⟩)
 have s_12 := MK1 i_12 (.bool true) (Q.refl ·) (fun l a w hI hl => ⟨wanted_none rfl, ex_move rfl (at_eq v_11 (hI.at_ 11 80 _ i_11 rfl (hl_at hl 0 rfl rfl))), at_mk v_12 rfl⟩)
 have s_13 := MK1 i_13 (.string s) (Q.refl ·) (fun l a w hI hl => ⟨wanted_of rfl i_12 rfl (lt_of hI hz rfl) (at_eq v_12 (hI.at_ 12 81 _ i_12 rfl (hl_at hl 0 rfl rfl))), ex_move rfl ((hI.base 4 fr_4).trans b_4), at_mk v_13 rfl⟩)
 have s_14 := MK1 i_14 (.string c) (Q.refl ·) (fun l a w hI hl => ⟨wanted_of rfl i_12 rfl (lt_of hI hz rfl) (at_eq v_12 (hI.at_ 12 81 _ i_12 rfl (hl_at hl 0 rfl rfl))), ex_move rfl ((hI.base 3 fr_3).trans b_3), at_mk v_14 rfl⟩)
 have s_15 := MK1 i_15 (.int .i64 46) (Q.refl ·) (fun l a w hI hl => ⟨wanted_of rfl i_12 rfl (lt_of hI hz rfl) (at_eq v_12 (hI.at_ 12 81 _ i_12 rfl (hl_at hl 1 rfl rfl))), ex_len rfl Tryz.underlying9 (at_eq v_14 (hI.at_ 14 83 _ i_14 rfl (hl_at hl 0 rfl rfl))) y3', at_mk v_15 rfl⟩)
 have s_16 := MK1 i_16 (.int .u8 46) (Q.refl ·) (fun l a w hI hl => ⟨wanted_of rfl i_12 rfl (lt_of hI hz rfl) (at_eq v_12 (hI.at_ 12 81 _ i_12 rfl (hl_at hl 1 rfl rfl))), ex_conv rfl (at_eq v_15 (hI.at_ 15 84 _ i_15 rfl (hl_at hl 0 rfl rfl))) (by kernel_rfl), at_mk v_16 rfl⟩)
 have s_17 := MK2 i_17 (fun l a w hI hl => by
  refine ⟨wanted_of rfl i_12 rfl (lt_of hI hz rfl) (at_eq v_12 (hI.at_ 12 81 _ i_12 rfl (hl_at hl 1 rfl rfl))), ?_⟩
  refine wpo_u1 (46) rfl (at_eq v_16 (hI.at_ 16 85 _ i_16 rfl (hl_at hl 0 rfl rfl))) ?_
  exact ⟨_, rfl, (Q.refl w).alloc _, hI.st.alloc _, p_at v_17 ⟨w, rfl, Q.refl _⟩⟩)
 have s_18 := MK2 i_18 (fun l a w hI hl => by
  obtain ⟨wB, eB, qB⟩ := at_p v_17 (hI.at_ 17 86 _ i_17 rfl (hl_at hl 0 rfl rfl))
  refine ⟨wanted_of rfl i_12 rfl (lt_of hI hz rfl) (at_eq v_12 (hI.at_ 12 81 _ i_12 rfl (hl_at hl 1 rfl rfl))), ?_⟩
  refine wp_value (v := .string l46) (ex_conv rfl eB ?_) ⟨_, rfl, Q.refl _, hI.st, at_mk v_18 rfl⟩
  have cv := conv_at w wB.heap.size 46 (Q.cell' qB (by rw [World.cell?_alloc_at _ _ _ _ rfl]; rfl))
  rw [CL.out] at cv
  exact cv)
 have s_19 := MK1 i_19 (.string g1) (Q.refl ·) (fun l a w hI hl => ⟨wanted_of rfl i_12 rfl (lt_of hI hz rfl) (at_eq v_12 (hI.at_ 12 81 _ i_12 rfl (hl_at hl 1 rfl rfl))), ex_bin rfl rfl (at_eq v_18 (hI.at_ 18 87 _ i_18 rfl (hl_at hl 0 rfl rfl))) (cats (by first | decide | omega) (by first | decide | omega) e1), at_mk v_19 rfl⟩)
 have s_20 := MK1 i_20 (.string c) (Q.refl ·) (fun l a w hI hl => ⟨wanted_of rfl i_12 rfl (lt_of hI hz rfl) (at_eq v_12 (hI.at_ 12 81 _ i_12 rfl (hl_at hl 0 rfl rfl))), ex_move rfl ((hI.base 3 fr_3).trans b_3), at_mk v_20 rfl⟩)
 have s_21 := MK1 i_21 (.string g2) (Q.refl ·) (fun l a w hI hl => ⟨wanted_of rfl i_12 rfl (lt_of hI hz rfl) (at_eq v_12 (hI.at_ 12 81 _ i_12 rfl (hl_at hl 2 rfl rfl))), ex_bin rfl (at_eq v_19 (hI.at_ 19 88 _ i_19 rfl (hl_at hl 0 rfl rfl))) (at_eq v_20 (hI.at_ 20 89 _ i_20 rfl (hl_at hl 1 rfl rfl))) (cats (by first | decide | omega) (by first | decide | omega) e2), at_mk v_21 rfl⟩)
 have s_22 := MK1 i_22 (.string g3) (Q.refl ·) (fun l a w hI hl => ⟨wanted_of rfl i_12 rfl (lt_of hI hz rfl) (at_eq v_12 (hI.at_ 12 81 _ i_12 rfl (hl_at hl 1 rfl rfl))), ex_bin rfl (at_eq v_21 (hI.at_ 21 90 _ i_21 rfl (hl_at hl 0 rfl rfl))) rfl (cats (by first | decide | omega) (by first | decide | omega) e3), at_mk v_22 rfl⟩)
 have s_23 := MK1 i_23 (.agg #[.int .u64 0, .string ⟨#[]⟩, .string ⟨#[]⟩, .slice none 0 0]) (Q.refl ·) (fun l a w hI hl => ⟨wanted_of rfl i_12 rfl (lt_of hI hz rfl) (at_eq v_12 (hI.at_ 12 81 _ i_12 rfl (hl_at hl 0 rfl rfl))), ex_build rfl (by simp only [List.map_toArray, List.map_cons, List.map_nil]; exact built_pzero), at_mk v_23 rfl⟩)
 have s_24 := Step.call (P := Tryz.prog) (V := VV) (T := Q) (S := (Q w14)) (a0 := A0) (Qx := QQ) (R := fun _ _ _ => True) i_24 (fun l a w hI hl => by
  refine ⟨wanted_of rfl i_12 rfl (lt_of hI hz rfl) (at_eq v_12 (hI.at_ 12 81 _ i_12 rfl (hl_at hl 1 rfl rfl))), 74, #[.agg #[.int .u64 0, .string ⟨#[]⟩, .string ⟨#[]⟩, .slice none 0 0]], ?_, ?_⟩
  · exact ex_call rfl (by simp only [List.map_toArray, List.map_cons, List.map_nil, ev_const, (show a.eval (.tmp 92) = _ from (at_eq v_23 (hI.at_ 23 92 _ i_23 rfl (hl_at hl 0 rfl rfl))))]) Tryz.func74 (by kernel_rfl) (by kernel_rfl)
  · exact (CENC.out _).mono fun e w' hc => by
     obtain ⟨rfl, hq⟩ := hc
     exact ⟨_, rfl, hq, hI.st.trans hq, at_mk v_24 rfl⟩)
 have s_25 := MK1 i_25 (.string s) (Q.refl ·) (fun l a w hI hl => ⟨wanted_of rfl i_12 rfl (lt_of hI hz rfl) (at_eq v_12 (hI.at_ 12 81 _ i_12 rfl (hl_at hl 2 rfl rfl))), ex_bin rfl (at_eq v_22 (hI.at_ 22 91 _ i_22 rfl (hl_at hl 0 rfl rfl))) (at_eq v_24 (hI.at_ 24 93 _ i_24 rfl (hl_at hl 1 rfl rfl))) (cats (by first | decide | omega) (by first | decide | omega) e4), at_mk v_25 rfl⟩)
 have s_26 := MK1 i_26 (.bool true) (Q.refl ·) (fun l a w hI hl => ⟨wanted_of rfl i_12 rfl (lt_of hI hz rfl) (at_eq v_12 (hI.at_ 12 81 _ i_12 rfl (hl_at hl 2 rfl rfl))), ex_bin rfl (at_eq v_13 (hI.at_ 13 82 _ i_13 rfl (hl_at hl 0 rfl rfl))) (at_eq v_25 (hI.at_ 25 94 _ i_25 rfl (hl_at hl 1 rfl rfl))) (eqs_same _ _ _ _ _), at_mk v_26 rfl⟩)
 have s_27 := MK1 i_27 (.bool true) (Q.refl ·) (fun l a w hI hl => ⟨wanted_none rfl, ex_pick_t rfl (at_eq v_12 (hI.at_ 12 81 _ i_12 rfl (hl_at hl 0 rfl rfl))) (at_eq v_26 (hI.at_ 26 95 _ i_26 rfl (hl_at hl 1 rfl rfl))), at_mk v_27 rfl⟩)
 have s_28 := MK1 i_28 (.bool true) (Q.refl ·) (fun l a w hI hl => ⟨wanted_none rfl, ex_move rfl (at_eq v_27 (hI.at_ 27 96 _ i_27 rfl (hl_at hl 0 rfl rfl))), at_mk v_28 rfl⟩)
 have s_29 := MK1 i_29 (.agg #[.slice (some ⟨bI, 0, none⟩) 1 1, .slice (some ⟨bO, 0, none⟩) 1 1, .int .u64 0, .string ⟨#[]⟩, .string ⟨#[]⟩, .slice none 0 0]) (Q.refl ·) (fun l a w hI hl => ⟨wanted_of rfl i_28 rfl (lt_of hI hz rfl) (at_eq v_28 (hI.at_ 28 97 _ i_28 rfl (hl_at hl 0 rfl rfl))), ex_load 29 rfl b2 [.slice (some ⟨bI, 0, none⟩) 1 1, .slice (some ⟨bO, 0, none⟩) 1 1, .int .u64 0, .string ⟨#[]⟩, .string ⟨#[]⟩, .slice none 0 0] _ ((hI.base 2 fr_2).trans b_2) ((RC w hI.st).1.b.range) Tryz.underlying29 rfl (by kernel_rfl), at_mk v_29 rfl⟩)
 have s_30 := MK1 i_30 (.agg #[.slice aI u.nI cI, .slice aO u.nO cO, .int .u64 u.p.amount, .string u.p.sig, .string u.p.token, .slice aW u.p.n cW]) (Q.refl ·) (fun l a w hI hl => ⟨wanted_of rfl i_28 rfl (lt_of hI hz rfl) (at_eq v_28 (hI.at_ 28 97 _ i_28 rfl (hl_at hl 0 rfl rfl))), ex_load 29 rfl b5 [.slice aI u.nI cI, .slice aO u.nO cO, .int .u64 u.p.amount, .string u.p.sig, .string u.p.token, .slice aW u.p.n cW] _ ((hI.base 5 fr_5).trans b_5) ((RC w hI.st).2.1.b.range) Tryz.underlying29 rfl (by kernel_rfl), at_mk v_30 rfl⟩)
 have s_31 := Step.call (P := Tryz.prog) (V := VV) (T := Q) (S := (Q w14)) (a0 := A0) (Qx := QQ) (R := fun _ _ _ => True) i_31 (fun l a w hI hl => by
  refine ⟨wanted_of rfl i_28 rfl (lt_of hI hz rfl) (at_eq v_28 (hI.at_ 28 97 _ i_28 rfl (hl_at hl 2 rfl rfl))), 13, #[.agg #[.slice (some ⟨bI, 0, none⟩) 1 1, .slice (some ⟨bO, 0, none⟩) 1 1, .int .u64 0, .string ⟨#[]⟩, .string ⟨#[]⟩, .slice none 0 0], .agg #[.slice aI u.nI cI, .slice aO u.nO cO, .int .u64 u.p.amount, .string u.p.sig, .string u.p.token, .slice aW u.p.n cW]], ?_, ?_⟩
  · exact ex_call rfl (by simp only [List.map_toArray, List.map_cons, List.map_nil, ev_const, (show a.eval (.tmp 98) = _ from (at_eq v_29 (hI.at_ 29 98 _ i_29 rfl (hl_at hl 0 rfl rfl)))), (show a.eval (.tmp 99) = _ from (at_eq v_30 (hI.at_ 30 99 _ i_30 rfl (hl_at hl 1 rfl rfl))))]) Tryz.func13 (by kernel_rfl) (by kernel_rfl)
  · exact (CSAM.out _ (RC w hI.st).1 (RC w hI.st).2.1).mono fun e w' hc => by
     obtain ⟨rfl, hq⟩ := hc
     exact ⟨_, rfl, hq, hI.st.trans hq, at_mk v_31 rfl⟩)
 have s_32 := MK1 i_32 (.bool true) (Q.refl ·) (fun l a w hI hl => ⟨wanted_none rfl, ex_pick_t rfl (at_eq v_28 (hI.at_ 28 97 _ i_28 rfl (hl_at hl 0 rfl rfl))) (at_eq v_31 (hI.at_ 31 100 _ i_31 rfl (hl_at hl 1 rfl rfl))), at_mk v_32 rfl⟩)
 have s_33 := MK1 i_33 (.bool true) (Q.refl ·) (fun l a w hI hl => ⟨wanted_none rfl, ex_move rfl (at_eq v_32 (hI.at_ 32 101 _ i_32 rfl (hl_at hl 0 rfl rfl))), at_mk v_33 rfl⟩)
 have s_34 := MK1 i_34 (.int .i64 0) (Q.refl ·) (fun l a w hI hl => ⟨wanted_of rfl i_33 rfl (lt_of hI hz rfl) (at_eq v_33 (hI.at_ 33 102 _ i_33 rfl (hl_at hl 0 rfl rfl))), ex_move rfl ((hI.base 6 fr_6).trans b_6), at_mk v_34 rfl⟩)
 have s_35 := MK1 i_35 (.bool true) (Q.refl ·) (fun l a w hI hl => ⟨wanted_of rfl i_33 rfl (lt_of hI hz rfl) (at_eq v_33 (hI.at_ 33 102 _ i_33 rfl (hl_at hl 1 rfl rfl))), ex_bin rfl (at_eq v_34 (hI.at_ 34 103 _ i_34 rfl (hl_at hl 0 rfl rfl))) rfl (by kernel_rfl), at_mk v_35 rfl⟩)
 have s_36 := MK1 i_36 (.bool true) (Q.refl ·) (fun l a w hI hl => ⟨wanted_none rfl, ex_pick_t rfl (at_eq v_33 (hI.at_ 33 102 _ i_33 rfl (hl_at hl 0 rfl rfl))) (at_eq v_35 (hI.at_ 35 104 _ i_35 rfl (hl_at hl 1 rfl rfl))), at_mk v_36 rfl⟩)
 have s_37 := MK1 i_37 (.bool true) (Q.refl ·) (fun l a w hI hl => ⟨wanted_none rfl, ex_move rfl (at_eq v_36 (hI.at_ 36 105 _ i_36 rfl (hl_at hl 0 rfl rfl))), at_mk v_37 rfl⟩)
 have s_38 := MK1 i_38 (.int .i64 4) (Q.refl ·) (fun l a w hI hl => ⟨wanted_of rfl i_37 rfl (lt_of hI hz rfl) (at_eq v_37 (hI.at_ 37 106 _ i_37 rfl (hl_at hl 0 rfl rfl))), ex_move rfl ((hI.base 8 fr_8).trans b_8), at_mk v_38 rfl⟩)
 have s_39 := MK1 i_39 (.bool true) (Q.refl ·) (fun l a w hI hl => ⟨wanted_of rfl i_37 rfl (lt_of hI hz rfl) (at_eq v_37 (hI.at_ 37 106 _ i_37 rfl (hl_at hl 1 rfl rfl))), ex_bin rfl (at_eq v_38 (hI.at_ 38 107 _ i_38 rfl (hl_at hl 0 rfl rfl))) rfl (by kernel_rfl), at_mk v_39 rfl⟩)
 have s_40 := MK1 i_40 (.bool true) (Q.refl ·) (fun l a w hI hl => ⟨wanted_none rfl, ex_pick_t rfl (at_eq v_37 (hI.at_ 37 106 _ i_37 rfl (hl_at hl 0 rfl rfl))) (at_eq v_39 (hI.at_ 39 108 _ i_39 rfl (hl_at hl 1 rfl rfl))), at_mk v_40 rfl⟩)
 have s_41 := MK1 i_41 (.bool true) (Q.refl ·) (fun l a w hI hl => ⟨wanted_none rfl, ex_move rfl (at_eq v_40 (hI.at_ 40 109 _ i_40 rfl (hl_at hl 0 rfl rfl))), at_mk v_41 rfl⟩)
 have s_42 := MK1 i_42 (.int .i64 3) (Q.refl ·) (fun l a w hI hl => ⟨wanted_of rfl i_41 rfl (lt_of hI hz rfl) (at_eq v_41 (hI.at_ 41 110 _ i_41 rfl (hl_at hl 0 rfl rfl))), ex_move rfl ((hI.base 10 fr_10).trans b_10), at_mk v_42 rfl⟩)
 have s_43 := MK1 i_43 (.bool true) (Q.refl ·) (fun l a w hI hl => ⟨wanted_of rfl i_41 rfl (lt_of hI hz rfl) (at_eq v_41 (hI.at_ 41 110 _ i_41 rfl (hl_at hl 1 rfl rfl))), ex_bin rfl (at_eq v_42 (hI.at_ 42 111 _ i_42 rfl (hl_at hl 0 rfl rfl))) rfl (by kernel_rfl), at_mk v_43 rfl⟩)
 have s_44 := MK1 i_44 (.bool true) (Q.refl ·) (fun l a w hI hl => ⟨wanted_none rfl, ex_pick_t rfl (at_eq v_41 (hI.at_ 41 110 _ i_41 rfl (hl_at hl 0 rfl rfl))) (at_eq v_43 (hI.at_ 43 112 _ i_43 rfl (hl_at hl 1 rfl rfl))), at_mk v_44 rfl⟩)
 have s_45 := MK1 i_45 (.bool true) (Q.refl ·) (fun l a w hI hl => ⟨wanted_none rfl, ex_move rfl (at_eq v_44 (hI.at_ 44 113 _ i_44 rfl (hl_at hl 0 rfl rfl))), at_mk v_45 rfl⟩)
 have s_46 := MK1 i_46 (.int .u64 7) (Q.refl ·) (fun l a w hI hl => ⟨wanted_of rfl i_45 rfl (lt_of hI hz rfl) (at_eq v_45 (hI.at_ 45 114 _ i_45 rfl (hl_at hl 0 rfl rfl))), ex_move rfl ((hI.base 11 fr_11).trans b_11), at_mk v_46 rfl⟩)
 have s_47 := MK1 i_47 (.bool true) (Q.refl ·) (fun l a w hI hl => ⟨wanted_of rfl i_45 rfl (lt_of hI hz rfl) (at_eq v_45 (hI.at_ 45 114 _ i_45 rfl (hl_at hl 1 rfl rfl))), ex_bin rfl (at_eq v_46 (hI.at_ 46 115 _ i_46 rfl (hl_at hl 0 rfl rfl))) rfl (by kernel_rfl), at_mk v_47 rfl⟩)
 have s_48 := MK1 i_48 (.bool true) (Q.refl ·) (fun l a w hI hl => ⟨wanted_none rfl, ex_pick_t rfl (at_eq v_45 (hI.at_ 45 114 _ i_45 rfl (hl_at hl 0 rfl rfl))) (at_eq v_47 (hI.at_ 47 116 _ i_47 rfl (hl_at hl 1 rfl rfl))), at_mk v_48 rfl⟩)
 have s_49 := MK1 i_49 (.bool true) (Q.refl ·) (fun l a w hI hl => ⟨wanted_none rfl, ex_move rfl (at_eq v_48 (hI.at_ 48 117 _ i_48 rfl (hl_at hl 0 rfl rfl))), at_mk v_49 rfl⟩)
 have s_50 := MK1 i_50 (.int .i64 0) (Q.refl ·) (fun l a w hI hl => ⟨wanted_of rfl i_49 rfl (lt_of hI hz rfl) (at_eq v_49 (hI.at_ 49 118 _ i_49 rfl (hl_at hl 0 rfl rfl))), ex_move rfl ((hI.base 12 fr_12).trans b_12), at_mk v_50 rfl⟩)
 have s_51 := MK1 i_51 (.bool true) (Q.refl ·) (fun l a w hI hl => ⟨wanted_of rfl i_49 rfl (lt_of hI hz rfl) (at_eq v_49 (hI.at_ 49 118 _ i_49 rfl (hl_at hl 1 rfl rfl))), ex_bin rfl (at_eq v_50 (hI.at_ 50 119 _ i_50 rfl (hl_at hl 0 rfl rfl))) rfl (by kernel_rfl), at_mk v_51 rfl⟩)
 have s_52 := MK1 i_52 (.bool true) (Q.refl ·) (fun l a w hI hl => ⟨wanted_none rfl, ex_pick_t rfl (at_eq v_49 (hI.at_ 49 118 _ i_49 rfl (hl_at hl 0 rfl rfl))) (at_eq v_51 (hI.at_ 51 120 _ i_51 rfl (hl_at hl 1 rfl rfl))), at_mk v_52 rfl⟩)
 have s_53 := MK1 i_53 (.bool true) (Q.refl ·) (fun l a w hI hl => ⟨wanted_none rfl, ex_move rfl (at_eq v_52 (hI.at_ 52 121 _ i_52 rfl (hl_at hl 0 rfl rfl))), at_mk v_53 rfl⟩)
 have s_54 := MK1 i_54 (.int .i64 2) (Q.refl ·) (fun l a w hI hl => ⟨wanted_of rfl i_53 rfl (lt_of hI hz rfl) (at_eq v_53 (hI.at_ 53 122 _ i_53 rfl (hl_at hl 0 rfl rfl))), ex_move rfl ((hI.base 14 fr_14).trans b_14), at_mk v_54 rfl⟩)
 have s_55 := MK1 i_55 (.bool true) (Q.refl ·) (fun l a w hI hl => ⟨wanted_of rfl i_53 rfl (lt_of hI hz rfl) (at_eq v_53 (hI.at_ 53 122 _ i_53 rfl (hl_at hl 1 rfl rfl))), ex_bin rfl (at_eq v_54 (hI.at_ 54 123 _ i_54 rfl (hl_at hl 0 rfl rfl))) rfl (by kernel_rfl), at_mk v_55 rfl⟩)
 have s_56 := MK1 i_56 (.bool true) (Q.refl ·) (fun l a w hI hl => ⟨wanted_none rfl, ex_pick_t rfl (at_eq v_53 (hI.at_ 53 122 _ i_53 rfl (hl_at hl 0 rfl rfl))) (at_eq v_55 (hI.at_ 55 124 _ i_55 rfl (hl_at hl 1 rfl rfl))), at_mk v_56 rfl⟩)
 have s_57 := MK1 i_57 (.bool true) (Q.refl ·) (fun l a w hI hl => ⟨wanted_none rfl, ex_move rfl (at_eq v_56 (hI.at_ 56 125 _ i_56 rfl (hl_at hl 0 rfl rfl))), at_mk v_57 rfl⟩)
 have s_58 := MK1 i_58 (.string h) (Q.refl ·) (fun l a w hI hl => ⟨wanted_of rfl i_57 rfl (lt_of hI hz rfl) (at_eq v_57 (hI.at_ 57 126 _ i_57 rfl (hl_at hl 0 rfl rfl))), ex_move rfl ((hI.base 1 fr_1).trans b_1), at_mk v_58 rfl⟩)
 have s_59 := MK1 i_59 (.agg #[.string h, .int .i64 2]) (Q.refl ·) (fun l a w hI hl => ⟨wanted_of rfl i_57 rfl (lt_of hI hz rfl) (at_eq v_57 (hI.at_ 57 126 _ i_57 rfl (hl_at hl 1 rfl rfl))), ex_build rfl (by simp only [List.map_toArray, List.map_cons, List.map_nil, (show a.eval (.tmp 127) = _ from (at_eq v_58 (hI.at_ 58 127 _ i_58 rfl (hl_at hl 0 rfl rfl))))]; exact built_fxp2 h), at_mk v_59 rfl⟩)
 have s_60 := Step.call (P := Tryz.prog) (V := VV) (T := Q) (S := (Q w14)) (a0 := A0) (Qx := QQ) (R := fun _ _ _ => True) i_60 (fun l a w hI hl => by
  refine ⟨wanted_of rfl i_57 rfl (lt_of hI hz rfl) (at_eq v_57 (hI.at_ 57 126 _ i_57 rfl (hl_at hl 1 rfl rfl))), 23, #[.agg #[.string h, .int .i64 2]], ?_, ?_⟩
  · exact ex_call rfl (by simp only [List.map_toArray, List.map_cons, List.map_nil, ev_const, (show a.eval (.tmp 128) = _ from (at_eq v_59 (hI.at_ 59 128 _ i_59 rfl (hl_at hl 0 rfl rfl))))]) Tryz.func23 (by kernel_rfl) (by kernel_rfl)
  · exact (CNAM.out _ (RC w hI.st).1.q).mono fun e w' hc => by
     obtain ⟨rfl, hq⟩ := hc
     exact ⟨_, rfl, hq, hI.st.trans hq, at_mk v_60 rfl⟩)
 have s_61 := MK1 i_61 (.string h) (Q.refl ·) (fun l a w hI hl => ⟨wanted_of rfl i_57 rfl (lt_of hI hz rfl) (at_eq v_57 (hI.at_ 57 126 _ i_57 rfl (hl_at hl 0 rfl rfl))), ex_move rfl ((hI.base 1 fr_1).trans b_1), at_mk v_61 rfl⟩)
 have s_62 := MK2 i_62 (fun l a w hI hl => by
  refine ⟨wanted_of rfl i_57 rfl (lt_of hI hz rfl) (at_eq v_57 (hI.at_ 57 126 _ i_57 rfl (hl_at hl 1 rfl rfl))), ?_⟩
  refine wpo_s2 (h) (⟨#[2]⟩) rfl (at_eq v_61 (hI.at_ 61 130 _ i_61 rfl (hl_at hl 0 rfl rfl))) rfl ?_
  exact ⟨_, rfl, (Q.refl w).alloc _, hI.st.alloc _, p_at v_62 ⟨w, rfl, Q.refl _⟩⟩)
 have s_63 := MK2 i_63 (fun l a w hI hl => by
  obtain ⟨wB, eB, qB⟩ := at_p v_62 (hI.at_ 62 131 _ i_62 rfl (hl_at hl 0 rfl rfl))
  refine ⟨wanted_of rfl i_57 rfl (lt_of hI hz rfl) (at_eq v_57 (hI.at_ 57 126 _ i_57 rfl (hl_at hl 2 rfl rfl))), ?_⟩
  refine wp_enter (f := 71) (args := #[.string ⟨#[108, 111, 99, 107]⟩, .slice (some ⟨wB.heap.size, 0, none⟩) 2 2]) ?_ ?_
  · exact ex_call rfl (by simp only [List.map_toArray, List.map_cons, List.map_nil, ev_const, eB]) Tryz.func71 (by kernel_rfl) (by kernel_rfl)
  · refine (duo_at wLock h ⟨#[2]⟩ nn TN.out 9 wB w qB (hG.q (RC w hI.st).1.q) (by decide) (by omega) (by decide)).mono fun e w' hc => ?_
    obtain ⟨rfl, hq⟩ := hc
    exact ⟨_, rfl, hq, hI.st.trans hq, at_mk v_63 rfl⟩)
 have s_64 := MK1 i_64 (.bool true) (Q.refl ·) (fun l a w hI hl => ⟨wanted_of rfl i_57 rfl (lt_of hI hz rfl) (at_eq v_57 (hI.at_ 57 126 _ i_57 rfl (hl_at hl 2 rfl rfl))), ex_bin rfl (at_eq v_60 (hI.at_ 60 129 _ i_60 rfl (hl_at hl 0 rfl rfl))) (at_eq v_63 (hI.at_ 63 132 _ i_63 rfl (hl_at hl 1 rfl rfl))) (eqs_same _ _ _ _ _), at_mk v_64 rfl⟩)
 have s_65 := MK1 i_65 (.bool true) (Q.refl ·) (fun l a w hI hl => ⟨wanted_none rfl, ex_pick_t rfl (at_eq v_57 (hI.at_ 57 126 _ i_57 rfl (hl_at hl 0 rfl rfl))) (at_eq v_64 (hI.at_ 64 133 _ i_64 rfl (hl_at hl 1 rfl rfl))), at_mk v_65 rfl⟩)
 have s_66 := MK1 i_66 (.bool true) (Q.refl ·) (fun l a w hI hl => ⟨wanted_none rfl, ex_move rfl (at_eq v_65 (hI.at_ 65 134 _ i_65 rfl (hl_at hl 0 rfl rfl))), at_mk v_66 rfl⟩)
 have s_67 := MK1 i_67 (.agg #[.int .i64 2, .int .u64 1, .string h, .string h, .int .i64 9, .string h, .int .u64 2, .int .i64 3, .string ⟨#[]⟩]) (Q.refl ·) (fun l a w hI hl => ⟨wanted_of rfl i_66 rfl (lt_of hI hz rfl) (at_eq v_66 (hI.at_ 66 135 _ i_66 rfl (hl_at hl 0 rfl rfl))), ex_load 47 rfl bl12 [.int .i64 2, .int .u64 1, .string h, .string h, .int .i64 9, .string h, .int .u64 2, .int .i64 3, .string ⟨#[]⟩] _ ((hI.base 15 fr_15).trans b_15) ((RC w hI.st).2.2.1.range) Tryz.underlying47 rfl (by kernel_rfl), at_mk v_67 rfl⟩)
 have s_68 := Step.call (P := Tryz.prog) (V := VV) (T := Q) (S := (Q w14)) (a0 := A0) (Qx := QQ) (R := fun _ _ _ => True) i_68 (fun l a w hI hl => by
  refine ⟨wanted_of rfl i_66 rfl (lt_of hI hz rfl) (at_eq v_66 (hI.at_ 66 135 _ i_66 rfl (hl_at hl 1 rfl rfl))), 9, #[.agg #[.int .i64 2, .int .u64 1, .string h, .string h, .int .i64 9, .string h, .int .u64 2, .int .i64 3, .string ⟨#[]⟩]], ?_, ?_⟩
  · exact ex_call rfl (by simp only [List.map_toArray, List.map_cons, List.map_nil, ev_const, (show a.eval (.tmp 136) = _ from (at_eq v_67 (hI.at_ 67 136 _ i_67 rfl (hl_at hl 0 rfl rfl))))]) Tryz.func9 (by kernel_rfl) (by kernel_rfl)
  · exact (CF1.out _).mono fun e w' hc => by
     obtain ⟨rfl, hq⟩ := hc
     exact ⟨_, rfl, hq, hI.st.trans hq, at_mk v_68 rfl⟩)
 have s_69 := MK1 i_69 (.bool true) (Q.refl ·) (fun l a w hI hl => ⟨wanted_none rfl, ex_pick_t rfl (at_eq v_66 (hI.at_ 66 135 _ i_66 rfl (hl_at hl 0 rfl rfl))) (at_eq v_68 (hI.at_ 68 137 _ i_68 rfl (hl_at hl 1 rfl rfl))), at_mk v_69 rfl⟩)
 have s_70 := MK1 i_70 (.bool true) (Q.refl ·) (fun l a w hI hl => ⟨wanted_none rfl, ex_move rfl (at_eq v_69 (hI.at_ 69 138 _ i_69 rfl (hl_at hl 0 rfl rfl))), at_mk v_70 rfl⟩)
 have s_71 := MK1 i_71 (.agg #[.int .i64 3, .int .u64 1, .string h, .string h, .int .i64 9, .string ⟨#[]⟩, .int .u64 0, .int .i64 0, .string h]) (Q.refl ·) (fun l a w hI hl => ⟨wanted_of rfl i_70 rfl (lt_of hI hz rfl) (at_eq v_70 (hI.at_ 70 139 _ i_70 rfl (hl_at hl 0 rfl rfl))), ex_load 47 rfl bl13 [.int .i64 3, .int .u64 1, .string h, .string h, .int .i64 9, .string ⟨#[]⟩, .int .u64 0, .int .i64 0, .string h] _ ((hI.base 16 fr_16).trans b_16) ((RC w hI.st).2.2.2.range) Tryz.underlying47 rfl (by kernel_rfl), at_mk v_71 rfl⟩)
 have s_72 := Step.call (P := Tryz.prog) (V := VV) (T := Q) (S := (Q w14)) (a0 := A0) (Qx := QQ) (R := fun _ _ _ => True) i_72 (fun l a w hI hl => by
  refine ⟨wanted_of rfl i_70 rfl (lt_of hI hz rfl) (at_eq v_70 (hI.at_ 70 139 _ i_70 rfl (hl_at hl 1 rfl rfl))), 9, #[.agg #[.int .i64 3, .int .u64 1, .string h, .string h, .int .i64 9, .string ⟨#[]⟩, .int .u64 0, .int .i64 0, .string h]], ?_, ?_⟩
  · exact ex_call rfl (by simp only [List.map_toArray, List.map_cons, List.map_nil, ev_const, (show a.eval (.tmp 140) = _ from (at_eq v_71 (hI.at_ 71 140 _ i_71 rfl (hl_at hl 0 rfl rfl))))]) Tryz.func9 (by kernel_rfl) (by kernel_rfl)
  · exact (CF2.out _).mono fun e w' hc => by
     obtain ⟨rfl, hq⟩ := hc
     exact ⟨_, rfl, hq, hI.st.trans hq, at_mk v_72 rfl⟩)
 have s_73 := MK1 i_73 (.bool true) (Q.refl ·) (fun l a w hI hl => ⟨wanted_none rfl, ex_pick_t rfl (at_eq v_70 (hI.at_ 70 139 _ i_70 rfl (hl_at hl 0 rfl rfl))) (at_eq v_72 (hI.at_ 72 141 _ i_72 rfl (hl_at hl 1 rfl rfl))), at_mk v_73 rfl⟩)
 have s_74 := MK1 i_74 (.bool true) (Q.refl ·) (fun l a w hI hl => ⟨wanted_none rfl, ex_move rfl (at_eq v_73 (hI.at_ 73 142 _ i_73 rfl (hl_at hl 0 rfl rfl))), at_mk v_74 rfl⟩)
 have s_75 := MK1 i_75 (.string h) (Q.refl ·) (fun l a w hI hl => ⟨wanted_of rfl i_74 rfl (lt_of hI hz rfl) (at_eq v_74 (hI.at_ 74 143 _ i_74 rfl (hl_at hl 0 rfl rfl))), ex_move rfl ((hI.base 1 fr_1).trans b_1), at_mk v_75 rfl⟩)
 have s_76 := MK1 i_76 (.string h) (Q.refl ·) (fun l a w hI hl => ⟨wanted_of rfl i_74 rfl (lt_of hI hz rfl) (at_eq v_74 (hI.at_ 74 143 _ i_74 rfl (hl_at hl 0 rfl rfl))), ex_move rfl ((hI.base 1 fr_1).trans b_1), at_mk v_76 rfl⟩)
 have s_77 := MK1 i_77 (.agg #[.int .i64 1, .int .u64 1, .string h, .string ⟨#[]⟩, .int .i64 0, .string ⟨#[]⟩, .int .u64 0, .int .i64 0, .string h]) (Q.refl ·) (fun l a w hI hl => ⟨wanted_of rfl i_74 rfl (lt_of hI hz rfl) (at_eq v_74 (hI.at_ 74 143 _ i_74 rfl (hl_at hl 2 rfl rfl))), ex_build rfl (by simp only [List.map_toArray, List.map_cons, List.map_nil, (show a.eval (.tmp 144) = _ from (at_eq v_75 (hI.at_ 75 144 _ i_75 rfl (hl_at hl 0 rfl rfl)))), (show a.eval (.tmp 145) = _ from (at_eq v_76 (hI.at_ 76 145 _ i_76 rfl (hl_at hl 1 rfl rfl))))]; exact built_fxn h), at_mk v_77 rfl⟩)
 have s_78 := Step.call (P := Tryz.prog) (V := VV) (T := Q) (S := (Q w14)) (a0 := A0) (Qx := QQ) (R := fun _ _ _ => True) i_78 (fun l a w hI hl => by
  refine ⟨wanted_of rfl i_74 rfl (lt_of hI hz rfl) (at_eq v_74 (hI.at_ 74 143 _ i_74 rfl (hl_at hl 1 rfl rfl))), 9, #[.agg #[.int .i64 1, .int .u64 1, .string h, .string ⟨#[]⟩, .int .i64 0, .string ⟨#[]⟩, .int .u64 0, .int .i64 0, .string h]], ?_, ?_⟩
  · exact ex_call rfl (by simp only [List.map_toArray, List.map_cons, List.map_nil, ev_const, (show a.eval (.tmp 146) = _ from (at_eq v_77 (hI.at_ 77 146 _ i_77 rfl (hl_at hl 0 rfl rfl))))]) Tryz.func9 (by kernel_rfl) (by kernel_rfl)
  · exact (CF3.out _).mono fun e w' hc => by
     obtain ⟨rfl, hq⟩ := hc
     exact ⟨_, rfl, hq, hI.st.trans hq, at_mk v_78 rfl⟩)
 have s_79 := MK1 i_79 (.bool true) (Q.refl ·) (fun l a w hI hl => ⟨wanted_of rfl i_74 rfl (lt_of hI hz rfl) (at_eq v_74 (hI.at_ 74 143 _ i_74 rfl (hl_at hl 1 rfl rfl))), ex_un rfl (at_eq v_78 (hI.at_ 78 147 _ i_78 rfl (hl_at hl 0 rfl rfl))) (by kernel_rfl), at_mk v_79 rfl⟩)
 have s_80 := MK1 i_80 (.bool true) (Q.refl ·) (fun l a w hI hl => ⟨wanted_none rfl, ex_pick_t rfl (at_eq v_74 (hI.at_ 74 143 _ i_74 rfl (hl_at hl 0 rfl rfl))) (at_eq v_79 (hI.at_ 79 148 _ i_79 rfl (hl_at hl 1 rfl rfl))), at_mk v_80 rfl⟩)
 have s_81 := MK1 i_81 (.bool true) (Q.refl ·) (fun l a w hI hl => ⟨wanted_none rfl, ex_move rfl (at_eq v_80 (hI.at_ 80 149 _ i_80 rfl (hl_at hl 0 rfl rfl))), at_mk v_81 rfl⟩)
 have s_82 := MK1 i_82 (.agg #[.slice none 0 0, .slice none 0 0, .int .u64 0, .string ⟨#[]⟩, .string ⟨#[]⟩, .slice none 0 0]) (Q.refl ·) (fun l a w hI hl => ⟨wanted_of rfl i_81 rfl (lt_of hI hz rfl) (at_eq v_81 (hI.at_ 81 150 _ i_81 rfl (hl_at hl 0 rfl rfl))), ex_build rfl (by simp only [List.map_toArray, List.map_cons, List.map_nil]; exact built_tzero), at_mk v_82 rfl⟩)
 have s_83 := Step.call (P := Tryz.prog) (V := VV) (T := Q) (S := (Q w14)) (a0 := A0) (Qx := QQ) (R := fun _ _ _ => True) i_83 (fun l a w hI hl => by
  refine ⟨wanted_of rfl i_81 rfl (lt_of hI hz rfl) (at_eq v_81 (hI.at_ 81 150 _ i_81 rfl (hl_at hl 1 rfl rfl))), 14, #[.agg #[.slice none 0 0, .slice none 0 0, .int .u64 0, .string ⟨#[]⟩, .string ⟨#[]⟩, .slice none 0 0]], ?_, ?_⟩
  · exact ex_call rfl (by simp only [List.map_toArray, List.map_cons, List.map_nil, ev_const, (show a.eval (.tmp 151) = _ from (at_eq v_82 (hI.at_ 82 151 _ i_82 rfl (hl_at hl 0 rfl rfl))))]) Tryz.func14 (by kernel_rfl) (by kernel_rfl)
  · exact (CRZ.out _).mono fun e w' hc => by
     obtain ⟨rfl, hq⟩ := hc
     exact ⟨_, rfl, hq, hI.st.trans hq, at_mk v_83 rfl⟩)
 have s_84 := MK1 i_84 (.bool true) (Q.refl ·) (fun l a w hI hl => ⟨wanted_of rfl i_81 rfl (lt_of hI hz rfl) (at_eq v_81 (hI.at_ 81 150 _ i_81 rfl (hl_at hl 1 rfl rfl))), ex_un rfl (at_eq v_83 (hI.at_ 83 152 _ i_83 rfl (hl_at hl 0 rfl rfl))) (by kernel_rfl), at_mk v_84 rfl⟩)
 have s_85 := MK1 i_85 (.bool true) (Q.refl ·) (fun l a w hI hl => ⟨wanted_none rfl, ex_pick_t rfl (at_eq v_81 (hI.at_ 81 150 _ i_81 rfl (hl_at hl 0 rfl rfl))) (at_eq v_84 (hI.at_ 84 153 _ i_84 rfl (hl_at hl 1 rfl rfl))), at_mk v_85 rfl⟩)
 have s_86 := MK1 i_86 (.bool true) (Q.refl ·) (fun l a w hI hl => ⟨wanted_none rfl, ex_move rfl (at_eq v_85 (hI.at_ 85 154 _ i_85 rfl (hl_at hl 0 rfl rfl))), at_mk v_86 rfl⟩)
 have s_87 := MK1 i_87 (.agg #[.slice none 0 0, .slice none 0 0, .int .u64 0, .string ⟨#[]⟩, .string ⟨#[]⟩, .slice none 0 0]) (Q.refl ·) (fun l a w hI hl => ⟨wanted_of rfl i_86 rfl (lt_of hI hz rfl) (at_eq v_86 (hI.at_ 86 155 _ i_86 rfl (hl_at hl 0 rfl rfl))), ex_build rfl (by simp only [List.map_toArray, List.map_cons, List.map_nil]; exact built_tzero), at_mk v_87 rfl⟩)
 have s_88 := Step.call (P := Tryz.prog) (V := VV) (T := Q) (S := (Q w14)) (a0 := A0) (Qx := QQ) (R := fun _ _ _ => True) i_88 (fun l a w hI hl => by
  refine ⟨wanted_of rfl i_86 rfl (lt_of hI hz rfl) (at_eq v_86 (hI.at_ 86 155 _ i_86 rfl (hl_at hl 1 rfl rfl))), 18, #[.agg #[.slice none 0 0, .slice none 0 0, .int .u64 0, .string ⟨#[]⟩, .string ⟨#[]⟩, .slice none 0 0]], ?_, ?_⟩
  · exact ex_call rfl (by simp only [List.map_toArray, List.map_cons, List.map_nil, ev_const, (show a.eval (.tmp 156) = _ from (at_eq v_87 (hI.at_ 87 156 _ i_87 rfl (hl_at hl 0 rfl rfl))))]) Tryz.func18 (by kernel_rfl) (by kernel_rfl)
  · exact (CIZ.out _ (RC w hI.st).1.q).mono fun e w' hc => by
     obtain ⟨rfl, hq⟩ := hc
     exact ⟨_, rfl, hq, hI.st.trans hq, at_mk v_88 rfl⟩)
 have s_89 := MK1 i_89 (.bool true) (Q.refl ·) (fun l a w hI hl => ⟨wanted_of rfl i_86 rfl (lt_of hI hz rfl) (at_eq v_86 (hI.at_ 86 155 _ i_86 rfl (hl_at hl 1 rfl rfl))), ex_bin rfl (at_eq v_88 (hI.at_ 88 157 _ i_88 rfl (hl_at hl 0 rfl rfl))) rfl (by kernel_rfl), at_mk v_89 rfl⟩)
 have s_90 := MK1 i_90 (.bool true) (Q.refl ·) (fun l a w hI hl => ⟨wanted_none rfl, ex_pick_t rfl (at_eq v_86 (hI.at_ 86 155 _ i_86 rfl (hl_at hl 0 rfl rfl))) (at_eq v_89 (hI.at_ 89 158 _ i_89 rfl (hl_at hl 1 rfl rfl))), at_mk v_90 rfl⟩)
 have s_91 := MK1 i_91 (.bool true) (Q.refl ·) (fun l a w hI hl => ⟨wanted_none rfl, ex_assign rfl (at_eq v_90 (hI.at_ 90 159 _ i_90 rfl (hl_at hl 0 rfl rfl))), at_mk v_91 rfl⟩)
 refine wp_plan VV Q (Q w14) (by kernel_rfl) hs hV hS0 (steps_all hO ((sf_cons s_0 (sf_cons s_1 (sf_cons s_2 (sf_cons s_3 (sf_cons s_4 (sf_cons s_5 (sf_cons s_6 (sf_cons s_7 (sf_cons s_8 (sf_cons s_9 (sf_cons s_10 (sf_cons s_11 (sf_cons s_12 (sf_cons s_13 (sf_cons s_14 (sf_cons s_15 (sf_cons s_16 (sf_cons s_17 (sf_cons s_18 (sf_cons s_19 (sf_cons s_20 (sf_cons s_21 (sf_cons s_22 (sf_cons s_23 (sf_cons s_24 (sf_cons s_25 (sf_cons s_26 (sf_cons s_27 (sf_cons s_28 (sf_cons s_29 (sf_cons s_30 (sf_cons s_31 (sf_cons s_32 (sf_cons s_33 (sf_cons s_34 (sf_cons s_35 (sf_cons s_36 (sf_cons s_37 (sf_cons s_38 (sf_cons s_39 (sf_cons s_40 (sf_cons s_41 (sf_cons s_42 (sf_cons s_43 (sf_cons s_44 (sf_cons s_45 (sf_cons s_46 (sf_cons s_47 (sf_cons s_48 (sf_cons s_49 (sf_cons s_50 (sf_cons s_51 (sf_cons s_52 (sf_cons s_53 (sf_cons s_54 (sf_cons s_55 (sf_cons s_56 (sf_cons s_57 (sf_cons s_58 (sf_cons s_59 (sf_cons s_60 (sf_cons s_61 (sf_cons s_62 (sf_cons s_63 (sf_cons s_64 (sf_cons s_65 (sf_cons s_66 (sf_cons s_67 (sf_cons s_68 (sf_cons s_69 (sf_cons s_70 (sf_cons s_71 (sf_cons s_72 (sf_cons s_73 (sf_cons s_74 (sf_cons s_75 (sf_cons s_76 (sf_cons s_77 (sf_cons s_78 (sf_cons s_79 (sf_cons s_80 (sf_cons s_81 (sf_cons s_82 (sf_cons s_83 (sf_cons s_84 (sf_cons s_85 (sf_cons s_86 (sf_cons s_87 (sf_cons s_88 (sf_cons s_89 (sf_cons s_90 (sf_cons s_91 trivial)))))))))))))))))))))))))))))))))))))))))))))))))))))))))))))))))))))))))))))))))))))))))))))) ?_
 intro l a' w' hall h
 have e0 : a'.eval (.tmp 0) = .bool true := at_eq v_91 (h.at_ 91 0 _ i_91 rfl (hall 91 (by rw [hO]; decide)))
 have hd : a'.defers = [] := by rw [h.df, hA]
 have hst := (RC w' h.st).1.q
 rw [hQQ]
 clear h hall
 go_wp2_with fail
 (try simp only [Exit.inBlock, Exit.then])
 refine bodyPost_ret (results_tmp rfl _ _ _) hd ?_
 exact ⟨congrArg Ending.returned e0, hst⟩
end Go.Proofs.YtobfgljkckcmcaaGreatDoor.Coi
