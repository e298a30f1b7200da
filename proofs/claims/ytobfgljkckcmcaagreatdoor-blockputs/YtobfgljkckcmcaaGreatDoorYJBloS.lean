import Derived.Test.YtobfgljkckcmcaaGreatDoorYJBloR
set_option maxRecDepth 100000
namespace Go.Proofs.YtobfgljkckcmcaaGreatDoor.Coi
open Go.RowKit
open Mem Num Cod Sh Plan
set_option linter.unusedVariables false
set_option linter.unusedSimpArgs false
theorem wpo_rowtx {o : Oper} {a : Act} {w : World} {K : Act → World → Prop} {Q : Exit → Act → World → Prop} {x : Operand} (z : TXI) (ho : o.op = .buildSlice 62 1 #[(0, x)]) (h0 : a.eval x = .agg (TXI.cells z).toArray)
 (h : K (a.put o.dst (.slice (some ⟨w.heap.size, 0, none⟩) 1 1)) (w.alloc (.cells (TXI.cells z).toArray 29))) : o.wp Tryz.prog a w K Q := by
 obtain ⟨i0, hi0, hz0, hz1, hz2⟩ := info_of info_tx
 refine wp_buildSlice 62 29 1 _ ho (TXI.cells z).toArray i0 _ Tryz.underlying62 hi0 hz0 (by rw [hz1]; decide) (by rw [hz1]; decide) ?_ h
 rw [hz1]
 simp only [List.map_toArray, List.map_cons, List.map_nil, h0]
 exact fill_tx z.aI z.t.nI z.cI z.aO z.t.nO z.cO z.t.p.amount z.t.p.sig z.t.p.token z.aW z.t.p.n z.cW
theorem txcut_x (y : TXI) (w : World) (h : y.In w) : Calls Tryz.prog 5 #[.agg (TXI.cells y).toArray] w fun e w' => ∃ z : TXI, e = .returned (.agg (TXI.cells z).toArray) ∧ z.own w' w.heap.size ∧ z.t = cutX y.t ∧ (Apart z.aI z.aO ∧ Apart z.aI z.aW) ∧ Q w w' := by
 refine (cut_x y.t (cutX y.t) rfl y.aI y.cI y.aO y.cO y.aW y.cW w h.i h.o h.w h.sig h.token).mono ?_
 rintro e w' ⟨aI, cI, aO, cO, aW, cW, rfl, h1, h2, h3, q⟩
 exact ⟨⟨cutX y.t, aI, cI, aO, cO, aW, cW⟩, rfl, h1, rfl, ⟨h2, h3⟩, q⟩
theorem TXI.In.q_ {y : TXI} {w w' : World} (h : y.In w) (q : Q w w') : y.In w' := ⟨h.i.q q, h.o.q q, h.w.q q, h.amount, h.sig, h.token⟩
theorem BKI.In.q_ {z : BKI} {w w' : World} (h : z.In w) (q : Q w w') : z.In w' := ⟨h.h, h.prev, h.sl.q q, h.le, h.cap, fun i hi => TXI.In.q_ (h.ok i hi) q⟩
set_option maxHeartbeats 40000000 in
theorem bcut_x (z : BKI) (w0 : World) (hz : z.In w0) : Calls Tryz.prog 26 #[z.val] w0 fun e w' => ∃ y : BKI, e = .returned y.val ∧ BO w' w0.heap.size y ∧ y.ok ∧ (y.h = z.h ∧ y.prev = cutS z.prev 40 ∧ y.n = min z.n 9 ∧ ∀ i, i < y.n → (y.g i).t = cutX (z.g i).t) ∧ Q w0 w' := by
 obtain ⟨hh, pr, nT, f, aT, cT⟩ := z
 obtain ⟨zh, zp, zs, zl, zc, zk⟩ := hz
 dsimp only at zh zp zs zl zc zk
 dsimp only [BKI.val]
 have ZH := Lib.hid zh
 have ZS := Lib.hid zs
 have ZK := Lib.hid zk
 have nB : nT ≤ 9223372036854775807 := by unfold maxLen at *; omega
 have pB : pr.size ≤ 9223372036854775807 := by unfold maxLen at *; omega
 clear zh zs zk zp zl zc
 obtain ⟨pv, hpv⟩ : ∃ p, pr.extract 0 (min (pr.size : Int) 40).toNat = p := ⟨_, rfl⟩
 have HP : Hid (pv = cutS pr 40) := by show _ = _; rw [← hpv]; rfl
 go_enter Tryz.func26, Tryz.ntmps26
 go_wp2_with fail
 have HQ : Hid (Q w0 ((w0.alloc (.cells #[.int .i64 hh, .string pr, .slice aT nT cT] 64)).alloc (.cells #[.int .i64 0, .string ⟨#[]⟩, .slice none 0 0] 64))) := ((Q.refl w0).alloc _).alloc _
 have B1 : Hid (Box ((w0.alloc (.cells #[.int .i64 hh, .string pr, .slice aT nT cT] 64)).alloc (.cells #[.int .i64 0, .string ⟨#[]⟩, .slice none 0 0] 64)) w0.heap.size [.int .i64 hh, .string pr, .slice aT nT cT]) := (Box.new w0 [.int .i64 hh, .string pr, .slice aT nT cT] 64).q ((Q.refl _).alloc _)
 have B2 : Hid (Box ((w0.alloc (.cells #[.int .i64 hh, .string pr, .slice aT nT cT] 64)).alloc (.cells #[.int .i64 0, .string ⟨#[]⟩, .slice none 0 0] 64)) (w0.heap.size + 1) [.int .i64 0, .string ⟨#[]⟩, .slice none 0 0]) := by
  have := Box.new (w0.alloc (.cells #[.int .i64 hh, .string pr, .slice aT nT cT] 64)) [.int .i64 0, .string ⟨#[]⟩, .slice none 0 0] 64
  rw [show (w0.alloc (.cells #[.int .i64 hh, .string pr, .slice aT nT cT] 64)).heap.size = w0.heap.size + 1 by simp] at this
  exact this
 generalize (w0.alloc (.cells #[.int .i64 hh, .string pr, .slice aT nT cT] 64)).alloc (.cells #[.int .i64 0, .string ⟨#[]⟩, .slice none 0 0] 64) = wA at *
 obtain ⟨b2, hb⟩ : ∃ b, w0.heap.size + 1 = b := ⟨_, rfl⟩
 rw [hb] at B2 ⊢
 obtain ⟨b1, hb1⟩ : ∃ b, w0.heap.size = b := ⟨_, rfl⟩
 rw [hb1] at B1 ⊢
 have hS0 : Q wA wA.drew := (Q.refl wA).drew
 refine region_gen3 ?_
 intro OPS QQ A0 hO hQQ hA
 have hz : A0.tmps.size = 38 := by rw [hA]; rfl
 have hs : sound OPS A0.tmps.size = true := by rw [hz, hO]; kernel_rfl
 have b_1 : A0.eval (.tmp 1) = .pointer (some ⟨b1, 0, none⟩) := by rw [hA]; rfl
 have fr_1 : free OPS 1 = true := by rw [hO]; kernel_rfl
 have b_2 : A0.eval (.tmp 2) = .pointer (some ⟨b2, 0, none⟩) := by rw [hA]; rfl
 have fr_2 : free OPS 2 = true := by rw [hO]; kernel_rfl
 obtain ⟨VV, hVV⟩ : ∃ V : Nat → Value → World → Prop, V = fun i => ([fun v _ => v = .pointer (some ⟨b1, 0, none⟩), fun v _ => v = .int .i64 hh, fun v _ => v = .pointer (some ⟨b1, 1, none⟩), fun v _ => v = .string pr, fun v _ => v = .pointer (some ⟨b1, 1, none⟩), fun v _ => v = .string pr, fun v _ => v = .int .i64 pr.size, fun v _ => v = .int .i64 (min (pr.size : Int) 40), fun v _ => v = .string pv, fun v _ => v = .agg #[.int .i64 hh, .string pv, .slice none 0 0], fun v w => ∃ b, v = .pointer (some ⟨b, 0, none⟩) ∧ Box w b [.int .i64 0, .string ⟨#[]⟩, .slice none 0 0] ∧ wA.heap.size ≤ b] : List (Value → World → Prop)).getD i (fun _ _ => True) := ⟨_, rfl⟩
 have v_0 : VV 0 = fun v _ => v = .pointer (some ⟨b1, 0, none⟩) := vat hVV 0
 have v_1 : VV 1 = fun v _ => v = .int .i64 hh := vat hVV 1
 have v_2 : VV 2 = fun v _ => v = .pointer (some ⟨b1, 1, none⟩) := vat hVV 2
 have v_3 : VV 3 = fun v _ => v = .string pr := vat hVV 3
 have v_4 : VV 4 = fun v _ => v = .pointer (some ⟨b1, 1, none⟩) := vat hVV 4
 have v_5 : VV 5 = fun v _ => v = .string pr := vat hVV 5
 have v_6 : VV 6 = fun v _ => v = .int .i64 pr.size := vat hVV 6
 have v_7 : VV 7 = fun v _ => v = .int .i64 (min (pr.size : Int) 40) := vat hVV 7
 have v_8 : VV 8 = fun v _ => v = .string pv := vat hVV 8
 have v_9 : VV 9 = fun v _ => v = .agg #[.int .i64 hh, .string pv, .slice none 0 0] := vat hVV 9
 have v_10 : VV 10 = fun v w => ∃ b, v = .pointer (some ⟨b, 0, none⟩) ∧ Box w b [.int .i64 0, .string ⟨#[]⟩, .slice none 0 0] ∧ wA.heap.size ≤ b := vat hVV 10
 have hV := stablex_of (T := Q) (p := 11) hVV ((kx (kx (kx (kx (kx (kx (kx (kx (kx (kx (sx_cons (fun _ _ _ h q => by obtain ⟨b, h1, h2, h3⟩ := h; exact ⟨b, h1, h2.q q, h3⟩) trivial))))))))))))
 clear hVV
 have i_0 := pget_at hO 0 rfl
 have i_1 := pget_at hO 1 rfl
 have i_2 := pget_at hO 2 rfl
 have i_3 := pget_at hO 3 rfl
 have i_4 := pget_at hO 4 rfl
 have i_5 := pget_at hO 5 rfl
 have i_6 := pget_at hO 6 rfl
 have i_7 := pget_at hO 7 rfl
 have i_8 := pget_at hO 8 rfl
 have i_9 := pget_at hO 9 rfl
 have i_10 := pget_at hO 10 rfl
 have i_11 := pget_at hO 11 rfl
 have MK36 := @Step2.pure Tryz.prog OPS QQ VV Q (Q wA) A0 11
 have s_0 := MK36 i_0 (by rw [hO]; kernel_rfl) (.pointer (some ⟨b1, 0, none⟩)) (Q.refl ·) (fun l a w hI hl hS => ⟨wanted_none rfl, (by have e0 : a.eval (.tmp 1) = _ := ((hI.base 1 fr_1).trans b_1); generalize a.eval = ρ at e0 ⊢; simp [go_sem, e0]), at_mk v_0 rfl⟩)
 have s_1 := MK36 i_1 (by rw [hO]; kernel_rfl) (.int .i64 hh) (Q.refl ·) (fun l a w hI hl hS => ⟨wanted_none rfl, (by have e0 : a.eval (.tmp 5) = _ := (at_eq v_0 (hI.at_ 0 5 _ i_0 rfl (hl_at hl 0 rfl rfl))); have x0 := (B1.out.q hS).at_ 0 _ rfl; generalize a.eval = ρ at e0 ⊢; simp [go_sem, e0, x0]), at_mk v_1 rfl⟩)
 have s_2 := MK36 i_2 (by rw [hO]; kernel_rfl) (.pointer (some ⟨b1, 1, none⟩)) (Q.refl ·) (fun l a w hI hl hS => ⟨wanted_none rfl, (by have e0 : a.eval (.tmp 1) = _ := ((hI.base 1 fr_1).trans b_1); generalize a.eval = ρ at e0 ⊢; simp [go_sem, e0]), at_mk v_2 rfl⟩)
 have s_3 := MK36 i_3 (by rw [hO]; kernel_rfl) (.string pr) (Q.refl ·) (fun l a w hI hl hS => ⟨wanted_none rfl, (by have e0 : a.eval (.tmp 7) = _ := (at_eq v_2 (hI.at_ 2 7 _ i_2 rfl (hl_at hl 0 rfl rfl))); have x0 := (B1.out.q hS).at_ 1 _ rfl; generalize a.eval = ρ at e0 ⊢; simp [go_sem, e0, x0]), at_mk v_3 rfl⟩)
 have s_4 := MK36 i_4 (by rw [hO]; kernel_rfl) (.pointer (some ⟨b1, 1, none⟩)) (Q.refl ·) (fun l a w hI hl hS => ⟨wanted_none rfl, (by have e0 : a.eval (.tmp 1) = _ := ((hI.base 1 fr_1).trans b_1); generalize a.eval = ρ at e0 ⊢; simp [go_sem, e0]), at_mk v_4 rfl⟩)
 have s_5 := MK36 i_5 (by rw [hO]; kernel_rfl) (.string pr) (Q.refl ·) (fun l a w hI hl hS => ⟨wanted_none rfl, (by have e0 : a.eval (.tmp 9) = _ := (at_eq v_4 (hI.at_ 4 9 _ i_4 rfl (hl_at hl 0 rfl rfl))); have x0 := (B1.out.q hS).at_ 1 _ rfl; generalize a.eval = ρ at e0 ⊢; simp [go_sem, e0, x0]), at_mk v_5 rfl⟩)
 have s_6 := MK36 i_6 (by rw [hO]; kernel_rfl) (.int .i64 pr.size) (Q.refl ·) (fun l a w hI hl hS => ⟨wanted_none rfl, (by have e0 : a.eval (.tmp 10) = _ := (at_eq v_5 (hI.at_ 5 10 _ i_5 rfl (hl_at hl 0 rfl rfl))); generalize a.eval = ρ at e0 ⊢; simp [go_sem, e0]), at_mk v_6 rfl⟩)
 have s_7 := MK36 i_7 (by rw [hO]; kernel_rfl) (.int .i64 (min (pr.size : Int) 40)) (Q.refl ·) (fun l a w hI hl hS => ⟨wanted_none rfl, (by have e0 : a.eval (.tmp 11) = _ := (at_eq v_6 (hI.at_ 6 11 _ i_6 rfl (hl_at hl 0 rfl rfl))); have e1 : a.eval (.const (.int .i64 40)) = .int .i64 40 := rfl; generalize a.eval = ρ at e0 e1 ⊢; simp [go_sem, e0, e1]), at_mk v_7 rfl⟩)
 have s_8 := MK36 i_8 (by rw [hO]; kernel_rfl) (.string pv) (Q.refl ·) (fun l a w hI hl hS => ⟨wanted_none rfl, (by have e0 : a.eval (.tmp 8) = _ := (at_eq v_3 (hI.at_ 3 8 _ i_3 rfl (hl_at hl 0 rfl rfl))); have e1 : a.eval (.tmp 12) = _ := (at_eq v_7 (hI.at_ 7 12 _ i_7 rfl (hl_at hl 1 rfl rfl))); generalize a.eval = ρ at e0 e1 ⊢; simp [go_sem, e0, e1, hpv, pB]; try omega), at_mk v_8 rfl⟩)
 have s_9 := MK36 i_9 (by rw [hO]; kernel_rfl) (.agg #[.int .i64 hh, .string pv, .slice none 0 0]) (Q.refl ·) (fun l a w hI hl hS => ⟨wanted_none rfl, ex_build rfl (by simp only [List.map_toArray, List.map_cons, List.map_nil, (show a.eval (.tmp 6) = _ from (at_eq v_1 (hI.at_ 1 6 _ i_1 rfl (hl_at hl 0 rfl rfl)))), (show a.eval (.tmp 13) = _ from (at_eq v_8 (hI.at_ 8 13 _ i_8 rfl (hl_at hl 1 rfl rfl))))]; exact built_bkh hh pv), at_mk v_9 rfl⟩)
 have MK37 := @Step2.done Tryz.prog OPS QQ VV Q (Q wA) A0 11
 have s_10 := MK37 i_10 (by rw [hO]; kernel_rfl) (fun l a w hI hl hS => by
  refine ⟨wanted_none rfl, ?_⟩
  refine wpo_alloc 64 rfl #[.int .i64 0, .string ⟨#[]⟩, .slice none 0 0] zeroBk ?_
  exact ⟨_, rfl, (Q.refl w).alloc _, hS.alloc _, p_at v_10 ⟨w.heap.size, rfl, Box.new w [.int .i64 0, .string ⟨#[]⟩, .slice none 0 0] _, hS.size⟩⟩)
 refine wp_plan2 VV (Q) (Q wA) 11 11 (by kernel_rfl) hs (by rw [hO]; rfl) (by rw [hO]; kernel_rfl) hV hS0 (steps2_all hO _ rfl ((s2_cons s_0 (s2_cons s_1 (s2_cons s_2 (s2_cons s_3 (s2_cons s_4 (s2_cons s_5 (s2_cons s_6 (s2_cons s_7 (s2_cons s_8 (s2_cons s_9 (s2_cons s_10 trivial))))))))))))) ?_
 intro l a w hall hln hI
 have hS := hI.st hln
 obtain ⟨b3, eb3, B3, hb3⟩ := (at_p v_10 (hI.at_ 10 3 _ i_10 rfl (hall 10 (by decide))))
 refine fin_of i_11 (wanted_none rfl) ?_
 refine wpo_st_box 64 _ _ rfl b3 _ [.int .i64 hh, .string pv, .slice none 0 0] eb3 (at_eq v_9 (hI.at_ 9 14 _ i_9 rfl (hall 9 (by decide)))) B3 rfl (by kernel_rfl) (one3 rfl rfl rfl) ?_
 intro w3 B3' c3
 rw [hQQ]
 obtain ⟨ts, ds⟩ := a
 have hd : ds = [] := by have := hI.df; rw [hA] at this; exact this
 have hts : ts.size = 38 := by have := hI.sz; rw [hz] at this; exact this
 have f1 : ts.getD 1 undef = .pointer (some ⟨b1, 0, none⟩) := ((hI.base 1 fr_1).trans b_1)
 have f2 : ts.getD 2 undef = .pointer (some ⟨b2, 0, none⟩) := ((hI.base 2 fr_2).trans b_2)
 have f3 : ts.getD 3 undef = .pointer (some ⟨b3, 0, none⟩) := eb3
 obtain ⟨tl0, rfl⟩ : ∃ tl : List Value, ts = tl.toArray := ⟨ts.toList, by simp⟩
 have htl0 : tl0.length = 38 := by simpa using hts
 clear hts
 obtain ⟨y0, y1, y2, y3, y4, y5, y6, y7, tl8, et, htl8⟩ := len_8 htl0
 clear htl0
 subst et
 obtain ⟨y8, y9, y10, y11, y12, y13, y14, y15, tl16, et, htl16⟩ := len_8 htl8
 clear htl8
 subst et
 obtain ⟨y16, y17, y18, y19, y20, y21, y22, y23, tl24, et, htl24⟩ := len_8 htl16
 clear htl16
 subst et
 obtain ⟨y24, y25, y26, y27, y28, y29, y30, y31, tl32, et, htl32⟩ := len_8 htl24
 clear htl24
 subst et
 obtain ⟨y32, tl33, et, htl33⟩ := len_succ htl32
 clear htl32
 subst et
 obtain ⟨y33, tl34, et, htl34⟩ := len_succ htl33
 clear htl33
 subst et
 obtain ⟨y34, tl35, et, htl35⟩ := len_succ htl34
 clear htl34
 subst et
 obtain ⟨y35, tl36, et, htl36⟩ := len_succ htl35
 clear htl35
 subst et
 obtain ⟨y36, tl37, et, htl37⟩ := len_succ htl36
 clear htl36
 subst et
 obtain ⟨y37, tl38, et, htl38⟩ := len_succ htl37
 clear htl37
 subst et
 have et := List.eq_nil_of_length_eq_zero htl38
 clear htl38
 subst et
 have g1 : y1 = .pointer (some ⟨b1, 0, none⟩) := f1
 have g2 : y2 = .pointer (some ⟨b2, 0, none⟩) := f2
 have g3 : y3 = .pointer (some ⟨b3, 0, none⟩) := f3
 clear f1 f2 f3
 subst hd g1 g2 g3
 have la1 : b1 < b3 := by have := B1.out.lt; omega
 have la2 : b2 < b3 := by have := B2.out.lt; omega
 have la3 := B3'.lt
 have C1 := Lib.hid ((B1.out.q hS).ch c3 (show b1 ≠ b3 by omega))
 have C2 := Lib.hid ((B2.out.q hS).ch c3 (show b2 ≠ b3 by omega))
 have C3 := Lib.hid B3'
 have QQ3 : Hid (Q w0 w3) := c3.q (HQ.out.trans hS) (by omega)
 show Exit.then _ _ _ _ _
 clear hI hall hln hS c3 B3' B3 eb3 B1 B2 HQ hpv hV hs hz hA v_0 s_0 v_1 s_1 v_2 s_2 v_3 s_3 v_4 s_4 v_5 s_5 v_6 s_6 v_7 s_7 v_8 s_8 v_9 s_9 v_10 s_10
 clear i_0 i_1 i_2 i_3 i_4 i_5 i_6 i_7 i_8 i_9 i_10 i_11 b_1 fr_1 b_2 fr_2 hO hQQ
 have DD : Hid (KC w0 b1 b2 b3 w3.heap.size) := ⟨by omega, by omega, by omega, by omega, by omega, by omega⟩
 have LW : w0.heap.size ≤ w3.heap.size := by omega
 have LB2 : w0.heap.size ≤ b2 := by omega
 have S0 : Hid (KS w0 b1 b2 b3 w3.heap.size [.int .i64 hh, .string pr, .slice aT nT cT] [.int .i64 0, .string ⟨#[]⟩, .slice none 0 0] hh pv f 0 (fun _ => ⟨TX.zero, none, 0, none, 0, none, 0⟩) none 0 w3) := by
  refine ⟨C1.out, C2.out, C3.out, OR.nil _ _ _ _ _ _, fun i hi => by omega, fun i hi => by omega, fun i hi => by omega, fun i hi => by omega, fun i j hij hj => by omega, QQ3.out, Nat.le_refl _⟩
 obtain ⟨Bt, hBt⟩ : ∃ b, w3.heap.size = b := ⟨_, rfl⟩
 rw [hBt] at DD S0 LW
 clear C1 C2 C3 QQ3 la1 la2 la3 hb hb1 hb3 hBt
 obtain ⟨n, hn⟩ : ∃ n, min nT 9 = n := ⟨_, rfl⟩
 have n9 : n ≤ 9 := by omega
 have nl : n ≤ nT := by omega
 have HN := Lib.hid hn
 obtain ⟨i0, gi0, gz0, gz1, gz2⟩ := info_of info_tx
 as_aux_lemma =>
 go_wp2_with fail
 go_loopw [4] (fun i wr => ∃ (k : Nat) (G : Nat → TXI) (aa : Option Addr) (c : Nat), k ≤ n ∧ i = .int .i64 k ∧ Hid (KS w0 b1 b2 b3 Bt [.int .i64 hh, .string pr, .slice aT nT cT] [.int .i64 0, .string ⟨#[]⟩, .slice none 0 0] hh pv f k G aa c wr)) (fun i _ => n - (intOf i).toNat)
 case atStart => exact ⟨0, _, none, 0, by omega, rfl, S0⟩
 case round =>
 obtain ⟨k, G, aa, c, hk, rfl, S⟩ := hrel
 clear S0 hn
 have j0 : (0 : Int) ≤ (k : Int) := by omega
 have m2 := S.out.y.at_ 2 _ rfl
 by_cases hlt : k < n
 · have j1 : (k : Int) < (nT : Int) := by omega
   have j2 : (k : Int) < 9 := by omega
   go_wp2_with fail
   clear m2
   obtain ⟨b, off, hab, hrow⟩ := (ZS.out.q S.out.q).some_ (by omega)
   obtain ⟨y, hy⟩ : ∃ y, f k = y := ⟨_, rfl⟩
   have FY : Hid (f k = y) := hy
   have wy := Lib.hid (ZK.out k (by omega))
   have hrow := hrow k (by omega)
   rw [hy] at hrow wy
   have RW : Hid (∀ w', Q wr w' → w'.rangeAt b (off + k * 6) (TXI.cells y)) := fun w' q j v hv => Q.cell' q (hrow j v hv)
   have CW : Hid (∀ w, Q wr w → Calls Tryz.prog 5 #[.agg (TXI.cells y).toArray] w fun e w' => ∃ z : TXI, e = .returned (.agg (TXI.cells z).toArray) ∧ z.own w' w.heap.size ∧ z.t = cutX y.t ∧ (Apart z.aI z.aO ∧ Apart z.aI z.aW) ∧ Q w w') := fun w q => txcut_x y w (TXI.In.q_ wy.out (S.out.q.trans q))
   clear hy hrow wy
   obtain ⟨gp, hg1, hg2⟩ : ∃ gp, (∀ x, aa = some x → x.block = gp) ∧ gp < wr.heap.size := by
    rcases S.out.o.shape with ⟨e, _⟩ | ⟨g, e, _, hl, _⟩
    · exact ⟨b3, (fun x hx => by rw [e] at hx; cases hx), S.out.b.lt⟩
    · exact ⟨g, (fun x hx => by rw [e] at hx; injection hx with hx; rw [← hx]), hl⟩
   have WB := S.out.h
   as_aux_lemma =>
   have hS0 : Q wr wr.drew := (Q.refl wr).drew
   refine region_gen3 ?_
   intro OPS QQ A0 hO hQQ hA
   have hz : A0.tmps.size = 38 := by rw [hA]; rfl
   have hs : sound OPS A0.tmps.size = true := by rw [hz, hO]; kernel_rfl
   have bz_1 : A0.eval (.tmp 1) = .pointer (some ⟨b1, 0, none⟩) := by rw [hA]; rfl
   have frz_1 : free OPS 1 = true := by rw [hO]; kernel_rfl
   have bz_3 : A0.eval (.tmp 3) = .pointer (some ⟨b3, 0, none⟩) := by rw [hA]; rfl
   have frz_3 : free OPS 3 = true := by rw [hO]; kernel_rfl
   have bz_4 : A0.eval (.tmp 4) = .int .i64 k := by rw [hA]; rfl
   have frz_4 : free OPS 4 = true := by rw [hO]; kernel_rfl
   obtain ⟨VV, hVV⟩ : ∃ V : Nat → Value → World → Prop, V = fun i => ([fun v _ => v = .pointer (some ⟨b3, 2, none⟩), fun v _ => v = .slice aa k c, fun v _ => v = .pointer (some ⟨b1, 2, none⟩), fun v _ => v = .slice aT nT cT, fun v _ => v = .int .i64 k, fun v _ => v = .pointer (some ⟨b, off + k * 6, none⟩), fun v _ => v = .agg (TXI.cells y).toArray, fun v w => ∃ z : TXI, v = .agg (TXI.cells z).toArray ∧ z.own w wr.heap.size ∧ z.t = cutX y.t ∧ (Apart z.aI z.aO ∧ Apart z.aI z.aW), fun v w => ∃ (z : TXI) (g : Nat), v = .slice (some ⟨g, 0, none⟩) 1 1 ∧ g ≠ gp ∧ (∀ j u, (TXI.cells z)[j]? = some u → w.cell? ⟨g, j, none⟩ = some u) ∧ z.own w wr.heap.size ∧ z.t = cutX y.t ∧ (Apart z.aI z.aO ∧ Apart z.aI z.aW), fun v w' => ∃ (G' : Nat → TXI) (g' c' : Nat) (w1 : World), v = .slice (some ⟨g', 0, none⟩) (k + 1) c' ∧ KS w0 b1 b2 b3 Bt [.int .i64 hh, .string pr, .slice aT nT cT] [.int .i64 0, .string ⟨#[]⟩, .slice none 0 0] hh pv f k G aa c w1 ∧ (∀ i, i < k → G i = G' i) ∧ OR 29 TXI.cells 6 w' Bt (some ⟨g', 0, none⟩) (k + 1) c' G' ∧ Grow w1 w' (blk aa) g' ∧ (G' k).own w1 wr.heap.size ∧ (Apart (G' k).aI (G' k).aO ∧ Apart (G' k).aI (G' k).aW) ∧ (G' k).t = cutX (f k).t, fun v _ => v = .pointer (some ⟨b3, 2, none⟩)] : List (Value → World → Prop)).getD i (fun _ _ => True) := ⟨_, rfl⟩
   have vz_0 : VV 0 = fun v _ => v = .pointer (some ⟨b3, 2, none⟩) := vat hVV 0
   have vz_1 : VV 1 = fun v _ => v = .slice aa k c := vat hVV 1
   have vz_2 : VV 2 = fun v _ => v = .pointer (some ⟨b1, 2, none⟩) := vat hVV 2
   have vz_3 : VV 3 = fun v _ => v = .slice aT nT cT := vat hVV 3
   have vz_4 : VV 4 = fun v _ => v = .int .i64 k := vat hVV 4
   have vz_5 : VV 5 = fun v _ => v = .pointer (some ⟨b, off + k * 6, none⟩) := vat hVV 5
   have vz_6 : VV 6 = fun v _ => v = .agg (TXI.cells y).toArray := vat hVV 6
   have vz_7 : VV 7 = fun v w => ∃ z : TXI, v = .agg (TXI.cells z).toArray ∧ z.own w wr.heap.size ∧ z.t = cutX y.t ∧ (Apart z.aI z.aO ∧ Apart z.aI z.aW) := vat hVV 7
   have vz_8 : VV 8 = fun v w => ∃ (z : TXI) (g : Nat), v = .slice (some ⟨g, 0, none⟩) 1 1 ∧ g ≠ gp ∧ (∀ j u, (TXI.cells z)[j]? = some u → w.cell? ⟨g, j, none⟩ = some u) ∧ z.own w wr.heap.size ∧ z.t = cutX y.t ∧ (Apart z.aI z.aO ∧ Apart z.aI z.aW) := vat hVV 8
   have vz_9 : VV 9 = fun v w' => ∃ (G' : Nat → TXI) (g' c' : Nat) (w1 : World), v = .slice (some ⟨g', 0, none⟩) (k + 1) c' ∧ KS w0 b1 b2 b3 Bt [.int .i64 hh, .string pr, .slice aT nT cT] [.int .i64 0, .string ⟨#[]⟩, .slice none 0 0] hh pv f k G aa c w1 ∧ (∀ i, i < k → G i = G' i) ∧ OR 29 TXI.cells 6 w' Bt (some ⟨g', 0, none⟩) (k + 1) c' G' ∧ Grow w1 w' (blk aa) g' ∧ (G' k).own w1 wr.heap.size ∧ (Apart (G' k).aI (G' k).aO ∧ Apart (G' k).aI (G' k).aW) ∧ (G' k).t = cutX (f k).t := vat hVV 9
   have vz_10 : VV 10 = fun v _ => v = .pointer (some ⟨b3, 2, none⟩) := vat hVV 10
   have hV := stablex_of (T := Ch gp) (p := 9) hVV ((kx (kx (kx (kx (kx (kx (kx (sx_cons (fun v w w' h t => by obtain ⟨z, h1, h2, h3⟩ := h; exact ⟨z, h1, own_ch h2 t (fun hb => by have := (own_at h2 hb).1; omega), h3⟩) (sx_cons (fun v w w' h t => by obtain ⟨z, g, h1, h2, h3, h4, h5⟩ := h; exact ⟨z, g, h1, h2, fun j u hj => t.cell (h3 j u hj) h2, own_ch h4 t (fun hb => by have := (own_at h4 hb).1; omega), h5⟩) (sx_skip rfl (kx trivial))))))))))))
   clear hVV
   have iz_0 := pget_at hO 0 rfl
   have iz_1 := pget_at hO 1 rfl
   have iz_2 := pget_at hO 2 rfl
   have iz_3 := pget_at hO 3 rfl
   have iz_4 := pget_at hO 4 rfl
   have iz_5 := pget_at hO 5 rfl
   have iz_6 := pget_at hO 6 rfl
   have iz_7 := pget_at hO 7 rfl
   have iz_8 := pget_at hO 8 rfl
   have iz_9 := pget_at hO 9 rfl
   have iz_10 := pget_at hO 10 rfl
   have iz_11 := pget_at hO 11 rfl
   have MK38 := @Step2.pure Tryz.prog OPS QQ VV (Ch gp) (Q wr) A0 9
   have sz_0 := MK38 iz_0 (by rw [hO]; kernel_rfl) (.pointer (some ⟨b3, 2, none⟩)) (Ch.refl gp ·) (fun l a w hI hl hS => ⟨wanted_none rfl, (by have e0 : a.eval (.tmp 3) = _ := ((hI.base 3 frz_3).trans bz_3); generalize a.eval = ρ at e0 ⊢; simp [go_sem, e0]), at_mk vz_0 rfl⟩)
   have sz_1 := MK38 iz_1 (by rw [hO]; kernel_rfl) (.slice aa k c) (Ch.refl gp ·) (fun l a w hI hl hS => ⟨wanted_none rfl, (by have e0 : a.eval (.tmp 26) = _ := (at_eq vz_0 (hI.at_ 0 26 _ iz_0 rfl (hl_at hl 0 rfl rfl))); have x0 := (S.out.q_ hS).b.at_ 2 _ rfl; generalize a.eval = ρ at e0 ⊢; simp [go_sem, e0, x0]), at_mk vz_1 rfl⟩)
   have sz_2 := MK38 iz_2 (by rw [hO]; kernel_rfl) (.pointer (some ⟨b1, 2, none⟩)) (Ch.refl gp ·) (fun l a w hI hl hS => ⟨wanted_none rfl, (by have e0 : a.eval (.tmp 1) = _ := ((hI.base 1 frz_1).trans bz_1); generalize a.eval = ρ at e0 ⊢; simp [go_sem, e0]), at_mk vz_2 rfl⟩)
   have sz_3 := MK38 iz_3 (by rw [hO]; kernel_rfl) (.slice aT nT cT) (Ch.refl gp ·) (fun l a w hI hl hS => ⟨wanted_none rfl, (by have e0 : a.eval (.tmp 28) = _ := (at_eq vz_2 (hI.at_ 2 28 _ iz_2 rfl (hl_at hl 0 rfl rfl))); have x0 := (S.out.q_ hS).y.at_ 2 _ rfl; generalize a.eval = ρ at e0 ⊢; simp [go_sem, e0, x0]), at_mk vz_3 rfl⟩)
   have sz_4 := MK38 iz_4 (by rw [hO]; kernel_rfl) (.int .i64 k) (Ch.refl gp ·) (fun l a w hI hl hS => ⟨wanted_none rfl, ex_move rfl ((hI.base 4 frz_4).trans bz_4), at_mk vz_4 rfl⟩)
   have sz_5 := MK38 iz_5 (by rw [hO]; kernel_rfl) (.pointer (some ⟨b, off + k * 6, none⟩)) (Ch.refl gp ·) (fun l a w hI hl hS => ⟨wanted_none rfl, (by have e0 : a.eval (.tmp 29) = _ := (at_eq vz_3 (hI.at_ 3 29 _ iz_3 rfl (hl_at hl 0 rfl rfl))); have e1 : a.eval (.tmp 30) = _ := (at_eq vz_4 (hI.at_ 4 30 _ iz_4 rfl (hl_at hl 1 rfl rfl))); generalize a.eval = ρ at e0 e1 ⊢; simp [go_sem, e0, e1, j0, j1, hab]), at_mk vz_5 rfl⟩)
   have sz_6 := MK38 iz_6 (by rw [hO]; kernel_rfl) (.agg (TXI.cells y).toArray) (Ch.refl gp ·) (fun l a w hI hl hS => ⟨wanted_none rfl, ex_loado 29 rfl b (off + k * 6) (TXI.cells y) _ (at_eq vz_5 (hI.at_ 5 31 _ iz_5 rfl (hl_at hl 0 rfl rfl))) (RW.out w hS) Tryz.underlying29 rfl (by kernel_rfl), at_mk vz_6 rfl⟩)
   have MK39 := @Step2.done Tryz.prog OPS QQ VV (Ch gp) (Q wr) A0 9
   have sz_7 := MK39 iz_7 (by rw [hO]; kernel_rfl) (fun l a w hI hl hS => by
    refine ⟨wanted_none rfl, ?_⟩
    refine wp_enter (f := 5) (args := #[.agg (TXI.cells y).toArray]) ?_ ?_
    · exact ex_call rfl (by simp only [List.map_toArray, List.map_cons, List.map_nil, ev_const, (show a.eval (.tmp 32) = _ from (at_eq vz_6 (hI.at_ 6 32 _ iz_6 rfl (hl_at hl 0 rfl rfl))))]) Tryz.func5 (by kernel_rfl) (by kernel_rfl)
    · refine (CW.out w hS).mono fun e w' hc => ?_
      obtain ⟨z, rfl, h1, h2, h3, hq⟩ := hc
      exact ⟨_, rfl, Ch.of_q hq gp, hS.trans hq, p_at vz_7 ⟨z, rfl, own_down h1 hS.size, h2, h3⟩⟩)
   have sz_8 := MK39 iz_8 (by rw [hO]; kernel_rfl) (fun l a w hI hl hS => by
    obtain ⟨z, ez, h1, h2, h3⟩ := at_p vz_7 (hI.at_ 7 33 _ iz_7 rfl (hl_at hl 0 rfl rfl))
    refine ⟨wanted_none rfl, ?_⟩
    refine wpo_rowtx z rfl ez ?_
    exact ⟨_, rfl, Ch.of_q ((Q.refl w).alloc _) gp, hS.alloc _, p_at vz_8 ⟨z, w.heap.size, rfl, by have := hS.size; omega, fun j u hj => by rw [World.cell?_alloc_at _ _ _ _ rfl]; simpa using hj, h1.q ((Q.refl w).alloc _), h2, h3⟩⟩)
   have sz_9 := StepP.done (P := Tryz.prog) (V := VV) (T := Ch gp) (S := (Q wr)) (a0 := A0) (p := 9) (Qx := QQ) iz_9 (fun l a w hI hl hS => by
    obtain ⟨z, g, eg, hgne, hcell, h1, h2, h3⟩ := at_p vz_8 (hI.at_ 8 34 _ iz_8 rfl (hl_at hl 1 rfl rfl))
    refine ⟨wanted_none rfl, ?_⟩
    have SA := S.out.q_ hS
    obtain ⟨G', hG'⟩ : ∃ G' : Nat → TXI, G' = fun i => if i = k then z else G i := ⟨_, rfl⟩
    have GK : G' k = z := by rw [hG']; simp
    have GL_ : ∀ i, i < k → G i = G' i := fun i hi => by rw [hG']; simp only; rw [if_neg (by omega)]
    clear hG'
    refine wpo_app (.tmp 27) (.tmp 34) 62 rfl i0 _ 112 Tryz.underlying62 gi0 gz0 gz1 gz2 rfl (by decide) (at_eq vz_1 (hI.at_ 1 27 _ iz_1 rfl (hl_at hl 0 rfl rfl))) (SA.o.congr GL_) g eg rfl (fun j u hj => hcell j u (by rw [GK] at hj; exact hj)) (by rw [GK]; exact one6 rfl rfl rfl rfl rfl rfl) (by omega) (by decide) (by have := SA.h; omega) ?_
    intro g' c' w' O' Gr
    exact ⟨_, rfl, Gr.chp gp hg1, p_at vz_9 ⟨G', g', c', w, rfl, SA, GL_, O', Gr, by rw [GK]; exact h1, by rw [GK]; exact h3, by rw [GK, h2, FY.out]⟩⟩)
   have MK40 := @StepQ.pure Tryz.prog OPS QQ VV (Q wr) A0 9
   have sz_10 := MK40 iz_10 (.pointer (some ⟨b3, 2, none⟩)) (fun l a w hI hl => ⟨wanted_none rfl, (by have e0 : a.eval (.tmp 3) = _ := ((hI.base 3 frz_3).trans bz_3); generalize a.eval = ρ at e0 ⊢; simp [go_sem, e0]), at_mk vz_10 rfl⟩)
   refine wp_plan2 VV (Ch gp) (Q wr) 9 11 (by kernel_rfl) hs (by rw [hO]; rfl) (by rw [hO]; kernel_rfl) hV hS0 (steps2_all hO _ rfl ((s2_cons sz_0 (s2_cons sz_1 (s2_cons sz_2 (s2_cons sz_3 (s2_cons sz_4 (s2_cons sz_5 (s2_cons sz_6 (s2_cons sz_7 (s2_cons sz_8 (sp_cons rfl sz_9 (sq_cons sz_10 trivial))))))))))))) ?_
   intro l a w hall hln hI
   as_aux_lemma =>
   obtain ⟨G', g', c', w1, eg, K1, hGG, O', Gr, ho, hp, ht⟩ := (at_p vz_9 (hI.at_ 9 35 _ iz_9 rfl (hall 9 (by decide))))
   have E3 : Box _ b3 [.int .i64 hh, .string pv, .slice aa k c] := K1.b.over (fun x hx => by have := (K1.o.blk_ x hx).1; have := DD.out.l5; omega) Gr
   refine fin_of iz_11 (wanted_none rfl) ?_
   refine wpo_st1 62 _ _ rfl (at_eq vz_10 (hI.at_ 10 36 _ iz_10 rfl (hall 10 (by decide)))) eg E3 rfl (fun w hc hf => by simp [go_sem, hc, hf]) ?_
   intro w5 B3' c5
   rw [hQQ]
   obtain ⟨ts, ds⟩ := a
   have hd : ds = [] := by have := hI.df; rw [hA] at this; exact this
   have hts : ts.size = 38 := by have := hI.sz; rw [hz] at this; exact this
   have f1 : ts.getD 1 undef = .pointer (some ⟨b1, 0, none⟩) := ((hI.base 1 frz_1).trans bz_1)
   have f3 : ts.getD 3 undef = .pointer (some ⟨b3, 0, none⟩) := ((hI.base 3 frz_3).trans bz_3)
   have f4 : ts.getD 4 undef = .int .i64 k := ((hI.base 4 frz_4).trans bz_4)
   have f0 := (hI.base 0 (by rw [hO]; kernel_rfl)).trans (base_at hA 0 rfl)
   have f2 := (hI.base 2 (by rw [hO]; kernel_rfl)).trans (base_at hA 2 rfl)
   have f5 := (hI.base 5 (by rw [hO]; kernel_rfl)).trans (base_at hA 5 rfl)
   have f6 := (hI.base 6 (by rw [hO]; kernel_rfl)).trans (base_at hA 6 rfl)
   have f7 := (hI.base 7 (by rw [hO]; kernel_rfl)).trans (base_at hA 7 rfl)
   have f8 := (hI.base 8 (by rw [hO]; kernel_rfl)).trans (base_at hA 8 rfl)
   have f9 := (hI.base 9 (by rw [hO]; kernel_rfl)).trans (base_at hA 9 rfl)
   have f10 := (hI.base 10 (by rw [hO]; kernel_rfl)).trans (base_at hA 10 rfl)
   have f11 := (hI.base 11 (by rw [hO]; kernel_rfl)).trans (base_at hA 11 rfl)
   have f12 := (hI.base 12 (by rw [hO]; kernel_rfl)).trans (base_at hA 12 rfl)
   have f13 := (hI.base 13 (by rw [hO]; kernel_rfl)).trans (base_at hA 13 rfl)
   have f14 := (hI.base 14 (by rw [hO]; kernel_rfl)).trans (base_at hA 14 rfl)
   have f15 := (hI.base 15 (by rw [hO]; kernel_rfl)).trans (base_at hA 15 rfl)
   have f16 := (hI.base 16 (by rw [hO]; kernel_rfl)).trans (base_at hA 16 rfl)
   have f17 := (hI.base 17 (by rw [hO]; kernel_rfl)).trans (base_at hA 17 rfl)
   have f18 := (hI.base 18 (by rw [hO]; kernel_rfl)).trans (base_at hA 18 rfl)
   have f19 := (hI.base 19 (by rw [hO]; kernel_rfl)).trans (base_at hA 19 rfl)
   have f20 := (hI.base 20 (by rw [hO]; kernel_rfl)).trans (base_at hA 20 rfl)
   have f21 := (hI.base 21 (by rw [hO]; kernel_rfl)).trans (base_at hA 21 rfl)
   have f22 := (hI.base 22 (by rw [hO]; kernel_rfl)).trans (base_at hA 22 rfl)
   have f23 := (hI.base 23 (by rw [hO]; kernel_rfl)).trans (base_at hA 23 rfl)
   have f24 := (hI.base 24 (by rw [hO]; kernel_rfl)).trans (base_at hA 24 rfl)
   have f25 := (hI.base 25 (by rw [hO]; kernel_rfl)).trans (base_at hA 25 rfl)
   have f37 := (hI.base 37 (by rw [hO]; kernel_rfl)).trans (base_at hA 37 rfl)
   obtain ⟨tl0, rfl⟩ : ∃ tl : List Value, ts = tl.toArray := ⟨ts.toList, by simp⟩
   have htl0 : tl0.length = 38 := by simpa using hts
   clear hts
   obtain ⟨y0, y1, y2, y3, y4, y5, y6, y7, tl8, et, htl8⟩ := len_8 htl0
   clear htl0
   subst et
   obtain ⟨y8, y9, y10, y11, y12, y13, y14, y15, tl16, et, htl16⟩ := len_8 htl8
   clear htl8
   subst et
   obtain ⟨y16, y17, y18, y19, y20, y21, y22, y23, tl24, et, htl24⟩ := len_8 htl16
   clear htl16
   subst et
   obtain ⟨y24, y25, y26, y27, y28, y29, y30, y31, tl32, et, htl32⟩ := len_8 htl24
   clear htl24
   subst et
   obtain ⟨y32, tl33, et, htl33⟩ := len_succ htl32
   clear htl32
   subst et
   obtain ⟨y33, tl34, et, htl34⟩ := len_succ htl33
   clear htl33
   subst et
   obtain ⟨y34, tl35, et, htl35⟩ := len_succ htl34
   clear htl34
   subst et
   obtain ⟨y35, tl36, et, htl36⟩ := len_succ htl35
   clear htl35
   subst et
   obtain ⟨y36, tl37, et, htl37⟩ := len_succ htl36
   clear htl36
   subst et
   obtain ⟨y37, tl38, et, htl38⟩ := len_succ htl37
   clear htl37
   subst et
   have et := List.eq_nil_of_length_eq_zero htl38
   clear htl38
   subst et
   have g1 : y1 = .pointer (some ⟨b1, 0, none⟩) := f1
   have g3 : y3 = .pointer (some ⟨b3, 0, none⟩) := f3
   have g4 : y4 = .int .i64 k := f4
   have g0 : y0 = _ := f0
   have g2 : y2 = _ := f2
   have g5 : y5 = _ := f5
   have g6 : y6 = _ := f6
   have g7 : y7 = _ := f7
   have g8 : y8 = _ := f8
   have g9 : y9 = _ := f9
   have g10 : y10 = _ := f10
   have g11 : y11 = _ := f11
   have g12 : y12 = _ := f12
   have g13 : y13 = _ := f13
   have g14 : y14 = _ := f14
   have g15 : y15 = _ := f15
   have g16 : y16 = _ := f16
   have g17 : y17 = _ := f17
   have g18 : y18 = _ := f18
   have g19 : y19 = _ := f19
   have g20 : y20 = _ := f20
   have g21 : y21 = _ := f21
   have g22 : y22 = _ := f22
   have g23 : y23 = _ := f23
   have g24 : y24 = _ := f24
   have g25 : y25 = _ := f25
   have g37 : y37 = _ := f37
   clear f1 f3 f4 f0 f2 f5 f6 f7 f8 f9 f10 f11 f12 f13 f14 f15 f16 f17 f18 f19 f20 f21 f22 f23 f24 f25 f37
   subst hd g1 g3 g4 g0 g2 g5 g6 g7 g8 g9 g10 g11 g12 g13 g14 g15 g16 g17 g18 g19 g20 g21 g22 g23 g24 g25 g37
   have SN : Hid (KS w0 b1 b2 b3 Bt [.int .i64 hh, .string pr, .slice aT nT cT] [.int .i64 0, .string ⟨#[]⟩, .slice none 0 0] hh pv f (k + 1) G' (some ⟨g', 0, none⟩) c' w5) := K1.push DD.out hGG O' Gr ho WB (fun i hi b hb => (own_at (S.out.m i hi) hb).2) (fun x hx => (S.out.o.blk_ x hx).2) hp ht B3' c5
   clear hI hall hln c5 B3' eg K1 hGG O' Gr ho hp ht E3 S RW CW hg1 hg2 hab hV hs hz hA vz_0 sz_0 vz_1 sz_1 vz_2 sz_2 vz_3 sz_3 vz_4 sz_4 vz_5 sz_5 vz_6 sz_6 vz_7 sz_7 vz_8 sz_8 vz_9 sz_9 vz_10 sz_10
   clear iz_0 iz_1 iz_2 iz_3 iz_4 iz_5 iz_6 iz_7 iz_8 iz_9 iz_10 iz_11 bz_1 frz_1 bz_3 frz_3 bz_4 frz_4 hO hQQ
   as_aux_lemma =>
   go_wp2_with fail
   go_roundw
   case rel => exact ⟨k + 1, G', some ⟨g', 0, none⟩, c', by omega, by go_num, SN⟩
   case measure => simp [intOf]; omega
 · obtain rfl : k = n := by omega
   have HE : Hid (BO wr Bt ⟨hh, pv, k, G, aa, c⟩) := ⟨S.out.o, S.out.m, S.out.p, S.out.l, S.out.d, fun i hi => by
    have hik : i < k := hi
    have e := S.out.v i hik
    have hw := ZK.out i (by omega)
    show (G i).t.ok
    rw [e]; exact cutX_ok hw.i.ok hw.o.ok hw.amount hw.w.ok⟩
   have HV : Hid (∀ i, i < k → (G i).t = cutX (f i).t) := S.out.v
   have D3 := Lib.hid S.out.b
   have D2 := Lib.hid S.out.z
   have QR := Lib.hid S.out.q
   have l2 := DD.out.l2
   clear S ZK ZS
   by_cases h6 : k < nT
   · have j1 : (k : Int) < (nT : Int) := by omega
     have j2 : ¬ (k : Int) < 9 := by have := HN.out; omega
     have t2 : decide ((k : Int) < 9) = false := by simp; omega
     have t3 : decide (k < 9) = false := by simp; omega
     go_wp2_with (with_reducible (show wpList _ _ _ (⟨_, Op.load 64 _, _, _, _, _⟩ :: _) _ _); refine halt ?_)
     refine Lib.hid (ld_box rfl 64 _ rfl b3 _ rfl D3.out Tryz.underlying64 rfl (by kernel_rfl) ?_)
     refine st_box rfl 64 _ _ rfl b2 _ [.int .i64 hh, .string pv, .slice aa k c] rfl rfl D2.out rfl (by kernel_rfl) (one3 rfl rfl rfl) ?_
     intro w9 B9 c9
     have HL : Hid ((loadVar 64 ⟨b2, 0, none⟩).run Tryz.prog w9 = .ok (.agg #[.int .i64 hh, .string pv, .slice aa k c]) w9) := B9.load _ Tryz.underlying64 rfl (by kernel_rfl)
     have O9 : Hid (BO w9 w0.heap.size ⟨hh, pv, k, G, aa, c⟩) := (HE.out.low c9 l2).down LW
     have Q9 : Hid (Q w0 w9) := c9.q QR.out LB2
     clear B9 c9 HE QR D2 D3
     simp only [Act.put, pu]
     refine wpList_nil ?_
     go_step
     go_step
     go_step
     refine bodyPost_ret (results_cell rfl rfl HL.out) rfl ?_
     exact ⟨⟨hh, pv, k, G, aa, c⟩, rfl, O9.out, ⟨ZH.out, by show pv.size ≤ _; rw [HP.out]; exact Nat.le_trans (cutS_le pr 40 40 rfl) (by decide), by show k ≤ 100; omega⟩, ⟨rfl, HP.out, by show k = min nT 9; rw [HN.out], HV.out⟩, Q9.out⟩
   · have j1 : ¬ (k : Int) < (nT : Int) := by omega
     have t2 : decide ((k : Int) < (nT : Int)) = false := by simp; omega
     have t3 : decide (k < nT) = false := by simp; omega
     go_wp2_with (with_reducible (show wpList _ _ _ (⟨_, Op.load 64 _, _, _, _, _⟩ :: _) _ _); refine halt ?_)
     refine Lib.hid (ld_box rfl 64 _ rfl b3 _ rfl D3.out Tryz.underlying64 rfl (by kernel_rfl) ?_)
     refine st_box rfl 64 _ _ rfl b2 _ [.int .i64 hh, .string pv, .slice aa k c] rfl rfl D2.out rfl (by kernel_rfl) (one3 rfl rfl rfl) ?_
     intro w9 B9 c9
     have HL : Hid ((loadVar 64 ⟨b2, 0, none⟩).run Tryz.prog w9 = .ok (.agg #[.int .i64 hh, .string pv, .slice aa k c]) w9) := B9.load _ Tryz.underlying64 rfl (by kernel_rfl)
     have O9 : Hid (BO w9 w0.heap.size ⟨hh, pv, k, G, aa, c⟩) := (HE.out.low c9 l2).down LW
     have Q9 : Hid (Q w0 w9) := c9.q QR.out LB2
     clear B9 c9 HE QR D2 D3
     simp only [Act.put, pu]
     refine wpList_nil ?_
     go_step
     go_step
     go_step
     refine bodyPost_ret (results_cell rfl rfl HL.out) rfl ?_
     exact ⟨⟨hh, pv, k, G, aa, c⟩, rfl, O9.out, ⟨ZH.out, by show pv.size ≤ _; rw [HP.out]; exact Nat.le_trans (cutS_le pr 40 40 rfl) (by decide), by show k ≤ 100; omega⟩, ⟨rfl, HP.out, by show k = min nT 9; rw [HN.out], HV.out⟩, Q9.out⟩
end Go.Proofs.YtobfgljkckcmcaaGreatDoor.Coi
