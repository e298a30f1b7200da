import Derived.Test.YtobfgljkckcmcaaGreatDoorXJPlan
set_option maxRecDepth 100000
namespace Go.Proofs.YtobfgljkckcmcaaGreatDoor.Coi
open Go.RowKit
open Mem Num Cod Plan
set_option linter.unusedVariables false
set_option linter.unusedSimpArgs false
theorem onec4 {v0 v1 v2 v3 : Value} (h0 : v0.oneCell' = true) (h1 : v1.oneCell' = true) (h2 : v2.oneCell' = true) (h3 : v3.oneCell' = true) : ∀ v ∈ [v0, v1, v2, v3], v.oneCell' = true := by
 intro v hv; simp at hv; rcases hv with rfl | rfl | rfl | rfl <;> assumption
theorem onec9 {v0 v1 v2 v3 v4 v5 v6 v7 v8 : Value} (h0 : v0.oneCell' = true) (h1 : v1.oneCell' = true) (h2 : v2.oneCell' = true) (h3 : v3.oneCell' = true) (h4 : v4.oneCell' = true) (h5 : v5.oneCell' = true) (h6 : v6.oneCell' = true) (h7 : v7.oneCell' = true) (h8 : v8.oneCell' = true) : ∀ v ∈ [v0, v1, v2, v3, v4, v5, v6, v7, v8], v.oneCell' = true := by
 intro v hv; simp at hv; rcases hv with rfl | rfl | rfl | rfl | rfl | rfl | rfl | rfl | rfl <;> assumption
theorem onec10 {v0 v1 v2 v3 v4 v5 v6 v7 v8 v9 : Value} (h0 : v0.oneCell' = true) (h1 : v1.oneCell' = true) (h2 : v2.oneCell' = true) (h3 : v3.oneCell' = true) (h4 : v4.oneCell' = true) (h5 : v5.oneCell' = true) (h6 : v6.oneCell' = true) (h7 : v7.oneCell' = true) (h8 : v8.oneCell' = true) (h9 : v9.oneCell' = true) : ∀ v ∈ [v0, v1, v2, v3, v4, v5, v6, v7, v8, v9], v.oneCell' = true := by
 intro v hv; simp at hv; rcases hv with rfl | rfl | rfl | rfl | rfl | rfl | rfl | rfl | rfl | rfl <;> assumption
set_option maxHeartbeats 8000000 in
theorem copyin_x (x : IN) (w0 : World) (hk : x.ok) : Calls Tryz.prog 49 #[inV x] w0 fun e w' => e = .returned (inV x) ∧ Q w0 w' := by
 have z_tx := hk.tx
 have z_sig := hk.sig
 obtain ⟨tx, out, path, sig⟩ := x
 dsimp only at *
 clear hk
 go_enter Tryz.func49, Tryz.ntmps49
 go_wp2_with fail
 have HQ : Hid (Q w0 ((w0.alloc (.cells #[.string tx, .int .i64 out, .int .i64 path, .string sig] 53)).alloc (.cells #[.string ⟨#[]⟩, .int .i64 0, .int .i64 0, .string ⟨#[]⟩] 53))) := ((Q.refl w0).alloc _).alloc _
 have B1 : Hid (Box ((w0.alloc (.cells #[.string tx, .int .i64 out, .int .i64 path, .string sig] 53)).alloc (.cells #[.string ⟨#[]⟩, .int .i64 0, .int .i64 0, .string ⟨#[]⟩] 53)) w0.heap.size [.string tx, .int .i64 out, .int .i64 path, .string sig]) := (Box.new w0 [.string tx, .int .i64 out, .int .i64 path, .string sig] 53).q ((Q.refl _).alloc _)
 have B2 : Hid (Box ((w0.alloc (.cells #[.string tx, .int .i64 out, .int .i64 path, .string sig] 53)).alloc (.cells #[.string ⟨#[]⟩, .int .i64 0, .int .i64 0, .string ⟨#[]⟩] 53)) (w0.heap.size + 1) [.string ⟨#[]⟩, .int .i64 0, .int .i64 0, .string ⟨#[]⟩]) := by
  have := Box.new (w0.alloc (.cells #[.string tx, .int .i64 out, .int .i64 path, .string sig] 53)) [.string ⟨#[]⟩, .int .i64 0, .int .i64 0, .string ⟨#[]⟩] 53
  rw [show (w0.alloc (.cells #[.string tx, .int .i64 out, .int .i64 path, .string sig] 53)).heap.size = w0.heap.size + 1 by simp] at this
  exact this
 generalize (w0.alloc (.cells #[.string tx, .int .i64 out, .int .i64 path, .string sig] 53)).alloc (.cells #[.string ⟨#[]⟩, .int .i64 0, .int .i64 0, .string ⟨#[]⟩] 53) = wA at *
 have hb2 : w0.heap.size ≤ w0.heap.size + 1 := by omega
 have n12 : w0.heap.size + 1 ≠ w0.heap.size := by omega
 obtain ⟨b2, hb⟩ : ∃ b, w0.heap.size + 1 = b := ⟨_, rfl⟩
 rw [hb] at B2 hb2 n12 ⊢
 obtain ⟨b1, hb'⟩ : ∃ b, w0.heap.size = b := ⟨_, rfl⟩
 have hb1 : w0.heap.size ≤ b1 := by omega
 rw [hb'] at B1 n12 ⊢
 clear hb hb'
 have hS0 : (fun w => Ch b1 wA w ∧ Box w b1 [.string tx, .int .i64 out, .int .i64 path, .string sig]) wA.drew := ⟨(Ch.refl b1 wA).drew, B1.out.q (Q.refl wA).drew⟩
 refine region_gen3 ?_
 intro OPS QQ A0 hO hQQ hA
 have hz : A0.tmps.size = 14 := by rw [hA]; rfl
 have hs : sound OPS A0.tmps.size = true := by rw [hz, hO]; kernel_rfl
 have b_1 : A0.eval (.tmp 1) = .pointer (some ⟨b1, 0, none⟩) := by rw [hA]; rfl
 have fr_1 : free OPS 1 = true := by rw [hO]; kernel_rfl
 have b_2 : A0.eval (.tmp 2) = .pointer (some ⟨b2, 0, none⟩) := by rw [hA]; rfl
 have fr_2 : free OPS 2 = true := by rw [hO]; kernel_rfl
 obtain ⟨VV, hVV⟩ : ∃ V : Nat → Value → World → Prop, V = fun i => ([fun v _ => v = .pointer (some ⟨b1, 0, none⟩), fun v _ => v = .pointer (some ⟨b1, 0, none⟩), fun v _ => v = .string tx, fun v _ => v = .string tx, fun v _ => v = .pointer (some ⟨b1, 3, none⟩), fun v _ => v = .string sig, fun v _ => v = .string sig, fun v _ => v = .pointer (some ⟨b1, 0, none⟩), fun v _ => v = .pointer (some ⟨b1, 0, none⟩), fun _ _ => True, fun v _ => v = .pointer (some ⟨b1, 3, none⟩)] : List (Value → World → Prop)).getD i (fun _ _ => True) := ⟨_, rfl⟩
 have v_0 : VV 0 = fun v _ => v = .pointer (some ⟨b1, 0, none⟩) := vat hVV 0
 have v_1 : VV 1 = fun v _ => v = .pointer (some ⟨b1, 0, none⟩) := vat hVV 1
 have v_2 : VV 2 = fun v _ => v = .string tx := vat hVV 2
 have v_3 : VV 3 = fun v _ => v = .string tx := vat hVV 3
 have v_4 : VV 4 = fun v _ => v = .pointer (some ⟨b1, 3, none⟩) := vat hVV 4
 have v_5 : VV 5 = fun v _ => v = .string sig := vat hVV 5
 have v_6 : VV 6 = fun v _ => v = .string sig := vat hVV 6
 have v_7 : VV 7 = fun v _ => v = .pointer (some ⟨b1, 0, none⟩) := vat hVV 7
 have v_8 : VV 8 = fun v _ => v = .pointer (some ⟨b1, 0, none⟩) := vat hVV 8
 have v_9 : VV 9 = fun _ _ => True := vat hVV 9
 have v_10 : VV 10 = fun v _ => v = .pointer (some ⟨b1, 3, none⟩) := vat hVV 10
 have hV := stablex_of (T := Ch b1) (p := 11) hVV ((sx_cons (fun _ _ _ h _ => h) (sx_cons (fun _ _ _ h _ => h) (sx_cons (fun _ _ _ h _ => h) (sx_cons (fun _ _ _ h _ => h) (sx_cons (fun _ _ _ h _ => h) (sx_cons (fun _ _ _ h _ => h) (sx_cons (fun _ _ _ h _ => h) (sx_cons (fun _ _ _ h _ => h) (sx_cons (fun _ _ _ h _ => h) (sx_cons (fun _ _ _ h _ => h) (sx_cons (fun _ _ _ h _ => h) trivial))))))))))))
 clear hVV
 have i_0 := pget_at hO 0 rfl
 have i_1 := pget_at hO 1 rfl
 have i_2 := pget_at hO 2 rfl
 have i_3 := pget_at hO 3 rfl
 have i_4 := pget_at hO 4 rfl
 have i_5 := pget_at hO 5 rfl
 have i_6 := pget_at hO 6 rfl
 have i_7 := pget_at hO 7 rfl
 have i_8 := pget_at hO 8 rfl
 have i_9 := pget_at hO 9 rfl
 have i_10 := pget_at hO 10 rfl
 have i_11 := pget_at hO 11 rfl
 have MK27 := @Step2.pure Tryz.prog OPS QQ VV (Ch b1) (fun w => Ch b1 wA w ∧ Box w b1 [.string tx, .int .i64 out, .int .i64 path, .string sig]) A0 11
 have s_0 := MK27 i_0 (by rw [hO]; kernel_rfl) (.pointer (some ⟨b1, 0, none⟩)) (Ch.refl b1 ·) (fun l a w hI hl hS => ⟨wanted_none rfl, (by have e0 : a.eval (.tmp 1) = _ := ((hI.base 1 fr_1).trans b_1); generalize a.eval = ρ at e0 ⊢; simp [go_sem, e0]), at_mk v_0 rfl⟩)
 have s_1 := MK27 i_1 (by rw [hO]; kernel_rfl) (.pointer (some ⟨b1, 0, none⟩)) (Ch.refl b1 ·) (fun l a w hI hl hS => ⟨wanted_none rfl, (by have e0 : a.eval (.tmp 3) = _ := (at_eq v_0 (hI.at_ 0 3 _ i_0 rfl (hl_at hl 0 rfl rfl))); generalize a.eval = ρ at e0 ⊢; simp [go_sem, e0]), at_mk v_1 rfl⟩)
 have s_2 := MK27 i_2 (by rw [hO]; kernel_rfl) (.string tx) (Ch.refl b1 ·) (fun l a w hI hl hS => ⟨wanted_none rfl, (by have e0 : a.eval (.tmp 4) = _ := (at_eq v_1 (hI.at_ 1 4 _ i_1 rfl (hl_at hl 0 rfl rfl))); have x0 := hS.2.at_ 0 _ rfl; generalize a.eval = ρ at e0 ⊢; simp [go_sem, e0, x0]), at_mk v_2 rfl⟩)
 have MK28 := @Step2.done Tryz.prog OPS QQ VV (Ch b1) (fun w => Ch b1 wA w ∧ Box w b1 [.string tx, .int .i64 out, .int .i64 path, .string sig]) A0 11
 have s_3 := MK28 i_3 (by rw [hO]; kernel_rfl) (fun l a w hI hl hS => by
  refine ⟨wanted_none rfl, ?_⟩
  refine wp_enter (f := 93) (args := #[.string tx]) ?_ ?_
  · exact ex_call rfl (by simp only [List.map_toArray, List.map_cons, List.map_nil, ev_const, (show a.eval (.tmp 5) = _ from (at_eq v_2 (hI.at_ 2 5 _ i_2 rfl (hl_at hl 0 rfl rfl))))]) Tryz.func93 (by kernel_rfl) (by kernel_rfl)
  · refine (clone_any tx w (by omega)).mono fun e w' hc => ?_
    obtain ⟨rfl, hq⟩ := hc
    exact ⟨_, rfl, Ch.of_q hq b1, ⟨hS.1.trans (Ch.of_q hq b1), hS.2.q hq⟩, at_mk v_3 rfl⟩)
 have s_4 := MK27 i_4 (by rw [hO]; kernel_rfl) (.pointer (some ⟨b1, 3, none⟩)) (Ch.refl b1 ·) (fun l a w hI hl hS => ⟨wanted_none rfl, (by have e0 : a.eval (.tmp 1) = _ := ((hI.base 1 fr_1).trans b_1); generalize a.eval = ρ at e0 ⊢; simp [go_sem, e0]), at_mk v_4 rfl⟩)
 have s_5 := MK27 i_5 (by rw [hO]; kernel_rfl) (.string sig) (Ch.refl b1 ·) (fun l a w hI hl hS => ⟨wanted_none rfl, (by have e0 : a.eval (.tmp 7) = _ := (at_eq v_4 (hI.at_ 4 7 _ i_4 rfl (hl_at hl 0 rfl rfl))); have x0 := hS.2.at_ 3 _ rfl; generalize a.eval = ρ at e0 ⊢; simp [go_sem, e0, x0]), at_mk v_5 rfl⟩)
 have s_6 := MK28 i_6 (by rw [hO]; kernel_rfl) (fun l a w hI hl hS => by
  refine ⟨wanted_none rfl, ?_⟩
  refine wp_enter (f := 93) (args := #[.string sig]) ?_ ?_
  · exact ex_call rfl (by simp only [List.map_toArray, List.map_cons, List.map_nil, ev_const, (show a.eval (.tmp 8) = _ from (at_eq v_5 (hI.at_ 5 8 _ i_5 rfl (hl_at hl 0 rfl rfl))))]) Tryz.func93 (by kernel_rfl) (by kernel_rfl)
  · refine (clone_any sig w (by omega)).mono fun e w' hc => ?_
    obtain ⟨rfl, hq⟩ := hc
    exact ⟨_, rfl, Ch.of_q hq b1, ⟨hS.1.trans (Ch.of_q hq b1), hS.2.q hq⟩, at_mk v_6 rfl⟩)
 have s_7 := MK27 i_7 (by rw [hO]; kernel_rfl) (.pointer (some ⟨b1, 0, none⟩)) (Ch.refl b1 ·) (fun l a w hI hl hS => ⟨wanted_none rfl, (by have e0 : a.eval (.tmp 1) = _ := ((hI.base 1 fr_1).trans b_1); generalize a.eval = ρ at e0 ⊢; simp [go_sem, e0]), at_mk v_7 rfl⟩)
 have s_8 := MK27 i_8 (by rw [hO]; kernel_rfl) (.pointer (some ⟨b1, 0, none⟩)) (Ch.refl b1 ·) (fun l a w hI hl hS => ⟨wanted_none rfl, (by have e0 : a.eval (.tmp 10) = _ := (at_eq v_7 (hI.at_ 7 10 _ i_7 rfl (hl_at hl 0 rfl rfl))); generalize a.eval = ρ at e0 ⊢; simp [go_sem, e0]), at_mk v_8 rfl⟩)
 have s_9 := MK28 i_9 (by rw [hO]; kernel_rfl) (fun l a w hI hl hS => by
  refine ⟨wanted_none rfl, ?_⟩
  refine wpo_st1 9 _ _ rfl (at_eq v_8 (hI.at_ 8 11 _ i_8 rfl (hl_at hl 0 rfl rfl))) (at_eq v_3 (hI.at_ 3 6 _ i_3 rfl (hl_at hl 1 rfl rfl))) hS.2 rfl (fun w hc hf => by simp [go_sem, hc, hf]) ?_
  intro w' hB hC
  exact ⟨_, rfl, hC, ⟨hS.1.trans hC, hB⟩, p_at v_9 trivial⟩)
 have s_10 := MK27 i_10 (by rw [hO]; kernel_rfl) (.pointer (some ⟨b1, 3, none⟩)) (Ch.refl b1 ·) (fun l a w hI hl hS => ⟨wanted_none rfl, (by have e0 : a.eval (.tmp 1) = _ := ((hI.base 1 fr_1).trans b_1); generalize a.eval = ρ at e0 ⊢; simp [go_sem, e0]), at_mk v_10 rfl⟩)
 refine wp_plan2 VV (Ch b1) (fun w => Ch b1 wA w ∧ Box w b1 [.string tx, .int .i64 out, .int .i64 path, .string sig]) 11 11 (by kernel_rfl) hs (by rw [hO]; rfl) (by rw [hO]; kernel_rfl) hV hS0 (steps2_all hO _ rfl ((s2_cons s_0 (s2_cons s_1 (s2_cons s_2 (s2_cons s_3 (s2_cons s_4 (s2_cons s_5 (s2_cons s_6 (s2_cons s_7 (s2_cons s_8 (s2_cons s_9 (s2_cons s_10 trivial))))))))))))) ?_
 intro l a w hall hln hI
 have hS := hI.st hln
 refine fin_of i_11 (wanted_none rfl) ?_
 refine wpo_st1 9 _ _ rfl (at_eq v_10 (hI.at_ 10 12 _ i_10 rfl (hall 10 (by decide)))) (at_eq v_6 (hI.at_ 6 9 _ i_6 rfl (hall 6 (by decide)))) hS.2 rfl (fun w hc hf => by simp [go_sem, hc, hf]) ?_
 intro w3 B3 c3
 have C3 : Hid (Ch b1 wA w3) := hS.1.trans c3
 have B3 : Hid (Box w3 b1 [.string tx, .int .i64 out, .int .i64 path, .string sig]) := B3
 rw [hQQ]
 obtain ⟨ts, ds⟩ := a
 have hd : ds = [] := by have := hI.df; rw [hA] at this; exact this
 have hts : ts.size = 14 := by have := hI.sz; rw [hz] at this; exact this
 have f1 : ts.getD 1 undef = .pointer (some ⟨b1, 0, none⟩) := ((hI.base 1 fr_1).trans b_1)
 have f2 : ts.getD 2 undef = .pointer (some ⟨b2, 0, none⟩) := ((hI.base 2 fr_2).trans b_2)
 obtain ⟨tl0, rfl⟩ : ∃ tl : List Value, ts = tl.toArray := ⟨ts.toList, by simp⟩
 have htl0 : tl0.length = 14 := by simpa using hts
 clear hts
 obtain ⟨y0, tl1, et, htl1⟩ := len_succ htl0
 clear htl0
 subst et
 obtain ⟨y1, tl2, et, htl2⟩ := len_succ htl1
 clear htl1
 subst et
 obtain ⟨y2, tl3, et, htl3⟩ := len_succ htl2
 clear htl2
 subst et
 obtain ⟨y3, tl4, et, htl4⟩ := len_succ htl3
 clear htl3
 subst et
 obtain ⟨y4, tl5, et, htl5⟩ := len_succ htl4
 clear htl4
 subst et
 obtain ⟨y5, tl6, et, htl6⟩ := len_succ htl5
 clear htl5
 subst et
 obtain ⟨y6, tl7, et, htl7⟩ := len_succ htl6
 clear htl6
 subst et
 obtain ⟨y7, tl8, et, htl8⟩ := len_succ htl7
 clear htl7
 subst et
 obtain ⟨y8, tl9, et, htl9⟩ := len_succ htl8
 clear htl8
 subst et
 obtain ⟨y9, tl10, et, htl10⟩ := len_succ htl9
 clear htl9
 subst et
 obtain ⟨y10, tl11, et, htl11⟩ := len_succ htl10
 clear htl10
 subst et
 obtain ⟨y11, tl12, et, htl12⟩ := len_succ htl11
 clear htl11
 subst et
 obtain ⟨y12, tl13, et, htl13⟩ := len_succ htl12
 clear htl12
 subst et
 obtain ⟨y13, tl14, et, htl14⟩ := len_succ htl13
 clear htl13
 subst et
 have et := List.eq_nil_of_length_eq_zero htl14
 clear htl14
 subst et
 have g1 : y1 = .pointer (some ⟨b1, 0, none⟩) := f1
 have g2 : y2 = .pointer (some ⟨b2, 0, none⟩) := f2
 clear f1 f2
 subst hd g1 g2
 clear hI hall hln c3 hS hS0 hV hs hz hQQ hA hO v_0 i_0 s_0 v_1 i_1 s_1 v_2 i_2 s_2 v_3 i_3 s_3 v_4 i_4 s_4 v_5 i_5 s_5 v_6 i_6 s_6 v_7 i_7 s_7 v_8 i_8 s_8 v_9 i_9 s_9 v_10 i_10 s_10 i_11
 as_aux_lemma =>
 go_wp2_with (with_reducible (show wpList _ _ _ (⟨_, Op.load 53 _, _, _, _, _⟩ :: _) _ _); refine halt ?_)
 refine Lib.hid (ld_box rfl 53 _ rfl b1 _ rfl B3.out Tryz.underlying53 rfl (by kernel_rfl) ?_)
 refine st_box rfl 53 _ _ rfl b2 _ [.string tx, .int .i64 out, .int .i64 path, .string sig] rfl rfl (B2.out.ch C3.out n12) rfl (by kernel_rfl) (onec4 rfl rfl rfl rfl) ?_
 intro w5 B5 c5
 have HL : Hid ((loadVar 53 ⟨b2, 0, none⟩).run Tryz.prog w5 = .ok (.agg #[.string tx, .int .i64 out, .int .i64 path, .string sig]) w5) := B5.load _ Tryz.underlying53 rfl (by kernel_rfl)
 have Q5 : Hid (Q w0 w5) := c5.q (C3.out.q HQ.out hb1) hb2
 clear B5 c5
 go_wp2_with fail
 (try simp only [Exit.inBlock, Exit.then])
 refine bodyPost_ret (results_cell rfl rfl HL.out) rfl ?_
 exact ⟨rfl, Q5.out⟩
set_option maxHeartbeats 8000000 in
theorem copyout_x (x : OU) (w0 : World) (hk : x.ok) : Calls Tryz.prog 51 #[ouV x] w0 fun e w' => e = .returned (ouV x) ∧ Q w0 w' := by
 have z_key := hk.key
 have z_gate := hk.gate
 have z_anchor := hk.anchor
 have z_of_ := hk.of_
 obtain ⟨kind, amount, key, gate, expiry, anchor, unit, tokens, of_⟩ := x
 dsimp only at *
 clear hk
 go_enter Tryz.func51, Tryz.ntmps51
 go_wp2_with fail
 have HQ : Hid (Q w0 ((w0.alloc (.cells #[.int .i64 kind, .int .u64 amount, .string key, .string gate, .int .i64 expiry, .string anchor, .int .u64 unit, .int .i64 tokens, .string of_] 47)).alloc (.cells #[.int .i64 0, .int .u64 0, .string ⟨#[]⟩, .string ⟨#[]⟩, .int .i64 0, .string ⟨#[]⟩, .int .u64 0, .int .i64 0, .string ⟨#[]⟩] 47))) := ((Q.refl w0).alloc _).alloc _
 have B1 : Hid (Box ((w0.alloc (.cells #[.int .i64 kind, .int .u64 amount, .string key, .string gate, .int .i64 expiry, .string anchor, .int .u64 unit, .int .i64 tokens, .string of_] 47)).alloc (.cells #[.int .i64 0, .int .u64 0, .string ⟨#[]⟩, .string ⟨#[]⟩, .int .i64 0, .string ⟨#[]⟩, .int .u64 0, .int .i64 0, .string ⟨#[]⟩] 47)) w0.heap.size [.int .i64 kind, .int .u64 amount, .string key, .string gate, .int .i64 expiry, .string anchor, .int .u64 unit, .int .i64 tokens, .string of_]) := (Box.new w0 [.int .i64 kind, .int .u64 amount, .string key, .string gate, .int .i64 expiry, .string anchor, .int .u64 unit, .int .i64 tokens, .string of_] 47).q ((Q.refl _).alloc _)
 have B2 : Hid (Box ((w0.alloc (.cells #[.int .i64 kind, .int .u64 amount, .string key, .string gate, .int .i64 expiry, .string anchor, .int .u64 unit, .int .i64 tokens, .string of_] 47)).alloc (.cells #[.int .i64 0, .int .u64 0, .string ⟨#[]⟩, .string ⟨#[]⟩, .int .i64 0, .string ⟨#[]⟩, .int .u64 0, .int .i64 0, .string ⟨#[]⟩] 47)) (w0.heap.size + 1) [.int .i64 0, .int .u64 0, .string ⟨#[]⟩, .string ⟨#[]⟩, .int .i64 0, .string ⟨#[]⟩, .int .u64 0, .int .i64 0, .string ⟨#[]⟩]) := by
  have := Box.new (w0.alloc (.cells #[.int .i64 kind, .int .u64 amount, .string key, .string gate, .int .i64 expiry, .string anchor, .int .u64 unit, .int .i64 tokens, .string of_] 47)) [.int .i64 0, .int .u64 0, .string ⟨#[]⟩, .string ⟨#[]⟩, .int .i64 0, .string ⟨#[]⟩, .int .u64 0, .int .i64 0, .string ⟨#[]⟩] 47
  rw [show (w0.alloc (.cells #[.int .i64 kind, .int .u64 amount, .string key, .string gate, .int .i64 expiry, .string anchor, .int .u64 unit, .int .i64 tokens, .string of_] 47)).heap.size = w0.heap.size + 1 by simp] at this
  exact this
 generalize (w0.alloc (.cells #[.int .i64 kind, .int .u64 amount, .string key, .string gate, .int .i64 expiry, .string anchor, .int .u64 unit, .int .i64 tokens, .string of_] 47)).alloc (.cells #[.int .i64 0, .int .u64 0, .string ⟨#[]⟩, .string ⟨#[]⟩, .int .i64 0, .string ⟨#[]⟩, .int .u64 0, .int .i64 0, .string ⟨#[]⟩] 47) = wA at *
 have hb2 : w0.heap.size ≤ w0.heap.size + 1 := by omega
 have n12 : w0.heap.size + 1 ≠ w0.heap.size := by omega
 obtain ⟨b2, hb⟩ : ∃ b, w0.heap.size + 1 = b := ⟨_, rfl⟩
 rw [hb] at B2 hb2 n12 ⊢
 obtain ⟨b1, hb'⟩ : ∃ b, w0.heap.size = b := ⟨_, rfl⟩
 have hb1 : w0.heap.size ≤ b1 := by omega
 rw [hb'] at B1 n12 ⊢
 clear hb hb'
 have hS0 : (fun w => Ch b1 wA w ∧ Box w b1 [.int .i64 kind, .int .u64 amount, .string key, .string gate, .int .i64 expiry, .string anchor, .int .u64 unit, .int .i64 tokens, .string of_]) wA.drew := ⟨(Ch.refl b1 wA).drew, B1.out.q (Q.refl wA).drew⟩
 refine region_gen3 ?_
 intro OPS QQ A0 hO hQQ hA
 have hz : A0.tmps.size = 20 := by rw [hA]; rfl
 have hs : sound OPS A0.tmps.size = true := by rw [hz, hO]; kernel_rfl
 have b_1 : A0.eval (.tmp 1) = .pointer (some ⟨b1, 0, none⟩) := by rw [hA]; rfl
 have fr_1 : free OPS 1 = true := by rw [hO]; kernel_rfl
 have b_2 : A0.eval (.tmp 2) = .pointer (some ⟨b2, 0, none⟩) := by rw [hA]; rfl
 have fr_2 : free OPS 2 = true := by rw [hO]; kernel_rfl
 obtain ⟨VV, hVV⟩ : ∃ V : Nat → Value → World → Prop, V = fun i => ([fun v _ => v = .pointer (some ⟨b1, 2, none⟩), fun v _ => v = .string key, fun v _ => v = .string key, fun v _ => v = .pointer (some ⟨b1, 3, none⟩), fun v _ => v = .string gate, fun v _ => v = .string gate, fun v _ => v = .pointer (some ⟨b1, 2, none⟩), fun _ _ => True, fun v _ => v = .pointer (some ⟨b1, 3, none⟩)] : List (Value → World → Prop)).getD i (fun _ _ => True) := ⟨_, rfl⟩
 have v_0 : VV 0 = fun v _ => v = .pointer (some ⟨b1, 2, none⟩) := vat hVV 0
 have v_1 : VV 1 = fun v _ => v = .string key := vat hVV 1
 have v_2 : VV 2 = fun v _ => v = .string key := vat hVV 2
 have v_3 : VV 3 = fun v _ => v = .pointer (some ⟨b1, 3, none⟩) := vat hVV 3
 have v_4 : VV 4 = fun v _ => v = .string gate := vat hVV 4
 have v_5 : VV 5 = fun v _ => v = .string gate := vat hVV 5
 have v_6 : VV 6 = fun v _ => v = .pointer (some ⟨b1, 2, none⟩) := vat hVV 6
 have v_7 : VV 7 = fun _ _ => True := vat hVV 7
 have v_8 : VV 8 = fun v _ => v = .pointer (some ⟨b1, 3, none⟩) := vat hVV 8
 have hV := stablex_of (T := Ch b1) (p := 9) hVV ((sx_cons (fun _ _ _ h _ => h) (sx_cons (fun _ _ _ h _ => h) (sx_cons (fun _ _ _ h _ => h) (sx_cons (fun _ _ _ h _ => h) (sx_cons (fun _ _ _ h _ => h) (sx_cons (fun _ _ _ h _ => h) (sx_cons (fun _ _ _ h _ => h) (sx_cons (fun _ _ _ h _ => h) (sx_cons (fun _ _ _ h _ => h) trivial))))))))))
 clear hVV
 have i_0 := pget_at hO 0 rfl
 have i_1 := pget_at hO 1 rfl
 have i_2 := pget_at hO 2 rfl
 have i_3 := pget_at hO 3 rfl
 have i_4 := pget_at hO 4 rfl
 have i_5 := pget_at hO 5 rfl
 have i_6 := pget_at hO 6 rfl
 have i_7 := pget_at hO 7 rfl
 have i_8 := pget_at hO 8 rfl
 have i_9 := pget_at hO 9 rfl
 have MK29 := @Step2.pure Tryz.prog OPS QQ VV (Ch b1) (fun w => Ch b1 wA w ∧ Box w b1 [.int .i64 kind, .int .u64 amount, .string key, .string gate, .int .i64 expiry, .string anchor, .int .u64 unit, .int .i64 tokens, .string of_]) A0 9
 have s_0 := MK29 i_0 (by rw [hO]; kernel_rfl) (.pointer (some ⟨b1, 2, none⟩)) (Ch.refl b1 ·) (fun l a w hI hl hS => ⟨wanted_none rfl, (by have e0 : a.eval (.tmp 1) = _ := ((hI.base 1 fr_1).trans b_1); generalize a.eval = ρ at e0 ⊢; simp [go_sem, e0]), at_mk v_0 rfl⟩)
 have s_1 := MK29 i_1 (by rw [hO]; kernel_rfl) (.string key) (Ch.refl b1 ·) (fun l a w hI hl hS => ⟨wanted_none rfl, (by have e0 : a.eval (.tmp 3) = _ := (at_eq v_0 (hI.at_ 0 3 _ i_0 rfl (hl_at hl 0 rfl rfl))); have x0 := hS.2.at_ 2 _ rfl; generalize a.eval = ρ at e0 ⊢; simp [go_sem, e0, x0]), at_mk v_1 rfl⟩)
 have MK30 := @Step2.done Tryz.prog OPS QQ VV (Ch b1) (fun w => Ch b1 wA w ∧ Box w b1 [.int .i64 kind, .int .u64 amount, .string key, .string gate, .int .i64 expiry, .string anchor, .int .u64 unit, .int .i64 tokens, .string of_]) A0 9
 have s_2 := MK30 i_2 (by rw [hO]; kernel_rfl) (fun l a w hI hl hS => by
  refine ⟨wanted_none rfl, ?_⟩
  refine wp_enter (f := 93) (args := #[.string key]) ?_ ?_
  · exact ex_call rfl (by simp only [List.map_toArray, List.map_cons, List.map_nil, ev_const, (show a.eval (.tmp 4) = _ from (at_eq v_1 (hI.at_ 1 4 _ i_1 rfl (hl_at hl 0 rfl rfl))))]) Tryz.func93 (by kernel_rfl) (by kernel_rfl)
  · refine (clone_any key w (by omega)).mono fun e w' hc => ?_
    obtain ⟨rfl, hq⟩ := hc
    exact ⟨_, rfl, Ch.of_q hq b1, ⟨hS.1.trans (Ch.of_q hq b1), hS.2.q hq⟩, at_mk v_2 rfl⟩)
 have s_3 := MK29 i_3 (by rw [hO]; kernel_rfl) (.pointer (some ⟨b1, 3, none⟩)) (Ch.refl b1 ·) (fun l a w hI hl hS => ⟨wanted_none rfl, (by have e0 : a.eval (.tmp 1) = _ := ((hI.base 1 fr_1).trans b_1); generalize a.eval = ρ at e0 ⊢; simp [go_sem, e0]), at_mk v_3 rfl⟩)
 have s_4 := MK29 i_4 (by rw [hO]; kernel_rfl) (.string gate) (Ch.refl b1 ·) (fun l a w hI hl hS => ⟨wanted_none rfl, (by have e0 : a.eval (.tmp 6) = _ := (at_eq v_3 (hI.at_ 3 6 _ i_3 rfl (hl_at hl 0 rfl rfl))); have x0 := hS.2.at_ 3 _ rfl; generalize a.eval = ρ at e0 ⊢; simp [go_sem, e0, x0]), at_mk v_4 rfl⟩)
 have s_5 := MK30 i_5 (by rw [hO]; kernel_rfl) (fun l a w hI hl hS => by
  refine ⟨wanted_none rfl, ?_⟩
  refine wp_enter (f := 93) (args := #[.string gate]) ?_ ?_
  · exact ex_call rfl (by simp only [List.map_toArray, List.map_cons, List.map_nil, ev_const, (show a.eval (.tmp 7) = _ from (at_eq v_4 (hI.at_ 4 7 _ i_4 rfl (hl_at hl 0 rfl rfl))))]) Tryz.func93 (by kernel_rfl) (by kernel_rfl)
  · refine (clone_any gate w (by omega)).mono fun e w' hc => ?_
    obtain ⟨rfl, hq⟩ := hc
    exact ⟨_, rfl, Ch.of_q hq b1, ⟨hS.1.trans (Ch.of_q hq b1), hS.2.q hq⟩, at_mk v_5 rfl⟩)
 have s_6 := MK29 i_6 (by rw [hO]; kernel_rfl) (.pointer (some ⟨b1, 2, none⟩)) (Ch.refl b1 ·) (fun l a w hI hl hS => ⟨wanted_none rfl, (by have e0 : a.eval (.tmp 1) = _ := ((hI.base 1 fr_1).trans b_1); generalize a.eval = ρ at e0 ⊢; simp [go_sem, e0]), at_mk v_6 rfl⟩)
 have s_7 := MK30 i_7 (by rw [hO]; kernel_rfl) (fun l a w hI hl hS => by
  refine ⟨wanted_none rfl, ?_⟩
  refine wpo_st1 9 _ _ rfl (at_eq v_6 (hI.at_ 6 9 _ i_6 rfl (hl_at hl 0 rfl rfl))) (at_eq v_2 (hI.at_ 2 5 _ i_2 rfl (hl_at hl 1 rfl rfl))) hS.2 rfl (fun w hc hf => by simp [go_sem, hc, hf]) ?_
  intro w' hB hC
  exact ⟨_, rfl, hC, ⟨hS.1.trans hC, hB⟩, p_at v_7 trivial⟩)
 have s_8 := MK29 i_8 (by rw [hO]; kernel_rfl) (.pointer (some ⟨b1, 3, none⟩)) (Ch.refl b1 ·) (fun l a w hI hl hS => ⟨wanted_none rfl, (by have e0 : a.eval (.tmp 1) = _ := ((hI.base 1 fr_1).trans b_1); generalize a.eval = ρ at e0 ⊢; simp [go_sem, e0]), at_mk v_8 rfl⟩)
 refine wp_plan2 VV (Ch b1) (fun w => Ch b1 wA w ∧ Box w b1 [.int .i64 kind, .int .u64 amount, .string key, .string gate, .int .i64 expiry, .string anchor, .int .u64 unit, .int .i64 tokens, .string of_]) 9 9 (by kernel_rfl) hs (by rw [hO]; rfl) (by rw [hO]; kernel_rfl) hV hS0 (steps2_all hO _ rfl ((s2_cons s_0 (s2_cons s_1 (s2_cons s_2 (s2_cons s_3 (s2_cons s_4 (s2_cons s_5 (s2_cons s_6 (s2_cons s_7 (s2_cons s_8 trivial))))))))))) ?_
 intro l a w hall hln hI
 have hS := hI.st hln
 refine fin_of i_9 (wanted_none rfl) ?_
 refine wpo_st1 9 _ _ rfl (at_eq v_8 (hI.at_ 8 10 _ i_8 rfl (hall 8 (by decide)))) (at_eq v_5 (hI.at_ 5 8 _ i_5 rfl (hall 5 (by decide)))) hS.2 rfl (fun w hc hf => by simp [go_sem, hc, hf]) ?_
 intro w3 B3 c3
 have C3 : Hid (Ch b1 wA w3) := hS.1.trans c3
 have B3 : Hid (Box w3 b1 [.int .i64 kind, .int .u64 amount, .string key, .string gate, .int .i64 expiry, .string anchor, .int .u64 unit, .int .i64 tokens, .string of_]) := B3
 rw [hQQ]
 obtain ⟨ts, ds⟩ := a
 have hd : ds = [] := by have := hI.df; rw [hA] at this; exact this
 have hts : ts.size = 20 := by have := hI.sz; rw [hz] at this; exact this
 have f1 : ts.getD 1 undef = .pointer (some ⟨b1, 0, none⟩) := ((hI.base 1 fr_1).trans b_1)
 have f2 : ts.getD 2 undef = .pointer (some ⟨b2, 0, none⟩) := ((hI.base 2 fr_2).trans b_2)
 obtain ⟨tl0, rfl⟩ : ∃ tl : List Value, ts = tl.toArray := ⟨ts.toList, by simp⟩
 have htl0 : tl0.length = 20 := by simpa using hts
 clear hts
 obtain ⟨y0, tl1, et, htl1⟩ := len_succ htl0
 clear htl0
 subst et
 obtain ⟨y1, tl2, et, htl2⟩ := len_succ htl1
 clear htl1
 subst et
 obtain ⟨y2, tl3, et, htl3⟩ := len_succ htl2
 clear htl2
 subst et
 obtain ⟨y3, tl4, et, htl4⟩ := len_succ htl3
 clear htl3
 subst et
 obtain ⟨y4, tl5, et, htl5⟩ := len_succ htl4
 clear htl4
 subst et
 obtain ⟨y5, tl6, et, htl6⟩ := len_succ htl5
 clear htl5
 subst et
 obtain ⟨y6, tl7, et, htl7⟩ := len_succ htl6
 clear htl6
 subst et
 obtain ⟨y7, tl8, et, htl8⟩ := len_succ htl7
 clear htl7
 subst et
 obtain ⟨y8, tl9, et, htl9⟩ := len_succ htl8
 clear htl8
 subst et
 obtain ⟨y9, tl10, et, htl10⟩ := len_succ htl9
 clear htl9
 subst et
 obtain ⟨y10, tl11, et, htl11⟩ := len_succ htl10
 clear htl10
 subst et
 obtain ⟨y11, tl12, et, htl12⟩ := len_succ htl11
 clear htl11
 subst et
 obtain ⟨y12, tl13, et, htl13⟩ := len_succ htl12
 clear htl12
 subst et
 obtain ⟨y13, tl14, et, htl14⟩ := len_succ htl13
 clear htl13
 subst et
 obtain ⟨y14, tl15, et, htl15⟩ := len_succ htl14
 clear htl14
 subst et
 obtain ⟨y15, tl16, et, htl16⟩ := len_succ htl15
 clear htl15
 subst et
 obtain ⟨y16, tl17, et, htl17⟩ := len_succ htl16
 clear htl16
 subst et
 obtain ⟨y17, tl18, et, htl18⟩ := len_succ htl17
 clear htl17
 subst et
 obtain ⟨y18, tl19, et, htl19⟩ := len_succ htl18
 clear htl18
 subst et
 obtain ⟨y19, tl20, et, htl20⟩ := len_succ htl19
 clear htl19
 subst et
 have et := List.eq_nil_of_length_eq_zero htl20
 clear htl20
 subst et
 have g1 : y1 = .pointer (some ⟨b1, 0, none⟩) := f1
 have g2 : y2 = .pointer (some ⟨b2, 0, none⟩) := f2
 clear f1 f2
 subst hd g1 g2
 clear hI hall hln c3 hS hS0 hV hs hz hQQ hA hO v_0 i_0 s_0 v_1 i_1 s_1 v_2 i_2 s_2 v_3 i_3 s_3 v_4 i_4 s_4 v_5 i_5 s_5 v_6 i_6 s_6 v_7 i_7 s_7 v_8 i_8 s_8 i_9
 have hS0 : (fun w => Ch b1 wA w ∧ Box w b1 [.int .i64 kind, .int .u64 amount, .string key, .string gate, .int .i64 expiry, .string anchor, .int .u64 unit, .int .i64 tokens, .string of_]) w3.drew := ⟨C3.out.drew, B3.out.q (Q.refl w3).drew⟩
 clear C3 B3
 as_aux_lemma =>
 go_wp2_with fail
 refine region_gen3 ?_
 intro OPS QQ A0 hO hQQ hA
 have hz : A0.tmps.size = 20 := by rw [hA]; rfl
 have hs : sound OPS A0.tmps.size = true := by rw [hz, hO]; kernel_rfl
 have bz_1 : A0.eval (.tmp 1) = .pointer (some ⟨b1, 0, none⟩) := by rw [hA]; rfl
 have frz_1 : free OPS 1 = true := by rw [hO]; kernel_rfl
 have bz_2 : A0.eval (.tmp 2) = .pointer (some ⟨b2, 0, none⟩) := by rw [hA]; rfl
 have frz_2 : free OPS 2 = true := by rw [hO]; kernel_rfl
 obtain ⟨VV, hVV⟩ : ∃ V : Nat → Value → World → Prop, V = fun i => ([fun v _ => v = .pointer (some ⟨b1, 5, none⟩), fun v _ => v = .string anchor, fun v _ => v = .string anchor, fun v _ => v = .pointer (some ⟨b1, 8, none⟩), fun v _ => v = .string of_, fun v _ => v = .string of_, fun v _ => v = .pointer (some ⟨b1, 5, none⟩), fun _ _ => True, fun v _ => v = .pointer (some ⟨b1, 8, none⟩)] : List (Value → World → Prop)).getD i (fun _ _ => True) := ⟨_, rfl⟩
 have vz_0 : VV 0 = fun v _ => v = .pointer (some ⟨b1, 5, none⟩) := vat hVV 0
 have vz_1 : VV 1 = fun v _ => v = .string anchor := vat hVV 1
 have vz_2 : VV 2 = fun v _ => v = .string anchor := vat hVV 2
 have vz_3 : VV 3 = fun v _ => v = .pointer (some ⟨b1, 8, none⟩) := vat hVV 3
 have vz_4 : VV 4 = fun v _ => v = .string of_ := vat hVV 4
 have vz_5 : VV 5 = fun v _ => v = .string of_ := vat hVV 5
 have vz_6 : VV 6 = fun v _ => v = .pointer (some ⟨b1, 5, none⟩) := vat hVV 6
 have vz_7 : VV 7 = fun _ _ => True := vat hVV 7
 have vz_8 : VV 8 = fun v _ => v = .pointer (some ⟨b1, 8, none⟩) := vat hVV 8
 have hV := stablex_of (T := Ch b1) (p := 9) hVV ((sx_cons (fun _ _ _ h _ => h) (sx_cons (fun _ _ _ h _ => h) (sx_cons (fun _ _ _ h _ => h) (sx_cons (fun _ _ _ h _ => h) (sx_cons (fun _ _ _ h _ => h) (sx_cons (fun _ _ _ h _ => h) (sx_cons (fun _ _ _ h _ => h) (sx_cons (fun _ _ _ h _ => h) (sx_cons (fun _ _ _ h _ => h) trivial))))))))))
 clear hVV
 have iz_0 := pget_at hO 0 rfl
 have iz_1 := pget_at hO 1 rfl
 have iz_2 := pget_at hO 2 rfl
 have iz_3 := pget_at hO 3 rfl
 have iz_4 := pget_at hO 4 rfl
 have iz_5 := pget_at hO 5 rfl
 have iz_6 := pget_at hO 6 rfl
 have iz_7 := pget_at hO 7 rfl
 have iz_8 := pget_at hO 8 rfl
 have iz_9 := pget_at hO 9 rfl
 have MK31 := @Step2.pure Tryz.prog OPS QQ VV (Ch b1) (fun w => Ch b1 wA w ∧ Box w b1 [.int .i64 kind, .int .u64 amount, .string key, .string gate, .int .i64 expiry, .string anchor, .int .u64 unit, .int .i64 tokens, .string of_]) A0 9
 have sz_0 := MK31 iz_0 (by rw [hO]; kernel_rfl) (.pointer (some ⟨b1, 5, none⟩)) (Ch.refl b1 ·) (fun l a w hI hl hS => ⟨wanted_none rfl, (by have e0 : a.eval (.tmp 1) = _ := ((hI.base 1 frz_1).trans bz_1); generalize a.eval = ρ at e0 ⊢; simp [go_sem, e0]), at_mk vz_0 rfl⟩)
 have sz_1 := MK31 iz_1 (by rw [hO]; kernel_rfl) (.string anchor) (Ch.refl b1 ·) (fun l a w hI hl hS => ⟨wanted_none rfl, (by have e0 : a.eval (.tmp 11) = _ := (at_eq vz_0 (hI.at_ 0 11 _ iz_0 rfl (hl_at hl 0 rfl rfl))); have x0 := hS.2.at_ 5 _ rfl; generalize a.eval = ρ at e0 ⊢; simp [go_sem, e0, x0]), at_mk vz_1 rfl⟩)
 have MK32 := @Step2.done Tryz.prog OPS QQ VV (Ch b1) (fun w => Ch b1 wA w ∧ Box w b1 [.int .i64 kind, .int .u64 amount, .string key, .string gate, .int .i64 expiry, .string anchor, .int .u64 unit, .int .i64 tokens, .string of_]) A0 9
 have sz_2 := MK32 iz_2 (by rw [hO]; kernel_rfl) (fun l a w hI hl hS => by
  refine ⟨wanted_none rfl, ?_⟩
  refine wp_enter (f := 93) (args := #[.string anchor]) ?_ ?_
  · exact ex_call rfl (by simp only [List.map_toArray, List.map_cons, List.map_nil, ev_const, (show a.eval (.tmp 12) = _ from (at_eq vz_1 (hI.at_ 1 12 _ iz_1 rfl (hl_at hl 0 rfl rfl))))]) Tryz.func93 (by kernel_rfl) (by kernel_rfl)
  · refine (clone_any anchor w (by omega)).mono fun e w' hc => ?_
    obtain ⟨rfl, hq⟩ := hc
    exact ⟨_, rfl, Ch.of_q hq b1, ⟨hS.1.trans (Ch.of_q hq b1), hS.2.q hq⟩, at_mk vz_2 rfl⟩)
 have sz_3 := MK31 iz_3 (by rw [hO]; kernel_rfl) (.pointer (some ⟨b1, 8, none⟩)) (Ch.refl b1 ·) (fun l a w hI hl hS => ⟨wanted_none rfl, (by have e0 : a.eval (.tmp 1) = _ := ((hI.base 1 frz_1).trans bz_1); generalize a.eval = ρ at e0 ⊢; simp [go_sem, e0]), at_mk vz_3 rfl⟩)
 have sz_4 := MK31 iz_4 (by rw [hO]; kernel_rfl) (.string of_) (Ch.refl b1 ·) (fun l a w hI hl hS => ⟨wanted_none rfl, (by have e0 : a.eval (.tmp 14) = _ := (at_eq vz_3 (hI.at_ 3 14 _ iz_3 rfl (hl_at hl 0 rfl rfl))); have x0 := hS.2.at_ 8 _ rfl; generalize a.eval = ρ at e0 ⊢; simp [go_sem, e0, x0]), at_mk vz_4 rfl⟩)
 have sz_5 := MK32 iz_5 (by rw [hO]; kernel_rfl) (fun l a w hI hl hS => by
  refine ⟨wanted_none rfl, ?_⟩
  refine wp_enter (f := 93) (args := #[.string of_]) ?_ ?_
  · exact ex_call rfl (by simp only [List.map_toArray, List.map_cons, List.map_nil, ev_const, (show a.eval (.tmp 15) = _ from (at_eq vz_4 (hI.at_ 4 15 _ iz_4 rfl (hl_at hl 0 rfl rfl))))]) Tryz.func93 (by kernel_rfl) (by kernel_rfl)
  · refine (clone_any of_ w (by omega)).mono fun e w' hc => ?_
    obtain ⟨rfl, hq⟩ := hc
    exact ⟨_, rfl, Ch.of_q hq b1, ⟨hS.1.trans (Ch.of_q hq b1), hS.2.q hq⟩, at_mk vz_5 rfl⟩)
 have sz_6 := MK31 iz_6 (by rw [hO]; kernel_rfl) (.pointer (some ⟨b1, 5, none⟩)) (Ch.refl b1 ·) (fun l a w hI hl hS => ⟨wanted_none rfl, (by have e0 : a.eval (.tmp 1) = _ := ((hI.base 1 frz_1).trans bz_1); generalize a.eval = ρ at e0 ⊢; simp [go_sem, e0]), at_mk vz_6 rfl⟩)
 have sz_7 := MK32 iz_7 (by rw [hO]; kernel_rfl) (fun l a w hI hl hS => by
  refine ⟨wanted_none rfl, ?_⟩
  refine wpo_st1 9 _ _ rfl (at_eq vz_6 (hI.at_ 6 17 _ iz_6 rfl (hl_at hl 0 rfl rfl))) (at_eq vz_2 (hI.at_ 2 13 _ iz_2 rfl (hl_at hl 1 rfl rfl))) hS.2 rfl (fun w hc hf => by simp [go_sem, hc, hf]) ?_
  intro w' hB hC
  exact ⟨_, rfl, hC, ⟨hS.1.trans hC, hB⟩, p_at vz_7 trivial⟩)
 have sz_8 := MK31 iz_8 (by rw [hO]; kernel_rfl) (.pointer (some ⟨b1, 8, none⟩)) (Ch.refl b1 ·) (fun l a w hI hl hS => ⟨wanted_none rfl, (by have e0 : a.eval (.tmp 1) = _ := ((hI.base 1 frz_1).trans bz_1); generalize a.eval = ρ at e0 ⊢; simp [go_sem, e0]), at_mk vz_8 rfl⟩)
 refine wp_plan2 VV (Ch b1) (fun w => Ch b1 wA w ∧ Box w b1 [.int .i64 kind, .int .u64 amount, .string key, .string gate, .int .i64 expiry, .string anchor, .int .u64 unit, .int .i64 tokens, .string of_]) 9 9 (by kernel_rfl) hs (by rw [hO]; rfl) (by rw [hO]; kernel_rfl) hV hS0 (steps2_all hO _ rfl ((s2_cons sz_0 (s2_cons sz_1 (s2_cons sz_2 (s2_cons sz_3 (s2_cons sz_4 (s2_cons sz_5 (s2_cons sz_6 (s2_cons sz_7 (s2_cons sz_8 trivial))))))))))) ?_
 intro l a w hall hln hI
 have hS := hI.st hln
 refine fin_of iz_9 (wanted_none rfl) ?_
 refine wpo_st1 9 _ _ rfl (at_eq vz_8 (hI.at_ 8 18 _ iz_8 rfl (hall 8 (by decide)))) (at_eq vz_5 (hI.at_ 5 16 _ iz_5 rfl (hall 5 (by decide)))) hS.2 rfl (fun w hc hf => by simp [go_sem, hc, hf]) ?_
 intro w3 B3 c3
 have C3 : Hid (Ch b1 wA w3) := hS.1.trans c3
 have B3 : Hid (Box w3 b1 [.int .i64 kind, .int .u64 amount, .string key, .string gate, .int .i64 expiry, .string anchor, .int .u64 unit, .int .i64 tokens, .string of_]) := B3
 rw [hQQ]
 obtain ⟨ts, ds⟩ := a
 have hd : ds = [] := by have := hI.df; rw [hA] at this; exact this
 have hts : ts.size = 20 := by have := hI.sz; rw [hz] at this; exact this
 have f1 : ts.getD 1 undef = .pointer (some ⟨b1, 0, none⟩) := ((hI.base 1 frz_1).trans bz_1)
 have f2 : ts.getD 2 undef = .pointer (some ⟨b2, 0, none⟩) := ((hI.base 2 frz_2).trans bz_2)
 obtain ⟨tl0, rfl⟩ : ∃ tl : List Value, ts = tl.toArray := ⟨ts.toList, by simp⟩
 have htl0 : tl0.length = 20 := by simpa using hts
 clear hts
 obtain ⟨y0, tl1, et, htl1⟩ := len_succ htl0
 clear htl0
 subst et
 obtain ⟨y1, tl2, et, htl2⟩ := len_succ htl1
 clear htl1
 subst et
 obtain ⟨y2, tl3, et, htl3⟩ := len_succ htl2
 clear htl2
 subst et
 obtain ⟨y3, tl4, et, htl4⟩ := len_succ htl3
 clear htl3
 subst et
 obtain ⟨y4, tl5, et, htl5⟩ := len_succ htl4
 clear htl4
 subst et
 obtain ⟨y5, tl6, et, htl6⟩ := len_succ htl5
 clear htl5
 subst et
 obtain ⟨y6, tl7, et, htl7⟩ := len_succ htl6
 clear htl6
 subst et
 obtain ⟨y7, tl8, et, htl8⟩ := len_succ htl7
 clear htl7
 subst et
 obtain ⟨y8, tl9, et, htl9⟩ := len_succ htl8
 clear htl8
 subst et
 obtain ⟨y9, tl10, et, htl10⟩ := len_succ htl9
 clear htl9
 subst et
 obtain ⟨y10, tl11, et, htl11⟩ := len_succ htl10
 clear htl10
 subst et
 obtain ⟨y11, tl12, et, htl12⟩ := len_succ htl11
 clear htl11
 subst et
 obtain ⟨y12, tl13, et, htl13⟩ := len_succ htl12
 clear htl12
 subst et
 obtain ⟨y13, tl14, et, htl14⟩ := len_succ htl13
 clear htl13
 subst et
 obtain ⟨y14, tl15, et, htl15⟩ := len_succ htl14
 clear htl14
 subst et
 obtain ⟨y15, tl16, et, htl16⟩ := len_succ htl15
 clear htl15
 subst et
 obtain ⟨y16, tl17, et, htl17⟩ := len_succ htl16
 clear htl16
 subst et
 obtain ⟨y17, tl18, et, htl18⟩ := len_succ htl17
 clear htl17
 subst et
 obtain ⟨y18, tl19, et, htl19⟩ := len_succ htl18
 clear htl18
 subst et
 obtain ⟨y19, tl20, et, htl20⟩ := len_succ htl19
 clear htl19
 subst et
 have et := List.eq_nil_of_length_eq_zero htl20
 clear htl20
 subst et
 have g1 : y1 = .pointer (some ⟨b1, 0, none⟩) := f1
 have g2 : y2 = .pointer (some ⟨b2, 0, none⟩) := f2
 clear f1 f2
 subst hd g1 g2
 clear hI hall hln c3 hS hS0 hV hs hz hQQ hA hO vz_0 iz_0 sz_0 vz_1 iz_1 sz_1 vz_2 iz_2 sz_2 vz_3 iz_3 sz_3 vz_4 iz_4 sz_4 vz_5 iz_5 sz_5 vz_6 iz_6 sz_6 vz_7 iz_7 sz_7 vz_8 iz_8 sz_8 iz_9
 as_aux_lemma =>
 go_wp2_with (with_reducible (show wpList _ _ _ (⟨_, Op.load 47 _, _, _, _, _⟩ :: _) _ _); refine halt ?_)
 refine Lib.hid (ld_box rfl 47 _ rfl b1 _ rfl B3.out Tryz.underlying47 rfl (by kernel_rfl) ?_)
 refine st_box rfl 47 _ _ rfl b2 _ [.int .i64 kind, .int .u64 amount, .string key, .string gate, .int .i64 expiry, .string anchor, .int .u64 unit, .int .i64 tokens, .string of_] rfl rfl (B2.out.ch C3.out n12) rfl (by kernel_rfl) (onec9 rfl rfl rfl rfl rfl rfl rfl rfl rfl) ?_
 intro w5 B5 c5
 have HL : Hid ((loadVar 47 ⟨b2, 0, none⟩).run Tryz.prog w5 = .ok (.agg #[.int .i64 kind, .int .u64 amount, .string key, .string gate, .int .i64 expiry, .string anchor, .int .u64 unit, .int .i64 tokens, .string of_]) w5) := B5.load _ Tryz.underlying47 rfl (by kernel_rfl)
 have Q5 : Hid (Q w0 w5) := c5.q (C3.out.q HQ.out hb1) hb2
 clear B5 c5
 go_wp2_with fail
 (try simp only [Exit.inBlock, Exit.then])
 refine bodyPost_ret (results_cell rfl rfl HL.out) rfl ?_
 exact ⟨rfl, Q5.out⟩
set_option maxHeartbeats 8000000 in
theorem copywin_x (x : WN) (w0 : World) (hk : x.ok) : Calls Tryz.prog 95 #[wnV x] w0 fun e w' => e = .returned (wnV x) ∧ Q w0 w' := by
 have z_chan := hk.chan
 have z_commit := hk.commit
 have z_sig := hk.sig
 have z_salt := hk.salt
 obtain ⟨chan, serial, face, wins, many, commit, client, sig, salt, drawn⟩ := x
 dsimp only at *
 clear hk
 go_enter Tryz.func95, Tryz.ntmps95
 go_wp2_with fail
 have HQ : Hid (Q w0 ((w0.alloc (.cells #[.string chan, .int .u64 serial, .int .u64 face, .int .u64 wins, .int .u64 many, .string commit, .int .u64 client, .string sig, .string salt, .int .u64 drawn] 135)).alloc (.cells #[.string ⟨#[]⟩, .int .u64 0, .int .u64 0, .int .u64 0, .int .u64 0, .string ⟨#[]⟩, .int .u64 0, .string ⟨#[]⟩, .string ⟨#[]⟩, .int .u64 0] 135))) := ((Q.refl w0).alloc _).alloc _
 have B1 : Hid (Box ((w0.alloc (.cells #[.string chan, .int .u64 serial, .int .u64 face, .int .u64 wins, .int .u64 many, .string commit, .int .u64 client, .string sig, .string salt, .int .u64 drawn] 135)).alloc (.cells #[.string ⟨#[]⟩, .int .u64 0, .int .u64 0, .int .u64 0, .int .u64 0, .string ⟨#[]⟩, .int .u64 0, .string ⟨#[]⟩, .string ⟨#[]⟩, .int .u64 0] 135)) w0.heap.size [.string chan, .int .u64 serial, .int .u64 face, .int .u64 wins, .int .u64 many, .string commit, .int .u64 client, .string sig, .string salt, .int .u64 drawn]) := (Box.new w0 [.string chan, .int .u64 serial, .int .u64 face, .int .u64 wins, .int .u64 many, .string commit, .int .u64 client, .string sig, .string salt, .int .u64 drawn] 135).q ((Q.refl _).alloc _)
 have B2 : Hid (Box ((w0.alloc (.cells #[.string chan, .int .u64 serial, .int .u64 face, .int .u64 wins, .int .u64 many, .string commit, .int .u64 client, .string sig, .string salt, .int .u64 drawn] 135)).alloc (.cells #[.string ⟨#[]⟩, .int .u64 0, .int .u64 0, .int .u64 0, .int .u64 0, .string ⟨#[]⟩, .int .u64 0, .string ⟨#[]⟩, .string ⟨#[]⟩, .int .u64 0] 135)) (w0.heap.size + 1) [.string ⟨#[]⟩, .int .u64 0, .int .u64 0, .int .u64 0, .int .u64 0, .string ⟨#[]⟩, .int .u64 0, .string ⟨#[]⟩, .string ⟨#[]⟩, .int .u64 0]) := by
  have := Box.new (w0.alloc (.cells #[.string chan, .int .u64 serial, .int .u64 face, .int .u64 wins, .int .u64 many, .string commit, .int .u64 client, .string sig, .string salt, .int .u64 drawn] 135)) [.string ⟨#[]⟩, .int .u64 0, .int .u64 0, .int .u64 0, .int .u64 0, .string ⟨#[]⟩, .int .u64 0, .string ⟨#[]⟩, .string ⟨#[]⟩, .int .u64 0] 135
  rw [show (w0.alloc (.cells #[.string chan, .int .u64 serial, .int .u64 face, .int .u64 wins, .int .u64 many, .string commit, .int .u64 client, .string sig, .string salt, .int .u64 drawn] 135)).heap.size = w0.heap.size + 1 by simp] at this
  exact this
 generalize (w0.alloc (.cells #[.string chan, .int .u64 serial, .int .u64 face, .int .u64 wins, .int .u64 many, .string commit, .int .u64 client, .string sig, .string salt, .int .u64 drawn] 135)).alloc (.cells #[.string ⟨#[]⟩, .int .u64 0, .int .u64 0, .int .u64 0, .int .u64 0, .string ⟨#[]⟩, .int .u64 0, .string ⟨#[]⟩, .string ⟨#[]⟩, .int .u64 0] 135) = wA at *
 have hb2 : w0.heap.size ≤ w0.heap.size + 1 := by omega
 have n12 : w0.heap.size + 1 ≠ w0.heap.size := by omega
 obtain ⟨b2, hb⟩ : ∃ b, w0.heap.size + 1 = b := ⟨_, rfl⟩
 rw [hb] at B2 hb2 n12 ⊢
 obtain ⟨b1, hb'⟩ : ∃ b, w0.heap.size = b := ⟨_, rfl⟩
 have hb1 : w0.heap.size ≤ b1 := by omega
 rw [hb'] at B1 n12 ⊢
 clear hb hb'
 have hS0 : (fun w => Ch b1 wA w ∧ Box w b1 [.string chan, .int .u64 serial, .int .u64 face, .int .u64 wins, .int .u64 many, .string commit, .int .u64 client, .string sig, .string salt, .int .u64 drawn]) wA.drew := ⟨(Ch.refl b1 wA).drew, B1.out.q (Q.refl wA).drew⟩
 refine region_gen3 ?_
 intro OPS QQ A0 hO hQQ hA
 have hz : A0.tmps.size = 26 := by rw [hA]; rfl
 have hs : sound OPS A0.tmps.size = true := by rw [hz, hO]; kernel_rfl
 have b_1 : A0.eval (.tmp 1) = .pointer (some ⟨b1, 0, none⟩) := by rw [hA]; rfl
 have fr_1 : free OPS 1 = true := by rw [hO]; kernel_rfl
 have b_2 : A0.eval (.tmp 2) = .pointer (some ⟨b2, 0, none⟩) := by rw [hA]; rfl
 have fr_2 : free OPS 2 = true := by rw [hO]; kernel_rfl
 obtain ⟨VV, hVV⟩ : ∃ V : Nat → Value → World → Prop, V = fun i => ([fun v _ => v = .pointer (some ⟨b1, 0, none⟩), fun v _ => v = .pointer (some ⟨b1, 0, none⟩), fun v _ => v = .string chan, fun v _ => v = .string chan, fun v _ => v = .pointer (some ⟨b1, 0, none⟩), fun v _ => v = .pointer (some ⟨b1, 5, none⟩), fun v _ => v = .string commit, fun v _ => v = .string commit, fun v _ => v = .pointer (some ⟨b1, 0, none⟩), fun v _ => v = .pointer (some ⟨b1, 0, none⟩), fun _ _ => True, fun v _ => v = .pointer (some ⟨b1, 0, none⟩), fun v _ => v = .pointer (some ⟨b1, 5, none⟩)] : List (Value → World → Prop)).getD i (fun _ _ => True) := ⟨_, rfl⟩
 have v_0 : VV 0 = fun v _ => v = .pointer (some ⟨b1, 0, none⟩) := vat hVV 0
 have v_1 : VV 1 = fun v _ => v = .pointer (some ⟨b1, 0, none⟩) := vat hVV 1
 have v_2 : VV 2 = fun v _ => v = .string chan := vat hVV 2
 have v_3 : VV 3 = fun v _ => v = .string chan := vat hVV 3
 have v_4 : VV 4 = fun v _ => v = .pointer (some ⟨b1, 0, none⟩) := vat hVV 4
 have v_5 : VV 5 = fun v _ => v = .pointer (some ⟨b1, 5, none⟩) := vat hVV 5
 have v_6 : VV 6 = fun v _ => v = .string commit := vat hVV 6
 have v_7 : VV 7 = fun v _ => v = .string commit := vat hVV 7
 have v_8 : VV 8 = fun v _ => v = .pointer (some ⟨b1, 0, none⟩) := vat hVV 8
 have v_9 : VV 9 = fun v _ => v = .pointer (some ⟨b1, 0, none⟩) := vat hVV 9
 have v_10 : VV 10 = fun _ _ => True := vat hVV 10
 have v_11 : VV 11 = fun v _ => v = .pointer (some ⟨b1, 0, none⟩) := vat hVV 11
 have v_12 : VV 12 = fun v _ => v = .pointer (some ⟨b1, 5, none⟩) := vat hVV 12
 have hV := stablex_of (T := Ch b1) (p := 13) hVV ((sx_cons (fun _ _ _ h _ => h) (sx_cons (fun _ _ _ h _ => h) (sx_cons (fun _ _ _ h _ => h) (sx_cons (fun _ _ _ h _ => h) (sx_cons (fun _ _ _ h _ => h) (sx_cons (fun _ _ _ h _ => h) (sx_cons (fun _ _ _ h _ => h) (sx_cons (fun _ _ _ h _ => h) (sx_cons (fun _ _ _ h _ => h) (sx_cons (fun _ _ _ h _ => h) (sx_cons (fun _ _ _ h _ => h) (sx_cons (fun _ _ _ h _ => h) (sx_cons (fun _ _ _ h _ => h) trivial))))))))))))))
 clear hVV
 have i_0 := pget_at hO 0 rfl
 have i_1 := pget_at hO 1 rfl
 have i_2 := pget_at hO 2 rfl
 have i_3 := pget_at hO 3 rfl
 have i_4 := pget_at hO 4 rfl
 have i_5 := pget_at hO 5 rfl
 have i_6 := pget_at hO 6 rfl
 have i_7 := pget_at hO 7 rfl
 have i_8 := pget_at hO 8 rfl
 have i_9 := pget_at hO 9 rfl
 have i_10 := pget_at hO 10 rfl
 have i_11 := pget_at hO 11 rfl
 have i_12 := pget_at hO 12 rfl
 have i_13 := pget_at hO 13 rfl
 have MK33 := @Step2.pure Tryz.prog OPS QQ VV (Ch b1) (fun w => Ch b1 wA w ∧ Box w b1 [.string chan, .int .u64 serial, .int .u64 face, .int .u64 wins, .int .u64 many, .string commit, .int .u64 client, .string sig, .string salt, .int .u64 drawn]) A0 13
 have s_0 := MK33 i_0 (by rw [hO]; kernel_rfl) (.pointer (some ⟨b1, 0, none⟩)) (Ch.refl b1 ·) (fun l a w hI hl hS => ⟨wanted_none rfl, (by have e0 : a.eval (.tmp 1) = _ := ((hI.base 1 fr_1).trans b_1); generalize a.eval = ρ at e0 ⊢; simp [go_sem, e0]), at_mk v_0 rfl⟩)
 have s_1 := MK33 i_1 (by rw [hO]; kernel_rfl) (.pointer (some ⟨b1, 0, none⟩)) (Ch.refl b1 ·) (fun l a w hI hl hS => ⟨wanted_none rfl, (by have e0 : a.eval (.tmp 3) = _ := (at_eq v_0 (hI.at_ 0 3 _ i_0 rfl (hl_at hl 0 rfl rfl))); generalize a.eval = ρ at e0 ⊢; simp [go_sem, e0]), at_mk v_1 rfl⟩)
 have s_2 := MK33 i_2 (by rw [hO]; kernel_rfl) (.string chan) (Ch.refl b1 ·) (fun l a w hI hl hS => ⟨wanted_none rfl, (by have e0 : a.eval (.tmp 4) = _ := (at_eq v_1 (hI.at_ 1 4 _ i_1 rfl (hl_at hl 0 rfl rfl))); have x0 := hS.2.at_ 0 _ rfl; generalize a.eval = ρ at e0 ⊢; simp [go_sem, e0, x0]), at_mk v_2 rfl⟩)
 have MK34 := @Step2.done Tryz.prog OPS QQ VV (Ch b1) (fun w => Ch b1 wA w ∧ Box w b1 [.string chan, .int .u64 serial, .int .u64 face, .int .u64 wins, .int .u64 many, .string commit, .int .u64 client, .string sig, .string salt, .int .u64 drawn]) A0 13
 have s_3 := MK34 i_3 (by rw [hO]; kernel_rfl) (fun l a w hI hl hS => by
  refine ⟨wanted_none rfl, ?_⟩
  refine wp_enter (f := 93) (args := #[.string chan]) ?_ ?_
  · exact ex_call rfl (by simp only [List.map_toArray, List.map_cons, List.map_nil, ev_const, (show a.eval (.tmp 5) = _ from (at_eq v_2 (hI.at_ 2 5 _ i_2 rfl (hl_at hl 0 rfl rfl))))]) Tryz.func93 (by kernel_rfl) (by kernel_rfl)
  · refine (clone_any chan w (by omega)).mono fun e w' hc => ?_
    obtain ⟨rfl, hq⟩ := hc
    exact ⟨_, rfl, Ch.of_q hq b1, ⟨hS.1.trans (Ch.of_q hq b1), hS.2.q hq⟩, at_mk v_3 rfl⟩)
 have s_4 := MK33 i_4 (by rw [hO]; kernel_rfl) (.pointer (some ⟨b1, 0, none⟩)) (Ch.refl b1 ·) (fun l a w hI hl hS => ⟨wanted_none rfl, (by have e0 : a.eval (.tmp 1) = _ := ((hI.base 1 fr_1).trans b_1); generalize a.eval = ρ at e0 ⊢; simp [go_sem, e0]), at_mk v_4 rfl⟩)
 have s_5 := MK33 i_5 (by rw [hO]; kernel_rfl) (.pointer (some ⟨b1, 5, none⟩)) (Ch.refl b1 ·) (fun l a w hI hl hS => ⟨wanted_none rfl, (by have e0 : a.eval (.tmp 7) = _ := (at_eq v_4 (hI.at_ 4 7 _ i_4 rfl (hl_at hl 0 rfl rfl))); generalize a.eval = ρ at e0 ⊢; simp [go_sem, e0]), at_mk v_5 rfl⟩)
 have s_6 := MK33 i_6 (by rw [hO]; kernel_rfl) (.string commit) (Ch.refl b1 ·) (fun l a w hI hl hS => ⟨wanted_none rfl, (by have e0 : a.eval (.tmp 8) = _ := (at_eq v_5 (hI.at_ 5 8 _ i_5 rfl (hl_at hl 0 rfl rfl))); have x0 := hS.2.at_ 5 _ rfl; generalize a.eval = ρ at e0 ⊢; simp [go_sem, e0, x0]), at_mk v_6 rfl⟩)
 have s_7 := MK34 i_7 (by rw [hO]; kernel_rfl) (fun l a w hI hl hS => by
  refine ⟨wanted_none rfl, ?_⟩
  refine wp_enter (f := 93) (args := #[.string commit]) ?_ ?_
  · exact ex_call rfl (by simp only [List.map_toArray, List.map_cons, List.map_nil, ev_const, (show a.eval (.tmp 9) = _ from (at_eq v_6 (hI.at_ 6 9 _ i_6 rfl (hl_at hl 0 rfl rfl))))]) Tryz.func93 (by kernel_rfl) (by kernel_rfl)
  · refine (clone_any commit w (by omega)).mono fun e w' hc => ?_
    obtain ⟨rfl, hq⟩ := hc
    exact ⟨_, rfl, Ch.of_q hq b1, ⟨hS.1.trans (Ch.of_q hq b1), hS.2.q hq⟩, at_mk v_7 rfl⟩)
 have s_8 := MK33 i_8 (by rw [hO]; kernel_rfl) (.pointer (some ⟨b1, 0, none⟩)) (Ch.refl b1 ·) (fun l a w hI hl hS => ⟨wanted_none rfl, (by have e0 : a.eval (.tmp 1) = _ := ((hI.base 1 fr_1).trans b_1); generalize a.eval = ρ at e0 ⊢; simp [go_sem, e0]), at_mk v_8 rfl⟩)
 have s_9 := MK33 i_9 (by rw [hO]; kernel_rfl) (.pointer (some ⟨b1, 0, none⟩)) (Ch.refl b1 ·) (fun l a w hI hl hS => ⟨wanted_none rfl, (by have e0 : a.eval (.tmp 11) = _ := (at_eq v_8 (hI.at_ 8 11 _ i_8 rfl (hl_at hl 0 rfl rfl))); generalize a.eval = ρ at e0 ⊢; simp [go_sem, e0]), at_mk v_9 rfl⟩)
 have s_10 := MK34 i_10 (by rw [hO]; kernel_rfl) (fun l a w hI hl hS => by
  refine ⟨wanted_none rfl, ?_⟩
  refine wpo_st1 9 _ _ rfl (at_eq v_9 (hI.at_ 9 12 _ i_9 rfl (hl_at hl 0 rfl rfl))) (at_eq v_3 (hI.at_ 3 6 _ i_3 rfl (hl_at hl 1 rfl rfl))) hS.2 rfl (fun w hc hf => by simp [go_sem, hc, hf]) ?_
  intro w' hB hC
  exact ⟨_, rfl, hC, ⟨hS.1.trans hC, hB⟩, p_at v_10 trivial⟩)
 have s_11 := MK33 i_11 (by rw [hO]; kernel_rfl) (.pointer (some ⟨b1, 0, none⟩)) (Ch.refl b1 ·) (fun l a w hI hl hS => ⟨wanted_none rfl, (by have e0 : a.eval (.tmp 1) = _ := ((hI.base 1 fr_1).trans b_1); generalize a.eval = ρ at e0 ⊢; simp [go_sem, e0]), at_mk v_11 rfl⟩)
 have s_12 := MK33 i_12 (by rw [hO]; kernel_rfl) (.pointer (some ⟨b1, 5, none⟩)) (Ch.refl b1 ·) (fun l a w hI hl hS => ⟨wanted_none rfl, (by have e0 : a.eval (.tmp 13) = _ := (at_eq v_11 (hI.at_ 11 13 _ i_11 rfl (hl_at hl 0 rfl rfl))); generalize a.eval = ρ at e0 ⊢; simp [go_sem, e0]), at_mk v_12 rfl⟩)
 refine wp_plan2 VV (Ch b1) (fun w => Ch b1 wA w ∧ Box w b1 [.string chan, .int .u64 serial, .int .u64 face, .int .u64 wins, .int .u64 many, .string commit, .int .u64 client, .string sig, .string salt, .int .u64 drawn]) 13 13 (by kernel_rfl) hs (by rw [hO]; rfl) (by rw [hO]; kernel_rfl) hV hS0 (steps2_all hO _ rfl ((s2_cons s_0 (s2_cons s_1 (s2_cons s_2 (s2_cons s_3 (s2_cons s_4 (s2_cons s_5 (s2_cons s_6 (s2_cons s_7 (s2_cons s_8 (s2_cons s_9 (s2_cons s_10 (s2_cons s_11 (s2_cons s_12 trivial))))))))))))))) ?_
 intro l a w hall hln hI
 have hS := hI.st hln
 refine fin_of i_13 (wanted_none rfl) ?_
 refine wpo_st1 9 _ _ rfl (at_eq v_12 (hI.at_ 12 14 _ i_12 rfl (hall 12 (by decide)))) (at_eq v_7 (hI.at_ 7 10 _ i_7 rfl (hall 7 (by decide)))) hS.2 rfl (fun w hc hf => by simp [go_sem, hc, hf]) ?_
 intro w3 B3 c3
 have C3 : Hid (Ch b1 wA w3) := hS.1.trans c3
 have B3 : Hid (Box w3 b1 [.string chan, .int .u64 serial, .int .u64 face, .int .u64 wins, .int .u64 many, .string commit, .int .u64 client, .string sig, .string salt, .int .u64 drawn]) := B3
 rw [hQQ]
 obtain ⟨ts, ds⟩ := a
 have hd : ds = [] := by have := hI.df; rw [hA] at this; exact this
 have hts : ts.size = 26 := by have := hI.sz; rw [hz] at this; exact this
 have f1 : ts.getD 1 undef = .pointer (some ⟨b1, 0, none⟩) := ((hI.base 1 fr_1).trans b_1)
 have f2 : ts.getD 2 undef = .pointer (some ⟨b2, 0, none⟩) := ((hI.base 2 fr_2).trans b_2)
 obtain ⟨tl0, rfl⟩ : ∃ tl : List Value, ts = tl.toArray := ⟨ts.toList, by simp⟩
 have htl0 : tl0.length = 26 := by simpa using hts
 clear hts
 obtain ⟨y0, tl1, et, htl1⟩ := len_succ htl0
 clear htl0
 subst et
 obtain ⟨y1, tl2, et, htl2⟩ := len_succ htl1
 clear htl1
 subst et
 obtain ⟨y2, tl3, et, htl3⟩ := len_succ htl2
 clear htl2
 subst et
 obtain ⟨y3, tl4, et, htl4⟩ := len_succ htl3
 clear htl3
 subst et
 obtain ⟨y4, tl5, et, htl5⟩ := len_succ htl4
 clear htl4
 subst et
 obtain ⟨y5, tl6, et, htl6⟩ := len_succ htl5
 clear htl5
 subst et
 obtain ⟨y6, tl7, et, htl7⟩ := len_succ htl6
 clear htl6
 subst et
 obtain ⟨y7, tl8, et, htl8⟩ := len_succ htl7
 clear htl7
 subst et
 obtain ⟨y8, tl9, et, htl9⟩ := len_succ htl8
 clear htl8
 subst et
 obtain ⟨y9, tl10, et, htl10⟩ := len_succ htl9
 clear htl9
 subst et
 obtain ⟨y10, tl11, et, htl11⟩ := len_succ htl10
 clear htl10
 subst et
 obtain ⟨y11, tl12, et, htl12⟩ := len_succ htl11
 clear htl11
 subst et
 obtain ⟨y12, tl13, et, htl13⟩ := len_succ htl12
 clear htl12
 subst et
 obtain ⟨y13, tl14, et, htl14⟩ := len_succ htl13
 clear htl13
 subst et
 obtain ⟨y14, tl15, et, htl15⟩ := len_succ htl14
 clear htl14
 subst et
 obtain ⟨y15, tl16, et, htl16⟩ := len_succ htl15
 clear htl15
 subst et
 obtain ⟨y16, tl17, et, htl17⟩ := len_succ htl16
 clear htl16
 subst et
 obtain ⟨y17, tl18, et, htl18⟩ := len_succ htl17
 clear htl17
 subst et
 obtain ⟨y18, tl19, et, htl19⟩ := len_succ htl18
 clear htl18
 subst et
 obtain ⟨y19, tl20, et, htl20⟩ := len_succ htl19
 clear htl19
 subst et
 obtain ⟨y20, tl21, et, htl21⟩ := len_succ htl20
 clear htl20
 subst et
 obtain ⟨y21, tl22, et, htl22⟩ := len_succ htl21
 clear htl21
 subst et
 obtain ⟨y22, tl23, et, htl23⟩ := len_succ htl22
 clear htl22
 subst et
 obtain ⟨y23, tl24, et, htl24⟩ := len_succ htl23
 clear htl23
 subst et
 obtain ⟨y24, tl25, et, htl25⟩ := len_succ htl24
 clear htl24
 subst et
 obtain ⟨y25, tl26, et, htl26⟩ := len_succ htl25
 clear htl25
 subst et
 have et := List.eq_nil_of_length_eq_zero htl26
 clear htl26
 subst et
 have g1 : y1 = .pointer (some ⟨b1, 0, none⟩) := f1
 have g2 : y2 = .pointer (some ⟨b2, 0, none⟩) := f2
 clear f1 f2
 subst hd g1 g2
 clear hI hall hln c3 hS hS0 hV hs hz hQQ hA hO v_0 i_0 s_0 v_1 i_1 s_1 v_2 i_2 s_2 v_3 i_3 s_3 v_4 i_4 s_4 v_5 i_5 s_5 v_6 i_6 s_6 v_7 i_7 s_7 v_8 i_8 s_8 v_9 i_9 s_9 v_10 i_10 s_10 v_11 i_11 s_11 v_12 i_12 s_12 i_13
 have hS0 : (fun w => Ch b1 wA w ∧ Box w b1 [.string chan, .int .u64 serial, .int .u64 face, .int .u64 wins, .int .u64 many, .string commit, .int .u64 client, .string sig, .string salt, .int .u64 drawn]) w3.drew := ⟨C3.out.drew, B3.out.q (Q.refl w3).drew⟩
 clear C3 B3
 as_aux_lemma =>
 go_wp2_with fail
 refine region_gen3 ?_
 intro OPS QQ A0 hO hQQ hA
 have hz : A0.tmps.size = 26 := by rw [hA]; rfl
 have hs : sound OPS A0.tmps.size = true := by rw [hz, hO]; kernel_rfl
 have bz_1 : A0.eval (.tmp 1) = .pointer (some ⟨b1, 0, none⟩) := by rw [hA]; rfl
 have frz_1 : free OPS 1 = true := by rw [hO]; kernel_rfl
 have bz_2 : A0.eval (.tmp 2) = .pointer (some ⟨b2, 0, none⟩) := by rw [hA]; rfl
 have frz_2 : free OPS 2 = true := by rw [hO]; kernel_rfl
 obtain ⟨VV, hVV⟩ : ∃ V : Nat → Value → World → Prop, V = fun i => ([fun v _ => v = .pointer (some ⟨b1, 0, none⟩), fun v _ => v = .pointer (some ⟨b1, 7, none⟩), fun v _ => v = .string sig, fun v _ => v = .string sig, fun v _ => v = .pointer (some ⟨b1, 8, none⟩), fun v _ => v = .string salt, fun v _ => v = .string salt, fun v _ => v = .pointer (some ⟨b1, 0, none⟩), fun v _ => v = .pointer (some ⟨b1, 7, none⟩), fun _ _ => True, fun v _ => v = .pointer (some ⟨b1, 8, none⟩)] : List (Value → World → Prop)).getD i (fun _ _ => True) := ⟨_, rfl⟩
 have vz_0 : VV 0 = fun v _ => v = .pointer (some ⟨b1, 0, none⟩) := vat hVV 0
 have vz_1 : VV 1 = fun v _ => v = .pointer (some ⟨b1, 7, none⟩) := vat hVV 1
 have vz_2 : VV 2 = fun v _ => v = .string sig := vat hVV 2
 have vz_3 : VV 3 = fun v _ => v = .string sig := vat hVV 3
 have vz_4 : VV 4 = fun v _ => v = .pointer (some ⟨b1, 8, none⟩) := vat hVV 4
 have vz_5 : VV 5 = fun v _ => v = .string salt := vat hVV 5
 have vz_6 : VV 6 = fun v _ => v = .string salt := vat hVV 6
 have vz_7 : VV 7 = fun v _ => v = .pointer (some ⟨b1, 0, none⟩) := vat hVV 7
 have vz_8 : VV 8 = fun v _ => v = .pointer (some ⟨b1, 7, none⟩) := vat hVV 8
 have vz_9 : VV 9 = fun _ _ => True := vat hVV 9
 have vz_10 : VV 10 = fun v _ => v = .pointer (some ⟨b1, 8, none⟩) := vat hVV 10
 have hV := stablex_of (T := Ch b1) (p := 11) hVV ((sx_cons (fun _ _ _ h _ => h) (sx_cons (fun _ _ _ h _ => h) (sx_cons (fun _ _ _ h _ => h) (sx_cons (fun _ _ _ h _ => h) (sx_cons (fun _ _ _ h _ => h) (sx_cons (fun _ _ _ h _ => h) (sx_cons (fun _ _ _ h _ => h) (sx_cons (fun _ _ _ h _ => h) (sx_cons (fun _ _ _ h _ => h) (sx_cons (fun _ _ _ h _ => h) (sx_cons (fun _ _ _ h _ => h) trivial))))))))))))
 clear hVV
 have iz_0 := pget_at hO 0 rfl
 have iz_1 := pget_at hO 1 rfl
 have iz_2 := pget_at hO 2 rfl
 have iz_3 := pget_at hO 3 rfl
 have iz_4 := pget_at hO 4 rfl
 have iz_5 := pget_at hO 5 rfl
 have iz_6 := pget_at hO 6 rfl
 have iz_7 := pget_at hO 7 rfl
 have iz_8 := pget_at hO 8 rfl
 have iz_9 := pget_at hO 9 rfl
 have iz_10 := pget_at hO 10 rfl
 have iz_11 := pget_at hO 11 rfl
 have MK35 := @Step2.pure Tryz.prog OPS QQ VV (Ch b1) (fun w => Ch b1 wA w ∧ Box w b1 [.string chan, .int .u64 serial, .int .u64 face, .int .u64 wins, .int .u64 many, .string commit, .int .u64 client, .string sig, .string salt, .int .u64 drawn]) A0 11
 have sz_0 := MK35 iz_0 (by rw [hO]; kernel_rfl) (.pointer (some ⟨b1, 0, none⟩)) (Ch.refl b1 ·) (fun l a w hI hl hS => ⟨wanted_none rfl, (by have e0 : a.eval (.tmp 1) = _ := ((hI.base 1 frz_1).trans bz_1); generalize a.eval = ρ at e0 ⊢; simp [go_sem, e0]), at_mk vz_0 rfl⟩)
 have sz_1 := MK35 iz_1 (by rw [hO]; kernel_rfl) (.pointer (some ⟨b1, 7, none⟩)) (Ch.refl b1 ·) (fun l a w hI hl hS => ⟨wanted_none rfl, (by have e0 : a.eval (.tmp 15) = _ := (at_eq vz_0 (hI.at_ 0 15 _ iz_0 rfl (hl_at hl 0 rfl rfl))); generalize a.eval = ρ at e0 ⊢; simp [go_sem, e0]), at_mk vz_1 rfl⟩)
 have sz_2 := MK35 iz_2 (by rw [hO]; kernel_rfl) (.string sig) (Ch.refl b1 ·) (fun l a w hI hl hS => ⟨wanted_none rfl, (by have e0 : a.eval (.tmp 16) = _ := (at_eq vz_1 (hI.at_ 1 16 _ iz_1 rfl (hl_at hl 0 rfl rfl))); have x0 := hS.2.at_ 7 _ rfl; generalize a.eval = ρ at e0 ⊢; simp [go_sem, e0, x0]), at_mk vz_2 rfl⟩)
 have MK36 := @Step2.done Tryz.prog OPS QQ VV (Ch b1) (fun w => Ch b1 wA w ∧ Box w b1 [.string chan, .int .u64 serial, .int .u64 face, .int .u64 wins, .int .u64 many, .string commit, .int .u64 client, .string sig, .string salt, .int .u64 drawn]) A0 11
 have sz_3 := MK36 iz_3 (by rw [hO]; kernel_rfl) (fun l a w hI hl hS => by
  refine ⟨wanted_none rfl, ?_⟩
  refine wp_enter (f := 93) (args := #[.string sig]) ?_ ?_
  · exact ex_call rfl (by simp only [List.map_toArray, List.map_cons, List.map_nil, ev_const, (show a.eval (.tmp 17) = _ from (at_eq vz_2 (hI.at_ 2 17 _ iz_2 rfl (hl_at hl 0 rfl rfl))))]) Tryz.func93 (by kernel_rfl) (by kernel_rfl)
  · refine (clone_any sig w (by omega)).mono fun e w' hc => ?_
    obtain ⟨rfl, hq⟩ := hc
    exact ⟨_, rfl, Ch.of_q hq b1, ⟨hS.1.trans (Ch.of_q hq b1), hS.2.q hq⟩, at_mk vz_3 rfl⟩)
 have sz_4 := MK35 iz_4 (by rw [hO]; kernel_rfl) (.pointer (some ⟨b1, 8, none⟩)) (Ch.refl b1 ·) (fun l a w hI hl hS => ⟨wanted_none rfl, (by have e0 : a.eval (.tmp 1) = _ := ((hI.base 1 frz_1).trans bz_1); generalize a.eval = ρ at e0 ⊢; simp [go_sem, e0]), at_mk vz_4 rfl⟩)
 have sz_5 := MK35 iz_5 (by rw [hO]; kernel_rfl) (.string salt) (Ch.refl b1 ·) (fun l a w hI hl hS => ⟨wanted_none rfl, (by have e0 : a.eval (.tmp 19) = _ := (at_eq vz_4 (hI.at_ 4 19 _ iz_4 rfl (hl_at hl 0 rfl rfl))); have x0 := hS.2.at_ 8 _ rfl; generalize a.eval = ρ at e0 ⊢; simp [go_sem, e0, x0]), at_mk vz_5 rfl⟩)
 have sz_6 := MK36 iz_6 (by rw [hO]; kernel_rfl) (fun l a w hI hl hS => by
  refine ⟨wanted_none rfl, ?_⟩
  refine wp_enter (f := 93) (args := #[.string salt]) ?_ ?_
  · exact ex_call rfl (by simp only [List.map_toArray, List.map_cons, List.map_nil, ev_const, (show a.eval (.tmp 20) = _ from (at_eq vz_5 (hI.at_ 5 20 _ iz_5 rfl (hl_at hl 0 rfl rfl))))]) Tryz.func93 (by kernel_rfl) (by kernel_rfl)
  · refine (clone_any salt w (by omega)).mono fun e w' hc => ?_
    obtain ⟨rfl, hq⟩ := hc
    exact ⟨_, rfl, Ch.of_q hq b1, ⟨hS.1.trans (Ch.of_q hq b1), hS.2.q hq⟩, at_mk vz_6 rfl⟩)
 have sz_7 := MK35 iz_7 (by rw [hO]; kernel_rfl) (.pointer (some ⟨b1, 0, none⟩)) (Ch.refl b1 ·) (fun l a w hI hl hS => ⟨wanted_none rfl, (by have e0 : a.eval (.tmp 1) = _ := ((hI.base 1 frz_1).trans bz_1); generalize a.eval = ρ at e0 ⊢; simp [go_sem, e0]), at_mk vz_7 rfl⟩)
 have sz_8 := MK35 iz_8 (by rw [hO]; kernel_rfl) (.pointer (some ⟨b1, 7, none⟩)) (Ch.refl b1 ·) (fun l a w hI hl hS => ⟨wanted_none rfl, (by have e0 : a.eval (.tmp 22) = _ := (at_eq vz_7 (hI.at_ 7 22 _ iz_7 rfl (hl_at hl 0 rfl rfl))); generalize a.eval = ρ at e0 ⊢; simp [go_sem, e0]), at_mk vz_8 rfl⟩)
 have sz_9 := MK36 iz_9 (by rw [hO]; kernel_rfl) (fun l a w hI hl hS => by
  refine ⟨wanted_none rfl, ?_⟩
  refine wpo_st1 9 _ _ rfl (at_eq vz_8 (hI.at_ 8 23 _ iz_8 rfl (hl_at hl 0 rfl rfl))) (at_eq vz_3 (hI.at_ 3 18 _ iz_3 rfl (hl_at hl 1 rfl rfl))) hS.2 rfl (fun w hc hf => by simp [go_sem, hc, hf]) ?_
  intro w' hB hC
  exact ⟨_, rfl, hC, ⟨hS.1.trans hC, hB⟩, p_at vz_9 trivial⟩)
 have sz_10 := MK35 iz_10 (by rw [hO]; kernel_rfl) (.pointer (some ⟨b1, 8, none⟩)) (Ch.refl b1 ·) (fun l a w hI hl hS => ⟨wanted_none rfl, (by have e0 : a.eval (.tmp 1) = _ := ((hI.base 1 frz_1).trans bz_1); generalize a.eval = ρ at e0 ⊢; simp [go_sem, e0]), at_mk vz_10 rfl⟩)
 refine wp_plan2 VV (Ch b1) (fun w => Ch b1 wA w ∧ Box w b1 [.string chan, .int .u64 serial, .int .u64 face, .int .u64 wins, .int .u64 many, .string commit, .int .u64 client, .string sig, .string salt, .int .u64 drawn]) 11 11 (by kernel_rfl) hs (by rw [hO]; rfl) (by rw [hO]; kernel_rfl) hV hS0 (steps2_all hO _ rfl ((s2_cons sz_0 (s2_cons sz_1 (s2_cons sz_2 (s2_cons sz_3 (s2_cons sz_4 (s2_cons sz_5 (s2_cons sz_6 (s2_cons sz_7 (s2_cons sz_8 (s2_cons sz_9 (s2_cons sz_10 trivial))))))))))))) ?_
 intro l a w hall hln hI
 have hS := hI.st hln
 refine fin_of iz_11 (wanted_none rfl) ?_
 refine wpo_st1 9 _ _ rfl (at_eq vz_10 (hI.at_ 10 24 _ iz_10 rfl (hall 10 (by decide)))) (at_eq vz_6 (hI.at_ 6 21 _ iz_6 rfl (hall 6 (by decide)))) hS.2 rfl (fun w hc hf => by simp [go_sem, hc, hf]) ?_
 intro w3 B3 c3
 have C3 : Hid (Ch b1 wA w3) := hS.1.trans c3
 have B3 : Hid (Box w3 b1 [.string chan, .int .u64 serial, .int .u64 face, .int .u64 wins, .int .u64 many, .string commit, .int .u64 client, .string sig, .string salt, .int .u64 drawn]) := B3
 rw [hQQ]
 obtain ⟨ts, ds⟩ := a
 have hd : ds = [] := by have := hI.df; rw [hA] at this; exact this
 have hts : ts.size = 26 := by have := hI.sz; rw [hz] at this; exact this
 have f1 : ts.getD 1 undef = .pointer (some ⟨b1, 0, none⟩) := ((hI.base 1 frz_1).trans bz_1)
 have f2 : ts.getD 2 undef = .pointer (some ⟨b2, 0, none⟩) := ((hI.base 2 frz_2).trans bz_2)
 obtain ⟨tl0, rfl⟩ : ∃ tl : List Value, ts = tl.toArray := ⟨ts.toList, by simp⟩
 have htl0 : tl0.length = 26 := by simpa using hts
 clear hts
 obtain ⟨y0, tl1, et, htl1⟩ := len_succ htl0
 clear htl0
 subst et
 obtain ⟨y1, tl2, et, htl2⟩ := len_succ htl1
 clear htl1
 subst et
 obtain ⟨y2, tl3, et, htl3⟩ := len_succ htl2
 clear htl2
 subst et
 obtain ⟨y3, tl4, et, htl4⟩ := len_succ htl3
 clear htl3
 subst et
 obtain ⟨y4, tl5, et, htl5⟩ := len_succ htl4
 clear htl4
 subst et
 obtain ⟨y5, tl6, et, htl6⟩ := len_succ htl5
 clear htl5
 subst et
 obtain ⟨y6, tl7, et, htl7⟩ := len_succ htl6
 clear htl6
 subst et
 obtain ⟨y7, tl8, et, htl8⟩ := len_succ htl7
 clear htl7
 subst et
 obtain ⟨y8, tl9, et, htl9⟩ := len_succ htl8
 clear htl8
 subst et
 obtain ⟨y9, tl10, et, htl10⟩ := len_succ htl9
 clear htl9
 subst et
 obtain ⟨y10, tl11, et, htl11⟩ := len_succ htl10
 clear htl10
 subst et
 obtain ⟨y11, tl12, et, htl12⟩ := len_succ htl11
 clear htl11
 subst et
 obtain ⟨y12, tl13, et, htl13⟩ := len_succ htl12
 clear htl12
 subst et
 obtain ⟨y13, tl14, et, htl14⟩ := len_succ htl13
 clear htl13
 subst et
 obtain ⟨y14, tl15, et, htl15⟩ := len_succ htl14
 clear htl14
 subst et
 obtain ⟨y15, tl16, et, htl16⟩ := len_succ htl15
 clear htl15
 subst et
 obtain ⟨y16, tl17, et, htl17⟩ := len_succ htl16
 clear htl16
 subst et
 obtain ⟨y17, tl18, et, htl18⟩ := len_succ htl17
 clear htl17
 subst et
 obtain ⟨y18, tl19, et, htl19⟩ := len_succ htl18
 clear htl18
 subst et
 obtain ⟨y19, tl20, et, htl20⟩ := len_succ htl19
 clear htl19
 subst et
 obtain ⟨y20, tl21, et, htl21⟩ := len_succ htl20
 clear htl20
 subst et
 obtain ⟨y21, tl22, et, htl22⟩ := len_succ htl21
 clear htl21
 subst et
 obtain ⟨y22, tl23, et, htl23⟩ := len_succ htl22
 clear htl22
 subst et
 obtain ⟨y23, tl24, et, htl24⟩ := len_succ htl23
 clear htl23
 subst et
 obtain ⟨y24, tl25, et, htl25⟩ := len_succ htl24
 clear htl24
 subst et
 obtain ⟨y25, tl26, et, htl26⟩ := len_succ htl25
 clear htl25
 subst et
 have et := List.eq_nil_of_length_eq_zero htl26
 clear htl26
 subst et
 have g1 : y1 = .pointer (some ⟨b1, 0, none⟩) := f1
 have g2 : y2 = .pointer (some ⟨b2, 0, none⟩) := f2
 clear f1 f2
 subst hd g1 g2
 clear hI hall hln c3 hS hS0 hV hs hz hQQ hA hO vz_0 iz_0 sz_0 vz_1 iz_1 sz_1 vz_2 iz_2 sz_2 vz_3 iz_3 sz_3 vz_4 iz_4 sz_4 vz_5 iz_5 sz_5 vz_6 iz_6 sz_6 vz_7 iz_7 sz_7 vz_8 iz_8 sz_8 vz_9 iz_9 sz_9 vz_10 iz_10 sz_10 iz_11
 as_aux_lemma =>
 go_wp2_with (with_reducible (show wpList _ _ _ (⟨_, Op.load 135 _, _, _, _, _⟩ :: _) _ _); refine halt ?_)
 refine Lib.hid (ld_box rfl 135 _ rfl b1 _ rfl B3.out Tryz.underlying135 rfl (by kernel_rfl) ?_)
 refine st_box rfl 135 _ _ rfl b2 _ [.string chan, .int .u64 serial, .int .u64 face, .int .u64 wins, .int .u64 many, .string commit, .int .u64 client, .string sig, .string salt, .int .u64 drawn] rfl rfl (B2.out.ch C3.out n12) rfl (by kernel_rfl) (onec10 rfl rfl rfl rfl rfl rfl rfl rfl rfl rfl) ?_
 intro w5 B5 c5
 have HL : Hid ((loadVar 135 ⟨b2, 0, none⟩).run Tryz.prog w5 = .ok (.agg #[.string chan, .int .u64 serial, .int .u64 face, .int .u64 wins, .int .u64 many, .string commit, .int .u64 client, .string sig, .string salt, .int .u64 drawn]) w5) := B5.load _ Tryz.underlying135 rfl (by kernel_rfl)
 have Q5 : Hid (Q w0 w5) := c5.q (C3.out.q HQ.out hb1) hb2
 clear B5 c5
 go_wp2_with fail
 (try simp only [Exit.inBlock, Exit.then])
 refine bodyPost_ret (results_cell rfl rfl HL.out) rfl ?_
 exact ⟨rfl, Q5.out⟩
end Go.Proofs.YtobfgljkckcmcaaGreatDoor.Coi
