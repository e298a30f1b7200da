import Derived.Test.YtjiepemapffgjaaGreatDoorXJDecF
import Derived.Test.YtjiepemapffgjaaGreatDoorXJDecC
import Derived.Test.YtjiepemapffgjaaGreatDoorXJBloB
set_option maxRecDepth 100000
namespace Go.Proofs.YtjiepemapffgjaaGreatDoor.Coi
open Go.RowKit
open Mem Num Cod Sh Plan
set_option linter.unusedVariables false
set_option linter.unusedSimpArgs false
theorem eqi_sameb (x y : Operand) (k : IntKind) (n : Int) (w : World) (T : TypeId) : (do eqGuard .eql T x y (.int k n) (.int k n); binOp .eql T (.int k n) (.int k n) : Sem Value).run Tryz.prog w = .ok (.bool true) w := by
 simp [eqGuard, binOp, Op.intCmp]
theorem cut_20k (s : ByteArray) : (s.extract 0 (min (s.size : Int) 20000).toNat).size ≤ 1000000 := by
 rw [ByteArray.size_extract]; omega
theorem samb_of {y z z' : BKI} {b b' : BK} (h : z.Is b) (h' : z'.Is b') (s : SamK b b') (e : y.h = z.h ∧ y.prev = z.prev ∧ y.n = z.n ∧ ∀ i, i < y.n → (y.g i).t = (z.g i).t) : SamB y z' := by
 obtain ⟨a1, a2, a3, a4⟩ := h
 obtain ⟨c1, c2, c3, c4⟩ := h'
 obtain ⟨s1, s2, s3, s4⟩ := s
 obtain ⟨e1, e2, e3, e4⟩ := e
 exact ⟨by rw [e1, a1, s1, c1], by rw [e2, a2, s2, c2], by omega, fun i hi => by rw [e4 i hi, a4 i (by omega), c4 i (by omega)]; exact s4 i (by omega)⟩
set_option maxHeartbeats 40000000 in
set_option maxRecDepth 100000 in
theorem bgets_walk (W : World) (hG : GL W) (sig : ByteArray) (hsig : sig.size ≤ maxLen) :
 Calls Tryz.prog 6 #[.string sig] W fun e W' => e = .returned (.bool true) ∧ Below W.heap.size W W' := by
 obtain ⟨s, hs⟩ : ∃ z, sig.extract 0 (min (sig.size : Int) 20000).toNat = z := ⟨_, rfl⟩
 have OS : Hid (s.size ≤ 1000000) := by show s.size ≤ _; rw [← hs]; exact cut_20k sig
 have h4 : sig.size ≤ 9223372036854775807 := by unfold maxLen at hsig; omega
 clear hsig
 have hG := Lib.hid hG
 obtain ⟨V, hV⟩ : ∃ V, bkV IntKind.i64.wrap s = V := ⟨_, rfl⟩
 obtain ⟨D, hD⟩ : ∃ V, bkV smallD s = V := ⟨_, rfl⟩
 obtain ⟨ev, hev⟩ : ∃ v, bkE IntKind.i64.wrap s = v := ⟨_, rfl⟩
 have hef : bkE smallD s = ev := by rw [← (bk_two small_wrap small_doc).1]; exact hev
 have SV : Hid (SamK V D) := by show SamK V D; rw [← hV, ← hD]; exact (bk_two small_wrap small_doc).2
 have C1 : Hid (∀ w, Calls Tryz.prog 46 #[.string s] w fun r w' => ∃ z : BKI, r = .returned (.tuple #[z.val, .int .i64 ev]) ∧ z.tl w' ∧ z.ok ∧ z.Is V ∧ Q w w') := fun w => by
  have h := bdecode_x s OS.out w
  unfold DBo at h
  rw [hV, hev] at h
  exact h
 have C2 : Hid (∀ w, Calls Tryz.prog 47 #[.string s] w fun r w' => ∃ z : BKI, r = .returned (.tuple #[z.val, .int .i64 ev]) ∧ z.tl w' ∧ z.n ≤ 100 ∧ z.Is D ∧ Q w w') := fun w => by
  have h := d10decode_x s OS.out w
  unfold DKo at h
  rw [hD, hef] at h
  exact h
 clear hV hD hev hef OS
 go_enter Tryz.func6, Tryz.ntmps6
 go_wp2_with fail
 clear hs h4
 refine (C1.out _).mono ?_
 rintro r w1 ⟨tv, rfl, tm, kv, isv, q1⟩
 have TV := Lib.hid tm
 have KV := Lib.hid kv
 have IV := Lib.hid isv
 have Q1 := Lib.hid q1
 clear tm kv isv q1 C1
 go_wp2_with (with_reducible (show wpList _ _ _ (⟨_, Op.alloc 69, _, _, _, _⟩ :: _) _ _); refine halt ?_)
 refine wpList_allocZ rfl 69 rfl #[.int .i64 0, .string ⟨#[]⟩, .slice none 0 0] zeroBk ?_
 refine st_box rfl 69 _ _ rfl w1.heap.size _ [.int .i64 tv.h, .string tv.prev, .slice tv.a tv.n tv.c] rfl rfl (Box.new w1 [.int .i64 0, .string ⟨#[]⟩, .slice none 0 0] 69) rfl (by kernel_rfl) (one3 rfl rfl rfl) ?_
 intro w2 B2 c2
 have q2 : Q w1 w2 := c2.q ((Q.refl w1).alloc _) (Nat.le_refl _)
 have Q2 := Lib.hid (Q1.out.trans q2)
 have TV2 := Lib.hid (TV.out.q q2)
 have B2 := Lib.hid B2
 clear c2 q2 Q1 TV
 generalize w1.heap.size = b3 at *
 as_aux_lemma =>
 go_wp2_with fail
 refine (C2.out _).mono ?_
 rintro r w3 ⟨td, rfl, tm, kd, isd, q3⟩
 have TD := Lib.hid tm
 have KD := Lib.hid kd
 have ID := Lib.hid isd
 have Q3 := Lib.hid (Q2.out.trans q3)
 have TV3 := Lib.hid (TV2.out.q q3)
 have B3 := Lib.hid (B2.out.q q3)
 clear tm kd isd q3 C2 Q2 TV2 B2
 go_wp2_with (with_reducible (show wpList _ _ _ (⟨_, Op.alloc 77, _, _, _, _⟩ :: _) _ _); refine halt ?_)
 refine wpList_allocZ rfl 77 rfl #[.int .i64 0, .string ⟨#[]⟩, .slice none 0 0] zeroDB ?_
 refine st_box rfl 77 _ _ rfl w3.heap.size _ [.int .i64 td.h, .string td.prev, .slice td.a td.n td.c] rfl rfl (Box.new w3 [.int .i64 0, .string ⟨#[]⟩, .slice none 0 0] 77) rfl (by kernel_rfl) (one3 rfl rfl rfl) ?_
 intro w4 B5 c4
 have q4 : Q w3 w4 := c4.q ((Q.refl w3).alloc _) (Nat.le_refl _)
 have Q4 := Lib.hid (Q3.out.trans q4)
 have TV4 := Lib.hid (TV3.out.q q4)
 have TD4 := Lib.hid (TD.out.q q4)
 have B4 := Lib.hid (B3.out.q q4)
 have B5 := Lib.hid B5
 clear c4 q4 Q3 TV3 B3 TD
 generalize w3.heap.size = b5 at *
 have RF : Hid (∀ w, Q w4 w → Calls Tryz.prog 35 #[.agg #[.int .i64 tv.h, .string tv.prev, .slice tv.a tv.n tv.c]] w fun e w' => ∃ y : BKI, e = .returned y.val ∧ y.tl w' ∧ y.n ≤ 100 ∧ SamB y td ∧ Q w w') := fun w q => (ref10_x tv w (TV4.out.q q) KV.out.n).mono fun e w' h => by
  obtain ⟨y, h0, h1, h2, h3⟩ := h
  exact ⟨y, h0, h1, by rw [h2.2.2.1]; exact KV.out.n, samb_of IV.out ID.out SV.out h2, h3⟩
 have SM : Hid (∀ (y : BKI) w, Q w4 w → y.tl w → y.n ≤ 100 → SamB y td → Calls Tryz.prog 41 #[y.val, .agg #[.int .i64 td.h, .string td.prev, .slice td.a td.n td.c]] w fun e w' => e = .returned (.bool true) ∧ Q w w') := fun y w q h1 h2 h3 => (d10same_x y td w h1 (TD4.out.q q) h2 KD.out).mono fun e w' h => by
  obtain ⟨b, h0, hb, h1⟩ := h
  rw [hb.2 h3] at h0
  exact ⟨h0, h1⟩
 have FX : Hid (∀ w, Q w4 w → Calls Tryz.prog 45 #[] w fun e w' => e = .returned (.bool true) ∧ Q w w') := fun w q => bfixed_x (hG.out.q (Q4.out.trans q))
 clear KV KD SV IV ID TV4 TD4 hG
 as_aux_lemma =>
 go_wp2_with fail
 have hS0 : Q w4 w4.drew := (Q.refl w4).drew
 refine region_gen3 ?_
 intro OPS QQ A0 hO hQQ hA
 have hz : A0.tmps.size = 34 := by rw [hA]; rfl
 have hs : sound OPS A0.tmps.size = true := by rw [hz, hO]; kernel_rfl
 have b_3 : A0.eval (.tmp 3) = .pointer (some ⟨b3, 0, none⟩) := by rw [hA]; rfl
 have fr_3 : free OPS 3 = true := by rw [hO]; kernel_rfl
 have b_4 : A0.eval (.tmp 4) = .int .i64 ev := by rw [hA]; rfl
 have fr_4 : free OPS 4 = true := by rw [hO]; kernel_rfl
 have b_5 : A0.eval (.tmp 5) = .pointer (some ⟨b5, 0, none⟩) := by rw [hA]; rfl
 have fr_5 : free OPS 5 = true := by rw [hO]; kernel_rfl
 have b_6 : A0.eval (.tmp 6) = .int .i64 ev := by rw [hA]; rfl
 have fr_6 : free OPS 6 = true := by rw [hO]; kernel_rfl
 obtain ⟨VV, hVV⟩ : ∃ V : Nat → Value → World → Prop, V = fun i => ([fun v _ => v = .agg #[.int .i64 tv.h, .string tv.prev, .slice tv.a tv.n tv.c], fun v w => ∃ y : BKI, v = y.val ∧ y.tl w ∧ y.n ≤ 100 ∧ SamB y td, fun v _ => v = .agg #[.int .i64 td.h, .string td.prev, .slice td.a td.n td.c], fun v _ => v = .bool true, fun v _ => v = .bool true, fun v _ => v = .int .i64 ev, fun v _ => v = .int .i64 ev, fun v _ => v = .bool true, fun v _ => v = .bool true, fun v _ => v = .bool true, fun v _ => v = .bool true, fun v _ => v = .bool true, fun v _ => v = .bool true] : List (Value → World → Prop)).getD i (fun _ _ => True) := ⟨_, rfl⟩
 have v_0 : VV 0 = fun v _ => v = .agg #[.int .i64 tv.h, .string tv.prev, .slice tv.a tv.n tv.c] := vat hVV 0
 have v_1 : VV 1 = fun v w => ∃ y : BKI, v = y.val ∧ y.tl w ∧ y.n ≤ 100 ∧ SamB y td := vat hVV 1
 have v_2 : VV 2 = fun v _ => v = .agg #[.int .i64 td.h, .string td.prev, .slice td.a td.n td.c] := vat hVV 2
 have v_3 : VV 3 = fun v _ => v = .bool true := vat hVV 3
 have v_4 : VV 4 = fun v _ => v = .bool true := vat hVV 4
 have v_5 : VV 5 = fun v _ => v = .int .i64 ev := vat hVV 5
 have v_6 : VV 6 = fun v _ => v = .int .i64 ev := vat hVV 6
 have v_7 : VV 7 = fun v _ => v = .bool true := vat hVV 7
 have v_8 : VV 8 = fun v _ => v = .bool true := vat hVV 8
 have v_9 : VV 9 = fun v _ => v = .bool true := vat hVV 9
 have v_10 : VV 10 = fun v _ => v = .bool true := vat hVV 10
 have v_11 : VV 11 = fun v _ => v = .bool true := vat hVV 11
 have v_12 : VV 12 = fun v _ => v = .bool true := vat hVV 12
 have hV := stable_of (T := Q) hVV ((sl_cons (fun _ _ _ h _ => h) (sl_cons (fun v w w' h t => by obtain ⟨y, h0, h1, h2, h3⟩ := h; exact ⟨y, h0, h1.q t, h2, h3⟩) (sl_cons (fun _ _ _ h _ => h) (sl_cons (fun _ _ _ h _ => h) (sl_cons (fun _ _ _ h _ => h) (sl_cons (fun _ _ _ h _ => h) (sl_cons (fun _ _ _ h _ => h) (sl_cons (fun _ _ _ h _ => h) (sl_cons (fun _ _ _ h _ => h) (sl_cons (fun _ _ _ h _ => h) (sl_cons (fun _ _ _ h _ => h) (sl_cons (fun _ _ _ h _ => h) (sl_cons (fun _ _ _ h _ => h) trivial))))))))))))))
 clear hVV
 have i_0 := pget_at hO 0 rfl
 have i_1 := pget_at hO 1 rfl
 have i_2 := pget_at hO 2 rfl
 have i_3 := pget_at hO 3 rfl
 have i_4 := pget_at hO 4 rfl
 have i_5 := pget_at hO 5 rfl
 have i_6 := pget_at hO 6 rfl
 have i_7 := pget_at hO 7 rfl
 have i_8 := pget_at hO 8 rfl
 have i_9 := pget_at hO 9 rfl
 have i_10 := pget_at hO 10 rfl
 have i_11 := pget_at hO 11 rfl
 have i_12 := pget_at hO 12 rfl
 have s_0 := Step.pure (P := Tryz.prog) (V := VV) (T := Q) (S := (Q w4)) (a0 := A0) (Qx := QQ) i_0 (.agg #[.int .i64 tv.h, .string tv.prev, .slice tv.a tv.n tv.c]) (Q.refl ·) (fun l a w hI hl => ⟨wanted_none rfl, ex_loado 69 rfl b3 0 [.int .i64 tv.h, .string tv.prev, .slice tv.a tv.n tv.c] _ ((hI.base 3 fr_3).trans b_3) ((B4.out.q hI.st).rangeo 0 (r := []) rfl) Tryz.underlying69 rfl (by kernel_rfl), at_mk v_0 rfl⟩)
 have s_1 := Step.done (P := Tryz.prog) (V := VV) (T := Q) (S := (Q w4)) (a0 := A0) (Qx := QQ) i_1 (fun l a w hI hl => by
  refine ⟨wanted_none rfl, ?_⟩
  refine wp_enter (f := 35) (args := #[.agg #[.int .i64 tv.h, .string tv.prev, .slice tv.a tv.n tv.c]]) ?_ ?_
  · exact ex_call rfl (by simp only [List.map_toArray, List.map_cons, List.map_nil, ev_const, (show a.eval (.tmp 22) = _ from (at_eq v_0 (hI.at_ 0 22 _ i_0 rfl (hl_at hl 0 rfl rfl))))]) Tryz.func35 (by kernel_rfl) (by kernel_rfl)
  · refine (RF.out w hI.st).mono fun e w' hc => ?_
    obtain ⟨y, rfl, h1, h2, h3, hq⟩ := hc
    exact ⟨_, rfl, hq, hI.st.trans hq, p_at v_1 ⟨y, rfl, h1, h2, h3⟩⟩)
 have s_2 := Step.pure (P := Tryz.prog) (V := VV) (T := Q) (S := (Q w4)) (a0 := A0) (Qx := QQ) i_2 (.agg #[.int .i64 td.h, .string td.prev, .slice td.a td.n td.c]) (Q.refl ·) (fun l a w hI hl => ⟨wanted_none rfl, ex_loado 77 rfl b5 0 [.int .i64 td.h, .string td.prev, .slice td.a td.n td.c] _ ((hI.base 5 fr_5).trans b_5) ((B5.out.q hI.st).rangeo 0 (r := []) rfl) Tryz.underlying77 rfl (by kernel_rfl), at_mk v_2 rfl⟩)
 have s_3 := Step.done (P := Tryz.prog) (V := VV) (T := Q) (S := (Q w4)) (a0 := A0) (Qx := QQ) i_3 (fun l a w hI hl => by
  obtain ⟨y, e23, h1, h2, h3⟩ := at_p v_1 (hI.at_ 1 23 _ i_1 rfl (hl_at hl 0 rfl rfl))
  refine ⟨wanted_none rfl, ?_⟩
  refine wp_enter (f := 41) (args := #[y.val, .agg #[.int .i64 td.h, .string td.prev, .slice td.a td.n td.c]]) ?_ ?_
  · exact ex_call rfl (by simp only [List.map_toArray, List.map_cons, List.map_nil, ev_const, (show a.eval (.tmp 23) = _ from e23), (show a.eval (.tmp 24) = _ from (at_eq v_2 (hI.at_ 2 24 _ i_2 rfl (hl_at hl 1 rfl rfl))))]) Tryz.func41 (by kernel_rfl) (by kernel_rfl)
  · refine (SM.out y w hI.st h1 h2 h3).mono fun e w' hc => ?_
    obtain ⟨rfl, hq⟩ := hc
    exact ⟨_, rfl, hq, hI.st.trans hq, at_mk v_3 rfl⟩)
 have s_4 := Step.pure (P := Tryz.prog) (V := VV) (T := Q) (S := (Q w4)) (a0 := A0) (Qx := QQ) i_4 (.bool true) (Q.refl ·) (fun l a w hI hl => ⟨wanted_none rfl, ex_move rfl (at_eq v_3 (hI.at_ 3 25 _ i_3 rfl (hl_at hl 0 rfl rfl))), at_mk v_4 rfl⟩)
 have s_5 := Step.pure (P := Tryz.prog) (V := VV) (T := Q) (S := (Q w4)) (a0 := A0) (Qx := QQ) i_5 (.int .i64 ev) (Q.refl ·) (fun l a w hI hl => ⟨wanted_of rfl i_4 rfl (lt_of hI hz rfl) (at_eq v_4 (hI.at_ 4 26 _ i_4 rfl (hl_at hl 0 rfl rfl))), ex_move rfl ((hI.base 4 fr_4).trans b_4), at_mk v_5 rfl⟩)
 have s_6 := Step.pure (P := Tryz.prog) (V := VV) (T := Q) (S := (Q w4)) (a0 := A0) (Qx := QQ) i_6 (.int .i64 ev) (Q.refl ·) (fun l a w hI hl => ⟨wanted_of rfl i_4 rfl (lt_of hI hz rfl) (at_eq v_4 (hI.at_ 4 26 _ i_4 rfl (hl_at hl 0 rfl rfl))), ex_move rfl ((hI.base 6 fr_6).trans b_6), at_mk v_6 rfl⟩)
 have s_7 := Step.pure (P := Tryz.prog) (V := VV) (T := Q) (S := (Q w4)) (a0 := A0) (Qx := QQ) i_7 (.bool true) (Q.refl ·) (fun l a w hI hl => ⟨wanted_of rfl i_4 rfl (lt_of hI hz rfl) (at_eq v_4 (hI.at_ 4 26 _ i_4 rfl (hl_at hl 2 rfl rfl))), ex_bin rfl (at_eq v_5 (hI.at_ 5 27 _ i_5 rfl (hl_at hl 0 rfl rfl))) (at_eq v_6 (hI.at_ 6 28 _ i_6 rfl (hl_at hl 1 rfl rfl))) (eqi_sameb _ _ _ _ _ _), at_mk v_7 rfl⟩)
 have s_8 := Step.pure (P := Tryz.prog) (V := VV) (T := Q) (S := (Q w4)) (a0 := A0) (Qx := QQ) i_8 (.bool true) (Q.refl ·) (fun l a w hI hl => ⟨wanted_none rfl, ex_pick_t rfl (at_eq v_4 (hI.at_ 4 26 _ i_4 rfl (hl_at hl 0 rfl rfl))) (at_eq v_7 (hI.at_ 7 29 _ i_7 rfl (hl_at hl 1 rfl rfl))), at_mk v_8 rfl⟩)
 have s_9 := Step.pure (P := Tryz.prog) (V := VV) (T := Q) (S := (Q w4)) (a0 := A0) (Qx := QQ) i_9 (.bool true) (Q.refl ·) (fun l a w hI hl => ⟨wanted_none rfl, ex_move rfl (at_eq v_8 (hI.at_ 8 30 _ i_8 rfl (hl_at hl 0 rfl rfl))), at_mk v_9 rfl⟩)
 have s_10 := Step.call (P := Tryz.prog) (V := VV) (T := Q) (S := (Q w4)) (a0 := A0) (Qx := QQ) (R := fun _ _ _ => True) i_10 (fun l a w hI hl => by
  refine ⟨wanted_of rfl i_9 rfl (lt_of hI hz rfl) (at_eq v_9 (hI.at_ 9 31 _ i_9 rfl (hl_at hl 0 rfl rfl))), 45, #[], ?_, ?_⟩
  · exact ex_call rfl (by simp only [List.map_toArray, List.map_cons, List.map_nil, ev_const]) Tryz.func45 (by kernel_rfl) (by kernel_rfl)
  · exact (FX.out w hI.st).mono fun e w' hc => by
     obtain ⟨rfl, hq⟩ := hc
     exact ⟨_, rfl, hq, hI.st.trans hq, at_mk v_10 rfl⟩)
 have s_11 := Step.pure (P := Tryz.prog) (V := VV) (T := Q) (S := (Q w4)) (a0 := A0) (Qx := QQ) i_11 (.bool true) (Q.refl ·) (fun l a w hI hl => ⟨wanted_none rfl, ex_pick_t rfl (at_eq v_9 (hI.at_ 9 31 _ i_9 rfl (hl_at hl 0 rfl rfl))) (at_eq v_10 (hI.at_ 10 32 _ i_10 rfl (hl_at hl 1 rfl rfl))), at_mk v_11 rfl⟩)
 have s_12 := Step.pure (P := Tryz.prog) (V := VV) (T := Q) (S := (Q w4)) (a0 := A0) (Qx := QQ) i_12 (.bool true) (Q.refl ·) (fun l a w hI hl => ⟨wanted_none rfl, ex_assign rfl (at_eq v_11 (hI.at_ 11 33 _ i_11 rfl (hl_at hl 0 rfl rfl))), at_mk v_12 rfl⟩)
 refine wp_plan VV Q (Q w4) (by kernel_rfl) hs hV hS0 (steps_all hO ((sf_cons s_0 (sf_cons s_1 (sf_cons s_2 (sf_cons s_3 (sf_cons s_4 (sf_cons s_5 (sf_cons s_6 (sf_cons s_7 (sf_cons s_8 (sf_cons s_9 (sf_cons s_10 (sf_cons s_11 (sf_cons s_12 trivial))))))))))))))) ?_
 intro l a' w' hall hIv
 have e0 : a'.eval (.tmp 2) = .bool true := at_eq v_12 (hIv.at_ 12 2 _ i_12 rfl (hall 12 (by rw [hO]; decide)))
 have hd : a'.defers = [] := by (rw [hIv.df, hA]; try rfl)
 have hst := Q4.out.trans hIv.st
 rw [hQQ]
 clear hIv hall
 go_wp2_with fail
 (try simp only [Exit.inBlock, Exit.then])
 refine bodyPost_ret (results_tmp rfl _ _ _) hd ?_
 exact ⟨congrArg Ending.returned e0, hst⟩
end Go.Proofs.YtjiepemapffgjaaGreatDoor.Coi
