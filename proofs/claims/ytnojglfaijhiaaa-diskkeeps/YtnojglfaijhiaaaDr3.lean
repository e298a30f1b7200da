/-
  Layer 13: the document's Cut, Sync.
-/
import Derived.Test.YtnojglfaijhiaaaDr2
import Derived.Test.YtnojglfaijhiaaaPlan2
namespace Go.Proofs.Ytnojglfaijhiaaa.Dk
open Go.RowKit
open Mem Plan
set_option linter.unusedVariables false
set_option linter.unusedSimpArgs false

section
variable {w w' : World} {B g ra rb n room : Nat} {A E : Nat → ByteArray} {t : Nat → ByteArray} {s : Nat → Nat}
/-- What stands when one text of what is sure was written. -/
theorem RK0.mid (h : RK0 w B g ra rb n A E room) {i : Nat} (hi : i < n) (y : ByteArray) : Ch ra w (w.setCell ⟨ra, i, none⟩ (.string y)) ∧ (w.setCell ⟨ra, i, none⟩ (.string y)).cell? ⟨g, 0, none⟩ = some (.slice (some ⟨ra, 0, none⟩) n n) ∧ (w.setCell ⟨ra, i, none⟩ (.string y)).cell? ⟨g, 1, none⟩ = some (.slice (some ⟨rb, 0, none⟩) n n) ∧
    (∀ j, j < n → (w.setCell ⟨ra, i, none⟩ (.string y)).cell? ⟨rb, j, none⟩ = some (.string (E j))) ∧ (∀ j, (w.setCell ⟨ra, i, none⟩ (.string y)).frozen? ⟨rb, j, none⟩ = false) ∧ (∀ j, j < n → (w.setCell ⟨ra, i, none⟩ (.string y)).cell? ⟨ra, j, none⟩ = some (.string (put A i y j))) ∧ (∀ j, (w.setCell ⟨ra, i, none⟩ (.string y)).frozen? ⟨ra, j, none⟩ = false) := by
  obtain ⟨h1, h2⟩ := txt_put h.a hi y
  have hty := own_ty h.a (k := ra) rfl
  have gn : g ≠ ra := fun e => by subst e; exact absurd ((own_ty h.d (k := g) rfl).one hty) (by decide)
  have he := own_keep (w' := w.setCell ⟨ra, i, none⟩ (.string y)) h.e fun k hk => h2.block k (World.ownsRow.lt h.e k hk).2 (fun e => by injection e with e; injection hk with hk; exact h.ne (e.symm.trans hk.symm))
  exact ⟨h2, h2.cell h.g0 gn, h2.cell h.g1 gn, fun j hj => txt_at he hj, fun j => World.ownsRow.frozenAt he j, fun j hj => txt_at h1 hj, fun j => World.ownsRow.frozenAt h1 j⟩
/-- Both texts of a file were written. -/
theorem RK0.set2 (h : RK0 w B g ra rb n A E room) {i : Nat} (hi : i < n) (y z : ByteArray) (hs : y.size + z.size ≤ (A i).size + (E i).size) :
    RK0 ((w.setCell ⟨ra, i, none⟩ (.string y)).setCell ⟨rb, i, none⟩ (.string z)) B g ra rb n (put A i y) (put E i z) room ∧ Fo (SR ra rb) w ((w.setCell ⟨ra, i, none⟩ (.string y)).setCell ⟨rb, i, none⟩ (.string z)) := by
  obtain ⟨h1, h2⟩ := txt_put h.a hi y
  have he := own_keep (w' := w.setCell ⟨ra, i, none⟩ (.string y)) h.e fun k hk => h2.block k (World.ownsRow.lt h.e k hk).2 (fun e => by injection e with e; injection hk with hk; exact h.ne (e.symm.trans hk.symm))
  obtain ⟨h3, h4⟩ := txt_put he hi z
  have hF := (fo_a (rb := rb) h2).trans (fo_b (ra := ra) h4)
  have hta := own_ty h.a (k := ra) rfl
  have hte := own_ty h.e (k := rb) rfl
  refine ⟨⟨own_keep h.d fun k hk => hF.block k (World.ownsRow.lt h.d k hk).2 (fun e => ?_), own_keep h1 fun k hk => h4.block k (World.ownsRow.lt h1 k hk).2 (fun e => by injection e with e; injection hk with hk; exact h.ne (hk.trans e)), h3, h.ne, ?_, h.hr, h.hn, h.n1⟩, hF⟩
  · rcases e with e | e
    · subst e; exact absurd ((own_ty h.d hk).one hta) (by decide)
    · subst e; exact absurd ((own_ty h.d hk).one hte) (by decide)
  have e : (fun j => put A i y j ++ put E i z j) = put (fun j => A j ++ E j) i (y ++ z) := by
    funext j
    unfold put
    by_cases e : j = i
    · subst e; rw [if_pos rfl, if_pos rfl, if_pos rfl]
    · rw [if_neg e, if_neg e, if_neg e]
  rw [e]
  have h5 := tot_put (t := fun j => A j ++ E j) (i := i) (y ++ z) hi
  have h6 : (y ++ z).size = y.size + z.size := by simp
  have h7 : (A i ++ E i).size = (A i).size + (E i).size := by simp
  have h8 := h.sum
  omega
theorem app_nil (y : ByteArray) : y ++ (⟨#[]⟩ : ByteArray) = y := ByteArray.append_empty
theorem rread_l (h : RK w B g ra rb n t s room) (f : Int) (x : ByteArray) (hx : rdV n t f = x) : Calls Try.prog 16 #[.pointer (some ⟨g, 0, none⟩), .int .i64 f] w fun r w' => r = .returned (.string x) ∧ Q w w' := by
  subst hx; exact rread_x h f
set_option maxHeartbeats 8000000 in
set_option maxRecDepth 100000 in
theorem rcut_x (h : RK w B g ra rb n t s room) (f m : Int) : Calls Try.prog 27 #[.pointer (some ⟨g, 0, none⟩), .int .i64 f, .int .i64 m] w fun r w' =>
    r = .returned (.int .i64 (cuE n t f m)) ∧ RK w' B g ra rb n (cuT n t f m) (cuS n t s f m) room ∧ Fo (SR ra rb) w w' := by
  have hh := Lib.hid (rhas_x h f)
  have H := Lib.hid h
  by_cases hi : inn n f = true
  · obtain ⟨ix, rfl, hi'⟩ := inn_t hi
    rw [hi] at hh
    have j0 : (0 : Int) ≤ (ix : Int) := by omega
    have j1 : (ix : Int) < (n : Int) := by omega
    obtain ⟨x, hx⟩ : ∃ x, t ix = x := ⟨_, rfl⟩
    have hrd : rdV n t (ix : Int) = x := by unfold rdV; rw [if_pos hi, ← hx]; rfl
    have HX := Lib.hid hx
    by_cases hm0 : m < 0
    · have e1 : Hid (cuE n t (ix : Int) m = 1 ∧ cuT n t (ix : Int) m = t ∧ cuS n t s (ix : Int) m = s) := by
        have : cuE n t (ix : Int) m = 1 := by unfold cuE; rw [if_pos hi, if_pos (.inl hm0)]
        exact ⟨this, by unfold cuT; rw [this]; rfl, by unfold cuS; rw [this]; rfl⟩
      have d1 : decide (m < 0) = true := by simpa using hm0
      clear h hm0 hi hx hrd
      go_enter Try.func27, Try.ntmps27
      go_wp2_with fail
      refine hh.out.mono ?_
      rintro r w1 ⟨rfl, rfl⟩
      go_wp2_with fail
      refine bodyPost_ret (results_tmp rfl _ _ _) rfl ?_
      exact ⟨by rw [e1.out.1]; rfl, by rw [e1.out.2.1, e1.out.2.2]; exact H.out, Fo.of_q _ (Q.refl _)⟩
    · have d1 : decide (m < 0) = false := by simpa using hm0
      obtain ⟨mm, rfl⟩ : ∃ mm : Nat, m = (mm : Int) := ⟨m.toNat, by omega⟩
      clear hm0
      have RD0 := Lib.hid (rread_l h (ix : Int) x hrd)
      by_cases hm : x.size < mm
      · have e1 : Hid (cuE n t (ix : Int) (mm : Int) = 1 ∧ cuT n t (ix : Int) (mm : Int) = t ∧ cuS n t s (ix : Int) (mm : Int) = s) := by
          have : cuE n t (ix : Int) (mm : Int) = 1 := by unfold cuE; rw [if_pos hi, if_pos (.inr (by rw [Int.toNat_natCast, hx]; omega))]
          exact ⟨this, by unfold cuT; rw [this]; rfl, by unfold cuS; rw [this]; rfl⟩
        have d2 : decide (x.size < mm) = true := by simpa using hm
        clear h hi hx hrd
        go_enter Try.func27, Try.ntmps27
        go_wp2_with fail
        refine hh.out.mono ?_
        rintro r w1 ⟨rfl, rfl⟩
        go_wp2_with fail
        refine RD0.out.mono ?_
        rintro r w1 ⟨rfl, q1⟩
        have Q1 := Lib.hid q1
        clear q1
        go_wp2_with fail
        refine bodyPost_ret (results_tmp rfl _ _ _) rfl ?_
        exact ⟨by rw [e1.out.1]; rfl, by rw [e1.out.2.1, e1.out.2.2]; exact H.out.q Q1.out, Fo.of_q _ Q1.out⟩
      have e1 : Hid (cuE n t (ix : Int) (mm : Int) = 0 ∧ cuT n t (ix : Int) (mm : Int) = put t ix ((t ix).extract 0 mm) ∧ cuS n t s (ix : Int) (mm : Int) = put s ix mm) := by
        have : cuE n t (ix : Int) (mm : Int) = 0 := by unfold cuE; rw [if_pos hi, if_neg (by rw [Int.toNat_natCast, hx]; omega)]
        exact ⟨this, by unfold cuT; rw [this]; rfl, by unfold cuS; rw [this]; rfl⟩
      have d2 : decide (x.size < mm) = false := by simpa using hm
      have hm : mm ≤ x.size := Nat.le_of_not_lt hm
      obtain ⟨A, E, h, e⟩ := h
      have HE := Lib.hid e
      have HD := Lib.hid h
      have hi3 := Lib.hid hi'
      have hsz := h.sz hi'
      have hxs : x.size = (A ix).size + (E ix).size := by rw [← hx, ← (e ix hi').1]; simp
      obtain ⟨y0, ey⟩ : ∃ y0, x.extract 0 mm = y0 := ⟨_, rfl⟩
      have HY := Lib.hid ey
      have hys : y0.size = mm := by rw [← ey]; exact size_extract0 x mm hm
      have HYS := Lib.hid hys
      have HZ : Hid (y0.size + (⟨#[]⟩ : ByteArray).size ≤ (A ix).size + (E ix).size) := by show y0.size + 0 ≤ _; omega
      have hxb : x.size ≤ 16777216 := by omega
      have HR := Lib.hid hrd
      clear h e hi hi' hx hrd hsz hxs hys
      go_enter Try.func27, Try.ntmps27
      go_wp2_with fail
      refine hh.out.mono ?_
      rintro r w1 ⟨rfl, rfl⟩
      go_wp2_with fail
      refine RD0.out.mono ?_
      rintro r w1 ⟨rfl, q1⟩
      have Q1 := Lib.hid q1
      clear q1
      go_wp2_with fail
      obtain ⟨W0, hW0⟩ : ∃ W, w1.drew = W := ⟨_, rfl⟩
      have QW : Hid (Q w W0) := by rw [← hW0]; exact Q1.out.drew
      have C0 : ∀ w, Q W0 w → w.cell? ⟨g, 0, none⟩ = some (.slice (some ⟨ra, 0, none⟩) n n) := fun w q => (HD.out.q (QW.out.trans q)).g0
      have RD : Hid (∀ v5, Q W0 v5 → Calls Try.prog 16 #[.pointer (some ⟨g, 0, none⟩), .int .i64 ix] v5 fun r w' => r = .returned (.string x) ∧ Q v5 w') := fun v5 q => rread_l (H.out.q (QW.out.trans q)) (ix : Int) x HR.out
      have hS0 : Q W0 w1.drew := by rw [hW0]; exact Q.refl _
      clear d1 d2
      refine region_gen3 ?_
      intro OPS QQ A0 hO hQQ hA
      have hz : A0.tmps.size = 40 := by rw [hA]; rfl
      have hs : sound OPS A0.tmps.size = true := by rw [hz, hO]; kernel_rfl
      have b_0 : A0.eval (.tmp 0) = .pointer (some ⟨g, 0, none⟩) := by rw [hA]; rfl
      have fr_0 : free OPS 0 = true := by rw [hO]; kernel_rfl
      have b_1 : A0.eval (.tmp 1) = .int .i64 ix := by rw [hA]; rfl
      have fr_1 : free OPS 1 = true := by rw [hO]; kernel_rfl
      have b_2 : A0.eval (.tmp 2) = .int .i64 (mm : Int) := by rw [hA]; rfl
      have fr_2 : free OPS 2 = true := by rw [hO]; kernel_rfl
      obtain ⟨VV, hVV⟩ : ∃ V : Nat → Value → World → Prop, V = fun i => ([fun v _ => v = .pointer (some ⟨g, 0, none⟩), fun v _ => v = .pointer (some ⟨g, 0, none⟩), fun v _ => v = .pointer (some ⟨g, 0, none⟩), fun v _ => v = .slice (some ⟨ra, 0, none⟩) n n, fun v _ => v = .int .i64 ix, fun v _ => v = .pointer (some ⟨g, 0, none⟩), fun v _ => v = .int .i64 ix, fun v _ => v = .string x, fun v _ => v = .int .i64 (mm : Int), fun v _ => v = .string y0, fun v _ => v = .pointer (some ⟨ra, ix, none⟩)] : List (Value → World → Prop)).getD i (fun _ _ => True) := ⟨_, rfl⟩
      have v_0 : VV 0 = fun v _ => v = .pointer (some ⟨g, 0, none⟩) := vat hVV 0
      have v_1 : VV 1 = fun v _ => v = .pointer (some ⟨g, 0, none⟩) := vat hVV 1
      have v_2 : VV 2 = fun v _ => v = .pointer (some ⟨g, 0, none⟩) := vat hVV 2
      have v_3 : VV 3 = fun v _ => v = .slice (some ⟨ra, 0, none⟩) n n := vat hVV 3
      have v_4 : VV 4 = fun v _ => v = .int .i64 ix := vat hVV 4
      have v_5 : VV 5 = fun v _ => v = .pointer (some ⟨g, 0, none⟩) := vat hVV 5
      have v_6 : VV 6 = fun v _ => v = .int .i64 ix := vat hVV 6
      have v_7 : VV 7 = fun v _ => v = .string x := vat hVV 7
      have v_8 : VV 8 = fun v _ => v = .int .i64 (mm : Int) := vat hVV 8
      have v_9 : VV 9 = fun v _ => v = .string y0 := vat hVV 9
      have v_10 : VV 10 = fun v _ => v = .pointer (some ⟨ra, ix, none⟩) := vat hVV 10
      have hV := stablex_of (T := Q) (p := 11) hVV ((sx_cons (fun _ _ _ h _ => h) (sx_cons (fun _ _ _ h _ => h) (sx_cons (fun _ _ _ h _ => h) (sx_cons (fun _ _ _ h _ => h) (sx_cons (fun _ _ _ h _ => h) (sx_cons (fun _ _ _ h _ => h) (sx_cons (fun _ _ _ h _ => h) (sx_cons (fun _ _ _ h _ => h) (sx_cons (fun _ _ _ h _ => h) (sx_cons (fun _ _ _ h _ => h) (sx_cons (fun _ _ _ h _ => h) trivial))))))))))))
      clear hVV
      have i_0 := pget_at hO 0 rfl
      have i_1 := pget_at hO 1 rfl
      have i_2 := pget_at hO 2 rfl
      have i_3 := pget_at hO 3 rfl
      have i_4 := pget_at hO 4 rfl
      have i_5 := pget_at hO 5 rfl
      have i_6 := pget_at hO 6 rfl
      have i_7 := pget_at hO 7 rfl
      have i_8 := pget_at hO 8 rfl
      have i_9 := pget_at hO 9 rfl
      have i_10 := pget_at hO 10 rfl
      have i_11 := pget_at hO 11 rfl
      have s_0 := Step2.pure (P := Try.prog) (V := VV) (T := Q) (S := (Q W0)) (a0 := A0) (p := 11) (Qx := QQ) i_0 (by rw [hO]; kernel_rfl) (.pointer (some ⟨g, 0, none⟩)) (Q.refl ·) (fun l a w hI hl hS => ⟨wanted_none rfl, ex_move rfl ((hI.base 0 fr_0).trans b_0), at_mk v_0 rfl⟩)
      have s_1 := Step2.pure (P := Try.prog) (V := VV) (T := Q) (S := (Q W0)) (a0 := A0) (p := 11) (Qx := QQ) i_1 (by rw [hO]; kernel_rfl) (.pointer (some ⟨g, 0, none⟩)) (Q.refl ·) (fun l a w hI hl hS => ⟨wanted_none rfl, (by have e0 : a.eval (.tmp 23) = _ := (at_eq v_0 (hI.at_ 0 23 _ i_0 rfl (hl_at hl 0 rfl rfl))); generalize a.eval = ρ at e0 ⊢; simp [go_sem, e0]), at_mk v_1 rfl⟩)
      have s_2 := Step2.pure (P := Try.prog) (V := VV) (T := Q) (S := (Q W0)) (a0 := A0) (p := 11) (Qx := QQ) i_2 (by rw [hO]; kernel_rfl) (.pointer (some ⟨g, 0, none⟩)) (Q.refl ·) (fun l a w hI hl hS => ⟨wanted_none rfl, (by have e0 : a.eval (.tmp 24) = _ := (at_eq v_1 (hI.at_ 1 24 _ i_1 rfl (hl_at hl 0 rfl rfl))); generalize a.eval = ρ at e0 ⊢; simp [go_sem, e0]), at_mk v_2 rfl⟩)
      have s_3 := Step2.pure (P := Try.prog) (V := VV) (T := Q) (S := (Q W0)) (a0 := A0) (p := 11) (Qx := QQ) i_3 (by rw [hO]; kernel_rfl) (.slice (some ⟨ra, 0, none⟩) n n) (Q.refl ·) (fun l a w hI hl hS => ⟨wanted_none rfl, (by have e0 : a.eval (.tmp 25) = _ := (at_eq v_2 (hI.at_ 2 25 _ i_2 rfl (hl_at hl 0 rfl rfl))); have x0 := C0 w hS; generalize a.eval = ρ at e0 ⊢; simp [go_sem, e0, x0]), at_mk v_3 rfl⟩)
      have s_4 := Step2.pure (P := Try.prog) (V := VV) (T := Q) (S := (Q W0)) (a0 := A0) (p := 11) (Qx := QQ) i_4 (by rw [hO]; kernel_rfl) (.int .i64 ix) (Q.refl ·) (fun l a w hI hl hS => ⟨wanted_none rfl, ex_move rfl ((hI.base 1 fr_1).trans b_1), at_mk v_4 rfl⟩)
      have s_5 := Step2.pure (P := Try.prog) (V := VV) (T := Q) (S := (Q W0)) (a0 := A0) (p := 11) (Qx := QQ) i_5 (by rw [hO]; kernel_rfl) (.pointer (some ⟨g, 0, none⟩)) (Q.refl ·) (fun l a w hI hl hS => ⟨wanted_none rfl, ex_move rfl ((hI.base 0 fr_0).trans b_0), at_mk v_5 rfl⟩)
      have s_6 := Step2.pure (P := Try.prog) (V := VV) (T := Q) (S := (Q W0)) (a0 := A0) (p := 11) (Qx := QQ) i_6 (by rw [hO]; kernel_rfl) (.int .i64 ix) (Q.refl ·) (fun l a w hI hl hS => ⟨wanted_none rfl, ex_move rfl ((hI.base 1 fr_1).trans b_1), at_mk v_6 rfl⟩)
      have s_7 := Step2.done (P := Try.prog) (V := VV) (T := Q) (S := (Q W0)) (a0 := A0) (p := 11) (Qx := QQ) i_7 (by rw [hO]; kernel_rfl) (fun l a w hI hl hS => by
        refine ⟨wanted_none rfl, ?_⟩
        refine wp_enter (f := 16) (args := #[.pointer (some ⟨g, 0, none⟩), .int .i64 ix]) ?_ ?_
        · exact ex_call rfl (by simp only [List.map_toArray, List.map_cons, List.map_nil, ev_const, (show a.eval (.tmp 28) = _ from (at_eq v_5 (hI.at_ 5 28 _ i_5 rfl (hl_at hl 0 rfl rfl)))), (show a.eval (.tmp 29) = _ from (at_eq v_6 (hI.at_ 6 29 _ i_6 rfl (hl_at hl 1 rfl rfl))))]) Try.func16 (by kernel_rfl) (by kernel_rfl)
        · refine (RD.out w hS).mono fun e w' hc => ?_
          obtain ⟨rfl, hq⟩ := hc
          exact ⟨_, rfl, hq, hS.trans hq, at_mk v_7 rfl⟩)
      have s_8 := Step2.pure (P := Try.prog) (V := VV) (T := Q) (S := (Q W0)) (a0 := A0) (p := 11) (Qx := QQ) i_8 (by rw [hO]; kernel_rfl) (.int .i64 (mm : Int)) (Q.refl ·) (fun l a w hI hl hS => ⟨wanted_none rfl, ex_move rfl ((hI.base 2 fr_2).trans b_2), at_mk v_8 rfl⟩)
      have s_9 := Step2.pure (P := Try.prog) (V := VV) (T := Q) (S := (Q W0)) (a0 := A0) (p := 11) (Qx := QQ) i_9 (by rw [hO]; kernel_rfl) (.string y0) (Q.refl ·) (fun l a w hI hl hS => ⟨wanted_none rfl, (by have e0 : a.eval (.tmp 30) = _ := (at_eq v_7 (hI.at_ 7 30 _ i_7 rfl (hl_at hl 0 rfl rfl))); have e1 : a.eval (.tmp 31) = _ := (at_eq v_8 (hI.at_ 8 31 _ i_8 rfl (hl_at hl 1 rfl rfl))); generalize a.eval = ρ at e0 e1 ⊢; simp [go_sem, e0, e1, ey, hm]; try omega), at_mk v_9 rfl⟩)
      have s_10 := Step2.pure (P := Try.prog) (V := VV) (T := Q) (S := (Q W0)) (a0 := A0) (p := 11) (Qx := QQ) i_10 (by rw [hO]; kernel_rfl) (.pointer (some ⟨ra, ix, none⟩)) (Q.refl ·) (fun l a w hI hl hS => ⟨wanted_none rfl, (by have e0 : a.eval (.tmp 26) = _ := (at_eq v_3 (hI.at_ 3 26 _ i_3 rfl (hl_at hl 0 rfl rfl))); have e1 : a.eval (.tmp 27) = _ := (at_eq v_4 (hI.at_ 4 27 _ i_4 rfl (hl_at hl 1 rfl rfl))); generalize a.eval = ρ at e0 e1 ⊢; simp [go_sem, e0, e1, j0, j1]), at_mk v_10 rfl⟩)
      refine wp_plan2 VV (Q) (Q W0) 11 11 (by kernel_rfl) hs (by rw [hO]; rfl) (by rw [hO]; kernel_rfl) hV hS0 (steps2_all hO _ rfl ((s2_cons s_0 (s2_cons s_1 (s2_cons s_2 (s2_cons s_3 (s2_cons s_4 (s2_cons s_5 (s2_cons s_6 (s2_cons s_7 (s2_cons s_8 (s2_cons s_9 (s2_cons s_10 trivial))))))))))))) ?_
      intro l a w hall hln hI
      have hS := hI.st hln
      refine fin_of i_11 (wanted_none rfl) ?_
      have x0 := (HD.out.q (QW.out.trans hS)).a0 hi3.out
      have x1 := (HD.out.q (QW.out.trans hS)).fz_a ix
      have M1 := Lib.hid ((HD.out.q (QW.out.trans hS)).mid hi3.out y0)
      have M2 := Lib.hid ((HD.out.q (QW.out.trans hS)).set2 hi3.out y0 ⟨#[]⟩ HZ.out)
      have M3 := Lib.hid (Fo.of_q (SR ra rb) (QW.out.trans hS))
      refine wpo_set 9 _ _ rfl (at_eq v_10 (hI.at_ 10 33 _ i_10 rfl (hall 10 (by decide)))) (at_eq v_9 (hI.at_ 9 32 _ i_9 rfl (hall 9 (by decide)))) (by simp [go_sem, x0, x1]) ?_
      rw [hQQ]
      clear x0 x1
      obtain ⟨ts, ds⟩ := a
      have hd : ds = [] := by have := hI.df; rw [hA] at this; exact this
      have hts : ts.size = 40 := by have := hI.sz; rw [hz] at this; exact this
      have f0 := (hI.base 0 (by rw [hO]; kernel_rfl)).trans (base_at hA 0 rfl)
      have f1 := (hI.base 1 (by rw [hO]; kernel_rfl)).trans (base_at hA 1 rfl)
      have f2 := (hI.base 2 (by rw [hO]; kernel_rfl)).trans (base_at hA 2 rfl)
      have f3 := (hI.base 3 (by rw [hO]; kernel_rfl)).trans (base_at hA 3 rfl)
      have f4 := (hI.base 4 (by rw [hO]; kernel_rfl)).trans (base_at hA 4 rfl)
      have f5 := (hI.base 5 (by rw [hO]; kernel_rfl)).trans (base_at hA 5 rfl)
      have f6 := (hI.base 6 (by rw [hO]; kernel_rfl)).trans (base_at hA 6 rfl)
      have f7 := (hI.base 7 (by rw [hO]; kernel_rfl)).trans (base_at hA 7 rfl)
      have f8 := (hI.base 8 (by rw [hO]; kernel_rfl)).trans (base_at hA 8 rfl)
      have f9 := (hI.base 9 (by rw [hO]; kernel_rfl)).trans (base_at hA 9 rfl)
      have f10 := (hI.base 10 (by rw [hO]; kernel_rfl)).trans (base_at hA 10 rfl)
      have f11 := (hI.base 11 (by rw [hO]; kernel_rfl)).trans (base_at hA 11 rfl)
      have f12 := (hI.base 12 (by rw [hO]; kernel_rfl)).trans (base_at hA 12 rfl)
      have f13 := (hI.base 13 (by rw [hO]; kernel_rfl)).trans (base_at hA 13 rfl)
      have f14 := (hI.base 14 (by rw [hO]; kernel_rfl)).trans (base_at hA 14 rfl)
      have f15 := (hI.base 15 (by rw [hO]; kernel_rfl)).trans (base_at hA 15 rfl)
      have f16 := (hI.base 16 (by rw [hO]; kernel_rfl)).trans (base_at hA 16 rfl)
      have f17 := (hI.base 17 (by rw [hO]; kernel_rfl)).trans (base_at hA 17 rfl)
      have f18 := (hI.base 18 (by rw [hO]; kernel_rfl)).trans (base_at hA 18 rfl)
      have f19 := (hI.base 19 (by rw [hO]; kernel_rfl)).trans (base_at hA 19 rfl)
      have f20 := (hI.base 20 (by rw [hO]; kernel_rfl)).trans (base_at hA 20 rfl)
      have f21 := (hI.base 21 (by rw [hO]; kernel_rfl)).trans (base_at hA 21 rfl)
      have f22 := (hI.base 22 (by rw [hO]; kernel_rfl)).trans (base_at hA 22 rfl)
      have f34 := (hI.base 34 (by rw [hO]; kernel_rfl)).trans (base_at hA 34 rfl)
      have f35 := (hI.base 35 (by rw [hO]; kernel_rfl)).trans (base_at hA 35 rfl)
      have f36 := (hI.base 36 (by rw [hO]; kernel_rfl)).trans (base_at hA 36 rfl)
      have f37 := (hI.base 37 (by rw [hO]; kernel_rfl)).trans (base_at hA 37 rfl)
      have f38 := (hI.base 38 (by rw [hO]; kernel_rfl)).trans (base_at hA 38 rfl)
      have f39 := (hI.base 39 (by rw [hO]; kernel_rfl)).trans (base_at hA 39 rfl)
      obtain ⟨tl0, rfl⟩ : ∃ tl : List Value, ts = tl.toArray := ⟨ts.toList, by simp⟩
      have htl0 : tl0.length = 40 := by simpa using hts
      clear hts
      obtain ⟨y0, tl1, et, htl1⟩ := len_succ htl0
      clear htl0
      subst et
      obtain ⟨y1, tl2, et, htl2⟩ := len_succ htl1
      clear htl1
      subst et
      obtain ⟨y2, tl3, et, htl3⟩ := len_succ htl2
      clear htl2
      subst et
      obtain ⟨y3, tl4, et, htl4⟩ := len_succ htl3
      clear htl3
      subst et
      obtain ⟨y4, tl5, et, htl5⟩ := len_succ htl4
      clear htl4
      subst et
      obtain ⟨y5, tl6, et, htl6⟩ := len_succ htl5
      clear htl5
      subst et
      obtain ⟨y6, tl7, et, htl7⟩ := len_succ htl6
      clear htl6
      subst et
      obtain ⟨y7, tl8, et, htl8⟩ := len_succ htl7
      clear htl7
      subst et
      obtain ⟨y8, tl9, et, htl9⟩ := len_succ htl8
      clear htl8
      subst et
      obtain ⟨y9, tl10, et, htl10⟩ := len_succ htl9
      clear htl9
      subst et
      obtain ⟨y10, tl11, et, htl11⟩ := len_succ htl10
      clear htl10
      subst et
      obtain ⟨y11, tl12, et, htl12⟩ := len_succ htl11
      clear htl11
      subst et
      obtain ⟨y12, tl13, et, htl13⟩ := len_succ htl12
      clear htl12
      subst et
      obtain ⟨y13, tl14, et, htl14⟩ := len_succ htl13
      clear htl13
      subst et
      obtain ⟨y14, tl15, et, htl15⟩ := len_succ htl14
      clear htl14
      subst et
      obtain ⟨y15, tl16, et, htl16⟩ := len_succ htl15
      clear htl15
      subst et
      obtain ⟨y16, tl17, et, htl17⟩ := len_succ htl16
      clear htl16
      subst et
      obtain ⟨y17, tl18, et, htl18⟩ := len_succ htl17
      clear htl17
      subst et
      obtain ⟨y18, tl19, et, htl19⟩ := len_succ htl18
      clear htl18
      subst et
      obtain ⟨y19, tl20, et, htl20⟩ := len_succ htl19
      clear htl19
      subst et
      obtain ⟨y20, tl21, et, htl21⟩ := len_succ htl20
      clear htl20
      subst et
      obtain ⟨y21, tl22, et, htl22⟩ := len_succ htl21
      clear htl21
      subst et
      obtain ⟨y22, tl23, et, htl23⟩ := len_succ htl22
      clear htl22
      subst et
      obtain ⟨y23, tl24, et, htl24⟩ := len_succ htl23
      clear htl23
      subst et
      obtain ⟨y24, tl25, et, htl25⟩ := len_succ htl24
      clear htl24
      subst et
      obtain ⟨y25, tl26, et, htl26⟩ := len_succ htl25
      clear htl25
      subst et
      obtain ⟨y26, tl27, et, htl27⟩ := len_succ htl26
      clear htl26
      subst et
      obtain ⟨y27, tl28, et, htl28⟩ := len_succ htl27
      clear htl27
      subst et
      obtain ⟨y28, tl29, et, htl29⟩ := len_succ htl28
      clear htl28
      subst et
      obtain ⟨y29, tl30, et, htl30⟩ := len_succ htl29
      clear htl29
      subst et
      obtain ⟨y30, tl31, et, htl31⟩ := len_succ htl30
      clear htl30
      subst et
      obtain ⟨y31, tl32, et, htl32⟩ := len_succ htl31
      clear htl31
      subst et
      obtain ⟨y32, tl33, et, htl33⟩ := len_succ htl32
      clear htl32
      subst et
      obtain ⟨y33, tl34, et, htl34⟩ := len_succ htl33
      clear htl33
      subst et
      obtain ⟨y34, tl35, et, htl35⟩ := len_succ htl34
      clear htl34
      subst et
      obtain ⟨y35, tl36, et, htl36⟩ := len_succ htl35
      clear htl35
      subst et
      obtain ⟨y36, tl37, et, htl37⟩ := len_succ htl36
      clear htl36
      subst et
      obtain ⟨y37, tl38, et, htl38⟩ := len_succ htl37
      clear htl37
      subst et
      obtain ⟨y38, tl39, et, htl39⟩ := len_succ htl38
      clear htl38
      subst et
      obtain ⟨y39, tl40, et, htl40⟩ := len_succ htl39
      clear htl39
      subst et
      have et := List.eq_nil_of_length_eq_zero htl40
      clear htl40
      subst et
      have g0 : y0 = _ := f0
      have g1 : y1 = _ := f1
      have g2 : y2 = _ := f2
      have g3 : y3 = _ := f3
      have g4 : y4 = _ := f4
      have g5 : y5 = _ := f5
      have g6 : y6 = _ := f6
      have g7 : y7 = _ := f7
      have g8 : y8 = _ := f8
      have g9 : y9 = _ := f9
      have g10 : y10 = _ := f10
      have g11 : y11 = _ := f11
      have g12 : y12 = _ := f12
      have g13 : y13 = _ := f13
      have g14 : y14 = _ := f14
      have g15 : y15 = _ := f15
      have g16 : y16 = _ := f16
      have g17 : y17 = _ := f17
      have g18 : y18 = _ := f18
      have g19 : y19 = _ := f19
      have g20 : y20 = _ := f20
      have g21 : y21 = _ := f21
      have g22 : y22 = _ := f22
      have g34 : y34 = _ := f34
      have g35 : y35 = _ := f35
      have g36 : y36 = _ := f36
      have g37 : y37 = _ := f37
      have g38 : y38 = _ := f38
      have g39 : y39 = _ := f39
      clear f0 f1 f2 f3 f4 f5 f6 f7 f8 f9 f10 f11 f12 f13 f14 f15 f16 f17 f18 f19 f20 f21 f22 f34 f35 f36 f37 f38 f39
      subst hd g0 g1 g2 g3 g4 g5 g6 g7 g8 g9 g10 g11 g12 g13 g14 g15 g16 g17 g18 g19 g20 g21 g22 g34 g35 g36 g37 g38 g39
      clear hI hall hln hV hs hz hA hO hQQ hS v_0 i_0 s_0 v_1 i_1 s_1 v_2 i_2 s_2 v_3 i_3 s_3 v_4 i_4 s_4 v_5 i_5 s_5 v_6 i_6 s_6 v_7 i_7 s_7 v_8 i_8 s_8 v_9 i_9 s_9 v_10 i_10 s_10
      clear i_11 C0
      have m1 := M1.out.2.2.1
      have m2 := M1.out.2.2.2.1 ix hi3.out
      have m3 := M1.out.2.2.2.2.1 ix
      clear M1
      go_wp2_with fail
      refine bodyPost_ret (results_tmp rfl _ _ _) rfl ?_
      refine ⟨by rw [e1.out.1]; rfl, ⟨_, _, M2.out.1, fun j hj => ?_⟩, M3.out.trans M2.out.2⟩
      rw [e1.out.2.1, e1.out.2.2, HX.out, HY.out]
      by_cases e : j = ix
      · subst e
        rw [put_same, put_same, put_same, put_same]
        exact ⟨app_nil _, HYS.out⟩
      · rw [put_other A _ e, put_other E _ e, put_other t _ e, put_other s _ e]; exact HE.out j hj
  · have hi2 : inn n f = false := by simpa using hi
    have e1 : Hid (cuE n t f m = 1 ∧ cuT n t f m = t ∧ cuS n t s f m = s) := by
      have : cuE n t f m = 1 := by unfold cuE; rw [hi2]; rfl
      exact ⟨this, by unfold cuT; rw [this]; rfl, by unfold cuS; rw [this]; rfl⟩
    rw [hi2] at hh
    clear h hi hi2
    go_enter Try.func27, Try.ntmps27
    go_wp2_with fail
    refine hh.out.mono ?_
    rintro r w1 ⟨rfl, rfl⟩
    go_wp2_with fail
    refine bodyPost_ret (results_tmp rfl _ _ _) rfl ?_
    exact ⟨by rw [e1.out.1]; rfl, by rw [e1.out.2.1, e1.out.2.2]; exact H.out, Fo.of_q _ (Q.refl _)⟩
theorem RK.congr {t' : Nat → ByteArray} {s' : Nat → Nat} (h : RK w B g ra rb n t s room) (k : ∀ i, i < n → t i = t' i ∧ s i = s' i) : RK w B g ra rb n t' s' room := by
  obtain ⟨A, E, h, e⟩ := h; exact ⟨A, E, h, fun i hi => ⟨(e i hi).1.trans (k i hi).1, (e i hi).2.trans (k i hi).2⟩⟩
set_option maxHeartbeats 8000000 in
set_option maxRecDepth 100000 in
theorem rsync_x (h : RK w B g ra rb n t s room) (f : Int) : Calls Try.prog 26 #[.pointer (some ⟨g, 0, none⟩), .int .i64 f] w fun r w' =>
    r = .returned (.int .i64 (syE n f)) ∧ RK w' B g ra rb n t (syS n t s f) room ∧ Fo (SR ra rb) w w' := by
  obtain ⟨x, hx⟩ : ∃ x, rdV n t f = x := ⟨_, rfl⟩
  have RD := Lib.hid (rread_l h f x hx)
  have hc : cuE n t f (x.size : Int) = syE n f ∧ (∀ i, i < n → cuT n t f (x.size : Int) i = t i ∧ cuS n t s f (x.size : Int) i = syS n t s f i) := by
    by_cases hi : inn n f = true
    · have hx2 : t f.toNat = x := by rw [← hx]; unfold rdV; rw [if_pos hi]
      have e1 : cuE n t f (x.size : Int) = 0 := by unfold cuE; rw [if_pos hi, if_neg (by rw [hx2]; omega)]
      refine ⟨by rw [e1]; unfold syE; rw [if_pos hi], fun i hi2 => ?_⟩
      unfold cuT cuS syS
      rw [if_pos e1, if_pos e1, if_pos hi, hx2, Int.toNat_natCast]
      refine ⟨?_, rfl⟩
      unfold put
      split
      · rename_i e; rw [e, hx2]; simp
      · rfl
    · have e1 : cuE n t f (x.size : Int) = 1 := by unfold cuE; rw [if_neg hi]
      refine ⟨by rw [e1]; unfold syE; rw [if_neg hi], fun i hi2 => ?_⟩
      unfold cuT cuS syS
      rw [e1, if_neg hi]
      exact ⟨rfl, rfl⟩
  have H := Lib.hid h
  have HC := Lib.hid hc
  clear h hc hx
  go_enter Try.func26, Try.ntmps26
  go_wp2_with fail
  refine RD.out.mono ?_
  rintro r w1 ⟨rfl, q1⟩
  have Q1 := Lib.hid q1
  clear q1
  go_wp2_with fail
  refine (rcut_x (H.out.q Q1.out) f (x.size : Int)).mono ?_
  rintro r w2 ⟨rfl, k2, f2⟩
  have K2 := Lib.hid k2
  have F2 := Lib.hid f2
  clear k2 f2
  go_wp2_with fail
  refine bodyPost_ret (results_tmp rfl _ _ _) rfl ?_
  exact ⟨by rw [← HC.out.1]; rfl, K2.out.congr HC.out.2, (Fo.of_q _ Q1.out).trans F2.out⟩
end
end Go.Proofs.Ytnojglfaijhiaaa.Dk
