/-
  Layer 13: the program's Append, Cut.
-/
import Derived.Test.YtnojglfaijhiaaaDk5
import Derived.Test.YtnojglfaijhiaaaPlan2
namespace Go.Proofs.Ytnojglfaijhiaaa.Dk
open Go.RowKit
open Mem Plan
set_option linter.unusedVariables false
set_option linter.unusedSimpArgs false

theorem len_succ {α : Type} {l : List α} {n : Nat} (h : l.length = n + 1) : ∃ x r, l = x :: r ∧ r.length = n := by
  cases l with
  | nil => simp at h
  | cons x r => exact ⟨x, r, rfl, by simpa using h⟩
theorem base_at {A a0 : Act} (h : A = a0) (s : Nat) {v : Value} (e : a0.tmps[s]? = some v) : A.eval (.tmp s) = v := by
  subst h
  show A.tmps.getD s undef = v
  rw [Array.getD_eq_getD_getElem?, e]; rfl
theorem ex_loado {P : Program} {o : Oper} {a : Act} {w : World} {x : Operand} (ty : TypeId) (ho : o.op = .load ty x) (b off : Nat) (cs : List Value) (d : TypeDesc) (hx : a.eval x = .pointer (some ⟨b, off, none⟩)) (hr : w.rangeAt b off cs)
    (hu : P.underlying ty = some d) (hd : d.isRow = true) (hi : (P.info? ty).map (·.size) = some cs.length) : (execOp a.eval o).run P w = .ok (.value (.agg cs.toArray)) w := by
  unfold execOp
  simp only [ho, hx, Instr.loadAt, Instr.sureAddr, Sem.run_bind, Sem.run_pure, Result.andThen_ok, run_loadVar_mid w b off ty cs d hr hu hd hi]
/-- A store of one cell. -/
theorem wpo_set {P : Program} {op : Oper} {a : Act} {w : World} {K : Act → World → Prop} {Q : Exit → Act → World → Prop} (ty : TypeId) (x y : Operand) (ho : op.op = .store ty x y) {b j : Nat} {v : Value}
    (hx : a.eval x = .pointer (some ⟨b, j, none⟩)) (hy : a.eval y = v) (hrun : (Instr.storeAt ty (.pointer (some ⟨b, j, none⟩)) v).run P w = .ok () (w.setCell ⟨b, j, none⟩ v))
    (h : K (a.put op.dst undef) (w.setCell ⟨b, j, none⟩ v)) : op.wp P a w K Q := by
  unfold Oper.wp execOp
  simp only [ho, hx, hy]
  rw [Sem.run_bind, hrun]
  exact h
theorem wpo_append {P : Program} {o : Oper} {a : Act} {w w' : World} {K : Act → World → Prop} {Q : Exit → Act → World → Prop} (s x : Operand) (ts tx : TypeId) (ho : o.op = .call { callee := .builtin .append, args := #[s, x], argTypes := #[ts, tx] }) {X Y v : Value}
    (hs : a.eval s = X) (hx : a.eval x = Y) (hr : (Builtin.append_ #[ts, tx] o.type #[X, Y]).run P w = .ok v w') (h : K (a.put o.dst v) w') : o.wp P a w K Q := by
  unfold Oper.wp execOp
  simp only [ho, resolve, invoke, builtin, Sem.run_bind, Sem.run_pure, Result.andThen_ok, List.map_toArray, List.map_cons, List.map_nil, hs, hx, hr]
  exact h
section
variable {P : Program} {ops : Array Oper} {V : Nat → Value → World → Prop} {S : World → Prop} {a0 : Act} {p d : Nat} {l : Array Bool} {a : Act} {w : World} {o : Oper}
/-- What holds ahead of operation p, and behind it. -/
theorem both {X : World → Prop} (h : Inv2 ops V S a0 p l a w) (hi : ops[p]? = some o) (hd : o.dst = some d) (h1 : ∀ w, S w → X w) (h2 : ∀ v w, V p v w → X w) : X w := by
  cases hb : l.getD p false with
  | false => exact h1 _ (h.st hb)
  | true => exact h2 _ _ (h.at_ p d o hi hd hb)
end
theorem one2 {a b : Value} (h1 : a.oneCell' = true) (h2 : b.oneCell' = true) : ∀ v ∈ [a, b], v.oneCell' = true := by
  intro v hv
  simp only [List.mem_cons, List.not_mem_nil, or_false] at hv
  rcases hv with rfl | rfl <;> assumption
section
variable {w : World} {B T g b n room : Nat} {F : Nat → FL} {t : Nat → ByteArray} {s : Nat → Nat}
set_option maxHeartbeats 8000000 in
set_option maxRecDepth 100000 in
theorem append_x (h : DK w B T g b n t s room) (f : Int) (x : ByteArray) : Calls Try.prog 10 #[.pointer (some ⟨g, 0, none⟩), .int .i64 f, .string x] w fun r w' =>
    r = .returned (.int .i64 (apE n room t f x)) ∧ DK w' B w'.heap.size g b n (apT n room t f x) s room ∧ Fo (SD w b B T) w w' := by
  have hh := Lib.hid (has_x h f)
  have hfr := Lib.hid (free_x h)
  have H := Lib.hid h
  obtain ⟨F, h, e⟩ := h
  by_cases hi : inn n f = true
  · obtain ⟨ix, rfl, hi'⟩ := inn_t hi
    rw [hi] at hh
    by_cases hfu : frV n room t < (x.size : Int)
    · have e1 : Hid (apE n room t (ix : Int) x = 9 ∧ apT n room t (ix : Int) x = t) := by
        have : apE n room t (ix : Int) x = 9 := by unfold apE; rw [if_pos hi, if_pos hfu]
        exact ⟨this, by unfold apT; rw [this]; rfl⟩
      have d1 : decide (frV n room t < (x.size : Int)) = true := by simpa using hfu
      clear h e hfu hi
      go_enter Try.func10, Try.ntmps10
      go_wp2_with fail
      refine hh.out.mono ?_
      rintro r w1 ⟨rfl, rfl⟩
      go_wp2_with fail
      refine hfr.out.mono ?_
      rintro r w1 ⟨rfl, q1⟩
      have Q1 := Lib.hid q1
      clear q1
      go_wp2_with fail
      refine bodyPost_ret (results_tmp rfl _ _ _) rfl ?_
      exact ⟨by rw [e1.out.1]; rfl, by rw [e1.out.2]; exact (H.out.q Q1.out).top (Nat.le_trans H.out.sz Q1.out.size) (Nat.le_refl _), Fo.of_q _ Q1.out⟩
    · have e1 : Hid (apE n room t (ix : Int) x = 0 ∧ apT n room t (ix : Int) x = put t ix (t ix ++ x)) := by
        have : apE n room t (ix : Int) x = 0 := by unfold apE; rw [if_pos hi, if_neg hfu]
        exact ⟨this, by unfold apT; rw [this]; rfl⟩
      have d1 : decide (frV n room t < (x.size : Int)) = false := by simpa using hfu
      have hsz : tot (fun j => (F j).t) n + x.size ≤ room := by
        rw [tot_congr (t' := t) n fun j hj => (e j hj).1]
        unfold frV at hfu; omega
      have HE := Lib.hid e
      have HD := Lib.hid h
      have HS := Lib.hid hsz
      have hi3 := Lib.hid hi'
      have j0 : (0 : Int) ≤ (ix : Int) := by omega
      have j1 : (ix : Int) < (n : Int) := by omega
      clear h e hfu hi hsz hi'
      go_enter Try.func10, Try.ntmps10
      go_wp2_with fail
      refine hh.out.mono ?_
      rintro r w1 ⟨rfl, rfl⟩
      go_wp2_with fail
      refine hfr.out.mono ?_
      rintro r w1 ⟨rfl, q1⟩
      have Q1 := Lib.hid q1
      clear q1
      go_wp2_with fail
      obtain ⟨W0, hW0⟩ : ∃ W, w1.drew = W := ⟨_, rfl⟩
      have QW : Hid (Q w W0) := by rw [← hW0]; exact Q1.out.drew
      have D1 := HD.out.q QW.out
      have C0 : ∀ w, w = W0 → w.cell? ⟨g, 0, none⟩ = some (.slice (some ⟨b, 0, none⟩) n n) := fun w e => by rw [e]; exact D1.g0
      have C1 : ∀ w, w = W0 → w.cell? ⟨b, ix * 2, none⟩ = some (.slice (F ix).a (F ix).t.size (F ix).c) := fun w e => by rw [e]; exact D1.b0 hi3.out
      obtain ⟨a', c', w2, hrun, R⟩ := app_run D1 hi3.out x HS.out
      have C2 : ∀ w, w = w2 → w.cell? ⟨g, 0, none⟩ = some (.slice (some ⟨b, 0, none⟩) n n) := fun w e => by rw [e]; exact R.2.2.1
      have g3 := R.2.2.2.1
      have g4 := R.2.2.2.2
      have RR := Lib.hid R
      have HR := Lib.hid hrun
      clear D1 R hrun
      have hS0 : (fun w => w = W0) w1.drew := hW0
      refine region_gen3 ?_
      intro OPS QQ A0 hO hQQ hA
      have hz : A0.tmps.size = 33 := by rw [hA]; rfl
      have hs : sound OPS A0.tmps.size = true := by rw [hz, hO]; kernel_rfl
      have b_0 : A0.eval (.tmp 0) = .pointer (some ⟨g, 0, none⟩) := by rw [hA]; rfl
      have fr_0 : free OPS 0 = true := by rw [hO]; kernel_rfl
      have b_1 : A0.eval (.tmp 1) = .int .i64 ix := by rw [hA]; rfl
      have fr_1 : free OPS 1 = true := by rw [hO]; kernel_rfl
      have b_2 : A0.eval (.tmp 2) = .string x := by rw [hA]; rfl
      have fr_2 : free OPS 2 = true := by rw [hO]; kernel_rfl
      obtain ⟨VV, hVV⟩ : ∃ V : Nat → Value → World → Prop, V = fun i => ([fun v _ => v = .pointer (some ⟨g, 0, none⟩), fun v _ => v = .pointer (some ⟨g, 0, none⟩), fun v _ => v = .pointer (some ⟨g, 0, none⟩), fun v _ => v = .slice (some ⟨b, 0, none⟩) n n, fun v _ => v = .int .i64 ix, fun v _ => v = .pointer (some ⟨g, 0, none⟩), fun v _ => v = .pointer (some ⟨g, 0, none⟩), fun v _ => v = .pointer (some ⟨g, 0, none⟩), fun v _ => v = .slice (some ⟨b, 0, none⟩) n n, fun v _ => v = .int .i64 ix, fun v _ => v = .pointer (some ⟨b, ix * 2, none⟩), fun v _ => v = .pointer (some ⟨b, ix * 2, none⟩), fun v _ => v = .slice (F ix).a (F ix).t.size (F ix).c, fun v _ => v = .string x, fun v w => v = .slice a' ((F ix).t ++ x).size c' ∧ w = w2, fun v _ => v = .pointer (some ⟨b, ix * 2, none⟩), fun v _ => v = .pointer (some ⟨b, ix * 2, none⟩)] : List (Value → World → Prop)).getD i (fun _ _ => True) := ⟨_, rfl⟩
      have v_0 : VV 0 = fun v _ => v = .pointer (some ⟨g, 0, none⟩) := vat hVV 0
      have v_1 : VV 1 = fun v _ => v = .pointer (some ⟨g, 0, none⟩) := vat hVV 1
      have v_2 : VV 2 = fun v _ => v = .pointer (some ⟨g, 0, none⟩) := vat hVV 2
      have v_3 : VV 3 = fun v _ => v = .slice (some ⟨b, 0, none⟩) n n := vat hVV 3
      have v_4 : VV 4 = fun v _ => v = .int .i64 ix := vat hVV 4
      have v_5 : VV 5 = fun v _ => v = .pointer (some ⟨g, 0, none⟩) := vat hVV 5
      have v_6 : VV 6 = fun v _ => v = .pointer (some ⟨g, 0, none⟩) := vat hVV 6
      have v_7 : VV 7 = fun v _ => v = .pointer (some ⟨g, 0, none⟩) := vat hVV 7
      have v_8 : VV 8 = fun v _ => v = .slice (some ⟨b, 0, none⟩) n n := vat hVV 8
      have v_9 : VV 9 = fun v _ => v = .int .i64 ix := vat hVV 9
      have v_10 : VV 10 = fun v _ => v = .pointer (some ⟨b, ix * 2, none⟩) := vat hVV 10
      have v_11 : VV 11 = fun v _ => v = .pointer (some ⟨b, ix * 2, none⟩) := vat hVV 11
      have v_12 : VV 12 = fun v _ => v = .slice (F ix).a (F ix).t.size (F ix).c := vat hVV 12
      have v_13 : VV 13 = fun v _ => v = .string x := vat hVV 13
      have v_14 : VV 14 = fun v w => v = .slice a' ((F ix).t ++ x).size c' ∧ w = w2 := vat hVV 14
      have v_15 : VV 15 = fun v _ => v = .pointer (some ⟨b, ix * 2, none⟩) := vat hVV 15
      have v_16 : VV 16 = fun v _ => v = .pointer (some ⟨b, ix * 2, none⟩) := vat hVV 16
      have hV := stablex_of (T := (fun _ _ => True)) (p := 14) hVV ((sx_cons (fun _ _ _ h _ => h) (sx_cons (fun _ _ _ h _ => h) (sx_cons (fun _ _ _ h _ => h) (sx_cons (fun _ _ _ h _ => h) (sx_cons (fun _ _ _ h _ => h) (sx_cons (fun _ _ _ h _ => h) (sx_cons (fun _ _ _ h _ => h) (sx_cons (fun _ _ _ h _ => h) (sx_cons (fun _ _ _ h _ => h) (sx_cons (fun _ _ _ h _ => h) (sx_cons (fun _ _ _ h _ => h) (sx_cons (fun _ _ _ h _ => h) (sx_cons (fun _ _ _ h _ => h) (sx_cons (fun _ _ _ h _ => h) (sx_skip rfl (sx_cons (fun _ _ _ h _ => h) (sx_cons (fun _ _ _ h _ => h) trivial))))))))))))))))))
      clear hVV
      have i_0 := pget_at hO 0 rfl
      have i_1 := pget_at hO 1 rfl
      have i_2 := pget_at hO 2 rfl
      have i_3 := pget_at hO 3 rfl
      have i_4 := pget_at hO 4 rfl
      have i_5 := pget_at hO 5 rfl
      have i_6 := pget_at hO 6 rfl
      have i_7 := pget_at hO 7 rfl
      have i_8 := pget_at hO 8 rfl
      have i_9 := pget_at hO 9 rfl
      have i_10 := pget_at hO 10 rfl
      have i_11 := pget_at hO 11 rfl
      have i_12 := pget_at hO 12 rfl
      have i_13 := pget_at hO 13 rfl
      have i_14 := pget_at hO 14 rfl
      have i_15 := pget_at hO 15 rfl
      have i_16 := pget_at hO 16 rfl
      have i_17 := pget_at hO 17 rfl
      have s_0 := StepQ.pure (P := Try.prog) (V := VV) (S := (fun w => w = W0)) (a0 := A0) (p := 14) (Qx := QQ) i_0 (.pointer (some ⟨g, 0, none⟩)) (fun l a w hI hl => ⟨wanted_none rfl, ex_move rfl ((hI.base 0 fr_0).trans b_0), at_mk v_0 rfl⟩)
      have s_1 := StepQ.pure (P := Try.prog) (V := VV) (S := (fun w => w = W0)) (a0 := A0) (p := 14) (Qx := QQ) i_1 (.pointer (some ⟨g, 0, none⟩)) (fun l a w hI hl => ⟨wanted_none rfl, (by have e0 : a.eval (.tmp 16) = _ := (at_eq v_0 (hI.at_ 0 16 _ i_0 rfl (hl_at hl 0 rfl rfl))); generalize a.eval = ρ at e0 ⊢; simp [go_sem, e0]), at_mk v_1 rfl⟩)
      have s_2 := StepQ.pure (P := Try.prog) (V := VV) (S := (fun w => w = W0)) (a0 := A0) (p := 14) (Qx := QQ) i_2 (.pointer (some ⟨g, 0, none⟩)) (fun l a w hI hl => ⟨wanted_none rfl, (by have e0 : a.eval (.tmp 17) = _ := (at_eq v_1 (hI.at_ 1 17 _ i_1 rfl (hl_at hl 0 rfl rfl))); generalize a.eval = ρ at e0 ⊢; simp [go_sem, e0]), at_mk v_2 rfl⟩)
      have s_3 := StepQ.pure (P := Try.prog) (V := VV) (S := (fun w => w = W0)) (a0 := A0) (p := 14) (Qx := QQ) i_3 (.slice (some ⟨b, 0, none⟩) n n) (fun l a w hI hl => ⟨wanted_none rfl, (by have e0 : a.eval (.tmp 18) = _ := (at_eq v_2 (hI.at_ 2 18 _ i_2 rfl (hl_at hl 0 rfl rfl))); have x0 := both hI i_14 rfl C0 (fun v w hv => C2 w (at_p v_14 hv).2); generalize a.eval = ρ at e0 ⊢; simp [go_sem, e0, x0]), at_mk v_3 rfl⟩)
      have s_4 := StepQ.pure (P := Try.prog) (V := VV) (S := (fun w => w = W0)) (a0 := A0) (p := 14) (Qx := QQ) i_4 (.int .i64 ix) (fun l a w hI hl => ⟨wanted_none rfl, ex_move rfl ((hI.base 1 fr_1).trans b_1), at_mk v_4 rfl⟩)
      have s_5 := Step2.pure (P := Try.prog) (V := VV) (T := (fun _ _ => True)) (S := (fun w => w = W0)) (a0 := A0) (p := 14) (Qx := QQ) i_5 (by rw [hO]; kernel_rfl) (.pointer (some ⟨g, 0, none⟩)) (fun _ => trivial) (fun l a w hI hl hS => ⟨wanted_none rfl, ex_move rfl ((hI.base 0 fr_0).trans b_0), at_mk v_5 rfl⟩)
      have s_6 := Step2.pure (P := Try.prog) (V := VV) (T := (fun _ _ => True)) (S := (fun w => w = W0)) (a0 := A0) (p := 14) (Qx := QQ) i_6 (by rw [hO]; kernel_rfl) (.pointer (some ⟨g, 0, none⟩)) (fun _ => trivial) (fun l a w hI hl hS => ⟨wanted_none rfl, (by have e0 : a.eval (.tmp 21) = _ := (at_eq v_5 (hI.at_ 5 21 _ i_5 rfl (hl_at hl 0 rfl rfl))); generalize a.eval = ρ at e0 ⊢; simp [go_sem, e0]), at_mk v_6 rfl⟩)
      have s_7 := Step2.pure (P := Try.prog) (V := VV) (T := (fun _ _ => True)) (S := (fun w => w = W0)) (a0 := A0) (p := 14) (Qx := QQ) i_7 (by rw [hO]; kernel_rfl) (.pointer (some ⟨g, 0, none⟩)) (fun _ => trivial) (fun l a w hI hl hS => ⟨wanted_none rfl, (by have e0 : a.eval (.tmp 22) = _ := (at_eq v_6 (hI.at_ 6 22 _ i_6 rfl (hl_at hl 0 rfl rfl))); generalize a.eval = ρ at e0 ⊢; simp [go_sem, e0]), at_mk v_7 rfl⟩)
      have s_8 := Step2.pure (P := Try.prog) (V := VV) (T := (fun _ _ => True)) (S := (fun w => w = W0)) (a0 := A0) (p := 14) (Qx := QQ) i_8 (by rw [hO]; kernel_rfl) (.slice (some ⟨b, 0, none⟩) n n) (fun _ => trivial) (fun l a w hI hl hS => ⟨wanted_none rfl, (by have e0 : a.eval (.tmp 23) = _ := (at_eq v_7 (hI.at_ 7 23 _ i_7 rfl (hl_at hl 0 rfl rfl))); have x0 := C0 w hS; generalize a.eval = ρ at e0 ⊢; simp [go_sem, e0, x0]), at_mk v_8 rfl⟩)
      have s_9 := Step2.pure (P := Try.prog) (V := VV) (T := (fun _ _ => True)) (S := (fun w => w = W0)) (a0 := A0) (p := 14) (Qx := QQ) i_9 (by rw [hO]; kernel_rfl) (.int .i64 ix) (fun _ => trivial) (fun l a w hI hl hS => ⟨wanted_none rfl, ex_move rfl ((hI.base 1 fr_1).trans b_1), at_mk v_9 rfl⟩)
      have s_10 := Step2.pure (P := Try.prog) (V := VV) (T := (fun _ _ => True)) (S := (fun w => w = W0)) (a0 := A0) (p := 14) (Qx := QQ) i_10 (by rw [hO]; kernel_rfl) (.pointer (some ⟨b, ix * 2, none⟩)) (fun _ => trivial) (fun l a w hI hl hS => ⟨wanted_none rfl, (by have e0 : a.eval (.tmp 24) = _ := (at_eq v_8 (hI.at_ 8 24 _ i_8 rfl (hl_at hl 0 rfl rfl))); have e1 : a.eval (.tmp 25) = _ := (at_eq v_9 (hI.at_ 9 25 _ i_9 rfl (hl_at hl 1 rfl rfl))); generalize a.eval = ρ at e0 e1 ⊢; simp [go_sem, e0, e1, j0, j1]), at_mk v_10 rfl⟩)
      have s_11 := Step2.pure (P := Try.prog) (V := VV) (T := (fun _ _ => True)) (S := (fun w => w = W0)) (a0 := A0) (p := 14) (Qx := QQ) i_11 (by rw [hO]; kernel_rfl) (.pointer (some ⟨b, ix * 2, none⟩)) (fun _ => trivial) (fun l a w hI hl hS => ⟨wanted_none rfl, (by have e0 : a.eval (.tmp 26) = _ := (at_eq v_10 (hI.at_ 10 26 _ i_10 rfl (hl_at hl 0 rfl rfl))); generalize a.eval = ρ at e0 ⊢; simp [go_sem, e0]), at_mk v_11 rfl⟩)
      have s_12 := Step2.pure (P := Try.prog) (V := VV) (T := (fun _ _ => True)) (S := (fun w => w = W0)) (a0 := A0) (p := 14) (Qx := QQ) i_12 (by rw [hO]; kernel_rfl) (.slice (F ix).a (F ix).t.size (F ix).c) (fun _ => trivial) (fun l a w hI hl hS => ⟨wanted_none rfl, (by have e0 : a.eval (.tmp 27) = _ := (at_eq v_11 (hI.at_ 11 27 _ i_11 rfl (hl_at hl 0 rfl rfl))); have x0 := C1 w hS; generalize a.eval = ρ at e0 ⊢; simp [go_sem, e0, x0]), at_mk v_12 rfl⟩)
      have s_13 := Step2.pure (P := Try.prog) (V := VV) (T := (fun _ _ => True)) (S := (fun w => w = W0)) (a0 := A0) (p := 14) (Qx := QQ) i_13 (by rw [hO]; kernel_rfl) (.string x) (fun _ => trivial) (fun l a w hI hl hS => ⟨wanted_none rfl, ex_move rfl ((hI.base 2 fr_2).trans b_2), at_mk v_13 rfl⟩)
      have s_14 := StepP.done (P := Try.prog) (V := VV) (T := (fun _ _ => True)) (S := (fun w => w = W0)) (a0 := A0) (p := 14) (Qx := QQ) i_14 (fun l a w hI hl hS => by
        refine ⟨wanted_none rfl, ?_⟩
        have e0 := (at_eq v_12 (hI.at_ 12 28 _ i_12 rfl (hl_at hl 0 rfl rfl)))
        have e1 := (at_eq v_13 (hI.at_ 13 29 _ i_13 rfl (hl_at hl 1 rfl rfl)))
        obtain rfl : w = W0 := hS
        refine wpo_append _ _ _ _ rfl e0 e1 HR.out ?_
        exact ⟨_, rfl, trivial, p_at v_14 ⟨rfl, rfl⟩⟩)
      have s_15 := StepQ.pure (P := Try.prog) (V := VV) (S := (fun w => w = W0)) (a0 := A0) (p := 14) (Qx := QQ) i_15 (.pointer (some ⟨b, ix * 2, none⟩)) (fun l a w hI hl => ⟨wanted_none rfl, (by have e0 : a.eval (.tmp 19) = _ := (at_eq v_3 (hI.at_ 3 19 _ i_3 rfl (hl_at hl 0 rfl rfl))); have e1 : a.eval (.tmp 20) = _ := (at_eq v_4 (hI.at_ 4 20 _ i_4 rfl (hl_at hl 1 rfl rfl))); generalize a.eval = ρ at e0 e1 ⊢; simp [go_sem, e0, e1, j0, j1]), at_mk v_15 rfl⟩)
      have s_16 := StepQ.pure (P := Try.prog) (V := VV) (S := (fun w => w = W0)) (a0 := A0) (p := 14) (Qx := QQ) i_16 (.pointer (some ⟨b, ix * 2, none⟩)) (fun l a w hI hl => ⟨wanted_none rfl, (by have e0 : a.eval (.tmp 31) = _ := (at_eq v_15 (hI.at_ 15 31 _ i_15 rfl (hl_at hl 0 rfl rfl))); generalize a.eval = ρ at e0 ⊢; simp [go_sem, e0]), at_mk v_16 rfl⟩)
      refine wp_plan2 VV ((fun _ _ => True)) (fun w => w = W0) 14 17 (by kernel_rfl) hs (by rw [hO]; rfl) (by rw [hO]; kernel_rfl) hV hS0 (steps2_all hO _ rfl ((sq_cons s_0 (sq_cons s_1 (sq_cons s_2 (sq_cons s_3 (sq_cons s_4 (s2_cons s_5 (s2_cons s_6 (s2_cons s_7 (s2_cons s_8 (s2_cons s_9 (s2_cons s_10 (s2_cons s_11 (s2_cons s_12 (s2_cons s_13 (sp_cons rfl s_14 (sq_cons s_15 (sq_cons s_16 trivial))))))))))))))))))) ?_
      intro l a w hall hln hI
      obtain ⟨e14, hw2⟩ := (at_p v_14 (hI.at_ 14 30 _ i_14 rfl (hall 14 (by decide))))
      subst hw2
      refine fin_of i_17 (wanted_none rfl) ?_
      refine wpo_set 53 _ _ rfl (at_eq v_16 (hI.at_ 16 32 _ i_16 rfl (hall 16 (by decide)))) e14 (by simp [go_sem, g3, g4]) ?_
      rw [hQQ]
      obtain ⟨ts, ds⟩ := a
      have hd : ds = [] := by have := hI.df; rw [hA] at this; exact this
      have hts : ts.size = 33 := by have := hI.sz; rw [hz] at this; exact this
      obtain ⟨tl0, rfl⟩ : ∃ tl : List Value, ts = tl.toArray := ⟨ts.toList, by simp⟩
      have htl0 : tl0.length = 33 := by simpa using hts
      clear hts
      obtain ⟨y0, tl1, et, htl1⟩ := len_succ htl0
      clear htl0
      subst et
      obtain ⟨y1, tl2, et, htl2⟩ := len_succ htl1
      clear htl1
      subst et
      obtain ⟨y2, tl3, et, htl3⟩ := len_succ htl2
      clear htl2
      subst et
      obtain ⟨y3, tl4, et, htl4⟩ := len_succ htl3
      clear htl3
      subst et
      obtain ⟨y4, tl5, et, htl5⟩ := len_succ htl4
      clear htl4
      subst et
      obtain ⟨y5, tl6, et, htl6⟩ := len_succ htl5
      clear htl5
      subst et
      obtain ⟨y6, tl7, et, htl7⟩ := len_succ htl6
      clear htl6
      subst et
      obtain ⟨y7, tl8, et, htl8⟩ := len_succ htl7
      clear htl7
      subst et
      obtain ⟨y8, tl9, et, htl9⟩ := len_succ htl8
      clear htl8
      subst et
      obtain ⟨y9, tl10, et, htl10⟩ := len_succ htl9
      clear htl9
      subst et
      obtain ⟨y10, tl11, et, htl11⟩ := len_succ htl10
      clear htl10
      subst et
      obtain ⟨y11, tl12, et, htl12⟩ := len_succ htl11
      clear htl11
      subst et
      obtain ⟨y12, tl13, et, htl13⟩ := len_succ htl12
      clear htl12
      subst et
      obtain ⟨y13, tl14, et, htl14⟩ := len_succ htl13
      clear htl13
      subst et
      obtain ⟨y14, tl15, et, htl15⟩ := len_succ htl14
      clear htl14
      subst et
      obtain ⟨y15, tl16, et, htl16⟩ := len_succ htl15
      clear htl15
      subst et
      obtain ⟨y16, tl17, et, htl17⟩ := len_succ htl16
      clear htl16
      subst et
      obtain ⟨y17, tl18, et, htl18⟩ := len_succ htl17
      clear htl17
      subst et
      obtain ⟨y18, tl19, et, htl19⟩ := len_succ htl18
      clear htl18
      subst et
      obtain ⟨y19, tl20, et, htl20⟩ := len_succ htl19
      clear htl19
      subst et
      obtain ⟨y20, tl21, et, htl21⟩ := len_succ htl20
      clear htl20
      subst et
      obtain ⟨y21, tl22, et, htl22⟩ := len_succ htl21
      clear htl21
      subst et
      obtain ⟨y22, tl23, et, htl23⟩ := len_succ htl22
      clear htl22
      subst et
      obtain ⟨y23, tl24, et, htl24⟩ := len_succ htl23
      clear htl23
      subst et
      obtain ⟨y24, tl25, et, htl25⟩ := len_succ htl24
      clear htl24
      subst et
      obtain ⟨y25, tl26, et, htl26⟩ := len_succ htl25
      clear htl25
      subst et
      obtain ⟨y26, tl27, et, htl27⟩ := len_succ htl26
      clear htl26
      subst et
      obtain ⟨y27, tl28, et, htl28⟩ := len_succ htl27
      clear htl27
      subst et
      obtain ⟨y28, tl29, et, htl29⟩ := len_succ htl28
      clear htl28
      subst et
      obtain ⟨y29, tl30, et, htl30⟩ := len_succ htl29
      clear htl29
      subst et
      obtain ⟨y30, tl31, et, htl31⟩ := len_succ htl30
      clear htl30
      subst et
      obtain ⟨y31, tl32, et, htl32⟩ := len_succ htl31
      clear htl31
      subst et
      obtain ⟨y32, tl33, et, htl33⟩ := len_succ htl32
      clear htl32
      subst et
      have et := List.eq_nil_of_length_eq_zero htl33
      clear htl33
      subst et
      subst hd 
      clear hI hall hln hV hs hz hA hO hQQ e14 v_0 i_0 s_0 v_1 i_1 s_1 v_2 i_2 s_2 v_3 i_3 s_3 v_4 i_4 s_4 v_5 i_5 s_5 v_6 i_6 s_6 v_7 i_7 s_7 v_8 i_8 s_8 v_9 i_9 s_9 v_10 i_10 s_10 v_11 i_11 s_11 v_12 i_12 s_12 v_13 i_13 s_13 v_14 i_14 s_14 v_15 i_15 s_15 v_16 i_16 s_16
      go_wp2_with fail
      refine bodyPost_ret (results_tmp rfl _ _ _) rfl ?_
      have RR1 := RR.out.1
      have RR2 := RR.out.2.1
      rw [ByteArray.size_append] at RR1 RR2
      refine ⟨by rw [e1.out.1]; rfl, ⟨_, (RR1.top (by simp) (Nat.le_refl _)), fun j hj => ?_⟩, (Fo.of_q _ QW.out).trans (RR2.mono fun k hk => ?_)⟩
      · rw [e1.out.2]
        by_cases e : j = ix
        · subst e; rw [put_same, put_same]; exact ⟨by rw [(HE.out j hj).1], (HE.out j hj).2⟩
        · rw [put_other F _ e, put_other t _ e]; exact HE.out j hj
      · rcases hk with hk | ⟨hk1, hk2, hk3⟩
        · exact .inl hk
        · refine .inr ⟨hk1, hk2, ?_⟩
          obtain ⟨cur, hc⟩ := hk3
          have hz1 := HD.out.sz
          exact ⟨cur, by rw [← QW.out.block k (by omega)]; exact hc⟩
  · have hi2 : inn n f = false := by simpa using hi
    have e1 : Hid (apE n room t f x = 1 ∧ apT n room t f x = t) := by
      have : apE n room t f x = 1 := by unfold apE; rw [hi2]; rfl
      exact ⟨this, by unfold apT; rw [this]; rfl⟩
    rw [hi2] at hh
    clear h hi hi2 e
    go_enter Try.func10, Try.ntmps10
    go_wp2_with fail
    refine hh.out.mono ?_
    rintro r w1 ⟨rfl, rfl⟩
    go_wp2_with fail
    refine bodyPost_ret (results_tmp rfl _ _ _) rfl ?_
    exact ⟨by rw [e1.out.1]; rfl, by rw [e1.out.2]; exact H.out.top H.out.sz (Nat.le_refl _), Fo.of_q _ (Q.refl _)⟩
end
end Go.Proofs.Ytnojglfaijhiaaa.Dk
