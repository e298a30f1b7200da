/-
  Layer 13: the program's Cut, Swap.
-/
import Derived.Test.YtnojglfaijhiaaaDk6
import Derived.BigRegion
namespace Go.Proofs.Ytnojglfaijhiaaa.Dk
open Go.RowKit
open Mem Plan
set_option linter.unusedVariables false
set_option linter.unusedSimpArgs false

/-- A guarded load of a whole row's element. -/
theorem ld_rowg {P : Program} {ops : Array Oper} {rest : List Oper} {op : Oper} {a : Act} {w : World} {Q : Exit → Act → World → Prop} (hgd : Region.wanted op (yielded ops a.tmps) = true) (ty : TypeId) (x : Operand) (ho : op.op = .load ty x)
    (b off : Nat) (cs : List Value) (hx : a.eval x = .pointer (some ⟨b, off, none⟩)) (hc : ∀ j v, cs[j]? = some v → w.cell? ⟨b, off + j, none⟩ = some v) {d : TypeDesc} (hu : P.underlying ty = some d) (hd : d.isRow = true) (hi : (P.info? ty).map (·.size) = some cs.length)
    (h : wpList P ops Q rest (a.put op.dst (.agg cs.toArray)) w) : wpList P ops Q (op :: rest) a w :=
  wpList_step fun K hK => by
    rw [if_pos hgd]
    unfold Oper.wp
    rw [ex_loado ty ho b off cs d hx hc hu hd hi, Oper.upon_value]
    exact hK _ _ h
section
variable {w : World} {B T g b n room : Nat} {F : Nat → FL} {t : Nat → ByteArray} {s : Nat → Nat}
theorem own_row (h : w.ownsRow B 55 2 (.slice (some ⟨b, 0, none⟩) n n) n (rc FL.cells F n)) {i : Nat} (hi : i < n) (x : FL) :
    (w.setCells b (i * 2) x.cells).ownsRow B 55 2 (.slice (some ⟨b, 0, none⟩) n n) n (rc FL.cells (put F i x) n) ∧ Ch b w (w.setCells b (i * 2) x.cells) := by
  obtain ⟨h1, h2⟩ := World.ownsRow.stored h (i * 2) (.slice x.a x.t.size x.c)
  obtain ⟨h3, h4⟩ := World.ownsRow.stored h1 (i * 2 + 1) (.int .i64 x.s)
  refine ⟨?_, Ch.trans h2 h4⟩
  rw [show i * 2 = i * 2 + 0 from rfl, rc_put (k := 2) fl_len i 0 ⟨x.a, x.c, x.t, (F i).s⟩ (.slice x.a x.t.size x.c) rfl (by decide) n hi, ← show i * 2 = i * 2 + 0 from rfl,
    rc_put (k := 2) fl_len i 1 x (.int .i64 x.s) (by rw [put_same]; rfl) (by decide) n hi] at h3
  have e : put (put F i ⟨x.a, x.c, x.t, (F i).s⟩) i x = put F i x := by funext j; unfold put; split <;> rfl
  rw [e] at h3
  exact h3
theorem own_there (h : w.ownsRow B 55 2 (.slice (some ⟨b, 0, none⟩) n n) n (rc FL.cells F n)) {i : Nat} (hi : i < n) : w.there b (i * 2) 2 := fun j hj => by
  refine ⟨?_, World.ownsRow.frozenAt h _⟩
  rw [World.ownsRow.cellAt h _ (by omega)]
  rw [List.getElem?_eq_getElem (by rw [rc_len (k := 2) fl_len]; omega)]
  rfl
theorem DK0.there (h : DK0 w B T g b n F room) {i : Nat} (hi : i < n) : w.there b (i * 2) 2 := own_there h.f hi
theorem tot_swap {t : Nat → ByteArray} {x y : Nat} (hx : x < n) (hy : y < n) : tot (put (put t x (t y)) y (t x)) n = tot t n := by
  have h1 := tot_put (t := put t x (t y)) (i := y) (t x) hy
  have h2 := tot_put (t := t) (i := x) (t y) hx
  have h3 : put t x (t y) y = t y := by unfold put; split <;> rfl
  rw [h3] at h1
  omega
/-- Two files have each other's bytes. -/
theorem DK0.swapped (h : DK0 w B T g b n F room) {x y : Nat} (hx : x < n) (hy : y < n) :
    DK0 ((w.setCells b (x * 2) (F y).cells).setCells b (y * 2) (F x).cells) B T g b n (put (put F x (F y)) y (F x)) room ∧ Ch b w ((w.setCells b (x * 2) (F y).cells).setCells b (y * 2) (F x).cells) := by
  obtain ⟨h1, h2⟩ := own_row h.f hx (F y)
  obtain ⟨h3, h4⟩ := own_row h1 hy (F x)
  have h5 := Ch.trans h2 h4
  have hty := own_ty h.f (k := b) rfl
  have ne : ∀ k e, Ty w k e → e ≠ 55 → some k ≠ some b := fun k e hk he e2 => by injection e2 with e2; subst e2; exact he (hk.one hty)
  have P : ∀ j, put (put F x (F y)) y (F x) j = F (if j = y then x else if j = x then y else j) := fun j => by
    unfold put
    by_cases e1 : j = y
    · rw [if_pos e1, if_pos e1]
    · rw [if_neg e1, if_neg e1]
      by_cases e2 : j = x
      · rw [if_pos e2, if_pos e2]
      · rw [if_neg e2, if_neg e2]
  have L : ∀ j, j < n → (if j = y then x else if j = x then y else j) < n := fun j hj => by
    split
    · exact hx
    · split
      · exact hy
      · exact hj
  refine ⟨⟨own_keep h.d fun k hk => h5.block k (World.ownsRow.lt h.d k hk).2 (ne k _ (own_ty h.d hk) (by decide)), h3, ?_, ?_, h.gT, h.bT, ?_, Nat.le_trans h.sz h5.size, ?_, ?_, h.hr, h.hn, h.n1⟩, h5⟩
  · intro j hj
    rw [P]
    exact own_keep (h.r _ (L j hj)) fun k hk => h5.block k (World.ownsRow.lt (h.r _ (L j hj)) k hk).2 (ne k _ (own_ty (h.r _ (L j hj)) hk) (by decide))
  · intro j m hj hm hne k hk
    rw [P] at hk ⊢
    refine h.ap _ _ (L j hj) (L m hm) (fun e => hne ?_) k hk
    by_cases a1 : j = y <;> by_cases a2 : m = y <;> by_cases a3 : j = x <;> by_cases a4 : m = x <;> simp_all
  · intro j hj k hk
    rw [P] at hk
    exact h.rT _ (L j hj) k hk
  · intro j hj
    rw [P]
    exact h.sure _ (L j hj)
  · have e : (fun j => (put (put F x (F y)) y (F x) j).t) = put (put (fun j => (F j).t) x (F y).t) y (F x).t := by
      funext j
      unfold put
      split
      · rfl
      · split <;> rfl
    rw [e, tot_swap (t := fun j => (F j).t) hx hy]
    exact h.sum
set_option maxHeartbeats 8000000 in
set_option maxRecDepth 100000 in
theorem cut_x (h : DK w B T g b n t s room) (f m : Int) : Calls Try.prog 20 #[.pointer (some ⟨g, 0, none⟩), .int .i64 f, .int .i64 m] w fun r w' =>
    r = .returned (.int .i64 (cuE n t f m)) ∧ DK w' B w'.heap.size g b n (cuT n t f m) (cuS n t s f m) room ∧ Ch b w w' := by
  have hh := Lib.hid (has_x h f)
  have H := Lib.hid h
  obtain ⟨F, h, e⟩ := h
  by_cases hi : inn n f = true
  · obtain ⟨ix, rfl, hi'⟩ := inn_t hi
    rw [hi] at hh
    have c0 := h.g0
    have c1 := h.b0 hi'
    have j0 : (0 : Int) ≤ (ix : Int) := by omega
    have j1 : (ix : Int) < (n : Int) := by omega
    have et := (e ix hi').1
    by_cases hm0 : m < 0
    · have e1 : Hid (cuE n t (ix : Int) m = 1 ∧ cuT n t (ix : Int) m = t ∧ cuS n t s (ix : Int) m = s) := by
        have : cuE n t (ix : Int) m = 1 := by unfold cuE; rw [if_pos hi, if_pos (.inl hm0)]
        exact ⟨this, by unfold cuT; rw [this]; rfl, by unfold cuS; rw [this]; rfl⟩
      have d1 : decide (m < 0) = true := by simpa using hm0
      clear h e hm0 hi
      go_enter Try.func20, Try.ntmps20
      go_wp2_with fail
      refine hh.out.mono ?_
      rintro r w1 ⟨rfl, rfl⟩
      go_wp2_with fail
      refine bodyPost_ret (results_tmp rfl _ _ _) rfl ?_
      exact ⟨by rw [e1.out.1]; rfl, by rw [e1.out.2.1, e1.out.2.2]; exact H.out.top H.out.sz (Nat.le_refl _), Ch.refl _ _⟩
    · have d1 : decide (m < 0) = false := by simpa using hm0
      obtain ⟨mm, rfl⟩ : ∃ mm : Nat, m = (mm : Int) := ⟨m.toNat, by omega⟩
      clear hm0
      by_cases hm : (F ix).t.size < mm
      · have e1 : Hid (cuE n t (ix : Int) (mm : Int) = 1 ∧ cuT n t (ix : Int) (mm : Int) = t ∧ cuS n t s (ix : Int) (mm : Int) = s) := by
          have : cuE n t (ix : Int) (mm : Int) = 1 := by unfold cuE; rw [if_pos hi, if_pos (.inr (by rw [Int.toNat_natCast, ← et]; omega))]
          exact ⟨this, by unfold cuT; rw [this]; rfl, by unfold cuS; rw [this]; rfl⟩
        have d2 : decide ((F ix).t.size < mm) = true := by simpa using hm
        clear h e hi et
        go_enter Try.func20, Try.ntmps20
        go_wp2_with fail
        refine hh.out.mono ?_
        rintro r w1 ⟨rfl, rfl⟩
        go_wp2_with fail
        refine bodyPost_ret (results_tmp rfl _ _ _) rfl ?_
        exact ⟨by rw [e1.out.1]; rfl, by rw [e1.out.2.1, e1.out.2.2]; exact H.out.top H.out.sz (Nat.le_refl _), Ch.refl _ _⟩
      have e1 : Hid (cuE n t (ix : Int) (mm : Int) = 0 ∧ cuT n t (ix : Int) (mm : Int) = put t ix ((t ix).extract 0 mm) ∧ cuS n t s (ix : Int) (mm : Int) = put s ix mm) := by
        have : cuE n t (ix : Int) (mm : Int) = 0 := by unfold cuE; rw [if_pos hi, if_neg (by rw [Int.toNat_natCast, ← et]; omega)]
        exact ⟨this, by unfold cuT; rw [this]; rfl, by unfold cuS; rw [this]; rfl⟩
      have d2 : decide ((F ix).t.size < mm) = false := by simpa using hm
      have HE := Lib.hid e
      obtain ⟨W0, hW0⟩ : ∃ W, w.drew = W := ⟨_, rfl⟩
      have QW : Hid (Q w W0) := by rw [← hW0]; exact (Q.refl w).drew
      have HD := Lib.hid (h.q QW.out)
      have hm : Hid (mm ≤ (F ix).t.size) := Nat.le_of_not_lt hm
      have hi3 := Lib.hid hi'
      clear h e hi hi' H et
      have C0 : ∀ w, Q W0 w → w.cell? ⟨g, 0, none⟩ = some (.slice (some ⟨b, 0, none⟩) n n) := fun w q => (HD.out.q q).g0
      have RW : Hid (∀ w, Q W0 w → w.rangeAt b (ix * 2) [.slice (F ix).a (F ix).t.size (F ix).c, .int .i64 (F ix).s]) := fun w q j v hv => (HD.out.q q).row hi3.out j v hv
      have FX : Hid (∀ w, Q W0 w → Calls Try.prog 23 #[.agg #[.slice (F ix).a (F ix).t.size (F ix).c, .int .i64 (F ix).s], .int .i64 mm] w fun r w' =>
        ∃ g, r = .returned (.agg #[.slice (some ⟨g, 0, none⟩) mm mm, .int .i64 mm]) ∧ w.heap.size ≤ g ∧ w'.ownsRow w.heap.size 5 1 (.slice (some ⟨g, 0, none⟩) mm mm) mm (Lib.strCells ((F ix).t.extract 0 mm)) ∧ Q w w') := fun w q => first_x (F ix) mm ((HD.out.q q).r ix hi3.out) hm.out (Nat.le_trans hm.out (Nat.le_trans (tot_at (t := fun j => (F j).t) hi3.out) (Nat.le_trans HD.out.sum HD.out.hr)))
      have THR : Hid (∀ w, Q W0 w → w.there b (ix * 2) 2) := fun w q j hj => by
        have hb := (HD.out.q q)
        have : j = 0 ∨ j = 1 := by omega
        rcases this with rfl | rfl
        · exact ⟨by rw [Nat.add_zero, hb.b0 hi3.out]; rfl, hb.fz _⟩
        · exact ⟨by rw [hb.b1 hi3.out]; rfl, hb.fz _⟩
      have PUT : Hid (∀ w g', Q W0 w → W0.heap.size ≤ g' → w.ownsRow W0.heap.size 5 1 (.slice (some ⟨g', 0, none⟩) mm mm) mm (Lib.strCells ((F ix).t.extract 0 mm)) →
          DK0 (w.setCells b (ix * 2) [.slice (some ⟨g', 0, none⟩) mm mm, .int .i64 mm]) B w.heap.size g b n (put F ix ⟨some ⟨g', 0, none⟩, mm, (F ix).t.extract 0 mm, mm⟩) room ∧ Ch b w (w.setCells b (ix * 2) [.slice (some ⟨g', 0, none⟩) mm mm, .int .i64 mm])) := fun w g' q k1 k2 => by
        have hb := (HD.out.q q)
        have hsz := size_extract0 (F ix).t mm hm.out
        have hT := HD.out.sz
        have hB := HD.out.b_lt
        have hlt := (World.ownsRow.lt k2 g' rfl).2
        have hmm := hm.out
        have := hb.set_row (T' := w.heap.size) hi3.out ⟨some ⟨g', 0, none⟩, mm, (F ix).t.extract 0 mm, mm⟩ hb.sz (Nat.le_refl _) (by show w.ownsRow B _ 1 (.slice _ ((F ix).t.extract 0 mm).size _) ((F ix).t.extract 0 mm).size _; rw [hsz]; exact own_up k2 (by omega)) (fun k hk => by injection hk with hk; subst hk; exact ⟨.inr (by show T ≤ g'; omega), hlt⟩)
          (by show mm ≤ ((F ix).t.extract 0 mm).size; omega) (by show _ + ((F ix).t.extract 0 mm).size ≤ _; have := hb.sum; omega)
        unfold FL.cells at this
        dsimp only at this
        rw [hsz] at this
        exact this
      go_enter Try.func20, Try.ntmps20
      go_wp2_with fail
      refine hh.out.mono ?_
      rintro r w1 ⟨rfl, rfl⟩
      go_wp2_with fail
      have hS0 : Q W0 w.drew := by rw [hW0]; exact Q.refl _
      clear c0 c1 d1 d2
      refine region_gen3 ?_
      intro OPS QQ A0 hO hQQ hA
      have hz : A0.tmps.size = 43 := by rw [hA]; rfl
      have hs : sound OPS A0.tmps.size = true := by rw [hz, hO]; kernel_rfl
      have b_0 : A0.eval (.tmp 0) = .pointer (some ⟨g, 0, none⟩) := by rw [hA]; rfl
      have fr_0 : free OPS 0 = true := by rw [hO]; kernel_rfl
      have b_1 : A0.eval (.tmp 1) = .int .i64 ix := by rw [hA]; rfl
      have fr_1 : free OPS 1 = true := by rw [hO]; kernel_rfl
      have b_2 : A0.eval (.tmp 2) = .int .i64 mm := by rw [hA]; rfl
      have fr_2 : free OPS 2 = true := by rw [hO]; kernel_rfl
      obtain ⟨VV, hVV⟩ : ∃ V : Nat → Value → World → Prop, V = fun i => ([fun v _ => v = .pointer (some ⟨g, 0, none⟩), fun v _ => v = .pointer (some ⟨g, 0, none⟩), fun v _ => v = .pointer (some ⟨g, 0, none⟩), fun v _ => v = .slice (some ⟨b, 0, none⟩) n n, fun v _ => v = .int .i64 ix, fun v _ => v = .pointer (some ⟨g, 0, none⟩), fun v _ => v = .pointer (some ⟨g, 0, none⟩), fun v _ => v = .pointer (some ⟨g, 0, none⟩), fun v _ => v = .slice (some ⟨b, 0, none⟩) n n, fun v _ => v = .int .i64 ix, fun v _ => v = .pointer (some ⟨b, ix * 2, none⟩), fun v _ => v = .agg #[.slice (F ix).a (F ix).t.size (F ix).c, .int .i64 (F ix).s], fun v _ => v = .int .i64 mm, fun v w' => ∃ g', v = .agg #[.slice (some ⟨g', 0, none⟩) mm mm, .int .i64 mm] ∧ W0.heap.size ≤ g' ∧ w'.ownsRow W0.heap.size 5 1 (.slice (some ⟨g', 0, none⟩) mm mm) mm (Lib.strCells ((F ix).t.extract 0 mm)), fun v _ => v = .pointer (some ⟨b, ix * 2, none⟩)] : List (Value → World → Prop)).getD i (fun _ _ => True) := ⟨_, rfl⟩
      have v_0 : VV 0 = fun v _ => v = .pointer (some ⟨g, 0, none⟩) := vat hVV 0
      have v_1 : VV 1 = fun v _ => v = .pointer (some ⟨g, 0, none⟩) := vat hVV 1
      have v_2 : VV 2 = fun v _ => v = .pointer (some ⟨g, 0, none⟩) := vat hVV 2
      have v_3 : VV 3 = fun v _ => v = .slice (some ⟨b, 0, none⟩) n n := vat hVV 3
      have v_4 : VV 4 = fun v _ => v = .int .i64 ix := vat hVV 4
      have v_5 : VV 5 = fun v _ => v = .pointer (some ⟨g, 0, none⟩) := vat hVV 5
      have v_6 : VV 6 = fun v _ => v = .pointer (some ⟨g, 0, none⟩) := vat hVV 6
      have v_7 : VV 7 = fun v _ => v = .pointer (some ⟨g, 0, none⟩) := vat hVV 7
      have v_8 : VV 8 = fun v _ => v = .slice (some ⟨b, 0, none⟩) n n := vat hVV 8
      have v_9 : VV 9 = fun v _ => v = .int .i64 ix := vat hVV 9
      have v_10 : VV 10 = fun v _ => v = .pointer (some ⟨b, ix * 2, none⟩) := vat hVV 10
      have v_11 : VV 11 = fun v _ => v = .agg #[.slice (F ix).a (F ix).t.size (F ix).c, .int .i64 (F ix).s] := vat hVV 11
      have v_12 : VV 12 = fun v _ => v = .int .i64 mm := vat hVV 12
      have v_13 : VV 13 = fun v w' => ∃ g', v = .agg #[.slice (some ⟨g', 0, none⟩) mm mm, .int .i64 mm] ∧ W0.heap.size ≤ g' ∧ w'.ownsRow W0.heap.size 5 1 (.slice (some ⟨g', 0, none⟩) mm mm) mm (Lib.strCells ((F ix).t.extract 0 mm)) := vat hVV 13
      have v_14 : VV 14 = fun v _ => v = .pointer (some ⟨b, ix * 2, none⟩) := vat hVV 14
      have hV := stablex_of (T := Q) (p := 15) hVV ((sx_cons (fun _ _ _ h _ => h) (sx_cons (fun _ _ _ h _ => h) (sx_cons (fun _ _ _ h _ => h) (sx_cons (fun _ _ _ h _ => h) (sx_cons (fun _ _ _ h _ => h) (sx_cons (fun _ _ _ h _ => h) (sx_cons (fun _ _ _ h _ => h) (sx_cons (fun _ _ _ h _ => h) (sx_cons (fun _ _ _ h _ => h) (sx_cons (fun _ _ _ h _ => h) (sx_cons (fun _ _ _ h _ => h) (sx_cons (fun _ _ _ h _ => h) (sx_cons (fun _ _ _ h _ => h) (sx_cons (fun v w w' h q => by obtain ⟨g', e1, e2, e3⟩ := h; exact ⟨g', e1, e2, own_keep e3 fun k hk => q.block k (World.ownsRow.lt e3 k hk).2⟩) (sx_cons (fun _ _ _ h _ => h) trivial))))))))))))))))
      clear hVV
      have i_0 := pget_at hO 0 rfl
      have i_1 := pget_at hO 1 rfl
      have i_2 := pget_at hO 2 rfl
      have i_3 := pget_at hO 3 rfl
      have i_4 := pget_at hO 4 rfl
      have i_5 := pget_at hO 5 rfl
      have i_6 := pget_at hO 6 rfl
      have i_7 := pget_at hO 7 rfl
      have i_8 := pget_at hO 8 rfl
      have i_9 := pget_at hO 9 rfl
      have i_10 := pget_at hO 10 rfl
      have i_11 := pget_at hO 11 rfl
      have i_12 := pget_at hO 12 rfl
      have i_13 := pget_at hO 13 rfl
      have i_14 := pget_at hO 14 rfl
      have i_15 := pget_at hO 15 rfl
      have s_0 := Step2.pure (P := Try.prog) (V := VV) (T := Q) (S := (Q W0)) (a0 := A0) (p := 15) (Qx := QQ) i_0 (by rw [hO]; kernel_rfl) (.pointer (some ⟨g, 0, none⟩)) (Q.refl ·) (fun l a w hI hl hS => ⟨wanted_none rfl, ex_move rfl ((hI.base 0 fr_0).trans b_0), at_mk v_0 rfl⟩)
      have s_1 := Step2.pure (P := Try.prog) (V := VV) (T := Q) (S := (Q W0)) (a0 := A0) (p := 15) (Qx := QQ) i_1 (by rw [hO]; kernel_rfl) (.pointer (some ⟨g, 0, none⟩)) (Q.refl ·) (fun l a w hI hl hS => ⟨wanted_none rfl, (by have e0 : a.eval (.tmp 28) = _ := (at_eq v_0 (hI.at_ 0 28 _ i_0 rfl (hl_at hl 0 rfl rfl))); generalize a.eval = ρ at e0 ⊢; simp [go_sem, e0]), at_mk v_1 rfl⟩)
      have s_2 := Step2.pure (P := Try.prog) (V := VV) (T := Q) (S := (Q W0)) (a0 := A0) (p := 15) (Qx := QQ) i_2 (by rw [hO]; kernel_rfl) (.pointer (some ⟨g, 0, none⟩)) (Q.refl ·) (fun l a w hI hl hS => ⟨wanted_none rfl, (by have e0 : a.eval (.tmp 29) = _ := (at_eq v_1 (hI.at_ 1 29 _ i_1 rfl (hl_at hl 0 rfl rfl))); generalize a.eval = ρ at e0 ⊢; simp [go_sem, e0]), at_mk v_2 rfl⟩)
      have s_3 := Step2.pure (P := Try.prog) (V := VV) (T := Q) (S := (Q W0)) (a0 := A0) (p := 15) (Qx := QQ) i_3 (by rw [hO]; kernel_rfl) (.slice (some ⟨b, 0, none⟩) n n) (Q.refl ·) (fun l a w hI hl hS => ⟨wanted_none rfl, (by have e0 : a.eval (.tmp 30) = _ := (at_eq v_2 (hI.at_ 2 30 _ i_2 rfl (hl_at hl 0 rfl rfl))); have x0 := C0 w hS; generalize a.eval = ρ at e0 ⊢; simp [go_sem, e0, x0]), at_mk v_3 rfl⟩)
      have s_4 := Step2.pure (P := Try.prog) (V := VV) (T := Q) (S := (Q W0)) (a0 := A0) (p := 15) (Qx := QQ) i_4 (by rw [hO]; kernel_rfl) (.int .i64 ix) (Q.refl ·) (fun l a w hI hl hS => ⟨wanted_none rfl, ex_move rfl ((hI.base 1 fr_1).trans b_1), at_mk v_4 rfl⟩)
      have s_5 := Step2.pure (P := Try.prog) (V := VV) (T := Q) (S := (Q W0)) (a0 := A0) (p := 15) (Qx := QQ) i_5 (by rw [hO]; kernel_rfl) (.pointer (some ⟨g, 0, none⟩)) (Q.refl ·) (fun l a w hI hl hS => ⟨wanted_none rfl, ex_move rfl ((hI.base 0 fr_0).trans b_0), at_mk v_5 rfl⟩)
      have s_6 := Step2.pure (P := Try.prog) (V := VV) (T := Q) (S := (Q W0)) (a0 := A0) (p := 15) (Qx := QQ) i_6 (by rw [hO]; kernel_rfl) (.pointer (some ⟨g, 0, none⟩)) (Q.refl ·) (fun l a w hI hl hS => ⟨wanted_none rfl, (by have e0 : a.eval (.tmp 33) = _ := (at_eq v_5 (hI.at_ 5 33 _ i_5 rfl (hl_at hl 0 rfl rfl))); generalize a.eval = ρ at e0 ⊢; simp [go_sem, e0]), at_mk v_6 rfl⟩)
      have s_7 := Step2.pure (P := Try.prog) (V := VV) (T := Q) (S := (Q W0)) (a0 := A0) (p := 15) (Qx := QQ) i_7 (by rw [hO]; kernel_rfl) (.pointer (some ⟨g, 0, none⟩)) (Q.refl ·) (fun l a w hI hl hS => ⟨wanted_none rfl, (by have e0 : a.eval (.tmp 34) = _ := (at_eq v_6 (hI.at_ 6 34 _ i_6 rfl (hl_at hl 0 rfl rfl))); generalize a.eval = ρ at e0 ⊢; simp [go_sem, e0]), at_mk v_7 rfl⟩)
      have s_8 := Step2.pure (P := Try.prog) (V := VV) (T := Q) (S := (Q W0)) (a0 := A0) (p := 15) (Qx := QQ) i_8 (by rw [hO]; kernel_rfl) (.slice (some ⟨b, 0, none⟩) n n) (Q.refl ·) (fun l a w hI hl hS => ⟨wanted_none rfl, (by have e0 : a.eval (.tmp 35) = _ := (at_eq v_7 (hI.at_ 7 35 _ i_7 rfl (hl_at hl 0 rfl rfl))); have x0 := C0 w hS; generalize a.eval = ρ at e0 ⊢; simp [go_sem, e0, x0]), at_mk v_8 rfl⟩)
      have s_9 := Step2.pure (P := Try.prog) (V := VV) (T := Q) (S := (Q W0)) (a0 := A0) (p := 15) (Qx := QQ) i_9 (by rw [hO]; kernel_rfl) (.int .i64 ix) (Q.refl ·) (fun l a w hI hl hS => ⟨wanted_none rfl, ex_move rfl ((hI.base 1 fr_1).trans b_1), at_mk v_9 rfl⟩)
      have s_10 := Step2.pure (P := Try.prog) (V := VV) (T := Q) (S := (Q W0)) (a0 := A0) (p := 15) (Qx := QQ) i_10 (by rw [hO]; kernel_rfl) (.pointer (some ⟨b, ix * 2, none⟩)) (Q.refl ·) (fun l a w hI hl hS => ⟨wanted_none rfl, (by have e0 : a.eval (.tmp 36) = _ := (at_eq v_8 (hI.at_ 8 36 _ i_8 rfl (hl_at hl 0 rfl rfl))); have e1 : a.eval (.tmp 37) = _ := (at_eq v_9 (hI.at_ 9 37 _ i_9 rfl (hl_at hl 1 rfl rfl))); generalize a.eval = ρ at e0 e1 ⊢; simp [go_sem, e0, e1, j0, j1]), at_mk v_10 rfl⟩)
      have s_11 := Step2.pure (P := Try.prog) (V := VV) (T := Q) (S := (Q W0)) (a0 := A0) (p := 15) (Qx := QQ) i_11 (by rw [hO]; kernel_rfl) (.agg #[.slice (F ix).a (F ix).t.size (F ix).c, .int .i64 (F ix).s]) (Q.refl ·) (fun l a w hI hl hS => ⟨wanted_none rfl, ex_loado 55 rfl b (ix * 2) [.slice (F ix).a (F ix).t.size (F ix).c, .int .i64 (F ix).s] _ (at_eq v_10 (hI.at_ 10 38 _ i_10 rfl (hl_at hl 0 rfl rfl))) (RW.out w hS) Try.underlying55 rfl (by kernel_rfl), at_mk v_11 rfl⟩)
      have s_12 := Step2.pure (P := Try.prog) (V := VV) (T := Q) (S := (Q W0)) (a0 := A0) (p := 15) (Qx := QQ) i_12 (by rw [hO]; kernel_rfl) (.int .i64 mm) (Q.refl ·) (fun l a w hI hl hS => ⟨wanted_none rfl, ex_move rfl ((hI.base 2 fr_2).trans b_2), at_mk v_12 rfl⟩)
      have s_13 := Step2.done (P := Try.prog) (V := VV) (T := Q) (S := (Q W0)) (a0 := A0) (p := 15) (Qx := QQ) i_13 (by rw [hO]; kernel_rfl) (fun l a w hI hl hS => by
        refine ⟨wanted_none rfl, ?_⟩
        refine wp_enter (f := 23) (args := #[.agg #[.slice (F ix).a (F ix).t.size (F ix).c, .int .i64 (F ix).s], .int .i64 mm]) ?_ ?_
        · exact ex_call rfl (by simp only [List.map_toArray, List.map_cons, List.map_nil, (show a.eval (.tmp 39) = _ from (at_eq v_11 (hI.at_ 11 39 _ i_11 rfl (hl_at hl 0 rfl rfl)))), (show a.eval (.tmp 40) = _ from (at_eq v_12 (hI.at_ 12 40 _ i_12 rfl (hl_at hl 1 rfl rfl))))]) Try.func23 (by kernel_rfl) (by kernel_rfl)
        · refine (FX.out w hS).mono fun e w' hc => ?_
          obtain ⟨g', rfl, k1, k2, hq⟩ := hc
          exact ⟨_, rfl, hq, hS.trans hq, p_at v_13 ⟨g', rfl, Nat.le_trans hS.size k1, own_up k2 hS.size⟩⟩)
      have s_14 := Step2.pure (P := Try.prog) (V := VV) (T := Q) (S := (Q W0)) (a0 := A0) (p := 15) (Qx := QQ) i_14 (by rw [hO]; kernel_rfl) (.pointer (some ⟨b, ix * 2, none⟩)) (Q.refl ·) (fun l a w hI hl hS => ⟨wanted_none rfl, (by have e0 : a.eval (.tmp 31) = _ := (at_eq v_3 (hI.at_ 3 31 _ i_3 rfl (hl_at hl 0 rfl rfl))); have e1 : a.eval (.tmp 32) = _ := (at_eq v_4 (hI.at_ 4 32 _ i_4 rfl (hl_at hl 1 rfl rfl))); generalize a.eval = ρ at e0 e1 ⊢; simp [go_sem, e0, e1, j0, j1]), at_mk v_14 rfl⟩)
      refine wp_plan2 VV (Q) (Q W0) 15 15 (by kernel_rfl) hs (by rw [hO]; rfl) (by rw [hO]; kernel_rfl) hV hS0 (steps2_all hO _ rfl ((s2_cons s_0 (s2_cons s_1 (s2_cons s_2 (s2_cons s_3 (s2_cons s_4 (s2_cons s_5 (s2_cons s_6 (s2_cons s_7 (s2_cons s_8 (s2_cons s_9 (s2_cons s_10 (s2_cons s_11 (s2_cons s_12 (s2_cons s_13 (s2_cons s_14 trivial))))))))))))))))) ?_
      intro l a w hall hln hI
      have hS := hI.st hln
      obtain ⟨g', e13, k1, k2⟩ := (at_p v_13 (hI.at_ 13 41 _ i_13 rfl (hall 13 (by decide))))
      refine fin_of i_15 (wanted_none rfl) ?_
      obtain ⟨R1, R2⟩ := PUT.out w g' hS k1 k2
      refine wp_store_mid 55 _ _ rfl b (ix * 2) #[.slice (some ⟨g', 0, none⟩) mm mm, .int .i64 mm] (at_eq v_14 (hI.at_ 14 42 _ i_14 rfl (hall 14 (by decide)))) e13 (THR.out w hS) (by kernel_rfl) (all_oneCell_toArray (one2 rfl rfl)) ?_
      rw [hQQ]
      have RR := Lib.hid R1
      have RC := Lib.hid (((Ch.of_q QW.out b).trans (Ch.of_q hS b)).trans R2)
      clear R1 R2 k1 k2
      obtain ⟨ts, ds⟩ := a
      have hd : ds = [] := by have := hI.df; rw [hA] at this; exact this
      have hts : ts.size = 43 := by have := hI.sz; rw [hz] at this; exact this
      obtain ⟨tl0, rfl⟩ : ∃ tl : List Value, ts = tl.toArray := ⟨ts.toList, by simp⟩
      have htl0 : tl0.length = 43 := by simpa using hts
      clear hts
      obtain ⟨y0, tl1, et, htl1⟩ := len_succ htl0
      clear htl0
      subst et
      obtain ⟨y1, tl2, et, htl2⟩ := len_succ htl1
      clear htl1
      subst et
      obtain ⟨y2, tl3, et, htl3⟩ := len_succ htl2
      clear htl2
      subst et
      obtain ⟨y3, tl4, et, htl4⟩ := len_succ htl3
      clear htl3
      subst et
      obtain ⟨y4, tl5, et, htl5⟩ := len_succ htl4
      clear htl4
      subst et
      obtain ⟨y5, tl6, et, htl6⟩ := len_succ htl5
      clear htl5
      subst et
      obtain ⟨y6, tl7, et, htl7⟩ := len_succ htl6
      clear htl6
      subst et
      obtain ⟨y7, tl8, et, htl8⟩ := len_succ htl7
      clear htl7
      subst et
      obtain ⟨y8, tl9, et, htl9⟩ := len_succ htl8
      clear htl8
      subst et
      obtain ⟨y9, tl10, et, htl10⟩ := len_succ htl9
      clear htl9
      subst et
      obtain ⟨y10, tl11, et, htl11⟩ := len_succ htl10
      clear htl10
      subst et
      obtain ⟨y11, tl12, et, htl12⟩ := len_succ htl11
      clear htl11
      subst et
      obtain ⟨y12, tl13, et, htl13⟩ := len_succ htl12
      clear htl12
      subst et
      obtain ⟨y13, tl14, et, htl14⟩ := len_succ htl13
      clear htl13
      subst et
      obtain ⟨y14, tl15, et, htl15⟩ := len_succ htl14
      clear htl14
      subst et
      obtain ⟨y15, tl16, et, htl16⟩ := len_succ htl15
      clear htl15
      subst et
      obtain ⟨y16, tl17, et, htl17⟩ := len_succ htl16
      clear htl16
      subst et
      obtain ⟨y17, tl18, et, htl18⟩ := len_succ htl17
      clear htl17
      subst et
      obtain ⟨y18, tl19, et, htl19⟩ := len_succ htl18
      clear htl18
      subst et
      obtain ⟨y19, tl20, et, htl20⟩ := len_succ htl19
      clear htl19
      subst et
      obtain ⟨y20, tl21, et, htl21⟩ := len_succ htl20
      clear htl20
      subst et
      obtain ⟨y21, tl22, et, htl22⟩ := len_succ htl21
      clear htl21
      subst et
      obtain ⟨y22, tl23, et, htl23⟩ := len_succ htl22
      clear htl22
      subst et
      obtain ⟨y23, tl24, et, htl24⟩ := len_succ htl23
      clear htl23
      subst et
      obtain ⟨y24, tl25, et, htl25⟩ := len_succ htl24
      clear htl24
      subst et
      obtain ⟨y25, tl26, et, htl26⟩ := len_succ htl25
      clear htl25
      subst et
      obtain ⟨y26, tl27, et, htl27⟩ := len_succ htl26
      clear htl26
      subst et
      obtain ⟨y27, tl28, et, htl28⟩ := len_succ htl27
      clear htl27
      subst et
      obtain ⟨y28, tl29, et, htl29⟩ := len_succ htl28
      clear htl28
      subst et
      obtain ⟨y29, tl30, et, htl30⟩ := len_succ htl29
      clear htl29
      subst et
      obtain ⟨y30, tl31, et, htl31⟩ := len_succ htl30
      clear htl30
      subst et
      obtain ⟨y31, tl32, et, htl32⟩ := len_succ htl31
      clear htl31
      subst et
      obtain ⟨y32, tl33, et, htl33⟩ := len_succ htl32
      clear htl32
      subst et
      obtain ⟨y33, tl34, et, htl34⟩ := len_succ htl33
      clear htl33
      subst et
      obtain ⟨y34, tl35, et, htl35⟩ := len_succ htl34
      clear htl34
      subst et
      obtain ⟨y35, tl36, et, htl36⟩ := len_succ htl35
      clear htl35
      subst et
      obtain ⟨y36, tl37, et, htl37⟩ := len_succ htl36
      clear htl36
      subst et
      obtain ⟨y37, tl38, et, htl38⟩ := len_succ htl37
      clear htl37
      subst et
      obtain ⟨y38, tl39, et, htl39⟩ := len_succ htl38
      clear htl38
      subst et
      obtain ⟨y39, tl40, et, htl40⟩ := len_succ htl39
      clear htl39
      subst et
      obtain ⟨y40, tl41, et, htl41⟩ := len_succ htl40
      clear htl40
      subst et
      obtain ⟨y41, tl42, et, htl42⟩ := len_succ htl41
      clear htl41
      subst et
      obtain ⟨y42, tl43, et, htl43⟩ := len_succ htl42
      clear htl42
      subst et
      have et := List.eq_nil_of_length_eq_zero htl43
      clear htl43
      subst et
      subst hd 
      clear hI hall hln hV hs hz hA hO hQQ e13 hS v_0 i_0 s_0 v_1 i_1 s_1 v_2 i_2 s_2 v_3 i_3 s_3 v_4 i_4 s_4 v_5 i_5 s_5 v_6 i_6 s_6 v_7 i_7 s_7 v_8 i_8 s_8 v_9 i_9 s_9 v_10 i_10 s_10 v_11 i_11 s_11 v_12 i_12 s_12 v_13 i_13 s_13 v_14 i_14 s_14
      go_wp2_with fail
      refine bodyPost_ret (results_tmp rfl _ _ _) rfl ?_
      refine ⟨by rw [e1.out.1]; rfl, ?_, RC.out⟩
      refine ⟨_, RR.out.top (by rw [setCells_size]; exact Nat.le_refl _) (Nat.le_refl _), fun j hj => ?_⟩
      rw [e1.out.2.1, e1.out.2.2]
      by_cases e : j = ix
      · subst e; rw [put_same, put_same, put_same]; exact ⟨by rw [(HE.out j hj).1], rfl⟩
      · rw [put_other F _ e, put_other t _ e, put_other s _ e]; exact HE.out j hj
  · have hi2 : inn n f = false := by simpa using hi
    have e1 : Hid (cuE n t f m = 1 ∧ cuT n t f m = t ∧ cuS n t s f m = s) := by
      have : cuE n t f m = 1 := by unfold cuE; rw [hi2]; rfl
      exact ⟨this, by unfold cuT; rw [this]; rfl, by unfold cuS; rw [this]; rfl⟩
    rw [hi2] at hh
    clear h hi hi2 e
    go_enter Try.func20, Try.ntmps20
    go_wp2_with fail
    refine hh.out.mono ?_
    rintro r w1 ⟨rfl, rfl⟩
    go_wp2_with fail
    refine bodyPost_ret (results_tmp rfl _ _ _) rfl ?_
    exact ⟨by rw [e1.out.1]; rfl, by rw [e1.out.2.1, e1.out.2.2]; exact H.out.top H.out.sz (Nat.le_refl _), Ch.refl _ _⟩
set_option maxHeartbeats 8000000 in
set_option maxRecDepth 100000 in
theorem unsure_l (x : FL) (u : Nat) (hu : x.t.size - x.s = u) (h : x.s ≤ x.t.size) (hz : x.t.size ≤ 16777216) (w : World) : Calls Try.prog 31 #[.agg #[.slice x.a x.t.size x.c, .int .i64 x.s]] w fun r w' => r = .returned (.int .i64 (u : Int)) ∧ Q w w' := by
  subst hu; exact unsure_x x h hz w
set_option maxHeartbeats 8000000 in
set_option maxRecDepth 100000 in
theorem swap_x (h : DK w B T g b n t s room) (f m : Int) : Calls Try.prog 21 #[.pointer (some ⟨g, 0, none⟩), .int .i64 f, .int .i64 m] w fun r w' =>
    r = .returned (.int .i64 (swE n t s f m)) ∧ DK w' B w'.heap.size g b n (swT n t s f m) (swS n t s f m) room ∧ Ch b w w' := by
  have hh := Lib.hid (has_x h f)
  have hh2 := Lib.hid (has_x h m)
  have H := Lib.hid h
  obtain ⟨F, h, e⟩ := h
  by_cases hi : inn n f = true
  · obtain ⟨ix, rfl, hi'⟩ := inn_t hi
    rw [hi] at hh
    by_cases hj : inn n m = true
    · obtain ⟨iy, rfl, hj'⟩ := inn_t hj
      rw [hj] at hh2
      have c0 := h.g0
      have j0 : (0 : Int) ≤ (ix : Int) := by omega
      have j1 : (ix : Int) < (n : Int) := by omega
      have j2 : (0 : Int) ≤ (iy : Int) := by omega
      have j3 : (iy : Int) < (n : Int) := by omega
      obtain ⟨u1, hu1⟩ : ∃ u, (F ix).t.size - (F ix).s = u := ⟨_, rfl⟩
      obtain ⟨u2, hu2⟩ : ∃ u, (F iy).t.size - (F iy).s = u := ⟨_, rfl⟩
      have U1 : Hid (∀ w, Calls Try.prog 31 #[.agg #[.slice (F ix).a (F ix).t.size (F ix).c, .int .i64 (F ix).s]] w fun r w' => r = .returned (.int .i64 (u1 : Int)) ∧ Q w w') := unsure_l (F ix) u1 hu1 (h.sure ix hi') (Nat.le_trans (tot_at (t := fun j => (F j).t) hi') (Nat.le_trans h.sum h.hr))
      have U2 : Hid (∀ w, Calls Try.prog 31 #[.agg #[.slice (F iy).a (F iy).t.size (F iy).c, .int .i64 (F iy).s]] w fun r w' => r = .returned (.int .i64 (u2 : Int)) ∧ Q w w') := unsure_l (F iy) u2 hu2 (h.sure iy hj') (Nat.le_trans (tot_at (t := fun j => (F j).t) hj') (Nat.le_trans h.sum h.hr))
      have e8 : Hid ((s ix < (t ix).size ↔ 0 < u1) ∧ (s iy < (t iy).size ↔ 0 < u2)) := by
        show _ ∧ _
        rw [← (e ix hi').1, ← (e ix hi').2, ← (e iy hj').1, ← (e iy hj').2, ← hu1, ← hu2]
        omega
      have HD := Lib.hid h
      have HE := Lib.hid e
      have ex : swE n t s (ix : Int) (iy : Int) = if 0 < u1 ∨ 0 < u2 then 8 else 0 := by
        unfold swE
        rw [if_pos hi, if_pos hj, Int.toNat_natCast, Int.toNat_natCast]
        simp only [e8.out.1, e8.out.2]
      have hi3 := Lib.hid hi'
      have hj3 := Lib.hid hj'
      have RW1 : Hid (∀ w1, Q w w1 → ∀ j v, [Value.slice (F ix).a (F ix).t.size (F ix).c, .int .i64 (F ix).s][j]? = some v → w1.cell? ⟨b, ix * 2 + j, none⟩ = some v) := fun w1 q j v hv => (HD.out.q q).row hi3.out j v hv
      have RW2 : Hid (∀ w1, Q w w1 → ∀ j v, [Value.slice (F iy).a (F iy).t.size (F iy).c, .int .i64 (F iy).s][j]? = some v → w1.cell? ⟨b, iy * 2 + j, none⟩ = some v) := fun w1 q j v hv => (HD.out.q q).row hj3.out j v hv
      clear h e hi hj hu1 hu2 hi' hj' e8
      by_cases hp : 0 < u1
      · have e1 : Hid (swE n t s (ix : Int) (iy : Int) = 8 ∧ swT n t s (ix : Int) (iy : Int) = t ∧ swS n t s (ix : Int) (iy : Int) = s) := by
          rw [if_pos (.inl hp)] at ex
          exact ⟨ex, by unfold swT; rw [ex]; rfl, by unfold swS; rw [ex]; rfl⟩
        have d1 : decide (0 < u1) = true := by simpa using hp
        clear ex
        go_enter Try.func21, Try.ntmps21
        go_wp2_with fail
        refine hh.out.mono ?_
        rintro r w1 ⟨rfl, rfl⟩
        go_wp2_with fail
        refine hh2.out.mono ?_
        rintro r w1 ⟨rfl, rfl⟩
        go_wp2_with (with_reducible (show wpList _ _ _ (⟨_, Op.load 55 (.tmp 22), _, _, _, _⟩ :: _) _ _); refine halt ?_)
        refine Lib.hid (ld_row rfl 55 _ rfl b (ix * 2) [.slice (F ix).a (F ix).t.size (F ix).c, .int .i64 (F ix).s] rfl (RW1.out _ (Q.refl _)) Try.underlying55 rfl (by kernel_rfl) ?_)
        go_wp2_with fail
        refine (U1.out _).mono ?_
        rintro r w1 ⟨rfl, q1⟩
        have Q1 := Lib.hid q1
        clear q1
        go_wp2_with fail
        refine bodyPost_ret (results_tmp rfl _ _ _) rfl ?_
        exact ⟨by rw [e1.out.1]; rfl, by rw [e1.out.2.1, e1.out.2.2]; exact (H.out.q Q1.out).top (Nat.le_trans H.out.sz Q1.out.size) (Nat.le_refl _), Ch.of_q Q1.out _⟩
      have d1 : decide (0 < u1) = false := by simpa using hp
      by_cases hp2 : 0 < u2
      · have e1 : Hid (swE n t s (ix : Int) (iy : Int) = 8 ∧ swT n t s (ix : Int) (iy : Int) = t ∧ swS n t s (ix : Int) (iy : Int) = s) := by
          rw [if_pos (.inr hp2)] at ex
          exact ⟨ex, by unfold swT; rw [ex]; rfl, by unfold swS; rw [ex]; rfl⟩
        have d2 : decide (0 < u2) = true := by simpa using hp2
        clear ex
        go_enter Try.func21, Try.ntmps21
        go_wp2_with fail
        refine hh.out.mono ?_
        rintro r w1 ⟨rfl, rfl⟩
        go_wp2_with fail
        refine hh2.out.mono ?_
        rintro r w1 ⟨rfl, rfl⟩
        go_wp2_with (with_reducible (show wpList _ _ _ (⟨_, Op.load 55 (.tmp 22), _, _, _, _⟩ :: _) _ _); refine halt ?_)
        refine Lib.hid (ld_row rfl 55 _ rfl b (ix * 2) [.slice (F ix).a (F ix).t.size (F ix).c, .int .i64 (F ix).s] rfl (RW1.out _ (Q.refl _)) Try.underlying55 rfl (by kernel_rfl) ?_)
        go_wp2_with fail
        refine (U1.out _).mono ?_
        rintro r w1 ⟨rfl, q1⟩
        have Q1 := Lib.hid q1
        have c3 := Q.cell' q1 c0
        clear q1
        go_wp2_with (with_reducible (show wpList _ _ _ (⟨_, Op.load 55 (.tmp 32), _, _, _, _⟩ :: _) _ _); refine halt ?_)
        refine Lib.hid (ld_rowg (by kernel_rfl) 55 _ rfl b (iy * 2) [.slice (F iy).a (F iy).t.size (F iy).c, .int .i64 (F iy).s] rfl (RW2.out _ Q1.out) Try.underlying55 rfl (by kernel_rfl) ?_)
        go_wp2_with fail
        refine (U2.out _).mono ?_
        rintro r w2 ⟨rfl, q2⟩
        have Q2 := Lib.hid (Q1.out.trans q2)
        clear q2
        go_wp2_with fail
        refine bodyPost_ret (results_tmp rfl _ _ _) rfl ?_
        exact ⟨by rw [e1.out.1]; rfl, by rw [e1.out.2.1, e1.out.2.2]; exact (H.out.q Q2.out).top (Nat.le_trans H.out.sz Q2.out.size) (Nat.le_refl _), Ch.of_q Q2.out _⟩
      have d2 : decide (0 < u2) = false := by simpa using hp2
      have e1 : Hid (swE n t s (ix : Int) (iy : Int) = 0 ∧ swT n t s (ix : Int) (iy : Int) = put (put t ix (t iy)) iy (t ix) ∧ swS n t s (ix : Int) (iy : Int) = put (put s ix (s iy)) iy (s ix)) := by
        rw [if_neg (by omega)] at ex
        exact ⟨ex, by unfold swT; rw [ex]; rfl, by unfold swS; rw [ex]; rfl⟩
      clear ex
      go_enter Try.func21, Try.ntmps21
      go_wp2_with fail
      refine hh.out.mono ?_
      rintro r w1 ⟨rfl, rfl⟩
      go_wp2_with fail
      refine hh2.out.mono ?_
      rintro r w1 ⟨rfl, rfl⟩
      go_wp2_with (with_reducible (show wpList _ _ _ (⟨_, Op.load 55 (.tmp 22), _, _, _, _⟩ :: _) _ _); refine halt ?_)
      refine Lib.hid (ld_row rfl 55 _ rfl b (ix * 2) [.slice (F ix).a (F ix).t.size (F ix).c, .int .i64 (F ix).s] rfl (RW1.out _ (Q.refl _)) Try.underlying55 rfl (by kernel_rfl) ?_)
      go_wp2_with fail
      refine (U1.out _).mono ?_
      rintro r w1 ⟨rfl, q1⟩
      have Q1 := Lib.hid q1
      have c3 := Q.cell' q1 c0
      clear q1
      go_wp2_with (with_reducible (show wpList _ _ _ (⟨_, Op.load 55 (.tmp 32), _, _, _, _⟩ :: _) _ _); refine halt ?_)
      refine Lib.hid (ld_rowg (by kernel_rfl) 55 _ rfl b (iy * 2) [.slice (F iy).a (F iy).t.size (F iy).c, .int .i64 (F iy).s] rfl (RW2.out _ Q1.out) Try.underlying55 rfl (by kernel_rfl) ?_)
      go_wp2_with fail
      refine (U2.out _).mono ?_
      rintro r w2 ⟨rfl, q2⟩
      have Q2 := Lib.hid (Q1.out.trans q2)
      clear c0 c3 q2
      obtain ⟨W0, hW0⟩ : ∃ W, w2.drew = W := ⟨_, rfl⟩
      have QW : Hid (Q w W0) := by rw [← hW0]; exact Q2.out.drew
      have D2 := Lib.hid (HD.out.q QW.out)
      have C0 : ∀ w, w = W0 → w.cell? ⟨g, 0, none⟩ = some (.slice (some ⟨b, 0, none⟩) n n) := fun w e => by rw [e]; exact D2.out.g0
      have R1 : Hid (∀ w, w = W0 → w.rangeAt b (ix * 2) [.slice (F ix).a (F ix).t.size (F ix).c, .int .i64 (F ix).s]) := fun w e j v hv => by rw [e]; exact D2.out.row hi3.out j v hv
      have R2 : Hid (∀ w, w = W0 → w.rangeAt b (iy * 2) [.slice (F iy).a (F iy).t.size (F iy).c, .int .i64 (F iy).s]) := fun w e j v hv => by rw [e]; exact D2.out.row hj3.out j v hv
      have T1 : Hid (∀ w, w = W0 → w.there b (ix * 2) 2) := fun w e => by rw [e]; exact D2.out.there hi3.out
      have T2 : Hid (∀ w, w = W0.setCells b (ix * 2) [.slice (F iy).a (F iy).t.size (F iy).c, .int .i64 (F iy).s] → w.there b (iy * 2) 2) := fun w e => by rw [e]; exact own_there (own_row D2.out.f hi3.out (F iy)).1 hj3.out
      clear d1 d2
      go_wp2_with fail
      have hS0 : (fun w => w = W0) w2.drew := hW0
      refine region_gen3 ?_
      intro OPS QQ A0 hO hQQ hA
      have hz : A0.tmps.size = 63 := by rw [hA]; rfl
      have hs : sound OPS A0.tmps.size = true := by rw [hz, hO]; kernel_rfl
      have b_0 : A0.eval (.tmp 0) = .pointer (some ⟨g, 0, none⟩) := by rw [hA]; rfl
      have fr_0 : free OPS 0 = true := by rw [hO]; kernel_rfl
      have b_1 : A0.eval (.tmp 1) = .int .i64 ix := by rw [hA]; rfl
      have fr_1 : free OPS 1 = true := by rw [hO]; kernel_rfl
      have b_2 : A0.eval (.tmp 2) = .int .i64 iy := by rw [hA]; rfl
      have fr_2 : free OPS 2 = true := by rw [hO]; kernel_rfl
      obtain ⟨VV, hVV⟩ : ∃ V : Nat → Value → World → Prop, V = fun i => ([fun v _ => v = .pointer (some ⟨g, 0, none⟩), fun v _ => v = .pointer (some ⟨g, 0, none⟩), fun v _ => v = .pointer (some ⟨g, 0, none⟩), fun v _ => v = .slice (some ⟨b, 0, none⟩) n n, fun v _ => v = .int .i64 ix, fun v _ => v = .pointer (some ⟨g, 0, none⟩), fun v _ => v = .pointer (some ⟨g, 0, none⟩), fun v _ => v = .pointer (some ⟨g, 0, none⟩), fun v _ => v = .slice (some ⟨b, 0, none⟩) n n, fun v _ => v = .int .i64 iy, fun v _ => v = .pointer (some ⟨g, 0, none⟩), fun v _ => v = .pointer (some ⟨g, 0, none⟩), fun v _ => v = .pointer (some ⟨g, 0, none⟩), fun v _ => v = .slice (some ⟨b, 0, none⟩) n n, fun v _ => v = .int .i64 iy, fun v _ => v = .pointer (some ⟨b, iy * 2, none⟩), fun v _ => v = .agg #[.slice (F iy).a (F iy).t.size (F iy).c, .int .i64 (F iy).s], fun v _ => v = .pointer (some ⟨g, 0, none⟩), fun v _ => v = .pointer (some ⟨g, 0, none⟩), fun v _ => v = .pointer (some ⟨g, 0, none⟩), fun v _ => v = .slice (some ⟨b, 0, none⟩) n n, fun v _ => v = .int .i64 ix, fun v _ => v = .pointer (some ⟨b, ix * 2, none⟩), fun v _ => v = .agg #[.slice (F ix).a (F ix).t.size (F ix).c, .int .i64 (F ix).s], fun v _ => v = .pointer (some ⟨b, ix * 2, none⟩), fun _ w => w = W0.setCells b (ix * 2) [.slice (F iy).a (F iy).t.size (F iy).c, .int .i64 (F iy).s], fun v _ => v = .pointer (some ⟨b, iy * 2, none⟩)] : List (Value → World → Prop)).getD i (fun _ _ => True) := ⟨_, rfl⟩
      have v_0 : VV 0 = fun v _ => v = .pointer (some ⟨g, 0, none⟩) := vat hVV 0
      have v_1 : VV 1 = fun v _ => v = .pointer (some ⟨g, 0, none⟩) := vat hVV 1
      have v_2 : VV 2 = fun v _ => v = .pointer (some ⟨g, 0, none⟩) := vat hVV 2
      have v_3 : VV 3 = fun v _ => v = .slice (some ⟨b, 0, none⟩) n n := vat hVV 3
      have v_4 : VV 4 = fun v _ => v = .int .i64 ix := vat hVV 4
      have v_5 : VV 5 = fun v _ => v = .pointer (some ⟨g, 0, none⟩) := vat hVV 5
      have v_6 : VV 6 = fun v _ => v = .pointer (some ⟨g, 0, none⟩) := vat hVV 6
      have v_7 : VV 7 = fun v _ => v = .pointer (some ⟨g, 0, none⟩) := vat hVV 7
      have v_8 : VV 8 = fun v _ => v = .slice (some ⟨b, 0, none⟩) n n := vat hVV 8
      have v_9 : VV 9 = fun v _ => v = .int .i64 iy := vat hVV 9
      have v_10 : VV 10 = fun v _ => v = .pointer (some ⟨g, 0, none⟩) := vat hVV 10
      have v_11 : VV 11 = fun v _ => v = .pointer (some ⟨g, 0, none⟩) := vat hVV 11
      have v_12 : VV 12 = fun v _ => v = .pointer (some ⟨g, 0, none⟩) := vat hVV 12
      have v_13 : VV 13 = fun v _ => v = .slice (some ⟨b, 0, none⟩) n n := vat hVV 13
      have v_14 : VV 14 = fun v _ => v = .int .i64 iy := vat hVV 14
      have v_15 : VV 15 = fun v _ => v = .pointer (some ⟨b, iy * 2, none⟩) := vat hVV 15
      have v_16 : VV 16 = fun v _ => v = .agg #[.slice (F iy).a (F iy).t.size (F iy).c, .int .i64 (F iy).s] := vat hVV 16
      have v_17 : VV 17 = fun v _ => v = .pointer (some ⟨g, 0, none⟩) := vat hVV 17
      have v_18 : VV 18 = fun v _ => v = .pointer (some ⟨g, 0, none⟩) := vat hVV 18
      have v_19 : VV 19 = fun v _ => v = .pointer (some ⟨g, 0, none⟩) := vat hVV 19
      have v_20 : VV 20 = fun v _ => v = .slice (some ⟨b, 0, none⟩) n n := vat hVV 20
      have v_21 : VV 21 = fun v _ => v = .int .i64 ix := vat hVV 21
      have v_22 : VV 22 = fun v _ => v = .pointer (some ⟨b, ix * 2, none⟩) := vat hVV 22
      have v_23 : VV 23 = fun v _ => v = .agg #[.slice (F ix).a (F ix).t.size (F ix).c, .int .i64 (F ix).s] := vat hVV 23
      have v_24 : VV 24 = fun v _ => v = .pointer (some ⟨b, ix * 2, none⟩) := vat hVV 24
      have v_25 : VV 25 = fun _ w => w = W0.setCells b (ix * 2) [.slice (F iy).a (F iy).t.size (F iy).c, .int .i64 (F iy).s] := vat hVV 25
      have v_26 : VV 26 = fun v _ => v = .pointer (some ⟨b, iy * 2, none⟩) := vat hVV 26
      have hV := stablex_of (T := (fun _ _ => True)) (p := 25) hVV ((sx_cons (fun _ _ _ h _ => h) (sx_cons (fun _ _ _ h _ => h) (sx_cons (fun _ _ _ h _ => h) (sx_cons (fun _ _ _ h _ => h) (sx_cons (fun _ _ _ h _ => h) (sx_cons (fun _ _ _ h _ => h) (sx_cons (fun _ _ _ h _ => h) (sx_cons (fun _ _ _ h _ => h) (sx_cons (fun _ _ _ h _ => h) (sx_cons (fun _ _ _ h _ => h) (sx_cons (fun _ _ _ h _ => h) (sx_cons (fun _ _ _ h _ => h) (sx_cons (fun _ _ _ h _ => h) (sx_cons (fun _ _ _ h _ => h) (sx_cons (fun _ _ _ h _ => h) (sx_cons (fun _ _ _ h _ => h) (sx_cons (fun _ _ _ h _ => h) (sx_cons (fun _ _ _ h _ => h) (sx_cons (fun _ _ _ h _ => h) (sx_cons (fun _ _ _ h _ => h) (sx_cons (fun _ _ _ h _ => h) (sx_cons (fun _ _ _ h _ => h) (sx_cons (fun _ _ _ h _ => h) (sx_cons (fun _ _ _ h _ => h) (sx_cons (fun _ _ _ h _ => h) (sx_skip rfl (sx_cons (fun _ _ _ h _ => h) trivial))))))))))))))))))))))))))))
      clear hVV
      have i_0 := pget_at hO 0 rfl
      have i_1 := pget_at hO 1 rfl
      have i_2 := pget_at hO 2 rfl
      have i_3 := pget_at hO 3 rfl
      have i_4 := pget_at hO 4 rfl
      have i_5 := pget_at hO 5 rfl
      have i_6 := pget_at hO 6 rfl
      have i_7 := pget_at hO 7 rfl
      have i_8 := pget_at hO 8 rfl
      have i_9 := pget_at hO 9 rfl
      have i_10 := pget_at hO 10 rfl
      have i_11 := pget_at hO 11 rfl
      have i_12 := pget_at hO 12 rfl
      have i_13 := pget_at hO 13 rfl
      have i_14 := pget_at hO 14 rfl
      have i_15 := pget_at hO 15 rfl
      have i_16 := pget_at hO 16 rfl
      have i_17 := pget_at hO 17 rfl
      have i_18 := pget_at hO 18 rfl
      have i_19 := pget_at hO 19 rfl
      have i_20 := pget_at hO 20 rfl
      have i_21 := pget_at hO 21 rfl
      have i_22 := pget_at hO 22 rfl
      have i_23 := pget_at hO 23 rfl
      have i_24 := pget_at hO 24 rfl
      have i_25 := pget_at hO 25 rfl
      have i_26 := pget_at hO 26 rfl
      have i_27 := pget_at hO 27 rfl
      have s_0 := Step2.pure (P := Try.prog) (V := VV) (T := (fun _ _ => True)) (S := (fun w => w = W0)) (a0 := A0) (p := 25) (Qx := QQ) i_0 (by rw [hO]; kernel_rfl) (.pointer (some ⟨g, 0, none⟩)) (fun _ => trivial) (fun l a w hI hl hS => ⟨wanted_none rfl, ex_move rfl ((hI.base 0 fr_0).trans b_0), at_mk v_0 rfl⟩)
      have s_1 := Step2.pure (P := Try.prog) (V := VV) (T := (fun _ _ => True)) (S := (fun w => w = W0)) (a0 := A0) (p := 25) (Qx := QQ) i_1 (by rw [hO]; kernel_rfl) (.pointer (some ⟨g, 0, none⟩)) (fun _ => trivial) (fun l a w hI hl hS => ⟨wanted_none rfl, (by have e0 : a.eval (.tmp 37) = _ := (at_eq v_0 (hI.at_ 0 37 _ i_0 rfl (hl_at hl 0 rfl rfl))); generalize a.eval = ρ at e0 ⊢; simp [go_sem, e0]), at_mk v_1 rfl⟩)
      have s_2 := Step2.pure (P := Try.prog) (V := VV) (T := (fun _ _ => True)) (S := (fun w => w = W0)) (a0 := A0) (p := 25) (Qx := QQ) i_2 (by rw [hO]; kernel_rfl) (.pointer (some ⟨g, 0, none⟩)) (fun _ => trivial) (fun l a w hI hl hS => ⟨wanted_none rfl, (by have e0 : a.eval (.tmp 38) = _ := (at_eq v_1 (hI.at_ 1 38 _ i_1 rfl (hl_at hl 0 rfl rfl))); generalize a.eval = ρ at e0 ⊢; simp [go_sem, e0]), at_mk v_2 rfl⟩)
      have s_3 := Step2.pure (P := Try.prog) (V := VV) (T := (fun _ _ => True)) (S := (fun w => w = W0)) (a0 := A0) (p := 25) (Qx := QQ) i_3 (by rw [hO]; kernel_rfl) (.slice (some ⟨b, 0, none⟩) n n) (fun _ => trivial) (fun l a w hI hl hS => ⟨wanted_none rfl, (by have e0 : a.eval (.tmp 39) = _ := (at_eq v_2 (hI.at_ 2 39 _ i_2 rfl (hl_at hl 0 rfl rfl))); have x0 := C0 w hS; generalize a.eval = ρ at e0 ⊢; simp [go_sem, e0, x0]), at_mk v_3 rfl⟩)
      have s_4 := Step2.pure (P := Try.prog) (V := VV) (T := (fun _ _ => True)) (S := (fun w => w = W0)) (a0 := A0) (p := 25) (Qx := QQ) i_4 (by rw [hO]; kernel_rfl) (.int .i64 ix) (fun _ => trivial) (fun l a w hI hl hS => ⟨wanted_none rfl, ex_move rfl ((hI.base 1 fr_1).trans b_1), at_mk v_4 rfl⟩)
      have s_5 := Step2.pure (P := Try.prog) (V := VV) (T := (fun _ _ => True)) (S := (fun w => w = W0)) (a0 := A0) (p := 25) (Qx := QQ) i_5 (by rw [hO]; kernel_rfl) (.pointer (some ⟨g, 0, none⟩)) (fun _ => trivial) (fun l a w hI hl hS => ⟨wanted_none rfl, ex_move rfl ((hI.base 0 fr_0).trans b_0), at_mk v_5 rfl⟩)
      have s_6 := Step2.pure (P := Try.prog) (V := VV) (T := (fun _ _ => True)) (S := (fun w => w = W0)) (a0 := A0) (p := 25) (Qx := QQ) i_6 (by rw [hO]; kernel_rfl) (.pointer (some ⟨g, 0, none⟩)) (fun _ => trivial) (fun l a w hI hl hS => ⟨wanted_none rfl, (by have e0 : a.eval (.tmp 42) = _ := (at_eq v_5 (hI.at_ 5 42 _ i_5 rfl (hl_at hl 0 rfl rfl))); generalize a.eval = ρ at e0 ⊢; simp [go_sem, e0]), at_mk v_6 rfl⟩)
      have s_7 := Step2.pure (P := Try.prog) (V := VV) (T := (fun _ _ => True)) (S := (fun w => w = W0)) (a0 := A0) (p := 25) (Qx := QQ) i_7 (by rw [hO]; kernel_rfl) (.pointer (some ⟨g, 0, none⟩)) (fun _ => trivial) (fun l a w hI hl hS => ⟨wanted_none rfl, (by have e0 : a.eval (.tmp 43) = _ := (at_eq v_6 (hI.at_ 6 43 _ i_6 rfl (hl_at hl 0 rfl rfl))); generalize a.eval = ρ at e0 ⊢; simp [go_sem, e0]), at_mk v_7 rfl⟩)
      have s_8 := Step2.pure (P := Try.prog) (V := VV) (T := (fun _ _ => True)) (S := (fun w => w = W0)) (a0 := A0) (p := 25) (Qx := QQ) i_8 (by rw [hO]; kernel_rfl) (.slice (some ⟨b, 0, none⟩) n n) (fun _ => trivial) (fun l a w hI hl hS => ⟨wanted_none rfl, (by have e0 : a.eval (.tmp 44) = _ := (at_eq v_7 (hI.at_ 7 44 _ i_7 rfl (hl_at hl 0 rfl rfl))); have x0 := C0 w hS; generalize a.eval = ρ at e0 ⊢; simp [go_sem, e0, x0]), at_mk v_8 rfl⟩)
      have s_9 := StepQ.pure (P := Try.prog) (V := VV) (S := (fun w => w = W0)) (a0 := A0) (p := 25) (Qx := QQ) i_9 (.int .i64 iy) (fun l a w hI hl => ⟨wanted_none rfl, ex_move rfl ((hI.base 2 fr_2).trans b_2), at_mk v_9 rfl⟩)
      have s_10 := Step2.pure (P := Try.prog) (V := VV) (T := (fun _ _ => True)) (S := (fun w => w = W0)) (a0 := A0) (p := 25) (Qx := QQ) i_10 (by rw [hO]; kernel_rfl) (.pointer (some ⟨g, 0, none⟩)) (fun _ => trivial) (fun l a w hI hl hS => ⟨wanted_none rfl, ex_move rfl ((hI.base 0 fr_0).trans b_0), at_mk v_10 rfl⟩)
      have s_11 := Step2.pure (P := Try.prog) (V := VV) (T := (fun _ _ => True)) (S := (fun w => w = W0)) (a0 := A0) (p := 25) (Qx := QQ) i_11 (by rw [hO]; kernel_rfl) (.pointer (some ⟨g, 0, none⟩)) (fun _ => trivial) (fun l a w hI hl hS => ⟨wanted_none rfl, (by have e0 : a.eval (.tmp 47) = _ := (at_eq v_10 (hI.at_ 10 47 _ i_10 rfl (hl_at hl 0 rfl rfl))); generalize a.eval = ρ at e0 ⊢; simp [go_sem, e0]), at_mk v_11 rfl⟩)
      have s_12 := Step2.pure (P := Try.prog) (V := VV) (T := (fun _ _ => True)) (S := (fun w => w = W0)) (a0 := A0) (p := 25) (Qx := QQ) i_12 (by rw [hO]; kernel_rfl) (.pointer (some ⟨g, 0, none⟩)) (fun _ => trivial) (fun l a w hI hl hS => ⟨wanted_none rfl, (by have e0 : a.eval (.tmp 48) = _ := (at_eq v_11 (hI.at_ 11 48 _ i_11 rfl (hl_at hl 0 rfl rfl))); generalize a.eval = ρ at e0 ⊢; simp [go_sem, e0]), at_mk v_12 rfl⟩)
      have s_13 := Step2.pure (P := Try.prog) (V := VV) (T := (fun _ _ => True)) (S := (fun w => w = W0)) (a0 := A0) (p := 25) (Qx := QQ) i_13 (by rw [hO]; kernel_rfl) (.slice (some ⟨b, 0, none⟩) n n) (fun _ => trivial) (fun l a w hI hl hS => ⟨wanted_none rfl, (by have e0 : a.eval (.tmp 49) = _ := (at_eq v_12 (hI.at_ 12 49 _ i_12 rfl (hl_at hl 0 rfl rfl))); have x0 := C0 w hS; generalize a.eval = ρ at e0 ⊢; simp [go_sem, e0, x0]), at_mk v_13 rfl⟩)
      have s_14 := Step2.pure (P := Try.prog) (V := VV) (T := (fun _ _ => True)) (S := (fun w => w = W0)) (a0 := A0) (p := 25) (Qx := QQ) i_14 (by rw [hO]; kernel_rfl) (.int .i64 iy) (fun _ => trivial) (fun l a w hI hl hS => ⟨wanted_none rfl, ex_move rfl ((hI.base 2 fr_2).trans b_2), at_mk v_14 rfl⟩)
      have s_15 := Step2.pure (P := Try.prog) (V := VV) (T := (fun _ _ => True)) (S := (fun w => w = W0)) (a0 := A0) (p := 25) (Qx := QQ) i_15 (by rw [hO]; kernel_rfl) (.pointer (some ⟨b, iy * 2, none⟩)) (fun _ => trivial) (fun l a w hI hl hS => ⟨wanted_none rfl, (by have e0 : a.eval (.tmp 50) = _ := (at_eq v_13 (hI.at_ 13 50 _ i_13 rfl (hl_at hl 0 rfl rfl))); have e1 : a.eval (.tmp 51) = _ := (at_eq v_14 (hI.at_ 14 51 _ i_14 rfl (hl_at hl 1 rfl rfl))); generalize a.eval = ρ at e0 e1 ⊢; simp [go_sem, e0, e1, j2, j3]), at_mk v_15 rfl⟩)
      have s_16 := Step2.pure (P := Try.prog) (V := VV) (T := (fun _ _ => True)) (S := (fun w => w = W0)) (a0 := A0) (p := 25) (Qx := QQ) i_16 (by rw [hO]; kernel_rfl) (.agg #[.slice (F iy).a (F iy).t.size (F iy).c, .int .i64 (F iy).s]) (fun _ => trivial) (fun l a w hI hl hS => ⟨wanted_none rfl, ex_loado 55 rfl b (iy * 2) [.slice (F iy).a (F iy).t.size (F iy).c, .int .i64 (F iy).s] _ (at_eq v_15 (hI.at_ 15 52 _ i_15 rfl (hl_at hl 0 rfl rfl))) (R2.out w hS) Try.underlying55 rfl (by kernel_rfl), at_mk v_16 rfl⟩)
      have s_17 := Step2.pure (P := Try.prog) (V := VV) (T := (fun _ _ => True)) (S := (fun w => w = W0)) (a0 := A0) (p := 25) (Qx := QQ) i_17 (by rw [hO]; kernel_rfl) (.pointer (some ⟨g, 0, none⟩)) (fun _ => trivial) (fun l a w hI hl hS => ⟨wanted_none rfl, ex_move rfl ((hI.base 0 fr_0).trans b_0), at_mk v_17 rfl⟩)
      have s_18 := Step2.pure (P := Try.prog) (V := VV) (T := (fun _ _ => True)) (S := (fun w => w = W0)) (a0 := A0) (p := 25) (Qx := QQ) i_18 (by rw [hO]; kernel_rfl) (.pointer (some ⟨g, 0, none⟩)) (fun _ => trivial) (fun l a w hI hl hS => ⟨wanted_none rfl, (by have e0 : a.eval (.tmp 54) = _ := (at_eq v_17 (hI.at_ 17 54 _ i_17 rfl (hl_at hl 0 rfl rfl))); generalize a.eval = ρ at e0 ⊢; simp [go_sem, e0]), at_mk v_18 rfl⟩)
      have s_19 := Step2.pure (P := Try.prog) (V := VV) (T := (fun _ _ => True)) (S := (fun w => w = W0)) (a0 := A0) (p := 25) (Qx := QQ) i_19 (by rw [hO]; kernel_rfl) (.pointer (some ⟨g, 0, none⟩)) (fun _ => trivial) (fun l a w hI hl hS => ⟨wanted_none rfl, (by have e0 : a.eval (.tmp 55) = _ := (at_eq v_18 (hI.at_ 18 55 _ i_18 rfl (hl_at hl 0 rfl rfl))); generalize a.eval = ρ at e0 ⊢; simp [go_sem, e0]), at_mk v_19 rfl⟩)
      have s_20 := Step2.pure (P := Try.prog) (V := VV) (T := (fun _ _ => True)) (S := (fun w => w = W0)) (a0 := A0) (p := 25) (Qx := QQ) i_20 (by rw [hO]; kernel_rfl) (.slice (some ⟨b, 0, none⟩) n n) (fun _ => trivial) (fun l a w hI hl hS => ⟨wanted_none rfl, (by have e0 : a.eval (.tmp 56) = _ := (at_eq v_19 (hI.at_ 19 56 _ i_19 rfl (hl_at hl 0 rfl rfl))); have x0 := C0 w hS; generalize a.eval = ρ at e0 ⊢; simp [go_sem, e0, x0]), at_mk v_20 rfl⟩)
      have s_21 := Step2.pure (P := Try.prog) (V := VV) (T := (fun _ _ => True)) (S := (fun w => w = W0)) (a0 := A0) (p := 25) (Qx := QQ) i_21 (by rw [hO]; kernel_rfl) (.int .i64 ix) (fun _ => trivial) (fun l a w hI hl hS => ⟨wanted_none rfl, ex_move rfl ((hI.base 1 fr_1).trans b_1), at_mk v_21 rfl⟩)
      have s_22 := Step2.pure (P := Try.prog) (V := VV) (T := (fun _ _ => True)) (S := (fun w => w = W0)) (a0 := A0) (p := 25) (Qx := QQ) i_22 (by rw [hO]; kernel_rfl) (.pointer (some ⟨b, ix * 2, none⟩)) (fun _ => trivial) (fun l a w hI hl hS => ⟨wanted_none rfl, (by have e0 : a.eval (.tmp 57) = _ := (at_eq v_20 (hI.at_ 20 57 _ i_20 rfl (hl_at hl 0 rfl rfl))); have e1 : a.eval (.tmp 58) = _ := (at_eq v_21 (hI.at_ 21 58 _ i_21 rfl (hl_at hl 1 rfl rfl))); generalize a.eval = ρ at e0 e1 ⊢; simp [go_sem, e0, e1, j0, j1]), at_mk v_22 rfl⟩)
      have s_23 := Step2.pure (P := Try.prog) (V := VV) (T := (fun _ _ => True)) (S := (fun w => w = W0)) (a0 := A0) (p := 25) (Qx := QQ) i_23 (by rw [hO]; kernel_rfl) (.agg #[.slice (F ix).a (F ix).t.size (F ix).c, .int .i64 (F ix).s]) (fun _ => trivial) (fun l a w hI hl hS => ⟨wanted_none rfl, ex_loado 55 rfl b (ix * 2) [.slice (F ix).a (F ix).t.size (F ix).c, .int .i64 (F ix).s] _ (at_eq v_22 (hI.at_ 22 59 _ i_22 rfl (hl_at hl 0 rfl rfl))) (R1.out w hS) Try.underlying55 rfl (by kernel_rfl), at_mk v_23 rfl⟩)
      have s_24 := Step2.pure (P := Try.prog) (V := VV) (T := (fun _ _ => True)) (S := (fun w => w = W0)) (a0 := A0) (p := 25) (Qx := QQ) i_24 (by rw [hO]; kernel_rfl) (.pointer (some ⟨b, ix * 2, none⟩)) (fun _ => trivial) (fun l a w hI hl hS => ⟨wanted_none rfl, (by have e0 : a.eval (.tmp 40) = _ := (at_eq v_3 (hI.at_ 3 40 _ i_3 rfl (hl_at hl 0 rfl rfl))); have e1 : a.eval (.tmp 41) = _ := (at_eq v_4 (hI.at_ 4 41 _ i_4 rfl (hl_at hl 1 rfl rfl))); generalize a.eval = ρ at e0 e1 ⊢; simp [go_sem, e0, e1, j0, j1]), at_mk v_24 rfl⟩)
      have s_25 := StepP.done (P := Try.prog) (V := VV) (T := (fun _ _ => True)) (S := (fun w => w = W0)) (a0 := A0) (p := 25) (Qx := QQ) i_25 (fun l a w hI hl hS => by
        refine ⟨wanted_none rfl, ?_⟩
        refine wp_store_mid 55 _ _ rfl b (ix * 2) #[.slice (F iy).a (F iy).t.size (F iy).c, .int .i64 (F iy).s] (at_eq v_24 (hI.at_ 24 61 _ i_24 rfl (hl_at hl 0 rfl rfl))) (at_eq v_16 (hI.at_ 16 53 _ i_16 rfl (hl_at hl 1 rfl rfl))) (T1.out w hS) (by kernel_rfl) (all_oneCell_toArray (one2 rfl rfl)) ?_
        exact ⟨_, rfl, trivial, p_at v_25 (by rw [show w = W0 from hS])⟩)
      have s_26 := StepQ.pure (P := Try.prog) (V := VV) (S := (fun w => w = W0)) (a0 := A0) (p := 25) (Qx := QQ) i_26 (.pointer (some ⟨b, iy * 2, none⟩)) (fun l a w hI hl => ⟨wanted_none rfl, (by have e0 : a.eval (.tmp 45) = _ := (at_eq v_8 (hI.at_ 8 45 _ i_8 rfl (hl_at hl 0 rfl rfl))); have e1 : a.eval (.tmp 46) = _ := (at_eq v_9 (hI.at_ 9 46 _ i_9 rfl (hl_at hl 1 rfl rfl))); generalize a.eval = ρ at e0 e1 ⊢; simp [go_sem, e0, e1, j2, j3]), at_mk v_26 rfl⟩)
      refine wp_plan2 VV ((fun _ _ => True)) (fun w => w = W0) 25 27 (by kernel_rfl) hs (by rw [hO]; rfl) (by rw [hO]; kernel_rfl) hV hS0 (steps2_all hO _ rfl ((s2_cons s_0 (s2_cons s_1 (s2_cons s_2 (s2_cons s_3 (s2_cons s_4 (s2_cons s_5 (s2_cons s_6 (s2_cons s_7 (s2_cons s_8 (sq_cons s_9 (s2_cons s_10 (s2_cons s_11 (s2_cons s_12 (s2_cons s_13 (s2_cons s_14 (s2_cons s_15 (s2_cons s_16 (s2_cons s_17 (s2_cons s_18 (s2_cons s_19 (s2_cons s_20 (s2_cons s_21 (s2_cons s_22 (s2_cons s_23 (s2_cons s_24 (sp_cons rfl s_25 (sq_cons s_26 trivial))))))))))))))))))))))))))))) ?_
      intro l a w hall hln hI
      have hw2 := (at_p v_25 (hI.no 25 _ i_25 rfl (hall 25 (by decide))))
      refine fin_of i_27 (wanted_none rfl) ?_
      refine wp_store_mid 55 _ _ rfl b (iy * 2) #[.slice (F ix).a (F ix).t.size (F ix).c, .int .i64 (F ix).s] (at_eq v_26 (hI.at_ 26 62 _ i_26 rfl (hall 26 (by decide)))) (at_eq v_23 (hI.at_ 23 60 _ i_23 rfl (hall 23 (by decide)))) (T2.out w hw2) (by kernel_rfl) (all_oneCell_toArray (one2 rfl rfl)) ?_
      rw [hQQ]
      subst hw2
      obtain ⟨ts, ds⟩ := a
      have hd : ds = [] := by have := hI.df; rw [hA] at this; exact this
      have hts : ts.size = 63 := by have := hI.sz; rw [hz] at this; exact this
      obtain ⟨tl0, rfl⟩ : ∃ tl : List Value, ts = tl.toArray := ⟨ts.toList, by simp⟩
      have htl0 : tl0.length = 63 := by simpa using hts
      clear hts
      obtain ⟨y0, tl1, et, htl1⟩ := len_succ htl0
      clear htl0
      subst et
      obtain ⟨y1, tl2, et, htl2⟩ := len_succ htl1
      clear htl1
      subst et
      obtain ⟨y2, tl3, et, htl3⟩ := len_succ htl2
      clear htl2
      subst et
      obtain ⟨y3, tl4, et, htl4⟩ := len_succ htl3
      clear htl3
      subst et
      obtain ⟨y4, tl5, et, htl5⟩ := len_succ htl4
      clear htl4
      subst et
      obtain ⟨y5, tl6, et, htl6⟩ := len_succ htl5
      clear htl5
      subst et
      obtain ⟨y6, tl7, et, htl7⟩ := len_succ htl6
      clear htl6
      subst et
      obtain ⟨y7, tl8, et, htl8⟩ := len_succ htl7
      clear htl7
      subst et
      obtain ⟨y8, tl9, et, htl9⟩ := len_succ htl8
      clear htl8
      subst et
      obtain ⟨y9, tl10, et, htl10⟩ := len_succ htl9
      clear htl9
      subst et
      obtain ⟨y10, tl11, et, htl11⟩ := len_succ htl10
      clear htl10
      subst et
      obtain ⟨y11, tl12, et, htl12⟩ := len_succ htl11
      clear htl11
      subst et
      obtain ⟨y12, tl13, et, htl13⟩ := len_succ htl12
      clear htl12
      subst et
      obtain ⟨y13, tl14, et, htl14⟩ := len_succ htl13
      clear htl13
      subst et
      obtain ⟨y14, tl15, et, htl15⟩ := len_succ htl14
      clear htl14
      subst et
      obtain ⟨y15, tl16, et, htl16⟩ := len_succ htl15
      clear htl15
      subst et
      obtain ⟨y16, tl17, et, htl17⟩ := len_succ htl16
      clear htl16
      subst et
      obtain ⟨y17, tl18, et, htl18⟩ := len_succ htl17
      clear htl17
      subst et
      obtain ⟨y18, tl19, et, htl19⟩ := len_succ htl18
      clear htl18
      subst et
      obtain ⟨y19, tl20, et, htl20⟩ := len_succ htl19
      clear htl19
      subst et
      obtain ⟨y20, tl21, et, htl21⟩ := len_succ htl20
      clear htl20
      subst et
      obtain ⟨y21, tl22, et, htl22⟩ := len_succ htl21
      clear htl21
      subst et
      obtain ⟨y22, tl23, et, htl23⟩ := len_succ htl22
      clear htl22
      subst et
      obtain ⟨y23, tl24, et, htl24⟩ := len_succ htl23
      clear htl23
      subst et
      obtain ⟨y24, tl25, et, htl25⟩ := len_succ htl24
      clear htl24
      subst et
      obtain ⟨y25, tl26, et, htl26⟩ := len_succ htl25
      clear htl25
      subst et
      obtain ⟨y26, tl27, et, htl27⟩ := len_succ htl26
      clear htl26
      subst et
      obtain ⟨y27, tl28, et, htl28⟩ := len_succ htl27
      clear htl27
      subst et
      obtain ⟨y28, tl29, et, htl29⟩ := len_succ htl28
      clear htl28
      subst et
      obtain ⟨y29, tl30, et, htl30⟩ := len_succ htl29
      clear htl29
      subst et
      obtain ⟨y30, tl31, et, htl31⟩ := len_succ htl30
      clear htl30
      subst et
      obtain ⟨y31, tl32, et, htl32⟩ := len_succ htl31
      clear htl31
      subst et
      obtain ⟨y32, tl33, et, htl33⟩ := len_succ htl32
      clear htl32
      subst et
      obtain ⟨y33, tl34, et, htl34⟩ := len_succ htl33
      clear htl33
      subst et
      obtain ⟨y34, tl35, et, htl35⟩ := len_succ htl34
      clear htl34
      subst et
      obtain ⟨y35, tl36, et, htl36⟩ := len_succ htl35
      clear htl35
      subst et
      obtain ⟨y36, tl37, et, htl37⟩ := len_succ htl36
      clear htl36
      subst et
      obtain ⟨y37, tl38, et, htl38⟩ := len_succ htl37
      clear htl37
      subst et
      obtain ⟨y38, tl39, et, htl39⟩ := len_succ htl38
      clear htl38
      subst et
      obtain ⟨y39, tl40, et, htl40⟩ := len_succ htl39
      clear htl39
      subst et
      obtain ⟨y40, tl41, et, htl41⟩ := len_succ htl40
      clear htl40
      subst et
      obtain ⟨y41, tl42, et, htl42⟩ := len_succ htl41
      clear htl41
      subst et
      obtain ⟨y42, tl43, et, htl43⟩ := len_succ htl42
      clear htl42
      subst et
      obtain ⟨y43, tl44, et, htl44⟩ := len_succ htl43
      clear htl43
      subst et
      obtain ⟨y44, tl45, et, htl45⟩ := len_succ htl44
      clear htl44
      subst et
      obtain ⟨y45, tl46, et, htl46⟩ := len_succ htl45
      clear htl45
      subst et
      obtain ⟨y46, tl47, et, htl47⟩ := len_succ htl46
      clear htl46
      subst et
      obtain ⟨y47, tl48, et, htl48⟩ := len_succ htl47
      clear htl47
      subst et
      obtain ⟨y48, tl49, et, htl49⟩ := len_succ htl48
      clear htl48
      subst et
      obtain ⟨y49, tl50, et, htl50⟩ := len_succ htl49
      clear htl49
      subst et
      obtain ⟨y50, tl51, et, htl51⟩ := len_succ htl50
      clear htl50
      subst et
      obtain ⟨y51, tl52, et, htl52⟩ := len_succ htl51
      clear htl51
      subst et
      obtain ⟨y52, tl53, et, htl53⟩ := len_succ htl52
      clear htl52
      subst et
      obtain ⟨y53, tl54, et, htl54⟩ := len_succ htl53
      clear htl53
      subst et
      obtain ⟨y54, tl55, et, htl55⟩ := len_succ htl54
      clear htl54
      subst et
      obtain ⟨y55, tl56, et, htl56⟩ := len_succ htl55
      clear htl55
      subst et
      obtain ⟨y56, tl57, et, htl57⟩ := len_succ htl56
      clear htl56
      subst et
      obtain ⟨y57, tl58, et, htl58⟩ := len_succ htl57
      clear htl57
      subst et
      obtain ⟨y58, tl59, et, htl59⟩ := len_succ htl58
      clear htl58
      subst et
      obtain ⟨y59, tl60, et, htl60⟩ := len_succ htl59
      clear htl59
      subst et
      obtain ⟨y60, tl61, et, htl61⟩ := len_succ htl60
      clear htl60
      subst et
      obtain ⟨y61, tl62, et, htl62⟩ := len_succ htl61
      clear htl61
      subst et
      obtain ⟨y62, tl63, et, htl63⟩ := len_succ htl62
      clear htl62
      subst et
      have et := List.eq_nil_of_length_eq_zero htl63
      clear htl63
      subst et
      subst hd 
      clear hI hall hln hV hs hz hA hO hQQ v_0 i_0 s_0 v_1 i_1 s_1 v_2 i_2 s_2 v_3 i_3 s_3 v_4 i_4 s_4 v_5 i_5 s_5 v_6 i_6 s_6 v_7 i_7 s_7 v_8 i_8 s_8 v_9 i_9 s_9 v_10 i_10 s_10 v_11 i_11 s_11 v_12 i_12 s_12 v_13 i_13 s_13 v_14 i_14 s_14 v_15 i_15 s_15 v_16 i_16 s_16 v_17 i_17 s_17 v_18 i_18 s_18 v_19 i_19 s_19 v_20 i_20 s_20 v_21 i_21 s_21 v_22 i_22 s_22 v_23 i_23 s_23 v_24 i_24 s_24 v_25 i_25 s_25 v_26 i_26 s_26
      go_wp2_with fail
      refine bodyPost_ret (results_tmp rfl _ _ _) rfl ?_
      obtain ⟨S1, S2⟩ := D2.out.swapped hi3.out hj3.out
      refine ⟨by rw [e1.out.1]; rfl, ⟨_, S1.top (Nat.le_trans D2.out.sz S2.size) (Nat.le_refl _), fun j hj => ?_⟩, (Ch.of_q QW.out b).trans S2⟩
      rw [e1.out.2.1, e1.out.2.2]
      have q1 := HE.out ix hi3.out
      have q2 := HE.out iy hj3.out
      have q3 := HE.out j hj
      unfold put
      split
      · exact q1
      · split
        · exact q2
        · exact q3
    · have hj2 : inn n m = false := by simpa using hj
      have e1 : Hid (swE n t s (ix : Int) m = 1 ∧ swT n t s (ix : Int) m = t ∧ swS n t s (ix : Int) m = s) := by
        have : swE n t s (ix : Int) m = 1 := by unfold swE; rw [if_pos hi, hj2]; rfl
        exact ⟨this, by unfold swT; rw [this]; rfl, by unfold swS; rw [this]; rfl⟩
      rw [hj2] at hh2
      clear h hi hj hj2 e
      go_enter Try.func21, Try.ntmps21
      go_wp2_with fail
      refine hh.out.mono ?_
      rintro r w1 ⟨rfl, rfl⟩
      go_wp2_with fail
      refine hh2.out.mono ?_
      rintro r w1 ⟨rfl, rfl⟩
      go_wp2_with fail
      refine bodyPost_ret (results_tmp rfl _ _ _) rfl ?_
      exact ⟨by rw [e1.out.1]; rfl, by rw [e1.out.2.1, e1.out.2.2]; exact H.out.top H.out.sz (Nat.le_refl _), Ch.refl _ _⟩
  · have hi2 : inn n f = false := by simpa using hi
    have e1 : Hid (swE n t s f m = 1 ∧ swT n t s f m = t ∧ swS n t s f m = s) := by
      have : swE n t s f m = 1 := by unfold swE; rw [hi2]; rfl
      exact ⟨this, by unfold swT; rw [this]; rfl, by unfold swS; rw [this]; rfl⟩
    rw [hi2] at hh
    clear h hi hi2 e
    go_enter Try.func21, Try.ntmps21
    go_wp2_with fail
    refine hh.out.mono ?_
    rintro r w1 ⟨rfl, rfl⟩
    go_wp2_with fail
    refine bodyPost_ret (results_tmp rfl _ _ _) rfl ?_
    exact ⟨by rw [e1.out.1]; rfl, by rw [e1.out.2.1, e1.out.2.2]; exact H.out.top H.out.sz (Nat.le_refl _), Ch.refl _ _⟩
end
end Go.Proofs.Ytnojglfaijhiaaa.Dk
