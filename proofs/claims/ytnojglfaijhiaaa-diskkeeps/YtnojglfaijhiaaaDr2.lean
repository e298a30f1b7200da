/-
  Layer 13: the document's New, Append.
-/
import Derived.Test.YtnojglfaijhiaaaDr1
namespace Go.Proofs.Ytnojglfaijhiaaa.Dk
open Go.RowKit
open Mem
set_option linter.unusedVariables false
set_option linter.unusedSimpArgs false

theorem infoT : (Try.prog.info? 9).map (fun i => (i.zero, i.size, i.bytes)) = some (some (.string ⟨#[]⟩), 1, 16) := by kernel_rfl
def zs (m : Nat) : Obj := .cells (madeCells #[.string ⟨#[]⟩] m) 9
theorem makeT (w : World) (m : Nat) (h : m ≤ 8) : (Instr.makeSlice 50 (.int .i64 (m : Int)) (.int .i64 (m : Int))).run Try.prog w = .ok (.slice (some ⟨w.heap.size, 0, none⟩) m m) (w.alloc (zs m)) := by
  obtain ⟨i, hi, hz0, hz1, hz2⟩ := info_parts infoT
  have := run_make (P := Try.prog) w 50 9 i _ Try.underlying50 hi hz0 .i64 .i64 (m : Int) (m : Int) (by omega) (Int.le_refl _) (by rw [hz2]; omega) (by omega)
  rw [this, hz1, Int.toNat_natCast, Nat.mul_one]
  rfl
theorem zs_list (m : Nat) : (madeCells #[.string ⟨#[]⟩] m).toList = rc txt (fun _ => ⟨#[]⟩) m := by
  rw [toList_madeCells_one]
  induction m with
  | zero => rfl
  | succ m ih =>
    rw [rc, ← ih, List.replicate_succ']
    rfl
theorem zs_own (w : World) (m : Nat) (hm : m ≤ 8) : (w.alloc (zs m)).ownsRow w.heap.size 9 1 (.slice (some ⟨w.heap.size, 0, none⟩) m m) m (rc txt (fun _ => ⟨#[]⟩) m) := by
  have h2 := World.ownsRow_lit (base := w.heap.size) (size := 1) (e := 9) w (madeCells #[.string ⟨#[]⟩] m) m (Nat.le_refl _) (by unfold maxLen; omega) (by rw [size_madeCells, Nat.mul_one])
  rw [zs_list m] at h2
  exact h2
section
variable {w w' : World} {B g ra rb n room : Nat} {A E : Nat → ByteArray} {t : Nat → ByteArray} {s : Nat → Nat}
theorem tot_empty2 : ∀ n, tot (fun _ => (⟨#[]⟩ : ByteArray) ++ (⟨#[]⟩ : ByteArray)) n = 0
  | 0 => rfl
  | n + 1 => by rw [tot, tot_empty2 n]; rfl
theorem RK0.made (w : World) (h1 : 0 < n) (hn : n ≤ 8) (hr : room ≤ 16777216) {ra rb : Nat} (hab : ra = w.heap.size ∧ rb = w.heap.size + 1 ∨ rb = w.heap.size ∧ ra = w.heap.size + 1) :
    RK0 (((w.alloc (zs n)).alloc (zs n)).alloc (.cells #[.slice (some ⟨ra, 0, none⟩) n n, .slice (some ⟨rb, 0, none⟩) n n, .int .i64 room] 52)) w.heap.size (w.heap.size + 1 + 1) ra rb n (fun _ => ⟨#[]⟩) (fun _ => ⟨#[]⟩) room := by
  have hz : (w.alloc (zs n)).heap.size = w.heap.size + 1 := by simp
  have hz2 : ((w.alloc (zs n)).alloc (zs n)).heap.size = w.heap.size + 1 + 1 := by simp
  have o1 := (zs_own w n hn)
  have o2 := zs_own (w.alloc (zs n)) n hn
  rw [hz] at o2
  have o3 := World.ownsRow_lit (base := w.heap.size) (size := 3) (e := 52) ((w.alloc (zs n)).alloc (zs n)) #[.slice (some ⟨ra, 0, none⟩) n n, .slice (some ⟨rb, 0, none⟩) n n, .int .i64 room] 1 (by omega) (by unfold maxLen; omega) rfl
  rw [hz2] at o3
  have p1 := (World.ownsRow.alloc (World.ownsRow.alloc o1 (zs n)) (.cells #[.slice (some ⟨ra, 0, none⟩) n n, .slice (some ⟨rb, 0, none⟩) n n, .int .i64 room] 52))
  have p2 := own_up (B' := w.heap.size) (World.ownsRow.alloc o2 (.cells #[.slice (some ⟨ra, 0, none⟩) n n, .slice (some ⟨rb, 0, none⟩) n n, .int .i64 room] 52)) (by omega)
  have hsum : tot (fun i => (⟨#[]⟩ : ByteArray) ++ (⟨#[]⟩ : ByteArray)) n ≤ room := by rw [tot_empty2]; omega
  rcases hab with ⟨e1, e2⟩ | ⟨e1, e2⟩
  · subst e1 e2; exact ⟨o3, p1, p2, by omega, hsum, hr, hn, h1⟩
  · subst e1 e2; exact ⟨o3, p2, p1, by omega, hsum, hr, hn, h1⟩
set_option maxHeartbeats 4000000 in
theorem rnew_ok (h1 : 0 < n) (hn : n ≤ 8) (hr : room ≤ 16777216) (w : World) : Calls Try.prog 8 #[.int .i64 n, .int .i64 room] w fun r w' =>
    ∃ g ra rb, r = .returned (.tuple #[.pointer (some ⟨g, 0, none⟩), .int .i64 0]) ∧ RK w' w.heap.size g ra rb n (fun _ => ⟨#[]⟩) (fun _ => 0) room ∧ Q w w' := by
  have M1 := makeT w.drew n hn
  have M2 := makeT (w.alloc (zs n)).drew n hn
  have d1 : decide ((n : Int) < 1) = false := by simp; omega
  have d2 : decide ((8 : Int) < (n : Int)) = false := by simp; omega
  have d3 : decide ((room : Int) < 0) = false := by simp
  have d4 : decide ((16777216 : Int) < (room : Int)) = false := by simp; omega
  have R := Lib.hid (fun (ra rb : Nat) hab => RK0.made (n := n) (room := room) w h1 hn hr (ra := ra) (rb := rb) hab)
  clear h1 hn hr
  go_enter Try.func8, Try.ntmps8
  go_wp2_with fail
  go_region
  · go_wp2_with fail
    refine bodyPost_ret (results_tmp2 rfl _ _ _) rfl ?_
    exact ⟨_, _, _, rfl, ⟨_, _, (R.out _ _ (.inl ⟨rfl, rfl⟩)).q (Q.refl _).drew, fun i _ => ⟨rfl, rfl⟩⟩, ((((Q.refl w).alloc _).alloc _).alloc _).drew⟩
  · go_wp2_with fail
    refine bodyPost_ret (results_tmp2 rfl _ _ _) rfl ?_
    exact ⟨_, _, _, rfl, ⟨_, _, (R.out _ _ (.inr ⟨rfl, rfl⟩)).q (Q.refl _).drew, fun i _ => ⟨rfl, rfl⟩⟩, ((((Q.refl w).alloc _).alloc _).alloc _).drew⟩
set_option maxHeartbeats 4000000 in
theorem rnew_bad {f r : Int} (h : ¬ (1 ≤ f ∧ f ≤ 8 ∧ 0 ≤ r ∧ r ≤ 16777216)) (w : World) : Calls Try.prog 8 #[.int .i64 f, .int .i64 r] w fun e w' =>
    e = .returned (.tuple #[.pointer none, .int .i64 1]) ∧ Q w w' := by
  have Q0 := Lib.hid (Q.refl w)
  by_cases h1 : f < 1
  · clear h
    go_enter Try.func8, Try.ntmps8
    go_wp2_with fail
    refine bodyPost_ret (results_tmp2 rfl _ _ _) rfl ?_
    exact ⟨rfl, Q0.out⟩
  by_cases h2 : 8 < f
  · clear h
    go_enter Try.func8, Try.ntmps8
    go_wp2_with fail
    refine bodyPost_ret (results_tmp2 rfl _ _ _) rfl ?_
    exact ⟨rfl, Q0.out⟩
  have d1 : decide (f < 1) = false := by simp; omega
  have d2 : decide (8 < f) = false := by simp; omega
  by_cases h3 : r < 0
  · clear h
    go_enter Try.func8, Try.ntmps8
    go_wp2_with fail
    refine bodyPost_ret (results_tmp2 rfl _ _ _) rfl ?_
    exact ⟨rfl, Q0.out⟩
  have d3 : decide (r < 0) = false := by simp; omega
  by_cases h4 : 16777216 < r
  · clear h
    go_enter Try.func8, Try.ntmps8
    go_wp2_with fail
    refine bodyPost_ret (results_tmp2 rfl _ _ _) rfl ?_
    exact ⟨rfl, Q0.out⟩
  exact absurd ⟨by omega, by omega, by omega, by omega⟩ h
/-- One text of a row is another one. -/
theorem txt_put {b : Nat} (h : w.ownsRow B 9 1 (.slice (some ⟨b, 0, none⟩) n n) n (rc txt A n)) {i : Nat} (hi : i < n) (y : ByteArray) :
    (w.setCell ⟨b, i, none⟩ (.string y)).ownsRow B 9 1 (.slice (some ⟨b, 0, none⟩) n n) n (rc txt (put A i y) n) ∧ Ch b w (w.setCell ⟨b, i, none⟩ (.string y)) := by
  obtain ⟨h1, h2⟩ := World.ownsRow.stored h i (.string y)
  have e := rc_put (C := txt) (f := A) (k := 1) txt_len i 0 y (.string y) rfl (by decide) n hi
  rw [Nat.mul_one] at e
  have e' : i + 0 = i := rfl
  rw [e'] at e
  rw [e] at h1
  exact ⟨h1, h2⟩
theorem RK0.fz_a (h : RK0 w B g ra rb n A E room) (j : Nat) : w.frozen? ⟨ra, j, none⟩ = false := World.ownsRow.frozenAt h.a j
theorem RK0.fz_e (h : RK0 w B g ra rb n A E room) (j : Nat) : w.frozen? ⟨rb, j, none⟩ = false := World.ownsRow.frozenAt h.e j
theorem RK0.set_e (h : RK0 w B g ra rb n A E room) {i : Nat} (hi : i < n) (y : ByteArray) (hs : tot (fun j => A j ++ E j) n + y.size ≤ room + (E i).size) :
    RK0 (w.setCell ⟨rb, i, none⟩ (.string y)) B g ra rb n A (put E i y) room ∧ Ch rb w (w.setCell ⟨rb, i, none⟩ (.string y)) := by
  obtain ⟨h1, h2⟩ := txt_put h.e hi y
  have hty := own_ty h.e (k := rb) rfl
  refine ⟨⟨own_keep h.d fun k hk => h2.block k (World.ownsRow.lt h.d k hk).2 (fun e => by injection e with e; subst e; exact absurd ((own_ty h.d hk).one hty) (by decide)),
    own_keep h.a fun k hk => h2.block k (World.ownsRow.lt h.a k hk).2 (fun e => by injection e with e; injection hk with hk; exact h.ne (hk.trans e)), h1, h.ne, ?_, h.hr, h.hn, h.n1⟩, h2⟩
  have e : (fun j => A j ++ put E i y j) = put (fun j => A j ++ E j) i (A i ++ y) := by
    funext j
    unfold put
    by_cases e : j = i
    · subst e; rw [if_pos rfl, if_pos rfl]
    · rw [if_neg e, if_neg e]
  rw [e]
  have h3 := tot_put (t := fun j => A j ++ E j) (i := i) (A i ++ y) hi
  have h4 : (A i ++ y).size = (A i).size + y.size := by simp
  have h5 : (A i ++ E i).size = (A i).size + (E i).size := by simp
  omega
theorem RK0.set_a (h : RK0 w B g ra rb n A E room) {i : Nat} (hi : i < n) (y : ByteArray) (hs : tot (fun j => A j ++ E j) n + y.size ≤ room + (A i).size) :
    RK0 (w.setCell ⟨ra, i, none⟩ (.string y)) B g ra rb n (put A i y) E room ∧ Ch ra w (w.setCell ⟨ra, i, none⟩ (.string y)) := by
  obtain ⟨h1, h2⟩ := txt_put h.a hi y
  have hty := own_ty h.a (k := ra) rfl
  refine ⟨⟨own_keep h.d fun k hk => h2.block k (World.ownsRow.lt h.d k hk).2 (fun e => by injection e with e; subst e; exact absurd ((own_ty h.d hk).one hty) (by decide)), h1,
    own_keep h.e fun k hk => h2.block k (World.ownsRow.lt h.e k hk).2 (fun e => by injection e with e; injection hk with hk; exact h.ne (e.symm.trans hk.symm)), h.ne, ?_, h.hr, h.hn, h.n1⟩, h2⟩
  have e : (fun j => put A i y j ++ E j) = put (fun j => A j ++ E j) i (y ++ E i) := by
    funext j
    unfold put
    by_cases e : j = i
    · subst e; rw [if_pos rfl, if_pos rfl]
    · rw [if_neg e, if_neg e]
  rw [e]
  have h3 := tot_put (t := fun j => A j ++ E j) (i := i) (y ++ E i) hi
  have h4 : (y ++ E i).size = y.size + (E i).size := by simp
  have h5 : (A i ++ E i).size = (A i).size + (E i).size := by simp
  omega
theorem fo_a {w w' : World} {ra rb : Nat} (c : Ch ra w w') : Fo (SR ra rb) w w' := Fo.of_ch c (.inl rfl)
theorem fo_b {w w' : World} {ra rb : Nat} (c : Ch rb w w') : Fo (SR ra rb) w w' := Fo.of_ch c (.inr rfl)
set_option maxHeartbeats 4000000 in
set_option maxRecDepth 100000 in
theorem rappend_x (h : RK w B g ra rb n t s room) (f : Int) (x : ByteArray) : Calls Try.prog 25 #[.pointer (some ⟨g, 0, none⟩), .int .i64 f, .string x] w fun r w' =>
    r = .returned (.int .i64 (apE n room t f x)) ∧ RK w' B g ra rb n (apT n room t f x) s room ∧ Fo (SR ra rb) w w' := by
  have hh := Lib.hid (rhas_x h f)
  have hfr := Lib.hid (rfree_x h)
  have H := Lib.hid h
  obtain ⟨A, E, h, e⟩ := h
  by_cases hi : inn n f = true
  · obtain ⟨i, rfl, hi'⟩ := inn_t hi
    rw [hi] at hh
    by_cases hfu : frV n room t < (x.size : Int)
    · have e1 : Hid (apE n room t (i : Int) x = 9 ∧ apT n room t (i : Int) x = t) := by
        have : apE n room t (i : Int) x = 9 := by unfold apE; rw [if_pos hi, if_pos hfu]
        exact ⟨this, by unfold apT; rw [this]; rfl⟩
      have d1 : decide (frV n room t < (x.size : Int)) = true := by simpa using hfu
      clear h e hfu hi
      go_enter Try.func25, Try.ntmps25
      go_wp2_with fail
      refine hh.out.mono ?_
      rintro r w1 ⟨rfl, rfl⟩
      go_wp2_with fail
      refine hfr.out.mono ?_
      rintro r w1 ⟨rfl, q1⟩
      have Q1 := Lib.hid q1
      clear q1
      go_wp2_with fail
      refine bodyPost_ret (results_tmp rfl _ _ _) rfl ?_
      exact ⟨by rw [e1.out.1]; rfl, by rw [e1.out.2]; exact H.out.q Q1.out, Fo.of_q _ Q1.out⟩
    · have e1 : Hid (apE n room t (i : Int) x = 0 ∧ apT n room t (i : Int) x = put t i (t i ++ x)) := by
        have : apE n room t (i : Int) x = 0 := by unfold apE; rw [if_pos hi, if_neg hfu]
        exact ⟨this, by unfold apT; rw [this]; rfl⟩
      have d1 : decide (frV n room t < (x.size : Int)) = false := by simpa using hfu
      have hsz : tot (fun j => A j ++ E j) n + x.size ≤ room := by
        rw [h.tot_eq e]
        unfold frV at hfu; omega
      have hxs : x.size ≤ 16777216 := by have := h.hr; omega
      have HE := Lib.hid e
      have HD := Lib.hid h
      have HS := Lib.hid hsz
      have hi3 := Lib.hid hi'
      have i0 : (0 : Int) ≤ (i : Int) := by omega
      have i1 : (i : Int) < (n : Int) := by omega
      clear h e hfu hi hsz hi' H
      go_enter Try.func25, Try.ntmps25
      go_wp2_with fail
      refine hh.out.mono ?_
      rintro r w1 ⟨rfl, rfl⟩
      go_wp2_with fail
      refine hfr.out.mono ?_
      rintro r w1 ⟨rfl, q1⟩
      have Q1 := Lib.hid q1
      have D := HD.out.q q1
      have c1 := D.g1
      have y0 := D.e0 hi3.out
      have f0 := D.fz_e i
      have hz := D.sz hi3.out
      have hz2 : (E i).size ≤ 16777216 := by omega
      have R := Lib.hid (D.set_e hi3.out (E i ++ x) (by have h4 : (E i ++ x).size = (E i).size + x.size := by simp
                                                        have := HS.out
                                                        omega))
      clear D hz q1
      generalize hEi : E i = y at *
      have hEi := Lib.hid hEi
      go_wp2_with fail
      go_region
      go_wp2_with fail
      refine bodyPost_ret (results_tmp rfl _ _ _) rfl ?_
      refine ⟨by rw [e1.out.1]; rfl, ⟨_, _, R.out.1.q (Q.refl _).drew, fun j hj => ?_⟩, ((Fo.of_q _ Q1.out).trans (fo_b R.out.2)).trans (Fo.of_q _ (Q.refl _).drew)⟩
      rw [e1.out.2]
      by_cases e : j = i
      · subst e
        rw [put_same, put_same]
        refine ⟨?_, (HE.out j hj).2⟩
        rw [← (HE.out j hj).1, hEi.out, ByteArray.append_assoc]
      · rw [put_other E _ e, put_other t _ e]; exact HE.out j hj
  · have hi2 : inn n f = false := by simpa using hi
    have e1 : Hid (apE n room t f x = 1 ∧ apT n room t f x = t) := by
      have : apE n room t f x = 1 := by unfold apE; rw [hi2]; rfl
      exact ⟨this, by unfold apT; rw [this]; rfl⟩
    rw [hi2] at hh
    clear h hi hi2 e
    go_enter Try.func25, Try.ntmps25
    go_wp2_with fail
    refine hh.out.mono ?_
    rintro r w1 ⟨rfl, rfl⟩
    go_wp2_with fail
    refine bodyPost_ret (results_tmp rfl _ _ _) rfl ?_
    exact ⟨by rw [e1.out.1]; rfl, by rw [e1.out.2]; exact H.out, Fo.of_q _ (Q.refl _)⟩
end
end Go.Proofs.Ytnojglfaijhiaaa.Dk
