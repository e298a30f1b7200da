/-
  Layer 13: the program's Sync, Append, Cut, Swap.
-/
import Derived.Test.YtnojglfaijhiaaaDk4
import Derived.BigRegion
namespace Go.Proofs.Ytnojglfaijhiaaa.Dk
open Go.RowKit
open Mem
set_option linter.unusedVariables false
set_option linter.unusedSimpArgs false

section
variable {w : World} {B T g b n room : Nat} {F : Nat → FL} {t : Nat → ByteArray} {s : Nat → Nat}
/-- So many bytes of a file are sure. -/
theorem DK0.set_s (h : DK0 w B T g b n F room) {i : Nat} (hi : i < n) (v : Nat) (hv : v ≤ (F i).t.size) :
    DK0 (w.setCell ⟨b, i * 2 + 1, none⟩ (.int .i64 v)) B T g b n (put F i ⟨(F i).a, (F i).c, (F i).t, v⟩) room ∧ Ch b w (w.setCell ⟨b, i * 2 + 1, none⟩ (.int .i64 v)) := by
  obtain ⟨h1, h2⟩ := World.ownsRow.stored h.f (i * 2 + 1) (.int .i64 v)
  refine ⟨?_, h2⟩
  rw [rc_put (k := 2) fl_len i 1 ⟨(F i).a, (F i).c, (F i).t, v⟩ (.int .i64 v) rfl (by decide) n hi] at h1
  have hty := own_ty h.f (k := b) rfl
  have ne : ∀ k e, Ty w k e → e ≠ 55 → k ≠ b := fun k e hk he e2 => by subst e2; exact he (hk.one hty)
  refine h.swap1 (x := ⟨(F i).a, (F i).c, (F i).t, v⟩) hi (Nat.le_refl _) (Nat.le_trans h.sz (by simp)) (own_keep h.d fun k hk => h2.block k (World.ownsRow.lt h.d k hk).2 (fun e => ?_)) h1 (fun j hj _ => own_keep (h.r j hj) fun k hk => h2.block k (World.ownsRow.lt (h.r j hj) k hk).2 (fun e => ?_))
    (own_keep (h.r i hi) fun k hk => h2.block k (World.ownsRow.lt (h.r i hi) k hk).2 (fun e => ?_)) (fun k hk => ⟨.inl hk, h.rT i hi k hk⟩) hv (by have := h.sum; show _ + (F i).t.size ≤ _; omega)
  · injection e with e; exact ne k _ (own_ty h.d hk) (by decide) e
  · injection e with e; exact ne k _ (own_ty (h.r j hj) hk) (by decide) e
  · injection e with e; exact ne k _ (own_ty (h.r i hi) hk) (by decide) e
set_option maxHeartbeats 4000000 in
set_option maxRecDepth 100000 in
theorem sync_x (h : DK w B T g b n t s room) (f : Int) : Calls Try.prog 11 #[.pointer (some ⟨g, 0, none⟩), .int .i64 f] w fun r w' =>
    r = .returned (.int .i64 (syE n f)) ∧ DK w' B T g b n t (syS n t s f) room ∧ Ch b w w' := by
  have hh := Lib.hid (has_x h f)
  have H := Lib.hid h
  obtain ⟨F, h, e⟩ := h
  by_cases hi : inn n f = true
  · obtain ⟨i, rfl, hi'⟩ := inn_t hi
    have e1 : Hid (syE n (i : Int) = 0 ∧ syS n t s (i : Int) = put s i (t i).size) := by refine ⟨?_, ?_⟩ <;> (first | unfold syE | unfold syS) <;> rw [if_pos hi] <;> rfl
    have c0 := h.g0
    have c1 := h.b0 hi'
    have c2 := h.b1 hi'
    have f2 := h.fz (i * 2 + 1)
    have HF := Lib.hid (h.set_s hi' (F i).t.size (Nat.le_refl _))
    have i0 : (0 : Int) ≤ (i : Int) := by omega
    have i1 : (i : Int) < (n : Int) := by omega
    rw [hi] at hh
    have HE := Lib.hid e
    have hi3 := Lib.hid hi'
    clear h hi e hi' H
    go_enter Try.func11, Try.ntmps11
    go_wp2_with fail
    refine hh.out.mono ?_
    rintro r w1 ⟨rfl, rfl⟩
    go_wp2_with fail
    go_region
    go_wp2_with fail
    refine bodyPost_ret (results_tmp rfl _ _ _) rfl ?_
    refine ⟨by rw [e1.out.1]; rfl, ⟨_, HF.out.1.q (Q.refl _).drew, fun j hj => ?_⟩, HF.out.2.trans (Ch.of_q (Q.refl _).drew _)⟩
    rw [e1.out.2]
    by_cases e : j = i
    · subst e; rw [put_same, put_same]; exact ⟨(HE.out j hj).1, by rw [← (HE.out j hj).1]⟩
    · rw [put_other F _ e, put_other s _ e]; exact HE.out j hj
  · have hi2 : inn n f = false := by simpa using hi
    have e1 : Hid (syE n f = 1 ∧ syS n t s f = s) := by refine ⟨?_, ?_⟩ <;> (first | unfold syE | unfold syS) <;> rw [hi2] <;> rfl
    rw [hi2] at hh
    clear h hi hi2 e
    go_enter Try.func11, Try.ntmps11
    go_wp2_with fail
    refine hh.out.mono ?_
    rintro r w1 ⟨rfl, rfl⟩
    go_wp2_with fail
    refine bodyPost_ret (results_tmp rfl _ _ _) rfl ?_
    exact ⟨by rw [e1.out.1]; rfl, by rw [e1.out.2]; exact H.out, Ch.refl _ _⟩
/-- A whole row of files is written. -/
theorem DK0.set_row (h : DK0 w B T g b n F room) {i T' : Nat} (hi : i < n) (x : FL) (hT : T ≤ T') (hz : T' ≤ w.heap.size) (rx : w.ownsRow B 5 1 (.slice x.a x.t.size x.c) x.t.size (Lib.strCells x.t))
    (hx : ∀ k, blk x.a = some k → (blk (F i).a = some k ∨ T ≤ k) ∧ k < T') (hs : x.s ≤ x.t.size) (hsum : tot (fun j => (F j).t) n + x.t.size ≤ room + (F i).t.size) :
    DK0 (w.setCells b (i * 2) x.cells) B T' g b n (put F i x) room ∧ Ch b w (w.setCells b (i * 2) x.cells) := by
  obtain ⟨h1, h2⟩ := World.ownsRow.stored h.f (i * 2) (.slice x.a x.t.size x.c)
  obtain ⟨h3, h4⟩ := World.ownsRow.stored h1 (i * 2 + 1) (.int .i64 x.s)
  have h5 : Ch b w (w.setCells b (i * 2) x.cells) := Ch.trans h2 h4
  refine ⟨?_, h5⟩
  rw [show i * 2 = i * 2 + 0 from rfl, rc_put (k := 2) fl_len i 0 ⟨x.a, x.c, x.t, (F i).s⟩ (.slice x.a x.t.size x.c) rfl (by decide) n hi, ← show i * 2 = i * 2 + 0 from rfl,
    rc_put (k := 2) fl_len i 1 x (.int .i64 x.s) (by rw [put_same]; rfl) (by decide) n hi] at h3
  have e : put (put F i ⟨x.a, x.c, x.t, (F i).s⟩) i x = put F i x := by funext j; unfold put; split <;> rfl
  rw [e] at h3
  have hty := own_ty h.f (k := b) rfl
  have ne : ∀ k e, Ty w k e → e ≠ 55 → k ≠ b := fun k e hk he e2 => by subst e2; exact he (hk.one hty)
  refine h.swap1 (x := x) hi hT (Nat.le_trans hz h5.size) (own_keep h.d fun k hk => h5.block k (World.ownsRow.lt h.d k hk).2 (fun e => ?_)) h3 (fun j hj _ => own_keep (h.r j hj) fun k hk => h5.block k (World.ownsRow.lt (h.r j hj) k hk).2 (fun e => ?_))
    (own_keep rx fun k hk => h5.block k (World.ownsRow.lt rx k hk).2 (fun e => ?_)) hx hs hsum
  · injection e with e; exact ne k _ (own_ty h.d hk) (by decide) e
  · injection e with e; exact ne k _ (own_ty (h.r j hj) hk) (by decide) e
  · injection e with e; exact ne k _ (own_ty rx hk) (by decide) e
/-- append of a text's bytes, with where they lie. -/
theorem app_at {a : Option Addr} {c : Nat} {y x : ByteArray} (h : w.ownsRow B 5 1 (.slice a y.size c) y.size (Lib.strCells y)) (hB : B ≤ w.heap.size) (hz : y.size + x.size ≤ 16777216) :
    ∃ a' c' w', (Builtin.append_ #[53, 9] 53 #[.slice a y.size c, .string x]).run Try.prog w = .ok (.slice a' (y ++ x).size c') w' ∧
      w'.ownsRow B 5 1 (.slice a' (y ++ x).size c') (y ++ x).size (Lib.strCells (y ++ x)) ∧ (blk a' = blk a ∨ blk a' = some w.heap.size) ∧ w.grownBy w' (blk a) := by
  obtain ⟨i, hi, hz0, hz1, hz2⟩ := info_parts infoB
  have hsz : (y ++ x).size = y.size + x.size := by simp
  have hcells : Lib.strCells (y ++ x) = Lib.strCells y ++ Lib.strCells x := by
    unfold Lib.strCells
    rw [← List.map_append]
    congr 1
  obtain ⟨v', w', hr, hown, hgr, hnil⟩ := Lib.run_append_own_string (P := Try.prog) w B 53 9 53 5 i Try.underlying53 Try.underlying9 hi hz0 hz1 hz2 (.slice a y.size c) y.size (Lib.strCells y) h x (by unfold maxLen; omega) (by omega) hB
  rw [own_blk] at hgr
  rw [← hcells, ← hsz] at hown
  have hloc : v'.ownBlock = blk a ∨ v'.ownBlock = some w.heap.size := by
    rcases h.2 with ⟨e, e2⟩ | ⟨g, cap, cur, e, _, hg, hnc, hcm, hcs, _⟩
    · simp only [Value.slice.injEq] at e
      obtain ⟨⟨rfl, _⟩, e3, rfl⟩ := e
      by_cases h0 : x.size = 0
      · have := hnil.2 ⟨by rw [e2], h0⟩
        rw [this]; exact .inl rfl
      · have hr' := run_append_nil_string (P := Try.prog) w 53 9 53 5 i _ Try.underlying53 Try.underlying9 hi hz0 x (by omega) (by omega) (by rw [hz2]; omega)
        rw [e2, hr'] at hr
        injection hr with hr _
        rw [← hr]; exact .inr rfl
    · simp only [Value.slice.injEq] at e
      obtain ⟨rfl, _, rfl⟩ := e
      by_cases hroom : y.size + x.size ≤ c
      · have hr' := Lib.run_append_room_string (P := Try.prog) w 53 9 53 5 i Try.underlying53 Try.underlying9 hi hz1 g y.size c cur hg x hroom (by omega)
        rw [hr'] at hr
        injection hr with hr _
        rw [← hr]; exact .inl rfl
      · have holds : ∀ j u, (Lib.strCells y)[j]? = some u → w.cell? ((⟨g, 0, none⟩ : Addr).add j) = some u := World.ownsRow.cells h (g := g) rfl
        have hr' := Lib.run_append_grow_string (P := Try.prog) w 53 9 53 5 i _ Try.underlying53 Try.underlying9 hi hz0 ⟨g, 0, none⟩ y.size c (Lib.strCells y) (by rw [hz1, Lib.strCells_length, Nat.mul_one]) holds x (by omega) (by omega) (by rw [hz2]; exact growslice_fits (by omega) (by omega))
        rw [hr'] at hr
        injection hr with hr _
        rw [← hr]; exact .inr rfl
  obtain ⟨a', c', rfl⟩ : ∃ a' c', v' = .slice a' (y ++ x).size c' := by
    rcases hown.2 with ⟨e, e2⟩ | ⟨g, cap, cur, e, _⟩
    · exact ⟨none, 0, by rw [e, e2]⟩
    · exact ⟨_, _, e⟩
  rw [own_blk] at hloc
  exact ⟨a', c', w', hr, hown, hloc, hgr⟩
/-- A text's bytes are appended to a file's. -/
theorem app_run (h : DK0 w B T g b n F room) {i : Nat} (hi : i < n) (x : ByteArray) (hx : tot (fun j => (F j).t) n + x.size ≤ room) : ∃ a' c' w1,
    (Builtin.append_ #[53, 9] 53 #[.slice (F i).a (F i).t.size (F i).c, .string x]).run Try.prog w = .ok (.slice a' ((F i).t ++ x).size c') w1 ∧
    DK0 (w1.setCell ⟨b, i * 2, none⟩ (.slice a' ((F i).t ++ x).size c')) B w1.heap.size g b n (put F i ⟨a', c', (F i).t ++ x, (F i).s⟩) room ∧ Fo (SD w b B T) w (w1.setCell ⟨b, i * 2, none⟩ (.slice a' ((F i).t ++ x).size c')) ∧
    w1.cell? ⟨g, 0, none⟩ = some (.slice (some ⟨b, 0, none⟩) n n) ∧ w1.cell? ⟨b, i * 2, none⟩ = some (.slice (F i).a (F i).t.size (F i).c) ∧ w1.frozen? ⟨b, i * 2, none⟩ = false := by
  have hri := h.r i hi
  have hti := tot_at (t := fun j => (F j).t) hi
  have hbB := h.b_lt
  have hT := h.sz
  have hroom := h.hr
  have hsz : ((F i).t ++ x).size = (F i).t.size + x.size := by simp
  have hti' : (F i).t.size ≤ tot (fun j => (F j).t) n := hti
  obtain ⟨a', c', w1, hr, hown, hloc, hgr⟩ := app_at (x := x) hri (by omega) (by omega)
  have hnot : ∀ k e, Ty w k e → e ≠ 5 → some k ≠ blk (F i).a := fun k e hk he e2 => he (hk.one (own_ty hri (k := k) (by rw [own_blk]; exact e2.symm)))
  have hd := own_keep (w' := w1) h.d fun k hk => hgr.block k (World.ownsRow.lt h.d k hk).2 (hnot k _ (own_ty h.d hk) (by decide))
  have hf := own_keep (w' := w1) h.f fun k hk => hgr.block k (World.ownsRow.lt h.f k hk).2 (hnot k _ (own_ty h.f hk) (by decide))
  have hfo : ∀ j, j < n → j ≠ i → w1.ownsRow B 5 1 (.slice (F j).a (F j).t.size (F j).c) (F j).t.size (Lib.strCells (F j).t) := fun j hj hne => own_keep (h.r j hj) fun k hk => hgr.block k (World.ownsRow.lt (h.r j hj) k hk).2 (fun e => by
    rw [own_blk] at hk
    exact h.ap j i hj hi hne k hk e.symm)
  obtain ⟨s1, s2⟩ := World.ownsRow.stored hf (i * 2) (.slice a' ((F i).t ++ x).size c')
  have s3 : Ch b w1 (w1.setCell ⟨b, i * 2, none⟩ (.slice a' ((F i).t ++ x).size c')) := s2
  rw [show i * 2 = i * 2 + 0 from rfl, rc_put (k := 2) fl_len i 0 ⟨a', c', (F i).t ++ x, (F i).s⟩ (.slice a' ((F i).t ++ x).size c') rfl (by decide) n hi, ← show i * 2 = i * 2 + 0 from rfl] at s1
  have hty := own_ty hf (k := b) rfl
  have ne : ∀ k e, Ty w1 k e → e ≠ 55 → some k ≠ some b := fun k e hk he e2 => by injection e2 with e2; subst e2; exact he (hk.one hty)
  refine ⟨a', c', w1, hr, ?_, ?_, World.ownsRow.cellAt hd 0 (by decide), ?_, World.ownsRow.frozenAt hf _⟩
  · have hlt := World.ownsRow.lt hown
    have hg1 := hgr.size
    refine h.swap1 (x := ⟨a', c', (F i).t ++ x, (F i).s⟩) hi (by omega) (by simp) (own_keep hd fun k hk => s2.block k (World.ownsRow.lt hd k hk).2 (ne k _ (own_ty hd hk) (by decide))) s1 (fun j hj hne => own_keep (hfo j hj hne) fun k hk => s2.block k (World.ownsRow.lt (hfo j hj hne) k hk).2 (ne k _ (own_ty (hfo j hj hne) hk) (by decide)))
      (own_keep hown fun k hk => s2.block k (World.ownsRow.lt hown k hk).2 (ne k _ (own_ty hown hk) (by decide))) (fun k hk => ?_) (by have := h.sure i hi; show (F i).s ≤ ((F i).t ++ x).size; omega) (by show _ + ((F i).t ++ x).size ≤ _; omega)
    have hk' := hlt k (by rw [own_blk]; exact hk)
    refine ⟨?_, hk'.2⟩
    rcases hloc with e | e
    · left; rw [← e]; exact hk
    · right
      have : some k = some w.heap.size := hk.symm.trans e
      injection this with this
      omega
  · refine ⟨s2.os.trans hgr.os, s2.tape.trans hgr.tape, s2.output.trans hgr.output, Nat.le_trans hgr.size s2.size, fun k hk hn => ?_⟩
    rw [s2.block k (Nat.lt_of_lt_of_le hk hgr.size) (fun e => hn (by injection e with e; exact .inl e))]
    refine hgr.block k hk (fun e => hn (.inr ?_))
    have h1 := World.ownsRow.lt hri k (by rw [own_blk]; exact e.symm)
    exact ⟨h1.1, h.rT i hi k e.symm, own_ty hri (by rw [own_blk]; exact e.symm)⟩
  · rw [World.ownsRow.cellAt hf _ (by omega)]
    exact rc_get fl_len i 0 _ rfl n hi
end
end Go.Proofs.Ytnojglfaijhiaaa.Dk
