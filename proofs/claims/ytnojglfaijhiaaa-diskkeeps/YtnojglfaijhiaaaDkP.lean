/-
  Layer 13: the statements' play: one call of a script, of both disks.
-/
import Derived.Test.YtnojglfaijhiaaaDkI
import Derived.Test.YtnojglfaijhiaaaDr4
import Derived.Deep.RegionHeld
import Derived.Deep.RegionHeld3
namespace Go.Proofs.Ytnojglfaijhiaaa.Dk
open Go.RowKit
open Mem Plan
set_option linter.unusedVariables false
set_option linter.unusedSimpArgs false

section
variable {w w' : World} {B T g b n room Br h ra rb : Nat} {t : Nat → ByteArray} {s : Nat → Nat}
/-- Both disks are in one state. -/
structure Two (w : World) (B T g b n Br h ra rb : Nat) (t : Nat → ByteArray) (s : Nat → Nat) (room : Nat) : Prop where
  d : DK w B T g b n t s room
  r : RK w Br h ra rb n t s room
theorem Two.q (k : Two w B T g b n Br h ra rb t s room) (q : Q w w') : Two w' B T g b n Br h ra rb t s room := ⟨k.d.q q, k.r.q q⟩
theorem RK.ha (k : RK w Br h ra rb n t s room) : Br ≤ ra ∧ Br ≤ rb ∧ Ty w ra 9 ∧ Ty w rb 9 := by obtain ⟨A, E, k, _⟩ := k; exact ⟨k.a_lt.1, k.e_lt.1, own_ty k.a rfl, own_ty k.e rfl⟩
/-- The program's calls leave the document's disk. -/
theorem RK.over {S : Nat → Prop} (k : RK w Br h ra rb n t s room) (c : Fo S w w') (hS : ∀ j, S j → Ty w j 55 ∨ Ty w j 5) : RK w' Br h ra rb n t s room := by
  obtain ⟨A, E, k, e⟩ := k
  refine ⟨A, E, k.keep fun j _ hj hT => c.block j hj fun hSj => ?_, e⟩
  rcases hS j hSj with h1 | h1 <;> rcases hT with h2 | h2 <;> exact absurd (h1.one h2) (by decide)
/-- The document's calls leave the program's disk. -/
theorem DK.over {S : Nat → Prop} (k : DK w B T g b n t s room) (c : Fo S w w') (hS : ∀ j, S j → Ty w j 9) : DK w' B T g b n t s room := by
  obtain ⟨F, k, e⟩ := k
  refine ⟨F, k.keep c.size fun j _ hj hT => c.block j (Nat.lt_of_lt_of_le hj k.sz) fun hSj => ?_, e⟩
  rcases hT with h2 | h2 | h2 <;> exact absurd ((hS j hSj).one h2) (by decide)
theorem sd_ty (k : DK w B T g b n t s room) (j : Nat) (hj : SD w b B T j) : Ty w j 55 ∨ Ty w j 5 := by
  rcases hj with rfl | ⟨_, _, h⟩
  · exact .inl k.bty
  · exact .inr h
theorem b_ty (k : DK w B T g b n t s room) (j : Nat) (hj : j = b) : Ty w j 55 ∨ Ty w j 5 := by subst hj; exact .inl k.bty
theorem sr_ty (k : RK w Br h ra rb n t s room) (j : Nat) (hj : SR ra rb j) : Ty w j 9 := by
  rcases hj with rfl | rfl
  · exact k.ha.2.2.1
  · exact k.ha.2.2.2
theorem Q.ty {k : Nat} {e : TypeId} (q : Q w w') (h : Ty w k e) : Ty w' k e := by
  obtain ⟨c, hc⟩ := h
  exact ⟨c, by rw [q.block k (Array.getElem?_eq_some_iff.1 hc).1]; exact hc⟩
/-- Where a script stands: the program's disk, the document's, and a box of the statements' own. -/
structure PS (W : World) (B g b n Br h ra rb room bx : Nat) (cs : List Value) (ty : TypeId) (td : Nat → ByteArray) (sd : Nat → Nat) (tr : Nat → ByteArray) (sr : Nat → Nat) (w : World) : Prop where
  d : DK w B w.heap.size g b n td sd room
  r : RK w Br h ra rb n tr sr room
  q : Q W w
  box : w.heap[bx]? = some (.cells cs.toArray ty (0, 0))
  nt : ty ≠ 55 ∧ ty ≠ 5 ∧ ty ≠ 9
  lB : W.heap.size ≤ B
  lR : W.heap.size ≤ Br
section
variable {W : World} {bx : Nat} {cs : List Value} {ty : TypeId} {td tr td' tr' : Nat → ByteArray} {sd sr sd' sr' : Nat → Nat}
theorem PS.cell (k : PS W B g b n Br h ra rb room bx cs ty td sd tr sr w) (j : Nat) (v : Value) (hv : cs[j]? = some v) : w.cell? ⟨bx, j, none⟩ = some v := by
  rw [cell_of_row w bx j _ _ _ k.box]; simpa using hv
theorem PS.qq (k : PS W B g b n Br h ra rb room bx cs ty td sd tr sr w) (q : Q w w') : PS W B g b n Br h ra rb room bx cs ty td sd tr sr w' :=
  ⟨(k.d.q q).top q.size (Nat.le_refl _), k.r.q q, k.q.trans q, by rw [q.block bx (Array.getElem?_eq_some_iff.1 k.box).1]; exact k.box, k.nt, k.lB, k.lR⟩
theorem PS.up_d {S : Nat → Prop} (k : PS W B g b n Br h ra rb room bx cs ty td sd tr sr w) (d : DK w' B w'.heap.size g b n td' sd' room) (c : Fo S w w') (hB : ∀ j, S j → B ≤ j) (hS : ∀ j, S j → Ty w j 55 ∨ Ty w j 5) : PS W B g b n Br h ra rb room bx cs ty td' sd' tr sr w' := by
  refine ⟨d, k.r.over c hS, c.q k.q fun j hj => Nat.le_trans k.lB (hB j hj), ?_, k.nt, k.lB, k.lR⟩
  rw [c.block bx (Array.getElem?_eq_some_iff.1 k.box).1 fun hs => ?_]
  · exact k.box
  · rcases hS bx hs with h1 | h1
    · exact k.nt.1 (Ty.one ⟨_, k.box⟩ h1)
    · exact k.nt.2.1 (Ty.one ⟨_, k.box⟩ h1)
theorem PS.up_r (k : PS W B g b n Br h ra rb room bx cs ty td sd tr sr w) (r : RK w' Br h ra rb n tr' sr' room) (c : Fo (SR ra rb) w w') : PS W B g b n Br h ra rb room bx cs ty td sd tr' sr' w' := by
  have hS := sr_ty k.r
  refine ⟨(k.d.over c hS).top c.size (Nat.le_refl _), r, c.q k.q fun j hj => Nat.le_trans k.lR (hj.elim (fun e => by rw [e]; exact k.r.ha.1) (fun e => by rw [e]; exact k.r.ha.2.1)), ?_, k.nt, k.lB, k.lR⟩
  rw [c.block bx (Array.getElem?_eq_some_iff.1 k.box).1 fun hs => k.nt.2.2 (Ty.one ⟨_, k.box⟩ (hS bx hs))]
  exact k.box
theorem PS.append_d (k : PS W B g b n Br h ra rb room bx cs ty td sd tr sr w) (f : Int) (x : ByteArray) : Calls Try.prog 10 #[.pointer (some ⟨g, 0, none⟩), .int .i64 f, .string x] w fun r w' =>
    r = .returned (.int .i64 (apE n room td f x)) ∧ PS W B g b n Br h ra rb room bx cs ty (apT n room td f x) sd tr sr w' :=
  (append_x k.d f x).mono fun r w' ⟨e, d, c⟩ => ⟨e, k.up_d d c (fun j hj => hj.elim (fun e => by rw [e]; exact k.d.b_lt.1) (fun e => e.1)) (sd_ty k.d)⟩
theorem PS.append_r (k : PS W B g b n Br h ra rb room bx cs ty td sd tr sr w) (f : Int) (x : ByteArray) : Calls Try.prog 25 #[.pointer (some ⟨h, 0, none⟩), .int .i64 f, .string x] w fun r w' =>
    r = .returned (.int .i64 (apE n room tr f x)) ∧ PS W B g b n Br h ra rb room bx cs ty td sd (apT n room tr f x) sr w' :=
  (rappend_x k.r f x).mono fun r w' ⟨e, d, c⟩ => ⟨e, k.up_r d c⟩
theorem PS.ch_d (k : PS W B g b n Br h ra rb room bx cs ty td sd tr sr w) {T' : Nat} (d : DK w' B T' g b n td' sd' room) (c : Ch b w w') : PS W B g b n Br h ra rb room bx cs ty td' sd' tr sr w' :=
  k.up_d (S := fun j => j = b) (d.top d.sz (Nat.le_refl _)) (Fo.of_ch c rfl) (fun j hj => by rw [hj]; exact k.d.b_lt.1) (fun j hj => b_ty k.d j hj)
theorem PS.sync_d (k : PS W B g b n Br h ra rb room bx cs ty td sd tr sr w) (f : Int) : Calls Try.prog 11 #[.pointer (some ⟨g, 0, none⟩), .int .i64 f] w fun r w' =>
    r = .returned (.int .i64 (syE n f)) ∧ PS W B g b n Br h ra rb room bx cs ty td (syS n td sd f) tr sr w' :=
  (sync_x k.d f).mono fun r w' ⟨e, d, c⟩ => ⟨e, k.ch_d d c⟩
theorem PS.sync_r (k : PS W B g b n Br h ra rb room bx cs ty td sd tr sr w) (f : Int) : Calls Try.prog 26 #[.pointer (some ⟨h, 0, none⟩), .int .i64 f] w fun r w' =>
    r = .returned (.int .i64 (syE n f)) ∧ PS W B g b n Br h ra rb room bx cs ty td sd tr (syS n tr sr f) w' :=
  (rsync_x k.r f).mono fun r w' ⟨e, d, c⟩ => ⟨e, k.up_r d c⟩
theorem PS.cut_d (k : PS W B g b n Br h ra rb room bx cs ty td sd tr sr w) (f m : Int) : Calls Try.prog 20 #[.pointer (some ⟨g, 0, none⟩), .int .i64 f, .int .i64 m] w fun r w' =>
    r = .returned (.int .i64 (cuE n td f m)) ∧ PS W B g b n Br h ra rb room bx cs ty (cuT n td f m) (cuS n td sd f m) tr sr w' :=
  (cut_x k.d f m).mono fun r w' ⟨e, d, c⟩ => ⟨e, k.ch_d d c⟩
theorem PS.cut_r (k : PS W B g b n Br h ra rb room bx cs ty td sd tr sr w) (f m : Int) : Calls Try.prog 27 #[.pointer (some ⟨h, 0, none⟩), .int .i64 f, .int .i64 m] w fun r w' =>
    r = .returned (.int .i64 (cuE n tr f m)) ∧ PS W B g b n Br h ra rb room bx cs ty td sd (cuT n tr f m) (cuS n tr sr f m) w' :=
  (rcut_x k.r f m).mono fun r w' ⟨e, d, c⟩ => ⟨e, k.up_r d c⟩
theorem PS.swap_d (k : PS W B g b n Br h ra rb room bx cs ty td sd tr sr w) (f m : Int) : Calls Try.prog 21 #[.pointer (some ⟨g, 0, none⟩), .int .i64 f, .int .i64 m] w fun r w' =>
    r = .returned (.int .i64 (swE n td sd f m)) ∧ PS W B g b n Br h ra rb room bx cs ty (swT n td sd f m) (swS n td sd f m) tr sr w' :=
  (swap_x k.d f m).mono fun r w' ⟨e, d, c⟩ => ⟨e, k.ch_d d c⟩
theorem PS.swap_r (k : PS W B g b n Br h ra rb room bx cs ty td sd tr sr w) (f m : Int) : Calls Try.prog 28 #[.pointer (some ⟨h, 0, none⟩), .int .i64 f, .int .i64 m] w fun r w' =>
    r = .returned (.int .i64 (swE n tr sr f m)) ∧ PS W B g b n Br h ra rb room bx cs ty td sd (swT n tr sr f m) (swS n tr sr f m) w' :=
  (rswap_x k.r f m).mono fun r w' ⟨e, d, c⟩ => ⟨e, k.up_r d c⟩
theorem IK.ks {a : Option Addr} {l c : Nat} {kf : Nat → Int} (i : IK W a l c kf) (q : Q W w) {m : Nat} (hm : m ≤ l) {b : Nat} (hb : W.heap.size ≤ b) : KS w b a m kf := by
  rcases i.r with h0 | ⟨kb, ko, e, hc⟩
  · exact .inl (by omega)
  · by_cases h0 : m = 0
    · exact .inl h0
    · have h1 := hc 0 (by omega)
      have h2 := World.block_lt_of_cell? _ _ h1
      exact .inr ⟨kb, ko, e, by show kb ≠ b; have : kb < W.heap.size := h2; omega, fun j hj => Q.cell' q (hc j (by omega))⟩
theorem PS.crash_d (k : PS W B g b n Br h ra rb room bx cs ty td sd tr sr w) {a : Option Addr} {l c m c' : Nat} {kf : Nat → Int} (i : IK W a l c kf) (hm : m ≤ l) : Calls Try.prog 22 #[.pointer (some ⟨g, 0, none⟩), .slice a m c'] w fun r w' =>
    r = .returned (.tuple #[]) ∧ PS W B g b n Br h ra rb room bx cs ty (crT m kf td sd n) (crS m kf td sd n) tr sr w' :=
  (crash_x k.d a m c' kf (i.ks k.q hm (Nat.le_trans k.lB k.d.b_lt.1))).mono fun r w' ⟨e, d, c⟩ => ⟨e, k.ch_d d c⟩
theorem PS.crash_r (k : PS W B g b n Br h ra rb room bx cs ty td sd tr sr w) {a : Option Addr} {l c m c' : Nat} {kf : Nat → Int} (i : IK W a l c kf) (hm : m ≤ l) : Calls Try.prog 29 #[.pointer (some ⟨h, 0, none⟩), .slice a m c'] w fun r w' =>
    r = .returned (.tuple #[]) ∧ PS W B g b n Br h ra rb room bx cs ty td sd (crT m kf tr sr n) (crS m kf tr sr n) w' :=
  (rcrash_x k.r a m c' kf (i.ks k.q hm (Nat.le_trans k.lR k.r.ha.1)) (i.ks k.q hm (Nat.le_trans k.lR k.r.ha.2.1)) (fun j => (i.kw j).2)).mono fun r w' ⟨e, d, c⟩ => ⟨e, k.up_r d c⟩
end
/-- Both disks are in one state. -/
def St (W : World) (B g b n Br h ra rb room : Nat) (w : World) : Prop := ∃ t s, DK w B w.heap.size g b n t s room ∧ RK w Br h ra rb n t s room ∧ Q W w
set_option maxHeartbeats 8000000 in
set_option maxRecDepth 100000 in
theorem play_x {W : World} (kd : DK w B w.heap.size g b n t s room) (kr : RK w Br h ra rb n t s room) (q : Q W w) (lB : W.heap.size ≤ B) (lR : W.heap.size ≤ Br) (kd0 ff mf : Int) (x0 : ByteArray) (ka : Option Addr) (kl kc : Nat) (kf : Nat → Int)
    (hs : x0.size ≤ maxLen) (hk : IK W ka kl kc kf) : Calls Try.prog 12 #[.pointer (some ⟨g, 0, none⟩), .pointer (some ⟨h, 0, none⟩), .agg #[.int .i64 kd0, .int .i64 ff, .int .i64 mf, .string x0, .slice ka kl kc]] w fun r w' =>
    r = .returned (.bool true) ∧ St W B g b n Br h ra rb room w' := by
  have K0 := Lib.hid (show PS W B g b n Br h ra rb room w.heap.size [.int .i64 kd0, .int .i64 ff, .int .i64 mf, .string x0, .slice ka kl kc] 32 t s t s (w.alloc (.cells #[.int .i64 kd0, .int .i64 ff, .int .i64 mf, .string x0, .slice ka kl kc] 32)) from
    ⟨(kd.q ((Q.refl w).alloc _)).top (((Q.refl w).alloc _).size) (Nat.le_refl _), kr.q ((Q.refl w).alloc _), q.alloc _, heap_alloc_new w _, ⟨by decide, by decide, by decide⟩, lB, lR⟩)
  obtain ⟨m0, hm0⟩ : ∃ z : Nat, min x0.size 60 = z := ⟨_, rfl⟩
  have hm : (if (60 : Int) < (x0.size : Int) then 60 else (x0.size : Int)) = (m0 : Int) := by split <;> omega
  have hml : m0 ≤ x0.size := by omega
  obtain ⟨x, hx⟩ : ∃ z, x0.extract 0 m0 = z := ⟨_, rfl⟩
  obtain ⟨k9, hk9⟩ : ∃ z : Nat, min kl 9 = z := ⟨_, rfl⟩
  have hk1 : (if (9 : Int) < (kl : Int) then 9 else (kl : Int)) = (k9 : Int) := by split <;> omega
  have hkl : k9 ≤ kl := by omega
  have hkc := hk.le
  have HK := Lib.hid hk
  unfold maxLen at hs
  clear kd kr q lB lR hk
  by_cases e0 : kd0 = 0
  · subst e0
    go_enter Try.func12, Try.ntmps12
    go_wp2_with fail
    have K := Lib.hid K0.out
    clear K0
    generalize w.alloc (.cells #[.int .i64 0, .int .i64 ff, .int .i64 mf, .string x0, .slice ka kl kc] 32) = wA at *
    generalize w.heap.size = bx at *
    have KD := Lib.hid (K.out.qq (Q.refl _).drew)
    have hS0 := (KD.out.cell 1 _ rfl)
    refine wp_region_held_drew (S := fun w' => w'.cell? ⟨bx, 1, none⟩ = some (.int .i64 ff)) (by kernel_rfl) (KD.out.cell 1 _ rfl) (fun hHeld => ?_)
    refine wpAnyH_take (i := 0) (v := ?_) (by simp only [List.getElem?_toArray, List.getElem?_cons_zero]; rfl) (by kernel_rfl) (by kernel_rfl) (by kernel_rfl) (by exact fun _ _ _ h => h) (Or.inl ⟨by rfl, ?_⟩) (by assumption) ?_
    rotate_left
    · (intro wx hSw; (try dsimp only at hSw); go_simp; (try rw [if_neg (by omega)]); try (with_reducible rfl))
    try simp only [Act.put, List.setIfInBounds_toArray, List.set_cons_zero, List.set_cons_succ]
    refine wpAnyH_take (i := 1) (v := ?_) (by simp only [List.getElem?_toArray, List.getElem?_cons_zero, List.getElem?_cons_succ]; rfl) (by kernel_rfl) (by kernel_rfl) (by kernel_rfl) (by exact fun _ _ _ h => h) (Or.inl ⟨by rfl, ?_⟩) (by assumption) ?_
    rotate_left
    · (intro wx hSw; (try dsimp only at hSw); go_simp; (try rw [if_neg (by omega)]); try (with_reducible rfl))
    try simp only [Act.put, List.setIfInBounds_toArray, List.set_cons_zero, List.set_cons_succ]
    refine wpAnyH_take (i := 2) (v := ?_) (by simp only [List.getElem?_toArray, List.getElem?_cons_zero, List.getElem?_cons_succ]; rfl) (by kernel_rfl) (by kernel_rfl) (by kernel_rfl) (by exact fun _ _ _ h => h) (Or.inl ⟨by rfl, ?_⟩) (by assumption) ?_
    rotate_left
    · (intro wx hSw; (try dsimp only at hSw); go_simp; (try rw [if_neg (by omega)]); try (with_reducible rfl))
    try simp only [Act.put, List.setIfInBounds_toArray, List.set_cons_zero, List.set_cons_succ]
    refine wpAnyH_take (i := 3) (v := ?_) (by simp only [List.getElem?_toArray, List.getElem?_cons_zero, List.getElem?_cons_succ]; rfl) (by kernel_rfl) (by kernel_rfl) (by kernel_rfl) (by exact fun _ _ _ h => h) (Or.inl ⟨by rfl, ?_⟩) (by assumption) ?_
    rotate_left
    · (intro wx hSw; (try dsimp only at hSw); go_simp; (try rw [if_neg (by omega)]); try (with_reducible rfl))
    try simp only [Act.put, List.setIfInBounds_toArray, List.set_cons_zero, List.set_cons_succ]
    refine wpAnyH_take (i := 5) (v := ?_) (by simp only [List.getElem?_toArray, List.getElem?_cons_zero, List.getElem?_cons_succ]; rfl) (by kernel_rfl) (by kernel_rfl) (by kernel_rfl) (by exact fun _ _ _ h => h) (Or.inl ⟨by rfl, ?_⟩) (by assumption) ?_
    rotate_left
    · (intro wx hSw; (try dsimp only at hSw); go_simp; (try rw [if_neg (by omega)]); try (with_reducible rfl))
    try simp only [Act.put, List.setIfInBounds_toArray, List.set_cons_zero, List.set_cons_succ]
    refine wpAnyH_take (i := 6) (v := ?_) (by simp only [List.getElem?_toArray, List.getElem?_cons_zero, List.getElem?_cons_succ]; rfl) (by kernel_rfl) (by kernel_rfl) (by kernel_rfl) (by exact fun _ _ _ h => h) (Or.inl ⟨by rfl, ?_⟩) (by assumption) ?_
    rotate_left
    · (intro wx hSw; (try dsimp only at hSw); go_simp; (try rw [if_neg (by omega)]); try (with_reducible rfl))
    try simp only [Act.put, List.setIfInBounds_toArray, List.set_cons_zero, List.set_cons_succ]
    refine wpAnyH_take (i := 7) (v := ?_) (by simp only [List.getElem?_toArray, List.getElem?_cons_zero, List.getElem?_cons_succ]; rfl) (by kernel_rfl) (by kernel_rfl) (by kernel_rfl) (by exact fun _ _ _ h => h) (Or.inl ⟨by rfl, ?_⟩) (by assumption) ?_
    rotate_left
    · (intro wx hSw; (try dsimp only at hSw); go_simp; (try rw [if_neg (by omega)]); try (with_reducible rfl))
    try simp only [Act.put, List.setIfInBounds_toArray, List.set_cons_zero, List.set_cons_succ]
    refine wpAnyH_take (i := 8) (v := ?_) (by simp only [List.getElem?_toArray, List.getElem?_cons_zero, List.getElem?_cons_succ]; rfl) (by kernel_rfl) (by kernel_rfl) (by kernel_rfl) (by exact fun _ _ _ h => h) (Or.inl ⟨by rfl, ?_⟩) (by assumption) ?_
    rotate_left
    · (intro wx hSw; (try dsimp only at hSw); go_simp; (try rw [if_neg (by omega)]); try (with_reducible rfl))
    try simp only [Act.put, List.setIfInBounds_toArray, List.set_cons_zero, List.set_cons_succ]
    refine wpAnyH_ready (rs := [4]) (by kernel_rfl) (by simp) ?_
    refine AllReadyH.cons (by simp only [List.getElem?_toArray, List.getElem?_cons_succ, List.getElem?_cons_zero]; rfl) (fun K hK => ?_) AllReadyH.nil
    go_simp
    refine (KD.out.append_d ff x).mono ?_
    rintro r w2 ⟨rfl, k2⟩
    have K2 := Lib.hid k2
    clear k2 hS0
    dsimp only
    refine hK.out _ _ (K2.out.cell 1 _ rfl) (fun hHeld4 => ?_)
    clear hK K
    try simp only [Act.put, List.setIfInBounds_toArray, List.set_cons_zero, List.set_cons_succ]
    refine wpAnyH_ready (rs := [9]) (by kernel_rfl) (by simp) ?_
    refine AllReadyH.cons (by simp only [List.getElem?_toArray, List.getElem?_cons_succ, List.getElem?_cons_zero]; rfl) (fun K hK => ?_) AllReadyH.nil
    go_simp
    refine (K2.out.append_r ff x).mono ?_
    rintro r w3 ⟨rfl, k3⟩
    have K3 := Lib.hid k3
    clear k3
    dsimp only
    refine hK.out _ _ (K3.out.cell 1 _ rfl) (fun hHeld9 => ?_)
    clear hK K
    try simp only [Act.put, List.setIfInBounds_toArray, List.set_cons_zero, List.set_cons_succ]
    refine wpAnyH_take (i := 10) (v := ?_) (by simp only [List.getElem?_toArray, List.getElem?_cons_zero, List.getElem?_cons_succ]; rfl) (by kernel_rfl) (by kernel_rfl) (by kernel_rfl) (by exact fun _ _ _ h => h) (Or.inl ⟨by rfl, ?_⟩) (by assumption) ?_
    rotate_left
    · (intro wx hSw; (try dsimp only at hSw); go_simp; (try rw [if_neg (by omega)]); try (with_reducible rfl))
    try simp only [Act.put, List.setIfInBounds_toArray, List.set_cons_zero, List.set_cons_succ]
    refine wpAnyH_take (i := 11) (v := ?_) (by simp only [List.getElem?_toArray, List.getElem?_cons_zero, List.getElem?_cons_succ]; rfl) (by kernel_rfl) (by kernel_rfl) (by kernel_rfl) (by exact fun _ _ _ h => h) (Or.inl ⟨by rfl, ?_⟩) (by assumption) ?_
    rotate_left
    · (intro wx hSw; (try dsimp only at hSw); go_simp; (try rw [if_neg (by omega)]); try (with_reducible rfl))
    try simp only [Act.put, List.setIfInBounds_toArray, List.set_cons_zero, List.set_cons_succ]
    refine wpAnyH_done (by kernel_rfl) ?_ _
    go_wp2_with fail
    refine bodyPost_ret (results_tmp rfl _ _ _) rfl ?_
    exact ⟨rfl, _, _, K3.out.d, K3.out.r, K3.out.q⟩
  have d0 : (kd0 == 0) = false := by simpa using e0
  by_cases e1 : kd0 = 1
  · subst e1
    go_enter Try.func12, Try.ntmps12
    go_wp2_with fail
    have K := Lib.hid K0.out
    clear K0
    generalize w.alloc (.cells #[.int .i64 1, .int .i64 ff, .int .i64 mf, .string x0, .slice ka kl kc] 32) = wA at *
    generalize w.heap.size = bx at *
    have KD := Lib.hid (K.out.qq (Q.refl _).drew)
    have hS0 := (KD.out.cell 1 _ rfl)
    refine wp_region_held_drew (S := fun w' => w'.cell? ⟨bx, 1, none⟩ = some (.int .i64 ff)) (by kernel_rfl) (KD.out.cell 1 _ rfl) (fun hHeld => ?_)
    refine wpAnyH_take (i := 0) (v := ?_) (by simp only [List.getElem?_toArray, List.getElem?_cons_zero]; rfl) (by kernel_rfl) (by kernel_rfl) (by kernel_rfl) (by exact fun _ _ _ h => h) (Or.inl ⟨by rfl, ?_⟩) (by assumption) ?_
    rotate_left
    · (intro wx hSw; (try dsimp only at hSw); go_simp; (try rw [if_neg (by omega)]); try (with_reducible rfl))
    try simp only [Act.put, List.setIfInBounds_toArray, List.set_cons_zero, List.set_cons_succ]
    refine wpAnyH_take (i := 1) (v := ?_) (by simp only [List.getElem?_toArray, List.getElem?_cons_zero, List.getElem?_cons_succ]; rfl) (by kernel_rfl) (by kernel_rfl) (by kernel_rfl) (by exact fun _ _ _ h => h) (Or.inl ⟨by rfl, ?_⟩) (by assumption) ?_
    rotate_left
    · (intro wx hSw; (try dsimp only at hSw); go_simp; (try rw [if_neg (by omega)]); try (with_reducible rfl))
    try simp only [Act.put, List.setIfInBounds_toArray, List.set_cons_zero, List.set_cons_succ]
    refine wpAnyH_take (i := 2) (v := ?_) (by simp only [List.getElem?_toArray, List.getElem?_cons_zero, List.getElem?_cons_succ]; rfl) (by kernel_rfl) (by kernel_rfl) (by kernel_rfl) (by exact fun _ _ _ h => h) (Or.inl ⟨by rfl, ?_⟩) (by assumption) ?_
    rotate_left
    · (intro wx hSw; (try dsimp only at hSw); go_simp; (try rw [if_neg (by omega)]); try (with_reducible rfl))
    try simp only [Act.put, List.setIfInBounds_toArray, List.set_cons_zero, List.set_cons_succ]
    refine wpAnyH_take (i := 4) (v := ?_) (by simp only [List.getElem?_toArray, List.getElem?_cons_zero, List.getElem?_cons_succ]; rfl) (by kernel_rfl) (by kernel_rfl) (by kernel_rfl) (by exact fun _ _ _ h => h) (Or.inl ⟨by rfl, ?_⟩) (by assumption) ?_
    rotate_left
    · (intro wx hSw; (try dsimp only at hSw); go_simp; (try rw [if_neg (by omega)]); try (with_reducible rfl))
    try simp only [Act.put, List.setIfInBounds_toArray, List.set_cons_zero, List.set_cons_succ]
    refine wpAnyH_take (i := 5) (v := ?_) (by simp only [List.getElem?_toArray, List.getElem?_cons_zero, List.getElem?_cons_succ]; rfl) (by kernel_rfl) (by kernel_rfl) (by kernel_rfl) (by exact fun _ _ _ h => h) (Or.inl ⟨by rfl, ?_⟩) (by assumption) ?_
    rotate_left
    · (intro wx hSw; (try dsimp only at hSw); go_simp; (try rw [if_neg (by omega)]); try (with_reducible rfl))
    try simp only [Act.put, List.setIfInBounds_toArray, List.set_cons_zero, List.set_cons_succ]
    refine wpAnyH_take (i := 6) (v := ?_) (by simp only [List.getElem?_toArray, List.getElem?_cons_zero, List.getElem?_cons_succ]; rfl) (by kernel_rfl) (by kernel_rfl) (by kernel_rfl) (by exact fun _ _ _ h => h) (Or.inl ⟨by rfl, ?_⟩) (by assumption) ?_
    rotate_left
    · (intro wx hSw; (try dsimp only at hSw); go_simp; (try rw [if_neg (by omega)]); try (with_reducible rfl))
    try simp only [Act.put, List.setIfInBounds_toArray, List.set_cons_zero, List.set_cons_succ]
    refine wpAnyH_ready (rs := [3]) (by kernel_rfl) (by simp) ?_
    refine AllReadyH.cons (by simp only [List.getElem?_toArray, List.getElem?_cons_succ, List.getElem?_cons_zero]; rfl) (fun K hK => ?_) AllReadyH.nil
    go_simp
    refine (KD.out.sync_d ff).mono ?_
    rintro r w2 ⟨rfl, k2⟩
    have K2 := Lib.hid k2
    clear k2 hS0
    dsimp only
    refine hK.out _ _ (K2.out.cell 1 _ rfl) (fun hHeld3 => ?_)
    clear hK K
    try simp only [Act.put, List.setIfInBounds_toArray, List.set_cons_zero, List.set_cons_succ]
    refine wpAnyH_ready (rs := [7]) (by kernel_rfl) (by simp) ?_
    refine AllReadyH.cons (by simp only [List.getElem?_toArray, List.getElem?_cons_succ, List.getElem?_cons_zero]; rfl) (fun K hK => ?_) AllReadyH.nil
    go_simp
    refine (K2.out.sync_r ff).mono ?_
    rintro r w3 ⟨rfl, k3⟩
    have K3 := Lib.hid k3
    clear k3
    dsimp only
    refine hK.out _ _ (K3.out.cell 1 _ rfl) (fun hHeld7 => ?_)
    clear hK K
    try simp only [Act.put, List.setIfInBounds_toArray, List.set_cons_zero, List.set_cons_succ]
    refine wpAnyH_take (i := 8) (v := ?_) (by simp only [List.getElem?_toArray, List.getElem?_cons_zero, List.getElem?_cons_succ]; rfl) (by kernel_rfl) (by kernel_rfl) (by kernel_rfl) (by exact fun _ _ _ h => h) (Or.inl ⟨by rfl, ?_⟩) (by assumption) ?_
    rotate_left
    · (intro wx hSw; (try dsimp only at hSw); go_simp; (try rw [if_neg (by omega)]); try (with_reducible rfl))
    try simp only [Act.put, List.setIfInBounds_toArray, List.set_cons_zero, List.set_cons_succ]
    refine wpAnyH_take (i := 9) (v := ?_) (by simp only [List.getElem?_toArray, List.getElem?_cons_zero, List.getElem?_cons_succ]; rfl) (by kernel_rfl) (by kernel_rfl) (by kernel_rfl) (by exact fun _ _ _ h => h) (Or.inl ⟨by rfl, ?_⟩) (by assumption) ?_
    rotate_left
    · (intro wx hSw; (try dsimp only at hSw); go_simp; (try rw [if_neg (by omega)]); try (with_reducible rfl))
    try simp only [Act.put, List.setIfInBounds_toArray, List.set_cons_zero, List.set_cons_succ]
    refine wpAnyH_done (by kernel_rfl) ?_ _
    go_wp2_with fail
    refine bodyPost_ret (results_tmp rfl _ _ _) rfl ?_
    exact ⟨rfl, _, _, K3.out.d, K3.out.r, K3.out.q⟩
  have d1 : (kd0 == 1) = false := by simpa using e1
  by_cases e2 : kd0 = 2
  · subst e2
    go_enter Try.func12, Try.ntmps12
    go_wp2_with fail
    have K := Lib.hid K0.out
    clear K0
    generalize w.alloc (.cells #[.int .i64 2, .int .i64 ff, .int .i64 mf, .string x0, .slice ka kl kc] 32) = wA at *
    generalize w.heap.size = bx at *
    have KD := Lib.hid (K.out.qq (Q.refl _).drew)
    have hS0 : wA.drew.cell? ⟨bx, 1, none⟩ = some (.int .i64 ff) ∧ wA.drew.cell? ⟨bx, 2, none⟩ = some (.int .i64 mf) := ⟨KD.out.cell 1 _ rfl, KD.out.cell 2 _ rfl⟩
    refine wp_region_held_drew (S := fun w' => w'.cell? ⟨bx, 1, none⟩ = some (.int .i64 ff) ∧ w'.cell? ⟨bx, 2, none⟩ = some (.int .i64 mf)) (by kernel_rfl) ⟨KD.out.cell 1 _ rfl, KD.out.cell 2 _ rfl⟩ (fun hHeld => ?_)
    refine wpAnyH_take (i := 0) (v := ?_) (by simp only [List.getElem?_toArray, List.getElem?_cons_zero]; rfl) (by kernel_rfl) (by kernel_rfl) (by kernel_rfl) (by exact fun _ _ _ h => h) (Or.inl ⟨by rfl, ?_⟩) (by assumption) ?_
    rotate_left
    · (intro wx hSw; obtain ⟨hS1, hS2⟩ := hSw; go_simp; (try rw [if_neg (by omega)]); try (with_reducible rfl))
    try simp only [Act.put, List.setIfInBounds_toArray, List.set_cons_zero, List.set_cons_succ]
    refine wpAnyH_take (i := 1) (v := ?_) (by simp only [List.getElem?_toArray, List.getElem?_cons_zero, List.getElem?_cons_succ]; rfl) (by kernel_rfl) (by kernel_rfl) (by kernel_rfl) (by exact fun _ _ _ h => h) (Or.inl ⟨by rfl, ?_⟩) (by assumption) ?_
    rotate_left
    · (intro wx hSw; obtain ⟨hS1, hS2⟩ := hSw; go_simp; (try rw [if_neg (by omega)]); try (with_reducible rfl))
    try simp only [Act.put, List.setIfInBounds_toArray, List.set_cons_zero, List.set_cons_succ]
    refine wpAnyH_take (i := 2) (v := ?_) (by simp only [List.getElem?_toArray, List.getElem?_cons_zero, List.getElem?_cons_succ]; rfl) (by kernel_rfl) (by kernel_rfl) (by kernel_rfl) (by exact fun _ _ _ h => h) (Or.inl ⟨by rfl, ?_⟩) (by assumption) ?_
    rotate_left
    · (intro wx hSw; obtain ⟨hS1, hS2⟩ := hSw; go_simp; (try rw [if_neg (by omega)]); try (with_reducible rfl))
    try simp only [Act.put, List.setIfInBounds_toArray, List.set_cons_zero, List.set_cons_succ]
    refine wpAnyH_take (i := 3) (v := ?_) (by simp only [List.getElem?_toArray, List.getElem?_cons_zero, List.getElem?_cons_succ]; rfl) (by kernel_rfl) (by kernel_rfl) (by kernel_rfl) (by exact fun _ _ _ h => h) (Or.inl ⟨by rfl, ?_⟩) (by assumption) ?_
    rotate_left
    · (intro wx hSw; obtain ⟨hS1, hS2⟩ := hSw; go_simp; (try rw [if_neg (by omega)]); try (with_reducible rfl))
    try simp only [Act.put, List.setIfInBounds_toArray, List.set_cons_zero, List.set_cons_succ]
    refine wpAnyH_take (i := 4) (v := ?_) (by simp only [List.getElem?_toArray, List.getElem?_cons_zero, List.getElem?_cons_succ]; rfl) (by kernel_rfl) (by kernel_rfl) (by kernel_rfl) (by exact fun _ _ _ h => h) (Or.inl ⟨by rfl, ?_⟩) (by assumption) ?_
    rotate_left
    · (intro wx hSw; obtain ⟨hS1, hS2⟩ := hSw; go_simp; (try rw [if_neg (by omega)]); try (with_reducible rfl))
    try simp only [Act.put, List.setIfInBounds_toArray, List.set_cons_zero, List.set_cons_succ]
    refine wpAnyH_take (i := 6) (v := ?_) (by simp only [List.getElem?_toArray, List.getElem?_cons_zero, List.getElem?_cons_succ]; rfl) (by kernel_rfl) (by kernel_rfl) (by kernel_rfl) (by exact fun _ _ _ h => h) (Or.inl ⟨by rfl, ?_⟩) (by assumption) ?_
    rotate_left
    · (intro wx hSw; obtain ⟨hS1, hS2⟩ := hSw; go_simp; (try rw [if_neg (by omega)]); try (with_reducible rfl))
    try simp only [Act.put, List.setIfInBounds_toArray, List.set_cons_zero, List.set_cons_succ]
    refine wpAnyH_take (i := 7) (v := ?_) (by simp only [List.getElem?_toArray, List.getElem?_cons_zero, List.getElem?_cons_succ]; rfl) (by kernel_rfl) (by kernel_rfl) (by kernel_rfl) (by exact fun _ _ _ h => h) (Or.inl ⟨by rfl, ?_⟩) (by assumption) ?_
    rotate_left
    · (intro wx hSw; obtain ⟨hS1, hS2⟩ := hSw; go_simp; (try rw [if_neg (by omega)]); try (with_reducible rfl))
    try simp only [Act.put, List.setIfInBounds_toArray, List.set_cons_zero, List.set_cons_succ]
    refine wpAnyH_take (i := 8) (v := ?_) (by simp only [List.getElem?_toArray, List.getElem?_cons_zero, List.getElem?_cons_succ]; rfl) (by kernel_rfl) (by kernel_rfl) (by kernel_rfl) (by exact fun _ _ _ h => h) (Or.inl ⟨by rfl, ?_⟩) (by assumption) ?_
    rotate_left
    · (intro wx hSw; obtain ⟨hS1, hS2⟩ := hSw; go_simp; (try rw [if_neg (by omega)]); try (with_reducible rfl))
    try simp only [Act.put, List.setIfInBounds_toArray, List.set_cons_zero, List.set_cons_succ]
    refine wpAnyH_take (i := 9) (v := ?_) (by simp only [List.getElem?_toArray, List.getElem?_cons_zero, List.getElem?_cons_succ]; rfl) (by kernel_rfl) (by kernel_rfl) (by kernel_rfl) (by exact fun _ _ _ h => h) (Or.inl ⟨by rfl, ?_⟩) (by assumption) ?_
    rotate_left
    · (intro wx hSw; obtain ⟨hS1, hS2⟩ := hSw; go_simp; (try rw [if_neg (by omega)]); try (with_reducible rfl))
    try simp only [Act.put, List.setIfInBounds_toArray, List.set_cons_zero, List.set_cons_succ]
    refine wpAnyH_take (i := 10) (v := ?_) (by simp only [List.getElem?_toArray, List.getElem?_cons_zero, List.getElem?_cons_succ]; rfl) (by kernel_rfl) (by kernel_rfl) (by kernel_rfl) (by exact fun _ _ _ h => h) (Or.inl ⟨by rfl, ?_⟩) (by assumption) ?_
    rotate_left
    · (intro wx hSw; obtain ⟨hS1, hS2⟩ := hSw; go_simp; (try rw [if_neg (by omega)]); try (with_reducible rfl))
    try simp only [Act.put, List.setIfInBounds_toArray, List.set_cons_zero, List.set_cons_succ]
    refine wpAnyH_ready (rs := [5]) (by kernel_rfl) (by simp) ?_
    refine AllReadyH.cons (by simp only [List.getElem?_toArray, List.getElem?_cons_succ, List.getElem?_cons_zero]; rfl) (fun K hK => ?_) AllReadyH.nil
    go_simp
    refine (KD.out.cut_d ff mf).mono ?_
    rintro r w2 ⟨rfl, k2⟩
    have K2 := Lib.hid k2
    clear k2 hS0
    dsimp only
    refine hK.out _ _ ⟨K2.out.cell 1 _ rfl, K2.out.cell 2 _ rfl⟩ (fun hHeld5 => ?_)
    clear hK K
    try simp only [Act.put, List.setIfInBounds_toArray, List.set_cons_zero, List.set_cons_succ]
    refine wpAnyH_ready (rs := [11]) (by kernel_rfl) (by simp) ?_
    refine AllReadyH.cons (by simp only [List.getElem?_toArray, List.getElem?_cons_succ, List.getElem?_cons_zero]; rfl) (fun K hK => ?_) AllReadyH.nil
    go_simp
    refine (K2.out.cut_r ff mf).mono ?_
    rintro r w3 ⟨rfl, k3⟩
    have K3 := Lib.hid k3
    clear k3
    dsimp only
    refine hK.out _ _ ⟨K3.out.cell 1 _ rfl, K3.out.cell 2 _ rfl⟩ (fun hHeld11 => ?_)
    clear hK K
    try simp only [Act.put, List.setIfInBounds_toArray, List.set_cons_zero, List.set_cons_succ]
    refine wpAnyH_take (i := 12) (v := ?_) (by simp only [List.getElem?_toArray, List.getElem?_cons_zero, List.getElem?_cons_succ]; rfl) (by kernel_rfl) (by kernel_rfl) (by kernel_rfl) (by exact fun _ _ _ h => h) (Or.inl ⟨by rfl, ?_⟩) (by assumption) ?_
    rotate_left
    · (intro wx hSw; obtain ⟨hS1, hS2⟩ := hSw; go_simp; (try rw [if_neg (by omega)]); try (with_reducible rfl))
    try simp only [Act.put, List.setIfInBounds_toArray, List.set_cons_zero, List.set_cons_succ]
    refine wpAnyH_take (i := 13) (v := ?_) (by simp only [List.getElem?_toArray, List.getElem?_cons_zero, List.getElem?_cons_succ]; rfl) (by kernel_rfl) (by kernel_rfl) (by kernel_rfl) (by exact fun _ _ _ h => h) (Or.inl ⟨by rfl, ?_⟩) (by assumption) ?_
    rotate_left
    · (intro wx hSw; obtain ⟨hS1, hS2⟩ := hSw; go_simp; (try rw [if_neg (by omega)]); try (with_reducible rfl))
    try simp only [Act.put, List.setIfInBounds_toArray, List.set_cons_zero, List.set_cons_succ]
    refine wpAnyH_done (by kernel_rfl) ?_ _
    go_wp2_with fail
    refine bodyPost_ret (results_tmp rfl _ _ _) rfl ?_
    exact ⟨rfl, _, _, K3.out.d, K3.out.r, K3.out.q⟩
  have d2 : (kd0 == 2) = false := by simpa using e2
  by_cases e3 : kd0 = 3
  · subst e3
    go_enter Try.func12, Try.ntmps12
    go_wp2_with fail
    have K := Lib.hid K0.out
    clear K0
    generalize w.alloc (.cells #[.int .i64 3, .int .i64 ff, .int .i64 mf, .string x0, .slice ka kl kc] 32) = wA at *
    generalize w.heap.size = bx at *
    have KD := Lib.hid (K.out.qq (Q.refl _).drew)
    have hS0 : wA.drew.cell? ⟨bx, 1, none⟩ = some (.int .i64 ff) ∧ wA.drew.cell? ⟨bx, 2, none⟩ = some (.int .i64 mf) := ⟨KD.out.cell 1 _ rfl, KD.out.cell 2 _ rfl⟩
    refine wp_region_held_drew (S := fun w' => w'.cell? ⟨bx, 1, none⟩ = some (.int .i64 ff) ∧ w'.cell? ⟨bx, 2, none⟩ = some (.int .i64 mf)) (by kernel_rfl) ⟨KD.out.cell 1 _ rfl, KD.out.cell 2 _ rfl⟩ (fun hHeld => ?_)
    refine wpAnyH_take (i := 0) (v := ?_) (by simp only [List.getElem?_toArray, List.getElem?_cons_zero]; rfl) (by kernel_rfl) (by kernel_rfl) (by kernel_rfl) (by exact fun _ _ _ h => h) (Or.inl ⟨by rfl, ?_⟩) (by assumption) ?_
    rotate_left
    · (intro wx hSw; obtain ⟨hS1, hS2⟩ := hSw; go_simp; (try rw [if_neg (by omega)]); try (with_reducible rfl))
    try simp only [Act.put, List.setIfInBounds_toArray, List.set_cons_zero, List.set_cons_succ]
    refine wpAnyH_take (i := 1) (v := ?_) (by simp only [List.getElem?_toArray, List.getElem?_cons_zero, List.getElem?_cons_succ]; rfl) (by kernel_rfl) (by kernel_rfl) (by kernel_rfl) (by exact fun _ _ _ h => h) (Or.inl ⟨by rfl, ?_⟩) (by assumption) ?_
    rotate_left
    · (intro wx hSw; obtain ⟨hS1, hS2⟩ := hSw; go_simp; (try rw [if_neg (by omega)]); try (with_reducible rfl))
    try simp only [Act.put, List.setIfInBounds_toArray, List.set_cons_zero, List.set_cons_succ]
    refine wpAnyH_take (i := 2) (v := ?_) (by simp only [List.getElem?_toArray, List.getElem?_cons_zero, List.getElem?_cons_succ]; rfl) (by kernel_rfl) (by kernel_rfl) (by kernel_rfl) (by exact fun _ _ _ h => h) (Or.inl ⟨by rfl, ?_⟩) (by assumption) ?_
    rotate_left
    · (intro wx hSw; obtain ⟨hS1, hS2⟩ := hSw; go_simp; (try rw [if_neg (by omega)]); try (with_reducible rfl))
    try simp only [Act.put, List.setIfInBounds_toArray, List.set_cons_zero, List.set_cons_succ]
    refine wpAnyH_take (i := 3) (v := ?_) (by simp only [List.getElem?_toArray, List.getElem?_cons_zero, List.getElem?_cons_succ]; rfl) (by kernel_rfl) (by kernel_rfl) (by kernel_rfl) (by exact fun _ _ _ h => h) (Or.inl ⟨by rfl, ?_⟩) (by assumption) ?_
    rotate_left
    · (intro wx hSw; obtain ⟨hS1, hS2⟩ := hSw; go_simp; (try rw [if_neg (by omega)]); try (with_reducible rfl))
    try simp only [Act.put, List.setIfInBounds_toArray, List.set_cons_zero, List.set_cons_succ]
    refine wpAnyH_take (i := 4) (v := ?_) (by simp only [List.getElem?_toArray, List.getElem?_cons_zero, List.getElem?_cons_succ]; rfl) (by kernel_rfl) (by kernel_rfl) (by kernel_rfl) (by exact fun _ _ _ h => h) (Or.inl ⟨by rfl, ?_⟩) (by assumption) ?_
    rotate_left
    · (intro wx hSw; obtain ⟨hS1, hS2⟩ := hSw; go_simp; (try rw [if_neg (by omega)]); try (with_reducible rfl))
    try simp only [Act.put, List.setIfInBounds_toArray, List.set_cons_zero, List.set_cons_succ]
    refine wpAnyH_take (i := 6) (v := ?_) (by simp only [List.getElem?_toArray, List.getElem?_cons_zero, List.getElem?_cons_succ]; rfl) (by kernel_rfl) (by kernel_rfl) (by kernel_rfl) (by exact fun _ _ _ h => h) (Or.inl ⟨by rfl, ?_⟩) (by assumption) ?_
    rotate_left
    · (intro wx hSw; obtain ⟨hS1, hS2⟩ := hSw; go_simp; (try rw [if_neg (by omega)]); try (with_reducible rfl))
    try simp only [Act.put, List.setIfInBounds_toArray, List.set_cons_zero, List.set_cons_succ]
    refine wpAnyH_take (i := 7) (v := ?_) (by simp only [List.getElem?_toArray, List.getElem?_cons_zero, List.getElem?_cons_succ]; rfl) (by kernel_rfl) (by kernel_rfl) (by kernel_rfl) (by exact fun _ _ _ h => h) (Or.inl ⟨by rfl, ?_⟩) (by assumption) ?_
    rotate_left
    · (intro wx hSw; obtain ⟨hS1, hS2⟩ := hSw; go_simp; (try rw [if_neg (by omega)]); try (with_reducible rfl))
    try simp only [Act.put, List.setIfInBounds_toArray, List.set_cons_zero, List.set_cons_succ]
    refine wpAnyH_take (i := 8) (v := ?_) (by simp only [List.getElem?_toArray, List.getElem?_cons_zero, List.getElem?_cons_succ]; rfl) (by kernel_rfl) (by kernel_rfl) (by kernel_rfl) (by exact fun _ _ _ h => h) (Or.inl ⟨by rfl, ?_⟩) (by assumption) ?_
    rotate_left
    · (intro wx hSw; obtain ⟨hS1, hS2⟩ := hSw; go_simp; (try rw [if_neg (by omega)]); try (with_reducible rfl))
    try simp only [Act.put, List.setIfInBounds_toArray, List.set_cons_zero, List.set_cons_succ]
    refine wpAnyH_take (i := 9) (v := ?_) (by simp only [List.getElem?_toArray, List.getElem?_cons_zero, List.getElem?_cons_succ]; rfl) (by kernel_rfl) (by kernel_rfl) (by kernel_rfl) (by exact fun _ _ _ h => h) (Or.inl ⟨by rfl, ?_⟩) (by assumption) ?_
    rotate_left
    · (intro wx hSw; obtain ⟨hS1, hS2⟩ := hSw; go_simp; (try rw [if_neg (by omega)]); try (with_reducible rfl))
    try simp only [Act.put, List.setIfInBounds_toArray, List.set_cons_zero, List.set_cons_succ]
    refine wpAnyH_take (i := 10) (v := ?_) (by simp only [List.getElem?_toArray, List.getElem?_cons_zero, List.getElem?_cons_succ]; rfl) (by kernel_rfl) (by kernel_rfl) (by kernel_rfl) (by exact fun _ _ _ h => h) (Or.inl ⟨by rfl, ?_⟩) (by assumption) ?_
    rotate_left
    · (intro wx hSw; obtain ⟨hS1, hS2⟩ := hSw; go_simp; (try rw [if_neg (by omega)]); try (with_reducible rfl))
    try simp only [Act.put, List.setIfInBounds_toArray, List.set_cons_zero, List.set_cons_succ]
    refine wpAnyH_ready (rs := [5]) (by kernel_rfl) (by simp) ?_
    refine AllReadyH.cons (by simp only [List.getElem?_toArray, List.getElem?_cons_succ, List.getElem?_cons_zero]; rfl) (fun K hK => ?_) AllReadyH.nil
    go_simp
    refine (KD.out.swap_d ff mf).mono ?_
    rintro r w2 ⟨rfl, k2⟩
    have K2 := Lib.hid k2
    clear k2 hS0
    dsimp only
    refine hK.out _ _ ⟨K2.out.cell 1 _ rfl, K2.out.cell 2 _ rfl⟩ (fun hHeld5 => ?_)
    clear hK K
    try simp only [Act.put, List.setIfInBounds_toArray, List.set_cons_zero, List.set_cons_succ]
    refine wpAnyH_ready (rs := [11]) (by kernel_rfl) (by simp) ?_
    refine AllReadyH.cons (by simp only [List.getElem?_toArray, List.getElem?_cons_succ, List.getElem?_cons_zero]; rfl) (fun K hK => ?_) AllReadyH.nil
    go_simp
    refine (K2.out.swap_r ff mf).mono ?_
    rintro r w3 ⟨rfl, k3⟩
    have K3 := Lib.hid k3
    clear k3
    dsimp only
    refine hK.out _ _ ⟨K3.out.cell 1 _ rfl, K3.out.cell 2 _ rfl⟩ (fun hHeld11 => ?_)
    clear hK K
    try simp only [Act.put, List.setIfInBounds_toArray, List.set_cons_zero, List.set_cons_succ]
    refine wpAnyH_take (i := 12) (v := ?_) (by simp only [List.getElem?_toArray, List.getElem?_cons_zero, List.getElem?_cons_succ]; rfl) (by kernel_rfl) (by kernel_rfl) (by kernel_rfl) (by exact fun _ _ _ h => h) (Or.inl ⟨by rfl, ?_⟩) (by assumption) ?_
    rotate_left
    · (intro wx hSw; obtain ⟨hS1, hS2⟩ := hSw; go_simp; (try rw [if_neg (by omega)]); try (with_reducible rfl))
    try simp only [Act.put, List.setIfInBounds_toArray, List.set_cons_zero, List.set_cons_succ]
    refine wpAnyH_take (i := 13) (v := ?_) (by simp only [List.getElem?_toArray, List.getElem?_cons_zero, List.getElem?_cons_succ]; rfl) (by kernel_rfl) (by kernel_rfl) (by kernel_rfl) (by exact fun _ _ _ h => h) (Or.inl ⟨by rfl, ?_⟩) (by assumption) ?_
    rotate_left
    · (intro wx hSw; obtain ⟨hS1, hS2⟩ := hSw; go_simp; (try rw [if_neg (by omega)]); try (with_reducible rfl))
    try simp only [Act.put, List.setIfInBounds_toArray, List.set_cons_zero, List.set_cons_succ]
    refine wpAnyH_done (by kernel_rfl) ?_ _
    go_wp2_with fail
    refine bodyPost_ret (results_tmp rfl _ _ _) rfl ?_
    exact ⟨rfl, _, _, K3.out.d, K3.out.r, K3.out.q⟩
  have d3 : (kd0 == 3) = false := by simpa using e3
  go_enter Try.func12, Try.ntmps12
  go_wp2_with fail
  have K := Lib.hid K0.out
  clear K0
  generalize w.alloc (.cells #[.int .i64 kd0, .int .i64 ff, .int .i64 mf, .string x0, .slice ka kl kc] 32) = wA at *
  generalize w.heap.size = bx at *
  refine (K.out.crash_d HK.out hkl).mono ?_
  rintro r w2 ⟨rfl, k2⟩
  have K2 := Lib.hid k2
  clear k2 K
  go_wp2_with fail
  refine (K2.out.crash_r HK.out hkl).mono ?_
  rintro r w3 ⟨rfl, k3⟩
  have K3 := Lib.hid k3
  clear k3
  go_wp2_with fail
  refine bodyPost_ret (results_tmp rfl _ _ _) rfl ?_
  exact ⟨rfl, _, _, K3.out.d, K3.out.r, K3.out.q⟩
end
end Go.Proofs.Ytnojglfaijhiaaa.Dk
