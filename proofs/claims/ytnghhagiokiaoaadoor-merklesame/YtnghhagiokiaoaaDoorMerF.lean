/-
  Layer 7: the statements' own fixed calls.
-/
import Derived.Test.YtnghhagiokiaoaaDoorMerN
namespace Go.Proofs.YtnghhagiokiaoaaDoor.Mer
open Go.RowKit
open Mem Sh Wot
set_option linter.unusedVariables false

def hX : ByteArray := ⟨#[48, 49, 50, 51, 52, 53, 54, 55, 56, 57, 97, 98, 99, 100, 101, 102]⟩
theorem one_zero : one 0 = ⟨#[0]⟩ := by decide +kernel
theorem trow1 (w : World) (t : ByteArray) (T : TypeId) : TR (w.alloc (.cells #[.string t] T)) w.heap.size 0 1 (fun _ => t) := ⟨row1 w t T, by simp⟩
def thr (i : Nat) : ByteArray := if i = 0 then hX else ⟨#[]⟩
theorem trow3 (w : World) (T : TypeId) : TR (w.alloc (.cells #[.string hX, .string ⟨#[]⟩, .string ⟨#[]⟩] T)) w.heap.size 0 3 thr := ⟨by
  intro i hi
  rw [World.cell?_alloc_at _ _ _ _ rfl, Nat.zero_add]
  match i, hi with
  | 0, _ => rfl
  | 1, _ => rfl
  | 2, _ => rfl
  | n + 3, h => omega, by simp⟩
theorem lv1 : IsLv (fun _ => hX) 1 0 := ⟨by omega, rfl, fun i _ => by decide⟩
theorem nlv3 : ¬ ∃ h, IsLv thr 3 h := fun ⟨h, l⟩ => by
  have := l.hz 1 (by omega)
  exact absurd this (by decide)
theorem nsig0 : ¬ ∃ h b, IsSig (⟨#[]⟩ : ByteArray) h b := fun ⟨h, b, x⟩ => by
  have := x.1
  have e : (⟨#[]⟩ : ByteArray).size = 0 := rfl
  omega
theorem root_one (T : TypeId) {W : World} (r : ByteArray) (hr : rtS 0 hX = r) (w : World) (b : Nat) (hb : w.heap.size = b) (q : Q W w) (hG : GL W) :
    Calls Tryd.prog 10 #[.slice (some ⟨b, 0, none⟩) 1 1] (w.alloc (.cells #[.string hX] T)) fun e w' => e = .returned (.tuple #[.string r, .int .i64 0]) ∧ Q W w' := by
  subst hb
  exact root_x w.heap.size 1 1 0 (fun _ => hX) r hr _ (q.alloc _) hG (trow1 w hX T) lv1
theorem root_three (T : TypeId) {W : World} (w : World) (b : Nat) (hb : w.heap.size = b) (q : Q W w) :
    Calls Tryd.prog 10 #[.slice (some ⟨b, 0, none⟩) 3 3] (w.alloc (.cells #[.string hX, .string ⟨#[]⟩, .string ⟨#[]⟩] T)) fun e w' => e = .returned (.tuple #[.string ⟨#[]⟩, .int .i64 1]) ∧ Q W w' := by
  subst hb
  exact root_bad w.heap.size 3 3 thr _ (q.alloc _) (trow3 w T) (by omega) nlv3

set_option maxHeartbeats 4000000 in
set_option maxRecDepth 100000 in
theorem fixed_any {W : World} (w : World) (q : Q W w) (hG : GL W) :
    Calls Tryd.prog 17 #[] w fun e w' => e = .returned (.bool true) ∧ Q W w' := by
  have HQ := Lib.hid q
  have HG := Lib.hid (hG.q q)
  obtain ⟨r, er⟩ : ∃ z, kroot ⟨#[115]⟩ 1 = z := ⟨_, rfl⟩
  obtain ⟨A, eA⟩ : ∃ z, ksig ⟨#[115]⟩ 1 0 ⟨#[109]⟩ = z := ⟨_, rfl⟩
  obtain ⟨B, eB⟩ : ∃ z, ksig ⟨#[115]⟩ 1 1 ⟨#[110]⟩ = z := ⟨_, rfl⟩
  obtain ⟨C, eC⟩ : ∃ z, ksig ⟨#[115]⟩ 2 3 ⟨#[109]⟩ = z := ⟨_, rfl⟩
  obtain ⟨R, eR⟩ : ∃ z, rtS 0 hX = z := ⟨_, rfl⟩
  have zA : (A.size : Int) = 305 := by rw [← eA, ksig_size]; rfl
  have zC : (C.size : Int) = 321 := by rw [← eC, ksig_size]; rfl
  have zAn : A.size ≤ 1000000 := by omega
  have zBn : B.size ≤ 1000000 := by rw [← eB, ksig_size]; omega
  have IB : Hid (IsSig B 1 1) := by rw [← eB]; exact ksig_is _ _ _ _ (by decide) (by decide)
  have IC : Hid (IsSig C 2 3) := by rw [← eC]; exact ksig_is _ _ _ _ (by decide) (by decide)
  have VA : Hid (mvf r ⟨#[109]⟩ A = true) := by rw [← eA, ← er]; exact mvf_ksig _ _ _ _ (by decide) (by decide)
  have VB : Hid (mvf r ⟨#[110]⟩ B = true) := by rw [← eB, ← er]; exact mvf_ksig _ _ _ _ (by decide) (by decide)
  have VE : Hid (mvf ⟨#[]⟩ ⟨#[109]⟩ A = false) := mvf_short _ _ _ (by decide)
  have TR0 : Hid (tagS wRoot (two ⟨#[0]⟩ hX) 2 = R) := by rw [← eR, ← one_zero]; rfl
  have ER := Lib.hid er
  have EA := Lib.hid eA
  have EB := Lib.hid eB
  have EC := Lib.hid eC
  have ERR := Lib.hid eR
  clear q er eA eB eC eR hG
  go_enter Tryd.func17, Tryd.ntmps17
  go_wp2_with fail
  refine (new_ok (W := w) ⟨#[115]⟩ 1 2 rfl (by decide) w (Q.refl w) HG.out (by decide)).mono ?_
  rintro e w1 ⟨g, gl, cl, rfl, k1, hg, q1⟩
  have K1 := Lib.hid k1
  have Q1 := Lib.hid q1
  have LG := Lib.hid hg
  clear k1 q1 hg
  go_wp2_with fail
  refine (new_bad ⟨#[115]⟩ 5 (by omega) w1 (Q.refl w1)).mono ?_
  rintro e w2 ⟨rfl, q2⟩
  have K2 := Lib.hid (K1.out.q q2)
  have Q2 := Lib.hid (Q1.out.trans q2)
  clear q2 K1 Q1
  as_aux_lemma =>
  go_wp2_with fail
  refine (sign_ok K2.out Q2.out HG.out LG.out ⟨#[109]⟩ A EA.out (by decide) (by decide) (by decide)).mono ?_
  rintro e w3 ⟨rfl, k3, q3, _⟩
  have K3 := Lib.hid k3
  have Q3 := Lib.hid q3
  clear k3 q3 K2 Q2
  as_aux_lemma =>
  go_wp2_with fail
  refine (left_q K3.out Q3.out 1 rfl).mono ?_
  rintro e w4 ⟨rfl, k4, q4, _⟩
  have K4 := Lib.hid k4
  have Q4 := Lib.hid q4
  clear k4 q4 K3 Q3
  go_wp2_with fail
  refine (sign_ok K4.out Q4.out HG.out LG.out ⟨#[110]⟩ B EB.out (by decide) (by decide) (by decide)).mono ?_
  rintro e w5 ⟨rfl, k5, q5, _⟩
  have K5 := Lib.hid k5
  have Q5 := Lib.hid q5
  clear k5 q5 K4 Q4
  as_aux_lemma =>
  go_wp2_with fail
  refine (sign_used K5.out Q5.out ⟨#[111]⟩ rfl).mono ?_
  rintro e w6 ⟨rfl, k6, q6, _⟩
  have K6 := Lib.hid k6
  have Q6 := Lib.hid q6
  clear k6 q6 K5 Q5
  as_aux_lemma =>
  go_wp2_with fail
  refine (leaf_ok B 1 1 IB.out w6).mono ?_
  rintro e _ ⟨rfl, rfl⟩
  go_wp2_with fail
  refine (leaf_bad ⟨#[]⟩ nsig0 (by decide) w6).mono ?_
  rintro e _ ⟨rfl, rfl⟩
  as_aux_lemma =>
  go_wp2_with fail
  refine (new_ok (W := w6) ⟨#[115]⟩ 2 4 rfl (by decide) w6 (Q.refl w6) (HG.out.q Q6.out) (by decide)).mono ?_
  rintro e w7 ⟨g', gl', cl', rfl, k7, hg', q7⟩
  have K7 := Lib.hid k7
  have L7 := Lib.hid (K6.out.q q7)
  have Q7 := Lib.hid (Q6.out.trans q7)
  have NE : Hid (g ≠ g') := by have := K6.out.lt; show _ ≠ _; omega
  have LG' : Hid (w.heap.size ≤ g') := Nat.le_trans Q6.out.size hg'
  clear k7 q7 hg' K6 Q6
  as_aux_lemma =>
  go_wp2_with fail
  have J0 := Lib.hid Q7.out.drew
  have KD := Lib.hid (K7.out.q (Q.refl w7).drew)
  have LD := Lib.hid (L7.out.q (Q.refl w7).drew)
  refine wp_region_held_drew (S := fun _ => True) (by kernel_rfl) trivial (fun hHeld => ?_)
  refine wpAnyH_take (i := 0) (v := ?_) (by simp only [List.getElem?_toArray, List.getElem?_cons_zero]; rfl) (by kernel_rfl) (by kernel_rfl) (by kernel_rfl) (by exact fun _ _ _ h => h) (Or.inl ⟨by rfl, ?_⟩) trivial ?_
  rotate_left
  · (intro wx hSw; (try dsimp only at hSw); go_simp; (try rw [if_neg (by omega)]); try (with_reducible rfl))
  try simp only [Act.put, List.setIfInBounds_toArray, List.set_cons_zero, List.set_cons_succ]
  refine wpAnyH_take (i := 1) (v := ?_) (by simp only [List.getElem?_toArray, List.getElem?_cons_zero, List.getElem?_cons_succ]; rfl) (by kernel_rfl) (by kernel_rfl) (by kernel_rfl) (by exact fun _ _ _ h => h) (Or.inl ⟨by rfl, ?_⟩) trivial ?_
  rotate_left
  · (intro wx hSw; (try dsimp only at hSw); go_simp; (try rw [if_neg (by omega)]); try (with_reducible rfl))
  try simp only [Act.put, List.setIfInBounds_toArray, List.set_cons_zero, List.set_cons_succ]
  refine wpAnyH_take (i := 2) (v := ?_) (by simp only [List.getElem?_toArray, List.getElem?_cons_zero, List.getElem?_cons_succ]; rfl) (by kernel_rfl) (by kernel_rfl) (by kernel_rfl) (by exact fun _ _ _ h => h) (Or.inl ⟨by rfl, ?_⟩) trivial ?_
  rotate_left
  · (intro wx hSw; (try dsimp only at hSw); go_simp; (try rw [if_neg (by omega)]); try (with_reducible rfl))
  try simp only [Act.put, List.setIfInBounds_toArray, List.set_cons_zero, List.set_cons_succ]
  refine wpAnyH_take (i := 4) (v := ?_) (by simp only [List.getElem?_toArray, List.getElem?_cons_zero, List.getElem?_cons_succ]; rfl) (by kernel_rfl) (by kernel_rfl) (by kernel_rfl) (by exact fun _ _ _ h => h) (Or.inl ⟨by rfl, ?_⟩) trivial ?_
  rotate_left
  · (intro wx hSw; (try dsimp only at hSw); go_simp; (try rw [if_neg (by omega)]); try (with_reducible rfl))
  try simp only [Act.put, List.setIfInBounds_toArray, List.set_cons_zero, List.set_cons_succ]
  refine wpAnyH_take (i := 5) (v := ?_) (by simp only [List.getElem?_toArray, List.getElem?_cons_zero, List.getElem?_cons_succ]; rfl) (by kernel_rfl) (by kernel_rfl) (by kernel_rfl) (by exact fun _ _ _ h => h) (Or.inl ⟨by rfl, ?_⟩) trivial ?_
  rotate_left
  · (intro wx hSw; (try dsimp only at hSw); go_simp; (try rw [if_neg (by omega)]); try (with_reducible rfl))
  try simp only [Act.put, List.setIfInBounds_toArray, List.set_cons_zero, List.set_cons_succ]
  refine wpAnyH_take (i := 6) (v := ?_) (by simp only [List.getElem?_toArray, List.getElem?_cons_zero, List.getElem?_cons_succ]; rfl) (by kernel_rfl) (by kernel_rfl) (by kernel_rfl) (by exact fun _ _ _ h => h) (Or.inl ⟨by rfl, ?_⟩) trivial ?_
  rotate_left
  · (intro wx hSw; (try dsimp only at hSw); go_simp; (try rw [if_neg (by omega)]); try (with_reducible rfl))
  try simp only [Act.put, List.setIfInBounds_toArray, List.set_cons_zero, List.set_cons_succ]
  refine wpAnyH_ready (rs := [3]) (by kernel_rfl) (by simp) ?_
  refine AllReadyH.cons (by simp only [List.getElem?_toArray, List.getElem?_cons_succ, List.getElem?_cons_zero]; rfl) (fun K hK => ?_) AllReadyH.nil
  go_simp
  refine (burn_ok KD.out J0.out LG'.out 3 (by decide)).mono ?_
  rintro e w8 ⟨rfl, k8, q8, ch8⟩
  have K8 := Lib.hid k8
  have Q8 := Lib.hid q8
  have L8 := Lib.hid (LD.out.other KD.out ch8 NE.out)
  clear k8 q8 ch8 K7 L7 Q7 KD LD J0
  dsimp only
  refine hK.out _ _ trivial (fun hHeld3 => ?_)
  clear hK K
  try simp only [Act.put, List.setIfInBounds_toArray, List.set_cons_zero, List.set_cons_succ]
  refine wpAnyH_ready (rs := [7]) (by kernel_rfl) (by simp) ?_
  refine AllReadyH.cons (by simp only [List.getElem?_toArray, List.getElem?_cons_succ, List.getElem?_cons_zero]; rfl) (fun K hK => ?_) AllReadyH.nil
  go_simp
  refine (burn_bad K8.out Q8.out 5 (by decide)).mono ?_
  rintro e w9 ⟨rfl, k9, q9, ch9⟩
  have K9 := Lib.hid k9
  have Q9 := Lib.hid q9
  have L9 := Lib.hid (L8.out.other K8.out ch9 NE.out)
  clear k9 q9 ch9 K8 L8 Q8
  dsimp only
  refine hK.out _ _ trivial (fun hHeld7 => ?_)
  clear hK K
  try simp only [Act.put, List.setIfInBounds_toArray, List.set_cons_zero, List.set_cons_succ]
  refine wpAnyH_take (i := 8) (v := ?_) (by simp only [List.getElem?_toArray, List.getElem?_cons_zero, List.getElem?_cons_succ]; rfl) (by kernel_rfl) (by kernel_rfl) (by kernel_rfl) (by exact fun _ _ _ h => h) (Or.inl ⟨by rfl, ?_⟩) trivial ?_
  rotate_left
  · (intro wx hSw; (try dsimp only at hSw); go_simp; (try rw [if_neg (by omega)]); try (with_reducible rfl))
  try simp only [Act.put, List.setIfInBounds_toArray, List.set_cons_zero, List.set_cons_succ]
  refine wpAnyH_take (i := 9) (v := ?_) (by simp only [List.getElem?_toArray, List.getElem?_cons_zero, List.getElem?_cons_succ]; rfl) (by kernel_rfl) (by kernel_rfl) (by kernel_rfl) (by exact fun _ _ _ h => h) (Or.inl ⟨by rfl, ?_⟩) trivial ?_
  rotate_left
  · (intro wx hSw; (try dsimp only at hSw); go_simp; (try rw [if_neg (by omega)]); try (with_reducible rfl))
  try simp only [Act.put, List.setIfInBounds_toArray, List.set_cons_zero, List.set_cons_succ]
  refine wpAnyH_done (by kernel_rfl) ?_ _
  as_aux_lemma =>
  go_wp2_with fail
  refine (sign_ok K9.out Q9.out HG.out LG'.out ⟨#[109]⟩ C EC.out (by decide) (by decide) (by decide)).mono ?_
  rintro e wA ⟨rfl, kA, qA, chA⟩
  have KA := Lib.hid kA
  have QA := Lib.hid qA
  have LA := Lib.hid (L9.out.other K9.out chA NE.out)
  clear kA qA chA K9 L9 Q9
  as_aux_lemma =>
  go_wp2_with fail
  refine (leaf_ok C 2 3 IC.out wA).mono ?_
  rintro e _ ⟨rfl, rfl⟩
  as_aux_lemma =>
  go_wp2_with fail
  refine (root_one _ R ERR.out wA _ rfl (Q.refl wA) (HG.out.q QA.out)).mono ?_
  rintro e wB ⟨rfl, qB⟩
  have KB := Lib.hid (KA.out.q qB)
  have LB := Lib.hid (LA.out.q qB)
  have QB := Lib.hid (QA.out.trans qB)
  clear qB KA LA QA
  as_aux_lemma =>
  go_wp2_with fail
  refine (root_three _ wB _ rfl (Q.refl wB)).mono ?_
  rintro e wC ⟨rfl, qC⟩
  have KC := Lib.hid (KB.out.q qC)
  have LC := Lib.hid (LB.out.q qC)
  have QC := Lib.hid (QB.out.trans qC)
  clear qC KB LB QB
  as_aux_lemma =>
  go_wp2_with fail
  refine (kroot_q LC.out r ER.out).mono ?_
  rintro e _ ⟨rfl, rfl⟩
  as_aux_lemma =>
  go_wp2_with fail
  refine (mverify_x r ⟨#[109]⟩ A true VA.out wC (Q.refl wC) (HG.out.q QC.out) (by decide) zAn).mono ?_
  rintro e wD ⟨rfl, q⟩
  have KD := Lib.hid (KC.out.q q)
  have LD := Lib.hid (LC.out.q q)
  have QD := Lib.hid (QC.out.trans q)
  clear q KC LC QC
  as_aux_lemma =>
  go_wp2_with fail
  refine (kroot_q LD.out r ER.out).mono ?_
  rintro e _ ⟨rfl, rfl⟩
  as_aux_lemma =>
  go_wp2_with fail
  refine (mverify_x r ⟨#[110]⟩ B true VB.out wD (Q.refl wD) (HG.out.q QD.out) (by decide) zBn).mono ?_
  rintro e wE ⟨rfl, q⟩
  have KE := Lib.hid (KD.out.q q)
  have LE := Lib.hid (LD.out.q q)
  have QE := Lib.hid (QD.out.trans q)
  clear q KD LD QD
  as_aux_lemma =>
  go_wp2_with fail
  refine (mverify_x ⟨#[]⟩ ⟨#[109]⟩ A false VE.out wE (Q.refl wE) (HG.out.q QE.out) (by decide) zAn).mono ?_
  rintro e wF ⟨rfl, q⟩
  have KF := Lib.hid (KE.out.q q)
  have LF := Lib.hid (LE.out.q q)
  have QF := Lib.hid (QE.out.trans q)
  clear q KE LE QE
  as_aux_lemma =>
  go_wp2_with fail
  refine (next_q KF.out).mono ?_
  rintro e _ ⟨rfl, rfl⟩
  as_aux_lemma =>
  go_wp2_with fail
  refine (left_q KF.out QF.out 0 rfl).mono ?_
  rintro e wG ⟨rfl, _, qG, _⟩
  have QG := Lib.hid qG
  clear qG KF LF QF
  as_aux_lemma =>
  go_wp2_with fail
  refine (rtag2_x wRoot ⟨#[0]⟩ hX R TR0.out _ wG _ rfl QG.out (by decide) (by decide) (by decide)).mono ?_
  rintro e wH ⟨rfl, qH⟩
  have QH := Lib.hid qH
  clear qH QG
  as_aux_lemma =>
  go_wp2_with fail
  go_ret
  exact ⟨rfl, HQ.out.trans QH.out⟩
end Go.Proofs.YtnghhagiokiaoaaDoor.Mer
