/-
  Layer 7: the program's keys: Sign, New.
-/
import Derived.Test.YtnghhagiokiaoaaDoorMerK
namespace Go.Proofs.YtnghhagiokiaoaaDoor.Mer
open Go.RowKit
open Mem Sh Wot
set_option linter.unusedVariables false

set_option maxHeartbeats 2000000 in
set_option maxRecDepth 100000 in
theorem sign_ok {W w : World} {g : Nat} {s : ByteArray} {h n nx gl cl : Nat} (k : KY w g s h n nx gl cl) (q : Q W w) (hG : GL W) (hg : W.heap.size ≤ g) (m x : ByteArray) (hx : ksig s h nx m = x) (hlt : nx < n) (hs : s.size ≤ 100000) (hm : m.size ≤ 100000) :
    Calls Tryd.prog 22 #[.pointer (some ⟨g, 0, none⟩), .string m] w fun e w' => e = .returned (.tuple #[.string x, .int .i64 0]) ∧ KY w' g s h n (nx + 1) gl cl ∧ Q W w' ∧ Ch g w w' := by
  obtain ⟨d, hd⟩ : ∃ d, nx + d = n := ⟨n - nx, by omega⟩
  have C := Lib.hid (left_q k q d hd)
  have d0 : ((d : Int) == 0) = false := by rw [beq_eq_false_iff_ne]; omega
  have n16 := k.n16
  have hh := k.hh
  obtain ⟨r, er⟩ : ∃ r, kroot s h = r := ⟨_, rfl⟩
  obtain ⟨o, eo⟩ : ∃ o, one nx = o := ⟨_, rfl⟩
  obtain ⟨sd, ed⟩ : ∃ d, sdS s nx = d := ⟨_, rfl⟩
  obtain ⟨M, eM⟩ : ∃ M, msgS r nx m = M := ⟨_, rfl⟩
  obtain ⟨G, eG⟩ : ∃ G, sgn sd M = G := ⟨_, rfl⟩
  obtain ⟨c, ec⟩ : ∃ c, cat (pth (lfS s) nx) h = c := ⟨_, rfl⟩
  have zr : r.size = 16 := by rw [← er]; exact mroot_size _ _
  have zo : o.size = 1 := by rw [← eo, one_size]
  have zd : sd.size ≤ 1000000 := by rw [← ed, sdS_size]; decide
  have zM : M.size ≤ 1000000 := by rw [← eM]; unfold msgS; rw [ByteArray.size_append, ByteArray.size_append, zr, one_size]; omega
  have zG : G.size = 288 := by rw [← eG, sgn_size]
  have zoG : (o ++ G).size = 289 := by rw [ByteArray.size_append, zo, zG]
  have zc : c.size ≤ 64 := by rw [← ec, pth_sz]; omega
  have ZC : Hid ((cat (pth (lfS s) nx) h).size ≤ 100000) := by show _ ≤ _; rw [pth_sz]; omega
  have EX : Hid (o ++ G ++ c = x) := by rw [← ec, ← eG, ← eM, ← er, ← eo, ← ed]; exact hx
  have ER := Lib.hid er
  have EO := Lib.hid eo
  have ED := Lib.hid ed
  have EM := Lib.hid eM
  have EG := Lib.hid eG
  have EC := Lib.hid ec
  have HG := Lib.hid hG
  clear k q hd er eo ed eM eG ec hx hG
  go_enter Tryd.func22, Tryd.ntmps22
  go_wp2_with fail
  refine C.out.mono ?_
  rintro e w1 ⟨rfl, k1, q1, ch1⟩
  have K1 := Lib.hid k1
  have Q1 := Lib.hid q1
  have C1 := Lib.hid ch1
  clear k1 q1 ch1 C
  go_wp2_with fail
  refine (take_q K1.out Q1.out hg hlt).mono ?_
  rintro e w2 ⟨rfl, k2, q2, ch2⟩
  have K2 := Lib.hid k2
  have Q2 := Lib.hid q2
  have C2 := Lib.hid (C1.out.trans ch2)
  have G2 := Lib.hid (HG.out.q q2)
  clear k2 q2 ch2 K1 Q1 C1
  have HH : Hid (∀ w', Q w2 w' → w'.cell? ⟨g, 2, none⟩ = some (.string s) ∧ w'.cell? ⟨g, 3, none⟩ = some (.string r)) := fun w' q => ⟨(K2.out.q q).c2, by have := (K2.out.q q).c3; rw [ER.out] at this; exact this⟩
  have HS0 := HH.out _ (Q.refl w2).drew
  have J0 : Hid (Q w2 w2.drew) := (Q.refl w2).drew
  as_aux_lemma =>
  go_wp2_with fail
  refine wp_region_held_drew (S := fun w' => w'.cell? ⟨g, 2, none⟩ = some (.string s) ∧ w'.cell? ⟨g, 3, none⟩ = some (.string r)) (by kernel_rfl) HS0 (fun hHeld => ?_)
  refine wpAnyH_take (i := 0) (v := ?_) (by simp only [List.getElem?_toArray, List.getElem?_cons_zero]; rfl) (by kernel_rfl) (by kernel_rfl) (by kernel_rfl) (by exact fun _ _ _ h => h) (Or.inl ⟨by rfl, ?_⟩) (by assumption) ?_
  rotate_left
  · (intro wx hSw; obtain ⟨hS1, hS2⟩ := hSw; go_simp; (try rw [if_neg (by omega)]); try (with_reducible rfl))
  try simp only [Act.put, List.setIfInBounds_toArray, List.set_cons_zero, List.set_cons_succ]
  refine wpAnyH_take (i := 1) (v := ?_) (by simp only [List.getElem?_toArray, List.getElem?_cons_zero, List.getElem?_cons_succ]; rfl) (by kernel_rfl) (by kernel_rfl) (by kernel_rfl) (by exact fun _ _ _ h => h) (Or.inl ⟨by rfl, ?_⟩) (by assumption) ?_
  rotate_left
  · (intro wx hSw; obtain ⟨hS1, hS2⟩ := hSw; go_simp; (try rw [if_neg (by omega)]); try (with_reducible rfl))
  try simp only [Act.put, List.setIfInBounds_toArray, List.set_cons_zero, List.set_cons_succ]
  refine wpAnyH_take (i := 2) (v := ?_) (by simp only [List.getElem?_toArray, List.getElem?_cons_zero, List.getElem?_cons_succ]; rfl) (by kernel_rfl) (by kernel_rfl) (by kernel_rfl) (by exact fun _ _ _ h => h) (Or.inl ⟨by rfl, ?_⟩) (by assumption) ?_
  rotate_left
  · (intro wx hSw; obtain ⟨hS1, hS2⟩ := hSw; go_simp; (try rw [if_neg (by omega)]); try (with_reducible rfl))
  try simp only [Act.put, List.setIfInBounds_toArray, List.set_cons_zero, List.set_cons_succ]
  refine wpAnyH_take (i := 3) (v := ?_) (by simp only [List.getElem?_toArray, List.getElem?_cons_zero, List.getElem?_cons_succ]; rfl) (by kernel_rfl) (by kernel_rfl) (by kernel_rfl) (by exact fun _ _ _ h => h) (Or.inl ⟨by rfl, ?_⟩) (by assumption) ?_
  rotate_left
  · (intro wx hSw; obtain ⟨hS1, hS2⟩ := hSw; go_simp; (try rw [if_neg (by omega)]); try (with_reducible rfl))
  try simp only [Act.put, List.setIfInBounds_toArray, List.set_cons_zero, List.set_cons_succ]
  refine wpAnyH_take (i := 4) (v := ?_) (by simp only [List.getElem?_toArray, List.getElem?_cons_zero, List.getElem?_cons_succ]; rfl) (by kernel_rfl) (by kernel_rfl) (by kernel_rfl) (by exact fun _ _ _ h => h) (Or.inl ⟨by rfl, ?_⟩) (by assumption) ?_
  rotate_left
  · (intro wx hSw; obtain ⟨hS1, hS2⟩ := hSw; go_simp; (try rw [if_neg (by omega)]); try (with_reducible rfl))
  try simp only [Act.put, List.setIfInBounds_toArray, List.set_cons_zero, List.set_cons_succ]
  refine wpAnyH_take (i := 6) (v := ?_) (by simp only [List.getElem?_toArray, List.getElem?_cons_zero, List.getElem?_cons_succ]; rfl) (by kernel_rfl) (by kernel_rfl) (by kernel_rfl) (by exact fun _ _ _ h => h) (Or.inl ⟨by rfl, ?_⟩) (by assumption) ?_
  rotate_left
  · (intro wx hSw; obtain ⟨hS1, hS2⟩ := hSw; go_simp; (try rw [if_neg (by omega)]); try (with_reducible rfl))
  try simp only [Act.put, List.setIfInBounds_toArray, List.set_cons_zero, List.set_cons_succ]
  refine wpAnyH_take (i := 7) (v := ?_) (by simp only [List.getElem?_toArray, List.getElem?_cons_zero, List.getElem?_cons_succ]; rfl) (by kernel_rfl) (by kernel_rfl) (by kernel_rfl) (by exact fun _ _ _ h => h) (Or.inl ⟨by rfl, ?_⟩) (by assumption) ?_
  rotate_left
  · (intro wx hSw; obtain ⟨hS1, hS2⟩ := hSw; go_simp; (try rw [if_neg (by omega)]); try (with_reducible rfl))
  try simp only [Act.put, List.setIfInBounds_toArray, List.set_cons_zero, List.set_cons_succ]
  refine wpAnyH_take (i := 8) (v := ?_) (by simp only [List.getElem?_toArray, List.getElem?_cons_zero, List.getElem?_cons_succ]; rfl) (by kernel_rfl) (by kernel_rfl) (by kernel_rfl) (by exact fun _ _ _ h => h) (Or.inl ⟨by rfl, ?_⟩) (by assumption) ?_
  rotate_left
  · (intro wx hSw; obtain ⟨hS1, hS2⟩ := hSw; go_simp; (try rw [if_neg (by omega)]); try (with_reducible rfl))
  try simp only [Act.put, List.setIfInBounds_toArray, List.set_cons_zero, List.set_cons_succ]
  refine wpAnyH_take (i := 9) (v := ?_) (by simp only [List.getElem?_toArray, List.getElem?_cons_zero, List.getElem?_cons_succ]; rfl) (by kernel_rfl) (by kernel_rfl) (by kernel_rfl) (by exact fun _ _ _ h => h) (Or.inl ⟨by rfl, ?_⟩) (by assumption) ?_
  rotate_left
  · (intro wx hSw; obtain ⟨hS1, hS2⟩ := hSw; go_simp; (try rw [if_neg (by omega)]); try (with_reducible rfl))
  try simp only [Act.put, List.setIfInBounds_toArray, List.set_cons_zero, List.set_cons_succ]
  refine wpAnyH_take (i := 10) (v := ?_) (by simp only [List.getElem?_toArray, List.getElem?_cons_zero, List.getElem?_cons_succ]; rfl) (by kernel_rfl) (by kernel_rfl) (by kernel_rfl) (by exact fun _ _ _ h => h) (Or.inl ⟨by rfl, ?_⟩) (by assumption) ?_
  rotate_left
  · (intro wx hSw; obtain ⟨hS1, hS2⟩ := hSw; go_simp; (try rw [if_neg (by omega)]); try (with_reducible rfl))
  try simp only [Act.put, List.setIfInBounds_toArray, List.set_cons_zero, List.set_cons_succ]
  refine wpAnyH_take (i := 11) (v := ?_) (by simp only [List.getElem?_toArray, List.getElem?_cons_zero, List.getElem?_cons_succ]; rfl) (by kernel_rfl) (by kernel_rfl) (by kernel_rfl) (by exact fun _ _ _ h => h) (Or.inl ⟨by rfl, ?_⟩) (by assumption) ?_
  rotate_left
  · (intro wx hSw; obtain ⟨hS1, hS2⟩ := hSw; go_simp; (try rw [if_neg (by omega)]); try (with_reducible rfl))
  try simp only [Act.put, List.setIfInBounds_toArray, List.set_cons_zero, List.set_cons_succ]
  refine wpAnyH_ready (rs := [5]) (by kernel_rfl) (by simp) ?_
  refine AllReadyH.cons (by simp only [List.getElem?_toArray, List.getElem?_cons_succ, List.getElem?_cons_zero]; rfl) (fun K hK => ?_) AllReadyH.nil
  go_simp
  refine (seedOf_x s sd nx ED.out w2.drew J0.out G2.out (by omega) (by omega)).mono ?_
  rintro e w3 ⟨rfl, q3⟩
  have J3 := Lib.hid q3
  clear q3
  dsimp only
  refine hK.out _ _ (HH.out _ J3.out) (fun hHeld5 => ?_)
  clear hK K
  try simp only [Act.put, List.setIfInBounds_toArray, List.set_cons_zero, List.set_cons_succ]
  refine wpAnyH_ready (rs := [12]) (by kernel_rfl) (by simp) ?_
  refine AllReadyH.cons (by simp only [List.getElem?_toArray, List.getElem?_cons_succ, List.getElem?_cons_zero]; rfl) (fun K hK => ?_) AllReadyH.nil
  go_simp
  refine (bound_x r m M nx EM.out w3 J3.out (by omega) hm (by omega)).mono ?_
  rintro e w4 ⟨rfl, q4⟩
  have J4 := Lib.hid q4
  clear q4 J3
  dsimp only
  refine hK.out _ _ (HH.out _ J4.out) (fun hHeld12 => ?_)
  clear hK K
  try simp only [Act.put, List.setIfInBounds_toArray, List.set_cons_zero, List.set_cons_succ]
  refine wpAnyH_ready (rs := [13]) (by kernel_rfl) (by simp) ?_
  refine AllReadyH.cons (by simp only [List.getElem?_toArray, List.getElem?_cons_succ, List.getElem?_cons_zero]; rfl) (fun K hK => ?_) AllReadyH.nil
  go_simp
  refine (sign_x sd M G EG.out w4 J4.out G2.out zd zM).mono ?_
  rintro e w5 ⟨rfl, q5⟩
  have J5 := Lib.hid q5
  clear q5 J4
  dsimp only
  refine hK.out _ _ (HH.out _ J5.out) (fun hHeld13 => ?_)
  clear hK K
  try simp only [Act.put, List.setIfInBounds_toArray, List.set_cons_zero, List.set_cons_succ]
  refine wpAnyH_take (i := 14) (v := ?_) (by simp only [List.getElem?_toArray, List.getElem?_cons_zero, List.getElem?_cons_succ]; rfl) (by kernel_rfl) (by kernel_rfl) (by kernel_rfl) (by exact fun _ _ _ h => h) (Or.inl ⟨by rfl, ?_⟩) (by assumption) ?_
  rotate_left
  · (intro wx hSw; obtain ⟨hS1, hS2⟩ := hSw; go_simp; (try rw [if_neg (by omega)]); try (with_reducible rfl))
  try simp only [Act.put, List.setIfInBounds_toArray, List.set_cons_zero, List.set_cons_succ]
  refine wpAnyH_done (by kernel_rfl) ?_ _
  have HF : Hid (∀ w', Q w2 w' → w'.cell? ⟨g, 4, none⟩ = some (.slice (some ⟨gl, 0, none⟩) n cl)) := fun w' q => (K2.out.q q).c4
  have HF0 := HF.out _ J5.out.drew
  have J6 : Hid (Q w2 w5.drew) := J5.out.drew
  clear HS0 HH J0
  as_aux_lemma =>
  go_wp2_with fail
  refine wp_region_held_drew (S := fun w' => w'.cell? ⟨g, 4, none⟩ = some (.slice (some ⟨gl, 0, none⟩) n cl)) (by kernel_rfl) HF0 (fun hHeld => ?_)
  refine wpAnyH_take (i := 0) (v := ?_) (by simp only [List.getElem?_toArray, List.getElem?_cons_zero]; rfl) (by kernel_rfl) (by kernel_rfl) (by kernel_rfl) (by exact fun _ _ _ h => h) (Or.inl ⟨by rfl, ?_⟩) (by assumption) ?_
  rotate_left
  · (intro wx hSw; (try dsimp only at hSw); go_simp; (try rw [if_neg (by omega)]); try (with_reducible rfl))
  try simp only [Act.put, List.setIfInBounds_toArray, List.set_cons_zero, List.set_cons_succ]
  refine wpAnyH_take (i := 2) (v := ?_) (by simp only [List.getElem?_toArray, List.getElem?_cons_zero, List.getElem?_cons_succ]; rfl) (by kernel_rfl) (by kernel_rfl) (by kernel_rfl) (by exact fun _ _ _ h => h) (Or.inl ⟨by rfl, ?_⟩) (by assumption) ?_
  rotate_left
  · (intro wx hSw; (try dsimp only at hSw); go_simp; (try rw [if_neg (by omega)]); try (with_reducible rfl))
  try simp only [Act.put, List.setIfInBounds_toArray, List.set_cons_zero, List.set_cons_succ]
  refine wpAnyH_take (i := 4) (v := ?_) (by simp only [List.getElem?_toArray, List.getElem?_cons_zero, List.getElem?_cons_succ]; rfl) (by kernel_rfl) (by kernel_rfl) (by kernel_rfl) (by exact fun _ _ _ h => h) (Or.inl ⟨by rfl, ?_⟩) (by assumption) ?_
  rotate_left
  · (intro wx hSw; (try dsimp only at hSw); go_simp; (try rw [if_neg (by omega)]); try (with_reducible rfl))
  try simp only [Act.put, List.setIfInBounds_toArray, List.set_cons_zero, List.set_cons_succ]
  refine wpAnyH_take (i := 5) (v := ?_) (by simp only [List.getElem?_toArray, List.getElem?_cons_zero, List.getElem?_cons_succ]; rfl) (by kernel_rfl) (by kernel_rfl) (by kernel_rfl) (by exact fun _ _ _ h => h) (Or.inl ⟨by rfl, ?_⟩) (by assumption) ?_
  rotate_left
  · (intro wx hSw; (try dsimp only at hSw); go_simp; (try rw [if_neg (by omega)]); try (with_reducible rfl))
  try simp only [Act.put, List.setIfInBounds_toArray, List.set_cons_zero, List.set_cons_succ]
  refine wpAnyH_take (i := 6) (v := ?_) (by simp only [List.getElem?_toArray, List.getElem?_cons_zero, List.getElem?_cons_succ]; rfl) (by kernel_rfl) (by kernel_rfl) (by kernel_rfl) (by exact fun _ _ _ h => h) (Or.inl ⟨by rfl, ?_⟩) (by assumption) ?_
  rotate_left
  · (intro wx hSw; (try dsimp only at hSw); go_simp; (try rw [if_neg (by omega)]); try (with_reducible rfl))
  try simp only [Act.put, List.setIfInBounds_toArray, List.set_cons_zero, List.set_cons_succ]
  refine wpAnyH_take (i := 7) (v := ?_) (by simp only [List.getElem?_toArray, List.getElem?_cons_zero, List.getElem?_cons_succ]; rfl) (by kernel_rfl) (by kernel_rfl) (by kernel_rfl) (by exact fun _ _ _ h => h) (Or.inl ⟨by rfl, ?_⟩) (by assumption) ?_
  rotate_left
  · (intro wx hSw; (try dsimp only at hSw); go_simp; (try rw [if_neg (by omega)]); try (with_reducible rfl))
  try simp only [Act.put, List.setIfInBounds_toArray, List.set_cons_zero, List.set_cons_succ]
  refine wpAnyH_take (i := 8) (v := ?_) (by simp only [List.getElem?_toArray, List.getElem?_cons_zero, List.getElem?_cons_succ]; rfl) (by kernel_rfl) (by kernel_rfl) (by kernel_rfl) (by exact fun _ _ _ h => h) (Or.inl ⟨by rfl, ?_⟩) (by assumption) ?_
  rotate_left
  · (intro wx hSw; (try dsimp only at hSw); go_simp; (try rw [if_neg (by omega)]); try (with_reducible rfl))
  try simp only [Act.put, List.setIfInBounds_toArray, List.set_cons_zero, List.set_cons_succ]
  refine wpAnyH_ready (rs := [1]) (by kernel_rfl) (by simp) ?_
  refine AllReadyH.cons (by simp only [List.getElem?_toArray, List.getElem?_cons_succ, List.getElem?_cons_zero]; rfl) (fun K hK => ?_) AllReadyH.nil
  go_simp
  refine (msingle_x nx o EO.out w5.drew J6.out (by omega)).mono ?_
  rintro e w6 ⟨rfl, q6⟩
  have J7 := Lib.hid q6
  clear q6 J6
  dsimp only
  refine hK.out _ _ (HF.out _ J7.out) (fun hHeld1 => ?_)
  clear hK K
  try simp only [Act.put, List.setIfInBounds_toArray, List.set_cons_zero, List.set_cons_succ]
  refine wpAnyH_take (i := 3) (v := ?_) (by simp only [List.getElem?_toArray, List.getElem?_cons_zero, List.getElem?_cons_succ]; rfl) (by kernel_rfl) (by kernel_rfl) (by kernel_rfl) (by exact fun _ _ _ h => h) (Or.inl ⟨by rfl, ?_⟩) (by assumption) ?_
  rotate_left
  · (intro wx hSw; (try dsimp only at hSw); go_simp; (try rw [if_neg (by omega)]); try (with_reducible rfl))
  try simp only [Act.put, List.setIfInBounds_toArray, List.set_cons_zero, List.set_cons_succ]
  refine wpAnyH_ready (rs := [9]) (by kernel_rfl) (by simp) ?_
  refine AllReadyH.cons (by simp only [List.getElem?_toArray, List.getElem?_cons_succ, List.getElem?_cons_zero]; rfl) (fun K hK => ?_) AllReadyH.nil
  go_simp
  refine (beside_x (W := w2) gl n cl h nx (lfS s) w6 J7.out G2.out (K2.out.t.q J7.out) K2.out.lv hlt).mono ?_
  rintro e w7 ⟨gp, cp, rfl, o7, q7⟩
  have J8 := Lib.hid q7
  have O7 := Lib.hid o7
  clear q7 o7 J7
  dsimp only
  refine hK.out _ _ (HF.out _ J8.out) (fun hHeld9 => ?_)
  clear hK K
  try simp only [Act.put, List.setIfInBounds_toArray, List.set_cons_zero, List.set_cons_succ]
  refine wpAnyH_ready (rs := [10]) (by kernel_rfl) (by simp) ?_
  refine AllReadyH.cons (by simp only [List.getElem?_toArray, List.getElem?_cons_succ, List.getElem?_cons_zero]; rfl) (fun K hK => ?_) AllReadyH.nil
  go_simp
  refine (join_x gp h cp (pth (lfS s) nx) c EC.out w7 J8.out O7.out.tr O7.out.caps.1 (by omega) ZC.out).mono ?_
  rintro e w8 ⟨rfl, q8⟩
  have J9 := Lib.hid q8
  clear q8 J8
  dsimp only
  refine hK.out _ _ (HF.out _ J9.out) (fun hHeld10 => ?_)
  clear hK K
  try simp only [Act.put, List.setIfInBounds_toArray, List.set_cons_zero, List.set_cons_succ]
  refine wpAnyH_take (i := 11) (v := ?_) (by simp only [List.getElem?_toArray, List.getElem?_cons_zero, List.getElem?_cons_succ]; rfl) (by kernel_rfl) (by kernel_rfl) (by kernel_rfl) (by exact fun _ _ _ h => h) (Or.inl ⟨by rfl, ?_⟩) (by assumption) ?_
  rotate_left
  · (intro wx hSw; (try dsimp only at hSw); go_simp; (try rw [if_neg (by omega)]); try (with_reducible rfl))
  try simp only [Act.put, List.setIfInBounds_toArray, List.set_cons_zero, List.set_cons_succ]
  refine wpAnyH_take (i := 12) (v := ?_) (by simp only [List.getElem?_toArray, List.getElem?_cons_zero, List.getElem?_cons_succ]; rfl) (by kernel_rfl) (by kernel_rfl) (by kernel_rfl) (by exact fun _ _ _ h => h) (Or.inl ⟨by rfl, ?_⟩) (by assumption) ?_
  rotate_left
  · (intro wx hSw; (try dsimp only at hSw); go_simp; (try rw [if_neg (by omega)]); try (with_reducible rfl))
  try simp only [Act.put, List.setIfInBounds_toArray, List.set_cons_zero, List.set_cons_succ]
  refine wpAnyH_take (i := 13) (v := ?_) (by simp only [List.getElem?_toArray, List.getElem?_cons_zero, List.getElem?_cons_succ]; rfl) (by kernel_rfl) (by kernel_rfl) (by kernel_rfl) (by exact fun _ _ _ h => h) (Or.inl ⟨by rfl, ?_⟩) (by assumption) ?_
  rotate_left
  · (intro wx hSw; (try dsimp only at hSw); go_simp; (try rw [if_neg (by omega)]); try (with_reducible rfl))
  try simp only [Act.put, List.setIfInBounds_toArray, List.set_cons_zero, List.set_cons_succ]
  refine wpAnyH_done (by kernel_rfl) ?_ _
  obtain rfl := EX.out
  go_wp2_with fail
  go_ret2
  exact ⟨rfl, K2.out.q J9.out, Q2.out.trans J9.out, C2.out.trans (Ch.of_q J9.out g)⟩

theorem KY.new (w : World) (s r : ByteArray) (h n gl cl : Nat) (T : TypeId) (hr : kroot s h = r) (t : TR w gl 0 n (lfS s)) (hh : h ≤ 4) (hn : 2 ^ h = n) :
    KY (w.alloc (.cells #[.int .i64 0, .int .i64 n, .string s, .string r, .slice (some ⟨gl, 0, none⟩) n cl] T)) w.heap.size s h n 0 gl cl where
  c0 := by rw [World.cell?_alloc_at _ _ _ _ rfl]; rfl
  c1 := by rw [World.cell?_alloc_at _ _ _ _ rfl]; rfl
  c2 := by rw [World.cell?_alloc_at _ _ _ _ rfl]; rfl
  c3 := by rw [World.cell?_alloc_at _ _ _ _ rfl, hr]; rfl
  c4 := by rw [World.cell?_alloc_at _ _ _ _ rfl]; rfl
  t := t.q ((Q.refl w).alloc _)
  fz := fun i => made_frozen w _ _ _
  hh := hh
  hn := hn
  hx := by omega
set_option maxHeartbeats 2000000 in
set_option maxRecDepth 100000 in
theorem new_ok {W : World} (s : ByteArray) (h n : Nat) (hn : 2 ^ h = n) (hh : h ≤ 4) (w : World) (q : Q W w) (hG : GL W) (hs : s.size ≤ 100000) :
    Calls Tryd.prog 18 #[.string s, .int .i64 h] w fun e w' => ∃ g gl cl, e = .returned (.tuple #[.pointer (some ⟨g, 0, none⟩), .int .i64 0]) ∧ KY w' g s h n 0 gl cl ∧ w.heap.size ≤ g ∧ Q W w' := by
  have HQ := Lib.hid q
  have HG := Lib.hid (hG.q q)
  have HN := Lib.hid hn
  have n16 : n ≤ 16 := by rw [← hn]; exact pow_le16 h hh
  have n16' : (n : Int) ≤ 16 := by omega
  have n0 : (0 : Int) ≤ (n : Int) := by omega
  have h0 : (0 : Int) ≤ (h : Int) := by omega
  have h4 : (h : Int) ≤ 4 := by omega
  have h64 : (h : Int) ≤ 64 := by omega
  have e2 := pow_cast h n hn
  have HM := makeT w n (by omega)
  have O0 := Lib.hid (OT.made w w.heap.size n (lfS s) (Nat.le_refl _) (by omega))
  have Q0 := Lib.hid ((Q.refl w).alloc (zs n))
  have HH4 := Lib.hid hh
  clear q hG hn
  go_enter Tryd.func18, Tryd.ntmps18
  go_wp2_with fail
  go_loopw [7, 20] (fun z i wr => ∃ k : Nat, k ≤ n ∧ i = .int .i64 k ∧ Hid (OT wr w.heap.size w.heap.size n n (st (lfS s) k)) ∧ Hid (Q w wr)) (fun _ i _ => n - (intOf i).toNat)
  case atStart => exact ⟨0, by omega, rfl, O0, Q0⟩
  case round =>
    obtain ⟨k, hk, rfl, O, I⟩ := hrel
    clear O0 Q0 HM
    have k0 : (0 : Int) ≤ (k : Int) := by omega
    by_cases hlt : k < n
    · have k1 : (k : Int) < (n : Int) := by omega
      obtain ⟨d, ed⟩ : ∃ d, sdS s k = d := ⟨_, rfl⟩
      have zd : d.size ≤ 1000000 := by rw [← ed, sdS_size]; decide
      obtain ⟨y, ey⟩ : ∃ y, pub d = y := ⟨_, rfl⟩
      have HV : Hid (lfS s k = y) := by show pub (sdS s k) = y; rw [ed]; exact ey
      have ED := Lib.hid ed
      have EY := Lib.hid ey
      clear ed ey
      go_wp2_with fail
      refine (seedOf_x s d k ED.out wr (Q.refl wr) (HG.out.q I.out) (by omega) (by omega)).mono ?_
      rintro e w1 ⟨rfl, q1⟩
      have Q1 := Lib.hid q1
      clear q1
      go_wp2_with fail
      refine (public_x d y EY.out w1 Q1.out (HG.out.q I.out) zd).mono ?_
      rintro e w2 ⟨rfl, q2⟩
      have O2 := Lib.hid (O.out.q q2)
      have cx := O2.out.cell k hlt
      have fx := O2.out.fz k
      have F3 := O2.out.fill hlt
      rw [HV.out] at F3
      have O3 := Lib.hid F3.1
      have Q3 := Lib.hid (F3.2.q (I.out.trans q2) (Nat.le_refl _))
      clear F3 q2 Q1 O I
      go_wp2_with fail
      exact ⟨⟨k + 1, by omega, by go_num, O3, Q3⟩, by simp [intOf]; omega⟩
    · obtain rfl : k = n := by omega
      have td : decide (k < k) = false := by simp
      obtain ⟨r, er⟩ : ∃ r, kroot s h = r := ⟨_, rfl⟩
      have ER : Hid (mroot h (lfS s) = r) := er
      have HLV : Hid (IsLv (lfS s) k h) := ⟨HH4.out, HN.out.symm, fun i _ => lfS_size s i⟩
      have T1 := Lib.hid O.out.full.tr
      clear er O
      go_wp2_with fail
      refine (clone_q s wr (Q.refl wr) (by omega)).mono ?_
      rintro e w1 ⟨rfl, q1⟩
      have Q1 := Lib.hid q1
      clear q1
      go_wp2_with fail
      refine (over_x (W := wr) w.heap.size k k h (lfS s) r ER.out w1 Q1.out (HG.out.q I.out) (T1.out.q Q1.out) HLV.out).mono ?_
      rintro e w2 ⟨rfl, q2⟩
      have Q2 := Lib.hid q2
      have T2 := Lib.hid (T1.out.q q2)
      clear q2 Q1 T1
      go_wp2_with fail
      go_ret2
      exact ⟨w2.heap.size, w.heap.size, k, rfl, KY.new w2 s r h k w.heap.size k _ ER.out T2.out HH4.out HN.out, Nat.le_trans I.out.size Q2.out.size, (HQ.out.trans (I.out.trans Q2.out)).alloc _⟩
theorem new_bad {W : World} (s : ByteArray) (h : Int) (hb : h < 0 ∨ 4 < h) (w : World) (q : Q W w) :
    Calls Tryd.prog 18 #[.string s, .int .i64 h] w fun e w' => e = .returned (.tuple #[.pointer none, .int .i64 1]) ∧ Q W w' := by
  by_cases c : h < 0
  · go_enter Tryd.func18, Tryd.ntmps18
    go_wp2_with fail
    go_ret2
    exact ⟨rfl, q⟩
  · have d : 0 ≤ h := by omega
    have d2 : 4 < h := by omega
    go_enter Tryd.func18, Tryd.ntmps18
    go_wp2_with fail
    go_ret2
    exact ⟨rfl, q⟩
end Go.Proofs.YtnghhagiokiaoaaDoor.Mer
