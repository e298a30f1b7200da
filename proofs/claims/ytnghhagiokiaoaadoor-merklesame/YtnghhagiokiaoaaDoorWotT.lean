/-
  Layer 6: the program's own: a secret.
-/
import Derived.Test.YtnghhagiokiaoaaDoorWotS
namespace Go.Proofs.YtnghhagiokiaoaaDoor.Wot
open Go.RowKit
open Mem Sh
set_option linter.unusedVariables false

set_option maxHeartbeats 1000000 in
theorem secret_x {W : World} (g : Nat) (s x : ByteArray) (p : Nat) (hx : sec s p = x) (w : World) (q : Q W w) (hG : GL W) (hc : w.cell? ⟨g, 0, none⟩ = some (.string s)) (hs : s.size ≤ 1000000) (hp : p ≤ 17) :
    Calls Tryd.prog 82 #[.int .i64 p, .pointer (some ⟨g, 0, none⟩)] w fun e w' => e = .returned (.string x) ∧ Q W w' := by
  have HX : Hid (tagS wSec (two s (one p)) 2 = x) := hx
  obtain ⟨o, eo⟩ : ∃ o, one p = o := ⟨_, rfl⟩
  have zo : o.size ≤ 1000000 := by rw [← eo, one_size]; omega
  rw [eo] at HX
  have C1 := Lib.hid (single_x p o eo w.drew (Q.refl w).drew hp)
  have hc' : w.drew.cell? ⟨g, 0, none⟩ = some (.string s) := hc
  have hgl := World.block_lt_of_cell? _ _ hc
  have HQ := Lib.hid q
  have CC := Lib.hid fun w' (h : Q w w') => (h.cell (p := ⟨g, 0, none⟩) hgl).trans hc
  clear q eo hx hc
  go_enter Tryd.func82, Tryd.ntmps82
  go_wp2_with fail
  refine wp_region_held_drew (S := fun w' => w'.cell? ⟨g, 0, none⟩ = some (.string s)) (by kernel_rfl) hc' (fun hHeld => ?_)
  refine wpAnyH_take (i := 0) (v := ?_) (by simp only [List.getElem?_toArray, List.getElem?_cons_zero]; rfl) (by kernel_rfl) (by kernel_rfl) (by kernel_rfl) (by exact fun _ _ _ h => h) (Or.inl ⟨by rfl, ?_⟩) (by assumption) ?_
  rotate_left
  · (intro wx hSw; (try dsimp only at hSw); go_simp; (try rw [if_neg (by omega)]); try (with_reducible rfl))
  try simp only [Act.put, List.setIfInBounds_toArray, List.set_cons_zero, List.set_cons_succ]
  refine wpAnyH_take (i := 1) (v := ?_) (by simp only [List.getElem?_toArray, List.getElem?_cons_zero, List.getElem?_cons_succ]; rfl) (by kernel_rfl) (by kernel_rfl) (by kernel_rfl) (by exact fun _ _ _ h => h) (Or.inl ⟨by rfl, ?_⟩) (by assumption) ?_
  rotate_left
  · (intro wx hSw; (try dsimp only at hSw); go_simp; (try rw [if_neg (by omega)]); try (with_reducible rfl))
  try simp only [Act.put, List.setIfInBounds_toArray, List.set_cons_zero, List.set_cons_succ]
  refine wpAnyH_ready (rs := [2]) (by kernel_rfl) (by simp) ?_
  refine AllReadyH.cons (by simp only [List.getElem?_toArray, List.getElem?_cons_succ, List.getElem?_cons_zero]; rfl) (fun K hK => ?_) AllReadyH.nil
  go_simp
  refine C1.out.mono ?_
  rintro r w1 ⟨rfl, q1⟩
  have b1 := CC.out _ q1
  have H1 := Lib.hid q1
  clear q1 C1
  dsimp only
  refine hK.out _ _ b1 (fun hHeld2 => ?_)
  clear hK K
  try simp only [Act.put, List.setIfInBounds_toArray, List.set_cons_zero, List.set_cons_succ]
  refine wpAnyH_ready (rs := [3]) (by kernel_rfl) (by simp) ?_
  refine AllReadyH.cons (by simp only [List.getElem?_toArray, List.getElem?_cons_succ, List.getElem?_cons_zero]; rfl) (fun K hK => ?_) AllReadyH.nil
  go_simp
  have b2 := CC.out _ (H1.out.alloc (.cells #[.string s, .string o] 9))
  refine hK.out _ _ b2 (fun hHeld3 => ?_)
  clear hK K
  try simp only [Act.put, List.setIfInBounds_toArray, List.set_cons_zero, List.set_cons_succ]
  refine wpAnyH_ready (rs := [4]) (by kernel_rfl) (by simp) ?_
  refine AllReadyH.cons (by simp only [List.getElem?_toArray, List.getElem?_cons_succ, List.getElem?_cons_zero]; rfl) (fun K hK => ?_) AllReadyH.nil
  go_simp
  refine (tag2_x (W := w) wSec s o x HX.out _ w1 _ rfl H1.out (hG.q HQ.out) (by decide) hs zo).mono ?_
  rintro r w2 ⟨rfl, q2⟩
  have b3 := CC.out _ q2
  have H2 := Lib.hid q2
  clear q2
  dsimp only
  refine hK.out _ _ b3 (fun hHeld4 => ?_)
  clear hK K
  try simp only [Act.put, List.setIfInBounds_toArray, List.set_cons_zero, List.set_cons_succ]
  refine wpAnyH_take (i := 5) (v := ?_) (by simp only [List.getElem?_toArray, List.getElem?_cons_zero, List.getElem?_cons_succ]; rfl) (by kernel_rfl) (by kernel_rfl) (by kernel_rfl) (by exact fun _ _ _ h => h) (Or.inl ⟨by rfl, ?_⟩) (by assumption) ?_
  rotate_left
  · (intro wx hSw; (try dsimp only at hSw); go_simp; (try rw [if_neg (by omega)]); try (with_reducible rfl))
  try simp only [Act.put, List.setIfInBounds_toArray, List.set_cons_zero, List.set_cons_succ]
  refine wpAnyH_done (by kernel_rfl) ?_ _
  go_wp2_with fail
  go_ret
  exact ⟨rfl, HQ.out.trans H2.out⟩
end Go.Proofs.YtnghhagiokiaoaaDoor.Wot
