/-
  Layer 6: the document's own answer: the walks of its Sign, From, Verify.
-/
import Derived.Test.YtnghhagiokiaoaaDoorWot3
namespace Go.Proofs.YtnghhagiokiaoaaDoor.Wot
open Go.RowKit
open Mem Sh
set_option linter.unusedVariables false

set_option maxHeartbeats 4000000 in
set_option maxRecDepth 100000 in
theorem rsign_any {W : World} (s m x : ByteArray) (hx : sgn s m = x) (w : World) (q : Q W w) (hs : s.size ≤ 1000000) (hms : m.size ≤ 1000000) :
    Calls Tryd.prog 51 #[.string s, .string m] w fun e w' => e = .returned (.string x) ∧ Q W w' := by
  have HZ := Lib.hid (cat_size (sgnP s m) (sgnP_size s m))
  have HX : Hid (cat (sgnP s m) 18 = x) := hx
  have HD := Lib.hid (rdigits_any m w q hms)
  have HBD := Lib.hid (dig_bd m)
  clear q hx
  go_enter Tryd.func51, Tryd.ntmps51
  go_wp2_with fail
  refine HD.out.mono ?_
  rintro e w1 ⟨g, cap, rfl, c1, c2, hr, _, hg1, hg2, q1⟩
  unfold maxLen at c2
  have RR := Lib.hid (fun (w' : World) (hq : Q w1 w') => hr.q hq hg2)
  have QW := Lib.hid q1
  clear HD hr q1 hg1 hg2
  go_wp2_with fail
  go_loopw [6, 7] (fun a i wr => ∃ k : Nat, k ≤ 18 ∧ a = .string (cat (sgnP s m) k) ∧ i = .int .i64 k ∧ Hid (Q w1 wr)) (fun _ i _ => 18 - (intOf i).toNat)
  case atStart => exact ⟨0, by omega, rfl, rfl, Lib.hid (Q.refl w1)⟩
  case round =>
    obtain ⟨k, hk, rfl, rfl, I⟩ := hrel
    by_cases hlt : k < 18
    · have k0 : (0 : Int) ≤ (k : Int) := by omega
      have k1 : (k : Int) < 18 := by omega
      have hz := HZ.out k
      obtain ⟨t, et⟩ : ∃ t, sec s k = t := ⟨_, rfl⟩
      have zt : t.size = 16 := by rw [← et]; exact sec_size s k
      obtain ⟨y, ey⟩ : ∃ y, sgnP s m k = y := ⟨_, rfl⟩
      obtain ⟨db0, db1⟩ := HBD.out k
      obtain ⟨d, ed⟩ := Int.eq_ofNat_of_zero_le db0
      have d15 : d ≤ 15 := by omega
      have EY : Hid (stp k t d = y) := by
        show stp k t d = y
        rw [← et, ← ey]; unfold sgnP; rw [ed]; rfl
      have zy : y.size = 16 := by rw [← ey]; exact sgnP_size s m k
      have ET := Lib.hid et
      have HS : Hid (cat (sgnP s m) k ++ y = cat (sgnP s m) (k + 1)) := by rw [← ey]; rfl
      have RC : Hid (∀ w', Q w1 w' → w'.cell? ⟨g, k, none⟩ = some (.int .i64 d)) := fun w' hq => by
        have := (RR.out w' hq).at0 k hlt
        rw [ed] at this; exact this
      obtain ⟨c, ec⟩ : ∃ c, cat (sgnP s m) k = c := ⟨_, rfl⟩
      rw [ec] at hz HS ⊢
      have hz' : c.size ≤ 288 := by omega
      clear et ey ec hz db0 db1 ed
      have ID := Lib.hid I.out.drew
      have b1' := RC.out _ ID.out
      go_wp2_with fail
      refine wp_region_held_drew (S := fun w' => w'.cell? ⟨g, k, none⟩ = some (.int .i64 d)) (by kernel_rfl) b1' (fun hHeld => ?_)
      refine wpAnyH_take (i := 0) (v := ?_) (by simp only [List.getElem?_toArray, List.getElem?_cons_zero]; rfl) (by kernel_rfl) (by kernel_rfl) (by kernel_rfl) (by exact fun _ _ _ h => h) (Or.inl ⟨by rfl, ?_⟩) (by assumption) ?_
      rotate_left
      · (intro wx hSw; (try dsimp only at hSw); go_simp; (try rw [if_neg (by omega)]); try (with_reducible rfl))
      try simp only [Act.put, List.setIfInBounds_toArray, List.set_cons_zero, List.set_cons_succ]
      refine wpAnyH_take (i := 1) (v := ?_) (by simp only [List.getElem?_toArray, List.getElem?_cons_zero, List.getElem?_cons_succ]; rfl) (by kernel_rfl) (by kernel_rfl) (by kernel_rfl) (by exact fun _ _ _ h => h) (Or.inl ⟨by rfl, ?_⟩) (by assumption) ?_
      rotate_left
      · (intro wx hSw; (try dsimp only at hSw); go_simp; (try rw [if_neg (by omega)]); try (with_reducible rfl))
      try simp only [Act.put, List.setIfInBounds_toArray, List.set_cons_zero, List.set_cons_succ]
      refine wpAnyH_take (i := 2) (v := ?_) (by simp only [List.getElem?_toArray, List.getElem?_cons_zero, List.getElem?_cons_succ]; rfl) (by kernel_rfl) (by kernel_rfl) (by kernel_rfl) (by exact fun _ _ _ h => h) (Or.inl ⟨by rfl, ?_⟩) (by assumption) ?_
      rotate_left
      · (intro wx hSw; (try dsimp only at hSw); go_simp; (try rw [if_neg (by omega)]); try (with_reducible rfl))
      try simp only [Act.put, List.setIfInBounds_toArray, List.set_cons_zero, List.set_cons_succ]
      refine wpAnyH_take (i := 3) (v := ?_) (by simp only [List.getElem?_toArray, List.getElem?_cons_zero, List.getElem?_cons_succ]; rfl) (by kernel_rfl) (by kernel_rfl) (by kernel_rfl) (by exact fun _ _ _ h => h) (Or.inl ⟨by rfl, ?_⟩) (by assumption) ?_
      rotate_left
      · (intro wx hSw; (try dsimp only at hSw); go_simp; (try rw [if_neg (by omega)]); try (with_reducible rfl))
      try simp only [Act.put, List.setIfInBounds_toArray, List.set_cons_zero, List.set_cons_succ]
      refine wpAnyH_take (i := 5) (v := ?_) (by simp only [List.getElem?_toArray, List.getElem?_cons_zero, List.getElem?_cons_succ]; rfl) (by kernel_rfl) (by kernel_rfl) (by kernel_rfl) (by exact fun _ _ _ h => h) (Or.inl ⟨by rfl, ?_⟩) (by assumption) ?_
      rotate_left
      · (intro wx hSw; (try dsimp only at hSw); go_simp; (try rw [if_neg (by omega)]); try (with_reducible rfl))
      try simp only [Act.put, List.setIfInBounds_toArray, List.set_cons_zero, List.set_cons_succ]
      refine wpAnyH_take (i := 6) (v := ?_) (by simp only [List.getElem?_toArray, List.getElem?_cons_zero, List.getElem?_cons_succ]; rfl) (by kernel_rfl) (by kernel_rfl) (by kernel_rfl) (by exact fun _ _ _ h => h) (Or.inl ⟨by rfl, ?_⟩) (by assumption) ?_
      rotate_left
      · (intro wx hSw; (try dsimp only at hSw); go_simp; (try rw [if_neg (by omega)]); try (with_reducible rfl))
      try simp only [Act.put, List.setIfInBounds_toArray, List.set_cons_zero, List.set_cons_succ]
      refine wpAnyH_take (i := 7) (v := ?_) (by simp only [List.getElem?_toArray, List.getElem?_cons_zero, List.getElem?_cons_succ]; rfl) (by kernel_rfl) (by kernel_rfl) (by kernel_rfl) (by exact fun _ _ _ h => h) (Or.inl ⟨by rfl, ?_⟩) (by assumption) ?_
      rotate_left
      · (intro wx hSw; (try dsimp only at hSw); go_simp; (try rw [if_neg (by omega)]); try (with_reducible rfl))
      try simp only [Act.put, List.setIfInBounds_toArray, List.set_cons_zero, List.set_cons_succ]
      refine wpAnyH_take (i := 8) (v := ?_) (by simp only [List.getElem?_toArray, List.getElem?_cons_zero, List.getElem?_cons_succ]; rfl) (by kernel_rfl) (by kernel_rfl) (by kernel_rfl) (by exact fun _ _ _ h => h) (Or.inl ⟨by rfl, ?_⟩) (by assumption) ?_
      rotate_left
      · (intro wx hSw; (try dsimp only at hSw); go_simp; (try rw [if_neg (by omega)]); try (with_reducible rfl))
      try simp only [Act.put, List.setIfInBounds_toArray, List.set_cons_zero, List.set_cons_succ]
      refine wpAnyH_ready (rs := [4]) (by kernel_rfl) (by simp) ?_
      refine AllReadyH.cons (by simp only [List.getElem?_toArray, List.getElem?_cons_succ, List.getElem?_cons_zero]; rfl) (fun K hK => ?_) AllReadyH.nil
      go_simp
      refine (rsecret_x s t k ET.out _ ID.out hs (by omega)).mono ?_
      rintro e w2 ⟨rfl, q2⟩
      have b2 := RC.out _ q2
      have Q2 := Lib.hid q2
      clear q2 ID
      dsimp only
      refine hK.out _ _ b2 (fun hHeld4 => ?_)
      clear hK K
      try simp only [Act.put, List.setIfInBounds_toArray, List.set_cons_zero, List.set_cons_succ]
      refine wpAnyH_ready (rs := [9]) (by kernel_rfl) (by simp) ?_
      refine AllReadyH.cons (by simp only [List.getElem?_toArray, List.getElem?_cons_succ, List.getElem?_cons_zero]; rfl) (fun K hK => ?_) AllReadyH.nil
      go_simp
      refine (rstep_x k d t y EY.out _ Q2.out (by omega) zt d15).mono ?_
      rintro e w3 ⟨rfl, q3⟩
      have b3 := RC.out _ q3
      have Q3 := Lib.hid q3
      clear q3 Q2
      dsimp only
      refine hK.out _ _ b3 (fun hHeld9 => ?_)
      clear hK K
      try simp only [Act.put, List.setIfInBounds_toArray, List.set_cons_zero, List.set_cons_succ]
      refine wpAnyH_take (i := 10) (v := ?_) (by simp only [List.getElem?_toArray, List.getElem?_cons_zero, List.getElem?_cons_succ]; rfl) (by kernel_rfl) (by kernel_rfl) (by kernel_rfl) (by exact fun _ _ _ h => h) (Or.inl ⟨by rfl, ?_⟩) (by assumption) ?_
      rotate_left
      · (intro wx hSw; (try dsimp only at hSw); go_simp; (try rw [if_neg (by omega)]); try (with_reducible rfl))
      try simp only [Act.put, List.setIfInBounds_toArray, List.set_cons_zero, List.set_cons_succ]
      refine wpAnyH_take (i := 11) (v := ?_) (by simp only [List.getElem?_toArray, List.getElem?_cons_zero, List.getElem?_cons_succ]; rfl) (by kernel_rfl) (by kernel_rfl) (by kernel_rfl) (by exact fun _ _ _ h => h) (Or.inl ⟨by rfl, ?_⟩) (by assumption) ?_
      rotate_left
      · (intro wx hSw; (try dsimp only at hSw); go_simp; (try rw [if_neg (by omega)]); try (with_reducible rfl))
      try simp only [Act.put, List.setIfInBounds_toArray, List.set_cons_zero, List.set_cons_succ]
      refine wpAnyH_done (by kernel_rfl) ?_ _
      go_wp2_with fail
      exact ⟨⟨k + 1, by omega, congrArg Value.string HS.out, by go_num, Q3⟩, by simp [intOf]; omega⟩
    · obtain rfl : k = 18 := by omega
      rw [HX.out]
      go_wp2_with fail
      go_ret
      exact ⟨rfl, QW.out.trans I.out⟩
end Go.Proofs.YtnghhagiokiaoaaDoor.Wot
