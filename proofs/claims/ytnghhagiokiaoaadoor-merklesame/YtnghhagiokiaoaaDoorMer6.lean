/-
  Layer 7: the document's Leaf, Verify; Same; the statements' cut.
-/
import Derived.Test.YtnghhagiokiaoaaDoorMer5
namespace Go.Proofs.YtnghhagiokiaoaaDoor.Mer
open Go.RowKit
open Mem Sh Wot
set_option linter.unusedVariables false

set_option maxHeartbeats 1000000 in
theorem rleaf_ok (sig : ByteArray) (h b : Nat) (x : IsSig sig h b) (w : World) :
    Calls Tryd.prog 26 #[.string sig] w fun e w' => e = .returned (.tuple #[.int .i64 b, .int .i64 0]) ∧ w = w' := by
  obtain ⟨hz, hh, hb, hlt⟩ := x
  have HZ := Lib.hid hz
  have z0 : 0 < sig.size := by omega
  have z0' : (0 : Int) < (sig.size : Int) := by omega
  have zb : (sig.size : Int) ≤ 1000 := by omega
  have hg := PlainAid.get_bt sig
  have b0 : (0 : Int) ≤ (b : Int) := by omega
  have b255 : (b : Int) ≤ 255 := by have := PlainAid.bt_le sig 0; omega
  have HB := Lib.hid hlt
  clear hz hlt
  go_enter Tryd.func26, Tryd.ntmps26
  go_wp2_with fail
  go_loopw [4, 5] (fun p i wr => ∃ j P : Nat, j ≤ h ∧ Hid (P = 2 ^ j) ∧ p = .int .i64 P ∧ i = .int .i64 j ∧ w = wr) (fun _ i _ => h - (intOf i).toNat)
  case atStart => exact ⟨0, 1, by omega, Lib.hid rfl, rfl, rfl, rfl⟩
  case round =>
    obtain ⟨j, P, hj, HP, rfl, rfl, rfl⟩ := hrel
    have j0 : (0 : Int) ≤ (j : Int) := by omega
    have j4 : (j : Int) ≤ 4 := by omega
    have P16 : P ≤ 16 := by rw [HP.out]; exact pow_le16 j (by omega)
    have P16' : (P : Int) ≤ 16 := by omega
    by_cases e : j = h
    · have te : ((sig.size : Int) == 289 + 16 * (j : Int)) = true := by have := HZ.out; simp; omega
      have bP : (b : Int) < (P : Int) := by have := HB.out; rw [← e, ← HP.out] at this; omega
      go_wp2_with fail
      go_ret2
      exact ⟨rfl, rfl⟩
    · have te : ((sig.size : Int) == 289 + 16 * (j : Int)) = false := by have := HZ.out; rw [beq_eq_false_iff_ne]; omega
      have HS : Hid (2 * P = 2 ^ (j + 1)) := by show 2 * P = _; rw [HP.out, Nat.pow_succ]; omega
      go_wp2_with fail
      exact ⟨⟨j + 1, 2 * P, by omega, HS, by go_num, by go_num, trivial⟩, by simp [intOf]; omega⟩
set_option maxHeartbeats 1000000 in
theorem rleaf_bad (sig : ByteArray) (x : ¬ ∃ h b, IsSig sig h b) (hz : sig.size ≤ 1000000) (w : World) :
    Calls Tryd.prog 26 #[.string sig] w fun e w' => e = .returned (.tuple #[.int .i64 0, .int .i64 4]) ∧ w = w' := by
  have HX := Lib.hid x
  have hg := PlainAid.get_bt sig
  obtain ⟨b, hb⟩ : ∃ b : Nat, PlainAid.bt sig 0 = (b : Int) := Int.eq_ofNat_of_zero_le (PlainAid.bt_nonneg sig 0)
  have HB := Lib.hid hb
  have b0 : (0 : Int) ≤ (b : Int) := by omega
  have b255 : (b : Int) ≤ 255 := by have := PlainAid.bt_le sig 0; omega
  have zb : (sig.size : Int) ≤ 1000000 := by omega
  clear x
  go_enter Tryd.func26, Tryd.ntmps26
  go_wp2_with fail
  go_loopw [4, 5] (fun p i wr => ∃ j P : Nat, j ≤ 5 ∧ Hid (P = 2 ^ j) ∧ p = .int .i64 P ∧ i = .int .i64 j ∧ w = wr) (fun _ i _ => 5 - (intOf i).toNat)
  case atStart => exact ⟨0, 1, by omega, Lib.hid rfl, rfl, rfl, rfl⟩
  case round =>
    obtain ⟨j, P, hj, HP, rfl, rfl, rfl⟩ := hrel
    have j0 : (0 : Int) ≤ (j : Int) := by omega
    by_cases e5 : j = 5
    · subst e5
      go_wp2_with fail
      go_ret2
      exact ⟨rfl, rfl⟩
    · have j4 : (j : Int) ≤ 4 := by omega
      have P16 : P ≤ 16 := by rw [HP.out]; exact pow_le16 j (by omega)
      have P16' : (P : Int) ≤ 16 := by omega
      by_cases e : sig.size = 289 + 16 * j
      · have te : ((sig.size : Int) == 289 + 16 * (j : Int)) = true := by simp; omega
        have z0 : 0 < sig.size := by omega
        have z0' : (0 : Int) < (sig.size : Int) := by omega
        have bP : (P : Int) ≤ (b : Int) := by
          by_cases hc : b < 2 ^ j
          · exact absurd ⟨j, b, e, by omega, HB.out, hc⟩ HX.out
          · rw [← HP.out] at hc; omega
        clear e
        go_wp2_with fail
        go_ret2
        exact ⟨rfl, rfl⟩
      · have te : ((sig.size : Int) == 289 + 16 * (j : Int)) = false := by rw [beq_eq_false_iff_ne]; omega
        have HS : Hid (2 * P = 2 ^ (j + 1)) := by show 2 * P = _; rw [HP.out, Nat.pow_succ]; omega
        go_wp2_with fail
        exact ⟨⟨j + 1, 2 * P, by omega, HS, by go_num, by go_num, trivial⟩, by simp [intOf]; omega⟩
theorem is_up {r m sig : ByteArray} {h b : Nat} (x : IsSig sig h b) : IsUp (frm (msgS r b m) (sig.extract 1 289)) b h (sgp sig) :=
  ⟨frm_size _ _, x.2.1, by omega, by have := x.2.2.2; omega, fun j hj => by unfold sgp; rw [ByteArray.size_extract]; have := x.1; omega⟩

set_option maxHeartbeats 2000000 in
set_option maxRecDepth 100000 in
theorem rmverify_is {W : World} (r m sig : ByteArray) (v : Bool) (h b : Nat) (hr : r.size = 16) (x : IsSig sig h b) (hv : decide (led r m sig h b = r) = v) (w : World) (q : Q W w) (hm : m.size ≤ 100000) :
    Calls Tryd.prog 28 #[.string r, .string m, .string sig] w fun e w' => e = .returned (.bool v) ∧ Q W w' := by
  have HQ := Lib.hid q
  have HX := Lib.hid x
  have HV := Lib.hid hv
  have CL := Lib.hid (rleaf_ok sig h b x w)
  obtain ⟨hz, hh, hb, hlt⟩ := x
  have zs : (sig.size : Int) = 289 + 16 * (h : Int) := by omega
  have h4 : (h : Int) ≤ 4 := by omega
  have zr : (r.size : Int) = 16 := by omega
  have b16 : b ≤ 16 := by have := pow_le16 h hh; omega
  have O0 := Lib.hid (OT.lit w w.heap.size (sgp sig) (Nat.le_refl _))
  have Q0 := Lib.hid ((Q.refl w).alloc (.cells #[] 9))
  obtain ⟨o, eo⟩ : ∃ o, one b = o := ⟨_, rfl⟩
  obtain ⟨M, eM⟩ : ∃ M, r ++ o ++ m = M := ⟨_, rfl⟩
  obtain ⟨S, eS⟩ : ∃ S, sig.extract 1 289 = S := ⟨_, rfl⟩
  obtain ⟨L, eL⟩ : ∃ L, frm M S = L := ⟨_, rfl⟩
  have zo : o.size = 1 := by rw [← eo, one_size]
  have zro : (r ++ o).size = 17 := by rw [ByteArray.size_append, hr, zo]
  have zM : M.size ≤ 1000000 := by rw [← eM, ByteArray.size_append, zro]; omega
  have zS : S.size = 288 := by rw [← eS, ByteArray.size_extract]; omega
  have eU : msgS r b m = M := by unfold msgS; rw [eo, eM]
  obtain ⟨U, eU2⟩ : ∃ U, rtS h (upx L b (sgp sig) h) = U := ⟨_, rfl⟩
  have EV : Hid (decide (U = r) = v) := by rw [← eU2, ← eL, ← eS, ← eU]; exact hv
  have IU : Hid (IsUp L b h (sgp sig)) := by have := is_up (r := r) (m := m) HX.out; rw [eU, eS, eL] at this; exact this
  have EO := Lib.hid eo
  have EL := Lib.hid eL
  have EU := Lib.hid eU2
  have ZS := Lib.hid zS
  have HSP : Hid (∀ k, k < h → sig.extract (289 + 16 * k) (289 + 16 * k + 16) = sgp sig k) := fun k _ => rfl
  clear q hz hh hb hlt eo eL eU eU2 hv HX hr zS
  go_enter Tryd.func28, Tryd.ntmps28
  go_wp2_with fail
  refine CL.out.mono ?_
  rintro e w0 ⟨rfl, rfl⟩
  clear CL
  go_wp2_with fail
  generalize w.alloc (.cells #[] 9) = w0 at *
  go_loopw [9, 10] (fun u z wr => ∃ k g' c' A : Nat, k ≤ h ∧ u = .slice (some ⟨g', 0, none⟩) k c' ∧ Hid (A = 289 + 16 * k) ∧ z = .int .i64 A ∧ Hid (OT wr w.heap.size g' k c' (sgp sig)) ∧ Hid (Q w wr)) (fun _ z _ => 289 + 16 * h - (intOf z).toNat)
  case atStart => exact ⟨0, _, _, 289, by omega, rfl, Lib.hid rfl, rfl, O0, Q0⟩
  case round =>
    obtain ⟨k, g', c', A, hk, rfl, EA, rfl, O, I⟩ := hrel
    clear O0 Q0
    have k0 : (0 : Int) ≤ (k : Int) := by omega
    have k4 : (k : Int) ≤ 4 := by omega
    by_cases hlt : k < h
    · have hA := EA.out
      have A0 : (0 : Int) ≤ (A : Int) := by omega
      have A1 : (A : Int) + 16 ≤ (sig.size : Int) := by omega
      have A2 : (A : Int) < (sig.size : Int) := by omega
      have A3 : (A : Int) < 289 + 16 * (h : Int) := by omega
      have A4 : (A : Int) + 16 ≤ 289 + 16 * (h : Int) := by omega
      have A5 : (A : Int) ≤ 1000 := by omega
      have EB : Hid (A + 16 = 289 + 16 * (k + 1)) := by show _ = _; omega
      have EL2 : Hid (289 + 16 * h - (A + 16) < 289 + 16 * h - A) := by show _ < _; omega
      obtain ⟨y, ey⟩ : ∃ y, sgp sig k = y := ⟨_, rfl⟩
      have HY := Lib.hid ey
      have ex : sig.extract A (A + 16) = y := by rw [hA]; exact ey
      have ex2 : sig.extract A ((A : Int) + 16).toNat = y := by rw [show ((A : Int) + 16).toNat = A + 16 by omega]; exact ex
      clear ey hA
      go_wp2_with (at_builtin; refine append_t wr rfl _ _ rfl w.heap.size g' k c' (sgp sig) y HY.out rfl O.out rfl (by omega) I.out.size ?_; intro g3 c3 w3 o3 ch3; have O3 := Lib.hid o3; have Q3 := Lib.hid (ch3.q I.out O.out.lo); clear o3 ch3)
      exact ⟨⟨k + 1, g3, c3, A + 16, by omega, rfl, EB, by go_num, O3, Q3⟩, by have := EL2.out; simp [intOf]; omega⟩
    · obtain rfl : k = h := by omega
      obtain rfl : A = 289 + 16 * k := EA.out
      have td : decide (289 + 16 * k < sig.size) = false := by simp; omega
      have td2 : decide (289 + 16 * (k : Int) < (sig.size : Int)) = false := by simp; omega
      clear EA
      go_wp2_with fail
      have J0 : Hid (Q wr wr.drew) := (Q.refl wr).drew
      refine wp_region_held_drew (S := fun _ => True) (by kernel_rfl) trivial (fun hHeld => ?_)
      refine wpAnyH_take (i := 0) (v := ?_) (by simp only [List.getElem?_toArray, List.getElem?_cons_zero]; rfl) (by kernel_rfl) (by kernel_rfl) (by kernel_rfl) (by exact fun _ _ _ h => h) (Or.inl ⟨by rfl, ?_⟩) trivial ?_
      rotate_left
      · (intro wx hSw; (try dsimp only at hSw); go_simp; (try rw [if_neg (by omega)]); try (with_reducible rfl))
      try simp only [Act.put, List.setIfInBounds_toArray, List.set_cons_zero, List.set_cons_succ]
      refine wpAnyH_take (i := 1) (v := ?_) (by simp only [List.getElem?_toArray, List.getElem?_cons_zero, List.getElem?_cons_succ]; rfl) (by kernel_rfl) (by kernel_rfl) (by kernel_rfl) (by exact fun _ _ _ h => h) (Or.inl ⟨by rfl, ?_⟩) trivial ?_
      rotate_left
      · (intro wx hSw; (try dsimp only at hSw); go_simp; (try rw [if_neg (by omega)]); try (with_reducible rfl))
      try simp only [Act.put, List.setIfInBounds_toArray, List.set_cons_zero, List.set_cons_succ]
      refine wpAnyH_take (i := 4) (v := ?_) (by simp only [List.getElem?_toArray, List.getElem?_cons_zero, List.getElem?_cons_succ]; rfl) (by kernel_rfl) (by kernel_rfl) (by kernel_rfl) (by exact fun _ _ _ h => h) (Or.inl ⟨by rfl, ?_⟩) trivial ?_
      rotate_left
      · (intro wx hSw; (try dsimp only at hSw); go_simp; (try rw [if_neg (by omega)]); try (with_reducible rfl))
      try simp only [Act.put, List.setIfInBounds_toArray, List.set_cons_zero, List.set_cons_succ]
      refine wpAnyH_take (i := 6) (v := ?_) (by simp only [List.getElem?_toArray, List.getElem?_cons_zero, List.getElem?_cons_succ]; rfl) (by kernel_rfl) (by kernel_rfl) (by kernel_rfl) (by exact fun _ _ _ h => h) (Or.inl ⟨by rfl, ?_⟩) trivial ?_
      rotate_left
      · (intro wx hSw; (try dsimp only at hSw); go_simp; (try rw [if_neg (by omega)]); try (with_reducible rfl))
      try simp only [Act.put, List.setIfInBounds_toArray, List.set_cons_zero, List.set_cons_succ]
      refine wpAnyH_take (i := 7) (v := ?_) (by simp only [List.getElem?_toArray, List.getElem?_cons_zero, List.getElem?_cons_succ]; rfl) (by kernel_rfl) (by kernel_rfl) (by kernel_rfl) (by exact fun _ _ _ h => h) (Or.inl ⟨by rfl, ?_⟩) trivial ?_
      rotate_left
      · (intro wx hSw; (try dsimp only at hSw); go_simp; (rw [if_pos (by omega)]); try (with_reducible rfl))
      try simp only [Act.put, List.setIfInBounds_toArray, List.set_cons_zero, List.set_cons_succ]
      refine wpAnyH_ready (rs := [2]) (by kernel_rfl) (by simp) ?_
      refine AllReadyH.cons (by simp only [List.getElem?_toArray, List.getElem?_cons_succ, List.getElem?_cons_zero]; rfl) (fun K hK => ?_) AllReadyH.nil
      go_simp
      refine (rone_x b o EO.out wr.drew J0.out (by omega)).mono ?_
      rintro e w1 ⟨rfl, q1⟩
      have J1 := Lib.hid q1
      clear q1
      dsimp only
      refine hK.out _ _ trivial (fun hHeld2 => ?_)
      clear hK K
      try simp only [Act.put, List.setIfInBounds_toArray, List.set_cons_zero, List.set_cons_succ]
      refine wpAnyH_take (i := 3) (v := ?_) (by simp only [List.getElem?_toArray, List.getElem?_cons_zero, List.getElem?_cons_succ]; rfl) (by kernel_rfl) (by kernel_rfl) (by kernel_rfl) (by exact fun _ _ _ h => h) (Or.inl ⟨by rfl, ?_⟩) trivial ?_
      rotate_left
      · (intro wx hSw; (try dsimp only at hSw); go_simp; (try rw [if_neg (by omega)]); try (with_reducible rfl))
      try simp only [Act.put, List.setIfInBounds_toArray, List.set_cons_zero, List.set_cons_succ]
      refine wpAnyH_take (i := 5) (v := ?_) (by simp only [List.getElem?_toArray, List.getElem?_cons_zero, List.getElem?_cons_succ]; rfl) (by kernel_rfl) (by kernel_rfl) (by kernel_rfl) (by exact fun _ _ _ h => h) (Or.inl ⟨by rfl, ?_⟩) trivial ?_
      rotate_left
      · (intro wx hSw; (try dsimp only at hSw); go_simp; (try rw [if_neg (by omega)]); try (with_reducible rfl))
      try simp only [Act.put, List.setIfInBounds_toArray, List.set_cons_zero, List.set_cons_succ]
      refine wpAnyH_ready (rs := [8]) (by kernel_rfl) (by simp) ?_
      refine AllReadyH.cons (by simp only [List.getElem?_toArray, List.getElem?_cons_succ, List.getElem?_cons_zero]; rfl) (fun K hK => ?_) AllReadyH.nil
      go_simp
      refine (rfrom_any M S L EL.out w1 J1.out ZS.out zM).mono ?_
      rintro e w2 ⟨rfl, q2⟩
      have J2 := Lib.hid q2
      clear q2 J1
      dsimp only
      refine hK.out _ _ trivial (fun hHeld8 => ?_)
      clear hK K
      try simp only [Act.put, List.setIfInBounds_toArray, List.set_cons_zero, List.set_cons_succ]
      refine wpAnyH_take (i := 9) (v := ?_) (by simp only [List.getElem?_toArray, List.getElem?_cons_zero, List.getElem?_cons_succ]; rfl) (by kernel_rfl) (by kernel_rfl) (by kernel_rfl) (by exact fun _ _ _ h => h) (Or.inl ⟨by rfl, ?_⟩) trivial ?_
      rotate_left
      · (intro wx hSw; (try dsimp only at hSw); go_simp; (try rw [if_neg (by omega)]); try (with_reducible rfl))
      try simp only [Act.put, List.setIfInBounds_toArray, List.set_cons_zero, List.set_cons_succ]
      refine wpAnyH_take (i := 10) (v := ?_) (by simp only [List.getElem?_toArray, List.getElem?_cons_zero, List.getElem?_cons_succ]; rfl) (by kernel_rfl) (by kernel_rfl) (by kernel_rfl) (by exact fun _ _ _ h => h) (Or.inl ⟨by rfl, ?_⟩) trivial ?_
      rotate_left
      · (intro wx hSw; (try dsimp only at hSw); go_simp; (try rw [if_neg (by omega)]); try (with_reducible rfl))
      try simp only [Act.put, List.setIfInBounds_toArray, List.set_cons_zero, List.set_cons_succ]
      refine wpAnyH_take (i := 11) (v := ?_) (by simp only [List.getElem?_toArray, List.getElem?_cons_zero, List.getElem?_cons_succ]; rfl) (by kernel_rfl) (by kernel_rfl) (by kernel_rfl) (by exact fun _ _ _ h => h) (Or.inl ⟨by rfl, ?_⟩) trivial ?_
      rotate_left
      · (intro wx hSw; (try dsimp only at hSw); go_simp; (try rw [if_neg (by omega)]); try (with_reducible rfl))
      try simp only [Act.put, List.setIfInBounds_toArray, List.set_cons_zero, List.set_cons_succ]
      refine wpAnyH_take (i := 12) (v := ?_) (by simp only [List.getElem?_toArray, List.getElem?_cons_zero, List.getElem?_cons_succ]; rfl) (by kernel_rfl) (by kernel_rfl) (by kernel_rfl) (by exact fun _ _ _ h => h) (Or.inl ⟨by rfl, ?_⟩) trivial ?_
      rotate_left
      · (intro wx hSw; (try dsimp only at hSw); go_simp; (try rw [if_neg (by omega)]); try (with_reducible rfl))
      try simp only [Act.put, List.setIfInBounds_toArray, List.set_cons_zero, List.set_cons_succ]
      refine wpAnyH_take (i := 13) (v := ?_) (by simp only [List.getElem?_toArray, List.getElem?_cons_zero, List.getElem?_cons_succ]; rfl) (by kernel_rfl) (by kernel_rfl) (by kernel_rfl) (by exact fun _ _ _ h => h) (Or.inl ⟨by rfl, ?_⟩) trivial ?_
      rotate_left
      · (intro wx hSw; (try dsimp only at hSw); go_simp; (try rw [if_neg (by omega)]); try (with_reducible rfl))
      try simp only [Act.put, List.setIfInBounds_toArray, List.set_cons_zero, List.set_cons_succ]
      refine wpAnyH_done (by kernel_rfl) ?_ _
      go_wp2_with fail
      refine (rup_x g' 0 k c' b L (sgp sig) U EU.out w2 J2.out (O.out.tr.q J2.out) IU.out).mono ?_
      rintro e w3 ⟨rfl, q3⟩
      have J3 := Lib.hid q3
      clear q3
      by_cases hc : U = r
      · have ev : v = true := by rw [← EV.out]; simp [hc]
        subst hc
        go_wp2_with fail
        go_ret
        exact ⟨by rw [ev]; rfl, HQ.out.trans (I.out.trans J3.out)⟩
      · have ev : v = false := by rw [← EV.out]; simp [hc]
        have hn := ne_tl U r hc
        go_wp2_with fail
        go_ret
        exact ⟨by rw [ev]; rfl, HQ.out.trans (I.out.trans J3.out)⟩
theorem rmverify_x {W : World} (r m sig : ByteArray) (v : Bool) (hv : mvf r m sig = v) (w : World) (q : Q W w) (hm : m.size ≤ 100000) (hs : sig.size ≤ 1000000) :
    Calls Tryd.prog 28 #[.string r, .string m, .string sig] w fun e w' => e = .returned (.bool v) ∧ Q W w' := by
  by_cases x : ∃ h b, IsSig sig h b
  · obtain ⟨h, b, x⟩ := x
    by_cases hr : r.size = 16
    · refine rmverify_is r m sig v h b hr x ?_ w q hm
      rw [← hv]
      by_cases e : led r m sig h b = r
      · rw [mvf_yes r m sig h b hr x e, e]; simp
      · rw [mvf_ne r m sig h b x e]; simp [e]
    · have CL := Lib.hid (rleaf_ok sig h b x w)
      rw [mvf_short r m sig hr] at hv
      subst hv
      have hr' : ((r.size : Int) != 16) = true := by simp; omega
      clear x hr
      go_enter Tryd.func28, Tryd.ntmps28
      go_wp2_with fail
      refine CL.out.mono ?_
      rintro e w0 ⟨rfl, rfl⟩
      go_wp2_with fail
      go_ret
      exact ⟨rfl, q⟩
  · have CL := Lib.hid (rleaf_bad sig x hs w)
    rw [mvf_no r m sig x] at hv
    subst hv
    clear x
    go_enter Tryd.func28, Tryd.ntmps28
    go_wp2_with fail
    refine CL.out.mono ?_
    rintro e w0 ⟨rfl, rfl⟩
    go_wp2_with fail
    go_ret
    exact ⟨rfl, q⟩

set_option maxHeartbeats 1000000 in
theorem same_x {W : World} (g o n c g' o' c' : Nat) (f : Nat → ByteArray) (w : World) (q : Q W w) (t : TR w g o n f) (t' : TR w g' o' n f) (hn : n ≤ 1000) :
    Calls Tryd.prog 16 #[.slice (some ⟨g, o, none⟩) n c, .slice (some ⟨g', o', none⟩) n c'] w fun e w' => e = .returned (.bool true) ∧ Q W w' := by
  have HR : Hid (∀ w', Q w w' → ∀ i, i < n → w'.cell? ⟨g, o + i, none⟩ = some (.string (f i)) ∧ w'.cell? ⟨g', o' + i, none⟩ = some (.string (f i))) := fun w' h i hi => ⟨(t.q h).r i hi, (t'.q h).r i hi⟩
  have HQ := Lib.hid q
  clear t t' q
  go_enter Tryd.func16, Tryd.ntmps16
  go_wp2_with fail
  go_loopw [5] (fun i wr => ∃ k : Nat, k ≤ n ∧ i = .int .i64 k ∧ Hid (Q w wr)) (fun i _ => n - (intOf i).toNat)
  case atStart => exact ⟨0, by omega, rfl, Lib.hid (Q.refl w)⟩
  case round =>
    obtain ⟨k, hk, rfl, I⟩ := hrel
    by_cases hlt : k < n
    · have k0 : (0 : Int) ≤ (k : Int) := by omega
      have k1 : (k : Int) < (n : Int) := by omega
      have tk : decide ((k : Int) < (n : Int)) = true := by simp; omega
      obtain ⟨h1, h2⟩ := HR.out wr I.out k hlt
      generalize f k = x at *
      go_wp2_with fail
      go_region
      go_wp2_with fail
      exact ⟨⟨k + 1, by omega, by go_num, Lib.hid I.out.drew⟩, by simp [intOf]; omega⟩
    · obtain rfl : k = n := by omega
      have tk : decide ((k : Int) < (k : Int)) = false := by simp
      go_wp2_with fail
      go_ret
      exact ⟨rfl, HQ.out.trans I.out⟩
theorem same_nil {W : World} (w : World) (q : Q W w) :
    Calls Tryd.prog 16 #[.slice none 0 0, .slice none 0 0] w fun e w' => e = .returned (.bool true) ∧ Q W w' := by
  go_enter Tryd.func16, Tryd.ntmps16
  go_wp2_with fail
  go_loopw [5] (fun i wr => i = .int .i64 0 ∧ w = wr) (fun i _ => 0)
  case atStart => exact ⟨rfl, rfl⟩
  case round =>
    obtain ⟨rfl, rfl⟩ := hrel
    go_wp2_with fail
    go_ret
    exact ⟨rfl, q⟩
end Go.Proofs.YtnghhagiokiaoaaDoor.Mer
