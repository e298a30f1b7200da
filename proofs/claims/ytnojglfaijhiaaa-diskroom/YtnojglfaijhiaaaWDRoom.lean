/-
  Layer 13: DiskRoom's walk.
-/
import Derived.Test.YtnojglfaijhiaaaDkS
import Derived.Test.YtnojglfaijhiaaaDkF
import Derived.Test.YtnojglfaijhiaaaPlan2
import Derived.Deep.RegionHeld3
namespace Go.Proofs.Ytnojglfaijhiaaa.Dk
open Go.RowKit
open Mem Plan
set_option linter.unusedVariables false
set_option linter.unusedSimpArgs false

set_option maxHeartbeats 8000000 in
set_option maxRecDepth 100000 in
theorem room_walk (W : World) (r : Nat) (hr : r ≤ 255) (a2 : Option Addr) (len2 cap2 : Nat) (ops : Nat → OP) (hops : IsOps W a2 len2 cap2 ops) :
    Calls Try.prog 5 #[.int .u8 r, .slice a2 len2 cap2] W fun e W' => e = .returned (.bool true) ∧ Below W.heap.size W W' := by
  have HO := Lib.hid hops
  have hcap : len2 ≤ 9223372036854775807 := by have := hops.le; have := hops.cap; unfold maxLen at *; omega
  obtain ⟨mm, hmm⟩ : ∃ z, min len2 40 = z := ⟨_, rfl⟩
  clear hops
  have hrw : IntKind.i64.wrap (r : Int) = r := by rw [IntKind.wrap_i64]; omega
  go_enter Try.func5, Try.ntmps5
  go_wp2_with fail
  refine (new_ok (n := 2) (room := r) (by decide) (by decide) (by omega) W).mono ?_
  rintro e w1 ⟨g0, b0, rfl, d1, q1⟩
  have K0 : Hid (∃ t s, SX W W.heap.size g0 b0 2 t s r w1) := ⟨_, _, d1, q1, Nat.le_refl _⟩
  clear d1 q1
  go_wp2_with fail
  go_loopw [7, 8, 9, 10, 11, 12] (fun i s f fr was g wr => ∃ m : Nat, m ≤ mm ∧ i = .int .i64 m ∧ Hid (∃ t s, SX W W.heap.size g0 b0 2 t s r wr)) (fun i s f fr was g _ => mm - (intOf i).toNat)
  case atStart => exact ⟨0, Nat.zero_le _, rfl, K0⟩
  case round =>
    obtain ⟨m, hm, rfl, ST⟩ := hrel
    clear K0
    obtain ⟨t, s, ST1⟩ := ST.out
    have K := Lib.hid ST1
    clear ST ST1
    obtain ⟨fr, hfr⟩ : ∃ z, frV 2 r t = z := ⟨_, rfl⟩
    have hfr0 : 0 ≤ fr ∧ fr ≤ 255 := by
      have h1 := K.out.d.sum
      have h2 : (r : Int) - (tot t 2 : Int) = fr := hfr
      omega
    by_cases hlt : m < mm
    · have j0 : (0 : Int) ≤ (m : Int) := by omega
      have j1 : (m : Int) < (len2 : Int) := by omega
      have t1 : decide (m < len2) = true := by simp; omega
      have t2 : decide (m < 40) = true := by simp; omega
      obtain ⟨bo, off, hab, hrow0⟩ := HO.out.sl.resolve_left (by omega)
      obtain ⟨op, hop⟩ : ∃ z, ops m = z := ⟨_, rfl⟩
      have hrow : Hid (∀ j v, (op.cells)[j]? = some v → wr.cell? ⟨bo, off + m * 5 + j, none⟩ = some v) := fun j v hv => Q.cell' K.out.q (hrow0 m (by omega) j v (by rw [hop]; exact hv))
      have OK := Lib.hid (HO.out.ok m (by omega))
      rw [hop] at OK
      clear hrow0 hop
      obtain ⟨kind, ff, mf, x0, ka, kl, kc, kf⟩ := op
      have z9 : x0.size ≤ 9223372036854775807 := by have := OK.out.s; unfold maxLen at this; dsimp only at this; omega
      clear OK
      subst hab
      obtain ⟨fi, hf2, hfi⟩ := and1 ff
      obtain ⟨m0, hm0'⟩ : ∃ z : Nat, min x0.size 60 = z := ⟨_, rfl⟩
      have hm0 : (if (60 : Int) < (x0.size : Int) then 60 else (x0.size : Int)) = (m0 : Int) := by split <;> omega
      have hml : m0 ≤ x0.size := by omega
      obtain ⟨x, eA⟩ : ∃ z, x0.extract 0 m0 = z := ⟨_, rfl⟩
      have hx60 : x.size ≤ 60 := by rw [← eA, ByteArray.size_extract]; omega
      obtain ⟨was, hwas⟩ : ∃ z, rdV 2 t (fi : Int) = z := ⟨_, rfl⟩
      have hw255 : was.size ≤ 255 := by
        rw [← hwas, rdV_nat t hf2]
        have h1 := tot_at (t := t) hf2
        have h2 := K.out.d.sum
        omega
      obtain ⟨y, hy⟩ : ∃ z, was ++ x = z := ⟨_, rfl⟩
      go_wp2_with fail
      have hS0 : Q wr wr.drew := (Q.refl wr).drew
      refine region_gen3 ?_
      intro OPS QQ A0 hO hQQ hA
      have hz : A0.tmps.size = 129 := by rw [hA]; rfl
      have hs : sound OPS A0.tmps.size = true := by rw [hz, hO]; kernel_rfl
      have b_1 : A0.eval (.tmp 1) = .slice (some ⟨bo, off, none⟩) len2 cap2 := by rw [hA]; rfl
      have fr_1 : free OPS 1 = true := by rw [hO]; kernel_rfl
      have b_7 : A0.eval (.tmp 7) = .int .i64 m := by rw [hA]; rfl
      have fr_7 : free OPS 7 = true := by rw [hO]; kernel_rfl
      obtain ⟨VV, hVV⟩ : ∃ V : Nat → Value → World → Prop, V = fun i => ([fun v _ => v = .slice (some ⟨bo, off, none⟩) len2 cap2, fun v _ => v = .int .i64 m, fun v _ => v = .pointer (some ⟨bo, off + m * 5, none⟩), fun v _ => v = .pointer (some ⟨bo, off + m * 5 + 3, none⟩), fun v _ => v = .string x0, fun v _ => v = .slice (some ⟨bo, off, none⟩) len2 cap2, fun v _ => v = .int .i64 m, fun v _ => v = .pointer (some ⟨bo, off + m * 5, none⟩), fun v _ => v = .pointer (some ⟨bo, off + m * 5 + 3, none⟩), fun v _ => v = .string x0, fun v _ => v = .int .i64 x0.size, fun v _ => v = .int .i64 m0, fun v _ => v = .string x, fun v _ => v = .slice (some ⟨bo, off, none⟩) len2 cap2, fun v _ => v = .int .i64 m, fun v _ => v = .pointer (some ⟨bo, off + m * 5, none⟩), fun v _ => v = .pointer (some ⟨bo, off + m * 5 + 1, none⟩), fun v _ => v = .int .i64 ff, fun v _ => v = .int .i64 fi, fun v _ => v = .string x, fun v _ => v = .int .i64 fi] : List (Value → World → Prop)).getD i (fun _ _ => True) := ⟨_, rfl⟩
      have v_0 : VV 0 = fun v _ => v = .slice (some ⟨bo, off, none⟩) len2 cap2 := vat hVV 0
      have v_1 : VV 1 = fun v _ => v = .int .i64 m := vat hVV 1
      have v_2 : VV 2 = fun v _ => v = .pointer (some ⟨bo, off + m * 5, none⟩) := vat hVV 2
      have v_3 : VV 3 = fun v _ => v = .pointer (some ⟨bo, off + m * 5 + 3, none⟩) := vat hVV 3
      have v_4 : VV 4 = fun v _ => v = .string x0 := vat hVV 4
      have v_5 : VV 5 = fun v _ => v = .slice (some ⟨bo, off, none⟩) len2 cap2 := vat hVV 5
      have v_6 : VV 6 = fun v _ => v = .int .i64 m := vat hVV 6
      have v_7 : VV 7 = fun v _ => v = .pointer (some ⟨bo, off + m * 5, none⟩) := vat hVV 7
      have v_8 : VV 8 = fun v _ => v = .pointer (some ⟨bo, off + m * 5 + 3, none⟩) := vat hVV 8
      have v_9 : VV 9 = fun v _ => v = .string x0 := vat hVV 9
      have v_10 : VV 10 = fun v _ => v = .int .i64 x0.size := vat hVV 10
      have v_11 : VV 11 = fun v _ => v = .int .i64 m0 := vat hVV 11
      have v_12 : VV 12 = fun v _ => v = .string x := vat hVV 12
      have v_13 : VV 13 = fun v _ => v = .slice (some ⟨bo, off, none⟩) len2 cap2 := vat hVV 13
      have v_14 : VV 14 = fun v _ => v = .int .i64 m := vat hVV 14
      have v_15 : VV 15 = fun v _ => v = .pointer (some ⟨bo, off + m * 5, none⟩) := vat hVV 15
      have v_16 : VV 16 = fun v _ => v = .pointer (some ⟨bo, off + m * 5 + 1, none⟩) := vat hVV 16
      have v_17 : VV 17 = fun v _ => v = .int .i64 ff := vat hVV 17
      have v_18 : VV 18 = fun v _ => v = .int .i64 fi := vat hVV 18
      have v_19 : VV 19 = fun v _ => v = .string x := vat hVV 19
      have v_20 : VV 20 = fun v _ => v = .int .i64 fi := vat hVV 20
      have hV := stable_of (T := Q) hVV ((sl_cons (fun _ _ _ h _ => h) (sl_cons (fun _ _ _ h _ => h) (sl_cons (fun _ _ _ h _ => h) (sl_cons (fun _ _ _ h _ => h) (sl_cons (fun _ _ _ h _ => h) (sl_cons (fun _ _ _ h _ => h) (sl_cons (fun _ _ _ h _ => h) (sl_cons (fun _ _ _ h _ => h) (sl_cons (fun _ _ _ h _ => h) (sl_cons (fun _ _ _ h _ => h) (sl_cons (fun _ _ _ h _ => h) (sl_cons (fun _ _ _ h _ => h) (sl_cons (fun _ _ _ h _ => h) (sl_cons (fun _ _ _ h _ => h) (sl_cons (fun _ _ _ h _ => h) (sl_cons (fun _ _ _ h _ => h) (sl_cons (fun _ _ _ h _ => h) (sl_cons (fun _ _ _ h _ => h) (sl_cons (fun _ _ _ h _ => h) (sl_cons (fun _ _ _ h _ => h) (sl_cons (fun _ _ _ h _ => h) trivial))))))))))))))))))))))
      clear hVV
      have i_0 := pget_at hO 0 rfl
      have i_1 := pget_at hO 1 rfl
      have i_2 := pget_at hO 2 rfl
      have i_3 := pget_at hO 3 rfl
      have i_4 := pget_at hO 4 rfl
      have i_5 := pget_at hO 5 rfl
      have i_6 := pget_at hO 6 rfl
      have i_7 := pget_at hO 7 rfl
      have i_8 := pget_at hO 8 rfl
      have i_9 := pget_at hO 9 rfl
      have i_10 := pget_at hO 10 rfl
      have i_11 := pget_at hO 11 rfl
      have i_12 := pget_at hO 12 rfl
      have i_13 := pget_at hO 13 rfl
      have i_14 := pget_at hO 14 rfl
      have i_15 := pget_at hO 15 rfl
      have i_16 := pget_at hO 16 rfl
      have i_17 := pget_at hO 17 rfl
      have i_18 := pget_at hO 18 rfl
      have i_19 := pget_at hO 19 rfl
      have i_20 := pget_at hO 20 rfl
      have s_0 := Step.pure (P := Try.prog) (V := VV) (T := Q) (S := (Q wr)) (a0 := A0) (Qx := QQ) i_0 (.slice (some ⟨bo, off, none⟩) len2 cap2) (Q.refl ·) (fun l a w hI hl => ⟨wanted_none rfl, ex_move rfl ((hI.base 1 fr_1).trans b_1), at_mk v_0 rfl⟩)
      have s_1 := Step.pure (P := Try.prog) (V := VV) (T := Q) (S := (Q wr)) (a0 := A0) (Qx := QQ) i_1 (.int .i64 m) (Q.refl ·) (fun l a w hI hl => ⟨wanted_none rfl, ex_move rfl ((hI.base 7 fr_7).trans b_7), at_mk v_1 rfl⟩)
      have s_2 := Step.pure (P := Try.prog) (V := VV) (T := Q) (S := (Q wr)) (a0 := A0) (Qx := QQ) i_2 (.pointer (some ⟨bo, off + m * 5, none⟩)) (Q.refl ·) (fun l a w hI hl => ⟨wanted_none rfl, (by have e0 : a.eval (.tmp 35) = _ := (at_eq v_0 (hI.at_ 0 35 _ i_0 rfl (hl_at hl 0 rfl rfl))); have e1 : a.eval (.tmp 36) = _ := (at_eq v_1 (hI.at_ 1 36 _ i_1 rfl (hl_at hl 1 rfl rfl))); generalize a.eval = ρ at e0 e1 ⊢; simp [go_sem, e0, e1, j0, j1]), at_mk v_2 rfl⟩)
      have s_3 := Step.pure (P := Try.prog) (V := VV) (T := Q) (S := (Q wr)) (a0 := A0) (Qx := QQ) i_3 (.pointer (some ⟨bo, off + m * 5 + 3, none⟩)) (Q.refl ·) (fun l a w hI hl => ⟨wanted_none rfl, (by have e0 : a.eval (.tmp 37) = _ := (at_eq v_2 (hI.at_ 2 37 _ i_2 rfl (hl_at hl 0 rfl rfl))); generalize a.eval = ρ at e0 ⊢; simp [go_sem, e0]), at_mk v_3 rfl⟩)
      have s_4 := Step.pure (P := Try.prog) (V := VV) (T := Q) (S := (Q wr)) (a0 := A0) (Qx := QQ) i_4 (.string x0) (Q.refl ·) (fun l a w hI hl => ⟨wanted_none rfl, (by have e0 : a.eval (.tmp 38) = _ := (at_eq v_3 (hI.at_ 3 38 _ i_3 rfl (hl_at hl 0 rfl rfl))); have x0 := Q.cell' hI.st (hrow.out 3 _ rfl); generalize a.eval = ρ at e0 ⊢; simp [go_sem, e0, x0]), at_mk v_4 rfl⟩)
      have s_5 := Step.pure (P := Try.prog) (V := VV) (T := Q) (S := (Q wr)) (a0 := A0) (Qx := QQ) i_5 (.slice (some ⟨bo, off, none⟩) len2 cap2) (Q.refl ·) (fun l a w hI hl => ⟨wanted_none rfl, ex_move rfl ((hI.base 1 fr_1).trans b_1), at_mk v_5 rfl⟩)
      have s_6 := Step.pure (P := Try.prog) (V := VV) (T := Q) (S := (Q wr)) (a0 := A0) (Qx := QQ) i_6 (.int .i64 m) (Q.refl ·) (fun l a w hI hl => ⟨wanted_none rfl, ex_move rfl ((hI.base 7 fr_7).trans b_7), at_mk v_6 rfl⟩)
      have s_7 := Step.pure (P := Try.prog) (V := VV) (T := Q) (S := (Q wr)) (a0 := A0) (Qx := QQ) i_7 (.pointer (some ⟨bo, off + m * 5, none⟩)) (Q.refl ·) (fun l a w hI hl => ⟨wanted_none rfl, (by have e0 : a.eval (.tmp 40) = _ := (at_eq v_5 (hI.at_ 5 40 _ i_5 rfl (hl_at hl 0 rfl rfl))); have e1 : a.eval (.tmp 41) = _ := (at_eq v_6 (hI.at_ 6 41 _ i_6 rfl (hl_at hl 1 rfl rfl))); generalize a.eval = ρ at e0 e1 ⊢; simp [go_sem, e0, e1, j0, j1]), at_mk v_7 rfl⟩)
      have s_8 := Step.pure (P := Try.prog) (V := VV) (T := Q) (S := (Q wr)) (a0 := A0) (Qx := QQ) i_8 (.pointer (some ⟨bo, off + m * 5 + 3, none⟩)) (Q.refl ·) (fun l a w hI hl => ⟨wanted_none rfl, (by have e0 : a.eval (.tmp 42) = _ := (at_eq v_7 (hI.at_ 7 42 _ i_7 rfl (hl_at hl 0 rfl rfl))); generalize a.eval = ρ at e0 ⊢; simp [go_sem, e0]), at_mk v_8 rfl⟩)
      have s_9 := Step.pure (P := Try.prog) (V := VV) (T := Q) (S := (Q wr)) (a0 := A0) (Qx := QQ) i_9 (.string x0) (Q.refl ·) (fun l a w hI hl => ⟨wanted_none rfl, (by have e0 : a.eval (.tmp 43) = _ := (at_eq v_8 (hI.at_ 8 43 _ i_8 rfl (hl_at hl 0 rfl rfl))); have x0 := Q.cell' hI.st (hrow.out 3 _ rfl); generalize a.eval = ρ at e0 ⊢; simp [go_sem, e0, x0]), at_mk v_9 rfl⟩)
      have s_10 := Step.pure (P := Try.prog) (V := VV) (T := Q) (S := (Q wr)) (a0 := A0) (Qx := QQ) i_10 (.int .i64 x0.size) (Q.refl ·) (fun l a w hI hl => ⟨wanted_none rfl, (by have e0 : a.eval (.tmp 44) = _ := (at_eq v_9 (hI.at_ 9 44 _ i_9 rfl (hl_at hl 0 rfl rfl))); generalize a.eval = ρ at e0 ⊢; simp [go_sem, e0]), at_mk v_10 rfl⟩)
      have s_11 := Step.pure (P := Try.prog) (V := VV) (T := Q) (S := (Q wr)) (a0 := A0) (Qx := QQ) i_11 (.int .i64 m0) (Q.refl ·) (fun l a w hI hl => ⟨wanted_none rfl, (by have e0 : a.eval (.tmp 45) = _ := (at_eq v_10 (hI.at_ 10 45 _ i_10 rfl (hl_at hl 0 rfl rfl))); have e1 : a.eval (.const (.int .i64 60)) = .int .i64 60 := rfl; generalize a.eval = ρ at e0 e1 ⊢; simp [go_sem, e0, e1, hm0]), at_mk v_11 rfl⟩)
      have s_12 := Step.pure (P := Try.prog) (V := VV) (T := Q) (S := (Q wr)) (a0 := A0) (Qx := QQ) i_12 (.string x) (Q.refl ·) (fun l a w hI hl => ⟨wanted_none rfl, (by have e0 : a.eval (.tmp 39) = _ := (at_eq v_4 (hI.at_ 4 39 _ i_4 rfl (hl_at hl 0 rfl rfl))); have e1 : a.eval (.tmp 46) = _ := (at_eq v_11 (hI.at_ 11 46 _ i_11 rfl (hl_at hl 1 rfl rfl))); generalize a.eval = ρ at e0 e1 ⊢; simp [go_sem, e0, e1, eA, z9, hml]; try omega), at_mk v_12 rfl⟩)
      have s_13 := Step.pure (P := Try.prog) (V := VV) (T := Q) (S := (Q wr)) (a0 := A0) (Qx := QQ) i_13 (.slice (some ⟨bo, off, none⟩) len2 cap2) (Q.refl ·) (fun l a w hI hl => ⟨wanted_none rfl, ex_move rfl ((hI.base 1 fr_1).trans b_1), at_mk v_13 rfl⟩)
      have s_14 := Step.pure (P := Try.prog) (V := VV) (T := Q) (S := (Q wr)) (a0 := A0) (Qx := QQ) i_14 (.int .i64 m) (Q.refl ·) (fun l a w hI hl => ⟨wanted_none rfl, ex_move rfl ((hI.base 7 fr_7).trans b_7), at_mk v_14 rfl⟩)
      have s_15 := Step.pure (P := Try.prog) (V := VV) (T := Q) (S := (Q wr)) (a0 := A0) (Qx := QQ) i_15 (.pointer (some ⟨bo, off + m * 5, none⟩)) (Q.refl ·) (fun l a w hI hl => ⟨wanted_none rfl, (by have e0 : a.eval (.tmp 48) = _ := (at_eq v_13 (hI.at_ 13 48 _ i_13 rfl (hl_at hl 0 rfl rfl))); have e1 : a.eval (.tmp 49) = _ := (at_eq v_14 (hI.at_ 14 49 _ i_14 rfl (hl_at hl 1 rfl rfl))); generalize a.eval = ρ at e0 e1 ⊢; simp [go_sem, e0, e1, j0, j1]), at_mk v_15 rfl⟩)
      have s_16 := Step.pure (P := Try.prog) (V := VV) (T := Q) (S := (Q wr)) (a0 := A0) (Qx := QQ) i_16 (.pointer (some ⟨bo, off + m * 5 + 1, none⟩)) (Q.refl ·) (fun l a w hI hl => ⟨wanted_none rfl, (by have e0 : a.eval (.tmp 50) = _ := (at_eq v_15 (hI.at_ 15 50 _ i_15 rfl (hl_at hl 0 rfl rfl))); generalize a.eval = ρ at e0 ⊢; simp [go_sem, e0]), at_mk v_16 rfl⟩)
      have s_17 := Step.pure (P := Try.prog) (V := VV) (T := Q) (S := (Q wr)) (a0 := A0) (Qx := QQ) i_17 (.int .i64 ff) (Q.refl ·) (fun l a w hI hl => ⟨wanted_none rfl, (by have e0 : a.eval (.tmp 51) = _ := (at_eq v_16 (hI.at_ 16 51 _ i_16 rfl (hl_at hl 0 rfl rfl))); have x0 := Q.cell' hI.st (hrow.out 1 _ rfl); generalize a.eval = ρ at e0 ⊢; simp [go_sem, e0, x0]), at_mk v_17 rfl⟩)
      have s_18 := Step.pure (P := Try.prog) (V := VV) (T := Q) (S := (Q wr)) (a0 := A0) (Qx := QQ) i_18 (.int .i64 fi) (Q.refl ·) (fun l a w hI hl => ⟨wanted_none rfl, (by have e0 : a.eval (.tmp 52) = _ := (at_eq v_17 (hI.at_ 17 52 _ i_17 rfl (hl_at hl 0 rfl rfl))); have e1 : a.eval (.const (.int .i64 1)) = .int .i64 1 := rfl; generalize a.eval = ρ at e0 e1 ⊢; simp [go_sem, e0, e1, hfi]), at_mk v_18 rfl⟩)
      have s_19 := Step.pure (P := Try.prog) (V := VV) (T := Q) (S := (Q wr)) (a0 := A0) (Qx := QQ) i_19 (.string x) (Q.refl ·) (fun l a w hI hl => ⟨wanted_none rfl, ex_assign rfl (at_eq v_12 (hI.at_ 12 47 _ i_12 rfl (hl_at hl 0 rfl rfl))), at_mk v_19 rfl⟩)
      have s_20 := Step.pure (P := Try.prog) (V := VV) (T := Q) (S := (Q wr)) (a0 := A0) (Qx := QQ) i_20 (.int .i64 fi) (Q.refl ·) (fun l a w hI hl => ⟨wanted_none rfl, ex_assign rfl (at_eq v_18 (hI.at_ 18 53 _ i_18 rfl (hl_at hl 0 rfl rfl))), at_mk v_20 rfl⟩)
      refine wp_plan VV Q (Q wr) (by kernel_rfl) hs hV hS0 (steps_all hO ((sf_cons s_0 (sf_cons s_1 (sf_cons s_2 (sf_cons s_3 (sf_cons s_4 (sf_cons s_5 (sf_cons s_6 (sf_cons s_7 (sf_cons s_8 (sf_cons s_9 (sf_cons s_10 (sf_cons s_11 (sf_cons s_12 (sf_cons s_13 (sf_cons s_14 (sf_cons s_15 (sf_cons s_16 (sf_cons s_17 (sf_cons s_18 (sf_cons s_19 (sf_cons s_20 trivial))))))))))))))))))))))) ?_
      intro l a w5 hall hI
      have K5 : Hid (SX W W.heap.size g0 b0 2 t s r w5) := K.out.qq hI.st
      obtain ⟨ts, ds⟩ := a
      have hd : ds = [] := by have := hI.df; rw [hA] at this; exact this
      have hts : ts.size = 129 := by have := hI.sz; rw [hz] at this; exact this
      have f8 : ts.getD 8 undef = .string x := at_eq v_19 (hI.at_ 19 8 _ i_19 rfl (hall 19 (by rw [hO]; decide)))
      have f9 : ts.getD 9 undef = .int .i64 fi := at_eq v_20 (hI.at_ 20 9 _ i_20 rfl (hall 20 (by rw [hO]; decide)))
      have f0 := (hI.base 0 (by rw [hO]; kernel_rfl)).trans (base_at hA 0 rfl)
      have f1 := (hI.base 1 (by rw [hO]; kernel_rfl)).trans (base_at hA 1 rfl)
      have f2 := (hI.base 2 (by rw [hO]; kernel_rfl)).trans (base_at hA 2 rfl)
      have f3 := (hI.base 3 (by rw [hO]; kernel_rfl)).trans (base_at hA 3 rfl)
      have f4 := (hI.base 4 (by rw [hO]; kernel_rfl)).trans (base_at hA 4 rfl)
      have f5 := (hI.base 5 (by rw [hO]; kernel_rfl)).trans (base_at hA 5 rfl)
      have f6 := (hI.base 6 (by rw [hO]; kernel_rfl)).trans (base_at hA 6 rfl)
      have f7 := (hI.base 7 (by rw [hO]; kernel_rfl)).trans (base_at hA 7 rfl)
      have f10 := (hI.base 10 (by rw [hO]; kernel_rfl)).trans (base_at hA 10 rfl)
      have f11 := (hI.base 11 (by rw [hO]; kernel_rfl)).trans (base_at hA 11 rfl)
      have f12 := (hI.base 12 (by rw [hO]; kernel_rfl)).trans (base_at hA 12 rfl)
      have f13 := (hI.base 13 (by rw [hO]; kernel_rfl)).trans (base_at hA 13 rfl)
      have f14 := (hI.base 14 (by rw [hO]; kernel_rfl)).trans (base_at hA 14 rfl)
      have f15 := (hI.base 15 (by rw [hO]; kernel_rfl)).trans (base_at hA 15 rfl)
      have f16 := (hI.base 16 (by rw [hO]; kernel_rfl)).trans (base_at hA 16 rfl)
      have f17 := (hI.base 17 (by rw [hO]; kernel_rfl)).trans (base_at hA 17 rfl)
      have f18 := (hI.base 18 (by rw [hO]; kernel_rfl)).trans (base_at hA 18 rfl)
      have f19 := (hI.base 19 (by rw [hO]; kernel_rfl)).trans (base_at hA 19 rfl)
      have f20 := (hI.base 20 (by rw [hO]; kernel_rfl)).trans (base_at hA 20 rfl)
      have f21 := (hI.base 21 (by rw [hO]; kernel_rfl)).trans (base_at hA 21 rfl)
      have f22 := (hI.base 22 (by rw [hO]; kernel_rfl)).trans (base_at hA 22 rfl)
      have f23 := (hI.base 23 (by rw [hO]; kernel_rfl)).trans (base_at hA 23 rfl)
      have f24 := (hI.base 24 (by rw [hO]; kernel_rfl)).trans (base_at hA 24 rfl)
      have f113 := (hI.base 113 (by rw [hO]; kernel_rfl)).trans (base_at hA 113 rfl)
      have f114 := (hI.base 114 (by rw [hO]; kernel_rfl)).trans (base_at hA 114 rfl)
      have f115 := (hI.base 115 (by rw [hO]; kernel_rfl)).trans (base_at hA 115 rfl)
      have f116 := (hI.base 116 (by rw [hO]; kernel_rfl)).trans (base_at hA 116 rfl)
      have f117 := (hI.base 117 (by rw [hO]; kernel_rfl)).trans (base_at hA 117 rfl)
      have f118 := (hI.base 118 (by rw [hO]; kernel_rfl)).trans (base_at hA 118 rfl)
      have f119 := (hI.base 119 (by rw [hO]; kernel_rfl)).trans (base_at hA 119 rfl)
      have f120 := (hI.base 120 (by rw [hO]; kernel_rfl)).trans (base_at hA 120 rfl)
      have f121 := (hI.base 121 (by rw [hO]; kernel_rfl)).trans (base_at hA 121 rfl)
      have f122 := (hI.base 122 (by rw [hO]; kernel_rfl)).trans (base_at hA 122 rfl)
      have f123 := (hI.base 123 (by rw [hO]; kernel_rfl)).trans (base_at hA 123 rfl)
      have f124 := (hI.base 124 (by rw [hO]; kernel_rfl)).trans (base_at hA 124 rfl)
      have f125 := (hI.base 125 (by rw [hO]; kernel_rfl)).trans (base_at hA 125 rfl)
      have f126 := (hI.base 126 (by rw [hO]; kernel_rfl)).trans (base_at hA 126 rfl)
      have f127 := (hI.base 127 (by rw [hO]; kernel_rfl)).trans (base_at hA 127 rfl)
      have f128 := (hI.base 128 (by rw [hO]; kernel_rfl)).trans (base_at hA 128 rfl)
      obtain ⟨tl0, rfl⟩ : ∃ tl : List Value, ts = tl.toArray := ⟨ts.toList, by simp⟩
      have htl0 : tl0.length = 129 := by simpa using hts
      clear hts
      obtain ⟨y0, tl1, et, htl1⟩ := len_succ htl0
      clear htl0
      subst et
      obtain ⟨y1, tl2, et, htl2⟩ := len_succ htl1
      clear htl1
      subst et
      obtain ⟨y2, tl3, et, htl3⟩ := len_succ htl2
      clear htl2
      subst et
      obtain ⟨y3, tl4, et, htl4⟩ := len_succ htl3
      clear htl3
      subst et
      obtain ⟨y4, tl5, et, htl5⟩ := len_succ htl4
      clear htl4
      subst et
      obtain ⟨y5, tl6, et, htl6⟩ := len_succ htl5
      clear htl5
      subst et
      obtain ⟨y6, tl7, et, htl7⟩ := len_succ htl6
      clear htl6
      subst et
      obtain ⟨y7, tl8, et, htl8⟩ := len_succ htl7
      clear htl7
      subst et
      obtain ⟨y8, tl9, et, htl9⟩ := len_succ htl8
      clear htl8
      subst et
      obtain ⟨y9, tl10, et, htl10⟩ := len_succ htl9
      clear htl9
      subst et
      obtain ⟨y10, tl11, et, htl11⟩ := len_succ htl10
      clear htl10
      subst et
      obtain ⟨y11, tl12, et, htl12⟩ := len_succ htl11
      clear htl11
      subst et
      obtain ⟨y12, tl13, et, htl13⟩ := len_succ htl12
      clear htl12
      subst et
      obtain ⟨y13, tl14, et, htl14⟩ := len_succ htl13
      clear htl13
      subst et
      obtain ⟨y14, tl15, et, htl15⟩ := len_succ htl14
      clear htl14
      subst et
      obtain ⟨y15, tl16, et, htl16⟩ := len_succ htl15
      clear htl15
      subst et
      obtain ⟨y16, tl17, et, htl17⟩ := len_succ htl16
      clear htl16
      subst et
      obtain ⟨y17, tl18, et, htl18⟩ := len_succ htl17
      clear htl17
      subst et
      obtain ⟨y18, tl19, et, htl19⟩ := len_succ htl18
      clear htl18
      subst et
      obtain ⟨y19, tl20, et, htl20⟩ := len_succ htl19
      clear htl19
      subst et
      obtain ⟨y20, tl21, et, htl21⟩ := len_succ htl20
      clear htl20
      subst et
      obtain ⟨y21, tl22, et, htl22⟩ := len_succ htl21
      clear htl21
      subst et
      obtain ⟨y22, tl23, et, htl23⟩ := len_succ htl22
      clear htl22
      subst et
      obtain ⟨y23, tl24, et, htl24⟩ := len_succ htl23
      clear htl23
      subst et
      obtain ⟨y24, tl25, et, htl25⟩ := len_succ htl24
      clear htl24
      subst et
      obtain ⟨y25, tl26, et, htl26⟩ := len_succ htl25
      clear htl25
      subst et
      obtain ⟨y26, tl27, et, htl27⟩ := len_succ htl26
      clear htl26
      subst et
      obtain ⟨y27, tl28, et, htl28⟩ := len_succ htl27
      clear htl27
      subst et
      obtain ⟨y28, tl29, et, htl29⟩ := len_succ htl28
      clear htl28
      subst et
      obtain ⟨y29, tl30, et, htl30⟩ := len_succ htl29
      clear htl29
      subst et
      obtain ⟨y30, tl31, et, htl31⟩ := len_succ htl30
      clear htl30
      subst et
      obtain ⟨y31, tl32, et, htl32⟩ := len_succ htl31
      clear htl31
      subst et
      obtain ⟨y32, tl33, et, htl33⟩ := len_succ htl32
      clear htl32
      subst et
      obtain ⟨y33, tl34, et, htl34⟩ := len_succ htl33
      clear htl33
      subst et
      obtain ⟨y34, tl35, et, htl35⟩ := len_succ htl34
      clear htl34
      subst et
      obtain ⟨y35, tl36, et, htl36⟩ := len_succ htl35
      clear htl35
      subst et
      obtain ⟨y36, tl37, et, htl37⟩ := len_succ htl36
      clear htl36
      subst et
      obtain ⟨y37, tl38, et, htl38⟩ := len_succ htl37
      clear htl37
      subst et
      obtain ⟨y38, tl39, et, htl39⟩ := len_succ htl38
      clear htl38
      subst et
      obtain ⟨y39, tl40, et, htl40⟩ := len_succ htl39
      clear htl39
      subst et
      obtain ⟨y40, tl41, et, htl41⟩ := len_succ htl40
      clear htl40
      subst et
      obtain ⟨y41, tl42, et, htl42⟩ := len_succ htl41
      clear htl41
      subst et
      obtain ⟨y42, tl43, et, htl43⟩ := len_succ htl42
      clear htl42
      subst et
      obtain ⟨y43, tl44, et, htl44⟩ := len_succ htl43
      clear htl43
      subst et
      obtain ⟨y44, tl45, et, htl45⟩ := len_succ htl44
      clear htl44
      subst et
      obtain ⟨y45, tl46, et, htl46⟩ := len_succ htl45
      clear htl45
      subst et
      obtain ⟨y46, tl47, et, htl47⟩ := len_succ htl46
      clear htl46
      subst et
      obtain ⟨y47, tl48, et, htl48⟩ := len_succ htl47
      clear htl47
      subst et
      obtain ⟨y48, tl49, et, htl49⟩ := len_succ htl48
      clear htl48
      subst et
      obtain ⟨y49, tl50, et, htl50⟩ := len_succ htl49
      clear htl49
      subst et
      obtain ⟨y50, tl51, et, htl51⟩ := len_succ htl50
      clear htl50
      subst et
      obtain ⟨y51, tl52, et, htl52⟩ := len_succ htl51
      clear htl51
      subst et
      obtain ⟨y52, tl53, et, htl53⟩ := len_succ htl52
      clear htl52
      subst et
      obtain ⟨y53, tl54, et, htl54⟩ := len_succ htl53
      clear htl53
      subst et
      obtain ⟨y54, tl55, et, htl55⟩ := len_succ htl54
      clear htl54
      subst et
      obtain ⟨y55, tl56, et, htl56⟩ := len_succ htl55
      clear htl55
      subst et
      obtain ⟨y56, tl57, et, htl57⟩ := len_succ htl56
      clear htl56
      subst et
      obtain ⟨y57, tl58, et, htl58⟩ := len_succ htl57
      clear htl57
      subst et
      obtain ⟨y58, tl59, et, htl59⟩ := len_succ htl58
      clear htl58
      subst et
      obtain ⟨y59, tl60, et, htl60⟩ := len_succ htl59
      clear htl59
      subst et
      obtain ⟨y60, tl61, et, htl61⟩ := len_succ htl60
      clear htl60
      subst et
      obtain ⟨y61, tl62, et, htl62⟩ := len_succ htl61
      clear htl61
      subst et
      obtain ⟨y62, tl63, et, htl63⟩ := len_succ htl62
      clear htl62
      subst et
      obtain ⟨y63, tl64, et, htl64⟩ := len_succ htl63
      clear htl63
      subst et
      obtain ⟨y64, tl65, et, htl65⟩ := len_succ htl64
      clear htl64
      subst et
      obtain ⟨y65, tl66, et, htl66⟩ := len_succ htl65
      clear htl65
      subst et
      obtain ⟨y66, tl67, et, htl67⟩ := len_succ htl66
      clear htl66
      subst et
      obtain ⟨y67, tl68, et, htl68⟩ := len_succ htl67
      clear htl67
      subst et
      obtain ⟨y68, tl69, et, htl69⟩ := len_succ htl68
      clear htl68
      subst et
      obtain ⟨y69, tl70, et, htl70⟩ := len_succ htl69
      clear htl69
      subst et
      obtain ⟨y70, tl71, et, htl71⟩ := len_succ htl70
      clear htl70
      subst et
      obtain ⟨y71, tl72, et, htl72⟩ := len_succ htl71
      clear htl71
      subst et
      obtain ⟨y72, tl73, et, htl73⟩ := len_succ htl72
      clear htl72
      subst et
      obtain ⟨y73, tl74, et, htl74⟩ := len_succ htl73
      clear htl73
      subst et
      obtain ⟨y74, tl75, et, htl75⟩ := len_succ htl74
      clear htl74
      subst et
      obtain ⟨y75, tl76, et, htl76⟩ := len_succ htl75
      clear htl75
      subst et
      obtain ⟨y76, tl77, et, htl77⟩ := len_succ htl76
      clear htl76
      subst et
      obtain ⟨y77, tl78, et, htl78⟩ := len_succ htl77
      clear htl77
      subst et
      obtain ⟨y78, tl79, et, htl79⟩ := len_succ htl78
      clear htl78
      subst et
      obtain ⟨y79, tl80, et, htl80⟩ := len_succ htl79
      clear htl79
      subst et
      obtain ⟨y80, tl81, et, htl81⟩ := len_succ htl80
      clear htl80
      subst et
      obtain ⟨y81, tl82, et, htl82⟩ := len_succ htl81
      clear htl81
      subst et
      obtain ⟨y82, tl83, et, htl83⟩ := len_succ htl82
      clear htl82
      subst et
      obtain ⟨y83, tl84, et, htl84⟩ := len_succ htl83
      clear htl83
      subst et
      obtain ⟨y84, tl85, et, htl85⟩ := len_succ htl84
      clear htl84
      subst et
      obtain ⟨y85, tl86, et, htl86⟩ := len_succ htl85
      clear htl85
      subst et
      obtain ⟨y86, tl87, et, htl87⟩ := len_succ htl86
      clear htl86
      subst et
      obtain ⟨y87, tl88, et, htl88⟩ := len_succ htl87
      clear htl87
      subst et
      obtain ⟨y88, tl89, et, htl89⟩ := len_succ htl88
      clear htl88
      subst et
      obtain ⟨y89, tl90, et, htl90⟩ := len_succ htl89
      clear htl89
      subst et
      obtain ⟨y90, tl91, et, htl91⟩ := len_succ htl90
      clear htl90
      subst et
      obtain ⟨y91, tl92, et, htl92⟩ := len_succ htl91
      clear htl91
      subst et
      obtain ⟨y92, tl93, et, htl93⟩ := len_succ htl92
      clear htl92
      subst et
      obtain ⟨y93, tl94, et, htl94⟩ := len_succ htl93
      clear htl93
      subst et
      obtain ⟨y94, tl95, et, htl95⟩ := len_succ htl94
      clear htl94
      subst et
      obtain ⟨y95, tl96, et, htl96⟩ := len_succ htl95
      clear htl95
      subst et
      obtain ⟨y96, tl97, et, htl97⟩ := len_succ htl96
      clear htl96
      subst et
      obtain ⟨y97, tl98, et, htl98⟩ := len_succ htl97
      clear htl97
      subst et
      obtain ⟨y98, tl99, et, htl99⟩ := len_succ htl98
      clear htl98
      subst et
      obtain ⟨y99, tl100, et, htl100⟩ := len_succ htl99
      clear htl99
      subst et
      obtain ⟨y100, tl101, et, htl101⟩ := len_succ htl100
      clear htl100
      subst et
      obtain ⟨y101, tl102, et, htl102⟩ := len_succ htl101
      clear htl101
      subst et
      obtain ⟨y102, tl103, et, htl103⟩ := len_succ htl102
      clear htl102
      subst et
      obtain ⟨y103, tl104, et, htl104⟩ := len_succ htl103
      clear htl103
      subst et
      obtain ⟨y104, tl105, et, htl105⟩ := len_succ htl104
      clear htl104
      subst et
      obtain ⟨y105, tl106, et, htl106⟩ := len_succ htl105
      clear htl105
      subst et
      obtain ⟨y106, tl107, et, htl107⟩ := len_succ htl106
      clear htl106
      subst et
      obtain ⟨y107, tl108, et, htl108⟩ := len_succ htl107
      clear htl107
      subst et
      obtain ⟨y108, tl109, et, htl109⟩ := len_succ htl108
      clear htl108
      subst et
      obtain ⟨y109, tl110, et, htl110⟩ := len_succ htl109
      clear htl109
      subst et
      obtain ⟨y110, tl111, et, htl111⟩ := len_succ htl110
      clear htl110
      subst et
      obtain ⟨y111, tl112, et, htl112⟩ := len_succ htl111
      clear htl111
      subst et
      obtain ⟨y112, tl113, et, htl113⟩ := len_succ htl112
      clear htl112
      subst et
      obtain ⟨y113, tl114, et, htl114⟩ := len_succ htl113
      clear htl113
      subst et
      obtain ⟨y114, tl115, et, htl115⟩ := len_succ htl114
      clear htl114
      subst et
      obtain ⟨y115, tl116, et, htl116⟩ := len_succ htl115
      clear htl115
      subst et
      obtain ⟨y116, tl117, et, htl117⟩ := len_succ htl116
      clear htl116
      subst et
      obtain ⟨y117, tl118, et, htl118⟩ := len_succ htl117
      clear htl117
      subst et
      obtain ⟨y118, tl119, et, htl119⟩ := len_succ htl118
      clear htl118
      subst et
      obtain ⟨y119, tl120, et, htl120⟩ := len_succ htl119
      clear htl119
      subst et
      obtain ⟨y120, tl121, et, htl121⟩ := len_succ htl120
      clear htl120
      subst et
      obtain ⟨y121, tl122, et, htl122⟩ := len_succ htl121
      clear htl121
      subst et
      obtain ⟨y122, tl123, et, htl123⟩ := len_succ htl122
      clear htl122
      subst et
      obtain ⟨y123, tl124, et, htl124⟩ := len_succ htl123
      clear htl123
      subst et
      obtain ⟨y124, tl125, et, htl125⟩ := len_succ htl124
      clear htl124
      subst et
      obtain ⟨y125, tl126, et, htl126⟩ := len_succ htl125
      clear htl125
      subst et
      obtain ⟨y126, tl127, et, htl127⟩ := len_succ htl126
      clear htl126
      subst et
      obtain ⟨y127, tl128, et, htl128⟩ := len_succ htl127
      clear htl127
      subst et
      obtain ⟨y128, tl129, et, htl129⟩ := len_succ htl128
      clear htl128
      subst et
      have et := List.eq_nil_of_length_eq_zero htl129
      clear htl129
      subst et
      have g8 : y8 = .string x := f8
      have g9 : y9 = .int .i64 fi := f9
      have g0 : y0 = _ := f0
      have g1 : y1 = _ := f1
      have g2 : y2 = _ := f2
      have g3 : y3 = _ := f3
      have g4 : y4 = _ := f4
      have g5 : y5 = _ := f5
      have g6 : y6 = _ := f6
      have g7 : y7 = _ := f7
      have g10 : y10 = _ := f10
      have g11 : y11 = _ := f11
      have g12 : y12 = _ := f12
      have g13 : y13 = _ := f13
      have g14 : y14 = _ := f14
      have g15 : y15 = _ := f15
      have g16 : y16 = _ := f16
      have g17 : y17 = _ := f17
      have g18 : y18 = _ := f18
      have g19 : y19 = _ := f19
      have g20 : y20 = _ := f20
      have g21 : y21 = _ := f21
      have g22 : y22 = _ := f22
      have g23 : y23 = _ := f23
      have g24 : y24 = _ := f24
      have g113 : y113 = _ := f113
      have g114 : y114 = _ := f114
      have g115 : y115 = _ := f115
      have g116 : y116 = _ := f116
      have g117 : y117 = _ := f117
      have g118 : y118 = _ := f118
      have g119 : y119 = _ := f119
      have g120 : y120 = _ := f120
      have g121 : y121 = _ := f121
      have g122 : y122 = _ := f122
      have g123 : y123 = _ := f123
      have g124 : y124 = _ := f124
      have g125 : y125 = _ := f125
      have g126 : y126 = _ := f126
      have g127 : y127 = _ := f127
      have g128 : y128 = _ := f128
      clear f8 f9 f0 f1 f2 f3 f4 f5 f6 f7 f10 f11 f12 f13 f14 f15 f16 f17 f18 f19 f20 f21 f22 f23 f24 f113 f114 f115 f116 f117 f118 f119 f120 f121 f122 f123 f124 f125 f126 f127 f128
      subst hd g8 g9 g0 g1 g2 g3 g4 g5 g6 g7 g10 g11 g12 g13 g14 g15 g16 g17 g18 g19 g20 g21 g22 g23 g24 g113 g114 g115 g116 g117 g118 g119 g120 g121 g122 g123 g124 g125 g126 g127 g128
      rw [hQQ]
      clear hI hall hV hs hz hA hO hQQ hrow K v_0 i_0 s_0 v_1 i_1 s_1 v_2 i_2 s_2 v_3 i_3 s_3 v_4 i_4 s_4 v_5 i_5 s_5 v_6 i_6 s_6 v_7 i_7 s_7 v_8 i_8 s_8 v_9 i_9 s_9 v_10 i_10 s_10 v_11 i_11 s_11 v_12 i_12 s_12 v_13 i_13 s_13 v_14 i_14 s_14 v_15 i_15 s_15 v_16 i_16 s_16 v_17 i_17 s_17 v_18 i_18 s_18 v_19 i_19 s_19 v_20 i_20 s_20
      have hxm : x.size ≤ 16777216 := by omega
      have hwm : was.size ≤ 16777216 := by omega
      clear eA z9 hfi hm0 hml hm0'
      go_wp2_with fail
      refine (K5.out.free).mono ?_
      rintro e w6 ⟨rfl, k6⟩
      have K6 := Lib.hid k6
      clear k6 K5
      rw [hfr]
      go_wp2_with fail
      refine (K6.out.read fi hwas).mono ?_
      rintro e w7 ⟨rfl, rfl⟩
      go_wp2_with fail
      by_cases hle : (x.size : Int) ≤ fr
      · have e0 : apE 2 r t (fi : Int) x = 0 := by unfold apE; rw [inn_lt hf2, if_pos rfl, hfr, if_neg (by omega)]
        have e1 : apT 2 r t (fi : Int) x = put t fi y := by unfold apT; rw [if_pos e0]; show put t fi (t fi ++ x) = _; rw [← rdV_nat t hf2, hwas, hy]
        have hfr2 : frV 2 r (put t fi y) = fr - (x.size : Int) := by
          have h5 := tot_put (t := t) (i := fi) (n := 2) y hf2
          have h6 : (t fi).size + x.size = y.size := by rw [← hy, ← hwas, rdV_nat t hf2]; simp
          have h7 : (r : Int) - (tot t 2 : Int) = fr := hfr
          show (r : Int) - (tot (put t fi y) 2 : Int) = _
          omega
        have hr2 : rdV 2 (put t fi y) (fi : Int) = y := by rw [rdV_nat _ hf2, put_same]
        have d1 : decide ((x.size : Int) ≤ fr) = true := by simpa using hle
        refine (K6.out.append fi x).mono ?_
        rintro e w7 ⟨rfl, k7⟩
        rw [e0]
        rw [e1] at k7
        have K7 := Lib.hid k7
        clear k7 K6 e0 e1
        obtain ⟨fr2, hq⟩ : ∃ z, fr - (x.size : Int) = z := ⟨_, rfl⟩
        rw [hq] at hfr2
        have ew : IntKind.i64.wrap (fr - (x.size : Int)) = fr2 := by rw [IntKind.wrap_i64]; omega
        go_wp2_with fail
        refine (K7.out.free).mono ?_
        rintro e w8 ⟨rfl, k8⟩
        have K8 := Lib.hid k8
        clear k8 K7
        rw [hfr2]
        clear hfr2
        go_wp2_with fail
        refine (K8.out.read fi hr2).mono ?_
        rintro e w9 ⟨rfl, rfl⟩
        clear hr2
        go_wp2_with fail
        exact ⟨⟨m + 1, by omega, rfl, ⟨_, _, K8.out⟩⟩, by simp only [intOf]; omega⟩
      · have e0 : apE 2 r t (fi : Int) x = 9 := by unfold apE; rw [inn_lt hf2, if_pos rfl, hfr, if_pos (by omega)]
        have e1 : apT 2 r t (fi : Int) x = t := by unfold apT; rw [if_neg (by rw [e0]; decide)]
        have d1 : decide ((x.size : Int) ≤ fr) = false := by simpa using hle
        refine (K6.out.append fi x).mono ?_
        rintro e w7 ⟨rfl, k7⟩
        rw [e0]
        rw [e1] at k7
        have K7 := Lib.hid k7
        clear k7 K6 e0 e1 hy
        go_wp2_with fail
        refine (K7.out.free).mono ?_
        rintro e w8 ⟨rfl, k8⟩
        have K8 := Lib.hid k8
        clear k8 K7
        rw [hfr]
        go_wp2_with fail
        refine (K8.out.read fi hwas).mono ?_
        rintro e w9 ⟨rfl, rfl⟩
        go_wp2_with fail
        exact ⟨⟨m + 1, by omega, rfl, ⟨_, _, K8.out⟩⟩, by simp only [intOf]; omega⟩
    · obtain rfl : m = mm := by omega
      have K9 := Lib.hid K.out
      clear K
      obtain ⟨z0, hz0⟩ : ∃ z, rdV 2 t 0 = z := ⟨_, rfl⟩
      obtain ⟨z1, hz1⟩ : ∃ z, rdV 2 t 1 = z := ⟨_, rfl⟩
      have ht : (r : Int) - (z0.size : Int) - (z1.size : Int) = fr := by
        have h1 : rdV 2 t 0 = t 0 := rdV_nat t (show 0 < 2 by decide)
        have h2 : rdV 2 t 1 = t 1 := rdV_nat t (show 1 < 2 by decide)
        have h3 : (r : Int) - (tot t 2 : Int) = fr := hfr
        have h4 : tot t 2 = 0 + (t 0).size + (t 1).size := rfl
        rw [h1] at hz0
        rw [h2] at hz1
        rw [← hz0, ← hz1]
        omega
      obtain ⟨v1, hv1⟩ : ∃ z, (r : Int) - (z0.size : Int) = z := ⟨_, rfl⟩
      have ew1 : IntKind.i64.wrap ((r : Int) - (z0.size : Int)) = v1 := by rw [IntKind.wrap_i64]; omega
      have ew2 : IntKind.i64.wrap (v1 - (z1.size : Int)) = fr := by rw [IntKind.wrap_i64]; omega
      clear ht hv1
      by_cases hl : m < len2
      · have t1 : decide (m < len2) = true := by simpa using hl
        obtain rfl : m = 40 := by omega
        go_wp2_with fail
        refine (K9.out.free).mono ?_
        rintro e w1 ⟨rfl, k1⟩
        have K1 := Lib.hid k1
        clear k1 K9
        rw [hfr]
        go_wp2_with fail
        refine (K1.out.read 0 hz0).mono ?_
        rintro e w2 ⟨rfl, rfl⟩
        go_wp2_with fail
        refine (K1.out.read 1 hz1).mono ?_
        rintro e w3 ⟨rfl, rfl⟩
        go_wp2_with fail
        refine (fixed_x _).mono ?_
        rintro e w4 ⟨rfl, q4⟩
        have Q4 := Lib.hid (K1.out.q.trans q4)
        clear q4
        go_wp2_with fail
        refine bodyPost_ret (results_tmp rfl _ _ _) rfl ?_
        exact ⟨rfl, Q4.out⟩
      · have t1 : decide (m < len2) = false := by simpa using hl
        go_wp2_with fail
        refine (K9.out.free).mono ?_
        rintro e w1 ⟨rfl, k1⟩
        have K1 := Lib.hid k1
        clear k1 K9
        rw [hfr]
        go_wp2_with fail
        refine (K1.out.read 0 hz0).mono ?_
        rintro e w2 ⟨rfl, rfl⟩
        go_wp2_with fail
        refine (K1.out.read 1 hz1).mono ?_
        rintro e w3 ⟨rfl, rfl⟩
        go_wp2_with fail
        refine (fixed_x _).mono ?_
        rintro e w4 ⟨rfl, q4⟩
        have Q4 := Lib.hid (K1.out.q.trans q4)
        clear q4
        go_wp2_with fail
        refine bodyPost_ret (results_tmp rfl _ _ _) rfl ?_
        exact ⟨rfl, Q4.out⟩
end Go.Proofs.Ytnojglfaijhiaaa.Dk
