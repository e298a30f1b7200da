/-
  The document's answer for layer 1: the walk of its division, bit by bit.
-/
import Derived.Test.YtnihgcmlpgfaeaaRef3
namespace Go.Proofs.Ytnihgcmlpgfaeaa.Num
open Go.RowKit
set_option linter.unusedVariables false

theorem ret3 {k1 k2 : IntKind} {a b c d : Int} {x y : Bool} (h : a = c) (h' : b = d) (h'' : x = y) : Ending.returned (.tuple #[.int k1 a, .int k2 b, .bool x]) = .returned (.tuple #[.int k1 c, .int k2 d, .bool y]) := by rw [h, h', h'']

/-- How often (where that finds room), what is left, and that it finds no room. -/
def DivPost (P c : Int) (w : World) (e : Ending) (w' : World) : Prop :=
  ∃ q, e = .returned (.tuple #[.int .u64 q, .int .u64 (P % c), .bool (decide (18446744073709551616 ≤ P / c))]) ∧ (P / c ≤ 18446744073709551615 → q = P / c) ∧ w = w'

/-- What the variables hold ahead of bit j - 1. -/
def DI (P c : Int) (j : Nat) (q : Int) (ov : Bool) : Prop := ov = decide (18446744073709551616 ≤ M.D P j / c) ∧ (ov = false → q = M.D P j / c)

theorem half (x : Int) (t : Nat) : x / ((2 ^ t : Nat) : Int) / 2 = x / ((2 ^ (t + 1) : Nat) : Int) := by
  rw [Nat.pow_succ, Int.natCast_mul, Int.ediv_ediv_of_nonneg (Int.natCast_nonneg _)]; rfl

theorem DI_true {P c : Int} {i : Nat} (hP : 0 ≤ P) (hc : 0 < c) {q : Int} (q' : Int) (h : DI P c (i + 1) q true) : DI P c i q' true := by
  obtain ⟨h1, _⟩ := h
  have h1' : 18446744073709551616 ≤ M.D P (i + 1) / c := by simpa using h1.symm
  obtain ⟨_, e, _, _⟩ := M.two_step (M.D P i) c (M.D_nonneg P hP i) hc
  rw [← M.D_succ] at e
  refine ⟨?_, by simp⟩
  symm
  rw [decide_eq_true_eq, e]
  split <;> omega
theorem DI_over {P c : Int} {i : Nat} (hP : 0 ≤ P) (hc : 0 < c) {q : Int} (q' : Int) (h : DI P c (i + 1) q false) (hq : 9223372036854775807 < q) : DI P c i q' true := by
  obtain ⟨_, h2⟩ := h
  have h2' := h2 rfl
  obtain ⟨_, e, _, _⟩ := M.two_step (M.D P i) c (M.D_nonneg P hP i) hc
  rw [← M.D_succ] at e
  refine ⟨?_, by simp⟩
  symm
  rw [decide_eq_true_eq, e]
  split <;> omega
theorem DI_went {P c : Int} {i : Nat} (hP : 0 ≤ P) (hc : 0 < c) {q : Int} (h : DI P c (i + 1) q false) (hq : q ≤ 9223372036854775807) (hw : c ≤ 2 * (M.D P (i + 1) % c) + M.D P i % 2) : DI P c i (q * 2 + 1) false := by
  obtain ⟨_, h2⟩ := h
  have h2' := h2 rfl
  obtain ⟨_, e, _, _⟩ := M.two_step (M.D P i) c (M.D_nonneg P hP i) hc
  rw [← M.D_succ, if_pos hw] at e
  refine ⟨?_, fun _ => by omega⟩
  symm
  rw [decide_eq_false_iff_not, e]
  omega
theorem DI_not {P c : Int} {i : Nat} (hP : 0 ≤ P) (hc : 0 < c) {q : Int} (h : DI P c (i + 1) q false) (hq : q ≤ 9223372036854775807) (hw : ¬ c ≤ 2 * (M.D P (i + 1) % c) + M.D P i % 2) : DI P c i (q * 2) false := by
  obtain ⟨_, h2⟩ := h
  have h2' := h2 rfl
  obtain ⟨_, e, _, _⟩ := M.two_step (M.D P i) c (M.D_nonneg P hP i) hc
  rw [← M.D_succ, if_neg hw] at e
  refine ⟨?_, fun _ => by omega⟩
  symm
  rw [decide_eq_false_iff_not, e]
  omega

set_option maxHeartbeats 4000000 in
theorem divide_any (g cap : Nat) (o : Nat → Int) (P c : Int) (w : World) (hcap : 8 ≤ cap) (hr : Row w g 0 8 o) (ho : ∀ j, j < 8 → 0 ≤ o j ∧ o j < 65536) (hP : M.Val o 8 = P) (c0 : 0 < c) (c1 : c ≤ 18446744073709551615) :
    Calls Try.prog 33 #[.slice (some ⟨g, 0, none⟩) 8 cap, .int .u64 c] w (DivPost P c w) := by
  have HR := Lib.hid hr
  have HO := Lib.hid ho
  have HP := Lib.hid hP
  obtain ⟨pb0, pb1⟩ := M.Val_bd o 8 ho
  rw [hP] at pb0
  have HT : Hid (M.D P 128 = 0) := M.D_top P pb0 (by rw [← hP]; exact pb1)
  clear hr ho hP pb1
  go_enter Try.func33, Try.ntmps33
  go_wp2_with fail
  go_loop [7, 8, 9, 10] (fun q l v i => ∃ (j : Nat) (qq : Int) (ov : Bool), j ≤ 128 ∧ i = .int .i64 ((j : Int) - 1) ∧ q = .int .u64 qq ∧ 0 ≤ qq ∧ qq ≤ 18446744073709551615 ∧ l = .int .u64 (M.D P j % c) ∧ v = .bool ov ∧ Hid (DI P c j qq ov)) (fun _ _ _ i => (intOf i + 1).toNat)
  case atStart =>
    refine ⟨128, 0, false, by omega, rfl, rfl, by omega, by omega, by rw [HT.out, Int.zero_emod], rfl, ?_, ?_⟩
    · rw [HT.out, Int.zero_ediv]; rfl
    · intro _; rw [HT.out, Int.zero_ediv]
  case round =>
    obtain ⟨j, qq, ov, hj, rfl, rfl, q0, q1, rfl, rfl, I⟩ := hrel
    clear HT
    by_cases hz : j = 0
    · subst hz
      have e0 : ((0 : Nat) : Int) - 1 = -1 := rfl
      have HD := Lib.hid (M.D_zero P)
      rw [e0]
      clear e0
      go_wp2_with fail
      go_returns
      refine ⟨qq, ret3 rfl (by rw [HD.out]) (by rw [I.out.1, HD.out]), ?_, rfl⟩
      · intro h
        have := I.out.2
        rw [I.out.1, HD.out] at this
        exact this (by simp; omega)
    · obtain ⟨i, rfl⟩ : ∃ i, j = i + 1 := ⟨j - 1, by omega⟩
      have ei : (((i + 1 : Nat) : Int)) - 1 = (i : Int) := by omega
      rw [ei]
      clear ei hz
      have hc : w.cell? ⟨g, i / 16, none⟩ = some (.int .u64 (o (i / 16))) := by have := HR.out (i / 16) (by omega); rwa [Nat.zero_add] at this
      obtain ⟨o0, o1⟩ := HO.out (i / 16) (by omega)
      have HB := Lib.hid (M.bit_of o HO.out i (by omega))
      rw [HP.out] at HB
      obtain ⟨_, _, l0, l1⟩ := M.two_step (M.D P i) c (M.D_nonneg P pb0 i) c0
      rw [← M.D_succ] at l0 l1
      obtain ⟨eL, _⟩ := M.two_step (M.D P i) c (M.D_nonneg P pb0 i) c0
      rw [← M.D_succ] at eL
      have EL := Lib.hid eL
      clear eL HR HO HP
      obtain ⟨x, hx⟩ : ∃ x, o (i / 16) = x := ⟨_, rfl⟩
      rw [hx] at hc o0 o1 HB
      clear hx
      go_wp2_with fail
      go_loop [11, 12] (fun b k => ∃ t : Nat, t ≤ i % 16 ∧ k = .int .i64 t ∧ b = .int .u64 (x / ((2 ^ t : Nat) : Int))) (fun _ k => i % 16 - (intOf k).toNat)
      case atStart => exact ⟨0, by omega, rfl, by rw [show ((2 ^ 0 : Nat) : Int) = 1 from rfl, Int.ediv_one]⟩
      case round =>
        obtain ⟨t, ht, rfl, rfl⟩ := hrel
        have y0 : 0 ≤ x / ((2 ^ t : Nat) : Int) := Int.ediv_nonneg o0 (Int.natCast_nonneg _)
        have y1 : x / ((2 ^ t : Nat) : Int) ≤ x := Int.ediv_le_self _ o0
        by_cases hlt : t < i % 16
        · have hlt' : (t : Int) < (i : Int) % 16 := by omega
          have HH := Lib.hid (half x t)
          obtain ⟨y, hy⟩ : ∃ y, x / ((2 ^ t : Nat) : Int) = y := ⟨_, rfl⟩
          rw [hy] at y0 y1 HH
          rw [hy]
          clear hy HB EL
          go_wp2_with fail
          go_round
          case rel => exact ⟨t + 1, by omega, by go_num, by rw [HH.out]⟩
          case measure => simp [intOf]; omega
        · obtain rfl : t = i % 16 := by omega
          have hge : (i : Int) % 16 ≤ ((i % 16 : Nat) : Int) := by omega
          obtain ⟨y, hy⟩ : ∃ y, x / ((2 ^ (i % 16) : Nat) : Int) = y := ⟨_, rfl⟩
          rw [hy] at y0 y1 HB
          rw [hy]
          clear hy
          have bt0 : 0 ≤ M.D P i % 2 := by omega
          have bt1 : M.D P i % 2 ≤ 1 := by omega
          have b2 := HB.out
          have eL := EL.out.symm
          have IW := I
          have WN : Hid ((∀ q', DI P c (i + 1) qq true → DI P c i q' true) ∧ (∀ q', DI P c (i + 1) qq false → 9223372036854775807 < qq → DI P c i q' true) ∧ (DI P c (i + 1) qq false → qq ≤ 9223372036854775807 → c ≤ 2 * (M.D P (i + 1) % c) + M.D P i % 2 → DI P c i (qq * 2 + 1) false) ∧ (DI P c (i + 1) qq false → qq ≤ 9223372036854775807 → ¬ c ≤ 2 * (M.D P (i + 1) % c) + M.D P i % 2 → DI P c i (qq * 2) false)) :=
            ⟨fun q' h => DI_true pb0 c0 q' h, fun q' h k => DI_over pb0 c0 q' h k, fun h k l => DI_went pb0 c0 h k l, fun h k l => DI_not pb0 c0 h k l⟩
          obtain ⟨L, hL⟩ : ∃ L, M.D P (i + 1) % c = L := ⟨_, rfl⟩
          obtain ⟨L', hL'⟩ : ∃ L, M.D P i % c = L := ⟨_, rfl⟩
          obtain ⟨bt, hbt⟩ : ∃ L, M.D P i % 2 = L := ⟨_, rfl⟩
          obtain ⟨m0, m1⟩ := emod_bd (M.D P i) c c0
          have HL' := Lib.hid hL'
          rw [hL, hbt] at WN eL
          rw [hL'] at eL m0 m1
          rw [hL] at l0 l1
          rw [hbt] at b2 bt0 bt1
          rw [hL]
          clear hL hL' hbt HB EL I hc y1 o0 o1
          obtain ⟨q2, hq2⟩ : ∃ q2, IntKind.u64.wrap (qq * 2) = q2 := ⟨_, rfl⟩
          have q20 : 0 ≤ q2 ∧ q2 ≤ 18446744073709551615 := by rw [← hq2, IntKind.wrap_u64]; omega
          obtain ⟨q3, hq3⟩ : ∃ q3, IntKind.u64.wrap (q2 + 1) = q3 := ⟨_, rfl⟩
          have q30 : 0 ≤ q3 ∧ q3 ≤ 18446744073709551615 := by rw [← hq3, IntKind.wrap_u64]; omega
          obtain ⟨q20, q21⟩ := q20
          obtain ⟨q30, q31⟩ := q30
          by_cases hw : c ≤ 2 * L + bt
          · have tw : decide (c ≤ 2 * L + bt) = true := by simpa using hw
            cases ov
            · by_cases hq : 9223372036854775807 < qq
              · have tq : decide (9223372036854775807 < qq) = true := by simpa using hq
                have J : Hid (DI P c i q3 true) := WN.out.2.1 _ IW.out hq
                clear WN IW
                go_wp2_with (first
                  | (go_at_call 30; refine (top_any _).mono ?_; rintro e w' ⟨rfl, rfl⟩)
                  | (go_at_call 37; refine (twice_any _ _ _ _ l0 l1 c1 bt0 bt1).mono ?_; rintro e w' ⟨rfl, rfl⟩))
                exact ⟨⟨i, _, _, by omega, rfl, rfl, by omega, by omega, by rw [HL'.out], rfl, J⟩, by simp [intOf]⟩
              · have tq : decide (9223372036854775807 < qq) = false := by simpa using hq
                have J : Hid (DI P c i (qq * 2 + 1) false) := WN.out.2.2.1 IW.out (by omega) hw
                clear WN IW hq2 hq3 q20 q21 q30 q31
                go_wp2_with (first
                  | (go_at_call 30; refine (top_any _).mono ?_; rintro e w' ⟨rfl, rfl⟩)
                  | (go_at_call 37; refine (twice_any _ _ _ _ l0 l1 c1 bt0 bt1).mono ?_; rintro e w' ⟨rfl, rfl⟩))
                exact ⟨⟨i, _, _, by omega, rfl, rfl, by omega, by omega, by rw [HL'.out], rfl, J⟩, by simp [intOf]⟩
            · have tu : True := trivial
              have J : Hid (DI P c i q3 true) := WN.out.1 _ IW.out
              clear WN IW
              go_wp2_with (first
                | (go_at_call 30; refine (top_any _).mono ?_; rintro e w' ⟨rfl, rfl⟩)
                | (go_at_call 37; refine (twice_any _ _ _ _ l0 l1 c1 bt0 bt1).mono ?_; rintro e w' ⟨rfl, rfl⟩))
              exact ⟨⟨i, _, _, by omega, rfl, rfl, by omega, by omega, by rw [HL'.out], rfl, J⟩, by simp [intOf]⟩
          · have tw : decide (c ≤ 2 * L + bt) = false := by simpa using hw
            cases ov
            · by_cases hq : 9223372036854775807 < qq
              · have tq : decide (9223372036854775807 < qq) = true := by simpa using hq
                have J : Hid (DI P c i q2 true) := WN.out.2.1 _ IW.out hq
                clear WN IW
                go_wp2_with (first
                  | (go_at_call 30; refine (top_any _).mono ?_; rintro e w' ⟨rfl, rfl⟩)
                  | (go_at_call 37; refine (twice_any _ _ _ _ l0 l1 c1 bt0 bt1).mono ?_; rintro e w' ⟨rfl, rfl⟩))
                exact ⟨⟨i, _, _, by omega, rfl, rfl, by omega, by omega, by rw [HL'.out], rfl, J⟩, by simp [intOf]⟩
              · have tq : decide (9223372036854775807 < qq) = false := by simpa using hq
                have J : Hid (DI P c i (qq * 2) false) := WN.out.2.2.2 IW.out (by omega) hw
                clear WN IW hq2 hq3 q20 q21 q30 q31
                go_wp2_with (first
                  | (go_at_call 30; refine (top_any _).mono ?_; rintro e w' ⟨rfl, rfl⟩)
                  | (go_at_call 37; refine (twice_any _ _ _ _ l0 l1 c1 bt0 bt1).mono ?_; rintro e w' ⟨rfl, rfl⟩))
                exact ⟨⟨i, _, _, by omega, rfl, rfl, by omega, by omega, by rw [HL'.out], rfl, J⟩, by simp [intOf]⟩
            · have tu : True := trivial
              have J : Hid (DI P c i q2 true) := WN.out.1 _ IW.out
              clear WN IW
              go_wp2_with (first
                | (go_at_call 30; refine (top_any _).mono ?_; rintro e w' ⟨rfl, rfl⟩)
                | (go_at_call 37; refine (twice_any _ _ _ _ l0 l1 c1 bt0 bt1).mono ?_; rintro e w' ⟨rfl, rfl⟩))
              exact ⟨⟨i, _, _, by omega, rfl, rfl, by omega, by omega, by rw [HL'.out], rfl, J⟩, by simp [intOf]⟩
end Go.Proofs.Ytnihgcmlpgfaeaa.Num
