/-
  Layer 6: the document's own answer: the walks of its Digits, Sign, From, Verify; and of Ints.
-/
import Derived.Test.YtnghhagiokiaoaaDoorWot2
namespace Go.Proofs.YtnghhagiokiaoaaDoor.Wot
open Go.RowKit
open Mem Sh
set_option linter.unusedVariables false

theorem infoI : (Tryd.prog.info? 3).map (fun i => (i.zero, i.size, i.bytes)) = some (some (.int .i64 0), 1, 8) := by kernel_rfl

set_option maxHeartbeats 4000000 in
set_option maxRecDepth 100000 in
theorem rdigits_any {W : World} (m : ByteArray) (w : World) (q : Q W w) (hms : m.size ≤ 1000000) :
    Calls Tryd.prog 71 #[.string m] w (OwnRow .i64 W (dig m) 18) := by
  obtain ⟨i0, hi0, hz0, hz1, hz2⟩ := info_parts infoI
  obtain ⟨h, eh⟩ : ∃ h, hm m = h := ⟨_, rfl⟩
  have C := Lib.hid (fun T => rtag1_x wMsg m h eh T w _ rfl q (by decide) hms)
  have zh : h.size = 16 := by rw [← eh]; exact hm_size m
  have HD : Hid (∀ j, dig m j = digH h j) := fun j => by unfold dig; rw [eh]
  have hb := PlainAid.get_bt h
  clear q eh
  go_enter Tryd.func71, Tryd.ntmps71
  go_wp2_with fail
  refine (C.out _).mono ?_
  rintro e w1 ⟨rfl, q1⟩
  have o0 : (w1.alloc (.cells #[] 3)).ownsRow W.heap.size 3 1 (.slice (some ⟨w1.heap.size, 0, none⟩) 0 0) 0 (vals .i64 (digL h 0)) := World.ownsRow_lit w1 #[] 0 q1.size (by decide +kernel) rfl
  have q0 : Q W (w1.alloc (.cells #[] 3)) := q1.alloc _
  clear q1 C
  go_wp2_with fail
  go_loopw [4, 5, 6] (fun v l i wr => ∃ k : Nat, k ≤ 8 ∧ i = .int .i64 k ∧ l = .int .i64 (240 - nsum h (2 * k)) ∧ wr.ownsRow W.heap.size 3 1 v (2 * k) (vals .i64 (digL h (2 * k))) ∧ Q W wr) (fun _ _ i _ => 8 - (intOf i).toNat)
  case atStart => exact ⟨0, by omega, rfl, rfl, o0, q0⟩
  case round =>
    obtain ⟨k, hk, rfl, rfl, hown, hq⟩ := hrel
    clear o0 q0
    have hszr := hq.size
    have nb := nsum_bd h (2 * k)
    obtain ⟨n0, n1⟩ := nb
    have n2 : nsum h (2 * k) ≤ 240 := by omega
    by_cases hlt : k < 8
    · have k0 : (0 : Int) ≤ (k : Int) := by omega
      have k8 : (k : Int) < 8 := by omega
      have k16 : (k : Int) < (h.size : Int) := by omega
      have tk : decide ((k : Int) < 8) = true := by simp; omega
      have x0 := PlainAid.bt_nonneg h k
      have x1 := PlainAid.bt_le h k
      have HN : Hid (nsum h (2 * (k + 1)) = nsum h (2 * k) + PlainAid.bt h k / 16 + PlainAid.bt h k % 16) := by
        show nsum h (2 * k + 1 + 1) = _
        show nsum h (2 * k) + nib h (2 * k) + nib h (2 * k + 1) = _
        rw [nib_even, nib_odd]
      have HL : Hid (digL h (2 * (k + 1)) = digL h (2 * k) ++ [PlainAid.bt h k / 16] ++ [PlainAid.bt h k % 16]) := by
        show digL h (2 * k) ++ [digH h (2 * k)] ++ [digH h (2 * k + 1)] = _
        rw [digH_nib h _ (by omega), digH_nib h _ (by omega), nib_even, nib_odd]
      obtain ⟨x, hx⟩ : ∃ x, PlainAid.bt h k = x := ⟨_, rfl⟩
      rw [hx] at HN HL x0 x1
      obtain ⟨N, eN⟩ : ∃ N, nsum h (2 * k) = N := ⟨_, rfl⟩
      rw [eN] at HN n0 n1 n2 ⊢
      go_wp2_with (first
        | (at_builtin; (refine wpList_append_own _ rfl (.tmp 15) (.tmp 21) 50 rfl W.heap.size 3 i0 (.int .i64 0) 1 8 Tryd.underlying50 hi0 hz0 hz1 hz2 rfl (by decide) _ _ _ rfl (hown.alloc _) ⟨wr.heap.size, 0, none⟩ 1 1 [.int .i64 (x / 16)] rfl rfl (cell_one_new _ _ _) (fun x hx => by simp at hx; subst hx; rfl) (by unfold maxLen; omega) (by omega) (by simp; omega) ?_); intro va wa ownwa hgwa _hn; rw [show [Value.int IntKind.i64 (x / 16)] = vals .i64 [(x / 16)] from rfl, vals_append] at ownwa; have hqawa := hq.alloc (.cells #[.int .i64 (x / 16)] 3); have qwa : Q W wa := Below.grown hqawa hgwa hqawa.size (fun j hj => (hown.lt j hj).1); have hswa := qwa.size)
        | (at_builtin; (refine wpList_append_own _ rfl (.tmp 23) (.tmp 29) 50 rfl W.heap.size 3 i0 (.int .i64 0) 1 8 Tryd.underlying50 hi0 hz0 hz1 hz2 rfl (by decide) _ _ _ rfl (ownwa.alloc _) ⟨wa.heap.size, 0, none⟩ 1 1 [.int .i64 (x % 16)] rfl rfl (cell_one_new _ _ _) (fun x hx => by simp at hx; subst hx; rfl) (by unfold maxLen; omega) (by omega) (by simp; omega) ?_); intro vb wb ownwb hgwb _hn; rw [show [Value.int IntKind.i64 (x % 16)] = vals .i64 [(x % 16)] from rfl, vals_append] at ownwb; have hqawb := qwa.alloc (.cells #[.int .i64 (x % 16)] 3); have qwb : Q W wb := Below.grown hqawb hgwb hqawb.size (fun j hj => (ownwa.lt j hj).1); have hswb := qwb.size))
      go_region
      go_wp2_with fail
      refine ⟨⟨k + 1, by omega, by go_num, ?_, ?_, qwb.drew⟩, by simp [intOf]; omega⟩
      · rw [HN.out]; congr 1; omega
      · rw [HL.out]; exact ownwb
    · obtain rfl : k = 8 := by omega
      have tk : decide (((8 : Nat) : Int) < 8) = false := by simp
      have lb := lack_bd h
      have HL : Hid (240 - nsum h (2 * 8) = lack h) := rfl
      have HA : Hid (digL h 18 = digL h (2 * 8) ++ [lack h / 16] ++ [lack h % 16]) := by
        show digL h 16 ++ [digH h 16] ++ [digH h 17] = _
        rw [digH_16, digH_17]
      rw [HL.out]
      obtain ⟨l, el⟩ : ∃ l, lack h = l := ⟨_, rfl⟩
      rw [el] at HA lb ⊢
      obtain ⟨l0, l1⟩ := lb
      clear n0 n1 n2
      go_wp2_with (first
        | (at_builtin; (refine wpList_append_own _ rfl (.tmp 44) (.tmp 47) 50 rfl W.heap.size 3 i0 (.int .i64 0) 1 8 Tryd.underlying50 hi0 hz0 hz1 hz2 rfl (by decide) _ _ _ rfl (hown.alloc _) ⟨wr.heap.size, 0, none⟩ 1 1 [.int .i64 (l / 16)] rfl rfl (cell_one_new _ _ _) (fun x hx => by simp at hx; subst hx; rfl) (by unfold maxLen; omega) (by omega) (by simp; omega) ?_); intro vc wc ownwc hgwc _hn; rw [show [Value.int IntKind.i64 (l / 16)] = vals .i64 [(l / 16)] from rfl, vals_append] at ownwc; have hqawc := hq.alloc (.cells #[.int .i64 (l / 16)] 3); have qwc : Q W wc := Below.grown hqawc hgwc hqawc.size (fun j hj => (hown.lt j hj).1); have hswc := qwc.size)
        | (at_builtin; (refine wpList_append_own _ rfl (.tmp 49) (.tmp 52) 50 rfl W.heap.size 3 i0 (.int .i64 0) 1 8 Tryd.underlying50 hi0 hz0 hz1 hz2 rfl (by decide) _ _ _ rfl (ownwc.alloc _) ⟨wc.heap.size, 0, none⟩ 1 1 [.int .i64 (l % 16)] rfl rfl (cell_one_new _ _ _) (fun x hx => by simp at hx; subst hx; rfl) (by unfold maxLen; omega) (by omega) (by simp; omega) ?_); intro vd wd ownwd hgwd _hn; rw [show [Value.int IntKind.i64 (l % 16)] = vals .i64 [(l % 16)] from rfl, vals_append] at ownwd; have hqawd := qwc.alloc (.cells #[.int .i64 (l % 16)] 3); have qwd : Q W wd := Below.grown hqawd hgwd hqawd.size (fun j hj => (ownwc.lt j hj).1); have hswd := qwd.size))
      rw [← HA.out] at ownwd
      obtain ⟨g2, cap2, e2, r1, r2, r3, r4, r5, r6⟩ := own_row (show wd.ownsRow W.heap.size 3 1 _ (17 + 1) (vals .i64 (digL h 18)) from ownwd)
      subst e2
      have R3 : Hid (Row .i64 wd g2 0 18 (dig m)) := fun j hj => by
        rw [HD.out j, ← digL_get h 18 j hj]; exact r3 j hj
      clear r3
      go_wp2_with fail
      go_ret
      exact ⟨g2, cap2, rfl, r1, r2, R3.out, r4, r5, r6, qwd⟩
end Go.Proofs.YtnghhagiokiaoaaDoor.Wot
