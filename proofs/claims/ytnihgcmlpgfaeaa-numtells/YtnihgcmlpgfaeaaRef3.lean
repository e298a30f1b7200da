/-
  The document's answer for layer 1: the walk of its digits.
-/
import Derived.Test.YtnihgcmlpgfaeaaRef2
import Derived.Laws.OwnMore
import Derived.RangeFuncBox
import Derived.WalkSpells
namespace Go.Proofs.Ytnihgcmlpgfaeaa.Num
open Go.RowKit
set_option linter.unusedVariables false

/-- A row of numbers of the call's own, as an ending. -/
def OwnRow (W : World) (f : Nat → Int) (n : Nat) (e : Ending) (w' : World) : Prop :=
  ∃ g cap, e = .returned (.slice (some ⟨g, 0, none⟩) n cap) ∧ n ≤ cap ∧ cap ≤ maxLen ∧ Row w' g 0 n f ∧ W.heap.size ≤ g ∧ g < w'.heap.size ∧ Q W w'

theorem infoU : (Try.prog.info? 22).map (fun i => (i.zero, i.size, i.bytes)) = some (some (.int .u64 0), 1, 8) := by kernel_rfl

def digL (n : Int) (k : Nat) : List Value := (List.range k).map fun i => Value.int .u64 (M.dg n i)
theorem digL_succ (n : Int) (k : Nat) : digL n k ++ [.int .u64 (M.dg n k)] = digL n (k + 1) := by unfold digL; rw [List.range_succ, List.map_append]; rfl
theorem digL_get (n : Int) (k j : Nat) (h : j < k) : (digL n k)[j]? = some (.int .u64 (M.dg n j)) := by unfold digL; simp [h]

set_option maxHeartbeats 1000000 in
theorem digits_any {W : World} (n : Int) (w : World) (q : Q W w) (h0 : 0 ≤ n) (h1 : n ≤ 18446744073709551615) :
    Calls Try.prog 38 #[.int .u64 n, .int .i64 4] w (OwnRow W (M.dg n) 4) := by
  obtain ⟨i0, hi0, hz0, hz1, hz2⟩ := info_parts infoU
  have HE : Hid (n / M.B 0 = n) := by show _ = _; rw [M.B_zero]; omega
  go_enter Try.func38, Try.ntmps38
  go_wp2_with fail
  go_loopw [5, 0, 6] (fun o a b wr => ∃ k : Nat, k ≤ 4 ∧ b = .int .i64 k ∧ a = .int .u64 (n / M.B k) ∧ wr.ownsRow W.heap.size 22 1 o k (digL n k) ∧ Q W wr) (fun _ _ b _ => 4 - (intOf b).toNat)
  case atStart => exact ⟨0, by omega, rfl, by rw [HE.out], World.ownsRow_lit w #[] 0 q.size (by decide +kernel) rfl, q.trans (Below.alloc (Below.refl _ _) (Nat.le_refl _) _)⟩
  case round =>
    obtain ⟨k, hk, rfl, rfl, hown, hq⟩ := hrel
    have hd := M.dg_bd n k
    have b0 : 0 ≤ n / M.B k := Int.ediv_nonneg h0 (Int.le_of_lt (M.B_pos k))
    have b1 : n / M.B k ≤ n := Int.ediv_le_self _ h0
    by_cases hlt : k < 4
    · have HD := Lib.hid (M.div_B n k)
      have HL := Lib.hid (digL_succ n k)
      have HG : Hid (n / M.B k % 65536 = M.dg n k) := rfl
      clear HE q
      obtain ⟨N, hN⟩ : ∃ N, n / M.B k = N := ⟨_, rfl⟩
      rw [hN] at b0 b1 HD HG ⊢
      clear hN
      have hsz := hq.size
      go_wp2_with (at_builtin; (refine wpList_append_own _ rfl _ _ 29 rfl W.heap.size 22 i0 (.int .u64 0) 1 8 Try.underlying29 hi0 hz0 hz1 hz2 rfl (by decide) _ _ _ rfl (hown.alloc _) ⟨wr.heap.size, 0, none⟩ 1 1 [.int .u64 (N % 65536)] rfl rfl (cell_one_new _ _ _) (fun x hx => by simp at hx; subst hx; rfl) (by unfold maxLen; omega) (by omega) (by simp; omega) ?_); intro v' w1 hown1 hgrow1 _hn1)
      rw [HG.out, HL.out] at hown1
      have hqa : Q W (wr.alloc (.cells #[.int .u64 (N % 65536)] 22)) := hq.trans (Below.alloc (Below.refl _ _) (Nat.le_refl _) _)
      have hq1 : Q W w1 := Below.grown hqa hgrow1 hqa.size (fun j hj => (hown.lt j hj).1)
      exact ⟨⟨k + 1, by omega, by go_num, by rw [HD.out], hown1, hq1⟩, by simp [intOf]; omega⟩
    · obtain rfl : k = 4 := by omega
      obtain ⟨g, cap, rfl⟩ := ownsRow_succ hown
      have hrow : Row wr g 0 4 (M.dg n) := by
        intro j hj
        rw [Nat.zero_add, hown.cellAt j (by omega)]
        exact digL_get n 4 j hj
      have hlt' := hown.lt g rfl
      obtain ⟨c1, c2⟩ : 4 ≤ cap ∧ cap ≤ maxLen := by
        obtain ⟨_, h | ⟨g', cap', cur, h, _, _, h4, h5, _⟩⟩ := hown
        · simp at h
        · simp only [Value.slice.injEq] at h
          obtain ⟨_, _, rfl⟩ := h
          exact ⟨h4, h5⟩
      go_wp2_with fail
      go_ret
      exact ⟨g, cap, rfl, c1, c2, hrow, hlt'.1, hlt'.2, hq⟩
end Go.Proofs.Ytnihgcmlpgfaeaa.Num
