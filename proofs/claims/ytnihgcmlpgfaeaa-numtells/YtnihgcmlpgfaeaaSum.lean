/-
  The sum of numbers that lie in a slice: the walk of num.Sum.
-/
import Derived.Test.YtnihgcmlpgfaeaaBytes
namespace Go.Proofs.Ytnihgcmlpgfaeaa.Num
open Go.RowKit
set_option linter.unusedVariables false

/-- The sum of the first k. -/
def S (f : Nat → Int) : Nat → Int
  | 0 => 0
  | k + 1 => S f k + f k
def sumV (f : Nat → Int) (n : Nat) : Int := if S f n ≤ 18446744073709551615 then S f n else 0
def sumE (f : Nat → Int) (n : Nat) : Int := if S f n ≤ 18446744073709551615 then 0 else 2
theorem S_nonneg (f : Nat → Int) (h : ∀ i, 0 ≤ f i) : ∀ k, 0 ≤ S f k
  | 0 => by simp [S]
  | k + 1 => by have := S_nonneg f h k; have := h k; simp only [S]; omega
theorem S_mono (f : Nat → Int) (h : ∀ i, 0 ≤ f i) (k : Nat) : ∀ d, S f k ≤ S f (k + d)
  | 0 => Int.le_refl _
  | d + 1 => by have := S_mono f h k d; have := h (k + d); show _ ≤ S f (k + d) + f (k + d); omega

/-- A slice's numbers: cell i behind its address holds number i. -/
def Row (w : World) (b off len : Nat) (f : Nat → Int) : Prop := ∀ i, i < len → w.cell? ⟨b, off + i, none⟩ = some (.int .u64 (f i))

set_option maxHeartbeats 1000000 in
theorem sum_row (b off len cap : Nat) (f : Nat → Int) (w : World) (hl : len ≤ maxLen) (hr : Row w b off len f) (h0 : ∀ i, 0 ≤ f i) (h1 : ∀ i, f i ≤ 18446744073709551615) :
    Calls Try.prog 22 #[.slice (some ⟨b, off, none⟩) len cap] w fun e w' => e = .returned (.tuple #[.int .u64 (sumV f len), .int .i64 (sumE f len)]) ∧ w = w' := by
  unfold maxLen at hl
  unfold sumV sumE
  have H0 := Lib.hid h0
  have H1 := Lib.hid h1
  have HR := Lib.hid hr
  clear h0 h1 hr
  obtain ⟨ans, ha⟩ : ∃ p : Int × Int, ((if S f len ≤ 18446744073709551615 then S f len else 0), (if S f len ≤ 18446744073709551615 then (0 : Int) else 2)) = p := ⟨_, rfl⟩
  obtain ⟨rv, re⟩ := ans
  have HA := Lib.hid ha
  simp only [Prod.mk.injEq] at ha
  rw [ha.1, ha.2]
  clear ha
  go_enter Try.func22, Try.ntmps22
  go_wp2_with fail
  go_loop [4, 11] (fun a b => ∃ k : Nat, k ≤ len ∧ b = .int .i64 k ∧ a = .int .u64 (S f k) ∧ S f k ≤ 18446744073709551615) (fun _ b => len - (intOf b).toNat)
  case atStart => exact ⟨0, by omega, rfl, rfl, by simp [S]⟩
  case round =>
    obtain ⟨k, hk, rfl, rfl, hb⟩ := hrel
    have s0 := S_nonneg f H0.out k
    by_cases hlt : k < len
    · have hc := HR.out k hlt
      have f0 := H0.out k
      have f1 := H1.out k
      by_cases ho : S f k + f k ≤ 18446744073709551615
      · have hV : addV (S f k) (f k) = S f (k + 1) := by unfold addV; rw [if_pos ho]; rfl
        have hE : addE (S f k) (f k) = 0 := by unfold addE; rw [if_pos ho]
        have HB : Hid (S f (k + 1) ≤ 18446744073709551615) := ho
        clear ho
        go_wp2_with (go_at_call 11; refine (add_any _ _ _ s0 hb f0 f1).mono ?_; rintro e w' ⟨rfl, rfl⟩)
        go_round
        case rel => exact ⟨k + 1, by omega, by go_num, rfl, HB.out⟩
        case measure => simp [intOf]; omega
      · have hE : addE (S f k) (f k) = 2 := by unfold addE; rw [if_neg ho]
        have ov : ¬ S f len ≤ 18446744073709551615 := by
          have m := S_mono f H0.out (k + 1) (len - (k + 1))
          rw [show k + 1 + (len - (k + 1)) = len by omega] at m
          have : S f (k + 1) = S f k + f k := rfl
          omega
        have HF : Hid (rv = 0 ∧ re = 2) := by
          have h := HA.out
          rw [if_neg ov, if_neg ov] at h
          simp only [Prod.mk.injEq] at h
          exact ⟨h.1.symm, h.2.symm⟩
        clear ho ov
        go_wp2_with (go_at_call 11; refine (add_any _ _ _ s0 hb f0 f1).mono ?_; rintro e w' ⟨rfl, rfl⟩)
        go_ret2
        exact ⟨ret2 HF.out.1.symm HF.out.2.symm, rfl⟩
    · obtain rfl : k = len := by omega
      have HF : Hid (rv = S f k ∧ re = 0) := by
        have h := HA.out
        rw [if_pos hb, if_pos hb] at h
        simp only [Prod.mk.injEq] at h
        exact ⟨h.1.symm, h.2.symm⟩
      go_wp2_with fail
      go_ret2
      exact ⟨ret2 HF.out.1.symm HF.out.2.symm, rfl⟩

theorem sum_none (a : Option Addr) (cap : Nat) (w : World) :
    Calls Try.prog 22 #[.slice a 0 cap] w fun e w' => e = .returned (.tuple #[.int .u64 0, .int .i64 0]) ∧ w = w' := by
  go_enter Try.func22, Try.ntmps22
  go_wp2
  go_rounds 1
  go_ret2
  exact ⟨rfl, rfl⟩
end Go.Proofs.Ytnihgcmlpgfaeaa.Num
