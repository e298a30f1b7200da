/-
  The document's answer for layer 1: the walks of its Sum, Get and Put.
-/
import Derived.Test.YtnihgcmlpgfaeaaKit
import Derived.Deep.RegionHeld3
namespace Go.Proofs.Ytnihgcmlpgfaeaa.Num
open Go.RowKit
set_option linter.unusedVariables false

theorem Drawn.drewN {w w' : World} (h : Drawn w w') (m : Nat) : Drawn w (w'.drewN m) := by obtain ⟨n, rfl⟩ := h; exact ⟨n + m, by simp⟩

theorem top_any (w : World) : Calls Try.prog 30 #[] w fun e w' => e = .returned (.int .u64 18446744073709551615) ∧ w' = w := by
  go_enter Try.func30, Try.ntmps30
  go_wp2
  go_ret
  exact ⟨rfl, rfl⟩

theorem rget_any (s : ByteArray) (w : World) (hs' : s.size ≤ maxLen) :
    Calls Try.prog 25 #[.string s] w fun e w' => e = .returned (.tuple #[.int .u64 (getV s), .int .i64 (getE s)]) ∧ w = w' := by
  unfold maxLen at hs'
  unfold getV getE
  have hb := PlainAid.get_bt s
  by_cases hs : 8 ≤ s.size
  · rw [if_pos hs, if_pos hs]
    have td : decide ((s.size : Int) < 8) = false := by simp; omega
    go_enter Try.func25, Try.ntmps25
    go_wp2
    go_loop [4, 5] (fun a b => ∃ k : Nat, k ≤ 8 ∧ b = .int .i64 k ∧ a = .int .u64 (getN s k)) (fun _ b => 8 - (intOf b).toNat)
    case atStart => exact ⟨0, by omega, rfl, rfl⟩
    case round =>
      obtain ⟨k, hk, rfl, rfl⟩ := hrel
      have n0 := getN_nonneg s k
      by_cases hlt : k < 8
      · have n1 : getN s k ≤ 72057594037927935 := by
          have := getN_lt s k
          have := Nat.pow_le_pow_right (show 256 > 0 by decide) (show k ≤ 7 by omega)
          have e : (256 : Nat) ^ 7 = 72057594037927936 := by decide
          omega
        have b0 := PlainAid.bt_nonneg s k
        have b1 := PlainAid.bt_le s k
        have HS : Hid (getN s (k + 1) = getN s k * 256 + PlainAid.bt s k) := rfl
        go_wp2
        go_round
        case rel => exact ⟨k + 1, by omega, by go_num, by rw [HS.out]⟩
        case measure => simp [intOf]; omega
      · obtain rfl : k = 8 := by omega
        go_wp2
        go_ret2
        exact ⟨rfl, rfl⟩
  · rw [if_neg hs, if_neg hs]
    have td : decide ((s.size : Int) < 8) = true := by simp; omega
    go_enter Try.func25, Try.ntmps25
    go_wp2
    go_ret2
    exact ⟨rfl, rfl⟩

set_option maxHeartbeats 1000000 in
theorem rsum_row (b off len cap : Nat) (f : Nat → Int) (w : World) (hl : len ≤ maxLen) (hr : Row w b off len f) (h0 : ∀ i, 0 ≤ f i) (h1 : ∀ i, f i ≤ 18446744073709551615) :
    Calls Try.prog 23 #[.slice (some ⟨b, off, none⟩) len cap] w fun e w' => e = .returned (.tuple #[.int .u64 (sumV f len), .int .i64 (sumE f len)]) ∧ Drawn w w' := by
  unfold maxLen at hl
  unfold sumV sumE
  have H0 := Lib.hid h0
  have H1 := Lib.hid h1
  have HR := Lib.hid hr
  clear h0 h1 hr
  obtain ⟨ans, ha⟩ : ∃ p : Int × Int, ((if S f len ≤ 18446744073709551615 then S f len else 0), (if S f len ≤ 18446744073709551615 then (0 : Int) else 2)) = p := ⟨_, rfl⟩
  obtain ⟨rv, re⟩ := ans
  have HA := Lib.hid ha
  simp only [Prod.mk.injEq] at ha
  rw [ha.1, ha.2]
  clear ha
  go_enter Try.func23, Try.ntmps23
  go_wp2_with fail
  go_loopw [4, 5] (fun a b wr => ∃ k : Nat, k ≤ len ∧ b = .int .i64 k ∧ a = .int .u64 (S f k) ∧ S f k ≤ 18446744073709551615 ∧ Drawn w wr) (fun _ b _ => len - (intOf b).toNat)
  case atStart => exact ⟨0, by omega, rfl, rfl, by simp [S], Drawn.refl _⟩
  case round =>
    obtain ⟨k, hk, rfl, rfl, hb, hd⟩ := hrel
    have s0 := S_nonneg f H0.out k
    by_cases hlt : k < len
    · have hlt' : (k : Int) < (len : Int) := by omega
      have hk0 : (0 : Int) ≤ (k : Int) := by omega
      have hc : wr.cell? ⟨b, off + k, none⟩ = some (.int .u64 (f k)) := by obtain ⟨n, rfl⟩ := hd; exact HR.out k hlt
      have f0 := H0.out k
      have f1 := H1.out k
      by_cases ho : S f k + f k ≤ 18446744073709551615
      · have td : decide (18446744073709551615 - S f k < f k) = false := by simp; omega
        have HV : Hid (S f k + f k = S f (k + 1)) := rfl
        have HB : Hid (S f (k + 1) ≤ 18446744073709551615) := ho
        go_wp2_with fail
        go_quiet ((go_at_call 30; exact Calls.quiet_of_same (top_any _)))
        go_wp2_with fail
        go_roundw
        case rel => exact ⟨k + 1, by omega, by go_num, by rw [HV.out], HB.out, hd.drewN _⟩
        case measure => simp [intOf]; omega
      · have td : decide (18446744073709551615 - S f k < f k) = true := by simp; omega
        have ov : ¬ S f len ≤ 18446744073709551615 := by
          have m := S_mono f H0.out (k + 1) (len - (k + 1))
          rw [show k + 1 + (len - (k + 1)) = len by omega] at m
          have : S f (k + 1) = S f k + f k := rfl
          omega
        have HF : Hid (rv = 0 ∧ re = 2) := by
          have h := HA.out
          rw [if_neg ov, if_neg ov] at h
          simp only [Prod.mk.injEq] at h
          exact ⟨h.1.symm, h.2.symm⟩
        clear ho ov
        go_wp2_with fail
        go_quiet ((go_at_call 30; exact Calls.quiet_of_same (top_any _)))
        go_wp2_with fail
        go_ret2
        exact ⟨ret2 HF.out.1.symm HF.out.2.symm, hd.drewN _⟩
    · obtain rfl : k = len := by omega
      have HF : Hid (rv = S f k ∧ re = 0) := by
        have h := HA.out
        rw [if_pos hb, if_pos hb] at h
        simp only [Prod.mk.injEq] at h
        exact ⟨h.1.symm, h.2.symm⟩
      go_wp2_with fail
      go_ret2
      exact ⟨ret2 HF.out.1.symm HF.out.2.symm, hd⟩

theorem rsum_none (a : Option Addr) (cap : Nat) (w : World) :
    Calls Try.prog 23 #[.slice a 0 cap] w fun e w' => e = .returned (.tuple #[.int .u64 0, .int .i64 0]) ∧ w = w' := by
  go_enter Try.func23, Try.ntmps23
  go_wp2
  go_rounds 1
  go_ret2
  exact ⟨rfl, rfl⟩

/-! ### The document's Put -/
def dv (n : Int) : Nat → Int
  | 0 => n
  | j + 1 => dv n j / 256
def lowL (n : Int) : Nat → List Int
  | 0 => []
  | j + 1 => (dv n j % 256) :: lowL n j
def lowS (n : Int) (j : Nat) : ByteArray := strOfNums (lowL n j)
theorem lowS_size (n : Int) : ∀ j, (lowS n j).size = j := by
  intro j; unfold lowS; rw [strOfNums_size]
  induction j with
  | zero => rfl
  | succ j ih => show (lowL n j).length + 1 = j + 1; rw [ih]
theorem lowS_succ (n : Int) (j : Nat) : strOfNums [dv n j % 256] ++ lowS n j = lowS n (j + 1) := by
  apply WideShapes.bytes_inj
  rw [ByteArray.data_append, Array.toList_append]
  rfl
theorem lowS_8 (n : Int) (h0 : 0 ≤ n) (h1 : n ≤ 18446744073709551615) : lowS n 8 = putS n := by
  unfold lowS putS
  have : lowL n 8 = putL n := by
    simp only [lowL, dv, putL]
    refine List.cons_eq_cons.2 ⟨by omega, List.cons_eq_cons.2 ⟨by omega, List.cons_eq_cons.2 ⟨by omega, List.cons_eq_cons.2 ⟨by omega, List.cons_eq_cons.2 ⟨by omega, List.cons_eq_cons.2 ⟨by omega, List.cons_eq_cons.2 ⟨by omega, rfl⟩⟩⟩⟩⟩⟩⟩
  rw [this]
theorem dv_bd (n : Int) (h0 : 0 ≤ n) (h1 : n ≤ 18446744073709551615) : ∀ j, 0 ≤ dv n j ∧ dv n j ≤ 18446744073709551615
  | 0 => ⟨h0, h1⟩
  | j + 1 => by have := dv_bd n h0 h1 j; show 0 ≤ dv n j / 256 ∧ dv n j / 256 ≤ _; omega

theorem conv1 (w : World) (x : Int) :
    (convert 53 9 (.slice (some ⟨w.heap.size, 0, none⟩) 1 1)).run Try.prog (w.alloc (.cells #[.int .u8 x] 5)) = .ok (.string (strOfNums [x])) (w.alloc (.cells #[.int .u8 x] 5)) := by
  refine run_convert_bytes_arg _ 53 5 Try.underlying53 Try.underlying5 _ 0 1 1 [x] rfl ?_ 9 Try.underlying9
  intro i hi
  match i, hi with
  | 0, _ => simp
  | n + 1, h => omega

set_option maxHeartbeats 1000000 in
theorem rput_q {W : World} (n : Int) (w : World) (q : Q W w) (h0 : 0 ≤ n) (h1 : n ≤ 18446744073709551615) :
    Calls Try.prog 29 #[.int .u64 n] w fun e w' => e = .returned (.string (putS n)) ∧ Q W w' := by
  go_enter Try.func29, Try.ntmps29
  go_wp2_with fail
  go_loopw [0, 3, 4] (fun a s b wr => ∃ k : Nat, k ≤ 8 ∧ b = .int .i64 k ∧ a = .int .u64 (dv n k) ∧ s = .string (lowS n k) ∧ Q W wr) (fun _ _ b _ => 8 - (intOf b).toNat)
  case atStart => exact ⟨0, by omega, rfl, rfl, rfl, q⟩
  case round =>
    obtain ⟨k, hk, rfl, rfl, rfl, hq⟩ := hrel
    obtain ⟨d0, d1⟩ := dv_bd n h0 h1 k
    by_cases hlt : k < 8
    · have cv := conv1 wr (dv n k % 256)
      have z1 := strOfNums_size [dv n k % 256]
      have z2 := lowS_size n k
      have e1 := lowS_succ n k
      have HD : Hid (dv n k / 256 = dv n (k + 1)) := rfl
      go_wp2_with fail
      go_roundw
      case rel => exact ⟨k + 1, by omega, by go_num, by rw [HD.out], rfl, hq.trans (Below.alloc (Below.refl _ _) (Nat.le_refl _) _)⟩
      case measure => simp [intOf]; omega
    · obtain rfl : k = 8 := by omega
      have HL := Lib.hid (lowS_8 n h0 h1)
      go_wp2_with fail
      go_ret
      exact ⟨by rw [← HL.out]; rfl, hq⟩
end Go.Proofs.Ytnihgcmlpgfaeaa.Num
