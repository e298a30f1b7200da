import Derived.Test.YtobfgljkckcmcaaGreatDoorYHMem
import Derived.Laws.BitsAllLaws
import Derived.Laws.Bits64b
set_option maxRecDepth 100000
namespace Go.Proofs.YtobfgljkckcmcaaGreatDoor.Num
open Go.RowKit
open Mem
set_option linter.unusedVariables false
/-- The eight bytes of a number, the highest first. -/
def putL (n : Int) : List Int := [n / 72057594037927936, n / 281474976710656 % 256, n / 1099511627776 % 256, n / 4294967296 % 256, n / 16777216 % 256, n / 65536 % 256, n / 256 % 256, n % 256]
def putS (n : Int) : ByteArray := strOfNums (putL n)
theorem conv8 (w : World) (b0 b1 b2 b3 b4 b5 b6 b7 : Int) :
 (convert 121 9 (.slice (some ⟨w.heap.size, 0, none⟩) 8 8)).run Tryz.prog (w.alloc (.cells #[.int .u8 b0, .int .u8 b1, .int .u8 b2, .int .u8 b3, .int .u8 b4, .int .u8 b5, .int .u8 b6, .int .u8 b7] 165))
  = .ok (.string (strOfNums [b0, b1, b2, b3, b4, b5, b6, b7])) (w.alloc (.cells #[.int .u8 b0, .int .u8 b1, .int .u8 b2, .int .u8 b3, .int .u8 b4, .int .u8 b5, .int .u8 b6, .int .u8 b7] 165)) := by
 refine run_convert_bytes_arg _ 121 5 Tryz.underlying121 Tryz.underlying5 _ 0 8 8 [b0, b1, b2, b3, b4, b5, b6, b7] rfl ?_ 9 Tryz.underlying9
 intro i hi
 match i, hi with
 | 0, _ => simp
 | 1, _ => simp
 | 2, _ => simp
 | 3, _ => simp
 | 4, _ => simp
 | 5, _ => simp
 | 6, _ => simp
 | 7, _ => simp
 | n + 8, h => omega
set_option maxHeartbeats 1000000 in
theorem put_any (n : Int) (w : World) (h0 : 0 ≤ n) (h1 : n ≤ 18446744073709551615) :
 Calls Tryz.prog 81 #[.int .u64 n] w fun e w' => e = .returned (.string (putS n)) ∧ Below w.heap.size w w' := by
 have cv := conv8 w (n / 72057594037927936) (n / 281474976710656 % 256) (n / 1099511627776 % 256) (n / 4294967296 % 256) (n / 16777216 % 256) (n / 65536 % 256) (n / 256 % 256) (n % 256)
 go_enter Tryz.func81, Tryz.ntmps81
 go_wp2
 go_rounds 9
 go_ret
 exact ⟨rfl, (Below.refl _ _).alloc (Nat.le_refl _) _⟩
/-- The number of the first k bytes of a string. -/
def getN (s : ByteArray) : Nat → Int
 | 0 => 0
 | k + 1 => getN s k * 256 + PlainAid.bt s k
def getV (s : ByteArray) : Int := if 8 ≤ s.size then getN s 8 else 0
def getE (s : ByteArray) : Int := if 8 ≤ s.size then 0 else 3
theorem getN_nonneg (s : ByteArray) : ∀ k, 0 ≤ getN s k
 | 0 => by simp [getN]
 | k + 1 => by have := getN_nonneg s k; have := PlainAid.bt_nonneg s k; simp [getN]; omega
theorem getN_lt (s : ByteArray) : ∀ k, getN s k < ((256 ^ k : Nat) : Int)
 | 0 => by simp [getN]
 | k + 1 => by have := getN_lt s k; have := PlainAid.bt_le s k; simp only [getN, Nat.pow_succ]; omega
theorem or_byte (n b : Int) (h0 : 0 ≤ n) (h1 : n ≤ 72057594037927935) (hb : 0 ≤ b) (hb' : b ≤ 255) : bits BinOp.or IntKind.u64 (n * 256) b = n * 256 + b := by
 obtain ⟨x, rfl⟩ := Int.eq_ofNat_of_zero_le h0
 obtain ⟨y, rfl⟩ := Int.eq_ofNat_of_zero_le hb
 rw [show ((x : Int) * 256) = ((x * 256 : Nat) : Int) by omega, bits_or_u64_nat _ _ (by omega) (by omega), nat_join 8 _ _ (by omega) (by omega)]
 omega
theorem get_any (s : ByteArray) (w : World) (hs' : s.size ≤ maxLen) :
 Calls Tryz.prog 154 #[.string s] w fun e w' => e = .returned (.tuple #[.int .u64 (getV s), .int .i64 (getE s)]) ∧ w = w' := by
 unfold maxLen at hs'
 unfold getV getE
 have hb := PlainAid.get_bt s
 by_cases hs : 8 ≤ s.size
 · rw [if_pos hs, if_pos hs]
   have td : decide ((s.size : Int) < 8) = false := by simp; omega
   go_enter Tryz.func154, Tryz.ntmps154
   go_wp2
   go_loop [4, 9] (fun a b => ∃ k : Nat, k ≤ 8 ∧ b = .int .i64 k ∧ a = .int .u64 (getN s k)) (fun _ b => 8 - (intOf b).toNat)
   case atStart => exact ⟨0, by omega, rfl, rfl⟩
   case round =>
    obtain ⟨k, hk, rfl, rfl⟩ := hrel
    have n0 := getN_nonneg s k
    by_cases hlt : k < 8
    · have n1 : getN s k ≤ 72057594037927935 := by
       have := getN_lt s k
       have := Nat.pow_le_pow_right (show 256 > 0 by decide) (show k ≤ 7 by omega)
       have e : (256 : Nat) ^ 7 = 72057594037927936 := by decide
       omega
      have b0 := PlainAid.bt_nonneg s k
      have b1 := PlainAid.bt_le s k
      have HO := or_byte (getN s k) (PlainAid.bt s k) n0 n1 b0 b1
      have HS : Hid (getN s (k + 1) = getN s k * 256 + PlainAid.bt s k) := rfl
      go_wp2
      go_round
      case rel => exact ⟨k + 1, by omega, by go_num, by rw [HS.out]⟩
      case measure => simp [intOf]; omega
    · obtain rfl : k = 8 := by omega
      go_wp2
      go_ret2
      exact ⟨rfl, rfl⟩
 · rw [if_neg hs, if_neg hs]
   have td : decide ((s.size : Int) < 8) = true := by simp; omega
   go_enter Tryz.func154, Tryz.ntmps154
   go_wp2
   go_ret2
   exact ⟨rfl, rfl⟩
def dv (n : Int) : Nat → Int
 | 0 => n
 | j + 1 => dv n j / 256
def lowL (n : Int) : Nat → List Int
 | 0 => []
 | j + 1 => (dv n j % 256) :: lowL n j
def lowS (n : Int) (j : Nat) : ByteArray := strOfNums (lowL n j)
theorem lowS_size (n : Int) : ∀ j, (lowS n j).size = j := by
 intro j; unfold lowS; rw [strOfNums_size]
 induction j with
 | zero => rfl
 | succ j ih => show (lowL n j).length + 1 = j + 1; rw [ih]
theorem lowS_succ (n : Int) (j : Nat) : strOfNums [dv n j % 256] ++ lowS n j = lowS n (j + 1) := by
 apply WideShapes.bytes_inj
 rw [ByteArray.data_append, Array.toList_append]
 rfl
theorem lowS_8 (n : Int) (h0 : 0 ≤ n) (h1 : n ≤ 18446744073709551615) : lowS n 8 = putS n := by
 unfold lowS putS
 have : lowL n 8 = putL n := by
  simp only [lowL, dv, putL]
  refine List.cons_eq_cons.2 ⟨by omega, List.cons_eq_cons.2 ⟨by omega, List.cons_eq_cons.2 ⟨by omega, List.cons_eq_cons.2 ⟨by omega, List.cons_eq_cons.2 ⟨by omega, List.cons_eq_cons.2 ⟨by omega, List.cons_eq_cons.2 ⟨by omega, rfl⟩⟩⟩⟩⟩⟩⟩
 rw [this]
theorem dv_bd (n : Int) (h0 : 0 ≤ n) (h1 : n ≤ 18446744073709551615) : ∀ j, 0 ≤ dv n j ∧ dv n j ≤ 18446744073709551615
 | 0 => ⟨h0, h1⟩
 | j + 1 => by have := dv_bd n h0 h1 j; show 0 ≤ dv n j / 256 ∧ dv n j / 256 ≤ _; omega
theorem conv1 (w : World) (x : Int) :
 (convert 121 9 (.slice (some ⟨w.heap.size, 0, none⟩) 1 1)).run Tryz.prog (w.alloc (.cells #[.int .u8 x] 5)) = .ok (.string (strOfNums [x])) (w.alloc (.cells #[.int .u8 x] 5)) := by
 refine run_convert_bytes_arg _ 121 5 Tryz.underlying121 Tryz.underlying5 _ 0 1 1 [x] rfl ?_ 9 Tryz.underlying9
 intro i hi
 match i, hi with
 | 0, _ => simp
 | n + 1, h => omega
set_option maxHeartbeats 1000000 in
theorem rput_q {W : World} (n : Int) (w : World) (q : Q W w) (h0 : 0 ≤ n) (h1 : n ≤ 18446744073709551615) :
 Calls Tryz.prog 83 #[.int .u64 n] w fun e w' => e = .returned (.string (putS n)) ∧ Q W w' := by
 go_enter Tryz.func83, Tryz.ntmps83
 go_wp2_with fail
 go_loopw [0, 3, 4] (fun a s b wr => ∃ k : Nat, k ≤ 8 ∧ b = .int .i64 k ∧ a = .int .u64 (dv n k) ∧ s = .string (lowS n k) ∧ Q W wr) (fun _ _ b _ => 8 - (intOf b).toNat)
 case atStart => exact ⟨0, by omega, rfl, rfl, rfl, q⟩
 case round =>
  obtain ⟨k, hk, rfl, rfl, rfl, hq⟩ := hrel
  obtain ⟨d0, d1⟩ := dv_bd n h0 h1 k
  by_cases hlt : k < 8
  · have cv := conv1 wr (dv n k % 256)
    have z1 := strOfNums_size [dv n k % 256]
    have z2 := lowS_size n k
    have e1 := lowS_succ n k
    have HD : Hid (dv n k / 256 = dv n (k + 1)) := rfl
    go_wp2_with fail
    go_roundw
    case rel => exact ⟨k + 1, by omega, by go_num, by rw [HD.out], rfl, hq.trans (Below.alloc (Below.refl _ _) (Nat.le_refl _) _)⟩
    case measure => simp [intOf]; omega
  · obtain rfl : k = 8 := by omega
    have HL := Lib.hid (lowS_8 n h0 h1)
    go_wp2_with fail
    go_ret
    exact ⟨by rw [← HL.out]; rfl, hq⟩
def val : List Int → Int
 | [] => 0
 | d :: r => d * ((256 ^ r.length : Nat) : Int) + val r
def Digits (l : List Int) : Prop := ∀ d ∈ l, 0 ≤ d ∧ d ≤ 255
theorem putL_digits (n : Int) (h0 : 0 ≤ n) (h1 : n ≤ 18446744073709551615) : Digits (putL n) := by
 intro d hd
 simp only [putL, List.mem_cons, List.not_mem_nil, or_false] at hd
 rcases hd with h | h | h | h | h | h | h | h <;> subst h <;> omega
theorem putS_size (n : Int) : (putS n).size = 8 := by unfold putS; rw [strOfNums_size]; rfl
end Go.Proofs.YtobfgljkckcmcaaGreatDoor.Num
