/-
  The document's answer for layer 2: the walk of its Hex.
-/
import Derived.Test.YtnghhagiokiaoaaDoorShaR4
namespace Go.Proofs.YtnghhagiokiaoaaDoor.Sh
open Go.RowKit
open Mem
set_option linter.unusedVariables false

def dtab : ByteArray := ⟨#[48, 49, 50, 51, 52, 53, 54, 55, 56, 57, 97, 98, 99, 100, 101, 102]⟩
/-- A digit to the base 16. -/
def hd (j : Int) : Int := if j < 10 then 48 + j else 87 + j
theorem hd_bd (j : Int) (h0 : 0 ≤ j) (h1 : j ≤ 15) : 0 ≤ hd j ∧ hd j ≤ 255 := by unfold hd; split <;> omega
theorem dtab_at (j : Nat) (h : j < 16) : PlainAid.bt dtab j = hd j := by
  have all : ∀ j : Fin 16, PlainAid.bt dtab j.val = hd j.val := by decide +kernel
  exact all ⟨j, h⟩
def hexL : List Int → List Int
  | [] => []
  | x :: r => hd (x / 16) :: hd (x % 16) :: hexL r
theorem hexL_len : ∀ l, (hexL l).length = 2 * l.length
  | [] => rfl
  | x :: r => by simp only [hexL, List.length_cons, hexL_len r]; omega
theorem hexL_append : ∀ l m, hexL (l ++ m) = hexL l ++ hexL m
  | [], _ => rfl
  | x :: r, m => by simp only [List.cons_append, hexL, hexL_append r m]
def hexS (s : ByteArray) : ByteArray := strOfNums (hexL (sb s))
def hexK (s : ByteArray) (k : Nat) : ByteArray := strOfNums (hexL ((sb s).take k))
theorem hexK_size (s : ByteArray) (k : Nat) (h : k ≤ s.size) : (hexK s k).size = 2 * k := by
  unfold hexK; rw [strOfNums_size, hexL_len, List.length_take, sb_len]; omega
theorem strOf_append (a b : List Int) : strOfNums a ++ strOfNums b = strOfNums (a ++ b) := by
  apply WideShapes.bytes_inj
  rw [ByteArray.data_append, Array.toList_append, strOfNums_data, strOfNums_data, strOfNums_data, List.map_append]
theorem sb_get (s : ByteArray) (k : Nat) (h : k < s.size) : (sb s)[k]? = some (PlainAid.bt s k) := by
  unfold sb PlainAid.bt
  rw [List.getElem?_map, dif_pos h]
  have : s.data.toList[k]? = some s[k] := by
    rw [Array.getElem?_toList]; exact Array.getElem?_eq_getElem h
  rw [this]
  rfl
theorem hexK_succ (s : ByteArray) (k : Nat) (h : k < s.size) : hexK s k ++ strOfNums [hd (PlainAid.bt s k / 16), hd (PlainAid.bt s k % 16)] = hexK s (k + 1) := by
  unfold hexK
  rw [strOf_append]
  have e : (sb s).take (k + 1) = (sb s).take k ++ [PlainAid.bt s k] := by
    rw [List.take_add_one, sb_get s k h]; rfl
  rw [e, hexL_append]
  rfl

theorem conv2 (w : World) (a b : Int) :
    (convert 52 9 (.slice (some ⟨w.heap.size, 0, none⟩) 2 2)).run Tryd.prog (w.alloc (.cells #[.int .u8 a, .int .u8 b] 5)) = .ok (.string (strOfNums [a, b])) (w.alloc (.cells #[.int .u8 a, .int .u8 b] 5)) := by
  refine run_convert_bytes_arg _ 52 5 Tryd.underlying52 Tryd.underlying5 _ 0 2 2 [a, b] rfl ?_ 9 Tryd.underlying9
  intro i hi
  match i, hi with
  | 0, _ => simp
  | 1, _ => simp
  | n + 2, h => omega

end Go.Proofs.YtnghhagiokiaoaaDoor.Sh
