/-
  Layer 7: strings.Join of a row; the program's keys: New, Root, Next, Left, Burn, Sign.
-/
import Derived.Test.YtnghhagiokiaoaaDoorMerU
import Derived.Test.YtnghhagiokiaoaaDoorShelf
namespace Go.Proofs.YtnghhagiokiaoaaDoor.Mer
open Go.RowKit
open Mem Sh Wot
set_option linter.unusedVariables false

/-! ### Join -/
def fl (f : Nat → ByteArray) : Nat → List ByteArray
  | 0 => []
  | k + 1 => fl f k ++ [f k]
theorem fl_len (f : Nat → ByteArray) : ∀ k, (fl f k).length = k
  | 0 => rfl
  | k + 1 => by show (fl f k ++ _).length = _; rw [List.length_append, fl_len f k]; rfl
theorem fl_get (f : Nat → ByteArray) : ∀ k j, j < k → (fl f k)[j]? = some (f j)
  | 0, _, hj => absurd hj (by omega)
  | k + 1, j, hj => by
    show (fl f k ++ [f k])[j]? = _
    by_cases e : j < k
    · rw [List.getElem?_append_left (by rw [fl_len]; exact e)]; exact fl_get f k j e
    · obtain rfl : j = k := by omega
      rw [List.getElem?_append_right (by rw [fl_len]; omega), fl_len, Nat.sub_self]; rfl
theorem fl_flat (f : Nat → ByteArray) : ∀ k, ((fl f k).map (·.data.toList)).flatten = (cat f k).data.toList
  | 0 => rfl
  | k + 1 => by
    show ((fl f k ++ [f k]).map (·.data.toList)).flatten = (cat f k ++ f k).data.toList
    rw [List.map_append, List.flatten_append, fl_flat f k, ByteArray.data_append, Array.toList_append]
    simp
theorem join_flat (xs : List (List UInt8)) : Lib.join xs [] = xs.flatten := by
  cases xs with
  | nil => rfl
  | cons x r => rw [Lib.join_cons]; unfold Lib.joinTail; simp
theorem join_x {W : World} (g n c : Nat) (f : Nat → ByteArray) (x : ByteArray) (hx : cat f n = x) (w : World) (q : Q W w) (t : TR w g 0 n f) (hn : n ≤ c) (hn2 : n ≤ 100000) (hz : (cat f n).size ≤ 100000) :
    Calls Tryd.prog 50 #[.slice (some ⟨g, 0, none⟩) n c, .string ⟨#[]⟩] w fun e w' => e = .returned (.string x) ∧ Q W w' := by
  have hf : Lib.join ((fl f n).map (·.data.toList)) (⟨#[]⟩ : ByteArray).data.toList = (cat f n).data.toList := by
    rw [show (⟨#[]⟩ : ByteArray).data.toList = [] from rfl, join_flat, fl_flat]
  have hl : (cat f n).data.toList.length = (cat f n).size := by rw [Array.length_toList]; rfl
  have J := Tryd.strings_Join g 0 c (fl f n) ⟨#[]⟩ w (fun j y hy => by
    by_cases hj : j < n
    · rw [fl_get f n j hj] at hy; injection hy with hy; subst hy; exact t.r j hj
    · rw [List.getElem?_eq_none (by rw [fl_len]; omega)] at hy; cases hy) t.lt (by rw [fl_len]; omega) (by rw [fl_len]; exact hn) (by rw [hf, hl]; omega)
  rw [fl_len, hf] at J
  refine J.mono ?_
  rintro e w' ⟨rfl, hb⟩
  refine ⟨?_, q.trans hb⟩
  rw [← hx]
end Go.Proofs.YtnghhagiokiaoaaDoor.Mer
