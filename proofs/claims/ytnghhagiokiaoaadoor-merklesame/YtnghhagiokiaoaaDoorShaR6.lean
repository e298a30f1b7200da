/-
  The document's answer for layer 2: the walk of its Tag.
-/
import Derived.Test.YtnghhagiokiaoaaDoorShaR5
namespace Go.Proofs.YtnghhagiokiaoaaDoor.Sh
open Go.RowKit
open Mem
set_option linter.unusedVariables false

/-- A row of texts. -/
def RowS (w : World) (b off len : Nat) (f : Nat → ByteArray) : Prop := ∀ i, i < len → w.cell? ⟨b, off + i, none⟩ = some (.string (f i))
theorem RowS.q {w w' : World} {g off n : Nat} {f : Nat → ByteArray} (h : RowS w g off n f) (q : Q w w') (hg : g < w.heap.size) : RowS w' g off n f :=
  fun i hi => by rw [q.cell (p := ⟨g, off + i, none⟩) hg]; exact h i hi

/-- The bytes of a word and parts, each with its length. -/
def tg (word : ByteArray) (ps : Nat → ByteArray) : Nat → ByteArray
  | 0 => strOfNums [(word.size : Int) % 256] ++ word
  | k + 1 => tg word ps k ++ (strOfNums [((ps k).size : Int) / 256 % 256, ((ps k).size : Int) % 256] ++ ps k)
theorem tg_size (word : ByteArray) (ps : Nat → ByteArray) (b : Nat) (h : ∀ i, (ps i).size ≤ b) : ∀ k, (tg word ps k).size ≤ word.size + 1 + k * (b + 2)
  | 0 => by show (strOfNums _ ++ word).size ≤ _; rw [ByteArray.size_append, strOfNums_size]; simp; omega
  | k + 1 => by
    have := tg_size word ps b h k
    have := h k
    show (tg word ps k ++ (strOfNums _ ++ ps k)).size ≤ _
    rw [ByteArray.size_append, ByteArray.size_append, strOfNums_size, Nat.add_mul]
    simp; omega
def tagS (word : ByteArray) (ps : Nat → ByteArray) (n : Nat) : ByteArray := shortS (tg word ps n)

theorem conv1 (w : World) (x : Int) :
    (convert 52 9 (.slice (some ⟨w.heap.size, 0, none⟩) 1 1)).run Tryd.prog (w.alloc (.cells #[.int .u8 x] 5)) = .ok (.string (strOfNums [x])) (w.alloc (.cells #[.int .u8 x] 5)) := by
  refine run_convert_bytes_arg _ 52 5 Tryd.underlying52 Tryd.underlying5 _ 0 1 1 [x] rfl ?_ 9 Tryd.underlying9
  intro i hi
  match i, hi with
  | 0, _ => simp
  | n + 1, h => omega

set_option maxHeartbeats 2000000 in
set_option maxRecDepth 100000 in
theorem rtag_any {W : World} (word : ByteArray) (g off n cap : Nat) (ps : Nat → ByteArray) (w : World) (q : Q W w) (hr : RowS w g off n ps) (hg : 0 < n → g < w.heap.size) (hw : word.size ≤ 1000000) (hn : n ≤ 100) (hp : ∀ i, (ps i).size ≤ 1000000) :
    Calls Tryd.prog 34 #[.string word, .slice (some ⟨g, off, none⟩) n cap] w fun e w' => e = .returned (.string (tagS word ps n)) ∧ Q W w' := by
  have HR := Lib.hid hr
  have HP := Lib.hid hp
  have HG := Lib.hid hg
  have HZ := Lib.hid (tg_size word ps 1000000 hp)
  clear hr hp hg
  have cv := conv1 w ((word.size : Int) % 256)
  have z1 := strOfNums_size
  have HT : Hid (strOfNums [(word.size : Int) % 256] ++ word = tg word ps 0) := rfl
  have HF : Hid (tagS word ps n = shortS (tg word ps n)) := rfl
  go_enter Tryd.func34, Tryd.ntmps34
  go_wp2_with fail
  go_loopw [5, 6] (fun o i wr => ∃ k : Nat, k ≤ n ∧ i = .int .i64 k ∧ o = .string (tg word ps k) ∧ Q w wr) (fun _ i _ => n - (intOf i).toNat)
  case atStart => exact ⟨0, by omega, rfl, congrArg Value.string HT.out, (Q.refl w).alloc _⟩
  case round =>
    obtain ⟨k, hk, rfl, rfl, hq⟩ := hrel
    clear cv
    have hz := HZ.out k
    have hzk : (tg word ps k).size ≤ 1000001 + 100 * 1000002 := by
      have : k * (1000000 + 2) ≤ 100 * (1000000 + 2) := Nat.mul_le_mul_right _ (by omega)
      omega
    clear hz
    by_cases hlt : k < n
    · have k0 : (0 : Int) ≤ (k : Int) := by omega
      have k1 : (k : Int) < (n : Int) := by omega
      have tk : decide ((k : Int) < (n : Int)) = true := by simp; omega
      have hc : wr.cell? ⟨g, off + k, none⟩ = some (.string (ps k)) := by rw [hq.cell (p := ⟨g, off + k, none⟩) (HG.out (by omega))]; exact HR.out k hlt
      have hgr : g < wr.heap.size := by have := hq.size; have := HG.out (by omega); omega
      have hpk := HP.out k
      have HS : Hid (tg word ps (k + 1) = tg word ps k ++ (strOfNums [((ps k).size : Int) / 256 % 256, ((ps k).size : Int) % 256] ++ ps k)) := rfl
      have cv' : (convert 52 9 (.slice (some ⟨wr.heap.size, 0, none⟩) 2 2)).run Tryd.prog (wr.alloc (.cells #[.int .u8 (((ps k).size : Int) / 256 % 256), .int .u8 (((ps k).size : Int) % 256)] 5)).drew = .ok (.string (strOfNums [((ps k).size : Int) / 256 % 256, ((ps k).size : Int) % 256])) (wr.alloc (.cells #[.int .u8 (((ps k).size : Int) / 256 % 256), .int .u8 (((ps k).size : Int) % 256)] 5)).drew := conv2 wr.drew _ _
      generalize ps k = p at *
      generalize tg word ps k = tk' at *
      go_wp2_with fail
      go_region
      go_wp2_with fail
      exact ⟨⟨k + 1, by omega, by go_num, congrArg Value.string HS.out.symm, hq.trans (((Q.refl wr).alloc _).drew)⟩, by simp [intOf]; omega⟩
    · obtain rfl : k = n := by omega
      go_wp2_with (go_at_call 56; refine (rshort_any (W := w) _ _ hq (by omega)).mono ?_; rintro e w' ⟨rfl, hq'⟩)
      go_ret
      exact ⟨retS HF.out.symm, q.trans hq'⟩

set_option maxHeartbeats 1000000 in
theorem rtag_none {W : World} (word : ByteArray) (a : Option Addr) (cap : Nat) (ps : Nat → ByteArray) (w : World) (q : Q W w) (hw : word.size ≤ 1000000) :
    Calls Tryd.prog 34 #[.string word, .slice a 0 cap] w fun e w' => e = .returned (.string (tagS word ps 0)) ∧ Q W w' := by
  have cv := conv1 w ((word.size : Int) % 256)
  have z1 := strOfNums_size
  have HT : Hid (strOfNums [(word.size : Int) % 256] ++ word = tg word ps 0) := rfl
  have HF : Hid (tagS word ps 0 = shortS (tg word ps 0)) := rfl
  have hsz : (strOfNums [(word.size : Int) % 256] ++ word).size ≤ 1000000000 := by rw [ByteArray.size_append, strOfNums_size]; simp; omega
  have hq : Q w (w.alloc (.cells #[.int .u8 ((word.size : Int) % 256)] 5)) := (Q.refl w).alloc _
  go_enter Tryd.func34, Tryd.ntmps34
  go_wp2_with fail
  refine wp_loop_rounds 1 ?_
  rw [rounds_succ]
  go_wp2_with (go_at_call 56; refine (rshort_any (W := w) _ _ hq hsz).mono ?_; rintro e w' ⟨rfl, hq'⟩)
  go_ret
  exact ⟨retS (by rw [HF.out, HT.out]), q.trans hq'⟩
end Go.Proofs.YtnghhagiokiaoaaDoor.Sh
