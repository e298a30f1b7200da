/-
  The program's layer 2: the walk of padding.
-/
import Derived.Test.YtnghhagiokiaoaaDoorShaP3
namespace Go.Proofs.YtnghhagiokiaoaaDoor.Sh
open Go.RowKit
open Mem
set_option linter.unusedVariables false

/-- What fills n bytes up. -/
def padN (n : Nat) : List Int := [128] ++ List.replicate (zn n) 0 ++ tl (8 * (n : Int)) 8
theorem dv_eq (n : Int) (h : 0 ≤ n) : ∀ j, dv n j = n / 2 ^ (8 * j)
  | 0 => by simp [dv]
  | j + 1 => by
    show dv n j / 256 = _
    rw [dv_eq n h j, show 8 * (j + 1) = 8 * j + 8 by omega, Int.pow_add, show (2 : Int) ^ 8 = 256 by rfl]
    rw [Int.ediv_ediv_of_nonneg (by exact Int.pow_nonneg (by omega))]
theorem padN_len (n : Nat) : (padN n).length = zn n + 9 := by unfold padN; rw [List.length_append, tl_len, List.length_append, List.length_replicate]; simp; omega
theorem padN_byts (n : Nat) : ∀ x ∈ padN n, 0 ≤ x ∧ x ≤ 255 := by
  intro x hx
  unfold padN at hx
  simp only [List.mem_append, List.mem_singleton, List.mem_replicate] at hx
  rcases hx with (rfl | ⟨_, rfl⟩) | h
  · omega
  · omega
  · exact byts_dv _ _ x h

set_option maxHeartbeats 1000000 in
set_option maxRecDepth 100000 in
theorem padding_any {W : World} (n : Nat) (w : World) (q : Q W w) (hn : n ≤ 1000000000) :
    Calls Tryd.prog 95 #[.int .i64 n] w fun e w' => e = .returned (.string (strOfNums (padN n))) ∧ Q W w' := by
  obtain ⟨i0, hi0, hz0, hz1, hz2⟩ := info_parts infoB
  obtain ⟨z, hz⟩ : ∃ z, zn n = z := ⟨_, rfl⟩
  have hz64 : z ≤ 63 := by unfold zn at hz; omega
  have ez : (119 - (n : Int) % 64) % 64 = (z : Int) := by unfold zn at hz; omega
  have hsz := q.size
  have hmk := run_make (P := Tryd.prog) w 52 5 i0 (.int .u8 0) Tryd.underlying52 hi0 hz0 .i64 .i64 (1 + (z : Int)) (9 + (z : Int)) (by omega) (by omega) (by rw [hz2]; omega) (by omega)
  rw [hz1, Nat.mul_one, show (1 + (z : Int)).toNat = 1 + z by omega, show (9 + (z : Int)).toNat = 9 + z by omega] at hmk
  have hMs : madeCells (Value.int IntKind.u8 0).cells (9 + z) = (vals .u8 (List.replicate (9 + z) 0)).toArray := by
    apply Array.ext_getElem?
    intro j
    unfold madeCells vals
    by_cases hj : j < 9 + z
    · simp [Value.cells, hj, Nat.mod_one]
    · simp [Value.cells, hj]
  rw [hMs] at hmk
  have hM0 : (vals .u8 (List.replicate (9 + z) 0)).toArray[0]? = some (.int .u8 0) := by rw [show 9 + z = (8 + z) + 1 by omega]; rfl
  obtain ⟨PZ, hPZ⟩ : ∃ PZ, [128] ++ List.replicate z (0 : Int) = PZ := ⟨_, rfl⟩
  obtain ⟨L, hL⟩ : ∃ L, 8 * (n : Int) = L := ⟨_, rfl⟩
  have o0 : (w.alloc (.cells ((vals .u8 (List.replicate (9 + z) 0)).toArray.setIfInBounds 0 (.int .u8 128)) 5)).ownsRow W.heap.size 5 1 (.slice (some ⟨w.heap.size, 0, none⟩) (1 + z) (9 + z)) (1 + z) (vals .u8 (PZ ++ tl L 0)) := by
    refine ⟨?_, .inr ⟨w.heap.size, 9 + z, (vals .u8 (List.replicate (9 + z) 0)).toArray.setIfInBounds 0 (.int .u8 128), rfl, hsz, (show (w.heap.push _)[w.heap.size]? = _ by simp), by omega, by unfold maxLen; omega, ?_, ?_⟩⟩
    · rw [← hPZ]; unfold vals tl; simp; omega
    · unfold vals; simp
    · rw [← hPZ]
      unfold vals tl
      rw [show 9 + z = (8 + z) + 1 by omega, List.replicate_succ, show (1 + z) * 1 = z + 1 by omega]
      simp
  have q0 : Q W (w.alloc (.cells ((vals .u8 (List.replicate (9 + z) 0)).toArray.setIfInBounds 0 (.int .u8 128)) 5)) := q.alloc _
  have HP : Hid (padN n = PZ ++ tl L 8) := by show _ = _; unfold padN; rw [hz, hPZ, hL]
  have HL : Hid (L = (n : Int) * 8) := by show _ = _; omega
  have HZ : Hid (PZ.length = 1 + z) := by show _ = _; rw [← hPZ]; simp; omega
  clear hPZ hL hz q
  generalize hM : (vals .u8 (List.replicate (9 + z) 0)).toArray = M at *
  clear hM hMs
  go_enter Tryd.func95, Tryd.ntmps95
  go_wp2_with fail
  rw [ez]
  clear hmk hM0 ez
  go_loopw [4, 6] (fun v i wr => ∃ (m N g cap : Nat), m ≤ 8 ∧ i = .int .i64 (56 - 8 * (m : Int)) ∧ Hid (N = 1 + z + m) ∧ v = .slice (some ⟨g, 0, none⟩) N cap ∧ wr.ownsRow W.heap.size 5 1 v N (vals .u8 (PZ ++ tl L m)) ∧ Q W wr) (fun _ i _ => (intOf i + 8).toNat)
  case atStart => exact ⟨0, 1 + z, w.heap.size, 9 + z, by omega, rfl, rfl, rfl, o0, q0⟩
  case round =>
    obtain ⟨m, N, g, cap, hm, rfl, HN, rfl, hown, hq⟩ := hrel
    clear o0 q0
    have hszr := hq.size
    have hN1 : N ≤ 80 := by have := HN.out; omega
    by_cases hlt : m < 8
    · obtain ⟨sh, hsh⟩ : ∃ sh : Nat, 56 - 8 * (m : Int) = (sh : Int) ∧ sh = 8 * (7 - m) := ⟨8 * (7 - m), by omega, rfl⟩
      have HSH := Lib.hid hsh.2
      have hs1 : sh ≤ 56 := by omega
      rw [hsh.1]
      have HT : Hid (tl L m ++ [(n : Int) * 8 / 2 ^ sh % 256] = tl L (m + 1)) := by
        show _ = tl L m ++ [dv L (7 - m) % 256]
        rw [dv_eq L (by have := HL.out; omega), HL.out, HSH.out]
      have d0 : 0 ≤ (n : Int) * 8 / 2 ^ sh % 256 := by omega
      have d1 : (n : Int) * 8 / 2 ^ sh % 256 ≤ 255 := by omega
      have HS := Lib.hid hsh.1
      clear hsh
      go_wp2_with (at_builtin; (refine wpList_append_own _ rfl (.tmp 25) (.tmp 30) 52 rfl W.heap.size 5 i0 (.int .u8 0) 1 1 Tryd.underlying52 hi0 hz0 hz1 hz2 rfl (by decide) _ _ _ rfl (hown.alloc _) ⟨wr.heap.size, 0, none⟩ 1 1 [.int .u8 ((n : Int) * 8 / 2 ^ sh % 256)] rfl rfl (cell_one_new _ _ _) (fun x hx => by simp at hx; subst hx; rfl) (by unfold maxLen; omega) (by omega) (by simp; omega) ?_); intro v3 w3 hown3 hgrow3 _hn)
      have hqa : Q W (wr.alloc (.cells #[.int .u8 ((n : Int) * 8 / 2 ^ sh % 256)] 5)) := hq.alloc _
      have hq3 : Q W w3 := Below.grown hqa hgrow3 hqa.size (fun j hj => (hown.lt j hj).1)
      rw [show [Value.int IntKind.u8 ((n : Int) * 8 / 2 ^ sh % 256)] = vals .u8 [(n : Int) * 8 / 2 ^ sh % 256] from rfl, vals_append, List.append_assoc, HT.out] at hown3
      obtain ⟨g3, cap3, rfl⟩ := ownsRow_succ hown3
      clear hgrow3 _hn
      have HS' := HS.out
      go_roundw
      case rel => exact ⟨m + 1, N + 1, g3, cap3, by omega, congrArg (Value.int .i64) (by omega), (show N + 1 = 1 + z + (m + 1) by have := HN.out; omega), rfl, hown3, hq3⟩
      case measure => simp [intOf]; omega
    · obtain rfl : m = 8 := by omega
      have em : 56 - 8 * ((8 : Nat) : Int) = -8 := rfl
      rw [em]
      rw [← HP.out] at hown
      have hown' : wr.ownsRow W.heap.size 5 1 (.slice (some ⟨g, 0, none⟩) N cap) (z + 8 + 1) (vals .u8 (padN n)) := by rw [show z + 8 + 1 = N by have := HN.out; omega]; exact hown
      obtain ⟨g4, cap4, e4, r1, r2, r3, r4, r5, r6⟩ := own_row hown'
      have E4 := Lib.hid e4
      have hlen : (padN n).length = N := by rw [HP.out, List.length_append, tl_len, HZ.out]; have := HN.out; omega
      have hN9 : z + 8 + 1 = N := by have := HN.out; omega
      rw [hN9] at e4 r3
      obtain ⟨rfl, rfl⟩ : g = g4 ∧ cap = cap4 := by simpa using e4
      have hcv := run_convert_bytes_arg (P := Tryd.prog) wr 52 5 Tryd.underlying52 Tryd.underlying5 g 0 N cap (padN n) hlen (fun j hj => r3 j hj) 9 Tryd.underlying9
      clear e4 E4 r1 r2 r3 r4 r5 r6 hown hown' em hN9 hlen
      go_wp2_with fail
      go_ret
      exact ⟨rfl, hq⟩
end Go.Proofs.YtnghhagiokiaoaaDoor.Sh
