/-
  The document's answer for layer 2: the walks of its keys and padded.
-/
import Derived.Test.YtnghhagiokiaoaaDoorShaR2
import Derived.Lib.AppendStr
namespace Go.Proofs.YtnghhagiokiaoaaDoor.Sh
open Go.RowKit
open Mem
set_option linter.unusedVariables false

/-! ### The rounds' words -/
def Kl : List Int := [1116352408, 1899447441, 3049323471, 3921009573, 961987163, 1508970993, 2453635748, 2870763221,
  3624381080, 310598401, 607225278, 1426881987, 1925078388, 2162078206, 2614888103, 3248222580,
  3835390401, 4022224774, 264347078, 604807628, 770255983, 1249150122, 1555081692, 1996064986,
  2554220882, 2821834349, 2952996808, 3210313671, 3336571891, 3584528711, 113926993, 338241895,
  666307205, 773529912, 1294757372, 1396182291, 1695183700, 1986661051, 2177026350, 2456956037,
  2730485921, 2820302411, 3259730800, 3345764771, 3516065817, 3600352804, 4094571909, 275423344,
  430227734, 506948616, 659060556, 883997877, 958139571, 1322822218, 1537002063, 1747873779,
  1955562222, 2024104815, 2227730452, 2361852424, 2428436474, 2756734187, 3204031479, 3329325298]
def K (i : Nat) : Int := Kl.getD i 0
def Il : List Int := [1779033703, 3144134277, 1013904242, 2773480762, 1359893119, 2600822924, 528734635, 1541459225]
def I0 (i : Nat) : Int := Il.getD i 0
theorem getD_wd (l : List Int) (h : ∀ x ∈ l, Wd x) (i : Nat) : Wd (l.getD i 0) := by
  rw [List.getD_eq_getElem?_getD]
  by_cases hi : i < l.length
  · rw [List.getElem?_eq_getElem hi]; exact h _ (List.getElem_mem hi)
  · rw [List.getElem?_eq_none (by omega)]; unfold Wd; simp
theorem K_wd (i : Nat) : Wd (K i) := getD_wd Kl (by unfold Wd; decide +kernel) i
theorem I0_wd (i : Nat) : Wd (I0 i) := getD_wd Il (by unfold Wd; decide +kernel) i

theorem row_list (k : IntKind) (w : World) (l : List Int) (t : TypeId) : Row k (w.alloc (.cells (l.map (Value.int k)).toArray t)) w.heap.size 0 l.length (fun i => l.getD i 0) := by
  intro i hi
  rw [World.cell?_alloc_at _ _ _ _ rfl, Nat.zero_add]
  simp [hi]

def kobj : Obj := .cells (Kl.map (Value.int .u32)).toArray 99
set_option maxRecDepth 100000 in
theorem keys_any {W : World} (w : World) (q : Q W w) : Calls Tryd.prog 90 #[] w (OwnRow .u32 W K 64) := by
  have R : Hid (Row .u32 (w.alloc kobj) w.heap.size 0 64 K) := row_list .u32 w Kl _
  have F : Hid (∀ i, (w.alloc kobj).frozen? ⟨w.heap.size, i, none⟩ = false) := made_frozen w _ _
  have hs := q.size
  have hq : Hid (Q W (w.alloc kobj)) := q.alloc _
  have hz : (w.alloc kobj).heap.size = w.heap.size + 1 := by simp
  go_enter Tryd.func90, Tryd.ntmps90
  go_wp2
  go_ret
  exact ⟨w.heap.size, 64, rfl, by omega, by decide +kernel, R.out, F.out, hs, show w.heap.size < (w.alloc kobj).heap.size by omega, hq.out⟩

/-! ### Bytes, padded -/
def vals (k : IntKind) (l : List Int) : List Value := l.map (Value.int k)
theorem vals_append (k : IntKind) (l m : List Int) : vals k l ++ vals k m = vals k (l ++ m) := by unfold vals; rw [List.map_append]
/-- A row of one's own, told as numbers. -/
theorem own_row {k : IntKind} {w : World} {base : Nat} {t : TypeId} {v : Value} {n : Nat} {l : List Int} (h : w.ownsRow base t 1 v (n + 1) (vals k l)) :
    ∃ g cap, v = .slice (some ⟨g, 0, none⟩) (n + 1) cap ∧ n + 1 ≤ cap ∧ cap ≤ maxLen ∧ Row k w g 0 (n + 1) (fun j => l.getD j 0) ∧ (∀ i, w.frozen? ⟨g, i, none⟩ = false) ∧ base ≤ g ∧ g < w.heap.size := by
  obtain ⟨g, cap, rfl⟩ := ownsRow_succ h
  have hl := h.lt g rfl
  obtain ⟨c1, c2⟩ : n + 1 ≤ cap ∧ cap ≤ maxLen := by
    obtain ⟨_, h | ⟨g', cap', cur, h, _, _, h4, h5, _⟩⟩ := h
    · simp at h
    · simp only [Value.slice.injEq] at h
      obtain ⟨_, _, rfl⟩ := h
      exact ⟨h4, h5⟩
  have hlen : l.length = n + 1 := by have := h.1; unfold vals at this; simpa using this
  refine ⟨g, cap, rfl, c1, c2, fun j hj => ?_, fun i => h.frozenAt i, hl.1, hl.2⟩
  rw [Nat.zero_add, h.cellAt j (by omega)]
  unfold vals
  show _ = some (Value.int k (l.getD j 0))
  rw [List.getElem?_map, List.getD_eq_getElem?_getD, List.getElem?_eq_getElem (show j < l.length by omega)]
  rfl

def sb (s : ByteArray) : List Int := s.data.toList.map fun b => (b.toNat : Int)
theorem sb_len (s : ByteArray) : (sb s).length = s.size := by unfold sb; rw [List.length_map, Array.length_toList]; rfl
theorem sb_cells (s : ByteArray) : Lib.strCells s = vals .u8 (sb s) := by unfold Lib.strCells vals sb; rw [List.map_map]; rfl
def dv (n : Int) : Nat → Int
  | 0 => n
  | j + 1 => dv n j / 256
theorem dv_bd (n : Int) (h : 0 ≤ n) : ∀ j, 0 ≤ dv n j ∧ dv n j ≤ n
  | 0 => ⟨h, Int.le_refl _⟩
  | j + 1 => by have := dv_bd n h j; show 0 ≤ dv n j / 256 ∧ dv n j / 256 ≤ _; omega
def zn (n : Nat) : Nat := (119 - n % 64) % 64
def tl (n : Int) : Nat → List Int
  | 0 => []
  | m + 1 => tl n m ++ [dv n (7 - m) % 256]
theorem tl_len (n : Int) : ∀ m, (tl n m).length = m
  | 0 => rfl
  | m + 1 => by show (tl n m ++ _).length = _; rw [List.length_append, tl_len n m]; rfl
def pad0 (s : ByteArray) (z : Nat) : List Int := sb s ++ ([128] ++ List.replicate z 0)
theorem pad0_succ (s : ByteArray) (z : Nat) : pad0 s z ++ [0] = pad0 s (z + 1) := by
  unfold pad0
  rw [List.append_assoc, List.append_assoc, List.replicate_succ']
def padL (s : ByteArray) : List Int := pad0 s (zn s.size) ++ tl (8 * (s.size : Int)) 8
theorem padL_len (s : ByteArray) : (padL s).length = s.size + 1 + zn s.size + 8 := by
  unfold padL pad0
  rw [List.length_append, tl_len, List.length_append, sb_len, List.length_append, List.length_replicate]
  simp; omega

theorem infoB : (Tryd.prog.info? 5).map (fun i => (i.zero, i.size, i.bytes)) = some (some (.int .u8 0), 1, 1) := by kernel_rfl

def slen : Value → Nat
  | .slice _ n _ => n
  | _ => 0

set_option maxHeartbeats 4000000 in
set_option maxRecDepth 100000 in
theorem padded_any {W : World} (s : ByteArray) (w : World) (q : Q W w) (hs : s.size ≤ 1000000000) :
    Calls Tryd.prog 89 #[.string s] w (OwnRow .u8 W (fun j => (padL s).getD j 0) (padL s).length) := by
  obtain ⟨i0, hi0, hz0, hz1, hz2⟩ := info_parts infoB
  have o0 : (w.alloc (.cells #[] 5)).ownsRow W.heap.size 5 1 (.slice (some ⟨w.heap.size, 0, none⟩) 0 0) 0 [] := World.ownsRow_lit w #[] 0 q.size (by decide +kernel) rfl
  have q0 : Q W (w.alloc (.cells #[] 5)) := q.alloc _
  have hsz := q.size
  have HC := Lib.hid (sb_cells s)
  have hmx : s.size + 100 ≤ maxLen := by unfold maxLen; omega
  go_enter Tryd.func89, Tryd.ntmps89
  go_wp2_with (first
    | (at_builtin; (refine Lib.wpList_append_own_string _ rfl (.tmp 8) (.tmp 9) 52 9 rfl W.heap.size 5 i0 Tryd.underlying52 Tryd.underlying9 hi0 hz0 hz1 hz2 (.slice (some ⟨w.heap.size, 0, none⟩) 0 0) 0 [] rfl o0 s rfl (by omega) (by omega) (by simp; omega) ?_); intro v1 w1 hown1 hgrow1 _hn1; simp only [Nat.zero_add, List.nil_append] at hown1; rw [HC.out] at hown1; have hq1 : Q W w1 := Below.grown q0 hgrow1 q0.size (fun j hj => (o0.lt j hj).1); have hsz1 := hq1.size; clear hgrow1 _hn1 o0 q0)
    | (at_builtin; (refine wpList_append_own _ rfl (.tmp 11) (.tmp 12) 52 rfl W.heap.size 5 i0 (.int .u8 0) 1 1 Tryd.underlying52 hi0 hz0 hz1 hz2 rfl (by decide) _ _ _ rfl (hown1.alloc _) ⟨w1.heap.size, 0, none⟩ 1 1 [.int .u8 128] rfl rfl (cell_one_new _ _ _) (fun x hx => by simp at hx; subst hx; rfl) (by omega) (by omega) (by simp; omega) ?_); intro v2 w2 hown2 hgrow2 _hn))
  have hqa : Q W (w1.alloc (.cells #[.int .u8 128] 5)) := hq1.alloc _
  have hq2 : Q W w2 := Below.grown hqa hgrow2 hqa.size (fun j hj => (hown1.lt j hj).1)
  have hown3 : w2.ownsRow W.heap.size 5 1 v2 (s.size + 1) (vals .u8 (pad0 s 0)) := by
    rw [show [Value.int IntKind.u8 128] = vals .u8 [128] from rfl, vals_append] at hown2
    exact hown2
  obtain ⟨g2, cap2, rfl⟩ := ownsRow_succ hown3
  clear hgrow2 _hn hown2 hown1 hqa hq1 hsz1 q hsz HC
  go_loopw [3] (fun v wr => ∃ (z N g cap : Nat), z ≤ zn s.size ∧ Hid (N = s.size + z + 1) ∧ v = .slice (some ⟨g, 0, none⟩) N cap ∧ wr.ownsRow W.heap.size 5 1 v N (vals .u8 (pad0 s z)) ∧ Q W wr) (fun v _ => s.size + 1 + zn s.size - slen v)
  case atStart => exact ⟨0, s.size + 1, g2, cap2, by omega, rfl, rfl, hown3, hq2⟩
  case round =>
    obtain ⟨z, N, g, cap, hz, HN, rfl, hown, hq⟩ := hrel
    clear hown3 hq2
    have hsz := hq.size
    have hN1 : N ≤ s.size + 64 := by have := HN.out; unfold zn at hz; omega
    by_cases hlt : z < zn s.size
    · have td : ((N : Int) % 64 != 56) = true := by have := HN.out; unfold zn at hlt; simp; omega
      have HP := Lib.hid (pad0_succ s z)
      go_wp2_with (at_builtin; (refine wpList_append_own _ rfl (.tmp 18) (.tmp 19) 52 rfl W.heap.size 5 i0 (.int .u8 0) 1 1 Tryd.underlying52 hi0 hz0 hz1 hz2 rfl (by decide) _ _ _ rfl (hown.alloc _) ⟨wr.heap.size, 0, none⟩ 1 1 [.int .u8 0] rfl rfl (cell_one_new _ _ _) (fun x hx => by simp at hx; subst hx; rfl) (by omega) (by omega) (by simp; omega) ?_); intro v' w3 hown3 hgrow3 _hn)
      have hqa : Q W (wr.alloc (.cells #[.int .u8 0] 5)) := hq.alloc _
      have hq3 : Q W w3 := Below.grown hqa hgrow3 hqa.size (fun j hj => (hown.lt j hj).1)
      rw [show [Value.int IntKind.u8 0] = vals .u8 [0] from rfl, vals_append, HP.out] at hown3
      obtain ⟨g3, cap3, rfl⟩ := ownsRow_succ hown3
      clear hgrow3 _hn
      exact ⟨⟨z + 1, N + 1, g3, cap3, by omega, by have := HN.out; show _ = _; omega, rfl, hown3, hq3⟩, by have := HN.out; show s.size + 1 + zn s.size - (N + 1) < s.size + 1 + zn s.size - N; omega⟩
    · obtain rfl : z = zn s.size := by omega
      have td : ((N : Int) % 64 != 56) = false := by have := HN.out; unfold zn at this; simp; omega
      have HF : Hid (padL s = pad0 s (zn s.size) ++ tl (8 * (s.size : Int)) 8) := rfl
      have HLen : Hid ((padL s).length = N + 8) := by have := HN.out; have := padL_len s; show _ = _; omega
      obtain ⟨L, hLe⟩ : ∃ L, 8 * (s.size : Int) = L := ⟨_, rfl⟩
      have hL0 : 0 ≤ L := by omega
      have hL1 : L ≤ 8000000000 := by omega
      rw [hLe] at HF
      generalize pad0 s (zn s.size) = PZ at *
      have h0 : wr.ownsRow W.heap.size 5 1 (.slice (some ⟨g, 0, none⟩) N cap) N (vals .u8 (PZ ++ tl L 0)) := by rw [show PZ ++ tl L 0 = PZ by simp [tl]]; exact hown
      clear hown hlt hz HN
      go_wp2_with fail
      clear hLe
      go_loopw [3, 5] (fun v i wr => ∃ (m M g cap : Nat), m ≤ 8 ∧ i = .int .i64 (7 - (m : Int)) ∧ Hid (M = N + m) ∧ v = .slice (some ⟨g, 0, none⟩) M cap ∧ wr.ownsRow W.heap.size 5 1 v M (vals .u8 (PZ ++ tl L m)) ∧ Q W wr) (fun _ i _ => (intOf i + 1).toNat)
      case atStart => exact ⟨0, N, g, cap, by omega, rfl, rfl, rfl, h0, hq⟩
      case round =>
        obtain ⟨m, M, g', cap', hm, rfl, HM, rfl, hown, hq'⟩ := hrel
        clear h0
        have hsz' := hq'.size
        have hM1 : M ≤ s.size + 72 := by have := HM.out; omega
        by_cases hlt : m < 8
        · obtain ⟨i, hi, hi7⟩ : ∃ i : Nat, 7 - (m : Int) = (i : Int) ∧ i = 7 - m := ⟨7 - m, by omega, rfl⟩
          have HI := Lib.hid hi7
          have hi8 : i ≤ 7 := by omega
          rw [hi]
          clear hi hi7
          go_wp2_with fail
          go_loop [6, 7] (fun n k => ∃ t : Nat, t ≤ i ∧ k = .int .i64 t ∧ n = .int .i64 (dv L t)) (fun _ k => i - (intOf k).toNat)
          case atStart => exact ⟨0, by omega, rfl, rfl⟩
          case round =>
            obtain ⟨t, ht, rfl, rfl⟩ := hrel
            obtain ⟨y0, y1⟩ := dv_bd L hL0 t
            by_cases hlt' : t < i
            · have hti : (t : Int) < (i : Int) := by omega
              have HH : Hid (dv L t / 256 = dv L (t + 1)) := rfl
              generalize dv L t = y at *
              go_wp2_with fail
              go_round
              case rel => exact ⟨t + 1, by omega, by go_num, by rw [HH.out]⟩
              case measure => simp [intOf]; omega
            · obtain rfl : t = i := by omega
              have HT : Hid (tl L m ++ [dv L t % 256] = tl L (m + 1)) := by rw [HI.out]; rfl
              have d0 : 0 ≤ dv L t % 256 := by omega
              have d1 : dv L t % 256 ≤ 255 := by omega
              generalize dv L t = y at *
              go_wp2_with (at_builtin; (refine wpList_append_own _ rfl (.tmp 36) (.tmp 40) 52 rfl W.heap.size 5 i0 (.int .u8 0) 1 1 Tryd.underlying52 hi0 hz0 hz1 hz2 rfl (by decide) _ _ _ rfl (hown.alloc _) ⟨wr.heap.size, 0, none⟩ 1 1 [.int .u8 (y % 256)] rfl rfl (cell_one_new _ _ _) (fun x hx => by simp at hx; subst hx; rfl) (by omega) (by omega) (by simp; omega) ?_); intro v' w3 hown3 hgrow3 _hn)
              have hqa : Q W (wr.alloc (.cells #[.int .u8 (y % 256)] 5)) := hq'.alloc _
              have hq3 : Q W w3 := Below.grown hqa hgrow3 hqa.size (fun j hj => (hown.lt j hj).1)
              rw [show [Value.int IntKind.u8 (y % 256)] = vals .u8 [y % 256] from rfl, vals_append, List.append_assoc, HT.out] at hown3
              obtain ⟨g3, cap3, rfl⟩ := ownsRow_succ hown3
              clear hgrow3 _hn
              have HI' := HI.out
              exact ⟨⟨m + 1, M + 1, g3, cap3, by omega, congrArg (Value.int .i64) (by omega), by have := HM.out; show _ = _; omega, rfl, hown3, hq3⟩, by simp [intOf]⟩
        · obtain rfl : m = 8 := by omega
          have em : 7 - ((8 : Nat) : Int) = -1 := rfl
          rw [em]
          clear em
          have eM : Hid (M = N + 8) := HM
          rw [← HF.out] at hown
          have hown' : wr.ownsRow W.heap.size 5 1 (.slice (some ⟨g', 0, none⟩) M cap') (N + 7 + 1) (vals .u8 (padL s)) := by rw [show N + 7 + 1 = M by have := eM.out; omega]; exact hown
          obtain ⟨g4, cap4, e4, r1, r2, r3, r4, r5, r6⟩ := own_row hown'
          have E4 := Lib.hid e4
          have R := Lib.hid (And.intro r1 (And.intro r2 (And.intro r3 (And.intro r4 (And.intro r5 r6)))))
          clear e4 r1 r2 r3 r4 r5 r6 hown hown' HM
          go_wp2_with fail
          go_ret
          obtain ⟨r1, r2, r3, r4, r5, r6⟩ := R.out
          have hl := HLen.out
          refine ⟨g4, cap4, ?_, ?_, r2, ?_, r4, r5, r6, hq'⟩
          · rw [hl]; exact congrArg Ending.returned E4.out
          · rw [hl]; exact r1
          · rw [hl]; exact r3
end Go.Proofs.YtnghhagiokiaoaaDoor.Sh
