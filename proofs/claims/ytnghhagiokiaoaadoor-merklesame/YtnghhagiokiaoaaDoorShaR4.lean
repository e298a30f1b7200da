/-
  The document's answer for layer 2: the walks of its Sum and Short.
-/
import Derived.Test.YtnghhagiokiaoaaDoorShaR3
namespace Go.Proofs.YtnghhagiokiaoaaDoor.Sh
open Go.RowKit
open Mem
set_option linter.unusedVariables false

/-! ### The sum -/
def pb (s : ByteArray) (j : Nat) : Int := (padL s).getD j 0
def blk (s : ByteArray) : Nat → Nat → Int
  | 0 => I0
  | m + 1 => stepS K (blk s m) (fun j => pb s (64 * m + j))
theorem blk_wd (s : ByteArray) : ∀ m i, Wd (blk s m i)
  | 0 => I0_wd
  | m + 1 => stepS_wd _ _ _
def shaSt (s : ByteArray) : Nat → Int := blk s ((padL s).length / 64)
def ob (st : Nat → Int) : Nat → List Int
  | 0 => []
  | m + 1 => ob st m ++ [st m / 16777216, st m / 65536 % 256, st m / 256 % 256, st m % 256]
theorem ob_len (st : Nat → Int) : ∀ m, (ob st m).length = 4 * m
  | 0 => rfl
  | m + 1 => by show (ob st m ++ _).length = _; rw [List.length_append, ob_len st m]; simp; omega
/-- The sum of any bytes: 32 bytes. -/
def shaS (s : ByteArray) : ByteArray := strOfNums (ob (shaSt s) 8)
theorem shaS_size (s : ByteArray) : (shaS s).size = 32 := by unfold shaS; rw [strOfNums_size, ob_len]
theorem pad_mult (s : ByteArray) : (padL s).length = 64 * ((padL s).length / 64) := by
  rw [padL_len]; unfold zn; omega
theorem byts_dv (n : Int) (m : Nat) : ∀ x ∈ tl n m, 0 ≤ x ∧ x ≤ 255 := by
  induction m with
  | zero => intro x hx; simp [tl] at hx
  | succ m ih =>
    intro x hx
    simp only [tl, List.mem_append, List.mem_singleton] at hx
    rcases hx with h | rfl
    · exact ih x h
    · omega
theorem padL_byts (s : ByteArray) : ∀ x ∈ padL s, 0 ≤ x ∧ x ≤ 255 := by
  intro x hx
  unfold padL pad0 sb at hx
  simp only [List.mem_append, List.mem_map, List.mem_cons, List.not_mem_nil, or_false, List.mem_replicate] at hx
  rcases hx with (⟨b, _, rfl⟩ | rfl | ⟨_, rfl⟩) | h
  · have := b.toNat_lt; omega
  · omega
  · omega
  · exact byts_dv _ _ x h
theorem pb_byts (s : ByteArray) : Byts (pb s) := by
  intro j
  unfold pb
  rw [List.getD_eq_getElem?_getD]
  by_cases h : j < (padL s).length
  · rw [List.getElem?_eq_getElem h]; exact padL_byts s _ (List.getElem_mem h)
  · rw [List.getElem?_eq_none (by omega)]; simp

def iobj : Obj := .cells (Il.map (Value.int .u32)).toArray 99
theorem row_sub {k : IntKind} {w : World} {g n : Nat} {f : Nat → Int} (h : Row k w g 0 n f) (a l : Nat) (hl : a + l ≤ n) : Row k w g a l (fun j => f (a + j)) :=
  fun j hj => by have := h (a + j) (by omega); rwa [Nat.zero_add] at this

set_option maxHeartbeats 4000000 in
set_option maxRecDepth 100000 in
theorem rsum_any {W : World} (s : ByteArray) (w : World) (q : Q W w) (hs : s.size ≤ 1000000000) :
    Calls Tryd.prog 75 #[.string s] w fun e w' => e = .returned (.string (shaS s)) ∧ Q W w' := by
  obtain ⟨i0, hi0, hz0, hz1, hz2⟩ := info_parts infoB
  have ri : Hid (Row .u32 (w.alloc iobj) w.heap.size 0 8 I0) := row_list .u32 w Il _
  have q0 : Hid (Q W (w.alloc iobj)) := q.alloc _
  have hsi : (w.alloc iobj).heap.size = w.heap.size + 1 := by simp
  have HPL := Lib.hid (padL_len s)
  have HPM := Lib.hid (pad_mult s)
  have hzn : zn s.size ≤ 63 := by unfold zn; omega
  go_enter Tryd.func75, Tryd.ntmps75
  go_wp2_with fail
  refine (padded_any (W := w.alloc iobj) s (w.alloc iobj) (Q.refl _) hs).mono ?_
  rintro e w1 ⟨gb, cb, rfl, b1, b2, rb, _, b3, b4, qb⟩
  go_wp2_with fail
  refine (keys_any (W := w1) w1 (Q.refl _)).mono ?_
  rintro e w2 ⟨gk, ck, rfl, k1, k2, rk, _, k3, k4, qk⟩
  have RB : Hid (Row .u8 w2 gb 0 (padL s).length (pb s)) := rb.q qk b4
  have RK := Lib.hid rk
  have RI : Hid (Row .u32 w2 w.heap.size 0 8 (blk s 0)) := ri.out.q (qb.trans qk) (by omega)
  have hq2 : Q W w2 := (q0.out.trans qb).trans qk
  have HSt : Hid (shaSt s = blk s ((padL s).length / 64)) := rfl
  clear rb rk qb qk q0 ri q hsi
  have hpl := HPL.out
  have hpm := HPM.out
  obtain ⟨nb, hnb⟩ : ∃ nb, (padL s).length / 64 = nb := ⟨_, rfl⟩
  rw [hnb] at hpm HSt
  have HNB := Lib.hid hpm
  have hln : (padL s).length ≤ 1000000080 := by omega
  generalize (padL s).length = LEN at *
  have hLEN : LEN ≤ 64 * nb := by omega
  have hLEN' : 64 * nb ≤ LEN := by omega
  clear hpl hpm hnb HPL HPM
  unfold maxLen at b2
  go_wp2_with fail
  generalize w.heap.size = gi at *
  go_loopw [3, 6] (fun v i wr => ∃ (m g cap : Nat), m ≤ nb ∧ i = .int .i64 (64 * (m : Int)) ∧ v = .slice (some ⟨g, 0, none⟩) 8 cap ∧ Hid (Row .u32 wr g 0 8 (blk s m)) ∧ Hid (Row .u8 wr gb 0 LEN (pb s)) ∧ Hid (Row .u32 wr gk 0 64 K) ∧ Q W wr) (fun _ i _ => 64 * nb - (intOf i).toNat)
  case atStart => exact ⟨0, gi, 8, by omega, rfl, rfl, RI, RB, RK, hq2⟩
  case round =>
    obtain ⟨m, g, cap, hm, rfl, rfl, RV, RB', RK', hq⟩ := hrel
    clear RI RB RK hq2
    by_cases hlt : m < nb
    · have m0 : (0 : Int) ≤ (m : Int) := by omega
      have m1 : 64 * (m : Int) + 64 ≤ (LEN : Int) := by omega
      have lb := RB'.out.lt (by omega)
      have lk := RK'.out.lt (by omega)
      have HB1 : Hid (blk s (m + 1) = stepS K (blk s m) (fun j => pb s (64 * m + j))) := rfl
      have RS := Lib.hid (row_sub RB'.out (64 * m) 64 (by omega))
      have BS : Hid (Byts (fun j => pb s (64 * m + j))) := fun j => pb_byts s (64 * m + j)
      have td : decide (64 * (m : Int) < (LEN : Int)) = true := by simp; omega
      go_wp2_with fail
      refine (step_any (W := wr) g cap gb (64 * m) (cb - 64 * m) gk ck (blk s m) (fun j => pb s (64 * m + j)) K wr (Q.refl _) RV.out RS.out RK'.out BS.out (blk_wd s m) K_wd).mono ?_
      rintro e w3 ⟨g3, c3, rfl, x1, x2, r3, _, x3, x4, q3⟩
      have R3 : Hid (Row .u32 w3 g3 0 8 (blk s (m + 1))) := by rw [HB1.out]; exact r3
      have RB3 : Hid (Row .u8 w3 gb 0 LEN (pb s)) := RB'.out.q q3 lb
      have RK3 : Hid (Row .u32 w3 gk 0 64 K) := RK'.out.q q3 lk
      have hq3 := hq.trans q3
      clear r3 RS BS HB1
      go_wp2_with fail
      exact ⟨⟨m + 1, g3, c3, by omega, congrArg (Value.int .i64) (by omega), rfl, R3, RB3, RK3, hq3⟩, by simp [intOf]; omega⟩
    · obtain rfl : m = nb := by omega
      have td : decide (64 * (m : Int) < (LEN : Int)) = false := by simp; omega
      have RV' : Hid (Row .u32 wr g 0 8 (shaSt s)) := by rw [HSt.out]; exact RV.out
      have WV' : Hid (∀ i, Wd (shaSt s i)) := by rw [HSt.out]; exact blk_wd s m
      have HSS : Hid (shaS s = strOfNums (ob (shaSt s) 8)) := rfl
      clear RV HSt HNB RB' RK'
      generalize shaSt s = st at *
      obtain ⟨w5, rfl⟩ : ∃ w5, w5 = wr := ⟨_, rfl⟩
      have o0 : (w5.alloc (.cells #[] 5)).ownsRow w5.heap.size 5 1 (.slice (some ⟨w5.heap.size, 0, none⟩) 0 0) 0 (vals .u8 (ob st 0)) := World.ownsRow_lit w5 #[] 0 (Nat.le_refl _) (by decide +kernel) rfl
      have hg5 := RV'.out.lt (by omega)
      have q50 : Q w5 (w5.alloc (.cells #[] 5)) := (Q.refl w5).alloc _
      go_wp2_with fail
      go_loopw [7, 8] (fun v i wr => ∃ k : Nat, k ≤ 8 ∧ i = .int .i64 k ∧ wr.ownsRow w5.heap.size 5 1 v (4 * k) (vals .u8 (ob st k)) ∧ Q w5 wr) (fun _ i _ => 8 - (intOf i).toNat)
      case atStart => exact ⟨0, by omega, rfl, o0, q50⟩
      case round =>
        obtain ⟨i, hi, rfl, hown0, hq0⟩ := hrel
        clear o0 q50
        have hszr := hq0.size
        by_cases hlt' : i < 8
        · have i0' : (0 : Int) ≤ (i : Int) := by omega
          have i8 : (i : Int) < 8 := by omega
          have ti : decide ((i : Int) < 8) = true := by simp; omega
          have cx5 := RV'.out.at0 i hlt'
          have cxr : wr.cell? ⟨g, i, none⟩ = some (.int .u32 (st i)) := by rw [hq0.cell (p := ⟨g, i, none⟩) hg5]; exact cx5
          obtain ⟨s0', s1'⟩ := WV'.out i
          have HO : Hid (ob st (i + 1) = ob st i ++ [st i / 16777216, st i / 65536 % 256, st i / 256 % 256, st i % 256]) := rfl
          generalize st i = x at *
          go_wp2_with (first
              | (at_builtin; (refine wpList_append_own _ rfl (.tmp 32) (.tmp 39) 52 rfl w5.heap.size 5 i0 (.int .u8 0) 1 1 Tryd.underlying52 hi0 hz0 hz1 hz2 rfl (by decide) _ _ _ rfl (hown0.alloc _) ⟨wr.heap.size, 0, none⟩ 1 1 [.int .u8 (x / 16777216)] rfl rfl (cell_one_new _ _ _) (fun x hx => by simp at hx; subst hx; rfl) (by unfold maxLen; omega) (by omega) (by simp; omega) ?_); intro va wa howna hga _hn; rw [show [Value.int IntKind.u8 (x / 16777216)] = vals .u8 [(x / 16777216)] from rfl, vals_append] at howna; have hqa := hq0.alloc (.cells #[.int .u8 (x / 16777216)] 5); have hqA : Q w5 wa := Below.grown hqa hga hqa.size (fun j hj => (hown0.lt j hj).1); have hszwa := hqA.size; have cwa : wa.cell? ⟨g, i, none⟩ = some (.int .u32 x) := by rw [hqA.cell (p := ⟨g, i, none⟩) hg5]; exact cx5)
              | (at_builtin; (refine wpList_append_own _ rfl (.tmp 41) (.tmp 49) 52 rfl w5.heap.size 5 i0 (.int .u8 0) 1 1 Tryd.underlying52 hi0 hz0 hz1 hz2 rfl (by decide) _ _ _ rfl (howna.alloc _) ⟨wa.heap.size, 0, none⟩ 1 1 [.int .u8 (x / 65536 % 256)] rfl rfl (cell_one_new _ _ _) (fun x hx => by simp at hx; subst hx; rfl) (by unfold maxLen; omega) (by omega) (by simp; omega) ?_); intro vb wb hownb hgb _hn; rw [show [Value.int IntKind.u8 (x / 65536 % 256)] = vals .u8 [(x / 65536 % 256)] from rfl, vals_append] at hownb; have hqa := hqA.alloc (.cells #[.int .u8 (x / 65536 % 256)] 5); have hqB : Q w5 wb := Below.grown hqa hgb hqa.size (fun j hj => (howna.lt j hj).1); have hszwb := hqB.size; have cwb : wb.cell? ⟨g, i, none⟩ = some (.int .u32 x) := by rw [hqB.cell (p := ⟨g, i, none⟩) hg5]; exact cx5)
              | (at_builtin; (refine wpList_append_own _ rfl (.tmp 51) (.tmp 59) 52 rfl w5.heap.size 5 i0 (.int .u8 0) 1 1 Tryd.underlying52 hi0 hz0 hz1 hz2 rfl (by decide) _ _ _ rfl (hownb.alloc _) ⟨wb.heap.size, 0, none⟩ 1 1 [.int .u8 (x / 256 % 256)] rfl rfl (cell_one_new _ _ _) (fun x hx => by simp at hx; subst hx; rfl) (by unfold maxLen; omega) (by omega) (by simp; omega) ?_); intro vc wc hownc hgc _hn; rw [show [Value.int IntKind.u8 (x / 256 % 256)] = vals .u8 [(x / 256 % 256)] from rfl, vals_append] at hownc; have hqa := hqB.alloc (.cells #[.int .u8 (x / 256 % 256)] 5); have hqC : Q w5 wc := Below.grown hqa hgc hqa.size (fun j hj => (hownb.lt j hj).1); have hszwc := hqC.size; have cwc : wc.cell? ⟨g, i, none⟩ = some (.int .u32 x) := by rw [hqC.cell (p := ⟨g, i, none⟩) hg5]; exact cx5)
              | (at_builtin; (refine wpList_append_own _ rfl (.tmp 61) (.tmp 68) 52 rfl w5.heap.size 5 i0 (.int .u8 0) 1 1 Tryd.underlying52 hi0 hz0 hz1 hz2 rfl (by decide) _ _ _ rfl (hownc.alloc _) ⟨wc.heap.size, 0, none⟩ 1 1 [.int .u8 (x % 256)] rfl rfl (cell_one_new _ _ _) (fun x hx => by simp at hx; subst hx; rfl) (by unfold maxLen; omega) (by omega) (by simp; omega) ?_); intro vd wd hownd hgd _hn; rw [show [Value.int IntKind.u8 (x % 256)] = vals .u8 [(x % 256)] from rfl, vals_append] at hownd; have hqa := hqC.alloc (.cells #[.int .u8 (x % 256)] 5); have hqD : Q w5 wd := Below.grown hqa hgd hqa.size (fun j hj => (hownc.lt j hj).1); have hszwd := hqD.size; have cwd : wd.cell? ⟨g, i, none⟩ = some (.int .u32 x) := by rw [hqD.cell (p := ⟨g, i, none⟩) hg5]; exact cx5))
          simp only [List.append_assoc, List.cons_append, List.nil_append] at hownd
          rw [← HO.out] at hownd
          exact ⟨⟨i + 1, by omega, by go_num, by rw [show 4 * (i + 1) = 4 * i + 1 + 1 + 1 + 1 by omega]; exact hownd, hqD⟩, by simp [intOf]; omega⟩
        · obtain rfl : i = 8 := by omega
          obtain ⟨g2, cap2, e2, r1, r2, r3, r4, r5, r6⟩ := own_row (show wr.ownsRow w5.heap.size 5 1 _ (31 + 1) (vals .u8 (ob st 8)) from hown0)
          subst e2
          have hcv := run_convert_bytes_arg (P := Tryd.prog) wr 52 5 Tryd.underlying52 Tryd.underlying5 g2 0 32 cap2 (ob st 8) (ob_len st 8) (fun j hj => r3 j hj) 9 Tryd.underlying9
          clear r1 r2 r3 r4 r5 r6 hown0 WV' RV'
          go_wp2_with fail
          go_ret
          exact ⟨retS HSS.out.symm, hq.trans hq0⟩

/-- Its first half. -/
def shortS (s : ByteArray) : ByteArray := (shaS s).extract 0 16
theorem rshort_any {W : World} (s : ByteArray) (w : World) (q : Q W w) (hs : s.size ≤ 1000000000) :
    Calls Tryd.prog 56 #[.string s] w fun e w' => e = .returned (.string (shortS s)) ∧ Q W w' := by
  have hz := shaS_size s
  have HS : Hid (shortS s = (shaS s).extract 0 16) := rfl
  go_enter Tryd.func56, Tryd.ntmps56
  go_wp2_with (go_at_call 75; refine (rsum_any s _ q hs).mono ?_; rintro e w' ⟨rfl, hq⟩)
  go_ret
  exact ⟨retS HS.out.symm, hq⟩
end Go.Proofs.YtnghhagiokiaoaaDoor.Sh
