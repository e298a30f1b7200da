/-
  The document's answer for layer 1: the walk of its product, digit by digit.
-/
import Derived.Test.YtnihgcmlpgfaeaaRef4
namespace Go.Proofs.Ytnihgcmlpgfaeaa.Num
open Go.RowKit
set_option linter.unusedVariables false

theorem Row.q {w w' : World} {g off n : Nat} {f : Nat → Int} (h : Row w g off n f) (q : Q w w') (hg : g < w.heap.size) : Row w' g off n f :=
  fun i hi => by rw [q.cell (p := ⟨g, off + i, none⟩) hg]; exact h i hi

/-- Three rows: the digits of both factors, and nine zeros that nobody else holds. -/
def PS (W : World) (a b : Int) (x y z : Value) (wx : World) : Prop :=
  ∃ gx cx gy cy gz, x = .slice (some ⟨gx, 0, none⟩) 4 cx ∧ y = .slice (some ⟨gy, 0, none⟩) 4 cy ∧ z = .slice (some ⟨gz, 0, none⟩) 9 9 ∧ Row wx gx 0 4 (M.dg a) ∧ Row wx gy 0 4 (M.dg b) ∧ Row wx gz 0 9 (fun _ => 0) ∧
    (∀ i, wx.frozen? ⟨gz, i, none⟩ = false) ∧ gx ≠ gz ∧ gy ≠ gz ∧ W.heap.size ≤ gz ∧ gz < wx.heap.size ∧ Q W wx

def nine : Obj := .cells #[.int .u64 0, .int .u64 0, .int .u64 0, .int .u64 0, .int .u64 0, .int .u64 0, .int .u64 0, .int .u64 0, .int .u64 0] 22
theorem nine_row (w : World) : Row (w.alloc nine) w.heap.size 0 9 (fun _ => 0) := by
  intro i hi
  unfold nine
  rw [World.cell?_alloc_at _ _ _ _ rfl, Nat.zero_add]
  match i, hi with
  | 0, _ => rfl
  | 1, _ => rfl
  | 2, _ => rfl
  | 3, _ => rfl
  | 4, _ => rfl
  | 5, _ => rfl
  | 6, _ => rfl
  | 7, _ => rfl
  | 8, _ => rfl
  | n + 9, h => omega
theorem make9 (w : World) : (Instr.makeSlice 29 (.int .i64 9) (.int .i64 9)).run Try.prog w = .ok (.slice (some ⟨w.heap.size, 0, none⟩) 9 9) (w.alloc nine) := by kernel_rfl

theorem nine_frozen (w : World) (i : Nat) : (w.alloc nine).frozen? ⟨w.heap.size, i, none⟩ = false := by
  unfold nine
  rw [World.frozen?_alloc_at _ _ _ _ rfl]
theorem Q.frozen {a b : World} (h : Q a b) {p : Addr} (hp : p.block < a.heap.size) : b.frozen? p = a.frozen? p := Below.frozen h hp
theorem q_nine (w : World) : Q w (w.alloc nine) := Below.alloc (Below.refl _ _) (Nat.le_refl _) _
theorem size_nine (w : World) : (w.alloc nine).heap.size = w.heap.size + 1 := by simp

theorem row_set {w : World} {g n : Nat} {o : Nat → Int} (h : Row w g 0 n o) (x : Nat) (hx : x < n) (v : Int) : Row (w.setCell ⟨g, x, none⟩ (.int .u64 v)) g 0 n (M.upd o x v) := by
  intro i hi
  rw [Nat.zero_add]
  unfold M.upd
  by_cases e : i = x
  · subst e
    rw [if_pos rfl]
    have := h i hi
    rw [Nat.zero_add] at this
    exact World.cell?_setCell_same _ _ _ this
  · rw [if_neg e, World.cell?_setCell_other (h := by intro h; injection h; omega)]
    have := h i hi
    rwa [Nat.zero_add] at this
theorem row_other {w : World} {g n x gz : Nat} {o : Nat → Int} (h : Row w g 0 n o) (hg : g ≠ gz) (v : Value) : Row (w.setCell ⟨gz, x, none⟩ v) g 0 n o := by
  intro i hi
  rw [World.cell?_setCell_other (h := by intro h; injection h; omega)]
  exact h i hi

/-- What holds behind i rows and k digits. -/
structure PI (W : World) (a b : Int) (gx gy gz i k : Nat) (o : Nat → Int) (wr : World) : Prop where
  rx : Row wr gx 0 4 (M.dg a)
  ry : Row wr gy 0 4 (M.dg b)
  rz : Row wr gz 0 9 o
  fz : ∀ j, wr.frozen? ⟨gz, j, none⟩ = false
  bd : ∀ j, 0 ≤ o j ∧ o j ≤ 65535 * ((4 * i + k : Nat) : Int)
  val : M.Val o 9 = M.part a b i k
  lt : gz < wr.heap.size
  q : Q W wr

theorem PI_step {W : World} {a b : Int} {gx gy gz i k : Nat} {o : Nat → Int} {wr : World} (h : PI W a b gx gy gz i k o wr) (n1 : gx ≠ gz) (n2 : gy ≠ gz) (hz : W.heap.size ≤ gz) (hi : i < 4) (hk : k < 4) (nq : Nat) (p : Int) (hp : M.dg a i * M.dg b k = p) :
    PI W a b gx gy gz i (k + 1) (M.upd (M.upd o (i + k) (o (i + k) + p % 65536)) (i + k + 1) (o (i + k + 1) + p / 65536))
      (((wr.drewN nq).setCell ⟨gz, i + k, none⟩ (.int .u64 (o (i + k) + p % 65536))).setCell ⟨gz, i + k + 1, none⟩ (.int .u64 (o (i + k + 1) + p / 65536))) := by
  have d1 := M.dg_bd a i
  have d2 := M.dg_bd b k
  obtain ⟨p0, p1⟩ : 0 ≤ p ∧ p ≤ 4294836225 := by
    rw [← hp]
    refine ⟨Int.mul_nonneg d1.1 d2.1, ?_⟩
    have := Int.mul_le_mul d1.2 d2.2 d2.1 (by omega : (0 : Int) ≤ 65535)
    omega
  have rx : Row (wr.drewN nq) gx 0 4 (M.dg a) := fun i hi => h.rx i hi
  have ry : Row (wr.drewN nq) gy 0 4 (M.dg b) := fun i hi => h.ry i hi
  have rz : Row (wr.drewN nq) gz 0 9 o := fun i hi => h.rz i hi
  refine ⟨row_other (row_other rx n1 _) n1 _, row_other (row_other ry n2 _) n2 _, row_set (row_set rz _ (by omega) _) _ (by omega) _, fun j => ?_, fun j => ?_, ?_, ?_, ?_⟩
  · have := h.fz j
    simpa using this
  · have b0 := h.bd j
    have b1 := h.bd (i + k)
    have b2 := h.bd (i + k + 1)
    unfold M.upd
    split
    · omega
    · split <;> omega
  · rw [M.Val_step o (i + k) (by omega) p, h.val, M.part_step, hp]
  · have := h.lt
    simpa using this
  · exact Below.setCell (Below.setCell (h.q.drewN nq) hz _) hz _

/-- What holds behind i carries. -/
structure CI (W : World) (P : Int) (gz i : Nat) (o : Nat → Int) (wr : World) : Prop where
  rz : Row wr gz 0 9 o
  fz : ∀ j, wr.frozen? ⟨gz, j, none⟩ = false
  lo : ∀ j, 0 ≤ o j
  dn : ∀ j, j < i → o j < 65536
  up : ∀ j, i < j → o j ≤ 1048560
  at_ : o i ≤ 1048600
  val : M.Val o 9 = P
  lt : gz < wr.heap.size
  q : Q W wr

theorem CI_step {W : World} {P : Int} {gz i : Nat} {o : Nat → Int} {wr w2 : World} (h : CI W P gz i o wr) (hz : W.heap.size ≤ gz) (hi : i < 8) (hw : ∃ nq, w2 = wr.drewN nq) :
    CI W P gz (i + 1) (M.upd (M.upd o (i + 1) (o (i + 1) + o i / 65536)) i (o i % 65536))
      ((w2.setCell ⟨gz, i + 1, none⟩ (.int .u64 (o (i + 1) + o i / 65536))).setCell ⟨gz, i, none⟩ (.int .u64 (o i % 65536))) := by
  obtain ⟨nq, rfl⟩ := hw
  have rz : Row (wr.drewN nq) gz 0 9 o := fun i hi => h.rz i hi
  have a1 := h.at_
  have a2 := h.up (i + 1) (by omega)
  have l1 := h.lo i
  have l2 := h.lo (i + 1)
  refine ⟨row_set (row_set rz _ (by omega) _) _ (by omega) _, fun j => ?_, fun j => ?_, fun j hj => ?_, fun j hj => ?_, ?_, ?_, ?_, ?_⟩
  · have := h.fz j
    simpa using this
  · have := h.lo j
    unfold M.upd
    split
    · omega
    · split <;> omega
  · unfold M.upd
    split
    · omega
    · rw [if_neg (by omega)]
      exact h.dn j (by omega)
  · unfold M.upd
    rw [if_neg (by omega), if_neg (by omega)]
    exact h.up j (by omega)
  · unfold M.upd
    rw [if_neg (by omega), if_pos rfl]
    omega
  · rw [M.Val_carry o i (by omega), h.val]
  · have := h.lt
    simpa using this
  · exact Below.setCell (Below.setCell (h.q.drewN nq) hz _) hz _

/-- Behind all carries: eight digits, of the whole product. -/
theorem CI_end {W : World} {P : Int} {gz : Nat} {o : Nat → Int} {wr : World} (h : CI W P gz 8 o wr) (h1 : P < M.B 8) : (∀ j, j < 8 → 0 ≤ o j ∧ o j < 65536) ∧ M.Val o 8 = P := by
  have hd : ∀ j, j < 8 → 0 ≤ o j ∧ o j < 65536 := fun j hj => ⟨h.lo j, h.dn j hj⟩
  obtain ⟨v0, v1⟩ := M.Val_bd o 8 hd
  have e : M.Val o 9 = M.Val o 8 + o 8 * M.B 8 := rfl
  have hv := h.val
  have l8 := h.lo 8
  have hB := M.B_pos 8
  have z : o 8 = 0 := by
    by_cases hz : o 8 = 0
    · exact hz
    · have := Int.mul_le_mul_of_nonneg_right (show 1 ≤ o 8 by omega) (Int.le_of_lt hB)
      omega
  rw [z] at e
  exact ⟨hd, by omega⟩

theorem big_B8 (a b : Int) (ha : 0 ≤ a) (ha' : a ≤ 18446744073709551615) (hb : 0 ≤ b) (hb' : b ≤ 18446744073709551615) : a * b < M.B 8 := by
  have := Int.mul_le_mul ha' hb' hb (by omega : (0 : Int) ≤ 18446744073709551615)
  have e : M.B 8 = 340282366920938463463374607431768211456 := by decide +kernel
  omega

set_option maxHeartbeats 4000000 in
set_option maxRecDepth 100000 in
theorem product_ref {W : World} (a b : Int) (w : World) (q : Q W w) (ha : 0 ≤ a) (ha' : a ≤ 18446744073709551615) (hb : 0 ≤ b) (hb' : b ≤ 18446744073709551615) :
    Calls Try.prog 34 #[.int .u64 a, .int .u64 b] w fun e w' => ∃ o, (∀ j, j < 8 → 0 ≤ o j ∧ o j < 65536) ∧ M.Val o 8 = a * b ∧ OwnRow W o 8 e w' := by
  have hmk := make9
  go_enter Try.func34, Try.ntmps34
  go_upto_region 1 with fail
  go_cut [5, 6, 7] (fun x y z wx => PS W a b x y z wx)
  case first =>
    go_region_with (first
      | (go_at_call_of 38 (Value.int IntKind.u64 a); refine (digits_any a _ (Q.refl _) ha ha').mono ?_; rintro e w1 ⟨gx, cx, rfl, x1, x2, x3, x4, x5, x6⟩)
      | (go_at_call_of 38 (Value.int IntKind.u64 b); refine (digits_any b _ (Q.refl _) hb hb').mono ?_; rintro e w2 ⟨gy, cy, rfl, y1, y2, y3, y4, y5, y6⟩))
    · go_wp2_with fail
      go_meet
      have hn := size_nine w2
      have s1 := y6.size
      have hq2 : Q W w2 := (Q.trans (Below.drew q) x6).trans y6
      exact ⟨gx, cx, gy, cy, w2.heap.size, rfl, rfl, rfl, x3.q (y6.trans (q_nine w2)) x5, y3.q (q_nine w2) y5, nine_row w2, nine_frozen w2, by omega, by omega, hq2.size, by omega, hq2.trans (q_nine w2)⟩
    · go_wp2_with fail
      go_meet
      have hn := size_nine w1
      have hq1 : Q W w1 := Q.trans (Below.drew q) x6
      have s1 := y6.size
      exact ⟨gx, cx, gy, cy, w1.heap.size, rfl, rfl, rfl, x3.q ((q_nine w1).trans y6) x5, y3, (nine_row w1).q y6 (by omega), fun i => by rw [y6.frozen (p := ⟨w1.heap.size, i, none⟩) (by show w1.heap.size < _; omega)]; exact nine_frozen w1 i, by omega, by omega, hq1.size, by omega, (hq1.trans (q_nine w1)).trans y6⟩
    · go_wp2_with fail
      go_meet
      have hn : (w.alloc nine).drew.heap.size = w.heap.size + 1 := size_nine w
      have hqw : Q W (w.alloc nine).drew := Below.drew (q.trans (q_nine w))
      have hq2 := x6.trans y6
      have s1 := hq2.size
      exact ⟨gx, cx, gy, cy, w.heap.size, rfl, rfl, rfl, x3.q y6 x5, y3, Row.q (w := (w.alloc nine).drew) (nine_row w) hq2 (by omega), fun i => by rw [hq2.frozen (p := ⟨w.heap.size, i, none⟩) (by show w.heap.size < _; omega)]; exact nine_frozen w i, by omega, by have := x6.size; omega, q.size, by omega, hqw.trans hq2⟩
  case rest =>
    obtain ⟨gx, cx, gy, cy, gz, rfl, rfl, rfl, rx, ry, rz, fz, n1, n2, z1, z2, hq⟩ := hcut
    have I0 : Hid (PI W a b gx gy gz 0 0 (fun _ => 0) wc) := ⟨rx, ry, rz, fz, fun j => by simp, by rw [M.part_zero]; rfl, z2, hq⟩
    clear rx ry rz fz z2 hq q hmk
    go_wp2_with fail
    go_loopw [8] (fun i wr => ∃ (k : Nat) (o : Nat → Int), k ≤ 4 ∧ i = .int .i64 k ∧ Hid (PI W a b gx gy gz k 0 o wr)) (fun i _ => 4 - (intOf i).toNat)
    case atStart => exact ⟨0, _, by omega, rfl, I0⟩
    case round =>
      obtain ⟨i, o, hi, rfl, I⟩ := hrel
      clear I0
      by_cases hlt : i < 4
      · have tl : decide ((i : Int) < 4) = true := by simp; omega
        have hi0 : (0 : Int) ≤ (i : Int) := by omega
        have hi4 : (i : Int) < 4 := by omega
        go_wp2_with fail
        go_loopw [9] (fun k wr => ∃ (m : Nat) (o : Nat → Int), m ≤ 4 ∧ k = .int .i64 m ∧ Hid (PI W a b gx gy gz i m o wr)) (fun k _ => 4 - (intOf k).toNat)
        case atStart => exact ⟨0, o, by omega, rfl, I⟩
        case round =>
          obtain ⟨m, o', hm, rfl, I'⟩ := hrel
          rename_i wr'
          clear I
          by_cases hlt' : m < 4
          · have hm0 : (0 : Int) ≤ (m : Int) := by omega
            have hm4 : (m : Int) < 4 := by omega
            have tm : decide ((m : Int) < 4) = true := by simp; omega
            have kx : wr.cell? ⟨gx, i, none⟩ = some (.int .u64 (M.dg a i)) := by have := I'.out.rx i hlt; rwa [Nat.zero_add] at this
            have ky : wr.cell? ⟨gy, m, none⟩ = some (.int .u64 (M.dg b m)) := by have := I'.out.ry m hlt'; rwa [Nat.zero_add] at this
            have kz : wr.cell? ⟨gz, i + m, none⟩ = some (.int .u64 (o' (i + m))) := by have := I'.out.rz (i + m) (by omega); rwa [Nat.zero_add] at this
            have kz1 : wr.cell? ⟨gz, i + m + 1, none⟩ = some (.int .u64 (o' (i + m + 1))) := by have := I'.out.rz (i + m + 1) (by omega); rwa [Nat.zero_add] at this
            have f0 := I'.out.fz (i + m)
            have f1 := I'.out.fz (i + m + 1)
            obtain ⟨g0, g1⟩ : 0 ≤ o' (i + m) ∧ o' (i + m) ≤ 1048560 := by have := I'.out.bd (i + m); omega
            obtain ⟨g2, g3⟩ : 0 ≤ o' (i + m + 1) ∧ o' (i + m + 1) ≤ 1048560 := by have := I'.out.bd (i + m + 1); omega
            obtain ⟨p, hp⟩ : ∃ p, M.dg a i * M.dg b m = p := ⟨_, rfl⟩
            obtain ⟨p0, p1⟩ : 0 ≤ p ∧ p ≤ 4294836225 := by
              have d1 := M.dg_bd a i
              have d2 := M.dg_bd b m
              rw [← hp]
              refine ⟨Int.mul_nonneg d1.1 d2.1, ?_⟩
              have := Int.mul_le_mul d1.2 d2.2 d2.1 (by omega : (0 : Int) ≤ 65535)
              omega
            have wp : IntKind.u64.wrap p = p := by rw [IntKind.wrap_u64]; omega
            have J := Lib.hid fun nq => PI_step I'.out n1 n2 z1 hlt hlt' nq p hp
            generalize o' (i + m) = u at *
            generalize o' (i + m + 1) = v at *
            clear I'
            go_wp2_with fail
            go_quiet (fail)
            go_wp2_with fail
            exact ⟨⟨m + 1, _, by omega, by go_num, J.out _⟩, by simp [intOf]; omega⟩
          · obtain rfl : m = 4 := by omega
            have J : Hid (PI W a b gx gy gz (i + 1) 0 o' wr) := ⟨I'.out.rx, I'.out.ry, I'.out.rz, I'.out.fz, fun j => by have := I'.out.bd j; omega, by rw [I'.out.val, M.part_row], I'.out.lt, I'.out.q⟩
            clear I'
            go_wp2_with fail
            exact ⟨⟨i + 1, o', by omega, by go_num, J⟩, by simp [intOf]; omega⟩
      · obtain rfl : i = 4 := by omega
        have C0 : Hid (CI W (a * b) gz 0 o wr) := ⟨I.out.rz, I.out.fz, fun j => (I.out.bd j).1, fun j hj => by omega, fun j hj => by have := I.out.bd j; omega, by have := I.out.bd 0; omega, by rw [I.out.val, M.part_all a b ha ha' hb hb'], I.out.lt, I.out.q⟩
        clear I
        go_wp2_with fail
        go_loopw [11] (fun i wr => ∃ (k : Nat) (o : Nat → Int), k ≤ 8 ∧ i = .int .i64 k ∧ Hid (CI W (a * b) gz k o wr)) (fun i _ => 8 - (intOf i).toNat)
        case atStart => exact ⟨0, o, by omega, rfl, C0⟩
        case round =>
          obtain ⟨k, o', hk, rfl, I'⟩ := hrel
          clear C0
          by_cases hlt' : k < 8
          · have hk0 : (0 : Int) ≤ (k : Int) := by omega
            have hk8 : (k : Int) < 8 := by omega
            have tk : decide ((k : Int) < 8) = true := by simp; omega
            have kz : wr.cell? ⟨gz, k, none⟩ = some (.int .u64 (o' k)) := by have := I'.out.rz k (by omega); rwa [Nat.zero_add] at this
            have kz1 : wr.cell? ⟨gz, k + 1, none⟩ = some (.int .u64 (o' (k + 1))) := by have := I'.out.rz (k + 1) (by omega); rwa [Nat.zero_add] at this
            have f0 := I'.out.fz k
            have f1 := I'.out.fz (k + 1)
            have g0 := I'.out.lo k
            have g1 := I'.out.at_
            have g2 := I'.out.lo (k + 1)
            have g3 := I'.out.up (k + 1) (by omega)
            have J := Lib.hid fun w2 h => CI_step (w2 := w2) I'.out z1 hlt' h
            clear I'
            generalize o' k = u at *
            generalize o' (k + 1) = v at *
            go_wp2_with fail
            go_region
            go_wp2_with fail
            exact ⟨⟨k + 1, _, by omega, by go_num, J.out _ ⟨1, rfl⟩⟩, by simp [intOf]; omega⟩
          · obtain rfl : k = 8 := by omega
            obtain ⟨e1, e2⟩ := CI_end I'.out (big_B8 a b ha ha' hb hb')
            have E1 := Lib.hid e1
            have E2 := Lib.hid e2
            clear e1 e2
            have R : Hid (Row wr gz 0 8 o') := fun i hi => I'.out.rz i (by omega)
            have hlt9 := I'.out.lt
            have hq := I'.out.q
            clear I'
            go_wp2_with fail
            go_ret
            exact ⟨o', E1.out, E2.out, gz, 9, rfl, by omega, by decide +kernel, R.out, z1, hlt9, hq⟩
end Go.Proofs.Ytnihgcmlpgfaeaa.Num
