/-
  Layer 13: the program's unsure, Free, New.
-/
import Derived.Test.YtnojglfaijhiaaaDk2
import Derived.Deep.MidRow
import Derived.Great.BuildSlice
namespace Go.Proofs.Ytnojglfaijhiaaa.Dk
open Go.RowKit
open Mem
set_option linter.unusedVariables false
set_option linter.unusedSimpArgs false

/-- A load of a whole row's element. -/
theorem ld_row {P : Program} {ops : Array Oper} {rest : List Oper} {op : Oper} {a : Act} {w : World} {Q : Exit → Act → World → Prop} (hgd : op.guard = none) (ty : TypeId) (x : Operand) (ho : op.op = .load ty x)
    (b off : Nat) (cs : List Value) (hx : a.eval x = .pointer (some ⟨b, off, none⟩)) (hc : ∀ j v, cs[j]? = some v → w.cell? ⟨b, off + j, none⟩ = some v) {d : TypeDesc} (hu : P.underlying ty = some d) (hd : d.isRow = true) (hi : (P.info? ty).map (·.size) = some cs.length)
    (h : wpList P ops Q rest (a.put op.dst (.agg cs.toArray)) w) : wpList P ops Q (op :: rest) a w :=
  wpList_load_mid hgd ty x ho b off hx cs d hc hu hd hi h
section
variable {w : World} {B T g b n room : Nat} {F : Nat → FL} {t : Nat → ByteArray} {s : Nat → Nat}
set_option maxHeartbeats 2000000 in
theorem unsure_x (x : FL) (h : x.s ≤ x.t.size) (hz : x.t.size ≤ 16777216) (w : World) : Calls Try.prog 31 #[.agg #[.slice x.a x.t.size x.c, .int .i64 x.s]] w fun r w' => r = .returned (.int .i64 ((x.t.size - x.s : Nat) : Int)) ∧ Q w w' := by
  obtain ⟨a, c, t, s⟩ := x
  dsimp only at *
  have e : Hid ((((t.size - s : Nat)) : Int) = (t.size : Int) - s) := by show _ = _; omega
  have e2 : IntKind.i64.wrap ((t.size : Int) - (s : Int)) = (t.size : Int) - s := by rw [IntKind.wrap_i64]; omega
  have HQ : Hid (Q w (w.alloc (.cells #[.slice a t.size c, .int .i64 s] 55))) := (Q.refl w).alloc _
  go_enter Try.func31, Try.ntmps31
  go_wp2_with fail
  refine bodyPost_ret (results_tmp rfl _ _ _) rfl ?_
  exact ⟨by rw [e.out]; rfl, HQ.out⟩
set_option maxHeartbeats 4000000 in
set_option maxRecDepth 100000 in
theorem free_x (h : DK w B T g b n t s room) : Calls Try.prog 13 #[.pointer (some ⟨g, 0, none⟩)] w fun r w' => r = .returned (.int .i64 (frV n room t)) ∧ Q w w' := by
  have hsum := h.sum
  have hr := h.hr
  have hn := h.hn
  obtain ⟨F, h, e⟩ := h
  have c0 := h.g0
  have c1 := h.g1
  have HD := Lib.hid h
  have HE := Lib.hid e
  have E1 : Hid (frV n room t = (room : Int) - (tot t n : Int)) := rfl
  clear h e
  have Q0 := Lib.hid (Q.refl w)
  go_enter Try.func13, Try.ntmps13
  go_wp2_with fail
  go_loopw [3, 5, 15] (fun l p i wr => ∃ k : Nat, k ≤ n ∧ i = .int .i64 k ∧ l = .int .i64 ((room : Int) - (tot t k : Int)) ∧ Hid (Q w wr)) (fun l p i _ => n - (intOf i).toNat)
  case atStart => exact ⟨0, by omega, rfl, by simp [tot], Q0⟩
  case round =>
    obtain ⟨k, hk, rfl, rfl, I⟩ := hrel
    by_cases hlt : k < n
    · have D := HD.out.q I.out
      have k0 : (0 : Int) ≤ (k : Int) := by omega
      have k1 : (k : Int) < (n : Int) := by omega
      have et := (HE.out k hlt).1
      have hrow := Lib.hid (fun j v hv => D.row hlt j v hv)
      have h3 : Hid (tot t (k + 1) = tot t k + (t k).size) := rfl
      have h4 := tot_le (t := t) (n := n) (m := k + 1) (by omega)
      have h5 := h3.out
      have ew : IntKind.i64.wrap ((room : Int) - (tot t k : Int) - ((t k).size : Int)) = (room : Int) - (tot t (k + 1) : Int) := by
        rw [IntKind.wrap_i64]; omega
      clear h5
      generalize F k = X at *
      obtain ⟨xa, xc, xt, xs⟩ := X
      dsimp only at et
      subst et
      clear D
      go_wp2_with (with_reducible (show wpList _ _ _ (⟨_, Op.load 55 _, _, _, _, _⟩ :: _) _ _); refine halt ?_)
      refine Lib.hid (ld_row rfl 55 _ rfl b (k * 2) [.slice xa (t k).size xc, .int .i64 xs] rfl (fun j v hv => hrow.out j v hv) Try.underlying55 rfl (by kernel_rfl) ?_)
      go_wp2_with fail
      exact ⟨⟨k + 1, hlt, rfl, rfl, I.out.alloc _⟩, by simp only [intOf]; omega⟩
    · obtain rfl : k = n := by omega
      clear HD HE
      have td : decide (k < k) = false := by simp
      go_wp2_with fail
      refine bodyPost_ret (results_tmp rfl _ _ _) rfl ?_
      exact ⟨by rw [E1.out]; rfl, I.out⟩

/-! ### New -/
theorem info_parts {t : TypeId} {z : Value} {s b : Nat} (h : (Try.prog.info? t).map (fun i => (i.zero, i.size, i.bytes)) = some (some z, s, b)) : ∃ i, Try.prog.info? t = some i ∧ i.zero = some z ∧ i.size = s ∧ i.bytes = b := by
  cases hi : Try.prog.info? t with
  | none => rw [hi] at h; cases h
  | some i =>
    rw [hi] at h
    simp only [Option.map_some, Option.some.injEq, Prod.mk.injEq] at h
    exact ⟨i, rfl, h.1, h.2.1, h.2.2⟩
theorem infoF : (Try.prog.info? 55).map (fun i => (i.zero, i.size, i.bytes)) = some (some (.agg #[.slice none 0 0, .int .i64 0]), 2, 32) := by kernel_rfl
def fz0 : FL := ⟨none, 0, ⟨#[]⟩, 0⟩
def zf (n : Nat) : Obj := .cells (madeCells #[.slice none 0 0, .int .i64 0] (n * 2)) 55
theorem zf_list (n : Nat) (hn : n ≤ 8) : (madeCells #[.slice none 0 0, .int .i64 0] (n * 2)).toList = rc FL.cells (fun _ => fz0) n := by
  apply List.ext_getElem?
  intro j
  by_cases hj : j < n * 2
  · have e : j / 2 * 2 + j % 2 = j := by omega
    have hr : ∀ v, (fz0.cells)[j % 2]? = some v → (rc FL.cells (fun _ => fz0) n)[j]? = some v := fun v hv => by
      have := rc_get (C := FL.cells) (f := fun _ => fz0) (k := 2) fl_len (j / 2) (j % 2) v hv n (by omega)
      rwa [e] at this
    have hm : j % 2 = 0 ∨ j % 2 = 1 := by omega
    rcases hm with hm | hm
    · rw [hr (.slice none 0 0) (by rw [hm]; rfl)]
      simp [madeCells, hj, hm]
    · rw [hr (.int .i64 0) (by rw [hm]; rfl)]
      simp [madeCells, hj, hm]
  · rw [List.getElem?_eq_none (by rw [Array.length_toList, size_madeCells]; omega), List.getElem?_eq_none (by rw [rc_len fl_len]; omega)]
theorem makeF (w : World) (n : Nat) (h : n ≤ 8) : (Instr.makeSlice 47 (.int .i64 (n : Int)) (.int .i64 (n : Int))).run Try.prog w = .ok (.slice (some ⟨w.heap.size, 0, none⟩) n n) (w.alloc (zf n)) := by
  obtain ⟨i, hi, hz0, hz1, hz2⟩ := info_parts infoF
  have := run_make (P := Try.prog) w 47 55 i _ Try.underlying47 hi hz0 .i64 .i64 (n : Int) (n : Int) (by omega) (Int.le_refl _) (by rw [hz2]; omega) (by omega)
  rw [this, hz1, Int.toNat_natCast]
  rfl
theorem tot_empty : ∀ n, tot (fun _ => (⟨#[]⟩ : ByteArray)) n = 0
  | 0 => rfl
  | n + 1 => by rw [tot, tot_empty n]; rfl
/-- A disk that was just made. -/
theorem DK0.made (w : World) {n room : Nat} (h1 : 0 < n) (hn : n ≤ 8) (hr : room ≤ 16777216) :
    DK0 ((w.alloc (zf n)).alloc (.cells #[.slice (some ⟨w.heap.size, 0, none⟩) n n, .int .i64 room] 49)) w.heap.size (w.heap.size + 2) (w.heap.size + 1) w.heap.size n (fun _ => fz0) room := by
  have hz : (w.alloc (zf n)).heap.size = w.heap.size + 1 := by simp
  have h2 := World.ownsRow_lit (base := w.heap.size) (size := 2) (e := 55) w (madeCells #[.slice none 0 0, .int .i64 0] (n * 2)) n (Nat.le_refl _) (by unfold maxLen; omega) (size_madeCells _ _)
  rw [zf_list n hn] at h2
  have h3 := World.ownsRow_lit (base := w.heap.size) (size := 2) (e := 49) (w.alloc (zf n)) #[.slice (some ⟨w.heap.size, 0, none⟩) n n, .int .i64 room] 1 (by omega) (by unfold maxLen; omega) rfl
  rw [hz] at h3
  refine ⟨h3, World.ownsRow.alloc h2 _, fun i hi => World.ownsRow_nil _ _ _ _, fun i j _ _ _ k hk => (by cases hk), by omega, by omega, fun i hi k hk => (by cases hk), by simp, fun i hi => Nat.le_refl _, ?_, hr, hn, h1⟩
  rw [show (fun i => ((fun _ => fz0) i : FL).t) = (fun _ => (⟨#[]⟩ : ByteArray)) from rfl, tot_empty]
  omega
set_option maxHeartbeats 4000000 in
theorem new_ok {n room : Nat} (h1 : 0 < n) (hn : n ≤ 8) (hr : room ≤ 16777216) (w : World) : Calls Try.prog 7 #[.int .i64 n, .int .i64 room] w fun r w' =>
    ∃ g b, r = .returned (.tuple #[.pointer (some ⟨g, 0, none⟩), .int .i64 0]) ∧ DK w' w.heap.size w'.heap.size g b n (fun _ => ⟨#[]⟩) (fun _ => 0) room ∧ Q w w' := by
  have HM := makeF w n hn
  have HD := Lib.hid (DK0.made w h1 hn hr)
  have HQ : Hid (Q w ((w.alloc (zf n)).alloc (.cells #[.slice (some ⟨w.heap.size, 0, none⟩) n n, .int .i64 room] 49))) := ((Q.refl w).alloc _).alloc _
  have d1 : decide ((n : Int) < 1) = false := by simp; omega
  have d2 : decide ((8 : Int) < (n : Int)) = false := by simp; omega
  have d3 : decide ((room : Int) < 0) = false := by simp
  have d4 : decide ((16777216 : Int) < (room : Int)) = false := by simp; omega
  clear h1 hn hr
  go_enter Try.func7, Try.ntmps7
  go_wp2_with fail
  refine bodyPost_ret (results_tmp2 rfl _ _ _) rfl ?_
  refine ⟨w.heap.size + 1, w.heap.size, rfl, ⟨_, HD.out.top ?_ (Nat.le_refl _), fun i _ => ⟨rfl, rfl⟩⟩, HQ.out⟩
  simp
set_option maxHeartbeats 4000000 in
theorem new_bad {f r : Int} (h : ¬ (1 ≤ f ∧ f ≤ 8 ∧ 0 ≤ r ∧ r ≤ 16777216)) (w : World) : Calls Try.prog 7 #[.int .i64 f, .int .i64 r] w fun e w' =>
    e = .returned (.tuple #[.pointer none, .int .i64 1]) ∧ Q w w' := by
  have Q0 := Lib.hid (Q.refl w)
  by_cases h1 : f < 1
  · clear h
    go_enter Try.func7, Try.ntmps7
    go_wp2_with fail
    refine bodyPost_ret (results_tmp2 rfl _ _ _) rfl ?_
    exact ⟨rfl, Q0.out⟩
  by_cases h2 : 8 < f
  · clear h
    go_enter Try.func7, Try.ntmps7
    go_wp2_with fail
    refine bodyPost_ret (results_tmp2 rfl _ _ _) rfl ?_
    exact ⟨rfl, Q0.out⟩
  have d1 : decide (f < 1) = false := by simp; omega
  have d2 : decide (8 < f) = false := by simp; omega
  by_cases h3 : r < 0
  · clear h
    go_enter Try.func7, Try.ntmps7
    go_wp2_with fail
    refine bodyPost_ret (results_tmp2 rfl _ _ _) rfl ?_
    exact ⟨rfl, Q0.out⟩
  have d3 : decide (r < 0) = false := by simp; omega
  by_cases h4 : 16777216 < r
  · clear h
    go_enter Try.func7, Try.ntmps7
    go_wp2_with fail
    refine bodyPost_ret (results_tmp2 rfl _ _ _) rfl ?_
    exact ⟨rfl, Q0.out⟩
  exact absurd ⟨by omega, by omega, by omega, by omega⟩ h
end
end Go.Proofs.Ytnojglfaijhiaaa.Dk
