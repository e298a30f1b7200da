/-
  Layer 13: the program's New, has, Free, Sure, Read.
-/
import Derived.Test.YtnojglfaijhiaaaDk1
namespace Go.Proofs.Ytnojglfaijhiaaa.Dk
open Go.RowKit
open Mem
set_option linter.unusedVariables false

section
variable {w : World} {B T g b n room : Nat} {F : Nat → FL} {t : Nat → ByteArray} {s : Nat → Nat}
set_option maxHeartbeats 2000000 in
theorem has_x (h : DK w B T g b n t s room) (f : Int) : Calls Try.prog 24 #[.pointer (some ⟨g, 0, none⟩), .int .i64 f] w fun r w' => r = .returned (.bool (inn n f)) ∧ w = w' := by
  obtain ⟨F, h, _⟩ := h
  have c0 := h.g0
  have hn := h.hn
  clear h
  by_cases h0 : 0 ≤ f
  · have e : inn n f = decide (f < (n : Int)) := by unfold inn; rw [decide_eq_true h0]; rfl
    rw [e]
    clear e
    go_enter Try.func24, Try.ntmps24
    go_wp2_with fail
    refine bodyPost_ret (results_tmp rfl _ _ _) rfl ?_
    exact ⟨rfl, rfl⟩
  · have e : inn n f = false := by unfold inn; rw [decide_eq_false h0]; rfl
    have h1 : decide (0 ≤ f) = false := decide_eq_false h0
    rw [e]
    go_enter Try.func24, Try.ntmps24
    go_wp2_with fail
    refine bodyPost_ret (results_tmp rfl _ _ _) rfl ?_
    exact ⟨rfl, rfl⟩
set_option maxHeartbeats 2000000 in
theorem sure_x (h : DK w B T g b n t s room) (f : Int) : Calls Try.prog 17 #[.pointer (some ⟨g, 0, none⟩), .int .i64 f] w fun r w' => r = .returned (.int .i64 (suV n s f)) ∧ w = w' := by
  have hh := Lib.hid (has_x h f)
  obtain ⟨F, h, e⟩ := h
  have c0 := h.g0
  by_cases hi : inn n f = true
  · obtain ⟨i, rfl, hi'⟩ := inn_t hi
    have e1 : Hid (suV n s (i : Int) = s i) := by show _ = _; unfold suV; rw [if_pos hi]; rfl
    have c1 := h.b1 hi'
    rw [(e i hi').2] at c1
    have i0 : (0 : Int) ≤ (i : Int) := by omega
    have i1 : (i : Int) < (n : Int) := by omega
    rw [hi] at hh
    clear h hi e
    go_enter Try.func17, Try.ntmps17
    go_wp2_with fail
    refine hh.out.mono ?_
    rintro r w1 ⟨rfl, rfl⟩
    go_wp2_with fail
    refine bodyPost_ret (results_tmp rfl _ _ _) rfl ?_
    exact ⟨by rw [e1.out]; rfl, rfl⟩
  · have hi2 : inn n f = false := by simpa using hi
    have e1 : Hid (suV n s f = 0) := by show _ = _; unfold suV; rw [hi2]; rfl
    rw [hi2] at hh
    clear h hi hi2 e
    go_enter Try.func17, Try.ntmps17
    go_wp2_with fail
    refine hh.out.mono ?_
    rintro r w1 ⟨rfl, rfl⟩
    go_wp2_with fail
    refine bodyPost_ret (results_tmp rfl _ _ _) rfl ?_
    exact ⟨by rw [e1.out]; rfl, rfl⟩

/-! ### Bytes that lie in a row -/
theorem str_cells (t : ByteArray) : Lib.strCells t = (t.data.toList.map fun x => (x.toNat : Int)).map (Value.int .u8) := by
  unfold Lib.strCells
  rw [List.map_map]
  rfl
theorem foldl_push : ∀ (l : List UInt8) (s : ByteArray), (l.map fun x => (x.toNat : Int)).foldl (fun (r : ByteArray) n => r.push (UInt8.ofNat n.toNat)) s = ⟨(s.data.toList ++ l).toArray⟩
  | [], s => by simp
  | x :: r, s => by
    rw [List.map_cons, List.foldl_cons, foldl_push r]
    congr 1
    simp [ByteArray.push]
/-- Bytes that lie in a row of one's own, as a text. -/
theorem conv_x {a : Option Addr} {c : Nat} {x : ByteArray} (h : w.ownsRow B 5 1 (.slice a x.size c) x.size (Lib.strCells x)) : (convert 53 9 (.slice a x.size c)).run Try.prog w = .ok (.string x) w := by
  rw [run_convert_bytes_string w 53 9 5 a _ _ Try.underlying53 Try.underlying5 Try.underlying9]
  have hz := h.2
  rcases hz with ⟨e, e2⟩ | ⟨g, cap, cur, e, _⟩
  · simp only [Value.slice.injEq] at e
    obtain ⟨⟨rfl, _⟩, _, rfl⟩ := e
    have hx : x = ByteArray.empty := by
      apply ByteArray.ext
      have h1 : x.data.size = 0 := e2
      exact Array.eq_empty_of_size_eq_zero h1
    subst hx
    simp [Conv.bytesToString]
  · simp only [Value.slice.injEq] at e
    obtain ⟨rfl, _, rfl⟩ := e
    have hl := run_loadCells_list (P := Try.prog) w ⟨g, 0, none⟩ (Lib.strCells x) (fun j u hj => World.ownsRow.cells h (g := g) rfl j u hj)
    rw [Lib.strCells_length] at hl
    rw [str_cells] at hl
    rw [run_bytesToString w _ _ _ _ hl, foldl_push]
    congr 2
set_option maxHeartbeats 2000000 in
theorem read_x (h : DK w B T g b n t s room) (f : Int) : Calls Try.prog 15 #[.pointer (some ⟨g, 0, none⟩), .int .i64 f] w fun r w' => r = .returned (.string (rdV n t f)) ∧ w = w' := by
  have hh := Lib.hid (has_x h f)
  obtain ⟨F, h, e⟩ := h
  have c0 := h.g0
  by_cases hi : inn n f = true
  · obtain ⟨i, rfl, hi'⟩ := inn_t hi
    have e1 : Hid (rdV n t (i : Int) = t i) := by show _ = _; unfold rdV; rw [if_pos hi]; rfl
    have c1 := h.b0 hi'
    have HC := Lib.hid (conv_x (h.r i hi'))
    rw [(e i hi').1] at c1 HC
    have i0 : (0 : Int) ≤ (i : Int) := by omega
    have i1 : (i : Int) < (n : Int) := by omega
    rw [hi] at hh
    clear h hi e
    generalize (F i).a = a at *
    generalize (F i).c = c at *
    generalize t i = x at *
    have HC' := HC.out
    go_enter Try.func15, Try.ntmps15
    go_wp2_with fail
    refine hh.out.mono ?_
    rintro r w1 ⟨rfl, rfl⟩
    go_wp2_with fail
    refine bodyPost_ret (results_tmp rfl _ _ _) rfl ?_
    exact ⟨by rw [e1.out]; rfl, rfl⟩
  · have hi2 : inn n f = false := by simpa using hi
    have e1 : Hid (rdV n t f = ⟨#[]⟩) := by show _ = _; unfold rdV; rw [hi2]; rfl
    rw [hi2] at hh
    clear h hi hi2 e
    go_enter Try.func15, Try.ntmps15
    go_wp2_with fail
    refine hh.out.mono ?_
    rintro r w1 ⟨rfl, rfl⟩
    go_wp2_with fail
    refine bodyPost_ret (results_tmp rfl _ _ _) rfl ?_
    exact ⟨by rw [e1.out]; rfl, rfl⟩
end
end Go.Proofs.Ytnojglfaijhiaaa.Dk
