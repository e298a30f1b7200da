/-
  Layer 13: the document's disk in memory; its New, has, Free, Sure, Read.
-/
import Derived.Test.YtnojglfaijhiaaaDk7
import Derived.BigRegion
namespace Go.Proofs.Ytnojglfaijhiaaa.Dk
open Go.RowKit
open Mem
set_option linter.unusedVariables false
set_option linter.unusedSimpArgs false

def txt (x : ByteArray) : List Value := [.string x]
theorem txt_len (x : ByteArray) : (txt x).length = 1 := rfl
/-- The document's disk at g: what is sure in row ra, the rest in row rb. -/
structure RK0 (w : World) (B g ra rb n : Nat) (A E : Nat → ByteArray) (room : Nat) : Prop where
  d : w.ownsRow B 52 3 (.slice (some ⟨g, 0, none⟩) 1 1) 1 [.slice (some ⟨ra, 0, none⟩) n n, .slice (some ⟨rb, 0, none⟩) n n, .int .i64 room]
  a : w.ownsRow B 9 1 (.slice (some ⟨ra, 0, none⟩) n n) n (rc txt A n)
  e : w.ownsRow B 9 1 (.slice (some ⟨rb, 0, none⟩) n n) n (rc txt E n)
  ne : ra ≠ rb
  sum : tot (fun i => A i ++ E i) n ≤ room
  hr : room ≤ 16777216
  hn : n ≤ 8
  n1 : 0 < n
def RK (w : World) (B g ra rb n : Nat) (t : Nat → ByteArray) (s : Nat → Nat) (room : Nat) : Prop := ∃ A E, RK0 w B g ra rb n A E room ∧ ∀ i, i < n → A i ++ E i = t i ∧ (A i).size = s i
/-- What its calls may write. -/
def SR (ra rb k : Nat) : Prop := k = ra ∨ k = rb
section
variable {w w' : World} {B g ra rb n room : Nat} {A E : Nat → ByteArray} {t : Nat → ByteArray} {s : Nat → Nat}
theorem RK0.g_lt (h : RK0 w B g ra rb n A E room) : B ≤ g ∧ g < w.heap.size := World.ownsRow.lt h.d g rfl
theorem RK0.a_lt (h : RK0 w B g ra rb n A E room) : B ≤ ra ∧ ra < w.heap.size := World.ownsRow.lt h.a ra rfl
theorem RK0.e_lt (h : RK0 w B g ra rb n A E room) : B ≤ rb ∧ rb < w.heap.size := World.ownsRow.lt h.e rb rfl
theorem RK0.g0 (h : RK0 w B g ra rb n A E room) : w.cell? ⟨g, 0, none⟩ = some (.slice (some ⟨ra, 0, none⟩) n n) := World.ownsRow.cellAt h.d 0 (by decide)
theorem RK0.g1 (h : RK0 w B g ra rb n A E room) : w.cell? ⟨g, 1, none⟩ = some (.slice (some ⟨rb, 0, none⟩) n n) := World.ownsRow.cellAt h.d 1 (by decide)
theorem RK0.g2 (h : RK0 w B g ra rb n A E room) : w.cell? ⟨g, 2, none⟩ = some (.int .i64 room) := World.ownsRow.cellAt h.d 2 (by decide)
theorem txt_at {b : Nat} (h : w.ownsRow B 9 1 (.slice (some ⟨b, 0, none⟩) n n) n (rc txt A n)) {i : Nat} (hi : i < n) : w.cell? ⟨b, i, none⟩ = some (.string (A i)) := by
  rw [World.ownsRow.cellAt h _ (by omega)]
  have := rc_get (C := txt) (f := A) (k := 1) txt_len i 0 (.string (A i)) rfl n hi
  rwa [Nat.mul_one] at this
theorem RK0.a0 (h : RK0 w B g ra rb n A E room) {i : Nat} (hi : i < n) : w.cell? ⟨ra, i, none⟩ = some (.string (A i)) := txt_at h.a hi
theorem RK0.e0 (h : RK0 w B g ra rb n A E room) {i : Nat} (hi : i < n) : w.cell? ⟨rb, i, none⟩ = some (.string (E i)) := txt_at h.e hi
theorem RK0.keep (h : RK0 w B g ra rb n A E room) (hb : ∀ k, B ≤ k → k < w.heap.size → (Ty w k 52 ∨ Ty w k 9) → w'.heap[k]? = w.heap[k]?) : RK0 w' B g ra rb n A E room := by
  refine ⟨own_keep h.d fun k hk => ?_, own_keep h.a fun k hk => ?_, own_keep h.e fun k hk => ?_, h.ne, h.sum, h.hr, h.hn, h.n1⟩
  · exact hb k (World.ownsRow.lt h.d k hk).1 (World.ownsRow.lt h.d k hk).2 (.inl (own_ty h.d hk))
  · exact hb k (World.ownsRow.lt h.a k hk).1 (World.ownsRow.lt h.a k hk).2 (.inr (own_ty h.a hk))
  · exact hb k (World.ownsRow.lt h.e k hk).1 (World.ownsRow.lt h.e k hk).2 (.inr (own_ty h.e hk))
theorem RK0.q (h : RK0 w B g ra rb n A E room) (q : Q w w') : RK0 w' B g ra rb n A E room := h.keep fun k _ hT _ => q.block k hT
theorem RK.q (h : RK w B g ra rb n t s room) (q : Q w w') : RK w' B g ra rb n t s room := by obtain ⟨A, E, h, e⟩ := h; exact ⟨A, E, h.q q, e⟩
theorem RK0.sz (h : RK0 w B g ra rb n A E room) {i : Nat} (hi : i < n) : (A i).size + (E i).size ≤ 16777216 := by
  have h1 := tot_at (t := fun i => A i ++ E i) hi
  have h2 := h.sum
  have h3 := h.hr
  have h4 : (A i ++ E i).size = (A i).size + (E i).size := by simp
  omega
theorem RK0.tot_eq (h : RK0 w B g ra rb n A E room) (e : ∀ i, i < n → A i ++ E i = t i ∧ (A i).size = s i) : tot (fun i => A i ++ E i) n = tot t n := tot_congr n fun i hi => (e i hi).1
set_option maxHeartbeats 2000000 in
theorem rhas_x (h : RK w B g ra rb n t s room) (f : Int) : Calls Try.prog 30 #[.pointer (some ⟨g, 0, none⟩), .int .i64 f] w fun r w' => r = .returned (.bool (inn n f)) ∧ w = w' := by
  obtain ⟨A, E, h, _⟩ := h
  have c0 := h.g0
  have hn := h.hn
  clear h
  by_cases h0 : 0 ≤ f
  · have e : inn n f = decide (f < (n : Int)) := by unfold inn; rw [decide_eq_true h0]; rfl
    rw [e]
    clear e
    go_enter Try.func30, Try.ntmps30
    go_wp2_with fail
    refine bodyPost_ret (results_tmp rfl _ _ _) rfl ?_
    exact ⟨rfl, rfl⟩
  · have e : inn n f = false := by unfold inn; rw [decide_eq_false h0]; rfl
    have h1 : decide (0 ≤ f) = false := decide_eq_false h0
    rw [e]
    go_enter Try.func30, Try.ntmps30
    go_wp2_with fail
    refine bodyPost_ret (results_tmp rfl _ _ _) rfl ?_
    exact ⟨rfl, rfl⟩
set_option maxHeartbeats 2000000 in
theorem rsure_x (h : RK w B g ra rb n t s room) (f : Int) : Calls Try.prog 18 #[.pointer (some ⟨g, 0, none⟩), .int .i64 f] w fun r w' => r = .returned (.int .i64 (suV n s f)) ∧ Q w w' := by
  have hh := Lib.hid (rhas_x h f)
  obtain ⟨A, E, h, e⟩ := h
  have c0 := h.g0
  have Q0 := Lib.hid (Q.refl w)
  by_cases hi : inn n f = true
  · obtain ⟨i, rfl, hi'⟩ := inn_t hi
    have e1 : Hid (suV n s (i : Int) = (A i).size) := by show _ = _; unfold suV; rw [if_pos hi, (e i hi').2]; rfl
    have c1 := h.a0 hi'
    have i0 : (0 : Int) ≤ (i : Int) := by omega
    have i1 : (i : Int) < (n : Int) := by omega
    rw [hi] at hh
    clear h hi e
    go_enter Try.func18, Try.ntmps18
    go_wp2_with fail
    refine hh.out.mono ?_
    rintro r w1 ⟨rfl, rfl⟩
    go_wp2_with fail
    refine bodyPost_ret (results_tmp rfl _ _ _) rfl ?_
    exact ⟨by rw [e1.out]; rfl, Q0.out⟩
  · have hi2 : inn n f = false := by simpa using hi
    have e1 : Hid (suV n s f = 0) := by show _ = _; unfold suV; rw [hi2]; rfl
    rw [hi2] at hh
    clear h hi hi2 e
    go_enter Try.func18, Try.ntmps18
    go_wp2_with fail
    refine hh.out.mono ?_
    rintro r w1 ⟨rfl, rfl⟩
    go_wp2_with fail
    refine bodyPost_ret (results_tmp rfl _ _ _) rfl ?_
    exact ⟨by rw [e1.out]; rfl, Q0.out⟩
set_option maxHeartbeats 4000000 in
theorem rread_x (h : RK w B g ra rb n t s room) (f : Int) : Calls Try.prog 16 #[.pointer (some ⟨g, 0, none⟩), .int .i64 f] w fun r w' => r = .returned (.string (rdV n t f)) ∧ Q w w' := by
  have hh := Lib.hid (rhas_x h f)
  obtain ⟨A, E, h, e⟩ := h
  have c0 := h.g0
  have c1 := h.g1
  have Q0 := Lib.hid (Q.refl w)
  have Q1 := Lib.hid (Q.refl w).drew
  by_cases hi : inn n f = true
  · obtain ⟨i, rfl, hi'⟩ := inn_t hi
    have e1 : Hid (rdV n t (i : Int) = A i ++ E i) := by show _ = _; unfold rdV; rw [if_pos hi, (e i hi').1]; rfl
    have c2 := h.a0 hi'
    have c3 := h.e0 hi'
    have hz := h.sz hi'
    have i0 : (0 : Int) ≤ (i : Int) := by omega
    have i1 : (i : Int) < (n : Int) := by omega
    rw [hi] at hh
    clear h hi e
    generalize A i = x at *
    generalize E i = y at *
    have hz1 : x.size ≤ 16777216 := by omega
    have hz2 : y.size ≤ 16777216 := by omega
    go_enter Try.func16, Try.ntmps16
    go_wp2_with fail
    refine hh.out.mono ?_
    rintro r w1 ⟨rfl, rfl⟩
    go_wp2_with fail
    go_region
    go_wp2_with fail
    refine bodyPost_ret (results_tmp rfl _ _ _) rfl ?_
    exact ⟨by rw [e1.out]; rfl, Q1.out⟩
  · have hi2 : inn n f = false := by simpa using hi
    have e1 : Hid (rdV n t f = ⟨#[]⟩) := by show _ = _; unfold rdV; rw [hi2]; rfl
    rw [hi2] at hh
    clear h hi hi2 e
    go_enter Try.func16, Try.ntmps16
    go_wp2_with fail
    refine hh.out.mono ?_
    rintro r w1 ⟨rfl, rfl⟩
    go_wp2_with fail
    refine bodyPost_ret (results_tmp rfl _ _ _) rfl ?_
    exact ⟨by rw [e1.out]; rfl, Q0.out⟩
set_option maxHeartbeats 4000000 in
set_option maxRecDepth 100000 in
theorem rfree_x (h : RK w B g ra rb n t s room) : Calls Try.prog 14 #[.pointer (some ⟨g, 0, none⟩)] w fun r w' => r = .returned (.int .i64 (frV n room t)) ∧ Q w w' := by
  obtain ⟨A, E, h, e⟩ := h
  have E1 : Hid (frV n room t = (room : Int) - (tot t n : Int)) := rfl
  have hsum : tot t n ≤ room := by rw [← h.tot_eq e]; exact h.sum
  have hr := h.hr
  have hn := h.hn
  have c2 := h.g2
  have HD := Lib.hid h
  have HE := Lib.hid e
  have Q0 := Lib.hid (Q.refl w)
  clear h e
  go_enter Try.func14, Try.ntmps14
  go_wp2_with fail
  clear c2
  go_loopw [3, 4] (fun l i wr => ∃ k : Nat, k ≤ n ∧ i = .int .i64 k ∧ l = .int .i64 ((room : Int) - (tot t k : Int)) ∧ Hid (Q w wr)) (fun l i _ => n - (intOf i).toNat)
  case atStart => exact ⟨0, by omega, rfl, by simp [tot], Q0⟩
  case round =>
    obtain ⟨k, hk, rfl, rfl, I⟩ := hrel
    have D := HD.out.q I.out
    have c0 := D.g0
    have c1 := D.g1
    by_cases hlt : k < n
    · have k0 : (0 : Int) ≤ (k : Int) := by omega
      have k1 : (k : Int) < (n : Int) := by omega
      have td : decide (k < n) = true := by simpa using hlt
      have x0 := D.a0 hlt
      have y0 := D.e0 hlt
      have hz := D.sz hlt
      have et := (HE.out k hlt).1
      have h3 : tot t (k + 1) = tot t k + (t k).size := rfl
      have h4 := tot_le (t := t) (n := n) (m := k + 1) (by omega)
      have h5 : (t k).size = (A k).size + (E k).size := by rw [← et]; simp
      have ew : IntKind.i64.wrap ((room : Int) - (tot t k : Int) - ((A k).size : Int)) = (room : Int) - (tot t k : Int) - ((A k).size : Int) := by
        rw [IntKind.wrap_i64]; omega
      have ew2 : IntKind.i64.wrap ((room : Int) - (tot t k : Int) - ((A k).size : Int) - ((E k).size : Int)) = (room : Int) - (tot t (k + 1) : Int) := by
        rw [IntKind.wrap_i64]; omega
      clear h3 h4 h5 et D
      generalize A k = x at *
      generalize E k = y at *
      go_wp2_with fail
      go_region
      go_wp2_with fail
      exact ⟨⟨k + 1, hlt, rfl, rfl, I.out.drew⟩, by simp only [intOf]; omega⟩
    · obtain rfl : k = n := by omega
      clear HD HE D
      have td : decide (k < k) = false := by simp
      go_wp2_with fail
      refine bodyPost_ret (results_tmp rfl _ _ _) rfl ?_
      exact ⟨by rw [E1.out]; rfl, I.out⟩
end
end Go.Proofs.Ytnojglfaijhiaaa.Dk
