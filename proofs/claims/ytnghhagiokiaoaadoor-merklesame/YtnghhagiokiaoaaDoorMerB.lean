/-
  Layer 7: the program's above, rows (a closure that calls itself), over.
-/
import Derived.Test.YtnghhagiokiaoaaDoorMerA
namespace Go.Proofs.YtnghhagiokiaoaaDoor.Mer
open Go.RowKit
open Mem Sh Wot
set_option linter.unusedVariables false

/-! ### A row that is made, and filled from its first text on -/
def zs (m : Nat) : Obj := .cells (madeCells #[.string ⟨#[]⟩] m) 9
theorem makeT (w : World) (m : Nat) (h : m ≤ 100000) : (Instr.makeSlice 22 (.int .i64 (m : Int)) (.int .i64 (m : Int))).run Tryd.prog w = .ok (.slice (some ⟨w.heap.size, 0, none⟩) m m) (w.alloc (zs m)) := by
  obtain ⟨i, hi, hz0, hz1, hz2⟩ := info_parts infoT
  have := run_make (P := Tryd.prog) w 22 9 i _ Tryd.underlying22 hi hz0 .i64 .i64 (m : Int) (m : Int) (by omega) (Int.le_refl _) (by rw [hz2]; omega) (by omega)
  rw [this, hz1, Int.toNat_natCast, Nat.mul_one]
  rfl
def st (f : Nat → ByteArray) (k i : Nat) : ByteArray := if i < k then f i else ⟨#[]⟩
theorem tsL_ext (f : Nat → ByteArray) (n : Nat) (l : List Value) (hl : l.length = n) (h : ∀ j, j < n → l[j]? = some (.string (f j))) : l = tsL f n := by
  apply List.ext_getElem?
  intro j
  by_cases hj : j < n
  · rw [h j hj, tsL_get f n j hj]
  · rw [List.getElem?_eq_none (by omega), List.getElem?_eq_none (by rw [tsL_len]; omega)]
theorem zs_list (m : Nat) (f : Nat → ByteArray) : (madeCells #[.string ⟨#[]⟩] m).toList = tsL (st f 0) m := by
  apply tsL_ext
  · rw [toList_madeCells_one]; simp
  · intro j hj
    rw [toList_madeCells_one]
    simp [hj, st]
theorem OT.made (w : World) (B m : Nat) (f : Nat → ByteArray) (hB : B ≤ w.heap.size) (hm : m ≤ 100000) : OT (w.alloc (zs m)) B w.heap.size m m (st f 0) := by
  unfold OT zs
  rw [← zs_list m f]
  refine World.ownsRow_lit w _ m hB (by unfold maxLen; omega) ?_
  have : (madeCells #[.string ⟨#[]⟩] m).toList.length = m := by rw [zs_list m (fun _ => ⟨#[]⟩), tsL_len]
  rw [Array.length_toList] at this
  omega
theorem OT.fill {w : World} {B g n cap k : Nat} {f : Nat → ByteArray} (h : OT w B g n cap (st f k)) (hk : k < n) : OT (w.setCell ⟨g, k, none⟩ (.string (f k))) B g n cap (st f (k + 1)) ∧ Ch g w (w.setCell ⟨g, k, none⟩ (.string (f k))) := by
  obtain ⟨h1, h2⟩ := World.ownsRow.stored h k (.string (f k))
  refine ⟨?_, h2⟩
  unfold OT
  have e : (tsL (st f k) n).set k (.string (f k)) = tsL (st f (k + 1)) n := by
    apply tsL_ext
    · rw [List.length_set, tsL_len]
    · intro j hj
      by_cases e : j = k
      · subst e
        rw [List.getElem?_set_self (by rw [tsL_len]; exact hj)]
        unfold st; rw [if_pos (by omega)]
      · rw [List.getElem?_set_ne (fun h => e h.symm), tsL_get _ n j hj]
        unfold st
        by_cases e2 : j < k
        · rw [if_pos e2, if_pos (by omega)]
        · rw [if_neg e2, if_neg (by omega)]
  rw [← e]; exact h1
theorem OT.full {w : World} {B g n cap : Nat} {f : Nat → ByteArray} (h : OT w B g n cap (st f n)) : OT w B g n cap f := h.congr fun j hj => by unfold st; rw [if_pos hj]
theorem OT.cell {w : World} {B g n cap : Nat} {f : Nat → ByteArray} (h : OT w B g n cap f) (k : Nat) (hk : k < n) : w.cell? ⟨g, k, none⟩ = some (.string (f k)) := by have := h.row k hk; rwa [Nat.zero_add] at this

set_option maxHeartbeats 2000000 in
set_option maxRecDepth 100000 in
theorem above_x {W : World} (g n m cap : Nat) (f : Nat → ByteArray) (w : World) (q : Q W w) (hG : GL W) (t : TR w g 0 n f) (hn : n = 2 * m) (hm : m ≤ 100) (hz : ∀ i, i < n → (f i).size ≤ 1000000) :
    Calls Tryd.prog 74 #[.slice (some ⟨g, 0, none⟩) n cap] w fun e w' => ∃ g' cap', e = .returned (.slice (some ⟨g', 0, none⟩) m cap') ∧ OT w' w.heap.size g' m cap' (abv f) ∧ Q W w' := by
  have HQ := Lib.hid q
  have HG := Lib.hid (hG.q q)
  have HT := Lib.hid t
  have HZ := Lib.hid hz
  have HN := Lib.hid hn
  have ed : (n : Int) / 2 = (m : Int) := by omega
  have HM := makeT w m (by omega)
  have O0 := Lib.hid (OT.made w w.heap.size m (abv f) (Nat.le_refl _) (by omega))
  have Q0 := Lib.hid ((Q.refl w).alloc (zs m))
  have LG := Lib.hid t.lt
  clear q t hz hn hG
  go_enter Tryd.func74, Tryd.ntmps74
  go_wp2_with fail
  go_loopw [4, 11] (fun z i wr => ∃ k : Nat, k ≤ m ∧ i = .int .i64 k ∧ Hid (OT wr w.heap.size w.heap.size m m (st (abv f) k)) ∧ Hid (Q w wr)) (fun _ i _ => m - (intOf i).toNat)
  case atStart => exact ⟨0, by omega, rfl, O0, Q0⟩
  case round =>
    obtain ⟨k, hk, rfl, O, I⟩ := hrel
    clear O0 Q0 HM
    have k0 : (0 : Int) ≤ (k : Int) := by omega
    by_cases hlt : k < m
    · have hn := HN.out
      have HA := Lib.hid ((HT.out.q I.out).r (2 * k) (by omega))
      have HB := Lib.hid ((HT.out.q I.out).r (2 * k + 1) (by omega))
      have LG' := Lib.hid (HT.out.q I.out).lt
      have za := HZ.out (2 * k) (by omega)
      have zb := HZ.out (2 * k + 1) (by omega)
      have HV : Hid (nd (f (2 * k)) (f (2 * k + 1)) = abv f k) := rfl
      rw [Nat.zero_add] at HA HB
      generalize f (2 * k) = a at *
      generalize f (2 * k + 1) = b at *
      obtain ⟨j', ej'⟩ : ∃ z, 2 * k + 1 = z := ⟨_, rfl⟩
      obtain ⟨j, ej⟩ : ∃ z, 2 * k = z := ⟨_, rfl⟩
      rw [ej'] at HB
      rw [ej] at HA
      have j0 : (0 : Int) ≤ (j : Int) := by omega
      have j1 : (j : Int) < (n : Int) := by omega
      have j0' : (0 : Int) ≤ (j' : Int) := by omega
      have j1' : (j' : Int) < (n : Int) := by omega
      have k1 : (k : Int) < (m : Int) := by omega
      have ew : IntKind.i64.wrap (2 * (k : Int)) = (j : Int) := by rw [IntKind.wrap_i64]; omega
      have ew' : IntKind.i64.wrap ((j : Int) + 1) = (j' : Int) := by rw [IntKind.wrap_i64]; omega
      clear ej ej' hn
      go_wp2_with fail
      have HH : Hid (∀ w', Q wr w' → w'.cell? ⟨g, j, none⟩ = some (.string a) ∧ w'.cell? ⟨g, j', none⟩ = some (.string b)) := fun w' q => ⟨(q.cell (p := ⟨g, j, none⟩) LG'.out).trans HA.out, (q.cell (p := ⟨g, j', none⟩) LG'.out).trans HB.out⟩
      have HS0 := HH.out _ (Q.refl wr).drew
      have J0 : Hid (Q wr wr.drew) := (Q.refl wr).drew
      refine wp_region_held_drew (S := fun w' => w'.cell? ⟨g, j, none⟩ = some (.string a) ∧ w'.cell? ⟨g, j', none⟩ = some (.string b)) (by kernel_rfl) HS0 (fun hHeld => ?_)
      refine wpAnyH_take (i := 0) (v := ?_) (by simp only [List.getElem?_toArray, List.getElem?_cons_zero]; rfl) (by kernel_rfl) (by kernel_rfl) (by kernel_rfl) (by exact fun _ _ _ h => h) (Or.inl ⟨by rfl, ?_⟩) (by assumption) ?_
      rotate_left
      · (intro wx hSw; obtain ⟨hS1, hS2⟩ := hSw; go_simp; (try rw [if_neg (by omega)]); try (with_reducible rfl))
      try simp only [Act.put, List.setIfInBounds_toArray, List.set_cons_zero, List.set_cons_succ]
      refine wpAnyH_take (i := 1) (v := ?_) (by simp only [List.getElem?_toArray, List.getElem?_cons_zero, List.getElem?_cons_succ]; rfl) (by kernel_rfl) (by kernel_rfl) (by kernel_rfl) (by exact fun _ _ _ h => h) (Or.inl ⟨by rfl, ?_⟩) (by assumption) ?_
      rotate_left
      · (intro wx hSw; obtain ⟨hS1, hS2⟩ := hSw; go_simp; (try rw [if_neg (by omega)]); try (with_reducible rfl))
      try simp only [Act.put, List.setIfInBounds_toArray, List.set_cons_zero, List.set_cons_succ]
      refine wpAnyH_take (i := 2) (v := ?_) (by simp only [List.getElem?_toArray, List.getElem?_cons_zero, List.getElem?_cons_succ]; rfl) (by kernel_rfl) (by kernel_rfl) (by kernel_rfl) (by exact fun _ _ _ h => h) (Or.inl ⟨by rfl, ?_⟩) (by assumption) ?_
      rotate_left
      · (intro wx hSw; obtain ⟨hS1, hS2⟩ := hSw; go_simp; (try rw [if_neg (by omega)]); try (with_reducible rfl))
      try simp only [Act.put, List.setIfInBounds_toArray, List.set_cons_zero, List.set_cons_succ]
      refine wpAnyH_take (i := 3) (v := ?_) (by simp only [List.getElem?_toArray, List.getElem?_cons_zero, List.getElem?_cons_succ]; rfl) (by kernel_rfl) (by kernel_rfl) (by kernel_rfl) (by exact fun _ _ _ h => h) (Or.inl ⟨by rfl, ?_⟩) (by assumption) ?_
      rotate_left
      · (intro wx hSw; obtain ⟨hS1, hS2⟩ := hSw; go_simp; (try rw [if_neg (by omega)]); try (with_reducible rfl))
      try simp only [Act.put, List.setIfInBounds_toArray, List.set_cons_zero, List.set_cons_succ]
      refine wpAnyH_take (i := 4) (v := ?_) (by simp only [List.getElem?_toArray, List.getElem?_cons_zero, List.getElem?_cons_succ]; rfl) (by kernel_rfl) (by kernel_rfl) (by kernel_rfl) (by exact fun _ _ _ h => h) (Or.inl ⟨by rfl, ?_⟩) (by assumption) ?_
      rotate_left
      · (intro wx hSw; obtain ⟨hS1, hS2⟩ := hSw; go_simp; (try rw [if_neg (by omega)]); try (with_reducible rfl))
      try simp only [Act.put, List.setIfInBounds_toArray, List.set_cons_zero, List.set_cons_succ]
      refine wpAnyH_take (i := 5) (v := ?_) (by simp only [List.getElem?_toArray, List.getElem?_cons_zero, List.getElem?_cons_succ]; rfl) (by kernel_rfl) (by kernel_rfl) (by kernel_rfl) (by exact fun _ _ _ h => h) (Or.inl ⟨by rfl, ?_⟩) (by assumption) ?_
      rotate_left
      · (intro wx hSw; obtain ⟨hS1, hS2⟩ := hSw; go_simp; (try rw [if_neg (by omega)]); try (with_reducible rfl))
      try simp only [Act.put, List.setIfInBounds_toArray, List.set_cons_zero, List.set_cons_succ]
      refine wpAnyH_take (i := 6) (v := ?_) (by simp only [List.getElem?_toArray, List.getElem?_cons_zero, List.getElem?_cons_succ]; rfl) (by kernel_rfl) (by kernel_rfl) (by kernel_rfl) (by exact fun _ _ _ h => h) (Or.inl ⟨by rfl, ?_⟩) (by assumption) ?_
      rotate_left
      · (intro wx hSw; obtain ⟨hS1, hS2⟩ := hSw; go_simp; (try rw [if_neg (by omega)]); try (with_reducible rfl))
      try simp only [Act.put, List.setIfInBounds_toArray, List.set_cons_zero, List.set_cons_succ]
      refine wpAnyH_take (i := 7) (v := ?_) (by simp only [List.getElem?_toArray, List.getElem?_cons_zero, List.getElem?_cons_succ]; rfl) (by kernel_rfl) (by kernel_rfl) (by kernel_rfl) (by exact fun _ _ _ h => h) (Or.inl ⟨by rfl, ?_⟩) (by assumption) ?_
      rotate_left
      · (intro wx hSw; obtain ⟨hS1, hS2⟩ := hSw; go_simp; (try rw [if_neg (by omega)]); try (with_reducible rfl))
      try simp only [Act.put, List.setIfInBounds_toArray, List.set_cons_zero, List.set_cons_succ]
      refine wpAnyH_take (i := 8) (v := ?_) (by simp only [List.getElem?_toArray, List.getElem?_cons_zero, List.getElem?_cons_succ]; rfl) (by kernel_rfl) (by kernel_rfl) (by kernel_rfl) (by exact fun _ _ _ h => h) (Or.inl ⟨by rfl, ?_⟩) (by assumption) ?_
      rotate_left
      · (intro wx hSw; obtain ⟨hS1, hS2⟩ := hSw; go_simp; (try rw [if_neg (by omega)]); try (with_reducible rfl))
      try simp only [Act.put, List.setIfInBounds_toArray, List.set_cons_zero, List.set_cons_succ]
      refine wpAnyH_take (i := 9) (v := ?_) (by simp only [List.getElem?_toArray, List.getElem?_cons_zero, List.getElem?_cons_succ]; rfl) (by kernel_rfl) (by kernel_rfl) (by kernel_rfl) (by exact fun _ _ _ h => h) (Or.inl ⟨by rfl, ?_⟩) (by assumption) ?_
      rotate_left
      · (intro wx hSw; obtain ⟨hS1, hS2⟩ := hSw; go_simp; (try rw [if_neg (by omega)]); try (with_reducible rfl))
      try simp only [Act.put, List.setIfInBounds_toArray, List.set_cons_zero, List.set_cons_succ]
      refine wpAnyH_take (i := 10) (v := ?_) (by simp only [List.getElem?_toArray, List.getElem?_cons_zero, List.getElem?_cons_succ]; rfl) (by kernel_rfl) (by kernel_rfl) (by kernel_rfl) (by exact fun _ _ _ h => h) (Or.inl ⟨by rfl, ?_⟩) (by assumption) ?_
      rotate_left
      · (intro wx hSw; obtain ⟨hS1, hS2⟩ := hSw; go_simp; (try rw [if_neg (by omega)]); try (with_reducible rfl))
      try simp only [Act.put, List.setIfInBounds_toArray, List.set_cons_zero, List.set_cons_succ]
      refine wpAnyH_take (i := 11) (v := ?_) (by simp only [List.getElem?_toArray, List.getElem?_cons_zero, List.getElem?_cons_succ]; rfl) (by kernel_rfl) (by kernel_rfl) (by kernel_rfl) (by exact fun _ _ _ h => h) (Or.inl ⟨by rfl, ?_⟩) (by assumption) ?_
      rotate_left
      · (intro wx hSw; obtain ⟨hS1, hS2⟩ := hSw; go_simp; (try rw [if_neg (by omega)]); try (with_reducible rfl))
      try simp only [Act.put, List.setIfInBounds_toArray, List.set_cons_zero, List.set_cons_succ]
      refine wpAnyH_take (i := 12) (v := ?_) (by simp only [List.getElem?_toArray, List.getElem?_cons_zero, List.getElem?_cons_succ]; rfl) (by kernel_rfl) (by kernel_rfl) (by kernel_rfl) (by exact fun _ _ _ h => h) (Or.inl ⟨by rfl, ?_⟩) (by assumption) ?_
      rotate_left
      · (intro wx hSw; obtain ⟨hS1, hS2⟩ := hSw; go_simp; (try rw [if_neg (by omega)]); try (with_reducible rfl))
      try simp only [Act.put, List.setIfInBounds_toArray, List.set_cons_zero, List.set_cons_succ]
      refine wpAnyH_ready (rs := [13]) (by kernel_rfl) (by simp) ?_
      refine AllReadyH.cons (by simp only [List.getElem?_toArray, List.getElem?_cons_succ, List.getElem?_cons_zero]; rfl) (fun K hK => ?_) AllReadyH.nil
      go_simp
      refine (node_x a b _ HV.out wr.drew J0.out (HG.out.q I.out) za zb).mono ?_
      rintro r w1 ⟨rfl, q1⟩
      have Q1 := Lib.hid q1
      clear q1
      dsimp only
      refine hK.out _ _ (HH.out _ Q1.out) (fun hHeld13 => ?_)
      clear hK K
      try simp only [Act.put, List.setIfInBounds_toArray, List.set_cons_zero, List.set_cons_succ]
      refine wpAnyH_take (i := 14) (v := ?_) (by simp only [List.getElem?_toArray, List.getElem?_cons_zero, List.getElem?_cons_succ]; rfl) (by kernel_rfl) (by kernel_rfl) (by kernel_rfl) (by exact fun _ _ _ h => h) (Or.inl ⟨by rfl, ?_⟩) (by assumption) ?_
      rotate_left
      · (intro wx hSw; obtain ⟨hS1, hS2⟩ := hSw; go_simp; (try rw [if_neg (by omega)]); try (with_reducible rfl))
      try simp only [Act.put, List.setIfInBounds_toArray, List.set_cons_zero, List.set_cons_succ]
      have O1 := Lib.hid (O.out.q Q1.out)
      have c1 := O1.out.cell k hlt
      have f1 := O1.out.fz k
      have O2 := Lib.hid (O1.out.fill hlt).1
      have C2 := Lib.hid (O1.out.fill hlt).2
      have Q2 := Lib.hid (C2.out.q (I.out.trans Q1.out) (Nat.le_refl _))
      have NE : g ≠ w.heap.size := by have := LG.out; omega
      have HS2 : (w1.setCell ⟨w.heap.size, k, none⟩ (.string (abv f k))).cell? ⟨g, j, none⟩ = some (.string a) ∧ (w1.setCell ⟨w.heap.size, k, none⟩ (.string (abv f k))).cell? ⟨g, j', none⟩ = some (.string b) := ⟨C2.out.cell (HH.out _ Q1.out).1 NE, C2.out.cell (HH.out _ Q1.out).2 NE⟩
      refine wpAnyH_ready (rs := [15]) (by kernel_rfl) (by simp) ?_
      refine AllReadyH.cons (by simp only [List.getElem?_toArray, List.getElem?_cons_succ, List.getElem?_cons_zero]; rfl) (fun K hK => ?_) AllReadyH.nil
      go_simp
      refine hK.out _ _ HS2 (fun hHeld15 => ?_)
      clear hK K
      try simp only [Act.put, List.setIfInBounds_toArray, List.set_cons_zero, List.set_cons_succ]
      refine wpAnyH_done (by kernel_rfl) ?_ _
      go_wp2_with fail
      exact ⟨⟨k + 1, by omega, by go_num, O2, Q2⟩, by simp [intOf]; omega⟩
    · obtain rfl : k = m := by omega
      have td : decide (k < k) = false := by simp
      go_wp2_with fail
      go_ret
      exact ⟨_, _, rfl, O.out.full, HQ.out.trans I.out⟩
end Go.Proofs.YtnghhagiokiaoaaDoor.Mer
