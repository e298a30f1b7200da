/-
  Layer 7: the document's tall, above, Root, Path, Up.
-/
import Derived.Test.YtnghhagiokiaoaaDoorMer2
namespace Go.Proofs.YtnghhagiokiaoaaDoor.Mer
open Go.RowKit
open Mem Sh Wot
set_option linter.unusedVariables false

/-- A row of texts that is there. -/
structure TR (w : World) (g off n : Nat) (f : Nat → ByteArray) : Prop where
  r : RowS w g off n f
  lt : g < w.heap.size
theorem TR.q {w w' : World} {g off n : Nat} {f : Nat → ByteArray} (h : TR w g off n f) (q : Q w w') : TR w' g off n f := ⟨h.r.q q h.lt, Nat.lt_of_lt_of_le h.lt q.size⟩
theorem OT.tr {w : World} {B g n cap : Nat} {f : Nat → ByteArray} (h : OT w B g n cap f) : TR w g 0 n f := ⟨h.row, h.lt⟩
theorem TR.congr {w : World} {g off n : Nat} {f f' : Nat → ByteArray} (h : TR w g off n f) (e : ∀ j, j < n → f j = f' j) : TR w g off n f' := ⟨fun i hi => by rw [← e i hi]; exact h.r i hi, h.lt⟩

theorem rone_x {W : World} (p : Nat) (x : ByteArray) (hx : one p = x) (w : World) (q : Q W w) (hp : p ≤ 255) :
    Calls Tryd.prog 35 #[.int .i64 p] w fun e w' => e = .returned (.string x) ∧ Q W w' := by
  have cv := conv1 w (p : Int)
  have p0 : (0 : Int) ≤ (p : Int) := by omega
  have p1 : (p : Int) ≤ 255 := by omega
  have HX : Hid (strOfNums [(p : Int)] = x) := hx
  go_enter Tryd.func35, Tryd.ntmps35
  go_wp2_with fail
  go_ret
  exact ⟨retS HX.out, q.alloc _⟩

set_option maxHeartbeats 1000000 in
theorem rtall_ok (g off n cap h : Nat) (f : Nat → ByteArray) (w : World) (t : TR w g off n f) (l : IsLv f n h) :
    Calls Tryd.prog 32 #[.slice (some ⟨g, off, none⟩) n cap] w fun e w' => e = .returned (.int .i64 h) ∧ w = w' := by
  have HT := Lib.hid t
  have HL := Lib.hid l
  have n16 := l.n16
  have hh := l.hh
  clear t l
  go_enter Tryd.func32, Tryd.ntmps32
  go_wp2_with fail
  go_loopw [3] (fun i wr => ∃ k : Nat, k ≤ n ∧ i = .int .i64 k ∧ w = wr) (fun i _ => n - (intOf i).toNat)
  case atStart => exact ⟨0, by omega, rfl, rfl⟩
  case round =>
    obtain ⟨k, hk, rfl, rfl⟩ := hrel
    by_cases hlt : k < n
    · have k0 : (0 : Int) ≤ (k : Int) := by omega
      have k1 : (k : Int) < (n : Int) := by omega
      have hc := HT.out.r k hlt
      have hz : ((f k).size : Int) = 16 := by have := HL.out.hz k hlt; omega
      generalize f k = x at *
      go_wp2_with fail
      exact ⟨⟨k + 1, by omega, by go_num, trivial⟩, by simp [intOf]; omega⟩
    · obtain rfl : k = n := by omega
      go_wp2_with fail
      go_loopw [4, 5] (fun p i wr => ∃ j P : Nat, j ≤ h ∧ P = 2 ^ j ∧ p = .int .i64 P ∧ i = .int .i64 j ∧ w = wr) (fun _ i _ => 5 - (intOf i).toNat)
      case atStart => exact ⟨0, 1, by omega, rfl, rfl, rfl, rfl⟩
      case round =>
        obtain ⟨j, P, hj, hP, rfl, rfl, rfl⟩ := hrel
        have j0 : (0 : Int) ≤ (j : Int) := by omega
        have j4 : (j : Int) ≤ 4 := by omega
        have P16 : P ≤ 16 := by rw [hP]; exact pow_le16 j (by omega)
        have P16' : (P : Int) ≤ 16 := by omega
        by_cases e : j = h
        · obtain rfl : P = k := by rw [hP, e]; exact HL.out.hn.symm
          go_wp2_with fail
          go_ret
          exact ⟨ret1 (by omega), rfl⟩
        · have ne : ((k : Int) == (P : Int)) = false := by
            rw [beq_eq_false_iff_ne]
            intro h2
            have h3 : k = P := by omega
            rw [hP] at h3
            exact e (pow_inj2 _ _ (h3.symm.trans HL.out.hn))
          have hs : 2 * P = 2 ^ (j + 1) := by rw [hP, Nat.pow_succ]; omega
          clear hP
          go_wp2_with fail
          exact ⟨⟨j + 1, 2 * P, by omega, hs, by go_num, by go_num, trivial⟩, by simp [intOf]; omega⟩
set_option maxHeartbeats 1000000 in
theorem rtall_bad (g off n cap : Nat) (f : Nat → ByteArray) (w : World) (t : TR w g off n f) (hn : n ≤ 100000) (l : ¬ ∃ h, IsLv f n h) :
    Calls Tryd.prog 32 #[.slice (some ⟨g, off, none⟩) n cap] w fun e w' => e = .returned (.int .i64 (-1)) ∧ w = w' := by
  have HT := Lib.hid t
  have HL := Lib.hid l
  clear t l
  go_enter Tryd.func32, Tryd.ntmps32
  go_wp2_with fail
  go_loopw [3] (fun i wr => ∃ k : Nat, k ≤ n ∧ Hid (∀ j, j < k → (f j).size = 16) ∧ i = .int .i64 k ∧ w = wr) (fun i _ => n - (intOf i).toNat)
  case atStart => exact ⟨0, by omega, Lib.hid (fun j hj => by omega), rfl, rfl⟩
  case round =>
    obtain ⟨k, hk, I, rfl, rfl⟩ := hrel
    by_cases hlt : k < n
    · have k0 : (0 : Int) ≤ (k : Int) := by omega
      have k1 : (k : Int) < (n : Int) := by omega
      have hc := HT.out.r k hlt
      by_cases hz : (f k).size = 16
      · have J : Hid (∀ j, j < k + 1 → (f j).size = 16) := fun j hj => by
          by_cases e : j = k
          · rw [e]; exact hz
          · exact I.out j (by omega)
        have hz' : ((f k).size : Int) = 16 := by omega
        generalize f k = x at *
        go_wp2_with fail
        exact ⟨⟨k + 1, by omega, J, by go_num, trivial⟩, by simp [intOf]; omega⟩
      · have hz' : (((f k).size : Int) != 16) = true := by simp; omega
        generalize f k = x at *
        go_wp2_with fail
        go_ret
        exact ⟨rfl, rfl⟩
    · obtain rfl : k = n := by omega
      go_wp2_with fail
      go_loopw [4, 5] (fun p i wr => ∃ j P : Nat, j ≤ 5 ∧ P = 2 ^ j ∧ p = .int .i64 P ∧ i = .int .i64 j ∧ w = wr) (fun _ i _ => 5 - (intOf i).toNat)
      case atStart => exact ⟨0, 1, by omega, rfl, rfl, rfl, rfl⟩
      case round =>
        obtain ⟨j, P, hj, hP, rfl, rfl, rfl⟩ := hrel
        have j0 : (0 : Int) ≤ (j : Int) := by omega
        by_cases e : j = 5
        · subst e
          go_wp2_with fail
          go_ret
          exact ⟨rfl, rfl⟩
        · have j4 : (j : Int) ≤ 4 := by omega
          have P16 : P ≤ 16 := by rw [hP]; exact pow_le16 j (by omega)
          have P16' : (P : Int) ≤ 16 := by omega
          have ne : ((k : Int) == (P : Int)) = false := by
            rw [beq_eq_false_iff_ne]
            intro h2
            have h3 : k = P := by omega
            rw [hP] at h3
            exact HL.out ⟨j, ⟨by omega, h3, I.out⟩⟩
          have hs : 2 * P = 2 ^ (j + 1) := by rw [hP, Nat.pow_succ]; omega
          clear hP
          go_wp2_with fail
          exact ⟨⟨j + 1, 2 * P, by omega, hs, by go_num, by go_num, trivial⟩, by simp [intOf]; omega⟩

/-- The row above. -/
def abv (f : Nat → ByteArray) (i : Nat) : ByteArray := nd (f (2 * i)) (f (2 * i + 1))
theorem abv_rw (f : Nat → ByteArray) (k : Nat) : abv (rwS f k) = rwS f (k + 1) := rfl
set_option maxHeartbeats 2000000 in
set_option maxRecDepth 100000 in
theorem rabove_any {W : World} (g off n m cap : Nat) (f : Nat → ByteArray) (w : World) (q : Q W w) (t : TR w g off n f) (hn : n = 2 * m) (hm : m ≤ 100) (hz : ∀ i, i < n → (f i).size ≤ 1000000) :
    Calls Tryd.prog 33 #[.slice (some ⟨g, off, none⟩) n cap] w fun e w' => ∃ g' cap', e = .returned (.slice (some ⟨g', 0, none⟩) m cap') ∧ OT w' w.heap.size g' m cap' (abv f) ∧ Q W w' := by
  have HQ := Lib.hid q
  have HT := Lib.hid t
  have HZ := Lib.hid hz
  have O0 := Lib.hid (OT.lit w w.heap.size (abv f) (Nat.le_refl _))
  have HN := Lib.hid hn
  have Q0 := Lib.hid ((Q.refl w).alloc (.cells #[] 9))
  clear q t hz hn
  go_enter Tryd.func33, Tryd.ntmps33
  go_wp2_with fail
  go_loopw [3, 4] (fun v i wr => ∃ k g' c' : Nat, k ≤ m ∧ v = .slice (some ⟨g', 0, none⟩) k c' ∧ i = .int .i64 ((2 * k : Nat) : Int) ∧ Hid (OT wr w.heap.size g' k c' (abv f)) ∧ Hid (Q w wr)) (fun _ i _ => 2 * m - (intOf i).toNat)
  case atStart => exact ⟨0, _, _, by omega, rfl, rfl, O0, Q0⟩
  case round =>
    obtain ⟨k, g', c', hk, rfl, rfl, O, I⟩ := hrel
    clear O0 Q0
    by_cases hlt : k < m
    · have hn := HN.out
      have HA := Lib.hid ((HT.out.q I.out).r (2 * k) (by omega))
      have HB := Lib.hid ((HT.out.q I.out).r (2 * k + 1) (by omega))
      have LG := Lib.hid (HT.out.q I.out).lt
      have za := HZ.out (2 * k) (by omega)
      have zb := HZ.out (2 * k + 1) (by omega)
      have HV : Hid (abv f k = tagS wNode (two (f (2 * k)) (f (2 * k + 1))) 2) := rfl
      generalize f (2 * k) = a at *
      generalize f (2 * k + 1) = b at *
      obtain ⟨j', ej'⟩ : ∃ z, 2 * k + 1 = z := ⟨_, rfl⟩
      obtain ⟨j, ej⟩ : ∃ z, 2 * k = z := ⟨_, rfl⟩
      have EJ2 : Hid (2 * (k + 1) = j + 2) := by show _ = _; omega
      have EM : Hid (j + 1 < 2 * m) := by show _ < _; omega
      rw [ej'] at HB
      rw [ej] at HA ⊢
      have j0 : (0 : Int) ≤ (j : Int) := by omega
      have j1 : (j : Int) < (n : Int) := by omega
      have j0' : (0 : Int) ≤ (j' : Int) := by omega
      have j1' : (j' : Int) < (n : Int) := by omega
      have jm : (j : Int) ≤ 1000 := by omega
      have ew : IntKind.i64.wrap ((j : Int) + 1) = (j' : Int) := by rw [IntKind.wrap_i64]; omega
      have tk : decide ((j : Int) + 1 < (n : Int)) = true := by simp; omega
      clear ej ej' hn
      go_wp2_with fail
      have HH : Hid (∀ w', Q wr w' → w'.cell? ⟨g, off + j, none⟩ = some (.string a) ∧ w'.cell? ⟨g, off + j', none⟩ = some (.string b)) := fun w' q => ⟨(q.cell (p := ⟨g, off + j, none⟩) LG.out).trans HA.out, (q.cell (p := ⟨g, off + j', none⟩) LG.out).trans HB.out⟩
      have HS0 := HH.out _ (Q.refl wr).drew
      refine wp_region_held_drew (S := fun w' => w'.cell? ⟨g, off + j, none⟩ = some (.string a) ∧ w'.cell? ⟨g, off + j', none⟩ = some (.string b)) (by kernel_rfl) HS0 (fun hHeld => ?_)
      refine wpAnyH_take (i := 0) (v := ?_) (by simp only [List.getElem?_toArray, List.getElem?_cons_zero]; rfl) (by kernel_rfl) (by kernel_rfl) (by kernel_rfl) (by exact fun _ _ _ h => h) (Or.inl ⟨by rfl, ?_⟩) (by assumption) ?_
      rotate_left
      · (intro wx hSw; obtain ⟨hS1, hS2⟩ := hSw; go_simp; (try rw [if_neg (by omega)]); try (with_reducible rfl))
      try simp only [Act.put, List.setIfInBounds_toArray, List.set_cons_zero, List.set_cons_succ]
      refine wpAnyH_take (i := 1) (v := ?_) (by simp only [List.getElem?_toArray, List.getElem?_cons_zero, List.getElem?_cons_succ]; rfl) (by kernel_rfl) (by kernel_rfl) (by kernel_rfl) (by exact fun _ _ _ h => h) (Or.inl ⟨by rfl, ?_⟩) (by assumption) ?_
      rotate_left
      · (intro wx hSw; obtain ⟨hS1, hS2⟩ := hSw; go_simp; (try rw [if_neg (by omega)]); try (with_reducible rfl))
      try simp only [Act.put, List.setIfInBounds_toArray, List.set_cons_zero, List.set_cons_succ]
      refine wpAnyH_take (i := 2) (v := ?_) (by simp only [List.getElem?_toArray, List.getElem?_cons_zero, List.getElem?_cons_succ]; rfl) (by kernel_rfl) (by kernel_rfl) (by kernel_rfl) (by exact fun _ _ _ h => h) (Or.inl ⟨by rfl, ?_⟩) (by assumption) ?_
      rotate_left
      · (intro wx hSw; obtain ⟨hS1, hS2⟩ := hSw; go_simp; (try rw [if_neg (by omega)]); try (with_reducible rfl))
      try simp only [Act.put, List.setIfInBounds_toArray, List.set_cons_zero, List.set_cons_succ]
      refine wpAnyH_take (i := 3) (v := ?_) (by simp only [List.getElem?_toArray, List.getElem?_cons_zero, List.getElem?_cons_succ]; rfl) (by kernel_rfl) (by kernel_rfl) (by kernel_rfl) (by exact fun _ _ _ h => h) (Or.inl ⟨by rfl, ?_⟩) (by assumption) ?_
      rotate_left
      · (intro wx hSw; obtain ⟨hS1, hS2⟩ := hSw; go_simp; (try rw [if_neg (by omega)]); try (with_reducible rfl))
      try simp only [Act.put, List.setIfInBounds_toArray, List.set_cons_zero, List.set_cons_succ]
      refine wpAnyH_take (i := 4) (v := ?_) (by simp only [List.getElem?_toArray, List.getElem?_cons_zero, List.getElem?_cons_succ]; rfl) (by kernel_rfl) (by kernel_rfl) (by kernel_rfl) (by exact fun _ _ _ h => h) (Or.inl ⟨by rfl, ?_⟩) (by assumption) ?_
      rotate_left
      · (intro wx hSw; obtain ⟨hS1, hS2⟩ := hSw; go_simp; (try rw [if_neg (by omega)]); try (with_reducible rfl))
      try simp only [Act.put, List.setIfInBounds_toArray, List.set_cons_zero, List.set_cons_succ]
      refine wpAnyH_take (i := 5) (v := ?_) (by simp only [List.getElem?_toArray, List.getElem?_cons_zero, List.getElem?_cons_succ]; rfl) (by kernel_rfl) (by kernel_rfl) (by kernel_rfl) (by exact fun _ _ _ h => h) (Or.inl ⟨by rfl, ?_⟩) (by assumption) ?_
      rotate_left
      · (intro wx hSw; obtain ⟨hS1, hS2⟩ := hSw; go_simp; (try rw [if_neg (by omega)]); try (with_reducible rfl))
      try simp only [Act.put, List.setIfInBounds_toArray, List.set_cons_zero, List.set_cons_succ]
      refine wpAnyH_take (i := 6) (v := ?_) (by simp only [List.getElem?_toArray, List.getElem?_cons_zero, List.getElem?_cons_succ]; rfl) (by kernel_rfl) (by kernel_rfl) (by kernel_rfl) (by exact fun _ _ _ h => h) (Or.inl ⟨by rfl, ?_⟩) (by assumption) ?_
      rotate_left
      · (intro wx hSw; obtain ⟨hS1, hS2⟩ := hSw; go_simp; (try rw [if_neg (by omega)]); try (with_reducible rfl))
      try simp only [Act.put, List.setIfInBounds_toArray, List.set_cons_zero, List.set_cons_succ]
      refine wpAnyH_take (i := 7) (v := ?_) (by simp only [List.getElem?_toArray, List.getElem?_cons_zero, List.getElem?_cons_succ]; rfl) (by kernel_rfl) (by kernel_rfl) (by kernel_rfl) (by exact fun _ _ _ h => h) (Or.inl ⟨by rfl, ?_⟩) (by assumption) ?_
      rotate_left
      · (intro wx hSw; obtain ⟨hS1, hS2⟩ := hSw; go_simp; (try rw [if_neg (by omega)]); try (with_reducible rfl))
      try simp only [Act.put, List.setIfInBounds_toArray, List.set_cons_zero, List.set_cons_succ]
      refine wpAnyH_take (i := 8) (v := ?_) (by simp only [List.getElem?_toArray, List.getElem?_cons_zero, List.getElem?_cons_succ]; rfl) (by kernel_rfl) (by kernel_rfl) (by kernel_rfl) (by exact fun _ _ _ h => h) (Or.inl ⟨by rfl, ?_⟩) (by assumption) ?_
      rotate_left
      · (intro wx hSw; obtain ⟨hS1, hS2⟩ := hSw; go_simp; (try rw [if_neg (by omega)]); try (with_reducible rfl))
      try simp only [Act.put, List.setIfInBounds_toArray, List.set_cons_zero, List.set_cons_succ]
      refine wpAnyH_take (i := 9) (v := ?_) (by simp only [List.getElem?_toArray, List.getElem?_cons_zero, List.getElem?_cons_succ]; rfl) (by kernel_rfl) (by kernel_rfl) (by kernel_rfl) (by exact fun _ _ _ h => h) (Or.inl ⟨by rfl, ?_⟩) (by assumption) ?_
      rotate_left
      · (intro wx hSw; obtain ⟨hS1, hS2⟩ := hSw; go_simp; (try rw [if_neg (by omega)]); try (with_reducible rfl))
      try simp only [Act.put, List.setIfInBounds_toArray, List.set_cons_zero, List.set_cons_succ]
      refine wpAnyH_ready (rs := [10]) (by kernel_rfl) (by simp) ?_
      refine AllReadyH.cons (by simp only [List.getElem?_toArray, List.getElem?_cons_succ, List.getElem?_cons_zero]; rfl) (fun K hK => ?_) AllReadyH.nil
      go_simp
      refine hK.out _ _ (HH.out _ ((Q.refl wr).drew.alloc _)) (fun hHeld10 => ?_)
      clear hK K
      try simp only [Act.put, List.setIfInBounds_toArray, List.set_cons_zero, List.set_cons_succ]
      refine wpAnyH_ready (rs := [11]) (by kernel_rfl) (by simp) ?_
      refine AllReadyH.cons (by simp only [List.getElem?_toArray, List.getElem?_cons_succ, List.getElem?_cons_zero]; rfl) (fun K hK => ?_) AllReadyH.nil
      go_simp
      refine (rtag2_x wNode a b _ rfl _ wr.drew _ rfl (Q.refl wr).drew (by decide) za zb).mono ?_
      rintro r w1 ⟨rfl, q1⟩
      have Q1 := Lib.hid q1
      clear q1
      have O1 := Lib.hid (O.out.q Q1.out)
      dsimp only
      refine hK.out _ _ (HH.out _ Q1.out) (fun hHeld11 => ?_)
      clear hK K
      try simp only [Act.put, List.setIfInBounds_toArray, List.set_cons_zero, List.set_cons_succ]
      refine wpAnyH_ready (rs := [12]) (by kernel_rfl) (by simp) ?_
      refine AllReadyH.cons (by simp only [List.getElem?_toArray, List.getElem?_cons_succ, List.getElem?_cons_zero]; rfl) (fun K hK => ?_) AllReadyH.nil
      go_simp
      refine hK.out _ _ (HH.out _ (Q1.out.alloc _)) (fun hHeld12 => ?_)
      clear hK K
      try simp only [Act.put, List.setIfInBounds_toArray, List.set_cons_zero, List.set_cons_succ]
      refine wpAnyH_ready (rs := [13]) (by kernel_rfl) (by simp) ?_
      refine AllReadyH.cons (by simp only [List.getElem?_toArray, List.getElem?_cons_succ, List.getElem?_cons_zero]; rfl) (fun K hK => ?_) AllReadyH.nil
      rw [if_pos (by rfl)]
      refine append_o w1 _ _ rfl w.heap.size g' k c' (abv f) _ HV.out rfl O1.out rfl (by omega) (by have := I.out.size; have := Q1.out.size; omega) ?_
      intro g2 c2 w2 o2 ch2
      have O2 := Lib.hid o2
      have Q2 := Lib.hid (ch2.q (I.out.trans Q1.out) O1.out.lo)
      have LN : g ≠ g' := by have := HT.out.lt; have := O1.out.lo; omega
      have HS2 : w2.cell? ⟨g, off + j, none⟩ = some (.string a) ∧ w2.cell? ⟨g, off + j', none⟩ = some (.string b) := ⟨ch2.cell (HH.out _ Q1.out).1 LN, ch2.cell (HH.out _ Q1.out).2 LN⟩
      clear o2 ch2
      refine hK.out _ _ HS2 (fun hHeld13 => ?_)
      clear hK K
      try simp only [Act.put, List.setIfInBounds_toArray, List.set_cons_zero, List.set_cons_succ]
      refine wpAnyH_take (i := 14) (v := ?_) (by simp only [List.getElem?_toArray, List.getElem?_cons_zero, List.getElem?_cons_succ]; rfl) (by kernel_rfl) (by kernel_rfl) (by kernel_rfl) (by exact fun _ _ _ h => h) (Or.inl ⟨by rfl, ?_⟩) (by assumption) ?_
      rotate_left
      · (intro wx hSw; obtain ⟨hS1, hS2⟩ := hSw; go_simp; (try rw [if_neg (by omega)]); try (with_reducible rfl))
      try simp only [Act.put, List.setIfInBounds_toArray, List.set_cons_zero, List.set_cons_succ]
      refine wpAnyH_done (by kernel_rfl) ?_ _
      go_wp2_with fail
      exact ⟨⟨k + 1, g2, c2, by omega, rfl, by rw [EJ2.out]; go_num, O2, Q2⟩, by have := EM.out; simp [intOf]; omega⟩
    · obtain rfl : k = m := by omega
      have hn := HN.out
      obtain ⟨j, ej⟩ : ∃ z, 2 * k = z := ⟨_, rfl⟩
      rw [ej]
      have jm : (j : Int) ≤ 1000 := by omega
      have j0 : (0 : Int) ≤ (j : Int) := by omega
      have tk : decide ((j : Int) + 1 < (n : Int)) = false := by simp; omega
      clear hn ej
      go_wp2_with fail
      go_ret
      exact ⟨g', c', rfl, O.out, HQ.out.trans I.out⟩
end Go.Proofs.YtnghhagiokiaoaaDoor.Mer
