/-
  Layer 7: the program's beside, Root, Path, Up.
-/
import Derived.Test.YtnghhagiokiaoaaDoorMerR
namespace Go.Proofs.YtnghhagiokiaoaaDoor.Mer
open Go.RowKit
open Mem Sh Wot
set_option linter.unusedVariables false

theorem xor_sib (a : Nat) (h : a ≤ 16) : bits BinOp.xor .i64 (a : Int) 1 = (sib a : Int) := by
  have all : ∀ j : Fin 17, bits BinOp.xor .i64 (j.val : Int) 1 = (sib j.val : Int) := by decide +kernel
  exact all ⟨a, by omega⟩
theorem div_cast (i k : Nat) : (i : Int) / 2 ^ k = ((i / 2 ^ k : Nat) : Int) := by rw [Int.natCast_ediv, Int.natCast_pow]; rfl
set_option maxHeartbeats 2000000 in
set_option maxRecDepth 100000 in
theorem beside_x {W : World} (g n cap h i : Nat) (f : Nat → ByteArray) (w : World) (q : Q W w) (hG : GL W) (t : TR w g 0 n f) (l : IsLv f n h) (hi : i < n) :
    Calls Tryd.prog 36 #[.slice (some ⟨g, 0, none⟩) n cap, .int .i64 i] w fun e w' => ∃ g' c', e = .returned (.slice (some ⟨g', 0, none⟩) h c') ∧ OT w' w.heap.size g' h c' (pth f i) ∧ Q W w' := by
  have C := Lib.hid (rows_x (W := w) g n cap h f w (Q.refl w) (hG.q q) t l)
  have HQ := Lib.hid q
  have HL := Lib.hid l
  have n16 := l.n16
  have hh := l.hh
  have h0 : (0 : Int) ≤ (h : Int) := by omega
  have i0 : (0 : Int) ≤ (i : Int) := by omega
  clear q t l hG
  go_enter Tryd.func36, Tryd.ntmps36
  go_wp2_with fail
  refine C.out.mono ?_
  rintro e w1 ⟨g1, c1, gs, cs, rfl, r1, q1⟩
  have Q1 := Lib.hid q1
  have R1 := Lib.hid r1
  have L1 := Lib.hid r1.lt
  have HM := makeT w1 h (by omega)
  have O0 := Lib.hid (OT.made w1 w1.heap.size h (pth f i) (Nat.le_refl _) (by omega))
  have Q0 := Lib.hid ((Q.refl w1).alloc (zs h))
  have LW := Lib.hid q1.size
  clear r1 q1 C
  go_wp2_with fail
  go_loopw [7, 16] (fun z j wr => ∃ k : Nat, k ≤ h ∧ j = .int .i64 k ∧ Hid (OT wr w1.heap.size w1.heap.size h h (st (pth f i) k)) ∧ Hid (Q w1 wr)) (fun _ j _ => h - (intOf j).toNat)
  case atStart => exact ⟨0, by omega, rfl, O0, Q0⟩
  case round =>
    obtain ⟨k, hk, rfl, O, I⟩ := hrel
    clear O0 Q0 HM
    have k0 : (0 : Int) ≤ (k : Int) := by omega
    by_cases hlt : k < h
    · have k1 : (k : Int) < (h : Int) := by omega
      have k2 : (k : Int) < (h : Int) + 1 := by omega
      have k64 : (k : Int) ≤ 64 := by omega
      have RR := Lib.hid (R1.out.q I.out)
      have HA := Lib.hid (RR.out.c k hk)
      have TT := Lib.hid (RR.out.r k hk)
      have e2 := pow_half h k hlt
      obtain ⟨N, eN⟩ : ∃ N, 2 ^ (h - k) = N := ⟨_, rfl⟩
      rw [eN] at HA TT e2
      obtain ⟨M, eM⟩ : ∃ M, 2 ^ (h - (k + 1)) = M := ⟨_, rfl⟩
      rw [eM] at e2
      have N16 : N ≤ 16 := by rw [← eN]; exact pow_le16 _ (by omega)
      have aN : i / 2 ^ k < N := by
        have e : 2 ^ k * N = n := by rw [← eN, ← Nat.pow_add, HL.out.hn]; congr 1; omega
        exact Nat.div_lt_of_lt_mul (by rw [e]; exact hi)
      have es := div_cast i k
      have HP : Hid (pth f i k = rwS f k (sib (i / 2 ^ k))) := rfl
      obtain ⟨a, ea⟩ : ∃ a, i / 2 ^ k = a := ⟨_, rfl⟩
      rw [ea] at es aN HP
      have ex := xor_sib a (by omega)
      have sN := sib_lt a M (by omega)
      obtain ⟨s, eS⟩ : ∃ s, sib a = s := ⟨_, rfl⟩
      rw [eS] at ex sN HP
      have s0 : (0 : Int) ≤ (s : Int) := by omega
      have s1 : (s : Int) < (N : Int) := by omega
      have HB := Lib.hid (TT.out.r s (by omega))
      rw [Nat.zero_add] at HB
      have LG := Lib.hid RR.out.lt
      have LT := Lib.hid TT.out.lt
      have L2 := Lib.hid (R1.out.r k hk).lt
      have zy : (rwS f k s).size ≤ 1000000000 := by
        have := rwS_le HL.out k s (fun e => by rw [HL.out.hn, show h = h - k by omega, eN]; omega)
        omega
      generalize gs k = g2 at *
      generalize cs k = c2 at *
      generalize rwS f k s = y at *
      clear e2 eN eM aN ea eS RR TT sN
      go_wp2_with fail
      have HH : Hid (∀ w', Q wr w' → w'.cell? ⟨g1, k, none⟩ = some (.slice (some ⟨g2, 0, none⟩) N c2) ∧ w'.cell? ⟨g2, s, none⟩ = some (.string y)) := fun w' q => ⟨(q.cell (p := ⟨g1, k, none⟩) LG.out).trans HA.out, (q.cell (p := ⟨g2, s, none⟩) LT.out).trans HB.out⟩
      have HS0 := HH.out _ (Q.refl wr).drew
      have J0 : Hid (Q wr wr.drew) := (Q.refl wr).drew
      refine wp_region_held_drew (S := fun w' => w'.cell? ⟨g1, k, none⟩ = some (.slice (some ⟨g2, 0, none⟩) N c2) ∧ w'.cell? ⟨g2, s, none⟩ = some (.string y)) (by kernel_rfl) HS0 (fun hHeld => ?_)
      refine wpAnyH_take (i := 0) (v := ?_) (by simp only [List.getElem?_toArray, List.getElem?_cons_zero]; rfl) (by kernel_rfl) (by kernel_rfl) (by kernel_rfl) (by exact fun _ _ _ h => h) (Or.inl ⟨by rfl, ?_⟩) (by assumption) ?_
      rotate_left
      · (intro wx hSw; obtain ⟨hS1, hS2⟩ := hSw; go_simp; (try rw [if_neg (by omega)]); try (with_reducible rfl))
      try simp only [Act.put, List.setIfInBounds_toArray, List.set_cons_zero, List.set_cons_succ]
      refine wpAnyH_take (i := 1) (v := ?_) (by simp only [List.getElem?_toArray, List.getElem?_cons_zero, List.getElem?_cons_succ]; rfl) (by kernel_rfl) (by kernel_rfl) (by kernel_rfl) (by exact fun _ _ _ h => h) (Or.inl ⟨by rfl, ?_⟩) (by assumption) ?_
      rotate_left
      · (intro wx hSw; obtain ⟨hS1, hS2⟩ := hSw; go_simp; (try rw [if_neg (by omega)]); try (with_reducible rfl))
      try simp only [Act.put, List.setIfInBounds_toArray, List.set_cons_zero, List.set_cons_succ]
      refine wpAnyH_take (i := 2) (v := ?_) (by simp only [List.getElem?_toArray, List.getElem?_cons_zero, List.getElem?_cons_succ]; rfl) (by kernel_rfl) (by kernel_rfl) (by kernel_rfl) (by exact fun _ _ _ h => h) (Or.inl ⟨by rfl, ?_⟩) (by assumption) ?_
      rotate_left
      · (intro wx hSw; obtain ⟨hS1, hS2⟩ := hSw; go_simp; (try rw [if_neg (by omega)]); try (with_reducible rfl))
      try simp only [Act.put, List.setIfInBounds_toArray, List.set_cons_zero, List.set_cons_succ]
      refine wpAnyH_take (i := 3) (v := ?_) (by simp only [List.getElem?_toArray, List.getElem?_cons_zero, List.getElem?_cons_succ]; rfl) (by kernel_rfl) (by kernel_rfl) (by kernel_rfl) (by exact fun _ _ _ h => h) (Or.inl ⟨by rfl, ?_⟩) (by assumption) ?_
      rotate_left
      · (intro wx hSw; obtain ⟨hS1, hS2⟩ := hSw; go_simp; (try rw [if_neg (by omega)]); try (with_reducible rfl))
      try simp only [Act.put, List.setIfInBounds_toArray, List.set_cons_zero, List.set_cons_succ]
      refine wpAnyH_take (i := 4) (v := ?_) (by simp only [List.getElem?_toArray, List.getElem?_cons_zero, List.getElem?_cons_succ]; rfl) (by kernel_rfl) (by kernel_rfl) (by kernel_rfl) (by exact fun _ _ _ h => h) (Or.inl ⟨by rfl, ?_⟩) (by assumption) ?_
      rotate_left
      · (intro wx hSw; obtain ⟨hS1, hS2⟩ := hSw; go_simp; (try rw [if_neg (by omega)]); try (with_reducible rfl))
      try simp only [Act.put, List.setIfInBounds_toArray, List.set_cons_zero, List.set_cons_succ]
      refine wpAnyH_take (i := 5) (v := ?_) (by simp only [List.getElem?_toArray, List.getElem?_cons_zero, List.getElem?_cons_succ]; rfl) (by kernel_rfl) (by kernel_rfl) (by kernel_rfl) (by exact fun _ _ _ h => h) (Or.inl ⟨by rfl, ?_⟩) (by assumption) ?_
      rotate_left
      · (intro wx hSw; obtain ⟨hS1, hS2⟩ := hSw; go_simp; (try rw [if_neg (by omega)]); try (with_reducible rfl))
      try simp only [Act.put, List.setIfInBounds_toArray, List.set_cons_zero, List.set_cons_succ]
      refine wpAnyH_take (i := 6) (v := ?_) (by simp only [List.getElem?_toArray, List.getElem?_cons_zero, List.getElem?_cons_succ]; rfl) (by kernel_rfl) (by kernel_rfl) (by kernel_rfl) (by exact fun _ _ _ h => h) (Or.inl ⟨by rfl, ?_⟩) (by assumption) ?_
      rotate_left
      · (intro wx hSw; obtain ⟨hS1, hS2⟩ := hSw; go_simp; (try rw [if_neg (by omega)]); try (with_reducible rfl))
      try simp only [Act.put, List.setIfInBounds_toArray, List.set_cons_zero, List.set_cons_succ]
      refine wpAnyH_take (i := 7) (v := ?_) (by simp only [List.getElem?_toArray, List.getElem?_cons_zero, List.getElem?_cons_succ]; rfl) (by kernel_rfl) (by kernel_rfl) (by kernel_rfl) (by exact fun _ _ _ h => h) (Or.inl ⟨by rfl, ?_⟩) (by assumption) ?_
      rotate_left
      · (intro wx hSw; obtain ⟨hS1, hS2⟩ := hSw; go_simp; (try rw [if_neg (by omega)]); try (with_reducible rfl))
      try simp only [Act.put, List.setIfInBounds_toArray, List.set_cons_zero, List.set_cons_succ]
      refine wpAnyH_take (i := 8) (v := ?_) (by simp only [List.getElem?_toArray, List.getElem?_cons_zero, List.getElem?_cons_succ]; rfl) (by kernel_rfl) (by kernel_rfl) (by kernel_rfl) (by exact fun _ _ _ h => h) (Or.inl ⟨by rfl, ?_⟩) (by assumption) ?_
      rotate_left
      · (intro wx hSw; obtain ⟨hS1, hS2⟩ := hSw; go_simp; (try rw [if_neg (by omega)]); try (with_reducible rfl))
      try simp only [Act.put, List.setIfInBounds_toArray, List.set_cons_zero, List.set_cons_succ]
      refine wpAnyH_take (i := 9) (v := ?_) (by simp only [List.getElem?_toArray, List.getElem?_cons_zero, List.getElem?_cons_succ]; rfl) (by kernel_rfl) (by kernel_rfl) (by kernel_rfl) (by exact fun _ _ _ h => h) (Or.inl ⟨by rfl, ?_⟩) (by assumption) ?_
      rotate_left
      · (intro wx hSw; obtain ⟨hS1, hS2⟩ := hSw; go_simp; (try rw [if_neg (by omega)]); try (with_reducible rfl))
      try simp only [Act.put, List.setIfInBounds_toArray, List.set_cons_zero, List.set_cons_succ]
      refine wpAnyH_take (i := 10) (v := ?_) (by simp only [List.getElem?_toArray, List.getElem?_cons_zero, List.getElem?_cons_succ]; rfl) (by kernel_rfl) (by kernel_rfl) (by kernel_rfl) (by exact fun _ _ _ h => h) (Or.inl ⟨by rfl, ?_⟩) (by assumption) ?_
      rotate_left
      · (intro wx hSw; obtain ⟨hS1, hS2⟩ := hSw; go_simp; (try rw [if_neg (by omega)]); try (with_reducible rfl))
      try simp only [Act.put, List.setIfInBounds_toArray, List.set_cons_zero, List.set_cons_succ]
      refine wpAnyH_take (i := 11) (v := ?_) (by simp only [List.getElem?_toArray, List.getElem?_cons_zero, List.getElem?_cons_succ]; rfl) (by kernel_rfl) (by kernel_rfl) (by kernel_rfl) (by exact fun _ _ _ h => h) (Or.inl ⟨by rfl, ?_⟩) (by assumption) ?_
      rotate_left
      · (intro wx hSw; obtain ⟨hS1, hS2⟩ := hSw; go_simp; (try rw [if_neg (by omega)]); try (with_reducible rfl))
      try simp only [Act.put, List.setIfInBounds_toArray, List.set_cons_zero, List.set_cons_succ]
      refine wpAnyH_ready (rs := [12]) (by kernel_rfl) (by simp) ?_
      refine AllReadyH.cons (by simp only [List.getElem?_toArray, List.getElem?_cons_succ, List.getElem?_cons_zero]; rfl) (fun K hK => ?_) AllReadyH.nil
      go_simp
      refine (clone_q y wr.drew J0.out zy).mono ?_
      rintro r w2 ⟨rfl, q2⟩
      have Q2 := Lib.hid q2
      clear q2
      dsimp only
      refine hK.out _ _ (HH.out _ Q2.out) (fun hHeld12 => ?_)
      clear hK K
      try simp only [Act.put, List.setIfInBounds_toArray, List.set_cons_zero, List.set_cons_succ]
      refine wpAnyH_take (i := 13) (v := ?_) (by simp only [List.getElem?_toArray, List.getElem?_cons_zero, List.getElem?_cons_succ]; rfl) (by kernel_rfl) (by kernel_rfl) (by kernel_rfl) (by exact fun _ _ _ h => h) (Or.inl ⟨by rfl, ?_⟩) (by assumption) ?_
      rotate_left
      · (intro wx hSw; obtain ⟨hS1, hS2⟩ := hSw; go_simp; (try rw [if_neg (by omega)]); try (with_reducible rfl))
      try simp only [Act.put, List.setIfInBounds_toArray, List.set_cons_zero, List.set_cons_succ]
      have O2 := Lib.hid (O.out.q Q2.out)
      have cx := O2.out.cell k hlt
      have fx := O2.out.fz k
      have F3 := O2.out.fill hlt
      rw [HP.out] at F3
      have O3 := Lib.hid F3.1
      have C3 := Lib.hid F3.2
      have Q3 := Lib.hid (C3.out.q (I.out.trans Q2.out) (Nat.le_refl _))
      have NE1 : g1 ≠ w1.heap.size := by have := L1.out; omega
      have NE2 : g2 ≠ w1.heap.size := by have := L2.out; omega
      have HS3 : (w2.setCell ⟨w1.heap.size, k, none⟩ (.string y)).cell? ⟨g1, k, none⟩ = some (.slice (some ⟨g2, 0, none⟩) N c2) ∧ (w2.setCell ⟨w1.heap.size, k, none⟩ (.string y)).cell? ⟨g2, s, none⟩ = some (.string y) := ⟨C3.out.cell (HH.out _ Q2.out).1 NE1, C3.out.cell (HH.out _ Q2.out).2 NE2⟩
      clear F3
      refine wpAnyH_ready (rs := [14]) (by kernel_rfl) (by simp) ?_
      refine AllReadyH.cons (by simp only [List.getElem?_toArray, List.getElem?_cons_succ, List.getElem?_cons_zero]; rfl) (fun K hK => ?_) AllReadyH.nil
      go_simp
      refine hK.out _ _ HS3 (fun hHeld14 => ?_)
      clear hK K
      try simp only [Act.put, List.setIfInBounds_toArray, List.set_cons_zero, List.set_cons_succ]
      refine wpAnyH_done (by kernel_rfl) ?_ _
      go_wp2_with fail
      exact ⟨⟨k + 1, by omega, by go_num, O3, Q3⟩, by simp [intOf]; omega⟩
    · obtain rfl : k = h := by omega
      have td : decide (k < k) = false := by simp
      go_wp2_with fail
      go_ret
      exact ⟨_, _, rfl, O.out.full.down LW.out, HQ.out.trans (Q1.out.trans I.out)⟩
theorem root_x {W : World} (g n cap h : Nat) (f : Nat → ByteArray) (x : ByteArray) (hx : mroot h f = x) (w : World) (q : Q W w) (hG : GL W) (t : TR w g 0 n f) (l : IsLv f n h) :
    Calls Tryd.prog 10 #[.slice (some ⟨g, 0, none⟩) n cap] w fun e w' => e = .returned (.tuple #[.string x, .int .i64 0]) ∧ Q W w' := by
  have C1 := Lib.hid (areLeaves_y g 0 n cap h f w t l)
  have C2 := Lib.hid (over_x g n cap h f x hx w q hG t l)
  clear q t l hG hx
  go_enter Tryd.func10, Tryd.ntmps10
  go_wp2_with fail
  refine C1.out.mono ?_
  rintro e _ ⟨rfl, rfl⟩
  go_wp2_with fail
  refine C2.out.mono ?_
  rintro e w1 ⟨rfl, q1⟩
  go_wp2_with fail
  go_ret2
  exact ⟨rfl, q1⟩
theorem root_bad {W : World} (g n cap : Nat) (f : Nat → ByteArray) (w : World) (q : Q W w) (t : TR w g 0 n f) (hn : n ≤ 100000) (l : ¬ ∃ h, IsLv f n h) :
    Calls Tryd.prog 10 #[.slice (some ⟨g, 0, none⟩) n cap] w fun e w' => e = .returned (.tuple #[.string ⟨#[]⟩, .int .i64 1]) ∧ Q W w' := by
  have C1 := Lib.hid (areLeaves_n g 0 n cap f w t hn l)
  clear t l
  go_enter Tryd.func10, Tryd.ntmps10
  go_wp2_with fail
  refine C1.out.mono ?_
  rintro e _ ⟨rfl, rfl⟩
  go_wp2_with fail
  go_ret2
  exact ⟨rfl, q⟩
theorem path_x {W : World} (g n cap h i : Nat) (f : Nat → ByteArray) (w : World) (q : Q W w) (hG : GL W) (t : TR w g 0 n f) (l : IsLv f n h) (hi : i < n) :
    Calls Tryd.prog 12 #[.slice (some ⟨g, 0, none⟩) n cap, .int .i64 i] w fun e w' => ∃ g' c', e = .returned (.tuple #[.slice (some ⟨g', 0, none⟩) h c', .int .i64 0]) ∧ OT w' w.heap.size g' h c' (pth f i) ∧ Q W w' := by
  have C1 := Lib.hid (areLeaves_y g 0 n cap h f w t l)
  have C2 := Lib.hid (beside_x g n cap h i f w q hG t l hi)
  have i0 : (0 : Int) ≤ (i : Int) := by omega
  have i1 : (i : Int) < (n : Int) := by omega
  clear q t l hG
  go_enter Tryd.func12, Tryd.ntmps12
  go_wp2_with fail
  refine C1.out.mono ?_
  rintro e _ ⟨rfl, rfl⟩
  go_wp2_with fail
  refine C2.out.mono ?_
  rintro e w1 ⟨g1, c1, rfl, o1, q1⟩
  go_wp2_with fail
  go_ret2
  exact ⟨g1, c1, rfl, o1, q1⟩
theorem path_bad {W : World} (g n cap : Nat) (i : Int) (f : Nat → ByteArray) (w : World) (q : Q W w) (t : TR w g 0 n f) (hn : n ≤ 100000) (l : ¬ ((∃ h, IsLv f n h) ∧ 0 ≤ i ∧ i < n)) :
    Calls Tryd.prog 12 #[.slice (some ⟨g, 0, none⟩) n cap, .int .i64 i] w fun e w' => e = .returned (.tuple #[.slice none 0 0, .int .i64 1]) ∧ Q W w' := by
  by_cases hl : ∃ h, IsLv f n h
  · obtain ⟨h, hl⟩ := hl
    have HC := Lib.hid (areLeaves_y g 0 n cap h f w t hl)
    by_cases c1 : i < 0
    · clear t l hl
      go_enter Tryd.func12, Tryd.ntmps12
      go_wp2_with fail
      refine HC.out.mono ?_
      rintro r w0 ⟨rfl, rfl⟩
      go_wp2_with fail
      go_ret2
      exact ⟨rfl, q⟩
    · have d1 : 0 ≤ i := by omega
      have d2 : (n : Int) ≤ i := by
        by_cases c2 : i < n
        · exact absurd ⟨⟨h, hl⟩, d1, c2⟩ l
        · omega
      clear t l hl
      go_enter Tryd.func12, Tryd.ntmps12
      go_wp2_with fail
      refine HC.out.mono ?_
      rintro r w0 ⟨rfl, rfl⟩
      go_wp2_with fail
      go_ret2
      exact ⟨rfl, q⟩
  · have HC := Lib.hid (areLeaves_n g 0 n cap f w t hn hl)
    clear t l hl
    go_enter Tryd.func12, Tryd.ntmps12
    go_wp2_with fail
    refine HC.out.mono ?_
    rintro r w0 ⟨rfl, rfl⟩
    go_wp2_with fail
    go_ret2
    exact ⟨rfl, q⟩
end Go.Proofs.YtnghhagiokiaoaaDoor.Mer
