/-
  Layer 7: the document's Root, Path, Up.
-/
import Derived.Test.YtnghhagiokiaoaaDoorMer3
namespace Go.Proofs.YtnghhagiokiaoaaDoor.Mer
open Go.RowKit
open Mem Sh Wot
set_option linter.unusedVariables false

def slen : Value → Nat
  | .slice _ n _ => n
  | _ => 0
theorem rwS_le {f : Nat → ByteArray} {n h : Nat} (l : IsLv f n h) (k i : Nat) (hi : k = 0 → i < n) : (rwS f k i).size ≤ 1000000 := by
  rw [rwS_size f n l.hz k i hi]; decide
theorem pow_half (h k : Nat) (hk : k < h) : 2 ^ (h - k) = 2 * 2 ^ (h - (k + 1)) := by
  rw [show h - k = (h - (k + 1)) + 1 by omega, Nat.pow_succ]; omega

set_option maxHeartbeats 2000000 in
set_option maxRecDepth 100000 in
theorem rroot_x {W : World} (g off n cap h : Nat) (f : Nat → ByteArray) (x : ByteArray) (hx : mroot h f = x) (w : World) (q : Q W w) (t : TR w g off n f) (l : IsLv f n h) :
    Calls Tryd.prog 11 #[.slice (some ⟨g, off, none⟩) n cap] w fun e w' => e = .returned (.tuple #[.string x, .int .i64 0]) ∧ Q W w' := by
  have HX : Hid (tagS wRoot (two (one h) (rwS f h 0)) 2 = x) := hx
  have HQ := Lib.hid q
  have HT := Lib.hid t
  have HL := Lib.hid l
  have n16 := l.n16
  have hh := l.hh
  have HC := Lib.hid (rtall_ok g off n cap h f w t l)
  obtain ⟨o, eo⟩ : ∃ o, one h = o := ⟨_, rfl⟩
  have zo : o.size ≤ 1000000 := by rw [← eo, one_size]; omega
  rw [eo] at HX
  have EO := Lib.hid eo
  have h0 : (0 : Int) ≤ (h : Int) := by omega
  have T0 : Hid (TR w g off (2 ^ (h - 0)) (rwS f 0)) := by
    rw [Nat.sub_zero, ← l.hn]; exact t
  have N0 : Hid (n = 2 ^ (h - 0)) := l.hn
  clear q t l hx eo
  go_enter Tryd.func11, Tryd.ntmps11
  go_wp2_with fail
  refine HC.out.mono ?_
  rintro r w0 ⟨rfl, rfl⟩
  go_wp2_with fail
  go_loopw [5] (fun v wr => ∃ k N g' o' c' : Nat, k ≤ h ∧ Hid (N = 2 ^ (h - k)) ∧ v = .slice (some ⟨g', o', none⟩) N c' ∧ Hid (TR wr g' o' (2 ^ (h - k)) (rwS f k)) ∧ Hid (Q w wr)) (fun v _ => slen v)
  case atStart => exact ⟨0, n, g, off, cap, by omega, N0, rfl, T0, Lib.hid (Q.refl w)⟩
  case round =>
    obtain ⟨k, N, g', o', c', hk, HN, rfl, T, I⟩ := hrel
    have hN := HN.out
    clear T0 N0
    by_cases hlt : k < h
    · have e2 := pow_half h k hlt
      obtain ⟨M, eM⟩ : ∃ M, 2 ^ (h - (k + 1)) = M := ⟨_, rfl⟩
      have M1 : 1 ≤ M := by rw [← eM]; exact pow_pos2 _
      have M16 : M ≤ 16 := by rw [← eM]; exact pow_le16 _ (by omega)
      rw [eM] at e2
      have NM : N = 2 * M := hN.trans e2
      have N1 : (1 : Int) < (N : Int) := by omega
      rw [e2, ← NM] at T
      have KL : k = 0 → N ≤ n := fun e => by rw [hN, e, Nat.sub_zero, HL.out.hn]; exact Nat.le_refl _
      have C := Lib.hid (rabove_any (W := w) g' o' N M c' (rwS f k) wr I.out T.out NM (by omega) (fun i hi => rwS_le HL.out k i (fun e => by have := KL e; omega)))
      have EM := Lib.hid eM
      have NL : Hid (M < N) := by show M < N; omega
      clear hN KL e2 eM NM
      go_wp2_with fail
      refine C.out.mono ?_
      rintro r w1 ⟨g2, c2, rfl, o2, q2⟩
      have T2 : Hid (TR w1 g2 0 (2 ^ (h - (k + 1))) (rwS f (k + 1))) := by rw [EM.out]; exact o2.tr
      have Q2 := Lib.hid q2
      clear o2 q2 C
      go_wp2_with fail
      exact ⟨⟨k + 1, M, g2, 0, c2, by omega, Lib.hid EM.out.symm, rfl, T2, Q2⟩, by show M < N; exact NL.out⟩
    · obtain rfl : k = h := by omega
      obtain rfl : N = 1 := by rw [hN, Nat.sub_self]
      rw [Nat.sub_self] at T
      clear hN HN
      have LG := Lib.hid T.out.lt
      have hc := T.out.r 0 (by decide)
      have zx : (rwS f k 0).size ≤ 1000000 := rwS_le HL.out k 0 (fun _ => by have := HL.out.n1; omega)
      clear T
      generalize rwS f k 0 = y at *
      go_wp2_with fail
      have HH : Hid (∀ w', Q wr w' → w'.cell? ⟨g', o' + 0, none⟩ = some (.string y)) := fun w' q => (q.cell (p := ⟨g', o' + 0, none⟩) LG.out).trans hc
      rw [Nat.add_zero] at HH
      have HS0 := HH.out _ (Q.refl wr).drew
      clear hc
      refine wp_region_held_drew (S := fun w' => w'.cell? ⟨g', o', none⟩ = some (.string y)) (by kernel_rfl) HS0 (fun hHeld => ?_)
      refine wpAnyH_take (i := 0) (v := ?_) (by simp only [List.getElem?_toArray, List.getElem?_cons_zero]; rfl) (by kernel_rfl) (by kernel_rfl) (by kernel_rfl) (by exact fun _ _ _ h => h) (Or.inl ⟨by rfl, ?_⟩) (by assumption) ?_
      rotate_left
      · (intro wx hSw; (try dsimp only at hSw); go_simp; (try rw [if_neg (by omega)]); try (with_reducible rfl))
      try simp only [Act.put, List.setIfInBounds_toArray, List.set_cons_zero, List.set_cons_succ]
      refine wpAnyH_take (i := 2) (v := ?_) (by simp only [List.getElem?_toArray, List.getElem?_cons_zero, List.getElem?_cons_succ]; rfl) (by kernel_rfl) (by kernel_rfl) (by kernel_rfl) (by exact fun _ _ _ h => h) (Or.inl ⟨by rfl, ?_⟩) (by assumption) ?_
      rotate_left
      · (intro wx hSw; (try dsimp only at hSw); go_simp; (try rw [if_neg (by omega)]); try (with_reducible rfl))
      try simp only [Act.put, List.setIfInBounds_toArray, List.set_cons_zero, List.set_cons_succ]
      refine wpAnyH_take (i := 3) (v := ?_) (by simp only [List.getElem?_toArray, List.getElem?_cons_zero, List.getElem?_cons_succ]; rfl) (by kernel_rfl) (by kernel_rfl) (by kernel_rfl) (by exact fun _ _ _ h => h) (Or.inl ⟨by rfl, ?_⟩) (by assumption) ?_
      rotate_left
      · (intro wx hSw; (try dsimp only at hSw); go_simp; (try rw [if_neg (by omega)]); try (with_reducible rfl))
      try simp only [Act.put, List.setIfInBounds_toArray, List.set_cons_zero, List.set_cons_succ]
      refine wpAnyH_take (i := 4) (v := ?_) (by simp only [List.getElem?_toArray, List.getElem?_cons_zero, List.getElem?_cons_succ]; rfl) (by kernel_rfl) (by kernel_rfl) (by kernel_rfl) (by exact fun _ _ _ h => h) (Or.inl ⟨by rfl, ?_⟩) (by assumption) ?_
      rotate_left
      · (intro wx hSw; (try dsimp only at hSw); go_simp; (try rw [if_neg (by omega)]); try (with_reducible rfl))
      try simp only [Act.put, List.setIfInBounds_toArray, List.set_cons_zero, List.set_cons_succ]
      refine wpAnyH_ready (rs := [1]) (by kernel_rfl) (by simp) ?_
      refine AllReadyH.cons (by simp only [List.getElem?_toArray, List.getElem?_cons_succ, List.getElem?_cons_zero]; rfl) (fun K hK => ?_) AllReadyH.nil
      go_simp
      refine (rone_x k o EO.out wr.drew (Q.refl wr).drew (by omega)).mono ?_
      rintro r w1 ⟨rfl, q1⟩
      have Q1 := Lib.hid q1
      clear q1
      dsimp only
      refine hK.out _ _ (HH.out _ Q1.out) (fun hHeld1 => ?_)
      clear hK K
      try simp only [Act.put, List.setIfInBounds_toArray, List.set_cons_zero, List.set_cons_succ]
      refine wpAnyH_ready (rs := [5]) (by kernel_rfl) (by simp) ?_
      refine AllReadyH.cons (by simp only [List.getElem?_toArray, List.getElem?_cons_succ, List.getElem?_cons_zero]; rfl) (fun K hK => ?_) AllReadyH.nil
      go_simp
      refine hK.out _ _ (HH.out _ (Q1.out.alloc _)) (fun hHeld5 => ?_)
      clear hK K
      try simp only [Act.put, List.setIfInBounds_toArray, List.set_cons_zero, List.set_cons_succ]
      refine wpAnyH_ready (rs := [6]) (by kernel_rfl) (by simp) ?_
      refine AllReadyH.cons (by simp only [List.getElem?_toArray, List.getElem?_cons_succ, List.getElem?_cons_zero]; rfl) (fun K hK => ?_) AllReadyH.nil
      go_simp
      refine (rtag2_x wRoot o y x HX.out _ w1 _ rfl Q1.out (by decide) zo zx).mono ?_
      rintro r w2 ⟨rfl, q2⟩
      have Q2 := Lib.hid q2
      clear q2
      dsimp only
      refine hK.out _ _ (HH.out _ Q2.out) (fun hHeld6 => ?_)
      clear hK K
      try simp only [Act.put, List.setIfInBounds_toArray, List.set_cons_zero, List.set_cons_succ]
      refine wpAnyH_take (i := 7) (v := ?_) (by simp only [List.getElem?_toArray, List.getElem?_cons_zero, List.getElem?_cons_succ]; rfl) (by kernel_rfl) (by kernel_rfl) (by kernel_rfl) (by exact fun _ _ _ h => h) (Or.inl ⟨by rfl, ?_⟩) (by assumption) ?_
      rotate_left
      · (intro wx hSw; (try dsimp only at hSw); go_simp; (try rw [if_neg (by omega)]); try (with_reducible rfl))
      try simp only [Act.put, List.setIfInBounds_toArray, List.set_cons_zero, List.set_cons_succ]
      refine wpAnyH_take (i := 8) (v := ?_) (by simp only [List.getElem?_toArray, List.getElem?_cons_zero, List.getElem?_cons_succ]; rfl) (by kernel_rfl) (by kernel_rfl) (by kernel_rfl) (by exact fun _ _ _ h => h) (Or.inl ⟨by rfl, ?_⟩) (by assumption) ?_
      rotate_left
      · (intro wx hSw; (try dsimp only at hSw); go_simp; (try rw [if_neg (by omega)]); try (with_reducible rfl))
      try simp only [Act.put, List.setIfInBounds_toArray, List.set_cons_zero, List.set_cons_succ]
      refine wpAnyH_done (by kernel_rfl) ?_ _
      go_wp2_with fail
      go_ret2
      exact ⟨rfl, HQ.out.trans (I.out.trans Q2.out)⟩
theorem rroot_bad {W : World} (g off n cap : Nat) (f : Nat → ByteArray) (w : World) (q : Q W w) (t : TR w g off n f) (hn : n ≤ 100000) (l : ¬ ∃ h, IsLv f n h) :
    Calls Tryd.prog 11 #[.slice (some ⟨g, off, none⟩) n cap] w fun e w' => e = .returned (.tuple #[.string ⟨#[]⟩, .int .i64 1]) ∧ Q W w' := by
  have HC := Lib.hid (rtall_bad g off n cap f w t hn l)
  clear t l
  go_enter Tryd.func11, Tryd.ntmps11
  go_wp2_with fail
  refine HC.out.mono ?_
  rintro r w0 ⟨rfl, rfl⟩
  go_wp2_with fail
  go_ret2
  exact ⟨rfl, q⟩

set_option maxHeartbeats 2000000 in
set_option maxRecDepth 100000 in
theorem rpath_x {W : World} (g off n cap h i : Nat) (f : Nat → ByteArray) (w : World) (q : Q W w) (t : TR w g off n f) (l : IsLv f n h) (hi : i < n) :
    Calls Tryd.prog 13 #[.slice (some ⟨g, off, none⟩) n cap, .int .i64 i] w fun e w' => ∃ g' c', e = .returned (.tuple #[.slice (some ⟨g', 0, none⟩) h c', .int .i64 0]) ∧ OT w' w.heap.size g' h c' (pth f i) ∧ Q W w' := by
  have HQ := Lib.hid q
  have HT := Lib.hid t
  have HL := Lib.hid l
  have n16 := l.n16
  have hh := l.hh
  have HC := Lib.hid (rtall_ok g off n cap h f w t l)
  have h0 : (0 : Int) ≤ (h : Int) := by omega
  have i0 : (0 : Int) ≤ (i : Int) := by omega
  have i1 : (i : Int) < (n : Int) := by omega
  have td : decide (n ≤ i) = false := by simp; omega
  have O0 := Lib.hid (OT.lit w w.heap.size (pth f i) (Nat.le_refl _))
  have Q0 := Lib.hid ((Q.refl w).alloc (.cells #[] 9))
  have T0 : Hid (TR (w.alloc (.cells #[] 9)) g off (2 ^ (h - 0)) (rwS f 0)) := by
    rw [Nat.sub_zero, ← l.hn]; exact t.q Q0.out
  have N0 : Hid (n = 2 ^ (h - 0)) := l.hn
  have A0 : Hid (i = i / 2 ^ 0) := by show i = i / 2 ^ 0; rw [Nat.pow_zero, Nat.div_one]
  have G0 : g ≠ w.heap.size := by have := t.lt; omega
  clear q t l
  go_enter Tryd.func13, Tryd.ntmps13
  go_wp2_with fail
  refine HC.out.mono ?_
  rintro r w0 ⟨rfl, rfl⟩
  go_wp2_with fail
  go_loopw [6, 7, 8] (fun u v z wr => ∃ k N a g1 c1 g' o' c' : Nat, k ≤ h ∧ Hid (N = 2 ^ (h - k)) ∧ Hid (a = i / 2 ^ k) ∧ g' ≠ g1 ∧ u = .slice (some ⟨g1, 0, none⟩) k c1 ∧ v = .slice (some ⟨g', o', none⟩) N c' ∧ z = .int .i64 a ∧ Hid (OT wr w.heap.size g1 k c1 (pth f i)) ∧ Hid (TR wr g' o' (2 ^ (h - k)) (rwS f k)) ∧ Hid (Q w wr)) (fun _ v _ _ => slen v)
  case atStart => exact ⟨0, n, i, _, _, g, off, cap, by omega, N0, A0, G0, rfl, rfl, rfl, O0, T0, Q0⟩
  case round =>
    obtain ⟨k, N, a, g1, c1, g', o', c', hk, HN, HAA, hg, rfl, rfl, rfl, O, T, I⟩ := hrel
    have hN := HN.out
    have ha := HAA.out
    clear T0 N0 A0 G0 Q0 O0
    by_cases hlt : k < h
    · have e2 := pow_half h k hlt
      obtain ⟨M, eM⟩ : ∃ M, 2 ^ (h - (k + 1)) = M := ⟨_, rfl⟩
      have M1 : 1 ≤ M := by rw [← eM]; exact pow_pos2 _
      have M16 : M ≤ 16 := by rw [← eM]; exact pow_le16 _ (by omega)
      rw [eM] at e2
      have NM : N = 2 * M := hN.trans e2
      have N1 : (1 : Int) < (N : Int) := by omega
      have aN : a < N := by
        have e : 2 ^ k * N = n := by rw [hN, ← Nat.pow_add, HL.out.hn]; congr 1; omega
        rw [ha]; exact Nat.div_lt_of_lt_mul (by rw [e]; exact hi)
      have AD : a / 2 = i / 2 ^ (k + 1) := by rw [div_step, ← ha]
      rw [e2, ← NM] at T
      have KL : k = 0 → N ≤ n := fun e => by rw [hN, e, Nat.sub_zero, HL.out.hn]; exact Nat.le_refl _
      have C := Lib.hid fun w1 (t1 : TR w1 g' o' N (rwS f k)) => rabove_any (W := w1) g' o' N M c' (rwS f k) w1 (Q.refl w1) t1 NM (by omega) (fun i hi => rwS_le HL.out k i (fun e => by have := KL e; omega))
      have LT := Lib.hid T.out.lt
      have HP : Hid (pth f i k = rwS f k (sib a)) := by show rwS f k (sib (i / 2 ^ k)) = _; rw [← ha]
      have a0 : (0 : Int) ≤ (a : Int) := by omega
      have EM := Lib.hid eM
      have NL : Hid (M < N) := by show M < N; omega
      have AD' := Lib.hid AD
      clear KL
      by_cases e : a % 2 = 0
      · have em : (a : Int) % 2 = 0 := by omega
        have hc := T.out.r (a + 1) (by omega)
        have HP' : Hid (pth f i k = rwS f k (a + 1)) := by show pth f i k = _; rw [HP.out, sib, if_pos e]
        have bN : (a : Int) + 1 < (N : Int) := by omega
        have aB : (a : Int) ≤ 1000 := by omega
        clear hN ha e2 eM NM AD HP
        generalize rwS f k (a + 1) = y at *
        go_wp2_with (at_builtin; refine append_t wr rfl _ _ rfl w.heap.size g1 k c1 (pth f i) y HP'.out rfl O.out rfl (by omega) I.out.size ?_; intro g2 c2 w2 o2 ch2; have O2 := Lib.hid o2; have Q2 := Lib.hid (ch2.q I.out O.out.lo); have T2 : Hid (TR w2 g' o' N (rwS f k)) := ⟨fun j hj => ch2.cell (T.out.r j hj) hg, Nat.lt_of_lt_of_le T.out.lt ch2.size⟩; clear o2 ch2)
        refine (C.out w2 T2.out).mono ?_
        rintro r w3 ⟨g3, c3, rfl, o3, q3⟩
        have T3 : Hid (TR w3 g3 0 (2 ^ (h - (k + 1))) (rwS f (k + 1))) := by rw [EM.out]; exact o3.tr
        have G3 : g3 ≠ g2 := by have := o3.lo; have := O2.out.lt; omega
        have O3 : Hid (OT w3 w.heap.size g2 (k + 1) c2 (pth f i)) := O2.out.q q3
        have Q3 := Lib.hid (Q2.out.trans q3)
        clear o3 q3 C
        go_wp2_with fail
        exact ⟨⟨k + 1, M, a / 2, g2, c2, g3, 0, c3, by omega, Lib.hid EM.out.symm, AD', G3, rfl, rfl, by go_num, O3, T3, Q3⟩, by show M < N; exact NL.out⟩
      · have em : (a : Int) % 2 = 1 := by omega
        have hc := T.out.r (a - 1) (by omega)
        have HP' : Hid (pth f i k = rwS f k (a - 1)) := by show pth f i k = _; rw [HP.out, sib, if_neg e]
        have bN : (a : Int) - 1 < (N : Int) := by omega
        have aB : (a : Int) ≤ 1000 := by omega
        have a1 : (1 : Int) ≤ (a : Int) := by omega
        have et : ((a : Int) - 1).toNat = a - 1 := by omega
        clear hN ha e2 eM NM AD HP
        generalize rwS f k (a - 1) = y at *
        go_wp2_with (at_builtin; refine append_t wr rfl _ _ rfl w.heap.size g1 k c1 (pth f i) y HP'.out rfl O.out rfl (by omega) I.out.size ?_; intro g2 c2 w2 o2 ch2; have O2 := Lib.hid o2; have Q2 := Lib.hid (ch2.q I.out O.out.lo); have T2 : Hid (TR w2 g' o' N (rwS f k)) := ⟨fun j hj => ch2.cell (T.out.r j hj) hg, Nat.lt_of_lt_of_le T.out.lt ch2.size⟩; clear o2 ch2)
        refine (C.out w2 T2.out).mono ?_
        rintro r w3 ⟨g3, c3, rfl, o3, q3⟩
        have T3 : Hid (TR w3 g3 0 (2 ^ (h - (k + 1))) (rwS f (k + 1))) := by rw [EM.out]; exact o3.tr
        have G3 : g3 ≠ g2 := by have := o3.lo; have := O2.out.lt; omega
        have O3 : Hid (OT w3 w.heap.size g2 (k + 1) c2 (pth f i)) := O2.out.q q3
        have Q3 := Lib.hid (Q2.out.trans q3)
        clear o3 q3 C
        go_wp2_with fail
        exact ⟨⟨k + 1, M, a / 2, g2, c2, g3, 0, c3, by omega, Lib.hid EM.out.symm, AD', G3, rfl, rfl, by go_num, O3, T3, Q3⟩, by show M < N; exact NL.out⟩
    · obtain rfl : k = h := by omega
      obtain rfl : N = 1 := by rw [hN, Nat.sub_self]
      clear hN ha HN HAA
      go_wp2_with fail
      go_ret2
      exact ⟨g1, c1, rfl, O.out, HQ.out.trans I.out⟩
theorem rpath_bad {W : World} (g off n cap : Nat) (i : Int) (f : Nat → ByteArray) (w : World) (q : Q W w) (t : TR w g off n f) (hn : n ≤ 100000) (l : ¬ ((∃ h, IsLv f n h) ∧ 0 ≤ i ∧ i < n)) :
    Calls Tryd.prog 13 #[.slice (some ⟨g, off, none⟩) n cap, .int .i64 i] w fun e w' => e = .returned (.tuple #[.slice none 0 0, .int .i64 1]) ∧ Q W w' := by
  by_cases hl : ∃ h, IsLv f n h
  · obtain ⟨h, hl⟩ := hl
    have HC := Lib.hid (rtall_ok g off n cap h f w t hl)
    have h0 : (0 : Int) ≤ (h : Int) := by omega
    by_cases c1 : i < 0
    · clear t l hl
      go_enter Tryd.func13, Tryd.ntmps13
      go_wp2_with fail
      refine HC.out.mono ?_
      rintro r w0 ⟨rfl, rfl⟩
      go_wp2_with fail
      go_ret2
      exact ⟨rfl, q⟩
    · have d1 : 0 ≤ i := by omega
      have d2 : (n : Int) ≤ i := by
        by_cases c2 : i < n
        · exact absurd ⟨⟨h, hl⟩, d1, c2⟩ l
        · omega
      clear t l hl
      go_enter Tryd.func13, Tryd.ntmps13
      go_wp2_with fail
      refine HC.out.mono ?_
      rintro r w0 ⟨rfl, rfl⟩
      go_wp2_with fail
      go_ret2
      exact ⟨rfl, q⟩
  · have HC := Lib.hid (rtall_bad g off n cap f w t hn hl)
    clear t l hl
    go_enter Tryd.func13, Tryd.ntmps13
    go_wp2_with fail
    refine HC.out.mono ?_
    rintro r w0 ⟨rfl, rfl⟩
    go_wp2_with fail
    go_ret2
    exact ⟨rfl, q⟩

/-- They lead somewhere. -/
structure IsUp (leaf : ByteArray) (i : Int) (n : Nat) (p : Nat → ByteArray) : Prop where
  hl : leaf.size = 16
  hn : n ≤ 4
  h0 : 0 ≤ i
  hi : i < ((2 ^ n : Nat) : Int)
  hz : ∀ j, j < n → (p j).size = 16
set_option maxHeartbeats 2000000 in
set_option maxRecDepth 100000 in
theorem rup_x {W : World} (g off n cap i : Nat) (leaf : ByteArray) (p : Nat → ByteArray) (x : ByteArray) (hx : rtS n (upx leaf i p n) = x) (w : World) (q : Q W w) (t : TR w g off n p) (l : IsUp leaf i n p) :
    Calls Tryd.prog 15 #[.string leaf, .int .i64 i, .slice (some ⟨g, off, none⟩) n cap] w fun e w' => e = .returned (.tuple #[.string x, .int .i64 0]) ∧ Q W w' := by
  have HX : Hid (tagS wRoot (two (one n) (upx leaf i p n)) 2 = x) := hx
  have HQ := Lib.hid q
  have HT := Lib.hid t
  have HL := Lib.hid l
  have HZ := Lib.hid (upx_size leaf i p l.hl)
  have zl : (leaf.size : Int) = 16 := by have := l.hl; omega
  have n4 : (n : Int) ≤ 4 := by have := l.hn; omega
  have i0 : (0 : Int) ≤ (i : Int) := by omega
  have i9 : (i : Int) ≤ 16 := by have := pow_le16 n l.hn; have := l.hi; omega
  have i9 : (i : Int) ≤ 16 := by have := pow_le16 n l.hn; have := l.hi; omega
  have A0 : Hid (i = i / 2 ^ 0) := by show i = i / 2 ^ 0; rw [Nat.pow_zero, Nat.div_one]
  have AE : Hid (i / 2 ^ n = 0) := Nat.div_eq_of_lt (by have := l.hi; omega)
  obtain ⟨o, eo⟩ : ∃ o, one n = o := ⟨_, rfl⟩
  have zo : o.size ≤ 1000000 := by rw [← eo, one_size]; omega
  rw [eo] at HX
  have EO := Lib.hid eo
  clear q t l hx eo
  go_enter Tryd.func15, Tryd.ntmps15
  go_wp2_with fail
  go_loopw [8, 9, 10] (fun u v z wr => ∃ k a : Nat, k ≤ n ∧ Hid (a = i / 2 ^ k) ∧ u = .string (upx leaf i p k) ∧ v = .int .i64 a ∧ z = .int .i64 k ∧ Hid (Q w wr)) (fun _ _ z _ => n - (intOf z).toNat)
  case atStart => exact ⟨0, i, by omega, A0, rfl, rfl, rfl, Lib.hid (Q.refl w)⟩
  case round =>
    obtain ⟨k, a, hk, HAA, rfl, rfl, rfl, I⟩ := hrel
    have ha := HAA.out
    clear A0
    have k0 : (0 : Int) ≤ (k : Int) := by omega
    have a0 : (0 : Int) ≤ (a : Int) := by omega
    have a9 : (a : Int) ≤ 9223372036854775807 := by have := Nat.div_le_self i (2 ^ k); rw [← ha] at this; omega
    have zu : (upx leaf i p k).size ≤ 1000000 := by rw [HZ.out k]; decide
    by_cases hlt : k < n
    · have k1 : (k : Int) < (n : Int) := by omega
      have hc := (HT.out.q I.out).r k hlt
      have zp : ((p k).size : Int) = 16 := by have := HL.out.hz k hlt; omega
      have zp' : (p k).size ≤ 1000000 := by omega
      have AD : Hid (a / 2 = i / 2 ^ (k + 1)) := by show a / 2 = _; rw [div_step, ← ha]
      by_cases e : a % 2 = 0
      · have em : (a : Int) % 2 = 0 := by omega
        have HS : Hid (tagS wNode (two (upx leaf i p k) (p k)) 2 = upx leaf i p (k + 1)) := by show _ = (if (i / 2 ^ k) % 2 = 0 then _ else _); rw [← ha, if_pos e]; rfl
        clear ha
        generalize upx leaf i p k = u at *
        generalize p k = y at *
        go_wp2_with fail
        refine (rtag2_x wNode u y _ HS.out _ wr _ rfl I.out (by decide) zu zp').mono ?_
        rintro r w1 ⟨rfl, q1⟩
        have Q1 := Lib.hid q1
        clear q1
        go_wp2_with fail
        exact ⟨⟨k + 1, a / 2, by omega, AD, rfl, by go_num, by go_num, Q1⟩, by simp [intOf]; omega⟩
      · have em : (a : Int) % 2 = 1 := by omega
        have HS : Hid (tagS wNode (two (p k) (upx leaf i p k)) 2 = upx leaf i p (k + 1)) := by show _ = (if (i / 2 ^ k) % 2 = 0 then _ else _); rw [← ha, if_neg e]; rfl
        clear ha
        generalize upx leaf i p k = u at *
        generalize p k = y at *
        go_wp2_with fail
        refine (rtag2_x wNode y u _ HS.out _ wr _ rfl I.out (by decide) zp' zu).mono ?_
        rintro r w1 ⟨rfl, q1⟩
        have Q1 := Lib.hid q1
        clear q1
        go_wp2_with fail
        exact ⟨⟨k + 1, a / 2, by omega, AD, rfl, by go_num, by go_num, Q1⟩, by simp [intOf]; omega⟩
    · obtain rfl : k = n := by omega
      obtain rfl : a = 0 := ha.trans AE.out
      clear ha
      generalize upx leaf i p k = u at *
      go_wp2_with fail
      refine (rone_x k o EO.out wr I.out (by omega)).mono ?_
      rintro r w1 ⟨rfl, q1⟩
      have Q1 := Lib.hid q1
      clear q1
      go_wp2_with fail
      refine (rtag2_x wRoot o u x HX.out _ w1 _ rfl Q1.out (by decide) zo zu).mono ?_
      rintro r w2 ⟨rfl, q2⟩
      go_wp2_with fail
      go_ret2
      exact ⟨rfl, HQ.out.trans q2⟩
set_option maxHeartbeats 2000000 in
set_option maxRecDepth 100000 in
theorem rup_bad {W : World} (g off n cap : Nat) (i : Int) (leaf : ByteArray) (p : Nat → ByteArray) (w : World) (q : Q W w) (t : TR w g off n p) (hn : n ≤ 100000) (h9 : i ≤ 9223372036854775807) (l : ¬ IsUp leaf i n p) :
    Calls Tryd.prog 15 #[.string leaf, .int .i64 i, .slice (some ⟨g, off, none⟩) n cap] w fun e w' => e = .returned (.tuple #[.string ⟨#[]⟩, .int .i64 1]) ∧ Q W w' := by
  by_cases c1 : leaf.size = 16
  case neg =>
    have d1 : ((leaf.size : Int) != 16) = true := by simp; omega
    clear t l
    go_enter Tryd.func15, Tryd.ntmps15
    go_wp2_with fail
    go_ret2
    exact ⟨rfl, q⟩
  have d1 : (leaf.size : Int) = 16 := by omega
  by_cases c2 : n ≤ 4
  case neg =>
    have d2 : (4 : Int) < (n : Int) := by omega
    clear t l
    go_enter Tryd.func15, Tryd.ntmps15
    go_wp2_with fail
    go_ret2
    exact ⟨rfl, q⟩
  have d2 : (n : Int) ≤ 4 := by omega
  by_cases c3 : 0 ≤ i
  case neg =>
    have d3 : i < 0 := by omega
    clear t l
    go_enter Tryd.func15, Tryd.ntmps15
    go_wp2_with fail
    go_ret2
    exact ⟨rfl, q⟩
  obtain ⟨i, rfl⟩ := Int.eq_ofNat_of_zero_le c3
  have HQ := Lib.hid q
  have HT := Lib.hid t
  have HL := Lib.hid l
  have HZ := Lib.hid (upx_size leaf i p c1)
  have A0 : Hid (i = i / 2 ^ 0) := by show i = i / 2 ^ 0; rw [Nat.pow_zero, Nat.div_one]
  have C1 := Lib.hid c1
  clear q t l c1
  go_enter Tryd.func15, Tryd.ntmps15
  go_wp2_with fail
  go_loopw [8, 9, 10] (fun u v z wr => ∃ k a : Nat, k ≤ n ∧ Hid (a = i / 2 ^ k) ∧ Hid (∀ j, j < k → (p j).size = 16) ∧ u = .string (upx leaf i p k) ∧ v = .int .i64 a ∧ z = .int .i64 k ∧ Hid (Q w wr)) (fun _ _ z _ => n - (intOf z).toNat)
  case atStart => exact ⟨0, i, by omega, A0, Lib.hid (fun j hj => by omega), rfl, rfl, rfl, Lib.hid (Q.refl w)⟩
  case round =>
    obtain ⟨k, a, hk, HAA, J, rfl, rfl, rfl, I⟩ := hrel
    have ha := HAA.out
    clear A0
    have k0 : (0 : Int) ≤ (k : Int) := by omega
    have a0 : (0 : Int) ≤ (a : Int) := by omega
    have a9 : (a : Int) ≤ 9223372036854775807 := by have := Nat.div_le_self i (2 ^ k); rw [← ha] at this; omega
    have zu : (upx leaf i p k).size ≤ 1000000 := by rw [HZ.out k]; decide
    by_cases hlt : k < n
    · have k1 : (k : Int) < (n : Int) := by omega
      have hc := (HT.out.q I.out).r k hlt
      by_cases zz : (p k).size = 16
      · have J' : Hid (∀ j, j < k + 1 → (p j).size = 16) := fun j hj => by
          by_cases e : j = k
          · rw [e]; exact zz
          · exact J.out j (by omega)
        have zp : ((p k).size : Int) = 16 := by omega
        have zp' : (p k).size ≤ 1000000 := by omega
        have AD : Hid (a / 2 = i / 2 ^ (k + 1)) := by show a / 2 = _; rw [div_step, ← ha]
        by_cases e : a % 2 = 0
        · have em : (a : Int) % 2 = 0 := by omega
          have HS : Hid (tagS wNode (two (upx leaf i p k) (p k)) 2 = upx leaf i p (k + 1)) := by show _ = (if (i / 2 ^ k) % 2 = 0 then _ else _); rw [← ha, if_pos e]; rfl
          clear ha
          generalize upx leaf i p k = u at *
          generalize p k = y at *
          go_wp2_with fail
          refine (rtag2_x wNode u y _ HS.out _ wr _ rfl I.out (by decide) zu zp').mono ?_
          rintro r w1 ⟨rfl, q1⟩
          have Q1 := Lib.hid q1
          clear q1
          go_wp2_with fail
          exact ⟨⟨k + 1, a / 2, by omega, AD, J', rfl, by go_num, by go_num, Q1⟩, by simp [intOf]; omega⟩
        · have em : (a : Int) % 2 = 1 := by omega
          have HS : Hid (tagS wNode (two (p k) (upx leaf i p k)) 2 = upx leaf i p (k + 1)) := by show _ = (if (i / 2 ^ k) % 2 = 0 then _ else _); rw [← ha, if_neg e]; rfl
          clear ha
          generalize upx leaf i p k = u at *
          generalize p k = y at *
          go_wp2_with fail
          refine (rtag2_x wNode y u _ HS.out _ wr _ rfl I.out (by decide) zp' zu).mono ?_
          rintro r w1 ⟨rfl, q1⟩
          have Q1 := Lib.hid q1
          clear q1
          go_wp2_with fail
          exact ⟨⟨k + 1, a / 2, by omega, AD, J', rfl, by go_num, by go_num, Q1⟩, by simp [intOf]; omega⟩
      · have zp : (((p k).size : Int) != 16) = true := by simp; omega
        clear ha
        generalize upx leaf i p k = u at *
        generalize p k = y at *
        go_wp2_with fail
        go_ret2
        exact ⟨rfl, HQ.out.trans I.out⟩
    · obtain rfl : k = n := by omega
      have a1 : (0 : Int) < (a : Int) := by
        by_cases ea : a = 0
        · exfalso
          have hlt : i < 2 ^ k := by
            have := Nat.div_add_mod i (2 ^ k)
            rw [← ha, ea, Nat.mul_zero, Nat.zero_add] at this
            rw [← this]; exact Nat.mod_lt _ (pow_pos2 k)
          exact HL.out ⟨C1.out, c2, by omega, by omega, J.out⟩
        · omega
      clear ha
      generalize upx leaf i p k = u at *
      go_wp2_with fail
      go_ret2
      exact ⟨rfl, HQ.out.trans I.out⟩
end Go.Proofs.YtnghhagiokiaoaaDoor.Mer
