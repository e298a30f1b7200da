/-
  For every input the law MerkleSigns (the root of the key of any seed, what it signs, one message behind the other, and which leaves are left, is as the document says) returns true and leaves its arguments as they were. The package's two tables are as the program's text lays them (the card ties them).
-/
import Derived.Test.YtnghhagiokiaoaaDoorMerX
namespace Go.Proofs.YtnghhagiokiaoaaDoor.merkleSigns
open Go.ChangeShapes Go.WideShapes Go.ChangeAt Go.RowKit
open Go.ChangeMaps (open_string shut_string)
open Mem Sh Wot Mer
set_option linter.unusedVariables false

theorem row_at {W : World} {a : Option Addr} {len cap : Nat} {S : Nat → ByteArray} (h : IsRowS W a len cap S) (k : Nat) (hk : k < len) : ∃ x, a = some x ∧ W.cell? (x.add k) = some (.string (S k)) ∧ (S k).size ≤ maxLen := by
  rcases h with ⟨_, h, _⟩ | ⟨x, h1, h2, h3, h4⟩
  · omega
  · exact ⟨x, h1, h4 k hk⟩
theorem row_len {W : World} {a : Option Addr} {len cap : Nat} {S : Nat → ByteArray} (h : IsRowS W a len cap S) : len ≤ maxLen := by
  rcases h with ⟨_, h, _⟩ | ⟨x, h1, h2, h3, h4⟩
  · omega
  · omega
set_option maxHeartbeats 2000000 in
set_option maxRecDepth 100000 in
theorem walk (W : World) (hG : GL W) (s : ByteArray) (hs : s.size ≤ maxLen) (i : Int) (wi : (Lit.int .i64 i).wf = true) (a : Option Addr) (len cap : Nat) (S : Nat → ByteArray) (hr : IsRowS W a len cap S) :
    Calls Tryd.prog 4 #[.string s, .int .i64 i, .slice a len cap] W fun e W' => e = .returned (.bool true) ∧ Below W.heap.size W W' := by
  have HG := Lib.hid hG
  obtain ⟨i0, i9⟩ := bounds_i64 wi
  have HR := Lib.hid hr
  have hl9 := row_len hr
  unfold maxLen at hs hl9
  clear hG hr wi
  have zt := cut_le s 100 100 rfl
  obtain ⟨t, et⟩ : ∃ z, s.extract 0 (min (s.size : Int) 100).toNat = z := ⟨_, rfl⟩
  rw [et] at zt
  have ZT : Hid (t.size ≤ 100000) := by show t.size ≤ 100000; omega
  clear zt
  by_cases hb : i < 0 ∨ 4 < i
  · have ni : ¬ i ≤ 4 ∨ ¬ 2 < i := by omega
    by_cases h0 : i < 0
    · have d0 : ¬ (2 < i) := by omega
      go_enter Tryd.func4, Tryd.ntmps4
      go_wp2_with fail
      refine (new_bad t i (by omega) W (Q.refl W)).mono ?_
      rintro x w1 ⟨rfl, q1⟩
      have Q1 := Lib.hid q1
      clear q1
      as_aux_lemma =>
      go_wp2_with fail
      refine (Mer.fixed_any w1 Q1.out HG.out).mono ?_
      rintro x w2 ⟨rfl, q2⟩
      have Q2 := Lib.hid q2
      clear q2
      go_wp2_with fail
      go_ret
      exact ⟨rfl, Q2.out⟩
    · have d0 : 4 < i := by omega
      have d1 : 2 < i := by omega
      have d2 : 0 ≤ i := by omega
      go_enter Tryd.func4, Tryd.ntmps4
      go_wp2_with fail
      refine (new_bad t i (by omega) W (Q.refl W)).mono ?_
      rintro x w1 ⟨rfl, q1⟩
      have Q1 := Lib.hid q1
      clear q1
      as_aux_lemma =>
      go_wp2_with fail
      refine (Mer.fixed_any w1 Q1.out HG.out).mono ?_
      rintro x w2 ⟨rfl, q2⟩
      have Q2 := Lib.hid q2
      clear q2
      go_wp2_with fail
      go_ret
      exact ⟨rfl, Q2.out⟩
  · have d0 : 0 ≤ i := by omega
    have d4 : i ≤ 4 := by omega
    by_cases h2 : 2 < i
    · obtain ⟨n, en⟩ : ∃ z, 2 ^ 2 = z := ⟨_, rfl⟩
      have EN := Lib.hid en
      have n16 : n ≤ 16 := by rw [← en]; exact pow_le16 _ (by omega)
      have n1 : 1 ≤ n := by rw [← en]; exact pow_pos2 _
      clear en
      obtain ⟨r, er⟩ : ∃ z, kroot t 2 = z := ⟨_, rfl⟩
      have ER := Lib.hid er
      clear er
      go_enter Tryd.func4, Tryd.ntmps4
      go_wp2_with fail
      refine (new_ok (W := W) t 2 n EN.out (by omega) W (Q.refl W) HG.out ZT.out).mono ?_
      rintro x w1 ⟨g, gl, cl, rfl, k1, hg, q1⟩
      have K1 := Lib.hid k1
      have Q1 := Lib.hid q1
      have LG := Lib.hid hg
      clear k1 q1 hg
      as_aux_lemma =>
      go_wp2_with fail
      refine (rleaves_any (W := w1) t 2 n EN.out w1 (Q.refl w1) (by have := ZT.out; omega) (by omega)).mono ?_
      rintro x w2 ⟨gL, cL, rfl, o2, q2⟩
      have K2 := Lib.hid (K1.out.q q2)
      have Q2 := Lib.hid (Q1.out.trans q2)
      have T2 := Lib.hid o2.tr
      have NE : Hid (gL ≠ g) := by have := o2.lo; have := K1.out.lt; show _ ≠ _; omega
      clear o2 q2 K1 Q1
      go_wp2_with fail
      refine (rroot_x (W := w2) gL 0 n cL 2 (lfS t) r ER.out w2 (Q.refl w2) T2.out K2.out.lv).mono ?_
      rintro x w3 ⟨rfl, q3⟩
      have K3 := Lib.hid (K2.out.q q3)
      have Q3 := Lib.hid (Q2.out.trans q3)
      have T3 := Lib.hid (T2.out.q q3)
      clear q3 K2 Q2 T2
      as_aux_lemma =>
      go_wp2_with fail
      refine (kroot_q K3.out r ER.out).mono ?_
      rintro x _ ⟨rfl, rfl⟩
      go_wp2_with fail
      refine (next_q K3.out).mono ?_
      rintro x _ ⟨rfl, rfl⟩
      as_aux_lemma =>
      go_wp2_with fail
      go_loopw [13, 14, 15, 16] (fun i' m' s' f' wr => ∃ k x : Nat, k ≤ 5 ∧ k ≤ len ∧ Hid (x = min k n) ∧ i' = .int .i64 k ∧ Hid (KY wr g t 2 n x gl cl) ∧ Hid (TR wr gL 0 n (lfS t)) ∧ Hid (Q W wr)) (fun i' _ _ _ _ => 5 - (intOf i').toNat)
      case atStart => exact ⟨0, 0, by omega, by omega, Lib.hid (by omega), rfl, K3, T3, Q3⟩
      case round =>
        obtain ⟨k, x, hk5, hkl, EX, rfl, K, TL, I⟩ := hrel
        clear K3 T3 Q3
        have k0 : (0 : Int) ≤ (k : Int) := by omega
        by_cases hlt : k < 5 ∧ k < len
        · obtain ⟨h5, hl⟩ := hlt
          have k5 : (k : Int) < 5 := by omega
          have kl : (k : Int) < (len : Int) := by omega
          obtain ⟨ad, rfl, hcW, hz⟩ := row_at HR.out k hl
          have HC : Hid (∀ w', Q W w' → w'.cell? (ad.add k) = some (.string (S k))) := fun w' q => (q.cell (p := ad.add k) (World.block_lt_of_cell? _ _ hcW)).trans hcW
          unfold maxLen at hz
          clear hcW
          generalize S k = b at *
          have zy := cut_le b 100 100 rfl
          obtain ⟨y, ey⟩ : ∃ z, b.extract 0 (min (b.size : Int) 100).toNat = z := ⟨_, rfl⟩
          rw [ey] at zy
          have ZY : Hid (y.size ≤ 100000) := by show y.size ≤ 100000; omega
          clear zy
          have HS0 := HC.out _ I.out.drew
          have KD := Lib.hid (K.out.q (Q.refl wr).drew)
          have TD := Lib.hid (TL.out.q (Q.refl wr).drew)
          have ID := Lib.hid I.out.drew
          clear K TL I
          go_wp2_with fail
          refine wp_region_held_drew (S := fun w' => w'.cell? (ad.add k) = some (.string b)) (by kernel_rfl) HS0 (fun hHeld => ?_)
          refine wpAnyH_take (i := 0) (v := ?_) (by simp only [List.getElem?_toArray, List.getElem?_cons_zero]; rfl) (by kernel_rfl) (by kernel_rfl) (by kernel_rfl) (by exact fun _ _ _ h => h) (Or.inl ⟨by rfl, ?_⟩) (by assumption) ?_
          rotate_left
          · (intro wx hSw; (try dsimp only at hSw); go_simp; (try rw [if_neg (by omega)]); try (with_reducible rfl))
          try simp only [Act.put, List.setIfInBounds_toArray, List.set_cons_zero, List.set_cons_succ]
          refine wpAnyH_take (i := 1) (v := ?_) (by simp only [List.getElem?_toArray, List.getElem?_cons_zero, List.getElem?_cons_succ]; rfl) (by kernel_rfl) (by kernel_rfl) (by kernel_rfl) (by exact fun _ _ _ h => h) (Or.inl ⟨by rfl, ?_⟩) (by assumption) ?_
          rotate_left
          · (intro wx hSw; (try dsimp only at hSw); go_simp; (try rw [if_neg (by omega)]); try (with_reducible rfl))
          try simp only [Act.put, List.setIfInBounds_toArray, List.set_cons_zero, List.set_cons_succ]
          refine wpAnyH_take (i := 2) (v := ?_) (by simp only [List.getElem?_toArray, List.getElem?_cons_zero, List.getElem?_cons_succ]; rfl) (by kernel_rfl) (by kernel_rfl) (by kernel_rfl) (by exact fun _ _ _ h => h) (Or.inl ⟨by rfl, ?_⟩) (by assumption) ?_
          rotate_left
          · (intro wx hSw; (try dsimp only at hSw); go_simp; (try rw [if_neg (by omega)]); try (with_reducible rfl))
          try simp only [Act.put, List.setIfInBounds_toArray, List.set_cons_zero, List.set_cons_succ]
          refine wpAnyH_take (i := 3) (v := ?_) (by simp only [List.getElem?_toArray, List.getElem?_cons_zero, List.getElem?_cons_succ]; rfl) (by kernel_rfl) (by kernel_rfl) (by kernel_rfl) (by exact fun _ _ _ h => h) (Or.inl ⟨by rfl, ?_⟩) (by assumption) ?_
          rotate_left
          · (intro wx hSw; (try dsimp only at hSw); go_simp; (try rw [if_neg (by omega)]); try (with_reducible rfl))
          try simp only [Act.put, List.setIfInBounds_toArray, List.set_cons_zero, List.set_cons_succ]
          refine wpAnyH_take (i := 4) (v := ?_) (by simp only [List.getElem?_toArray, List.getElem?_cons_zero, List.getElem?_cons_succ]; rfl) (by kernel_rfl) (by kernel_rfl) (by kernel_rfl) (by exact fun _ _ _ h => h) (Or.inl ⟨by rfl, ?_⟩) (by assumption) ?_
          rotate_left
          · (intro wx hSw; (try dsimp only at hSw); go_simp; (try rw [if_neg (by omega)]); try (with_reducible rfl))
          try simp only [Act.put, List.setIfInBounds_toArray, List.set_cons_zero, List.set_cons_succ]
          refine wpAnyH_take (i := 5) (v := ?_) (by simp only [List.getElem?_toArray, List.getElem?_cons_zero, List.getElem?_cons_succ]; rfl) (by kernel_rfl) (by kernel_rfl) (by kernel_rfl) (by exact fun _ _ _ h => h) (Or.inl ⟨by rfl, ?_⟩) (by assumption) ?_
          rotate_left
          · (intro wx hSw; (try dsimp only at hSw); go_simp; (try rw [if_neg (by omega)]); try (with_reducible rfl))
          try simp only [Act.put, List.setIfInBounds_toArray, List.set_cons_zero, List.set_cons_succ]
          refine wpAnyH_take (i := 6) (v := ?_) (by simp only [List.getElem?_toArray, List.getElem?_cons_zero, List.getElem?_cons_succ]; rfl) (by kernel_rfl) (by kernel_rfl) (by kernel_rfl) (by exact fun _ _ _ h => h) (Or.inl ⟨by rfl, ?_⟩) (by assumption) ?_
          rotate_left
          · (intro wx hSw; (try dsimp only at hSw); go_simp; (try rw [if_neg (by omega)]); try (with_reducible rfl))
          try simp only [Act.put, List.setIfInBounds_toArray, List.set_cons_zero, List.set_cons_succ]
          refine wpAnyH_take (i := 7) (v := ?_) (by simp only [List.getElem?_toArray, List.getElem?_cons_zero, List.getElem?_cons_succ]; rfl) (by kernel_rfl) (by kernel_rfl) (by kernel_rfl) (by exact fun _ _ _ h => h) (Or.inl ⟨by rfl, ?_⟩) (by assumption) ?_
          rotate_left
          · (intro wx hSw; (try dsimp only at hSw); go_simp; (try rw [if_neg (by omega)]); try (with_reducible rfl))
          try simp only [Act.put, List.setIfInBounds_toArray, List.set_cons_zero, List.set_cons_succ]
          refine wpAnyH_take (i := 8) (v := ?_) (by simp only [List.getElem?_toArray, List.getElem?_cons_zero, List.getElem?_cons_succ]; rfl) (by kernel_rfl) (by kernel_rfl) (by kernel_rfl) (by exact fun _ _ _ h => h) (Or.inl ⟨by rfl, ?_⟩) (by assumption) ?_
          rotate_left
          · (intro wx hSw; (try dsimp only at hSw); go_simp; (try rw [if_neg (by omega)]); try (with_reducible rfl))
          try simp only [Act.put, List.setIfInBounds_toArray, List.set_cons_zero, List.set_cons_succ]
          refine wpAnyH_take (i := 9) (v := ?_) (by simp only [List.getElem?_toArray, List.getElem?_cons_zero, List.getElem?_cons_succ]; rfl) (by kernel_rfl) (by kernel_rfl) (by kernel_rfl) (by exact fun _ _ _ h => h) (Or.inl ⟨by rfl, ?_⟩) (by assumption) ?_
          rotate_left
          · (intro wx hSw; (try dsimp only at hSw); go_simp; (try rw [if_neg (by omega)]); try (with_reducible rfl))
          try simp only [Act.put, List.setIfInBounds_toArray, List.set_cons_zero, List.set_cons_succ]
          refine wpAnyH_take (i := 10) (v := ?_) (by simp only [List.getElem?_toArray, List.getElem?_cons_zero, List.getElem?_cons_succ]; rfl) (by kernel_rfl) (by kernel_rfl) (by kernel_rfl) (by exact fun _ _ _ h => h) (Or.inl ⟨by rfl, ?_⟩) (by assumption) ?_
          rotate_left
          · (intro wx hSw; (try dsimp only at hSw); go_simp; rw [if_pos (min_cut _ _ (by decide))])
          try simp only [Act.put, List.setIfInBounds_toArray, List.set_cons_zero, List.set_cons_succ]
          refine wpAnyH_take (i := 11) (v := ?_) (by simp only [List.getElem?_toArray, List.getElem?_cons_zero, List.getElem?_cons_succ]; rfl) (by kernel_rfl) (by kernel_rfl) (by kernel_rfl) (by exact fun _ _ _ h => h) (Or.inl ⟨by rfl, ?_⟩) (by assumption) ?_
          rotate_left
          · (intro wx hSw; (try dsimp only at hSw); go_simp; (try rw [if_neg (by omega)]); try (with_reducible rfl))
          try simp only [Act.put, List.setIfInBounds_toArray, List.set_cons_zero, List.set_cons_succ]
          refine wpAnyH_done (by kernel_rfl) ?_ _
          clear HS0 HC ey
          as_aux_lemma =>
          go_wp2_with fail
          by_cases hkn : k < n
          · obtain rfl : x = k := by have := EX.out; omega
            have kn : (x : Int) < (n : Int) := by omega
            have EX2 : Hid (x + 1 = min (x + 1) n) := by show _ = _; omega
            obtain ⟨sg, esg⟩ : ∃ z, ksig t 2 x y = z := ⟨_, rfl⟩
            have ES := Lib.hid esg
            clear esg EX
            obtain ⟨d, ed⟩ : ∃ d, x + 1 + d = n := ⟨n - (x + 1), by omega⟩
            have ed2 : (n : Int) - (x : Int) - 1 = (d : Int) := by omega
            have ed3 : wrap64 (wrap64 ((n : Int) - (x : Int)) - 1) = (d : Int) := by unfold wrap64; omega
            have ED := Lib.hid ed
            clear ed
            have td : decide (n ≤ x) = false := by simp; omega
            refine (sign_ok KD.out ID.out HG.out LG.out y sg ES.out hkn ZT.out ZY.out).mono ?_
            rintro e w4 ⟨rfl, k4, q4, ch4⟩
            have K4 := Lib.hid k4
            have Q4 := Lib.hid q4
            have T4 := Lib.hid (TD.out.keep ch4 (fun e => NE.out (by injection e with e; exact e.symm)))
            clear k4 q4 ch4 KD ID TD
            as_aux_lemma =>
            go_wp2_with fail
            refine (rksign_x (W := w4) t y sg gL 0 n cL 2 x ES.out EN.out w4 (Q.refl w4) T4.out (by have := ZT.out; omega) ZY.out (by omega) hkn).mono ?_
            rintro e w5 ⟨rfl, q5⟩
            have K5 := Lib.hid (K4.out.q q5)
            have Q5 := Lib.hid (Q4.out.trans q5)
            have T5 := Lib.hid (T4.out.q q5)
            clear q5 K4 Q4 T4
            as_aux_lemma =>
            go_wp2_with fail
            refine (next_q K5.out).mono ?_
            rintro e _ ⟨rfl, rfl⟩
            as_aux_lemma =>
            go_wp2_with fail
            refine (left_q K5.out Q5.out d ED.out).mono ?_
            rintro e w6 ⟨rfl, k6, q6, ch6⟩
            have K6 := Lib.hid k6
            have Q6 := Lib.hid q6
            have T6 := Lib.hid (T5.out.keep ch6 (fun e => NE.out (by injection e with e; exact e.symm)))
            clear k6 q6 ch6 K5 Q5 T5
            as_aux_lemma =>
            go_wp2_with fail
            exact ⟨⟨x + 1, x + 1, by omega, by omega, EX2, by go_num, K6, T6, Q6⟩, by simp [intOf]; omega⟩
          · obtain rfl : x = n := by have := EX.out; omega
            have kn : (x : Int) ≤ (k : Int) := by omega
            have EX2 : Hid (x = min (k + 1) x) := by show _ = _; omega
            have td : decide (x ≤ k) = true := by simp; omega
            refine (sign_used KD.out ID.out y rfl).mono ?_
            rintro e w4 ⟨rfl, k4, q4, ch4⟩
            have K4 := Lib.hid k4
            have Q4 := Lib.hid q4
            have T4 := Lib.hid (TD.out.keep ch4 (fun e => NE.out (by injection e with e; exact e.symm)))
            clear k4 q4 ch4 KD ID TD
            as_aux_lemma =>
            go_wp2_with fail
            refine (left_q K4.out Q4.out 0 rfl).mono ?_
            rintro e w6 ⟨rfl, k6, q6, ch6⟩
            have K6 := Lib.hid k6
            have Q6 := Lib.hid q6
            have T6 := Lib.hid (T4.out.keep ch6 (fun e => NE.out (by injection e with e; exact e.symm)))
            clear k6 q6 ch6 K4 Q4 T4
            as_aux_lemma =>
            go_wp2_with fail
            exact ⟨⟨k + 1, x, by omega, by omega, EX2, by go_num, K6, T6, Q6⟩, by simp [intOf]; omega⟩
        · by_cases h5 : k < 5
          · obtain rfl : k = len := by omega
            have td : decide (k < k) = false := by simp
            go_wp2_with fail
            refine (Mer.fixed_any wr I.out HG.out).mono ?_
            rintro e w4 ⟨rfl, q4⟩
            go_wp2_with fail
            go_ret
            exact ⟨rfl, q4⟩
          · obtain rfl : k = 5 := by omega
            have td : decide ((5 : Nat) < 5) = false := by simp
            go_wp2_with fail
            all_goals (refine (Mer.fixed_any wr I.out HG.out).mono ?_; rintro e w4 ⟨rfl, q4⟩; go_wp2_with fail; go_ret; exact ⟨rfl, q4⟩)
    · have d2 : i ≤ 2 := by omega
      obtain ⟨h, rfl⟩ := Int.eq_ofNat_of_zero_le d0
      obtain ⟨n, en⟩ : ∃ z, 2 ^ h = z := ⟨_, rfl⟩
      have EN := Lib.hid en
      have n16 : n ≤ 16 := by rw [← en]; exact pow_le16 _ (by omega)
      have n1 : 1 ≤ n := by rw [← en]; exact pow_pos2 _
      clear en
      obtain ⟨r, er⟩ : ∃ z, kroot t h = z := ⟨_, rfl⟩
      have ER := Lib.hid er
      clear er
      go_enter Tryd.func4, Tryd.ntmps4
      go_wp2_with fail
      refine (new_ok (W := W) t h n EN.out (by omega) W (Q.refl W) HG.out ZT.out).mono ?_
      rintro x w1 ⟨g, gl, cl, rfl, k1, hg, q1⟩
      have K1 := Lib.hid k1
      have Q1 := Lib.hid q1
      have LG := Lib.hid hg
      clear k1 q1 hg
      as_aux_lemma =>
      go_wp2_with fail
      refine (rleaves_any (W := w1) t h n EN.out w1 (Q.refl w1) (by have := ZT.out; omega) (by omega)).mono ?_
      rintro x w2 ⟨gL, cL, rfl, o2, q2⟩
      have K2 := Lib.hid (K1.out.q q2)
      have Q2 := Lib.hid (Q1.out.trans q2)
      have T2 := Lib.hid o2.tr
      have NE : Hid (gL ≠ g) := by have := o2.lo; have := K1.out.lt; show _ ≠ _; omega
      clear o2 q2 K1 Q1
      go_wp2_with fail
      refine (rroot_x (W := w2) gL 0 n cL h (lfS t) r ER.out w2 (Q.refl w2) T2.out K2.out.lv).mono ?_
      rintro x w3 ⟨rfl, q3⟩
      have K3 := Lib.hid (K2.out.q q3)
      have Q3 := Lib.hid (Q2.out.trans q3)
      have T3 := Lib.hid (T2.out.q q3)
      clear q3 K2 Q2 T2
      as_aux_lemma =>
      go_wp2_with fail
      refine (kroot_q K3.out r ER.out).mono ?_
      rintro x _ ⟨rfl, rfl⟩
      go_wp2_with fail
      refine (next_q K3.out).mono ?_
      rintro x _ ⟨rfl, rfl⟩
      as_aux_lemma =>
      go_wp2_with fail
      go_loopw [13, 14, 15, 16] (fun i' m' s' f' wr => ∃ k x : Nat, k ≤ 5 ∧ k ≤ len ∧ Hid (x = min k n) ∧ i' = .int .i64 k ∧ Hid (KY wr g t h n x gl cl) ∧ Hid (TR wr gL 0 n (lfS t)) ∧ Hid (Q W wr)) (fun i' _ _ _ _ => 5 - (intOf i').toNat)
      case atStart => exact ⟨0, 0, by omega, by omega, Lib.hid (by omega), rfl, K3, T3, Q3⟩
      case round =>
        obtain ⟨k, x, hk5, hkl, EX, rfl, K, TL, I⟩ := hrel
        clear K3 T3 Q3
        have k0 : (0 : Int) ≤ (k : Int) := by omega
        by_cases hlt : k < 5 ∧ k < len
        · obtain ⟨h5, hl⟩ := hlt
          have k5 : (k : Int) < 5 := by omega
          have kl : (k : Int) < (len : Int) := by omega
          obtain ⟨ad, rfl, hcW, hz⟩ := row_at HR.out k hl
          have HC : Hid (∀ w', Q W w' → w'.cell? (ad.add k) = some (.string (S k))) := fun w' q => (q.cell (p := ad.add k) (World.block_lt_of_cell? _ _ hcW)).trans hcW
          unfold maxLen at hz
          clear hcW
          generalize S k = b at *
          have zy := cut_le b 100 100 rfl
          obtain ⟨y, ey⟩ : ∃ z, b.extract 0 (min (b.size : Int) 100).toNat = z := ⟨_, rfl⟩
          rw [ey] at zy
          have ZY : Hid (y.size ≤ 100000) := by show y.size ≤ 100000; omega
          clear zy
          have HS0 := HC.out _ I.out.drew
          have KD := Lib.hid (K.out.q (Q.refl wr).drew)
          have TD := Lib.hid (TL.out.q (Q.refl wr).drew)
          have ID := Lib.hid I.out.drew
          clear K TL I
          go_wp2_with fail
          refine wp_region_held_drew (S := fun w' => w'.cell? (ad.add k) = some (.string b)) (by kernel_rfl) HS0 (fun hHeld => ?_)
          refine wpAnyH_take (i := 0) (v := ?_) (by simp only [List.getElem?_toArray, List.getElem?_cons_zero]; rfl) (by kernel_rfl) (by kernel_rfl) (by kernel_rfl) (by exact fun _ _ _ h => h) (Or.inl ⟨by rfl, ?_⟩) (by assumption) ?_
          rotate_left
          · (intro wx hSw; (try dsimp only at hSw); go_simp; (try rw [if_neg (by omega)]); try (with_reducible rfl))
          try simp only [Act.put, List.setIfInBounds_toArray, List.set_cons_zero, List.set_cons_succ]
          refine wpAnyH_take (i := 1) (v := ?_) (by simp only [List.getElem?_toArray, List.getElem?_cons_zero, List.getElem?_cons_succ]; rfl) (by kernel_rfl) (by kernel_rfl) (by kernel_rfl) (by exact fun _ _ _ h => h) (Or.inl ⟨by rfl, ?_⟩) (by assumption) ?_
          rotate_left
          · (intro wx hSw; (try dsimp only at hSw); go_simp; (try rw [if_neg (by omega)]); try (with_reducible rfl))
          try simp only [Act.put, List.setIfInBounds_toArray, List.set_cons_zero, List.set_cons_succ]
          refine wpAnyH_take (i := 2) (v := ?_) (by simp only [List.getElem?_toArray, List.getElem?_cons_zero, List.getElem?_cons_succ]; rfl) (by kernel_rfl) (by kernel_rfl) (by kernel_rfl) (by exact fun _ _ _ h => h) (Or.inl ⟨by rfl, ?_⟩) (by assumption) ?_
          rotate_left
          · (intro wx hSw; (try dsimp only at hSw); go_simp; (try rw [if_neg (by omega)]); try (with_reducible rfl))
          try simp only [Act.put, List.setIfInBounds_toArray, List.set_cons_zero, List.set_cons_succ]
          refine wpAnyH_take (i := 3) (v := ?_) (by simp only [List.getElem?_toArray, List.getElem?_cons_zero, List.getElem?_cons_succ]; rfl) (by kernel_rfl) (by kernel_rfl) (by kernel_rfl) (by exact fun _ _ _ h => h) (Or.inl ⟨by rfl, ?_⟩) (by assumption) ?_
          rotate_left
          · (intro wx hSw; (try dsimp only at hSw); go_simp; (try rw [if_neg (by omega)]); try (with_reducible rfl))
          try simp only [Act.put, List.setIfInBounds_toArray, List.set_cons_zero, List.set_cons_succ]
          refine wpAnyH_take (i := 4) (v := ?_) (by simp only [List.getElem?_toArray, List.getElem?_cons_zero, List.getElem?_cons_succ]; rfl) (by kernel_rfl) (by kernel_rfl) (by kernel_rfl) (by exact fun _ _ _ h => h) (Or.inl ⟨by rfl, ?_⟩) (by assumption) ?_
          rotate_left
          · (intro wx hSw; (try dsimp only at hSw); go_simp; (try rw [if_neg (by omega)]); try (with_reducible rfl))
          try simp only [Act.put, List.setIfInBounds_toArray, List.set_cons_zero, List.set_cons_succ]
          refine wpAnyH_take (i := 5) (v := ?_) (by simp only [List.getElem?_toArray, List.getElem?_cons_zero, List.getElem?_cons_succ]; rfl) (by kernel_rfl) (by kernel_rfl) (by kernel_rfl) (by exact fun _ _ _ h => h) (Or.inl ⟨by rfl, ?_⟩) (by assumption) ?_
          rotate_left
          · (intro wx hSw; (try dsimp only at hSw); go_simp; (try rw [if_neg (by omega)]); try (with_reducible rfl))
          try simp only [Act.put, List.setIfInBounds_toArray, List.set_cons_zero, List.set_cons_succ]
          refine wpAnyH_take (i := 6) (v := ?_) (by simp only [List.getElem?_toArray, List.getElem?_cons_zero, List.getElem?_cons_succ]; rfl) (by kernel_rfl) (by kernel_rfl) (by kernel_rfl) (by exact fun _ _ _ h => h) (Or.inl ⟨by rfl, ?_⟩) (by assumption) ?_
          rotate_left
          · (intro wx hSw; (try dsimp only at hSw); go_simp; (try rw [if_neg (by omega)]); try (with_reducible rfl))
          try simp only [Act.put, List.setIfInBounds_toArray, List.set_cons_zero, List.set_cons_succ]
          refine wpAnyH_take (i := 7) (v := ?_) (by simp only [List.getElem?_toArray, List.getElem?_cons_zero, List.getElem?_cons_succ]; rfl) (by kernel_rfl) (by kernel_rfl) (by kernel_rfl) (by exact fun _ _ _ h => h) (Or.inl ⟨by rfl, ?_⟩) (by assumption) ?_
          rotate_left
          · (intro wx hSw; (try dsimp only at hSw); go_simp; (try rw [if_neg (by omega)]); try (with_reducible rfl))
          try simp only [Act.put, List.setIfInBounds_toArray, List.set_cons_zero, List.set_cons_succ]
          refine wpAnyH_take (i := 8) (v := ?_) (by simp only [List.getElem?_toArray, List.getElem?_cons_zero, List.getElem?_cons_succ]; rfl) (by kernel_rfl) (by kernel_rfl) (by kernel_rfl) (by exact fun _ _ _ h => h) (Or.inl ⟨by rfl, ?_⟩) (by assumption) ?_
          rotate_left
          · (intro wx hSw; (try dsimp only at hSw); go_simp; (try rw [if_neg (by omega)]); try (with_reducible rfl))
          try simp only [Act.put, List.setIfInBounds_toArray, List.set_cons_zero, List.set_cons_succ]
          refine wpAnyH_take (i := 9) (v := ?_) (by simp only [List.getElem?_toArray, List.getElem?_cons_zero, List.getElem?_cons_succ]; rfl) (by kernel_rfl) (by kernel_rfl) (by kernel_rfl) (by exact fun _ _ _ h => h) (Or.inl ⟨by rfl, ?_⟩) (by assumption) ?_
          rotate_left
          · (intro wx hSw; (try dsimp only at hSw); go_simp; (try rw [if_neg (by omega)]); try (with_reducible rfl))
          try simp only [Act.put, List.setIfInBounds_toArray, List.set_cons_zero, List.set_cons_succ]
          refine wpAnyH_take (i := 10) (v := ?_) (by simp only [List.getElem?_toArray, List.getElem?_cons_zero, List.getElem?_cons_succ]; rfl) (by kernel_rfl) (by kernel_rfl) (by kernel_rfl) (by exact fun _ _ _ h => h) (Or.inl ⟨by rfl, ?_⟩) (by assumption) ?_
          rotate_left
          · (intro wx hSw; (try dsimp only at hSw); go_simp; rw [if_pos (min_cut _ _ (by decide))])
          try simp only [Act.put, List.setIfInBounds_toArray, List.set_cons_zero, List.set_cons_succ]
          refine wpAnyH_take (i := 11) (v := ?_) (by simp only [List.getElem?_toArray, List.getElem?_cons_zero, List.getElem?_cons_succ]; rfl) (by kernel_rfl) (by kernel_rfl) (by kernel_rfl) (by exact fun _ _ _ h => h) (Or.inl ⟨by rfl, ?_⟩) (by assumption) ?_
          rotate_left
          · (intro wx hSw; (try dsimp only at hSw); go_simp; (try rw [if_neg (by omega)]); try (with_reducible rfl))
          try simp only [Act.put, List.setIfInBounds_toArray, List.set_cons_zero, List.set_cons_succ]
          refine wpAnyH_done (by kernel_rfl) ?_ _
          clear HS0 HC ey
          as_aux_lemma =>
          go_wp2_with fail
          by_cases hkn : k < n
          · obtain rfl : x = k := by have := EX.out; omega
            have kn : (x : Int) < (n : Int) := by omega
            have EX2 : Hid (x + 1 = min (x + 1) n) := by show _ = _; omega
            obtain ⟨sg, esg⟩ : ∃ z, ksig t h x y = z := ⟨_, rfl⟩
            have ES := Lib.hid esg
            clear esg EX
            obtain ⟨d, ed⟩ : ∃ d, x + 1 + d = n := ⟨n - (x + 1), by omega⟩
            have ed2 : (n : Int) - (x : Int) - 1 = (d : Int) := by omega
            have ed3 : wrap64 (wrap64 ((n : Int) - (x : Int)) - 1) = (d : Int) := by unfold wrap64; omega
            have ED := Lib.hid ed
            clear ed
            have td : decide (n ≤ x) = false := by simp; omega
            refine (sign_ok KD.out ID.out HG.out LG.out y sg ES.out hkn ZT.out ZY.out).mono ?_
            rintro e w4 ⟨rfl, k4, q4, ch4⟩
            have K4 := Lib.hid k4
            have Q4 := Lib.hid q4
            have T4 := Lib.hid (TD.out.keep ch4 (fun e => NE.out (by injection e with e; exact e.symm)))
            clear k4 q4 ch4 KD ID TD
            as_aux_lemma =>
            go_wp2_with fail
            refine (rksign_x (W := w4) t y sg gL 0 n cL h x ES.out EN.out w4 (Q.refl w4) T4.out (by have := ZT.out; omega) ZY.out (by omega) hkn).mono ?_
            rintro e w5 ⟨rfl, q5⟩
            have K5 := Lib.hid (K4.out.q q5)
            have Q5 := Lib.hid (Q4.out.trans q5)
            have T5 := Lib.hid (T4.out.q q5)
            clear q5 K4 Q4 T4
            as_aux_lemma =>
            go_wp2_with fail
            refine (next_q K5.out).mono ?_
            rintro e _ ⟨rfl, rfl⟩
            as_aux_lemma =>
            go_wp2_with fail
            refine (left_q K5.out Q5.out d ED.out).mono ?_
            rintro e w6 ⟨rfl, k6, q6, ch6⟩
            have K6 := Lib.hid k6
            have Q6 := Lib.hid q6
            have T6 := Lib.hid (T5.out.keep ch6 (fun e => NE.out (by injection e with e; exact e.symm)))
            clear k6 q6 ch6 K5 Q5 T5
            as_aux_lemma =>
            go_wp2_with fail
            exact ⟨⟨x + 1, x + 1, by omega, by omega, EX2, by go_num, K6, T6, Q6⟩, by simp [intOf]; omega⟩
          · obtain rfl : x = n := by have := EX.out; omega
            have kn : (x : Int) ≤ (k : Int) := by omega
            have EX2 : Hid (x = min (k + 1) x) := by show _ = _; omega
            have td : decide (x ≤ k) = true := by simp; omega
            refine (sign_used KD.out ID.out y rfl).mono ?_
            rintro e w4 ⟨rfl, k4, q4, ch4⟩
            have K4 := Lib.hid k4
            have Q4 := Lib.hid q4
            have T4 := Lib.hid (TD.out.keep ch4 (fun e => NE.out (by injection e with e; exact e.symm)))
            clear k4 q4 ch4 KD ID TD
            as_aux_lemma =>
            go_wp2_with fail
            refine (left_q K4.out Q4.out 0 rfl).mono ?_
            rintro e w6 ⟨rfl, k6, q6, ch6⟩
            have K6 := Lib.hid k6
            have Q6 := Lib.hid q6
            have T6 := Lib.hid (T4.out.keep ch6 (fun e => NE.out (by injection e with e; exact e.symm)))
            clear k6 q6 ch6 K4 Q4 T4
            as_aux_lemma =>
            go_wp2_with fail
            exact ⟨⟨k + 1, x, by omega, by omega, EX2, by go_num, K6, T6, Q6⟩, by simp [intOf]; omega⟩
        · by_cases h5 : k < 5
          · obtain rfl : k = len := by omega
            have td : decide (k < k) = false := by simp
            go_wp2_with fail
            refine (Mer.fixed_any wr I.out HG.out).mono ?_
            rintro e w4 ⟨rfl, q4⟩
            go_wp2_with fail
            go_ret
            exact ⟨rfl, q4⟩
          · obtain rfl : k = 5 := by omega
            have td : decide ((5 : Nat) < 5) = false := by simp
            go_wp2_with fail
            all_goals (refine (Mer.fixed_any wr I.out HG.out).mono ?_; rintro e w4 ⟨rfl, q4⟩; go_wp2_with fail; go_ret; exact ⟨rfl, q4⟩)

set_option maxRecDepth 100000 in
theorem lifted (os : Os) (started : os.Started) (H : Type) (enc : TypeId × Value → H) :
    ReturnsInHanded {} Tryd.checked os 4 .any (fun w args => (Rows.merkleSignsSpec.pre enc Tryd.prog Tryd.f4 [] false w args ∧ laidMetH Tryd.prog laid2 w) ∧ sizedMet enc Tryd.prog Tryd.f4 (OpenSpec.ofChange Rows.merkleSignsSpec) false w args)
      (Rows.merkleSignsSpec.post enc Tryd.prog Tryd.f4 false true false false) := by
  refine returnsInHanded_of_change_and (C := Tryd.checked) (X := fun w _ => laidMetH Tryd.prog laid2 w) (fun _ _ _ hh h => h.of_heap hh) own started (by kernel_rfl) Tryd.func4
    (ChangeSpec.witness_shaped (enc := enc) (C := Tryd.checked) (os := os) (X := fun w _ => laidMetH Tryd.prog laid2 w) false (World.doorLaid Tryd.prog 400 os) #[.string ⟨#[]⟩, .int .i64 0, .slice none 0 0] 8 rfl (World.shaped_of_RefB (by kernel_rfl) (by kernel_rfl)) (by kernel_rfl) (by kernel_rfl) (by kernel_rfl) (door_met os _)) ?_
  intro W base args ds gs before hval0 hW _ hsz0 hL _
  have hval : ∀ (j : Nat) t v, Tryd.f4.params[j]? = some t → args[j]? = some v → Value.okWide Tryd.prog W .any base t v := hval0
  have hW' := hW
  obtain ⟨p, q, hA0, hV, rfl, hfz, hnd⟩ := hW
  have hA : DataW.TrodAll enc Tryd.prog W 0 (fun _ => true) true Tryd.f4.params.toList args.toList ds p := hA0
  rw [Tryd.params4] at hA hval
  obtain ⟨v0, vs0, d0, ds0, p0, q0, hargs, rfl, rfl, h0, r0⟩ := trodAll_cons hA
  obtain ⟨v1, vs1, d1, ds1, p1, q1, rfl, rfl, rfl, h1, r1⟩ := trodAll_cons r0
  obtain ⟨v2, vs2, d2, ds2, p2, q2, rfl, rfl, rfl, h2, r2⟩ := trodAll_cons r1
  obtain ⟨rfl, rfl, rfl⟩ := trodAll_nil r2
  obtain rfl : args = #[v0, v1, v2] := by cases args; simp_all
  obtain ⟨rfl, rfl⟩ := trodVars_none hV
  have k0 := h0
  have lt0 : ∀ x ∈ p0, x.block < W.heap.size := by obtain ⟨m, hm⟩ := k0; exact DataW.trod_lt m _ _ _ hm
  obtain ⟨a0, rfl, e0, f0, w0⟩ := open_string Tryd.underlying9 (hval 0 9 v0 rfl rfl) h0
  have k1 := h1
  have lt1 : ∀ x ∈ p1, x.block < W.heap.size := by obtain ⟨m, hm⟩ := k1; exact DataW.trod_lt m _ _ _ hm
  obtain ⟨a1, rfl, e1, f1, w1⟩ := open_int Tryd.underlying3 (hval 1 3 v1 rfl rfl) h1
  have k2 := h2
  have lt2 : ∀ x ∈ p2, x.block < W.heap.size := by obtain ⟨m, hm⟩ := k2; exact DataW.trod_lt m _ _ _ hm
  obtain ⟨a2, len2, cap2, rfl⟩ := okWide_slice Tryd.underlying22 (hval 2 22 v2 rfl rfl)
  obtain ⟨z2, w2⟩ : ∃ zs, IsRowS W a2 len2 cap2 zs := by
    obtain ⟨fuel, hf⟩ := h2
    rcases Deep.open_strs Tryd.underlying22 Tryd.underlying9 (by kernel_rfl) hf with ⟨hcs, _⟩ | ⟨x, l, c, m, S, hcs, _, hl, hm, hmm, _, hcell⟩
    · simp [Value.cells] at hcs
      obtain ⟨rfl, rfl, rfl⟩ := hcs
      exact ⟨fun _ => ByteArray.empty, .inl ⟨rfl, rfl, rfl⟩⟩
    · simp [Value.cells] at hcs
      obtain ⟨rfl, rfl, rfl⟩ := hcs
      refine ⟨S, .inr ⟨_, rfl, hl, hm, fun i hi => hcell i ?_⟩⟩
      rw [hmm]; split <;> omega
  clear hA0 hval0
  refine (walk W (of_laid hL) a0 w0 a1 w1 a2 len2 cap2 z2 w2).mono fun e W' ⟨he, bel⟩ => ?_
  subst he
  exact ⟨_, rfl, _, _, _, [], _, [], hW', trodAll_mk1 (shut_bool Tryd.underlying4 _), (trodAll_cons_mk (Below.trod laidOut (by kernel_rfl) (of_decide_eq_true (by kernel_rfl)) k0 bel lt0) (trodAll_cons_mk (Below.trod laidOut (by kernel_rfl) (of_decide_eq_true (by kernel_rfl)) k1 bel lt1) (trodAll_cons_mk (Below.trod laidOut (by kernel_rfl) (of_decide_eq_true (by kernel_rfl)) k2 bel lt2) trodAll_mk0))), rfl, bel.frame _, fun h => by cases h⟩

theorem over : Rows.merkleSignsRow.holds Tryd.pinned (OpenSpec.ofChange Rows.merkleSignsSpec) :=
  OpenClaim.holds_of_wide 4 Tryd.f4 rfl rfl rfl rfl rfl rfl rfl ⟨rfl, rfl, rfl, rfl, rfl⟩ rfl rfl rfl rfl rfl (by kernel_rfl) Tryd.func4 (by kernel_rfl)
    (of_decide_eq_true (by kernel_rfl)) (by unfold Func.isWrapper; first | (rw [if_pos (by decide +kernel)]; kernel_rfl) | (rw [if_neg (by decide +kernel)]; exact ⟨rfl, rfl⟩))
    (fun os started H enc _ => lifted os started H enc)

theorem card : Claim7.holds Tryd.pinned (.plain (OpenSpec.ofChange Rows.merkleSignsSpec)) Rows.merkleSignsCard :=
  Claim7.holds_tied_plain_at .later [] [.data, .data] true Rows.merkleSignsCard.stood.harness false
    over (fun _ h => by cases h) (by kernel_rfl) (fun _ h => by cases h) merkleSigns_row_tie rfl ⟨rfl, rfl⟩ (by kernel_rfl) rfl
    (fun f fn hf hfn => by
      obtain rfl : f = 4 := Option.some.inj ((show Tryd.prog.funcNamed "turnstile/turnstilelaw07.MerkleSigns" = some 4 by kernel_rfl).symm.trans hf) |>.symm
      obtain rfl : fn = Tryd.f4 := (Option.some.inj (Tryd.func4.symm.trans hfn)).symm
      exact ⟨by kernel_rfl, fun j t ht => by
        rw [Tryd.params4] at ht
        have hm : t ∈ [9, 3, 22] := by simpa using Array.mem_of_getElem? ht
        have hall : ([9, 3, 22].all fun u => !Tryd.prog.wantsStandIn u) = true := by kernel_rfl
        exact (show Tryd.prog.wantsStandIn t = false by simpa using List.all_eq_true.1 hall t hm)⟩)
    (by kernel_rfl)

end Go.Proofs.YtnghhagiokiaoaaDoor.merkleSigns
namespace Go.Proofs.YtnghhagiokiaoaaDoor
theorem merkleSigns_holds : Rows.MerkleSignsCardSaid := merkleSigns.card
#print axioms merkleSigns_holds
end Go.Proofs.YtnghhagiokiaoaaDoor
