/-
  Layer 7: the document's seeded, Leaves, Sign, Leaf, Verify; Same.
-/
import Derived.Test.YtnghhagiokiaoaaDoorMer4
namespace Go.Proofs.YtnghhagiokiaoaaDoor.Mer
open Go.RowKit
open Mem Sh Wot
set_option linter.unusedVariables false

theorem rseeded_x {W : World} (s x : ByteArray) (p : Nat) (hx : sdS s p = x) (w : World) (q : Q W w) (hs : s.size ≤ 1000000) (hp : p ≤ 255) :
    Calls Tryd.prog 45 #[.string s, .int .i64 p] w fun e w' => e = .returned (.string x) ∧ Q W w' := by
  have HX : Hid (tagS wLeaf (two s (one p)) 2 = x) := hx
  obtain ⟨o, eo⟩ : ∃ o, one p = o := ⟨_, rfl⟩
  have zo : o.size ≤ 1000000 := by rw [← eo, one_size]; omega
  rw [eo] at HX
  have C1 := Lib.hid (rone_x p o eo w q hp)
  clear q eo hx
  go_enter Tryd.func45, Tryd.ntmps45
  go_wp2_with fail
  refine C1.out.mono ?_
  rintro e w1 ⟨rfl, q1⟩
  have Q1 := Lib.hid q1
  clear q1
  go_wp2_with fail
  refine (rtag2_x wLeaf s o x HX.out _ w1 _ rfl Q1.out (by decide) hs zo).mono ?_
  rintro e w2 ⟨rfl, q2⟩
  go_wp2_with fail
  go_ret
  exact ⟨rfl, q2⟩
theorem lv_key (s : ByteArray) (h : Nat) (hh : h ≤ 4) : IsLv (lfS s) (2 ^ h) h := ⟨hh, rfl, fun i _ => lfS_size s i⟩

set_option maxHeartbeats 2000000 in
set_option maxRecDepth 100000 in
theorem rleaves_any {W : World} (s : ByteArray) (h n : Nat) (hn : 2 ^ h = n) (w : World) (q : Q W w) (hs : s.size ≤ 1000000) (hh : h ≤ 4) :
    Calls Tryd.prog 19 #[.string s, .int .i64 h] w fun e w' => ∃ g' c', e = .returned (.slice (some ⟨g', 0, none⟩) n c') ∧ OT w' W.heap.size g' n c' (lfS s) ∧ Q W w' := by
  have HN := Lib.hid hn
  have n16 : n ≤ 16 := by rw [← hn]; exact pow_le16 h hh
  have O0 := Lib.hid (OT.lit w W.heap.size (lfS s) q.size)
  have Q0 := Lib.hid (q.alloc (.cells #[] 9))
  clear q hn
  go_enter Tryd.func19, Tryd.ntmps19
  go_wp2_with fail
  generalize w.heap.size = g0 at *
  generalize w.alloc (.cells #[] 9) = w0 at *
  go_loopw [5, 7] (fun p i wr => ∃ j P : Nat, j ≤ h ∧ Hid (P = 2 ^ j) ∧ p = .int .i64 P ∧ i = .int .i64 j ∧ w0 = wr) (fun _ i _ => h - (intOf i).toNat)
  case atStart => exact ⟨0, 1, by omega, Lib.hid rfl, rfl, rfl, rfl⟩
  case round =>
    obtain ⟨j, P, hj, HP, rfl, rfl, rfl⟩ := hrel
    have j0 : (0 : Int) ≤ (j : Int) := by omega
    have P16 : P ≤ 16 := by rw [HP.out]; exact pow_le16 j (by omega)
    have P16' : (P : Int) ≤ 16 := by omega
    by_cases hlt : j < h
    · have j1 : (j : Int) < (h : Int) := by omega
      have HS : Hid (2 * P = 2 ^ (j + 1)) := by show 2 * P = _; rw [HP.out, Nat.pow_succ]; omega
      go_wp2_with fail
      exact ⟨⟨j + 1, 2 * P, by omega, HS, by go_num, by go_num, trivial⟩, by simp [intOf]; omega⟩
    · obtain rfl : j = h := by omega
      obtain rfl : P = n := HP.out.trans HN.out
      clear HP HN
      have td : decide (j < j) = false := by simp
      go_wp2_with fail
      go_loopw [6, 8] (fun v i wr => ∃ k g' c' : Nat, k ≤ P ∧ v = .slice (some ⟨g', 0, none⟩) k c' ∧ i = .int .i64 k ∧ Hid (OT wr W.heap.size g' k c' (lfS s)) ∧ Hid (Q W wr)) (fun _ i _ => P - (intOf i).toNat)
      case atStart => exact ⟨0, _, _, by omega, rfl, rfl, O0, Q0⟩
      case round =>
        obtain ⟨k, g', c', hk, rfl, rfl, O, I⟩ := hrel
        clear O0 Q0
        have k0 : (0 : Int) ≤ (k : Int) := by omega
        by_cases hlt : k < P
        · have k1 : (k : Int) < (P : Int) := by omega
          obtain ⟨d, ed⟩ : ∃ d, sdS s k = d := ⟨_, rfl⟩
          have zd : d.size ≤ 1000000 := by rw [← ed, sdS_size]; decide
          obtain ⟨y, ey⟩ : ∃ y, pub d = y := ⟨_, rfl⟩
          have HV : Hid (lfS s k = y) := by show pub (sdS s k) = y; rw [ed]; exact ey
          have ED := Lib.hid ed
          have EY := Lib.hid ey
          clear ed ey
          go_wp2_with fail
          refine (rseeded_x s d k ED.out wr (Q.refl wr) hs (by omega)).mono ?_
          rintro e w1 ⟨rfl, q1⟩
          have Q1 := Lib.hid q1
          clear q1
          go_wp2_with fail
          refine (rpublic_any d y EY.out w1 Q1.out zd).mono ?_
          rintro e w2 ⟨rfl, q2⟩
          have O2 := Lib.hid (O.out.q q2)
          have Q2 := Lib.hid (I.out.trans q2)
          clear q2 Q1 O I
          go_wp2_with (at_builtin; refine append_t w2 rfl _ _ rfl W.heap.size g' k c' (lfS s) y HV.out rfl O2.out rfl (by omega) Q2.out.size ?_; intro g3 c3 w3 o3 ch3; have O3 := Lib.hid o3; have Q3 := Lib.hid (ch3.q Q2.out O2.out.lo); clear o3 ch3)
          exact ⟨⟨k + 1, g3, c3, by omega, rfl, by go_num, O3, Q3⟩, by simp [intOf]; omega⟩
        · obtain rfl : k = P := by omega
          have td2 : decide (k < k) = false := by simp
          go_wp2_with fail
          go_ret
          exact ⟨g', c', rfl, O.out, I.out⟩

/-! ### Sign -/
theorem cat_front (a : ByteArray) (f : Nat → ByteArray) (k : Nat) : (a ++ cat f k) ++ f k = a ++ cat f (k + 1) := by
  show _ = a ++ (cat f k ++ f k); rw [ByteArray.append_assoc]
theorem empty_app (a : ByteArray) : a ++ (⟨#[]⟩ : ByteArray) = a := by
  apply WideShapes.bytes_inj; rw [ByteArray.data_append]; simp
theorem pth_sz (s : ByteArray) (i : Nat) : ∀ k, (cat (pth (lfS s) i) k).size = 16 * k := cat_size _ (pth_size s i)
set_option maxHeartbeats 2000000 in
set_option maxRecDepth 100000 in
theorem rksign_x {W : World} (s m x : ByteArray) (g off n cap h i : Nat) (hx : ksig s h i m = x) (hn : 2 ^ h = n) (w : World) (q : Q W w) (t : TR w g off n (lfS s)) (hs : s.size ≤ 1000000) (hm : m.size ≤ 100000) (hh : h ≤ 4) (hi : i < n) :
    Calls Tryd.prog 24 #[.string s, .slice (some ⟨g, off, none⟩) n cap, .int .i64 i, .string m] w fun e w' => e = .returned (.string x) ∧ Q W w' := by
  have HX := Lib.hid hx
  have HQ := Lib.hid q
  have HT := Lib.hid t
  have hl : IsLv (lfS s) n h := by subst hn; exact lv_key s h hh
  have n16 := hl.n16
  have i0 : (0 : Int) ≤ (i : Int) := by omega
  obtain ⟨r, er⟩ : ∃ r, kroot s h = r := ⟨_, rfl⟩
  have ER : Hid (mroot h (lfS s) = r) := er
  obtain ⟨o, eo⟩ : ∃ o, one i = o := ⟨_, rfl⟩
  obtain ⟨d, ed⟩ : ∃ d, sdS s i = d := ⟨_, rfl⟩
  obtain ⟨M, eM⟩ : ∃ M, r ++ o ++ m = M := ⟨_, rfl⟩
  obtain ⟨G, eG⟩ : ∃ G, sgn d M = G := ⟨_, rfl⟩
  obtain ⟨F, eF⟩ : ∃ F, o ++ G = F := ⟨_, rfl⟩
  have zr : r.size = 16 := by rw [← er]; exact mroot_size _ _
  have zo : o.size = 1 := by rw [← eo, one_size]
  have zro : (r ++ o).size = 17 := by rw [ByteArray.size_append, zr, zo]
  have zd : d.size ≤ 1000000 := by rw [← ed, sdS_size]; decide
  have zG : G.size = 288 := by rw [← eG, sgn_size]
  have zF : F.size = 289 := by rw [← eF, ByteArray.size_append, zo, zG]
  have zM : M.size ≤ 1000000 := by rw [← eM, ByteArray.size_append, zro]; omega
  have EX : Hid (F ++ cat (pth (lfS s) i) h = x) := by rw [← eF, ← eG, ← eM, ← er, ← eo, ← ed]; exact hx
  have E0 : Hid (F = F ++ cat (pth (lfS s) i) 0) := (empty_app F).symm
  have EO := Lib.hid eo
  have ED := Lib.hid ed
  have EG := Lib.hid eG
  have HL := Lib.hid hl
  have HPZ := Lib.hid (pth_sz s i)
  have HPS := Lib.hid (pth_size s i)
  have HH4 := Lib.hid hh
  clear q t hx hn er eo ed eG hl
  go_enter Tryd.func24, Tryd.ntmps24
  go_wp2_with fail
  refine (rroot_x g off n cap h (lfS s) r ER.out w (Q.refl w) HT.out HL.out).mono ?_
  rintro e w1 ⟨rfl, q1⟩
  have Q1 := Lib.hid q1
  clear q1
  go_wp2_with fail
  refine (rone_x i o EO.out w1 Q1.out (by omega)).mono ?_
  rintro e w2 ⟨rfl, q2⟩
  have Q2 := Lib.hid q2
  clear q2
  go_wp2_with fail
  refine (rseeded_x s d i ED.out w2 Q2.out hs (by omega)).mono ?_
  rintro e w3 ⟨rfl, q3⟩
  have Q3 := Lib.hid q3
  clear q3
  go_wp2_with fail
  refine (rone_x i o EO.out w3 Q3.out (by omega)).mono ?_
  rintro e w4 ⟨rfl, q4⟩
  have Q4 := Lib.hid q4
  clear q4
  go_wp2_with fail
  refine (rsign_any d M G EG.out w4 Q4.out zd zM).mono ?_
  rintro e w5 ⟨rfl, q5⟩
  have Q5 := Lib.hid q5
  clear q5
  go_wp2_with fail
  refine (rpath_x (W := w5) g off n cap h i (lfS s) w5 (Q.refl w5) (HT.out.q Q5.out) HL.out hi).mono ?_
  rintro e w6 ⟨gp, cp, rfl, o6, q6⟩
  have Q6 := Lib.hid (Q5.out.trans q6)
  have T6 := Lib.hid o6.tr
  clear q6 o6 Q1 Q2 Q3 Q4 Q5 eM eF zM zd zG zro zo zr
  generalize pth (lfS s) i = P at *
  as_aux_lemma =>
  go_wp2_with fail
  go_loopw [11, 14] (fun v z wr => ∃ k : Nat, k ≤ h ∧ v = .string (F ++ cat P k) ∧ z = .int .i64 k ∧ Hid (Q w6 wr)) (fun _ z _ => h - (intOf z).toNat)
  case atStart => exact ⟨0, by omega, congrArg Value.string E0.out, rfl, Lib.hid (Q.refl w6)⟩
  case round =>
    obtain ⟨k, hk, rfl, rfl, I⟩ := hrel
    have k0 : (0 : Int) ≤ (k : Int) := by omega
    by_cases hlt : k < h
    · have k1 : (k : Int) < (h : Int) := by omega
      have hc := (T6.out.q I.out).r k hlt
      rw [Nat.zero_add] at hc
      have HS := Lib.hid (cat_front F P k)
      have zP := HPS.out k
      have zv : (F ++ cat P k).size ≤ 1000 := by have := HPZ.out k; have := HH4.out; rw [ByteArray.size_append]; omega
      generalize P k = y at *
      generalize F ++ cat P k = v at *
      go_wp2_with fail
      exact ⟨⟨k + 1, by omega, congrArg Value.string HS.out, by go_num, I⟩, by simp [intOf]; omega⟩
    · obtain rfl : k = h := by omega
      have td : decide (k < k) = false := by simp
      go_wp2_with fail
      go_ret
      exact ⟨retS EX.out, HQ.out.trans (Q6.out.trans I.out)⟩
end Go.Proofs.YtnghhagiokiaoaaDoor.Mer
