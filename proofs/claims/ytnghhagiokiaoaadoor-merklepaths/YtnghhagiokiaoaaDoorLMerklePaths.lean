/-
  For every input the law MerklePaths (the path of each leaf leads from it to the root; there are as many nodes in it as the tree is tall) returns true and leaves its arguments as they were. The package's two tables are as the program's text lays them (the card ties them).
-/
import Derived.Test.YtnghhagiokiaoaaDoorMerX
namespace Go.Proofs.YtnghhagiokiaoaaDoor.merklePaths
open Go.ChangeShapes Go.WideShapes Go.ChangeAt Go.RowKit
open Go.ChangeMaps (open_string shut_string)
open Mem Sh Wot Mer
set_option linter.unusedVariables false

theorem row_at {W : World} {a : Option Addr} {len cap : Nat} {S : Nat → ByteArray} (h : IsRowS W a len cap S) (k : Nat) (hk : k < len) : ∃ x, a = some x ∧ W.cell? (x.add k) = some (.string (S k)) ∧ (S k).size ≤ maxLen := by
  rcases h with ⟨_, h, _⟩ | ⟨x, h1, h2, h3, h4⟩
  · omega
  · exact ⟨x, h1, h4 k hk⟩
theorem row_len {W : World} {a : Option Addr} {len cap : Nat} {S : Nat → ByteArray} (h : IsRowS W a len cap S) : len ≤ maxLen := by
  rcases h with ⟨_, h, _⟩ | ⟨x, h1, h2, h3, h4⟩
  · omega
  · omega
/-- The leaves that the statement makes. -/
def mp (S : Nat → ByteArray) (len i : Nat) : ByteArray := ((if i < len then (S i).extract 0 (min ((S i).size : Int) 16).toNat else ⟨#[]⟩) ++ hX).extract 0 16
theorem hX_size : hX.size = 16 := by decide
theorem mp_in (S : Nat → ByteArray) (len k : Nat) (h : k < len) : mp S len k = ((S k).extract 0 (min ((S k).size : Int) 16).toNat ++ hX).extract 0 16 := by unfold mp; rw [if_pos h]
theorem hX_out : ((⟨#[]⟩ : ByteArray) ++ hX).extract 0 16 = hX := by decide +kernel
theorem mp_out (S : Nat → ByteArray) (len k : Nat) (h : ¬ k < len) : mp S len k = hX := by unfold mp; rw [if_neg h]; exact hX_out
theorem mp_size (S : Nat → ByteArray) (len i : Nat) : (mp S len i).size = 16 := by
  unfold mp; rw [ByteArray.size_extract, ByteArray.size_append, hX_size]; omega
theorem is_up2 {f : Nat → ByteArray} {n h : Nat} (l : IsLv f n h) (i : Nat) (hi : i < n) : IsUp (f i) i h (pth f i) :=
  ⟨l.hz i hi, l.hh, by omega, by rw [← l.hn]; omega, fun j hj => rwS_size f n l.hz j _ (fun e => by
    subst e
    rw [Nat.pow_zero, Nat.div_one]
    obtain ⟨m, em⟩ : ∃ m, n = 2 * m := ⟨2 ^ (h - 1), by rw [l.hn, show h = (h - 1) + 1 by omega, Nat.pow_succ, Nat.add_sub_cancel]; omega⟩
    rw [em]; exact sib_lt i m (by omega))⟩
set_option maxHeartbeats 2000000 in
set_option maxRecDepth 100000 in
theorem walk (W : World) (hG : GL W) (a : Option Addr) (len cap : Nat) (S : Nat → ByteArray) (hr : IsRowS W a len cap S) (ta : Int) (wt : (Lit.int .u8 ta).wf = true) :
    Calls Tryd.prog 6 #[.slice a len cap, .int .u8 ta] W fun e W' => e = .returned (.bool true) ∧ Below W.heap.size W W' := by
  have HG := Lib.hid hG
  obtain ⟨t0, t9⟩ := bounds_u8 wt
  have HR := Lib.hid hr
  have hl9 := row_len hr
  unfold maxLen at hl9
  obtain ⟨h, eh⟩ : ∃ h : Nat, ta % 5 = (h : Int) := Int.eq_ofNat_of_zero_le (by omega)
  have h4 : h ≤ 4 := by omega
  have h4' : (h : Int) ≤ 4 := by omega
  have h64 : (h : Int) ≤ 64 := by omega
  have h0 : (0 : Int) ≤ (h : Int) := by omega
  obtain ⟨n, en⟩ : ∃ n, 2 ^ h = n := ⟨_, rfl⟩
  have e2 := pow_cast h n en
  have n16 : n ≤ 16 := by rw [← en]; exact pow_le16 h h4
  have n16' : (n : Int) ≤ 16 := by omega
  have n1 : 1 ≤ n := by rw [← en]; exact pow_pos2 h
  have HL : Hid (IsLv (mp S len) n h) := ⟨h4, en.symm, fun i _ => mp_size S len i⟩
  obtain ⟨r, er⟩ : ∃ r, mroot h (mp S len) = r := ⟨_, rfl⟩
  have ER := Lib.hid er
  have zr : (r.size : Int) = 16 := by rw [← er, mroot_size]; rfl
  have O0 := Lib.hid (OT.lit W W.heap.size (mp S len) (Nat.le_refl _))
  have Q0 := Lib.hid ((Q.refl W).alloc (.cells #[] 9))
  clear hG hr wt en er
  go_enter Tryd.func6, Tryd.ntmps6
  go_wp2_with fail
  rw [eh]
  go_loopw [6, 7, 8] (fun v i s wr => ∃ k g c : Nat, k ≤ n ∧ v = .slice (some ⟨g, 0, none⟩) k c ∧ i = .int .i64 k ∧ Hid (OT wr W.heap.size g k c (mp S len)) ∧ Hid (Q W wr)) (fun _ i _ _ => n - (intOf i).toNat)
  case atStart => exact ⟨0, _, _, by omega, rfl, rfl, O0, Q0⟩
  case round =>
    obtain ⟨k, g, c, hk, rfl, rfl, O, I⟩ := hrel
    clear O0 Q0
    have k0 : (0 : Int) ≤ (k : Int) := by omega
    by_cases hlt : k < n
    · have kn : (k : Int) < (n : Int) := by omega
      by_cases hl : k < len
      · have kl : (k : Int) < (len : Int) := by omega
        obtain ⟨ad, rfl, hcW, hz⟩ := row_at HR.out k hl
        have HC : Hid (∀ w', Q W w' → w'.cell? (ad.add k) = some (.string (S k))) := fun w' q => (q.cell (p := ad.add k) (World.block_lt_of_cell? _ _ hcW)).trans hcW
        unfold maxLen at hz
        clear hcW
        have HV : Hid (mp S len k = ((S k).extract 0 (min ((S k).size : Int) 16).toNat ++ hX).extract 0 16) := mp_in S len k hl
        generalize S k = b at *
        have zy := cut_le b 16 16 rfl
        obtain ⟨y, ey⟩ : ∃ z, b.extract 0 (min (b.size : Int) 16).toNat = z := ⟨_, rfl⟩
        rw [ey] at zy HV
        have zyx : (y ++ hX).size = y.size + 16 := by rw [ByteArray.size_append, hX_size]
        obtain ⟨u, eu⟩ : ∃ u, (y ++ hX).extract 0 16 = u := ⟨_, rfl⟩
        rw [eu] at HV
        unfold hX at eu zyx
        have HS0 := HC.out _ I.out.drew
        have J0 : Hid (Q wr wr.drew) := (Q.refl wr).drew
        go_wp2_with fail
        refine wp_region_held_drew (S := fun w' => w'.cell? (ad.add k) = some (.string b)) (by kernel_rfl) HS0 (fun hHeld => ?_)
        refine wpAnyH_take (i := 0) (v := ?_) (by simp only [List.getElem?_toArray, List.getElem?_cons_zero]; rfl) (by kernel_rfl) (by kernel_rfl) (by kernel_rfl) (by exact fun _ _ _ h => h) (Or.inl ⟨by rfl, ?_⟩) (by assumption) ?_
        rotate_left
        · (intro wx hSw; (try dsimp only at hSw); go_simp; (try rw [if_neg (by omega)]); try (with_reducible rfl))
        try simp only [Act.put, List.setIfInBounds_toArray, List.set_cons_zero, List.set_cons_succ]
        refine wpAnyH_take (i := 1) (v := ?_) (by simp only [List.getElem?_toArray, List.getElem?_cons_zero, List.getElem?_cons_succ]; rfl) (by kernel_rfl) (by kernel_rfl) (by kernel_rfl) (by exact fun _ _ _ h => h) (Or.inl ⟨by rfl, ?_⟩) (by assumption) ?_
        rotate_left
        · (intro wx hSw; (try dsimp only at hSw); go_simp; (try rw [if_neg (by omega)]); try (with_reducible rfl))
        try simp only [Act.put, List.setIfInBounds_toArray, List.set_cons_zero, List.set_cons_succ]
        refine wpAnyH_take (i := 2) (v := ?_) (by simp only [List.getElem?_toArray, List.getElem?_cons_zero, List.getElem?_cons_succ]; rfl) (by kernel_rfl) (by kernel_rfl) (by kernel_rfl) (by exact fun _ _ _ h => h) (Or.inl ⟨by rfl, ?_⟩) (by assumption) ?_
        rotate_left
        · (intro wx hSw; (try dsimp only at hSw); go_simp; (try rw [if_neg (by omega)]); try (with_reducible rfl))
        try simp only [Act.put, List.setIfInBounds_toArray, List.set_cons_zero, List.set_cons_succ]
        refine wpAnyH_take (i := 3) (v := ?_) (by simp only [List.getElem?_toArray, List.getElem?_cons_zero, List.getElem?_cons_succ]; rfl) (by kernel_rfl) (by kernel_rfl) (by kernel_rfl) (by exact fun _ _ _ h => h) (Or.inl ⟨by rfl, ?_⟩) (by assumption) ?_
        rotate_left
        · (intro wx hSw; (try dsimp only at hSw); go_simp; (try rw [if_neg (by omega)]); try (with_reducible rfl))
        try simp only [Act.put, List.setIfInBounds_toArray, List.set_cons_zero, List.set_cons_succ]
        refine wpAnyH_take (i := 4) (v := ?_) (by simp only [List.getElem?_toArray, List.getElem?_cons_zero, List.getElem?_cons_succ]; rfl) (by kernel_rfl) (by kernel_rfl) (by kernel_rfl) (by exact fun _ _ _ h => h) (Or.inl ⟨by rfl, ?_⟩) (by assumption) ?_
        rotate_left
        · (intro wx hSw; (try dsimp only at hSw); go_simp; (try rw [if_neg (by omega)]); try (with_reducible rfl))
        try simp only [Act.put, List.setIfInBounds_toArray, List.set_cons_zero, List.set_cons_succ]
        refine wpAnyH_take (i := 5) (v := ?_) (by simp only [List.getElem?_toArray, List.getElem?_cons_zero, List.getElem?_cons_succ]; rfl) (by kernel_rfl) (by kernel_rfl) (by kernel_rfl) (by exact fun _ _ _ h => h) (Or.inl ⟨by rfl, ?_⟩) (by assumption) ?_
        rotate_left
        · (intro wx hSw; (try dsimp only at hSw); go_simp; (try rw [if_neg (by omega)]); try (with_reducible rfl))
        try simp only [Act.put, List.setIfInBounds_toArray, List.set_cons_zero, List.set_cons_succ]
        refine wpAnyH_take (i := 6) (v := ?_) (by simp only [List.getElem?_toArray, List.getElem?_cons_zero, List.getElem?_cons_succ]; rfl) (by kernel_rfl) (by kernel_rfl) (by kernel_rfl) (by exact fun _ _ _ h => h) (Or.inl ⟨by rfl, ?_⟩) (by assumption) ?_
        rotate_left
        · (intro wx hSw; (try dsimp only at hSw); go_simp; (try rw [if_neg (by omega)]); try (with_reducible rfl))
        try simp only [Act.put, List.setIfInBounds_toArray, List.set_cons_zero, List.set_cons_succ]
        refine wpAnyH_take (i := 7) (v := ?_) (by simp only [List.getElem?_toArray, List.getElem?_cons_zero, List.getElem?_cons_succ]; rfl) (by kernel_rfl) (by kernel_rfl) (by kernel_rfl) (by exact fun _ _ _ h => h) (Or.inl ⟨by rfl, ?_⟩) (by assumption) ?_
        rotate_left
        · (intro wx hSw; (try dsimp only at hSw); go_simp; (try rw [if_neg (by omega)]); try (with_reducible rfl))
        try simp only [Act.put, List.setIfInBounds_toArray, List.set_cons_zero, List.set_cons_succ]
        refine wpAnyH_take (i := 8) (v := ?_) (by simp only [List.getElem?_toArray, List.getElem?_cons_zero, List.getElem?_cons_succ]; rfl) (by kernel_rfl) (by kernel_rfl) (by kernel_rfl) (by exact fun _ _ _ h => h) (Or.inl ⟨by rfl, ?_⟩) (by assumption) ?_
        rotate_left
        · (intro wx hSw; (try dsimp only at hSw); go_simp; (try rw [if_neg (by omega)]); try (with_reducible rfl))
        try simp only [Act.put, List.setIfInBounds_toArray, List.set_cons_zero, List.set_cons_succ]
        refine wpAnyH_take (i := 9) (v := ?_) (by simp only [List.getElem?_toArray, List.getElem?_cons_zero, List.getElem?_cons_succ]; rfl) (by kernel_rfl) (by kernel_rfl) (by kernel_rfl) (by exact fun _ _ _ h => h) (Or.inl ⟨by rfl, ?_⟩) (by assumption) ?_
        rotate_left
        · (intro wx hSw; (try dsimp only at hSw); go_simp; (try rw [if_neg (by omega)]); try (with_reducible rfl))
        try simp only [Act.put, List.setIfInBounds_toArray, List.set_cons_zero, List.set_cons_succ]
        refine wpAnyH_take (i := 10) (v := ?_) (by simp only [List.getElem?_toArray, List.getElem?_cons_zero, List.getElem?_cons_succ]; rfl) (by kernel_rfl) (by kernel_rfl) (by kernel_rfl) (by exact fun _ _ _ h => h) (Or.inl ⟨by rfl, ?_⟩) (by assumption) ?_
        rotate_left
        · (intro wx hSw; (try dsimp only at hSw); go_simp; rw [if_pos (min_cut _ _ (by decide))])
        try simp only [Act.put, List.setIfInBounds_toArray, List.set_cons_zero, List.set_cons_succ]
        refine wpAnyH_take (i := 11) (v := ?_) (by simp only [List.getElem?_toArray, List.getElem?_cons_zero, List.getElem?_cons_succ]; rfl) (by kernel_rfl) (by kernel_rfl) (by kernel_rfl) (by exact fun _ _ _ h => h) (Or.inl ⟨by rfl, ?_⟩) (by assumption) ?_
        rotate_left
        · (intro wx hSw; (try dsimp only at hSw); go_simp; (try rw [if_neg (by omega)]); try (with_reducible rfl))
        try simp only [Act.put, List.setIfInBounds_toArray, List.set_cons_zero, List.set_cons_succ]
        refine wpAnyH_done (by kernel_rfl) ?_ _
        have OD := Lib.hid (O.out.q J0.out)
        have ID := Lib.hid I.out.drew
        clear HS0 HC ey J0 O I
        generalize wr.drew = wd at *
        go_wp2_with (at_builtin; refine append_t wd rfl _ _ rfl W.heap.size g k c (mp S len) u HV.out rfl OD.out rfl (by omega) ID.out.size ?_; intro g2 c2 w2 o2 ch2; have O2 := Lib.hid o2; have Q2 := Lib.hid (ch2.q ID.out OD.out.lo); clear o2 ch2)
        exact ⟨⟨k + 1, g2, c2, by omega, rfl, by go_num, O2, Q2⟩, by simp [intOf]; omega⟩
      · have kl : (len : Int) ≤ (k : Int) := by omega
        have HV : Hid (mp S len k = hX) := mp_out S len k hl
        have td : decide (k < len) = false := by simp; omega
        have ex : ((⟨#[]⟩ : ByteArray) ++ (⟨#[48, 49, 50, 51, 52, 53, 54, 55, 56, 57, 97, 98, 99, 100, 101, 102]⟩ : ByteArray)) = hX := by decide +kernel
        have ex2 : hX.extract 0 16 = hX := by decide +kernel
        have ex3 : (hX.size : Int) = 16 := by decide +kernel
        go_wp2_with (at_builtin; refine append_t wr rfl _ _ rfl W.heap.size g k c (mp S len) hX HV.out rfl O.out rfl (by omega) I.out.size ?_; intro g2 c2 w2 o2 ch2; have O2 := Lib.hid o2; have Q2 := Lib.hid (ch2.q I.out O.out.lo); clear o2 ch2)
        exact ⟨⟨k + 1, g2, c2, by omega, rfl, by go_num, O2, Q2⟩, by simp [intOf]; omega⟩
    · obtain rfl : k = n := by omega
      have td : decide (k < k) = false := by simp
      have T0 := Lib.hid O.out.tr
      clear O
      go_wp2_with fail
      generalize mp S len = F at *
      refine (root_x (W := wr) g k c h F r ER.out wr (Q.refl wr) (HG.out.q I.out) T0.out HL.out).mono ?_
      rintro x w1 ⟨rfl, q1⟩
      have Q1 := Lib.hid (I.out.trans q1)
      have T1 := Lib.hid (T0.out.q q1)
      clear q1 T0 I
      as_aux_lemma =>
      go_wp2_with fail
      go_loopw [11, 12, 13, 14, 15] (fun i' p' f' x' g' wr => ∃ j : Nat, j ≤ k ∧ i' = .int .i64 j ∧ Hid (Q w1 wr)) (fun i' _ _ _ _ _ => k - (intOf i').toNat)
      case atStart => exact ⟨0, by omega, rfl, Lib.hid (Q.refl w1)⟩
      case round =>
        obtain ⟨j, hj, rfl, J⟩ := hrel
        have j0 : (0 : Int) ≤ (j : Int) := by omega
        by_cases hlt : j < k
        · have jk : (j : Int) < (k : Int) := by omega
          have TJ := Lib.hid (T1.out.q J.out)
          have GJ := Lib.hid (HG.out.q (Q1.out.trans J.out))
          have EU : Hid (rtS h (upx (F j) j (pth F j) h) = r) := (up_root F h j (by rw [← HL.out.hn]; exact hlt)).trans ER.out
          go_wp2_with fail
          refine (path_x (W := wr) g k c h j F wr (Q.refl wr) GJ.out TJ.out HL.out hlt).mono ?_
          rintro x w2 ⟨gp, cp, rfl, o2, q2⟩
          have TP := Lib.hid o2.tr
          have hc := (TJ.out.q q2).r j hlt
          rw [Nat.zero_add] at hc
          have Q2 := Lib.hid (J.out.trans q2)
          have G2 := Lib.hid (GJ.out.q q2)
          have IU := Lib.hid (is_up2 HL.out j hlt)
          clear o2 q2 TJ GJ
          generalize F j = y at *
          as_aux_lemma =>
          go_wp2_with fail
          refine (up_x (W := w2) gp h cp j y (pth F j) r EU.out w2 (Q.refl w2) G2.out TP.out IU.out).mono ?_
          rintro x w3 ⟨rfl, q3⟩
          have Q3 := Lib.hid (Q2.out.trans q3)
          clear q3 Q2 hc TP
          as_aux_lemma =>
          go_wp2_with fail
          exact ⟨⟨j + 1, by omega, by go_num, Q3⟩, by simp [intOf]; omega⟩
        · obtain rfl : j = k := by omega
          have td2 : decide (j < j) = false := by simp
          go_wp2_with fail
          refine (Mer.fixed_any wr (Q1.out.trans J.out) HG.out).mono ?_
          rintro e w4 ⟨rfl, q4⟩
          go_wp2_with fail
          go_ret
          exact ⟨rfl, q4⟩

set_option maxRecDepth 100000 in
theorem lifted (os : Os) (started : os.Started) (H : Type) (enc : TypeId × Value → H) :
    ReturnsInHanded {} Tryd.checked os 6 .any (fun w args => (Rows.merklePathsSpec.pre enc Tryd.prog Tryd.f6 [] false w args ∧ laidMetH Tryd.prog laid2 w) ∧ sizedMet enc Tryd.prog Tryd.f6 (OpenSpec.ofChange Rows.merklePathsSpec) false w args)
      (Rows.merklePathsSpec.post enc Tryd.prog Tryd.f6 false true false false) := by
  refine returnsInHanded_of_change_and (C := Tryd.checked) (X := fun w _ => laidMetH Tryd.prog laid2 w) (fun _ _ _ hh h => h.of_heap hh) own started (by kernel_rfl) Tryd.func6
    (ChangeSpec.witness_shaped (enc := enc) (C := Tryd.checked) (os := os) (X := fun w _ => laidMetH Tryd.prog laid2 w) false (World.doorLaid Tryd.prog 400 os) #[.slice none 0 0, .int .u8 0] 8 rfl (World.shaped_of_RefB (by kernel_rfl) (by kernel_rfl)) (by kernel_rfl) (by kernel_rfl) (by kernel_rfl) (door_met os _)) ?_
  intro W base args ds gs before hval0 hW _ hsz0 hL _
  have hval : ∀ (j : Nat) t v, Tryd.f6.params[j]? = some t → args[j]? = some v → Value.okWide Tryd.prog W .any base t v := hval0
  have hW' := hW
  obtain ⟨p, q, hA0, hV, rfl, hfz, hnd⟩ := hW
  have hA : DataW.TrodAll enc Tryd.prog W 0 (fun _ => true) true Tryd.f6.params.toList args.toList ds p := hA0
  rw [Tryd.params6] at hA hval
  obtain ⟨v0, vs0, d0, ds0, p0, q0, hargs, rfl, rfl, h0, r0⟩ := trodAll_cons hA
  obtain ⟨v1, vs1, d1, ds1, p1, q1, rfl, rfl, rfl, h1, r1⟩ := trodAll_cons r0
  obtain ⟨rfl, rfl, rfl⟩ := trodAll_nil r1
  obtain rfl : args = #[v0, v1] := by cases args; simp_all
  obtain ⟨rfl, rfl⟩ := trodVars_none hV
  have k0 := h0
  have lt0 : ∀ x ∈ p0, x.block < W.heap.size := by obtain ⟨m, hm⟩ := k0; exact DataW.trod_lt m _ _ _ hm
  obtain ⟨a0, len0, cap0, rfl⟩ := okWide_slice Tryd.underlying22 (hval 0 22 v0 rfl rfl)
  obtain ⟨z0, w0⟩ : ∃ zs, IsRowS W a0 len0 cap0 zs := by
    obtain ⟨fuel, hf⟩ := h0
    rcases Deep.open_strs Tryd.underlying22 Tryd.underlying9 (by kernel_rfl) hf with ⟨hcs, _⟩ | ⟨x, l, c, m, S, hcs, _, hl, hm, hmm, _, hcell⟩
    · simp [Value.cells] at hcs
      obtain ⟨rfl, rfl, rfl⟩ := hcs
      exact ⟨fun _ => ByteArray.empty, .inl ⟨rfl, rfl, rfl⟩⟩
    · simp [Value.cells] at hcs
      obtain ⟨rfl, rfl, rfl⟩ := hcs
      refine ⟨S, .inr ⟨_, rfl, hl, hm, fun i hi => hcell i ?_⟩⟩
      rw [hmm]; split <;> omega
  have k1 := h1
  have lt1 : ∀ x ∈ p1, x.block < W.heap.size := by obtain ⟨m, hm⟩ := k1; exact DataW.trod_lt m _ _ _ hm
  obtain ⟨a1, rfl, e1, f1, w1⟩ := open_int Tryd.underlying5 (hval 1 5 v1 rfl rfl) h1
  clear hA0 hval0
  refine (walk W (of_laid hL) a0 len0 cap0 z0 w0 a1 w1).mono fun e W' ⟨he, bel⟩ => ?_
  subst he
  exact ⟨_, rfl, _, _, _, [], _, [], hW', trodAll_mk1 (shut_bool Tryd.underlying4 _), (trodAll_cons_mk (Below.trod laidOut (by kernel_rfl) (of_decide_eq_true (by kernel_rfl)) k0 bel lt0) (trodAll_cons_mk (Below.trod laidOut (by kernel_rfl) (of_decide_eq_true (by kernel_rfl)) k1 bel lt1) trodAll_mk0)), rfl, bel.frame _, fun h => by cases h⟩

theorem over : Rows.merklePathsRow.holds Tryd.pinned (OpenSpec.ofChange Rows.merklePathsSpec) :=
  OpenClaim.holds_of_wide 6 Tryd.f6 rfl rfl rfl rfl rfl rfl rfl ⟨rfl, rfl, rfl, rfl, rfl⟩ rfl rfl rfl rfl rfl (by kernel_rfl) Tryd.func6 (by kernel_rfl)
    (of_decide_eq_true (by kernel_rfl)) (by unfold Func.isWrapper; first | (rw [if_pos (by decide +kernel)]; kernel_rfl) | (rw [if_neg (by decide +kernel)]; exact ⟨rfl, rfl⟩))
    (fun os started H enc _ => lifted os started H enc)

theorem card : Claim7.holds Tryd.pinned (.plain (OpenSpec.ofChange Rows.merklePathsSpec)) Rows.merklePathsCard :=
  Claim7.holds_tied_plain_at .later [] [.data, .data] true Rows.merklePathsCard.stood.harness false
    over (fun _ h => by cases h) (by kernel_rfl) (fun _ h => by cases h) merklePaths_row_tie rfl ⟨rfl, rfl⟩ (by kernel_rfl) rfl
    (fun f fn hf hfn => by
      obtain rfl : f = 6 := Option.some.inj ((show Tryd.prog.funcNamed "turnstile/turnstilelaw07.MerklePaths" = some 6 by kernel_rfl).symm.trans hf) |>.symm
      obtain rfl : fn = Tryd.f6 := (Option.some.inj (Tryd.func6.symm.trans hfn)).symm
      exact ⟨by kernel_rfl, fun j t ht => by
        rw [Tryd.params6] at ht
        have hm : t ∈ [22, 5] := by simpa using Array.mem_of_getElem? ht
        have hall : ([22, 5].all fun u => !Tryd.prog.wantsStandIn u) = true := by kernel_rfl
        exact (show Tryd.prog.wantsStandIn t = false by simpa using List.all_eq_true.1 hall t hm)⟩)
    (by kernel_rfl)

end Go.Proofs.YtnghhagiokiaoaaDoor.merklePaths
namespace Go.Proofs.YtnghhagiokiaoaaDoor
theorem merklePaths_holds : Rows.MerklePathsCardSaid := merklePaths.card
#print axioms merklePaths_holds
end Go.Proofs.YtnghhagiokiaoaaDoor
