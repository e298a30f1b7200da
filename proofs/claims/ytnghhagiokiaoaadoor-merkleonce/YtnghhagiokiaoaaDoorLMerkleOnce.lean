/-
  For every input the law MerkleOnce (whatever is signed, and burned, in any order: each leaf signs at most once, what is signed verifies, and the leaves only go up) returns true and leaves its arguments as they were. The package's two tables are as the program's text lays them (the card ties them).
-/
import Derived.Test.YtnghhagiokiaoaaDoorMerX
namespace Go.Proofs.YtnghhagiokiaoaaDoor.merkleOnce
open Go.ChangeShapes Go.WideShapes Go.ChangeAt Go.RowKit
open Go.ChangeMaps (open_string shut_string)
open Mem Sh Wot Mer
set_option linter.unusedVariables false

/-- What a walk is told of a slice of integers that came in. -/
def IsRow (k : IntKind) (w : World) (a : Option Addr) (len cap : Nat) (zs : List Int) : Prop :=
  (a = none ∧ len = 0 ∧ cap = 0 ∧ zs = []) ∨
  ∃ x, a = some x ∧ len ≤ cap ∧ cap ≤ maxLen ∧ zs.length = cap ∧ (∀ i, i < zs.length → w.cell? (x.add i) = some (.int k (zs.getD i 0))) ∧ ∀ n ∈ zs, (Lit.int k n).wf = true
theorem rowi_at {W : World} {a : Option Addr} {len cap : Nat} {z : List Int} (h : IsRow .i64 W a len cap z) (k : Nat) (hk : k < len) : ∃ x, a = some x ∧ W.cell? (x.add k) = some (.int .i64 (z.getD k 0)) ∧ (Lit.int .i64 (z.getD k 0)).wf = true := by
  rcases h with ⟨_, h, _⟩ | ⟨x, h1, h2, h3, h4, h5, h6⟩
  · omega
  · refine ⟨x, h1, h5 k (by omega), ?_⟩
    rw [List.getD_eq_getElem?_getD, List.getElem?_eq_getElem (show k < z.length by omega)]
    exact h6 _ (List.getElem_mem _)
theorem rowi_len {W : World} {a : Option Addr} {len cap : Nat} {z : List Int} (h : IsRow .i64 W a len cap z) : len ≤ maxLen := by
  rcases h with ⟨_, h, _⟩ | ⟨x, h1, h2, h3, h4⟩
  · omega
  · omega
theorem td3 (v : Int) (h0 : -9223372036854775808 ≤ v) (h1 : v ≤ 9223372036854775807) : -9223372036854775808 ≤ v.tdiv 3 ∧ v.tdiv 3 ≤ 9223372036854775807 := by
  rcases Int.le_total 0 v with h | h
  · rw [Int.tdiv_eq_ediv_of_nonneg h]; omega
  · have e : v.tdiv 3 = -((-v).tdiv 3) := by rw [Int.neg_tdiv, Int.neg_neg]
    rw [e, Int.tdiv_eq_ediv_of_nonneg (by omega)]; omega
set_option maxHeartbeats 2000000 in
set_option maxRecDepth 100000 in
theorem walk (W : World) (hG : GL W) (s : ByteArray) (hs : s.size ≤ maxLen) (ta : Int) (wt : (Lit.int .u8 ta).wf = true) (a : Option Addr) (len cap : Nat) (z : List Int) (hr : IsRow .i64 W a len cap z) :
    Calls Tryd.prog 7 #[.string s, .int .u8 ta, .slice a len cap] W fun e W' => e = .returned (.bool true) ∧ Below W.heap.size W W' := by
  have HG := Lib.hid hG
  obtain ⟨t0, t9⟩ := bounds_u8 wt
  have HR := Lib.hid hr
  have hl9 := rowi_len hr
  unfold maxLen at hs hl9
  clear hG hr wt
  have zt := cut_le s 100 100 rfl
  obtain ⟨t, et⟩ : ∃ z, s.extract 0 (min (s.size : Int) 100).toNat = z := ⟨_, rfl⟩
  rw [et] at zt
  have ZT : Hid (t.size ≤ 100000) := by show t.size ≤ 100000; omega
  clear zt
  obtain ⟨h, eh⟩ : ∃ h : Nat, ta % 4 = (h : Int) := Int.eq_ofNat_of_zero_le (by omega)
  have h3 : h ≤ 3 := by omega
  have h4' : (h : Int) ≤ 4 := by omega
  have h64 : (h : Int) ≤ 64 := by omega
  have h0 : (0 : Int) ≤ (h : Int) := by omega
  obtain ⟨n, en⟩ : ∃ n, 2 ^ h = n := ⟨_, rfl⟩
  have e2 := pow_cast h n en
  have EN := Lib.hid en
  have n16 : n ≤ 16 := by rw [← en]; exact pow_le16 h (by omega)
  have n16' : (n : Int) ≤ 16 := by omega
  obtain ⟨r, er⟩ : ∃ z, kroot t h = z := ⟨_, rfl⟩
  have ER := Lib.hid er
  clear en er
  go_enter Tryd.func7, Tryd.ntmps7
  go_wp2_with fail
  refine (new_ok (W := W) t h n EN.out (by omega) W (Q.refl W) HG.out ZT.out).mono ?_
  rintro x w1 ⟨g, gl, cl, rfl, k1, hg, q1⟩
  have K1 := Lib.hid k1
  have Q1 := Lib.hid q1
  have LG := Lib.hid hg
  clear k1 q1 hg
  as_aux_lemma =>
  go_wp2_with fail
  go_loopw [11, 12, 13, 14, 15, 16, 17, 18, 19, 20] (fun l' i' v1 v2 v3 v4 v5 v6 v7 v8 wr => ∃ (k x : Nat) (l : Int), k ≤ 12 ∧ k ≤ len ∧ -1 ≤ l ∧ l < x ∧ x ≤ n ∧ l' = .int .i64 l ∧ i' = .int .i64 k ∧ Hid (KY wr g t h n x gl cl) ∧ Hid (Q W wr)) (fun _ i' _ _ _ _ _ _ _ _ _ => 12 - (intOf i').toNat)
  case atStart => exact ⟨0, 0, -1, by omega, by omega, by omega, by omega, by omega, rfl, rfl, K1, Q1⟩
  case round =>
    obtain ⟨k, x, l, hk12, hkl, hl0, hlx, hxn, rfl, rfl, K, I⟩ := hrel
    clear K1 Q1
    have k0 : (0 : Int) ≤ (k : Int) := by omega
    by_cases hlt : k < 12 ∧ k < len
    · obtain ⟨h12, hll⟩ := hlt
      have k12 : (k : Int) < 12 := by omega
      have kl : (k : Int) < (len : Int) := by omega
      obtain ⟨ad, rfl, hcW, hz⟩ := rowi_at HR.out k hll
      obtain ⟨v0, v9⟩ := bounds_i64 hz
      have hc : wr.cell? (ad.add k) = some (.int .i64 (z.getD k 0)) := (I.out.cell (p := ad.add k) (World.block_lt_of_cell? _ _ hcW)).trans hcW
      have HC : Hid (∀ w', Q W w' → w'.cell? (ad.add k) = some (.int .i64 (z.getD k 0))) := fun w' q => (q.cell (p := ad.add k) (World.block_lt_of_cell? _ _ hcW)).trans hcW
      clear hcW hz
      generalize z.getD k 0 = v at *
      by_cases hv : v.tmod 3 = 0
      · have hv' : v.tmod 3 = 0 := hv
        have bb := td3 v v0 v9
        obtain ⟨b, eb⟩ : ∃ b, v.tdiv 3 = b := ⟨_, rfl⟩
        rw [eb] at bb
        obtain ⟨b0, b9⟩ := bb
        go_wp2_with fail
        refine (next_q K.out).mono ?_
        rintro e _ ⟨rfl, rfl⟩
        go_wp2_with fail
        by_cases hb : 0 ≤ b ∧ b ≤ n
        · obtain ⟨hb0, hb1⟩ := hb
          obtain ⟨B, rfl⟩ := Int.eq_ofNat_of_zero_le hb0
          have hB : B ≤ n := by omega
          refine (burn_ok K.out I.out LG.out B hB).mono ?_
          rintro e w2 ⟨rfl, k2, q2, _⟩
          have K2 := Lib.hid k2
          have Q2 := Lib.hid q2
          clear k2 q2 hc K I
          as_aux_lemma =>
          go_wp2_with fail
          refine (next_q K2.out).mono ?_
          rintro e _ ⟨rfl, rfl⟩
          have em : ((max x B : Nat) : Int) = max (x : Int) (B : Int) := by omega
          as_aux_lemma =>
          go_wp2_with fail
          exact ⟨⟨k + 1, max x B, l, by omega, by omega, hl0, by omega, by omega, rfl, by go_num, K2, Q2⟩, by simp [intOf]; omega⟩
        · have hb' : b < 0 ∨ (n : Int) < b := by omega
          refine (burn_bad K.out I.out b hb').mono ?_
          rintro e w2 ⟨rfl, k2, q2, _⟩
          have K2 := Lib.hid k2
          have Q2 := Lib.hid q2
          clear k2 q2 hc K I
          by_cases hb1 : b < 0
          · have hb2 : b < 0 := hb1
            go_wp2_with fail
            refine (next_q K2.out).mono ?_
            rintro e _ ⟨rfl, rfl⟩
            as_aux_lemma =>
            go_wp2_with fail
            exact ⟨⟨k + 1, x, l, by omega, by omega, hl0, by omega, by omega, rfl, by go_num, K2, Q2⟩, by simp [intOf]; omega⟩
          · have hb2 : 0 ≤ b := by omega
            have hb3 : (n : Int) < b := by omega
            go_wp2_with fail
            refine (next_q K2.out).mono ?_
            rintro e _ ⟨rfl, rfl⟩
            as_aux_lemma =>
            go_wp2_with fail
            exact ⟨⟨k + 1, x, l, by omega, by omega, hl0, by omega, by omega, rfl, by go_num, K2, Q2⟩, by simp [intOf]; omega⟩
      · have hv' : (v.tmod 3 == 0) = false := by rw [beq_eq_false_iff_ne]; exact hv
        have cv := conv1 wr (v % 256)
        obtain ⟨m, em⟩ : ∃ m, strOfNums [v % 256] = m := ⟨_, rfl⟩
        have zm : m.size ≤ 100000 := by rw [← em, strOfNums_size]; simp
        have KA := Lib.hid (K.out.q ((Q.refl wr).alloc (.cells #[.int .u8 (v % 256)] 5)))
        have IA := Lib.hid (I.out.alloc (.cells #[.int .u8 (v % 256)] 5))
        go_wp2_with fail
        refine (next_q K.out).mono ?_
        rintro e _ ⟨rfl, rfl⟩
        go_wp2_with fail
        clear cv hc em HC
        generalize wr.alloc (.cells #[.int .u8 (v % 256)] 5) = wa at *
        clear K I
        by_cases hxn2 : x < n
        · have xn : (x : Int) < (n : Int) := by omega
          obtain ⟨sg, esg⟩ : ∃ z, ksig t h x m = z := ⟨_, rfl⟩
          have ES := Lib.hid esg
          have IS : Hid (IsSig sg h x) := by rw [← esg]; exact ksig_is t h x m (by omega) (by rw [EN.out]; exact hxn2)
          have VS : Hid (mvf r m sg = true) := by rw [← esg, ← ER.out]; exact mvf_ksig t h x m (by omega) (by rw [EN.out]; exact hxn2)
          have ZS : Hid (sg.size ≤ 1000000) := by show _ ≤ _; rw [← esg, ksig_size]; omega
          clear esg
          obtain ⟨d, ed⟩ : ∃ d, x + 1 + d = n := ⟨n - (x + 1), by omega⟩
          have ed2 : (n : Int) - (x : Int) - 1 = (d : Int) := by omega
          have ED := Lib.hid ed
          clear ed
          have x0 : (0 : Int) ≤ (x : Int) := by omega
          have td : decide (n ≤ x) = false := by simp; omega
          have hl1 : ¬ ((x : Int) ≤ l) := by omega
          refine (sign_ok KA.out IA.out HG.out LG.out m sg ES.out hxn2 ZT.out zm).mono ?_
          rintro e w2 ⟨rfl, k2, q2, _⟩
          have K2 := Lib.hid k2
          have Q2 := Lib.hid q2
          clear k2 q2 KA IA
          as_aux_lemma =>
          go_wp2_with fail
          refine (leaf_ok sg h x IS.out w2).mono ?_
          rintro e _ ⟨rfl, rfl⟩
          as_aux_lemma =>
          go_wp2_with fail
          refine (next_q K2.out).mono ?_
          rintro e _ ⟨rfl, rfl⟩
          as_aux_lemma =>
          go_wp2_with fail
          refine (left_q K2.out Q2.out d ED.out).mono ?_
          rintro e w3 ⟨rfl, k3, q3, _⟩
          have K3 := Lib.hid k3
          have Q3 := Lib.hid q3
          clear k3 q3 K2 Q2
          as_aux_lemma =>
          go_wp2_with fail
          refine (kroot_q K3.out r ER.out).mono ?_
          rintro e _ ⟨rfl, rfl⟩
          as_aux_lemma =>
          go_wp2_with fail
          refine (mverify_x (W := w3) r m sg true VS.out w3 (Q.refl w3) (HG.out.q Q3.out) zm ZS.out).mono ?_
          rintro e w4 ⟨rfl, q4⟩
          have K4 := Lib.hid (K3.out.q q4)
          have Q4 := Lib.hid (Q3.out.trans q4)
          clear q4 K3 Q3
          as_aux_lemma =>
          go_wp2_with fail
          exact ⟨⟨k + 1, x + 1, x, by omega, by omega, by omega, by omega, by omega, rfl, by go_num, K4, Q4⟩, by simp [intOf]; omega⟩
        · obtain rfl : x = n := by omega
          have td : decide (x ≤ x) = true := by simp
          refine (sign_used KA.out IA.out m rfl).mono ?_
          rintro e w2 ⟨rfl, k2, q2, _⟩
          have K2 := Lib.hid k2
          have Q2 := Lib.hid q2
          clear k2 q2 KA IA
          as_aux_lemma =>
          go_wp2_with fail
          exact ⟨⟨k + 1, x, l, by omega, by omega, hl0, by omega, by omega, rfl, by go_num, K2, Q2⟩, by simp [intOf]; omega⟩
    · by_cases h5 : k < 12
      · obtain rfl : k = len := by omega
        have td : decide (k < k) = false := by simp
        go_wp2_with fail
        refine (Mer.fixed_any wr I.out HG.out).mono ?_
        rintro e w4 ⟨rfl, q4⟩
        go_wp2_with fail
        go_ret
        exact ⟨rfl, q4⟩
      · obtain rfl : k = 12 := by omega
        have td : decide ((12 : Nat) < 12) = false := by simp
        go_wp2_with fail
        all_goals (refine (Mer.fixed_any wr I.out HG.out).mono ?_; rintro e w4 ⟨rfl, q4⟩; go_wp2_with fail; go_ret; exact ⟨rfl, q4⟩)

set_option maxRecDepth 100000 in
theorem lifted (os : Os) (started : os.Started) (H : Type) (enc : TypeId × Value → H) :
    ReturnsInHanded {} Tryd.checked os 7 .any (fun w args => (Rows.merkleOnceSpec.pre enc Tryd.prog Tryd.f7 [] false w args ∧ laidMetH Tryd.prog laid2 w) ∧ sizedMet enc Tryd.prog Tryd.f7 (OpenSpec.ofChange Rows.merkleOnceSpec) false w args)
      (Rows.merkleOnceSpec.post enc Tryd.prog Tryd.f7 false true false false) := by
  refine returnsInHanded_of_change_and (C := Tryd.checked) (X := fun w _ => laidMetH Tryd.prog laid2 w) (fun _ _ _ hh h => h.of_heap hh) own started (by kernel_rfl) Tryd.func7
    (ChangeSpec.witness_shaped (enc := enc) (C := Tryd.checked) (os := os) (X := fun w _ => laidMetH Tryd.prog laid2 w) false (World.doorLaid Tryd.prog 400 os) #[.string ⟨#[]⟩, .int .u8 0, .slice none 0 0] 8 rfl (World.shaped_of_RefB (by kernel_rfl) (by kernel_rfl)) (by kernel_rfl) (by kernel_rfl) (by kernel_rfl) (door_met os _)) ?_
  intro W base args ds gs before hval0 hW _ hsz0 hL _
  have hval : ∀ (j : Nat) t v, Tryd.f7.params[j]? = some t → args[j]? = some v → Value.okWide Tryd.prog W .any base t v := hval0
  have hW' := hW
  obtain ⟨p, q, hA0, hV, rfl, hfz, hnd⟩ := hW
  have hA : DataW.TrodAll enc Tryd.prog W 0 (fun _ => true) true Tryd.f7.params.toList args.toList ds p := hA0
  rw [Tryd.params7] at hA hval
  obtain ⟨v0, vs0, d0, ds0, p0, q0, hargs, rfl, rfl, h0, r0⟩ := trodAll_cons hA
  obtain ⟨v1, vs1, d1, ds1, p1, q1, rfl, rfl, rfl, h1, r1⟩ := trodAll_cons r0
  obtain ⟨v2, vs2, d2, ds2, p2, q2, rfl, rfl, rfl, h2, r2⟩ := trodAll_cons r1
  obtain ⟨rfl, rfl, rfl⟩ := trodAll_nil r2
  obtain rfl : args = #[v0, v1, v2] := by cases args; simp_all
  obtain ⟨rfl, rfl⟩ := trodVars_none hV
  have k0 := h0
  have lt0 : ∀ x ∈ p0, x.block < W.heap.size := by obtain ⟨m, hm⟩ := k0; exact DataW.trod_lt m _ _ _ hm
  obtain ⟨a0, rfl, e0, f0, w0⟩ := open_string Tryd.underlying9 (hval 0 9 v0 rfl rfl) h0
  have k1 := h1
  have lt1 : ∀ x ∈ p1, x.block < W.heap.size := by obtain ⟨m, hm⟩ := k1; exact DataW.trod_lt m _ _ _ hm
  obtain ⟨a1, rfl, e1, f1, w1⟩ := open_int Tryd.underlying5 (hval 1 5 v1 rfl rfl) h1
  have k2 := h2
  have lt2 : ∀ x ∈ p2, x.block < W.heap.size := by obtain ⟨m, hm⟩ := k2; exact DataW.trod_lt m _ _ _ hm
  obtain ⟨a2, len2, cap2, rfl⟩ := okWide_slice Tryd.underlying50 (hval 2 50 v2 rfl rfl)
  obtain ⟨z2, w2⟩ : ∃ zs, IsRow .i64 W a2 len2 cap2 zs := by
    obtain ⟨fuel, hf⟩ := h2
    rcases open_ints Tryd.underlying50 Tryd.underlying3 (by kernel_rfl) hf with ⟨hcs, _⟩ | ⟨x, l, c, zs, hcs, _, hl, hm, hz, _, hcell, hwz⟩
    · simp [Value.cells] at hcs
      obtain ⟨rfl, rfl, rfl⟩ := hcs
      exact ⟨[], .inl ⟨rfl, rfl, rfl, rfl⟩⟩
    · simp [Value.cells] at hcs
      obtain ⟨rfl, rfl, rfl⟩ := hcs
      exact ⟨zs, .inr ⟨_, rfl, hl, hm, by simpa using hz, hcell, hwz⟩⟩
  clear hA0 hval0
  refine (walk W (of_laid hL) a0 w0 a1 w1 a2 len2 cap2 z2 w2).mono fun e W' ⟨he, bel⟩ => ?_
  subst he
  exact ⟨_, rfl, _, _, _, [], _, [], hW', trodAll_mk1 (shut_bool Tryd.underlying4 _), (trodAll_cons_mk (Below.trod laidOut (by kernel_rfl) (of_decide_eq_true (by kernel_rfl)) k0 bel lt0) (trodAll_cons_mk (Below.trod laidOut (by kernel_rfl) (of_decide_eq_true (by kernel_rfl)) k1 bel lt1) (trodAll_cons_mk (Below.trod laidOut (by kernel_rfl) (of_decide_eq_true (by kernel_rfl)) k2 bel lt2) trodAll_mk0))), rfl, bel.frame _, fun h => by cases h⟩

theorem over : Rows.merkleOnceRow.holds Tryd.pinned (OpenSpec.ofChange Rows.merkleOnceSpec) :=
  OpenClaim.holds_of_wide 7 Tryd.f7 rfl rfl rfl rfl rfl rfl rfl ⟨rfl, rfl, rfl, rfl, rfl⟩ rfl rfl rfl rfl rfl (by kernel_rfl) Tryd.func7 (by kernel_rfl)
    (of_decide_eq_true (by kernel_rfl)) (by unfold Func.isWrapper; first | (rw [if_pos (by decide +kernel)]; kernel_rfl) | (rw [if_neg (by decide +kernel)]; exact ⟨rfl, rfl⟩))
    (fun os started H enc _ => lifted os started H enc)

theorem card : Claim7.holds Tryd.pinned (.plain (OpenSpec.ofChange Rows.merkleOnceSpec)) Rows.merkleOnceCard :=
  Claim7.holds_tied_plain_at .later [] [.data, .data] true Rows.merkleOnceCard.stood.harness false
    over (fun _ h => by cases h) (by kernel_rfl) (fun _ h => by cases h) merkleOnce_row_tie rfl ⟨rfl, rfl⟩ (by kernel_rfl) rfl
    (fun f fn hf hfn => by
      obtain rfl : f = 7 := Option.some.inj ((show Tryd.prog.funcNamed "turnstile/turnstilelaw07.MerkleOnce" = some 7 by kernel_rfl).symm.trans hf) |>.symm
      obtain rfl : fn = Tryd.f7 := (Option.some.inj (Tryd.func7.symm.trans hfn)).symm
      exact ⟨by kernel_rfl, fun j t ht => by
        rw [Tryd.params7] at ht
        have hm : t ∈ [9, 5, 50] := by simpa using Array.mem_of_getElem? ht
        have hall : ([9, 5, 50].all fun u => !Tryd.prog.wantsStandIn u) = true := by kernel_rfl
        exact (show Tryd.prog.wantsStandIn t = false by simpa using List.all_eq_true.1 hall t hm)⟩)
    (by kernel_rfl)

end Go.Proofs.YtnghhagiokiaoaaDoor.merkleOnce
namespace Go.Proofs.YtnghhagiokiaoaaDoor
theorem merkleOnce_holds : Rows.MerkleOnceCardSaid := merkleOnce.card
#print axioms merkleOnce_holds
end Go.Proofs.YtnghhagiokiaoaaDoor
