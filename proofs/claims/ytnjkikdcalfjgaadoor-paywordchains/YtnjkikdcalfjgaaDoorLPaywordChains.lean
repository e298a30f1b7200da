/-
  For every input the law PaywordChains (each token of a chain of any seed, and its anchor, or that there is none) returns true and leaves its arguments as they were. The package's two tables are as the program's text lays them (the card ties them).
-/
import Derived.Test.YtnjkikdcalfjgaaDoorPay5
namespace Go.Proofs.YtnjkikdcalfjgaaDoor.paywordChains
open Go.ChangeShapes Go.WideShapes Go.ChangeAt Go.RowKit
open Go.ChangeMaps (open_string shut_string)
open Mem Sh Num Pay
set_option linter.unusedVariables false

set_option maxHeartbeats 2000000 in
set_option maxRecDepth 100000 in
theorem walk (W : World) (hG : GL W) (s : ByteArray) (hs : s.size ≤ maxLen) (n : Int) (wn : (Lit.int .i64 n).wf = true) (i : Int) (wi : (Lit.int .i64 i).wf = true) :
    Calls Tryd.prog 3 #[.string s, .int .i64 n, .int .i64 i] W fun e W' => e = .returned (.bool true) ∧ Below W.heap.size W W' := by
  have HG := Lib.hid hG
  clear hG
  obtain ⟨b0, b1⟩ := bounds_i64 wn
  obtain ⟨i0, i1⟩ := bounds_i64 wi
  unfold maxLen at hs
  have ht := cut_le s 300 300 rfl
  obtain ⟨t, het⟩ : ∃ t, s.extract 0 (min (s.size : Int) 300).toNat = t := ⟨_, rfl⟩
  have HS : Hid (t.size ≤ 1000000) := by show t.size ≤ 1000000; rw [← het]; omega
  clear ht wn wi
  by_cases h1 : n < 1
  · go_enter Tryd.func3, Tryd.ntmps3
    go_wp2_with fail
    refine (new_bad t n W (Q.refl W) (by omega)).mono ?_
    rintro x w1 ⟨rfl, q1⟩
    have Q1 := Lib.hid q1
    clear q1
    go_wp2_with fail
    refine (fixed_any w1 Q1.out HG.out).mono ?_
    rintro x w2 ⟨rfl, q2⟩
    have Q2 := Lib.hid q2
    clear q2
    go_wp2_with fail
    go_ret
    exact ⟨rfl, Q2.out⟩
  · by_cases h2 : 4096 < n
    · have h300 : 300 < n := by omega
      have h1' : 1 ≤ n := by omega
      go_enter Tryd.func3, Tryd.ntmps3
      go_wp2_with fail
      refine (new_bad t n W (Q.refl W) (by omega)).mono ?_
      rintro x w1 ⟨rfl, q1⟩
      have Q1 := Lib.hid q1
      clear q1
      go_wp2_with fail
      refine (fixed_any w1 Q1.out HG.out).mono ?_
      rintro x w2 ⟨rfl, q2⟩
      have Q2 := Lib.hid q2
      clear q2
      go_wp2_with fail
      go_ret
      exact ⟨rfl, Q2.out⟩
    · by_cases h3 : 300 < n
      · have h2' : n ≤ 4096 := by omega
        obtain ⟨s', hs'⟩ : ∃ z, seedS t = z := ⟨_, rfl⟩
        have HSD := Lib.hid hs'
        have HZ : Hid (s'.size = 16) := by rw [← hs']; exact seedS_size t
        clear hs'
        obtain ⟨a, ha⟩ : ∃ z, farS s' 300 = z := ⟨_, rfl⟩
        have HA := Lib.hid ha
        clear ha
        have HN := Lib.hid (new_ok t 300 W (Q.refl W) HG.out (by omega) (by omega) HS.out)
        rw [HSD.out] at HN
        go_enter Tryd.func3, Tryd.ntmps3
        go_wp2_with fail
        refine HN.out.mono ?_
        rintro x w1 ⟨g, rfl, hc1, q1⟩
        have QW := Lib.hid q1
        have G1 := Lib.hid (HG.out.q q1)
        have C1 := Lib.hid hc1
        clear hc1 q1 HN
        as_aux_lemma =>
        go_wp2_with fail
        refine (len_any g s' 300 w1 C1.out (by omega)).mono ?_
        rintro x _ ⟨rfl, rfl⟩
        go_wp2_with fail
        refine (anchor_x g s' a 300 HA.out w1 C1.out (by omega)).mono ?_
        rintro x _ ⟨rfl, rfl⟩
        go_wp2_with fail
        refine (rtoken_x t a 300 0 (by rw [HSD.out]; exact HA.out) w1 (Q.refl w1) HS.out (by omega) (by omega)).mono ?_
        rintro x w2 ⟨rfl, q2⟩
        have Q2 := Lib.hid q2
        clear q2
        go_wp2_with fail
        by_cases hib : i < 0 ∨ (300 : Int) < i
        · have tb := hib
          rcases hib with hi' | hi'
          · refine (token_bad g s' 300 i w2 (C1.out.q Q2.out) (by omega) tb).mono ?_
            rintro x _ ⟨rfl, rfl⟩
            go_wp2_with fail
            refine (fixed_any w2 Q2.out G1.out).mono ?_
            rintro x w3 ⟨rfl, q3⟩
            have Q3 := Lib.hid q3
            clear q3
            go_wp2_with fail
            go_ret
            exact ⟨rfl, QW.out.trans Q3.out⟩
          · have hi'' : 0 ≤ i := by omega
            refine (token_bad g s' 300 i w2 (C1.out.q Q2.out) (by omega) tb).mono ?_
            rintro x _ ⟨rfl, rfl⟩
            go_wp2_with fail
            refine (fixed_any w2 Q2.out G1.out).mono ?_
            rintro x w3 ⟨rfl, q3⟩
            have Q3 := Lib.hid q3
            clear q3
            go_wp2_with fail
            go_ret
            exact ⟨rfl, QW.out.trans Q3.out⟩
        · obtain ⟨j, rfl⟩ := Int.eq_ofNat_of_zero_le (show 0 ≤ i by omega)
          have j0 : (0 : Int) ≤ (j : Int) := by omega
          have j1 : (j : Int) ≤ (300 : Int) := by omega
          obtain ⟨b, hb⟩ : ∃ z, farS s' (300 - j) = z := ⟨_, rfl⟩
          have HB := Lib.hid hb
          have ZB : Hid (b.size ≤ 1000000) := by show b.size ≤ 1000000; rw [← hb, farS_size s' HZ.out]; decide
          clear hb
          obtain ⟨y, hy⟩ : ∃ z, nextS b = z := ⟨_, rfl⟩
          have HY := Lib.hid hy
          clear hy
          refine (token_x g s' b 300 j HB.out w2 (C1.out.q Q2.out) (by omega) (by omega)).mono ?_
          rintro x _ ⟨rfl, rfl⟩
          go_wp2_with fail
          refine (rtoken_x t b 300 j (by rw [HSD.out]; exact HB.out) w2 Q2.out HS.out (by omega) (by omega)).mono ?_
          rintro x w3 ⟨rfl, q3⟩
          have Q3 := Lib.hid q3
          clear q3
          go_wp2_with fail
          refine (next_x b y HY.out w3 Q3.out G1.out ZB.out).mono ?_
          rintro x w4 ⟨rfl, q4⟩
          have Q4 := Lib.hid q4
          clear q4
          go_wp2_with fail
          refine (rnext_x b y HY.out w4 Q4.out ZB.out).mono ?_
          rintro x w5 ⟨rfl, q5⟩
          have Q5 := Lib.hid q5
          clear q5
          go_wp2_with fail
          refine (fixed_any w5 Q5.out G1.out).mono ?_
          rintro x w6 ⟨rfl, q6⟩
          have Q6 := Lib.hid q6
          clear q6
          go_wp2_with fail
          go_ret
          exact ⟨rfl, QW.out.trans Q6.out⟩
      · obtain ⟨m, rfl⟩ := Int.eq_ofNat_of_zero_le (show 0 ≤ n by omega)
        have m1 : (1 : Int) ≤ (m : Int) := by omega
        have m2 : (m : Int) ≤ 300 := by omega
        obtain ⟨s', hs'⟩ : ∃ z, seedS t = z := ⟨_, rfl⟩
        have HSD := Lib.hid hs'
        have HZ : Hid (s'.size = 16) := by rw [← hs']; exact seedS_size t
        clear hs'
        obtain ⟨a, ha⟩ : ∃ z, farS s' m = z := ⟨_, rfl⟩
        have HA := Lib.hid ha
        clear ha
        have HN := Lib.hid (new_ok t m W (Q.refl W) HG.out (by omega) (by omega) HS.out)
        rw [HSD.out] at HN
        go_enter Tryd.func3, Tryd.ntmps3
        go_wp2_with fail
        refine HN.out.mono ?_
        rintro x w1 ⟨g, rfl, hc1, q1⟩
        have QW := Lib.hid q1
        have G1 := Lib.hid (HG.out.q q1)
        have C1 := Lib.hid hc1
        clear hc1 q1 HN
        as_aux_lemma =>
        go_wp2_with fail
        refine (len_any g s' m w1 C1.out (by omega)).mono ?_
        rintro x _ ⟨rfl, rfl⟩
        go_wp2_with fail
        refine (anchor_x g s' a m HA.out w1 C1.out (by omega)).mono ?_
        rintro x _ ⟨rfl, rfl⟩
        go_wp2_with fail
        refine (rtoken_x t a m 0 (by rw [HSD.out]; exact HA.out) w1 (Q.refl w1) HS.out (by omega) (by omega)).mono ?_
        rintro x w2 ⟨rfl, q2⟩
        have Q2 := Lib.hid q2
        clear q2
        go_wp2_with fail
        by_cases hib : i < 0 ∨ (m : Int) < i
        · have tb := hib
          rcases hib with hi' | hi'
          · refine (token_bad g s' m i w2 (C1.out.q Q2.out) (by omega) tb).mono ?_
            rintro x _ ⟨rfl, rfl⟩
            go_wp2_with fail
            refine (fixed_any w2 Q2.out G1.out).mono ?_
            rintro x w3 ⟨rfl, q3⟩
            have Q3 := Lib.hid q3
            clear q3
            go_wp2_with fail
            go_ret
            exact ⟨rfl, QW.out.trans Q3.out⟩
          · have hi'' : 0 ≤ i := by omega
            refine (token_bad g s' m i w2 (C1.out.q Q2.out) (by omega) tb).mono ?_
            rintro x _ ⟨rfl, rfl⟩
            go_wp2_with fail
            refine (fixed_any w2 Q2.out G1.out).mono ?_
            rintro x w3 ⟨rfl, q3⟩
            have Q3 := Lib.hid q3
            clear q3
            go_wp2_with fail
            go_ret
            exact ⟨rfl, QW.out.trans Q3.out⟩
        · obtain ⟨j, rfl⟩ := Int.eq_ofNat_of_zero_le (show 0 ≤ i by omega)
          have j0 : (0 : Int) ≤ (j : Int) := by omega
          have j1 : (j : Int) ≤ (m : Int) := by omega
          obtain ⟨b, hb⟩ : ∃ z, farS s' (m - j) = z := ⟨_, rfl⟩
          have HB := Lib.hid hb
          have ZB : Hid (b.size ≤ 1000000) := by show b.size ≤ 1000000; rw [← hb, farS_size s' HZ.out]; decide
          clear hb
          obtain ⟨y, hy⟩ : ∃ z, nextS b = z := ⟨_, rfl⟩
          have HY := Lib.hid hy
          clear hy
          refine (token_x g s' b m j HB.out w2 (C1.out.q Q2.out) (by omega) (by omega)).mono ?_
          rintro x _ ⟨rfl, rfl⟩
          go_wp2_with fail
          refine (rtoken_x t b m j (by rw [HSD.out]; exact HB.out) w2 Q2.out HS.out (by omega) (by omega)).mono ?_
          rintro x w3 ⟨rfl, q3⟩
          have Q3 := Lib.hid q3
          clear q3
          go_wp2_with fail
          refine (next_x b y HY.out w3 Q3.out G1.out ZB.out).mono ?_
          rintro x w4 ⟨rfl, q4⟩
          have Q4 := Lib.hid q4
          clear q4
          go_wp2_with fail
          refine (rnext_x b y HY.out w4 Q4.out ZB.out).mono ?_
          rintro x w5 ⟨rfl, q5⟩
          have Q5 := Lib.hid q5
          clear q5
          go_wp2_with fail
          refine (fixed_any w5 Q5.out G1.out).mono ?_
          rintro x w6 ⟨rfl, q6⟩
          have Q6 := Lib.hid q6
          clear q6
          go_wp2_with fail
          go_ret
          exact ⟨rfl, QW.out.trans Q6.out⟩

set_option maxRecDepth 100000 in
theorem lifted (os : Os) (started : os.Started) (H : Type) (enc : TypeId × Value → H) :
    ReturnsInHanded {} Tryd.checked os 3 .any (fun w args => (Rows.paywordChainsSpec.pre enc Tryd.prog Tryd.f3 [] false w args ∧ laidMetH Tryd.prog laid2 w) ∧ sizedMet enc Tryd.prog Tryd.f3 (OpenSpec.ofChange Rows.paywordChainsSpec) false w args)
      (Rows.paywordChainsSpec.post enc Tryd.prog Tryd.f3 false true false false) := by
  refine returnsInHanded_of_change_and (C := Tryd.checked) (X := fun w _ => laidMetH Tryd.prog laid2 w) (fun _ _ _ hh h => h.of_heap hh) own started (by kernel_rfl) Tryd.func3
    (ChangeSpec.witness_shaped (enc := enc) (C := Tryd.checked) (os := os) (X := fun w _ => laidMetH Tryd.prog laid2 w) false (World.doorLaid Tryd.prog 400 os) #[.string ⟨#[]⟩, .int .i64 0, .int .i64 0] 8 rfl (World.shaped_of_RefB (by kernel_rfl) (by kernel_rfl)) (by kernel_rfl) (by kernel_rfl) (by kernel_rfl) (door_met os _)) ?_
  intro W base args ds gs before hval0 hW _ _ hL _
  have hval : ∀ (j : Nat) t v, Tryd.f3.params[j]? = some t → args[j]? = some v → Value.okWide Tryd.prog W .any base t v := hval0
  have hW' := hW
  obtain ⟨p, q, hA0, hV, rfl, hfz, hnd⟩ := hW
  have hA : DataW.TrodAll enc Tryd.prog W 0 (fun _ => true) true Tryd.f3.params.toList args.toList ds p := hA0
  rw [Tryd.params3] at hA hval
  obtain ⟨v0, vs0, d0, ds0, p0, q0, hargs, rfl, rfl, h0, r0⟩ := trodAll_cons hA
  obtain ⟨v1, vs1, d1, ds1, p1, q1, rfl, rfl, rfl, h1, r1⟩ := trodAll_cons r0
  obtain ⟨v2, vs2, d2, ds2, p2, q2, rfl, rfl, rfl, h2, r2⟩ := trodAll_cons r1
  obtain ⟨rfl, rfl, rfl⟩ := trodAll_nil r2
  obtain rfl : args = #[v0, v1, v2] := by cases args; simp_all
  obtain ⟨rfl, rfl⟩ := trodVars_none hV
  have k0 := h0
  have lt0 : ∀ x ∈ p0, x.block < W.heap.size := by obtain ⟨m, hm⟩ := k0; exact DataW.trod_lt m _ _ _ hm
  obtain ⟨a0, rfl, e0, f0, w0⟩ := open_string Tryd.underlying9 (hval 0 9 v0 rfl rfl) h0
  have k1 := h1
  have lt1 : ∀ x ∈ p1, x.block < W.heap.size := by obtain ⟨m, hm⟩ := k1; exact DataW.trod_lt m _ _ _ hm
  obtain ⟨a1, rfl, e1, f1, w1⟩ := open_int Tryd.underlying3 (hval 1 3 v1 rfl rfl) h1
  have k2 := h2
  have lt2 : ∀ x ∈ p2, x.block < W.heap.size := by obtain ⟨m, hm⟩ := k2; exact DataW.trod_lt m _ _ _ hm
  obtain ⟨a2, rfl, e2, f2, w2⟩ := open_int Tryd.underlying3 (hval 2 3 v2 rfl rfl) h2
  clear hA0 hval0
  refine (walk W (of_laid hL) a0 w0 a1 w1 a2 w2).mono fun e W' ⟨he, bel⟩ => ?_
  subst he
  exact ⟨_, rfl, _, _, _, [], _, [], hW', trodAll_mk1 (shut_bool Tryd.underlying4 _), (trodAll_cons_mk (Below.trod laidOut (by kernel_rfl) (of_decide_eq_true (by kernel_rfl)) k0 bel lt0) (trodAll_cons_mk (Below.trod laidOut (by kernel_rfl) (of_decide_eq_true (by kernel_rfl)) k1 bel lt1) (trodAll_cons_mk (Below.trod laidOut (by kernel_rfl) (of_decide_eq_true (by kernel_rfl)) k2 bel lt2) trodAll_mk0))), rfl, bel.frame _, fun h => by cases h⟩

theorem over : Rows.paywordChainsRow.holds Tryd.pinned (OpenSpec.ofChange Rows.paywordChainsSpec) :=
  OpenClaim.holds_of_wide 3 Tryd.f3 rfl rfl rfl rfl rfl rfl rfl ⟨rfl, rfl, rfl, rfl, rfl⟩ rfl rfl rfl rfl rfl (by kernel_rfl) Tryd.func3 (by kernel_rfl)
    (of_decide_eq_true (by kernel_rfl)) (by unfold Func.isWrapper; first | (rw [if_pos (by decide +kernel)]; kernel_rfl) | (rw [if_neg (by decide +kernel)]; exact ⟨rfl, rfl⟩))
    (fun os started H enc _ => lifted os started H enc)

theorem card : Claim7.holds Tryd.pinned (.plain (OpenSpec.ofChange Rows.paywordChainsSpec)) Rows.paywordChainsCard :=
  Claim7.holds_tied_plain_at .later [] [.data, .data] true Rows.paywordChainsCard.stood.harness false
    over (fun _ h => by cases h) (by kernel_rfl) (fun _ h => by cases h) paywordChains_row_tie rfl ⟨rfl, rfl⟩ (by kernel_rfl) rfl
    (fun f fn hf hfn => by
      obtain rfl : f = 3 := Option.some.inj ((show Tryd.prog.funcNamed "turnstile/turnstilelaw04.PaywordChains" = some 3 by kernel_rfl).symm.trans hf) |>.symm
      obtain rfl : fn = Tryd.f3 := (Option.some.inj (Tryd.func3.symm.trans hfn)).symm
      exact ⟨by kernel_rfl, fun j t ht => by
        rw [Tryd.params3] at ht
        have hm : t ∈ [9, 3, 3] := by simpa using Array.mem_of_getElem? ht
        have hall : ([9, 3, 3].all fun u => !Tryd.prog.wantsStandIn u) = true := by kernel_rfl
        exact (show Tryd.prog.wantsStandIn t = false by simpa using List.all_eq_true.1 hall t hm)⟩)
    (by kernel_rfl)

end Go.Proofs.YtnjkikdcalfjgaaDoor.paywordChains
namespace Go.Proofs.YtnjkikdcalfjgaaDoor
theorem paywordChains_holds : Rows.PaywordChainsCardSaid := paywordChains.card
#print axioms paywordChains_holds
end Go.Proofs.YtnjkikdcalfjgaaDoor
