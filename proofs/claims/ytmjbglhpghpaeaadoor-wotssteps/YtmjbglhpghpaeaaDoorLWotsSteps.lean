/-
  For every input the law WotsSteps (where any steps lead is as the document says; steps lead there in parts, too) returns true and leaves its arguments as they were. The package's two tables are as the program's text lays them (the card ties them).
-/
import Derived.Test.YtmjbglhpghpaeaaDoorWot8
namespace Go.Proofs.YtmjbglhpghpaeaaDoor.wotsSteps
open Go.ChangeShapes Go.WideShapes Go.ChangeAt Go.RowKit
open Go.ChangeMaps (open_string shut_string)
open Mem Sh Wot
set_option linter.unusedVariables false

set_option maxHeartbeats 2000000 in
set_option maxRecDepth 100000 in
theorem walk (W : World) (hG : GL W) (p : Int) (wp : (Lit.int .i64 p).wf = true) (s : ByteArray) (hs : s.size ≤ maxLen) (n0 n1 : Int) (w0 : (Lit.int .i64 n0).wf = true) (w1 : (Lit.int .i64 n1).wf = true) :
    Calls Tryd.prog 5 #[.int .i64 p, .string s, .agg #[.int .i64 n0, .int .i64 n1]] W fun e W' => e = .returned (.bool true) ∧ Below W.heap.size W W' := by
  have HG := Lib.hid hG
  clear hG
  unfold maxLen at hs
  clear wp w0 w1
  have zt := cut_le s 40 40 rfl
  obtain ⟨t, et⟩ : ∃ z, s.extract 0 (min (s.size : Int) 40).toNat = z := ⟨_, rfl⟩
  rw [et] at zt
  have ZT : Hid (t.size ≤ 1000000) := by show t.size ≤ 1000000; omega
  clear zt
  have HL : Hid (Q W (W.alloc (.cells #[.int .i64 n0, .int .i64 n1] 33))) := (Q.refl W).alloc _
  have HM : Hid (∀ w', Q (W.alloc (.cells #[.int .i64 n0, .int .i64 n1] 33)) w' → w'.cell? ⟨W.heap.size, 0, none⟩ = some (.int .i64 n0) ∧ w'.cell? ⟨W.heap.size, 1, none⟩ = some (.int .i64 n1)) := fun w' q => by
    rw [q.cell (p := ⟨W.heap.size, 0, none⟩) (by simp), q.cell (p := ⟨W.heap.size, 1, none⟩) (by simp), World.cell?_alloc_at _ _ _ _ rfl, World.cell?_alloc_at _ _ _ _ rfl]
    exact ⟨rfl, rfl⟩
  by_cases ho : stpOk p t n0
  · obtain ⟨p0, p1, zt, k0, k1⟩ := ho
    obtain ⟨P, rfl⟩ := Int.eq_ofNat_of_zero_le p0
    obtain ⟨K, rfl⟩ := Int.eq_ofNat_of_zero_le k0
    have P1 : P ≤ 17 := by omega
    have K1 : K ≤ 15 := by omega
    obtain ⟨a, ea⟩ : ∃ z, stp P t K = z := ⟨_, rfl⟩
    have EA := Lib.hid ea
    have za : a.size = 16 := by rw [← ea]; exact stp_size _ _ zt _
    have nea : ¬ a.toList = [] := by
      intro h
      rw [ByteArray.toList_eq] at h
      have hl : a.data.toList.length = 0 := by rw [h]; rfl
      have hs : a.data.toList.length = a.size := by rw [Array.length_toList]; rfl
      omega
    have hk : bits BinOp.and .i64 (K : Int) 15 = (K : Int) := by rw [i64_and15]; omega
    obtain ⟨M, hM⟩ : ∃ M : Nat, bits BinOp.and .i64 n1 15 = (M : Int) := Int.eq_ofNat_of_zero_le (by rw [i64_and15]; omega)
    have M1 : M ≤ 15 := by have := i64_and15 n1; omega
    have neb : a.toList.isEmpty = false := by rw [List.isEmpty_eq_false_iff]; exact nea
    have ZZ := Lib.hid zt
    clear ea nea
    by_cases hkm : 15 < K + M
    · have hkm' : (15 : Int) < (K : Int) + (M : Int) := by omega
      have td : decide ((15 : Int) < (K : Int) + (M : Int)) = true := by simp; omega
      go_enter Tryd.func5, Tryd.ntmps5
      go_wp2_with fail
      have G1 := Lib.hid (HG.out.q HL.out)
      have HA := Lib.hid (Q.refl (W.alloc (.cells #[.int .i64 (K : Int), .int .i64 n1] 33)))
      generalize (W.alloc (.cells #[.int .i64 (K : Int), .int .i64 n1] 33)) = wA at *
      generalize W.heap.size = gA at *
      as_aux_lemma =>
      refine (step_x P K t a EA.out wA HA.out G1.out P1 ZZ.out K1).mono ?_
      rintro x w1 ⟨rfl, q1⟩
      have Q1 := Lib.hid q1
      obtain ⟨hc0, hc1⟩ := HM.out w1 q1
      clear q1
      go_wp2_with fail
      refine (rstep_x P K t a EA.out w1 Q1.out P1 ZZ.out K1).mono ?_
      rintro x w2 ⟨rfl, q2⟩
      have Q2 := Lib.hid q2
      clear hc0 hc1
      obtain ⟨hc0, hc1⟩ := HM.out w2 q2
      clear q2
      as_aux_lemma =>
      go_wp2_with fail
      go_quiet (fail)
      go_wp2_with fail
      refine (fixed_any (w2.drewN nq) (Q2.out.drewN nq) G1.out).mono ?_
      rintro x w3 ⟨rfl, q3⟩
      have Q3 := Lib.hid q3
      clear q3
      go_wp2_with fail
      go_ret
      exact ⟨rfl, HL.out.trans Q3.out⟩
    · have hkm' : (K : Int) + (M : Int) ≤ 15 := by omega
      have td : decide ((15 : Int) < (K : Int) + (M : Int)) = false := by simp; omega
      obtain ⟨b, eb⟩ : ∃ z, stp P a M = z := ⟨_, rfl⟩
      have EB := Lib.hid eb
      have EC : Hid (stp P t (K + M) = b) := by show stp P t (K + M) = b; rw [stp_add, EA.out]; exact eb
      have ZA := Lib.hid za
      have KM : ((K + M : Nat) : Int) = (K : Int) + (M : Int) := by omega
      have CC := Lib.hid fun w (q : Q (W.alloc (.cells #[.int .i64 (K : Int), .int .i64 n1] 33)) w) => step_x P (K + M) t b EC.out w q (HG.out.q HL.out) P1 ZZ.out (by omega)
      rw [KM] at CC
      clear eb KM
      go_enter Tryd.func5, Tryd.ntmps5
      go_wp2_with fail
      have G1 := Lib.hid (HG.out.q HL.out)
      have HA := Lib.hid (Q.refl (W.alloc (.cells #[.int .i64 (K : Int), .int .i64 n1] 33)))
      generalize (W.alloc (.cells #[.int .i64 (K : Int), .int .i64 n1] 33)) = wA at *
      generalize W.heap.size = gA at *
      as_aux_lemma =>
      refine (step_x P K t a EA.out wA HA.out G1.out P1 ZZ.out K1).mono ?_
      rintro x w1 ⟨rfl, q1⟩
      have Q1 := Lib.hid q1
      obtain ⟨hc0, hc1⟩ := HM.out w1 q1
      clear q1
      go_wp2_with fail
      refine (rstep_x P K t a EA.out w1 Q1.out P1 ZZ.out K1).mono ?_
      rintro x w2 ⟨rfl, q2⟩
      have Q2 := Lib.hid q2
      clear hc0 hc1
      obtain ⟨hc0, hc1⟩ := HM.out w2 q2
      clear q2
      as_aux_lemma =>
      go_wp2_with fail
      go_quiet (fail)
      go_wp2_with fail
      refine (step_x P K t a EA.out (w2.drewN nq) (Q2.out.drewN nq) G1.out P1 ZZ.out K1).mono ?_
      rintro x w3 ⟨rfl, q3⟩
      have Q3 := Lib.hid q3
      clear q3
      as_aux_lemma =>
      go_wp2_with fail
      refine (step_x P M a b EB.out w3 Q3.out G1.out P1 ZA.out M1).mono ?_
      rintro x w4 ⟨rfl, q4⟩
      have Q4 := Lib.hid q4
      clear q4
      as_aux_lemma =>
      go_wp2_with fail
      refine (CC.out w4 Q4.out).mono ?_
      rintro x w5 ⟨rfl, q5⟩
      have Q5 := Lib.hid q5
      clear q5
      as_aux_lemma =>
      go_wp2_with fail
      refine (step_x P 0 t t rfl w5 Q5.out G1.out P1 ZZ.out (by decide)).mono ?_
      rintro x w6 ⟨rfl, q6⟩
      have Q6 := Lib.hid q6
      clear q6
      as_aux_lemma =>
      go_wp2_with fail
      refine (fixed_any w6 Q6.out G1.out).mono ?_
      rintro x w7 ⟨rfl, q7⟩
      have Q7 := Lib.hid q7
      clear q7
      go_wp2_with fail
      go_ret
      exact ⟨rfl, HL.out.trans Q7.out⟩
  · have HO := Lib.hid ho
    clear ho
    go_enter Tryd.func5, Tryd.ntmps5
    go_wp2_with fail
    have G1 := Lib.hid (HG.out.q HL.out)
    have HA := Lib.hid (Q.refl (W.alloc (.cells #[.int .i64 n0, .int .i64 n1] 33)))
    generalize (W.alloc (.cells #[.int .i64 n0, .int .i64 n1] 33)) = wA at *
    generalize W.heap.size = gA at *
    as_aux_lemma =>
    refine (step_bad p t n0 wA HA.out HO.out).mono ?_
    rintro x w1 ⟨rfl, q1⟩
    have Q1 := Lib.hid q1
    obtain ⟨hc0, hc1⟩ := HM.out w1 q1
    clear q1
    go_wp2_with fail
    refine (rstep_bad p t n0 w1 Q1.out HO.out).mono ?_
    rintro x w2 ⟨rfl, q2⟩
    have Q2 := Lib.hid q2
    clear hc0 hc1
    obtain ⟨hc0, hc1⟩ := HM.out w2 q2
    clear q2
    as_aux_lemma =>
    go_wp2_with fail
    go_quiet (fail)
    go_wp2_with fail
    refine (fixed_any (w2.drewN nq) (Q2.out.drewN nq) G1.out).mono ?_
    rintro x w3 ⟨rfl, q3⟩
    have Q3 := Lib.hid q3
    clear q3
    go_wp2_with fail
    go_ret
    exact ⟨rfl, HL.out.trans Q3.out⟩

theorem okWide_array {P : Program} {w : World} {r : Reach} {base n : Nat} {t e : TypeId} {v : Value} (ht : P.underlying t = some (.array n e)) (h : Value.okWide P w r base t v) : ∃ cs, v = .agg cs ∧ cs.size = P.cellsOf t := by
  unfold Value.okWide at h
  cases v <;> simp_all [Program.underlying]

theorem arr2_open {W : World} {base : Nat} {v : Value} {H : Type} {enc : TypeId × Value → H} {d : DataW H} {p : List MemPlace}
    (hv : Value.okWide Tryd.prog W .any base 33 v) (h : DataW.Trod enc Tryd.prog W 0 (fun _ => true) true 33 v d p) :
    ∃ a0 a1 : Int, v = .agg #[.int .i64 a0, .int .i64 a1] ∧ (Lit.int .i64 a0).wf = true ∧ (Lit.int .i64 a1).wf = true := by
  have c1 : Tryd.prog.cellsOf 3 = 1 := by kernel_rfl
  have c2 : Tryd.prog.cellsOf 33 = 2 := by kernel_rfl
  obtain ⟨cs, rfl, hsz⟩ := okWide_array Tryd.underlying33 hv
  have hsz' : cs.size = 2 := hsz.trans c2
  obtain ⟨x0, x1, rfl⟩ := Joins.array2 hsz'
  obtain ⟨fuel, hf⟩ := h
  obtain ⟨xs, m, _, _, _, hl, hg⟩ := DataW.trod_array Tryd.underlying33 hf
  have g0 := hg 0 (by omega)
  have g1 := hg 1 (by omega)
  rw [List.getElem?_eq_getElem (by omega)] at g0 g1
  obtain ⟨b0, e0, _, w0⟩ := DataW.trod_int Tryd.underlying3 g0
  obtain ⟨b1, e1, _, w1⟩ := DataW.trod_int Tryd.underlying3 g1
  simp [Value.cells, c1] at e0 e1
  subst e0 e1
  exact ⟨b0, b1, rfl, w0, w1⟩

set_option maxRecDepth 100000 in
theorem lifted (os : Os) (started : os.Started) (H : Type) (enc : TypeId × Value → H) :
    ReturnsInHanded {} Tryd.checked os 5 .any (fun w args => (Rows.wotsStepsSpec.pre enc Tryd.prog Tryd.f5 [] false w args ∧ laidMetH Tryd.prog laid2 w) ∧ sizedMet enc Tryd.prog Tryd.f5 (OpenSpec.ofChange Rows.wotsStepsSpec) false w args)
      (Rows.wotsStepsSpec.post enc Tryd.prog Tryd.f5 false true false false) := by
  refine returnsInHanded_of_change_and (C := Tryd.checked) (X := fun w _ => laidMetH Tryd.prog laid2 w) (fun _ _ _ hh h => h.of_heap hh) own started (by kernel_rfl) Tryd.func5
    (ChangeSpec.witness_shaped (enc := enc) (C := Tryd.checked) (os := os) (X := fun w _ => laidMetH Tryd.prog laid2 w) false (World.doorLaid Tryd.prog 400 os) #[.int .i64 0, .string ⟨#[]⟩, .agg #[.int .i64 0, .int .i64 0]] 8 rfl (World.shaped_of_RefB (by kernel_rfl) (by kernel_rfl)) (by kernel_rfl) (by kernel_rfl) (by kernel_rfl) (door_met os _)) ?_
  intro W base args ds gs before hval0 hW _ hsz0 hL _
  have hval : ∀ (j : Nat) t v, Tryd.f5.params[j]? = some t → args[j]? = some v → Value.okWide Tryd.prog W .any base t v := hval0
  have hW' := hW
  obtain ⟨p, q, hA0, hV, rfl, hfz, hnd⟩ := hW
  have hA : DataW.TrodAll enc Tryd.prog W 0 (fun _ => true) true Tryd.f5.params.toList args.toList ds p := hA0
  rw [Tryd.params5] at hA hval
  obtain ⟨v0, vs0, d0, ds0, p0, q0, hargs, rfl, rfl, h0, r0⟩ := trodAll_cons hA
  obtain ⟨v1, vs1, d1, ds1, p1, q1, rfl, rfl, rfl, h1, r1⟩ := trodAll_cons r0
  obtain ⟨v2, vs2, d2, ds2, p2, q2, rfl, rfl, rfl, h2, r2⟩ := trodAll_cons r1
  obtain ⟨rfl, rfl, rfl⟩ := trodAll_nil r2
  obtain rfl : args = #[v0, v1, v2] := by cases args; simp_all
  obtain ⟨rfl, rfl⟩ := trodVars_none hV
  have k0 := h0
  have lt0 : ∀ x ∈ p0, x.block < W.heap.size := by obtain ⟨m, hm⟩ := k0; exact DataW.trod_lt m _ _ _ hm
  obtain ⟨a0, rfl, e0, f0, w0⟩ := open_int Tryd.underlying3 (hval 0 3 v0 rfl rfl) h0
  have k1 := h1
  have lt1 : ∀ x ∈ p1, x.block < W.heap.size := by obtain ⟨m, hm⟩ := k1; exact DataW.trod_lt m _ _ _ hm
  obtain ⟨a1, rfl, e1, f1, w1⟩ := open_string Tryd.underlying9 (hval 1 9 v1 rfl rfl) h1
  have k2 := h2
  have lt2 : ∀ x ∈ p2, x.block < W.heap.size := by obtain ⟨m, hm⟩ := k2; exact DataW.trod_lt m _ _ _ hm
  obtain ⟨a2_0, a2_1, rfl, w2_0, w2_1⟩ := arr2_open (hval 2 33 v2 rfl rfl) h2
  clear hA0 hval0
  refine (walk W (of_laid hL) a0 w0 a1 w1 a2_0 a2_1 w2_0 w2_1).mono fun e W' ⟨he, bel⟩ => ?_
  subst he
  exact ⟨_, rfl, _, _, _, [], _, [], hW', trodAll_mk1 (shut_bool Tryd.underlying4 _), (trodAll_cons_mk (Below.trod laidOut (by kernel_rfl) (of_decide_eq_true (by kernel_rfl)) k0 bel lt0) (trodAll_cons_mk (Below.trod laidOut (by kernel_rfl) (of_decide_eq_true (by kernel_rfl)) k1 bel lt1) (trodAll_cons_mk (Below.trod laidOut (by kernel_rfl) (of_decide_eq_true (by kernel_rfl)) k2 bel lt2) trodAll_mk0))), rfl, bel.frame _, fun h => by cases h⟩

theorem over : Rows.wotsStepsRow.holds Tryd.pinned (OpenSpec.ofChange Rows.wotsStepsSpec) :=
  OpenClaim.holds_of_wide 5 Tryd.f5 rfl rfl rfl rfl rfl rfl rfl ⟨rfl, rfl, rfl, rfl, rfl⟩ rfl rfl rfl rfl rfl (by kernel_rfl) Tryd.func5 (by kernel_rfl)
    (of_decide_eq_true (by kernel_rfl)) (by unfold Func.isWrapper; first | (rw [if_pos (by decide +kernel)]; kernel_rfl) | (rw [if_neg (by decide +kernel)]; exact ⟨rfl, rfl⟩))
    (fun os started H enc _ => lifted os started H enc)

theorem card : Claim7.holds Tryd.pinned (.plain (OpenSpec.ofChange Rows.wotsStepsSpec)) Rows.wotsStepsCard :=
  Claim7.holds_tied_plain_at .later [] [.data, .data] true Rows.wotsStepsCard.stood.harness false
    over (fun _ h => by cases h) (by kernel_rfl) (fun _ h => by cases h) wotsSteps_row_tie rfl ⟨rfl, rfl⟩ (by kernel_rfl) rfl
    (fun f fn hf hfn => by
      obtain rfl : f = 5 := Option.some.inj ((show Tryd.prog.funcNamed "turnstile/turnstilelaw06.WotsSteps" = some 5 by kernel_rfl).symm.trans hf) |>.symm
      obtain rfl : fn = Tryd.f5 := (Option.some.inj (Tryd.func5.symm.trans hfn)).symm
      exact ⟨by kernel_rfl, fun j t ht => by
        rw [Tryd.params5] at ht
        have hm : t ∈ [3, 9, 33] := by simpa using Array.mem_of_getElem? ht
        have hall : ([3, 9, 33].all fun u => !Tryd.prog.wantsStandIn u) = true := by kernel_rfl
        exact (show Tryd.prog.wantsStandIn t = false by simpa using List.all_eq_true.1 hall t hm)⟩)
    (by kernel_rfl)

end Go.Proofs.YtmjbglhpghpaeaaDoor.wotsSteps
namespace Go.Proofs.YtmjbglhpghpaeaaDoor
theorem wotsSteps_holds : Rows.WotsStepsCardSaid := wotsSteps.card
#print axioms wotsSteps_holds
end Go.Proofs.YtmjbglhpghpaeaaDoor
