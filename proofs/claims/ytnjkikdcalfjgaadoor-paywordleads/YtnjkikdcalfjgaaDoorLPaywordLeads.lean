/-
  For every input the law PaywordLeads (from the token of a chain at most as many steps lead to its anchor as its number; each token leads to the one ahead of it; tokens that lead far lead there in parts, too) returns true and leaves its arguments as they were. The package's two tables are as the program's text lays them (the card ties them).
-/
import Derived.Test.YtnjkikdcalfjgaaDoorPay5
namespace Go.Proofs.YtnjkikdcalfjgaaDoor.paywordLeads
open Go.ChangeShapes Go.WideShapes Go.ChangeAt Go.RowKit
open Go.ChangeMaps (open_string shut_string)
open Mem Sh Num Pay
set_option linter.unusedVariables false

set_option maxHeartbeats 2000000 in
set_option maxRecDepth 100000 in
theorem walk (W : World) (hG : GL W) (s : ByteArray) (hs : s.size ≤ maxLen) (x0 x1 x2 : Int) (w0 : (Lit.int .u8 x0).wf = true) (w1 : (Lit.int .u8 x1).wf = true) (w2 : (Lit.int .u8 x2).wf = true) :
    Calls Tryd.prog 5 #[.string s, .agg #[.int .u8 x0, .int .u8 x1, .int .u8 x2]] W fun e W' => e = .returned (.bool true) ∧ Below W.heap.size W W' := by
  have HG := Lib.hid hG
  clear hG
  obtain ⟨a0, a1⟩ := bounds_u8 w0
  obtain ⟨b0, b1⟩ := bounds_u8 w1
  obtain ⟨c0, c1⟩ := bounds_u8 w2
  clear w0 w1 w2
  unfold maxLen at hs
  have ht := cut_le s 100 100 rfl
  obtain ⟨t, het⟩ : ∃ t, s.extract 0 (min (s.size : Int) 100).toNat = t := ⟨_, rfl⟩
  have HS : Hid (t.size ≤ 1000000) := by show t.size ≤ 1000000; rw [← het]; omega
  clear ht
  obtain ⟨M, hM⟩ : ∃ M : Nat, 1 + x0 % 200 = (M : Int) := Int.eq_ofNat_of_zero_le (by omega)
  have M1 : 1 ≤ M := by omega
  have M2 : M ≤ 200 := by omega
  have mz : (M : Int) + 1 ≠ 0 := by omega
  obtain ⟨A, hA⟩ : ∃ A : Nat, x1 % ((M : Int) + 1) = (A : Int) := Int.eq_ofNat_of_zero_le (Int.emod_nonneg _ mz)
  have A1 : A ≤ M := by have := Int.emod_lt_of_pos x1 (show 0 < (M : Int) + 1 by omega); omega
  have az : (A : Int) + 1 ≠ 0 := by omega
  obtain ⟨P, hP⟩ : ∃ P : Nat, x2 % ((A : Int) + 1) = (P : Int) := Int.eq_ofNat_of_zero_le (Int.emod_nonneg _ az)
  have P1 : P ≤ A := by have := Int.emod_lt_of_pos x2 (show 0 < (A : Int) + 1 by omega); omega
  obtain ⟨B, hB'⟩ : ∃ B : Nat, B + P = A := ⟨A - P, by omega⟩
  have hB : (A : Int) - (P : Int) = (B : Int) := by omega
  obtain ⟨s', hs'⟩ : ∃ z, seedS t = z := ⟨_, rfl⟩
  have HZ : s'.size = 16 := by rw [← hs']; exact seedS_size t
  have HN := Lib.hid (fun (w : World) (hg : GL w) => new_ok t M w (Q.refl w) hg M1 (by omega) HS.out)
  rw [hs'] at HN
  obtain ⟨aM, eM⟩ : ∃ z, farS s' M = z := ⟨_, rfl⟩
  obtain ⟨tA, eA⟩ : ∃ z, farS s' (M - A) = z := ⟨_, rfl⟩
  obtain ⟨tB, eB⟩ : ∃ z, farS s' (M - B) = z := ⟨_, rfl⟩
  have zA : tA.size = 16 := by rw [← eA]; exact farS_size s' HZ _
  have zB : tB.size = 16 := by rw [← eB]; exact farS_size s' HZ _
  have F1 : Hid (farA tA P = tB) := by
    show farA tA P = tB
    rw [farA_yes tA P zA (by omega), ← eA, ← eB, ← farS_add, show M - A + P = M - B by omega]
  have F2 : Hid (farA tB B = aM) := by
    show farA tB B = aM
    rw [farA_yes tB B zB (by omega), ← eB, ← eM, ← farS_add, show M - B + B = M by omega]
  obtain ⟨r, e, hre⟩ := cntA_ex aM tA M
  obtain ⟨he, r0, r1, _⟩ := cnt_chain s' aM tA HZ (M - A) A M (by omega) A1 eA (by rw [show M - A + A = M by omega]; exact eM) hre
  subst he
  have HR := Lib.hid hre
  have EM := Lib.hid eM
  have EA := Lib.hid eA
  have EB := Lib.hid eB
  have HZZ := Lib.hid HZ
  clear hre eM eA eB zA zB hs' HZ
  have HL : Hid (Q W (W.alloc (.cells #[.int .u8 x0, .int .u8 x1, .int .u8 x2] 42))) := (Q.refl W).alloc _
  have HM : Hid (∀ w', Q (W.alloc (.cells #[.int .u8 x0, .int .u8 x1, .int .u8 x2] 42)) w' → w'.cell? ⟨W.heap.size, 0, none⟩ = some (.int .u8 x0) ∧ w'.cell? ⟨W.heap.size, 1, none⟩ = some (.int .u8 x1) ∧ w'.cell? ⟨W.heap.size, 2, none⟩ = some (.int .u8 x2)) := fun w' q => by
    rw [q.cell (p := ⟨W.heap.size, 0, none⟩) (by simp), q.cell (p := ⟨W.heap.size, 1, none⟩) (by simp), q.cell (p := ⟨W.heap.size, 2, none⟩) (by simp), World.cell?_alloc_at _ _ _ _ rfl, World.cell?_alloc_at _ _ _ _ rfl, World.cell?_alloc_at _ _ _ _ rfl]
    exact ⟨rfl, rfl, rfl⟩
  go_enter Tryd.func5, Tryd.ntmps5
  go_wp2_with fail
  have GA := Lib.hid (HG.out.q HL.out)
  generalize (W.alloc (.cells #[.int .u8 x0, .int .u8 x1, .int .u8 x2] 42)) = wA at *
  generalize W.heap.size = gA at *
  refine (HN.out wA GA.out).mono ?_
  rintro x w1 ⟨g, rfl, hch, q1⟩
  have C1 := Lib.hid hch
  have QW := Lib.hid (HL.out.trans q1)
  obtain ⟨hc0, hc1, hc2⟩ := HM.out w1 q1
  have QA1 := Lib.hid q1
  have G1 := Lib.hid (GA.out.q q1)
  clear hch q1 HN hM
  as_aux_lemma =>
  go_wp2_with fail
  refine (token_x g s' tA M A EA.out w1 (C1.out.q (Q.refl w1)) (by omega) A1).mono ?_
  rintro x _ ⟨rfl, rfl⟩
  go_wp2_with fail
  refine (anchor_x g s' aM M EM.out w1 (C1.out.q (Q.refl w1)) (by omega)).mono ?_
  rintro x _ ⟨rfl, rfl⟩
  go_wp2_with fail
  refine (count_x aM tA M r 0 HR.out w1 (Q.refl w1) G1.out).mono ?_
  rintro x w2 ⟨rfl, q2⟩
  have Q2 := Lib.hid q2
  clear hc0 hc1 hc2
  obtain ⟨hc0, hc1, hc2⟩ := HM.out w2 (QA1.out.trans q2)
  clear q2
  as_aux_lemma =>
  go_wp2_with fail
  refine (token_x g s' tB M B EB.out w2 (C1.out.q Q2.out) (by omega) (by omega)).mono ?_
  rintro x _ ⟨rfl, rfl⟩
  go_wp2_with fail
  clear hc0 hc1 hc2
  refine (far_x tA tB P F1.out w2 Q2.out G1.out).mono ?_
  rintro x w3 ⟨rfl, q3⟩
  have Q3 := Lib.hid q3
  clear q3
  as_aux_lemma =>
  go_wp2_with fail
  refine (far_x tB aM B F2.out w3 Q3.out G1.out).mono ?_
  rintro x w4 ⟨rfl, q4⟩
  have Q4 := Lib.hid q4
  clear q4
  go_wp2_with fail
  refine (anchor_x g s' aM M EM.out w4 (C1.out.q Q4.out) (by omega)).mono ?_
  rintro x _ ⟨rfl, rfl⟩
  go_wp2_with fail
  clear hA hP hB het
  as_aux_lemma =>
  go_loopw [16] (fun z wr => ∃ k : Nat, 1 ≤ k ∧ k ≤ M + 1 ∧ z = .int .i64 k ∧ Hid (Q w1 wr)) (fun z _ => M + 1 - (intOf z).toNat)
  case atStart => exact ⟨1, by omega, by omega, rfl, Q4⟩
  case round =>
    obtain ⟨k, k1, k2, rfl, I⟩ := hrel
    by_cases hk : k ≤ M
    · obtain ⟨j, hj⟩ : ∃ j, j + 1 = k := ⟨k - 1, by omega⟩
      have ej : (k : Int) - 1 = (j : Int) := by omega
      have k3 : (k : Int) ≤ (M : Int) := by omega
      obtain ⟨x, ex⟩ : ∃ z, farS s' (M - k) = z := ⟨_, rfl⟩
      obtain ⟨y, ey⟩ : ∃ z, farS s' (M - j) = z := ⟨_, rfl⟩
      have EX := Lib.hid ex
      have EY := Lib.hid ey
      have EN : Hid (nextS x = y) := by show nextS x = y; rw [← ex, ← ey, show M - j = M - k + 1 by omega]; rfl
      have ZX : Hid (x.size ≤ 1000000) := by show x.size ≤ 1000000; rw [← ex, farS_size s' HZZ.out]; decide
      clear ex ey
      go_wp2_with fail
      refine (token_x g s' x M k EX.out wr (C1.out.q I.out) (by omega) hk).mono ?_
      rintro x _ ⟨rfl, rfl⟩
      go_wp2_with fail
      refine (token_x g s' y M j EY.out wr (C1.out.q I.out) (by omega) (by omega)).mono ?_
      rintro x _ ⟨rfl, rfl⟩
      go_wp2_with fail
      refine (next_x x y EN.out wr I.out G1.out ZX.out).mono ?_
      rintro x w21 ⟨rfl, q21⟩
      have Q21 := Lib.hid q21
      clear q21
      go_wp2_with fail
      exact ⟨⟨k + 1, by omega, by omega, by go_num, Q21⟩, by simp [intOf]; omega⟩
    · have k3 : decide ((k : Int) ≤ (M : Int)) = false := by simp; omega
      go_wp2_with fail
      refine (fixed_any wr I.out G1.out).mono ?_
      rintro x w31 ⟨rfl, q31⟩
      have Q31 := Lib.hid q31
      clear q31
      go_wp2_with fail
      go_ret
      exact ⟨rfl, QW.out.trans Q31.out⟩

theorem okWide_array {P : Program} {w : World} {r : Reach} {base n : Nat} {t e : TypeId} {v : Value} (ht : P.underlying t = some (.array n e)) (h : Value.okWide P w r base t v) : ∃ cs, v = .agg cs ∧ cs.size = P.cellsOf t := by
  unfold Value.okWide at h
  cases v <;> simp_all [Program.underlying]

theorem arr1_open {W : World} {base : Nat} {v : Value} {H : Type} {enc : TypeId × Value → H} {d : DataW H} {p : List MemPlace}
    (hv : Value.okWide Tryd.prog W .any base 42 v) (h : DataW.Trod enc Tryd.prog W 0 (fun _ => true) true 42 v d p) :
    ∃ a0 a1 a2 : Int, v = .agg #[.int .u8 a0, .int .u8 a1, .int .u8 a2] ∧ (Lit.int .u8 a0).wf = true ∧ (Lit.int .u8 a1).wf = true ∧ (Lit.int .u8 a2).wf = true := by
  have c1 : Tryd.prog.cellsOf 5 = 1 := by kernel_rfl
  have c2 : Tryd.prog.cellsOf 42 = 3 := by kernel_rfl
  obtain ⟨cs, rfl, hsz⟩ := okWide_array Tryd.underlying42 hv
  have hsz' : cs.size = 3 := hsz.trans c2
  obtain ⟨x0, x1, x2, rfl⟩ := Joins.array3 hsz'
  obtain ⟨fuel, hf⟩ := h
  obtain ⟨xs, m, _, _, _, hl, hg⟩ := DataW.trod_array Tryd.underlying42 hf
  have g0 := hg 0 (by omega)
  have g1 := hg 1 (by omega)
  have g2 := hg 2 (by omega)
  rw [List.getElem?_eq_getElem (by omega)] at g0 g1 g2
  obtain ⟨b0, e0, _, w0⟩ := DataW.trod_int Tryd.underlying5 g0
  obtain ⟨b1, e1, _, w1⟩ := DataW.trod_int Tryd.underlying5 g1
  obtain ⟨b2, e2, _, w2⟩ := DataW.trod_int Tryd.underlying5 g2
  simp [Value.cells, c1] at e0 e1 e2
  subst e0 e1 e2
  exact ⟨b0, b1, b2, rfl, w0, w1, w2⟩

set_option maxRecDepth 100000 in
theorem lifted (os : Os) (started : os.Started) (H : Type) (enc : TypeId × Value → H) :
    ReturnsInHanded {} Tryd.checked os 5 .any (fun w args => (Rows.paywordLeadsSpec.pre enc Tryd.prog Tryd.f5 [] false w args ∧ laidMetH Tryd.prog laid2 w) ∧ sizedMet enc Tryd.prog Tryd.f5 (OpenSpec.ofChange Rows.paywordLeadsSpec) false w args)
      (Rows.paywordLeadsSpec.post enc Tryd.prog Tryd.f5 false true false false) := by
  refine returnsInHanded_of_change_and (C := Tryd.checked) (X := fun w _ => laidMetH Tryd.prog laid2 w) (fun _ _ _ hh h => h.of_heap hh) own started (by kernel_rfl) Tryd.func5
    (ChangeSpec.witness_shaped (enc := enc) (C := Tryd.checked) (os := os) (X := fun w _ => laidMetH Tryd.prog laid2 w) false (World.doorLaid Tryd.prog 400 os) #[.string ⟨#[]⟩, .agg #[.int .u8 0, .int .u8 0, .int .u8 0]] 8 rfl (World.shaped_of_RefB (by kernel_rfl) (by kernel_rfl)) (by kernel_rfl) (by kernel_rfl) (by kernel_rfl) (door_met os _)) ?_
  intro W base args ds gs before hval0 hW _ _ hL _
  have hval : ∀ (j : Nat) t v, Tryd.f5.params[j]? = some t → args[j]? = some v → Value.okWide Tryd.prog W .any base t v := hval0
  have hW' := hW
  obtain ⟨p, q, hA0, hV, rfl, hfz, hnd⟩ := hW
  have hA : DataW.TrodAll enc Tryd.prog W 0 (fun _ => true) true Tryd.f5.params.toList args.toList ds p := hA0
  rw [Tryd.params5] at hA hval
  obtain ⟨v0, vs0, d0, ds0, p0, q0, hargs, rfl, rfl, h0, r0⟩ := trodAll_cons hA
  obtain ⟨v1, vs1, d1, ds1, p1, q1, rfl, rfl, rfl, h1, r1⟩ := trodAll_cons r0
  obtain ⟨rfl, rfl, rfl⟩ := trodAll_nil r1
  obtain rfl : args = #[v0, v1] := by cases args; simp_all
  obtain ⟨rfl, rfl⟩ := trodVars_none hV
  have k0 := h0
  have lt0 : ∀ x ∈ p0, x.block < W.heap.size := by obtain ⟨m, hm⟩ := k0; exact DataW.trod_lt m _ _ _ hm
  obtain ⟨a0, rfl, e0, f0, w0⟩ := open_string Tryd.underlying9 (hval 0 9 v0 rfl rfl) h0
  have k1 := h1
  have lt1 : ∀ x ∈ p1, x.block < W.heap.size := by obtain ⟨m, hm⟩ := k1; exact DataW.trod_lt m _ _ _ hm
  obtain ⟨a1_0, a1_1, a1_2, rfl, w1_0, w1_1, w1_2⟩ := arr1_open (hval 1 42 v1 rfl rfl) h1
  clear hA0 hval0
  refine (walk W (of_laid hL) a0 w0 a1_0 a1_1 a1_2 w1_0 w1_1 w1_2).mono fun e W' ⟨he, bel⟩ => ?_
  subst he
  exact ⟨_, rfl, _, _, _, [], _, [], hW', trodAll_mk1 (shut_bool Tryd.underlying4 _), (trodAll_cons_mk (Below.trod laidOut (by kernel_rfl) (of_decide_eq_true (by kernel_rfl)) k0 bel lt0) (trodAll_cons_mk (Below.trod laidOut (by kernel_rfl) (of_decide_eq_true (by kernel_rfl)) k1 bel lt1) trodAll_mk0)), rfl, bel.frame _, fun h => by cases h⟩

theorem over : Rows.paywordLeadsRow.holds Tryd.pinned (OpenSpec.ofChange Rows.paywordLeadsSpec) :=
  OpenClaim.holds_of_wide 5 Tryd.f5 rfl rfl rfl rfl rfl rfl rfl ⟨rfl, rfl, rfl, rfl, rfl⟩ rfl rfl rfl rfl rfl (by kernel_rfl) Tryd.func5 (by kernel_rfl)
    (of_decide_eq_true (by kernel_rfl)) (by unfold Func.isWrapper; first | (rw [if_pos (by decide +kernel)]; kernel_rfl) | (rw [if_neg (by decide +kernel)]; exact ⟨rfl, rfl⟩))
    (fun os started H enc _ => lifted os started H enc)

theorem card : Claim7.holds Tryd.pinned (.plain (OpenSpec.ofChange Rows.paywordLeadsSpec)) Rows.paywordLeadsCard :=
  Claim7.holds_tied_plain_at .later [] [.data, .data] true Rows.paywordLeadsCard.stood.harness false
    over (fun _ h => by cases h) (by kernel_rfl) (fun _ h => by cases h) paywordLeads_row_tie rfl ⟨rfl, rfl⟩ (by kernel_rfl) rfl
    (fun f fn hf hfn => by
      obtain rfl : f = 5 := Option.some.inj ((show Tryd.prog.funcNamed "turnstile/turnstilelaw04.PaywordLeads" = some 5 by kernel_rfl).symm.trans hf) |>.symm
      obtain rfl : fn = Tryd.f5 := (Option.some.inj (Tryd.func5.symm.trans hfn)).symm
      exact ⟨by kernel_rfl, fun j t ht => by
        rw [Tryd.params5] at ht
        have hm : t ∈ [9, 42] := by simpa using Array.mem_of_getElem? ht
        have hall : ([9, 42].all fun u => !Tryd.prog.wantsStandIn u) = true := by kernel_rfl
        exact (show Tryd.prog.wantsStandIn t = false by simpa using List.all_eq_true.1 hall t hm)⟩)
    (by kernel_rfl)

end Go.Proofs.YtnjkikdcalfjgaaDoor.paywordLeads
namespace Go.Proofs.YtnjkikdcalfjgaaDoor
theorem paywordLeads_holds : Rows.PaywordLeadsCardSaid := paywordLeads.card
#print axioms paywordLeads_holds
end Go.Proofs.YtnjkikdcalfjgaaDoor
