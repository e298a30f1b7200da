/-
  For every input the law PaywordValues (tokens are worth as many units as there are, part by part; a chain of more tokens of the same seed has those of a shorter one, further on) returns true and leaves its arguments as they were. The package's two tables are as the program's text lays them (the card ties them).
-/
import Derived.Test.YtnjkikdcalfjgaaDoorPay5
namespace Go.Proofs.YtnjkikdcalfjgaaDoor.paywordValues
open Go.ChangeShapes Go.WideShapes Go.ChangeAt Go.RowKit
open Go.ChangeMaps (open_string shut_string)
open Mem Sh Num Pay
set_option linter.unusedVariables false

theorem vals_add (N M L : Nat) (u : Int) (hL : N + M = L) (u0 : 0 ≤ u) (u1 : u ≤ 18446744073709551615) {v1 e1 v2 e2 v3 e3 v4 e4 : Int} (hv1 : valV N u = v1) (he1 : valE N u = e1) (hv2 : valV M u = v2) (he2 : valE M u = e2) (hv3 : valV L u = v3) (he3 : valE L u = e3) (hv4 : addV v1 v2 = v4) (he4 : addE v1 v2 = e4) :
    0 ≤ v1 ∧ v1 ≤ 18446744073709551615 ∧ 0 ≤ v2 ∧ v2 ≤ 18446744073709551615 ∧
      ((e1 = 0 ∧ e2 = 0 ∧ e3 = 0 ∧ v4 = v3 ∧ e4 = e3) ∨ (e1 = 0 ∧ e2 = 0 ∧ e3 = 2 ∧ v4 = v3 ∧ e4 = e3) ∨ (e1 = 2 ∧ e3 = 2) ∨ (e1 = 0 ∧ e2 = 2 ∧ e3 = 2)) := by
  have hN : valV N u = mulV N u := if_pos (by omega)
  have hN' : valE N u = mulE N u := if_pos (by omega)
  have hM : valV M u = mulV M u := if_pos (by omega)
  have hM' : valE M u = mulE M u := if_pos (by omega)
  have hL1 : valV L u = mulV L u := if_pos (by omega)
  have hL2 : valE L u = mulE L u := if_pos (by omega)
  rw [hN] at hv1; rw [hN'] at he1; rw [hM] at hv2; rw [hM'] at he2; rw [hL1] at hv3; rw [hL2] at he3
  have q1 := Int.mul_nonneg (show (0 : Int) ≤ (N : Int) by omega) u0
  have q2 := Int.mul_nonneg (show (0 : Int) ≤ (M : Int) by omega) u0
  have hs : (L : Int) * u = (N : Int) * u + (M : Int) * u := by rw [← Int.add_mul]; congr 1; omega
  unfold mulV at hv1 hv2 hv3
  unfold mulE at he1 he2 he3
  unfold addV at hv4
  unfold addE at he4
  rw [hs] at hv3 he3
  generalize (N : Int) * u = a at *
  generalize (M : Int) * u = b at *
  clear hN hN' hM hM' hL1 hL2 hs
  by_cases h1 : a ≤ 18446744073709551615
  · rw [if_pos h1] at hv1 he1
    by_cases h2 : b ≤ 18446744073709551615
    · rw [if_pos h2] at hv2 he2
      subst hv1; subst hv2
      by_cases h3 : a + b ≤ 18446744073709551615
      · rw [if_pos h3] at hv3 he3 hv4 he4
        omega
      · rw [if_neg h3] at hv3 he3 hv4 he4
        omega
    · rw [if_neg h2] at hv2 he2
      rw [if_neg (by omega)] at hv3 he3
      omega
  · rw [if_neg h1] at hv1 he1
    rw [if_neg (by omega)] at hv3 he3
    by_cases h2 : b ≤ 18446744073709551615
    · rw [if_pos h2] at hv2 he2
      omega
    · rw [if_neg h2] at hv2 he2
      omega

set_option maxHeartbeats 2000000 in
set_option maxRecDepth 100000 in
theorem walk (W : World) (hG : GL W) (s : ByteArray) (hs : s.size ≤ maxLen) (x0 x1 x2 : Int) (w0 : (Lit.int .u8 x0).wf = true) (w1 : (Lit.int .u8 x1).wf = true) (w2 : (Lit.int .u8 x2).wf = true) (u : Int) (wu : (Lit.int .u64 u).wf = true) :
    Calls Tryd.prog 7 #[.string s, .agg #[.int .u8 x0, .int .u8 x1, .int .u8 x2], .int .u64 u] W fun e W' => e = .returned (.bool true) ∧ Below W.heap.size W W' := by
  have HG := Lib.hid hG
  clear hG
  obtain ⟨a0, a1⟩ := bounds_u8 w0
  obtain ⟨b0, b1⟩ := bounds_u8 w1
  obtain ⟨c0, c1⟩ := bounds_u8 w2
  obtain ⟨u0, u1⟩ := bounds_u64 wu
  clear w0 w1 w2 wu
  unfold maxLen at hs
  have ht := cut_le s 50 50 rfl
  obtain ⟨t, het⟩ : ∃ t, s.extract 0 (min (s.size : Int) 50).toNat = t := ⟨_, rfl⟩
  have HS : Hid (t.size ≤ 1000000) := by show t.size ≤ 1000000; rw [← het]; omega
  clear ht
  obtain ⟨N, hN⟩ : ∃ M : Nat, 1 + x0 % 60 = (M : Int) := Int.eq_ofNat_of_zero_le (by omega)
  obtain ⟨M, hM⟩ : ∃ M : Nat, 1 + x1 % 60 = (M : Int) := Int.eq_ofNat_of_zero_le (by omega)
  have N1 : 1 ≤ N := by omega
  have N2 : N ≤ 60 := by omega
  have M1 : 1 ≤ M := by omega
  have M2 : M ≤ 60 := by omega
  have nz : (N : Int) + 1 ≠ 0 := by omega
  obtain ⟨I, hI⟩ : ∃ A : Nat, x2 % ((N : Int) + 1) = (A : Int) := Int.eq_ofNat_of_zero_le (Int.emod_nonneg _ nz)
  have I1 : I ≤ N := by have := Int.emod_lt_of_pos x2 (show 0 < (N : Int) + 1 by omega); omega
  obtain ⟨L, hL'⟩ : ∃ L, N + M = L := ⟨_, rfl⟩
  have hL : (N : Int) + (M : Int) = (L : Int) := by omega
  obtain ⟨J, hJ'⟩ : ∃ L, I + M = L := ⟨_, rfl⟩
  have hJ : (I : Int) + (M : Int) = (J : Int) := by omega
  obtain ⟨s', hs'⟩ : ∃ z, seedS t = z := ⟨_, rfl⟩
  have HN := Lib.hid (fun (w : World) (hg : GL w) (k : Nat) (k1 : 1 ≤ k) (k2 : k ≤ 4096) => new_ok t k w (Q.refl w) hg k1 k2 HS.out)
  rw [hs'] at HN
  obtain ⟨y, ey⟩ : ∃ z, farS s' (N - I) = z := ⟨_, rfl⟩
  have EY := Lib.hid ey
  have EZ : Hid (farS s' (L - J) = y) := by show farS s' (L - J) = y; rw [← ey, show L - J = N - I by omega]
  clear ey hs'
  obtain ⟨v1, hv1⟩ : ∃ z, valV N u = z := ⟨_, rfl⟩
  obtain ⟨e1, he1⟩ : ∃ z, valE N u = z := ⟨_, rfl⟩
  obtain ⟨v2, hv2⟩ : ∃ z, valV M u = z := ⟨_, rfl⟩
  obtain ⟨e2, he2⟩ : ∃ z, valE M u = z := ⟨_, rfl⟩
  obtain ⟨v3, hv3⟩ : ∃ z, valV L u = z := ⟨_, rfl⟩
  obtain ⟨e3, he3⟩ : ∃ z, valE L u = z := ⟨_, rfl⟩
  obtain ⟨v4, hv4⟩ : ∃ z, addV v1 v2 = z := ⟨_, rfl⟩
  obtain ⟨e4, he4⟩ : ∃ z, addE v1 v2 = z := ⟨_, rfl⟩
  have KEY := vals_add N M L u hL' u0 u1 hv1 he1 hv2 he2 hv3 he3 hv4 he4
  obtain ⟨p1, p2, p3, p4, KEY⟩ := KEY
  have V1 := Lib.hid hv1
  have E1 := Lib.hid he1
  have V2 := Lib.hid hv2
  have E2 := Lib.hid he2
  have V3 := Lib.hid hv3
  have E3 := Lib.hid he3
  have V4 := Lib.hid hv4
  have E4 := Lib.hid he4
  clear hv1 he1 hv2 he2 hv3 he3 hv4 he4
  have HL : Hid (Q W (W.alloc (.cells #[.int .u8 x0, .int .u8 x1, .int .u8 x2] 42))) := (Q.refl W).alloc _
  have HM : Hid (∀ w', Q (W.alloc (.cells #[.int .u8 x0, .int .u8 x1, .int .u8 x2] 42)) w' → w'.cell? ⟨W.heap.size, 0, none⟩ = some (.int .u8 x0) ∧ w'.cell? ⟨W.heap.size, 1, none⟩ = some (.int .u8 x1) ∧ w'.cell? ⟨W.heap.size, 2, none⟩ = some (.int .u8 x2)) := fun w' q => by
    rw [q.cell (p := ⟨W.heap.size, 0, none⟩) (by simp), q.cell (p := ⟨W.heap.size, 1, none⟩) (by simp), q.cell (p := ⟨W.heap.size, 2, none⟩) (by simp), World.cell?_alloc_at _ _ _ _ rfl, World.cell?_alloc_at _ _ _ _ rfl, World.cell?_alloc_at _ _ _ _ rfl]
    exact ⟨rfl, rfl, rfl⟩
  go_enter Tryd.func7, Tryd.ntmps7
  go_wp2_with fail
  go_quiet (fail)
  go_wp2_with fail
  have GA := Lib.hid (HG.out.q HL.out)
  have QA := Lib.hid ((Q.refl (W.alloc (.cells #[.int .u8 x0, .int .u8 x1, .int .u8 x2] 42))).drewN nq)
  generalize (W.alloc (.cells #[.int .u8 x0, .int .u8 x1, .int .u8 x2] 42)) = wA at *
  generalize wA.drewN nq = wB at *
  generalize W.heap.size = gA at *
  have GB := Lib.hid (GA.out.q QA.out)
  clear hN hM
  as_aux_lemma =>
  refine (HN.out wB GB.out N N1 (by omega)).mono ?_
  rintro x w1 ⟨g, rfl, hch, q1⟩
  have C1 := Lib.hid hch
  have G1 := Lib.hid (GB.out.q q1)
  have Q1 := Lib.hid (QA.out.trans q1)
  clear hch q1
  go_wp2_with fail
  refine (HN.out w1 G1.out L (by omega) (by omega)).mono ?_
  rintro x w2 ⟨h, rfl, hch, q2⟩
  have D1 := Lib.hid hch
  have C2 := Lib.hid (C1.out.q q2)
  have G2 := Lib.hid (G1.out.q q2)
  have Q2 := Lib.hid (Q1.out.trans q2)
  obtain ⟨hc0, hc1, hc2⟩ := HM.out w2 Q2.out
  clear hch q2 C1 G1 Q1
  as_aux_lemma =>
  go_wp2_with fail
  refine (token_x g s' y N I EY.out w2 C2.out (by omega) I1).mono ?_
  rintro x _ ⟨rfl, rfl⟩
  go_wp2_with fail
  refine (token_x h s' y L J EZ.out w2 D1.out (by omega) (by omega)).mono ?_
  rintro x _ ⟨rfl, rfl⟩
  go_wp2_with fail
  refine (value_x N u v1 e1 V1.out E1.out w2 (by omega) (by omega) u0 u1).mono ?_
  rintro x _ ⟨rfl, rfl⟩
  go_wp2_with fail
  refine (value_x M u v2 e2 V2.out E2.out w2 (by omega) (by omega) u0 u1).mono ?_
  rintro x _ ⟨rfl, rfl⟩
  go_wp2_with fail
  refine (value_x L u v3 e3 V3.out E3.out w2 (by omega) (by omega) u0 u1).mono ?_
  rintro x _ ⟨rfl, rfl⟩
  go_wp2_with fail
  have AD := add_any v1 v2 w2 p1 p2 p3 p4
  rw [V4.out, E4.out] at AD
  refine AD.mono ?_
  clear AD
  rintro x _ ⟨rfl, rfl⟩
  clear V1 E1 V2 E2 V3 E3 V4 E4 hc0 hc1 hc2 hL hJ hI het
  rcases KEY with ⟨rfl, rfl, rfl, rfl, rfl⟩ | ⟨rfl, rfl, rfl, rfl, rfl⟩ | ⟨rfl, rfl⟩ | ⟨rfl, rfl, rfl⟩
  all_goals (
    as_aux_lemma =>
    go_wp2_with fail
    refine (fixed_any w2 (Q.refl w2) G2.out).mono ?_
    rintro x w3 ⟨rfl, q3⟩
    have Q3 := Lib.hid q3
    clear q3
    go_wp2_with fail
    go_ret
    exact ⟨rfl, HL.out.trans (Q2.out.trans Q3.out)⟩)

theorem okWide_array {P : Program} {w : World} {r : Reach} {base n : Nat} {t e : TypeId} {v : Value} (ht : P.underlying t = some (.array n e)) (h : Value.okWide P w r base t v) : ∃ cs, v = .agg cs ∧ cs.size = P.cellsOf t := by
  unfold Value.okWide at h
  cases v <;> simp_all [Program.underlying]

theorem arr1_open {W : World} {base : Nat} {v : Value} {H : Type} {enc : TypeId × Value → H} {d : DataW H} {p : List MemPlace}
    (hv : Value.okWide Tryd.prog W .any base 42 v) (h : DataW.Trod enc Tryd.prog W 0 (fun _ => true) true 42 v d p) :
    ∃ a0 a1 a2 : Int, v = .agg #[.int .u8 a0, .int .u8 a1, .int .u8 a2] ∧ (Lit.int .u8 a0).wf = true ∧ (Lit.int .u8 a1).wf = true ∧ (Lit.int .u8 a2).wf = true := by
  have c1 : Tryd.prog.cellsOf 5 = 1 := by kernel_rfl
  have c2 : Tryd.prog.cellsOf 42 = 3 := by kernel_rfl
  obtain ⟨cs, rfl, hsz⟩ := okWide_array Tryd.underlying42 hv
  have hsz' : cs.size = 3 := hsz.trans c2
  obtain ⟨x0, x1, x2, rfl⟩ := Joins.array3 hsz'
  obtain ⟨fuel, hf⟩ := h
  obtain ⟨xs, m, _, _, _, hl, hg⟩ := DataW.trod_array Tryd.underlying42 hf
  have g0 := hg 0 (by omega)
  have g1 := hg 1 (by omega)
  have g2 := hg 2 (by omega)
  rw [List.getElem?_eq_getElem (by omega)] at g0 g1 g2
  obtain ⟨b0, e0, _, w0⟩ := DataW.trod_int Tryd.underlying5 g0
  obtain ⟨b1, e1, _, w1⟩ := DataW.trod_int Tryd.underlying5 g1
  obtain ⟨b2, e2, _, w2⟩ := DataW.trod_int Tryd.underlying5 g2
  simp [Value.cells, c1] at e0 e1 e2
  subst e0 e1 e2
  exact ⟨b0, b1, b2, rfl, w0, w1, w2⟩

set_option maxRecDepth 100000 in
theorem lifted (os : Os) (started : os.Started) (H : Type) (enc : TypeId × Value → H) :
    ReturnsInHanded {} Tryd.checked os 7 .any (fun w args => (Rows.paywordValuesSpec.pre enc Tryd.prog Tryd.f7 [] false w args ∧ laidMetH Tryd.prog laid2 w) ∧ sizedMet enc Tryd.prog Tryd.f7 (OpenSpec.ofChange Rows.paywordValuesSpec) false w args)
      (Rows.paywordValuesSpec.post enc Tryd.prog Tryd.f7 false true false false) := by
  refine returnsInHanded_of_change_and (C := Tryd.checked) (X := fun w _ => laidMetH Tryd.prog laid2 w) (fun _ _ _ hh h => h.of_heap hh) own started (by kernel_rfl) Tryd.func7
    (ChangeSpec.witness_shaped (enc := enc) (C := Tryd.checked) (os := os) (X := fun w _ => laidMetH Tryd.prog laid2 w) false (World.doorLaid Tryd.prog 400 os) #[.string ⟨#[]⟩, .agg #[.int .u8 0, .int .u8 0, .int .u8 0], .int .u64 0] 8 rfl (World.shaped_of_RefB (by kernel_rfl) (by kernel_rfl)) (by kernel_rfl) (by kernel_rfl) (by kernel_rfl) (door_met os _)) ?_
  intro W base args ds gs before hval0 hW _ hsz0 hL _
  have hval : ∀ (j : Nat) t v, Tryd.f7.params[j]? = some t → args[j]? = some v → Value.okWide Tryd.prog W .any base t v := hval0
  have hW' := hW
  obtain ⟨p, q, hA0, hV, rfl, hfz, hnd⟩ := hW
  have hA : DataW.TrodAll enc Tryd.prog W 0 (fun _ => true) true Tryd.f7.params.toList args.toList ds p := hA0
  rw [Tryd.params7] at hA hval
  obtain ⟨v0, vs0, d0, ds0, p0, q0, hargs, rfl, rfl, h0, r0⟩ := trodAll_cons hA
  obtain ⟨v1, vs1, d1, ds1, p1, q1, rfl, rfl, rfl, h1, r1⟩ := trodAll_cons r0
  obtain ⟨v2, vs2, d2, ds2, p2, q2, rfl, rfl, rfl, h2, r2⟩ := trodAll_cons r1
  obtain ⟨rfl, rfl, rfl⟩ := trodAll_nil r2
  obtain rfl : args = #[v0, v1, v2] := by cases args; simp_all
  obtain ⟨rfl, rfl⟩ := trodVars_none hV
  have k0 := h0
  have lt0 : ∀ x ∈ p0, x.block < W.heap.size := by obtain ⟨m, hm⟩ := k0; exact DataW.trod_lt m _ _ _ hm
  obtain ⟨a0, rfl, e0, f0, w0⟩ := open_string Tryd.underlying9 (hval 0 9 v0 rfl rfl) h0
  have k1 := h1
  have lt1 : ∀ x ∈ p1, x.block < W.heap.size := by obtain ⟨m, hm⟩ := k1; exact DataW.trod_lt m _ _ _ hm
  obtain ⟨a1_0, a1_1, a1_2, rfl, w1_0, w1_1, w1_2⟩ := arr1_open (hval 1 42 v1 rfl rfl) h1
  have k2 := h2
  have lt2 : ∀ x ∈ p2, x.block < W.heap.size := by obtain ⟨m, hm⟩ := k2; exact DataW.trod_lt m _ _ _ hm
  obtain ⟨a2, rfl, e2, f2, w2⟩ := open_int Tryd.underlying37 (hval 2 37 v2 rfl rfl) h2
  clear hA0 hval0
  refine (walk W (of_laid hL) a0 w0 a1_0 a1_1 a1_2 w1_0 w1_1 w1_2 a2 w2).mono fun e W' ⟨he, bel⟩ => ?_
  subst he
  exact ⟨_, rfl, _, _, _, [], _, [], hW', trodAll_mk1 (shut_bool Tryd.underlying4 _), (trodAll_cons_mk (Below.trod laidOut (by kernel_rfl) (of_decide_eq_true (by kernel_rfl)) k0 bel lt0) (trodAll_cons_mk (Below.trod laidOut (by kernel_rfl) (of_decide_eq_true (by kernel_rfl)) k1 bel lt1) (trodAll_cons_mk (Below.trod laidOut (by kernel_rfl) (of_decide_eq_true (by kernel_rfl)) k2 bel lt2) trodAll_mk0))), rfl, bel.frame _, fun h => by cases h⟩

theorem over : Rows.paywordValuesRow.holds Tryd.pinned (OpenSpec.ofChange Rows.paywordValuesSpec) :=
  OpenClaim.holds_of_wide 7 Tryd.f7 rfl rfl rfl rfl rfl rfl rfl ⟨rfl, rfl, rfl, rfl, rfl⟩ rfl rfl rfl rfl rfl (by kernel_rfl) Tryd.func7 (by kernel_rfl)
    (of_decide_eq_true (by kernel_rfl)) (by unfold Func.isWrapper; first | (rw [if_pos (by decide +kernel)]; kernel_rfl) | (rw [if_neg (by decide +kernel)]; exact ⟨rfl, rfl⟩))
    (fun os started H enc _ => lifted os started H enc)

theorem card : Claim7.holds Tryd.pinned (.plain (OpenSpec.ofChange Rows.paywordValuesSpec)) Rows.paywordValuesCard :=
  Claim7.holds_tied_plain_at .later [] [.data, .data] true Rows.paywordValuesCard.stood.harness false
    over (fun _ h => by cases h) (by kernel_rfl) (fun _ h => by cases h) paywordValues_row_tie rfl ⟨rfl, rfl⟩ (by kernel_rfl) rfl
    (fun f fn hf hfn => by
      obtain rfl : f = 7 := Option.some.inj ((show Tryd.prog.funcNamed "turnstile/turnstilelaw04.PaywordValues" = some 7 by kernel_rfl).symm.trans hf) |>.symm
      obtain rfl : fn = Tryd.f7 := (Option.some.inj (Tryd.func7.symm.trans hfn)).symm
      exact ⟨by kernel_rfl, fun j t ht => by
        rw [Tryd.params7] at ht
        have hm : t ∈ [9, 42, 37] := by simpa using Array.mem_of_getElem? ht
        have hall : ([9, 42, 37].all fun u => !Tryd.prog.wantsStandIn u) = true := by kernel_rfl
        exact (show Tryd.prog.wantsStandIn t = false by simpa using List.all_eq_true.1 hall t hm)⟩)
    (by kernel_rfl)

end Go.Proofs.YtnjkikdcalfjgaaDoor.paywordValues
namespace Go.Proofs.YtnjkikdcalfjgaaDoor
theorem paywordValues_holds : Rows.PaywordValuesCardSaid := paywordValues.card
#print axioms paywordValues_holds
end Go.Proofs.YtnjkikdcalfjgaaDoor
