/-
  For every input the law MerkleTrees (the root of any leaves, the path of any one, and where any path leads, or what is wrong, is as the document says) returns true and leaves its arguments as they were. The package's two tables are as the program's text lays them (the card ties them).
-/
import Derived.Test.YtnghhagiokiaoaaDoorMerX
namespace Go.Proofs.YtnghhagiokiaoaaDoor.merkleTrees
open Go.ChangeShapes Go.WideShapes Go.ChangeAt Go.RowKit
open Go.ChangeMaps (open_string shut_string)
open Mem Sh Wot Mer
set_option linter.unusedVariables false

theorem isrow_q {W w : World} {a : Option Addr} {len cap : Nat} {S : Nat → ByteArray} (h : IsRowS W a len cap S) (q : Q W w) : IsRowS w a len cap S := by
  rcases h with h | ⟨x, h1, h2, h3, h4⟩
  · exact .inl h
  · exact .inr ⟨x, h1, h2, h3, fun i hi => ⟨(q.cell (p := x.add i) (World.block_lt_of_cell? _ _ (h4 i hi).1)).trans (h4 i hi).1, (h4 i hi).2⟩⟩
set_option maxHeartbeats 2000000 in
set_option maxRecDepth 100000 in
theorem walk (W : World) (hG : GL W) (a : Option Addr) (len cap : Nat) (S : Nat → ByteArray) (hr : IsRowS W a len cap S) (i : Int) (wi : (Lit.int .i64 i).wf = true) (a' : Option Addr) (len' cap' : Nat) (S' : Nat → ByteArray) (hr' : IsRowS W a' len' cap' S') :
    Calls Tryd.prog 3 #[.slice a len cap, .int .i64 i, .slice a' len' cap'] W fun e W' => e = .returned (.bool true) ∧ Below W.heap.size W W' := by
  have HG := Lib.hid hG
  obtain ⟨i0, i9⟩ := bounds_i64 wi
  have I9 : Hid (i ≤ 9223372036854775807) := by show _ ≤ _; omega
  have HR := Lib.hid hr
  have HR' := Lib.hid hr'
  clear hG hr hr' wi
  go_enter Tryd.func3, Tryd.ntmps3
  go_wp2_with fail
  refine (cut_x a len cap S W (Q.refl W) HR.out).mono ?_
  rintro x w1 ⟨g, c, n, rfl, en, o1, q1⟩
  have n20 : n ≤ 20 := by omega
  have T1 := Lib.hid o1.tr
  have Q1 := Lib.hid q1
  clear o1 q1 en
  go_wp2_with fail
  refine (cut_x (W := w1) a' len' cap' S' w1 (Q.refl w1) (isrow_q HR'.out Q1.out)).mono ?_
  rintro x w2 ⟨g', c', n', rfl, en', o2, q2⟩
  have n20' : n' ≤ 20 := by omega
  have T2 := Lib.hid (T1.out.q q2)
  have U2 := Lib.hid o2.tr
  have Q2 := Lib.hid (Q1.out.trans q2)
  clear o2 q2 en' T1 Q1 HR HR'
  generalize ct S = F at *
  generalize ct S' = F' at *
  obtain ⟨r, er⟩ : ∃ z, rtV F n = z := ⟨_, rfl⟩
  have ER := Lib.hid er
  clear er
  obtain ⟨e, ee⟩ : ∃ z, rtE F n = z := ⟨_, rfl⟩
  have EE := Lib.hid ee
  clear ee
  as_aux_lemma =>
  by_cases hn : n = 0
  · subst hn
    have NP : Hid (¬ ((∃ h, IsLv F 0 h) ∧ 0 ≤ i ∧ i < ((0 : Nat) : Int))) := fun h => by have := h.2; omega
    have HG2 := Lib.hid (HG.out.q Q2.out)
    obtain ⟨x, ex⟩ : ∃ z, upV ⟨#[]⟩ i n' F' = z := ⟨_, rfl⟩
    have EX := Lib.hid ex
    clear ex
    obtain ⟨j, ej⟩ : ∃ z, upE ⟨#[]⟩ i n' F' = z := ⟨_, rfl⟩
    have EJ := Lib.hid ej
    clear ej
    go_wp2_with fail
    refine (root_a g 0 c F r e ER.out EE.out w2 (Q.refl w2) HG2.out (T2.out.q (Q.refl w2)) (by omega)).mono ?_
    rintro x w3 ⟨rfl, q3⟩
    have Q3 := Lib.hid q3
    clear q3
    go_wp2_with fail
    refine (rroot_a g 0 c F r e ER.out EE.out w3 Q3.out (T2.out.q Q3.out) (by omega)).mono ?_
    rintro x w4 ⟨rfl, q4⟩
    have Q4 := Lib.hid q4
    clear q4
    as_aux_lemma =>
    go_wp2_with fail
    refine (path_bad g 0 c i F w4 Q4.out (T2.out.q Q4.out) (by omega) NP.out).mono ?_
    rintro x w5 ⟨rfl, q5⟩
    have Q5 := Lib.hid q5
    clear q5
    as_aux_lemma =>
    go_wp2_with fail
    refine (rpath_bad g 0 0 c i F w5 Q5.out (T2.out.q Q5.out) (by omega) NP.out).mono ?_
    rintro x w6 ⟨rfl, q6⟩
    have Q6 := Lib.hid q6
    clear q6
    as_aux_lemma =>
    go_wp2_with fail
    refine (up_a g' n' c' ⟨#[]⟩ i F' x j EX.out EJ.out w6 Q6.out HG2.out (U2.out.q Q6.out) (by omega) I9.out).mono ?_
    rintro x w7 ⟨rfl, q7⟩
    have Q7 := Lib.hid q7
    clear q7
    as_aux_lemma =>
    go_wp2_with fail
    refine (rup_a g' n' c' ⟨#[]⟩ i F' x j EX.out EJ.out w7 Q7.out (U2.out.q Q7.out) (by omega) I9.out).mono ?_
    rintro x w8 ⟨rfl, q8⟩
    have Q8 := Lib.hid q8
    clear q8
    as_aux_lemma =>
    go_wp2_with fail
    refine (same_nil w8 Q8.out).mono ?_
    rintro x w9 ⟨rfl, q9⟩
    have Q9 := Lib.hid q9
    clear q9
    as_aux_lemma =>
    go_wp2_with fail
    refine (Mer.fixed_any w9 Q9.out HG2.out).mono ?_
    rintro x w10 ⟨rfl, q10⟩
    have Q10 := Lib.hid q10
    clear q10
    go_wp2_with fail
    go_ret
    exact ⟨rfl, Q2.out.trans Q10.out⟩
  · have n1 : (0 : Int) < (n : Int) := by omega
    have hc0 := T2.out.r 0 (by omega)
    rw [Nat.zero_add] at hc0
    obtain ⟨L, eL⟩ : ∃ z, F 0 = z := ⟨_, rfl⟩
    rw [eL] at hc0
    clear eL
    by_cases hp : (∃ h, IsLv F n h) ∧ 0 ≤ i ∧ i < n
    · obtain ⟨⟨h, hl⟩, hi0, hi1⟩ := hp
      obtain ⟨k, rfl⟩ := Int.eq_ofNat_of_zero_le hi0
      have hk : k < n := by omega
      have HL := Lib.hid hl
      clear hl
      have HG2 := Lib.hid (HG.out.q Q2.out)
      obtain ⟨x, ex⟩ : ∃ z, upV L (k : Int) n' F' = z := ⟨_, rfl⟩
      have EX := Lib.hid ex
      clear ex
      obtain ⟨j, ej⟩ : ∃ z, upE L (k : Int) n' F' = z := ⟨_, rfl⟩
      have EJ := Lib.hid ej
      clear ej
      go_wp2_with fail
      refine (root_a g n c F r e ER.out EE.out w2 (Q.refl w2) HG2.out (T2.out.q (Q.refl w2)) (by omega)).mono ?_
      rintro x w3 ⟨rfl, q3⟩
      have Q3 := Lib.hid q3
      clear q3
      go_wp2_with fail
      refine (rroot_a g n c F r e ER.out EE.out w3 Q3.out (T2.out.q Q3.out) (by omega)).mono ?_
      rintro x w4 ⟨rfl, q4⟩
      have Q4 := Lib.hid q4
      clear q4
      as_aux_lemma =>
      go_wp2_with fail
      refine (path_x (W := w4) g n c h k F w4 (Q.refl w4) (HG2.out.q Q4.out) (T2.out.q Q4.out) HL.out hk).mono ?_
      rintro x w5 ⟨p, pc, rfl, o5, q5⟩
      have Q5 := Lib.hid (Q.trans Q4.out q5)
      have PA5 := Lib.hid o5.tr
      clear o5 q5
      as_aux_lemma =>
      go_wp2_with fail
      refine (rpath_x (W := w5) g 0 n c h k F w5 (Q.refl w5) (T2.out.q Q5.out) HL.out hk).mono ?_
      rintro x w6 ⟨p', pc', rfl, o6, q6⟩
      have Q6 := Lib.hid (Q.trans Q5.out q6)
      have PB6 := Lib.hid o6.tr
      have PA6 := Lib.hid (PA5.out.q q6)
      clear o6 q6
      as_aux_lemma =>
      go_wp2_with fail
      refine (up_a (W := w6) g' n' c' L (k : Int) F' x j EX.out EJ.out w6 (Q.refl w6) (HG2.out.q Q6.out) (U2.out.q Q6.out) (by omega) I9.out).mono ?_
      rintro x w7 ⟨rfl, q7⟩
      have Q7 := Lib.hid (Q6.out.trans q7)
      have PC := Lib.hid (PA6.out.q q7)
      have PD := Lib.hid (PB6.out.q q7)
      clear q7
      as_aux_lemma =>
      go_wp2_with fail
      refine (rup_a (W := w7) g' n' c' L (k : Int) F' x j EX.out EJ.out w7 (Q.refl w7) (U2.out.q Q7.out) (by omega) I9.out).mono ?_
      rintro x w8 ⟨rfl, q8⟩
      have Q8 := Lib.hid (Q7.out.trans q8)
      have PX := Lib.hid (PC.out.q q8)
      have PY := Lib.hid (PD.out.q q8)
      clear q8
      as_aux_lemma =>
      go_wp2_with fail
      refine (same_x p 0 h pc p' 0 pc' (pth F k) w8 Q8.out PX.out PY.out (by have := HL.out.hh; omega)).mono ?_
      rintro x w9 ⟨rfl, q9⟩
      have Q9 := Lib.hid q9
      clear q9
      as_aux_lemma =>
      go_wp2_with fail
      refine (Mer.fixed_any w9 Q9.out HG2.out).mono ?_
      rintro x w10 ⟨rfl, q10⟩
      have Q10 := Lib.hid q10
      clear q10
      go_wp2_with fail
      go_ret
      exact ⟨rfl, Q2.out.trans Q10.out⟩
    · have NP := Lib.hid hp
      clear hp
      have HG2 := Lib.hid (HG.out.q Q2.out)
      obtain ⟨x, ex⟩ : ∃ z, upV L i n' F' = z := ⟨_, rfl⟩
      have EX := Lib.hid ex
      clear ex
      obtain ⟨j, ej⟩ : ∃ z, upE L i n' F' = z := ⟨_, rfl⟩
      have EJ := Lib.hid ej
      clear ej
      go_wp2_with fail
      refine (root_a g n c F r e ER.out EE.out w2 (Q.refl w2) HG2.out (T2.out.q (Q.refl w2)) (by omega)).mono ?_
      rintro x w3 ⟨rfl, q3⟩
      have Q3 := Lib.hid q3
      clear q3
      go_wp2_with fail
      refine (rroot_a g n c F r e ER.out EE.out w3 Q3.out (T2.out.q Q3.out) (by omega)).mono ?_
      rintro x w4 ⟨rfl, q4⟩
      have Q4 := Lib.hid q4
      clear q4
      as_aux_lemma =>
      go_wp2_with fail
      refine (path_bad g n c i F w4 Q4.out (T2.out.q Q4.out) (by omega) NP.out).mono ?_
      rintro x w5 ⟨rfl, q5⟩
      have Q5 := Lib.hid q5
      clear q5
      as_aux_lemma =>
      go_wp2_with fail
      refine (rpath_bad g 0 n c i F w5 Q5.out (T2.out.q Q5.out) (by omega) NP.out).mono ?_
      rintro x w6 ⟨rfl, q6⟩
      have Q6 := Lib.hid q6
      clear q6
      as_aux_lemma =>
      go_wp2_with fail
      refine (up_a g' n' c' L i F' x j EX.out EJ.out w6 Q6.out HG2.out (U2.out.q Q6.out) (by omega) I9.out).mono ?_
      rintro x w7 ⟨rfl, q7⟩
      have Q7 := Lib.hid q7
      clear q7
      as_aux_lemma =>
      go_wp2_with fail
      refine (rup_a g' n' c' L i F' x j EX.out EJ.out w7 Q7.out (U2.out.q Q7.out) (by omega) I9.out).mono ?_
      rintro x w8 ⟨rfl, q8⟩
      have Q8 := Lib.hid q8
      clear q8
      as_aux_lemma =>
      go_wp2_with fail
      refine (same_nil w8 Q8.out).mono ?_
      rintro x w9 ⟨rfl, q9⟩
      have Q9 := Lib.hid q9
      clear q9
      as_aux_lemma =>
      go_wp2_with fail
      refine (Mer.fixed_any w9 Q9.out HG2.out).mono ?_
      rintro x w10 ⟨rfl, q10⟩
      have Q10 := Lib.hid q10
      clear q10
      go_wp2_with fail
      go_ret
      exact ⟨rfl, Q2.out.trans Q10.out⟩

set_option maxRecDepth 100000 in
theorem lifted (os : Os) (started : os.Started) (H : Type) (enc : TypeId × Value → H) :
    ReturnsInHanded {} Tryd.checked os 3 .any (fun w args => (Rows.merkleTreesSpec.pre enc Tryd.prog Tryd.f3 [] false w args ∧ laidMetH Tryd.prog laid2 w) ∧ sizedMet enc Tryd.prog Tryd.f3 (OpenSpec.ofChange Rows.merkleTreesSpec) false w args)
      (Rows.merkleTreesSpec.post enc Tryd.prog Tryd.f3 false true false false) := by
  refine returnsInHanded_of_change_and (C := Tryd.checked) (X := fun w _ => laidMetH Tryd.prog laid2 w) (fun _ _ _ hh h => h.of_heap hh) own started (by kernel_rfl) Tryd.func3
    (ChangeSpec.witness_shaped (enc := enc) (C := Tryd.checked) (os := os) (X := fun w _ => laidMetH Tryd.prog laid2 w) false (World.doorLaid Tryd.prog 400 os) #[.slice none 0 0, .int .i64 0, .slice none 0 0] 8 rfl (World.shaped_of_RefB (by kernel_rfl) (by kernel_rfl)) (by kernel_rfl) (by kernel_rfl) (by kernel_rfl) (door_met os _)) ?_
  intro W base args ds gs before hval0 hW _ hsz0 hL _
  have hval : ∀ (j : Nat) t v, Tryd.f3.params[j]? = some t → args[j]? = some v → Value.okWide Tryd.prog W .any base t v := hval0
  have hW' := hW
  obtain ⟨p, q, hA0, hV, rfl, hfz, hnd⟩ := hW
  have hA : DataW.TrodAll enc Tryd.prog W 0 (fun _ => true) true Tryd.f3.params.toList args.toList ds p := hA0
  rw [Tryd.params3] at hA hval
  obtain ⟨v0, vs0, d0, ds0, p0, q0, hargs, rfl, rfl, h0, r0⟩ := trodAll_cons hA
  obtain ⟨v1, vs1, d1, ds1, p1, q1, rfl, rfl, rfl, h1, r1⟩ := trodAll_cons r0
  obtain ⟨v2, vs2, d2, ds2, p2, q2, rfl, rfl, rfl, h2, r2⟩ := trodAll_cons r1
  obtain ⟨rfl, rfl, rfl⟩ := trodAll_nil r2
  obtain rfl : args = #[v0, v1, v2] := by cases args; simp_all
  obtain ⟨rfl, rfl⟩ := trodVars_none hV
  have k0 := h0
  have lt0 : ∀ x ∈ p0, x.block < W.heap.size := by obtain ⟨m, hm⟩ := k0; exact DataW.trod_lt m _ _ _ hm
  obtain ⟨a0, len0, cap0, rfl⟩ := okWide_slice Tryd.underlying22 (hval 0 22 v0 rfl rfl)
  obtain ⟨z0, w0⟩ : ∃ zs, IsRowS W a0 len0 cap0 zs := by
    obtain ⟨fuel, hf⟩ := h0
    rcases Deep.open_strs Tryd.underlying22 Tryd.underlying9 (by kernel_rfl) hf with ⟨hcs, _⟩ | ⟨x, l, c, m, S, hcs, _, hl, hm, hmm, _, hcell⟩
    · simp [Value.cells] at hcs
      obtain ⟨rfl, rfl, rfl⟩ := hcs
      exact ⟨fun _ => ByteArray.empty, .inl ⟨rfl, rfl, rfl⟩⟩
    · simp [Value.cells] at hcs
      obtain ⟨rfl, rfl, rfl⟩ := hcs
      refine ⟨S, .inr ⟨_, rfl, hl, hm, fun i hi => hcell i ?_⟩⟩
      rw [hmm]; split <;> omega
  have k1 := h1
  have lt1 : ∀ x ∈ p1, x.block < W.heap.size := by obtain ⟨m, hm⟩ := k1; exact DataW.trod_lt m _ _ _ hm
  obtain ⟨a1, rfl, e1, f1, w1⟩ := open_int Tryd.underlying3 (hval 1 3 v1 rfl rfl) h1
  have k2 := h2
  have lt2 : ∀ x ∈ p2, x.block < W.heap.size := by obtain ⟨m, hm⟩ := k2; exact DataW.trod_lt m _ _ _ hm
  obtain ⟨a2, len2, cap2, rfl⟩ := okWide_slice Tryd.underlying22 (hval 2 22 v2 rfl rfl)
  obtain ⟨z2, w2⟩ : ∃ zs, IsRowS W a2 len2 cap2 zs := by
    obtain ⟨fuel, hf⟩ := h2
    rcases Deep.open_strs Tryd.underlying22 Tryd.underlying9 (by kernel_rfl) hf with ⟨hcs, _⟩ | ⟨x, l, c, m, S, hcs, _, hl, hm, hmm, _, hcell⟩
    · simp [Value.cells] at hcs
      obtain ⟨rfl, rfl, rfl⟩ := hcs
      exact ⟨fun _ => ByteArray.empty, .inl ⟨rfl, rfl, rfl⟩⟩
    · simp [Value.cells] at hcs
      obtain ⟨rfl, rfl, rfl⟩ := hcs
      refine ⟨S, .inr ⟨_, rfl, hl, hm, fun i hi => hcell i ?_⟩⟩
      rw [hmm]; split <;> omega
  clear hA0 hval0
  refine (walk W (of_laid hL) a0 len0 cap0 z0 w0 a1 w1 a2 len2 cap2 z2 w2).mono fun e W' ⟨he, bel⟩ => ?_
  subst he
  exact ⟨_, rfl, _, _, _, [], _, [], hW', trodAll_mk1 (shut_bool Tryd.underlying4 _), (trodAll_cons_mk (Below.trod laidOut (by kernel_rfl) (of_decide_eq_true (by kernel_rfl)) k0 bel lt0) (trodAll_cons_mk (Below.trod laidOut (by kernel_rfl) (of_decide_eq_true (by kernel_rfl)) k1 bel lt1) (trodAll_cons_mk (Below.trod laidOut (by kernel_rfl) (of_decide_eq_true (by kernel_rfl)) k2 bel lt2) trodAll_mk0))), rfl, bel.frame _, fun h => by cases h⟩

theorem over : Rows.merkleTreesRow.holds Tryd.pinned (OpenSpec.ofChange Rows.merkleTreesSpec) :=
  OpenClaim.holds_of_wide 3 Tryd.f3 rfl rfl rfl rfl rfl rfl rfl ⟨rfl, rfl, rfl, rfl, rfl⟩ rfl rfl rfl rfl rfl (by kernel_rfl) Tryd.func3 (by kernel_rfl)
    (of_decide_eq_true (by kernel_rfl)) (by unfold Func.isWrapper; first | (rw [if_pos (by decide +kernel)]; kernel_rfl) | (rw [if_neg (by decide +kernel)]; exact ⟨rfl, rfl⟩))
    (fun os started H enc _ => lifted os started H enc)

theorem card : Claim7.holds Tryd.pinned (.plain (OpenSpec.ofChange Rows.merkleTreesSpec)) Rows.merkleTreesCard :=
  Claim7.holds_tied_plain_at .later [] [.data, .data] true Rows.merkleTreesCard.stood.harness false
    over (fun _ h => by cases h) (by kernel_rfl) (fun _ h => by cases h) merkleTrees_row_tie rfl ⟨rfl, rfl⟩ (by kernel_rfl) rfl
    (fun f fn hf hfn => by
      obtain rfl : f = 3 := Option.some.inj ((show Tryd.prog.funcNamed "turnstile/turnstilelaw07.MerkleTrees" = some 3 by kernel_rfl).symm.trans hf) |>.symm
      obtain rfl : fn = Tryd.f3 := (Option.some.inj (Tryd.func3.symm.trans hfn)).symm
      exact ⟨by kernel_rfl, fun j t ht => by
        rw [Tryd.params3] at ht
        have hm : t ∈ [22, 3, 22] := by simpa using Array.mem_of_getElem? ht
        have hall : ([22, 3, 22].all fun u => !Tryd.prog.wantsStandIn u) = true := by kernel_rfl
        exact (show Tryd.prog.wantsStandIn t = false by simpa using List.all_eq_true.1 hall t hm)⟩)
    (by kernel_rfl)

end Go.Proofs.YtnghhagiokiaoaaDoor.merkleTrees
namespace Go.Proofs.YtnghhagiokiaoaaDoor
theorem merkleTrees_holds : Rows.MerkleTreesCardSaid := merkleTrees.card
#print axioms merkleTrees_holds
end Go.Proofs.YtnghhagiokiaoaaDoor
