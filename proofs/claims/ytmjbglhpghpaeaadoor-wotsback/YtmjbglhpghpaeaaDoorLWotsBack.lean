/-
  For every input the law WotsBack (what is signed with a seed verifies with its public key; with one byte less, or more, it does not) returns true and leaves its arguments as they were. The package's two tables are as the program's text lays them (the card ties them).
-/
import Derived.Test.YtmjbglhpghpaeaaDoorWot8
namespace Go.Proofs.YtmjbglhpghpaeaaDoor.wotsBack
open Go.ChangeShapes Go.WideShapes Go.ChangeAt Go.RowKit
open Go.ChangeMaps (open_string shut_string)
open Mem Sh Wot
set_option linter.unusedVariables false

set_option maxHeartbeats 2000000 in
set_option maxRecDepth 100000 in
theorem walk (W : World) (hG : GL W) (s : ByteArray) (hs : s.size ≤ maxLen) (m : ByteArray) (hm' : m.size ≤ maxLen) :
    Calls Tryd.prog 6 #[.string s, .string m] W fun e W' => e = .returned (.bool true) ∧ Below W.heap.size W W' := by
  have HG := Lib.hid hG
  clear hG
  unfold maxLen at hs hm'
  have zt := cut_le s 200 200 rfl
  obtain ⟨t, et⟩ : ∃ z, s.extract 0 (min (s.size : Int) 200).toNat = z := ⟨_, rfl⟩
  rw [et] at zt
  have ZT : Hid (t.size ≤ 1000000) := by show t.size ≤ 1000000; omega
  clear zt
  have zn := cut_le m 200 200 rfl
  obtain ⟨n, en⟩ : ∃ z, m.extract 0 (min (m.size : Int) 200).toNat = z := ⟨_, rfl⟩
  rw [en] at zn
  have ZN : Hid (n.size ≤ 1000000) := by show n.size ≤ 1000000; omega
  clear zn
  obtain ⟨P, eP⟩ : ∃ z, pub t = z := ⟨_, rfl⟩
  have EP := Lib.hid eP
  obtain ⟨S, eS⟩ : ∃ z, sgn t n = z := ⟨_, rfl⟩
  have ES := Lib.hid eS
  have eF : frm n S = P := by rw [← eS, ← eP]; exact frm_sgn _ _
  have EF := Lib.hid eF
  have zS : S.size = 288 := by rw [← eS]; exact sgn_size _ _
  have zS' : (S.size : Int) = 288 := by omega
  have ZS := Lib.hid zS
  have VT : Hid (vfy P n S = true) := vfy_yes _ _ _ zS eF
  obtain ⟨SC, eSC⟩ : ∃ z, S.extract 0 287 = z := ⟨_, rfl⟩
  have zC : SC.size = 287 := by rw [← eSC, ByteArray.size_extract]; omega
  have VC : Hid (vfy P n SC = false) := vfy_no _ _ _ (by omega)
  obtain ⟨SX, eSX⟩ : ∃ z : ByteArray, S ++ (⟨#[120]⟩ : ByteArray) = z := ⟨_, rfl⟩
  have zX : SX.size = 289 := by rw [← eSX, ByteArray.size_append, zS]; rfl
  have VX : Hid (vfy P n SX = false) := vfy_no _ _ _ (by omega)
  clear eP eS eF zS zC zX
  go_enter Tryd.func6, Tryd.ntmps6
  go_wp2_with fail
  refine (sign_x t n S ES.out W (Q.refl W) HG.out ZT.out ZN.out).mono ?_
  rintro x w1 ⟨rfl, q1⟩
  have Q1 := Lib.hid q1
  clear q1
  go_wp2_with fail
  refine (public_x t P EP.out w1 Q1.out HG.out ZT.out).mono ?_
  rintro x w2 ⟨rfl, q2⟩
  have Q2 := Lib.hid q2
  clear q2
  as_aux_lemma =>
  go_wp2_with fail
  refine (from_x n S P EF.out w2 Q2.out HG.out ZS.out ZN.out).mono ?_
  rintro x w3 ⟨rfl, q3⟩
  have Q3 := Lib.hid q3
  clear q3
  as_aux_lemma =>
  go_wp2_with fail
  refine (verify_x P n S true VT.out w3 Q3.out HG.out ZN.out).mono ?_
  rintro x w4 ⟨rfl, q4⟩
  have Q4 := Lib.hid q4
  clear q4
  go_wp2_with fail
  refine (verify_x P n SC false VC.out w4 Q4.out HG.out ZN.out).mono ?_
  rintro x w5 ⟨rfl, q5⟩
  have Q5 := Lib.hid q5
  clear q5
  as_aux_lemma =>
  go_wp2_with fail
  refine (verify_x P n SX false VX.out w5 Q5.out HG.out ZN.out).mono ?_
  rintro x w6 ⟨rfl, q6⟩
  have Q6 := Lib.hid q6
  clear q6
  as_aux_lemma =>
  go_wp2_with fail
  refine (fixed_any w6 Q6.out HG.out).mono ?_
  rintro x w7 ⟨rfl, q7⟩
  have Q7 := Lib.hid q7
  clear q7
  go_wp2_with fail
  go_ret
  exact ⟨rfl, Q7.out⟩

set_option maxRecDepth 100000 in
theorem lifted (os : Os) (started : os.Started) (H : Type) (enc : TypeId × Value → H) :
    ReturnsInHanded {} Tryd.checked os 6 .any (fun w args => (Rows.wotsBackSpec.pre enc Tryd.prog Tryd.f6 [] false w args ∧ laidMetH Tryd.prog laid2 w) ∧ sizedMet enc Tryd.prog Tryd.f6 (OpenSpec.ofChange Rows.wotsBackSpec) false w args)
      (Rows.wotsBackSpec.post enc Tryd.prog Tryd.f6 false true false false) := by
  refine returnsInHanded_of_change_and (C := Tryd.checked) (X := fun w _ => laidMetH Tryd.prog laid2 w) (fun _ _ _ hh h => h.of_heap hh) own started (by kernel_rfl) Tryd.func6
    (ChangeSpec.witness_shaped (enc := enc) (C := Tryd.checked) (os := os) (X := fun w _ => laidMetH Tryd.prog laid2 w) false (World.doorLaid Tryd.prog 400 os) #[.string ⟨#[]⟩, .string ⟨#[]⟩] 8 rfl (World.shaped_of_RefB (by kernel_rfl) (by kernel_rfl)) (by kernel_rfl) (by kernel_rfl) (by kernel_rfl) (door_met os _)) ?_
  intro W base args ds gs before hval0 hW _ hsz0 hL _
  have hval : ∀ (j : Nat) t v, Tryd.f6.params[j]? = some t → args[j]? = some v → Value.okWide Tryd.prog W .any base t v := hval0
  have hW' := hW
  obtain ⟨p, q, hA0, hV, rfl, hfz, hnd⟩ := hW
  have hA : DataW.TrodAll enc Tryd.prog W 0 (fun _ => true) true Tryd.f6.params.toList args.toList ds p := hA0
  rw [Tryd.params6] at hA hval
  obtain ⟨v0, vs0, d0, ds0, p0, q0, hargs, rfl, rfl, h0, r0⟩ := trodAll_cons hA
  obtain ⟨v1, vs1, d1, ds1, p1, q1, rfl, rfl, rfl, h1, r1⟩ := trodAll_cons r0
  obtain ⟨rfl, rfl, rfl⟩ := trodAll_nil r1
  obtain rfl : args = #[v0, v1] := by cases args; simp_all
  obtain ⟨rfl, rfl⟩ := trodVars_none hV
  have k0 := h0
  have lt0 : ∀ x ∈ p0, x.block < W.heap.size := by obtain ⟨m, hm⟩ := k0; exact DataW.trod_lt m _ _ _ hm
  obtain ⟨a0, rfl, e0, f0, w0⟩ := open_string Tryd.underlying9 (hval 0 9 v0 rfl rfl) h0
  have k1 := h1
  have lt1 : ∀ x ∈ p1, x.block < W.heap.size := by obtain ⟨m, hm⟩ := k1; exact DataW.trod_lt m _ _ _ hm
  obtain ⟨a1, rfl, e1, f1, w1⟩ := open_string Tryd.underlying9 (hval 1 9 v1 rfl rfl) h1
  clear hA0 hval0
  refine (walk W (of_laid hL) a0 w0 a1 w1).mono fun e W' ⟨he, bel⟩ => ?_
  subst he
  exact ⟨_, rfl, _, _, _, [], _, [], hW', trodAll_mk1 (shut_bool Tryd.underlying4 _), (trodAll_cons_mk (Below.trod laidOut (by kernel_rfl) (of_decide_eq_true (by kernel_rfl)) k0 bel lt0) (trodAll_cons_mk (Below.trod laidOut (by kernel_rfl) (of_decide_eq_true (by kernel_rfl)) k1 bel lt1) trodAll_mk0)), rfl, bel.frame _, fun h => by cases h⟩

theorem over : Rows.wotsBackRow.holds Tryd.pinned (OpenSpec.ofChange Rows.wotsBackSpec) :=
  OpenClaim.holds_of_wide 6 Tryd.f6 rfl rfl rfl rfl rfl rfl rfl ⟨rfl, rfl, rfl, rfl, rfl⟩ rfl rfl rfl rfl rfl (by kernel_rfl) Tryd.func6 (by kernel_rfl)
    (of_decide_eq_true (by kernel_rfl)) (by unfold Func.isWrapper; first | (rw [if_pos (by decide +kernel)]; kernel_rfl) | (rw [if_neg (by decide +kernel)]; exact ⟨rfl, rfl⟩))
    (fun os started H enc _ => lifted os started H enc)

theorem card : Claim7.holds Tryd.pinned (.plain (OpenSpec.ofChange Rows.wotsBackSpec)) Rows.wotsBackCard :=
  Claim7.holds_tied_plain_at .later [] [.data, .data] true Rows.wotsBackCard.stood.harness false
    over (fun _ h => by cases h) (by kernel_rfl) (fun _ h => by cases h) wotsBack_row_tie rfl ⟨rfl, rfl⟩ (by kernel_rfl) rfl
    (fun f fn hf hfn => by
      obtain rfl : f = 6 := Option.some.inj ((show Tryd.prog.funcNamed "turnstile/turnstilelaw06.WotsBack" = some 6 by kernel_rfl).symm.trans hf) |>.symm
      obtain rfl : fn = Tryd.f6 := (Option.some.inj (Tryd.func6.symm.trans hfn)).symm
      exact ⟨by kernel_rfl, fun j t ht => by
        rw [Tryd.params6] at ht
        have hm : t ∈ [9, 9] := by simpa using Array.mem_of_getElem? ht
        have hall : ([9, 9].all fun u => !Tryd.prog.wantsStandIn u) = true := by kernel_rfl
        exact (show Tryd.prog.wantsStandIn t = false by simpa using List.all_eq_true.1 hall t hm)⟩)
    (by kernel_rfl)

end Go.Proofs.YtmjbglhpghpaeaaDoor.wotsBack
namespace Go.Proofs.YtmjbglhpghpaeaaDoor
theorem wotsBack_holds : Rows.WotsBackCardSaid := wotsBack.card
#print axioms wotsBack_holds
end Go.Proofs.YtmjbglhpghpaeaaDoor
