/-
  For every input the law NumTurns (package num: sums and products are the same in either order, and so is how often a number goes into a product) returns true and leaves its arguments as they were. No condition.
-/
import Derived.Test.YtnihgcmlpgfaeaaKit
namespace Go.Proofs.Ytnihgcmlpgfaeaa.numTurns
open Go.ChangeShapes Go.WideShapes Go.ChangeAt Go.RowKit
open Go.ChangeMaps (open_string shut_string)
open Num
set_option linter.unusedVariables false

set_option maxHeartbeats 2000000 in
set_option maxRecDepth 100000 in
theorem walk (a : Int) (wa : (Lit.int .u64 a).wf = true) (b : Int) (wb : (Lit.int .u64 b).wf = true) (c : Int) (wc : (Lit.int .u64 c).wf = true) (w : World) :
    Calls Try.prog 6 #[.int .u64 a, .int .u64 b, .int .u64 c] w fun e w' => e = .returned (.bool true) ∧ Below w.heap.size w w' := by
  obtain ⟨a0, a1⟩ := bounds_u64 wa
  obtain ⟨b0, b1⟩ := bounds_u64 wb
  obtain ⟨c0, c1⟩ := bounds_u64 wc
  clear wa wb wc
  have hq := Q.refl w
  have r1 : addV b a = addV a b := by unfold addV; rw [Int.add_comm]
  have r2 : addE b a = addE a b := by unfold addE; rw [Int.add_comm]
  have r3 : mulV b a = mulV a b := by unfold mulV; rw [Int.mul_comm]
  have r4 : mulE b a = mulE a b := by unfold mulE; rw [Int.mul_comm]
  have r5 : mdV b a c = mdV a b c := by unfold mdV; rw [Int.mul_comm]
  have r6 : mdE b a c = mdE a b c := by unfold mdE; rw [Int.mul_comm]
  obtain ⟨x0, x1⟩ := addV_bd a b a0 b0
  have EA : (addE a b = 0 ∧ subV (addV a b) b = a ∧ subE (addV a b) b = 0) ∨ addE a b = 2 := by
    unfold addE addV subV subE
    split
    · refine .inl ⟨rfl, ?_, ?_⟩
      · rw [if_pos (by omega)]; omega
      · rw [if_pos (by omega)]
    · exact .inr rfl
  have EC : c = 0 ∨ (c ≠ 0 ∧ mdV a c c = a ∧ mdE a c c = 0 ∧ remV a c c = 0 ∧ remE a c c = 0) := by
    by_cases hz : c = 0
    · exact .inl hz
    · refine .inr ⟨hz, ?_, ?_, ?_, ?_⟩
      · unfold mdV; rw [if_neg hz, Int.mul_ediv_cancel _ hz, if_pos a1]
      · unfold mdE; rw [if_neg hz, Int.mul_ediv_cancel _ hz, if_pos a1]
      · unfold remV; rw [if_neg hz, Int.mul_emod_left]
      · unfold remE; rw [if_neg hz]
  generalize hx : addV a b = x at *
  generalize hxe : addE a b = xe at *
  generalize hm : mulV a b = m at *
  generalize hme : mulE a b = me at *
  generalize hd : mdV a b c = d at *
  generalize hde : mdE a b c = de at *
  rcases EA with ⟨rfl, s1, s2⟩ | rfl <;> rcases EC with rfl | ⟨hz, t1, t2, t3, t4⟩
  case' inl.inr => have tz : (c != 0) = true := by simpa using hz
  case' inr.inr => have tz : (c != 0) = true := by simpa using hz
  all_goals
    go_enter Try.func6, Try.ntmps6
    go_wp2_with (first
      | (go_at_call 11; refine (add_any _ _ _ (by assumption) (by assumption) (by assumption) (by assumption)).mono ?_; rintro e w' ⟨rfl, rfl⟩)
      | (go_at_call 13; refine (sub_any _ _ _ (by assumption) (by assumption) (by assumption) (by assumption)).mono ?_; rintro e w' ⟨rfl, rfl⟩)
      | (go_at_call 15; refine (mul_any _ _ _ (by assumption) (by assumption) (by assumption) (by assumption)).mono ?_; rintro e w' ⟨rfl, rfl⟩)
      | (go_at_call 17; refine (muldiv_q _ _ _ _ hq (by omega) (by omega) (by omega) (by omega) (by omega) (by omega)).mono ?_; clear hq; rintro e w' ⟨rfl, hq⟩)
      | (go_at_call 19; refine (rem_q _ _ _ _ hq (by omega) (by omega) (by omega) (by omega) (by omega) (by omega)).mono ?_; clear hq; rintro e w' ⟨rfl, hq⟩)
      | (go_at_call 21; refine (fixed_q _ hq).mono ?_; clear hq; rintro e w' ⟨rfl, hq⟩))
    go_ret
    exact ⟨rfl, hq⟩

theorem own : ownKnob Try.prog.godebug = none := by kernel_rfl
theorem laidOut : laidOutB Try.prog = true := by kernel_rfl

set_option maxRecDepth 100000 in
theorem lifted (os : Os) (started : os.Started) (H : Type) (enc : TypeId × Value → H) :
    ReturnsInHanded {} Try.checked os 6 .any (Rows.numTurnsSpec.pre6 enc Try.prog Try.f6 Rows.numTurnsRow.domain false) (Rows.numTurnsSpec.post enc Try.prog Try.f6 false true false false) := by
  refine returnsInHanded_of_change (C := Try.checked) own started (by kernel_rfl) Try.func6
    (ChangeSpec.witness6 (enc := enc) (C := Try.checked) false ⟨#[], #[.int .u64 0, .int .u64 0, .int .u64 0], []⟩ 8 (by kernel_rfl) (by kernel_rfl) (by kernel_rfl) (by kernel_rfl)) ?_
  intro W base args ds gs before hval0 hW hcnd _
  have hval : ∀ (j : Nat) t v, Try.f6.params[j]? = some t → args[j]? = some v → Value.okWide Try.prog W .any base t v := hval0
  have hW' := hW
  obtain ⟨p, q, hA0, hV, rfl, hfz, hnd⟩ := hW
  have hA : DataW.TrodAll enc Try.prog W 0 (fun _ => true) true Try.f6.params.toList args.toList ds p := hA0
  rw [Try.params6] at hA hval
  obtain ⟨v0, vs0, d0, ds0, p0, q0, hargs, rfl, rfl, h0, r0⟩ := trodAll_cons hA
  obtain ⟨v1, vs1, d1, ds1, p1, q1, rfl, rfl, rfl, h1, r1⟩ := trodAll_cons r0
  obtain ⟨v2, vs2, d2, ds2, p2, q2, rfl, rfl, rfl, h2, r2⟩ := trodAll_cons r1
  obtain ⟨rfl, rfl, rfl⟩ := trodAll_nil r2
  obtain rfl : args = #[v0, v1, v2] := by cases args; simp_all
  obtain ⟨rfl, rfl⟩ := trodVars_none hV
  have k0 := h0
  have lt0 : ∀ x ∈ p0, x.block < W.heap.size := by obtain ⟨m, hm⟩ := k0; exact DataW.trod_lt m _ _ _ hm
  obtain ⟨a0, rfl, e0, f0, w0⟩ := open_int Try.underlying22 (hval 0 22 v0 rfl rfl) h0
  have k1 := h1
  have lt1 : ∀ x ∈ p1, x.block < W.heap.size := by obtain ⟨m, hm⟩ := k1; exact DataW.trod_lt m _ _ _ hm
  obtain ⟨a1, rfl, e1, f1, w1⟩ := open_int Try.underlying22 (hval 1 22 v1 rfl rfl) h1
  have k2 := h2
  have lt2 : ∀ x ∈ p2, x.block < W.heap.size := by obtain ⟨m, hm⟩ := k2; exact DataW.trod_lt m _ _ _ hm
  obtain ⟨a2, rfl, e2, f2, w2⟩ := open_int Try.underlying22 (hval 2 22 v2 rfl rfl) h2
  clear hA0 hval0
  refine (walk a0 w0 a1 w1 a2 w2 W).mono fun e W' ⟨he, bel⟩ => ?_
  subst he
  exact ⟨_, rfl, _, _, _, [], _, [], hW', trodAll_mk1 (shut_bool Try.underlying4 _), (trodAll_cons_mk (Below.trod laidOut (by kernel_rfl) (of_decide_eq_true (by kernel_rfl)) k0 bel lt0) (trodAll_cons_mk (Below.trod laidOut (by kernel_rfl) (of_decide_eq_true (by kernel_rfl)) k1 bel lt1) (trodAll_cons_mk (Below.trod laidOut (by kernel_rfl) (of_decide_eq_true (by kernel_rfl)) k2 bel lt2) trodAll_mk0))), rfl, bel.frame _, fun h => by cases h⟩

theorem over : Rows.numTurnsRow.holds Try.pinned (OpenSpec.ofChange Rows.numTurnsSpec) :=
  OpenClaim.holds_of_wide 6 Try.f6 rfl rfl rfl rfl rfl rfl rfl ⟨rfl, rfl, rfl, rfl, rfl⟩ rfl rfl rfl rfl rfl (by kernel_rfl) Try.func6 (by kernel_rfl)
    (of_decide_eq_true (by kernel_rfl)) (by unfold Func.isWrapper; first | (rw [if_pos (by decide +kernel)]; kernel_rfl) | (rw [if_neg (by decide +kernel)]; exact ⟨rfl, rfl⟩))
    (fun os started H enc _ => lifted os started H enc)

end Go.Proofs.Ytnihgcmlpgfaeaa.numTurns
namespace Go.Proofs.Ytnihgcmlpgfaeaa
theorem numTurns_holds : Rows.NumTurnsSaid := numTurns.over
#print axioms numTurns_holds
end Go.Proofs.Ytnihgcmlpgfaeaa
