/-
  For every input the law NumNear (package num: how often a number goes into a product is told by what is below and above; factors below 2^32) returns true and leaves its arguments as they were. No condition.
-/
import Derived.Test.YtnihgcmlpgfaeaaKit
namespace Go.Proofs.Ytnihgcmlpgfaeaa.numNear
open Go.ChangeShapes Go.WideShapes Go.ChangeAt Go.RowKit
open Go.ChangeMaps (open_string shut_string)
open Num
set_option linter.unusedVariables false

set_option maxHeartbeats 2000000 in
theorem walk (a : Int) (wa : (Lit.int .u32 a).wf = true) (b : Int) (wb : (Lit.int .u32 b).wf = true) (c : Int) (wc : (Lit.int .u64 c).wf = true) (w : World) :
    Calls Try.prog 9 #[.int .u32 a, .int .u32 b, .int .u64 c] w fun e w' => e = .returned (.bool true) ∧ Below w.heap.size w w' := by
  obtain ⟨a0, a1⟩ := bounds_u32 wa
  obtain ⟨b0, b1⟩ := bounds_u32 wb
  obtain ⟨c0, c1⟩ := bounds_u64 wc
  clear wa wb wc
  have hq := Q.refl w
  by_cases hz : c = 0
  · subst hz
    go_enter Try.func9, Try.ntmps9
    go_wp2_with (first
      | (go_at_call 21; refine (fixed_q _ hq).mono ?_; clear hq; rintro e w' ⟨rfl, hq⟩))
    go_ret
    exact ⟨rfl, hq⟩
  · have tz : (c == 0) = false := by simp; omega
    have hc0 : 0 < c := by omega
    obtain ⟨p0, p1⟩ := M.prod_bound a b a0 a1 b0 b1
    have m1 : mdV a b c = a * b / c := by
      unfold mdV; rw [if_neg hz, if_pos]
      have := Int.ediv_le_self c p0
      omega
    have m2 : mdE a b c = 0 := by
      unfold mdE; rw [if_neg hz, if_pos]
      have := Int.ediv_le_self c p0
      omega
    obtain ⟨g1, g2⟩ := M.goes_div c (a * b) hc0
    have d0 : 0 ≤ a * b / c := Int.ediv_nonneg p0 c0
    have d1 : a * b / c ≤ a * b := Int.ediv_le_self c p0
    have t0 : 0 ≤ a * b / c * c := Int.mul_nonneg d0 c0
    rw [Int.add_mul, Int.one_mul] at g2
    have w1 : IntKind.u64.wrap (a * b) = a * b := by rw [IntKind.wrap_u64]; omega
    have w2 : IntKind.u64.wrap (a * b / c * c) = a * b / c * c := by rw [IntKind.wrap_u64]; omega
    generalize hp : a * b = p at *
    generalize hd : p / c = d at *
    generalize ht : d * c = t at *
    clear hz
    go_enter Try.func9, Try.ntmps9
    go_wp2_with (first
      | (go_at_call 17; refine (muldiv_q _ _ _ _ hq (by omega) (by omega) (by omega) (by omega) (by omega) (by omega)).mono ?_; clear hq; rintro e w' ⟨rfl, hq⟩)
      | (go_at_call 21; refine (fixed_q _ hq).mono ?_; clear hq; rintro e w' ⟨rfl, hq⟩))
    go_ret
    exact ⟨rfl, hq⟩

theorem own : ownKnob Try.prog.godebug = none := by kernel_rfl
theorem laidOut : laidOutB Try.prog = true := by kernel_rfl

set_option maxRecDepth 100000 in
theorem lifted (os : Os) (started : os.Started) (H : Type) (enc : TypeId × Value → H) :
    ReturnsInHanded {} Try.checked os 9 .any (Rows.numNearSpec.pre6 enc Try.prog Try.f9 Rows.numNearRow.domain false) (Rows.numNearSpec.post enc Try.prog Try.f9 false true false false) := by
  refine returnsInHanded_of_change (C := Try.checked) own started (by kernel_rfl) Try.func9
    (ChangeSpec.witness6 (enc := enc) (C := Try.checked) false ⟨#[], #[.int .u32 0, .int .u32 0, .int .u64 0], []⟩ 8 (by kernel_rfl) (by kernel_rfl) (by kernel_rfl) (by kernel_rfl)) ?_
  intro W base args ds gs before hval0 hW hcnd _
  have hval : ∀ (j : Nat) t v, Try.f9.params[j]? = some t → args[j]? = some v → Value.okWide Try.prog W .any base t v := hval0
  have hW' := hW
  obtain ⟨p, q, hA0, hV, rfl, hfz, hnd⟩ := hW
  have hA : DataW.TrodAll enc Try.prog W 0 (fun _ => true) true Try.f9.params.toList args.toList ds p := hA0
  rw [Try.params9] at hA hval
  obtain ⟨v0, vs0, d0, ds0, p0, q0, hargs, rfl, rfl, h0, r0⟩ := trodAll_cons hA
  obtain ⟨v1, vs1, d1, ds1, p1, q1, rfl, rfl, rfl, h1, r1⟩ := trodAll_cons r0
  obtain ⟨v2, vs2, d2, ds2, p2, q2, rfl, rfl, rfl, h2, r2⟩ := trodAll_cons r1
  obtain ⟨rfl, rfl, rfl⟩ := trodAll_nil r2
  obtain rfl : args = #[v0, v1, v2] := by cases args; simp_all
  obtain ⟨rfl, rfl⟩ := trodVars_none hV
  have k0 := h0
  have lt0 : ∀ x ∈ p0, x.block < W.heap.size := by obtain ⟨m, hm⟩ := k0; exact DataW.trod_lt m _ _ _ hm
  obtain ⟨a0, rfl, e0, f0, w0⟩ := open_int Try.underlying39 (hval 0 39 v0 rfl rfl) h0
  have k1 := h1
  have lt1 : ∀ x ∈ p1, x.block < W.heap.size := by obtain ⟨m, hm⟩ := k1; exact DataW.trod_lt m _ _ _ hm
  obtain ⟨a1, rfl, e1, f1, w1⟩ := open_int Try.underlying39 (hval 1 39 v1 rfl rfl) h1
  have k2 := h2
  have lt2 : ∀ x ∈ p2, x.block < W.heap.size := by obtain ⟨m, hm⟩ := k2; exact DataW.trod_lt m _ _ _ hm
  obtain ⟨a2, rfl, e2, f2, w2⟩ := open_int Try.underlying22 (hval 2 22 v2 rfl rfl) h2
  clear hA0 hval0
  refine (walk a0 w0 a1 w1 a2 w2 W).mono fun e W' ⟨he, bel⟩ => ?_
  subst he
  exact ⟨_, rfl, _, _, _, [], _, [], hW', trodAll_mk1 (shut_bool Try.underlying4 _), (trodAll_cons_mk (Below.trod laidOut (by kernel_rfl) (of_decide_eq_true (by kernel_rfl)) k0 bel lt0) (trodAll_cons_mk (Below.trod laidOut (by kernel_rfl) (of_decide_eq_true (by kernel_rfl)) k1 bel lt1) (trodAll_cons_mk (Below.trod laidOut (by kernel_rfl) (of_decide_eq_true (by kernel_rfl)) k2 bel lt2) trodAll_mk0))), rfl, bel.frame _, fun h => by cases h⟩

theorem over : Rows.numNearRow.holds Try.pinned (OpenSpec.ofChange Rows.numNearSpec) :=
  OpenClaim.holds_of_wide 9 Try.f9 rfl rfl rfl rfl rfl rfl rfl ⟨rfl, rfl, rfl, rfl, rfl⟩ rfl rfl rfl rfl rfl (by kernel_rfl) Try.func9 (by kernel_rfl)
    (of_decide_eq_true (by kernel_rfl)) (by unfold Func.isWrapper; first | (rw [if_pos (by decide +kernel)]; kernel_rfl) | (rw [if_neg (by decide +kernel)]; exact ⟨rfl, rfl⟩))
    (fun os started H enc _ => lifted os started H enc)

end Go.Proofs.Ytnihgcmlpgfaeaa.numNear
namespace Go.Proofs.Ytnihgcmlpgfaeaa
theorem numNear_holds : Rows.NumNearSaid := numNear.over
#print axioms numNear_holds
end Go.Proofs.Ytnihgcmlpgfaeaa
