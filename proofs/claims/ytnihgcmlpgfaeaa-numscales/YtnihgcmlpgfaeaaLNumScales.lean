/-
  For every input the law NumScales (package num: a factor that is in both a product and its divisor changes nothing) returns true and leaves its arguments as they were. No condition.
-/
import Derived.Test.YtnihgcmlpgfaeaaKit
namespace Go.Proofs.Ytnihgcmlpgfaeaa.numScales
open Go.ChangeShapes Go.WideShapes Go.ChangeAt Go.RowKit
open Go.ChangeMaps (open_string shut_string)
open Num
set_option linter.unusedVariables false

theorem okWide_array {P : Program} {w : World} {r : Reach} {base n : Nat} {t e : TypeId} {v : Value} (ht : P.underlying t = some (.array n e)) (h : Value.okWide P w r base t v) : ∃ cs, v = .agg cs ∧ cs.size = P.cellsOf t := by
  unfold Value.okWide at h
  cases v <;> simp_all [Program.underlying]
theorem arr2_open {W : World} {base : Nat} {v : Value} {H : Type} {enc : TypeId × Value → H} {d : DataW H} {p : List MemPlace}
    (hv : Value.okWide Try.prog W .any base 41 v) (h : DataW.Trod enc Try.prog W 0 (fun _ => true) true 41 v d p) :
    ∃ a b : Int, v = .agg #[.int .u32 a, .int .u32 b] ∧ (Lit.int .u32 a).wf = true ∧ (Lit.int .u32 b).wf = true := by
  have c1 : Try.prog.cellsOf 39 = 1 := by kernel_rfl
  have c2 : Try.prog.cellsOf 41 = 2 := by kernel_rfl
  obtain ⟨cs, rfl, hsz⟩ := okWide_array Try.underlying41 hv
  obtain ⟨x0, x1, rfl⟩ := Joins.array2 (hsz.trans c2)
  obtain ⟨fuel, hf⟩ := h
  obtain ⟨xs, m, _, _, _, hl, hg⟩ := DataW.trod_array Try.underlying41 hf
  have g0 := hg 0 (by omega)
  have g1 := hg 1 (by omega)
  rw [List.getElem?_eq_getElem (by omega)] at g0 g1
  obtain ⟨a, ea, _, wa⟩ := DataW.trod_int Try.underlying39 g0
  obtain ⟨b, eb, _, wb⟩ := DataW.trod_int Try.underlying39 g1
  simp [Value.cells, c1] at ea eb
  subst ea eb
  exact ⟨a, b, rfl, wa, wb⟩

set_option maxHeartbeats 2000000 in
set_option maxRecDepth 100000 in
theorem walk (a : Int) (wa : (Lit.int .u64 a).wf = true) (b : Int) (wb : (Lit.int .u64 b).wf = true) (x y : Int) (wx : (Lit.int .u32 x).wf = true) (wy : (Lit.int .u32 y).wf = true) (w : World) :
    Calls Try.prog 10 #[.int .u64 a, .int .u64 b, .agg #[.int .u32 x, .int .u32 y]] w fun e w' => e = .returned (.bool true) ∧ Below w.heap.size w w' := by
  obtain ⟨a0, a1⟩ := bounds_u64 wa
  obtain ⟨b0, b1⟩ := bounds_u64 wb
  obtain ⟨x0, x1⟩ := bounds_u32 wx
  obtain ⟨y0, y1⟩ := bounds_u32 wy
  clear wa wb wx wy
  have hq := Q.refl w
  have r5 : mdV b a (1 + x) = mdV a b (1 + x) := by unfold mdV; rw [Int.mul_comm]
  have r6 : mdE b a (1 + x) = mdE a b (1 + x) := by unfold mdE; rw [Int.mul_comm]
  have hx : 1 + x ≠ 0 := by omega
  have hy : 1 + y ≠ 0 := by omega
  have EH : (mulE a (1 + y) = 0 ∧ mulV a (1 + y) / (1 + y) = a) ∨ mulE a (1 + y) = 2 := by
    unfold mulE mulV
    split
    · exact .inl ⟨rfl, Int.mul_ediv_cancel _ hy⟩
    · exact .inr rfl
  obtain ⟨u0, u1⟩ := mulV_bd a (1 + y) a0 (by omega)
  have EM : ∃ m : Int, IntKind.u64.wrap ((1 + x) * (1 + y)) = m ∧ 0 ≤ m ∧ m ≤ 18446744073709551615 ∧ ((m = 0) ∨ (m / (1 + y) = 1 + x ∧ mdE a (1 + y) m = 0 ∧ mdE a 1 (1 + x) = 0 ∧ mdV a (1 + y) m = mdV a 1 (1 + x))) := by
    have e : (1 + x) * (1 + y) = x * y + x + y + 1 := by grind
    obtain ⟨p0, p1⟩ := M.prod_bound x y x0 x1 y0 y1
    rw [IntKind.wrap_u64]
    by_cases hm : (1 + x) * (1 + y) ≤ 18446744073709551615
    · have em : (1 + x) * (1 + y) % 18446744073709551616 = (1 + x) * (1 + y) := by omega
      rw [em]
      have hz : (1 + x) * (1 + y) ≠ 0 := by omega
      have q1 : a * (1 + y) / ((1 + x) * (1 + y)) = a / (1 + x) := Int.mul_ediv_mul_of_pos_left _ _ (by omega)
      have q2 : a * 1 / (1 + x) = a / (1 + x) := by rw [Int.mul_one]
      have q3 : a / (1 + x) ≤ a := Int.ediv_le_self _ a0
      refine ⟨_, rfl, by omega, hm, .inr ⟨Int.mul_ediv_cancel _ hy, ?_, ?_, ?_⟩⟩
      · unfold mdE; rw [if_neg hz, q1, if_pos (by omega)]
      · unfold mdE; rw [if_neg hx, q2, if_pos (by omega)]
      · unfold mdV; rw [if_neg hz, if_neg hx, q1, q2]
    · exact ⟨_, rfl, by omega, by omega, .inl (by omega)⟩
  obtain ⟨m, em, m0, m1, EM⟩ := EM
  generalize hmv : mulV a (1 + y) = mv at *
  rcases EH with ⟨h1, h2⟩ | h1 <;> rcases EM with rfl | ⟨k1, k2, k3, k4⟩
  all_goals
    go_enter Try.func10, Try.ntmps10
    go_wp2_with fail
    go_quiet (fail)
    rename_i nq
    have hq : Q w ((w.alloc (Obj.cells #[Value.int IntKind.u32 x, Value.int IntKind.u32 y] 41)).drewN nq) := Q.drewN (Below.alloc (Below.refl _ _) (Nat.le_refl _) _) nq
    go_wp2_with (first
      | (go_at_call 15; refine (mul_any _ _ _ (by omega) (by omega) (by omega) (by omega)).mono ?_; rintro e w' ⟨rfl, rfl⟩)
      | (go_at_call 17; refine (muldiv_q _ _ _ _ hq (by omega) (by omega) (by omega) (by omega) (by omega) (by omega)).mono ?_; clear hq; rintro e w' ⟨rfl, hq⟩)
      | (go_at_call 21; refine (fixed_q _ hq).mono ?_; clear hq; rintro e w' ⟨rfl, hq⟩))
    go_ret
    exact ⟨rfl, hq⟩

theorem own : ownKnob Try.prog.godebug = none := by kernel_rfl
theorem laidOut : laidOutB Try.prog = true := by kernel_rfl

set_option maxRecDepth 100000 in
theorem lifted (os : Os) (started : os.Started) (H : Type) (enc : TypeId × Value → H) :
    ReturnsInHanded {} Try.checked os 10 .any (Rows.numScalesSpec.pre6 enc Try.prog Try.f10 Rows.numScalesRow.domain false) (Rows.numScalesSpec.post enc Try.prog Try.f10 false true false false) := by
  refine returnsInHanded_of_change (C := Try.checked) own started (by kernel_rfl) Try.func10
    (ChangeSpec.witness6 (enc := enc) (C := Try.checked) false ⟨#[], #[.int .u64 0, .int .u64 0, .agg #[.int .u32 0, .int .u32 0]], []⟩ 8 (by kernel_rfl) (by kernel_rfl) (by kernel_rfl) (by kernel_rfl)) ?_
  intro W base args ds gs before hval0 hW hcnd _
  have hval : ∀ (j : Nat) t v, Try.f10.params[j]? = some t → args[j]? = some v → Value.okWide Try.prog W .any base t v := hval0
  have hW' := hW
  obtain ⟨p, q, hA0, hV, rfl, hfz, hnd⟩ := hW
  have hA : DataW.TrodAll enc Try.prog W 0 (fun _ => true) true Try.f10.params.toList args.toList ds p := hA0
  rw [Try.params10] at hA hval
  obtain ⟨v0, vs0, d0, ds0, p0, q0, hargs, rfl, rfl, h0, r0⟩ := trodAll_cons hA
  obtain ⟨v1, vs1, d1, ds1, p1, q1, rfl, rfl, rfl, h1, r1⟩ := trodAll_cons r0
  obtain ⟨v2, vs2, d2, ds2, p2, q2, rfl, rfl, rfl, h2, r2⟩ := trodAll_cons r1
  obtain ⟨rfl, rfl, rfl⟩ := trodAll_nil r2
  obtain rfl : args = #[v0, v1, v2] := by cases args; simp_all
  obtain ⟨rfl, rfl⟩ := trodVars_none hV
  have k0 := h0
  have lt0 : ∀ x ∈ p0, x.block < W.heap.size := by obtain ⟨m, hm⟩ := k0; exact DataW.trod_lt m _ _ _ hm
  obtain ⟨a0, rfl, e0, f0, w0⟩ := open_int Try.underlying22 (hval 0 22 v0 rfl rfl) h0
  have k1 := h1
  have lt1 : ∀ x ∈ p1, x.block < W.heap.size := by obtain ⟨m, hm⟩ := k1; exact DataW.trod_lt m _ _ _ hm
  obtain ⟨a1, rfl, e1, f1, w1⟩ := open_int Try.underlying22 (hval 1 22 v1 rfl rfl) h1
  have k2 := h2
  have lt2 : ∀ x ∈ p2, x.block < W.heap.size := by obtain ⟨m, hm⟩ := k2; exact DataW.trod_lt m _ _ _ hm
  obtain ⟨a2, b2, rfl, w2, x2⟩ : ∃ a b : Int, v2 = .agg #[.int .u32 a, .int .u32 b] ∧ (Lit.int .u32 a).wf = true ∧ (Lit.int .u32 b).wf = true := arr2_open (hval 2 41 v2 rfl rfl) h2
  clear hA0 hval0
  refine (walk a0 w0 a1 w1 a2 b2 w2 x2 W).mono fun e W' ⟨he, bel⟩ => ?_
  subst he
  exact ⟨_, rfl, _, _, _, [], _, [], hW', trodAll_mk1 (shut_bool Try.underlying4 _), (trodAll_cons_mk (Below.trod laidOut (by kernel_rfl) (of_decide_eq_true (by kernel_rfl)) k0 bel lt0) (trodAll_cons_mk (Below.trod laidOut (by kernel_rfl) (of_decide_eq_true (by kernel_rfl)) k1 bel lt1) (trodAll_cons_mk (Below.trod laidOut (by kernel_rfl) (of_decide_eq_true (by kernel_rfl)) k2 bel lt2) trodAll_mk0))), rfl, bel.frame _, fun h => by cases h⟩

theorem over : Rows.numScalesRow.holds Try.pinned (OpenSpec.ofChange Rows.numScalesSpec) :=
  OpenClaim.holds_of_wide 10 Try.f10 rfl rfl rfl rfl rfl rfl rfl ⟨rfl, rfl, rfl, rfl, rfl⟩ rfl rfl rfl rfl rfl (by kernel_rfl) Try.func10 (by kernel_rfl)
    (of_decide_eq_true (by kernel_rfl)) (by unfold Func.isWrapper; first | (rw [if_pos (by decide +kernel)]; kernel_rfl) | (rw [if_neg (by decide +kernel)]; exact ⟨rfl, rfl⟩))
    (fun os started H enc _ => lifted os started H enc)

end Go.Proofs.Ytnihgcmlpgfaeaa.numScales
namespace Go.Proofs.Ytnihgcmlpgfaeaa
theorem numScales_holds : Rows.NumScalesSaid := numScales.over
#print axioms numScales_holds
end Go.Proofs.Ytnihgcmlpgfaeaa
