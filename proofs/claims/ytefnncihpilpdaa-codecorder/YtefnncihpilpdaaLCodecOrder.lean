/-
  For every input the law CodecOrder (the bytes of numbers stand in the order of the numbers; those of texts in the order of their lengths, then their own) returns true and leaves its arguments as they were. No condition.
-/
import Derived.Test.YtefnncihpilpdaaCodO
namespace Go.Proofs.Ytefnncihpilpdaa.codecOrder
open Go.ChangeShapes Go.WideShapes Go.ChangeAt Go.RowKit
open Go.ChangeMaps (open_string shut_string)
open Mem Num Cod
set_option linter.unusedVariables false

set_option maxHeartbeats 4000000 in
set_option maxRecDepth 100000 in
theorem walk (W : World) (a b : Int) (wa : (Lit.int .u64 a).wf = true) (wb : (Lit.int .u64 b).wf = true) (s t : ByteArray) (hs : s.size ≤ maxLen) (ht : t.size ≤ maxLen) :
    Calls Try.prog 8 #[.agg #[.int .u64 a, .int .u64 b], .agg #[.string s, .string t]] W fun e W' => e = .returned (.bool true) ∧ Below W.heap.size W W' := by
  obtain ⟨a0, a1⟩ := bounds_u64 wa
  obtain ⟨b0, b1⟩ := bounds_u64 wb
  clear wa wb
  unfold maxLen at hs ht
  have hp := cut_le s 300 300 rfl
  have hq := cut_le t 300 300 rfl
  obtain ⟨p, hpe⟩ : ∃ z, s.extract 0 (min (s.size : Int) 300).toNat = z := ⟨_, rfl⟩
  obtain ⟨q, hqe⟩ : ∃ z, t.extract 0 (min (t.size : Int) 300).toNat = z := ⟨_, rfl⟩
  rw [hpe] at hp
  rw [hqe] at hq
  have l1 := putS_less a b a0 a1 b0 b1
  have l2 := putS_eq a b a0 a1 b0 b1
  have l3 := blobS_less p q hp hq
  go_enter Try.func8, Try.ntmps8
  go_wp2_with fail
  go_quiet (fail)
  go_wp2_with fail
  go_region
  go_wp2_with fail
  generalize hg : W.heap.size + 1 + 1 = g at *
  have I0 := Lib.hid (OI.start W (((W.alloc (Obj.cells #[Value.int IntKind.u64 a, Value.int IntKind.u64 b] 57)).alloc (Obj.cells #[Value.string s, Value.string t] 58)).drewN nq) g (by rw [← hg]; simp [World.drewN]) ((((Q.refl W).alloc _).alloc _).drewN _) 28)
  unfold newO at I0
  generalize (((((((W.alloc (Obj.cells #[Value.int IntKind.u64 a, Value.int IntKind.u64 b] 57)).alloc (Obj.cells #[Value.string s, Value.string t] 58)).drewN nq).alloc (Obj.cells #[Value.pointer none, Value.int IntKind.i64 0, Value.int IntKind.i64 0] 28)).alloc (Obj.cells #[Value.pointer none, Value.int IntKind.i64 0, Value.int IntKind.i64 0] 28)).alloc (Obj.cells #[Value.pointer none, Value.int IntKind.i64 0, Value.int IntKind.i64 0] 28)).alloc (Obj.cells #[Value.pointer none, Value.int IntKind.i64 0, Value.int IntKind.i64 0] 28)).drew = w0 at *
  refine (I0.out.num1 a a0 a1).mono ?_
  rintro r w1 ⟨rfl, h⟩
  have I1 := Lib.hid h
  clear h I0
  go_wp2_with fail
  refine (I1.out.num2 b b0 b1).mono ?_
  rintro r w2 ⟨rfl, h⟩
  have I2 := Lib.hid h
  clear h I1
  go_wp2_with fail
  refine (I2.out.blob3 p hp).mono ?_
  rintro r w3 ⟨rfl, h⟩
  have I3 := Lib.hid h
  clear h I2
  go_wp2_with fail
  refine (I3.out.blob4 q hq).mono ?_
  rintro r w4 ⟨rfl, h⟩
  have I4 := Lib.hid h
  clear h I3
  have zx := putS_size a
  have zy := putS_size b
  have zu := blobS_size p
  have zv := blobS_size q
  generalize putS a = X at *
  generalize putS b = Y at *
  generalize blobS p = U at *
  generalize blobS q = V at *
  rcases Nat.lt_trichotomy p.size q.size with hc | hc | hc
  · have d1 : decide (p.size < q.size) = true := by simp; omega
    have l3' : Op.bytesLess U.toList V.toList = true := by rw [l3, d1]; rfl
    clear l3
    as_aux_lemma =>
    go_wp2_with fail
    refine (text_w _ _ _ _ _ I4.out.x (by omega)).mono ?_
    rintro r w5 ⟨rfl, h⟩
    have I5 := Lib.hid (I4.out.up h)
    clear h I4
    go_wp2_with fail
    refine (text_w _ _ _ _ _ I5.out.y (by omega)).mono ?_
    rintro r w6 ⟨rfl, h⟩
    have I6 := Lib.hid (I5.out.up h)
    clear h I5
    go_wp2_with fail
    refine (text_w _ _ _ _ _ I6.out.u (by omega)).mono ?_
    rintro r w7 ⟨rfl, h⟩
    have I7 := Lib.hid (I6.out.up h)
    clear h I6
    go_wp2_with fail
    refine (text_w _ _ _ _ _ I7.out.v (by omega)).mono ?_
    rintro r w8 ⟨rfl, h⟩
    have I8 := Lib.hid (I7.out.up h)
    clear h I7
    go_wp2_with fail
    refine (text_w _ _ _ _ _ I8.out.x (by omega)).mono ?_
    rintro r w9 ⟨rfl, h⟩
    have I9 := Lib.hid (I8.out.up h)
    clear h I8
    go_wp2_with fail
    refine (text_w _ _ _ _ _ I9.out.y (by omega)).mono ?_
    rintro r w10 ⟨rfl, h⟩
    have I10 := Lib.hid (I9.out.up h)
    clear h I9
    go_wp2_with fail
    refine (err_w _ _ _ _ _ I10.out.u).mono ?_
    rintro r w' ⟨rfl, rfl⟩
    go_wp2_with fail
    refine (fixed_any _ I10.out.q).mono ?_
    rintro r wz ⟨rfl, qz⟩
    go_wp2_with fail
    go_ret
    exact ⟨rfl, qz⟩
  · have d1 : decide (p.size < q.size) = false := by simp; omega
    have d2 : decide (p.size = q.size) = true := by simp; omega
    have d3 : ((p.size : Int) == (q.size : Int)) = true := by simp; omega
    have l3' : Op.bytesLess U.toList V.toList = Op.bytesLess p.toList q.toList := by rw [l3, d1, d2]; rfl
    clear l3
    as_aux_lemma =>
    go_wp2_with fail
    refine (text_w _ _ _ _ _ I4.out.x (by omega)).mono ?_
    rintro r w5 ⟨rfl, h⟩
    have I5 := Lib.hid (I4.out.up h)
    clear h I4
    go_wp2_with fail
    refine (text_w _ _ _ _ _ I5.out.y (by omega)).mono ?_
    rintro r w6 ⟨rfl, h⟩
    have I6 := Lib.hid (I5.out.up h)
    clear h I5
    go_wp2_with fail
    refine (text_w _ _ _ _ _ I6.out.u (by omega)).mono ?_
    rintro r w7 ⟨rfl, h⟩
    have I7 := Lib.hid (I6.out.up h)
    clear h I6
    go_wp2_with fail
    refine (text_w _ _ _ _ _ I7.out.v (by omega)).mono ?_
    rintro r w8 ⟨rfl, h⟩
    have I8 := Lib.hid (I7.out.up h)
    clear h I7
    go_wp2_with fail
    refine (text_w _ _ _ _ _ I8.out.x (by omega)).mono ?_
    rintro r w9 ⟨rfl, h⟩
    have I9 := Lib.hid (I8.out.up h)
    clear h I8
    go_wp2_with fail
    refine (text_w _ _ _ _ _ I9.out.y (by omega)).mono ?_
    rintro r w10 ⟨rfl, h⟩
    have I10 := Lib.hid (I9.out.up h)
    clear h I9
    go_wp2_with fail
    refine (err_w _ _ _ _ _ I10.out.u).mono ?_
    rintro r w' ⟨rfl, rfl⟩
    go_wp2_with fail
    refine (fixed_any _ I10.out.q).mono ?_
    rintro r wz ⟨rfl, qz⟩
    go_wp2_with fail
    go_ret
    exact ⟨rfl, qz⟩
  · have d1 : decide (p.size < q.size) = false := by simp; omega
    have d2 : decide (p.size = q.size) = false := by simp; omega
    have d3 : ((p.size : Int) == (q.size : Int)) = false := by simp; omega
    have l3' : Op.bytesLess U.toList V.toList = false := by rw [l3, d1, d2]; rfl
    clear l3
    as_aux_lemma =>
    go_wp2_with fail
    refine (text_w _ _ _ _ _ I4.out.x (by omega)).mono ?_
    rintro r w5 ⟨rfl, h⟩
    have I5 := Lib.hid (I4.out.up h)
    clear h I4
    go_wp2_with fail
    refine (text_w _ _ _ _ _ I5.out.y (by omega)).mono ?_
    rintro r w6 ⟨rfl, h⟩
    have I6 := Lib.hid (I5.out.up h)
    clear h I5
    go_wp2_with fail
    refine (text_w _ _ _ _ _ I6.out.u (by omega)).mono ?_
    rintro r w7 ⟨rfl, h⟩
    have I7 := Lib.hid (I6.out.up h)
    clear h I6
    go_wp2_with fail
    refine (text_w _ _ _ _ _ I7.out.v (by omega)).mono ?_
    rintro r w8 ⟨rfl, h⟩
    have I8 := Lib.hid (I7.out.up h)
    clear h I7
    go_wp2_with fail
    refine (text_w _ _ _ _ _ I8.out.x (by omega)).mono ?_
    rintro r w9 ⟨rfl, h⟩
    have I9 := Lib.hid (I8.out.up h)
    clear h I8
    go_wp2_with fail
    refine (text_w _ _ _ _ _ I9.out.y (by omega)).mono ?_
    rintro r w10 ⟨rfl, h⟩
    have I10 := Lib.hid (I9.out.up h)
    clear h I9
    go_wp2_with fail
    refine (err_w _ _ _ _ _ I10.out.u).mono ?_
    rintro r w' ⟨rfl, rfl⟩
    go_wp2_with fail
    refine (fixed_any _ I10.out.q).mono ?_
    rintro r wz ⟨rfl, qz⟩
    go_wp2_with fail
    go_ret
    exact ⟨rfl, qz⟩

theorem own : ownKnob Try.prog.godebug = none := by kernel_rfl
theorem laidOut : laidOutB Try.prog = true := by kernel_rfl

set_option maxRecDepth 100000 in
theorem lifted (os : Os) (started : os.Started) (H : Type) (enc : TypeId × Value → H) :
    ReturnsInHanded {} Try.checked os 8 .any (Rows.codecOrderSpec.pre6 enc Try.prog Try.f8 Rows.codecOrderRow.domain false) (Rows.codecOrderSpec.post enc Try.prog Try.f8 false true false false) := by
  refine returnsInHanded_of_change (C := Try.checked) own started (by kernel_rfl) Try.func8
    (ChangeSpec.witness6 (enc := enc) (C := Try.checked) false ⟨#[], #[.agg #[.int .u64 0, .int .u64 0], .agg #[.string ⟨#[]⟩, .string ⟨#[]⟩]], []⟩ 8 (by kernel_rfl) (by kernel_rfl) (by kernel_rfl) (by kernel_rfl)) ?_
  intro W base args ds gs before hval0 hW hcnd _
  have hval : ∀ (j : Nat) t v, Try.f8.params[j]? = some t → args[j]? = some v → Value.okWide Try.prog W .any base t v := hval0
  have hW' := hW
  obtain ⟨p, q, hA0, hV, rfl, hfz, hnd⟩ := hW
  have hA : DataW.TrodAll enc Try.prog W 0 (fun _ => true) true Try.f8.params.toList args.toList ds p := hA0
  rw [Try.params8] at hA hval
  obtain ⟨v0, vs0, d0, ds0, p0, q0, hargs, rfl, rfl, h0, r0⟩ := trodAll_cons hA
  obtain ⟨v1, vs1, d1, ds1, p1, q1, rfl, rfl, rfl, h1, r1⟩ := trodAll_cons r0
  obtain ⟨rfl, rfl, rfl⟩ := trodAll_nil r1
  obtain rfl : args = #[v0, v1] := by cases args; simp_all
  obtain ⟨rfl, rfl⟩ := trodVars_none hV
  have k0 := h0
  have lt0 : ∀ x ∈ p0, x.block < W.heap.size := by obtain ⟨m, hm⟩ := k0; exact DataW.trod_lt m _ _ _ hm
  obtain ⟨a0, b0, rfl, w0, x0⟩ : ∃ a b : Int, v0 = .agg #[.int .u64 a, .int .u64 b] ∧ (Lit.int .u64 a).wf = true ∧ (Lit.int .u64 b).wf = true := arr2_open (hval 0 57 v0 rfl rfl) h0
  have k1 := h1
  have lt1 : ∀ x ∈ p1, x.block < W.heap.size := by obtain ⟨m, hm⟩ := k1; exact DataW.trod_lt m _ _ _ hm
  obtain ⟨a1, b1, rfl, w1, x1⟩ : ∃ a b : ByteArray, v1 = .agg #[.string a, .string b] ∧ a.size ≤ maxLen ∧ b.size ≤ maxLen := arr2s_open (hval 1 58 v1 rfl rfl) h1
  clear hA0 hval0
  refine (walk W a0 b0 w0 x0 a1 b1 w1 x1).mono fun e W' ⟨he, bel⟩ => ?_
  subst he
  exact ⟨_, rfl, _, _, _, [], _, [], hW', trodAll_mk1 (shut_bool Try.underlying4 _), (trodAll_cons_mk (Below.trod laidOut (by kernel_rfl) (of_decide_eq_true (by kernel_rfl)) k0 bel lt0) (trodAll_cons_mk (Below.trod laidOut (by kernel_rfl) (of_decide_eq_true (by kernel_rfl)) k1 bel lt1) trodAll_mk0)), rfl, bel.frame _, fun h => by cases h⟩

theorem over : Rows.codecOrderRow.holds Try.pinned (OpenSpec.ofChange Rows.codecOrderSpec) :=
  OpenClaim.holds_of_wide 8 Try.f8 rfl rfl rfl rfl rfl rfl rfl ⟨rfl, rfl, rfl, rfl, rfl⟩ rfl rfl rfl rfl rfl (by kernel_rfl) Try.func8 (by kernel_rfl)
    (of_decide_eq_true (by kernel_rfl)) (by unfold Func.isWrapper; first | (rw [if_pos (by decide +kernel)]; kernel_rfl) | (rw [if_neg (by decide +kernel)]; exact ⟨rfl, rfl⟩))
    (fun os started H enc _ => lifted os started H enc)

end Go.Proofs.Ytefnncihpilpdaa.codecOrder
namespace Go.Proofs.Ytefnncihpilpdaa
theorem codecOrder_holds : Rows.CodecOrderSaid := codecOrder.over
#print axioms codecOrder_holds
end Go.Proofs.Ytefnncihpilpdaa
