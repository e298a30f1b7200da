/-
  For every input the law PaywordCounts (how many steps lead from any token to any anchor, where steps lead, and what tokens are worth) returns true and leaves its arguments as they were. The package's two tables are as the program's text lays them (the card ties them).
-/
import Derived.Test.YtnjkikdcalfjgaaDoorPay5
namespace Go.Proofs.YtnjkikdcalfjgaaDoor.paywordCounts
open Go.ChangeShapes Go.WideShapes Go.ChangeAt Go.RowKit
open Go.ChangeMaps (open_string shut_string)
open Mem Sh Num Pay
set_option linter.unusedVariables false

set_option maxHeartbeats 2000000 in
set_option maxRecDepth 100000 in
theorem walk (W : World) (hG : GL W) (a : ByteArray) (hs : a.size ≤ maxLen) (t : ByteArray) (ht : t.size ≤ maxLen) (m f : Int) (wm : (Lit.int .i64 m).wf = true) (wf : (Lit.int .i64 f).wf = true) :
    Calls Tryd.prog 4 #[.string a, .string t, .agg #[.int .i64 m, .int .i64 f]] W fun e W' => e = .returned (.bool true) ∧ Below W.heap.size W W' := by
  have HG := Lib.hid hG
  clear hG
  obtain ⟨b0, b1⟩ := bounds_i64 wm
  obtain ⟨f0, f1⟩ := bounds_i64 wf
  unfold maxLen at hs ht
  obtain ⟨a', ea⟩ : ∃ t, a.extract 0 (min (a.size : Int) 40).toNat = t := ⟨_, rfl⟩
  obtain ⟨t', et⟩ : ∃ z, t.extract 0 (min (t.size : Int) 40).toNat = z := ⟨_, rfl⟩
  obtain ⟨u, hu⟩ : ∃ u, IntKind.u64.wrap f = u := ⟨_, rfl⟩
  have hu' := hu
  rw [IntKind.wrap_u64] at hu'
  have u0 : 0 ≤ u := by omega
  have u1 : u ≤ 18446744073709551615 := by omega
  obtain ⟨v, hv⟩ : ∃ z, valV m u = z := ⟨_, rfl⟩
  obtain ⟨ve, hve⟩ : ∃ z, valE m u = z := ⟨_, rfl⟩
  have HV := Lib.hid hv
  have HE := Lib.hid hve
  have HL : Hid (Q W (W.alloc (.cells #[.int .i64 m, .int .i64 f] 34))) := (Q.refl W).alloc _
  have HM : Hid (∀ w', Q (W.alloc (.cells #[.int .i64 m, .int .i64 f] 34)) w' → w'.cell? ⟨W.heap.size, 0, none⟩ = some (.int .i64 m) ∧ w'.cell? ⟨W.heap.size, 1, none⟩ = some (.int .i64 f)) := fun w' q => by
    rw [q.cell (p := ⟨W.heap.size, 0, none⟩) (by simp), q.cell (p := ⟨W.heap.size, 1, none⟩) (by simp), World.cell?_alloc_at _ _ _ _ rfl, World.cell?_alloc_at _ _ _ _ rfl]
    exact ⟨rfl, rfl⟩
  clear wm wf hu' hv hve
  rcases (show m ≤ 300 ∨ (300 < m ∧ m ≤ 4096) ∨ (300 < m ∧ 4096 < m) by omega) with h1 | ⟨h1, h1'⟩ | ⟨h1, h1'⟩
  · rcases (show f ≤ 300 ∨ (300 < f ∧ f ≤ 4096) ∨ (300 < f ∧ 4096 < f) by omega) with h2 | ⟨h2, h2'⟩ | ⟨h2, h2'⟩
    · obtain ⟨r, e, hre⟩ := cntA_ex a' t' m
      have HR := Lib.hid hre
      clear hre
      obtain ⟨x, hx⟩ : ∃ z, farA t' f = z := ⟨_, rfl⟩
      have HX := Lib.hid hx
      clear hx
      go_enter Tryd.func4, Tryd.ntmps4
      go_wp2_with fail
      go_quiet (fail)
      go_wp2_with fail
      have QA := Lib.hid ((Q.refl (W.alloc (.cells #[.int .i64 m, .int .i64 f] 34))).drewN nq)
      generalize (W.alloc (.cells #[.int .i64 m, .int .i64 f] 34)) = wA at *
      generalize wA.drewN nq = wB at *
      generalize W.heap.size = gA at *
      have G1 := Lib.hid (HG.out.q HL.out)
      as_aux_lemma =>
      refine (count_x a' t' m r e HR.out wB QA.out G1.out).mono ?_
      rintro y w1 ⟨rfl, q1⟩
      have Q1 := Lib.hid q1
      clear q1
      go_wp2_with fail
      refine (rcount_x a' t' m r e HR.out w1 Q1.out).mono ?_
      rintro y w2 ⟨rfl, q2⟩
      have Q2 := Lib.hid q2
      obtain ⟨hc0, hc1⟩ := HM.out w2 q2
      clear q2
      go_wp2_with fail
      refine (value_x m u v ve HV.out HE.out w2 b0 b1 u0 u1).mono ?_
      rintro x _ ⟨rfl, rfl⟩
      go_wp2_with fail
      refine (rvalue_x m u v ve HV.out HE.out w2 b0 b1 u0 u1).mono ?_
      rintro x _ ⟨rfl, rfl⟩
      go_wp2_with fail
      clear hc0 hc1
      refine (far_x t' x f HX.out w2 Q2.out G1.out).mono ?_
      rintro x w3 ⟨rfl, q3⟩
      have Q3 := Lib.hid q3
      clear q3
      go_wp2_with fail
      refine (rfar_x t' x f HX.out w3 Q3.out).mono ?_
      rintro x w4 ⟨rfl, q4⟩
      have Q4 := Lib.hid q4
      clear q4
      go_wp2_with fail
      refine (fixed_any w4 Q4.out G1.out).mono ?_
      rintro x w5 ⟨rfl, q5⟩
      have Q5 := Lib.hid q5
      clear q5
      go_wp2_with fail
      go_ret
      exact ⟨rfl, HL.out.trans Q5.out⟩
    · obtain ⟨r, e, hre⟩ := cntA_ex a' t' m
      have HR := Lib.hid hre
      clear hre
      obtain ⟨x, hx⟩ : ∃ z, farA t' 300 = z := ⟨_, rfl⟩
      have HX := Lib.hid hx
      clear hx
      go_enter Tryd.func4, Tryd.ntmps4
      go_wp2_with fail
      go_quiet (fail)
      go_wp2_with fail
      have QA := Lib.hid ((Q.refl (W.alloc (.cells #[.int .i64 m, .int .i64 f] 34))).drewN nq)
      generalize (W.alloc (.cells #[.int .i64 m, .int .i64 f] 34)) = wA at *
      generalize wA.drewN nq = wB at *
      generalize W.heap.size = gA at *
      have G1 := Lib.hid (HG.out.q HL.out)
      as_aux_lemma =>
      refine (count_x a' t' m r e HR.out wB QA.out G1.out).mono ?_
      rintro y w1 ⟨rfl, q1⟩
      have Q1 := Lib.hid q1
      clear q1
      go_wp2_with fail
      refine (rcount_x a' t' m r e HR.out w1 Q1.out).mono ?_
      rintro y w2 ⟨rfl, q2⟩
      have Q2 := Lib.hid q2
      obtain ⟨hc0, hc1⟩ := HM.out w2 q2
      clear q2
      go_wp2_with fail
      refine (value_x m u v ve HV.out HE.out w2 b0 b1 u0 u1).mono ?_
      rintro x _ ⟨rfl, rfl⟩
      go_wp2_with fail
      refine (rvalue_x m u v ve HV.out HE.out w2 b0 b1 u0 u1).mono ?_
      rintro x _ ⟨rfl, rfl⟩
      go_wp2_with fail
      clear hc0 hc1
      refine (far_x t' x 300 HX.out w2 Q2.out G1.out).mono ?_
      rintro x w3 ⟨rfl, q3⟩
      have Q3 := Lib.hid q3
      clear q3
      go_wp2_with fail
      refine (rfar_x t' x 300 HX.out w3 Q3.out).mono ?_
      rintro x w4 ⟨rfl, q4⟩
      have Q4 := Lib.hid q4
      clear q4
      go_wp2_with fail
      refine (fixed_any w4 Q4.out G1.out).mono ?_
      rintro x w5 ⟨rfl, q5⟩
      have Q5 := Lib.hid q5
      clear q5
      go_wp2_with fail
      go_ret
      exact ⟨rfl, HL.out.trans Q5.out⟩
    · obtain ⟨r, e, hre⟩ := cntA_ex a' t' m
      have HR := Lib.hid hre
      clear hre
      obtain ⟨x, hx⟩ : ∃ z, farA t' f = z := ⟨_, rfl⟩
      have HX := Lib.hid hx
      clear hx
      go_enter Tryd.func4, Tryd.ntmps4
      go_wp2_with fail
      go_quiet (fail)
      go_wp2_with fail
      have QA := Lib.hid ((Q.refl (W.alloc (.cells #[.int .i64 m, .int .i64 f] 34))).drewN nq)
      generalize (W.alloc (.cells #[.int .i64 m, .int .i64 f] 34)) = wA at *
      generalize wA.drewN nq = wB at *
      generalize W.heap.size = gA at *
      have G1 := Lib.hid (HG.out.q HL.out)
      as_aux_lemma =>
      refine (count_x a' t' m r e HR.out wB QA.out G1.out).mono ?_
      rintro y w1 ⟨rfl, q1⟩
      have Q1 := Lib.hid q1
      clear q1
      go_wp2_with fail
      refine (rcount_x a' t' m r e HR.out w1 Q1.out).mono ?_
      rintro y w2 ⟨rfl, q2⟩
      have Q2 := Lib.hid q2
      obtain ⟨hc0, hc1⟩ := HM.out w2 q2
      clear q2
      go_wp2_with fail
      refine (value_x m u v ve HV.out HE.out w2 b0 b1 u0 u1).mono ?_
      rintro x _ ⟨rfl, rfl⟩
      go_wp2_with fail
      refine (rvalue_x m u v ve HV.out HE.out w2 b0 b1 u0 u1).mono ?_
      rintro x _ ⟨rfl, rfl⟩
      go_wp2_with fail
      clear hc0 hc1
      refine (far_x t' x f HX.out w2 Q2.out G1.out).mono ?_
      rintro x w3 ⟨rfl, q3⟩
      have Q3 := Lib.hid q3
      clear q3
      go_wp2_with fail
      refine (rfar_x t' x f HX.out w3 Q3.out).mono ?_
      rintro x w4 ⟨rfl, q4⟩
      have Q4 := Lib.hid q4
      clear q4
      go_wp2_with fail
      refine (fixed_any w4 Q4.out G1.out).mono ?_
      rintro x w5 ⟨rfl, q5⟩
      have Q5 := Lib.hid q5
      clear q5
      go_wp2_with fail
      go_ret
      exact ⟨rfl, HL.out.trans Q5.out⟩
  · rcases (show f ≤ 300 ∨ (300 < f ∧ f ≤ 4096) ∨ (300 < f ∧ 4096 < f) by omega) with h2 | ⟨h2, h2'⟩ | ⟨h2, h2'⟩
    · obtain ⟨r, e, hre⟩ := cntA_ex a' t' 300
      have HR := Lib.hid hre
      clear hre
      obtain ⟨x, hx⟩ : ∃ z, farA t' f = z := ⟨_, rfl⟩
      have HX := Lib.hid hx
      clear hx
      go_enter Tryd.func4, Tryd.ntmps4
      go_wp2_with fail
      go_quiet (fail)
      go_wp2_with fail
      have QA := Lib.hid ((Q.refl (W.alloc (.cells #[.int .i64 m, .int .i64 f] 34))).drewN nq)
      generalize (W.alloc (.cells #[.int .i64 m, .int .i64 f] 34)) = wA at *
      generalize wA.drewN nq = wB at *
      generalize W.heap.size = gA at *
      have G1 := Lib.hid (HG.out.q HL.out)
      as_aux_lemma =>
      refine (count_x a' t' 300 r e HR.out wB QA.out G1.out).mono ?_
      rintro y w1 ⟨rfl, q1⟩
      have Q1 := Lib.hid q1
      clear q1
      go_wp2_with fail
      refine (rcount_x a' t' 300 r e HR.out w1 Q1.out).mono ?_
      rintro y w2 ⟨rfl, q2⟩
      have Q2 := Lib.hid q2
      obtain ⟨hc0, hc1⟩ := HM.out w2 q2
      clear q2
      go_wp2_with fail
      refine (value_x m u v ve HV.out HE.out w2 b0 b1 u0 u1).mono ?_
      rintro x _ ⟨rfl, rfl⟩
      go_wp2_with fail
      refine (rvalue_x m u v ve HV.out HE.out w2 b0 b1 u0 u1).mono ?_
      rintro x _ ⟨rfl, rfl⟩
      go_wp2_with fail
      clear hc0 hc1
      refine (far_x t' x f HX.out w2 Q2.out G1.out).mono ?_
      rintro x w3 ⟨rfl, q3⟩
      have Q3 := Lib.hid q3
      clear q3
      go_wp2_with fail
      refine (rfar_x t' x f HX.out w3 Q3.out).mono ?_
      rintro x w4 ⟨rfl, q4⟩
      have Q4 := Lib.hid q4
      clear q4
      go_wp2_with fail
      refine (fixed_any w4 Q4.out G1.out).mono ?_
      rintro x w5 ⟨rfl, q5⟩
      have Q5 := Lib.hid q5
      clear q5
      go_wp2_with fail
      go_ret
      exact ⟨rfl, HL.out.trans Q5.out⟩
    · obtain ⟨r, e, hre⟩ := cntA_ex a' t' 300
      have HR := Lib.hid hre
      clear hre
      obtain ⟨x, hx⟩ : ∃ z, farA t' 300 = z := ⟨_, rfl⟩
      have HX := Lib.hid hx
      clear hx
      go_enter Tryd.func4, Tryd.ntmps4
      go_wp2_with fail
      go_quiet (fail)
      go_wp2_with fail
      have QA := Lib.hid ((Q.refl (W.alloc (.cells #[.int .i64 m, .int .i64 f] 34))).drewN nq)
      generalize (W.alloc (.cells #[.int .i64 m, .int .i64 f] 34)) = wA at *
      generalize wA.drewN nq = wB at *
      generalize W.heap.size = gA at *
      have G1 := Lib.hid (HG.out.q HL.out)
      as_aux_lemma =>
      refine (count_x a' t' 300 r e HR.out wB QA.out G1.out).mono ?_
      rintro y w1 ⟨rfl, q1⟩
      have Q1 := Lib.hid q1
      clear q1
      go_wp2_with fail
      refine (rcount_x a' t' 300 r e HR.out w1 Q1.out).mono ?_
      rintro y w2 ⟨rfl, q2⟩
      have Q2 := Lib.hid q2
      obtain ⟨hc0, hc1⟩ := HM.out w2 q2
      clear q2
      go_wp2_with fail
      refine (value_x m u v ve HV.out HE.out w2 b0 b1 u0 u1).mono ?_
      rintro x _ ⟨rfl, rfl⟩
      go_wp2_with fail
      refine (rvalue_x m u v ve HV.out HE.out w2 b0 b1 u0 u1).mono ?_
      rintro x _ ⟨rfl, rfl⟩
      go_wp2_with fail
      clear hc0 hc1
      refine (far_x t' x 300 HX.out w2 Q2.out G1.out).mono ?_
      rintro x w3 ⟨rfl, q3⟩
      have Q3 := Lib.hid q3
      clear q3
      go_wp2_with fail
      refine (rfar_x t' x 300 HX.out w3 Q3.out).mono ?_
      rintro x w4 ⟨rfl, q4⟩
      have Q4 := Lib.hid q4
      clear q4
      go_wp2_with fail
      refine (fixed_any w4 Q4.out G1.out).mono ?_
      rintro x w5 ⟨rfl, q5⟩
      have Q5 := Lib.hid q5
      clear q5
      go_wp2_with fail
      go_ret
      exact ⟨rfl, HL.out.trans Q5.out⟩
    · obtain ⟨r, e, hre⟩ := cntA_ex a' t' 300
      have HR := Lib.hid hre
      clear hre
      obtain ⟨x, hx⟩ : ∃ z, farA t' f = z := ⟨_, rfl⟩
      have HX := Lib.hid hx
      clear hx
      go_enter Tryd.func4, Tryd.ntmps4
      go_wp2_with fail
      go_quiet (fail)
      go_wp2_with fail
      have QA := Lib.hid ((Q.refl (W.alloc (.cells #[.int .i64 m, .int .i64 f] 34))).drewN nq)
      generalize (W.alloc (.cells #[.int .i64 m, .int .i64 f] 34)) = wA at *
      generalize wA.drewN nq = wB at *
      generalize W.heap.size = gA at *
      have G1 := Lib.hid (HG.out.q HL.out)
      as_aux_lemma =>
      refine (count_x a' t' 300 r e HR.out wB QA.out G1.out).mono ?_
      rintro y w1 ⟨rfl, q1⟩
      have Q1 := Lib.hid q1
      clear q1
      go_wp2_with fail
      refine (rcount_x a' t' 300 r e HR.out w1 Q1.out).mono ?_
      rintro y w2 ⟨rfl, q2⟩
      have Q2 := Lib.hid q2
      obtain ⟨hc0, hc1⟩ := HM.out w2 q2
      clear q2
      go_wp2_with fail
      refine (value_x m u v ve HV.out HE.out w2 b0 b1 u0 u1).mono ?_
      rintro x _ ⟨rfl, rfl⟩
      go_wp2_with fail
      refine (rvalue_x m u v ve HV.out HE.out w2 b0 b1 u0 u1).mono ?_
      rintro x _ ⟨rfl, rfl⟩
      go_wp2_with fail
      clear hc0 hc1
      refine (far_x t' x f HX.out w2 Q2.out G1.out).mono ?_
      rintro x w3 ⟨rfl, q3⟩
      have Q3 := Lib.hid q3
      clear q3
      go_wp2_with fail
      refine (rfar_x t' x f HX.out w3 Q3.out).mono ?_
      rintro x w4 ⟨rfl, q4⟩
      have Q4 := Lib.hid q4
      clear q4
      go_wp2_with fail
      refine (fixed_any w4 Q4.out G1.out).mono ?_
      rintro x w5 ⟨rfl, q5⟩
      have Q5 := Lib.hid q5
      clear q5
      go_wp2_with fail
      go_ret
      exact ⟨rfl, HL.out.trans Q5.out⟩
  · rcases (show f ≤ 300 ∨ (300 < f ∧ f ≤ 4096) ∨ (300 < f ∧ 4096 < f) by omega) with h2 | ⟨h2, h2'⟩ | ⟨h2, h2'⟩
    · obtain ⟨r, e, hre⟩ := cntA_ex a' t' m
      have HR := Lib.hid hre
      clear hre
      obtain ⟨x, hx⟩ : ∃ z, farA t' f = z := ⟨_, rfl⟩
      have HX := Lib.hid hx
      clear hx
      go_enter Tryd.func4, Tryd.ntmps4
      go_wp2_with fail
      go_quiet (fail)
      go_wp2_with fail
      have QA := Lib.hid ((Q.refl (W.alloc (.cells #[.int .i64 m, .int .i64 f] 34))).drewN nq)
      generalize (W.alloc (.cells #[.int .i64 m, .int .i64 f] 34)) = wA at *
      generalize wA.drewN nq = wB at *
      generalize W.heap.size = gA at *
      have G1 := Lib.hid (HG.out.q HL.out)
      as_aux_lemma =>
      refine (count_x a' t' m r e HR.out wB QA.out G1.out).mono ?_
      rintro y w1 ⟨rfl, q1⟩
      have Q1 := Lib.hid q1
      clear q1
      go_wp2_with fail
      refine (rcount_x a' t' m r e HR.out w1 Q1.out).mono ?_
      rintro y w2 ⟨rfl, q2⟩
      have Q2 := Lib.hid q2
      obtain ⟨hc0, hc1⟩ := HM.out w2 q2
      clear q2
      go_wp2_with fail
      refine (value_x m u v ve HV.out HE.out w2 b0 b1 u0 u1).mono ?_
      rintro x _ ⟨rfl, rfl⟩
      go_wp2_with fail
      refine (rvalue_x m u v ve HV.out HE.out w2 b0 b1 u0 u1).mono ?_
      rintro x _ ⟨rfl, rfl⟩
      go_wp2_with fail
      clear hc0 hc1
      refine (far_x t' x f HX.out w2 Q2.out G1.out).mono ?_
      rintro x w3 ⟨rfl, q3⟩
      have Q3 := Lib.hid q3
      clear q3
      go_wp2_with fail
      refine (rfar_x t' x f HX.out w3 Q3.out).mono ?_
      rintro x w4 ⟨rfl, q4⟩
      have Q4 := Lib.hid q4
      clear q4
      go_wp2_with fail
      refine (fixed_any w4 Q4.out G1.out).mono ?_
      rintro x w5 ⟨rfl, q5⟩
      have Q5 := Lib.hid q5
      clear q5
      go_wp2_with fail
      go_ret
      exact ⟨rfl, HL.out.trans Q5.out⟩
    · obtain ⟨r, e, hre⟩ := cntA_ex a' t' m
      have HR := Lib.hid hre
      clear hre
      obtain ⟨x, hx⟩ : ∃ z, farA t' 300 = z := ⟨_, rfl⟩
      have HX := Lib.hid hx
      clear hx
      go_enter Tryd.func4, Tryd.ntmps4
      go_wp2_with fail
      go_quiet (fail)
      go_wp2_with fail
      have QA := Lib.hid ((Q.refl (W.alloc (.cells #[.int .i64 m, .int .i64 f] 34))).drewN nq)
      generalize (W.alloc (.cells #[.int .i64 m, .int .i64 f] 34)) = wA at *
      generalize wA.drewN nq = wB at *
      generalize W.heap.size = gA at *
      have G1 := Lib.hid (HG.out.q HL.out)
      as_aux_lemma =>
      refine (count_x a' t' m r e HR.out wB QA.out G1.out).mono ?_
      rintro y w1 ⟨rfl, q1⟩
      have Q1 := Lib.hid q1
      clear q1
      go_wp2_with fail
      refine (rcount_x a' t' m r e HR.out w1 Q1.out).mono ?_
      rintro y w2 ⟨rfl, q2⟩
      have Q2 := Lib.hid q2
      obtain ⟨hc0, hc1⟩ := HM.out w2 q2
      clear q2
      go_wp2_with fail
      refine (value_x m u v ve HV.out HE.out w2 b0 b1 u0 u1).mono ?_
      rintro x _ ⟨rfl, rfl⟩
      go_wp2_with fail
      refine (rvalue_x m u v ve HV.out HE.out w2 b0 b1 u0 u1).mono ?_
      rintro x _ ⟨rfl, rfl⟩
      go_wp2_with fail
      clear hc0 hc1
      refine (far_x t' x 300 HX.out w2 Q2.out G1.out).mono ?_
      rintro x w3 ⟨rfl, q3⟩
      have Q3 := Lib.hid q3
      clear q3
      go_wp2_with fail
      refine (rfar_x t' x 300 HX.out w3 Q3.out).mono ?_
      rintro x w4 ⟨rfl, q4⟩
      have Q4 := Lib.hid q4
      clear q4
      go_wp2_with fail
      refine (fixed_any w4 Q4.out G1.out).mono ?_
      rintro x w5 ⟨rfl, q5⟩
      have Q5 := Lib.hid q5
      clear q5
      go_wp2_with fail
      go_ret
      exact ⟨rfl, HL.out.trans Q5.out⟩
    · obtain ⟨r, e, hre⟩ := cntA_ex a' t' m
      have HR := Lib.hid hre
      clear hre
      obtain ⟨x, hx⟩ : ∃ z, farA t' f = z := ⟨_, rfl⟩
      have HX := Lib.hid hx
      clear hx
      go_enter Tryd.func4, Tryd.ntmps4
      go_wp2_with fail
      go_quiet (fail)
      go_wp2_with fail
      have QA := Lib.hid ((Q.refl (W.alloc (.cells #[.int .i64 m, .int .i64 f] 34))).drewN nq)
      generalize (W.alloc (.cells #[.int .i64 m, .int .i64 f] 34)) = wA at *
      generalize wA.drewN nq = wB at *
      generalize W.heap.size = gA at *
      have G1 := Lib.hid (HG.out.q HL.out)
      as_aux_lemma =>
      refine (count_x a' t' m r e HR.out wB QA.out G1.out).mono ?_
      rintro y w1 ⟨rfl, q1⟩
      have Q1 := Lib.hid q1
      clear q1
      go_wp2_with fail
      refine (rcount_x a' t' m r e HR.out w1 Q1.out).mono ?_
      rintro y w2 ⟨rfl, q2⟩
      have Q2 := Lib.hid q2
      obtain ⟨hc0, hc1⟩ := HM.out w2 q2
      clear q2
      go_wp2_with fail
      refine (value_x m u v ve HV.out HE.out w2 b0 b1 u0 u1).mono ?_
      rintro x _ ⟨rfl, rfl⟩
      go_wp2_with fail
      refine (rvalue_x m u v ve HV.out HE.out w2 b0 b1 u0 u1).mono ?_
      rintro x _ ⟨rfl, rfl⟩
      go_wp2_with fail
      clear hc0 hc1
      refine (far_x t' x f HX.out w2 Q2.out G1.out).mono ?_
      rintro x w3 ⟨rfl, q3⟩
      have Q3 := Lib.hid q3
      clear q3
      go_wp2_with fail
      refine (rfar_x t' x f HX.out w3 Q3.out).mono ?_
      rintro x w4 ⟨rfl, q4⟩
      have Q4 := Lib.hid q4
      clear q4
      go_wp2_with fail
      refine (fixed_any w4 Q4.out G1.out).mono ?_
      rintro x w5 ⟨rfl, q5⟩
      have Q5 := Lib.hid q5
      clear q5
      go_wp2_with fail
      go_ret
      exact ⟨rfl, HL.out.trans Q5.out⟩

theorem okWide_array {P : Program} {w : World} {r : Reach} {base n : Nat} {t e : TypeId} {v : Value} (ht : P.underlying t = some (.array n e)) (h : Value.okWide P w r base t v) : ∃ cs, v = .agg cs ∧ cs.size = P.cellsOf t := by
  unfold Value.okWide at h
  cases v <;> simp_all [Program.underlying]

theorem arr2_open {W : World} {base : Nat} {v : Value} {H : Type} {enc : TypeId × Value → H} {d : DataW H} {p : List MemPlace}
    (hv : Value.okWide Tryd.prog W .any base 34 v) (h : DataW.Trod enc Tryd.prog W 0 (fun _ => true) true 34 v d p) :
    ∃ a0 a1 : Int, v = .agg #[.int .i64 a0, .int .i64 a1] ∧ (Lit.int .i64 a0).wf = true ∧ (Lit.int .i64 a1).wf = true := by
  have c1 : Tryd.prog.cellsOf 3 = 1 := by kernel_rfl
  have c2 : Tryd.prog.cellsOf 34 = 2 := by kernel_rfl
  obtain ⟨cs, rfl, hsz⟩ := okWide_array Tryd.underlying34 hv
  have hsz' : cs.size = 2 := hsz.trans c2
  obtain ⟨x0, x1, rfl⟩ := Joins.array2 hsz'
  obtain ⟨fuel, hf⟩ := h
  obtain ⟨xs, m, _, _, _, hl, hg⟩ := DataW.trod_array Tryd.underlying34 hf
  have g0 := hg 0 (by omega)
  have g1 := hg 1 (by omega)
  rw [List.getElem?_eq_getElem (by omega)] at g0 g1
  obtain ⟨b0, e0, _, w0⟩ := DataW.trod_int Tryd.underlying3 g0
  obtain ⟨b1, e1, _, w1⟩ := DataW.trod_int Tryd.underlying3 g1
  simp [Value.cells, c1] at e0 e1
  subst e0 e1
  exact ⟨b0, b1, rfl, w0, w1⟩

set_option maxRecDepth 100000 in
theorem lifted (os : Os) (started : os.Started) (H : Type) (enc : TypeId × Value → H) :
    ReturnsInHanded {} Tryd.checked os 4 .any (fun w args => (Rows.paywordCountsSpec.pre enc Tryd.prog Tryd.f4 [] false w args ∧ laidMetH Tryd.prog laid2 w) ∧ sizedMet enc Tryd.prog Tryd.f4 (OpenSpec.ofChange Rows.paywordCountsSpec) false w args)
      (Rows.paywordCountsSpec.post enc Tryd.prog Tryd.f4 false true false false) := by
  refine returnsInHanded_of_change_and (C := Tryd.checked) (X := fun w _ => laidMetH Tryd.prog laid2 w) (fun _ _ _ hh h => h.of_heap hh) own started (by kernel_rfl) Tryd.func4
    (ChangeSpec.witness_shaped (enc := enc) (C := Tryd.checked) (os := os) (X := fun w _ => laidMetH Tryd.prog laid2 w) false (World.doorLaid Tryd.prog 400 os) #[.string ⟨#[]⟩, .string ⟨#[]⟩, .agg #[.int .i64 0, .int .i64 0]] 8 rfl (World.shaped_of_RefB (by kernel_rfl) (by kernel_rfl)) (by kernel_rfl) (by kernel_rfl) (by kernel_rfl) (door_met os _)) ?_
  intro W base args ds gs before hval0 hW _ _ hL _
  have hval : ∀ (j : Nat) t v, Tryd.f4.params[j]? = some t → args[j]? = some v → Value.okWide Tryd.prog W .any base t v := hval0
  have hW' := hW
  obtain ⟨p, q, hA0, hV, rfl, hfz, hnd⟩ := hW
  have hA : DataW.TrodAll enc Tryd.prog W 0 (fun _ => true) true Tryd.f4.params.toList args.toList ds p := hA0
  rw [Tryd.params4] at hA hval
  obtain ⟨v0, vs0, d0, ds0, p0, q0, hargs, rfl, rfl, h0, r0⟩ := trodAll_cons hA
  obtain ⟨v1, vs1, d1, ds1, p1, q1, rfl, rfl, rfl, h1, r1⟩ := trodAll_cons r0
  obtain ⟨v2, vs2, d2, ds2, p2, q2, rfl, rfl, rfl, h2, r2⟩ := trodAll_cons r1
  obtain ⟨rfl, rfl, rfl⟩ := trodAll_nil r2
  obtain rfl : args = #[v0, v1, v2] := by cases args; simp_all
  obtain ⟨rfl, rfl⟩ := trodVars_none hV
  have k0 := h0
  have lt0 : ∀ x ∈ p0, x.block < W.heap.size := by obtain ⟨m, hm⟩ := k0; exact DataW.trod_lt m _ _ _ hm
  obtain ⟨a0, rfl, e0, f0, w0⟩ := open_string Tryd.underlying9 (hval 0 9 v0 rfl rfl) h0
  have k1 := h1
  have lt1 : ∀ x ∈ p1, x.block < W.heap.size := by obtain ⟨m, hm⟩ := k1; exact DataW.trod_lt m _ _ _ hm
  obtain ⟨a1, rfl, e1, f1, w1⟩ := open_string Tryd.underlying9 (hval 1 9 v1 rfl rfl) h1
  have k2 := h2
  have lt2 : ∀ x ∈ p2, x.block < W.heap.size := by obtain ⟨m, hm⟩ := k2; exact DataW.trod_lt m _ _ _ hm
  obtain ⟨a2_0, a2_1, rfl, w2_0, w2_1⟩ := arr2_open (hval 2 34 v2 rfl rfl) h2
  clear hA0 hval0
  refine (walk W (of_laid hL) a0 w0 a1 w1 a2_0 a2_1 w2_0 w2_1).mono fun e W' ⟨he, bel⟩ => ?_
  subst he
  exact ⟨_, rfl, _, _, _, [], _, [], hW', trodAll_mk1 (shut_bool Tryd.underlying4 _), (trodAll_cons_mk (Below.trod laidOut (by kernel_rfl) (of_decide_eq_true (by kernel_rfl)) k0 bel lt0) (trodAll_cons_mk (Below.trod laidOut (by kernel_rfl) (of_decide_eq_true (by kernel_rfl)) k1 bel lt1) (trodAll_cons_mk (Below.trod laidOut (by kernel_rfl) (of_decide_eq_true (by kernel_rfl)) k2 bel lt2) trodAll_mk0))), rfl, bel.frame _, fun h => by cases h⟩

theorem over : Rows.paywordCountsRow.holds Tryd.pinned (OpenSpec.ofChange Rows.paywordCountsSpec) :=
  OpenClaim.holds_of_wide 4 Tryd.f4 rfl rfl rfl rfl rfl rfl rfl ⟨rfl, rfl, rfl, rfl, rfl⟩ rfl rfl rfl rfl rfl (by kernel_rfl) Tryd.func4 (by kernel_rfl)
    (of_decide_eq_true (by kernel_rfl)) (by unfold Func.isWrapper; first | (rw [if_pos (by decide +kernel)]; kernel_rfl) | (rw [if_neg (by decide +kernel)]; exact ⟨rfl, rfl⟩))
    (fun os started H enc _ => lifted os started H enc)

theorem card : Claim7.holds Tryd.pinned (.plain (OpenSpec.ofChange Rows.paywordCountsSpec)) Rows.paywordCountsCard :=
  Claim7.holds_tied_plain_at .later [] [.data, .data] true Rows.paywordCountsCard.stood.harness false
    over (fun _ h => by cases h) (by kernel_rfl) (fun _ h => by cases h) paywordCounts_row_tie rfl ⟨rfl, rfl⟩ (by kernel_rfl) rfl
    (fun f fn hf hfn => by
      obtain rfl : f = 4 := Option.some.inj ((show Tryd.prog.funcNamed "turnstile/turnstilelaw04.PaywordCounts" = some 4 by kernel_rfl).symm.trans hf) |>.symm
      obtain rfl : fn = Tryd.f4 := (Option.some.inj (Tryd.func4.symm.trans hfn)).symm
      exact ⟨by kernel_rfl, fun j t ht => by
        rw [Tryd.params4] at ht
        have hm : t ∈ [9, 9, 34] := by simpa using Array.mem_of_getElem? ht
        have hall : ([9, 9, 34].all fun u => !Tryd.prog.wantsStandIn u) = true := by kernel_rfl
        exact (show Tryd.prog.wantsStandIn t = false by simpa using List.all_eq_true.1 hall t hm)⟩)
    (by kernel_rfl)

end Go.Proofs.YtnjkikdcalfjgaaDoor.paywordCounts
namespace Go.Proofs.YtnjkikdcalfjgaaDoor
theorem paywordCounts_holds : Rows.PaywordCountsCardSaid := paywordCounts.card
#print axioms paywordCounts_holds
end Go.Proofs.YtnjkikdcalfjgaaDoor
