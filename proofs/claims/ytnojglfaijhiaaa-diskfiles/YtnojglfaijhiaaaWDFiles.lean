/-
  Layer 13: DiskFiles' walk.
-/
import Derived.Test.YtnojglfaijhiaaaDkX
import Derived.Test.YtnojglfaijhiaaaDkF
namespace Go.Proofs.Ytnojglfaijhiaaa.Dk
open Go.RowKit
open Mem
set_option linter.unusedVariables false
set_option linter.unusedSimpArgs false

set_option maxHeartbeats 8000000 in
set_option maxRecDepth 100000 in
theorem files_walk (W : World) (av bv : Nat) (ha : av ≤ 255) (hb : bv ≤ 255) (a2 : Option Addr) (len2 cap2 : Nat) (ops : Nat → OP) (hops : IsOps W a2 len2 cap2 ops) :
    Calls Try.prog 6 #[.slice a2 len2 cap2, .int .u8 av, .int .u8 bv] W fun e W' => e = .returned (.bool true) ∧ Below W.heap.size W W' := by
  have HO := Lib.hid hops
  have hcap : len2 ≤ 9223372036854775807 := by have := hops.le; have := hops.cap; unfold maxLen at *; omega
  obtain ⟨mm, hmm⟩ : ∃ z, min len2 40 = z := ⟨_, rfl⟩
  clear hops
  have hwa : IntKind.i64.wrap (av : Int) = av := by rw [IntKind.wrap_i64]; omega
  have hwb : IntKind.i64.wrap (bv : Int) = bv := by rw [IntKind.wrap_i64]; omega
  go_enter Try.func6, Try.ntmps6
  go_wp2_with fail
  refine (new_ok (n := 3) (room := 10000) (by decide) (by decide) (by decide) W).mono ?_
  rintro e w1 ⟨g0, b0, rfl, d1, q1⟩
  have K0 : Hid (∃ t s, SX W W.heap.size g0 b0 3 t s 10000 w1) := ⟨_, _, d1, q1, Nat.le_refl _⟩
  clear d1 q1
  go_wp2_with fail
  go_loopw [9, 10, 11, 12, 13] (fun i o f x y wr => ∃ m : Nat, m ≤ mm ∧ i = .int .i64 m ∧ Hid (∃ t s, SX W W.heap.size g0 b0 3 t s 10000 wr)) (fun i o f x y _ => mm - (intOf i).toNat)
  case atStart => exact ⟨0, Nat.zero_le _, rfl, K0⟩
  case round =>
    obtain ⟨m, hm, rfl, ST⟩ := hrel
    clear K0
    obtain ⟨t, s, ST1⟩ := ST.out
    have K := Lib.hid ST1
    clear ST ST1
    by_cases hlt : m < mm
    · have j0 : (0 : Int) ≤ (m : Int) := by omega
      have j1 : (m : Int) < (len2 : Int) := by omega
      have t1 : decide (m < len2) = true := by simp; omega
      have t2 : decide (m < 40) = true := by simp; omega
      obtain ⟨bo, off, hab, hrow0⟩ := HO.out.sl.resolve_left (by omega)
      obtain ⟨op, hop⟩ : ∃ z, ops m = z := ⟨_, rfl⟩
      have hrow : Hid (∀ j v, (op.cells)[j]? = some v → wr.cell? ⟨bo, off + m * 5 + j, none⟩ = some v) := fun j v hv => Q.cell' K.out.q (hrow0 m (by omega) j v (by rw [hop]; exact hv))
      have OK := Lib.hid (HO.out.ok m (by omega))
      rw [hop] at OK
      clear hrow0 hop
      obtain ⟨kind, ff, mf, x0, ka, kl, kc, kf⟩ := op
      have z9 : x0.size ≤ 9223372036854775807 := by have := OK.out.s; unfold maxLen at this; dsimp only at this; omega
      clear OK
      subst hab
      obtain ⟨f9, hf9, hfi⟩ := and255 ff
      obtain ⟨fi, hf3, hfr⟩ := rem3 f9
      obtain ⟨p1, p2, hp1, hp2, n1, n2, hq1, hq2⟩ := beside3 hf3
      obtain ⟨m0, hm0'⟩ : ∃ z : Nat, min x0.size 60 = z := ⟨_, rfl⟩
      have hm0 : (if (60 : Int) < (x0.size : Int) then 60 else (x0.size : Int)) = (m0 : Int) := by split <;> omega
      have hml : m0 ≤ x0.size := by omega
      obtain ⟨x, eA⟩ : ∃ z, x0.extract 0 m0 = z := ⟨_, rfl⟩
      obtain ⟨x1, hx1⟩ : ∃ z, t p1 = z := ⟨_, rfl⟩
      obtain ⟨x2, hx2⟩ : ∃ z, t p2 = z := ⟨_, rfl⟩
      go_wp2_with (with_reducible (show wpList _ _ _ (⟨_, Op.load 32 _, _, _, _, _⟩ :: _) _ _); refine halt ?_)
      refine Lib.hid (ld_row rfl 32 _ rfl bo (off + m * 5) [.int .i64 kind, .int .i64 ff, .int .i64 mf, .string x0, .slice ka kl kc] rfl (fun j v hv => hrow.out j v hv) Try.underlying32 rfl (by kernel_rfl) ?_)
      have KD := Lib.hid (K.out.qq ((Q.refl wr).alloc (.cells #[.int .i64 kind, .int .i64 ff, .int .i64 mf, .string x0, .slice ka kl kc] 32)))
      clear K hrow
      go_wp2_with fail
      refine (KD.out.read p1 ((rdV_nat t hp1).trans hx1)).mono ?_
      rintro e w3 ⟨rfl, rfl⟩
      go_wp2_with fail
      refine (KD.out.read p2 ((rdV_nat t hp2).trans hx2)).mono ?_
      rintro e w3 ⟨rfl, rfl⟩
      by_cases e0 : kind = 0
      · subst e0
        go_wp2_with fail
        refine (KD.out.append fi x).mono ?_
        rintro e w6 ⟨rfl, k6⟩
        have r1 : rdV 3 _ (p1 : Int) = x1 := (rdV_nat _ hp1).trans ((apT_other (n := 3) (room := 10000) t x n1).trans hx1)
        have r2 : rdV 3 _ (p2 : Int) = x2 := (rdV_nat _ hp2).trans ((apT_other (n := 3) (room := 10000) t x n2).trans hx2)
        have K6 := Lib.hid k6
        clear k6 KD
        go_wp2_with fail
        refine (K6.out.read p1 r1).mono ?_
        rintro e w7 ⟨rfl, rfl⟩
        go_wp2_with fail
        refine (K6.out.read p2 r2).mono ?_
        rintro e w7 ⟨rfl, rfl⟩
        go_wp2_with fail
        exact ⟨⟨m + 1, by omega, rfl, ⟨_, _, K6.out⟩⟩, by simp only [intOf]; omega⟩
      have d0 : (kind == 0) = false := by simpa using e0
      by_cases e1 : kind = 1
      · subst e1
        go_wp2_with fail
        refine (KD.out.sync fi).mono ?_
        rintro e w6 ⟨rfl, k6⟩
        have r1 : rdV 3 _ (p1 : Int) = x1 := (rdV_nat _ hp1).trans ((@rfl _ (t p1)).trans hx1)
        have r2 : rdV 3 _ (p2 : Int) = x2 := (rdV_nat _ hp2).trans ((@rfl _ (t p2)).trans hx2)
        have K6 := Lib.hid k6
        clear k6 KD
        go_wp2_with fail
        refine (K6.out.read p1 r1).mono ?_
        rintro e w7 ⟨rfl, rfl⟩
        go_wp2_with fail
        refine (K6.out.read p2 r2).mono ?_
        rintro e w7 ⟨rfl, rfl⟩
        go_wp2_with fail
        exact ⟨⟨m + 1, by omega, rfl, ⟨_, _, K6.out⟩⟩, by simp only [intOf]; omega⟩
      have d1 : (kind == 1) = false := by simpa using e1
      by_cases e2 : kind = 2
      · subst e2
        go_wp2_with fail
        refine (KD.out.cut fi mf).mono ?_
        rintro e w6 ⟨rfl, k6⟩
        have r1 : rdV 3 _ (p1 : Int) = x1 := (rdV_nat _ hp1).trans ((cuT_other (n := 3) t mf n1).trans hx1)
        have r2 : rdV 3 _ (p2 : Int) = x2 := (rdV_nat _ hp2).trans ((cuT_other (n := 3) t mf n2).trans hx2)
        have K6 := Lib.hid k6
        clear k6 KD
        go_wp2_with fail
        refine (K6.out.read p1 r1).mono ?_
        rintro e w7 ⟨rfl, rfl⟩
        go_wp2_with fail
        refine (K6.out.read p2 r2).mono ?_
        rintro e w7 ⟨rfl, rfl⟩
        go_wp2_with fail
        exact ⟨⟨m + 1, by omega, rfl, ⟨_, _, K6.out⟩⟩, by simp only [intOf]; omega⟩
      have d2 : (kind == 2) = false := by simpa using e2
      have r1 : rdV 3 t (p1 : Int) = x1 := (rdV_nat t hp1).trans hx1
      have r2 : rdV 3 t (p2 : Int) = x2 := (rdV_nat t hp2).trans hx2
      have K6 := Lib.hid KD.out
      clear KD
      go_wp2_with fail
      refine (K6.out.read p1 r1).mono ?_
      rintro e w7 ⟨rfl, rfl⟩
      go_wp2_with fail
      refine (K6.out.read p2 r2).mono ?_
      rintro e w7 ⟨rfl, rfl⟩
      go_wp2_with fail
      exact ⟨⟨m + 1, by omega, rfl, ⟨_, _, K6.out⟩⟩, by simp only [intOf]; omega⟩
    · obtain rfl : m = mm := by omega
      have K9 := Lib.hid K.out
      clear K
      obtain ⟨p, hp, hpa⟩ := rem3 av
      obtain ⟨q, hq, hqa⟩ := rem3 bv
      by_cases hl : m < len2
      · have t1 : decide (m < len2) = true := by simpa using hl
        obtain rfl : m = 40 := by omega
        go_wp2_with fail
        refine (K9.out.sync p).mono ?_
        rintro e w1 ⟨rfl, k1⟩
        have s1 := sy_at t s hp
        have K1 := Lib.hid k1
        clear k1 K9
        generalize syS 3 t s (p : Int) = s2 at *
        go_wp2_with fail
        refine (K1.out.sync q).mono ?_
        rintro e w2 ⟨rfl, k2⟩
        have s3 := sy_keep t s2 hq s1
        have s4 := sy_at t s2 hq
        have K2 := Lib.hid k2
        clear k2 K1 s1
        generalize syS 3 t s2 (q : Int) = s5 at *
        obtain ⟨x, hx⟩ : ∃ z, rdV 3 t (p : Int) = z := ⟨_, rfl⟩
        obtain ⟨y, hy⟩ : ∃ z, rdV 3 t (q : Int) = z := ⟨_, rfl⟩
        go_wp2_with fail
        refine (K2.out.read p hx).mono ?_
        rintro e w3 ⟨rfl, rfl⟩
        go_wp2_with fail
        refine (K2.out.read q hy).mono ?_
        rintro e w3 ⟨rfl, rfl⟩
        go_wp2_with fail
        rw [rdV_nat t hp] at hx
        rw [rdV_nat t hq] at hy
        obtain ⟨e1, e2, e3, e4, e5⟩ := sw_facts hp hq s3 s4
        refine (K2.out.swap p q).mono ?_
        rintro e w3 ⟨rfl, k3⟩
        rw [e1]
        have K3 := Lib.hid k3
        clear k3 K2 e1
        generalize swT 3 t s5 (p : Int) (q : Int) = t1 at *
        generalize swS 3 t s5 (p : Int) (q : Int) = s6 at *
        have z1 : s6 p = (t1 p).size := by rw [e4, e2, s4]
        have z2 : s6 q = (t1 q).size := by rw [e5, e3, s3]
        rw [hy] at e2
        rw [hx] at e3
        clear e4 e5 s3 s4 hx hy
        go_wp2_with fail
        refine (K3.out.read p ((rdV_nat t1 hp).trans e2)).mono ?_
        rintro e w4 ⟨rfl, rfl⟩
        go_wp2_with fail
        refine (K3.out.read q ((rdV_nat t1 hq).trans e3)).mono ?_
        rintro e w4 ⟨rfl, rfl⟩
        go_wp2_with fail
        obtain ⟨e1, e4, e5, _, _⟩ := sw_facts hq hp z2 z1
        refine (K3.out.swap q p).mono ?_
        rintro e w4 ⟨rfl, k4⟩
        rw [e1]
        have K4 := Lib.hid k4
        clear k4 K3 e1 z1 z2
        generalize swT 3 t1 s6 (q : Int) (p : Int) = t2 at *
        rw [e2] at e4
        rw [e3] at e5
        clear e2 e3
        go_wp2_with fail
        refine (K4.out.read p ((rdV_nat t2 hp).trans e5)).mono ?_
        rintro e w5 ⟨rfl, rfl⟩
        go_wp2_with fail
        refine (K4.out.read q ((rdV_nat t2 hq).trans e4)).mono ?_
        rintro e w5 ⟨rfl, rfl⟩
        go_wp2_with fail
        refine (fixed_x _).mono ?_
        rintro e w5 ⟨rfl, q5⟩
        have Q5 := Lib.hid (K4.out.q.trans q5)
        clear q5
        go_wp2_with fail
        refine bodyPost_ret (results_tmp rfl _ _ _) rfl ?_
        exact ⟨rfl, Q5.out⟩
      · have t1 : decide (m < len2) = false := by simpa using hl
        go_wp2_with fail
        refine (K9.out.sync p).mono ?_
        rintro e w1 ⟨rfl, k1⟩
        have s1 := sy_at t s hp
        have K1 := Lib.hid k1
        clear k1 K9
        generalize syS 3 t s (p : Int) = s2 at *
        go_wp2_with fail
        refine (K1.out.sync q).mono ?_
        rintro e w2 ⟨rfl, k2⟩
        have s3 := sy_keep t s2 hq s1
        have s4 := sy_at t s2 hq
        have K2 := Lib.hid k2
        clear k2 K1 s1
        generalize syS 3 t s2 (q : Int) = s5 at *
        obtain ⟨x, hx⟩ : ∃ z, rdV 3 t (p : Int) = z := ⟨_, rfl⟩
        obtain ⟨y, hy⟩ : ∃ z, rdV 3 t (q : Int) = z := ⟨_, rfl⟩
        go_wp2_with fail
        refine (K2.out.read p hx).mono ?_
        rintro e w3 ⟨rfl, rfl⟩
        go_wp2_with fail
        refine (K2.out.read q hy).mono ?_
        rintro e w3 ⟨rfl, rfl⟩
        go_wp2_with fail
        rw [rdV_nat t hp] at hx
        rw [rdV_nat t hq] at hy
        obtain ⟨e1, e2, e3, e4, e5⟩ := sw_facts hp hq s3 s4
        refine (K2.out.swap p q).mono ?_
        rintro e w3 ⟨rfl, k3⟩
        rw [e1]
        have K3 := Lib.hid k3
        clear k3 K2 e1
        generalize swT 3 t s5 (p : Int) (q : Int) = t1 at *
        generalize swS 3 t s5 (p : Int) (q : Int) = s6 at *
        have z1 : s6 p = (t1 p).size := by rw [e4, e2, s4]
        have z2 : s6 q = (t1 q).size := by rw [e5, e3, s3]
        rw [hy] at e2
        rw [hx] at e3
        clear e4 e5 s3 s4 hx hy
        go_wp2_with fail
        refine (K3.out.read p ((rdV_nat t1 hp).trans e2)).mono ?_
        rintro e w4 ⟨rfl, rfl⟩
        go_wp2_with fail
        refine (K3.out.read q ((rdV_nat t1 hq).trans e3)).mono ?_
        rintro e w4 ⟨rfl, rfl⟩
        go_wp2_with fail
        obtain ⟨e1, e4, e5, _, _⟩ := sw_facts hq hp z2 z1
        refine (K3.out.swap q p).mono ?_
        rintro e w4 ⟨rfl, k4⟩
        rw [e1]
        have K4 := Lib.hid k4
        clear k4 K3 e1 z1 z2
        generalize swT 3 t1 s6 (q : Int) (p : Int) = t2 at *
        rw [e2] at e4
        rw [e3] at e5
        clear e2 e3
        go_wp2_with fail
        refine (K4.out.read p ((rdV_nat t2 hp).trans e5)).mono ?_
        rintro e w5 ⟨rfl, rfl⟩
        go_wp2_with fail
        refine (K4.out.read q ((rdV_nat t2 hq).trans e4)).mono ?_
        rintro e w5 ⟨rfl, rfl⟩
        go_wp2_with fail
        refine (fixed_x _).mono ?_
        rintro e w5 ⟨rfl, q5⟩
        have Q5 := Lib.hid (K4.out.q.trans q5)
        clear q5
        go_wp2_with fail
        refine bodyPost_ret (results_tmp rfl _ _ _) rfl ?_
        exact ⟨rfl, Q5.out⟩
end Go.Proofs.Ytnojglfaijhiaaa.Dk
