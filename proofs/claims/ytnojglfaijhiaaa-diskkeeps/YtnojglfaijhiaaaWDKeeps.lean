/-
  Layer 13: DiskKeeps' walk.
-/
import Derived.Test.YtnojglfaijhiaaaDkX
import Derived.Test.YtnojglfaijhiaaaDkP
import Derived.Test.YtnojglfaijhiaaaDkF
namespace Go.Proofs.Ytnojglfaijhiaaa.Dk
open Go.RowKit
open Mem
set_option linter.unusedVariables false
set_option linter.unusedSimpArgs false

theorem cr_facts {n l f : Nat} {kf : Nat → Int} {t : Nat → ByteArray} {s : Nat → Nat} (hf : f < n) (hs : s f ≤ (t f).size) :
    ∃ now : ByteArray, crT l kf t s n f = now ∧ now.size ≤ (t f).size ∧ (t f).extract 0 now.size = now ∧ s f ≤ now.size ∧ crS l kf t s n f = now.size ∧ (f < l → ((t f).size : Int) - (s f : Int) ≤ kf f → now = t f) := by
  have h1 := kp_le l kf t s f
  have h2 : ((t f).extract 0 (s f + kpN l kf t s f)).size = s f + kpN l kf t s f := by rw [ByteArray.size_extract]; omega
  refine ⟨(t f).extract 0 (s f + kpN l kf t s f), ?_, ?_, ?_, ?_, ?_, ?_⟩
  · unfold crT; rw [if_pos hf]
  · rw [h2]; omega
  · rw [h2]
  · rw [h2]; omega
  · unfold crS; rw [if_pos hf, h2]
  · intro h3 h4
    have h5 : kpN l kf t s f = (t f).size - s f := by unfold kpN; rw [if_pos h3]; omega
    rw [h5, show s f + ((t f).size - s f) = (t f).size by omega]
    exact ext_all _
section
variable {w : World} {B T g b n room : Nat} {t : Nat → ByteArray} {s : Nat → Nat}
theorem read_l (k : DK w B T g b n t s room) (f : Int) {x : ByteArray} (hx : rdV n t f = x) : Calls Try.prog 15 #[.pointer (some ⟨g, 0, none⟩), .int .i64 f] w fun r w' => r = .returned (.string x) ∧ w = w' := by
  subst hx; exact read_x k f
theorem sure_l (k : DK w B T g b n t s room) (f : Int) {x : Int} (hx : suV n s f = x) : Calls Try.prog 17 #[.pointer (some ⟨g, 0, none⟩), .int .i64 f] w fun r w' => r = .returned (.int .i64 x) ∧ w = w' := by
  subst hx; exact sure_x k f
end
set_option maxHeartbeats 8000000 in
set_option maxRecDepth 100000 in
theorem keeps_walk (W : World) (a2 : Option Addr) (len2 cap2 : Nat) (ops : Nat → OP) (hops : IsOps W a2 len2 cap2 ops) (xa : Option Addr) (xl xc : Nat) (xf : Nat → Int) (hxk : IK W xa xl xc xf) :
    Calls Try.prog 4 #[.slice a2 len2 cap2, .slice xa xl xc] W fun e W' => e = .returned (.bool true) ∧ Below W.heap.size W W' := by
  have HO := Lib.hid hops
  have HK := Lib.hid hxk
  have hcap : len2 ≤ 9223372036854775807 := by have := hops.le; have := hops.cap; unfold maxLen at *; omega
  have hkc := hxk.le
  have hkm : xc ≤ 9223372036854775807 := by have := hxk.cap; unfold maxLen at *; omega
  obtain ⟨k9, hk9⟩ : ∃ z : Nat, min xl 9 = z := ⟨_, rfl⟩
  have hk1 : (if (9 : Int) < (xl : Int) then 9 else (xl : Int)) = (k9 : Int) := by split <;> omega
  have hkl : k9 ≤ xl := by omega
  obtain ⟨mm, hmm⟩ : ∃ z, min len2 40 = z := ⟨_, rfl⟩
  clear hops hxk
  go_enter Try.func4, Try.ntmps4
  go_wp2_with fail
  refine (new_ok (n := 4) (room := 10000) (by decide) (by decide) (by decide) W).mono ?_
  rintro e w1 ⟨g0, b0, rfl, d1, q1⟩
  have K0 : Hid (∃ t s, SX W W.heap.size g0 b0 4 t s 10000 w1) := ⟨_, _, d1, q1, Nat.le_refl _⟩
  clear d1 q1
  go_wp2_with fail
  go_loopw [7, 8, 9] (fun i o s wr => ∃ m : Nat, m ≤ mm ∧ i = .int .i64 m ∧ Hid (∃ t s, SX W W.heap.size g0 b0 4 t s 10000 wr)) (fun i o s _ => mm - (intOf i).toNat)
  case atStart => exact ⟨0, Nat.zero_le _, rfl, K0⟩
  case round =>
    obtain ⟨m, hm, rfl, ST⟩ := hrel
    clear K0
    obtain ⟨t, s, ST1⟩ := ST.out
    have K := Lib.hid ST1
    clear ST ST1
    by_cases hlt : m < mm
    · have j0 : (0 : Int) ≤ (m : Int) := by omega
      have j1 : (m : Int) < (len2 : Int) := by omega
      have t1 : decide (m < len2) = true := by simp; omega
      have t2 : decide (m < 40) = true := by simp; omega
      obtain ⟨bo, off, hab, hrow0⟩ := HO.out.sl.resolve_left (by omega)
      obtain ⟨op, hop⟩ : ∃ z, ops m = z := ⟨_, rfl⟩
      have hrow : Hid (∀ j v, (op.cells)[j]? = some v → wr.cell? ⟨bo, off + m * 5 + j, none⟩ = some v) := fun j v hv => Q.cell' K.out.q (hrow0 m (by omega) j v (by rw [hop]; exact hv))
      have OK := Lib.hid (HO.out.ok m (by omega))
      rw [hop] at OK
      clear hrow0 hop
      obtain ⟨kind, ff, mf, x0, ka, kl, kc, kf⟩ := op
      have z9 : x0.size ≤ 9223372036854775807 := by have := OK.out.s; unfold maxLen at this; dsimp only at this; omega
      clear OK
      subst hab
      obtain ⟨fi, hf4, hfi⟩ := and3 ff
      obtain ⟨mi, hm4, hmi⟩ := and3 mf
      obtain ⟨m0, hm0'⟩ : ∃ z : Nat, min x0.size 60 = z := ⟨_, rfl⟩
      have hm0 : (if (60 : Int) < (x0.size : Int) then 60 else (x0.size : Int)) = (m0 : Int) := by split <;> omega
      have hml : m0 ≤ x0.size := by omega
      obtain ⟨x, eA⟩ : ∃ z, x0.extract 0 m0 = z := ⟨_, rfl⟩
      go_wp2_with (with_reducible (show wpList _ _ _ (⟨_, Op.load 32 _, _, _, _, _⟩ :: _) _ _); refine halt ?_)
      refine Lib.hid (ld_row rfl 32 _ rfl bo (off + m * 5) [.int .i64 kind, .int .i64 ff, .int .i64 mf, .string x0, .slice ka kl kc] rfl (fun j v hv => hrow.out j v hv) Try.underlying32 rfl (by kernel_rfl) ?_)
      have KD := Lib.hid (K.out.qq ((Q.refl wr).alloc (.cells #[.int .i64 kind, .int .i64 ff, .int .i64 mf, .string x0, .slice ka kl kc] 32)))
      clear K hrow
      by_cases e0 : kind = 0
      · subst e0
        go_wp2_with fail
        refine (KD.out.append fi x).mono ?_
        rintro e w6 ⟨rfl, k6⟩
        have K6 := Lib.hid k6
        clear k6 KD
        go_wp2_with fail
        exact ⟨⟨m + 1, by omega, rfl, ⟨_, _, K6.out⟩⟩, by simp only [intOf]; omega⟩
      have d0 : (kind == 0) = false := by simpa using e0
      by_cases e1 : kind = 1
      · subst e1
        go_wp2_with fail
        refine (KD.out.sync fi).mono ?_
        rintro e w6 ⟨rfl, k6⟩
        have K6 := Lib.hid k6
        clear k6 KD
        go_wp2_with fail
        exact ⟨⟨m + 1, by omega, rfl, ⟨_, _, K6.out⟩⟩, by simp only [intOf]; omega⟩
      have d1 : (kind == 1) = false := by simpa using e1
      by_cases e2 : kind = 2
      · subst e2
        go_wp2_with fail
        refine (KD.out.cut fi mf).mono ?_
        rintro e w6 ⟨rfl, k6⟩
        have K6 := Lib.hid k6
        clear k6 KD
        go_wp2_with fail
        exact ⟨⟨m + 1, by omega, rfl, ⟨_, _, K6.out⟩⟩, by simp only [intOf]; omega⟩
      have d2 : (kind == 2) = false := by simpa using e2
      by_cases e3 : kind = 3
      · subst e3
        go_wp2_with fail
        refine (KD.out.swap fi mi).mono ?_
        rintro e w6 ⟨rfl, k6⟩
        have K6 := Lib.hid k6
        clear k6 KD
        go_wp2_with fail
        exact ⟨⟨m + 1, by omega, rfl, ⟨_, _, K6.out⟩⟩, by simp only [intOf]; omega⟩
      have d3 : (kind == 3) = false := by simpa using e3
      have K6 := Lib.hid KD.out
      clear KD
      go_wp2_with fail
      exact ⟨⟨m + 1, by omega, rfl, ⟨_, _, K6.out⟩⟩, by simp only [intOf]; omega⟩
    · obtain rfl : m = mm := by omega
      have K9 := Lib.hid K.out
      clear K
      by_cases hl : m < len2
      · have t1 : decide (m < len2) = true := by simpa using hl
        obtain rfl : m = 40 := by omega
        go_wp2_with fail
        refine (dcopy_x K9.out.d).mono ?_
        rintro e w1 ⟨g2, b2, rfl, d1, q1⟩
        have KC := Lib.hid d1
        have KO := Lib.hid (K9.out.d.q q1)
        have Q1 := Lib.hid (K9.out.q.trans q1)
        have HB0 : Hid (W.heap.size ≤ b2) := Nat.le_trans K9.out.q.size d1.b_lt.1
        clear d1 q1 K9
        go_wp2_with fail
        refine (crash_x KC.out xa k9 xc xf (HK.out.ks Q1.out hkl HB0.out)).mono ?_
        rintro e w2 ⟨rfl, d2, c2⟩
        have KO2 := Lib.hid (KO.out.below (Fo.of_ch (S := fun j => j = b2) c2 rfl) (fun j hj => by rw [hj]; exact KC.out.b_lt.1))
        have Q2 := Lib.hid (c2.q Q1.out HB0.out)
        have KC2 := Lib.hid d2
        have HS := Lib.hid KO2.out.sure
        have HZ : Hid (∀ i, i < 4 → (t i).size ≤ 10000) := fun i hi => Nat.le_trans (tot_at hi) KO2.out.sum
        clear d2 c2 KO KC Q1 HB0
        go_wp2_with fail
        go_loopw [12, 13, 14, 15] (fun k was now sure wr => ∃ f : Nat, f ≤ 4 ∧ k = .int .i64 f ∧ wr = w2) (fun k was now sure _ => 4 - (intOf k).toNat)
        case atStart => exact ⟨0, by decide, rfl, rfl⟩
        case round =>
          obtain ⟨f, hf, rfl, rfl⟩ := hrel
          by_cases hf4 : f < 4
          · have f4 : decide (f < 4) = true := by simpa using hf4
            obtain ⟨now, c1, c2, c3, c4, c5, c6⟩ := cr_facts (l := k9) (kf := xf) hf4 (HS.out f hf4)
            have zz := HZ.out f hf4
            obtain ⟨was, hwas⟩ : ∃ z, t f = z := ⟨_, rfl⟩
            obtain ⟨su, hsu⟩ : ∃ z, s f = z := ⟨_, rfl⟩
            have r1 : rdV 4 t (f : Int) = was := (rdV_nat t hf4).trans hwas
            have r2 : suV 4 s (f : Int) = (su : Int) := (suV_nat s hf4).trans (by rw [hsu])
            have r3 : rdV 4 (crT k9 xf t s 4) (f : Int) = now := (rdV_nat _ hf4).trans c1
            have r4 : suV 4 (crS k9 xf t s 4) (f : Int) = (now.size : Int) := (suV_nat _ hf4).trans (by rw [c5])
            rw [hwas, hsu] at c6
            rw [hwas] at c2 c3 zz
            rw [hsu] at c4
            clear hwas hsu c1 c5
            have C6 := Lib.hid c6
            clear c6
            have g1 : decide (was.size < now.size) = false := by simp; omega
            have g2' : decide (now.size < su) = false := by simp; omega
            have ew : IntKind.i64.wrap ((was.size : Int) - (su : Int)) = (was.size : Int) - (su : Int) := by rw [IntKind.wrap_i64]; omega
            obtain ⟨le, hle⟩ : ∃ z, (was.size : Int) - (su : Int) = z := ⟨_, rfl⟩
            rw [hle] at C6
            have ew2 : IntKind.i64.wrap ((was.size : Int) - (su : Int)) = le := by rw [ew, hle]
            clear ew
            go_wp2_with fail
            refine (read_l KO2.out f r1).mono ?_
            rintro e w3 ⟨rfl, rfl⟩
            go_wp2_with fail
            refine (read_l KC2.out f r3).mono ?_
            rintro e w3 ⟨rfl, rfl⟩
            go_wp2_with fail
            refine (sure_l KO2.out f r2).mono ?_
            rintro e w3 ⟨rfl, rfl⟩
            go_wp2_with fail
            refine (sure_l KC2.out f r4).mono ?_
            rintro e w3 ⟨rfl, rfl⟩
            clear r1 r2 r3 r4
            by_cases h9 : f < k9
            · have d9 : decide (f < k9) = true := by simpa using h9
              have i0 : (0 : Int) ≤ (f : Int) := by omega
              have i1 : (f : Int) < (k9 : Int) := by omega
              obtain ⟨kb, ko, hka, hc⟩ := HK.out.r.resolve_left (by omega)
              have hc2 := Q.cell' Q2.out (hc f (by omega))
              clear hc
              subst hka
              by_cases hg : le ≤ xf f
              · have dg : decide (le ≤ xf f) = true := by simpa using hg
                obtain rfl := C6.out h9 hg
                go_wp2_with fail
                exact ⟨⟨f + 1, by omega, rfl, trivial⟩, by simp only [intOf]; omega⟩
              · have dg : decide (le ≤ xf f) = false := by simpa using hg
                go_wp2_with fail
                exact ⟨⟨f + 1, by omega, rfl, trivial⟩, by simp only [intOf]; omega⟩
            · have d9 : decide (f < k9) = false := by simpa using h9
              go_wp2_with fail
              exact ⟨⟨f + 1, by omega, rfl, trivial⟩, by simp only [intOf]; omega⟩
          · have f4 : decide (f < 4) = false := by simpa using hf4
            go_wp2_with fail
            refine (fixed_x _).mono ?_
            rintro e w5 ⟨rfl, q5⟩
            have Q5 := Lib.hid (Q2.out.trans q5)
            clear q5
            go_wp2_with fail
            refine bodyPost_ret (results_tmp rfl _ _ _) rfl ?_
            exact ⟨rfl, Q5.out⟩
      · have t1 : decide (m < len2) = false := by simpa using hl
        go_wp2_with fail
        refine (dcopy_x K9.out.d).mono ?_
        rintro e w1 ⟨g2, b2, rfl, d1, q1⟩
        have KC := Lib.hid d1
        have KO := Lib.hid (K9.out.d.q q1)
        have Q1 := Lib.hid (K9.out.q.trans q1)
        have HB0 : Hid (W.heap.size ≤ b2) := Nat.le_trans K9.out.q.size d1.b_lt.1
        clear d1 q1 K9
        go_wp2_with fail
        refine (crash_x KC.out xa k9 xc xf (HK.out.ks Q1.out hkl HB0.out)).mono ?_
        rintro e w2 ⟨rfl, d2, c2⟩
        have KO2 := Lib.hid (KO.out.below (Fo.of_ch (S := fun j => j = b2) c2 rfl) (fun j hj => by rw [hj]; exact KC.out.b_lt.1))
        have Q2 := Lib.hid (c2.q Q1.out HB0.out)
        have KC2 := Lib.hid d2
        have HS := Lib.hid KO2.out.sure
        have HZ : Hid (∀ i, i < 4 → (t i).size ≤ 10000) := fun i hi => Nat.le_trans (tot_at hi) KO2.out.sum
        clear d2 c2 KO KC Q1 HB0
        go_wp2_with fail
        go_loopw [12, 13, 14, 15] (fun k was now sure wr => ∃ f : Nat, f ≤ 4 ∧ k = .int .i64 f ∧ wr = w2) (fun k was now sure _ => 4 - (intOf k).toNat)
        case atStart => exact ⟨0, by decide, rfl, rfl⟩
        case round =>
          obtain ⟨f, hf, rfl, rfl⟩ := hrel
          by_cases hf4 : f < 4
          · have f4 : decide (f < 4) = true := by simpa using hf4
            obtain ⟨now, c1, c2, c3, c4, c5, c6⟩ := cr_facts (l := k9) (kf := xf) hf4 (HS.out f hf4)
            have zz := HZ.out f hf4
            obtain ⟨was, hwas⟩ : ∃ z, t f = z := ⟨_, rfl⟩
            obtain ⟨su, hsu⟩ : ∃ z, s f = z := ⟨_, rfl⟩
            have r1 : rdV 4 t (f : Int) = was := (rdV_nat t hf4).trans hwas
            have r2 : suV 4 s (f : Int) = (su : Int) := (suV_nat s hf4).trans (by rw [hsu])
            have r3 : rdV 4 (crT k9 xf t s 4) (f : Int) = now := (rdV_nat _ hf4).trans c1
            have r4 : suV 4 (crS k9 xf t s 4) (f : Int) = (now.size : Int) := (suV_nat _ hf4).trans (by rw [c5])
            rw [hwas, hsu] at c6
            rw [hwas] at c2 c3 zz
            rw [hsu] at c4
            clear hwas hsu c1 c5
            have C6 := Lib.hid c6
            clear c6
            have g1 : decide (was.size < now.size) = false := by simp; omega
            have g2' : decide (now.size < su) = false := by simp; omega
            have ew : IntKind.i64.wrap ((was.size : Int) - (su : Int)) = (was.size : Int) - (su : Int) := by rw [IntKind.wrap_i64]; omega
            obtain ⟨le, hle⟩ : ∃ z, (was.size : Int) - (su : Int) = z := ⟨_, rfl⟩
            rw [hle] at C6
            have ew2 : IntKind.i64.wrap ((was.size : Int) - (su : Int)) = le := by rw [ew, hle]
            clear ew
            go_wp2_with fail
            refine (read_l KO2.out f r1).mono ?_
            rintro e w3 ⟨rfl, rfl⟩
            go_wp2_with fail
            refine (read_l KC2.out f r3).mono ?_
            rintro e w3 ⟨rfl, rfl⟩
            go_wp2_with fail
            refine (sure_l KO2.out f r2).mono ?_
            rintro e w3 ⟨rfl, rfl⟩
            go_wp2_with fail
            refine (sure_l KC2.out f r4).mono ?_
            rintro e w3 ⟨rfl, rfl⟩
            clear r1 r2 r3 r4
            by_cases h9 : f < k9
            · have d9 : decide (f < k9) = true := by simpa using h9
              have i0 : (0 : Int) ≤ (f : Int) := by omega
              have i1 : (f : Int) < (k9 : Int) := by omega
              obtain ⟨kb, ko, hka, hc⟩ := HK.out.r.resolve_left (by omega)
              have hc2 := Q.cell' Q2.out (hc f (by omega))
              clear hc
              subst hka
              by_cases hg : le ≤ xf f
              · have dg : decide (le ≤ xf f) = true := by simpa using hg
                obtain rfl := C6.out h9 hg
                go_wp2_with fail
                exact ⟨⟨f + 1, by omega, rfl, trivial⟩, by simp only [intOf]; omega⟩
              · have dg : decide (le ≤ xf f) = false := by simpa using hg
                go_wp2_with fail
                exact ⟨⟨f + 1, by omega, rfl, trivial⟩, by simp only [intOf]; omega⟩
            · have d9 : decide (f < k9) = false := by simpa using h9
              go_wp2_with fail
              exact ⟨⟨f + 1, by omega, rfl, trivial⟩, by simp only [intOf]; omega⟩
          · have f4 : decide (f < 4) = false := by simpa using hf4
            go_wp2_with fail
            refine (fixed_x _).mono ?_
            rintro e w5 ⟨rfl, q5⟩
            have Q5 := Lib.hid (Q2.out.trans q5)
            clear q5
            go_wp2_with fail
            refine bodyPost_ret (results_tmp rfl _ _ _) rfl ?_
            exact ⟨rfl, Q5.out⟩
end Go.Proofs.Ytnojglfaijhiaaa.Dk
