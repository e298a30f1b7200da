/-
  Layer 13: DiskDoes' walk.
-/
import Derived.Test.YtnojglfaijhiaaaDkP
import Derived.Test.YtnojglfaijhiaaaDkF
namespace Go.Proofs.Ytnojglfaijhiaaa.Dk
open Go.RowKit
open Mem Plan
set_option linter.unusedVariables false
set_option linter.unusedSimpArgs false

/-- A disk above another one's place stays. -/
theorem DK.above {S : Nat → Prop} {w w' : World} {B T g b n room : Nat} {t : Nat → ByteArray} {s : Nat → Nat} (k : DK w B T g b n t s room) (c : Fo S w w') (hS : ∀ j, S j → j < B) : DK w' B T g b n t s room := by
  obtain ⟨F, k, e⟩ := k
  exact ⟨F, k.keep c.size fun j hB hj _ => c.block j (Nat.lt_of_lt_of_le hj k.sz) fun hs => absurd (hS j hs) (by omega), e⟩
set_option maxHeartbeats 8000000 in
set_option maxRecDepth 100000 in
theorem does_bad (W : World) (f r : Int) (a2 : Option Addr) (len2 cap2 : Nat) (hbad : ¬ (1 ≤ f ∧ f ≤ 8 ∧ 0 ≤ r ∧ r ≤ 16777216)) :
    Calls Try.prog 3 #[.int .i64 f, .int .i64 r, .slice a2 len2 cap2] W fun e W' => e = .returned (.bool true) ∧ Below W.heap.size W W' := by
  have HBd := Lib.hid hbad
  clear hbad
  go_enter Try.func3, Try.ntmps3
  go_wp2_with fail
  refine (new_bad HBd.out W).mono ?_
  rintro e w1 ⟨rfl, q1⟩
  have Q1 := Lib.hid q1
  clear q1
  go_wp2_with fail
  refine (rnew_bad HBd.out w1).mono ?_
  rintro e w2 ⟨rfl, q2⟩
  have Q2 := Lib.hid (Q1.out.trans q2)
  clear q2 Q1
  go_wp2_with fail
  refine wp_loop_rounds 1 ?_
  rw [rounds_succ]
  go_wp2_with fail
  refine (fixed_x w2).mono ?_
  rintro e w3 ⟨rfl, q3⟩
  have Q3 := Lib.hid (Q2.out.trans q3)
  clear q3 Q2
  go_wp2_with fail
  refine bodyPost_ret (results_tmp rfl _ _ _) rfl ?_
  exact ⟨rfl, Q3.out⟩
set_option maxHeartbeats 8000000 in
set_option maxRecDepth 100000 in
theorem does_ok (W : World) (n room : Nat) (h1 : 0 < n) (hn : n ≤ 8) (hr : room ≤ 16777216) (a2 : Option Addr) (len2 cap2 : Nat) (ops : Nat → OP) (hops : IsOps W a2 len2 cap2 ops) :
    Calls Try.prog 3 #[.int .i64 n, .int .i64 room, .slice a2 len2 cap2] W fun e W' => e = .returned (.bool true) ∧ Below W.heap.size W W' := by
  have HO := Lib.hid hops
  have hcap : len2 ≤ 9223372036854775807 := by have := hops.le; have := hops.cap; unfold maxLen at *; omega
  obtain ⟨mm, hmm⟩ : ∃ z, min len2 60 = z := ⟨_, rfl⟩
  clear hops
  go_enter Try.func3, Try.ntmps3
  go_wp2_with fail
  refine (new_ok h1 hn hr W).mono ?_
  rintro e w1 ⟨g0, b0, rfl, d1, q1⟩
  have D1 := Lib.hid d1
  have Q1 := Lib.hid q1
  clear d1 q1
  go_wp2_with fail
  refine (rnew_ok h1 hn hr w1).mono ?_
  rintro e w2 ⟨h, ra, rb, rfl, r2, q2⟩
  obtain ⟨Br, hBr⟩ : ∃ z, w1.heap.size = z := ⟨_, rfl⟩
  have LR : Hid (W.heap.size ≤ Br) := by rw [← hBr]; exact Q1.out.size
  have ST0 : Hid (St W W.heap.size g0 b0 n Br h ra rb room w2) := ⟨_, _, (D1.out.q q2).top q2.size (Nat.le_refl _), by rw [← hBr]; exact r2, Q1.out.trans q2⟩
  clear r2 q2 hBr D1 Q1 h1 hn hr
  go_wp2_with fail
  go_loopw [7, 11, 12, 13, 14] (fun d i o old k wr => ∃ m : Nat, m ≤ mm ∧ ∃ B g b : Nat, i = .int .i64 m ∧ d = .pointer (some ⟨g, 0, none⟩) ∧ Hid (W.heap.size ≤ B) ∧ Hid (St W B g b n Br h ra rb room wr)) (fun d i o old k _ => mm - (intOf i).toNat)
  case atStart => exact ⟨0, Nat.zero_le _, _, g0, b0, rfl, rfl, Lib.hid (Nat.le_refl _), ST0⟩
  case round =>
    obtain ⟨m, hm, B, g, b, rfl, rfl, LB, ST⟩ := hrel
    clear ST0
    by_cases hlt : m < mm
    · have j0 : (0 : Int) ≤ (m : Int) := by omega
      have j1 : (m : Int) < (len2 : Int) := by omega
      have j2 : (m : Int) < 60 := by omega
      have t1 : decide (m < len2) = true := by simp; omega
      have t2 : decide (m < 60) = true := by simp; omega
      obtain ⟨bo, off, hab, hrow0⟩ := HO.out.sl.resolve_left (by omega)
      obtain ⟨t0, s0, kd, kr, qq⟩ := ST.out
      obtain ⟨op, hop⟩ : ∃ z, ops m = z := ⟨_, rfl⟩
      have hrow : Hid (∀ j v, (op.cells)[j]? = some v → wr.cell? ⟨bo, off + m * 5 + j, none⟩ = some v) := fun j v hv => Q.cell' qq (hrow0 m (by omega) j v (by rw [hop]; exact hv))
      have OK := Lib.hid (HO.out.ok m (by omega))
      rw [hop] at OK
      clear hrow0 hop
      obtain ⟨kind, ff, mf, x0, ka, kl, kc, kf⟩ := op
      subst hab
      go_wp2_with (with_reducible (show wpList _ _ _ (⟨_, Op.load 32 _, _, _, _, _⟩ :: _) _ _); refine halt ?_)
      refine Lib.hid (ld_row rfl 32 _ rfl bo (off + m * 5) [.int .i64 kind, .int .i64 ff, .int .i64 mf, .string x0, .slice ka kl kc] rfl (fun j v hv => hrow.out j v hv) Try.underlying32 rfl (by kernel_rfl) ?_)
      have kd1 := (kd.q ((Q.refl wr).alloc (.cells #[.int .i64 kind, .int .i64 ff, .int .i64 mf, .string x0, .slice ka kl kc] 32))).top ((Q.refl wr).alloc (.cells #[.int .i64 kind, .int .i64 ff, .int .i64 mf, .string x0, .slice ka kl kc] 32)).size (Nat.le_refl _)
      have KD := Lib.hid kd1
      have KR := Lib.hid (kr.q ((Q.refl wr).alloc (.cells #[.int .i64 kind, .int .i64 ff, .int .i64 mf, .string x0, .slice ka kl kc] 32)))
      have QQ := Lib.hid (qq.alloc (.cells #[.int .i64 kind, .int .i64 ff, .int .i64 mf, .string x0, .slice ka kl kc] 32))
      clear kd kr qq kd1 ST
      by_cases ek : kind = 5
      · subst ek
        go_wp2_with fail
        clear hrow
        generalize wr.alloc (.cells #[.int .i64 5, .int .i64 ff, .int .i64 mf, .string x0, .slice ka kl kc] 32) = wA at *
        refine (dcopy_x KD.out).mono ?_
        rintro e w4 ⟨g2, b2, rfl, d4, q4⟩
        have KD4 := Lib.hid d4
        have KO4 := Lib.hid (KD.out.q q4)
        have KR4 := Lib.hid (KR.out.q q4)
        have Q4 := Lib.hid (QQ.out.trans q4)
        have LB2 : Hid (W.heap.size ≤ wA.heap.size) := QQ.out.size
        clear d4 q4 KD KR QQ
        obtain ⟨B2, hB2⟩ : ∃ z, wA.heap.size = z := ⟨_, rfl⟩
        rw [hB2] at KD4 KO4 LB2
        clear hB2
        go_wp2_with fail
        refine (append_x KO4.out 0 ⟨#[115, 112, 111, 105, 108, 116]⟩).mono ?_
        rintro e w5 ⟨rfl, d5, c5⟩
        have KO5 := Lib.hid d5
        have KD5 := Lib.hid (KD4.out.above c5 (fun j hj => hj.elim (fun e => by rw [e]; exact KO4.out.b_lt.2) (fun e => e.2.1)))
        have KR5 := Lib.hid (KR4.out.over c5 (sd_ty KO4.out))
        have Q5 := Lib.hid (c5.q Q4.out (fun j hj => Nat.le_trans LB.out (hj.elim (fun e => by rw [e]; exact KO4.out.b_lt.1) (fun e => e.1))))
        have HB5 := Lib.hid KO4.out.b_lt
        have H45 := Lib.hid c5.size
        clear d5 c5 KO4 KD4 KR4 Q4
        go_wp2_with fail
        refine (sync_x KO5.out 0).mono ?_
        rintro e w6 ⟨rfl, d6, c6⟩
        have cc := Fo.of_ch (S := fun j => j = b) c6 rfl
        have ST : Hid (St W B2 g2 b2 n Br h ra rb room w6) := ⟨_, _, (KD5.out.above cc (fun j hj => by rw [hj]; exact HB5.out.2)).top (Nat.le_trans KD5.out.sz c6.size) (Nat.le_refl _), KR5.out.over cc (fun j hj => b_ty KO5.out j hj), c6.q Q5.out (Nat.le_trans LB.out HB5.out.1)⟩
        clear d6 c6 cc KO5 KD5 KR5 Q5 HB5 H45 LB
        go_wp2_with fail
        obtain ⟨tt, ss, kd, kr, qq⟩ := ST.out
        refine (free_x kd).mono ?_
        rintro r v1 ⟨rfl, q1⟩
        have kd1 := kd.q q1
        have kr1 := kr.q q1
        have qq1 := Lib.hid (qq.trans q1)
        have KD1 := Lib.hid (kd1.top q1.size (Nat.le_refl _))
        have KR1 := Lib.hid kr1
        clear kd kr qq q1 kd1 kr1 ST
        go_wp2_with fail
        refine (rfree_x KR1.out).mono ?_
        rintro r v2 ⟨rfl, q2⟩
        have ST2 : Hid (St W B2 g2 b2 n Br h ra rb room v2) := ⟨tt, ss, (KD1.out.q q2).top q2.size (Nat.le_refl _), KR1.out.q q2, qq1.out.trans q2⟩
        clear q2 KD1 KR1 qq1
        go_wp2_with fail
        go_loopw [14] (fun k wr => ∃ kz : Int, -1 ≤ kz ∧ kz ≤ 9 ∧ k = .int .i64 kz ∧ Hid (St W B2 g2 b2 n Br h ra rb room wr)) (fun k _ => (9 - intOf k).toNat)
        case atStart => exact ⟨-1, by decide, by decide, rfl, ST2⟩
        case round =>
          obtain ⟨kz, hk1, hk2, rfl, ST3⟩ := hrel
          clear ST2
          by_cases hk9 : kz < 9
          · have d9 : decide (kz < 9) = true := by simpa using hk9
            have ek : IntKind.i64.wrap (kz + 1) = kz + 1 := by rw [IntKind.wrap_i64]; omega
            go_wp2_with fail
            obtain ⟨t3, s3, kd, kr, qq⟩ := ST3.out
            have KR := Lib.hid kr
            have KD := Lib.hid kd
            have QQ := Lib.hid qq
            clear kd kr qq ST3
            refine (read_x KD.out kz).mono ?_
            rintro r v3 ⟨rfl, rfl⟩
            go_wp2_with fail
            refine (rread_x KR.out kz).mono ?_
            rintro r v4 ⟨rfl, q4⟩
            have KR4 := Lib.hid (KR.out.q q4)
            have KD4 := Lib.hid ((KD.out.q q4).top q4.size (Nat.le_refl _))
            have QQ4 := Lib.hid (QQ.out.trans q4)
            clear KR KD QQ q4
            go_wp2_with fail
            refine (sure_x KD4.out kz).mono ?_
            rintro r v5 ⟨rfl, rfl⟩
            go_wp2_with fail
            refine (rsure_x KR4.out kz).mono ?_
            rintro r v6 ⟨rfl, q6⟩
            have ST6 : Hid (St W B2 g2 b2 n Br h ra rb room v6) := ⟨t3, s3, (KD4.out.q q6).top q6.size (Nat.le_refl _), KR4.out.q q6, QQ4.out.trans q6⟩
            clear q6 KD4 KR4 QQ4
            go_wp2_with fail
            exact ⟨⟨kz + 1, by omega, by omega, rfl, ST6⟩, by simp only [intOf]; omega⟩
          · have d9 : decide (kz < 9) = false := by simpa using hk9
            go_wp2_with fail
            exact ⟨⟨m + 1, by omega, B2, g2, b2, rfl, rfl, LB2, ST3⟩, by simp only [intOf]; omega⟩
      · have ek5 : (kind == 5) = false := by simpa using ek
        go_wp2_with (with_reducible (show wpList _ _ _ (⟨_, Op.load 32 _, _, _, _, _⟩ :: _) _ _); refine halt ?_)
        refine Lib.hid (ld_row rfl 32 _ rfl wr.heap.size 0 [.int .i64 kind, .int .i64 ff, .int .i64 mf, .string x0, .slice ka kl kc] rfl (fun j v hv => by rw [Nat.zero_add]; exact (Box.new wr [.int .i64 kind, .int .i64 ff, .int .i64 mf, .string x0, .slice ka kl kc] 32).at_ j v hv) Try.underlying32 rfl (by kernel_rfl) ?_)
        go_wp2_with fail
        refine (play_x KD.out KR.out QQ.out LB.out LR.out kind ff mf x0 ka kl kc kf OK.out.s OK.out.k).mono ?_
        rintro e w6 ⟨rfl, st⟩
        have ST : Hid (St W B g b n Br h ra rb room w6) := st
        clear st KD KR QQ hrow
        go_wp2_with fail
        obtain ⟨tt, ss, kd, kr, qq⟩ := ST.out
        refine (free_x kd).mono ?_
        rintro r v1 ⟨rfl, q1⟩
        have kd1 := kd.q q1
        have kr1 := kr.q q1
        have qq1 := Lib.hid (qq.trans q1)
        have KD1 := Lib.hid (kd1.top q1.size (Nat.le_refl _))
        have KR1 := Lib.hid kr1
        clear kd kr qq q1 kd1 kr1 ST
        go_wp2_with fail
        refine (rfree_x KR1.out).mono ?_
        rintro r v2 ⟨rfl, q2⟩
        have ST2 : Hid (St W B g b n Br h ra rb room v2) := ⟨tt, ss, (KD1.out.q q2).top q2.size (Nat.le_refl _), KR1.out.q q2, qq1.out.trans q2⟩
        clear q2 KD1 KR1 qq1
        go_wp2_with fail
        go_loopw [14] (fun k wr => ∃ kz : Int, -1 ≤ kz ∧ kz ≤ 9 ∧ k = .int .i64 kz ∧ Hid (St W B g b n Br h ra rb room wr)) (fun k _ => (9 - intOf k).toNat)
        case atStart => exact ⟨-1, by decide, by decide, rfl, ST2⟩
        case round =>
          obtain ⟨kz, hk1, hk2, rfl, ST3⟩ := hrel
          clear ST2
          by_cases hk9 : kz < 9
          · have d9 : decide (kz < 9) = true := by simpa using hk9
            have ek : IntKind.i64.wrap (kz + 1) = kz + 1 := by rw [IntKind.wrap_i64]; omega
            go_wp2_with fail
            obtain ⟨t3, s3, kd, kr, qq⟩ := ST3.out
            have KR := Lib.hid kr
            have KD := Lib.hid kd
            have QQ := Lib.hid qq
            clear kd kr qq ST3
            refine (read_x KD.out kz).mono ?_
            rintro r v3 ⟨rfl, rfl⟩
            go_wp2_with fail
            refine (rread_x KR.out kz).mono ?_
            rintro r v4 ⟨rfl, q4⟩
            have KR4 := Lib.hid (KR.out.q q4)
            have KD4 := Lib.hid ((KD.out.q q4).top q4.size (Nat.le_refl _))
            have QQ4 := Lib.hid (QQ.out.trans q4)
            clear KR KD QQ q4
            go_wp2_with fail
            refine (sure_x KD4.out kz).mono ?_
            rintro r v5 ⟨rfl, rfl⟩
            go_wp2_with fail
            refine (rsure_x KR4.out kz).mono ?_
            rintro r v6 ⟨rfl, q6⟩
            have ST6 : Hid (St W B g b n Br h ra rb room v6) := ⟨t3, s3, (KD4.out.q q6).top q6.size (Nat.le_refl _), KR4.out.q q6, QQ4.out.trans q6⟩
            clear q6 KD4 KR4 QQ4
            go_wp2_with fail
            exact ⟨⟨kz + 1, by omega, by omega, rfl, ST6⟩, by simp only [intOf]; omega⟩
          · have d9 : decide (kz < 9) = false := by simpa using hk9
            go_wp2_with fail
            exact ⟨⟨m + 1, by omega, B, g, b, rfl, rfl, LB, ST3⟩, by simp only [intOf]; omega⟩
    · obtain rfl : m = mm := by omega
      obtain ⟨t0, s0, kd, kr, qq⟩ := ST.out
      have Q9 := Lib.hid qq
      clear kd kr qq ST
      by_cases hl : m < len2
      · have t1 : decide (m < len2) = true := by simpa using hl
        obtain rfl : m = 60 := by omega
        go_wp2_with fail
        refine (fixed_x wr).mono ?_
        rintro e w9 ⟨rfl, q9⟩
        have Q8 := Lib.hid (Q9.out.trans q9)
        clear q9 Q9
        go_wp2_with fail
        refine bodyPost_ret (results_tmp rfl _ _ _) rfl ?_
        exact ⟨rfl, Q8.out⟩
      · have t1 : decide (m < len2) = false := by simpa using hl
        go_wp2_with fail
        refine (fixed_x wr).mono ?_
        rintro e w9 ⟨rfl, q9⟩
        have Q8 := Lib.hid (Q9.out.trans q9)
        clear q9 Q9
        go_wp2_with fail
        refine bodyPost_ret (results_tmp rfl _ _ _) rfl ?_
        exact ⟨rfl, Q8.out⟩
end Go.Proofs.Ytnojglfaijhiaaa.Dk
