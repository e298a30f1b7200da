/-
  Layer 9: CoinWhole's walk.
-/
import Derived.Test.YtadebnobbnknhaaDoorHCoiD
namespace Go.Proofs.YtadebnobbnknhaaDoor.Coi
open Go.RowKit
open Mem Num Cod Sh
set_option linter.unusedVariables false

theorem Ins.total {α : Type} {C : α → List Value} {k : Nat} {P : α → Prop} {W : World} {a : Option Addr} {len cap : Nat} {f : Nat → α} (h : Ins C k P W a len cap f) (z : α) (hz : P z) : ∃ f' : Nat → α, Ins C k P W a len cap f' ∧ ∀ i, P (f' i) := by
  refine ⟨fun i => if i < len then f i else z, ⟨h.sl.congr fun i hi => by simp [hi], h.le, h.cap, fun i hi => by simp only [hi, if_true]; exact h.ok i hi⟩, fun i => ?_⟩
  show P (if i < len then f i else z)
  split
  · exact h.ok i (by assumption)
  · exact hz
theorem ouz_wide : (⟨0, 0, ⟨#[]⟩, ⟨#[]⟩, 0, ⟨#[]⟩, 0, 0, ⟨#[]⟩⟩ : OU).wide := ⟨⟨by decide, by decide⟩, ⟨by decide, by decide⟩, by decide, by decide, ⟨by decide, by decide⟩, by decide, ⟨by decide, by decide⟩, ⟨by decide, by decide⟩, by decide⟩
theorem out_at0 {w : World} {b o : Nat} {x : OU} (h : ∀ j v, (x.cells)[j]? = some v → w.cell? ⟨b, o + j, none⟩ = some v) :
    w.cell? ⟨b, o, none⟩ = some (.int .i64 x.kind) ∧ w.cell? ⟨b, o + 1, none⟩ = some (.int .u64 x.amount) ∧ w.cell? ⟨b, o + 2, none⟩ = some (.string x.key) ∧ w.cell? ⟨b, o + 3, none⟩ = some (.string x.gate) ∧ w.cell? ⟨b, o + 4, none⟩ = some (.int .i64 x.expiry) ∧ w.cell? ⟨b, o + 5, none⟩ = some (.string x.anchor) ∧ w.cell? ⟨b, o + 6, none⟩ = some (.int .u64 x.unit) ∧ w.cell? ⟨b, o + 7, none⟩ = some (.int .i64 x.tokens) ∧ w.cell? ⟨b, o + 8, none⟩ = some (.string x.of_) :=
  ⟨h 0 _ rfl, h 1 _ rfl, h 2 _ rfl, h 3 _ rfl, h 4 _ rfl, h 5 _ rfl, h 6 _ rfl, h 7 _ rfl, h 8 _ rfl⟩
set_option maxHeartbeats 4000000 in
set_option maxRecDepth 100000 in
theorem whole_walk (W : World) (hG : GL W) (a : Option Addr) (len cap : Nat) (f0 : Nat → OU) (hr : Ins OU.cells 9 OU.wide W a len cap f0) (x : Int) (wx : (Lit.int .u8 x).wf = true) :
    Calls Tryd.prog 6 #[.slice a len cap, .int .u8 x] W fun e W' => e = .returned (.bool true) ∧ Below W.heap.size W W' := by
  obtain ⟨f, hf, hw⟩ := hr.total _ ouz_wide
  clear hr f0
  obtain ⟨F, hF⟩ : ∃ F : Nat → OU, ∀ i, F i = cutO (f i) := ⟨fun i => cutO (f i), fun _ => rfl⟩
  obtain ⟨x0, x9⟩ := bounds_u8 wx
  clear wx
  have HW := Lib.hid hw
  have HF := Lib.hid hF
  have HG := Lib.hid hG
  have HT := Lib.hid hf.sl
  have lenB : len ≤ 9223372036854775807 := by have := hf.le; have := hf.cap; unfold maxLen at *; omega
  clear hf hw hF hG
  obtain ⟨n, hn⟩ : ∃ n, min len 6 = n := ⟨_, rfl⟩
  have n6 : n ≤ 6 := by omega
  have nl : n ≤ len := by omega
  obtain ⟨T, hT⟩ : ∃ T : Nat → OU, ∀ j, T j = F (n - 1 - j) := ⟨fun j => F (n - 1 - j), fun _ => rfl⟩
  have HTT := Lib.hid hT
  clear hT
  obtain ⟨i0, hi0, hz0, hz1, hz2⟩ := info_of info_out
  have O0 := Lib.hid ((OR.made0 46 OU.cells 9 W W.heap.size (Nat.le_refl _) F).q ((Q.refl _).alloc (.cells #[] 46)))
  have P0 := Lib.hid (OR.made0 46 OU.cells 9 (W.alloc (.cells #[] 46)) W.heap.size (by simp) T)
  have Q0 : Hid (Q W ((W.alloc (.cells #[] 46)).alloc (.cells #[] 46))) := ((Q.refl W).alloc _).alloc _
  have A0 : Hid (Apart (some ⟨W.heap.size, 0, none⟩) (some ⟨(W.alloc (.cells #[] 46)).heap.size, 0, none⟩)) := fun x y hx hy => by
    injection hx with hx; injection hy with hy; subst hx; subst hy; show W.heap.size ≠ _; simp
  rw [show (W.alloc (.cells #[] 46)).heap.size = W.heap.size + 1 by simp] at P0 A0
  go_enter Tryd.func6, Tryd.ntmps6
  go_wp2_with fail
  generalize (W.alloc (.cells #[] 46)).alloc (.cells #[] 46) = w0 at *
  obtain ⟨tb, htb⟩ : ∃ t, W.heap.size + 1 = t := ⟨_, rfl⟩
  rw [htb] at P0 A0 ⊢
  go_loopw [5, 7] (fun v i wr => ∃ (k g c : Nat), k ≤ n ∧ i = .int .i64 k ∧ v = .slice (some ⟨g, 0, none⟩) k c ∧ Hid (OR 46 OU.cells 9 wr W.heap.size (some ⟨g, 0, none⟩) k c F) ∧ Hid (OR 46 OU.cells 9 wr W.heap.size (some ⟨tb, 0, none⟩) 0 0 T) ∧ Hid (Apart (some ⟨g, 0, none⟩) (some ⟨tb, 0, none⟩)) ∧ Hid (Q W wr)) (fun _ i _ => n - (intOf i).toNat)
  case atStart => exact ⟨0, _, 0, by omega, rfl, rfl, O0, P0, A0, Q0⟩
  case round =>
    obtain ⟨k, g, c, hk, rfl, rfl, O, P, A, QR⟩ := hrel
    clear O0 P0 A0 Q0
    by_cases hlt : k < n
    · have k0 : (0 : Int) ≤ (k : Int) := by omega
      have k1 : (k : Int) < (len : Int) := by omega
      have k2 : (k : Int) < 6 := by omega
      obtain ⟨b, off, rfl, hrow⟩ := (HT.out.q QR.out).some_ (by omega)
      obtain ⟨c0, c1, c2, c3, c4, c5, c6, c7, c8⟩ := out_at (hrow k (by omega))
      clear hrow
      obtain ⟨y, hy⟩ : ∃ y, f k = y := ⟨_, rfl⟩
      have wy := Lib.hid (HW.out k)
      have FY := HF.out k
      rw [hy] at c0 c1 c2 c3 c4 c5 c6 c7 c8 wy FY
      have FY := Lib.hid FY
      clear hy
      go_wp2_with fail
      clear c0 c1 c2 c3 c4 c5 c6 c7 c8
      refine (cutout_x y _ wy.out.key wy.out.gate wy.out.anchor wy.out.of_).mono ?_
      rintro e w1 ⟨rfl, q1⟩
      have hsz := QR.out.size
      have hsz1 := q1.size
      have O1 := Lib.hid (O.out.q (q1.alloc (.cells (OU.cells (cutO y)).toArray 46)))
      have P1 := Lib.hid (P.out.q (q1.alloc (.cells (OU.cells (cutO y)).toArray 46)))
      have Q1 := Lib.hid (QR.out.trans (q1.alloc (.cells (OU.cells (cutO y)).toArray 46)))
      clear q1 O P QR
      go_wp2_with (with_reducible (show wpList _ _ _ (⟨_, Op.buildSlice 23 _ _, _, _, _, _⟩ :: _) _ _); refine halt ?_)
      refine Lib.hid (wpr_out rfl (cutO y).kind (cutO y).amount (cutO y).key (cutO y).gate (cutO y).expiry (cutO y).anchor (cutO y).unit (cutO y).tokens (cutO y).of_ rfl rfl ?_)
      refine wpl_app rfl (.tmp 30) (.tmp 36) 23 rfl i0 _ 104 Tryd.underlying23 hi0 hz0 hz1 hz2 rfl (by decide) rfl O1.out w1.heap.size rfl rfl (fun j u hj => ?_) ?_ (by omega) (by decide) (by simp; omega) ?_
      · rw [FY.out] at hj
        rw [World.cell?_alloc_at _ _ _ _ rfl]
        unfold OU.cells at hj
        simpa using hj
      · rw [FY.out]
        intro v hv
        simp [OU.cells] at hv
        rcases hv with rfl | rfl | rfl | rfl | rfl | rfl | rfl | rfl | rfl <;> rfl
      intro g' cap' w' O2 G
      obtain ⟨P2, A2⟩ := P1.out.over A.out G
      have Q2 := Lib.hid (O1.out.q_grow Q1.out (Nat.le_refl _) G)
      have P2 := Lib.hid P2
      have A2 := Lib.hid A2
      have O2 := Lib.hid O2
      clear O1 P1 Q1 A G
      go_wp2_with fail
      go_roundw
      case rel => exact ⟨k + 1, g', cap', by omega, by go_num, rfl, O2, P2, A2, Q2⟩
      case measure => simp [intOf]; omega
    · obtain rfl : k = n := by omega
      by_cases h6 : k < len
      · have k1 : (k : Int) < (len : Int) := by omega
        have k2 : ¬ (k : Int) < 6 := by omega
        have t2 : decide ((k : Int) < 6) = false := by simp; omega
        have t3 : decide (k < 6) = false := by simp; omega
        have k0 : (0 : Int) ≤ (k : Int) := by omega
        clear HT
        go_wp2_with fail
        as_aux_lemma =>
        go_loopw [6, 8] (fun v i wr => ∃ (j g2 c2 : Nat), j ≤ k ∧ i = .int .i64 ((k : Int) - 1 - j) ∧ v = .slice (some ⟨g2, 0, none⟩) j c2 ∧ Hid (OR 46 OU.cells 9 wr W.heap.size (some ⟨g, 0, none⟩) k c F) ∧ Hid (OR 46 OU.cells 9 wr W.heap.size (some ⟨g2, 0, none⟩) j c2 T) ∧ Hid (Apart (some ⟨g, 0, none⟩) (some ⟨g2, 0, none⟩)) ∧ Hid (Q W wr)) (fun _ i _ => (intOf i + 1).toNat)
        case atStart => exact ⟨0, tb, 0, by omega, by congr 1; omega, rfl, O, P, A, QR⟩
        case round =>
        obtain ⟨j, g2, c2, hj, rfl, rfl, O3, T3, A3, Q3⟩ := hrel
        clear O P A QR
        by_cases hlj : j < k
        · obtain ⟨m, hm⟩ : ∃ m : Nat, (k : Int) - 1 - j = m := ⟨k - 1 - j, by omega⟩
          rw [hm]
          have m0 : (0 : Int) ≤ (m : Int) := by omega
          have m1 : (m : Int) < (k : Int) := by omega
          have e2 : k - 1 - j = m := by omega
          have ET : Hid (T j = F m) := by show _ = _; rw [HTT.out j, e2]
          obtain ⟨z, hz⟩ : ∃ z, F m = z := ⟨_, rfl⟩
          have HZ := Lib.hid hz
          rw [hz] at ET
          clear hz e2
          have ROW : Hid (∀ w', OR 46 OU.cells 9 w' W.heap.size (some ⟨g, 0, none⟩) k c F → ∀ j v, (z.cells)[j]? = some v → w'.cell? ⟨g, m * 9 + j, none⟩ = some v) := fun w' H => by
            obtain ⟨b, off, e, hrow⟩ := (H.sl out_len).some_ (by omega)
            injection e with e; injection e with e1 e2; subst e1; subst e2
            intro j v hv
            have := hrow m (by omega) j v (by rw [HZ.out]; exact hv)
            rwa [Nat.zero_add] at this
          have hsz := Q3.out.size
          obtain ⟨d0, d1, d2, d3, d4, d5, d6, d7, d8⟩ := out_at0 (ROW.out _ O3.out)
          go_wp2_with (with_reducible (show wpList _ _ _ (⟨_, Op.buildSlice 23 _ _, _, _, _, _⟩ :: _) _ _); refine halt ?_)
          clear d0 d1 d2 d3 d4 d5 d6 d7 d8
          have O1 := Lib.hid (O3.out.q ((Q.refl wr).alloc (.cells (OU.cells z).toArray 46)))
          have T1 := Lib.hid (T3.out.q ((Q.refl wr).alloc (.cells (OU.cells z).toArray 46)))
          have Q1 := Lib.hid (Q3.out.trans ((Q.refl wr).alloc (.cells (OU.cells z).toArray 46)))
          clear O3 T3 Q3
          refine Lib.hid (wpr_out rfl z.kind z.amount z.key z.gate z.expiry z.anchor z.unit z.tokens z.of_ rfl rfl ?_)
          refine wpl_app rfl (.tmp 45) (.tmp 50) 23 rfl i0 _ 104 Tryd.underlying23 hi0 hz0 hz1 hz2 rfl (by decide) rfl T1.out wr.heap.size rfl rfl (fun j u hj => ?_) ?_ (by omega) (by decide) (by simp; omega) ?_
          · rw [ET.out] at hj
            rw [World.cell?_alloc_at _ _ _ _ rfl]
            unfold OU.cells at hj
            simpa using hj
          · rw [ET.out]
            intro v hv
            simp [OU.cells] at hv
            rcases hv with rfl | rfl | rfl | rfl | rfl | rfl | rfl | rfl | rfl <;> rfl
          intro g2' cap2 w' T2 G
          obtain ⟨O2, A2⟩ := O1.out.over A3.out.symm G
          have Q2 := Lib.hid (T1.out.q_grow Q1.out (Nat.le_refl _) G)
          have O2 := Lib.hid O2
          have T2 := Lib.hid T2
          have A2 := Lib.hid A2.symm
          clear O1 T1 Q1 A3 G
          obtain ⟨d0, d1, d2, d3, d4, d5, d6, d7, d8⟩ := out_at0 (ROW.out _ O2.out)
          go_wp2_with fail
          clear d0 d1 d2 d3 d4 d5 d6 d7 d8
          refine (fits_x z _).mono ?_
          rintro e w4 ⟨rfl, q4⟩
          have O4 := Lib.hid (O2.out.q q4)
          have T4 := Lib.hid (T2.out.q q4)
          have Q4 := Lib.hid (Q2.out.trans q4)
          have A4 := A2
          clear O2 T2 Q2 q4 A2
          by_cases hfit : Fit z
          · have hd : decide (Fit z) = true := by simpa using hfit
            rw [hd]
            have hp : 0 < z.amount := hfit.1
            have hq : decide (z.amount = 0) = false := by simp; omega
            have hq2 : (z.amount == 0) = false := by simp; omega
            have dA := (out_at0 (ROW.out _ O4.out)).2.1
            clear hfit hd
            go_wp2_with fail
            exact ⟨⟨j + 1, g2', cap2, by omega, by congr 1; omega, rfl, O4, T4, A4, Q4⟩, by simp only [intOf]; omega⟩
          · have hd : decide (Fit z) = false := by simpa using hfit
            rw [hd]
            clear hfit hd
            go_wp2_with fail
            exact ⟨⟨j + 1, g2', cap2, by omega, by congr 1; omega, rfl, O4, T4, A4, Q4⟩, by simp only [intOf]; omega⟩
        · obtain rfl : j = k := by omega
          rw [show (j : Int) - 1 - j = -1 by omega]
          clear hj hlj hlt
          as_aux_lemma =>
          have m0 : ¬ (0 : Int) ≤ -1 := by omega
          have HU : Hid (∀ i, U64 (amt F i)) := fun i => by show U64 (F i).amount; rw [HF.out i]; exact (HW.out i).amount
          have HUT : Hid (∀ i, U64 (amt T i)) := fun i => by show U64 (T i).amount; rw [HTT.out i]; exact HU.out _
          have ETT : Hid (amt T = fun i => amt F (j - 1 - i)) := funext fun i => by show (T i).amount = _; rw [HTT.out i]; rfl
          clear HW HF HTT
          obtain ⟨q, hq⟩ : ∃ q : Nat, x % ((j : Int) + 1) = q := ⟨(x % ((j : Int) + 1)).toNat, by have := Int.emod_nonneg x (show (j : Int) + 1 ≠ 0 by omega); omega⟩
          have qj : q ≤ j := by have := Int.emod_lt_of_pos x (show (0 : Int) < (j : Int) + 1 by omega); omega
          have q0 : (0 : Int) ≤ (q : Int) := by omega
          have q1 : (q : Int) ≤ (j : Int) := by omega
          have jc : j ≤ c := by rcases O3.out.shape with ⟨e, _⟩ | ⟨_, _, _, _, h, _⟩
                                · cases e
                                · exact h
          have cm : c ≤ 9223372036854775807 := by
            rcases O3.out.shape with ⟨e, _⟩ | ⟨_, _, _, _, _, h⟩
            · cases e
            · unfold maxLen at h; omega
          have jci : (j : Int) ≤ (c : Int) := by omega
          have qci : (q : Int) ≤ (c : Int) := by omega
          obtain ⟨V, hV⟩ : ∃ v, sumV (amt F) j = v := ⟨_, rfl⟩
          obtain ⟨E, hE⟩ : ∃ v, sumE (amt F) j = v := ⟨_, rfl⟩
          have EV := Lib.hid hV
          have EE := Lib.hid hE
          have TV : Hid (sumV (amt T) j = V) := by show _ = _; rw [ETT.out, (sum_turn (amt F) j).1, hV]
          have TE : Hid (sumE (amt T) j = E) := by show _ = _; rw [ETT.out, (sum_turn (amt F) j).2, hE]
          clear hV hE
          go_wp2_with fail
          refine (whole_x (some ⟨g, 0, none⟩) j c F _ (O3.out.sl out_len) (by omega) HU.out).mono ?_
          rintro e w1 ⟨rfl, q1'⟩
          rw [EV.out, EE.out]
          have O4 := Lib.hid (O3.out.q q1')
          have T4 := Lib.hid (T3.out.q q1')
          have Q4 := Lib.hid (Q3.out.trans q1')
          clear q1' O3 T3 Q3
          go_wp2_with fail
          refine (whole_x (some ⟨g2, 0, none⟩) j c2 T _ (T4.out.sl out_len) (by omega) HUT.out).mono ?_
          rintro e w2 ⟨rfl, q1'⟩
          rw [TV.out, TE.out]
          have O5 := Lib.hid (O4.out.q q1')
          have Q5 := Lib.hid (Q4.out.trans q1')
          clear q1' O4 T4 Q4 TV TE ETT HUT A3
          as_aux_lemma =>
          obtain ⟨V1, hV1⟩ : ∃ v, sumV (amt F) q = v := ⟨_, rfl⟩
          obtain ⟨E1, hE1⟩ : ∃ v, sumE (amt F) q = v := ⟨_, rfl⟩
          have EV1 := Lib.hid hV1
          have EE1 := Lib.hid hE1
          clear hV1 hE1
          go_wp2_with fail
          refine (whole_x (some ⟨g, 0, none⟩) q c F _ ((O5.out.sl out_len).take qj) (by omega) HU.out).mono ?_
          rintro e w3 ⟨rfl, q1'⟩
          rw [EV1.out, EE1.out]
          have O6 := Lib.hid (O5.out.q q1')
          have Q6 := Lib.hid (Q5.out.trans q1')
          clear q1' O5 Q5
          have P6 := sum_parts (amt F) (fun i => (HU.out i).1) j q qj
          rw [EV.out, EE.out, EV1.out, EE1.out] at P6
          have HP6 := Lib.hid P6
          have HG6 := Lib.hid (HG.out.q Q6.out)
          have S6 : Hid (SL OU.cells 9 w3 (some ⟨g, q * 9, none⟩) (j - q) (fun i => F (q + i))) := by
            by_cases hjq : q = j
            · exact SL.nil (by omega)
            · obtain ⟨b, off, e, hrow⟩ := (O6.out.sl out_len).some_ (by omega)
              injection e with e; injection e with e1 e2; subst e1; subst e2
              refine .inr ⟨g, q * 9, rfl, fun i hi t v hv => ?_⟩
              have := hrow (q + i) (by omega) t v hv
              rwa [Nat.zero_add, Nat.add_mul] at this
          have hs9 : Hid (0 ≤ sumV (amt F) q + sumV (fun i => amt F (q + i)) (j - q)) := by
            have h1 := (sumV_in (amt F) (fun i => (HU.out i).1) q).1
            have h2 := (sumV_in (fun i => amt F (q + i)) (fun i => (HU.out (q + i)).1) (j - q)).1
            show _ ≤ _; omega
          rw [EV1.out] at hs9
          clear P6
          go_wp2_with fail
          · as_aux_lemma =>
            obtain ⟨V2, hV2⟩ : ∃ v, sumV (fun i => amt F (q + i)) (j - q) = v := ⟨_, rfl⟩
            obtain ⟨E2, hE2⟩ : ∃ v, sumE (fun i => amt F (q + i)) (j - q) = v := ⟨_, rfl⟩
            have EV2 : Hid (sumV (amt (fun i => F (q + i))) (j - q) = V2) := hV2
            have EE2 : Hid (sumE (amt (fun i => F (q + i))) (j - q) = E2) := hE2
            rw [hV2, hE2] at HP6
            rw [hV2] at hs9
            clear hV2 hE2
            refine (whole_x (some ⟨g, 0, none⟩) (j - q) (0) (fun i => F (q + i)) _ (SL.nil (by omega)) (by omega) (fun i => HU.out (q + i))).mono ?_
            rintro e w4 ⟨rfl, q1'⟩
            rw [EV2.out, EE2.out]
            have Q7 := Lib.hid (Q6.out.trans q1')
            have HG7 := Lib.hid (HG6.out.q q1')
            clear q1' O6 Q6 HG6 EV EE EV1 EE1 EV2 EE2 HU
            by_cases hE : E = 0
            · subst hE
              obtain ⟨rfl, rfl, hs, hm⟩ := HP6.out rfl
              have hw : IntKind.u64.wrap (V1 + V2) = V := by have h0 : 0 ≤ V1 + V2 := hs9.out; rw [hs, IntKind.wrap_u64]; rw [hs] at h0; omega
              clear HP6 hs hm
              go_wp2_with fail
              refine (fixed_x HG7.out w4 (Q.refl w4)).mono ?_
              rintro e w5 ⟨rfl, q2⟩
              have Q8 := Lib.hid (Q7.out.trans q2)
              clear q2
              go_wp2_with fail
              go_ret
              exact ⟨rfl, Q8.out⟩
            · have hd : decide (E = 0) = false := by simpa using hE
              clear HP6
              go_wp2_with fail
              refine (fixed_x HG7.out w4 (Q.refl w4)).mono ?_
              rintro e w5 ⟨rfl, q2⟩
              have Q8 := Lib.hid (Q7.out.trans q2)
              clear q2
              go_wp2_with fail
              go_ret
              exact ⟨rfl, Q8.out⟩
          · as_aux_lemma =>
            obtain ⟨V2, hV2⟩ : ∃ v, sumV (fun i => amt F (q + i)) (j - q) = v := ⟨_, rfl⟩
            obtain ⟨E2, hE2⟩ : ∃ v, sumE (fun i => amt F (q + i)) (j - q) = v := ⟨_, rfl⟩
            have EV2 : Hid (sumV (amt (fun i => F (q + i))) (j - q) = V2) := hV2
            have EE2 : Hid (sumE (amt (fun i => F (q + i))) (j - q) = E2) := hE2
            rw [hV2, hE2] at HP6
            rw [hV2] at hs9
            clear hV2 hE2
            refine (whole_x (some ⟨g, q * 9, none⟩) (j - q) (c - q) (fun i => F (q + i)) _ S6.out (by omega) (fun i => HU.out (q + i))).mono ?_
            rintro e w4 ⟨rfl, q1'⟩
            rw [EV2.out, EE2.out]
            have Q7 := Lib.hid (Q6.out.trans q1')
            have HG7 := Lib.hid (HG6.out.q q1')
            clear q1' O6 Q6 HG6 EV EE EV1 EE1 EV2 EE2 HU
            by_cases hE : E = 0
            · subst hE
              obtain ⟨rfl, rfl, hs, hm⟩ := HP6.out rfl
              have hw : IntKind.u64.wrap (V1 + V2) = V := by have h0 : 0 ≤ V1 + V2 := hs9.out; rw [hs, IntKind.wrap_u64]; rw [hs] at h0; omega
              clear HP6 hs hm
              go_wp2_with fail
              refine (fixed_x HG7.out w4 (Q.refl w4)).mono ?_
              rintro e w5 ⟨rfl, q2⟩
              have Q8 := Lib.hid (Q7.out.trans q2)
              clear q2
              go_wp2_with fail
              go_ret
              exact ⟨rfl, Q8.out⟩
            · have hd : decide (E = 0) = false := by simpa using hE
              clear HP6
              go_wp2_with fail
              refine (fixed_x HG7.out w4 (Q.refl w4)).mono ?_
              rintro e w5 ⟨rfl, q2⟩
              have Q8 := Lib.hid (Q7.out.trans q2)
              clear q2
              go_wp2_with fail
              go_ret
              exact ⟨rfl, Q8.out⟩
      · have k1 : ¬ (k : Int) < (len : Int) := by omega
        have t2 : decide ((k : Int) < (len : Int)) = false := by simp; omega
        have t3 : decide (k < len) = false := by simp; omega
        have k0 : (0 : Int) ≤ (k : Int) := by omega
        clear HT
        go_wp2_with fail
        as_aux_lemma =>
        go_loopw [6, 8] (fun v i wr => ∃ (j g2 c2 : Nat), j ≤ k ∧ i = .int .i64 ((k : Int) - 1 - j) ∧ v = .slice (some ⟨g2, 0, none⟩) j c2 ∧ Hid (OR 46 OU.cells 9 wr W.heap.size (some ⟨g, 0, none⟩) k c F) ∧ Hid (OR 46 OU.cells 9 wr W.heap.size (some ⟨g2, 0, none⟩) j c2 T) ∧ Hid (Apart (some ⟨g, 0, none⟩) (some ⟨g2, 0, none⟩)) ∧ Hid (Q W wr)) (fun _ i _ => (intOf i + 1).toNat)
        case atStart => exact ⟨0, tb, 0, by omega, by congr 1; omega, rfl, O, P, A, QR⟩
        case round =>
        obtain ⟨j, g2, c2, hj, rfl, rfl, O3, T3, A3, Q3⟩ := hrel
        clear O P A QR
        by_cases hlj : j < k
        · obtain ⟨m, hm⟩ : ∃ m : Nat, (k : Int) - 1 - j = m := ⟨k - 1 - j, by omega⟩
          rw [hm]
          have m0 : (0 : Int) ≤ (m : Int) := by omega
          have m1 : (m : Int) < (k : Int) := by omega
          have e2 : k - 1 - j = m := by omega
          have ET : Hid (T j = F m) := by show _ = _; rw [HTT.out j, e2]
          obtain ⟨z, hz⟩ : ∃ z, F m = z := ⟨_, rfl⟩
          have HZ := Lib.hid hz
          rw [hz] at ET
          clear hz e2
          have ROW : Hid (∀ w', OR 46 OU.cells 9 w' W.heap.size (some ⟨g, 0, none⟩) k c F → ∀ j v, (z.cells)[j]? = some v → w'.cell? ⟨g, m * 9 + j, none⟩ = some v) := fun w' H => by
            obtain ⟨b, off, e, hrow⟩ := (H.sl out_len).some_ (by omega)
            injection e with e; injection e with e1 e2; subst e1; subst e2
            intro j v hv
            have := hrow m (by omega) j v (by rw [HZ.out]; exact hv)
            rwa [Nat.zero_add] at this
          have hsz := Q3.out.size
          obtain ⟨d0, d1, d2, d3, d4, d5, d6, d7, d8⟩ := out_at0 (ROW.out _ O3.out)
          go_wp2_with (with_reducible (show wpList _ _ _ (⟨_, Op.buildSlice 23 _ _, _, _, _, _⟩ :: _) _ _); refine halt ?_)
          clear d0 d1 d2 d3 d4 d5 d6 d7 d8
          have O1 := Lib.hid (O3.out.q ((Q.refl wr).alloc (.cells (OU.cells z).toArray 46)))
          have T1 := Lib.hid (T3.out.q ((Q.refl wr).alloc (.cells (OU.cells z).toArray 46)))
          have Q1 := Lib.hid (Q3.out.trans ((Q.refl wr).alloc (.cells (OU.cells z).toArray 46)))
          clear O3 T3 Q3
          refine Lib.hid (wpr_out rfl z.kind z.amount z.key z.gate z.expiry z.anchor z.unit z.tokens z.of_ rfl rfl ?_)
          refine wpl_app rfl (.tmp 45) (.tmp 50) 23 rfl i0 _ 104 Tryd.underlying23 hi0 hz0 hz1 hz2 rfl (by decide) rfl T1.out wr.heap.size rfl rfl (fun j u hj => ?_) ?_ (by omega) (by decide) (by simp; omega) ?_
          · rw [ET.out] at hj
            rw [World.cell?_alloc_at _ _ _ _ rfl]
            unfold OU.cells at hj
            simpa using hj
          · rw [ET.out]
            intro v hv
            simp [OU.cells] at hv
            rcases hv with rfl | rfl | rfl | rfl | rfl | rfl | rfl | rfl | rfl <;> rfl
          intro g2' cap2 w' T2 G
          obtain ⟨O2, A2⟩ := O1.out.over A3.out.symm G
          have Q2 := Lib.hid (T1.out.q_grow Q1.out (Nat.le_refl _) G)
          have O2 := Lib.hid O2
          have T2 := Lib.hid T2
          have A2 := Lib.hid A2.symm
          clear O1 T1 Q1 A3 G
          obtain ⟨d0, d1, d2, d3, d4, d5, d6, d7, d8⟩ := out_at0 (ROW.out _ O2.out)
          go_wp2_with fail
          clear d0 d1 d2 d3 d4 d5 d6 d7 d8
          refine (fits_x z _).mono ?_
          rintro e w4 ⟨rfl, q4⟩
          have O4 := Lib.hid (O2.out.q q4)
          have T4 := Lib.hid (T2.out.q q4)
          have Q4 := Lib.hid (Q2.out.trans q4)
          have A4 := A2
          clear O2 T2 Q2 q4 A2
          by_cases hfit : Fit z
          · have hd : decide (Fit z) = true := by simpa using hfit
            rw [hd]
            have hp : 0 < z.amount := hfit.1
            have hq : decide (z.amount = 0) = false := by simp; omega
            have hq2 : (z.amount == 0) = false := by simp; omega
            have dA := (out_at0 (ROW.out _ O4.out)).2.1
            clear hfit hd
            go_wp2_with fail
            exact ⟨⟨j + 1, g2', cap2, by omega, by congr 1; omega, rfl, O4, T4, A4, Q4⟩, by simp only [intOf]; omega⟩
          · have hd : decide (Fit z) = false := by simpa using hfit
            rw [hd]
            clear hfit hd
            go_wp2_with fail
            exact ⟨⟨j + 1, g2', cap2, by omega, by congr 1; omega, rfl, O4, T4, A4, Q4⟩, by simp only [intOf]; omega⟩
        · obtain rfl : j = k := by omega
          rw [show (j : Int) - 1 - j = -1 by omega]
          clear hj hlj hlt
          as_aux_lemma =>
          have m0 : ¬ (0 : Int) ≤ -1 := by omega
          have HU : Hid (∀ i, U64 (amt F i)) := fun i => by show U64 (F i).amount; rw [HF.out i]; exact (HW.out i).amount
          have HUT : Hid (∀ i, U64 (amt T i)) := fun i => by show U64 (T i).amount; rw [HTT.out i]; exact HU.out _
          have ETT : Hid (amt T = fun i => amt F (j - 1 - i)) := funext fun i => by show (T i).amount = _; rw [HTT.out i]; rfl
          clear HW HF HTT
          obtain ⟨q, hq⟩ : ∃ q : Nat, x % ((j : Int) + 1) = q := ⟨(x % ((j : Int) + 1)).toNat, by have := Int.emod_nonneg x (show (j : Int) + 1 ≠ 0 by omega); omega⟩
          have qj : q ≤ j := by have := Int.emod_lt_of_pos x (show (0 : Int) < (j : Int) + 1 by omega); omega
          have q0 : (0 : Int) ≤ (q : Int) := by omega
          have q1 : (q : Int) ≤ (j : Int) := by omega
          have jc : j ≤ c := by rcases O3.out.shape with ⟨e, _⟩ | ⟨_, _, _, _, h, _⟩
                                · cases e
                                · exact h
          have cm : c ≤ 9223372036854775807 := by
            rcases O3.out.shape with ⟨e, _⟩ | ⟨_, _, _, _, _, h⟩
            · cases e
            · unfold maxLen at h; omega
          have jci : (j : Int) ≤ (c : Int) := by omega
          have qci : (q : Int) ≤ (c : Int) := by omega
          obtain ⟨V, hV⟩ : ∃ v, sumV (amt F) j = v := ⟨_, rfl⟩
          obtain ⟨E, hE⟩ : ∃ v, sumE (amt F) j = v := ⟨_, rfl⟩
          have EV := Lib.hid hV
          have EE := Lib.hid hE
          have TV : Hid (sumV (amt T) j = V) := by show _ = _; rw [ETT.out, (sum_turn (amt F) j).1, hV]
          have TE : Hid (sumE (amt T) j = E) := by show _ = _; rw [ETT.out, (sum_turn (amt F) j).2, hE]
          clear hV hE
          go_wp2_with fail
          refine (whole_x (some ⟨g, 0, none⟩) j c F _ (O3.out.sl out_len) (by omega) HU.out).mono ?_
          rintro e w1 ⟨rfl, q1'⟩
          rw [EV.out, EE.out]
          have O4 := Lib.hid (O3.out.q q1')
          have T4 := Lib.hid (T3.out.q q1')
          have Q4 := Lib.hid (Q3.out.trans q1')
          clear q1' O3 T3 Q3
          go_wp2_with fail
          refine (whole_x (some ⟨g2, 0, none⟩) j c2 T _ (T4.out.sl out_len) (by omega) HUT.out).mono ?_
          rintro e w2 ⟨rfl, q1'⟩
          rw [TV.out, TE.out]
          have O5 := Lib.hid (O4.out.q q1')
          have Q5 := Lib.hid (Q4.out.trans q1')
          clear q1' O4 T4 Q4 TV TE ETT HUT A3
          as_aux_lemma =>
          obtain ⟨V1, hV1⟩ : ∃ v, sumV (amt F) q = v := ⟨_, rfl⟩
          obtain ⟨E1, hE1⟩ : ∃ v, sumE (amt F) q = v := ⟨_, rfl⟩
          have EV1 := Lib.hid hV1
          have EE1 := Lib.hid hE1
          clear hV1 hE1
          go_wp2_with fail
          refine (whole_x (some ⟨g, 0, none⟩) q c F _ ((O5.out.sl out_len).take qj) (by omega) HU.out).mono ?_
          rintro e w3 ⟨rfl, q1'⟩
          rw [EV1.out, EE1.out]
          have O6 := Lib.hid (O5.out.q q1')
          have Q6 := Lib.hid (Q5.out.trans q1')
          clear q1' O5 Q5
          have P6 := sum_parts (amt F) (fun i => (HU.out i).1) j q qj
          rw [EV.out, EE.out, EV1.out, EE1.out] at P6
          have HP6 := Lib.hid P6
          have HG6 := Lib.hid (HG.out.q Q6.out)
          have S6 : Hid (SL OU.cells 9 w3 (some ⟨g, q * 9, none⟩) (j - q) (fun i => F (q + i))) := by
            by_cases hjq : q = j
            · exact SL.nil (by omega)
            · obtain ⟨b, off, e, hrow⟩ := (O6.out.sl out_len).some_ (by omega)
              injection e with e; injection e with e1 e2; subst e1; subst e2
              refine .inr ⟨g, q * 9, rfl, fun i hi t v hv => ?_⟩
              have := hrow (q + i) (by omega) t v hv
              rwa [Nat.zero_add, Nat.add_mul] at this
          have hs9 : Hid (0 ≤ sumV (amt F) q + sumV (fun i => amt F (q + i)) (j - q)) := by
            have h1 := (sumV_in (amt F) (fun i => (HU.out i).1) q).1
            have h2 := (sumV_in (fun i => amt F (q + i)) (fun i => (HU.out (q + i)).1) (j - q)).1
            show _ ≤ _; omega
          rw [EV1.out] at hs9
          clear P6
          go_wp2_with fail
          · as_aux_lemma =>
            obtain ⟨V2, hV2⟩ : ∃ v, sumV (fun i => amt F (q + i)) (j - q) = v := ⟨_, rfl⟩
            obtain ⟨E2, hE2⟩ : ∃ v, sumE (fun i => amt F (q + i)) (j - q) = v := ⟨_, rfl⟩
            have EV2 : Hid (sumV (amt (fun i => F (q + i))) (j - q) = V2) := hV2
            have EE2 : Hid (sumE (amt (fun i => F (q + i))) (j - q) = E2) := hE2
            rw [hV2, hE2] at HP6
            rw [hV2] at hs9
            clear hV2 hE2
            refine (whole_x (some ⟨g, 0, none⟩) (j - q) (0) (fun i => F (q + i)) _ (SL.nil (by omega)) (by omega) (fun i => HU.out (q + i))).mono ?_
            rintro e w4 ⟨rfl, q1'⟩
            rw [EV2.out, EE2.out]
            have Q7 := Lib.hid (Q6.out.trans q1')
            have HG7 := Lib.hid (HG6.out.q q1')
            clear q1' O6 Q6 HG6 EV EE EV1 EE1 EV2 EE2 HU
            by_cases hE : E = 0
            · subst hE
              obtain ⟨rfl, rfl, hs, hm⟩ := HP6.out rfl
              have hw : IntKind.u64.wrap (V1 + V2) = V := by have h0 : 0 ≤ V1 + V2 := hs9.out; rw [hs, IntKind.wrap_u64]; rw [hs] at h0; omega
              clear HP6 hs hm
              go_wp2_with fail
              refine (fixed_x HG7.out w4 (Q.refl w4)).mono ?_
              rintro e w5 ⟨rfl, q2⟩
              have Q8 := Lib.hid (Q7.out.trans q2)
              clear q2
              go_wp2_with fail
              go_ret
              exact ⟨rfl, Q8.out⟩
            · have hd : decide (E = 0) = false := by simpa using hE
              clear HP6
              go_wp2_with fail
              refine (fixed_x HG7.out w4 (Q.refl w4)).mono ?_
              rintro e w5 ⟨rfl, q2⟩
              have Q8 := Lib.hid (Q7.out.trans q2)
              clear q2
              go_wp2_with fail
              go_ret
              exact ⟨rfl, Q8.out⟩
          · as_aux_lemma =>
            obtain ⟨V2, hV2⟩ : ∃ v, sumV (fun i => amt F (q + i)) (j - q) = v := ⟨_, rfl⟩
            obtain ⟨E2, hE2⟩ : ∃ v, sumE (fun i => amt F (q + i)) (j - q) = v := ⟨_, rfl⟩
            have EV2 : Hid (sumV (amt (fun i => F (q + i))) (j - q) = V2) := hV2
            have EE2 : Hid (sumE (amt (fun i => F (q + i))) (j - q) = E2) := hE2
            rw [hV2, hE2] at HP6
            rw [hV2] at hs9
            clear hV2 hE2
            refine (whole_x (some ⟨g, q * 9, none⟩) (j - q) (c - q) (fun i => F (q + i)) _ S6.out (by omega) (fun i => HU.out (q + i))).mono ?_
            rintro e w4 ⟨rfl, q1'⟩
            rw [EV2.out, EE2.out]
            have Q7 := Lib.hid (Q6.out.trans q1')
            have HG7 := Lib.hid (HG6.out.q q1')
            clear q1' O6 Q6 HG6 EV EE EV1 EE1 EV2 EE2 HU
            by_cases hE : E = 0
            · subst hE
              obtain ⟨rfl, rfl, hs, hm⟩ := HP6.out rfl
              have hw : IntKind.u64.wrap (V1 + V2) = V := by have h0 : 0 ≤ V1 + V2 := hs9.out; rw [hs, IntKind.wrap_u64]; rw [hs] at h0; omega
              clear HP6 hs hm
              go_wp2_with fail
              refine (fixed_x HG7.out w4 (Q.refl w4)).mono ?_
              rintro e w5 ⟨rfl, q2⟩
              have Q8 := Lib.hid (Q7.out.trans q2)
              clear q2
              go_wp2_with fail
              go_ret
              exact ⟨rfl, Q8.out⟩
            · have hd : decide (E = 0) = false := by simpa using hE
              clear HP6
              go_wp2_with fail
              refine (fixed_x HG7.out w4 (Q.refl w4)).mono ?_
              rintro e w5 ⟨rfl, q2⟩
              have Q8 := Lib.hid (Q7.out.trans q2)
              clear q2
              go_wp2_with fail
              go_ret
              exact ⟨rfl, Q8.out⟩
end Go.Proofs.YtadebnobbnknhaaDoor.Coi
