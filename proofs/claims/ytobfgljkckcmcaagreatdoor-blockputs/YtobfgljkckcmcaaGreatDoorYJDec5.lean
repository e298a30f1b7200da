import Derived.Test.YtobfgljkckcmcaaGreatDoorYJDec2
import Derived.Test.YtobfgljkckcmcaaGreatDoorYJPlan
import Derived.Test.YtobfgljkckcmcaaGreatDoorYHCoiA
set_option maxRecDepth 100000
namespace Go.Proofs.YtobfgljkckcmcaaGreatDoor.Coi
open Go.RowKit
open Mem Num Cod
set_option linter.unusedVariables false
set_option linter.unusedSimpArgs false
theorem zeroDI (w : World) : (zeroValue 88).run Tryz.prog w = .ok (.agg #[.string ⟨#[]⟩, .int .i64 0, .int .i64 0, .string ⟨#[]⟩]) w := by
 have h : (Tryz.prog.info? 88).bind (·.zero) = some (.agg #[.string ⟨#[]⟩, .int .i64 0, .int .i64 0, .string ⟨#[]⟩]) := by kernel_rfl
 cases hi : Tryz.prog.info? 88 with
 | none => rw [hi] at h; cases h
 | some i => rw [hi] at h; simp [zeroValue, typeInfo, hi, show i.zero = some (.agg #[.string ⟨#[]⟩, .int .i64 0, .int .i64 0, .string ⟨#[]⟩]) from h]
theorem one4i {v0 v1 v2 v3 : Value} (h0 : v0.oneCell' = true) (h1 : v1.oneCell' = true) (h2 : v2.oneCell' = true) (h3 : v3.oneCell' = true) : ∀ v ∈ [v0, v1, v2, v3], v.oneCell' = true := by
 intro v hv; simp at hv; rcases hv with rfl | rfl | rfl | rfl <;> assumption
set_option maxHeartbeats 4000000 in
theorem d9right_x (t : TX) (aI : Option Addr) (cI : Nat) (aO : Option Addr) (cO : Nat) (aW : Option Addr) (cW : Nat) (w0 : World) (hi : SL IN.cells 4 w0 aI t.nI t.ins) (ho : SL OU.cells 9 w0 aO t.nO t.outs) (hw : SL WN.cells 10 w0 aW t.p.n t.p.w) (hk : t.ok) :
 Calls Tryz.prog 15 #[txV t aI cI aO cO aW cW] w0 (Tells (RightT t) w0) := by
 obtain ⟨PR, hPR⟩ : ∃ P : Prop, RightT t = P := ⟨_, rfl⟩
 rw [hPR]
 have HP : Hid (PR ↔ RightT t) := by show _ ↔ _; rw [hPR]
 clear hPR
 obtain ⟨nI, fI, nO, fO, pf⟩ := t
 obtain ⟨am, sg, tk, nW, fW⟩ := pf
 have nI100 : nI ≤ 100 := hk.nI
 have nO100 : nO ≤ 100 := hk.nO
 have nW100 : nW ≤ 100 := hk.p.n
 have HA : Hid (∀ j, j < nO → 0 ≤ (fO j).amount) := fun j hj => (hk.outs j hj).amount.1
 dsimp only at hi ho hw
 have HQ : Hid (∀ t, Q w0 (w0.alloc (.cells #[.slice aI nI cI, .slice aO nO cO, .int .u64 am, .string sg, .string tk, .slice aW nW cW] t))) := fun t => (Q.refl w0).alloc _
 have HB : Hid (∀ t, Box (w0.alloc (.cells #[.slice aI nI cI, .slice aO nO cO, .int .u64 am, .string sg, .string tk, .slice aW nW cW] t)) w0.heap.size [.slice aI nI cI, .slice aO nO cO, .int .u64 am, .string sg, .string tk, .slice aW nW cW]) := fun t => Box.new w0 _ t
 have HI := Lib.hid hi
 have HO := Lib.hid ho
 have HW := Lib.hid hw
 clear hi ho hw hk
 go_enter Tryz.func15, Tryz.ntmps15
 go_wp2_with fail
 have Q0 := Lib.hid (HQ.out 43)
 have B0 := Lib.hid (HB.out 43)
 generalize w0.alloc (.cells #[.slice aI nI cI, .slice aO nO cO, .int .u64 am, .string sg, .string tk, .slice aW nW cW] 43) = wA at *
 generalize w0.heap.size = b0 at *
 clear HQ HB
 have HI := Lib.hid (HI.out.q Q0.out)
 have HO := Lib.hid (HO.out.q Q0.out)
 have HW := Lib.hid (HW.out.q Q0.out)
 have NO : Hid (∀ w, Q wA w → ¬ RightT ⟨nI, fI, nO, fO, ⟨am, sg, tk, nW, fW⟩⟩ → Tells PR w0 (.returned (.bool false)) w) := fun w q h => ⟨false, rfl, by simp only [Bool.false_eq_true, false_iff]; exact fun y => h (HP.out.1 y), Q0.out.trans q⟩
 have BQ : Hid (∀ w, Q wA w → Box w b0 [.slice aI nI cI, .slice aO nO cO, .int .u64 am, .string sg, .string tk, .slice aW nW cW]) := fun w q => B0.out.q q
 clear B0
 go_loopw [3, 4, 5] (fun i z y wr => ∃ k : Nat, k ≤ nI ∧ i = .int .i64 k ∧ Hid (∀ j, j < k → InR (fI j) ∧ ∀ l, l < j → ¬ Pl (fI l) (fI j)) ∧ Hid (Q wA wr)) (fun i _ _ _ => nI - (intOf i).toNat)
 case atStart => exact ⟨0, by omega, rfl, Lib.hid (fun j hj => by omega), Lib.hid (Q.refl wA)⟩
 case round =>
 obtain ⟨k, hk, rfl, I, QR⟩ := hrel
 have k0 : (0 : Int) ≤ (k : Int) := by omega
 have m0 := (BQ.out _ QR.out).at_ 0 _ rfl
 by_cases hlt : k < nI
 · have k1 : (k : Int) < (nI : Int) := by omega
   obtain ⟨b, off, rfl, hrow⟩ := HI.out.some_ (by omega)
   have HR : Hid (∀ w, Q wA w → ∀ i, i < nI → ∀ j v, ((fI i).cells)[j]? = some v → w.cell? ⟨b, off + i * 4 + j, none⟩ = some v) := fun w q i hi j v hv => Q.cell' q (hrow i hi j v hv)
   clear hrow
   have hrow := HR.out _ QR.out k hlt
   obtain ⟨x, hx⟩ : ∃ x, fI k = x := ⟨_, rfl⟩
   rw [hx] at hrow
   have HX := Lib.hid hx
   clear hx
   have NI : Hid (¬ InR x → ¬ RightT ⟨nI, fI, nO, fO, ⟨am, sg, tk, nW, fW⟩⟩) := fun h y => h (by have := y.2.2.1 k hlt; rw [← HX.out]; exact this)
   go_wp2_with (with_reducible (show wpList _ _ _ (⟨_, Op.load 88 _, _, _, _, _⟩ :: _) _ _); refine halt ?_)
   refine Lib.hid (ld_row rfl 88 _ rfl b (off + k * 4) [.string x.tx, .int .i64 x.out, .int .i64 x.path, .string x.sig] rfl (fun j v hv => hrow j v hv) Tryz.underlying88 rfl (by kernel_rfl) ?_)
   refine wpList_allocZ rfl 88 rfl #[.string ⟨#[]⟩, .int .i64 0, .int .i64 0, .string ⟨#[]⟩] zeroDI ?_
   refine st_box rfl 88 _ _ rfl wr.heap.size _ [.string x.tx, .int .i64 x.out, .int .i64 x.path, .string x.sig] rfl rfl (Box.new wr [.string ⟨#[]⟩, .int .i64 0, .int .i64 0, .string ⟨#[]⟩] 88) rfl (by kernel_rfl) (one4i rfl rfl rfl rfl) ?_
   intro w2 BX c2
   have Q2 : Hid (Q wA w2) := c2.q (QR.out.trans ((Q.refl wr).alloc _)) QR.out.size
   clear c2 hrow m0 QR
   have BX := Lib.hid BX
   generalize wr.heap.size = gx at *
   have g0 := BX.out.at_ 0 _ rfl
   have g1 := BX.out.at_ 1 _ rfl
   have g2 := BX.out.at_ 2 _ rfl
   have g3 := BX.out.at_ 3 _ rfl
   by_cases h0 : x.tx.size = 16
   rotate_left
   · have t0 : (((x.tx.size : Int) != 16) = true) := by simp; omega
     have NN := Lib.hid (NO.out _ Q2.out (NI.out (fun y => h0 y.1)))
     clear h0 I NI NO BQ HR
     go_wp2_with fail
     go_ret
     exact NN.out
   have t0 : (((x.tx.size : Int) != 16) = false) := by simp; omega
   by_cases h1 : 0 ≤ x.out
   rotate_left
   · have t1 : (decide (x.out < 0) = true) := by simp; omega
     have NN := Lib.hid (NO.out _ Q2.out (NI.out (fun y => h1 y.2.1)))
     clear h1 I NI NO BQ HR
     go_wp2_with fail
     go_ret
     exact NN.out
   have t1 : (decide (x.out < 0) = false) := by simp; omega
   by_cases h2 : x.out ≤ 255
   rotate_left
   · have t2 : (decide (255 < x.out) = true) := by simp; omega
     have NN := Lib.hid (NO.out _ Q2.out (NI.out (fun y => h2 y.2.2.1)))
     clear h2 I NI NO BQ HR
     go_wp2_with fail
     go_ret
     exact NN.out
   have t2 : (decide (255 < x.out) = false) := by simp; omega
   by_cases h3 : 1 ≤ x.path
   rotate_left
   · have t3 : (decide (x.path < 1) = true) := by simp; omega
     have NN := Lib.hid (NO.out _ Q2.out (NI.out (fun y => h3 y.2.2.2.1)))
     clear h3 I NI NO BQ HR
     go_wp2_with fail
     go_ret
     exact NN.out
   have t3 : (decide (x.path < 1) = false) := by simp; omega
   by_cases h4 : x.path ≤ 3
   rotate_left
   · have t4 : (decide (3 < x.path) = true) := by simp; omega
     have NN := Lib.hid (NO.out _ Q2.out (NI.out (fun y => h4 y.2.2.2.2.1)))
     clear h4 I NI NO BQ HR
     go_wp2_with fail
     go_ret
     exact NN.out
   have t4 : (decide (3 < x.path) = false) := by simp; omega
   by_cases h5 : x.sig.size ≤ 400
   rotate_left
   · have t5 : (decide (400 < (x.sig.size : Int)) = true) := by simp; omega
     have NN := Lib.hid (NO.out _ Q2.out (NI.out (fun y => h5 y.2.2.2.2.2)))
     clear h5 I NI NO BQ HR
     go_wp2_with fail
     go_ret
     exact NN.out
   have t5 : (decide (400 < (x.sig.size : Int)) = false) := by simp; omega
   have IX : Hid (InR x) := ⟨h0, h1, h2, h3, h4, h5⟩
   go_wp2_with fail
   clear h0 h1 h2 h3 h4 h5 t0 t1 t2 t3 t4 t5 g0 g1 g2 g3 NI
   go_loopw [5] (fun y wr => ∃ l : Nat, l ≤ k ∧ y = .int .i64 l ∧ Hid (∀ m, m < l → ¬ Pl (fI m) x) ∧ Hid (Box wr gx [.string x.tx, .int .i64 x.out, .int .i64 x.path, .string x.sig]) ∧ Hid (Q wA wr)) (fun y _ => k - (intOf y).toNat)
   case atStart => exact ⟨0, by omega, rfl, Lib.hid (fun j hj => by omega), BX, Q2⟩
   case round =>
   obtain ⟨l, hl, rfl, M, BX, QR⟩ := hrel
   clear Q2
   have l0 : (0 : Int) ≤ (l : Int) := by omega
   by_cases hlk : l < k
   · have l1 : (l : Int) < (k : Int) := by omega
     have l2 : (l : Int) < (nI : Int) := by omega
     have m0 := (BQ.out _ QR.out).at_ 0 _ rfl
     obtain ⟨d0, d1, _, _⟩ := in_at (HR.out _ QR.out l (by omega))
     have g0 := BX.out.at_ 0 _ rfl
     have g1 := BX.out.at_ 1 _ rfl
     have NP : Hid (Pl (fI l) x → ¬ RightT ⟨nI, fI, nO, fO, ⟨am, sg, tk, nW, fW⟩⟩) := fun h y => y.2.2.2.1 ⟨k, hlt, l, hlk, by show Pl (fI l) (fI k); rw [HX.out]; exact h⟩
     have M2 : Hid (¬ Pl (fI l) x → ∀ m, m < l + 1 → ¬ Pl (fI m) x) := fun h m hm => by
      by_cases e : m = l
      · rw [e]; exact h
      · exact M.out m (by omega)
     generalize fI l = y at *
     obtain ⟨ytx, yout, ypath, ysig⟩ := y
     dsimp only at d0 d1
     obtain ⟨xtx, xout, xpath, xsig⟩ := x
     dsimp only at g0 g1
     clear M IX
     by_cases e0 : ytx = xtx
     · subst e0
       by_cases e1 : yout = xout
       · subst e1
         have NN := Lib.hid (fun w q => NO.out w q (NP.out ⟨rfl, rfl⟩))
         clear NO BQ HR NP M2 I
         go_wp2_with fail
         go_quiet (fail)
         go_wp2_with fail
         go_ret
         exact NN.out _ (QR.out.drewN nq)
       · have t1 : (yout == xout) = false := by simpa using e1
         have M3 := Lib.hid (M2.out (fun h => e1 h.2))
         clear NP M2 e1
         go_wp2_with fail
         go_quiet (fail)
         go_wp2_with fail
         have Q3 := Lib.hid (QR.out.drewN nq)
         have B3 := Lib.hid (BX.out.q ((Q.refl wr).drewN nq))
         go_roundw
         case rel => exact ⟨l + 1, by omega, by go_num, M3, B3, Q3⟩
         case measure => simp [intOf]; omega
     · have t1 : (ytx.toList == xtx.toList) = false := by rw [← Bool.not_eq_true, beq_tl]; exact e0
       have t2 : ytx.toList ≠ xtx.toList := by rw [ne_eq, tl_inj]; exact e0
       have M3 := Lib.hid (M2.out (fun h => e0 h.1))
       clear NP M2 e0
       go_wp2_with fail
       go_quiet (fail)
       go_wp2_with fail
       have Q3 := Lib.hid (QR.out.drewN nq)
       have B3 := Lib.hid (BX.out.q ((Q.refl wr).drewN nq))
       go_roundw
       case rel => exact ⟨l + 1, by omega, by go_num, M3, B3, Q3⟩
       case measure => simp [intOf]; omega
   · obtain rfl : k = l := by omega
     have l1 : ¬ (k : Int) < (k : Int) := by omega
     have t3 : decide (k < k) = false := by simp
     have I2 : Hid (∀ j, j < k + 1 → InR (fI j) ∧ ∀ l, l < j → ¬ Pl (fI l) (fI j)) := fun j hj => by
      by_cases e : j = k
      · subst e; rw [HX.out]; exact ⟨IX.out, M.out⟩
      · exact I.out j (by omega)
     clear I M IX
     go_wp2_with fail
     go_roundw
     case rel => exact ⟨k + 1, by omega, by go_num, I2, QR⟩
     case measure => simp [intOf]; omega
 · obtain rfl : nI = k := by omega
   have k1 : ¬ (nI : Int) < (nI : Int) := by omega
   have t3 : decide (nI < nI) = false := by simp
   go_wp2_with fail
   clear m0 k1 t3 hlt hk k0
   have Q1 := Lib.hid QR
   clear QR
   have Q1 := Q1.out
   as_aux_lemma =>
   go_loopw [6] (fun i wr => ∃ k : Nat, k ≤ nO ∧ i = .int .i64 k ∧ Hid (∀ j, j < k → Fit (fO j)) ∧ Hid (Q wA wr)) (fun i _ => nO - (intOf i).toNat)
   case atStart => exact ⟨0, by omega, rfl, Lib.hid (fun j hj => by omega), Q1⟩
   case round =>
   obtain ⟨k, hk, rfl, K, QR⟩ := hrel
   clear Q1
   have k0 : (0 : Int) ≤ (k : Int) := by omega
   have m1 := (BQ.out _ QR.out).at_ 1 _ rfl
   by_cases hlt : k < nO
   · have k1 : (k : Int) < (nO : Int) := by omega
     obtain ⟨b, off, rfl, hrow⟩ := (HO.out.q QR.out).some_ (by omega)
     have hrow := hrow k hlt
     have HA2 : Hid (0 ≤ (fO k).amount) := HA.out k hlt
     have NF : Hid (¬ Fit (fO k) → ¬ RightT ⟨nI, fI, nO, fO, ⟨am, sg, tk, nW, fW⟩⟩) := fun h y => h (y.2.2.2.2.2.2.1 k hlt)
     have K2 : Hid (Fit (fO k) → ∀ j, j < k + 1 → Fit (fO j)) := fun h j hj => by
      by_cases e : j = k
      · rw [e]; exact h
      · exact K.out j (by omega)
     clear K
     generalize fO k = x at *
     go_wp2_with (with_reducible (show wpList _ _ _ (⟨_, Op.load 49 _, _, _, _, _⟩ :: _) _ _); refine halt ?_)
     refine Lib.hid (ld_row rfl 49 _ rfl b (off + k * 9) [.int .i64 x.kind, .int .u64 x.amount, .string x.key, .string x.gate, .int .i64 x.expiry, .string x.anchor, .int .u64 x.unit, .int .i64 x.tokens, .string x.of_] rfl (fun j v hv => hrow j v hv) Tryz.underlying49 rfl (by kernel_rfl) ?_)
     clear hrow m1
     go_wp2_with fail
     refine (d9fits_x x HA2.out _).mono ?_
     rintro e w3 ⟨rfl, q3⟩
     have Q3 := Lib.hid (QR.out.trans q3)
     clear q3 QR
     by_cases hF : Fit x
     · have d1 : decide (Fit x) = true := by simpa using hF
       rw [d1]
       have K3 := Lib.hid (K2.out hF)
       clear K2 NF hF d1
       go_wp2_with fail
       go_roundw
       case rel => exact ⟨k + 1, by omega, by go_num, K3, Q3⟩
       case measure => simp [intOf]; omega
     · have d1 : decide (Fit x) = false := by simpa using hF
       rw [d1]
       have NN := Lib.hid (NO.out _ Q3.out (NF.out hF))
       clear K2 NF hF d1 NO BQ
       go_wp2_with fail
       go_ret
       exact NN.out
   · obtain rfl : nO = k := by omega
     have k1 : ¬ (nO : Int) < (nO : Int) := by omega
     have t3 : decide (nO < nO) = false := by simp
     clear m1 hlt hk k0
     have ALL : Hid (RightP ⟨am, sg, tk, nW, fW⟩ → 1 ≤ nI → nI ≤ 4 → 1 ≤ nO → nO ≤ 4 → RightT ⟨nI, fI, nO, fO, ⟨am, sg, tk, nW, fW⟩⟩) := fun h a1 a2 a3 a4 => ⟨a1, a2, fun i hi => (I.out i hi).1, fun ⟨i, hi, j, hj, y⟩ => (I.out i hi).2 j hj y, a3, a4, K.out, h⟩
     clear I K
     have m0 := (BQ.out _ QR.out).at_ 0 _ rfl
     have m1 := (BQ.out _ QR.out).at_ 1 _ rfl
     have m2 := (BQ.out _ QR.out).at_ 2 _ rfl
     have m3 := (BQ.out _ QR.out).at_ 3 _ rfl
     have m4 := (BQ.out _ QR.out).at_ 4 _ rfl
     have m5 := (BQ.out _ QR.out).at_ 5 _ rfl
     as_aux_lemma =>
     by_cases h0 : 1 ≤ nI
     rotate_left
     · have t0 : decide ((1 : Int) ≤ (nI : Int)) = false := by simp; omega
       have u0 : decide (1 ≤ nI) = false := by simp; omega
       have NN := Lib.hid (NO.out _ QR.out (fun y => h0 y.1))
       clear h0 NO BQ ALL
       go_wp2_with fail
       go_ret
       exact NN.out
     have t0 : decide ((1 : Int) ≤ (nI : Int)) = true := by simp; omega
     have u0 : decide (1 ≤ nI) = true := by simp; omega
     by_cases h1 : nI ≤ 4
     rotate_left
     · have t1 : decide ((nI : Int) ≤ 4) = false := by simp; omega
       have u1 : decide (nI ≤ 4) = false := by simp; omega
       have NN := Lib.hid (NO.out _ QR.out (fun y => h1 y.2.1))
       clear h1 NO BQ ALL
       go_wp2_with fail
       go_ret
       exact NN.out
     have t1 : decide ((nI : Int) ≤ 4) = true := by simp; omega
     have u1 : decide (nI ≤ 4) = true := by simp; omega
     by_cases h2 : 1 ≤ nO
     rotate_left
     · have t2 : decide ((1 : Int) ≤ (nO : Int)) = false := by simp; omega
       have u2 : decide (1 ≤ nO) = false := by simp; omega
       have NN := Lib.hid (NO.out _ QR.out (fun y => h2 y.2.2.2.2.1))
       clear h2 NO BQ ALL
       go_wp2_with fail
       go_ret
       exact NN.out
     have t2 : decide ((1 : Int) ≤ (nO : Int)) = true := by simp; omega
     have u2 : decide (1 ≤ nO) = true := by simp; omega
     by_cases h3 : nO ≤ 4
     rotate_left
     · have t3 : decide ((nO : Int) ≤ 4) = false := by simp; omega
       have u3 : decide (nO ≤ 4) = false := by simp; omega
       have NN := Lib.hid (NO.out _ QR.out (fun y => h3 y.2.2.2.2.2.1))
       clear h3 NO BQ ALL
       go_wp2_with fail
       go_ret
       exact NN.out
     have t3 : decide ((nO : Int) ≤ 4) = true := by simp; omega
     have u3 : decide (nO ≤ 4) = true := by simp; omega
     have ALL := Lib.hid (fun h => ALL.out h h0 h1 h2 h3)
     clear h0 h1 h2 h3
     go_wp2_with fail
     refine (d8right_x ⟨am, sg, tk, nW, fW⟩ aW cW _ (HW.out.q QR.out) nW100).mono ?_
     rintro e w7 ⟨b, rfl, hz, q7⟩
     have Q7 := Lib.hid (QR.out.trans q7)
     have HZ := Lib.hid hz
     clear q7 hz m0 m1 m2 m3 m4 m5
     cases b
     · have NN := Lib.hid (NO.out _ Q7.out (fun y => absurd (HZ.out.2 y.2.2.2.2.2.2.2) (by decide)))
       clear NO BQ ALL HZ
       go_wp2_with fail
       go_ret
       exact NN.out
     · have YES : Hid (Tells PR w0 (.returned (.bool true)) w7) := ⟨true, rfl, ⟨fun _ => HP.out.2 (ALL.out (HZ.out.1 rfl)), fun _ => rfl⟩, Q0.out.trans Q7.out⟩
       clear NO BQ ALL HZ
       go_wp2_with fail
       go_ret
       exact YES.out
end Go.Proofs.YtobfgljkckcmcaaGreatDoor.Coi
