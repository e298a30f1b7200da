import Derived.Test.YtobfgljkckcmcaaGreatDoorYJDec2
import Derived.Test.YtobfgljkckcmcaaGreatDoorYJPlan
import Derived.Test.YtobfgljkckcmcaaGreatDoorYHCoiA
set_option maxRecDepth 100000
namespace Go.Proofs.YtobfgljkckcmcaaGreatDoor.Coi
open Go.RowKit
open Mem Num Cod
set_option linter.unusedVariables false
set_option linter.unusedSimpArgs false
set_option maxHeartbeats 4000000 in
theorem d8same_x (p p' : PF) (aW : Option Addr) (cW : Nat) (aW' : Option Addr) (cW' : Nat) (w0 : World) (hw : SL WN.cells 10 w0 aW p.n p.w) (hw' : SL WN.cells 10 w0 aW' p'.n p'.w) (hn : p.n ≤ 100) (hn' : p'.n ≤ 100) :
 Calls Tryz.prog 77 #[pfV p aW cW, pfV p' aW' cW'] w0 (Tells (SamP p p') w0) := by
 obtain ⟨PR, hPR⟩ : ∃ P : Prop, SamP p p' = P := ⟨_, rfl⟩
 rw [hPR]
 have HP : Hid (PR ↔ SamP p p') := by show _ ↔ _; rw [hPR]
 clear hPR
 obtain ⟨am, sg, tk, n, f⟩ := p
 obtain ⟨am', sg', tk', n', f'⟩ := p'
 dsimp only at hw hw' hn hn'
 have HW := Lib.hid hw
 have HW' := Lib.hid hw'
 clear hw hw'
 have HQ : Hid (Q w0 ((w0.alloc (.cells #[.int .u64 am, .string sg, .string tk, .slice aW n cW] 41)).alloc (.cells #[.int .u64 am', .string sg', .string tk', .slice aW' n' cW'] 41))) := ((Q.refl w0).alloc _).alloc _
 have HBA : Hid (Box ((w0.alloc (.cells #[.int .u64 am, .string sg, .string tk, .slice aW n cW] 41)).alloc (.cells #[.int .u64 am', .string sg', .string tk', .slice aW' n' cW'] 41)) w0.heap.size [.int .u64 am, .string sg, .string tk, .slice aW n cW]) := (Box.new w0 _ _).q ((Q.refl _).alloc _)
 have HBB : Hid (Box ((w0.alloc (.cells #[.int .u64 am, .string sg, .string tk, .slice aW n cW] 41)).alloc (.cells #[.int .u64 am', .string sg', .string tk', .slice aW' n' cW'] 41)) (w0.heap.size + 1) [.int .u64 am', .string sg', .string tk', .slice aW' n' cW']) := by
  have := Box.new (w0.alloc (.cells #[.int .u64 am, .string sg, .string tk, .slice aW n cW] 41)) [.int .u64 am', .string sg', .string tk', .slice aW' n' cW'] 41
  rw [show (w0.alloc (.cells #[.int .u64 am, .string sg, .string tk, .slice aW n cW] 41)).heap.size = w0.heap.size + 1 by simp] at this
  exact this
 obtain ⟨wA, hwA⟩ : ∃ w, (w0.alloc (.cells #[.int .u64 am, .string sg, .string tk, .slice aW n cW] 41)).alloc (.cells #[.int .u64 am', .string sg', .string tk', .slice aW' n' cW'] 41) = w := ⟨_, rfl⟩
 rw [hwA] at HQ HBA HBB
 have za := HBA.out.at_ 3 _ rfl
 have zb := HBB.out.at_ 3 _ rfl
 have NO : Hid (∀ w, Q wA w → ¬ SamP ⟨am, sg, tk, n, f⟩ ⟨am', sg', tk', n', f'⟩ → Tells PR w0 (.returned (.bool false)) w) := fun w q h => ⟨false, rfl, by simp only [Bool.false_eq_true, false_iff]; exact fun y => h (HP.out.1 y), HQ.out.trans q⟩
 have YES : Hid (∀ w, Q wA w → SamP ⟨am, sg, tk, n, f⟩ ⟨am', sg', tk', n', f'⟩ → Tells PR w0 (.returned (.bool true)) w) := fun w q h => ⟨true, rfl, ⟨fun _ => HP.out.2 h, fun _ => rfl⟩, HQ.out.trans q⟩
 clear HP
 by_cases hnn : n = n'
 rotate_left
 · have NN : Hid (Tells PR w0 (.returned (.bool false)) wA) := NO.out _ (Q.refl _) (fun y => hnn y.2.2.2.1)
   have t1 : ((n : Int) == (n' : Int)) = false := by simp; omega
   have t2 : ((n : Int) != (n' : Int)) = true := by simp; omega
   clear NO YES HW HW' HQ HBA HBB
   go_enter Tryz.func77, Tryz.ntmps77
   go_wp2_with fail
   go_ret
   exact NN.out
 subst hnn
 go_enter Tryz.func77, Tryz.ntmps77
 go_wp2_with fail
 clear hwA za zb
 obtain ⟨b2, hb2⟩ : ∃ b, w0.heap.size + 1 = b := ⟨_, rfl⟩
 rw [hb2] at HBB ⊢
 obtain ⟨b1, hb1⟩ : ∃ b, w0.heap.size = b := ⟨_, rfl⟩
 rw [hb1] at HBA ⊢
 clear hb1 hb2
 have BA : Hid (∀ w, Q wA w → Box w b1 [.int .u64 am, .string sg, .string tk, .slice aW n cW]) := fun w q => HBA.out.q q
 have BB : Hid (∀ w, Q wA w → Box w b2 [.int .u64 am', .string sg', .string tk', .slice aW' n cW']) := fun w q => HBB.out.q q
 have HW := Lib.hid (HW.out.q HQ.out)
 have HW' := Lib.hid (HW'.out.q HQ.out)
 clear HBA HBB HQ
 go_loopw [5] (fun i wr => ∃ k : Nat, k ≤ n ∧ i = .int .i64 k ∧ Hid (∀ j, j < k → f j = f' j) ∧ Hid (Q wA wr)) (fun i _ => n - (intOf i).toNat)
 case atStart => exact ⟨0, by omega, rfl, Lib.hid (fun j hj => by omega), Lib.hid (Q.refl wA)⟩
 case round =>
 obtain ⟨k, hk, rfl, J, QR⟩ := hrel
 have k0 : (0 : Int) ≤ (k : Int) := by omega
 have ma := (BA.out _ QR.out).at_ 3 _ rfl
 have mb := (BB.out _ QR.out).at_ 3 _ rfl
 by_cases hlt : k < n
 · have k1 : (k : Int) < (n : Int) := by omega
   obtain ⟨b, off, rfl, hrow⟩ := (HW.out.q QR.out).some_ (by omega)
   obtain ⟨c0, c1, c2, c3, c4, c5, c6, c7, c8, c9⟩ := win_at (hrow k hlt)
   obtain ⟨b', off', rfl, hrow'⟩ := (HW'.out.q QR.out).some_ (by omega)
   obtain ⟨d0, d1, d2, d3, d4, d5, d6, d7, d8, d9⟩ := win_at (hrow' k hlt)
   clear hrow hrow'
   by_cases hp : f k = f' k
   · have J' : Hid (∀ j, j < k + 1 → f j = f' j) := fun j hj => by
      by_cases e : j = k
      · rw [e]; exact hp
      · exact J.out j (by omega)
     rw [← hp] at d0 d1 d2 d3 d4 d5 d6 d7 d8 d9
     clear J hp
     generalize f k = x at *
     go_wp2_with fail
     go_quiet (fail)
     go_wp2_with fail
     have Q1 := Lib.hid (QR.out.drewN nq)
     go_roundw
     case rel => exact ⟨k + 1, by omega, by go_num, J', Q1⟩
     case measure => simp [intOf]; omega
   · have NN : Hid (∀ w, Q wA w → Tells PR w0 (.returned (.bool false)) w) := fun w q => NO.out w q (fun y => hp (y.2.2.2.2 k hlt))
     have HN := Lib.hid hp
     clear J hp NO
     generalize f k = x at *
     generalize f' k = y at *
     obtain ⟨x0, x1, x2, x3, x4, x5, x6, x7, x8, x9⟩ := x
     obtain ⟨y0, y1, y2, y3, y4, y5, y6, y7, y8, y9⟩ := y
     by_cases e0 : x0 = y0
     rotate_left
     · clear HN
       have t1e0 : (x0.toList == y0.toList) = false := by rw [← Bool.not_eq_true, beq_tl]; exact e0
       have t2e0 : x0.toList ≠ y0.toList := by rw [ne_eq, tl_inj]; exact e0
       go_wp2_with fail
       go_quiet (fail)
       go_wp2_with fail
       go_ret
       exact NN.out _ (QR.out.drewN nq)
     subst e0
     by_cases e1 : x1 = y1
     rotate_left
     · clear HN
       have t1e1 : (x1 == y1) = false := by simpa using e1
       go_wp2_with fail
       go_quiet (fail)
       go_wp2_with fail
       go_ret
       exact NN.out _ (QR.out.drewN nq)
     subst e1
     by_cases e2 : x2 = y2
     rotate_left
     · clear HN
       have t1e2 : (x2 == y2) = false := by simpa using e2
       go_wp2_with fail
       go_quiet (fail)
       go_wp2_with fail
       go_ret
       exact NN.out _ (QR.out.drewN nq)
     subst e2
     by_cases e3 : x3 = y3
     rotate_left
     · clear HN
       have t1e3 : (x3 == y3) = false := by simpa using e3
       go_wp2_with fail
       go_quiet (fail)
       go_wp2_with fail
       go_ret
       exact NN.out _ (QR.out.drewN nq)
     subst e3
     by_cases e4 : x4 = y4
     rotate_left
     · clear HN
       have t1e4 : (x4 == y4) = false := by simpa using e4
       go_wp2_with fail
       go_quiet (fail)
       go_wp2_with fail
       go_ret
       exact NN.out _ (QR.out.drewN nq)
     subst e4
     by_cases e5 : x5 = y5
     rotate_left
     · clear HN
       have t1e5 : (x5.toList == y5.toList) = false := by rw [← Bool.not_eq_true, beq_tl]; exact e5
       have t2e5 : x5.toList ≠ y5.toList := by rw [ne_eq, tl_inj]; exact e5
       go_wp2_with fail
       go_quiet (fail)
       go_wp2_with fail
       go_ret
       exact NN.out _ (QR.out.drewN nq)
     subst e5
     by_cases e6 : x6 = y6
     rotate_left
     · clear HN
       have t1e6 : (x6 == y6) = false := by simpa using e6
       go_wp2_with fail
       go_quiet (fail)
       go_wp2_with fail
       go_ret
       exact NN.out _ (QR.out.drewN nq)
     subst e6
     by_cases e7 : x7 = y7
     rotate_left
     · clear HN
       have t1e7 : (x7.toList == y7.toList) = false := by rw [← Bool.not_eq_true, beq_tl]; exact e7
       have t2e7 : x7.toList ≠ y7.toList := by rw [ne_eq, tl_inj]; exact e7
       go_wp2_with fail
       go_quiet (fail)
       go_wp2_with fail
       go_ret
       exact NN.out _ (QR.out.drewN nq)
     subst e7
     by_cases e8 : x8 = y8
     rotate_left
     · clear HN
       have t1e8 : (x8.toList == y8.toList) = false := by rw [← Bool.not_eq_true, beq_tl]; exact e8
       have t2e8 : x8.toList ≠ y8.toList := by rw [ne_eq, tl_inj]; exact e8
       go_wp2_with fail
       go_quiet (fail)
       go_wp2_with fail
       go_ret
       exact NN.out _ (QR.out.drewN nq)
     subst e8
     by_cases e9 : x9 = y9
     rotate_left
     · clear HN
       have t1e9 : (x9 == y9) = false := by simpa using e9
       go_wp2_with fail
       go_quiet (fail)
       go_wp2_with fail
       go_ret
       exact NN.out _ (QR.out.drewN nq)
     subst e9
     exact absurd rfl HN.out
 · obtain rfl : n = k := by omega
   have k1 : ¬ (n : Int) < (n : Int) := by omega
   have t3 : decide (n < n) = false := by simp
   clear ma
   have ma := (BA.out _ QR.out).at_ 3 _ rfl
   have a0 := (BA.out _ QR.out).at_ 0 _ rfl
   have a1 := (BA.out _ QR.out).at_ 1 _ rfl
   have a2 := (BA.out _ QR.out).at_ 2 _ rfl
   have b0 := (BB.out _ QR.out).at_ 0 _ rfl
   have b1' := (BB.out _ QR.out).at_ 1 _ rfl
   have b2' := (BB.out _ QR.out).at_ 2 _ rfl
   by_cases eam : am = am'
   rotate_left
   · have NN := Lib.hid (NO.out _ QR.out (fun y => eam (y.1)))
     have t1eam : (am == am') = false := by simpa using eam
     clear NO YES BA BB
     go_wp2_with fail
     go_ret
     exact NN.out
   subst eam
   by_cases esg : sg = sg'
   rotate_left
   · have NN := Lib.hid (NO.out _ QR.out (fun y => esg (y.2.1)))
     have t1esg : (sg.toList == sg'.toList) = false := by rw [← Bool.not_eq_true, beq_tl]; exact esg
     have t2esg : sg.toList ≠ sg'.toList := by rw [ne_eq, tl_inj]; exact esg
     clear NO YES BA BB
     go_wp2_with fail
     go_ret
     exact NN.out
   subst esg
   by_cases etk : tk = tk'
   rotate_left
   · have NN := Lib.hid (NO.out _ QR.out (fun y => etk (y.2.2.1)))
     have t1etk : (tk.toList == tk'.toList) = false := by rw [← Bool.not_eq_true, beq_tl]; exact etk
     have t2etk : tk.toList ≠ tk'.toList := by rw [ne_eq, tl_inj]; exact etk
     clear NO YES BA BB
     go_wp2_with fail
     go_ret
     exact NN.out
   subst etk
   have YY := Lib.hid (YES.out _ QR.out ⟨rfl, rfl, rfl, rfl, J.out⟩)
   clear NO YES BA BB J
   go_wp2_with fail
   go_ret
   exact YY.out
set_option maxHeartbeats 4000000 in
theorem d9same_x (t t' : TX) (aI : Option Addr) (cI : Nat) (aO : Option Addr) (cO : Nat) (aW : Option Addr) (cW : Nat) (aI' : Option Addr) (cI' : Nat) (aO' : Option Addr) (cO' : Nat) (aW' : Option Addr) (cW' : Nat) (w0 : World)
 (hi : SL IN.cells 4 w0 aI t.nI t.ins) (ho : SL OU.cells 9 w0 aO t.nO t.outs) (hw : SL WN.cells 10 w0 aW t.p.n t.p.w) (hi' : SL IN.cells 4 w0 aI' t'.nI t'.ins) (ho' : SL OU.cells 9 w0 aO' t'.nO t'.outs) (hw' : SL WN.cells 10 w0 aW' t'.p.n t'.p.w)
 (zI : t.nI ≤ 100) (zO : t.nO ≤ 100) (zW : t.p.n ≤ 100) (zI' : t'.nI ≤ 100) (zO' : t'.nO ≤ 100) (zW' : t'.p.n ≤ 100) :
 Calls Tryz.prog 22 #[txV t aI cI aO cO aW cW, txV t' aI' cI' aO' cO' aW' cW'] w0 (Tells (SamT t t') w0) := by
 obtain ⟨PR, hPR⟩ : ∃ P : Prop, SamT t t' = P := ⟨_, rfl⟩
 rw [hPR]
 have HP : Hid (PR ↔ SamT t t') := by show _ ↔ _; rw [hPR]
 clear hPR
 obtain ⟨nI, fI, nO, fO, pf⟩ := t
 obtain ⟨am, sg, tk, nW, fW⟩ := pf
 obtain ⟨nI', fI', nO', fO', pf'⟩ := t'
 obtain ⟨am', sg', tk', nW', fW'⟩ := pf'
 dsimp only at hi ho hw hi' ho' hw' zI zO zW zI' zO' zW'
 have HI := Lib.hid hi
 have HO := Lib.hid ho
 have HW := Lib.hid hw
 have HI' := Lib.hid hi'
 have HO' := Lib.hid ho'
 have HW' := Lib.hid hw'
 clear hi ho hw hi' ho' hw'
 have HQ : Hid (Q w0 ((w0.alloc (.cells #[.slice aI nI cI, .slice aO nO cO, .int .u64 am, .string sg, .string tk, .slice aW nW cW] 43)).alloc (.cells #[.slice aI' nI' cI', .slice aO' nO' cO', .int .u64 am', .string sg', .string tk', .slice aW' nW' cW'] 43))) := ((Q.refl w0).alloc _).alloc _
 have HBA : Hid (Box ((w0.alloc (.cells #[.slice aI nI cI, .slice aO nO cO, .int .u64 am, .string sg, .string tk, .slice aW nW cW] 43)).alloc (.cells #[.slice aI' nI' cI', .slice aO' nO' cO', .int .u64 am', .string sg', .string tk', .slice aW' nW' cW'] 43)) w0.heap.size [.slice aI nI cI, .slice aO nO cO, .int .u64 am, .string sg, .string tk, .slice aW nW cW]) := (Box.new w0 _ _).q ((Q.refl _).alloc _)
 have HBB : Hid (Box ((w0.alloc (.cells #[.slice aI nI cI, .slice aO nO cO, .int .u64 am, .string sg, .string tk, .slice aW nW cW] 43)).alloc (.cells #[.slice aI' nI' cI', .slice aO' nO' cO', .int .u64 am', .string sg', .string tk', .slice aW' nW' cW'] 43)) (w0.heap.size + 1) [.slice aI' nI' cI', .slice aO' nO' cO', .int .u64 am', .string sg', .string tk', .slice aW' nW' cW']) := by
  have := Box.new (w0.alloc (.cells #[.slice aI nI cI, .slice aO nO cO, .int .u64 am, .string sg, .string tk, .slice aW nW cW] 43)) [.slice aI' nI' cI', .slice aO' nO' cO', .int .u64 am', .string sg', .string tk', .slice aW' nW' cW'] 43
  rw [show (w0.alloc (.cells #[.slice aI nI cI, .slice aO nO cO, .int .u64 am, .string sg, .string tk, .slice aW nW cW] 43)).heap.size = w0.heap.size + 1 by simp] at this
  exact this
 obtain ⟨wA, hwA⟩ : ∃ w, (w0.alloc (.cells #[.slice aI nI cI, .slice aO nO cO, .int .u64 am, .string sg, .string tk, .slice aW nW cW] 43)).alloc (.cells #[.slice aI' nI' cI', .slice aO' nO' cO', .int .u64 am', .string sg', .string tk', .slice aW' nW' cW'] 43) = w := ⟨_, rfl⟩
 rw [hwA] at HQ HBA HBB
 have za := HBA.out.at_ 0 _ rfl
 have zb := HBB.out.at_ 0 _ rfl
 have zc := HBA.out.at_ 1 _ rfl
 have zd := HBB.out.at_ 1 _ rfl
 have NO : Hid (∀ w, Q wA w → ¬ SamT ⟨nI, fI, nO, fO, ⟨am, sg, tk, nW, fW⟩⟩ ⟨nI', fI', nO', fO', ⟨am', sg', tk', nW', fW'⟩⟩ → Tells PR w0 (.returned (.bool false)) w) := fun w q h => ⟨false, rfl, by simp only [Bool.false_eq_true, false_iff]; exact fun y => h (HP.out.1 y), HQ.out.trans q⟩
 have FIN : Hid (∀ w w' e, Q wA w → (SamP ⟨am, sg, tk, nW, fW⟩ ⟨am', sg', tk', nW', fW'⟩ ↔ SamT ⟨nI, fI, nO, fO, ⟨am, sg, tk, nW, fW⟩⟩ ⟨nI', fI', nO', fO', ⟨am', sg', tk', nW', fW'⟩⟩) → Tells (SamP ⟨am, sg, tk, nW, fW⟩ ⟨am', sg', tk', nW', fW'⟩) w e w' → Tells PR w0 e w') := fun w w' e q h z => by
  obtain ⟨b, h1, h2, h3⟩ := z
  exact ⟨b, h1, h2.trans (h.trans HP.out.symm), (HQ.out.trans q).trans h3⟩
 clear HP
 by_cases enI : nI = nI'
 rotate_left
 · have NN : Hid (Tells PR w0 (.returned (.bool false)) wA) := NO.out _ (Q.refl _) (fun y => enI (y.1.1))
   have t1 : ((nI : Int) == (nI' : Int)) = false := by simp; omega
   have t2 : ((nI : Int) != (nI' : Int)) = true := by simp; omega
   clear NO FIN HI HO HW HI' HO' HW' HQ HBA HBB
   go_enter Tryz.func22, Tryz.ntmps22
   go_wp2_with fail
   go_ret
   exact NN.out
 subst enI
 by_cases enO : nO = nO'
 rotate_left
 · have NN : Hid (Tells PR w0 (.returned (.bool false)) wA) := NO.out _ (Q.refl _) (fun y => enO (y.2.1.1))
   have t1 : ((nO : Int) == (nO' : Int)) = false := by simp; omega
   have t2 : ((nO : Int) != (nO' : Int)) = true := by simp; omega
   clear NO FIN HI HO HW HI' HO' HW' HQ HBA HBB
   go_enter Tryz.func22, Tryz.ntmps22
   go_wp2_with fail
   go_ret
   exact NN.out
 subst enO
 go_enter Tryz.func22, Tryz.ntmps22
 go_wp2_with fail
 clear hwA za zb zc zd
 obtain ⟨b2, hb2⟩ : ∃ b, w0.heap.size + 1 = b := ⟨_, rfl⟩
 rw [hb2] at HBB ⊢
 obtain ⟨b1, hb1⟩ : ∃ b, w0.heap.size = b := ⟨_, rfl⟩
 rw [hb1] at HBA ⊢
 clear hb1 hb2
 have BA : Hid (∀ w, Q wA w → Box w b1 [.slice aI nI cI, .slice aO nO cO, .int .u64 am, .string sg, .string tk, .slice aW nW cW]) := fun w q => HBA.out.q q
 have BB : Hid (∀ w, Q wA w → Box w b2 [.slice aI' nI cI', .slice aO' nO cO', .int .u64 am', .string sg', .string tk', .slice aW' nW' cW']) := fun w q => HBB.out.q q
 have HI := Lib.hid (HI.out.q HQ.out)
 have HO := Lib.hid (HO.out.q HQ.out)
 have HW := Lib.hid (HW.out.q HQ.out)
 have HI' := Lib.hid (HI'.out.q HQ.out)
 have HO' := Lib.hid (HO'.out.q HQ.out)
 have HW' := Lib.hid (HW'.out.q HQ.out)
 clear HBA HBB HQ
 go_loopw [5] (fun i wr => ∃ k : Nat, k ≤ nI ∧ i = .int .i64 k ∧ Hid (∀ j, j < k → fI j = fI' j) ∧ Hid (Q wA wr)) (fun i _ => nI - (intOf i).toNat)
 case atStart => exact ⟨0, by omega, rfl, Lib.hid (fun j hj => by omega), Lib.hid (Q.refl wA)⟩
 case round =>
 obtain ⟨k, hk, rfl, J, QR⟩ := hrel
 have k0 : (0 : Int) ≤ (k : Int) := by omega
 have ma := (BA.out _ QR.out).at_ 0 _ rfl
 have mb := (BB.out _ QR.out).at_ 0 _ rfl
 by_cases hlt : k < nI
 · have k1 : (k : Int) < (nI : Int) := by omega
   obtain ⟨b, off, rfl, hrow⟩ := (HI.out.q QR.out).some_ (by omega)
   obtain ⟨c0, c1, c2, c3⟩ := in_at (hrow k hlt)
   obtain ⟨b', off', rfl, hrow'⟩ := (HI'.out.q QR.out).some_ (by omega)
   obtain ⟨d0, d1, d2, d3⟩ := in_at (hrow' k hlt)
   clear hrow hrow'
   by_cases hp : fI k = fI' k
   · have J' : Hid (∀ j, j < k + 1 → fI j = fI' j) := fun j hj => by
      by_cases e : j = k
      · rw [e]; exact hp
      · exact J.out j (by omega)
     rw [← hp] at d0 d1 d2 d3
     clear J hp
     generalize fI k = x at *
     go_wp2_with fail
     go_quiet (fail)
     go_wp2_with fail
     have Q1 := Lib.hid (QR.out.drewN nq)
     go_roundw
     case rel => exact ⟨k + 1, by omega, by go_num, J', Q1⟩
     case measure => simp [intOf]; omega
   · have NN : Hid (∀ w, Q wA w → Tells PR w0 (.returned (.bool false)) w) := fun w q => NO.out w q (fun y => hp (y.1.2 k hlt))
     have HN := Lib.hid hp
     clear J hp NO
     generalize fI k = x at *
     generalize fI' k = y at *
     obtain ⟨x0, x1, x2, x3⟩ := x
     obtain ⟨y0, y1, y2, y3⟩ := y
     by_cases e0 : x0 = y0
     rotate_left
     · clear HN
       have t1e0 : (x0.toList == y0.toList) = false := by rw [← Bool.not_eq_true, beq_tl]; exact e0
       have t2e0 : x0.toList ≠ y0.toList := by rw [ne_eq, tl_inj]; exact e0
       go_wp2_with fail
       go_quiet (fail)
       go_wp2_with fail
       go_ret
       exact NN.out _ (QR.out.drewN nq)
     subst e0
     by_cases e1 : x1 = y1
     rotate_left
     · clear HN
       have t1e1 : (x1 == y1) = false := by simpa using e1
       go_wp2_with fail
       go_quiet (fail)
       go_wp2_with fail
       go_ret
       exact NN.out _ (QR.out.drewN nq)
     subst e1
     by_cases e2 : x2 = y2
     rotate_left
     · clear HN
       have t1e2 : (x2 == y2) = false := by simpa using e2
       go_wp2_with fail
       go_quiet (fail)
       go_wp2_with fail
       go_ret
       exact NN.out _ (QR.out.drewN nq)
     subst e2
     by_cases e3 : x3 = y3
     rotate_left
     · clear HN
       have t1e3 : (x3.toList == y3.toList) = false := by rw [← Bool.not_eq_true, beq_tl]; exact e3
       have t2e3 : x3.toList ≠ y3.toList := by rw [ne_eq, tl_inj]; exact e3
       go_wp2_with fail
       go_quiet (fail)
       go_wp2_with fail
       go_ret
       exact NN.out _ (QR.out.drewN nq)
     subst e3
     exact absurd rfl HN.out
 · obtain rfl : nI = k := by omega
   have k1 : ¬ (nI : Int) < (nI : Int) := by omega
   have t3 : decide (nI < nI) = false := by simp
   go_wp2_with fail
   clear ma mb k1 t3 k0 hk hlt
   have JI := Lib.hid J.out
   clear J
   have QI := Lib.hid QR.out
   clear QR
   as_aux_lemma =>
   go_loopw [6] (fun i wr => ∃ k : Nat, k ≤ nO ∧ i = .int .i64 k ∧ Hid (∀ j, j < k → fO j = fO' j) ∧ Hid (Q wA wr)) (fun i _ => nO - (intOf i).toNat)
   case atStart => exact ⟨0, by omega, rfl, Lib.hid (fun j hj => by omega), QI⟩
   case round =>
   obtain ⟨k, hk, rfl, J, QR⟩ := hrel
   have k0 : (0 : Int) ≤ (k : Int) := by omega
   have ma := (BA.out _ QR.out).at_ 1 _ rfl
   have mb := (BB.out _ QR.out).at_ 1 _ rfl
   by_cases hlt : k < nO
   · have k1 : (k : Int) < (nO : Int) := by omega
     obtain ⟨b, off, rfl, hrow⟩ := (HO.out.q QR.out).some_ (by omega)
     obtain ⟨c0, c1, c2, c3, c4, c5, c6, c7, c8⟩ := out_at (hrow k hlt)
     obtain ⟨b', off', rfl, hrow'⟩ := (HO'.out.q QR.out).some_ (by omega)
     obtain ⟨d0, d1, d2, d3, d4, d5, d6, d7, d8⟩ := out_at (hrow' k hlt)
     clear hrow hrow'
     by_cases hp : fO k = fO' k
     · have J' : Hid (∀ j, j < k + 1 → fO j = fO' j) := fun j hj => by
        by_cases e : j = k
        · rw [e]; exact hp
        · exact J.out j (by omega)
       rw [← hp] at d0 d1 d2 d3 d4 d5 d6 d7 d8
       clear J hp
       generalize fO k = x at *
       go_wp2_with fail
       go_quiet (fail)
       go_wp2_with fail
       have Q1 := Lib.hid (QR.out.drewN nq)
       go_roundw
       case rel => exact ⟨k + 1, by omega, by go_num, J', Q1⟩
       case measure => simp [intOf]; omega
     · have NN : Hid (∀ w, Q wA w → Tells PR w0 (.returned (.bool false)) w) := fun w q => NO.out w q (fun y => hp (y.2.1.2 k hlt))
       have HN := Lib.hid hp
       clear J hp NO
       generalize fO k = x at *
       generalize fO' k = y at *
       obtain ⟨x0, x1, x2, x3, x4, x5, x6, x7, x8⟩ := x
       obtain ⟨y0, y1, y2, y3, y4, y5, y6, y7, y8⟩ := y
       by_cases e0 : x0 = y0
       rotate_left
       · clear HN
         have t1e0 : (x0 == y0) = false := by simpa using e0
         go_wp2_with fail
         go_quiet (fail)
         go_wp2_with fail
         go_ret
         exact NN.out _ (QR.out.drewN nq)
       subst e0
       by_cases e1 : x1 = y1
       rotate_left
       · clear HN
         have t1e1 : (x1 == y1) = false := by simpa using e1
         go_wp2_with fail
         go_quiet (fail)
         go_wp2_with fail
         go_ret
         exact NN.out _ (QR.out.drewN nq)
       subst e1
       by_cases e2 : x2 = y2
       rotate_left
       · clear HN
         have t1e2 : (x2.toList == y2.toList) = false := by rw [← Bool.not_eq_true, beq_tl]; exact e2
         have t2e2 : x2.toList ≠ y2.toList := by rw [ne_eq, tl_inj]; exact e2
         go_wp2_with fail
         go_quiet (fail)
         go_wp2_with fail
         go_ret
         exact NN.out _ (QR.out.drewN nq)
       subst e2
       by_cases e3 : x3 = y3
       rotate_left
       · clear HN
         have t1e3 : (x3.toList == y3.toList) = false := by rw [← Bool.not_eq_true, beq_tl]; exact e3
         have t2e3 : x3.toList ≠ y3.toList := by rw [ne_eq, tl_inj]; exact e3
         go_wp2_with fail
         go_quiet (fail)
         go_wp2_with fail
         go_ret
         exact NN.out _ (QR.out.drewN nq)
       subst e3
       by_cases e4 : x4 = y4
       rotate_left
       · clear HN
         have t1e4 : (x4 == y4) = false := by simpa using e4
         go_wp2_with fail
         go_quiet (fail)
         go_wp2_with fail
         go_ret
         exact NN.out _ (QR.out.drewN nq)
       subst e4
       by_cases e5 : x5 = y5
       rotate_left
       · clear HN
         have t1e5 : (x5.toList == y5.toList) = false := by rw [← Bool.not_eq_true, beq_tl]; exact e5
         have t2e5 : x5.toList ≠ y5.toList := by rw [ne_eq, tl_inj]; exact e5
         go_wp2_with fail
         go_quiet (fail)
         go_wp2_with fail
         go_ret
         exact NN.out _ (QR.out.drewN nq)
       subst e5
       by_cases e6 : x6 = y6
       rotate_left
       · clear HN
         have t1e6 : (x6 == y6) = false := by simpa using e6
         go_wp2_with fail
         go_quiet (fail)
         go_wp2_with fail
         go_ret
         exact NN.out _ (QR.out.drewN nq)
       subst e6
       by_cases e7 : x7 = y7
       rotate_left
       · clear HN
         have t1e7 : (x7 == y7) = false := by simpa using e7
         go_wp2_with fail
         go_quiet (fail)
         go_wp2_with fail
         go_ret
         exact NN.out _ (QR.out.drewN nq)
       subst e7
       by_cases e8 : x8 = y8
       rotate_left
       · clear HN
         have t1e8 : (x8.toList == y8.toList) = false := by rw [← Bool.not_eq_true, beq_tl]; exact e8
         have t2e8 : x8.toList ≠ y8.toList := by rw [ne_eq, tl_inj]; exact e8
         go_wp2_with fail
         go_quiet (fail)
         go_wp2_with fail
         go_ret
         exact NN.out _ (QR.out.drewN nq)
       subst e8
       exact absurd rfl HN.out
   · obtain rfl : nO = k := by omega
     have k1 : ¬ (nO : Int) < (nO : Int) := by omega
     have t3 : decide (nO < nO) = false := by simp
     have EQ : Hid (SamP ⟨am, sg, tk, nW, fW⟩ ⟨am', sg', tk', nW', fW'⟩ ↔ SamT ⟨nI, fI, nO, fO, ⟨am, sg, tk, nW, fW⟩⟩ ⟨nI, fI', nO, fO', ⟨am', sg', tk', nW', fW'⟩⟩) := ⟨fun y => ⟨⟨rfl, JI.out⟩, ⟨rfl, J.out⟩, y⟩, fun y => y.2.2⟩
     clear JI J NO
     have a2 := (BA.out _ QR.out).at_ 2 _ rfl
     have c2 := (BB.out _ QR.out).at_ 2 _ rfl
     have a3 := (BA.out _ QR.out).at_ 3 _ rfl
     have c3 := (BB.out _ QR.out).at_ 3 _ rfl
     have a4 := (BA.out _ QR.out).at_ 4 _ rfl
     have c4 := (BB.out _ QR.out).at_ 4 _ rfl
     have a5 := (BA.out _ QR.out).at_ 5 _ rfl
     have c5 := (BB.out _ QR.out).at_ 5 _ rfl
     go_wp2_with fail
     refine (d8same_x ⟨am, sg, tk, nW, fW⟩ ⟨am', sg', tk', nW', fW'⟩ aW cW aW' cW' _ (HW.out.q QR.out) (HW'.out.q QR.out) zW zW').mono ?_
     rintro e w7 ⟨b, rfl, h2, h3⟩
     have FF := Lib.hid (FIN.out _ _ _ QR.out EQ.out ⟨b, rfl, h2, h3⟩)
     clear FIN EQ h2 h3 BA BB
     go_wp2_with fail
     go_ret
     exact FF.out
end Go.Proofs.YtobfgljkckcmcaaGreatDoor.Coi
