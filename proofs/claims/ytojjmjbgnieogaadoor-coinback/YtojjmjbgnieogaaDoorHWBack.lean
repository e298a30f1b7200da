/-
  Layer 9: CoinBack's walk.
-/
import Derived.Test.YtojjmjbgnieogaaDoorHWNames
namespace Go.Proofs.YtojjmjbgnieogaaDoor.Coi
open Go.RowKit
open Mem Num Cod Sh Plan
set_option linter.unusedVariables false
set_option linter.unusedSimpArgs false

theorem ne_list {s : ByteArray} (h : 0 < s.size) : s.toList.isEmpty = false := by
  rw [ByteArray.toList_eq]
  obtain ⟨⟨l⟩⟩ := s
  cases l with
  | nil => exact absurd h (by decide)
  | cons a l => rfl
theorem txB_size (t : TX) (h : RightT t) : (txB t).size ≤ 10000 := by
  have z1 := coreS_size t h
  have z2 := pfB_size t.p h.2.2.2.2.2.2.2
  have z3 := catN_size (fun i => blobS (t.ins i).sig) 402 t.nI (fun i hi => by have := (h.2.2.1 i hi).2.2.2.2.2; rw [blobS_size]; omega)
  have z4 := h.2.1
  unfold txB
  simp only [ByteArray.size_append, blobS_size]
  have : t.nI * 402 ≤ 4 * 402 := Nat.mul_le_mul_right _ z4
  omega
/-- A transaction that was decoded, in a variable: where its lists lie. -/
theorem de_small {s : ByteArray} (h : deE IntKind.i64.wrap s = 0) (hs : s.size ≤ 1000000) : RightT (deV IntKind.i64.wrap s) ∧ txB (deV IntKind.i64.wrap s) = s := de_back small_wrap h
set_option maxHeartbeats 40000000 in
set_option maxRecDepth 100000 in
theorem back_walk (W : World) (hG : GL W) (z : TXI) (hz : z.In W) (sig : ByteArray) (hsig : sig.size ≤ maxLen) :
    Calls Tryd.prog 3 #[z.val, .string sig] W fun e W' => e = .returned (.bool true) ∧ Below W.heap.size W W' := by
  obtain ⟨t, bI, dI, bO, dO, bW, dW⟩ := z
  obtain ⟨HI, HO, HW, ha, hsg, htk⟩ := hz
  dsimp only at HI HO HW ha hsg htk
  dsimp only [TXI.val]
  obtain ⟨T, hT⟩ : ∃ T, cutX t = T := ⟨_, rfl⟩
  obtain ⟨sg, hs⟩ : ∃ z, sig.extract 0 (min (sig.size : Int) 6000).toNat = z := ⟨_, rfl⟩
  have OK : Hid (T.ok) := by show T.ok; rw [← hT]; exact cutX_ok HI.ok HO.ok ha HW.ok
  have OS : Hid (sg.size ≤ 1000000) := by show sg.size ≤ _; rw [← hs]; exact cut_1m sig 6000 rfl (by decide)
  have h4 : sig.size ≤ 9223372036854775807 := by unfold maxLen at hsig; omega
  have C1 := Lib.hid hT
  have e4 := Lib.hid hs
  clear hT hs hsig
  have hG := Lib.hid hG
  have HI := Lib.hid HI
  have HO := Lib.hid HO
  have HW := Lib.hid HW
  go_enter Tryd.func3, Tryd.ntmps3
  go_wp2_with (with_reducible (show wpList _ _ _ (⟨_, Op.load 29 _, _, _, _, _⟩ :: _) _ _); refine halt ?_)
  have QA : Hid (Q W (W.alloc (.cells #[.slice bI t.nI dI, .slice bO t.nO dO, .int .u64 t.p.amount, .string t.p.sig, .string t.p.token, .slice bW t.p.n dW] 29))) := (Q.refl W).alloc _
  have B2 : Hid (Box (W.alloc (.cells #[.slice bI t.nI dI, .slice bO t.nO dO, .int .u64 t.p.amount, .string t.p.sig, .string t.p.token, .slice bW t.p.n dW] 29)) W.heap.size [.slice bI t.nI dI, .slice bO t.nO dO, .int .u64 t.p.amount, .string t.p.sig, .string t.p.token, .slice bW t.p.n dW]) := Box.new W [.slice bI t.nI dI, .slice bO t.nO dO, .int .u64 t.p.amount, .string t.p.sig, .string t.p.token, .slice bW t.p.n dW] 29
  generalize W.alloc (.cells #[.slice bI t.nI dI, .slice bO t.nO dO, .int .u64 t.p.amount, .string t.p.sig, .string t.p.token, .slice bW t.p.n dW] 29) = wA at *
  obtain ⟨b2, hb2⟩ : ∃ b, W.heap.size = b := ⟨_, rfl⟩
  rw [hb2] at B2 ⊢
  refine Lib.hid (ld_box rfl 29 _ rfl b2 _ rfl B2.out Tryd.underlying29 rfl (by kernel_rfl) ?_)
  go_wp2_with fail
  refine (cut_x t T C1.out bI dI bO dO bW dW _ (HI.out.q QA.out) (HO.out.q QA.out) (HW.out.q QA.out) hsg htk).mono ?_
  rintro e w1 ⟨aI, cI, aO, cO, aW, cW, rfl, o1, _, _, q1⟩
  go_wp2_with (with_reducible (show wpList _ _ _ (⟨_, Op.store 29 _ _, _, _, _, _⟩ :: _) _ _); refine halt ?_)
  refine Lib.hid (st_box rfl 29 _ _ rfl b2 _ [.slice aI T.nI cI, .slice aO T.nO cO, .int .u64 T.p.amount, .string T.p.sig, .string T.p.token, .slice aW T.p.n cW] rfl rfl (B2.out.q q1) rfl (by kernel_rfl) (one6 rfl rfl rfl rfl rfl rfl) ?_)
  intro w2 B2' c2
  have TB2 : Hid (TB w2 b2 T aI cI aO cO aW cW) := ⟨B2', (o1.low c2 B2.out.lt).tm⟩
  have Q2 : Hid (Q W w2) := c2.q (QA.out.trans q1) (by omega)
  clear c2 B2' o1 q1 B2 QA HI HO HW C1
  as_aux_lemma =>
  have e4' := e4.out
  go_wp2_with (with_reducible (show wpList _ _ _ (⟨_, Op.load 29 _, _, _, _, _⟩ :: _) _ _); refine halt ?_)
  clear e4'
  refine Lib.hid (ld_box rfl 29 _ rfl b2 _ rfl TB2.out.box Tryd.underlying29 rfl (by kernel_rfl) ?_)
  go_wp2_with fail
  refine (encode_x T aI aO aW cI cO cW _ TB2.out.tm OK.out).mono ?_
  rintro e w3 ⟨x, rfl, hx, q3⟩
  have TB3 := Lib.hid (TB2.out.q q3)
  have Q3 := Lib.hid (Q2.out.trans q3)
  clear TB2 Q2 q3
  have zx : Hid (x.size ≤ 1000000) := by
    rcases hx with ⟨R, rfl⟩ | ⟨_, rfl⟩
    · exact Nat.le_trans (txB_size T R) (by decide)
    · exact Nat.zero_le _
  have hx := Lib.hid hx
  go_wp2_with fail
  refine (decode_x x zx.out _).mono ?_
  rintro e w4 ⟨uI, eI, uO, eO, uW, eW, rfl, hm, q4⟩
  obtain ⟨U, hU⟩ : ∃ U, deV IntKind.i64.wrap x = U := ⟨_, rfl⟩
  obtain ⟨er, her⟩ : ∃ z, deE IntKind.i64.wrap x = z := ⟨_, rfl⟩
  rw [hU, her]
  rw [hU] at hm
  have HU := Lib.hid hU
  have HER := Lib.hid her
  clear hU her
  go_wp2_with (with_reducible (show wpList _ _ _ (⟨_, Op.alloc 29, _, _, _, _⟩ :: _) _ _); refine halt ?_)
  refine wpList_allocZ rfl 29 rfl #[.slice none 0 0, .slice none 0 0, .int .u64 0, .string ⟨#[]⟩, .string ⟨#[]⟩, .slice none 0 0] zeroT ?_
  refine st_box rfl 29 _ _ rfl w4.heap.size _ [.slice uI U.nI eI, .slice uO U.nO eO, .int .u64 U.p.amount, .string U.p.sig, .string U.p.token, .slice uW U.p.n eW] rfl rfl (Box.new w4 [.slice none 0 0, .slice none 0 0, .int .u64 0, .string ⟨#[]⟩, .string ⟨#[]⟩, .slice none 0 0] 29) rfl (by kernel_rfl) (one6 rfl rfl rfl rfl rfl rfl) ?_
  intro w5 B6 c5
  have q5 : Q w4 w5 := c5.q ((Q.refl w4).alloc _) (Nat.le_refl _)
  have TB5 := Lib.hid ((TB3.out.q q4).q q5)
  have UB5 : Hid (TB w5 w4.heap.size U uI eI uO eO uW eW) := ⟨B6, hm.q q5⟩
  have Q5 := Lib.hid ((Q3.out.trans q4).trans q5)
  clear c5 B6 hm q4 q5 TB3 Q3
  generalize w4.heap.size = b6 at *
  as_aux_lemma =>
  go_wp2_with (with_reducible (show wpList _ _ _ (⟨_, Op.load 29 _, _, _, _, _⟩ :: _) _ _); refine halt ?_)
  refine Lib.hid (ld_box rfl 29 _ rfl b2 _ rfl TB5.out.box Tryd.underlying29 rfl (by kernel_rfl) ?_)
  go_wp2_with fail
  refine (right_x T aI aO aW cI cO cW _ TB5.out.tm OK.out).mono ?_
  rintro e w6 ⟨b, rfl, hz, q6⟩
  have TB6 := Lib.hid (TB5.out.q q6)
  have UB6 := Lib.hid (UB5.out.q q6)
  have Q6 := Lib.hid (Q5.out.trans q6)
  clear TB5 UB5 Q5 q6
  rcases two hz with ⟨rfl, Z⟩ | ⟨rfl, Z⟩
  · obtain ⟨R, rfl⟩ : RightT T ∧ x = txB T := hx.out.resolve_right fun h => h.1 Z
    have Z1 := Lib.hid Z
    clear Z hz
    obtain ⟨d1, d2⟩ := de_ok small_wrap T R OK.out
    rw [HER.out] at d1
    rw [HU.out] at d2
    subst d1
    have D2 := Lib.hid d2
    clear d2 R hx
    have KU : Hid (U.ok) := by show U.ok; rw [← HU.out]; exact deV_ok small_wrap _
    obtain ⟨xx, hxx⟩ : ∃ z, txB T = z := ⟨_, rfl⟩
    have px : 0 < xx.size := by rw [← hxx]; exact txB_pos T
    rw [hxx] at HER HU zx ⊢
    have n1 := ne_list px
    have PX := Lib.hid px
    clear px hxx
    go_wp2_with (with_reducible (show wpList _ _ _ (⟨_, Op.load 29 _, _, _, _, _⟩ :: _) _ _); refine halt ?_)
    refine Lib.hid (ld_boxg (by kernel_rfl) 29 _ rfl b2 _ rfl TB6.out.box Tryd.underlying29 rfl (by kernel_rfl) ?_)
    go_wp2_with (with_reducible (show wpList _ _ _ (⟨_, Op.load 29 _, _, _, _, _⟩ :: _) _ _); refine halt ?_)
    refine Lib.hid (ld_boxg (by kernel_rfl) 29 _ rfl b6 _ rfl UB6.out.box Tryd.underlying29 rfl (by kernel_rfl) ?_)
    go_wp2_with fail
    refine (same_x T U aI aO aW uI uO uW cI cO cW eI eO eW _ TB6.out.tm UB6.out.tm OK.out KU.out).mono ?_
    rintro e w7 ⟨b, rfl, hz, q7⟩
    have Q7 := Lib.hid (Q6.out.trans q7)
    obtain rfl : b = true := hz.2 D2.out.symm
    clear hz q7 TB6 UB6 Q6 n1
    as_aux_lemma =>
    go_wp2_with fail
    refine (decode_x sg OS.out _).mono ?_
    rintro e w8 ⟨vI, fI, vO, fO, vW, fW, rfl, hm, q8⟩
    obtain ⟨V, hV⟩ : ∃ U, deV IntKind.i64.wrap sg = U := ⟨_, rfl⟩
    obtain ⟨ef, hef⟩ : ∃ z, deE IntKind.i64.wrap sg = z := ⟨_, rfl⟩
    rw [hV, hef]
    rw [hV] at hm
    have HV := Lib.hid hV
    have HEF := Lib.hid hef
    clear hV hef
    go_wp2_with (with_reducible (show wpList _ _ _ (⟨_, Op.alloc 29, _, _, _, _⟩ :: _) _ _); refine halt ?_)
    refine wpList_allocZ rfl 29 rfl #[.slice none 0 0, .slice none 0 0, .int .u64 0, .string ⟨#[]⟩, .string ⟨#[]⟩, .slice none 0 0] zeroT ?_
    refine st_box rfl 29 _ _ rfl w8.heap.size _ [.slice vI V.nI fI, .slice vO V.nO fO, .int .u64 V.p.amount, .string V.p.sig, .string V.p.token, .slice vW V.p.n fW] rfl rfl (Box.new w8 [.slice none 0 0, .slice none 0 0, .int .u64 0, .string ⟨#[]⟩, .string ⟨#[]⟩, .slice none 0 0] 29) rfl (by kernel_rfl) (one6 rfl rfl rfl rfl rfl rfl) ?_
    intro w9 B8 c9
    have q9 : Q w8 w9 := c9.q ((Q.refl w8).alloc _) (Nat.le_refl _)
    have VB : Hid (TB w9 w8.heap.size V vI fI vO fO vW fW) := ⟨B8, hm.q q9⟩
    have Q9 := Lib.hid ((Q7.out.trans q8).trans q9)
    clear c9 B8 hm q8 q9 Q7
    generalize w8.heap.size = b8 at *
    by_cases hf : ef = 0
    · subst hf
      obtain ⟨RV, EV⟩ := de_small HEF.out OS.out
      rw [HV.out] at RV EV
      have KV : Hid (V.ok) := by show V.ok; rw [← HV.out]; exact deV_ok small_wrap _
      have RV := Lib.hid RV
      have EV := Lib.hid EV
      go_wp2_with (with_reducible (show wpList _ _ _ (⟨_, Op.load 29 (.tmp 8), _, _, _, _⟩ :: _) _ _); refine halt ?_)
      refine Lib.hid (ld_boxg (by kernel_rfl) 29 _ rfl b8 _ rfl VB.out.box Tryd.underlying29 rfl (by kernel_rfl) ?_)
      go_wp2_with fail
      refine (right_x V vI vO vW fI fO fW _ VB.out.tm KV.out).mono ?_
      rintro e w10 ⟨b, rfl, hz, q10⟩
      have VB1 := Lib.hid (VB.out.q q10)
      have Q10 := Lib.hid (Q9.out.trans q10)
      obtain rfl : b = true := hz.2 RV.out
      clear hz VB Q9 q10
      go_wp2_with (with_reducible (show wpList _ _ _ (⟨_, Op.load 29 _, _, _, _, _⟩ :: _) _ _); refine halt ?_)
      refine Lib.hid (ld_boxg (by kernel_rfl) 29 _ rfl b8 _ rfl VB1.out.box Tryd.underlying29 rfl (by kernel_rfl) ?_)
      go_wp2_with fail
      refine (encode_x V vI vO vW fI fO fW _ VB1.out.tm KV.out).mono ?_
      intro e w11 he
      obtain ⟨rfl, q11⟩ := he.val RV.out
      rw [EV.out]
      have Q11 := Lib.hid (Q10.out.trans q11)
      clear he q11 Q10 VB1
      go_wp2_with fail
      refine (fixed_x hG.out _ Q11.out).mono ?_
      rintro e w12 ⟨rfl, q12⟩
      go_wp2_with fail
      go_ret
      exact ⟨rfl, q12⟩
    · have hf' : decide (ef = 0) = false := by simpa using hf
      go_wp2_with fail
      refine (fixed_x hG.out _ Q9.out).mono ?_
      rintro e w12 ⟨rfl, q12⟩
      go_wp2_with fail
      go_ret
      exact ⟨rfl, q12⟩
  · obtain ⟨R, rfl⟩ : ¬ RightT T ∧ x = ⟨#[]⟩ := hx.out.resolve_left fun h => Z h.1
    clear Z hz hx R
    clear TB6 UB6
    as_aux_lemma =>
    go_wp2_with fail
    refine (decode_x sg OS.out _).mono ?_
    rintro e w8 ⟨vI, fI, vO, fO, vW, fW, rfl, hm, q8⟩
    obtain ⟨V, hV⟩ : ∃ U, deV IntKind.i64.wrap sg = U := ⟨_, rfl⟩
    obtain ⟨ef, hef⟩ : ∃ z, deE IntKind.i64.wrap sg = z := ⟨_, rfl⟩
    rw [hV, hef]
    rw [hV] at hm
    have HV := Lib.hid hV
    have HEF := Lib.hid hef
    clear hV hef
    go_wp2_with (with_reducible (show wpList _ _ _ (⟨_, Op.alloc 29, _, _, _, _⟩ :: _) _ _); refine halt ?_)
    refine wpList_allocZ rfl 29 rfl #[.slice none 0 0, .slice none 0 0, .int .u64 0, .string ⟨#[]⟩, .string ⟨#[]⟩, .slice none 0 0] zeroT ?_
    refine st_box rfl 29 _ _ rfl w8.heap.size _ [.slice vI V.nI fI, .slice vO V.nO fO, .int .u64 V.p.amount, .string V.p.sig, .string V.p.token, .slice vW V.p.n fW] rfl rfl (Box.new w8 [.slice none 0 0, .slice none 0 0, .int .u64 0, .string ⟨#[]⟩, .string ⟨#[]⟩, .slice none 0 0] 29) rfl (by kernel_rfl) (one6 rfl rfl rfl rfl rfl rfl) ?_
    intro w9 B8 c9
    have q9 : Q w8 w9 := c9.q ((Q.refl w8).alloc _) (Nat.le_refl _)
    have VB : Hid (TB w9 w8.heap.size V vI fI vO fO vW fW) := ⟨B8, hm.q q9⟩
    have Q9 := Lib.hid ((Q6.out.trans q8).trans q9)
    clear c9 B8 hm q8 q9 Q6
    generalize w8.heap.size = b8 at *
    by_cases hf : ef = 0
    · subst hf
      obtain ⟨RV, EV⟩ := de_small HEF.out OS.out
      rw [HV.out] at RV EV
      have KV : Hid (V.ok) := by show V.ok; rw [← HV.out]; exact deV_ok small_wrap _
      have RV := Lib.hid RV
      have EV := Lib.hid EV
      go_wp2_with (with_reducible (show wpList _ _ _ (⟨_, Op.load 29 (.tmp 8), _, _, _, _⟩ :: _) _ _); refine halt ?_)
      refine Lib.hid (ld_boxg (by kernel_rfl) 29 _ rfl b8 _ rfl VB.out.box Tryd.underlying29 rfl (by kernel_rfl) ?_)
      go_wp2_with fail
      refine (right_x V vI vO vW fI fO fW _ VB.out.tm KV.out).mono ?_
      rintro e w10 ⟨b, rfl, hz, q10⟩
      have VB1 := Lib.hid (VB.out.q q10)
      have Q10 := Lib.hid (Q9.out.trans q10)
      obtain rfl : b = true := hz.2 RV.out
      clear hz VB Q9 q10
      go_wp2_with (with_reducible (show wpList _ _ _ (⟨_, Op.load 29 _, _, _, _, _⟩ :: _) _ _); refine halt ?_)
      refine Lib.hid (ld_boxg (by kernel_rfl) 29 _ rfl b8 _ rfl VB1.out.box Tryd.underlying29 rfl (by kernel_rfl) ?_)
      go_wp2_with fail
      refine (encode_x V vI vO vW fI fO fW _ VB1.out.tm KV.out).mono ?_
      intro e w11 he
      obtain ⟨rfl, q11⟩ := he.val RV.out
      rw [EV.out]
      have Q11 := Lib.hid (Q10.out.trans q11)
      clear he q11 Q10 VB1
      go_wp2_with fail
      refine (fixed_x hG.out _ Q11.out).mono ?_
      rintro e w12 ⟨rfl, q12⟩
      go_wp2_with fail
      go_ret
      exact ⟨rfl, q12⟩
    · have hf' : decide (ef = 0) = false := by simpa using hf
      go_wp2_with fail
      refine (fixed_x hG.out _ Q9.out).mono ?_
      rintro e w12 ⟨rfl, q12⟩
      go_wp2_with fail
      go_ret
      exact ⟨rfl, q12⟩
end Go.Proofs.YtojjmjbgnieogaaDoor.Coi
