/-
  Layer 10: BlockBack's walk.
-/
import Derived.Test.YtbdbojkfhnclhaaGreatDoorHBloS
namespace Go.Proofs.YtbdbojkfhnclhaaGreatDoor.Coi
open Go.RowKit
open Mem Num Cod Sh Plan
set_option linter.unusedVariables false
set_option linter.unusedSimpArgs false

theorem ne_list' {s : ByteArray} (h : 0 < s.size) : s.toList.isEmpty = false := by
  rw [ByteArray.toList_eq]
  obtain ⟨⟨l⟩⟩ := s
  cases l with
  | nil => exact absurd h (by decide)
  | cons a l => rfl
theorem ld_boxg2 {P : Program} {ops : Array Oper} {rest : List Oper} {op : Oper} {a : Act} {w : World} {Q : Exit → Act → World → Prop} (hgd : Region.wanted op (yielded ops a.tmps) = true) (ty : TypeId) (x : Operand) (ho : op.op = .load ty x)
    (b : Nat) (cs : List Value) (hx : a.eval x = .pointer (some ⟨b, 0, none⟩)) (hB : Box w b cs) {d : TypeDesc} (hu : P.underlying ty = some d) (hd : d.isRow = true) (hi : (P.info? ty).map (·.size) = some cs.length)
    (h : wpList P ops Q rest (a.put op.dst (.agg cs.toArray)) w) : wpList P ops Q (op :: rest) a w :=
  wpList_step fun K hK => by
    rw [if_pos hgd]
    unfold Oper.wp
    rw [ex_loado ty ho b 0 cs d hx (hB.rangeo 0 (r := []) (by simp)) hu hd hi, Oper.upon_value]
    exact hK _ _ h
set_option maxHeartbeats 40000000 in
set_option maxRecDepth 100000 in
theorem bback_walk (W : World) (hG : GL W) (z : BKI) (hz : z.In W) (sig : ByteArray) (hsig : sig.size ≤ maxLen) :
    Calls Tryz.prog 3 #[z.val, .string sig] W fun e W' => e = .returned (.bool true) ∧ Below W.heap.size W W' := by
  dsimp only [BKI.val]
  obtain ⟨sg, hs⟩ : ∃ z, sig.extract 0 (min (sig.size : Int) 20000).toNat = z := ⟨_, rfl⟩
  have OS : Hid (sg.size ≤ 1000000) := by show sg.size ≤ _; rw [← hs]; exact cut_1m sig 20000 rfl (by decide)
  have h4 : sig.size ≤ 9223372036854775807 := by unfold maxLen at hsig; omega
  have e4 := Lib.hid hs
  clear hs hsig
  have hG := Lib.hid hG
  have HZ := Lib.hid hz
  clear hz
  go_enter Tryz.func3, Tryz.ntmps3
  go_wp2_with (with_reducible (show wpList _ _ _ (⟨_, Op.load 24 _, _, _, _, _⟩ :: _) _ _); refine halt ?_)
  have QA : Hid (Q W (W.alloc (.cells #[.int .i64 z.h, .string z.prev, .slice z.a z.n z.c] 24))) := (Q.refl W).alloc _
  have B2 : Hid (Box (W.alloc (.cells #[.int .i64 z.h, .string z.prev, .slice z.a z.n z.c] 24)) W.heap.size [.int .i64 z.h, .string z.prev, .slice z.a z.n z.c]) := Box.new W [.int .i64 z.h, .string z.prev, .slice z.a z.n z.c] 24
  generalize W.alloc (.cells #[.int .i64 z.h, .string z.prev, .slice z.a z.n z.c] 24) = wA at *
  obtain ⟨b2, hb2⟩ : ∃ b, W.heap.size = b := ⟨_, rfl⟩
  rw [hb2] at B2 ⊢
  refine Lib.hid (ld_box rfl 24 _ rfl b2 _ rfl B2.out Tryz.underlying24 rfl (by kernel_rfl) ?_)
  go_wp2_with fail
  refine (bcut_x z _ (BKI.In.q_ HZ.out QA.out)).mono ?_
  rintro e w1 ⟨y, rfl, o1, ok1, is1, q1⟩
  clear is1
  go_wp2_with (with_reducible (show wpList _ _ _ (⟨_, Op.store 24 _ _, _, _, _, _⟩ :: _) _ _); refine halt ?_)
  refine Lib.hid (st_box rfl 24 _ _ rfl b2 _ [.int .i64 y.h, .string y.prev, .slice y.a y.n y.c] rfl rfl (B2.out.q q1) rfl (by kernel_rfl) (one3 rfl rfl rfl) ?_)
  intro w2 B2' c2
  have TB2 : Hid (BB w2 b2 y) := ⟨B2', (o1.low c2 B2.out.lt).tl⟩
  have OK := Lib.hid ok1
  have KT := Lib.hid o1.k
  have Q2 : Hid (Q W w2) := c2.q (QA.out.trans q1) (by omega)
  clear c2 B2' o1 ok1 q1 B2 QA HZ
  as_aux_lemma =>
  have e4' := e4.out
  go_wp2_with (with_reducible (show wpList _ _ _ (⟨_, Op.load 24 _, _, _, _, _⟩ :: _) _ _); refine halt ?_)
  clear e4'
  refine Lib.hid (ld_box rfl 24 _ rfl b2 _ rfl TB2.out.box Tryz.underlying24 rfl (by kernel_rfl) ?_)
  go_wp2_with fail
  refine (bencode_x y _ TB2.out.tl OK.out).mono ?_
  rintro e w3 ⟨x, rfl, hx, q3⟩
  have TB3 := Lib.hid (TB2.out.q q3)
  have Q3 := Lib.hid (Q2.out.trans q3)
  clear TB2 Q2 q3
  have zx : Hid (x.size ≤ 1000000) := by
    rcases hx with ⟨R, rfl⟩ | ⟨_, rfl⟩
    · exact Nat.le_trans (bkK_size y.bk R) (by decide)
    · exact Nat.zero_le _
  have hx := Lib.hid hx
  go_wp2_with fail
  refine (bdecode_x x zx.out _).mono ?_
  rintro e w4 ⟨u, rfl, ul, uk, ui, q4⟩
  obtain ⟨er, her⟩ : ∃ z, bkE IntKind.i64.wrap x = z := ⟨_, rfl⟩
  rw [her]
  dsimp only [BKI.val]
  have UI := Lib.hid ui
  have UK := Lib.hid uk
  have HER := Lib.hid her
  clear her ui uk
  go_wp2_with (with_reducible (show wpList _ _ _ (⟨_, Op.alloc 24, _, _, _, _⟩ :: _) _ _); refine halt ?_)
  refine wpList_allocZ rfl 24 rfl #[.int .i64 0, .string ⟨#[]⟩, .slice none 0 0] zeroBk ?_
  refine st_box rfl 24 _ _ rfl w4.heap.size _ [.int .i64 u.h, .string u.prev, .slice u.a u.n u.c] rfl rfl (Box.new w4 [.int .i64 0, .string ⟨#[]⟩, .slice none 0 0] 24) rfl (by kernel_rfl) (one3 rfl rfl rfl) ?_
  intro w5 B6 c5
  have q5 : Q w4 w5 := c5.q ((Q.refl w4).alloc _) (Nat.le_refl _)
  have TB5 := Lib.hid ((TB3.out.q q4).q q5)
  have UB5 : Hid (BB w5 w4.heap.size u) := ⟨B6, ul.q_ q5⟩
  have Q5 := Lib.hid ((Q3.out.trans q4).trans q5)
  clear c5 B6 ul q4 q5 TB3 Q3
  generalize w4.heap.size = b6 at *
  as_aux_lemma =>
  go_wp2_with (with_reducible (show wpList _ _ _ (⟨_, Op.load 24 _, _, _, _, _⟩ :: _) _ _); refine halt ?_)
  refine Lib.hid (ld_box rfl 24 _ rfl b2 _ rfl TB5.out.box Tryz.underlying24 rfl (by kernel_rfl) ?_)
  go_wp2_with fail
  refine (bright_x y _ TB5.out.tl OK.out).mono ?_
  rintro e w6 ⟨b, rfl, hz, q6⟩
  have TB6 := Lib.hid (TB5.out.q q6)
  have UB6 := Lib.hid (UB5.out.q q6)
  have Q6 := Lib.hid (Q5.out.trans q6)
  clear TB5 UB5 Q5 q6
  rcases two hz with ⟨rfl, Z⟩ | ⟨rfl, Z⟩
  · obtain ⟨R, rfl⟩ : RightB y ∧ x = bkB y := hx.out.resolve_right fun h => h.1 Z
    clear Z hz hx
    obtain ⟨d1, d2⟩ := bk_ok small_wrap y.bk R KT.out
    have d1' : bkE IntKind.i64.wrap (bkB y) = 0 := d1
    rw [HER.out] at d1'
    subst d1'
    have D2 : Hid (SamB y u) := is_same UI.out d2
    clear d1 d2 R
    obtain ⟨xx, hxx⟩ : ∃ z, bkB y = z := ⟨_, rfl⟩
    have px : 0 < xx.size := by rw [← hxx]; exact bkK_pos y.bk
    rw [hxx] at HER UI zx ⊢
    have n1 := ne_list' px
    clear px hxx UI
    go_wp2_with (with_reducible (show wpList _ _ _ (⟨_, Op.load 24 _, _, _, _, _⟩ :: _) _ _); refine halt ?_)
    refine Lib.hid (ld_boxg2 (by kernel_rfl) 24 _ rfl b2 _ rfl TB6.out.box Tryz.underlying24 rfl (by kernel_rfl) ?_)
    go_wp2_with (with_reducible (show wpList _ _ _ (⟨_, Op.load 24 _, _, _, _, _⟩ :: _) _ _); refine halt ?_)
    refine Lib.hid (ld_boxg2 (by kernel_rfl) 24 _ rfl b6 _ rfl UB6.out.box Tryz.underlying24 rfl (by kernel_rfl) ?_)
    go_wp2_with fail
    refine (bsame_x y u _ TB6.out.tl UB6.out.tl OK.out.n UK.out.n).mono ?_
    rintro e w7 ⟨b, rfl, hz, q7⟩
    have Q7 := Lib.hid (Q6.out.trans q7)
    obtain rfl : b = true := hz.2 D2.out
    clear hz q7 TB6 UB6 Q6 n1
    as_aux_lemma =>
    go_wp2_with fail
    refine (bdecode_x sg OS.out _).mono ?_
    rintro e w8 ⟨v, rfl, vl, vk, vi, q8⟩
    obtain ⟨ef, hef⟩ : ∃ z, bkE IntKind.i64.wrap sg = z := ⟨_, rfl⟩
    rw [hef]
    dsimp only [BKI.val]
    have VI := Lib.hid vi
    have VK := Lib.hid vk
    have HEF := Lib.hid hef
    clear vi vk hef
    go_wp2_with (with_reducible (show wpList _ _ _ (⟨_, Op.alloc 24, _, _, _, _⟩ :: _) _ _); refine halt ?_)
    refine wpList_allocZ rfl 24 rfl #[.int .i64 0, .string ⟨#[]⟩, .slice none 0 0] zeroBk ?_
    refine st_box rfl 24 _ _ rfl w8.heap.size _ [.int .i64 v.h, .string v.prev, .slice v.a v.n v.c] rfl rfl (Box.new w8 [.int .i64 0, .string ⟨#[]⟩, .slice none 0 0] 24) rfl (by kernel_rfl) (one3 rfl rfl rfl) ?_
    intro w9 B8 c9
    have q9 : Q w8 w9 := c9.q ((Q.refl w8).alloc _) (Nat.le_refl _)
    have VB : Hid (BB w9 w8.heap.size v) := ⟨B8, vl.q_ q9⟩
    have Q9 := Lib.hid ((Q7.out.trans q8).trans q9)
    clear c9 B8 vl q8 q9 Q7
    generalize w8.heap.size = b8 at *
    by_cases hf : ef = 0
    · subst hf
      obtain ⟨RV, EV⟩ := bkV_back small_wrap HEF.out
      have RV : Hid (RightB v) := (is_right VI.out).2 RV
      have EV : Hid (bkB v = sg) := (is_bk VI.out).trans EV
      go_wp2_with (with_reducible (show wpList _ _ _ (⟨_, Op.load 24 (.tmp 8), _, _, _, _⟩ :: _) _ _); refine halt ?_)
      refine Lib.hid (ld_boxg2 (by kernel_rfl) 24 _ rfl b8 _ rfl VB.out.box Tryz.underlying24 rfl (by kernel_rfl) ?_)
      go_wp2_with fail
      refine (bright_x v _ VB.out.tl VK.out).mono ?_
      rintro e w10 ⟨b, rfl, hz, q10⟩
      have VB1 := Lib.hid (VB.out.q q10)
      have Q10 := Lib.hid (Q9.out.trans q10)
      obtain rfl : b = true := hz.2 RV.out
      clear hz VB Q9 q10
      go_wp2_with (with_reducible (show wpList _ _ _ (⟨_, Op.load 24 _, _, _, _, _⟩ :: _) _ _); refine halt ?_)
      refine Lib.hid (ld_boxg2 (by kernel_rfl) 24 _ rfl b8 _ rfl VB1.out.box Tryz.underlying24 rfl (by kernel_rfl) ?_)
      go_wp2_with fail
      refine (bencode_x v _ VB1.out.tl VK.out).mono ?_
      intro e w11 he
      obtain ⟨rfl, q11⟩ := Enc.v RV.out he
      rw [EV.out]
      have Q11 := Lib.hid (Q10.out.trans q11)
      clear he q11 Q10 VB1
      go_wp2_with fail
      refine (bfixed_x (hG.out.q Q11.out)).mono ?_
      rintro e w12 ⟨rfl, q12⟩
      have q13 := Q11.out.trans q12
      go_wp2_with fail
      go_ret
      exact ⟨rfl, q13⟩
    · have hf' : decide (ef = 0) = false := by simpa using hf
      go_wp2_with fail
      refine (bfixed_x (hG.out.q Q9.out)).mono ?_
      rintro e w12 ⟨rfl, q12⟩
      have q13 := Q9.out.trans q12
      go_wp2_with fail
      go_ret
      exact ⟨rfl, q13⟩
  · obtain ⟨R, rfl⟩ : ¬ RightB y ∧ x = ⟨#[]⟩ := hx.out.resolve_left fun h => Z h.1
    clear Z hz hx R
    clear TB6 UB6
    as_aux_lemma =>
    go_wp2_with fail
    refine (bdecode_x sg OS.out _).mono ?_
    rintro e w8 ⟨v, rfl, vl, vk, vi, q8⟩
    obtain ⟨ef, hef⟩ : ∃ z, bkE IntKind.i64.wrap sg = z := ⟨_, rfl⟩
    rw [hef]
    dsimp only [BKI.val]
    have VI := Lib.hid vi
    have VK := Lib.hid vk
    have HEF := Lib.hid hef
    clear vi vk hef
    go_wp2_with (with_reducible (show wpList _ _ _ (⟨_, Op.alloc 24, _, _, _, _⟩ :: _) _ _); refine halt ?_)
    refine wpList_allocZ rfl 24 rfl #[.int .i64 0, .string ⟨#[]⟩, .slice none 0 0] zeroBk ?_
    refine st_box rfl 24 _ _ rfl w8.heap.size _ [.int .i64 v.h, .string v.prev, .slice v.a v.n v.c] rfl rfl (Box.new w8 [.int .i64 0, .string ⟨#[]⟩, .slice none 0 0] 24) rfl (by kernel_rfl) (one3 rfl rfl rfl) ?_
    intro w9 B8 c9
    have q9 : Q w8 w9 := c9.q ((Q.refl w8).alloc _) (Nat.le_refl _)
    have VB : Hid (BB w9 w8.heap.size v) := ⟨B8, vl.q_ q9⟩
    have Q9 := Lib.hid ((Q6.out.trans q8).trans q9)
    clear c9 B8 vl q8 q9 Q6
    generalize w8.heap.size = b8 at *
    by_cases hf : ef = 0
    · subst hf
      obtain ⟨RV, EV⟩ := bkV_back small_wrap HEF.out
      have RV : Hid (RightB v) := (is_right VI.out).2 RV
      have EV : Hid (bkB v = sg) := (is_bk VI.out).trans EV
      go_wp2_with (with_reducible (show wpList _ _ _ (⟨_, Op.load 24 (.tmp 8), _, _, _, _⟩ :: _) _ _); refine halt ?_)
      refine Lib.hid (ld_boxg2 (by kernel_rfl) 24 _ rfl b8 _ rfl VB.out.box Tryz.underlying24 rfl (by kernel_rfl) ?_)
      go_wp2_with fail
      refine (bright_x v _ VB.out.tl VK.out).mono ?_
      rintro e w10 ⟨b, rfl, hz, q10⟩
      have VB1 := Lib.hid (VB.out.q q10)
      have Q10 := Lib.hid (Q9.out.trans q10)
      obtain rfl : b = true := hz.2 RV.out
      clear hz VB Q9 q10
      go_wp2_with (with_reducible (show wpList _ _ _ (⟨_, Op.load 24 _, _, _, _, _⟩ :: _) _ _); refine halt ?_)
      refine Lib.hid (ld_boxg2 (by kernel_rfl) 24 _ rfl b8 _ rfl VB1.out.box Tryz.underlying24 rfl (by kernel_rfl) ?_)
      go_wp2_with fail
      refine (bencode_x v _ VB1.out.tl VK.out).mono ?_
      intro e w11 he
      obtain ⟨rfl, q11⟩ := Enc.v RV.out he
      rw [EV.out]
      have Q11 := Lib.hid (Q10.out.trans q11)
      clear he q11 Q10 VB1
      go_wp2_with fail
      refine (bfixed_x (hG.out.q Q11.out)).mono ?_
      rintro e w12 ⟨rfl, q12⟩
      have q13 := Q11.out.trans q12
      go_wp2_with fail
      go_ret
      exact ⟨rfl, q13⟩
    · have hf' : decide (ef = 0) = false := by simpa using hf
      go_wp2_with fail
      refine (bfixed_x (hG.out.q Q9.out)).mono ?_
      rintro e w12 ⟨rfl, q12⟩
      have q13 := Q9.out.trans q12
      go_wp2_with fail
      go_ret
      exact ⟨rfl, q13⟩
end Go.Proofs.YtbdbojkfhnclhaaGreatDoor.Coi
