/-
  Layer 10: BlockShort's walk.
-/
import Derived.Test.YtbdbojkfhnclhaaGreatDoorHBloS
import Derived.Test.YtbdbojkfhnclhaaGreatDoorHBloN
namespace Go.Proofs.YtbdbojkfhnclhaaGreatDoor.Coi
open Go.RowKit
open Mem Num Cod Sh Plan
set_option linter.unusedVariables false
set_option linter.unusedSimpArgs false

theorem ne_list2 {s : ByteArray} (h : 0 < s.size) : s.toList.isEmpty = false := by
  rw [ByteArray.toList_eq]
  obtain ⟨⟨l⟩⟩ := s
  cases l with
  | nil => exact absurd h (by decide)
  | cons a l => rfl
set_option maxHeartbeats 40000000 in
set_option maxRecDepth 100000 in
theorem bshort_walk (W : World) (hG : GL W) (z : BKI) (hz : z.In W) (n : Int) (hn : 0 ≤ n ∧ n ≤ 65535) (c : Int) (hc : 0 ≤ c ∧ c ≤ 255) :
    Calls Tryz.prog 5 #[z.val, .int .u16 n, .int .u8 c] W fun e W' => e = .returned (.bool true) ∧ Below W.heap.size W W' := by
  dsimp only [BKI.val]
  have hG := Lib.hid hG
  have HZ := Lib.hid hz
  clear hz
  go_enter Tryz.func5, Tryz.ntmps5
  go_wp2_with (with_reducible (show wpList _ _ _ (⟨_, Op.load 24 _, _, _, _, _⟩ :: _) _ _); refine halt ?_)
  have QA : Hid (Q W (W.alloc (.cells #[.int .i64 z.h, .string z.prev, .slice z.a z.n z.c] 24))) := (Q.refl W).alloc _
  have B2 : Hid (Box (W.alloc (.cells #[.int .i64 z.h, .string z.prev, .slice z.a z.n z.c] 24)) W.heap.size [.int .i64 z.h, .string z.prev, .slice z.a z.n z.c]) := Box.new W [.int .i64 z.h, .string z.prev, .slice z.a z.n z.c] 24
  generalize W.alloc (.cells #[.int .i64 z.h, .string z.prev, .slice z.a z.n z.c] 24) = wA at *
  obtain ⟨b2, hb2⟩ : ∃ b, W.heap.size = b := ⟨_, rfl⟩
  rw [hb2] at B2 ⊢
  refine Lib.hid (ld_box rfl 24 _ rfl b2 _ rfl B2.out Tryz.underlying24 rfl (by kernel_rfl) ?_)
  go_wp2_with fail
  refine (bcut_x z _ (BKI.In.q_ HZ.out QA.out)).mono ?_
  rintro e w1 ⟨y, rfl, o1, ok1, is1, q1⟩
  clear is1
  go_wp2_with (with_reducible (show wpList _ _ _ (⟨_, Op.store 24 _ _, _, _, _, _⟩ :: _) _ _); refine halt ?_)
  refine Lib.hid (st_box rfl 24 _ _ rfl b2 _ [.int .i64 y.h, .string y.prev, .slice y.a y.n y.c] rfl rfl (B2.out.q q1) rfl (by kernel_rfl) (one3 rfl rfl rfl) ?_)
  intro w2 B2' c2
  have O2 := Lib.hid (o1.low c2 B2.out.lt)
  have lb2 : b2 < wA.heap.size := B2.out.lt
  have QB : W.heap.size ≤ b2 := by omega
  have BX := Lib.hid B2'
  have OK := Lib.hid ok1
  have Q2 : Hid (Q W w2) := c2.q (QA.out.trans q1) (by omega)
  clear c2 B2' o1 ok1 q1 B2 QA HZ
  as_aux_lemma =>
  have m2 := BX.out.at_ 2 _ rfl
  obtain ⟨m, hm⟩ : ∃ m, min y.n 4 = m := ⟨_, rfl⟩
  have hmn : m ≤ y.n := by omega
  have INS := O2.out.o.ins txi_len (P := fun _ => True) (fun _ _ => trivial)
  have hcap : y.n ≤ y.c := INS.le
  have hc63 : y.c ≤ 9223372036854775807 := by have := INS.cap; unfold maxLen at this; omega
  have em : min (y.n : Int) 4 = (m : Int) := by omega
  go_wp2_with (with_reducible (show wpList _ _ _ (⟨_, Op.store 22 _ _, _, _, _, _⟩ :: _) _ _); refine halt ?_)
  refine Lib.hid (wpl_st1 rfl 22 _ _ rfl rfl rfl BX.out rfl (fun w hc hf => by simp [go_sem, hc, hf]) ?_)
  intro w3 B3 c3
  have O3 := O2.out.low c3 lb2
  obtain ⟨x, hx⟩ : ∃ x : BKI, x = ⟨y.h, y.prev, m, y.g, y.a, y.c⟩ := ⟨_, rfl⟩
  have TB : Hid (BB w3 b2 x) := by
    rw [hx]
    exact ⟨B3, ⟨O3.tl.l.take hmn, fun i hi => O3.tl.m i (Nat.lt_of_lt_of_le hi hmn), fun i hi => O3.tl.k i (Nat.lt_of_lt_of_le hi hmn)⟩⟩
  have KX : Hid (x.ok) := by
    show x.ok
    rw [hx]
    exact ⟨OK.out.h, OK.out.prev, Nat.le_trans hmn OK.out.n⟩
  have KT : Hid (∀ i, i < x.n → (x.g i).t.ok) := TB.out.tl.k
  have Q3 : Hid (Q W w3) := c3.q Q2.out QB
  clear hx O3 B3 c3 O2 BX OK Q2 m2 INS hmn hm em hcap hc63
  as_aux_lemma =>
  go_wp2_with (with_reducible (show wpList _ _ _ (⟨_, Op.load 24 _, _, _, _, _⟩ :: _) _ _); refine halt ?_)
  refine Lib.hid (ld_box rfl 24 _ rfl b2 _ rfl TB.out.box Tryz.underlying24 rfl (by kernel_rfl) ?_)
  go_wp2_with fail
  refine (bencode_x x _ TB.out.tl KX.out).mono ?_
  rintro e w4 ⟨s, rfl, hs, q4⟩
  have TB4 := Lib.hid (TB.out.q q4)
  have Q4 := Lib.hid (Q3.out.trans q4)
  clear TB Q3 q4
  rcases hs with ⟨R, rfl⟩ | ⟨R, rfl⟩
  · have px := bkK_pos x.bk
    have zs := bkK_size x.bk R
    have S1 : Hid (∀ N, N < (bkK x.bk).size → bkE IntKind.i64.wrap ((bkK x.bk).extract 0 N) = 3) := fun N hN => bk_short x.bk R N hN
    have S2 : Hid (∀ t, 0 < t.size → bkE IntKind.i64.wrap (bkK x.bk ++ t) = 4) := fun t ht => bk_more small_wrap x.bk R KT.out t ht
    rw [show bkB x = bkK x.bk from rfl]
    generalize bkK x.bk = S at *
    have n1 := ne_list2 px
    clear R KT TB4
    have px' : (0 : Int) < (S.size : Int) := by omega
    have hz0 : ¬ (S.size : Int) = 0 := by omega
    obtain ⟨N, hN⟩ : ∃ N : Nat, Int.tmod n (S.size : Int) = (N : Int) := ⟨(Int.tmod n (S.size : Int)).toNat, by have := Int.tmod_nonneg (S.size : Int) hn.1; omega⟩
    have hlt : N < S.size := by have := Int.tmod_lt_of_pos n px'; omega
    have hle : (N : Int) ≤ (S.size : Int) := by omega
    obtain ⟨P, hP⟩ : ∃ P, S.extract 0 N = P := ⟨_, rfl⟩
    have EP := S1.out N hlt
    rw [hP] at EP
    have zP : P.size ≤ 1000000 := by rw [← hP, ByteArray.size_extract]; omega
    have hn0 := hn.1
    have hn1 := hn.2
    as_aux_lemma =>
    go_wp2_with fail
    refine (bdecode_x P zP _).mono ?_
    rintro e w5 ⟨uP, rfl, ul, uk, ui, q5⟩
    rw [EP]
    dsimp only [BKI.val]
    clear ul uk ui
    go_wp2_with (with_reducible (show wpList _ _ _ (⟨_, Op.alloc 24, _, _, _, _⟩ :: _) _ _); refine halt ?_)
    refine wpList_allocZ rfl 24 rfl #[.int .i64 0, .string ⟨#[]⟩, .slice none 0 0] zeroBk ?_
    refine st_box rfl 24 _ _ rfl w5.heap.size _ [.int .i64 uP.h, .string uP.prev, .slice uP.a uP.n uP.c] rfl rfl (Box.new w5 [.int .i64 0, .string ⟨#[]⟩, .slice none 0 0] 24) rfl (by kernel_rfl) (one3 rfl rfl rfl) ?_
    intro w6 B6 c6
    have Q6 : Hid (Q W w6) := c6.q ((Q4.out.trans q5).trans ((Q.refl w5).alloc _)) (by have := Q4.out.size; have := q5.size; omega)
    clear B6 c6 q5 Q4
    generalize w5.heap.size = b8 at *
    obtain ⟨M, hM⟩ : ∃ M, S ++ strOfNums [c] = M := ⟨_, rfl⟩
    have EM := S2.out (strOfNums [c]) (by rw [strOfNums_size]; exact Nat.zero_lt_one)
    rw [hM] at EM
    have zM : M.size ≤ 1000000 := by rw [← hM, ByteArray.size_append, strOfNums_size]; simp; omega
    have zc : (strOfNums [c]).size = 1 := by rw [strOfNums_size]; rfl
    have zS : S.size + 1 ≤ 1000000 := by omega
    clear S1 S2
    as_aux_lemma =>
    have cv := Num.conv1 w6 c
    go_wp2_with fail
    refine (bdecode_x M zM _).mono ?_
    rintro e w7 ⟨uM, rfl, ul, uk, ui, q5⟩
    rw [EM]
    dsimp only [BKI.val]
    clear ul uk ui
    go_wp2_with (with_reducible (show wpList _ _ _ (⟨_, Op.alloc 24, _, _, _, _⟩ :: _) _ _); refine halt ?_)
    refine wpList_allocZ rfl 24 rfl #[.int .i64 0, .string ⟨#[]⟩, .slice none 0 0] zeroBk ?_
    refine st_box rfl 24 _ _ rfl w7.heap.size _ [.int .i64 uM.h, .string uM.prev, .slice uM.a uM.n uM.c] rfl rfl (Box.new w7 [.int .i64 0, .string ⟨#[]⟩, .slice none 0 0] 24) rfl (by kernel_rfl) (one3 rfl rfl rfl) ?_
    intro w8 B6 c6
    have Q8 : Hid (Q W w8) := c6.q (((Q6.out.alloc _).trans q5).trans ((Q.refl w7).alloc _)) (by have := Q6.out.size; have := q5.size; simp at *; omega)
    clear B6 c6 q5 Q6
    generalize w7.heap.size = b10 at *
    as_aux_lemma =>
    go_wp2_with fail
    refine (bfixed_x (hG.out.q Q8.out)).mono ?_
    rintro e w9 ⟨rfl, q9⟩
    have q10 := Q8.out.trans q9
    go_wp2_with fail
    go_ret
    exact ⟨rfl, q10⟩
  · as_aux_lemma =>
    go_wp2_with (with_reducible (show wpList _ _ _ (⟨_, Op.load 24 _, _, _, _, _⟩ :: _) _ _); refine halt ?_)
    refine Lib.hid (ld_box rfl 24 _ rfl b2 _ rfl TB4.out.box Tryz.underlying24 rfl (by kernel_rfl) ?_)
    go_wp2_with fail
    refine (bright_x x _ TB4.out.tl KX.out).mono ?_
    rintro e w5 ⟨b, rfl, hz, q5⟩
    have Q5 := Lib.hid (Q4.out.trans q5)
    obtain rfl : b = false := by
      cases b with
      | true => exact absurd (hz.1 rfl) R
      | false => rfl
    clear hz q5 Q4 TB4
    go_wp2_with fail
    refine (bfixed_x (hG.out.q Q5.out)).mono ?_
    rintro e w9 ⟨rfl, q9⟩
    have q10 := Q5.out.trans q9
    go_wp2_with fail
    go_ret
    exact ⟨rfl, q10⟩
end Go.Proofs.YtbdbojkfhnclhaaGreatDoor.Coi
