/-
  Layer 10: BlockNames' walk.
-/
import Derived.Test.YtjiepemapffgjaaGreatDoorJBloT
set_option maxRecDepth 100000
namespace Go.Proofs.YtjiepemapffgjaaGreatDoor.Coi
open Go.RowKit
open Mem Num Cod Sh Plan
set_option linter.unusedVariables false
set_option linter.unusedSimpArgs false

theorem ld_boxg3 {P : Program} {ops : Array Oper} {rest : List Oper} {op : Oper} {a : Act} {w : World} {Q : Exit → Act → World → Prop} (hgd : Region.wanted op (yielded ops a.tmps) = true) (ty : TypeId) (x : Operand) (ho : op.op = .load ty x)
    (b : Nat) (cs : List Value) (hx : a.eval x = .pointer (some ⟨b, 0, none⟩)) (hB : Box w b cs) {d : TypeDesc} (hu : P.underlying ty = some d) (hd : d.isRow = true) (hi : (P.info? ty).map (·.size) = some cs.length)
    (h : wpList P ops Q rest (a.put op.dst (.agg cs.toArray)) w) : wpList P ops Q (op :: rest) a w :=
  wpList_step fun K hK => by
    rw [if_pos hgd]
    unfold Oper.wp
    rw [ex_loado ty ho b 0 cs d hx (hB.rangeo 0 (r := []) (by simp)) hu hd hi, Oper.upon_value]
    exact hK _ _ h
set_option maxHeartbeats 40000000 in
set_option maxRecDepth 100000 in
theorem bnames_walk (W : World) (hG : GL W) (z : BKI) (hz : z.In W) (sig : ByteArray) (hsig : sig.size ≤ maxLen) :
    Calls Tryz.prog 7 #[z.val, .string sig] W fun e W' => e = .returned (.bool true) ∧ Below W.heap.size W W' := by
  dsimp only [BKI.val]
  obtain ⟨sg, hs⟩ : ∃ z, sig.extract 0 (min (sig.size : Int) 400).toNat = z := ⟨_, rfl⟩
  have OS : Hid (sg.size ≤ 1000000) := by show sg.size ≤ _; rw [← hs]; exact cut_1m sig 400 rfl (by decide)
  have h4 : sig.size ≤ 9223372036854775807 := by unfold maxLen at hsig; omega
  have e4 := Lib.hid hs
  clear hs hsig
  have hG := Lib.hid hG
  have HZ := Lib.hid hz
  clear hz
  go_enter Tryz.func7, Tryz.ntmps7
  go_wp2_with (with_reducible (show wpList _ _ _ (⟨_, Op.load 69 _, _, _, _, _⟩ :: _) _ _); refine halt ?_)
  have QA : Hid (Q W (W.alloc (.cells #[.int .i64 z.h, .string z.prev, .slice z.a z.n z.c] 69))) := (Q.refl W).alloc _
  have B2 : Hid (Box (W.alloc (.cells #[.int .i64 z.h, .string z.prev, .slice z.a z.n z.c] 69)) W.heap.size [.int .i64 z.h, .string z.prev, .slice z.a z.n z.c]) := Box.new W [.int .i64 z.h, .string z.prev, .slice z.a z.n z.c] 69
  generalize W.alloc (.cells #[.int .i64 z.h, .string z.prev, .slice z.a z.n z.c] 69) = wA at *
  obtain ⟨b2, hb2⟩ : ∃ b, W.heap.size = b := ⟨_, rfl⟩
  rw [hb2] at B2 ⊢
  refine Lib.hid (ld_box rfl 69 _ rfl b2 _ rfl B2.out Tryz.underlying69 rfl (by kernel_rfl) ?_)
  go_wp2_with fail
  refine (bcut_x z _ (BKI.In.q_ HZ.out QA.out)).mono ?_
  rintro e w1 ⟨y, rfl, o1, ok1, is1, q1⟩
  have IS1 := Lib.hid is1
  clear is1
  go_wp2_with (with_reducible (show wpList _ _ _ (⟨_, Op.store 69 _ _, _, _, _, _⟩ :: _) _ _); refine halt ?_)
  refine Lib.hid (st_box rfl 69 _ _ rfl b2 _ [.int .i64 y.h, .string y.prev, .slice y.a y.n y.c] rfl rfl (B2.out.q q1) rfl (by kernel_rfl) (one3 rfl rfl rfl) ?_)
  intro w2 B2' c2
  obtain ⟨B, hB⟩ : ∃ b, wA.heap.size = b := ⟨_, rfl⟩
  have lB : b2 < B := by have := B2.out.lt; omega
  rw [hB] at o1
  have sB : W.heap.size ≤ B := by have := QA.out.size; omega
  have Y2 := Lib.hid B2'
  have O2 : Hid (BO w2 B y) := o1.low c2 lB
  have OK := Lib.hid ok1
  have Q2 : Hid (Q W w2) := c2.q (QA.out.trans q1) (by omega)
  have s2 : B ≤ w2.heap.size := by have := q1.size; have := c2.size; omega
  have YA : Hid (∀ x, y.a = some x → x.block < w2.heap.size) := fun x hx => (O2.out.o.blk_ x hx).2
  have YT : Hid (∀ j, j < y.n → ∀ b, (y.g j).at' b → b < w2.heap.size) := fun j hj b hb => (own_at (O2.out.m j hj) hb).2
  clear c2 B2' o1 ok1 q1 B2 QA HZ hB
  as_aux_lemma =>
  go_wp2_with (with_reducible (show wpList _ _ _ (⟨_, Op.load 69 _, _, _, _, _⟩ :: _) _ _); refine halt ?_)
  refine Lib.hid (ld_box rfl 69 _ rfl b2 _ rfl Y2.out Tryz.underlying69 rfl (by kernel_rfl) ?_)
  go_wp2_with fail
  refine (bcut_x y _ (O2.out.inn OK.out)).mono ?_
  rintro e w3 ⟨u, rfl, o3, ok3, is3, q3⟩
  have IS3 := Lib.hid is3
  clear is3
  go_wp2_with (with_reducible (show wpList _ _ _ (⟨_, Op.alloc 69, _, _, _, _⟩ :: _) _ _); refine halt ?_)
  refine wpList_allocZ rfl 69 rfl #[.int .i64 0, .string ⟨#[]⟩, .slice none 0 0] zeroBk ?_
  refine st_box rfl 69 _ _ rfl w3.heap.size _ [.int .i64 u.h, .string u.prev, .slice u.a u.n u.c] rfl rfl (Box.new w3 [.int .i64 0, .string ⟨#[]⟩, .slice none 0 0] 69) rfl (by kernel_rfl) (one3 rfl rfl rfl) ?_
  intro w4 B4' c4
  have q34 : Q w3 (w3.alloc (.cells #[.int .i64 0, .string ⟨#[]⟩, .slice none 0 0] 69)) := (Q.refl w3).alloc _
  have s3 := q3.size
  have q4 : Q w2 w4 := c4.q (q3.trans q34) s3
  obtain ⟨uh, up, un, ug, ua, uc⟩ := u
  have KK : Hid (NK W b2 w3.heap.size w2.heap.size w3.heap.size y ⟨uh, up, un, ug, ua, uc⟩) := ⟨by omega, Nat.le_refl _, by omega, fun j hj b hb => own_at (o3.m j hj) hb, fun x hx => o3.o.blk_ x hx, YA.out, YT.out, o3.p, o3.l, o3.d, fun j hj => ((o3.m j hj).i.ins in_len (P := fun _ => True) fun _ _ => trivial).le, o3.k⟩
  have S0 : Hid (NN W b2 w3.heap.size B y ⟨uh, up, un, ug, ua, uc⟩ sg 0 0 w4) := by
    have O4 : BO w4 w2.heap.size ⟨uh, up, un, ug, ua, uc⟩ := (o3.q q34).chn c4 (fun x hx => by have := (o3.o.blk_ x hx).2; omega) (fun j hj ho => by have := (own_at (o3.m j hj) ho).2; omega)
    refine ⟨Y2.out.q q4, O2.out.q q4, B4', O4.o.sl txi_len, fun j hj => ?_, fun j hj => (O4.m j hj).o.sl out_len, fun j hj => (O4.m j hj).w.sl win_len, Q2.out.trans q4⟩
    by_cases e0 : (ug j).t.nI = 0
    · exact .inl e0
    obtain ⟨g, cs, e1, k1, _, k3, k4⟩ := (O4.m j hj).i.box in_len (Nat.pos_of_ne_zero e0)
    refine .inr ⟨g, cs, e1, k1, k3, fun l hl m v hv => k4 l hl m v ?_⟩
    have ec : cnt ⟨uh, up, un, ug, ua, uc⟩ 0 0 j = 0 := by unfold cnt; rw [if_neg (by omega)]; split <;> rfl
    rw [ec] at hv
    rw [← hv]
    unfold sigI
    rw [if_neg (by omega)]
  have OKU := Lib.hid ok3
  generalize w3.heap.size = b4 at *
  generalize w2.heap.size = N1 at *
  clear B4' c4 q34 q3 q4 s3 o3 ok3 O2 Y2 Q2 YA YT
  dsimp only at *
  as_aux_lemma =>
  have nB : un ≤ 100 := OKU.out.n
  go_wp2_with fail
  go_loopw [6, 7] (fun i z wr => ∃ k : Nat, k ≤ un ∧ i = .int .i64 k ∧ Hid (NN W b2 b4 B y ⟨uh, up, un, ug, ua, uc⟩ sg k 0 wr)) (fun i _ _ => un - (intOf i).toNat)
  case atStart => exact ⟨0, by omega, rfl, S0⟩
  case round =>
  obtain ⟨ix, hix, rfl, H⟩ := hrel
  clear S0
  have ix0 : (0 : Int) ≤ (ix : Int) := by omega
  have m2 := H.out.ub.at_ 2 _ rfl
  dsimp only at m2
  by_cases hi_ : ix < un
  · have ix1 : (ix : Int) < (un : Int) := by omega
    obtain ⟨gT, oT, hua, hrow⟩ := H.out.o.some_ (show 0 < un by omega)
    dsimp only at hua
    subst hua
    clear hrow
    obtain ⟨nJ, hnJ⟩ : ∃ n, (ug ix).t.nI = n := ⟨_, rfl⟩
    obtain ⟨aJ, haJ⟩ : ∃ n, (ug ix).aI = n := ⟨_, rfl⟩
    obtain ⟨cJ, hcJ⟩ : ∃ n, (ug ix).cI = n := ⟨_, rfl⟩
    have HJn := Lib.hid hnJ
    have HJa := Lib.hid haJ
    have nB2 : nJ ≤ 100 := by rw [← hnJ]; exact (KK.out.k ix hi_).nI
    have HR : Hid (∀ k wq, NN W b2 b4 B y ⟨uh, up, un, ug, (some ⟨gT, oT, none⟩), uc⟩ sg ix k wq → wq.cell? ⟨gT, oT + ix * 6, none⟩ = some (.slice aJ nJ cJ)) := fun k wq h => by
      rcases h.o with e | ⟨b, off, e, h⟩
      · exact absurd e (show un ≠ 0 by omega)
      · injection e with e; injection e with e1 e2; subst e1 e2; have := h ix hi_ 0 _ rfl; rw [← haJ, ← hnJ, ← hcJ]; exact this
    clear hnJ haJ hcJ
    go_wp2_with fail
    clear m2
    go_loopw [7] (fun z wr => ∃ k : Nat, k ≤ nJ ∧ z = .int .i64 k ∧ Hid (NN W b2 b4 B y ⟨uh, up, un, ug, (some ⟨gT, oT, none⟩), uc⟩ sg ix k wr)) (fun z _ => nJ - (intOf z).toNat)
    case atStart => exact ⟨0, by omega, rfl, H⟩
    case round =>
    obtain ⟨k, hk, rfl, H2⟩ := hrel
    clear H
    have j0 : (0 : Int) ≤ (k : Int) := by omega
    have m3 := H2.out.ub.at_ 2 _ rfl
    dsimp only at m3
    have r0 := HR.out k _ H2.out
    by_cases hlt : k < nJ
    · have j1 : (k : Int) < (nJ : Int) := by omega
      go_wp2_with fail
      clear m3
      have K1 : Hid (k < (ug ix).t.nI) := by show _ < _; rw [HJn.out]; exact hlt
      obtain ⟨g, cs, ha0, GB, GL1, GG⟩ := H2.out.at_ hi_ K1.out
      dsimp only at ha0 GL1 GG
      have HA : Hid ((ug ix).aI = some ⟨g, 0, none⟩) := ha0
      have hab : aJ = some ⟨g, 0, none⟩ := by rw [← HJa.out]; exact ha0
      clear ha0
      have GB := Lib.hid GB
      have GL1 := Lib.hid GL1
      have GG := Lib.hid GG
      have R0 := Lib.hid r0
      clear r0
      have OLD : Hid (cs[k * 4 + 3]? = some (.string ((ug ix).t.ins k).sig)) := GG.out k K1.out 3 _ (by unfold sigI; rw [if_neg (by omega)]; rfl)
      have e4' := e4.out
      as_aux_lemma =>
      have hS0 : Q wr wr.drew := (Q.refl wr).drew
      refine region_gen3 ?_
      intro OPS QQ A0 hO hQQ hA
      have hz : A0.tmps.size = 76 := by rw [hA]; rfl
      have hs : sound OPS A0.tmps.size = true := by rw [hz, hO]; kernel_rfl
      have bz_1 : A0.eval (.tmp 1) = .string sig := by rw [hA]; rfl
      have frz_1 : free OPS 1 = true := by rw [hO]; kernel_rfl
      have bz_5 : A0.eval (.tmp 5) = .pointer (some ⟨b4, 0, none⟩) := by rw [hA]; rfl
      have frz_5 : free OPS 5 = true := by rw [hO]; kernel_rfl
      have bz_6 : A0.eval (.tmp 6) = .int .i64 ix := by rw [hA]; rfl
      have frz_6 : free OPS 6 = true := by rw [hO]; kernel_rfl
      have bz_7 : A0.eval (.tmp 7) = .int .i64 k := by rw [hA]; rfl
      have frz_7 : free OPS 7 = true := by rw [hO]; kernel_rfl
      obtain ⟨VV, hVV⟩ : ∃ V : Nat → Value → World → Prop, V = fun i => ([fun v _ => v = .pointer (some ⟨b4, 2, none⟩), fun v _ => v = .slice (some ⟨gT, oT, none⟩) un uc, fun v _ => v = .int .i64 ix, fun v _ => v = .pointer (some ⟨gT, oT + ix * 6, none⟩), fun v _ => v = .pointer (some ⟨gT, oT + ix * 6, none⟩), fun v _ => v = .slice aJ nJ cJ, fun v _ => v = .int .i64 k, fun v _ => v = .string sig, fun v _ => v = .string sig, fun v _ => v = .int .i64 sig.size, fun v _ => v = .int .i64 (min (sig.size : Int) 400), fun v _ => v = .string sg, fun v _ => v = .pointer (some ⟨g, k * 4, none⟩), fun v _ => v = .pointer (some ⟨g, k * 4 + 3, none⟩)] : List (Value → World → Prop)).getD i (fun _ _ => True) := ⟨_, rfl⟩
      have vz_0 : VV 0 = fun v _ => v = .pointer (some ⟨b4, 2, none⟩) := vat hVV 0
      have vz_1 : VV 1 = fun v _ => v = .slice (some ⟨gT, oT, none⟩) un uc := vat hVV 1
      have vz_2 : VV 2 = fun v _ => v = .int .i64 ix := vat hVV 2
      have vz_3 : VV 3 = fun v _ => v = .pointer (some ⟨gT, oT + ix * 6, none⟩) := vat hVV 3
      have vz_4 : VV 4 = fun v _ => v = .pointer (some ⟨gT, oT + ix * 6, none⟩) := vat hVV 4
      have vz_5 : VV 5 = fun v _ => v = .slice aJ nJ cJ := vat hVV 5
      have vz_6 : VV 6 = fun v _ => v = .int .i64 k := vat hVV 6
      have vz_7 : VV 7 = fun v _ => v = .string sig := vat hVV 7
      have vz_8 : VV 8 = fun v _ => v = .string sig := vat hVV 8
      have vz_9 : VV 9 = fun v _ => v = .int .i64 sig.size := vat hVV 9
      have vz_10 : VV 10 = fun v _ => v = .int .i64 (min (sig.size : Int) 400) := vat hVV 10
      have vz_11 : VV 11 = fun v _ => v = .string sg := vat hVV 11
      have vz_12 : VV 12 = fun v _ => v = .pointer (some ⟨g, k * 4, none⟩) := vat hVV 12
      have vz_13 : VV 13 = fun v _ => v = .pointer (some ⟨g, k * 4 + 3, none⟩) := vat hVV 13
      have hV := stablex_of (T := Q) (p := 14) hVV ((sx_cons (fun _ _ _ h _ => h) (sx_cons (fun _ _ _ h _ => h) (sx_cons (fun _ _ _ h _ => h) (sx_cons (fun _ _ _ h _ => h) (sx_cons (fun _ _ _ h _ => h) (sx_cons (fun _ _ _ h _ => h) (sx_cons (fun _ _ _ h _ => h) (sx_cons (fun _ _ _ h _ => h) (sx_cons (fun _ _ _ h _ => h) (sx_cons (fun _ _ _ h _ => h) (sx_cons (fun _ _ _ h _ => h) (sx_cons (fun _ _ _ h _ => h) (sx_cons (fun _ _ _ h _ => h) (sx_cons (fun _ _ _ h _ => h) trivial)))))))))))))))
      clear hVV
      have iz_0 := pget_at hO 0 rfl
      have iz_1 := pget_at hO 1 rfl
      have iz_2 := pget_at hO 2 rfl
      have iz_3 := pget_at hO 3 rfl
      have iz_4 := pget_at hO 4 rfl
      have iz_5 := pget_at hO 5 rfl
      have iz_6 := pget_at hO 6 rfl
      have iz_7 := pget_at hO 7 rfl
      have iz_8 := pget_at hO 8 rfl
      have iz_9 := pget_at hO 9 rfl
      have iz_10 := pget_at hO 10 rfl
      have iz_11 := pget_at hO 11 rfl
      have iz_12 := pget_at hO 12 rfl
      have iz_13 := pget_at hO 13 rfl
      have iz_14 := pget_at hO 14 rfl
      have sz_0 := Step2.pure (P := Tryz.prog) (V := VV) (T := Q) (S := (Q wr)) (a0 := A0) (p := 14) (Qx := QQ) iz_0 (by rw [hO]; kernel_rfl) (.pointer (some ⟨b4, 2, none⟩)) (Q.refl ·) (fun l a w hI hl hS => ⟨wanted_none rfl, (by have e0 : a.eval (.tmp 5) = _ := ((hI.base 5 frz_5).trans bz_5); generalize a.eval = ρ at e0 ⊢; simp [go_sem, e0]), at_mk vz_0 rfl⟩)
      have sz_1 := Step2.pure (P := Tryz.prog) (V := VV) (T := Q) (S := (Q wr)) (a0 := A0) (p := 14) (Qx := QQ) iz_1 (by rw [hO]; kernel_rfl) (.slice (some ⟨gT, oT, none⟩) un uc) (Q.refl ·) (fun l a w hI hl hS => ⟨wanted_none rfl, (by have e0 : a.eval (.tmp 30) = _ := (at_eq vz_0 (hI.at_ 0 30 _ iz_0 rfl (hl_at hl 0 rfl rfl))); have x0 := (H2.out.ub.q hS).at_ 2 _ rfl; generalize a.eval = ρ at e0 ⊢; simp [go_sem, e0, x0]), at_mk vz_1 rfl⟩)
      have sz_2 := Step2.pure (P := Tryz.prog) (V := VV) (T := Q) (S := (Q wr)) (a0 := A0) (p := 14) (Qx := QQ) iz_2 (by rw [hO]; kernel_rfl) (.int .i64 ix) (Q.refl ·) (fun l a w hI hl hS => ⟨wanted_none rfl, ex_move rfl ((hI.base 6 frz_6).trans bz_6), at_mk vz_2 rfl⟩)
      have sz_3 := Step2.pure (P := Tryz.prog) (V := VV) (T := Q) (S := (Q wr)) (a0 := A0) (p := 14) (Qx := QQ) iz_3 (by rw [hO]; kernel_rfl) (.pointer (some ⟨gT, oT + ix * 6, none⟩)) (Q.refl ·) (fun l a w hI hl hS => ⟨wanted_none rfl, (by have e0 : a.eval (.tmp 31) = _ := (at_eq vz_1 (hI.at_ 1 31 _ iz_1 rfl (hl_at hl 0 rfl rfl))); have e1 : a.eval (.tmp 32) = _ := (at_eq vz_2 (hI.at_ 2 32 _ iz_2 rfl (hl_at hl 1 rfl rfl))); generalize a.eval = ρ at e0 e1 ⊢; simp [go_sem, e0, e1, ix0, ix1]), at_mk vz_3 rfl⟩)
      have sz_4 := Step2.pure (P := Tryz.prog) (V := VV) (T := Q) (S := (Q wr)) (a0 := A0) (p := 14) (Qx := QQ) iz_4 (by rw [hO]; kernel_rfl) (.pointer (some ⟨gT, oT + ix * 6, none⟩)) (Q.refl ·) (fun l a w hI hl hS => ⟨wanted_none rfl, (by have e0 : a.eval (.tmp 33) = _ := (at_eq vz_3 (hI.at_ 3 33 _ iz_3 rfl (hl_at hl 0 rfl rfl))); generalize a.eval = ρ at e0 ⊢; simp [go_sem, e0]), at_mk vz_4 rfl⟩)
      have sz_5 := Step2.pure (P := Tryz.prog) (V := VV) (T := Q) (S := (Q wr)) (a0 := A0) (p := 14) (Qx := QQ) iz_5 (by rw [hO]; kernel_rfl) (.slice aJ nJ cJ) (Q.refl ·) (fun l a w hI hl hS => ⟨wanted_none rfl, (by have e0 : a.eval (.tmp 34) = _ := (at_eq vz_4 (hI.at_ 4 34 _ iz_4 rfl (hl_at hl 0 rfl rfl))); have x0 := Q.cell' hS R0.out; generalize a.eval = ρ at e0 ⊢; simp [go_sem, e0, x0]), at_mk vz_5 rfl⟩)
      have sz_6 := Step2.pure (P := Tryz.prog) (V := VV) (T := Q) (S := (Q wr)) (a0 := A0) (p := 14) (Qx := QQ) iz_6 (by rw [hO]; kernel_rfl) (.int .i64 k) (Q.refl ·) (fun l a w hI hl hS => ⟨wanted_none rfl, ex_move rfl ((hI.base 7 frz_7).trans bz_7), at_mk vz_6 rfl⟩)
      have sz_7 := Step2.pure (P := Tryz.prog) (V := VV) (T := Q) (S := (Q wr)) (a0 := A0) (p := 14) (Qx := QQ) iz_7 (by rw [hO]; kernel_rfl) (.string sig) (Q.refl ·) (fun l a w hI hl hS => ⟨wanted_none rfl, ex_move rfl ((hI.base 1 frz_1).trans bz_1), at_mk vz_7 rfl⟩)
      have sz_8 := Step2.pure (P := Tryz.prog) (V := VV) (T := Q) (S := (Q wr)) (a0 := A0) (p := 14) (Qx := QQ) iz_8 (by rw [hO]; kernel_rfl) (.string sig) (Q.refl ·) (fun l a w hI hl hS => ⟨wanted_none rfl, ex_move rfl ((hI.base 1 frz_1).trans bz_1), at_mk vz_8 rfl⟩)
      have sz_9 := Step2.pure (P := Tryz.prog) (V := VV) (T := Q) (S := (Q wr)) (a0 := A0) (p := 14) (Qx := QQ) iz_9 (by rw [hO]; kernel_rfl) (.int .i64 sig.size) (Q.refl ·) (fun l a w hI hl hS => ⟨wanted_none rfl, (by have e0 : a.eval (.tmp 38) = _ := (at_eq vz_8 (hI.at_ 8 38 _ iz_8 rfl (hl_at hl 0 rfl rfl))); generalize a.eval = ρ at e0 ⊢; simp [go_sem, e0]), at_mk vz_9 rfl⟩)
      have sz_10 := Step2.pure (P := Tryz.prog) (V := VV) (T := Q) (S := (Q wr)) (a0 := A0) (p := 14) (Qx := QQ) iz_10 (by rw [hO]; kernel_rfl) (.int .i64 (min (sig.size : Int) 400)) (Q.refl ·) (fun l a w hI hl hS => ⟨wanted_none rfl, (by have e0 : a.eval (.tmp 39) = _ := (at_eq vz_9 (hI.at_ 9 39 _ iz_9 rfl (hl_at hl 0 rfl rfl))); have e1 : a.eval (.const (.int .i64 400)) = .int .i64 400 := rfl; generalize a.eval = ρ at e0 e1 ⊢; simp [go_sem, e0, e1]), at_mk vz_10 rfl⟩)
      have sz_11 := Step2.pure (P := Tryz.prog) (V := VV) (T := Q) (S := (Q wr)) (a0 := A0) (p := 14) (Qx := QQ) iz_11 (by rw [hO]; kernel_rfl) (.string sg) (Q.refl ·) (fun l a w hI hl hS => ⟨wanted_none rfl, (by have e0 : a.eval (.tmp 37) = _ := (at_eq vz_7 (hI.at_ 7 37 _ iz_7 rfl (hl_at hl 0 rfl rfl))); have e1 : a.eval (.tmp 40) = _ := (at_eq vz_10 (hI.at_ 10 40 _ iz_10 rfl (hl_at hl 1 rfl rfl))); have x0 := e4'; generalize a.eval = ρ at e0 e1 ⊢; simp [go_sem, e0, e1, x0, h4]; try omega), at_mk vz_11 rfl⟩)
      have sz_12 := Step2.pure (P := Tryz.prog) (V := VV) (T := Q) (S := (Q wr)) (a0 := A0) (p := 14) (Qx := QQ) iz_12 (by rw [hO]; kernel_rfl) (.pointer (some ⟨g, k * 4, none⟩)) (Q.refl ·) (fun l a w hI hl hS => ⟨wanted_none rfl, (by have e0 : a.eval (.tmp 35) = _ := (at_eq vz_5 (hI.at_ 5 35 _ iz_5 rfl (hl_at hl 0 rfl rfl))); have e1 : a.eval (.tmp 36) = _ := (at_eq vz_6 (hI.at_ 6 36 _ iz_6 rfl (hl_at hl 1 rfl rfl))); generalize a.eval = ρ at e0 e1 ⊢; simp [go_sem, e0, e1, j0, j1, hab]), at_mk vz_12 rfl⟩)
      have sz_13 := Step2.pure (P := Tryz.prog) (V := VV) (T := Q) (S := (Q wr)) (a0 := A0) (p := 14) (Qx := QQ) iz_13 (by rw [hO]; kernel_rfl) (.pointer (some ⟨g, k * 4 + 3, none⟩)) (Q.refl ·) (fun l a w hI hl hS => ⟨wanted_none rfl, (by have e0 : a.eval (.tmp 42) = _ := (at_eq vz_12 (hI.at_ 12 42 _ iz_12 rfl (hl_at hl 0 rfl rfl))); generalize a.eval = ρ at e0 ⊢; simp [go_sem, e0]), at_mk vz_13 rfl⟩)
      refine wp_plan2 VV (Q) (Q wr) 14 14 (by kernel_rfl) hs (by rw [hO]; rfl) (by rw [hO]; kernel_rfl) hV hS0 (steps2_all hO _ rfl ((s2_cons sz_0 (s2_cons sz_1 (s2_cons sz_2 (s2_cons sz_3 (s2_cons sz_4 (s2_cons sz_5 (s2_cons sz_6 (s2_cons sz_7 (s2_cons sz_8 (s2_cons sz_9 (s2_cons sz_10 (s2_cons sz_11 (s2_cons sz_12 (s2_cons sz_13 trivial)))))))))))))))) ?_
      intro l a w hall hln hI
      as_aux_lemma =>
      have hS := hI.st hln
      refine fin_of iz_14 (wanted_none rfl) ?_
      refine wpo_st1 9 _ _ rfl (at_eq vz_13 (hI.at_ 13 43 _ iz_13 rfl (hall 13 (by decide)))) (at_eq vz_11 (hI.at_ 11 41 _ iz_11 rfl (hall 11 (by decide)))) (GB.out.q hS) OLD.out (fun w hc hf => by simp [go_sem, hc, hf]) ?_
      intro w5 B5 c5
      rw [hQQ]
      obtain ⟨ts, ds⟩ := a
      have hd : ds = [] := by have := hI.df; rw [hA] at this; exact this
      have hts : ts.size = 76 := by have := hI.sz; rw [hz] at this; exact this
      have f0 := (hI.base 0 (by rw [hO]; kernel_rfl)).trans (base_at hA 0 rfl)
      have f1 := (hI.base 1 (by rw [hO]; kernel_rfl)).trans (base_at hA 1 rfl)
      have f2 := (hI.base 2 (by rw [hO]; kernel_rfl)).trans (base_at hA 2 rfl)
      have f3 := (hI.base 3 (by rw [hO]; kernel_rfl)).trans (base_at hA 3 rfl)
      have f4 := (hI.base 4 (by rw [hO]; kernel_rfl)).trans (base_at hA 4 rfl)
      have f5 := (hI.base 5 (by rw [hO]; kernel_rfl)).trans (base_at hA 5 rfl)
      have f6 := (hI.base 6 (by rw [hO]; kernel_rfl)).trans (base_at hA 6 rfl)
      have f7 := (hI.base 7 (by rw [hO]; kernel_rfl)).trans (base_at hA 7 rfl)
      have f8 := (hI.base 8 (by rw [hO]; kernel_rfl)).trans (base_at hA 8 rfl)
      have f9 := (hI.base 9 (by rw [hO]; kernel_rfl)).trans (base_at hA 9 rfl)
      have f10 := (hI.base 10 (by rw [hO]; kernel_rfl)).trans (base_at hA 10 rfl)
      have f11 := (hI.base 11 (by rw [hO]; kernel_rfl)).trans (base_at hA 11 rfl)
      have f12 := (hI.base 12 (by rw [hO]; kernel_rfl)).trans (base_at hA 12 rfl)
      have f13 := (hI.base 13 (by rw [hO]; kernel_rfl)).trans (base_at hA 13 rfl)
      have f14 := (hI.base 14 (by rw [hO]; kernel_rfl)).trans (base_at hA 14 rfl)
      have f15 := (hI.base 15 (by rw [hO]; kernel_rfl)).trans (base_at hA 15 rfl)
      have f16 := (hI.base 16 (by rw [hO]; kernel_rfl)).trans (base_at hA 16 rfl)
      have f17 := (hI.base 17 (by rw [hO]; kernel_rfl)).trans (base_at hA 17 rfl)
      have f18 := (hI.base 18 (by rw [hO]; kernel_rfl)).trans (base_at hA 18 rfl)
      have f19 := (hI.base 19 (by rw [hO]; kernel_rfl)).trans (base_at hA 19 rfl)
      have f20 := (hI.base 20 (by rw [hO]; kernel_rfl)).trans (base_at hA 20 rfl)
      have f21 := (hI.base 21 (by rw [hO]; kernel_rfl)).trans (base_at hA 21 rfl)
      have f22 := (hI.base 22 (by rw [hO]; kernel_rfl)).trans (base_at hA 22 rfl)
      have f23 := (hI.base 23 (by rw [hO]; kernel_rfl)).trans (base_at hA 23 rfl)
      have f24 := (hI.base 24 (by rw [hO]; kernel_rfl)).trans (base_at hA 24 rfl)
      have f25 := (hI.base 25 (by rw [hO]; kernel_rfl)).trans (base_at hA 25 rfl)
      have f26 := (hI.base 26 (by rw [hO]; kernel_rfl)).trans (base_at hA 26 rfl)
      have f27 := (hI.base 27 (by rw [hO]; kernel_rfl)).trans (base_at hA 27 rfl)
      have f28 := (hI.base 28 (by rw [hO]; kernel_rfl)).trans (base_at hA 28 rfl)
      have f29 := (hI.base 29 (by rw [hO]; kernel_rfl)).trans (base_at hA 29 rfl)
      have f44 := (hI.base 44 (by rw [hO]; kernel_rfl)).trans (base_at hA 44 rfl)
      have f45 := (hI.base 45 (by rw [hO]; kernel_rfl)).trans (base_at hA 45 rfl)
      have f46 := (hI.base 46 (by rw [hO]; kernel_rfl)).trans (base_at hA 46 rfl)
      have f47 := (hI.base 47 (by rw [hO]; kernel_rfl)).trans (base_at hA 47 rfl)
      have f48 := (hI.base 48 (by rw [hO]; kernel_rfl)).trans (base_at hA 48 rfl)
      have f49 := (hI.base 49 (by rw [hO]; kernel_rfl)).trans (base_at hA 49 rfl)
      have f50 := (hI.base 50 (by rw [hO]; kernel_rfl)).trans (base_at hA 50 rfl)
      have f51 := (hI.base 51 (by rw [hO]; kernel_rfl)).trans (base_at hA 51 rfl)
      have f52 := (hI.base 52 (by rw [hO]; kernel_rfl)).trans (base_at hA 52 rfl)
      have f53 := (hI.base 53 (by rw [hO]; kernel_rfl)).trans (base_at hA 53 rfl)
      have f54 := (hI.base 54 (by rw [hO]; kernel_rfl)).trans (base_at hA 54 rfl)
      have f55 := (hI.base 55 (by rw [hO]; kernel_rfl)).trans (base_at hA 55 rfl)
      have f56 := (hI.base 56 (by rw [hO]; kernel_rfl)).trans (base_at hA 56 rfl)
      have f57 := (hI.base 57 (by rw [hO]; kernel_rfl)).trans (base_at hA 57 rfl)
      have f58 := (hI.base 58 (by rw [hO]; kernel_rfl)).trans (base_at hA 58 rfl)
      have f59 := (hI.base 59 (by rw [hO]; kernel_rfl)).trans (base_at hA 59 rfl)
      have f60 := (hI.base 60 (by rw [hO]; kernel_rfl)).trans (base_at hA 60 rfl)
      have f61 := (hI.base 61 (by rw [hO]; kernel_rfl)).trans (base_at hA 61 rfl)
      have f62 := (hI.base 62 (by rw [hO]; kernel_rfl)).trans (base_at hA 62 rfl)
      have f63 := (hI.base 63 (by rw [hO]; kernel_rfl)).trans (base_at hA 63 rfl)
      have f64 := (hI.base 64 (by rw [hO]; kernel_rfl)).trans (base_at hA 64 rfl)
      have f65 := (hI.base 65 (by rw [hO]; kernel_rfl)).trans (base_at hA 65 rfl)
      have f66 := (hI.base 66 (by rw [hO]; kernel_rfl)).trans (base_at hA 66 rfl)
      have f67 := (hI.base 67 (by rw [hO]; kernel_rfl)).trans (base_at hA 67 rfl)
      have f68 := (hI.base 68 (by rw [hO]; kernel_rfl)).trans (base_at hA 68 rfl)
      have f69 := (hI.base 69 (by rw [hO]; kernel_rfl)).trans (base_at hA 69 rfl)
      have f70 := (hI.base 70 (by rw [hO]; kernel_rfl)).trans (base_at hA 70 rfl)
      have f71 := (hI.base 71 (by rw [hO]; kernel_rfl)).trans (base_at hA 71 rfl)
      have f72 := (hI.base 72 (by rw [hO]; kernel_rfl)).trans (base_at hA 72 rfl)
      have f73 := (hI.base 73 (by rw [hO]; kernel_rfl)).trans (base_at hA 73 rfl)
      have f74 := (hI.base 74 (by rw [hO]; kernel_rfl)).trans (base_at hA 74 rfl)
      have f75 := (hI.base 75 (by rw [hO]; kernel_rfl)).trans (base_at hA 75 rfl)
      obtain ⟨tl0, rfl⟩ : ∃ tl : List Value, ts = tl.toArray := ⟨ts.toList, by simp⟩
      have htl0 : tl0.length = 76 := by simpa using hts
      clear hts
      obtain ⟨y0, tl1, et, htl1⟩ := len_succ htl0
      clear htl0
      subst et
      obtain ⟨y1, tl2, et, htl2⟩ := len_succ htl1
      clear htl1
      subst et
      obtain ⟨y2, tl3, et, htl3⟩ := len_succ htl2
      clear htl2
      subst et
      obtain ⟨y3, tl4, et, htl4⟩ := len_succ htl3
      clear htl3
      subst et
      obtain ⟨y4, tl5, et, htl5⟩ := len_succ htl4
      clear htl4
      subst et
      obtain ⟨y5, tl6, et, htl6⟩ := len_succ htl5
      clear htl5
      subst et
      obtain ⟨y6, tl7, et, htl7⟩ := len_succ htl6
      clear htl6
      subst et
      obtain ⟨y7, tl8, et, htl8⟩ := len_succ htl7
      clear htl7
      subst et
      obtain ⟨y8, tl9, et, htl9⟩ := len_succ htl8
      clear htl8
      subst et
      obtain ⟨y9, tl10, et, htl10⟩ := len_succ htl9
      clear htl9
      subst et
      obtain ⟨y10, tl11, et, htl11⟩ := len_succ htl10
      clear htl10
      subst et
      obtain ⟨y11, tl12, et, htl12⟩ := len_succ htl11
      clear htl11
      subst et
      obtain ⟨y12, tl13, et, htl13⟩ := len_succ htl12
      clear htl12
      subst et
      obtain ⟨y13, tl14, et, htl14⟩ := len_succ htl13
      clear htl13
      subst et
      obtain ⟨y14, tl15, et, htl15⟩ := len_succ htl14
      clear htl14
      subst et
      obtain ⟨y15, tl16, et, htl16⟩ := len_succ htl15
      clear htl15
      subst et
      obtain ⟨y16, tl17, et, htl17⟩ := len_succ htl16
      clear htl16
      subst et
      obtain ⟨y17, tl18, et, htl18⟩ := len_succ htl17
      clear htl17
      subst et
      obtain ⟨y18, tl19, et, htl19⟩ := len_succ htl18
      clear htl18
      subst et
      obtain ⟨y19, tl20, et, htl20⟩ := len_succ htl19
      clear htl19
      subst et
      obtain ⟨y20, tl21, et, htl21⟩ := len_succ htl20
      clear htl20
      subst et
      obtain ⟨y21, tl22, et, htl22⟩ := len_succ htl21
      clear htl21
      subst et
      obtain ⟨y22, tl23, et, htl23⟩ := len_succ htl22
      clear htl22
      subst et
      obtain ⟨y23, tl24, et, htl24⟩ := len_succ htl23
      clear htl23
      subst et
      obtain ⟨y24, tl25, et, htl25⟩ := len_succ htl24
      clear htl24
      subst et
      obtain ⟨y25, tl26, et, htl26⟩ := len_succ htl25
      clear htl25
      subst et
      obtain ⟨y26, tl27, et, htl27⟩ := len_succ htl26
      clear htl26
      subst et
      obtain ⟨y27, tl28, et, htl28⟩ := len_succ htl27
      clear htl27
      subst et
      obtain ⟨y28, tl29, et, htl29⟩ := len_succ htl28
      clear htl28
      subst et
      obtain ⟨y29, tl30, et, htl30⟩ := len_succ htl29
      clear htl29
      subst et
      obtain ⟨y30, tl31, et, htl31⟩ := len_succ htl30
      clear htl30
      subst et
      obtain ⟨y31, tl32, et, htl32⟩ := len_succ htl31
      clear htl31
      subst et
      obtain ⟨y32, tl33, et, htl33⟩ := len_succ htl32
      clear htl32
      subst et
      obtain ⟨y33, tl34, et, htl34⟩ := len_succ htl33
      clear htl33
      subst et
      obtain ⟨y34, tl35, et, htl35⟩ := len_succ htl34
      clear htl34
      subst et
      obtain ⟨y35, tl36, et, htl36⟩ := len_succ htl35
      clear htl35
      subst et
      obtain ⟨y36, tl37, et, htl37⟩ := len_succ htl36
      clear htl36
      subst et
      obtain ⟨y37, tl38, et, htl38⟩ := len_succ htl37
      clear htl37
      subst et
      obtain ⟨y38, tl39, et, htl39⟩ := len_succ htl38
      clear htl38
      subst et
      obtain ⟨y39, tl40, et, htl40⟩ := len_succ htl39
      clear htl39
      subst et
      obtain ⟨y40, tl41, et, htl41⟩ := len_succ htl40
      clear htl40
      subst et
      obtain ⟨y41, tl42, et, htl42⟩ := len_succ htl41
      clear htl41
      subst et
      obtain ⟨y42, tl43, et, htl43⟩ := len_succ htl42
      clear htl42
      subst et
      obtain ⟨y43, tl44, et, htl44⟩ := len_succ htl43
      clear htl43
      subst et
      obtain ⟨y44, tl45, et, htl45⟩ := len_succ htl44
      clear htl44
      subst et
      obtain ⟨y45, tl46, et, htl46⟩ := len_succ htl45
      clear htl45
      subst et
      obtain ⟨y46, tl47, et, htl47⟩ := len_succ htl46
      clear htl46
      subst et
      obtain ⟨y47, tl48, et, htl48⟩ := len_succ htl47
      clear htl47
      subst et
      obtain ⟨y48, tl49, et, htl49⟩ := len_succ htl48
      clear htl48
      subst et
      obtain ⟨y49, tl50, et, htl50⟩ := len_succ htl49
      clear htl49
      subst et
      obtain ⟨y50, tl51, et, htl51⟩ := len_succ htl50
      clear htl50
      subst et
      obtain ⟨y51, tl52, et, htl52⟩ := len_succ htl51
      clear htl51
      subst et
      obtain ⟨y52, tl53, et, htl53⟩ := len_succ htl52
      clear htl52
      subst et
      obtain ⟨y53, tl54, et, htl54⟩ := len_succ htl53
      clear htl53
      subst et
      obtain ⟨y54, tl55, et, htl55⟩ := len_succ htl54
      clear htl54
      subst et
      obtain ⟨y55, tl56, et, htl56⟩ := len_succ htl55
      clear htl55
      subst et
      obtain ⟨y56, tl57, et, htl57⟩ := len_succ htl56
      clear htl56
      subst et
      obtain ⟨y57, tl58, et, htl58⟩ := len_succ htl57
      clear htl57
      subst et
      obtain ⟨y58, tl59, et, htl59⟩ := len_succ htl58
      clear htl58
      subst et
      obtain ⟨y59, tl60, et, htl60⟩ := len_succ htl59
      clear htl59
      subst et
      obtain ⟨y60, tl61, et, htl61⟩ := len_succ htl60
      clear htl60
      subst et
      obtain ⟨y61, tl62, et, htl62⟩ := len_succ htl61
      clear htl61
      subst et
      obtain ⟨y62, tl63, et, htl63⟩ := len_succ htl62
      clear htl62
      subst et
      obtain ⟨y63, tl64, et, htl64⟩ := len_succ htl63
      clear htl63
      subst et
      obtain ⟨y64, tl65, et, htl65⟩ := len_succ htl64
      clear htl64
      subst et
      obtain ⟨y65, tl66, et, htl66⟩ := len_succ htl65
      clear htl65
      subst et
      obtain ⟨y66, tl67, et, htl67⟩ := len_succ htl66
      clear htl66
      subst et
      obtain ⟨y67, tl68, et, htl68⟩ := len_succ htl67
      clear htl67
      subst et
      obtain ⟨y68, tl69, et, htl69⟩ := len_succ htl68
      clear htl68
      subst et
      obtain ⟨y69, tl70, et, htl70⟩ := len_succ htl69
      clear htl69
      subst et
      obtain ⟨y70, tl71, et, htl71⟩ := len_succ htl70
      clear htl70
      subst et
      obtain ⟨y71, tl72, et, htl72⟩ := len_succ htl71
      clear htl71
      subst et
      obtain ⟨y72, tl73, et, htl73⟩ := len_succ htl72
      clear htl72
      subst et
      obtain ⟨y73, tl74, et, htl74⟩ := len_succ htl73
      clear htl73
      subst et
      obtain ⟨y74, tl75, et, htl75⟩ := len_succ htl74
      clear htl74
      subst et
      obtain ⟨y75, tl76, et, htl76⟩ := len_succ htl75
      clear htl75
      subst et
      have et := List.eq_nil_of_length_eq_zero htl76
      clear htl76
      subst et
      have g0 : y0 = _ := f0
      have g1 : y1 = _ := f1
      have g2 : y2 = _ := f2
      have g3 : y3 = _ := f3
      have g4 : y4 = _ := f4
      have g5 : y5 = _ := f5
      have g6 : y6 = _ := f6
      have g7 : y7 = _ := f7
      have g8 : y8 = _ := f8
      have g9 : y9 = _ := f9
      have g10 : y10 = _ := f10
      have g11 : y11 = _ := f11
      have g12 : y12 = _ := f12
      have g13 : y13 = _ := f13
      have g14 : y14 = _ := f14
      have g15 : y15 = _ := f15
      have g16 : y16 = _ := f16
      have g17 : y17 = _ := f17
      have g18 : y18 = _ := f18
      have g19 : y19 = _ := f19
      have g20 : y20 = _ := f20
      have g21 : y21 = _ := f21
      have g22 : y22 = _ := f22
      have g23 : y23 = _ := f23
      have g24 : y24 = _ := f24
      have g25 : y25 = _ := f25
      have g26 : y26 = _ := f26
      have g27 : y27 = _ := f27
      have g28 : y28 = _ := f28
      have g29 : y29 = _ := f29
      have g44 : y44 = _ := f44
      have g45 : y45 = _ := f45
      have g46 : y46 = _ := f46
      have g47 : y47 = _ := f47
      have g48 : y48 = _ := f48
      have g49 : y49 = _ := f49
      have g50 : y50 = _ := f50
      have g51 : y51 = _ := f51
      have g52 : y52 = _ := f52
      have g53 : y53 = _ := f53
      have g54 : y54 = _ := f54
      have g55 : y55 = _ := f55
      have g56 : y56 = _ := f56
      have g57 : y57 = _ := f57
      have g58 : y58 = _ := f58
      have g59 : y59 = _ := f59
      have g60 : y60 = _ := f60
      have g61 : y61 = _ := f61
      have g62 : y62 = _ := f62
      have g63 : y63 = _ := f63
      have g64 : y64 = _ := f64
      have g65 : y65 = _ := f65
      have g66 : y66 = _ := f66
      have g67 : y67 = _ := f67
      have g68 : y68 = _ := f68
      have g69 : y69 = _ := f69
      have g70 : y70 = _ := f70
      have g71 : y71 = _ := f71
      have g72 : y72 = _ := f72
      have g73 : y73 = _ := f73
      have g74 : y74 = _ := f74
      have g75 : y75 = _ := f75
      clear f0 f1 f2 f3 f4 f5 f6 f7 f8 f9 f10 f11 f12 f13 f14 f15 f16 f17 f18 f19 f20 f21 f22 f23 f24 f25 f26 f27 f28 f29 f44 f45 f46 f47 f48 f49 f50 f51 f52 f53 f54 f55 f56 f57 f58 f59 f60 f61 f62 f63 f64 f65 f66 f67 f68 f69 f70 f71 f72 f73 f74 f75
      subst hd g0 g1 g2 g3 g4 g5 g6 g7 g8 g9 g10 g11 g12 g13 g14 g15 g16 g17 g18 g19 g20 g21 g22 g23 g24 g25 g26 g27 g28 g29 g44 g45 g46 g47 g48 g49 g50 g51 g52 g53 g54 g55 g56 g57 g58 g59 g60 g61 g62 g63 g64 g65 g66 g67 g68 g69 g70 g71 g72 g73 g74 g75
      have H5 : Hid (NN W b2 b4 B y ⟨uh, up, un, ug, (some ⟨gT, oT, none⟩), uc⟩ sg ix (k + 1) w5) := (H2.out.up hS).step KK.out hi_ K1.out HA.out GL1.out GG.out B5 c5
      clear hI hall hln hV hs hz hA hO hQQ B5 c5 hS H2 GB GG GL1 OLD hab HA K1 R0 vz_0 sz_0 vz_1 sz_1 vz_2 sz_2 vz_3 sz_3 vz_4 sz_4 vz_5 sz_5 vz_6 sz_6 vz_7 sz_7 vz_8 sz_8 vz_9 sz_9 vz_10 sz_10 vz_11 sz_11 vz_12 sz_12 vz_13 sz_13
      clear iz_0 iz_1 iz_2 iz_3 iz_4 iz_5 iz_6 iz_7 iz_8 iz_9 iz_10 iz_11 iz_12 iz_13 iz_14 bz_1 frz_1 bz_5 frz_5 bz_6 frz_6 bz_7 frz_7
      as_aux_lemma =>
      go_wp2_with fail
      go_roundw
      case rel => exact ⟨k + 1, by omega, by go_num, H5⟩
      case measure => simp [intOf]; omega
    · obtain rfl : nJ = k := by omega
      have j1 : ¬ (nJ : Int) < (nJ : Int) := by omega
      have t3 : decide (nJ < nJ) = false := by simp
      go_wp2_with fail
      clear m3 r0 j1 t3
      have H3 : Hid (NN W b2 b4 B y ⟨uh, up, un, ug, (some ⟨gT, oT, none⟩), uc⟩ sg (ix + 1) 0 wr) := by have := H2.out; rw [← HJn.out] at this; exact this.next
      clear H2
      go_roundw
      case rel => exact ⟨ix + 1, by omega, by go_num, H3⟩
      case measure => simp [intOf]; omega
  · obtain rfl : un = ix := by omega
    have ix1 : ¬ (un : Int) < (un : Int) := by omega
    have t3 : decide (un < un) = false := by simp
    go_wp2_with (with_reducible (show wpList _ _ _ (⟨_, Op.load 69 (.tmp 2), _, _, _, _⟩ :: _) _ _); refine halt ?_)
    clear m2 ix0 ix1 t3 nB hix hi_
    have UT := Lib.hid (H.out.done KK.out OS.out)
    obtain ⟨V, hV_⟩ : ∃ V, setB ⟨uh, up, un, ug, ua, uc⟩ sg = V := ⟨_, rfl⟩
    have VB : Hid (Box wr b4 [.int .i64 uh, .string up, .slice ua un uc]) := H.out.ub
    have VT : Hid (V.tl wr) := by rw [← hV_]; exact UT.out.tl
    have VK : Hid (V.ok) := by rw [← hV_]; exact ⟨OKU.out.h, OKU.out.prev, OKU.out.n⟩
    have VV : Hid (V.val = .agg #[.int .i64 uh, .string up, .slice ua un uc]) := by rw [← hV_]; rfl
    have VI : Hid (bidS V = bidS y) := by
      show _ = _
      rw [← hV_]
      obtain ⟨x1, x2, x3, x4⟩ := IS3.out
      obtain ⟨y1, y2, y3, y4⟩ := IS1.out
      (try dsimp only at x1 x2 x3 x4)
      refine bidS_set x1.symm ?_ ?_ fun j hj => ?_
      · show y.prev = up; rw [x2, y2]; exact (cut40 z.prev).symm
      · show y.n = un; omega
      · have hj' : j < un := hj
        show (ug j).t = _; rw [x4 j hj', y4 j (by omega)]; exact cutX_cut _
    have YB := Lib.hid H.out.yb
    have YT := Lib.hid H.out.yo.tl
    have QQ0 := Lib.hid H.out.q
    have RY : Hid (∀ w, Q wr w → Calls Tryz.prog 33 #[.agg #[.int .i64 y.h, .string y.prev, .slice y.a y.n y.c]] w (Tells (RightB y) w)) := fun w q => bright_x y w (YT.out.q_ q) OK.out
    have RU : Hid (∀ w, Q wr w → Calls Tryz.prog 33 #[.agg #[.int .i64 uh, .string up, .slice ua un uc]] w (Tells (RightB V) w)) := fun w q => by rw [← VV.out]; exact bright_x V w (VT.out.q_ q) VK.out
    have IY : Hid (∀ w, Q wr w → Calls Tryz.prog 36 #[.agg #[.int .i64 y.h, .string y.prev, .slice y.a y.n y.c]] w (Enc (RightB y) (bidS y) w)) := fun w q => bid_x y w (hG.out.q (QQ0.out.trans q)) (YT.out.q_ q) OK.out
    have IU : Hid (∀ w, Q wr w → Calls Tryz.prog 36 #[.agg #[.int .i64 uh, .string up, .slice ua un uc]] w (Enc (RightB V) (bidS y) w)) := fun w q => by rw [← VV.out, ← VI.out]; exact bid_x V w (hG.out.q (QQ0.out.trans q)) (VT.out.q_ q) VK.out
    have FX : Hid (∀ w, Q wr w → Calls Tryz.prog 45 #[] w fun e w' => e = .returned (.bool true) ∧ Q w w') := fun w q => bfixed_x (hG.out.q (QQ0.out.trans q))
    clear hV_ VT VK VV VI YT UT H KK IS1 IS3 OK OKU OS e4 hG
    have Q7 : Hid (Q wr wr) := Q.refl wr
    as_aux_lemma =>
    refine Lib.hid (ld_box rfl 69 _ rfl b2 _ rfl YB.out Tryz.underlying69 rfl (by kernel_rfl) ?_)
    go_wp2_with fail
    refine (RY.out _ Q7.out).mono ?_
    rintro e w7 ⟨b, rfl, hz, q7⟩
    have Q7 := Lib.hid q7
    clear q7
    rcases two hz with ⟨rfl, Z⟩ | ⟨rfl, Z⟩
    rotate_left
    · have Z1 := Lib.hid Z
      clear Z hz
      as_aux_lemma =>
      go_wp2_with (with_reducible (show wpList _ _ _ (⟨_, Op.load 69 (.tmp 2), _, _, _, _⟩ :: _) _ _); refine halt ?_)
      refine Lib.hid (ld_box rfl 69 _ rfl b2 _ rfl (YB.out.q Q7.out) Tryz.underlying69 rfl (by kernel_rfl) ?_)
      go_wp2_with fail
      refine (RY.out _ Q7.out).mono ?_
      rintro e w8 ⟨b, rfl, hz, q8⟩
      have Q8 := Lib.hid (Q7.out.trans q8)
      clear Q7 q8
      rcases two hz with ⟨rfl, Z⟩ | ⟨rfl, Z⟩
      · exact absurd Z Z1.out
      clear Z hz
      go_wp2_with (with_reducible (show wpList _ _ _ (⟨_, Op.load 69 (.tmp 2), _, _, _, _⟩ :: _) _ _); refine halt ?_)
      refine Lib.hid (ld_boxg3 (by kernel_rfl) 69 _ rfl b2 _ rfl (YB.out.q Q8.out) Tryz.underlying69 rfl (by kernel_rfl) ?_)
      go_wp2_with fail
      refine (IY.out _ Q8.out).mono ?_
      intro e w9 he
      obtain ⟨rfl, q9⟩ := he.n Z1.out
      have Q9 := Lib.hid (Q8.out.trans q9)
      clear Q8 he q9
      go_wp2_with fail
      refine (FX.out _ Q9.out).mono ?_
      rintro e w10 ⟨rfl, q10⟩
      have q11 := QQ0.out.trans (Q9.out.trans q10)
      go_wp2_with fail
      go_ret
      exact ⟨rfl, q11⟩
    have Z1 := Lib.hid Z
    clear Z hz
    as_aux_lemma =>
    go_wp2_with (with_reducible (show wpList _ _ _ (⟨_, Op.load 69 (.tmp 5), _, _, _, _⟩ :: _) _ _); refine halt ?_)
    refine Lib.hid (ld_boxg3 (by kernel_rfl) 69 _ rfl b4 _ rfl (VB.out.q Q7.out) Tryz.underlying69 rfl (by kernel_rfl) ?_)
    go_wp2_with fail
    refine (RU.out _ Q7.out).mono ?_
    rintro e w8 ⟨b, rfl, hz, q8⟩
    have Q8 := Lib.hid (Q7.out.trans q8)
    clear Q7 q8
    rcases two hz with ⟨rfl, Z⟩ | ⟨rfl, Z⟩
    rotate_left
    · clear Z hz
      as_aux_lemma =>
      go_wp2_with (with_reducible (show wpList _ _ _ (⟨_, Op.load 69 (.tmp 2), _, _, _, _⟩ :: _) _ _); refine halt ?_)
      refine Lib.hid (ld_box rfl 69 _ rfl b2 _ rfl (YB.out.q Q8.out) Tryz.underlying69 rfl (by kernel_rfl) ?_)
      go_wp2_with fail
      refine (RY.out _ Q8.out).mono ?_
      rintro e w9 ⟨b, rfl, hz, q9⟩
      have Q9 := Lib.hid (Q8.out.trans q9)
      clear Q8 q9
      rcases two hz with ⟨rfl, Z⟩ | ⟨rfl, Z⟩
      rotate_left
      · exact absurd Z1.out Z
      clear Z hz
      go_wp2_with fail
      refine (FX.out _ Q9.out).mono ?_
      rintro e w10 ⟨rfl, q10⟩
      have q11 := QQ0.out.trans (Q9.out.trans q10)
      go_wp2_with fail
      go_ret
      exact ⟨rfl, q11⟩
    have Z2 := Lib.hid Z
    clear Z hz
    obtain ⟨ii, hii⟩ : ∃ z, bidS y = z := ⟨_, rfl⟩
    have zi : (ii.size : Int) = 16 := by rw [← hii, bidS_size]; rfl
    have IDT : Hid (∀ w, Q w8 w → Calls Tryz.prog 36 #[.agg #[.int .i64 y.h, .string y.prev, .slice y.a y.n y.c]] w fun e w' => e = .returned (.string ii) ∧ Q w w') := fun w q => by
      rw [← hii]
      exact (IY.out w (Q8.out.trans q)).mono fun e w' h => h.v Z1.out
    have IDU : Hid (∀ w, Q w8 w → Calls Tryz.prog 36 #[.agg #[.int .i64 uh, .string up, .slice ua un uc]] w fun e w' => e = .returned (.string ii) ∧ Q w w') := fun w q => by
      rw [← hii]
      exact (IU.out w (Q8.out.trans q)).mono fun e w' h => h.v Z2.out
    have FXX : Hid (∀ w, Q w8 w → Calls Tryz.prog 45 #[] w fun e w' => e = .returned (.bool true) ∧ Q w w') := fun w q => FX.out w (Q8.out.trans q)
    have YB8 := Lib.hid (YB.out.q Q8.out)
    have VB8 := Lib.hid (VB.out.q Q8.out)
    have Q08 := Lib.hid (QQ0.out.trans Q8.out)
    clear hii Z1 Z2 RY RU IY IU FX YB VB Q8 QQ0
    as_aux_lemma =>
    go_wp2_with fail
    have hS0 : Q w8 w8.drew := (Q.refl w8).drew
    refine region_gen3 ?_
    intro OPS QQ A0 hO hQQ hA
    have hz : A0.tmps.size = 76 := by rw [hA]; rfl
    have hs : sound OPS A0.tmps.size = true := by rw [hz, hO]; kernel_rfl
    have b_2 : A0.eval (.tmp 2) = .pointer (some ⟨b2, 0, none⟩) := by rw [hA]; rfl
    have fr_2 : free OPS 2 = true := by rw [hO]; kernel_rfl
    have b_5 : A0.eval (.tmp 5) = .pointer (some ⟨b4, 0, none⟩) := by rw [hA]; rfl
    have fr_5 : free OPS 5 = true := by rw [hO]; kernel_rfl
    obtain ⟨VV, hVV⟩ : ∃ V : Nat → Value → World → Prop, V = fun i => ([fun v _ => v = .agg #[.int .i64 y.h, .string y.prev, .slice y.a y.n y.c], fun v _ => v = .string ii, fun v _ => v = .agg #[.int .i64 uh, .string up, .slice ua un uc], fun v _ => v = .string ii, fun v _ => v = .bool true, fun v _ => v = .bool true, fun v _ => v = .agg #[.int .i64 y.h, .string y.prev, .slice y.a y.n y.c], fun v _ => v = .string ii, fun v _ => v = .int .i64 16, fun v _ => v = .bool true, fun v _ => v = .bool true, fun v _ => v = .bool true, fun v _ => v = .bool true, fun v _ => v = .bool true, fun v _ => v = .bool true] : List (Value → World → Prop)).getD i (fun _ _ => True) := ⟨_, rfl⟩
    have v_0 : VV 0 = fun v _ => v = .agg #[.int .i64 y.h, .string y.prev, .slice y.a y.n y.c] := vat hVV 0
    have v_1 : VV 1 = fun v _ => v = .string ii := vat hVV 1
    have v_2 : VV 2 = fun v _ => v = .agg #[.int .i64 uh, .string up, .slice ua un uc] := vat hVV 2
    have v_3 : VV 3 = fun v _ => v = .string ii := vat hVV 3
    have v_4 : VV 4 = fun v _ => v = .bool true := vat hVV 4
    have v_5 : VV 5 = fun v _ => v = .bool true := vat hVV 5
    have v_6 : VV 6 = fun v _ => v = .agg #[.int .i64 y.h, .string y.prev, .slice y.a y.n y.c] := vat hVV 6
    have v_7 : VV 7 = fun v _ => v = .string ii := vat hVV 7
    have v_8 : VV 8 = fun v _ => v = .int .i64 16 := vat hVV 8
    have v_9 : VV 9 = fun v _ => v = .bool true := vat hVV 9
    have v_10 : VV 10 = fun v _ => v = .bool true := vat hVV 10
    have v_11 : VV 11 = fun v _ => v = .bool true := vat hVV 11
    have v_12 : VV 12 = fun v _ => v = .bool true := vat hVV 12
    have v_13 : VV 13 = fun v _ => v = .bool true := vat hVV 13
    have v_14 : VV 14 = fun v _ => v = .bool true := vat hVV 14
    have hV := stable_of (T := Q) hVV ((sl_cons (fun _ _ _ h _ => h) (sl_cons (fun _ _ _ h _ => h) (sl_cons (fun _ _ _ h _ => h) (sl_cons (fun _ _ _ h _ => h) (sl_cons (fun _ _ _ h _ => h) (sl_cons (fun _ _ _ h _ => h) (sl_cons (fun _ _ _ h _ => h) (sl_cons (fun _ _ _ h _ => h) (sl_cons (fun _ _ _ h _ => h) (sl_cons (fun _ _ _ h _ => h) (sl_cons (fun _ _ _ h _ => h) (sl_cons (fun _ _ _ h _ => h) (sl_cons (fun _ _ _ h _ => h) (sl_cons (fun _ _ _ h _ => h) (sl_cons (fun _ _ _ h _ => h) trivial))))))))))))))))
    clear hVV
    have i_0 := pget_at hO 0 rfl
    have i_1 := pget_at hO 1 rfl
    have i_2 := pget_at hO 2 rfl
    have i_3 := pget_at hO 3 rfl
    have i_4 := pget_at hO 4 rfl
    have i_5 := pget_at hO 5 rfl
    have i_6 := pget_at hO 6 rfl
    have i_7 := pget_at hO 7 rfl
    have i_8 := pget_at hO 8 rfl
    have i_9 := pget_at hO 9 rfl
    have i_10 := pget_at hO 10 rfl
    have i_11 := pget_at hO 11 rfl
    have i_12 := pget_at hO 12 rfl
    have i_13 := pget_at hO 13 rfl
    have i_14 := pget_at hO 14 rfl
    have s_0 := Step.pure (P := Tryz.prog) (V := VV) (T := Q) (S := (Q w8)) (a0 := A0) (Qx := QQ) i_0 (.agg #[.int .i64 y.h, .string y.prev, .slice y.a y.n y.c]) (Q.refl ·) (fun l a w hI hl => ⟨wanted_none rfl, ex_loado 69 rfl b2 0 [.int .i64 y.h, .string y.prev, .slice y.a y.n y.c] _ ((hI.base 2 fr_2).trans b_2) ((YB8.out.q hI.st).rangeo 0 (r := []) rfl) Tryz.underlying69 rfl (by kernel_rfl), at_mk v_0 rfl⟩)
    have s_1 := Step.call (P := Tryz.prog) (V := VV) (T := Q) (S := (Q w8)) (a0 := A0) (Qx := QQ) (R := fun _ _ _ => True) i_1 (fun l a w hI hl => by
      refine ⟨wanted_none rfl, 36, #[.agg #[.int .i64 y.h, .string y.prev, .slice y.a y.n y.c]], ?_, ?_⟩
      · exact ex_call rfl (by simp only [List.map_toArray, List.map_cons, List.map_nil, ev_const, (show a.eval (.tmp 62) = _ from (at_eq v_0 (hI.at_ 0 62 _ i_0 rfl (hl_at hl 0 rfl rfl))))]) Tryz.func36 (by kernel_rfl) (by kernel_rfl)
      · exact (IDT.out w hI.st).mono fun e w' hc => by
          obtain ⟨rfl, hq⟩ := hc
          exact ⟨_, rfl, hq, hI.st.trans hq, at_mk v_1 rfl⟩)
    have s_2 := Step.pure (P := Tryz.prog) (V := VV) (T := Q) (S := (Q w8)) (a0 := A0) (Qx := QQ) i_2 (.agg #[.int .i64 uh, .string up, .slice ua un uc]) (Q.refl ·) (fun l a w hI hl => ⟨wanted_none rfl, ex_loado 69 rfl b4 0 [.int .i64 uh, .string up, .slice ua un uc] _ ((hI.base 5 fr_5).trans b_5) ((VB8.out.q hI.st).rangeo 0 (r := []) rfl) Tryz.underlying69 rfl (by kernel_rfl), at_mk v_2 rfl⟩)
    have s_3 := Step.call (P := Tryz.prog) (V := VV) (T := Q) (S := (Q w8)) (a0 := A0) (Qx := QQ) (R := fun _ _ _ => True) i_3 (fun l a w hI hl => by
      refine ⟨wanted_none rfl, 36, #[.agg #[.int .i64 uh, .string up, .slice ua un uc]], ?_, ?_⟩
      · exact ex_call rfl (by simp only [List.map_toArray, List.map_cons, List.map_nil, ev_const, (show a.eval (.tmp 64) = _ from (at_eq v_2 (hI.at_ 2 64 _ i_2 rfl (hl_at hl 0 rfl rfl))))]) Tryz.func36 (by kernel_rfl) (by kernel_rfl)
      · exact (IDU.out w hI.st).mono fun e w' hc => by
          obtain ⟨rfl, hq⟩ := hc
          exact ⟨_, rfl, hq, hI.st.trans hq, at_mk v_3 rfl⟩)
    have s_4 := Step.pure (P := Tryz.prog) (V := VV) (T := Q) (S := (Q w8)) (a0 := A0) (Qx := QQ) i_4 (.bool true) (Q.refl ·) (fun l a w hI hl => ⟨wanted_none rfl, ex_bin rfl (at_eq v_1 (hI.at_ 1 63 _ i_1 rfl (hl_at hl 0 rfl rfl))) (at_eq v_3 (hI.at_ 3 65 _ i_3 rfl (hl_at hl 1 rfl rfl))) (eqs_same _ _ _ _ _), at_mk v_4 rfl⟩)
    have s_5 := Step.pure (P := Tryz.prog) (V := VV) (T := Q) (S := (Q w8)) (a0 := A0) (Qx := QQ) i_5 (.bool true) (Q.refl ·) (fun l a w hI hl => ⟨wanted_none rfl, ex_move rfl (at_eq v_4 (hI.at_ 4 66 _ i_4 rfl (hl_at hl 0 rfl rfl))), at_mk v_5 rfl⟩)
    have s_6 := Step.pure (P := Tryz.prog) (V := VV) (T := Q) (S := (Q w8)) (a0 := A0) (Qx := QQ) i_6 (.agg #[.int .i64 y.h, .string y.prev, .slice y.a y.n y.c]) (Q.refl ·) (fun l a w hI hl => ⟨wanted_of rfl i_5 rfl (lt_of hI hz rfl) (at_eq v_5 (hI.at_ 5 67 _ i_5 rfl (hl_at hl 0 rfl rfl))), ex_loado 69 rfl b2 0 [.int .i64 y.h, .string y.prev, .slice y.a y.n y.c] _ ((hI.base 2 fr_2).trans b_2) ((YB8.out.q hI.st).rangeo 0 (r := []) rfl) Tryz.underlying69 rfl (by kernel_rfl), at_mk v_6 rfl⟩)
    have s_7 := Step.call (P := Tryz.prog) (V := VV) (T := Q) (S := (Q w8)) (a0 := A0) (Qx := QQ) (R := fun _ _ _ => True) i_7 (fun l a w hI hl => by
      refine ⟨wanted_of rfl i_5 rfl (lt_of hI hz rfl) (at_eq v_5 (hI.at_ 5 67 _ i_5 rfl (hl_at hl 1 rfl rfl))), 36, #[.agg #[.int .i64 y.h, .string y.prev, .slice y.a y.n y.c]], ?_, ?_⟩
      · exact ex_call rfl (by simp only [List.map_toArray, List.map_cons, List.map_nil, ev_const, (show a.eval (.tmp 68) = _ from (at_eq v_6 (hI.at_ 6 68 _ i_6 rfl (hl_at hl 0 rfl rfl))))]) Tryz.func36 (by kernel_rfl) (by kernel_rfl)
      · exact (IDT.out w hI.st).mono fun e w' hc => by
          obtain ⟨rfl, hq⟩ := hc
          exact ⟨_, rfl, hq, hI.st.trans hq, at_mk v_7 rfl⟩)
    have s_8 := Step.pure (P := Tryz.prog) (V := VV) (T := Q) (S := (Q w8)) (a0 := A0) (Qx := QQ) i_8 (.int .i64 16) (Q.refl ·) (fun l a w hI hl => ⟨wanted_of rfl i_5 rfl (lt_of hI hz rfl) (at_eq v_5 (hI.at_ 5 67 _ i_5 rfl (hl_at hl 1 rfl rfl))), ex_len rfl Tryz.underlying9 (at_eq v_7 (hI.at_ 7 69 _ i_7 rfl (hl_at hl 0 rfl rfl))) zi, at_mk v_8 rfl⟩)
    have s_9 := Step.pure (P := Tryz.prog) (V := VV) (T := Q) (S := (Q w8)) (a0 := A0) (Qx := QQ) i_9 (.bool true) (Q.refl ·) (fun l a w hI hl => ⟨wanted_of rfl i_5 rfl (lt_of hI hz rfl) (at_eq v_5 (hI.at_ 5 67 _ i_5 rfl (hl_at hl 1 rfl rfl))), ex_bin rfl (at_eq v_8 (hI.at_ 8 70 _ i_8 rfl (hl_at hl 0 rfl rfl))) rfl (by kernel_rfl), at_mk v_9 rfl⟩)
    have s_10 := Step.pure (P := Tryz.prog) (V := VV) (T := Q) (S := (Q w8)) (a0 := A0) (Qx := QQ) i_10 (.bool true) (Q.refl ·) (fun l a w hI hl => ⟨wanted_none rfl, ex_pick_t rfl (at_eq v_5 (hI.at_ 5 67 _ i_5 rfl (hl_at hl 0 rfl rfl))) (at_eq v_9 (hI.at_ 9 71 _ i_9 rfl (hl_at hl 1 rfl rfl))), at_mk v_10 rfl⟩)
    have s_11 := Step.pure (P := Tryz.prog) (V := VV) (T := Q) (S := (Q w8)) (a0 := A0) (Qx := QQ) i_11 (.bool true) (Q.refl ·) (fun l a w hI hl => ⟨wanted_none rfl, ex_move rfl (at_eq v_10 (hI.at_ 10 72 _ i_10 rfl (hl_at hl 0 rfl rfl))), at_mk v_11 rfl⟩)
    have s_12 := Step.call (P := Tryz.prog) (V := VV) (T := Q) (S := (Q w8)) (a0 := A0) (Qx := QQ) (R := fun _ _ _ => True) i_12 (fun l a w hI hl => by
      refine ⟨wanted_of rfl i_11 rfl (lt_of hI hz rfl) (at_eq v_11 (hI.at_ 11 73 _ i_11 rfl (hl_at hl 0 rfl rfl))), 45, #[], ?_, ?_⟩
      · exact ex_call rfl (by simp only [List.map_toArray, List.map_cons, List.map_nil, ev_const]) Tryz.func45 (by kernel_rfl) (by kernel_rfl)
      · exact (FXX.out w hI.st).mono fun e w' hc => by
          obtain ⟨rfl, hq⟩ := hc
          exact ⟨_, rfl, hq, hI.st.trans hq, at_mk v_12 rfl⟩)
    have s_13 := Step.pure (P := Tryz.prog) (V := VV) (T := Q) (S := (Q w8)) (a0 := A0) (Qx := QQ) i_13 (.bool true) (Q.refl ·) (fun l a w hI hl => ⟨wanted_none rfl, ex_pick_t rfl (at_eq v_11 (hI.at_ 11 73 _ i_11 rfl (hl_at hl 0 rfl rfl))) (at_eq v_12 (hI.at_ 12 74 _ i_12 rfl (hl_at hl 1 rfl rfl))), at_mk v_13 rfl⟩)
    have s_14 := Step.pure (P := Tryz.prog) (V := VV) (T := Q) (S := (Q w8)) (a0 := A0) (Qx := QQ) i_14 (.bool true) (Q.refl ·) (fun l a w hI hl => ⟨wanted_none rfl, ex_assign rfl (at_eq v_13 (hI.at_ 13 75 _ i_13 rfl (hl_at hl 0 rfl rfl))), at_mk v_14 rfl⟩)
    refine wp_plan VV Q (Q w8) (by kernel_rfl) hs hV hS0 (steps_all hO ((sf_cons s_0 (sf_cons s_1 (sf_cons s_2 (sf_cons s_3 (sf_cons s_4 (sf_cons s_5 (sf_cons s_6 (sf_cons s_7 (sf_cons s_8 (sf_cons s_9 (sf_cons s_10 (sf_cons s_11 (sf_cons s_12 (sf_cons s_13 (sf_cons s_14 trivial))))))))))))))))) ?_
    intro l a' w' hall hIv
    have e0 : a'.eval (.tmp 4) = .bool true := at_eq v_14 (hIv.at_ 14 4 _ i_14 rfl (hall 14 (by rw [hO]; decide)))
    have hd : a'.defers = [] := by (rw [hIv.df, hA]; try rfl)
    have hst := Q08.out.trans hIv.st
    rw [hQQ]
    clear hIv hall
    go_wp2_with fail
    (try simp only [Exit.inBlock, Exit.then])
    refine bodyPost_ret (results_tmp rfl _ _ _) hd ?_
    exact ⟨congrArg Ending.returned e0, hst⟩
end Go.Proofs.YtjiepemapffgjaaGreatDoor.Coi
