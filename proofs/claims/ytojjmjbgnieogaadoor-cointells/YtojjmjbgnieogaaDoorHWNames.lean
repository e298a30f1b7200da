/-
  Layer 9: CoinNames' walk.
-/
import Derived.Test.YtojjmjbgnieogaaDoorHCoiF
namespace Go.Proofs.YtojjmjbgnieogaaDoor.Coi
open Go.RowKit
open Mem Num Cod Sh Plan
set_option linter.unusedVariables false
set_option linter.unusedSimpArgs false

/-- The inputs, of which the first k bear another signature. -/
def mixI (t : TX) (s : ByteArray) (k i : Nat) : IN := if i < k then ⟨(t.ins i).tx, (t.ins i).out, (t.ins i).path, s⟩ else t.ins i
/-- Where CoinNames stands: both transactions, and the second one's inputs, of which k are written. -/
structure NmS (W : World) (b3 b7 : Nat) (T : TX) (s : ByteArray) (P : PF) (aI : Option Addr) (cI : Nat) (aO : Option Addr) (cO : Nat) (aW : Option Addr) (cW : Nat) (aJ : Option Addr) (cJ : Nat) (aU : Option Addr) (cU : Nat) (aP : Option Addr) (cP : Nat) (k : Nat) (w : World) : Prop where
  t : TB w b3 T aI cI aO cO aW cW
  u : Box w b7 [.slice aJ T.nI cJ, .slice aU T.nO cU, .int .u64 P.amount, .string P.sig, .string P.token, .slice aP P.n cP]
  c : T.nI ≤ cJ
  i : T.nI = 0 ∨ ∃ g cs, aJ = some ⟨g, 0, none⟩ ∧ Box w g cs ∧ W.heap.size ≤ g ∧ g ≠ b3 ∧ g ≠ b7 ∧ (∀ x, aI = some x → x.block ≠ g) ∧ (∀ x, aO = some x → x.block ≠ g) ∧ (∀ x, aW = some x → x.block ≠ g) ∧ (∀ x, aU = some x → x.block ≠ g) ∧ (∀ x, aP = some x → x.block ≠ g) ∧
    T.nI * 4 ≤ cs.length ∧ ∀ i, i < T.nI → ∀ j v, ((mixI T s k i).cells)[j]? = some v → cs[i * 4 + j]? = some v
  o : SL OU.cells 9 w aU T.nO T.outs
  wn : SL WN.cells 10 w aP P.n P.w
  q : Q W w
section
variable {W : World} {b3 b7 : Nat} {T : TX} {s : ByteArray} {P : PF} {aI aO aW aJ aU aP : Option Addr} {cI cO cW cJ cU cP k : Nat} {w w' : World}
theorem NmS.up (h : NmS W b3 b7 T s P aI cI aO cO aW cW aJ cJ aU cU aP cP k w) (q : Q w w') : NmS W b3 b7 T s P aI cI aO cO aW cW aJ cJ aU cU aP cP k w' := by
  refine ⟨h.t.q q, h.u.q q, h.c, ?_, h.o.q q, h.wn.q q, h.q.trans q⟩
  rcases h.i with e | ⟨g, cs, h1, h2, h3⟩
  · exact .inl e
  · exact .inr ⟨g, cs, h1, h2.q q, h3⟩
/-- A signature was written. -/
theorem NmS.step {g : Nat} {cs : List Value} (h : NmS W b3 b7 T s P aI cI aO cO aW cW aJ cJ aU cU aP cP k w) (hk : k < T.nI) (hJ : aJ = some ⟨g, 0, none⟩) (hg : W.heap.size ≤ g ∧ g ≠ b3 ∧ g ≠ b7 ∧ (∀ x, aI = some x → x.block ≠ g) ∧ (∀ x, aO = some x → x.block ≠ g) ∧ (∀ x, aW = some x → x.block ≠ g) ∧ (∀ x, aU = some x → x.block ≠ g) ∧ (∀ x, aP = some x → x.block ≠ g) ∧
    T.nI * 4 ≤ cs.length ∧ ∀ i, i < T.nI → ∀ j v, ((mixI T s k i).cells)[j]? = some v → cs[i * 4 + j]? = some v) (hB : Box w' g (cs.set (k * 4 + 3) (.string s))) (c : Ch g w w') :
    NmS W b3 b7 T s P aI cI aO cO aW cW aJ cJ aU cU aP cP (k + 1) w' := by
  obtain ⟨h1, h2, h3, h4, h5, h6, h7, h8, h9, h10⟩ := hg
  refine ⟨⟨h.t.box.ch c (Ne.symm h2), h.t.tm.ch c h4 h5 h6⟩, h.u.ch c (Ne.symm h3), h.c, .inr ⟨g, _, hJ, hB, h1, h2, h3, h4, h5, h6, h7, h8, by rw [List.length_set]; exact h9, ?_⟩, h.o.ch c h7, h.wn.ch c h8, c.q h.q h1⟩
  intro i hi j v hv
  have hj : j < 4 := (List.getElem?_eq_some_iff.1 hv).1
  by_cases e : i = k
  · subst e
    have e0 : mixI T s (i + 1) i = ⟨(T.ins i).tx, (T.ins i).out, (T.ins i).path, s⟩ := by unfold mixI; rw [if_pos (by omega)]
    have e1 : mixI T s i i = T.ins i := by unfold mixI; rw [if_neg (by omega)]
    rw [e0] at hv
    by_cases ej : j = 3
    · subst ej
      rw [List.getElem?_set_self (by omega)]
      exact hv
    · rw [List.getElem?_set_ne (by omega)]
      refine h10 i hi j v ?_
      rw [e1, ← hv]
      rcases (show j = 0 ∨ j = 1 ∨ j = 2 by omega) with rfl | rfl | rfl <;> rfl
  · rw [List.getElem?_set_ne (by omega)]
    refine h10 i hi j v ?_
    rw [← hv]
    have : mixI T s k i = mixI T s (k + 1) i := by
      unfold mixI
      by_cases h : i < k
      · rw [if_pos h, if_pos (by omega)]
      · rw [if_neg h, if_neg (by omega)]
    rw [this]
theorem NmS.done (h : NmS W b3 b7 T s P aI cI aO cO aW cW aJ cJ aU cU aP cP T.nI w) : TB w b7 (setS T s P) aJ cJ aU cU aP cP := by
  refine ⟨h.u, ?_, h.c, h.o, h.wn⟩
  rcases h.i with e | ⟨g, cs, rfl, hB, _, _, _, _, _, _, _, _, _, hc⟩
  · exact .inl e
  · refine .inr ⟨g, 0, rfl, fun i hi j v hv => ?_⟩
    rw [Nat.zero_add]
    refine hB.at_ _ _ (hc i hi j v ?_)
    rw [← hv]
    unfold mixI
    rw [if_pos (show i < T.nI from hi)]
    rfl
end
theorem setS_ok {t : TX} {s : ByteArray} {p : PF} (h : t.ok) (hs : s.size ≤ 1000000) (hp : p.ok) : (setS t s p).ok := ⟨h.nI, fun i hi => ⟨(h.ins i hi).tx, (h.ins i hi).out, (h.ins i hi).path, hs⟩, h.nO, h.outs, hp⟩
/-- A load of the whole box, by an operation that has a guard. -/
theorem ld_boxg {P : Program} {ops : Array Oper} {rest : List Oper} {op : Oper} {a : Act} {w : World} {Q : Exit → Act → World → Prop} (hgd : Region.wanted op (yielded ops a.tmps) = true) (ty : TypeId) (x : Operand) (ho : op.op = .load ty x)
    (b : Nat) (cs : List Value) (hx : a.eval x = .pointer (some ⟨b, 0, none⟩)) (hB : Box w b cs) {d : TypeDesc} (hu : P.underlying ty = some d) (hd : d.isRow = true) (hi : (P.info? ty).map (·.size) = some cs.length)
    (h : wpList P ops Q rest (a.put op.dst (.agg cs.toArray)) w) : wpList P ops Q (op :: rest) a w :=
  wpList_step fun K hK => by
    rw [if_pos hgd]
    unfold Oper.wp
    rw [ex_loado ty ho b 0 cs d hx (hB.rangeo 0 (r := []) (by simp)) hu hd hi, Oper.upon_value]
    exact hK _ _ h
theorem Enc.val {R : Prop} {T : ByteArray} {w w' : World} {e : Ending} (hR : R) (h : Enc R T w e w') : e = .returned (.string T) ∧ Q w w' := by
  obtain ⟨s, rfl, h1 | h1, q⟩ := h
  · rw [h1.2]; exact ⟨rfl, q⟩
  · exact absurd hR h1.1
theorem Enc.none {R : Prop} {T : ByteArray} {w w' : World} {e : Ending} (hR : ¬ R) (h : Enc R T w e w') : e = .returned (.string ⟨#[]⟩) ∧ Q w w' := by
  obtain ⟨s, rfl, h1 | h1, q⟩ := h
  · exact absurd h1.1 hR
  · rw [h1.2]; exact ⟨rfl, q⟩
theorem fixed_q {w : World} (hG : GL w) : Calls Tryd.prog 12 #[] w fun e w' => e = .returned (.bool true) ∧ Q w w' := fixed_x hG w (Q.refl w)
set_option maxHeartbeats 40000000 in
set_option maxRecDepth 100000 in
theorem names_walk (W : World) (hG : GL W) (z : TXI) (hz : z.In W) (sig : ByteArray) (hsig : sig.size ≤ maxLen) (y0 : PFI) (hy : y0.In W) :
    Calls Tryd.prog 4 #[z.val, .string sig, y0.val] W fun e W' => e = .returned (.bool true) ∧ Below W.heap.size W W' := by
  obtain ⟨t, bI, dI, bO, dO, bW, dW⟩ := z
  obtain ⟨y, bP, dP⟩ := y0
  obtain ⟨HI, HO, HW, ha, hsg, htk⟩ := hz
  obtain ⟨HP, pa, psg, ptk⟩ := hy
  dsimp only at HI HO HW ha hsg htk HP pa psg ptk
  dsimp only [TXI.val, PFI.val]
  obtain ⟨T, hT⟩ : ∃ T, cutX t = T := ⟨_, rfl⟩
  obtain ⟨P, hP⟩ : ∃ P, cutP y = P := ⟨_, rfl⟩
  obtain ⟨sg, hs⟩ : ∃ z, sig.extract 0 (min (sig.size : Int) 400).toNat = z := ⟨_, rfl⟩
  have OK : Hid (T.ok) := by show T.ok; rw [← hT]; exact cutX_ok HI.ok HO.ok ha HW.ok
  have OP : Hid (P.ok) := by show P.ok; rw [← hP]; exact cutP_ok pa HP.ok
  have OS : Hid (sg.size ≤ 1000000) := by show sg.size ≤ _; rw [← hs]; exact cut_1m sig 400 rfl (by decide)
  have IT : Hid (cutX T = T) := by show _ = _; rw [← hT]; exact cutX_cut t
  have h4 : sig.size ≤ 9223372036854775807 := by unfold maxLen at hsig; omega
  have C1 := Lib.hid hT
  have C2 := Lib.hid hP
  have e4 := Lib.hid hs
  clear hT hP hs hsig
  have hG := Lib.hid hG
  have HI := Lib.hid HI
  have HO := Lib.hid HO
  have HW := Lib.hid HW
  have HP := Lib.hid HP
  go_enter Tryd.func4, Tryd.ntmps4
  go_wp2_with (with_reducible (show wpList _ _ _ (⟨_, Op.load 29 _, _, _, _, _⟩ :: _) _ _); refine halt ?_)
  have QA : Hid (Q W ((W.alloc (.cells #[.slice bI t.nI dI, .slice bO t.nO dO, .int .u64 t.p.amount, .string t.p.sig, .string t.p.token, .slice bW t.p.n dW] 29)).alloc (.cells #[.int .u64 y.amount, .string y.sig, .string y.token, .slice bP y.n dP] 27))) := ((Q.refl W).alloc _).alloc _
  have B3 : Hid (Box ((W.alloc (.cells #[.slice bI t.nI dI, .slice bO t.nO dO, .int .u64 t.p.amount, .string t.p.sig, .string t.p.token, .slice bW t.p.n dW] 29)).alloc (.cells #[.int .u64 y.amount, .string y.sig, .string y.token, .slice bP y.n dP] 27)) W.heap.size [.slice bI t.nI dI, .slice bO t.nO dO, .int .u64 t.p.amount, .string t.p.sig, .string t.p.token, .slice bW t.p.n dW]) := (Box.new W [.slice bI t.nI dI, .slice bO t.nO dO, .int .u64 t.p.amount, .string t.p.sig, .string t.p.token, .slice bW t.p.n dW] 29).q ((Q.refl _).alloc _)
  have B5 : Hid (Box ((W.alloc (.cells #[.slice bI t.nI dI, .slice bO t.nO dO, .int .u64 t.p.amount, .string t.p.sig, .string t.p.token, .slice bW t.p.n dW] 29)).alloc (.cells #[.int .u64 y.amount, .string y.sig, .string y.token, .slice bP y.n dP] 27)) (W.heap.size + 1) [.int .u64 y.amount, .string y.sig, .string y.token, .slice bP y.n dP]) := by
    have := Box.new (W.alloc (.cells #[.slice bI t.nI dI, .slice bO t.nO dO, .int .u64 t.p.amount, .string t.p.sig, .string t.p.token, .slice bW t.p.n dW] 29)) [.int .u64 y.amount, .string y.sig, .string y.token, .slice bP y.n dP] 27
    rw [show (W.alloc (.cells #[.slice bI t.nI dI, .slice bO t.nO dO, .int .u64 t.p.amount, .string t.p.sig, .string t.p.token, .slice bW t.p.n dW] 29)).heap.size = W.heap.size + 1 by simp] at this
    exact this
  generalize (W.alloc (.cells #[.slice bI t.nI dI, .slice bO t.nO dO, .int .u64 t.p.amount, .string t.p.sig, .string t.p.token, .slice bW t.p.n dW] 29)).alloc (.cells #[.int .u64 y.amount, .string y.sig, .string y.token, .slice bP y.n dP] 27) = wA at *
  obtain ⟨b5, hb5⟩ : ∃ b, W.heap.size + 1 = b := ⟨_, rfl⟩
  rw [hb5] at B5 ⊢
  obtain ⟨b3, hb3⟩ : ∃ b, W.heap.size = b := ⟨_, rfl⟩
  rw [hb3] at B3 ⊢
  have HI1 := Lib.hid (HI.out.q QA.out)
  have HO1 := Lib.hid (HO.out.q QA.out)
  have HW1 := Lib.hid (HW.out.q QA.out)
  refine Lib.hid (ld_box rfl 29 _ rfl b3 _ rfl B3.out Tryd.underlying29 rfl (by kernel_rfl) ?_)
  go_wp2_with fail
  refine (cut_x t T C1.out bI dI bO dO bW dW _ HI1.out HO1.out HW1.out hsg htk).mono ?_
  rintro e w1 ⟨aI, cI, aO, cO, aW, cW, rfl, o1, _, _, q1⟩
  clear HI1 HO1 HW1
  go_wp2_with (with_reducible (show wpList _ _ _ (⟨_, Op.store 29 _ _, _, _, _, _⟩ :: _) _ _); refine halt ?_)
  refine Lib.hid (st_box rfl 29 _ _ rfl b3 _ [.slice aI T.nI cI, .slice aO T.nO cO, .int .u64 T.p.amount, .string T.p.sig, .string T.p.token, .slice aW T.p.n cW] rfl rfl (B3.out.q q1) rfl (by kernel_rfl) (one6 rfl rfl rfl rfl rfl rfl) ?_)
  intro w2 B3' c2
  have l3 : b3 < wA.heap.size := B3.out.lt
  have l5 : b5 < wA.heap.size := B5.out.lt
  have n35 : b5 ≠ b3 := by omega
  have O2 := Lib.hid (o1.low c2 l3)
  have B32 := Lib.hid B3'
  have B52 := Lib.hid ((B5.out.q q1).ch c2 n35)
  have Q2 : Hid (Q W w2) := c2.q (QA.out.trans q1) (by omega)
  have s2 : wA.heap.size ≤ w2.heap.size := Nat.le_trans q1.size c2.size
  have BB : Hid (W.heap.size ≤ wA.heap.size) := QA.out.size
  clear c2 B3' o1 q1 B3 B5 QA
  go_wp2_with (with_reducible (show wpList _ _ _ (⟨_, Op.load 29 _, _, _, _, _⟩ :: _) _ _); refine halt ?_)
  refine Lib.hid (ld_box rfl 29 _ rfl b3 _ rfl B32.out Tryd.underlying29 rfl (by kernel_rfl) ?_)
  go_wp2_with fail
  refine (O2.out.cut OK.out IT.out _ O2.out).mono ?_
  rintro e w3 ⟨aJ, cJ, aU, cU, aV, cV, rfl, o3, p3, _, q3⟩
  go_wp2_with (with_reducible (show wpList _ _ _ (⟨_, Op.alloc 29, _, _, _, _⟩ :: _) _ _); refine halt ?_)
  refine wpList_allocZ rfl 29 rfl #[.slice none 0 0, .slice none 0 0, .int .u64 0, .string ⟨#[]⟩, .string ⟨#[]⟩, .slice none 0 0] zeroT ?_
  refine st_box rfl 29 _ _ rfl w3.heap.size _ [.slice aJ T.nI cJ, .slice aU T.nO cU, .int .u64 T.p.amount, .string T.p.sig, .string T.p.token, .slice aV T.p.n cV] rfl rfl (Box.new w3 [.slice none 0 0, .slice none 0 0, .int .u64 0, .string ⟨#[]⟩, .string ⟨#[]⟩, .slice none 0 0] 29) rfl (by kernel_rfl) (one6 rfl rfl rfl rfl rfl rfl) ?_
  intro w4 B7' c4
  have q34 : Q w3 (w3.alloc (.cells #[.slice none 0 0, .slice none 0 0, .int .u64 0, .string ⟨#[]⟩, .string ⟨#[]⟩, .slice none 0 0] 29)) := (Q.refl w3).alloc _
  have s3 := q3.size
  have s4 : w3.heap.size < w4.heap.size := B7'.lt
  have q4 : Q w2 w4 := c4.q (q3.trans q34) s3
  have O4 := Lib.hid (O2.out.q q4)
  have B34 := Lib.hid (B32.out.q q4)
  have B54 := Lib.hid (B52.out.q q4)
  have P4 : Hid (OT w4 w2.heap.size T aJ cJ aU cU aV cV) := ⟨(o3.i.q q34).ch c4 fun x e => by have := (o3.i.blk_ x e).2; omega, (o3.o.q q34).ch c4 fun x e => by have := (o3.o.blk_ x e).2; omega, (o3.w.q q34).ch c4 fun x e => by have := (o3.w.blk_ x e).2; omega⟩
  have O4 := Lib.hid (O2.out.q q4)
  have B34 := Lib.hid (B32.out.q q4)
  have B54 := Lib.hid (B52.out.q q4)
  have Q4 := Lib.hid (Q2.out.trans q4)
  have BJ : Hid (∀ x, aJ = some x → x.block < w3.heap.size) := fun x e => (o3.i.blk_ x e).2
  have BU : Hid (∀ x, aU = some x → x.block < w3.heap.size) := fun x e => (o3.o.blk_ x e).2
  have HTI : Hid (∀ x, aI = some x → wA.heap.size ≤ x.block ∧ x.block < w2.heap.size) := fun x e => O2.out.i.blk_ x e
  have HTO : Hid (∀ x, aO = some x → wA.heap.size ≤ x.block ∧ x.block < w2.heap.size) := fun x e => O2.out.o.blk_ x e
  have HTW : Hid (∀ x, aW = some x → wA.heap.size ≤ x.block ∧ x.block < w2.heap.size) := fun x e => O2.out.w.blk_ x e
  have BV : Hid (∀ x, aV = some x → x.block < w3.heap.size) := fun x e => (o3.w.blk_ x e).2
  have B7 := Lib.hid B7'
  have AJU := Lib.hid p3
  clear c4 q34 o3 p3 q3 q4 O2 B32 B52 Q2 B7'
  obtain ⟨b7, hb7⟩ : ∃ b, w3.heap.size = b := ⟨_, rfl⟩
  rw [hb7] at B7 BJ BU BV s4 s3 ⊢
  clear hb7 w3
  as_aux_lemma =>
  go_wp2_with (with_reducible (show wpList _ _ _ (⟨_, Op.load 27 _, _, _, _, _⟩ :: _) _ _); refine halt ?_)
  refine Lib.hid (ld_box rfl 27 _ rfl b5 _ rfl B54.out Tryd.underlying27 rfl (by kernel_rfl) ?_)
  go_wp2_with fail
  refine (cutp_x y bP dP _ (HP.out.q Q4.out) psg ptk).mono ?_
  rw [C2.out]
  rintro e w5 ⟨aP, cP, rfl, o5, q5⟩
  have PN : min y.n 6 = P.n := by rw [← C2.out]; rfl
  rw [PN] at o5
  clear PN
  go_wp2_with (with_reducible (show wpList _ _ _ (⟨_, Op.store 27 _ _, _, _, _, _⟩ :: _) _ _); refine halt ?_)
  refine Lib.hid (st_mid rfl 27 _ _ rfl b7 2 [.slice aJ T.nI cJ, .slice aU T.nO cU, .int .u64 T.p.amount, .string T.p.sig, .string T.p.token, .slice aV T.p.n cV] [.int .u64 P.amount, .string P.sig, .string P.token, .slice aP P.n cP] rfl rfl (B7.out.q q5) (by simp) (by kernel_rfl) (one4 rfl rfl rfl rfl) ?_)
  intro w6 B76 c6
  have S6 : Hid (NmS W b3 b7 T sg P aI cI aO cO aW cW aJ cJ aU cU aP cP 0 w6) := by
    have m3 : b3 ≠ b7 := by omega
    have fz : ∀ x, x < w4.heap.size → x ≠ b7 → True := fun _ _ _ => trivial
    have HA : OT w6 wA.heap.size T aI cI aO cO aW cW := ⟨(O4.out.i.q q5).ch c6 fun x e => by have := HTI.out x e; omega, (O4.out.o.q q5).ch c6 fun x e => by have := HTO.out x e; omega, (O4.out.w.q q5).ch c6 fun x e => by have := HTW.out x e; omega⟩
    have HJ : OT w6 w2.heap.size T aJ cJ aU cU aV cV := ⟨(P4.out.i.q q5).ch c6 fun x e => by have := BJ.out x e; omega, (P4.out.o.q q5).ch c6 fun x e => by have := BU.out x e; omega, (P4.out.w.q q5).ch c6 fun x e => by have := BV.out x e; omega⟩
    have HPr : OR 85 WN.cells 10 w6 w4.heap.size aP P.n cP P.w := o5.ch c6 fun x e => by have := (o5.blk_ x e).1; omega
    refine ⟨⟨(B34.out.q q5).ch c6 (by omega), HA.tm⟩, B76, (HJ.i.ins in_len (P := fun _ => True) fun _ _ => trivial).le, ?_, HJ.o.sl out_len, HPr.sl win_len, c6.q (Q4.out.trans q5) (by omega)⟩
    by_cases e0 : T.nI = 0
    · exact .inl e0
    obtain ⟨g, cs, e1, k1, k2, k3, k4⟩ := HJ.i.box in_len (by omega)
    have lg := BJ.out _ e1
    dsimp only at lg
    exact .inr ⟨g, cs, e1, k1, by omega, by omega, by omega, fun x e => by have := HTI.out x e; omega, fun x e => by have := HTO.out x e; omega, fun x e => by have := HTW.out x e; omega, fun x e he => AJU.out _ _ e1 e he.symm, fun x e => by have := (HPr.blk_ x e).1; omega, k3, fun i hi j v hv => k4 i hi j v (by rw [← hv]; unfold mixI; rw [if_neg (by omega)])⟩
  clear B76 c6 q5 o5 B34 B54 O4 P4 Q4 B7 BJ BU BV HTI HTO HTW AJU HP HI HO HW C1 C2
  go_wp2_with fail
  obtain ⟨n, hn⟩ : ∃ n, T.nI = n := ⟨_, rfl⟩
  have nB : n ≤ 100 := by rw [← hn]; exact OK.out.nI
  have HN := Lib.hid hn
  go_loopw [8] (fun i wr => ∃ k : Nat, k ≤ T.nI ∧ i = .int .i64 k ∧ Hid (NmS W b3 b7 T sg P aI cI aO cO aW cW aJ cJ aU cU aP cP k wr)) (fun i _ => T.nI - (intOf i).toNat)
  case atStart => exact ⟨0, by omega, rfl, S6⟩
  case round =>
  obtain ⟨k, hk, rfl, H⟩ := hrel
  clear S6
  have j0 : (0 : Int) ≤ (k : Int) := by omega
  have m0 := H.out.u.at_ 0 _ rfl
  have nB2 : T.nI ≤ 100 := by omega
  clear hn
  by_cases hlt : k < T.nI
  · have j1 : (k : Int) < (T.nI : Int) := by omega
    go_wp2_with fail
    clear m0
    obtain ⟨g, cs, hab, GB, GG⟩ := H.out.i.resolve_left (by omega)
    have GB := Lib.hid GB
    have GG := Lib.hid GG
    have OLD : Hid (cs[k * 4 + 3]? = some (.string (T.ins k).sig)) := GG.out.2.2.2.2.2.2.2.2.2 k hlt 3 _ (by unfold mixI; rw [if_neg (by omega)]; rfl)
    have e4' := e4.out
    as_aux_lemma =>
    have hS0 : Q wr wr.drew := (Q.refl wr).drew
    refine region_gen3 ?_
    intro OPS QQ A0 hO hQQ hA
    have hz : A0.tmps.size = 72 := by rw [hA]; rfl
    have hs : sound OPS A0.tmps.size = true := by rw [hz, hO]; kernel_rfl
    have bz_1 : A0.eval (.tmp 1) = .string sig := by rw [hA]; rfl
    have frz_1 : free OPS 1 = true := by rw [hO]; kernel_rfl
    have bz_7 : A0.eval (.tmp 7) = .pointer (some ⟨b7, 0, none⟩) := by rw [hA]; rfl
    have frz_7 : free OPS 7 = true := by rw [hO]; kernel_rfl
    have bz_8 : A0.eval (.tmp 8) = .int .i64 k := by rw [hA]; rfl
    have frz_8 : free OPS 8 = true := by rw [hO]; kernel_rfl
    obtain ⟨VV, hVV⟩ : ∃ V : Nat → Value → World → Prop, V = fun i => ([fun v _ => v = .pointer (some ⟨b7, 0, none⟩), fun v _ => v = .slice aJ T.nI cJ, fun v _ => v = .int .i64 k, fun v _ => v = .string sig, fun v _ => v = .string sig, fun v _ => v = .int .i64 sig.size, fun v _ => v = .int .i64 (min (sig.size : Int) 400), fun v _ => v = .string sg, fun v _ => v = .pointer (some ⟨g, k * 4, none⟩), fun v _ => v = .pointer (some ⟨g, k * 4 + 3, none⟩)] : List (Value → World → Prop)).getD i (fun _ _ => True) := ⟨_, rfl⟩
    have vz_0 : VV 0 = fun v _ => v = .pointer (some ⟨b7, 0, none⟩) := vat hVV 0
    have vz_1 : VV 1 = fun v _ => v = .slice aJ T.nI cJ := vat hVV 1
    have vz_2 : VV 2 = fun v _ => v = .int .i64 k := vat hVV 2
    have vz_3 : VV 3 = fun v _ => v = .string sig := vat hVV 3
    have vz_4 : VV 4 = fun v _ => v = .string sig := vat hVV 4
    have vz_5 : VV 5 = fun v _ => v = .int .i64 sig.size := vat hVV 5
    have vz_6 : VV 6 = fun v _ => v = .int .i64 (min (sig.size : Int) 400) := vat hVV 6
    have vz_7 : VV 7 = fun v _ => v = .string sg := vat hVV 7
    have vz_8 : VV 8 = fun v _ => v = .pointer (some ⟨g, k * 4, none⟩) := vat hVV 8
    have vz_9 : VV 9 = fun v _ => v = .pointer (some ⟨g, k * 4 + 3, none⟩) := vat hVV 9
    have hV := stablex_of (T := Q) (p := 10) hVV ((sx_cons (fun _ _ _ h _ => h) (sx_cons (fun _ _ _ h _ => h) (sx_cons (fun _ _ _ h _ => h) (sx_cons (fun _ _ _ h _ => h) (sx_cons (fun _ _ _ h _ => h) (sx_cons (fun _ _ _ h _ => h) (sx_cons (fun _ _ _ h _ => h) (sx_cons (fun _ _ _ h _ => h) (sx_cons (fun _ _ _ h _ => h) (sx_cons (fun _ _ _ h _ => h) trivial)))))))))))
    clear hVV
    have iz_0 := pget_at hO 0 rfl
    have iz_1 := pget_at hO 1 rfl
    have iz_2 := pget_at hO 2 rfl
    have iz_3 := pget_at hO 3 rfl
    have iz_4 := pget_at hO 4 rfl
    have iz_5 := pget_at hO 5 rfl
    have iz_6 := pget_at hO 6 rfl
    have iz_7 := pget_at hO 7 rfl
    have iz_8 := pget_at hO 8 rfl
    have iz_9 := pget_at hO 9 rfl
    have iz_10 := pget_at hO 10 rfl
    have sz_0 := Step2.pure (P := Tryd.prog) (V := VV) (T := Q) (S := (Q wr)) (a0 := A0) (p := 10) (Qx := QQ) iz_0 (by rw [hO]; kernel_rfl) (.pointer (some ⟨b7, 0, none⟩)) (Q.refl ·) (fun l a w hI hl hS => ⟨wanted_none rfl, (by have e0 : a.eval (.tmp 7) = _ := ((hI.base 7 frz_7).trans bz_7); generalize a.eval = ρ at e0 ⊢; simp [go_sem, e0]), at_mk vz_0 rfl⟩)
    have sz_1 := Step2.pure (P := Tryd.prog) (V := VV) (T := Q) (S := (Q wr)) (a0 := A0) (p := 10) (Qx := QQ) iz_1 (by rw [hO]; kernel_rfl) (.slice aJ T.nI cJ) (Q.refl ·) (fun l a w hI hl hS => ⟨wanted_none rfl, (by have e0 : a.eval (.tmp 23) = _ := (at_eq vz_0 (hI.at_ 0 23 _ iz_0 rfl (hl_at hl 0 rfl rfl))); have x0 := (H.out.u.q hS).at_ 0 _ rfl; generalize a.eval = ρ at e0 ⊢; simp [go_sem, e0, x0]), at_mk vz_1 rfl⟩)
    have sz_2 := Step2.pure (P := Tryd.prog) (V := VV) (T := Q) (S := (Q wr)) (a0 := A0) (p := 10) (Qx := QQ) iz_2 (by rw [hO]; kernel_rfl) (.int .i64 k) (Q.refl ·) (fun l a w hI hl hS => ⟨wanted_none rfl, ex_move rfl ((hI.base 8 frz_8).trans bz_8), at_mk vz_2 rfl⟩)
    have sz_3 := Step2.pure (P := Tryd.prog) (V := VV) (T := Q) (S := (Q wr)) (a0 := A0) (p := 10) (Qx := QQ) iz_3 (by rw [hO]; kernel_rfl) (.string sig) (Q.refl ·) (fun l a w hI hl hS => ⟨wanted_none rfl, ex_move rfl ((hI.base 1 frz_1).trans bz_1), at_mk vz_3 rfl⟩)
    have sz_4 := Step2.pure (P := Tryd.prog) (V := VV) (T := Q) (S := (Q wr)) (a0 := A0) (p := 10) (Qx := QQ) iz_4 (by rw [hO]; kernel_rfl) (.string sig) (Q.refl ·) (fun l a w hI hl hS => ⟨wanted_none rfl, ex_move rfl ((hI.base 1 frz_1).trans bz_1), at_mk vz_4 rfl⟩)
    have sz_5 := Step2.pure (P := Tryd.prog) (V := VV) (T := Q) (S := (Q wr)) (a0 := A0) (p := 10) (Qx := QQ) iz_5 (by rw [hO]; kernel_rfl) (.int .i64 sig.size) (Q.refl ·) (fun l a w hI hl hS => ⟨wanted_none rfl, (by have e0 : a.eval (.tmp 27) = _ := (at_eq vz_4 (hI.at_ 4 27 _ iz_4 rfl (hl_at hl 0 rfl rfl))); generalize a.eval = ρ at e0 ⊢; simp [go_sem, e0]), at_mk vz_5 rfl⟩)
    have sz_6 := Step2.pure (P := Tryd.prog) (V := VV) (T := Q) (S := (Q wr)) (a0 := A0) (p := 10) (Qx := QQ) iz_6 (by rw [hO]; kernel_rfl) (.int .i64 (min (sig.size : Int) 400)) (Q.refl ·) (fun l a w hI hl hS => ⟨wanted_none rfl, (by have e0 : a.eval (.tmp 28) = _ := (at_eq vz_5 (hI.at_ 5 28 _ iz_5 rfl (hl_at hl 0 rfl rfl))); have e1 : a.eval (.const (.int .i64 400)) = .int .i64 400 := rfl; generalize a.eval = ρ at e0 e1 ⊢; simp [go_sem, e0, e1]), at_mk vz_6 rfl⟩)
    have sz_7 := Step2.pure (P := Tryd.prog) (V := VV) (T := Q) (S := (Q wr)) (a0 := A0) (p := 10) (Qx := QQ) iz_7 (by rw [hO]; kernel_rfl) (.string sg) (Q.refl ·) (fun l a w hI hl hS => ⟨wanted_none rfl, (by have e0 : a.eval (.tmp 26) = _ := (at_eq vz_3 (hI.at_ 3 26 _ iz_3 rfl (hl_at hl 0 rfl rfl))); have e1 : a.eval (.tmp 29) = _ := (at_eq vz_6 (hI.at_ 6 29 _ iz_6 rfl (hl_at hl 1 rfl rfl))); have x0 := e4'; generalize a.eval = ρ at e0 e1 ⊢; simp [go_sem, e0, e1, x0, h4]; try omega), at_mk vz_7 rfl⟩)
    have sz_8 := Step2.pure (P := Tryd.prog) (V := VV) (T := Q) (S := (Q wr)) (a0 := A0) (p := 10) (Qx := QQ) iz_8 (by rw [hO]; kernel_rfl) (.pointer (some ⟨g, k * 4, none⟩)) (Q.refl ·) (fun l a w hI hl hS => ⟨wanted_none rfl, (by have e0 : a.eval (.tmp 24) = _ := (at_eq vz_1 (hI.at_ 1 24 _ iz_1 rfl (hl_at hl 0 rfl rfl))); have e1 : a.eval (.tmp 25) = _ := (at_eq vz_2 (hI.at_ 2 25 _ iz_2 rfl (hl_at hl 1 rfl rfl))); generalize a.eval = ρ at e0 e1 ⊢; simp [go_sem, e0, e1, j0, j1, hab]), at_mk vz_8 rfl⟩)
    have sz_9 := Step2.pure (P := Tryd.prog) (V := VV) (T := Q) (S := (Q wr)) (a0 := A0) (p := 10) (Qx := QQ) iz_9 (by rw [hO]; kernel_rfl) (.pointer (some ⟨g, k * 4 + 3, none⟩)) (Q.refl ·) (fun l a w hI hl hS => ⟨wanted_none rfl, (by have e0 : a.eval (.tmp 31) = _ := (at_eq vz_8 (hI.at_ 8 31 _ iz_8 rfl (hl_at hl 0 rfl rfl))); generalize a.eval = ρ at e0 ⊢; simp [go_sem, e0]), at_mk vz_9 rfl⟩)
    refine wp_plan2 VV (Q) (Q wr) 10 10 (by kernel_rfl) hs (by rw [hO]; rfl) (by rw [hO]; kernel_rfl) hV hS0 (steps2_all hO _ rfl ((s2_cons sz_0 (s2_cons sz_1 (s2_cons sz_2 (s2_cons sz_3 (s2_cons sz_4 (s2_cons sz_5 (s2_cons sz_6 (s2_cons sz_7 (s2_cons sz_8 (s2_cons sz_9 trivial)))))))))))) ?_
    intro l a w hall hln hI
    as_aux_lemma =>
    have hS := hI.st hln
    refine fin_of iz_10 (wanted_none rfl) ?_
    refine wpo_st1 9 _ _ rfl (at_eq vz_9 (hI.at_ 9 32 _ iz_9 rfl (hall 9 (by decide)))) (at_eq vz_7 (hI.at_ 7 30 _ iz_7 rfl (hall 7 (by decide)))) (GB.out.q hS) OLD.out (fun w hc hf => by simp [go_sem, hc, hf]) ?_
    intro w5 B5 c5
    rw [hQQ]
    obtain ⟨ts, ds⟩ := a
    have hd : ds = [] := by have := hI.df; rw [hA] at this; exact this
    have hts : ts.size = 72 := by have := hI.sz; rw [hz] at this; exact this
    have f0 := (hI.base 0 (by rw [hO]; kernel_rfl)).trans (base_at hA 0 rfl)
    have f1 := (hI.base 1 (by rw [hO]; kernel_rfl)).trans (base_at hA 1 rfl)
    have f2 := (hI.base 2 (by rw [hO]; kernel_rfl)).trans (base_at hA 2 rfl)
    have f3 := (hI.base 3 (by rw [hO]; kernel_rfl)).trans (base_at hA 3 rfl)
    have f4 := (hI.base 4 (by rw [hO]; kernel_rfl)).trans (base_at hA 4 rfl)
    have f5 := (hI.base 5 (by rw [hO]; kernel_rfl)).trans (base_at hA 5 rfl)
    have f6 := (hI.base 6 (by rw [hO]; kernel_rfl)).trans (base_at hA 6 rfl)
    have f7 := (hI.base 7 (by rw [hO]; kernel_rfl)).trans (base_at hA 7 rfl)
    have f8 := (hI.base 8 (by rw [hO]; kernel_rfl)).trans (base_at hA 8 rfl)
    have f9 := (hI.base 9 (by rw [hO]; kernel_rfl)).trans (base_at hA 9 rfl)
    have f10 := (hI.base 10 (by rw [hO]; kernel_rfl)).trans (base_at hA 10 rfl)
    have f11 := (hI.base 11 (by rw [hO]; kernel_rfl)).trans (base_at hA 11 rfl)
    have f12 := (hI.base 12 (by rw [hO]; kernel_rfl)).trans (base_at hA 12 rfl)
    have f13 := (hI.base 13 (by rw [hO]; kernel_rfl)).trans (base_at hA 13 rfl)
    have f14 := (hI.base 14 (by rw [hO]; kernel_rfl)).trans (base_at hA 14 rfl)
    have f15 := (hI.base 15 (by rw [hO]; kernel_rfl)).trans (base_at hA 15 rfl)
    have f16 := (hI.base 16 (by rw [hO]; kernel_rfl)).trans (base_at hA 16 rfl)
    have f17 := (hI.base 17 (by rw [hO]; kernel_rfl)).trans (base_at hA 17 rfl)
    have f18 := (hI.base 18 (by rw [hO]; kernel_rfl)).trans (base_at hA 18 rfl)
    have f19 := (hI.base 19 (by rw [hO]; kernel_rfl)).trans (base_at hA 19 rfl)
    have f20 := (hI.base 20 (by rw [hO]; kernel_rfl)).trans (base_at hA 20 rfl)
    have f21 := (hI.base 21 (by rw [hO]; kernel_rfl)).trans (base_at hA 21 rfl)
    have f22 := (hI.base 22 (by rw [hO]; kernel_rfl)).trans (base_at hA 22 rfl)
    have f33 := (hI.base 33 (by rw [hO]; kernel_rfl)).trans (base_at hA 33 rfl)
    have f34 := (hI.base 34 (by rw [hO]; kernel_rfl)).trans (base_at hA 34 rfl)
    have f35 := (hI.base 35 (by rw [hO]; kernel_rfl)).trans (base_at hA 35 rfl)
    have f36 := (hI.base 36 (by rw [hO]; kernel_rfl)).trans (base_at hA 36 rfl)
    have f37 := (hI.base 37 (by rw [hO]; kernel_rfl)).trans (base_at hA 37 rfl)
    have f38 := (hI.base 38 (by rw [hO]; kernel_rfl)).trans (base_at hA 38 rfl)
    have f39 := (hI.base 39 (by rw [hO]; kernel_rfl)).trans (base_at hA 39 rfl)
    have f40 := (hI.base 40 (by rw [hO]; kernel_rfl)).trans (base_at hA 40 rfl)
    have f41 := (hI.base 41 (by rw [hO]; kernel_rfl)).trans (base_at hA 41 rfl)
    have f42 := (hI.base 42 (by rw [hO]; kernel_rfl)).trans (base_at hA 42 rfl)
    have f43 := (hI.base 43 (by rw [hO]; kernel_rfl)).trans (base_at hA 43 rfl)
    have f44 := (hI.base 44 (by rw [hO]; kernel_rfl)).trans (base_at hA 44 rfl)
    have f45 := (hI.base 45 (by rw [hO]; kernel_rfl)).trans (base_at hA 45 rfl)
    have f46 := (hI.base 46 (by rw [hO]; kernel_rfl)).trans (base_at hA 46 rfl)
    have f47 := (hI.base 47 (by rw [hO]; kernel_rfl)).trans (base_at hA 47 rfl)
    have f48 := (hI.base 48 (by rw [hO]; kernel_rfl)).trans (base_at hA 48 rfl)
    have f49 := (hI.base 49 (by rw [hO]; kernel_rfl)).trans (base_at hA 49 rfl)
    have f50 := (hI.base 50 (by rw [hO]; kernel_rfl)).trans (base_at hA 50 rfl)
    have f51 := (hI.base 51 (by rw [hO]; kernel_rfl)).trans (base_at hA 51 rfl)
    have f52 := (hI.base 52 (by rw [hO]; kernel_rfl)).trans (base_at hA 52 rfl)
    have f53 := (hI.base 53 (by rw [hO]; kernel_rfl)).trans (base_at hA 53 rfl)
    have f54 := (hI.base 54 (by rw [hO]; kernel_rfl)).trans (base_at hA 54 rfl)
    have f55 := (hI.base 55 (by rw [hO]; kernel_rfl)).trans (base_at hA 55 rfl)
    have f56 := (hI.base 56 (by rw [hO]; kernel_rfl)).trans (base_at hA 56 rfl)
    have f57 := (hI.base 57 (by rw [hO]; kernel_rfl)).trans (base_at hA 57 rfl)
    have f58 := (hI.base 58 (by rw [hO]; kernel_rfl)).trans (base_at hA 58 rfl)
    have f59 := (hI.base 59 (by rw [hO]; kernel_rfl)).trans (base_at hA 59 rfl)
    have f60 := (hI.base 60 (by rw [hO]; kernel_rfl)).trans (base_at hA 60 rfl)
    have f61 := (hI.base 61 (by rw [hO]; kernel_rfl)).trans (base_at hA 61 rfl)
    have f62 := (hI.base 62 (by rw [hO]; kernel_rfl)).trans (base_at hA 62 rfl)
    have f63 := (hI.base 63 (by rw [hO]; kernel_rfl)).trans (base_at hA 63 rfl)
    have f64 := (hI.base 64 (by rw [hO]; kernel_rfl)).trans (base_at hA 64 rfl)
    have f65 := (hI.base 65 (by rw [hO]; kernel_rfl)).trans (base_at hA 65 rfl)
    have f66 := (hI.base 66 (by rw [hO]; kernel_rfl)).trans (base_at hA 66 rfl)
    have f67 := (hI.base 67 (by rw [hO]; kernel_rfl)).trans (base_at hA 67 rfl)
    have f68 := (hI.base 68 (by rw [hO]; kernel_rfl)).trans (base_at hA 68 rfl)
    have f69 := (hI.base 69 (by rw [hO]; kernel_rfl)).trans (base_at hA 69 rfl)
    have f70 := (hI.base 70 (by rw [hO]; kernel_rfl)).trans (base_at hA 70 rfl)
    have f71 := (hI.base 71 (by rw [hO]; kernel_rfl)).trans (base_at hA 71 rfl)
    obtain ⟨tl0, rfl⟩ : ∃ tl : List Value, ts = tl.toArray := ⟨ts.toList, by simp⟩
    have htl0 : tl0.length = 72 := by simpa using hts
    clear hts
    obtain ⟨y0, tl1, et, htl1⟩ := len_succ htl0
    clear htl0
    subst et
    obtain ⟨y1, tl2, et, htl2⟩ := len_succ htl1
    clear htl1
    subst et
    obtain ⟨y2, tl3, et, htl3⟩ := len_succ htl2
    clear htl2
    subst et
    obtain ⟨y3, tl4, et, htl4⟩ := len_succ htl3
    clear htl3
    subst et
    obtain ⟨y4, tl5, et, htl5⟩ := len_succ htl4
    clear htl4
    subst et
    obtain ⟨y5, tl6, et, htl6⟩ := len_succ htl5
    clear htl5
    subst et
    obtain ⟨y6, tl7, et, htl7⟩ := len_succ htl6
    clear htl6
    subst et
    obtain ⟨y7, tl8, et, htl8⟩ := len_succ htl7
    clear htl7
    subst et
    obtain ⟨y8, tl9, et, htl9⟩ := len_succ htl8
    clear htl8
    subst et
    obtain ⟨y9, tl10, et, htl10⟩ := len_succ htl9
    clear htl9
    subst et
    obtain ⟨y10, tl11, et, htl11⟩ := len_succ htl10
    clear htl10
    subst et
    obtain ⟨y11, tl12, et, htl12⟩ := len_succ htl11
    clear htl11
    subst et
    obtain ⟨y12, tl13, et, htl13⟩ := len_succ htl12
    clear htl12
    subst et
    obtain ⟨y13, tl14, et, htl14⟩ := len_succ htl13
    clear htl13
    subst et
    obtain ⟨y14, tl15, et, htl15⟩ := len_succ htl14
    clear htl14
    subst et
    obtain ⟨y15, tl16, et, htl16⟩ := len_succ htl15
    clear htl15
    subst et
    obtain ⟨y16, tl17, et, htl17⟩ := len_succ htl16
    clear htl16
    subst et
    obtain ⟨y17, tl18, et, htl18⟩ := len_succ htl17
    clear htl17
    subst et
    obtain ⟨y18, tl19, et, htl19⟩ := len_succ htl18
    clear htl18
    subst et
    obtain ⟨y19, tl20, et, htl20⟩ := len_succ htl19
    clear htl19
    subst et
    obtain ⟨y20, tl21, et, htl21⟩ := len_succ htl20
    clear htl20
    subst et
    obtain ⟨y21, tl22, et, htl22⟩ := len_succ htl21
    clear htl21
    subst et
    obtain ⟨y22, tl23, et, htl23⟩ := len_succ htl22
    clear htl22
    subst et
    obtain ⟨y23, tl24, et, htl24⟩ := len_succ htl23
    clear htl23
    subst et
    obtain ⟨y24, tl25, et, htl25⟩ := len_succ htl24
    clear htl24
    subst et
    obtain ⟨y25, tl26, et, htl26⟩ := len_succ htl25
    clear htl25
    subst et
    obtain ⟨y26, tl27, et, htl27⟩ := len_succ htl26
    clear htl26
    subst et
    obtain ⟨y27, tl28, et, htl28⟩ := len_succ htl27
    clear htl27
    subst et
    obtain ⟨y28, tl29, et, htl29⟩ := len_succ htl28
    clear htl28
    subst et
    obtain ⟨y29, tl30, et, htl30⟩ := len_succ htl29
    clear htl29
    subst et
    obtain ⟨y30, tl31, et, htl31⟩ := len_succ htl30
    clear htl30
    subst et
    obtain ⟨y31, tl32, et, htl32⟩ := len_succ htl31
    clear htl31
    subst et
    obtain ⟨y32, tl33, et, htl33⟩ := len_succ htl32
    clear htl32
    subst et
    obtain ⟨y33, tl34, et, htl34⟩ := len_succ htl33
    clear htl33
    subst et
    obtain ⟨y34, tl35, et, htl35⟩ := len_succ htl34
    clear htl34
    subst et
    obtain ⟨y35, tl36, et, htl36⟩ := len_succ htl35
    clear htl35
    subst et
    obtain ⟨y36, tl37, et, htl37⟩ := len_succ htl36
    clear htl36
    subst et
    obtain ⟨y37, tl38, et, htl38⟩ := len_succ htl37
    clear htl37
    subst et
    obtain ⟨y38, tl39, et, htl39⟩ := len_succ htl38
    clear htl38
    subst et
    obtain ⟨y39, tl40, et, htl40⟩ := len_succ htl39
    clear htl39
    subst et
    obtain ⟨y40, tl41, et, htl41⟩ := len_succ htl40
    clear htl40
    subst et
    obtain ⟨y41, tl42, et, htl42⟩ := len_succ htl41
    clear htl41
    subst et
    obtain ⟨y42, tl43, et, htl43⟩ := len_succ htl42
    clear htl42
    subst et
    obtain ⟨y43, tl44, et, htl44⟩ := len_succ htl43
    clear htl43
    subst et
    obtain ⟨y44, tl45, et, htl45⟩ := len_succ htl44
    clear htl44
    subst et
    obtain ⟨y45, tl46, et, htl46⟩ := len_succ htl45
    clear htl45
    subst et
    obtain ⟨y46, tl47, et, htl47⟩ := len_succ htl46
    clear htl46
    subst et
    obtain ⟨y47, tl48, et, htl48⟩ := len_succ htl47
    clear htl47
    subst et
    obtain ⟨y48, tl49, et, htl49⟩ := len_succ htl48
    clear htl48
    subst et
    obtain ⟨y49, tl50, et, htl50⟩ := len_succ htl49
    clear htl49
    subst et
    obtain ⟨y50, tl51, et, htl51⟩ := len_succ htl50
    clear htl50
    subst et
    obtain ⟨y51, tl52, et, htl52⟩ := len_succ htl51
    clear htl51
    subst et
    obtain ⟨y52, tl53, et, htl53⟩ := len_succ htl52
    clear htl52
    subst et
    obtain ⟨y53, tl54, et, htl54⟩ := len_succ htl53
    clear htl53
    subst et
    obtain ⟨y54, tl55, et, htl55⟩ := len_succ htl54
    clear htl54
    subst et
    obtain ⟨y55, tl56, et, htl56⟩ := len_succ htl55
    clear htl55
    subst et
    obtain ⟨y56, tl57, et, htl57⟩ := len_succ htl56
    clear htl56
    subst et
    obtain ⟨y57, tl58, et, htl58⟩ := len_succ htl57
    clear htl57
    subst et
    obtain ⟨y58, tl59, et, htl59⟩ := len_succ htl58
    clear htl58
    subst et
    obtain ⟨y59, tl60, et, htl60⟩ := len_succ htl59
    clear htl59
    subst et
    obtain ⟨y60, tl61, et, htl61⟩ := len_succ htl60
    clear htl60
    subst et
    obtain ⟨y61, tl62, et, htl62⟩ := len_succ htl61
    clear htl61
    subst et
    obtain ⟨y62, tl63, et, htl63⟩ := len_succ htl62
    clear htl62
    subst et
    obtain ⟨y63, tl64, et, htl64⟩ := len_succ htl63
    clear htl63
    subst et
    obtain ⟨y64, tl65, et, htl65⟩ := len_succ htl64
    clear htl64
    subst et
    obtain ⟨y65, tl66, et, htl66⟩ := len_succ htl65
    clear htl65
    subst et
    obtain ⟨y66, tl67, et, htl67⟩ := len_succ htl66
    clear htl66
    subst et
    obtain ⟨y67, tl68, et, htl68⟩ := len_succ htl67
    clear htl67
    subst et
    obtain ⟨y68, tl69, et, htl69⟩ := len_succ htl68
    clear htl68
    subst et
    obtain ⟨y69, tl70, et, htl70⟩ := len_succ htl69
    clear htl69
    subst et
    obtain ⟨y70, tl71, et, htl71⟩ := len_succ htl70
    clear htl70
    subst et
    obtain ⟨y71, tl72, et, htl72⟩ := len_succ htl71
    clear htl71
    subst et
    have et := List.eq_nil_of_length_eq_zero htl72
    clear htl72
    subst et
    have g0 : y0 = _ := f0
    have g1 : y1 = _ := f1
    have g2 : y2 = _ := f2
    have g3 : y3 = _ := f3
    have g4 : y4 = _ := f4
    have g5 : y5 = _ := f5
    have g6 : y6 = _ := f6
    have g7 : y7 = _ := f7
    have g8 : y8 = _ := f8
    have g9 : y9 = _ := f9
    have g10 : y10 = _ := f10
    have g11 : y11 = _ := f11
    have g12 : y12 = _ := f12
    have g13 : y13 = _ := f13
    have g14 : y14 = _ := f14
    have g15 : y15 = _ := f15
    have g16 : y16 = _ := f16
    have g17 : y17 = _ := f17
    have g18 : y18 = _ := f18
    have g19 : y19 = _ := f19
    have g20 : y20 = _ := f20
    have g21 : y21 = _ := f21
    have g22 : y22 = _ := f22
    have g33 : y33 = _ := f33
    have g34 : y34 = _ := f34
    have g35 : y35 = _ := f35
    have g36 : y36 = _ := f36
    have g37 : y37 = _ := f37
    have g38 : y38 = _ := f38
    have g39 : y39 = _ := f39
    have g40 : y40 = _ := f40
    have g41 : y41 = _ := f41
    have g42 : y42 = _ := f42
    have g43 : y43 = _ := f43
    have g44 : y44 = _ := f44
    have g45 : y45 = _ := f45
    have g46 : y46 = _ := f46
    have g47 : y47 = _ := f47
    have g48 : y48 = _ := f48
    have g49 : y49 = _ := f49
    have g50 : y50 = _ := f50
    have g51 : y51 = _ := f51
    have g52 : y52 = _ := f52
    have g53 : y53 = _ := f53
    have g54 : y54 = _ := f54
    have g55 : y55 = _ := f55
    have g56 : y56 = _ := f56
    have g57 : y57 = _ := f57
    have g58 : y58 = _ := f58
    have g59 : y59 = _ := f59
    have g60 : y60 = _ := f60
    have g61 : y61 = _ := f61
    have g62 : y62 = _ := f62
    have g63 : y63 = _ := f63
    have g64 : y64 = _ := f64
    have g65 : y65 = _ := f65
    have g66 : y66 = _ := f66
    have g67 : y67 = _ := f67
    have g68 : y68 = _ := f68
    have g69 : y69 = _ := f69
    have g70 : y70 = _ := f70
    have g71 : y71 = _ := f71
    clear f0 f1 f2 f3 f4 f5 f6 f7 f8 f9 f10 f11 f12 f13 f14 f15 f16 f17 f18 f19 f20 f21 f22 f33 f34 f35 f36 f37 f38 f39 f40 f41 f42 f43 f44 f45 f46 f47 f48 f49 f50 f51 f52 f53 f54 f55 f56 f57 f58 f59 f60 f61 f62 f63 f64 f65 f66 f67 f68 f69 f70 f71
    subst hd g0 g1 g2 g3 g4 g5 g6 g7 g8 g9 g10 g11 g12 g13 g14 g15 g16 g17 g18 g19 g20 g21 g22 g33 g34 g35 g36 g37 g38 g39 g40 g41 g42 g43 g44 g45 g46 g47 g48 g49 g50 g51 g52 g53 g54 g55 g56 g57 g58 g59 g60 g61 g62 g63 g64 g65 g66 g67 g68 g69 g70 g71
    have H5 : Hid (NmS W b3 b7 T sg P aI cI aO cO aW cW aJ cJ aU cU aP cP (k + 1) w5) := (H.out.up hS).step hlt hab GG.out B5 c5
    clear hI hall hln hV hs hz hA hO hQQ B5 c5 hS H GB GG OLD hab vz_0 sz_0 vz_1 sz_1 vz_2 sz_2 vz_3 sz_3 vz_4 sz_4 vz_5 sz_5 vz_6 sz_6 vz_7 sz_7 vz_8 sz_8 vz_9 sz_9
    clear iz_0 iz_1 iz_2 iz_3 iz_4 iz_5 iz_6 iz_7 iz_8 iz_9 iz_10 bz_1 frz_1 bz_7 frz_7 bz_8 frz_8
    as_aux_lemma =>
    go_wp2_with fail
    go_roundw
    case rel => exact ⟨k + 1, by omega, by go_num, H5⟩
    case measure => simp [intOf]; omega
  · obtain rfl : k = T.nI := by omega
    have j1 : ¬ (T.nI : Int) < (T.nI : Int) := by omega
    have t3 : decide (T.nI < T.nI) = false := by simp
    go_wp2_with (with_reducible (show wpList _ _ _ (⟨_, Op.load 29 (.tmp 3), _, _, _, _⟩ :: _) _ _); refine halt ?_)
    clear m0 j0 j1 t3 nB nB2 HN
    have UT := Lib.hid H.out.done
    have OU_ : Hid ((setS T sg P).ok) := setS_ok OK.out OS.out OP.out
    refine Lib.hid (ld_box rfl 29 _ rfl b3 _ rfl H.out.t.box Tryd.underlying29 rfl (by kernel_rfl) ?_)
    go_wp2_with fail
    refine (right_x T aI aO aW cI cO cW _ H.out.t.tm OK.out).mono ?_
    rintro e w7 ⟨b, rfl, hz, q7⟩
    have H7 := Lib.hid (H.out.up q7)
    have U7 := Lib.hid (UT.out.q q7)
    clear H UT q7
    rcases two hz with ⟨rfl, Z⟩ | ⟨rfl, Z⟩
    rotate_left
    · have Z1 := Lib.hid Z
      clear Z hz
      as_aux_lemma =>
      go_wp2_with (with_reducible (show wpList _ _ _ (⟨_, Op.load 29 (.tmp 3), _, _, _, _⟩ :: _) _ _); refine halt ?_)
      refine Lib.hid (ld_box rfl 29 _ rfl b3 _ rfl H7.out.t.box Tryd.underlying29 rfl (by kernel_rfl) ?_)
      go_wp2_with fail
      refine (right_x T aI aO aW cI cO cW _ H7.out.t.tm OK.out).mono ?_
      rintro e w8 ⟨b, rfl, hz, q8⟩
      have H8 := Lib.hid (H7.out.up q8)
      clear H7 U7 q8
      rcases two hz with ⟨rfl, Z⟩ | ⟨rfl, Z⟩
      · exact absurd Z Z1.out
      clear Z hz
      go_wp2_with (with_reducible (show wpList _ _ _ (⟨_, Op.load 29 (.tmp 3), _, _, _, _⟩ :: _) _ _); refine halt ?_)
      refine Lib.hid (ld_boxg (by kernel_rfl) 29 _ rfl b3 _ rfl H8.out.t.box Tryd.underlying29 rfl (by kernel_rfl) ?_)
      go_wp2_with fail
      refine (id_x T aI aO aW cI cO cW _ (hG.out.q H8.out.q) H8.out.t.tm OK.out).mono ?_
      intro e w9 he
      obtain ⟨rfl, q9⟩ := he.none Z1.out
      have Q9 := Lib.hid (H8.out.q.trans q9)
      clear H8 he q9
      go_wp2_with fail
      refine (fixed_x hG.out _ Q9.out).mono ?_
      rintro e w10 ⟨rfl, q10⟩
      go_wp2_with fail
      go_ret
      exact ⟨rfl, q10⟩
    have Z1 := Lib.hid Z
    clear Z hz
    as_aux_lemma =>
    go_wp2_with (with_reducible (show wpList _ _ _ (⟨_, Op.load 29 (.tmp 7), _, _, _, _⟩ :: _) _ _); refine halt ?_)
    refine Lib.hid (ld_boxg (by kernel_rfl) 29 _ rfl b7 _ rfl U7.out.box Tryd.underlying29 rfl (by kernel_rfl) ?_)
    go_wp2_with fail
    refine (right_x (setS T sg P) aJ aU aP cJ cU cP _ U7.out.tm OU_.out).mono ?_
    rintro e w8 ⟨b, rfl, hz, q8⟩
    have H8 := Lib.hid (H7.out.up q8)
    have U8 := Lib.hid (U7.out.q q8)
    clear H7 U7 q8
    rcases two hz with ⟨rfl, Z⟩ | ⟨rfl, Z⟩
    rotate_left
    · clear Z hz
      as_aux_lemma =>
      go_wp2_with (with_reducible (show wpList _ _ _ (⟨_, Op.load 29 (.tmp 3), _, _, _, _⟩ :: _) _ _); refine halt ?_)
      refine Lib.hid (ld_box rfl 29 _ rfl b3 _ rfl H8.out.t.box Tryd.underlying29 rfl (by kernel_rfl) ?_)
      go_wp2_with fail
      refine (right_x T aI aO aW cI cO cW _ H8.out.t.tm OK.out).mono ?_
      rintro e w9 ⟨b, rfl, hz, q9⟩
      have Q9 := Lib.hid (H8.out.q.trans q9)
      clear H8 U8 q9
      rcases two hz with ⟨rfl, Z⟩ | ⟨rfl, Z⟩
      rotate_left
      · exact absurd Z1.out Z
      clear Z hz
      go_wp2_with fail
      refine (fixed_x hG.out _ Q9.out).mono ?_
      rintro e w10 ⟨rfl, q10⟩
      go_wp2_with fail
      go_ret
      exact ⟨rfl, q10⟩
    have Z2 := Lib.hid Z
    clear Z hz
    obtain ⟨ii, hii⟩ : ∃ z, idS T = z := ⟨_, rfl⟩
    obtain ⟨cc, hcc⟩ : ∃ z, coreS T = z := ⟨_, rfl⟩
    have zi : (ii.size : Int) = 16 := by rw [← hii, idS_size]; rfl
    have IDT : Hid (∀ w, Q w8 w → Calls Tryd.prog 14 #[.agg #[.slice aI T.nI cI, .slice aO T.nO cO, .int .u64 T.p.amount, .string T.p.sig, .string T.p.token, .slice aW T.p.n cW]] w fun e w' => e = .returned (.string ii) ∧ Q w w') := fun w q => by
      rw [← hii]
      exact (id_x T aI aO aW cI cO cW w (hG.out.q (H8.out.q.trans q)) (H8.out.t.tm.q q) OK.out).mono fun e w' h => h.val Z1.out
    have IDU : Hid (∀ w, Q w8 w → Calls Tryd.prog 14 #[.agg #[.slice aJ T.nI cJ, .slice aU T.nO cU, .int .u64 P.amount, .string P.sig, .string P.token, .slice aP P.n cP]] w fun e w' => e = .returned (.string ii) ∧ Q w w') := fun w q => by
      rw [← hii]
      exact (id_x (setS T sg P) aJ aU aP cJ cU cP w (hG.out.q (H8.out.q.trans q)) (U8.out.tm.q q) OU_.out).mono fun e w' h => h.val Z2.out
    have COT : Hid (∀ w, Q w8 w → Calls Tryd.prog 15 #[.agg #[.slice aI T.nI cI, .slice aO T.nO cO, .int .u64 T.p.amount, .string T.p.sig, .string T.p.token, .slice aW T.p.n cW]] w fun e w' => e = .returned (.string cc) ∧ Q w w') := fun w q => by
      rw [← hcc]
      exact (core_x T aI aO aW cI cO cW w (H8.out.t.tm.q q) OK.out).mono fun e w' h => h.val Z1.out
    have COU : Hid (∀ w, Q w8 w → Calls Tryd.prog 15 #[.agg #[.slice aJ T.nI cJ, .slice aU T.nO cU, .int .u64 P.amount, .string P.sig, .string P.token, .slice aP P.n cP]] w fun e w' => e = .returned (.string cc) ∧ Q w w') := fun w q => by
      rw [← hcc]
      exact (core_x (setS T sg P) aJ aU aP cJ cU cP w (U8.out.tm.q q) OU_.out).mono fun e w' h => h.val Z2.out
    have FX : Hid (∀ w, Q w8 w → Calls Tryd.prog 12 #[] w fun e w' => e = .returned (.bool true) ∧ Q w w') := fun w q => fixed_q (hG.out.q (H8.out.q.trans q))
    clear hii hcc Z1 Z2
    as_aux_lemma =>
    go_wp2_with fail
    have hS0 : Q w8 w8.drew := (Q.refl w8).drew
    refine region_gen3 ?_
    intro OPS QQ A0 hO hQQ hA
    have hz : A0.tmps.size = 72 := by rw [hA]; rfl
    have hs : sound OPS A0.tmps.size = true := by rw [hz, hO]; kernel_rfl
    have b_3 : A0.eval (.tmp 3) = .pointer (some ⟨b3, 0, none⟩) := by rw [hA]; rfl
    have fr_3 : free OPS 3 = true := by rw [hO]; kernel_rfl
    have b_7 : A0.eval (.tmp 7) = .pointer (some ⟨b7, 0, none⟩) := by rw [hA]; rfl
    have fr_7 : free OPS 7 = true := by rw [hO]; kernel_rfl
    obtain ⟨VV, hVV⟩ : ∃ V : Nat → Value → World → Prop, V = fun i => ([fun v _ => v = .agg #[.slice aI T.nI cI, .slice aO T.nO cO, .int .u64 T.p.amount, .string T.p.sig, .string T.p.token, .slice aW T.p.n cW], fun v _ => v = .string ii, fun v _ => v = .agg #[.slice aJ T.nI cJ, .slice aU T.nO cU, .int .u64 P.amount, .string P.sig, .string P.token, .slice aP P.n cP], fun v _ => v = .string ii, fun v _ => v = .bool true, fun v _ => v = .bool true, fun v _ => v = .agg #[.slice aI T.nI cI, .slice aO T.nO cO, .int .u64 T.p.amount, .string T.p.sig, .string T.p.token, .slice aW T.p.n cW], fun v _ => v = .string cc, fun v _ => v = .agg #[.slice aJ T.nI cJ, .slice aU T.nO cU, .int .u64 P.amount, .string P.sig, .string P.token, .slice aP P.n cP], fun v _ => v = .string cc, fun v _ => v = .bool true, fun v _ => v = .bool true, fun v _ => v = .bool true, fun v _ => v = .agg #[.slice aI T.nI cI, .slice aO T.nO cO, .int .u64 T.p.amount, .string T.p.sig, .string T.p.token, .slice aW T.p.n cW], fun v _ => v = .string ii, fun v _ => v = .int .i64 16, fun v _ => v = .bool true, fun v _ => v = .bool true, fun v _ => v = .bool true, fun v _ => v = .bool true, fun v _ => v = .bool true, fun v _ => v = .bool true] : List (Value → World → Prop)).getD i (fun _ _ => True) := ⟨_, rfl⟩
    have v_0 : VV 0 = fun v _ => v = .agg #[.slice aI T.nI cI, .slice aO T.nO cO, .int .u64 T.p.amount, .string T.p.sig, .string T.p.token, .slice aW T.p.n cW] := vat hVV 0
    have v_1 : VV 1 = fun v _ => v = .string ii := vat hVV 1
    have v_2 : VV 2 = fun v _ => v = .agg #[.slice aJ T.nI cJ, .slice aU T.nO cU, .int .u64 P.amount, .string P.sig, .string P.token, .slice aP P.n cP] := vat hVV 2
    have v_3 : VV 3 = fun v _ => v = .string ii := vat hVV 3
    have v_4 : VV 4 = fun v _ => v = .bool true := vat hVV 4
    have v_5 : VV 5 = fun v _ => v = .bool true := vat hVV 5
    have v_6 : VV 6 = fun v _ => v = .agg #[.slice aI T.nI cI, .slice aO T.nO cO, .int .u64 T.p.amount, .string T.p.sig, .string T.p.token, .slice aW T.p.n cW] := vat hVV 6
    have v_7 : VV 7 = fun v _ => v = .string cc := vat hVV 7
    have v_8 : VV 8 = fun v _ => v = .agg #[.slice aJ T.nI cJ, .slice aU T.nO cU, .int .u64 P.amount, .string P.sig, .string P.token, .slice aP P.n cP] := vat hVV 8
    have v_9 : VV 9 = fun v _ => v = .string cc := vat hVV 9
    have v_10 : VV 10 = fun v _ => v = .bool true := vat hVV 10
    have v_11 : VV 11 = fun v _ => v = .bool true := vat hVV 11
    have v_12 : VV 12 = fun v _ => v = .bool true := vat hVV 12
    have v_13 : VV 13 = fun v _ => v = .agg #[.slice aI T.nI cI, .slice aO T.nO cO, .int .u64 T.p.amount, .string T.p.sig, .string T.p.token, .slice aW T.p.n cW] := vat hVV 13
    have v_14 : VV 14 = fun v _ => v = .string ii := vat hVV 14
    have v_15 : VV 15 = fun v _ => v = .int .i64 16 := vat hVV 15
    have v_16 : VV 16 = fun v _ => v = .bool true := vat hVV 16
    have v_17 : VV 17 = fun v _ => v = .bool true := vat hVV 17
    have v_18 : VV 18 = fun v _ => v = .bool true := vat hVV 18
    have v_19 : VV 19 = fun v _ => v = .bool true := vat hVV 19
    have v_20 : VV 20 = fun v _ => v = .bool true := vat hVV 20
    have v_21 : VV 21 = fun v _ => v = .bool true := vat hVV 21
    have hV := stable_of (T := Q) hVV ((sl_cons (fun _ _ _ h _ => h) (sl_cons (fun _ _ _ h _ => h) (sl_cons (fun _ _ _ h _ => h) (sl_cons (fun _ _ _ h _ => h) (sl_cons (fun _ _ _ h _ => h) (sl_cons (fun _ _ _ h _ => h) (sl_cons (fun _ _ _ h _ => h) (sl_cons (fun _ _ _ h _ => h) (sl_cons (fun _ _ _ h _ => h) (sl_cons (fun _ _ _ h _ => h) (sl_cons (fun _ _ _ h _ => h) (sl_cons (fun _ _ _ h _ => h) (sl_cons (fun _ _ _ h _ => h) (sl_cons (fun _ _ _ h _ => h) (sl_cons (fun _ _ _ h _ => h) (sl_cons (fun _ _ _ h _ => h) (sl_cons (fun _ _ _ h _ => h) (sl_cons (fun _ _ _ h _ => h) (sl_cons (fun _ _ _ h _ => h) (sl_cons (fun _ _ _ h _ => h) (sl_cons (fun _ _ _ h _ => h) (sl_cons (fun _ _ _ h _ => h) trivial)))))))))))))))))))))))
    clear hVV
    have i_0 := pget_at hO 0 rfl
    have i_1 := pget_at hO 1 rfl
    have i_2 := pget_at hO 2 rfl
    have i_3 := pget_at hO 3 rfl
    have i_4 := pget_at hO 4 rfl
    have i_5 := pget_at hO 5 rfl
    have i_6 := pget_at hO 6 rfl
    have i_7 := pget_at hO 7 rfl
    have i_8 := pget_at hO 8 rfl
    have i_9 := pget_at hO 9 rfl
    have i_10 := pget_at hO 10 rfl
    have i_11 := pget_at hO 11 rfl
    have i_12 := pget_at hO 12 rfl
    have i_13 := pget_at hO 13 rfl
    have i_14 := pget_at hO 14 rfl
    have i_15 := pget_at hO 15 rfl
    have i_16 := pget_at hO 16 rfl
    have i_17 := pget_at hO 17 rfl
    have i_18 := pget_at hO 18 rfl
    have i_19 := pget_at hO 19 rfl
    have i_20 := pget_at hO 20 rfl
    have i_21 := pget_at hO 21 rfl
    have s_0 := Step.pure (P := Tryd.prog) (V := VV) (T := Q) (S := (Q w8)) (a0 := A0) (Qx := QQ) i_0 (.agg #[.slice aI T.nI cI, .slice aO T.nO cO, .int .u64 T.p.amount, .string T.p.sig, .string T.p.token, .slice aW T.p.n cW]) (Q.refl ·) (fun l a w hI hl => ⟨wanted_none rfl, ex_loado 29 rfl b3 0 [.slice aI T.nI cI, .slice aO T.nO cO, .int .u64 T.p.amount, .string T.p.sig, .string T.p.token, .slice aW T.p.n cW] _ ((hI.base 3 fr_3).trans b_3) ((H8.out.t.box.q hI.st).rangeo 0 (r := []) rfl) Tryd.underlying29 rfl (by kernel_rfl), at_mk v_0 rfl⟩)
    have s_1 := Step.call (P := Tryd.prog) (V := VV) (T := Q) (S := (Q w8)) (a0 := A0) (Qx := QQ) (R := fun _ _ _ => True) i_1 (fun l a w hI hl => by
      refine ⟨wanted_none rfl, 14, #[.agg #[.slice aI T.nI cI, .slice aO T.nO cO, .int .u64 T.p.amount, .string T.p.sig, .string T.p.token, .slice aW T.p.n cW]], ?_, ?_⟩
      · exact ex_call rfl (by simp only [List.map_toArray, List.map_cons, List.map_nil, ev_const, (show a.eval (.tmp 51) = _ from (at_eq v_0 (hI.at_ 0 51 _ i_0 rfl (hl_at hl 0 rfl rfl))))]) Tryd.func14 (by kernel_rfl) (by kernel_rfl)
      · exact (IDT.out w hI.st).mono fun e w' hc => by
          obtain ⟨rfl, hq⟩ := hc
          exact ⟨_, rfl, hq, hI.st.trans hq, at_mk v_1 rfl⟩)
    have s_2 := Step.pure (P := Tryd.prog) (V := VV) (T := Q) (S := (Q w8)) (a0 := A0) (Qx := QQ) i_2 (.agg #[.slice aJ T.nI cJ, .slice aU T.nO cU, .int .u64 P.amount, .string P.sig, .string P.token, .slice aP P.n cP]) (Q.refl ·) (fun l a w hI hl => ⟨wanted_none rfl, ex_loado 29 rfl b7 0 [.slice aJ T.nI cJ, .slice aU T.nO cU, .int .u64 P.amount, .string P.sig, .string P.token, .slice aP P.n cP] _ ((hI.base 7 fr_7).trans b_7) ((U8.out.box.q hI.st).rangeo 0 (r := []) rfl) Tryd.underlying29 rfl (by kernel_rfl), at_mk v_2 rfl⟩)
    have s_3 := Step.call (P := Tryd.prog) (V := VV) (T := Q) (S := (Q w8)) (a0 := A0) (Qx := QQ) (R := fun _ _ _ => True) i_3 (fun l a w hI hl => by
      refine ⟨wanted_none rfl, 14, #[.agg #[.slice aJ T.nI cJ, .slice aU T.nO cU, .int .u64 P.amount, .string P.sig, .string P.token, .slice aP P.n cP]], ?_, ?_⟩
      · exact ex_call rfl (by simp only [List.map_toArray, List.map_cons, List.map_nil, ev_const, (show a.eval (.tmp 53) = _ from (at_eq v_2 (hI.at_ 2 53 _ i_2 rfl (hl_at hl 0 rfl rfl))))]) Tryd.func14 (by kernel_rfl) (by kernel_rfl)
      · exact (IDU.out w hI.st).mono fun e w' hc => by
          obtain ⟨rfl, hq⟩ := hc
          exact ⟨_, rfl, hq, hI.st.trans hq, at_mk v_3 rfl⟩)
    have s_4 := Step.pure (P := Tryd.prog) (V := VV) (T := Q) (S := (Q w8)) (a0 := A0) (Qx := QQ) i_4 (.bool true) (Q.refl ·) (fun l a w hI hl => ⟨wanted_none rfl, ex_bin rfl (at_eq v_1 (hI.at_ 1 52 _ i_1 rfl (hl_at hl 0 rfl rfl))) (at_eq v_3 (hI.at_ 3 54 _ i_3 rfl (hl_at hl 1 rfl rfl))) (eqs_same _ _ _ _ _), at_mk v_4 rfl⟩)
    have s_5 := Step.pure (P := Tryd.prog) (V := VV) (T := Q) (S := (Q w8)) (a0 := A0) (Qx := QQ) i_5 (.bool true) (Q.refl ·) (fun l a w hI hl => ⟨wanted_none rfl, ex_move rfl (at_eq v_4 (hI.at_ 4 55 _ i_4 rfl (hl_at hl 0 rfl rfl))), at_mk v_5 rfl⟩)
    have s_6 := Step.pure (P := Tryd.prog) (V := VV) (T := Q) (S := (Q w8)) (a0 := A0) (Qx := QQ) i_6 (.agg #[.slice aI T.nI cI, .slice aO T.nO cO, .int .u64 T.p.amount, .string T.p.sig, .string T.p.token, .slice aW T.p.n cW]) (Q.refl ·) (fun l a w hI hl => ⟨wanted_of rfl i_5 rfl (lt_of hI hz rfl) (at_eq v_5 (hI.at_ 5 56 _ i_5 rfl (hl_at hl 0 rfl rfl))), ex_loado 29 rfl b3 0 [.slice aI T.nI cI, .slice aO T.nO cO, .int .u64 T.p.amount, .string T.p.sig, .string T.p.token, .slice aW T.p.n cW] _ ((hI.base 3 fr_3).trans b_3) ((H8.out.t.box.q hI.st).rangeo 0 (r := []) rfl) Tryd.underlying29 rfl (by kernel_rfl), at_mk v_6 rfl⟩)
    have s_7 := Step.call (P := Tryd.prog) (V := VV) (T := Q) (S := (Q w8)) (a0 := A0) (Qx := QQ) (R := fun _ _ _ => True) i_7 (fun l a w hI hl => by
      refine ⟨wanted_of rfl i_5 rfl (lt_of hI hz rfl) (at_eq v_5 (hI.at_ 5 56 _ i_5 rfl (hl_at hl 1 rfl rfl))), 15, #[.agg #[.slice aI T.nI cI, .slice aO T.nO cO, .int .u64 T.p.amount, .string T.p.sig, .string T.p.token, .slice aW T.p.n cW]], ?_, ?_⟩
      · exact ex_call rfl (by simp only [List.map_toArray, List.map_cons, List.map_nil, ev_const, (show a.eval (.tmp 57) = _ from (at_eq v_6 (hI.at_ 6 57 _ i_6 rfl (hl_at hl 0 rfl rfl))))]) Tryd.func15 (by kernel_rfl) (by kernel_rfl)
      · exact (COT.out w hI.st).mono fun e w' hc => by
          obtain ⟨rfl, hq⟩ := hc
          exact ⟨_, rfl, hq, hI.st.trans hq, at_mk v_7 rfl⟩)
    have s_8 := Step.pure (P := Tryd.prog) (V := VV) (T := Q) (S := (Q w8)) (a0 := A0) (Qx := QQ) i_8 (.agg #[.slice aJ T.nI cJ, .slice aU T.nO cU, .int .u64 P.amount, .string P.sig, .string P.token, .slice aP P.n cP]) (Q.refl ·) (fun l a w hI hl => ⟨wanted_of rfl i_5 rfl (lt_of hI hz rfl) (at_eq v_5 (hI.at_ 5 56 _ i_5 rfl (hl_at hl 0 rfl rfl))), ex_loado 29 rfl b7 0 [.slice aJ T.nI cJ, .slice aU T.nO cU, .int .u64 P.amount, .string P.sig, .string P.token, .slice aP P.n cP] _ ((hI.base 7 fr_7).trans b_7) ((U8.out.box.q hI.st).rangeo 0 (r := []) rfl) Tryd.underlying29 rfl (by kernel_rfl), at_mk v_8 rfl⟩)
    have s_9 := Step.call (P := Tryd.prog) (V := VV) (T := Q) (S := (Q w8)) (a0 := A0) (Qx := QQ) (R := fun _ _ _ => True) i_9 (fun l a w hI hl => by
      refine ⟨wanted_of rfl i_5 rfl (lt_of hI hz rfl) (at_eq v_5 (hI.at_ 5 56 _ i_5 rfl (hl_at hl 2 rfl rfl))), 15, #[.agg #[.slice aJ T.nI cJ, .slice aU T.nO cU, .int .u64 P.amount, .string P.sig, .string P.token, .slice aP P.n cP]], ?_, ?_⟩
      · exact ex_call rfl (by simp only [List.map_toArray, List.map_cons, List.map_nil, ev_const, (show a.eval (.tmp 59) = _ from (at_eq v_8 (hI.at_ 8 59 _ i_8 rfl (hl_at hl 0 rfl rfl))))]) Tryd.func15 (by kernel_rfl) (by kernel_rfl)
      · exact (COU.out w hI.st).mono fun e w' hc => by
          obtain ⟨rfl, hq⟩ := hc
          exact ⟨_, rfl, hq, hI.st.trans hq, at_mk v_9 rfl⟩)
    have s_10 := Step.pure (P := Tryd.prog) (V := VV) (T := Q) (S := (Q w8)) (a0 := A0) (Qx := QQ) i_10 (.bool true) (Q.refl ·) (fun l a w hI hl => ⟨wanted_of rfl i_5 rfl (lt_of hI hz rfl) (at_eq v_5 (hI.at_ 5 56 _ i_5 rfl (hl_at hl 2 rfl rfl))), ex_bin rfl (at_eq v_7 (hI.at_ 7 58 _ i_7 rfl (hl_at hl 0 rfl rfl))) (at_eq v_9 (hI.at_ 9 60 _ i_9 rfl (hl_at hl 1 rfl rfl))) (eqs_same _ _ _ _ _), at_mk v_10 rfl⟩)
    have s_11 := Step.pure (P := Tryd.prog) (V := VV) (T := Q) (S := (Q w8)) (a0 := A0) (Qx := QQ) i_11 (.bool true) (Q.refl ·) (fun l a w hI hl => ⟨wanted_none rfl, ex_pick_t rfl (at_eq v_5 (hI.at_ 5 56 _ i_5 rfl (hl_at hl 0 rfl rfl))) (at_eq v_10 (hI.at_ 10 61 _ i_10 rfl (hl_at hl 1 rfl rfl))), at_mk v_11 rfl⟩)
    have s_12 := Step.pure (P := Tryd.prog) (V := VV) (T := Q) (S := (Q w8)) (a0 := A0) (Qx := QQ) i_12 (.bool true) (Q.refl ·) (fun l a w hI hl => ⟨wanted_none rfl, ex_move rfl (at_eq v_11 (hI.at_ 11 62 _ i_11 rfl (hl_at hl 0 rfl rfl))), at_mk v_12 rfl⟩)
    have s_13 := Step.pure (P := Tryd.prog) (V := VV) (T := Q) (S := (Q w8)) (a0 := A0) (Qx := QQ) i_13 (.agg #[.slice aI T.nI cI, .slice aO T.nO cO, .int .u64 T.p.amount, .string T.p.sig, .string T.p.token, .slice aW T.p.n cW]) (Q.refl ·) (fun l a w hI hl => ⟨wanted_of rfl i_12 rfl (lt_of hI hz rfl) (at_eq v_12 (hI.at_ 12 63 _ i_12 rfl (hl_at hl 0 rfl rfl))), ex_loado 29 rfl b3 0 [.slice aI T.nI cI, .slice aO T.nO cO, .int .u64 T.p.amount, .string T.p.sig, .string T.p.token, .slice aW T.p.n cW] _ ((hI.base 3 fr_3).trans b_3) ((H8.out.t.box.q hI.st).rangeo 0 (r := []) rfl) Tryd.underlying29 rfl (by kernel_rfl), at_mk v_13 rfl⟩)
    have s_14 := Step.call (P := Tryd.prog) (V := VV) (T := Q) (S := (Q w8)) (a0 := A0) (Qx := QQ) (R := fun _ _ _ => True) i_14 (fun l a w hI hl => by
      refine ⟨wanted_of rfl i_12 rfl (lt_of hI hz rfl) (at_eq v_12 (hI.at_ 12 63 _ i_12 rfl (hl_at hl 1 rfl rfl))), 14, #[.agg #[.slice aI T.nI cI, .slice aO T.nO cO, .int .u64 T.p.amount, .string T.p.sig, .string T.p.token, .slice aW T.p.n cW]], ?_, ?_⟩
      · exact ex_call rfl (by simp only [List.map_toArray, List.map_cons, List.map_nil, ev_const, (show a.eval (.tmp 64) = _ from (at_eq v_13 (hI.at_ 13 64 _ i_13 rfl (hl_at hl 0 rfl rfl))))]) Tryd.func14 (by kernel_rfl) (by kernel_rfl)
      · exact (IDT.out w hI.st).mono fun e w' hc => by
          obtain ⟨rfl, hq⟩ := hc
          exact ⟨_, rfl, hq, hI.st.trans hq, at_mk v_14 rfl⟩)
    have s_15 := Step.pure (P := Tryd.prog) (V := VV) (T := Q) (S := (Q w8)) (a0 := A0) (Qx := QQ) i_15 (.int .i64 16) (Q.refl ·) (fun l a w hI hl => ⟨wanted_of rfl i_12 rfl (lt_of hI hz rfl) (at_eq v_12 (hI.at_ 12 63 _ i_12 rfl (hl_at hl 1 rfl rfl))), ex_len rfl Tryd.underlying9 (at_eq v_14 (hI.at_ 14 65 _ i_14 rfl (hl_at hl 0 rfl rfl))) zi, at_mk v_15 rfl⟩)
    have s_16 := Step.pure (P := Tryd.prog) (V := VV) (T := Q) (S := (Q w8)) (a0 := A0) (Qx := QQ) i_16 (.bool true) (Q.refl ·) (fun l a w hI hl => ⟨wanted_of rfl i_12 rfl (lt_of hI hz rfl) (at_eq v_12 (hI.at_ 12 63 _ i_12 rfl (hl_at hl 1 rfl rfl))), ex_bin rfl (at_eq v_15 (hI.at_ 15 66 _ i_15 rfl (hl_at hl 0 rfl rfl))) rfl (by kernel_rfl), at_mk v_16 rfl⟩)
    have s_17 := Step.pure (P := Tryd.prog) (V := VV) (T := Q) (S := (Q w8)) (a0 := A0) (Qx := QQ) i_17 (.bool true) (Q.refl ·) (fun l a w hI hl => ⟨wanted_none rfl, ex_pick_t rfl (at_eq v_12 (hI.at_ 12 63 _ i_12 rfl (hl_at hl 0 rfl rfl))) (at_eq v_16 (hI.at_ 16 67 _ i_16 rfl (hl_at hl 1 rfl rfl))), at_mk v_17 rfl⟩)
    have s_18 := Step.pure (P := Tryd.prog) (V := VV) (T := Q) (S := (Q w8)) (a0 := A0) (Qx := QQ) i_18 (.bool true) (Q.refl ·) (fun l a w hI hl => ⟨wanted_none rfl, ex_move rfl (at_eq v_17 (hI.at_ 17 68 _ i_17 rfl (hl_at hl 0 rfl rfl))), at_mk v_18 rfl⟩)
    have s_19 := Step.call (P := Tryd.prog) (V := VV) (T := Q) (S := (Q w8)) (a0 := A0) (Qx := QQ) (R := fun _ _ _ => True) i_19 (fun l a w hI hl => by
      refine ⟨wanted_of rfl i_18 rfl (lt_of hI hz rfl) (at_eq v_18 (hI.at_ 18 69 _ i_18 rfl (hl_at hl 0 rfl rfl))), 12, #[], ?_, ?_⟩
      · exact ex_call rfl (by simp only [List.map_toArray, List.map_cons, List.map_nil, ev_const]) Tryd.func12 (by kernel_rfl) (by kernel_rfl)
      · exact (FX.out w hI.st).mono fun e w' hc => by
          obtain ⟨rfl, hq⟩ := hc
          exact ⟨_, rfl, hq, hI.st.trans hq, at_mk v_19 rfl⟩)
    have s_20 := Step.pure (P := Tryd.prog) (V := VV) (T := Q) (S := (Q w8)) (a0 := A0) (Qx := QQ) i_20 (.bool true) (Q.refl ·) (fun l a w hI hl => ⟨wanted_none rfl, ex_pick_t rfl (at_eq v_18 (hI.at_ 18 69 _ i_18 rfl (hl_at hl 0 rfl rfl))) (at_eq v_19 (hI.at_ 19 70 _ i_19 rfl (hl_at hl 1 rfl rfl))), at_mk v_20 rfl⟩)
    have s_21 := Step.pure (P := Tryd.prog) (V := VV) (T := Q) (S := (Q w8)) (a0 := A0) (Qx := QQ) i_21 (.bool true) (Q.refl ·) (fun l a w hI hl => ⟨wanted_none rfl, ex_assign rfl (at_eq v_20 (hI.at_ 20 71 _ i_20 rfl (hl_at hl 0 rfl rfl))), at_mk v_21 rfl⟩)
    refine wp_plan VV Q (Q w8) (by kernel_rfl) hs hV hS0 (steps_all hO ((sf_cons s_0 (sf_cons s_1 (sf_cons s_2 (sf_cons s_3 (sf_cons s_4 (sf_cons s_5 (sf_cons s_6 (sf_cons s_7 (sf_cons s_8 (sf_cons s_9 (sf_cons s_10 (sf_cons s_11 (sf_cons s_12 (sf_cons s_13 (sf_cons s_14 (sf_cons s_15 (sf_cons s_16 (sf_cons s_17 (sf_cons s_18 (sf_cons s_19 (sf_cons s_20 (sf_cons s_21 trivial)))))))))))))))))))))))) ?_
    intro l a' w' hall h
    have e0 : a'.eval (.tmp 6) = .bool true := at_eq v_21 (h.at_ 21 6 _ i_21 rfl (hall 21 (by rw [hO]; decide)))
    have hd : a'.defers = [] := by rw [h.df, hA]
    have hst := H8.out.q.trans h.st
    rw [hQQ]
    clear h hall
    go_wp2_with fail
    (try simp only [Exit.inBlock, Exit.then])
    refine bodyPost_ret (results_tmp rfl _ _ _) hd ?_
    exact ⟨congrArg Ending.returned e0, hst⟩
end Go.Proofs.YtojjmjbgnieogaaDoor.Coi
