/-
  Layer 9: CoinTells' walk.
-/
import Derived.Test.YtojjmjbgnieogaaDoorHWNames
import Derived.Test.YtojjmjbgnieogaaDoorHCoiF
namespace Go.Proofs.YtojjmjbgnieogaaDoor.Coi
open Go.RowKit
open Mem Num Cod Sh Plan
set_option linter.unusedVariables false
set_option linter.unusedSimpArgs false

/-- A block is none of those. -/
def Off (g : Nat) (l : List (Option Addr)) : Prop := ∀ a ∈ l, ∀ x, a = some x → x.block ≠ g
/-- A transaction in a variable, whose inputs are being written: k of them are. -/
structure WX (b : Nat) (T : TX) (s : ByteArray) (P : PF) (aJ : Option Addr) (cJ : Nat) (aU : Option Addr) (cU : Nat) (aP : Option Addr) (cP : Nat) (k : Nat) (w : World) : Prop where
  u : Box w b [.slice aJ T.nI cJ, .slice aU T.nO cU, .int .u64 P.amount, .string P.sig, .string P.token, .slice aP P.n cP]
  c : T.nI ≤ cJ
  i : T.nI = 0 ∨ ∃ g cs, aJ = some ⟨g, 0, none⟩ ∧ Box w g cs ∧ T.nI * 4 ≤ cs.length ∧ ∀ i, i < T.nI → ∀ j v, ((mixI T s k i).cells)[j]? = some v → cs[i * 4 + j]? = some v
  o : SL OU.cells 9 w aU T.nO T.outs
  wn : SL WN.cells 10 w aP P.n P.w
section
variable {b g : Nat} {T : TX} {s : ByteArray} {P : PF} {aJ aU aP : Option Addr} {cJ cU cP k : Nat} {w w' : World}
theorem WX.q (h : WX b T s P aJ cJ aU cU aP cP k w) (q : Q w w') : WX b T s P aJ cJ aU cU aP cP k w' := by
  refine ⟨h.u.q q, h.c, ?_, h.o.q q, h.wn.q q⟩
  rcases h.i with e | ⟨g, cs, h1, h2, h3⟩
  · exact .inl e
  · exact .inr ⟨g, cs, h1, h2.q q, h3⟩
theorem WX.ch (h : WX b T s P aJ cJ aU cU aP cP k w) (c : Ch g w w') (hb : b ≠ g) (ho : Off g [aJ, aU, aP]) : WX b T s P aJ cJ aU cU aP cP k w' := by
  refine ⟨h.u.ch c hb, h.c, ?_, h.o.ch c (ho aU (by simp)), h.wn.ch c (ho aP (by simp))⟩
  rcases h.i with e | ⟨g', cs, h1, h2, h3⟩
  · exact .inl e
  · exact .inr ⟨g', cs, h1, h2.ch c (ho aJ (by simp) _ h1), h3⟩
theorem WX.step {cs : List Value} (h : WX b T s P aJ cJ aU cU aP cP k w) (hk : k < T.nI) (hJ : aJ = some ⟨g, 0, none⟩) (h9 : T.nI * 4 ≤ cs.length) (h10 : ∀ i, i < T.nI → ∀ j v, ((mixI T s k i).cells)[j]? = some v → cs[i * 4 + j]? = some v)
    (hb : b ≠ g) (ho : Off g [aU, aP]) (hB : Box w' g (cs.set (k * 4 + 3) (.string s))) (c : Ch g w w') : WX b T s P aJ cJ aU cU aP cP (k + 1) w' := by
  refine ⟨h.u.ch c hb, h.c, .inr ⟨g, _, hJ, hB, by rw [List.length_set]; exact h9, ?_⟩, h.o.ch c (ho aU (by simp)), h.wn.ch c (ho aP (by simp))⟩
  intro i hi j v hv
  have hj : j < 4 := (List.getElem?_eq_some_iff.1 hv).1
  by_cases e : i = k
  · subst e
    have e0 : mixI T s (i + 1) i = ⟨(T.ins i).tx, (T.ins i).out, (T.ins i).path, s⟩ := by unfold mixI; rw [if_pos (by omega)]
    have e1 : mixI T s i i = T.ins i := by unfold mixI; rw [if_neg (by omega)]
    rw [e0] at hv
    by_cases ej : j = 3
    · subst ej
      rw [List.getElem?_set_self (by omega)]
      exact hv
    · rw [List.getElem?_set_ne (by omega)]
      refine h10 i hi j v ?_
      rw [e1, ← hv]
      rcases (show j = 0 ∨ j = 1 ∨ j = 2 by omega) with rfl | rfl | rfl <;> rfl
  · rw [List.getElem?_set_ne (by omega)]
    refine h10 i hi j v ?_
    rw [← hv]
    have : mixI T s k i = mixI T s (k + 1) i := by
      unfold mixI
      by_cases h : i < k
      · rw [if_pos h, if_pos (by omega)]
      · rw [if_neg h, if_neg (by omega)]
    rw [this]
theorem WX.done (h : WX b T s P aJ cJ aU cU aP cP T.nI w) : TB w b (setS T s P) aJ cJ aU cU aP cP := by
  refine ⟨h.u, ?_, h.c, h.o, h.wn⟩
  rcases h.i with e | ⟨g, cs, rfl, hB, _, hc⟩
  · exact .inl e
  · refine .inr ⟨g, 0, rfl, fun i hi j v hv => ?_⟩
    rw [Nat.zero_add]
    refine hB.at_ _ _ (hc i hi j v ?_)
    rw [← hv]
    unfold mixI
    rw [if_pos (show i < T.nI from hi)]
    rfl
theorem TB.ch {t : TX} {aI aO aW : Option Addr} {cI cO cW : Nat} (h : TB w b t aI cI aO cO aW cW) (c : Ch g w w') (hb : b ≠ g) (ho : Off g [aI, aO, aW]) : TB w' b t aI cI aO cO aW cW := ⟨h.box.ch c hb, h.tm.ch c (ho aI (by simp)) (ho aO (by simp)) (ho aW (by simp))⟩
end
/-- Two transactions, as they were cut. -/
structure TwS (W : World) (B0 b2 b3 : Nat) (A B : TX) (aI : Option Addr) (cI : Nat) (aO : Option Addr) (cO : Nat) (aW : Option Addr) (cW : Nat) (eI : Option Addr) (dI : Nat) (eO : Option Addr) (dO : Nat) (eW : Option Addr) (dW : Nat) (w : World) : Prop where
  ba : Box w b2 (txC A aI cI aO cO aW cW)
  bb : Box w b3 (txC B eI dI eO dO eW dW)
  oa : OT w B0 A aI cI aO cO aW cW
  ob : OT w B0 B eI dI eO dO eW dW
  q : Q W w
theorem TwS.up {W : World} {B0 b2 b3 : Nat} {A B : TX} {aI aO aW eI eO eW : Option Addr} {cI cO cW dI dO dW : Nat} {w w' : World} (h : TwS W B0 b2 b3 A B aI cI aO cO aW cW eI dI eO dO eW dW w) (q : Q w w') : TwS W B0 b2 b3 A B aI cI aO cO aW cW eI dI eO dO eW dW w' := ⟨h.ba.q q, h.bb.q q, h.oa.q q, h.ob.q q, h.q.trans q⟩
theorem OT.down {w : World} {B B' : Nat} {t : TX} {aI aO aW : Option Addr} {cI cO cW : Nat} (h : OT w B t aI cI aO cO aW cW) (hb : B' ≤ B) : OT w B' t aI cI aO cO aW cW := ⟨h.i.down hb, h.o.down hb, h.w.down hb⟩
/-- Where CoinTells stands: two transactions, and two whose signatures are being struck. -/
structure TlS (W : World) (b2 b3 b5 b6 : Nat) (A B : TX) (aI : Option Addr) (cI : Nat) (aO : Option Addr) (cO : Nat) (aW : Option Addr) (cW : Nat) (eI : Option Addr) (dI : Nat) (eO : Option Addr) (dO : Nat) (eW : Option Addr) (dW : Nat) (aJ : Option Addr) (cJ : Nat) (aU : Option Addr) (cU : Nat) (eJ : Option Addr) (dJ : Nat) (eU : Option Addr) (dU : Nat) (k k' : Nat) (w : World) : Prop where
  a : TB w b2 A aI cI aO cO aW cW
  b : TB w b3 B eI dI eO dO eW dW
  x : WX b5 A ⟨#[]⟩ PF.zero aJ cJ aU cU none 0 k w
  y : WX b6 B ⟨#[]⟩ PF.zero eJ dJ eU dU none 0 k' w
  q : Q W w
section
variable {W : World} {b2 b3 b5 b6 g k k' : Nat} {A B : TX} {aI aO aW eI eO eW aJ aU eJ eU : Option Addr} {cI cO cW dI dO dW cJ cU dJ dU : Nat} {w w' : World}
theorem TlS.up (h : TlS W b2 b3 b5 b6 A B aI cI aO cO aW cW eI dI eO dO eW dW aJ cJ aU cU eJ dJ eU dU k k' w) (q : Q w w') : TlS W b2 b3 b5 b6 A B aI cI aO cO aW cW eI dI eO dO eW dW aJ cJ aU cU eJ dJ eU dU k k' w' := ⟨h.a.q q, h.b.q q, h.x.q q, h.y.q q, h.q.trans q⟩
theorem off_none {g : Nat} {l : List (Option Addr)} (h : Off g l) : Off g (l ++ [none]) := by
  intro a ha x hx
  rcases List.mem_append.1 ha with h1 | h1
  · exact h a h1 x hx
  · simp at h1; subst h1; cases hx
theorem off_mem {g : Nat} {l l' : List (Option Addr)} (h : Off g l) (hs : ∀ a ∈ l', a ∈ l) : Off g l' := fun a ha => h a (hs a ha)
theorem TlS.stepx {cs : List Value} (h : TlS W b2 b3 b5 b6 A B aI cI aO cO aW cW eI dI eO dO eW dW aJ cJ aU cU eJ dJ eU dU k k' w) (hk : k < A.nI) (hJ : aJ = some ⟨g, 0, none⟩) (h9 : A.nI * 4 ≤ cs.length) (h10 : ∀ i, i < A.nI → ∀ j v, ((mixI A ⟨#[]⟩ k i).cells)[j]? = some v → cs[i * 4 + j]? = some v)
    (hg : W.heap.size ≤ g ∧ b2 ≠ g ∧ b3 ≠ g ∧ b5 ≠ g ∧ b6 ≠ g ∧ Off g [aI, aO, aW, eI, eO, eW, aU, eJ, eU]) (hB : Box w' g (cs.set (k * 4 + 3) (.string ⟨#[]⟩))) (c : Ch g w w') :
    TlS W b2 b3 b5 b6 A B aI cI aO cO aW cW eI dI eO dO eW dW aJ cJ aU cU eJ dJ eU dU (k + 1) k' w' := by
  obtain ⟨g0, g2, g3, g5, g6, ho⟩ := hg
  exact ⟨h.a.ch c g2 (off_mem ho (by simp)), h.b.ch c g3 (off_mem ho (by simp)), h.x.step hk hJ h9 h10 g5 (off_none (l := [aU]) (off_mem ho (by simp))) hB c, h.y.ch c g6 (off_none (l := [eJ, eU]) (off_mem ho (by simp))), c.q h.q g0⟩
theorem TlS.stepy {cs : List Value} (h : TlS W b2 b3 b5 b6 A B aI cI aO cO aW cW eI dI eO dO eW dW aJ cJ aU cU eJ dJ eU dU k k' w) (hk : k' < B.nI) (hJ : eJ = some ⟨g, 0, none⟩) (h9 : B.nI * 4 ≤ cs.length) (h10 : ∀ i, i < B.nI → ∀ j v, ((mixI B ⟨#[]⟩ k' i).cells)[j]? = some v → cs[i * 4 + j]? = some v)
    (hg : W.heap.size ≤ g ∧ b2 ≠ g ∧ b3 ≠ g ∧ b5 ≠ g ∧ b6 ≠ g ∧ Off g [aI, aO, aW, eI, eO, eW, eU, aJ, aU]) (hB : Box w' g (cs.set (k' * 4 + 3) (.string ⟨#[]⟩))) (c : Ch g w w') :
    TlS W b2 b3 b5 b6 A B aI cI aO cO aW cW eI dI eO dO eW dW aJ cJ aU cU eJ dJ eU dU k (k' + 1) w' := by
  obtain ⟨g0, g2, g3, g5, g6, ho⟩ := hg
  exact ⟨h.a.ch c g2 (off_mem ho (by simp)), h.b.ch c g3 (off_mem ho (by simp)), h.x.ch c g5 (off_none (l := [aJ, aU]) (off_mem ho (by simp))), h.y.step hk hJ h9 h10 g6 (off_none (l := [eU]) (off_mem ho (by simp))) hB c, c.q h.q g0⟩
end
theorem blks_tx {t : TX} {aI aO aW : Option Addr} {cI cO cW b : Nat} (h : b ∈ blks (.agg #[.slice aI t.nI cI, .slice aO t.nO cO, .int .u64 t.p.amount, .string t.p.sig, .string t.p.token, .slice aW t.p.n cW])) :
    (∃ x, aI = some x ∧ x.block = b) ∨ (∃ x, aO = some x ∧ x.block = b) ∨ (∃ x, aW = some x ∧ x.block = b) := by
  unfold blks at h
  simp only [List.mem_flatMap] at h
  obtain ⟨v, hv, hb⟩ := h
  simp at hv
  rcases hv with rfl | rfl | rfl | rfl | rfl | rfl
  · cases aI with
    | none => simp at hb
    | some x => simp at hb; exact .inl ⟨x, rfl, hb.symm⟩
  · cases aO with
    | none => simp at hb
    | some x => simp at hb; exact .inr (.inl ⟨x, rfl, hb.symm⟩)
  · simp at hb
  · simp at hb
  · simp at hb
  · cases aW with
    | none => simp at hb
    | some x => simp at hb; exact .inr (.inr ⟨x, rfl, hb.symm⟩)
theorem tx_blks1 {t : TX} {aI aO aW : Option Addr} {cI cO cW : Nat} {x : Addr} (h : aI = some x ∨ aO = some x ∨ aW = some x) : x.block ∈ blks (.agg #[.slice aI t.nI cI, .slice aO t.nO cO, .int .u64 t.p.amount, .string t.p.sig, .string t.p.token, .slice aW t.p.n cW]) := by
  unfold blks
  simp only [List.mem_flatMap]
  rcases h with rfl | rfl | rfl
  · exact ⟨.slice (some x) t.nI cI, by simp, by simp⟩
  · exact ⟨.slice (some x) t.nO cO, by simp, by simp⟩
  · exact ⟨.slice (some x) t.p.n cW, by simp, by simp⟩
theorem OT.blks_ {w : World} {B : Nat} {t : TX} {aI aO aW : Option Addr} {cI cO cW b : Nat} (h : OT w B t aI cI aO cO aW cW) (hb : b ∈ blks (.agg #[.slice aI t.nI cI, .slice aO t.nO cO, .int .u64 t.p.amount, .string t.p.sig, .string t.p.token, .slice aW t.p.n cW])) : B ≤ b ∧ b < w.heap.size := by
  rcases blks_tx hb with ⟨x, e, rfl⟩ | ⟨x, e, rfl⟩ | ⟨x, e, rfl⟩
  · exact h.i.blk_ x e
  · exact h.o.blk_ x e
  · exact h.w.blk_ x e
theorem tail2 {P : Program} {ops : Array Oper} {Qx : Exit → Act → World → Prop} {k : Nat} {a : Act} {w : World} (h : wpOp P ops Qx k (fun a w => wpOp P ops Qx (k + 1) (fun a w => Qx .normal a w) a w) a w) : Tail P ops Qx 2 k a w := h
theorem eqs_dec (x y : Operand) (s t : ByteArray) (w : World) (T : TypeId) {e : Bool} (he : (s.toList == t.toList) = e) : (do eqGuard .eql T x y (.string s) (.string t); binOp .eql T (.string s) (.string t) : Sem Value).run Tryd.prog w = .ok (.bool e) w := by
  simp [eqGuard, binOp, Op.stringOp, he]
theorem eqb_same (x y : Operand) (e : Bool) (w : World) : (do eqGuard .eql 4 x y (.bool e) (.bool e); binOp .eql 4 (.bool e) (.bool e) : Sem Value).run Tryd.prog w = .ok (.bool true) w := by
  cases e <;> kernel_rfl
/-- The cores are the same just where all but signatures and proofs is. -/
theorem core_tells {A B : TX} (hA : RightT A) (hB : RightT B) (kA : A.ok) (kB : B.ok) : coreS A = coreS B ↔ SamT (setS A ⟨#[]⟩ PF.zero) (setS B ⟨#[]⟩ PF.zero) := by
  constructor
  · intro e
    obtain ⟨_, a1, a2, a3, a4⟩ := co_of small_wrap A hA kA
    obtain ⟨_, b1, b2, b3, b4⟩ := co_of small_wrap B hB kB
    rw [e] at a1 a2 a3 a4
    have n1 : A.nI = B.nI := a1.symm.trans b1
    have n2 : A.nO = B.nO := a2.symm.trans b2
    refine ⟨⟨n1, fun i hi => ?_⟩, ⟨n2, fun i hi => ?_⟩, rfl, rfl, rfl, rfl, fun i hi => rfl⟩
    · have hi' : i < A.nI := hi
      have := (a3 i hi').symm.trans (b3 i (by omega))
      exact this
    · have hi' : i < A.nO := hi
      exact (a4 i hi').symm.trans (b4 i (by omega))
  · rintro ⟨⟨n1, e1⟩, ⟨n2, e2⟩, _⟩
    have n1' : A.nI = B.nI := n1
    have n2' : A.nO = B.nO := n2
    unfold coreS
    rw [n1', n2', catN_congr (fun i => inB (A.ins i)) (fun i => inB (B.ins i)) B.nI (fun i hi => ?_), catN_congr (fun i => ouB (A.outs i)) (fun i => ouB (B.outs i)) B.nO (fun i hi => ?_)]
    · have : A.outs i = B.outs i := e2 i (show i < A.nO by omega)
      show ouB _ = ouB _
      rw [this]
    · have : (⟨(A.ins i).tx, (A.ins i).out, (A.ins i).path, ⟨#[]⟩⟩ : IN) = ⟨(B.ins i).tx, (B.ins i).out, (B.ins i).path, ⟨#[]⟩⟩ := e1 i (show i < A.nI by omega)
      injection this with h1 h2 h3
      show inB _ = inB _
      unfold inB
      rw [h1, h2, h3]
theorem toList_eq_iff {s t : ByteArray} {e : Bool} (h : (s.toList == t.toList) = e) : e = true ↔ s = t := by
  subst h
  rw [beq_iff_eq, ByteArray.toList_eq, ByteArray.toList_eq]
  constructor
  · intro h
    obtain ⟨⟨l⟩⟩ := s
    obtain ⟨⟨m⟩⟩ := t
    have : l = m := h
    rw [this]
  · rintro rfl; rfl
set_option maxHeartbeats 40000000 in
set_option maxRecDepth 100000 in
theorem tells_walk (W : World) (hG : GL W) (z1 : TXI) (hz1 : z1.In W) (z2 : TXI) (hz2 : z2.In W) :
    Calls Tryd.prog 5 #[z1.val, z2.val] W fun e W' => e = .returned (.bool true) ∧ Below W.heap.size W W' := by
  obtain ⟨ta, xI, yI, xO, yO, xW, yW⟩ := z1
  obtain ⟨tb, uI, vI, uO, vO, uW, vW⟩ := z2
  obtain ⟨AI, AO, AW, ha, asg, atk⟩ := hz1
  obtain ⟨BI, BO, BW, hb, bsg, btk⟩ := hz2
  dsimp only at AI AO AW ha asg atk BI BO BW hb bsg btk
  dsimp only [TXI.val]
  obtain ⟨A, hA⟩ : ∃ T, cutX ta = T := ⟨_, rfl⟩
  obtain ⟨B, hB⟩ : ∃ T, cutX tb = T := ⟨_, rfl⟩
  have OKA : Hid (A.ok) := by show A.ok; rw [← hA]; exact cutX_ok AI.ok AO.ok ha AW.ok
  have OKB : Hid (B.ok) := by show B.ok; rw [← hB]; exact cutX_ok BI.ok BO.ok hb BW.ok
  have ITA : Hid (cutX A = A) := by show _ = _; rw [← hA]; exact cutX_cut ta
  have ITB : Hid (cutX B = B) := by show _ = _; rw [← hB]; exact cutX_cut tb
  have CA := Lib.hid hA
  have CB := Lib.hid hB
  clear hA hB
  have hG := Lib.hid hG
  have AI := Lib.hid AI
  have AO := Lib.hid AO
  have AW := Lib.hid AW
  have BI := Lib.hid BI
  have BO := Lib.hid BO
  have BW := Lib.hid BW
  go_enter Tryd.func5, Tryd.ntmps5
  go_wp2_with (with_reducible (show wpList _ _ _ (⟨_, Op.load 29 (.tmp 2), _, _, _, _⟩ :: _) _ _); refine halt ?_)
  have QA : Hid (Q W ((W.alloc (.cells #[.slice xI ta.nI yI, .slice xO ta.nO yO, .int .u64 ta.p.amount, .string ta.p.sig, .string ta.p.token, .slice xW ta.p.n yW] 29)).alloc (.cells #[.slice uI tb.nI vI, .slice uO tb.nO vO, .int .u64 tb.p.amount, .string tb.p.sig, .string tb.p.token, .slice uW tb.p.n vW] 29))) := ((Q.refl W).alloc _).alloc _
  have B2 : Hid (Box ((W.alloc (.cells #[.slice xI ta.nI yI, .slice xO ta.nO yO, .int .u64 ta.p.amount, .string ta.p.sig, .string ta.p.token, .slice xW ta.p.n yW] 29)).alloc (.cells #[.slice uI tb.nI vI, .slice uO tb.nO vO, .int .u64 tb.p.amount, .string tb.p.sig, .string tb.p.token, .slice uW tb.p.n vW] 29)) W.heap.size [.slice xI ta.nI yI, .slice xO ta.nO yO, .int .u64 ta.p.amount, .string ta.p.sig, .string ta.p.token, .slice xW ta.p.n yW]) := (Box.new W [.slice xI ta.nI yI, .slice xO ta.nO yO, .int .u64 ta.p.amount, .string ta.p.sig, .string ta.p.token, .slice xW ta.p.n yW] 29).q ((Q.refl _).alloc _)
  have B3 : Hid (Box ((W.alloc (.cells #[.slice xI ta.nI yI, .slice xO ta.nO yO, .int .u64 ta.p.amount, .string ta.p.sig, .string ta.p.token, .slice xW ta.p.n yW] 29)).alloc (.cells #[.slice uI tb.nI vI, .slice uO tb.nO vO, .int .u64 tb.p.amount, .string tb.p.sig, .string tb.p.token, .slice uW tb.p.n vW] 29)) (W.heap.size + 1) [.slice uI tb.nI vI, .slice uO tb.nO vO, .int .u64 tb.p.amount, .string tb.p.sig, .string tb.p.token, .slice uW tb.p.n vW]) := by
    have := Box.new (W.alloc (.cells #[.slice xI ta.nI yI, .slice xO ta.nO yO, .int .u64 ta.p.amount, .string ta.p.sig, .string ta.p.token, .slice xW ta.p.n yW] 29)) [.slice uI tb.nI vI, .slice uO tb.nO vO, .int .u64 tb.p.amount, .string tb.p.sig, .string tb.p.token, .slice uW tb.p.n vW] 29
    rw [show (W.alloc (.cells #[.slice xI ta.nI yI, .slice xO ta.nO yO, .int .u64 ta.p.amount, .string ta.p.sig, .string ta.p.token, .slice xW ta.p.n yW] 29)).heap.size = W.heap.size + 1 by simp] at this
    exact this
  generalize (W.alloc (.cells #[.slice xI ta.nI yI, .slice xO ta.nO yO, .int .u64 ta.p.amount, .string ta.p.sig, .string ta.p.token, .slice xW ta.p.n yW] 29)).alloc (.cells #[.slice uI tb.nI vI, .slice uO tb.nO vO, .int .u64 tb.p.amount, .string tb.p.sig, .string tb.p.token, .slice uW tb.p.n vW] 29) = wA at *
  obtain ⟨b3, hb3⟩ : ∃ b, W.heap.size + 1 = b := ⟨_, rfl⟩
  rw [hb3] at B3 ⊢
  obtain ⟨b2, hb2⟩ : ∃ b, W.heap.size = b := ⟨_, rfl⟩
  rw [hb2] at B2 ⊢
  have l2 : b2 < wA.heap.size := B2.out.lt
  have l3 : b3 < wA.heap.size := B3.out.lt
  have n23 : b3 ≠ b2 := by omega
  have BB : W.heap.size ≤ wA.heap.size := QA.out.size
  refine Lib.hid (ld_box rfl 29 _ rfl b2 _ rfl B2.out Tryd.underlying29 rfl (by kernel_rfl) ?_)
  go_wp2_with fail
  refine (cut_x ta A CA.out xI yI xO yO xW yW _ (AI.out.q QA.out) (AO.out.q QA.out) (AW.out.q QA.out) asg atk).mono ?_
  rintro e w1 ⟨aI, cI, aO, cO, aW, cW, rfl, o1, _, _, q1⟩
  go_wp2_with (with_reducible (show wpList _ _ _ (⟨_, Op.store 29 _ _, _, _, _, _⟩ :: _) _ _); refine halt ?_)
  refine Lib.hid (st_box rfl 29 _ _ rfl b2 _ [.slice aI A.nI cI, .slice aO A.nO cO, .int .u64 A.p.amount, .string A.p.sig, .string A.p.token, .slice aW A.p.n cW] rfl rfl (B2.out.q q1) rfl (by kernel_rfl) (one6 rfl rfl rfl rfl rfl rfl) ?_)
  intro w2 B2' c2
  have OA2 := Lib.hid (o1.low c2 l2)
  have B22 := Lib.hid B2'
  have B32 := Lib.hid ((B3.out.q q1).ch c2 n23)
  have Q2 : Hid (Q W w2) := c2.q (QA.out.trans q1) (by omega)
  have s2 : wA.heap.size ≤ w2.heap.size := Nat.le_trans q1.size c2.size
  clear c2 B2' o1 q1 B2 B3 QA AI AO AW
  go_wp2_with (with_reducible (show wpList _ _ _ (⟨_, Op.load 29 (.tmp 3), _, _, _, _⟩ :: _) _ _); refine halt ?_)
  refine Lib.hid (ld_box rfl 29 _ rfl b3 _ rfl B32.out Tryd.underlying29 rfl (by kernel_rfl) ?_)
  go_wp2_with fail
  refine (cut_x tb B CB.out uI vI uO vO uW vW _ (BI.out.q Q2.out) (BO.out.q Q2.out) (BW.out.q Q2.out) bsg btk).mono ?_
  rintro e w3 ⟨eI, dI, eO, dO, eW, dW, rfl, o3, _, _, q3⟩
  go_wp2_with (with_reducible (show wpList _ _ _ (⟨_, Op.store 29 _ _, _, _, _, _⟩ :: _) _ _); refine halt ?_)
  refine Lib.hid (st_box rfl 29 _ _ rfl b3 _ [.slice eI B.nI dI, .slice eO B.nO dO, .int .u64 B.p.amount, .string B.p.sig, .string B.p.token, .slice eW B.p.n dW] rfl rfl (B32.out.q q3) rfl (by kernel_rfl) (one6 rfl rfl rfl rfl rfl rfl) ?_)
  intro w4 B3' c4
  obtain ⟨B0, hB0⟩ : ∃ z, wA.heap.size = z := ⟨_, rfl⟩
  rw [hB0] at OA2 l2 l3 BB s2
  have H4 : Hid (TwS W B0 b2 b3 A B aI cI aO cO aW cW eI dI eO dO eW dW w4) := ⟨(B22.out.q q3).ch c4 (Ne.symm n23), B3', (OA2.out.q q3).low c4 l3, (o3.low c4 (by omega)).down s2, c4.q (Q2.out.trans q3) (by omega)⟩
  clear c4 B3' o3 q3 OA2 B22 B32 Q2 BI BO BW hB0 s2 CA CB hb2 hb3 asg atk bsg btk ha hb
  as_aux_lemma =>
  go_wp2_with (with_reducible (show wpList _ _ _ (⟨_, Op.load 29 (.tmp 2), _, _, _, _⟩ :: _) _ _); refine halt ?_)
  refine Lib.hid (ld_box rfl 29 _ rfl b2 _ rfl H4.out.ba Tryd.underlying29 rfl (by kernel_rfl) ?_)
  go_wp2_with fail
  refine (right_x A aI aO aW cI cO cW _ H4.out.oa.tm OKA.out).mono ?_
  rintro e w5 ⟨b, rfl, hz, q5⟩
  have H5 := Lib.hid (H4.out.up q5)
  clear H4 q5
  rcases two hz with ⟨rfl, Z⟩ | ⟨rfl, Z⟩
  rotate_left
  · clear Z hz
    as_aux_lemma =>
    go_wp2_with fail
    refine (fixed_x hG.out _ H5.out.q).mono ?_
    rintro e w6 ⟨rfl, q6⟩
    go_wp2_with fail
    go_ret
    exact ⟨rfl, q6⟩
  have ZA := Lib.hid Z
  clear Z hz
  go_wp2_with (with_reducible (show wpList _ _ _ (⟨_, Op.load 29 (.tmp 3), _, _, _, _⟩ :: _) _ _); refine halt ?_)
  refine Lib.hid (ld_boxg (by kernel_rfl) 29 _ rfl b3 _ rfl H5.out.bb Tryd.underlying29 rfl (by kernel_rfl) ?_)
  go_wp2_with fail
  refine (right_x B eI eO eW dI dO dW _ H5.out.ob.tm OKB.out).mono ?_
  rintro e w6 ⟨b, rfl, hz, q6⟩
  have H6 := Lib.hid (H5.out.up q6)
  clear H5 q6
  rcases two hz with ⟨rfl, Z⟩ | ⟨rfl, Z⟩
  rotate_left
  · clear Z hz
    as_aux_lemma =>
    go_wp2_with fail
    refine (fixed_x hG.out _ H6.out.q).mono ?_
    rintro e w7 ⟨rfl, q7⟩
    go_wp2_with fail
    go_ret
    exact ⟨rfl, q7⟩
  have ZB := Lib.hid Z
  clear Z hz
  as_aux_lemma =>
  go_wp2_with fail
  have hS0 : Q w6 w6.drew := (Q.refl w6).drew
  refine region_gen3 ?_
  intro OPS QQ A0 hO hQQ hA
  have hz : A0.tmps.size = 66 := by rw [hA]; rfl
  have hs : sound OPS A0.tmps.size = true := by rw [hz, hO]; kernel_rfl
  have b_2 : A0.eval (.tmp 2) = .pointer (some ⟨b2, 0, none⟩) := by rw [hA]; rfl
  have fr_2 : free OPS 2 = true := by rw [hO]; kernel_rfl
  have b_3 : A0.eval (.tmp 3) = .pointer (some ⟨b3, 0, none⟩) := by rw [hA]; rfl
  have fr_3 : free OPS 3 = true := by rw [hO]; kernel_rfl
  obtain ⟨VV, hVV⟩ : ∃ V : Nat → Value → World → Prop, V = fun i => ([fun v _ => v = .agg #[.slice aI A.nI cI, .slice aO A.nO cO, .int .u64 A.p.amount, .string A.p.sig, .string A.p.token, .slice aW A.p.n cW], fun v w => ∃ aJ cJ aU cU aV cV, v = .agg #[.slice aJ A.nI cJ, .slice aU A.nO cU, .int .u64 A.p.amount, .string A.p.sig, .string A.p.token, .slice aV A.p.n cV] ∧ OT w w6.heap.size A aJ cJ aU cU aV cV ∧ Apart aJ aU ∧ Apart aJ aV, fun v _ => v = .agg #[.slice eI B.nI dI, .slice eO B.nO dO, .int .u64 B.p.amount, .string B.p.sig, .string B.p.token, .slice eW B.p.n dW], fun v w => ∃ eJ dJ eU dU eV dV, v = .agg #[.slice eJ B.nI dJ, .slice eU B.nO dU, .int .u64 B.p.amount, .string B.p.sig, .string B.p.token, .slice eV B.p.n dV] ∧ OT w w6.heap.size B eJ dJ eU dU eV dV ∧ Apart eJ eU ∧ Apart eJ eV, fun v w => ∃ b, v = .pointer (some ⟨b, 0, none⟩) ∧ Box w b [.slice none 0 0, .slice none 0 0, .int .u64 0, .string ⟨#[]⟩, .string ⟨#[]⟩, .slice none 0 0] ∧ w6.heap.size ≤ b, fun v w => ∃ b, v = .pointer (some ⟨b, 0, none⟩) ∧ Box w b [.slice none 0 0, .slice none 0 0, .int .u64 0, .string ⟨#[]⟩, .string ⟨#[]⟩, .slice none 0 0] ∧ w6.heap.size ≤ b] : List (Value → World → Prop)).getD i (fun _ _ => True) := ⟨_, rfl⟩
  have v_0 : VV 0 = fun v _ => v = .agg #[.slice aI A.nI cI, .slice aO A.nO cO, .int .u64 A.p.amount, .string A.p.sig, .string A.p.token, .slice aW A.p.n cW] := vat hVV 0
  have v_1 : VV 1 = fun v w => ∃ aJ cJ aU cU aV cV, v = .agg #[.slice aJ A.nI cJ, .slice aU A.nO cU, .int .u64 A.p.amount, .string A.p.sig, .string A.p.token, .slice aV A.p.n cV] ∧ OT w w6.heap.size A aJ cJ aU cU aV cV ∧ Apart aJ aU ∧ Apart aJ aV := vat hVV 1
  have v_2 : VV 2 = fun v _ => v = .agg #[.slice eI B.nI dI, .slice eO B.nO dO, .int .u64 B.p.amount, .string B.p.sig, .string B.p.token, .slice eW B.p.n dW] := vat hVV 2
  have v_3 : VV 3 = fun v w => ∃ eJ dJ eU dU eV dV, v = .agg #[.slice eJ B.nI dJ, .slice eU B.nO dU, .int .u64 B.p.amount, .string B.p.sig, .string B.p.token, .slice eV B.p.n dV] ∧ OT w w6.heap.size B eJ dJ eU dU eV dV ∧ Apart eJ eU ∧ Apart eJ eV := vat hVV 3
  have v_4 : VV 4 = fun v w => ∃ b, v = .pointer (some ⟨b, 0, none⟩) ∧ Box w b [.slice none 0 0, .slice none 0 0, .int .u64 0, .string ⟨#[]⟩, .string ⟨#[]⟩, .slice none 0 0] ∧ w6.heap.size ≤ b := vat hVV 4
  have v_5 : VV 5 = fun v w => ∃ b, v = .pointer (some ⟨b, 0, none⟩) ∧ Box w b [.slice none 0 0, .slice none 0 0, .int .u64 0, .string ⟨#[]⟩, .string ⟨#[]⟩, .slice none 0 0] ∧ w6.heap.size ≤ b := vat hVV 5
  have hV := stablex_of (T := Q) (p := 6) hVV ((sx_cons (fun _ _ _ h _ => h) (sx_cons (fun v w w' h t => by obtain ⟨aJ, cJ, aU, cU, aV, cV, h1, h2, h3⟩ := h; exact ⟨aJ, cJ, aU, cU, aV, cV, h1, h2.q t, h3⟩) (sx_cons (fun _ _ _ h _ => h) (sx_cons (fun v w w' h t => by obtain ⟨eJ, dJ, eU, dU, eV, dV, h1, h2, h3⟩ := h; exact ⟨eJ, dJ, eU, dU, eV, dV, h1, h2.q t, h3⟩) (sx_cons (fun v w w' h t => by obtain ⟨b, h1, h2, h3⟩ := h; exact ⟨b, h1, h2.q t, h3⟩) (sx_cons (fun v w w' h t => by obtain ⟨b, h1, h2, h3⟩ := h; exact ⟨b, h1, h2.q t, h3⟩) trivial)))))))
  clear hVV
  have hBM : ∀ i ∈ [1, 3, 4, 5], ∀ v w, VV i v w → ∀ b ∈ blks v, b < w.heap.size := by
    intro i hi v w h
    simp only [List.mem_cons, List.not_mem_nil, or_false] at hi
    rcases hi with rfl | rfl | rfl | rfl
    · have h := at_p v_1 h
      obtain ⟨aJ, cJ, aU, cU, aV, cV, rfl, ho, _⟩ := h
      exact fun b hb => (ho.blks_ hb).2
    · have h := at_p v_3 h
      obtain ⟨eJ, dJ, eU, dU, eV, dV, rfl, ho, _⟩ := h
      exact fun b hb => (ho.blks_ hb).2
    · have h := at_p v_4 h
      obtain ⟨b, rfl, hb, _⟩ := h
      intro c hc
      simp [blks] at hc
      rw [hc]
      exact hb.lt
    · have h := at_p v_5 h
      obtain ⟨b, rfl, hb, _⟩ := h
      intro c hc
      simp [blks] at hc
      rw [hc]
      exact hb.lt
  have i_0 := pget_at hO 0 rfl
  have i_1 := pget_at hO 1 rfl
  have i_2 := pget_at hO 2 rfl
  have i_3 := pget_at hO 3 rfl
  have i_4 := pget_at hO 4 rfl
  have i_5 := pget_at hO 5 rfl
  have i_6 := pget_at hO 6 rfl
  have i_7 := pget_at hO 7 rfl
  have s_0 := Step2.pure (P := Tryd.prog) (V := VV) (T := Q) (S := (Q w6)) (a0 := A0) (p := 6) (Qx := QQ) i_0 (by rw [hO]; kernel_rfl) (.agg #[.slice aI A.nI cI, .slice aO A.nO cO, .int .u64 A.p.amount, .string A.p.sig, .string A.p.token, .slice aW A.p.n cW]) (Q.refl ·) (fun l a w hI hl hS => ⟨wanted_none rfl, ex_loado 29 rfl b2 0 [.slice aI A.nI cI, .slice aO A.nO cO, .int .u64 A.p.amount, .string A.p.sig, .string A.p.token, .slice aW A.p.n cW] _ ((hI.base 2 fr_2).trans b_2) ((H6.out.ba.q hS).rangeo 0 (r := []) rfl) Tryd.underlying29 rfl (by kernel_rfl), at_mk v_0 rfl⟩)
  have s_1 := StepM.done (P := Tryd.prog) (V := VV) (T := Q) (S := (Q w6)) (a0 := A0) (p := 6) (Qx := QQ) i_1 (by rw [hO]; kernel_rfl) rfl (fun l a w hI hl hS => by
    refine ⟨wanted_none rfl, ?_⟩
    refine wp_enter (f := 7) (args := #[.agg #[.slice aI A.nI cI, .slice aO A.nO cO, .int .u64 A.p.amount, .string A.p.sig, .string A.p.token, .slice aW A.p.n cW]]) ?_ ?_
    · exact ex_call rfl (by simp only [List.map_toArray, List.map_cons, List.map_nil, ev_const, (show a.eval (.tmp 22) = _ from (at_eq v_0 (hI.at_ 0 22 _ i_0 rfl (hl_at hl 0 rfl rfl))))]) Tryd.func7 (by kernel_rfl) (by kernel_rfl)
    · refine (OT.cut H6.out.oa OKA.out ITA.out w (H6.out.up hS).oa).mono fun e w' hc => ?_
      obtain ⟨aJ, cJ, aU, cU, aV, cV, rfl, ho, p1, p2, hq⟩ := hc
      exact ⟨_, rfl, hq, hS.trans hq, p_at v_1 ⟨aJ, cJ, aU, cU, aV, cV, rfl, ho.down hS.size, p1, p2⟩, fun b hb => (ho.blks_ hb).1⟩)
  have s_2 := Step2.pure (P := Tryd.prog) (V := VV) (T := Q) (S := (Q w6)) (a0 := A0) (p := 6) (Qx := QQ) i_2 (by rw [hO]; kernel_rfl) (.agg #[.slice eI B.nI dI, .slice eO B.nO dO, .int .u64 B.p.amount, .string B.p.sig, .string B.p.token, .slice eW B.p.n dW]) (Q.refl ·) (fun l a w hI hl hS => ⟨wanted_none rfl, ex_loado 29 rfl b3 0 [.slice eI B.nI dI, .slice eO B.nO dO, .int .u64 B.p.amount, .string B.p.sig, .string B.p.token, .slice eW B.p.n dW] _ ((hI.base 3 fr_3).trans b_3) ((H6.out.bb.q hS).rangeo 0 (r := []) rfl) Tryd.underlying29 rfl (by kernel_rfl), at_mk v_2 rfl⟩)
  have s_3 := StepM.done (P := Tryd.prog) (V := VV) (T := Q) (S := (Q w6)) (a0 := A0) (p := 6) (Qx := QQ) i_3 (by rw [hO]; kernel_rfl) rfl (fun l a w hI hl hS => by
    refine ⟨wanted_none rfl, ?_⟩
    refine wp_enter (f := 7) (args := #[.agg #[.slice eI B.nI dI, .slice eO B.nO dO, .int .u64 B.p.amount, .string B.p.sig, .string B.p.token, .slice eW B.p.n dW]]) ?_ ?_
    · exact ex_call rfl (by simp only [List.map_toArray, List.map_cons, List.map_nil, ev_const, (show a.eval (.tmp 24) = _ from (at_eq v_2 (hI.at_ 2 24 _ i_2 rfl (hl_at hl 0 rfl rfl))))]) Tryd.func7 (by kernel_rfl) (by kernel_rfl)
    · refine (OT.cut H6.out.ob OKB.out ITB.out w (H6.out.up hS).ob).mono fun e w' hc => ?_
      obtain ⟨eJ, dJ, eU, dU, eV, dV, rfl, ho, p1, p2, hq⟩ := hc
      exact ⟨_, rfl, hq, hS.trans hq, p_at v_3 ⟨eJ, dJ, eU, dU, eV, dV, rfl, ho.down hS.size, p1, p2⟩, fun b hb => (ho.blks_ hb).1⟩)
  have s_4 := StepM.done (P := Tryd.prog) (V := VV) (T := Q) (S := (Q w6)) (a0 := A0) (p := 6) (Qx := QQ) i_4 (by rw [hO]; kernel_rfl) rfl (fun l a w hI hl hS => by
    refine ⟨wanted_none rfl, ?_⟩
    refine wpo_alloc 29 rfl #[.slice none 0 0, .slice none 0 0, .int .u64 0, .string ⟨#[]⟩, .string ⟨#[]⟩, .slice none 0 0] zeroT ?_
    exact ⟨_, rfl, (Q.refl w).alloc _, hS.alloc _, p_at v_4 ⟨w.heap.size, rfl, Box.new w _ _, hS.size⟩, by intro b hb; simp [blks] at hb; omega⟩)
  have s_5 := StepM.done (P := Tryd.prog) (V := VV) (T := Q) (S := (Q w6)) (a0 := A0) (p := 6) (Qx := QQ) i_5 (by rw [hO]; kernel_rfl) rfl (fun l a w hI hl hS => by
    refine ⟨wanted_none rfl, ?_⟩
    refine wpo_alloc 29 rfl #[.slice none 0 0, .slice none 0 0, .int .u64 0, .string ⟨#[]⟩, .string ⟨#[]⟩, .slice none 0 0] zeroT ?_
    exact ⟨_, rfl, (Q.refl w).alloc _, hS.alloc _, p_at v_5 ⟨w.heap.size, rfl, Box.new w _ _, hS.size⟩, by intro b hb; simp [blks] at hb; omega⟩)
  refine wp_plan4 VV (Q) (Q w6) 6 6 [1, 3, 4, 5] (by kernel_rfl) hs (by rw [hO]; kernel_rfl) (by rw [hO]; kernel_rfl) (by rw [hO]; kernel_rfl) hV hBM hS0 (steps4_all hO _ rfl ((d2_cons (by decide) s_0 (dm_cons (by decide) s_1 (d2_cons (by decide) s_2 (dm_cons (by decide) s_3 (dm_cons (by decide) s_4 (dm_cons (by decide) s_5 trivial)))))))) ?_
  intro l a w hall hun hI hD
  have hS := hI.st (hun 6 (by decide) (by rw [hO]; decide))
  obtain ⟨aJ, cJ, aU, cU, aV, cV, e23, oJ, pJU, pJV⟩ := (at_p v_1 (hI.at_ 1 23 _ i_1 rfl (hall 1 (by decide))))
  obtain ⟨eJ, dJ, eU, dU, eV, dV, e25, oE, pEU, pEV⟩ := (at_p v_3 (hI.at_ 3 25 _ i_3 rfl (hall 3 (by decide))))
  obtain ⟨b5, e5, B5, k5⟩ := (at_p v_4 (hI.at_ 4 5 _ i_4 rfl (hall 4 (by decide))))
  obtain ⟨b6, e6, B6, k6⟩ := (at_p v_5 (hI.at_ 5 6 _ i_5 rfl (hall 5 (by decide))))
  have d13 : ∀ b, b ∈ blks (a.eval (.tmp 23)) → b ∈ blks (a.eval (.tmp 25)) → False := hD 1 3 _ _ (by decide) (by decide) (by decide) i_1 i_3 (hall 1 (by decide)) (hall 3 (by decide))
  have d14 : ∀ b, b ∈ blks (a.eval (.tmp 23)) → b ∈ blks (a.eval (.tmp 5)) → False := hD 1 4 _ _ (by decide) (by decide) (by decide) i_1 i_4 (hall 1 (by decide)) (hall 4 (by decide))
  have d15 : ∀ b, b ∈ blks (a.eval (.tmp 23)) → b ∈ blks (a.eval (.tmp 6)) → False := hD 1 5 _ _ (by decide) (by decide) (by decide) i_1 i_5 (hall 1 (by decide)) (hall 5 (by decide))
  have d34 : ∀ b, b ∈ blks (a.eval (.tmp 25)) → b ∈ blks (a.eval (.tmp 5)) → False := hD 3 4 _ _ (by decide) (by decide) (by decide) i_3 i_4 (hall 3 (by decide)) (hall 4 (by decide))
  have d35 : ∀ b, b ∈ blks (a.eval (.tmp 25)) → b ∈ blks (a.eval (.tmp 6)) → False := hD 3 5 _ _ (by decide) (by decide) (by decide) i_3 i_5 (hall 3 (by decide)) (hall 5 (by decide))
  have d45 : ∀ b, b ∈ blks (a.eval (.tmp 5)) → b ∈ blks (a.eval (.tmp 6)) → False := hD 4 5 _ _ (by decide) (by decide) (by decide) i_4 i_5 (hall 4 (by decide)) (hall 5 (by decide))
  rw [e23, e25] at d13
  rw [e23, e5] at d14
  rw [e23, e6] at d15
  rw [e25, e5] at d34
  rw [e25, e6] at d35
  rw [e5, e6] at d45
  have n56 : b5 ≠ b6 := fun e => d45 b5 (by simp [blks]) (by simp [blks, e])
  rw [show OPS.size - 6 = 2 by rw [hO]; rfl]
  refine tail2 ?_
  refine fin_of i_6 (wanted_none rfl) ?_
  refine wpo_st_box 29 _ _ rfl b5 _ [.slice aJ A.nI cJ, .slice aU A.nO cU, .int .u64 A.p.amount, .string A.p.sig, .string A.p.token, .slice aV A.p.n cV] e5 e23 B5 rfl (by kernel_rfl) (one6 rfl rfl rfl rfl rfl rfl) ?_
  intro w7 B57 c7
  refine fin_of i_7 (wanted_none rfl) ?_
  refine wpo_st_box 29 _ _ rfl b6 _ [.slice eJ B.nI dJ, .slice eU B.nO dU, .int .u64 B.p.amount, .string B.p.sig, .string B.p.token, .slice eV B.p.n dV] e6 e25 (B6.ch c7 (Ne.symm n56)) rfl (by kernel_rfl) (one6 rfl rfl rfl rfl rfl rfl) ?_
  intro w8 B68 c8
  rw [hQQ]
  obtain ⟨ts, ds⟩ := a
  have hd : ds = [] := by have := hI.df; rw [hA] at this; exact this
  have hts : ts.size = 66 := by have := hI.sz; rw [hz] at this; exact this
  have f5 : ts.getD 5 undef = .pointer (some ⟨b5, 0, none⟩) := e5
  have f6 : ts.getD 6 undef = .pointer (some ⟨b6, 0, none⟩) := e6
  have f0 := (hI.base 0 (by rw [hO]; kernel_rfl)).trans (base_at hA 0 rfl)
  have f1 := (hI.base 1 (by rw [hO]; kernel_rfl)).trans (base_at hA 1 rfl)
  have f2 := (hI.base 2 (by rw [hO]; kernel_rfl)).trans (base_at hA 2 rfl)
  have f3 := (hI.base 3 (by rw [hO]; kernel_rfl)).trans (base_at hA 3 rfl)
  have f4 := (hI.base 4 (by rw [hO]; kernel_rfl)).trans (base_at hA 4 rfl)
  have f7 := (hI.base 7 (by rw [hO]; kernel_rfl)).trans (base_at hA 7 rfl)
  have f8 := (hI.base 8 (by rw [hO]; kernel_rfl)).trans (base_at hA 8 rfl)
  have f9 := (hI.base 9 (by rw [hO]; kernel_rfl)).trans (base_at hA 9 rfl)
  have f10 := (hI.base 10 (by rw [hO]; kernel_rfl)).trans (base_at hA 10 rfl)
  have f11 := (hI.base 11 (by rw [hO]; kernel_rfl)).trans (base_at hA 11 rfl)
  have f12 := (hI.base 12 (by rw [hO]; kernel_rfl)).trans (base_at hA 12 rfl)
  have f13 := (hI.base 13 (by rw [hO]; kernel_rfl)).trans (base_at hA 13 rfl)
  have f14 := (hI.base 14 (by rw [hO]; kernel_rfl)).trans (base_at hA 14 rfl)
  have f15 := (hI.base 15 (by rw [hO]; kernel_rfl)).trans (base_at hA 15 rfl)
  have f16 := (hI.base 16 (by rw [hO]; kernel_rfl)).trans (base_at hA 16 rfl)
  have f17 := (hI.base 17 (by rw [hO]; kernel_rfl)).trans (base_at hA 17 rfl)
  have f18 := (hI.base 18 (by rw [hO]; kernel_rfl)).trans (base_at hA 18 rfl)
  have f19 := (hI.base 19 (by rw [hO]; kernel_rfl)).trans (base_at hA 19 rfl)
  have f20 := (hI.base 20 (by rw [hO]; kernel_rfl)).trans (base_at hA 20 rfl)
  have f21 := (hI.base 21 (by rw [hO]; kernel_rfl)).trans (base_at hA 21 rfl)
  have f26 := (hI.base 26 (by rw [hO]; kernel_rfl)).trans (base_at hA 26 rfl)
  have f27 := (hI.base 27 (by rw [hO]; kernel_rfl)).trans (base_at hA 27 rfl)
  have f28 := (hI.base 28 (by rw [hO]; kernel_rfl)).trans (base_at hA 28 rfl)
  have f29 := (hI.base 29 (by rw [hO]; kernel_rfl)).trans (base_at hA 29 rfl)
  have f30 := (hI.base 30 (by rw [hO]; kernel_rfl)).trans (base_at hA 30 rfl)
  have f31 := (hI.base 31 (by rw [hO]; kernel_rfl)).trans (base_at hA 31 rfl)
  have f32 := (hI.base 32 (by rw [hO]; kernel_rfl)).trans (base_at hA 32 rfl)
  have f33 := (hI.base 33 (by rw [hO]; kernel_rfl)).trans (base_at hA 33 rfl)
  have f34 := (hI.base 34 (by rw [hO]; kernel_rfl)).trans (base_at hA 34 rfl)
  have f35 := (hI.base 35 (by rw [hO]; kernel_rfl)).trans (base_at hA 35 rfl)
  have f36 := (hI.base 36 (by rw [hO]; kernel_rfl)).trans (base_at hA 36 rfl)
  have f37 := (hI.base 37 (by rw [hO]; kernel_rfl)).trans (base_at hA 37 rfl)
  have f38 := (hI.base 38 (by rw [hO]; kernel_rfl)).trans (base_at hA 38 rfl)
  have f39 := (hI.base 39 (by rw [hO]; kernel_rfl)).trans (base_at hA 39 rfl)
  have f40 := (hI.base 40 (by rw [hO]; kernel_rfl)).trans (base_at hA 40 rfl)
  have f41 := (hI.base 41 (by rw [hO]; kernel_rfl)).trans (base_at hA 41 rfl)
  have f42 := (hI.base 42 (by rw [hO]; kernel_rfl)).trans (base_at hA 42 rfl)
  have f43 := (hI.base 43 (by rw [hO]; kernel_rfl)).trans (base_at hA 43 rfl)
  have f44 := (hI.base 44 (by rw [hO]; kernel_rfl)).trans (base_at hA 44 rfl)
  have f45 := (hI.base 45 (by rw [hO]; kernel_rfl)).trans (base_at hA 45 rfl)
  have f46 := (hI.base 46 (by rw [hO]; kernel_rfl)).trans (base_at hA 46 rfl)
  have f47 := (hI.base 47 (by rw [hO]; kernel_rfl)).trans (base_at hA 47 rfl)
  have f48 := (hI.base 48 (by rw [hO]; kernel_rfl)).trans (base_at hA 48 rfl)
  have f49 := (hI.base 49 (by rw [hO]; kernel_rfl)).trans (base_at hA 49 rfl)
  have f50 := (hI.base 50 (by rw [hO]; kernel_rfl)).trans (base_at hA 50 rfl)
  have f51 := (hI.base 51 (by rw [hO]; kernel_rfl)).trans (base_at hA 51 rfl)
  have f52 := (hI.base 52 (by rw [hO]; kernel_rfl)).trans (base_at hA 52 rfl)
  have f53 := (hI.base 53 (by rw [hO]; kernel_rfl)).trans (base_at hA 53 rfl)
  have f54 := (hI.base 54 (by rw [hO]; kernel_rfl)).trans (base_at hA 54 rfl)
  have f55 := (hI.base 55 (by rw [hO]; kernel_rfl)).trans (base_at hA 55 rfl)
  have f56 := (hI.base 56 (by rw [hO]; kernel_rfl)).trans (base_at hA 56 rfl)
  have f57 := (hI.base 57 (by rw [hO]; kernel_rfl)).trans (base_at hA 57 rfl)
  have f58 := (hI.base 58 (by rw [hO]; kernel_rfl)).trans (base_at hA 58 rfl)
  have f59 := (hI.base 59 (by rw [hO]; kernel_rfl)).trans (base_at hA 59 rfl)
  have f60 := (hI.base 60 (by rw [hO]; kernel_rfl)).trans (base_at hA 60 rfl)
  have f61 := (hI.base 61 (by rw [hO]; kernel_rfl)).trans (base_at hA 61 rfl)
  have f62 := (hI.base 62 (by rw [hO]; kernel_rfl)).trans (base_at hA 62 rfl)
  have f63 := (hI.base 63 (by rw [hO]; kernel_rfl)).trans (base_at hA 63 rfl)
  have f64 := (hI.base 64 (by rw [hO]; kernel_rfl)).trans (base_at hA 64 rfl)
  have f65 := (hI.base 65 (by rw [hO]; kernel_rfl)).trans (base_at hA 65 rfl)
  obtain ⟨tl0, rfl⟩ : ∃ tl : List Value, ts = tl.toArray := ⟨ts.toList, by simp⟩
  have htl0 : tl0.length = 66 := by simpa using hts
  clear hts
  obtain ⟨y0, tl1, et, htl1⟩ := len_succ htl0
  clear htl0
  subst et
  obtain ⟨y1, tl2, et, htl2⟩ := len_succ htl1
  clear htl1
  subst et
  obtain ⟨y2, tl3, et, htl3⟩ := len_succ htl2
  clear htl2
  subst et
  obtain ⟨y3, tl4, et, htl4⟩ := len_succ htl3
  clear htl3
  subst et
  obtain ⟨y4, tl5, et, htl5⟩ := len_succ htl4
  clear htl4
  subst et
  obtain ⟨y5, tl6, et, htl6⟩ := len_succ htl5
  clear htl5
  subst et
  obtain ⟨y6, tl7, et, htl7⟩ := len_succ htl6
  clear htl6
  subst et
  obtain ⟨y7, tl8, et, htl8⟩ := len_succ htl7
  clear htl7
  subst et
  obtain ⟨y8, tl9, et, htl9⟩ := len_succ htl8
  clear htl8
  subst et
  obtain ⟨y9, tl10, et, htl10⟩ := len_succ htl9
  clear htl9
  subst et
  obtain ⟨y10, tl11, et, htl11⟩ := len_succ htl10
  clear htl10
  subst et
  obtain ⟨y11, tl12, et, htl12⟩ := len_succ htl11
  clear htl11
  subst et
  obtain ⟨y12, tl13, et, htl13⟩ := len_succ htl12
  clear htl12
  subst et
  obtain ⟨y13, tl14, et, htl14⟩ := len_succ htl13
  clear htl13
  subst et
  obtain ⟨y14, tl15, et, htl15⟩ := len_succ htl14
  clear htl14
  subst et
  obtain ⟨y15, tl16, et, htl16⟩ := len_succ htl15
  clear htl15
  subst et
  obtain ⟨y16, tl17, et, htl17⟩ := len_succ htl16
  clear htl16
  subst et
  obtain ⟨y17, tl18, et, htl18⟩ := len_succ htl17
  clear htl17
  subst et
  obtain ⟨y18, tl19, et, htl19⟩ := len_succ htl18
  clear htl18
  subst et
  obtain ⟨y19, tl20, et, htl20⟩ := len_succ htl19
  clear htl19
  subst et
  obtain ⟨y20, tl21, et, htl21⟩ := len_succ htl20
  clear htl20
  subst et
  obtain ⟨y21, tl22, et, htl22⟩ := len_succ htl21
  clear htl21
  subst et
  obtain ⟨y22, tl23, et, htl23⟩ := len_succ htl22
  clear htl22
  subst et
  obtain ⟨y23, tl24, et, htl24⟩ := len_succ htl23
  clear htl23
  subst et
  obtain ⟨y24, tl25, et, htl25⟩ := len_succ htl24
  clear htl24
  subst et
  obtain ⟨y25, tl26, et, htl26⟩ := len_succ htl25
  clear htl25
  subst et
  obtain ⟨y26, tl27, et, htl27⟩ := len_succ htl26
  clear htl26
  subst et
  obtain ⟨y27, tl28, et, htl28⟩ := len_succ htl27
  clear htl27
  subst et
  obtain ⟨y28, tl29, et, htl29⟩ := len_succ htl28
  clear htl28
  subst et
  obtain ⟨y29, tl30, et, htl30⟩ := len_succ htl29
  clear htl29
  subst et
  obtain ⟨y30, tl31, et, htl31⟩ := len_succ htl30
  clear htl30
  subst et
  obtain ⟨y31, tl32, et, htl32⟩ := len_succ htl31
  clear htl31
  subst et
  obtain ⟨y32, tl33, et, htl33⟩ := len_succ htl32
  clear htl32
  subst et
  obtain ⟨y33, tl34, et, htl34⟩ := len_succ htl33
  clear htl33
  subst et
  obtain ⟨y34, tl35, et, htl35⟩ := len_succ htl34
  clear htl34
  subst et
  obtain ⟨y35, tl36, et, htl36⟩ := len_succ htl35
  clear htl35
  subst et
  obtain ⟨y36, tl37, et, htl37⟩ := len_succ htl36
  clear htl36
  subst et
  obtain ⟨y37, tl38, et, htl38⟩ := len_succ htl37
  clear htl37
  subst et
  obtain ⟨y38, tl39, et, htl39⟩ := len_succ htl38
  clear htl38
  subst et
  obtain ⟨y39, tl40, et, htl40⟩ := len_succ htl39
  clear htl39
  subst et
  obtain ⟨y40, tl41, et, htl41⟩ := len_succ htl40
  clear htl40
  subst et
  obtain ⟨y41, tl42, et, htl42⟩ := len_succ htl41
  clear htl41
  subst et
  obtain ⟨y42, tl43, et, htl43⟩ := len_succ htl42
  clear htl42
  subst et
  obtain ⟨y43, tl44, et, htl44⟩ := len_succ htl43
  clear htl43
  subst et
  obtain ⟨y44, tl45, et, htl45⟩ := len_succ htl44
  clear htl44
  subst et
  obtain ⟨y45, tl46, et, htl46⟩ := len_succ htl45
  clear htl45
  subst et
  obtain ⟨y46, tl47, et, htl47⟩ := len_succ htl46
  clear htl46
  subst et
  obtain ⟨y47, tl48, et, htl48⟩ := len_succ htl47
  clear htl47
  subst et
  obtain ⟨y48, tl49, et, htl49⟩ := len_succ htl48
  clear htl48
  subst et
  obtain ⟨y49, tl50, et, htl50⟩ := len_succ htl49
  clear htl49
  subst et
  obtain ⟨y50, tl51, et, htl51⟩ := len_succ htl50
  clear htl50
  subst et
  obtain ⟨y51, tl52, et, htl52⟩ := len_succ htl51
  clear htl51
  subst et
  obtain ⟨y52, tl53, et, htl53⟩ := len_succ htl52
  clear htl52
  subst et
  obtain ⟨y53, tl54, et, htl54⟩ := len_succ htl53
  clear htl53
  subst et
  obtain ⟨y54, tl55, et, htl55⟩ := len_succ htl54
  clear htl54
  subst et
  obtain ⟨y55, tl56, et, htl56⟩ := len_succ htl55
  clear htl55
  subst et
  obtain ⟨y56, tl57, et, htl57⟩ := len_succ htl56
  clear htl56
  subst et
  obtain ⟨y57, tl58, et, htl58⟩ := len_succ htl57
  clear htl57
  subst et
  obtain ⟨y58, tl59, et, htl59⟩ := len_succ htl58
  clear htl58
  subst et
  obtain ⟨y59, tl60, et, htl60⟩ := len_succ htl59
  clear htl59
  subst et
  obtain ⟨y60, tl61, et, htl61⟩ := len_succ htl60
  clear htl60
  subst et
  obtain ⟨y61, tl62, et, htl62⟩ := len_succ htl61
  clear htl61
  subst et
  obtain ⟨y62, tl63, et, htl63⟩ := len_succ htl62
  clear htl62
  subst et
  obtain ⟨y63, tl64, et, htl64⟩ := len_succ htl63
  clear htl63
  subst et
  obtain ⟨y64, tl65, et, htl65⟩ := len_succ htl64
  clear htl64
  subst et
  obtain ⟨y65, tl66, et, htl66⟩ := len_succ htl65
  clear htl65
  subst et
  have et := List.eq_nil_of_length_eq_zero htl66
  clear htl66
  subst et
  have g5 : y5 = .pointer (some ⟨b5, 0, none⟩) := f5
  have g6 : y6 = .pointer (some ⟨b6, 0, none⟩) := f6
  have g0 : y0 = _ := f0
  have g1 : y1 = _ := f1
  have g2 : y2 = _ := f2
  have g3 : y3 = _ := f3
  have g4 : y4 = _ := f4
  have g7 : y7 = _ := f7
  have g8 : y8 = _ := f8
  have g9 : y9 = _ := f9
  have g10 : y10 = _ := f10
  have g11 : y11 = _ := f11
  have g12 : y12 = _ := f12
  have g13 : y13 = _ := f13
  have g14 : y14 = _ := f14
  have g15 : y15 = _ := f15
  have g16 : y16 = _ := f16
  have g17 : y17 = _ := f17
  have g18 : y18 = _ := f18
  have g19 : y19 = _ := f19
  have g20 : y20 = _ := f20
  have g21 : y21 = _ := f21
  have g26 : y26 = _ := f26
  have g27 : y27 = _ := f27
  have g28 : y28 = _ := f28
  have g29 : y29 = _ := f29
  have g30 : y30 = _ := f30
  have g31 : y31 = _ := f31
  have g32 : y32 = _ := f32
  have g33 : y33 = _ := f33
  have g34 : y34 = _ := f34
  have g35 : y35 = _ := f35
  have g36 : y36 = _ := f36
  have g37 : y37 = _ := f37
  have g38 : y38 = _ := f38
  have g39 : y39 = _ := f39
  have g40 : y40 = _ := f40
  have g41 : y41 = _ := f41
  have g42 : y42 = _ := f42
  have g43 : y43 = _ := f43
  have g44 : y44 = _ := f44
  have g45 : y45 = _ := f45
  have g46 : y46 = _ := f46
  have g47 : y47 = _ := f47
  have g48 : y48 = _ := f48
  have g49 : y49 = _ := f49
  have g50 : y50 = _ := f50
  have g51 : y51 = _ := f51
  have g52 : y52 = _ := f52
  have g53 : y53 = _ := f53
  have g54 : y54 = _ := f54
  have g55 : y55 = _ := f55
  have g56 : y56 = _ := f56
  have g57 : y57 = _ := f57
  have g58 : y58 = _ := f58
  have g59 : y59 = _ := f59
  have g60 : y60 = _ := f60
  have g61 : y61 = _ := f61
  have g62 : y62 = _ := f62
  have g63 : y63 = _ := f63
  have g64 : y64 = _ := f64
  have g65 : y65 = _ := f65
  clear f5 f6 f0 f1 f2 f3 f4 f7 f8 f9 f10 f11 f12 f13 f14 f15 f16 f17 f18 f19 f20 f21 f26 f27 f28 f29 f30 f31 f32 f33 f34 f35 f36 f37 f38 f39 f40 f41 f42 f43 f44 f45 f46 f47 f48 f49 f50 f51 f52 f53 f54 f55 f56 f57 f58 f59 f60 f61 f62 f63 f64 f65
  subst hd g5 g6 g0 g1 g2 g3 g4 g7 g8 g9 g10 g11 g12 g13 g14 g15 g16 g17 g18 g19 g20 g21 g26 g27 g28 g29 g30 g31 g32 g33 g34 g35 g36 g37 g38 g39 g40 g41 g42 g43 g44 g45 g46 g47 g48 g49 g50 g51 g52 g53 g54 g55 g56 g57 g58 g59 g60 g61 g62 g63 g64 g65
  have H := H6.out.up hS
  have lo2 : b2 < w6.heap.size := H6.out.ba.lt
  have lo3 : b3 < w6.heap.size := H6.out.bb.lt
  have WB : W.heap.size ≤ w6.heap.size := H6.out.q.size
  have LO : ∀ g, w6.heap.size ≤ g → Off g [aI, aO, aW, eI, eO, eW] := by
    intro g hg a ha x hx
    simp only [List.mem_cons, List.not_mem_nil, or_false] at ha
    rcases ha with rfl | rfl | rfl | rfl | rfl | rfl
    · have := (H6.out.oa.i.blk_ x hx).2; omega
    · have := (H6.out.oa.o.blk_ x hx).2; omega
    · have := (H6.out.oa.w.blk_ x hx).2; omega
    · have := (H6.out.ob.i.blk_ x hx).2; omega
    · have := (H6.out.ob.o.blk_ x hx).2; omega
    · have := (H6.out.ob.w.blk_ x hx).2; omega
  have XJ : ∀ x, aJ = some x ∨ aU = some x ∨ aV = some x → w6.heap.size ≤ x.block ∧ x.block ≠ b5 ∧ x.block ≠ b6 := fun x hx => ⟨(oJ.blks_ (tx_blks1 hx)).1, fun e => d14 _ (tx_blks1 hx) (by simp [blks, e]), fun e => d15 _ (tx_blks1 hx) (by simp [blks, e])⟩
  have XE : ∀ x, eJ = some x ∨ eU = some x ∨ eV = some x → w6.heap.size ≤ x.block ∧ x.block ≠ b5 ∧ x.block ≠ b6 := fun x hx => ⟨(oE.blks_ (tx_blks1 hx)).1, fun e => d34 _ (tx_blks1 hx) (by simp [blks, e]), fun e => d35 _ (tx_blks1 hx) (by simp [blks, e])⟩
  have XX : ∀ x y, aJ = some x ∨ aU = some x ∨ aV = some x → eJ = some y ∨ eU = some y ∨ eV = some y → x.block ≠ y.block := fun x y hx hy e => d13 _ (tx_blks1 hx) (by rw [e]; exact tx_blks1 hy)
  have FX : Hid (∀ x, aJ = some x → W.heap.size ≤ x.block ∧ b2 ≠ x.block ∧ b3 ≠ x.block ∧ b5 ≠ x.block ∧ b6 ≠ x.block ∧ Off x.block [aI, aO, aW, eI, eO, eW, aU, eJ, eU]) := fun x hx => by
    obtain ⟨g1, g2, g3⟩ := XJ x (.inl hx)
    refine ⟨by omega, by omega, by omega, Ne.symm g2, Ne.symm g3, ?_⟩
    intro a ha y hy
    simp only [List.mem_cons, List.not_mem_nil, or_false] at ha
    rcases ha with rfl | rfl | rfl | rfl | rfl | rfl | rfl | rfl | rfl
    iterate 6 exact LO x.block g1 _ (by simp) y hy
    · exact Ne.symm (pJU x y hx hy)
    · exact Ne.symm (XX x y (.inl hx) (.inl hy))
    · exact Ne.symm (XX x y (.inl hx) (.inr (.inl hy)))
  have FY : Hid (∀ x, eJ = some x → W.heap.size ≤ x.block ∧ b2 ≠ x.block ∧ b3 ≠ x.block ∧ b5 ≠ x.block ∧ b6 ≠ x.block ∧ Off x.block [aI, aO, aW, eI, eO, eW, eU, aJ, aU]) := fun x hx => by
    obtain ⟨g1, g2, g3⟩ := XE x (.inl hx)
    refine ⟨by omega, by omega, by omega, Ne.symm g2, Ne.symm g3, ?_⟩
    intro a ha y hy
    simp only [List.mem_cons, List.not_mem_nil, or_false] at ha
    rcases ha with rfl | rfl | rfl | rfl | rfl | rfl | rfl | rfl | rfl
    iterate 6 exact LO x.block g1 _ (by simp) y hy
    · exact Ne.symm (pEU x y hx hy)
    · exact XX y x (.inl hy) (.inl hx)
    · exact XX y x (.inr (.inl hy)) (.inl hx)
  have oJ8 : OT w8 w6.heap.size A aJ cJ aU cU aV cV := ⟨(oJ.i.ch c7 fun x e => (XJ x (.inl e)).2.1).ch c8 fun x e => (XJ x (.inl e)).2.2, (oJ.o.ch c7 fun x e => (XJ x (.inr (.inl e))).2.1).ch c8 fun x e => (XJ x (.inr (.inl e))).2.2, (oJ.w.ch c7 fun x e => (XJ x (.inr (.inr e))).2.1).ch c8 fun x e => (XJ x (.inr (.inr e))).2.2⟩
  have oE8 : OT w8 w6.heap.size B eJ dJ eU dU eV dV := ⟨(oE.i.ch c7 fun x e => (XE x (.inl e)).2.1).ch c8 fun x e => (XE x (.inl e)).2.2, (oE.o.ch c7 fun x e => (XE x (.inr (.inl e))).2.1).ch c8 fun x e => (XE x (.inr (.inl e))).2.2, (oE.w.ch c7 fun x e => (XE x (.inr (.inr e))).2.1).ch c8 fun x e => (XE x (.inr (.inr e))).2.2⟩
  have B58 : Box w8 b5 [.slice aJ A.nI cJ, .slice aU A.nO cU, .int .u64 A.p.amount, .string A.p.sig, .string A.p.token, .slice aV A.p.n cV] := B57.ch c8 n56
  have TA8 : TB w8 b2 A aI cI aO cO aW cW := (TB.ch (⟨H.ba, H.oa.tm⟩ : TB _ _ _ _ _ _ _ _ _) c7 (by omega) (off_mem (LO b5 k5) (by simp))).ch c8 (by omega) (off_mem (LO b6 k6) (by simp))
  have TB8 : TB w8 b3 B eI dI eO dO eW dW := (TB.ch (⟨H.bb, H.ob.tm⟩ : TB _ _ _ _ _ _ _ _ _) c7 (by omega) (off_mem (LO b5 k5) (by simp))).ch c8 (by omega) (off_mem (LO b6 k6) (by simp))
  have Q8 : Q W w8 := c8.q (c7.q H.q (by omega)) (by omega)
  have S8 : Hid (TB w8 b2 A aI cI aO cO aW cW ∧ TB w8 b3 B eI dI eO dO eW dW ∧ Box w8 b5 [.slice aJ A.nI cJ, .slice aU A.nO cU, .int .u64 A.p.amount, .string A.p.sig, .string A.p.token, .slice aV A.p.n cV] ∧ Box w8 b6 [.slice eJ B.nI dJ, .slice eU B.nO dU, .int .u64 B.p.amount, .string B.p.sig, .string B.p.token, .slice eV B.p.n dV] ∧ OT w8 w6.heap.size A aJ cJ aU cU aV cV ∧ OT w8 w6.heap.size B eJ dJ eU dU eV dV ∧ Q W w8) := ⟨TA8, TB8, B58, B68, oJ8, oE8, Q8⟩
  have K56 : Hid (w6.heap.size ≤ b5 ∧ w6.heap.size ≤ b6 ∧ b5 ≠ b6 ∧ W.heap.size ≤ w6.heap.size ∧ b2 < w6.heap.size ∧ b3 < w6.heap.size) := ⟨k5, k6, n56, WB, lo2, lo3⟩
  have XJ := Lib.hid XJ
  have XE := Lib.hid XE
  have LO := Lib.hid LO
  clear hI hall hun hD hV hBM hs hz hA hO hQQ hS hS0 H H6 B57 B58 B68 c7 c8 TA8 TB8 Q8 oJ8 oE8 oJ oE B5 B6 e23 e25 e5 e6 d13 d14 d15 d34 d35 d45 pJU pJV pEU pEV XX k5 k6 n56 lo2 lo3 WB v_0 s_0 v_1 s_1 v_2 s_2 v_3 s_3 v_4 s_4 v_5 s_5
  clear i_0 i_1 i_2 i_3 i_4 i_5 i_6 i_7 b_2 fr_2 b_3 fr_3
  as_aux_lemma =>
  go_wp2_with (with_reducible (show wpList _ _ _ (⟨_, Op.store 27 _ _, _, _, _, _⟩ :: _) _ _); refine halt ?_)
  refine Lib.hid (st_mid rfl 27 _ _ rfl b5 2 [.slice aJ A.nI cJ, .slice aU A.nO cU, .int .u64 A.p.amount, .string A.p.sig, .string A.p.token, .slice aV A.p.n cV] [.int .u64 0, .string ⟨#[]⟩, .string ⟨#[]⟩, .slice none 0 0] rfl rfl S8.out.2.2.1 (by simp) (by kernel_rfl) (one4 rfl rfl rfl rfl) ?_)
  intro w9 B59 c9
  go_wp2_with (with_reducible (show wpList _ _ _ (⟨_, Op.store 27 _ _, _, _, _, _⟩ :: _) _ _); refine halt ?_)
  refine Lib.hid (st_mid rfl 27 _ _ rfl b6 2 [.slice eJ B.nI dJ, .slice eU B.nO dU, .int .u64 B.p.amount, .string B.p.sig, .string B.p.token, .slice eV B.p.n dV] [.int .u64 0, .string ⟨#[]⟩, .string ⟨#[]⟩, .slice none 0 0] rfl rfl (S8.out.2.2.2.1.ch c9 (Ne.symm K56.out.2.2.1)) (by simp) (by kernel_rfl) (one4 rfl rfl rfl rfl) ?_)
  intro w10 B60 c10
  have S10 : Hid (TlS W b2 b3 b5 b6 A B aI cI aO cO aW cW eI dI eO dO eW dW aJ cJ aU cU eJ dJ eU dU 0 0 w10) := by
    obtain ⟨t2, t3, _, _, oJ, oE, q8⟩ := S8.out
    obtain ⟨k5, k6, n56, kW, k2, k3⟩ := K56.out
    have wx : ∀ (b : Nat) (T : TX) (aJ aU aV : Option Addr) (cJ cU cV : Nat), OT w10 w6.heap.size T aJ cJ aU cU aV cV → Box w10 b [.slice aJ T.nI cJ, .slice aU T.nO cU, .int .u64 PF.zero.amount, .string PF.zero.sig, .string PF.zero.token, .slice none PF.zero.n 0] → WX b T ⟨#[]⟩ PF.zero aJ cJ aU cU none 0 0 w10 := by
      intro b T aJ aU aV cJ cU cV ho hb
      refine ⟨hb, (ho.i.ins in_len (P := fun _ => True) fun _ _ => trivial).le, ?_, ho.o.sl out_len, SL.nil rfl⟩
      by_cases e0 : T.nI = 0
      · exact .inl e0
      obtain ⟨g, cs, e1, h1, h2, h3, h4⟩ := ho.i.box in_len (by omega)
      exact .inr ⟨g, cs, e1, h1, h3, fun i hi j v hv => h4 i hi j v (by rw [← hv]; unfold mixI; rw [if_neg (by omega)])⟩
    have oJ' : OT w10 w6.heap.size A aJ cJ aU cU aV cV := ⟨(oJ.i.ch c9 fun x e => (XJ.out x (.inl e)).2.1).ch c10 fun x e => (XJ.out x (.inl e)).2.2, (oJ.o.ch c9 fun x e => (XJ.out x (.inr (.inl e))).2.1).ch c10 fun x e => (XJ.out x (.inr (.inl e))).2.2, (oJ.w.ch c9 fun x e => (XJ.out x (.inr (.inr e))).2.1).ch c10 fun x e => (XJ.out x (.inr (.inr e))).2.2⟩
    have oE' : OT w10 w6.heap.size B eJ dJ eU dU eV dV := ⟨(oE.i.ch c9 fun x e => (XE.out x (.inl e)).2.1).ch c10 fun x e => (XE.out x (.inl e)).2.2, (oE.o.ch c9 fun x e => (XE.out x (.inr (.inl e))).2.1).ch c10 fun x e => (XE.out x (.inr (.inl e))).2.2, (oE.w.ch c9 fun x e => (XE.out x (.inr (.inr e))).2.1).ch c10 fun x e => (XE.out x (.inr (.inr e))).2.2⟩
    exact ⟨(t2.ch c9 (by omega) (off_mem (LO.out b5 k5) (by simp))).ch c10 (by omega) (off_mem (LO.out b6 k6) (by simp)), (t3.ch c9 (by omega) (off_mem (LO.out b5 k5) (by simp))).ch c10 (by omega) (off_mem (LO.out b6 k6) (by simp)), wx b5 A aJ aU aV cJ cU cV oJ' (B59.ch c10 n56), wx b6 B eJ eU eV dJ dU dV oE' B60, c10.q (c9.q q8 (by omega)) (by omega)⟩
  clear S8 K56 XJ XE LO B59 B60 c9 c10
  as_aux_lemma =>
  have nA : A.nI ≤ 100 := OKA.out.nI
  have nB : B.nI ≤ 100 := OKB.out.nI
  go_wp2_with fail
  go_loopw [7] (fun i wr => ∃ k : Nat, k ≤ A.nI ∧ i = .int .i64 k ∧ Hid (TlS W b2 b3 b5 b6 A B aI cI aO cO aW cW eI dI eO dO eW dW aJ cJ aU cU eJ dJ eU dU k 0 wr)) (fun i _ => A.nI - (intOf i).toNat)
  case atStart => exact ⟨0, by omega, rfl, S10⟩
  case round =>
  obtain ⟨k, hk, rfl, H⟩ := hrel
  clear S10
  have j0 : (0 : Int) ≤ (k : Int) := by omega
  by_cases hlt : k < A.nI
  · have j1 : (k : Int) < (A.nI : Int) := by omega
    obtain ⟨g, cs, hab, GB, G1, G2⟩ := H.out.x.i.resolve_left (by omega)
    have m0 := H.out.x.u.at_ 0 _ rfl
    rw [hab] at m0
    have HAB := Lib.hid hab
    clear hab
    have OLD : cs[k * 4 + 3]? = some (.string (A.ins k).sig) := G2 k hlt 3 _ (by unfold mixI; rw [if_neg (by omega)]; rfl)
    have G2 := Lib.hid G2
    have GB := Lib.hid GB
    have OLD := Lib.hid OLD
    go_wp2_with (with_reducible (show wpList _ _ _ (⟨_, Op.store 9 _ _, _, _, _, _⟩ :: _) _ _); refine halt ?_)
    refine Lib.hid (wpl_st1 rfl 9 _ _ rfl (b := g) (j := k * 4 + 3) (by first | rfl | simp) rfl GB.out OLD.out (fun w hc hf => by simp [go_sem, hc, hf]) ?_)
    intro w5 B5 c5
    have H5 : Hid (TlS W b2 b3 b5 b6 A B aI cI aO cO aW cW eI dI eO dO eW dW aJ cJ aU cU eJ dJ eU dU (k + 1) 0 w5) := H.out.stepx hlt HAB.out G1 G2.out (FX.out _ HAB.out) B5 c5
    clear B5 c5 H GB G1 G2 OLD m0 HAB
    go_wp2_with fail
    go_roundw
    case rel => exact ⟨k + 1, by omega, by go_num, H5⟩
    case measure => simp [intOf]; omega
  obtain rfl : k = A.nI := by omega
  have j1 : ¬ (A.nI : Int) < (A.nI : Int) := by omega
  have t3 : decide (A.nI < A.nI) = false := by simp
  have m0 := H.out.x.u.at_ 0 _ rfl
  go_wp2_with fail
  clear m0 j1 t3 j0 hlt
  as_aux_lemma =>
  go_loopw [8] (fun i wr => ∃ k : Nat, k ≤ B.nI ∧ i = .int .i64 k ∧ Hid (TlS W b2 b3 b5 b6 A B aI cI aO cO aW cW eI dI eO dO eW dW aJ cJ aU cU eJ dJ eU dU A.nI k wr)) (fun i _ => B.nI - (intOf i).toNat)
  case atStart => exact ⟨0, by omega, rfl, H⟩
  case round =>
  clear H
  obtain ⟨k, hk, rfl, H⟩ := hrel
  have j0 : (0 : Int) ≤ (k : Int) := by omega
  by_cases hlt : k < B.nI
  · have j1 : (k : Int) < (B.nI : Int) := by omega
    obtain ⟨g, cs, hab, GB, G1, G2⟩ := H.out.y.i.resolve_left (by omega)
    have m0 := H.out.y.u.at_ 0 _ rfl
    rw [hab] at m0
    have HAB := Lib.hid hab
    clear hab
    have OLD : cs[k * 4 + 3]? = some (.string (B.ins k).sig) := G2 k hlt 3 _ (by unfold mixI; rw [if_neg (by omega)]; rfl)
    have G2 := Lib.hid G2
    have GB := Lib.hid GB
    have OLD := Lib.hid OLD
    go_wp2_with (with_reducible (show wpList _ _ _ (⟨_, Op.store 9 _ _, _, _, _, _⟩ :: _) _ _); refine halt ?_)
    refine Lib.hid (wpl_st1 rfl 9 _ _ rfl (b := g) (j := k * 4 + 3) (by first | rfl | simp) rfl GB.out OLD.out (fun w hc hf => by simp [go_sem, hc, hf]) ?_)
    intro w5 B5 c5
    have H5 : Hid (TlS W b2 b3 b5 b6 A B aI cI aO cO aW cW eI dI eO dO eW dW aJ cJ aU cU eJ dJ eU dU A.nI (k + 1) w5) := H.out.stepy hlt HAB.out G1 G2.out (FY.out _ HAB.out) B5 c5
    clear B5 c5 H GB G1 G2 OLD m0 HAB
    go_wp2_with fail
    go_roundw
    case rel => exact ⟨k + 1, by omega, by go_num, H5⟩
    case measure => simp [intOf]; omega
  obtain rfl : k = B.nI := by omega
  have j1 : ¬ (B.nI : Int) < (B.nI : Int) := by omega
  have t3 : decide (B.nI < B.nI) = false := by simp
  have m0 := H.out.y.u.at_ 0 _ rfl
  go_wp2_with fail
  clear m0 j1 t3 j0 hlt FX FY
  have UX := Lib.hid H.out.x.done
  have UY := Lib.hid H.out.y.done
  have KX : Hid ((setS A ⟨#[]⟩ PF.zero).ok) := setS_ok OKA.out (by decide) PFz_ok
  have KY : Hid ((setS B ⟨#[]⟩ PF.zero).ok) := setS_ok OKB.out (by decide) PFz_ok
  obtain ⟨ca, hca⟩ : ∃ z, coreS A = z := ⟨_, rfl⟩
  obtain ⟨cb, hcb⟩ : ∃ z, coreS B = z := ⟨_, rfl⟩
  obtain ⟨e, he⟩ : ∃ z, (ca.toList == cb.toList) = z := ⟨_, rfl⟩
  have EE : e = true ↔ SamT (setS A ⟨#[]⟩ PF.zero) (setS B ⟨#[]⟩ PF.zero) := by rw [toList_eq_iff he, ← hca, ← hcb]; exact core_tells ZA.out ZB.out OKA.out OKB.out
  have CA : Hid (∀ w, Q wr w → Calls Tryd.prog 15 #[.agg #[.slice aI A.nI cI, .slice aO A.nO cO, .int .u64 A.p.amount, .string A.p.sig, .string A.p.token, .slice aW A.p.n cW]] w fun e w' => e = .returned (.string ca) ∧ Q w w') := fun w q => by
    rw [← hca]
    exact (core_x A aI aO aW cI cO cW w (H.out.a.tm.q q) OKA.out).mono fun e w' h => h.val ZA.out
  have CB : Hid (∀ w, Q wr w → Calls Tryd.prog 15 #[.agg #[.slice eI B.nI dI, .slice eO B.nO dO, .int .u64 B.p.amount, .string B.p.sig, .string B.p.token, .slice eW B.p.n dW]] w fun e w' => e = .returned (.string cb) ∧ Q w w') := fun w q => by
    rw [← hcb]
    exact (core_x B eI eO eW dI dO dW w (H.out.b.tm.q q) OKB.out).mono fun e w' h => h.val ZB.out
  have SM : Hid (∀ w, Q wr w → Calls Tryd.prog 11 #[.agg #[.slice aJ A.nI cJ, .slice aU A.nO cU, .int .u64 0, .string ⟨#[]⟩, .string ⟨#[]⟩, .slice none 0 0], .agg #[.slice eJ B.nI dJ, .slice eU B.nO dU, .int .u64 0, .string ⟨#[]⟩, .string ⟨#[]⟩, .slice none 0 0]] w fun r w' => r = .returned (.bool e) ∧ Q w w') := fun w q => by
    refine (same_x (setS A ⟨#[]⟩ PF.zero) (setS B ⟨#[]⟩ PF.zero) aJ aU none eJ eU none cJ cU 0 dJ dU 0 w (UX.out.tm.q q) (UY.out.tm.q q) KX.out KY.out).mono ?_
    rintro r w' ⟨b, rfl, hb, hq⟩
    have : b = e := by cases b <;> cases e <;> simp_all
    rw [this]
    exact ⟨rfl, hq⟩
  have FX : Hid (∀ w, Q wr w → Calls Tryd.prog 12 #[] w fun e w' => e = .returned (.bool true) ∧ Q w w') := fun w q => fixed_q (hG.out.q (H.out.q.trans q))
  have HE := Lib.hid he
  clear hca hcb EE he ZA ZB nA nB
  as_aux_lemma =>
  have hS0 : Q wr wr.drew := (Q.refl wr).drew
  refine region_gen3 ?_
  intro OPS QQ A0 hO hQQ hA
  have hz : A0.tmps.size = 66 := by rw [hA]; rfl
  have hs : sound OPS A0.tmps.size = true := by rw [hz, hO]; kernel_rfl
  have b_2 : A0.eval (.tmp 2) = .pointer (some ⟨b2, 0, none⟩) := by rw [hA]; rfl
  have fr_2 : free OPS 2 = true := by rw [hO]; kernel_rfl
  have b_3 : A0.eval (.tmp 3) = .pointer (some ⟨b3, 0, none⟩) := by rw [hA]; rfl
  have fr_3 : free OPS 3 = true := by rw [hO]; kernel_rfl
  have b_5 : A0.eval (.tmp 5) = .pointer (some ⟨b5, 0, none⟩) := by rw [hA]; rfl
  have fr_5 : free OPS 5 = true := by rw [hO]; kernel_rfl
  have b_6 : A0.eval (.tmp 6) = .pointer (some ⟨b6, 0, none⟩) := by rw [hA]; rfl
  have fr_6 : free OPS 6 = true := by rw [hO]; kernel_rfl
  obtain ⟨VV, hVV⟩ : ∃ V : Nat → Value → World → Prop, V = fun i => ([fun v _ => v = .agg #[.slice aI A.nI cI, .slice aO A.nO cO, .int .u64 A.p.amount, .string A.p.sig, .string A.p.token, .slice aW A.p.n cW], fun v _ => v = .string ca, fun v _ => v = .agg #[.slice eI B.nI dI, .slice eO B.nO dO, .int .u64 B.p.amount, .string B.p.sig, .string B.p.token, .slice eW B.p.n dW], fun v _ => v = .string cb, fun v _ => v = .bool e, fun v _ => v = .agg #[.slice aJ A.nI cJ, .slice aU A.nO cU, .int .u64 0, .string ⟨#[]⟩, .string ⟨#[]⟩, .slice none 0 0], fun v _ => v = .agg #[.slice eJ B.nI dJ, .slice eU B.nO dU, .int .u64 0, .string ⟨#[]⟩, .string ⟨#[]⟩, .slice none 0 0], fun v _ => v = .bool e, fun v _ => v = .bool true, fun v _ => v = .bool true, fun v _ => v = .bool true, fun v _ => v = .bool true, fun v _ => v = .bool true] : List (Value → World → Prop)).getD i (fun _ _ => True) := ⟨_, rfl⟩
  have v_0 : VV 0 = fun v _ => v = .agg #[.slice aI A.nI cI, .slice aO A.nO cO, .int .u64 A.p.amount, .string A.p.sig, .string A.p.token, .slice aW A.p.n cW] := vat hVV 0
  have v_1 : VV 1 = fun v _ => v = .string ca := vat hVV 1
  have v_2 : VV 2 = fun v _ => v = .agg #[.slice eI B.nI dI, .slice eO B.nO dO, .int .u64 B.p.amount, .string B.p.sig, .string B.p.token, .slice eW B.p.n dW] := vat hVV 2
  have v_3 : VV 3 = fun v _ => v = .string cb := vat hVV 3
  have v_4 : VV 4 = fun v _ => v = .bool e := vat hVV 4
  have v_5 : VV 5 = fun v _ => v = .agg #[.slice aJ A.nI cJ, .slice aU A.nO cU, .int .u64 0, .string ⟨#[]⟩, .string ⟨#[]⟩, .slice none 0 0] := vat hVV 5
  have v_6 : VV 6 = fun v _ => v = .agg #[.slice eJ B.nI dJ, .slice eU B.nO dU, .int .u64 0, .string ⟨#[]⟩, .string ⟨#[]⟩, .slice none 0 0] := vat hVV 6
  have v_7 : VV 7 = fun v _ => v = .bool e := vat hVV 7
  have v_8 : VV 8 = fun v _ => v = .bool true := vat hVV 8
  have v_9 : VV 9 = fun v _ => v = .bool true := vat hVV 9
  have v_10 : VV 10 = fun v _ => v = .bool true := vat hVV 10
  have v_11 : VV 11 = fun v _ => v = .bool true := vat hVV 11
  have v_12 : VV 12 = fun v _ => v = .bool true := vat hVV 12
  have hV := stable_of (T := Q) hVV ((sl_cons (fun _ _ _ h _ => h) (sl_cons (fun _ _ _ h _ => h) (sl_cons (fun _ _ _ h _ => h) (sl_cons (fun _ _ _ h _ => h) (sl_cons (fun _ _ _ h _ => h) (sl_cons (fun _ _ _ h _ => h) (sl_cons (fun _ _ _ h _ => h) (sl_cons (fun _ _ _ h _ => h) (sl_cons (fun _ _ _ h _ => h) (sl_cons (fun _ _ _ h _ => h) (sl_cons (fun _ _ _ h _ => h) (sl_cons (fun _ _ _ h _ => h) (sl_cons (fun _ _ _ h _ => h) trivial))))))))))))))
  clear hVV
  have i_0 := pget_at hO 0 rfl
  have i_1 := pget_at hO 1 rfl
  have i_2 := pget_at hO 2 rfl
  have i_3 := pget_at hO 3 rfl
  have i_4 := pget_at hO 4 rfl
  have i_5 := pget_at hO 5 rfl
  have i_6 := pget_at hO 6 rfl
  have i_7 := pget_at hO 7 rfl
  have i_8 := pget_at hO 8 rfl
  have i_9 := pget_at hO 9 rfl
  have i_10 := pget_at hO 10 rfl
  have i_11 := pget_at hO 11 rfl
  have i_12 := pget_at hO 12 rfl
  have s_0 := Step.pure (P := Tryd.prog) (V := VV) (T := Q) (S := (Q wr)) (a0 := A0) (Qx := QQ) i_0 (.agg #[.slice aI A.nI cI, .slice aO A.nO cO, .int .u64 A.p.amount, .string A.p.sig, .string A.p.token, .slice aW A.p.n cW]) (Q.refl ·) (fun l a w hI hl => ⟨wanted_none rfl, ex_loado 29 rfl b2 0 [.slice aI A.nI cI, .slice aO A.nO cO, .int .u64 A.p.amount, .string A.p.sig, .string A.p.token, .slice aW A.p.n cW] _ ((hI.base 2 fr_2).trans b_2) ((H.out.a.box.q hI.st).rangeo 0 (r := []) rfl) Tryd.underlying29 rfl (by kernel_rfl), at_mk v_0 rfl⟩)
  have s_1 := Step.call (P := Tryd.prog) (V := VV) (T := Q) (S := (Q wr)) (a0 := A0) (Qx := QQ) (R := fun _ _ _ => True) i_1 (fun l a w hI hl => by
    refine ⟨wanted_none rfl, 15, #[.agg #[.slice aI A.nI cI, .slice aO A.nO cO, .int .u64 A.p.amount, .string A.p.sig, .string A.p.token, .slice aW A.p.n cW]], ?_, ?_⟩
    · exact ex_call rfl (by simp only [List.map_toArray, List.map_cons, List.map_nil, ev_const, (show a.eval (.tmp 54) = _ from (at_eq v_0 (hI.at_ 0 54 _ i_0 rfl (hl_at hl 0 rfl rfl))))]) Tryd.func15 (by kernel_rfl) (by kernel_rfl)
    · exact (CA.out w hI.st).mono fun e w' hc => by
        obtain ⟨rfl, hq⟩ := hc
        exact ⟨_, rfl, hq, hI.st.trans hq, at_mk v_1 rfl⟩)
  have s_2 := Step.pure (P := Tryd.prog) (V := VV) (T := Q) (S := (Q wr)) (a0 := A0) (Qx := QQ) i_2 (.agg #[.slice eI B.nI dI, .slice eO B.nO dO, .int .u64 B.p.amount, .string B.p.sig, .string B.p.token, .slice eW B.p.n dW]) (Q.refl ·) (fun l a w hI hl => ⟨wanted_none rfl, ex_loado 29 rfl b3 0 [.slice eI B.nI dI, .slice eO B.nO dO, .int .u64 B.p.amount, .string B.p.sig, .string B.p.token, .slice eW B.p.n dW] _ ((hI.base 3 fr_3).trans b_3) ((H.out.b.box.q hI.st).rangeo 0 (r := []) rfl) Tryd.underlying29 rfl (by kernel_rfl), at_mk v_2 rfl⟩)
  have s_3 := Step.call (P := Tryd.prog) (V := VV) (T := Q) (S := (Q wr)) (a0 := A0) (Qx := QQ) (R := fun _ _ _ => True) i_3 (fun l a w hI hl => by
    refine ⟨wanted_none rfl, 15, #[.agg #[.slice eI B.nI dI, .slice eO B.nO dO, .int .u64 B.p.amount, .string B.p.sig, .string B.p.token, .slice eW B.p.n dW]], ?_, ?_⟩
    · exact ex_call rfl (by simp only [List.map_toArray, List.map_cons, List.map_nil, ev_const, (show a.eval (.tmp 56) = _ from (at_eq v_2 (hI.at_ 2 56 _ i_2 rfl (hl_at hl 0 rfl rfl))))]) Tryd.func15 (by kernel_rfl) (by kernel_rfl)
    · exact (CB.out w hI.st).mono fun e w' hc => by
        obtain ⟨rfl, hq⟩ := hc
        exact ⟨_, rfl, hq, hI.st.trans hq, at_mk v_3 rfl⟩)
  have s_4 := Step.pure (P := Tryd.prog) (V := VV) (T := Q) (S := (Q wr)) (a0 := A0) (Qx := QQ) i_4 (.bool e) (Q.refl ·) (fun l a w hI hl => ⟨wanted_none rfl, ex_bin rfl (at_eq v_1 (hI.at_ 1 55 _ i_1 rfl (hl_at hl 0 rfl rfl))) (at_eq v_3 (hI.at_ 3 57 _ i_3 rfl (hl_at hl 1 rfl rfl))) (eqs_dec _ _ _ _ _ _ HE.out), at_mk v_4 rfl⟩)
  have s_5 := Step.pure (P := Tryd.prog) (V := VV) (T := Q) (S := (Q wr)) (a0 := A0) (Qx := QQ) i_5 (.agg #[.slice aJ A.nI cJ, .slice aU A.nO cU, .int .u64 0, .string ⟨#[]⟩, .string ⟨#[]⟩, .slice none 0 0]) (Q.refl ·) (fun l a w hI hl => ⟨wanted_none rfl, ex_loado 29 rfl b5 0 [.slice aJ A.nI cJ, .slice aU A.nO cU, .int .u64 0, .string ⟨#[]⟩, .string ⟨#[]⟩, .slice none 0 0] _ ((hI.base 5 fr_5).trans b_5) ((UX.out.box.q hI.st).rangeo 0 (r := []) rfl) Tryd.underlying29 rfl (by kernel_rfl), at_mk v_5 rfl⟩)
  have s_6 := Step.pure (P := Tryd.prog) (V := VV) (T := Q) (S := (Q wr)) (a0 := A0) (Qx := QQ) i_6 (.agg #[.slice eJ B.nI dJ, .slice eU B.nO dU, .int .u64 0, .string ⟨#[]⟩, .string ⟨#[]⟩, .slice none 0 0]) (Q.refl ·) (fun l a w hI hl => ⟨wanted_none rfl, ex_loado 29 rfl b6 0 [.slice eJ B.nI dJ, .slice eU B.nO dU, .int .u64 0, .string ⟨#[]⟩, .string ⟨#[]⟩, .slice none 0 0] _ ((hI.base 6 fr_6).trans b_6) ((UY.out.box.q hI.st).rangeo 0 (r := []) rfl) Tryd.underlying29 rfl (by kernel_rfl), at_mk v_6 rfl⟩)
  have s_7 := Step.call (P := Tryd.prog) (V := VV) (T := Q) (S := (Q wr)) (a0 := A0) (Qx := QQ) (R := fun _ _ _ => True) i_7 (fun l a w hI hl => by
    refine ⟨wanted_none rfl, 11, #[.agg #[.slice aJ A.nI cJ, .slice aU A.nO cU, .int .u64 0, .string ⟨#[]⟩, .string ⟨#[]⟩, .slice none 0 0], .agg #[.slice eJ B.nI dJ, .slice eU B.nO dU, .int .u64 0, .string ⟨#[]⟩, .string ⟨#[]⟩, .slice none 0 0]], ?_, ?_⟩
    · exact ex_call rfl (by simp only [List.map_toArray, List.map_cons, List.map_nil, ev_const, (show a.eval (.tmp 59) = _ from (at_eq v_5 (hI.at_ 5 59 _ i_5 rfl (hl_at hl 0 rfl rfl)))), (show a.eval (.tmp 60) = _ from (at_eq v_6 (hI.at_ 6 60 _ i_6 rfl (hl_at hl 1 rfl rfl))))]) Tryd.func11 (by kernel_rfl) (by kernel_rfl)
    · exact (SM.out w hI.st).mono fun e w' hc => by
        obtain ⟨rfl, hq⟩ := hc
        exact ⟨_, rfl, hq, hI.st.trans hq, at_mk v_7 rfl⟩)
  have s_8 := Step.pure (P := Tryd.prog) (V := VV) (T := Q) (S := (Q wr)) (a0 := A0) (Qx := QQ) i_8 (.bool true) (Q.refl ·) (fun l a w hI hl => ⟨wanted_none rfl, ex_bin rfl (at_eq v_4 (hI.at_ 4 58 _ i_4 rfl (hl_at hl 0 rfl rfl))) (at_eq v_7 (hI.at_ 7 61 _ i_7 rfl (hl_at hl 1 rfl rfl))) (eqb_same _ _ _ _), at_mk v_8 rfl⟩)
  have s_9 := Step.pure (P := Tryd.prog) (V := VV) (T := Q) (S := (Q wr)) (a0 := A0) (Qx := QQ) i_9 (.bool true) (Q.refl ·) (fun l a w hI hl => ⟨wanted_none rfl, ex_move rfl (at_eq v_8 (hI.at_ 8 62 _ i_8 rfl (hl_at hl 0 rfl rfl))), at_mk v_9 rfl⟩)
  have s_10 := Step.call (P := Tryd.prog) (V := VV) (T := Q) (S := (Q wr)) (a0 := A0) (Qx := QQ) (R := fun _ _ _ => True) i_10 (fun l a w hI hl => by
    refine ⟨wanted_of rfl i_9 rfl (lt_of hI hz rfl) (at_eq v_9 (hI.at_ 9 63 _ i_9 rfl (hl_at hl 0 rfl rfl))), 12, #[], ?_, ?_⟩
    · exact ex_call rfl (by simp only [List.map_toArray, List.map_cons, List.map_nil, ev_const]) Tryd.func12 (by kernel_rfl) (by kernel_rfl)
    · exact (FX.out w hI.st).mono fun e w' hc => by
        obtain ⟨rfl, hq⟩ := hc
        exact ⟨_, rfl, hq, hI.st.trans hq, at_mk v_10 rfl⟩)
  have s_11 := Step.pure (P := Tryd.prog) (V := VV) (T := Q) (S := (Q wr)) (a0 := A0) (Qx := QQ) i_11 (.bool true) (Q.refl ·) (fun l a w hI hl => ⟨wanted_none rfl, ex_pick_t rfl (at_eq v_9 (hI.at_ 9 63 _ i_9 rfl (hl_at hl 0 rfl rfl))) (at_eq v_10 (hI.at_ 10 64 _ i_10 rfl (hl_at hl 1 rfl rfl))), at_mk v_11 rfl⟩)
  have s_12 := Step.pure (P := Tryd.prog) (V := VV) (T := Q) (S := (Q wr)) (a0 := A0) (Qx := QQ) i_12 (.bool true) (Q.refl ·) (fun l a w hI hl => ⟨wanted_none rfl, ex_assign rfl (at_eq v_11 (hI.at_ 11 65 _ i_11 rfl (hl_at hl 0 rfl rfl))), at_mk v_12 rfl⟩)
  refine wp_plan VV Q (Q wr) (by kernel_rfl) hs hV hS0 (steps_all hO ((sf_cons s_0 (sf_cons s_1 (sf_cons s_2 (sf_cons s_3 (sf_cons s_4 (sf_cons s_5 (sf_cons s_6 (sf_cons s_7 (sf_cons s_8 (sf_cons s_9 (sf_cons s_10 (sf_cons s_11 (sf_cons s_12 trivial))))))))))))))) ?_
  intro l a' w' hall h
  have e0 : a'.eval (.tmp 4) = .bool true := at_eq v_12 (h.at_ 12 4 _ i_12 rfl (hall 12 (by rw [hO]; decide)))
  have hd : a'.defers = [] := by rw [h.df, hA]
  have hst := H.out.q.trans h.st
  rw [hQQ]
  clear h hall
  go_wp2_with fail
  (try simp only [Exit.inBlock, Exit.then])
  refine bodyPost_ret (results_tmp rfl _ _ _) hd ?_
  exact ⟨congrArg Ending.returned e0, hst⟩
end Go.Proofs.YtojjmjbgnieogaaDoor.Coi
