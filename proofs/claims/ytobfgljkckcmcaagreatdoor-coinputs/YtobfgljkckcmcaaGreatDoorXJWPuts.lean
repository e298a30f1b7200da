import Derived.Test.YtobfgljkckcmcaaGreatDoorXJCopB
import Derived.Test.YtobfgljkckcmcaaGreatDoorXJDecI
import Derived.Test.YtobfgljkckcmcaaGreatDoorXJDecJ
import Derived.Test.YtobfgljkckcmcaaGreatDoorXJDec9
import Derived.Test.YtobfgljkckcmcaaGreatDoorXJDec4
import Derived.Test.YtobfgljkckcmcaaGreatDoorXJCutX
import Derived.Test.YtobfgljkckcmcaaGreatDoorXJFix
set_option maxRecDepth 100000
namespace Go.Proofs.YtobfgljkckcmcaaGreatDoor.Coi
open Go.RowKit
open Mem Num Cod Sh Plan
set_option linter.unusedVariables false
set_option linter.unusedSimpArgs false
theorem eqi_samep (x y : Operand) (k : IntKind) (n : Int) (w : World) (T : TypeId) : (do eqGuard .eql T x y (.int k n) (.int k n); binOp .eql T (.int k n) (.int k n) : Sem Value).run Tryz.prog w = .ok (.bool true) w := by
 simp [eqGuard, binOp, Op.intCmp]
theorem eqb_samep (x y : Operand) (b : Bool) (w : World) : (do eqGuard .eql 4 x y (.bool b) (.bool b); binOp .eql 4 (.bool b) (.bool b) : Sem Value).run Tryz.prog w = .ok (.bool true) w := by
 cases b <;> kernel_rfl
theorem neb_samep (x y : Operand) (b : Bool) (w : World) : (do eqGuard .neq 4 x y (.bool b) (.bool b); binOp .neq 4 (.bool b) (.bool b) : Sem Value).run Tryz.prog w = .ok (.bool false) w := by
 cases b <;> kernel_rfl
/-- The first n outputs; behind them nothing. -/
def clO (f : Nat → OU) (n i : Nat) : OU := if i < n then f i else ⟨0, 0, ByteArray.empty, ByteArray.empty, 0, ByteArray.empty, 0, 0, ByteArray.empty⟩
theorem clO_amt {f : Nat → OU} {n : Nat} (h : ∀ i, i < n → (f i).ok) (i : Nat) : U64 (amt (clO f n) i) := by
 unfold amt clO
 split
 · exact (h i (by assumption)).amount
 · exact ⟨by decide, by decide⟩
theorem clO_sl {f : Nat → OU} {n : Nat} {w : World} {ad : Option Addr} (h : SL OU.cells 9 w ad n f) : SL OU.cells 9 w ad n (clO f n) := h.congr fun i hi => by unfold clO; rw [if_pos hi]
theorem tells_b {P : Prop} {b : Bool} (hb : b = true ↔ P) {w w' : World} {e : Ending} (h : Tells P w e w') : e = .returned (.bool b) ∧ Q w w' := by
 obtain ⟨c, rfl, hc, q⟩ := h
 have : c = b := by rw [Bool.eq_iff_iff, hc, hb]
 rw [this]; exact ⟨rfl, q⟩
theorem bool_of (P : Prop) : ∃ b : Bool, b = true ↔ P := by
 by_cases h : P
 · exact ⟨true, by simp [h]⟩
 · exact ⟨false, by simp [h]⟩
theorem enc_b {R : Prop} {T s : ByteArray} (hs : (R ∧ s = T) ∨ (¬ R ∧ s = ⟨#[]⟩)) {w w' : World} {e : Ending} (h : Enc R T w e w') : e = .returned (.string s) ∧ Q w w' := by
 obtain ⟨c, rfl, hc, q⟩ := h
 have : c = s := by
  rcases hs with ⟨h1, h2⟩ | ⟨h1, h2⟩ <;> rcases hc with ⟨h3, h4⟩ | ⟨h3, h4⟩
  · rw [h2, h4]
  · exact absurd h1 h3
  · exact absurd h3 h1
  · rw [h2, h4]
 rw [this]; exact ⟨rfl, q⟩
theorem enc_of (R : Prop) (T : ByteArray) : ∃ s : ByteArray, (R ∧ s = T) ∨ (¬ R ∧ s = ⟨#[]⟩) := by
 by_cases h : R
 · exact ⟨T, .inl ⟨h, rfl⟩⟩
 · exact ⟨⟨#[]⟩, .inr ⟨h, rfl⟩⟩
theorem OT.downp {w : World} {B B' : Nat} {t : TX} {aI : Option Addr} {cI : Nat} {aO : Option Addr} {cO : Nat} {aW : Option Addr} {cW : Nat} (h : OT w B t aI cI aO cO aW cW) (hb : B' ≤ B) : OT w B' t aI cI aO cO aW cW := ⟨h.i.down hb, h.o.down hb, h.w.down hb⟩
theorem fld_outs (f0 f2 f4 : Option Addr) (n0 f1 n2 f3 n4 f5 : Nat) (v : Int) (s t : ByteArray) (w : World) : (Instr.field 43 (.agg #[.slice f0 n0 f1, .slice f2 n2 f3, .int .u64 v, .string s, .string t, .slice f4 n4 f5]) 1).run Tryz.prog w = .ok (.slice f2 n2 f3) w := by kernel_rfl
theorem samT_refl (t : TX) : SamT t t := ⟨⟨rfl, fun _ _ => rfl⟩, ⟨rfl, fun _ _ => rfl⟩, rfl, rfl, rfl, rfl, fun _ _ => rfl⟩
/-- Where CoinPuts stands: both transactions, and the place. -/
structure PuS (W : World) (B0 b3 b4 b5 : Nat) (A : TX) (aI : Option Addr) (cI : Nat) (aO : Option Addr) (cO : Nat) (aW : Option Addr) (cW : Nat) (B : TX) (eI : Option Addr) (dI : Nat) (eO : Option Addr) (dO : Nat) (eW : Option Addr) (dW : Nat) (px : ByteArray) (po : Int) (w : World) : Prop where
 ba : Box w b3 [.slice aI A.nI cI, .slice aO A.nO cO, .int .u64 A.p.amount, .string A.p.sig, .string A.p.token, .slice aW A.p.n cW]
 bb : Box w b4 [.slice eI B.nI dI, .slice eO B.nO dO, .int .u64 B.p.amount, .string B.p.sig, .string B.p.token, .slice eW B.p.n dW]
 bp : Box w b5 [.string px, .int .i64 po]
 oa : OT w B0 A aI cI aO cO aW cW
 ob : OT w B0 B eI dI eO dO eW dW
 q : Q W w
theorem PuS.up {W : World} {B0 b3 b4 b5 : Nat} {A : TX} {aI : Option Addr} {cI : Nat} {aO : Option Addr} {cO : Nat} {aW : Option Addr} {cW : Nat} {B : TX} {eI : Option Addr} {dI : Nat} {eO : Option Addr} {dO : Nat} {eW : Option Addr} {dW : Nat} {px : ByteArray} {po : Int} {w w' : World} (h : PuS W B0 b3 b4 b5 A aI cI aO cO aW cW B eI dI eO dO eW dW px po w) (q : Q w w') : PuS W B0 b3 b4 b5 A aI cI aO cO aW cW B eI dI eO dO eW dW px po w' :=
 ⟨h.ba.q q, h.bb.q q, h.bp.q q, h.oa.q q, h.ob.q q, h.q.trans q⟩
/-- The copy, of whose inputs k bear another signature. -/
structure PuL (wC : World) (b12 : Nat) (A : TX) (pI : Option Addr) (qI : Nat) (pO : Option Addr) (qO : Nat) (pW : Option Addr) (qW : Nat) (k : Nat) (w : World) : Prop where
 q : Q wC w
 c : Box w b12 [.slice pI A.nI qI, .slice pO A.nO qO, .int .u64 A.p.amount, .string A.p.sig, .string A.p.token, .slice pW A.p.n qW]
 i : A.nI = 0 ∨ ∃ g cs, pI = some ⟨g, 0, none⟩ ∧ Box w g cs ∧ wC.heap.size ≤ g ∧ g ≠ b12 ∧ A.nI * 4 ≤ cs.length ∧ ∀ i, i < A.nI → k ≤ i → cs[i * 4 + 3]? = some (.string (A.ins i).sig)
theorem PuL.up {wC : World} {b12 : Nat} {A : TX} {pI : Option Addr} {qI : Nat} {pO : Option Addr} {qO : Nat} {pW : Option Addr} {qW : Nat} {k : Nat} {w w' : World} (h : PuL wC b12 A pI qI pO qO pW qW k w) (q : Q w w') : PuL wC b12 A pI qI pO qO pW qW k w' := by
 refine ⟨h.q.trans q, h.c.q q, ?_⟩
 rcases h.i with e | ⟨g, cs, h1, h2, h3⟩
 · exact .inl e
 · exact .inr ⟨g, cs, h1, h2.q q, h3⟩
theorem PuL.step {wC : World} {b12 : Nat} {A : TX} {g : Nat} {qI : Nat} {pO : Option Addr} {qO : Nat} {pW : Option Addr} {qW : Nat} {k : Nat} {w w' : World} {cs : List Value} {nw : ByteArray} (h : PuL wC b12 A (some ⟨g, 0, none⟩) qI pO qO pW qW k w) (hg : wC.heap.size ≤ g) (hn : g ≠ b12) (hl : A.nI * 4 ≤ cs.length) (hc : ∀ i, i < A.nI → k ≤ i → cs[i * 4 + 3]? = some (.string (A.ins i).sig))
 (hB : Box w' g (cs.set (k * 4 + 3) (.string nw))) (c : Ch g w w') : PuL wC b12 A (some ⟨g, 0, none⟩) qI pO qO pW qW (k + 1) w' :=
 ⟨c.q h.q hg, h.c.ch c (Ne.symm hn), .inr ⟨g, _, rfl, hB, hg, hn, by rw [List.length_set]; exact hl, fun i hi hk => by rw [List.getElem?_set_ne (by omega)]; exact hc i hi (by omega)⟩⟩
set_option maxHeartbeats 40000000 in
theorem puts_walk (W : World) (hG : GL W) (z1 : TXI) (hz1 : z1.In W) (z2 : TXI) (hz2 : z2.In W) (z3 : PTI) (hz3 : z3.In W) :
 Calls Tryz.prog 3 #[z1.val, z2.val, z3.val] W fun e W' => e = .returned (.bool true) ∧ Below W.heap.size W W' := by
 obtain ⟨ta, xI, yI, xO, yO, xW, yW⟩ := z1
 obtain ⟨tb, uI, vI, uO, vO, uW, vW⟩ := z2
 obtain ⟨pt, po⟩ := z3
 obtain ⟨AI, AO, AW, ha, asg, atk⟩ := hz1
 obtain ⟨BI, BO, BW, hb, bsg, btk⟩ := hz2
 obtain ⟨hpt, hpo⟩ := hz3
 dsimp only at AI AO AW ha asg atk BI BO BW hb bsg btk hpt hpo
 dsimp only [TXI.val, PTI.val]
 obtain ⟨A, hA⟩ : ∃ T, cutX ta = T := ⟨_, rfl⟩
 obtain ⟨B, hB⟩ : ∃ T, cutX tb = T := ⟨_, rfl⟩
 obtain ⟨px, hp⟩ : ∃ z, pt.extract 0 (min (pt.size : Int) 40).toNat = z := ⟨_, rfl⟩
 have OKA : Hid (A.ok) := by show A.ok; rw [← hA]; exact cutX_ok AI.ok AO.ok ha AW.ok
 have OKB : Hid (B.ok) := by show B.ok; rw [← hB]; exact cutX_ok BI.ok BO.ok hb BW.ok
 have OKP : Hid (px.size ≤ 1000000) := by show px.size ≤ _; rw [← hp]; exact cut_1m pt 40 rfl (by decide)
 have h4 : pt.size ≤ 9223372036854775807 := by unfold maxLen at hpt; omega
 have CA := Lib.hid hA
 have CB := Lib.hid hB
 have CP := Lib.hid hp
 clear hA hB hp hpt hpo
 have hG := Lib.hid hG
 have AI := Lib.hid AI
 have AO := Lib.hid AO
 have AW := Lib.hid AW
 have BI := Lib.hid BI
 have BO := Lib.hid BO
 have BW := Lib.hid BW
 go_enter Tryz.func3, Tryz.ntmps3
 go_wp2_with (with_reducible (show wpList _ _ _ (⟨_, Op.load 29 (.tmp 3), _, _, _, _⟩ :: _) _ _); refine halt ?_)
 have QA : Hid (Q W (((W.alloc (.cells #[.slice xI ta.nI yI, .slice xO ta.nO yO, .int .u64 ta.p.amount, .string ta.p.sig, .string ta.p.token, .slice xW ta.p.n yW] 29)).alloc (.cells #[.slice uI tb.nI vI, .slice uO tb.nO vO, .int .u64 tb.p.amount, .string tb.p.sig, .string tb.p.token, .slice uW tb.p.n vW] 29)).alloc (.cells #[.string pt, .int .i64 po] 31))) := (((Q.refl W).alloc _).alloc _).alloc _
 have B3 : Hid (Box (((W.alloc (.cells #[.slice xI ta.nI yI, .slice xO ta.nO yO, .int .u64 ta.p.amount, .string ta.p.sig, .string ta.p.token, .slice xW ta.p.n yW] 29)).alloc (.cells #[.slice uI tb.nI vI, .slice uO tb.nO vO, .int .u64 tb.p.amount, .string tb.p.sig, .string tb.p.token, .slice uW tb.p.n vW] 29)).alloc (.cells #[.string pt, .int .i64 po] 31)) W.heap.size [.slice xI ta.nI yI, .slice xO ta.nO yO, .int .u64 ta.p.amount, .string ta.p.sig, .string ta.p.token, .slice xW ta.p.n yW]) := (Box.new W [.slice xI ta.nI yI, .slice xO ta.nO yO, .int .u64 ta.p.amount, .string ta.p.sig, .string ta.p.token, .slice xW ta.p.n yW] 29).q (((Q.refl _).alloc _).alloc _)
 have B4 : Hid (Box (((W.alloc (.cells #[.slice xI ta.nI yI, .slice xO ta.nO yO, .int .u64 ta.p.amount, .string ta.p.sig, .string ta.p.token, .slice xW ta.p.n yW] 29)).alloc (.cells #[.slice uI tb.nI vI, .slice uO tb.nO vO, .int .u64 tb.p.amount, .string tb.p.sig, .string tb.p.token, .slice uW tb.p.n vW] 29)).alloc (.cells #[.string pt, .int .i64 po] 31)) (W.heap.size + 1) [.slice uI tb.nI vI, .slice uO tb.nO vO, .int .u64 tb.p.amount, .string tb.p.sig, .string tb.p.token, .slice uW tb.p.n vW]) := by
  have := (Box.new (W.alloc (.cells #[.slice xI ta.nI yI, .slice xO ta.nO yO, .int .u64 ta.p.amount, .string ta.p.sig, .string ta.p.token, .slice xW ta.p.n yW] 29)) [.slice uI tb.nI vI, .slice uO tb.nO vO, .int .u64 tb.p.amount, .string tb.p.sig, .string tb.p.token, .slice uW tb.p.n vW] 29).q ((Q.refl _).alloc (.cells #[.string pt, .int .i64 po] 31))
  rw [show (W.alloc (.cells #[.slice xI ta.nI yI, .slice xO ta.nO yO, .int .u64 ta.p.amount, .string ta.p.sig, .string ta.p.token, .slice xW ta.p.n yW] 29)).heap.size = W.heap.size + 1 by simp] at this
  exact this
 have B5 : Hid (Box (((W.alloc (.cells #[.slice xI ta.nI yI, .slice xO ta.nO yO, .int .u64 ta.p.amount, .string ta.p.sig, .string ta.p.token, .slice xW ta.p.n yW] 29)).alloc (.cells #[.slice uI tb.nI vI, .slice uO tb.nO vO, .int .u64 tb.p.amount, .string tb.p.sig, .string tb.p.token, .slice uW tb.p.n vW] 29)).alloc (.cells #[.string pt, .int .i64 po] 31)) (W.heap.size + 2) [.string pt, .int .i64 po]) := by
  have := Box.new ((W.alloc (.cells #[.slice xI ta.nI yI, .slice xO ta.nO yO, .int .u64 ta.p.amount, .string ta.p.sig, .string ta.p.token, .slice xW ta.p.n yW] 29)).alloc (.cells #[.slice uI tb.nI vI, .slice uO tb.nO vO, .int .u64 tb.p.amount, .string tb.p.sig, .string tb.p.token, .slice uW tb.p.n vW] 29)) [.string pt, .int .i64 po] 31
  rw [show ((W.alloc (.cells #[.slice xI ta.nI yI, .slice xO ta.nO yO, .int .u64 ta.p.amount, .string ta.p.sig, .string ta.p.token, .slice xW ta.p.n yW] 29)).alloc (.cells #[.slice uI tb.nI vI, .slice uO tb.nO vO, .int .u64 tb.p.amount, .string tb.p.sig, .string tb.p.token, .slice uW tb.p.n vW] 29)).heap.size = W.heap.size + 2 by simp] at this
  exact this
 generalize ((W.alloc (.cells #[.slice xI ta.nI yI, .slice xO ta.nO yO, .int .u64 ta.p.amount, .string ta.p.sig, .string ta.p.token, .slice xW ta.p.n yW] 29)).alloc (.cells #[.slice uI tb.nI vI, .slice uO tb.nO vO, .int .u64 tb.p.amount, .string tb.p.sig, .string tb.p.token, .slice uW tb.p.n vW] 29)).alloc (.cells #[.string pt, .int .i64 po] 31) = wA at *
 obtain ⟨b5, hb5⟩ : ∃ b, W.heap.size + 2 = b := ⟨_, rfl⟩
 rw [hb5] at B5
 (try rw [show W.heap.size + 1 + 1 = b5 by omega])
 (try rw [hb5])
 obtain ⟨b4, hb4⟩ : ∃ b, W.heap.size + 1 = b := ⟨_, rfl⟩
 rw [hb4] at B4 ⊢
 obtain ⟨b3, hb3⟩ : ∃ b, W.heap.size = b := ⟨_, rfl⟩
 rw [hb3] at B3 ⊢
 have l3 : b3 < wA.heap.size := B3.out.lt
 have l4 : b4 < wA.heap.size := B4.out.lt
 have l5 : b5 < wA.heap.size := B5.out.lt
 have n34 : b4 ≠ b3 := by omega
 have n35 : b5 ≠ b3 := by omega
 have n45 : b5 ≠ b4 := by omega
 have BB : W.heap.size ≤ wA.heap.size := QA.out.size
 refine Lib.hid (ld_box rfl 29 _ rfl b3 _ rfl B3.out Tryz.underlying29 rfl (by kernel_rfl) ?_)
 go_wp2_with fail
 refine (cut_x ta A CA.out xI yI xO yO xW yW _ (AI.out.q QA.out) (AO.out.q QA.out) (AW.out.q QA.out) asg atk).mono ?_
 rintro e w1 ⟨aI, cI, aO, cO, aW, cW, rfl, o1, _, _, q1⟩
 go_wp2_with (with_reducible (show wpList _ _ _ (⟨_, Op.store 29 _ _, _, _, _, _⟩ :: _) _ _); refine halt ?_)
 refine Lib.hid (st_box rfl 29 _ _ rfl b3 _ [.slice aI A.nI cI, .slice aO A.nO cO, .int .u64 A.p.amount, .string A.p.sig, .string A.p.token, .slice aW A.p.n cW] rfl rfl (B3.out.q q1) rfl (by kernel_rfl) (one6 rfl rfl rfl rfl rfl rfl) ?_)
 intro w2 B3' c2
 have OA2 := Lib.hid (o1.low c2 l3)
 have B32 := Lib.hid B3'
 have B42 := Lib.hid ((B4.out.q q1).ch c2 n34)
 have B52 := Lib.hid ((B5.out.q q1).ch c2 n35)
 have Q2 : Hid (Q W w2) := c2.q (QA.out.trans q1) (by omega)
 have s2 : wA.heap.size ≤ w2.heap.size := Nat.le_trans q1.size c2.size
 clear c2 B3' o1 q1 B3 B4 B5 QA AI AO AW
 go_wp2_with (with_reducible (show wpList _ _ _ (⟨_, Op.load 29 (.tmp 4), _, _, _, _⟩ :: _) _ _); refine halt ?_)
 refine Lib.hid (ld_box rfl 29 _ rfl b4 _ rfl B42.out Tryz.underlying29 rfl (by kernel_rfl) ?_)
 go_wp2_with fail
 refine (cut_x tb B CB.out uI vI uO vO uW vW _ (BI.out.q Q2.out) (BO.out.q Q2.out) (BW.out.q Q2.out) bsg btk).mono ?_
 rintro e w3 ⟨eI, dI, eO, dO, eW, dW, rfl, o3, _, _, q3⟩
 go_wp2_with (with_reducible (show wpList _ _ _ (⟨_, Op.store 29 _ _, _, _, _, _⟩ :: _) _ _); refine halt ?_)
 refine Lib.hid (st_box rfl 29 _ _ rfl b4 _ [.slice eI B.nI dI, .slice eO B.nO dO, .int .u64 B.p.amount, .string B.p.sig, .string B.p.token, .slice eW B.p.n dW] rfl rfl (B42.out.q q3) rfl (by kernel_rfl) (one6 rfl rfl rfl rfl rfl rfl) ?_)
 intro w4 B4' c4
 have OA4 := Lib.hid ((OA2.out.q q3).low c4 l4)
 have OB4 := Lib.hid ((o3.low c4 (by omega)).downp s2)
 have B34 := Lib.hid ((B32.out.q q3).ch c4 (Ne.symm n34))
 have B44 := Lib.hid B4'
 have B54 := Lib.hid ((B52.out.q q3).ch c4 n45)
 have Q4 : Hid (Q W w4) := c4.q (Q2.out.trans q3) (by omega)
 clear c4 B4' o3 q3 OA2 B32 B42 B52 Q2 BI BO BW CA CB asg atk bsg btk ha hb s2
 have m0 := B54.out.at_ 0 _ rfl
 have e5 := CP.out
 go_wp2_with (with_reducible (show wpList _ _ _ (⟨_, Op.store 9 _ _, _, _, _, _⟩ :: _) _ _); refine halt ?_)
 refine Lib.hid (st_one rfl 9 _ _ rfl (b := b5) (j := 0) (v := .string px) rfl rfl B54.out rfl (fun w hc hf => by simp [go_sem, hc, hf]) ?_)
 intro w5 B5' c5
 obtain ⟨B0, hB0⟩ : ∃ z, wA.heap.size = z := ⟨_, rfl⟩
 rw [hB0] at OA4 OB4 l3 l4 l5 BB
 have S5 : Hid (PuS W B0 b3 b4 b5 A aI cI aO cO aW cW B eI dI eO dO eW dW px po w5) := ⟨B34.out.ch c5 (Ne.symm n35), B44.out.ch c5 (Ne.symm n45), B5', OA4.out.low c5 l5, OB4.out.low c5 l5, c5.q Q4.out (by omega)⟩
 clear c5 B5' OA4 OB4 B34 B44 B54 Q4 m0 e5 h4 CP hB0 hb3 hb4 hb5 n34 n35 n45 l3 l4 l5 BB
 clear wA
 have zO : A.nO ≤ 100 := OKA.out.nO
 have zI : A.nI ≤ 100 := OKA.out.nI
 obtain ⟨nv, hnv⟩ : ∃ v, sumV (amt (clO A.outs A.nO)) A.nO = v := ⟨_, rfl⟩
 obtain ⟨ne, hne⟩ : ∃ v, sumE (amt (clO A.outs A.nO)) A.nO = v := ⟨_, rfl⟩
 have WH1 : Hid (∀ w, PuS W B0 b3 b4 b5 A aI cI aO cO aW cW B eI dI eO dO eW dW px po w → Calls Tryz.prog 6 #[.slice aO A.nO cO] w fun e w' => e = .returned (.tuple #[.int .u64 nv, .int .i64 ne]) ∧ Q w w') := fun w h => by
  rw [← hnv, ← hne]
  exact whole_x aO A.nO cO _ w (clO_sl (h.oa.o.sl out_len)) zO (clO_amt OKA.out.outs)
 have WH2 : Hid (∀ w f2 f3, SL OU.cells 9 w f2 A.nO A.outs → Calls Tryz.prog 7 #[.slice f2 A.nO f3] w fun e w' => e = .returned (.tuple #[.int .u64 nv, .int .i64 ne]) ∧ Q w w') := fun w f2 f3 h => by
  rw [← hnv, ← hne]
  exact d9whole_x f2 A.nO f3 _ w (clO_sl h) zO (clO_amt OKA.out.outs)
 clear hnv hne
 have RF : Hid (∀ w, PuS W B0 b3 b4 b5 A aI cI aO cO aW cW B eI dI eO dO eW dW px po w → Calls Tryz.prog 8 #[txV A aI cI aO cO aW cW] w fun e w' => ∃ f0 f1 f2 f3 f4 f5, e = .returned (txV A f0 f1 f2 f3 f4 f5) ∧ SL IN.cells 4 w' f0 A.nI A.ins ∧ SL OU.cells 9 w' f2 A.nO A.outs ∧ SL WN.cells 10 w' f4 A.p.n A.p.w ∧ Q w w') := fun w h => (ref9_x A aI cI aO cO aW cW w (h.oa.i.sl in_len) (h.oa.o.sl out_len) (h.oa.w.sl win_len) OKA.out.nI OKA.out.nO OKA.out.p.n).mono fun e w' h => by
  obtain ⟨f0, f1, f2, f3, f4, f5, h0, h1, h2⟩ := h
  exact ⟨f0, f1, f2, f3, f4, f5, h0, h1.i.sl in_len, h1.o.sl out_len, h1.w.sl win_len, h2⟩
 as_aux_lemma =>
 have m1 := S5.out.ba.at_ 1 _ rfl
 go_wp2_with fail
 refine (WH1.out _ S5.out).mono ?_
 rintro e w6 ⟨rfl, q6⟩
 have S6 := Lib.hid (S5.out.up q6)
 clear S5 q6 m1 WH1
 go_wp2_with (with_reducible (show wpList _ _ _ (⟨_, Op.load 29 (.tmp 3), _, _, _, _⟩ :: _) _ _); refine halt ?_)
 refine Lib.hid (ld_box rfl 29 _ rfl b3 _ rfl S6.out.ba Tryz.underlying29 rfl (by kernel_rfl) ?_)
 go_wp2_with fail
 refine (RF.out _ S6.out).mono ?_
 rintro e w7 ⟨f0, f1, f2, f3, f4, f5, rfl, h1, h2, h3, q7⟩
 have S7 := Lib.hid (S6.out.up q7)
 have H2 := Lib.hid h2
 clear S6 q7 h1 h2 h3
 have fl := fld_outs f0 f2 f4 A.nI f1 A.nO f3 A.p.n f5 A.p.amount A.p.sig A.p.token w7
 dsimp only [txV]
 go_wp2_with fail
 clear fl
 refine (WH2.out _ f2 f3 H2.out).mono ?_
 rintro e w8 ⟨rfl, q8⟩
 have S8 := Lib.hid (S7.out.up q8)
 clear S7 q8 H2 WH2
 go_wp2_with fail
 go_loopw [11] (fun i wr => ∃ k : Nat, k ≤ A.nO ∧ i = .int .i64 k ∧ Hid (PuS W B0 b3 b4 b5 A aI cI aO cO aW cW B eI dI eO dO eW dW px po wr)) (fun i _ => A.nO - (intOf i).toNat)
 case atStart => exact ⟨0, by omega, rfl, S8⟩
 case round =>
 obtain ⟨k, hk, rfl, H⟩ := hrel
 clear S8
 have k0 : (0 : Int) ≤ (k : Int) := by omega
 have m1 := H.out.ba.at_ 1 _ rfl
 by_cases hlt : k < A.nO
 · have k1 : (k : Int) < (A.nO : Int) := by omega
   obtain ⟨b, off, rfl, hrow⟩ := (H.out.oa.o.sl out_len).some_ (by omega)
   have hrow := Lib.hid (hrow k hlt)
   have HA0 : Hid (0 ≤ (A.outs k).amount) := (OKA.out.outs k hlt).amount.1
   obtain ⟨x, hx⟩ : ∃ x, A.outs k = x := ⟨_, rfl⟩
   rw [hx] at hrow HA0
   clear hx
   obtain ⟨fb, hfb⟩ : ∃ b, decide (Fit x) = b := ⟨_, rfl⟩
   have C1 : Hid (∀ w, Calls Tryz.prog 9 #[.agg #[.int .i64 x.kind, .int .u64 x.amount, .string x.key, .string x.gate, .int .i64 x.expiry, .string x.anchor, .int .u64 x.unit, .int .i64 x.tokens, .string x.of_]] w fun e w' => e = .returned (.bool fb) ∧ Q w w') := fun w => by rw [← hfb]; exact fits_x x w
   have C2 : Hid (∀ w, Calls Tryz.prog 11 #[.agg #[.int .i64 x.kind, .int .u64 x.amount, .string x.key, .string x.gate, .int .i64 x.expiry, .string x.anchor, .int .u64 x.unit, .int .i64 x.tokens, .string x.of_]] w fun e w' => e = .returned (.agg #[.int .i64 x.kind, .int .u64 x.amount, .string x.key, .string x.gate, .int .i64 x.expiry, .string x.anchor, .int .u64 x.unit, .int .i64 x.tokens, .string x.of_]) ∧ Q w w') := fun w => refout_x2 x w
   have C3 : Hid (∀ w, Calls Tryz.prog 10 #[.agg #[.int .i64 x.kind, .int .u64 x.amount, .string x.key, .string x.gate, .int .i64 x.expiry, .string x.anchor, .int .u64 x.unit, .int .i64 x.tokens, .string x.of_]] w fun e w' => e = .returned (.bool fb) ∧ Q w w') := fun w => by rw [← hfb]; exact d9fits_x x HA0.out w
   clear hfb HA0
   go_wp2_with fail
   clear m1
   refine wp_region_held_drew (S := fun w' => Q wr w') (by kernel_rfl) ((Q.refl wr).drew) (fun hHeld => ?_)
   refine wpAnyH_take (i := 0) (v := .pointer (some ⟨b3, 1, none⟩)) (by simp only [List.getElem?_toArray, List.getElem?_cons_zero]; rfl) (by kernel_rfl) (by kernel_rfl) (by kernel_rfl) (by exact fun _ _ _ h => h) (Or.inl ⟨by rfl, ?_⟩) (by assumption) ?_
   · intro wx hSw
     (try dsimp only at hSw); go_simp; (try rw [if_neg (by omega)]); try (with_reducible rfl)
   try simp only [Act.put, List.setIfInBounds_toArray, List.set_cons_zero, List.set_cons_succ]
   refine wpAnyH_take (i := 1) (v := .slice (some ⟨b, off, none⟩) A.nO cO) (by simp only [List.getElem?_toArray, List.getElem?_cons_zero, List.getElem?_cons_succ]; rfl) (by kernel_rfl) (by kernel_rfl) (by kernel_rfl) (by exact fun _ _ _ h => h) (Or.inl ⟨by rfl, ?_⟩) (by assumption) ?_
   · intro wx hSw
     have m1 := (H.out.ba.q hSw).at_ 1 _ rfl; go_simp; (try rw [if_neg (by omega)]); try (with_reducible rfl)
   try simp only [Act.put, List.setIfInBounds_toArray, List.set_cons_zero, List.set_cons_succ]
   refine wpAnyH_take (i := 2) (v := .int .i64 k) (by simp only [List.getElem?_toArray, List.getElem?_cons_zero, List.getElem?_cons_succ]; rfl) (by kernel_rfl) (by kernel_rfl) (by kernel_rfl) (by exact fun _ _ _ h => h) (Or.inl ⟨by rfl, ?_⟩) (by assumption) ?_
   · intro wx hSw
     (try dsimp only at hSw); go_simp; (try rw [if_neg (by omega)]); try (with_reducible rfl)
   try simp only [Act.put, List.setIfInBounds_toArray, List.set_cons_zero, List.set_cons_succ]
   refine wpAnyH_take (i := 3) (v := .pointer (some ⟨b, off + k * 9, none⟩)) (by simp only [List.getElem?_toArray, List.getElem?_cons_zero, List.getElem?_cons_succ]; rfl) (by kernel_rfl) (by kernel_rfl) (by kernel_rfl) (by exact fun _ _ _ h => h) (Or.inl ⟨by rfl, ?_⟩) (by assumption) ?_
   · intro wx hSw
     (try dsimp only at hSw); go_simp; (try rw [if_neg (by omega)]); try (with_reducible rfl)
   try simp only [Act.put, List.setIfInBounds_toArray, List.set_cons_zero, List.set_cons_succ]
   refine wpAnyH_take (i := 4) (v := .agg #[.int .i64 x.kind, .int .u64 x.amount, .string x.key, .string x.gate, .int .i64 x.expiry, .string x.anchor, .int .u64 x.unit, .int .i64 x.tokens, .string x.of_]) (by simp only [List.getElem?_toArray, List.getElem?_cons_zero, List.getElem?_cons_succ]; rfl) (by kernel_rfl) (by kernel_rfl) (by kernel_rfl) (by exact fun _ _ _ h => h) (Or.inl ⟨by rfl, ?_⟩) (by assumption) ?_
   · intro wx hSw
     exact ex_loado 47 rfl b (off + k * 9) [.int .i64 x.kind, .int .u64 x.amount, .string x.key, .string x.gate, .int .i64 x.expiry, .string x.anchor, .int .u64 x.unit, .int .i64 x.tokens, .string x.of_] _ rfl (fun j v hv => Q.cell' hSw (hrow.out j v hv)) Tryz.underlying47 rfl (by kernel_rfl)
   try simp only [Act.put, List.setIfInBounds_toArray, List.set_cons_zero, List.set_cons_succ]
   refine wpAnyH_take (i := 6) (v := .pointer (some ⟨b3, 1, none⟩)) (by simp only [List.getElem?_toArray, List.getElem?_cons_zero, List.getElem?_cons_succ]; rfl) (by kernel_rfl) (by kernel_rfl) (by kernel_rfl) (by exact fun _ _ _ h => h) (Or.inl ⟨by rfl, ?_⟩) (by assumption) ?_
   · intro wx hSw
     (try dsimp only at hSw); go_simp; (try rw [if_neg (by omega)]); try (with_reducible rfl)
   try simp only [Act.put, List.setIfInBounds_toArray, List.set_cons_zero, List.set_cons_succ]
   refine wpAnyH_take (i := 7) (v := .slice (some ⟨b, off, none⟩) A.nO cO) (by simp only [List.getElem?_toArray, List.getElem?_cons_zero, List.getElem?_cons_succ]; rfl) (by kernel_rfl) (by kernel_rfl) (by kernel_rfl) (by exact fun _ _ _ h => h) (Or.inl ⟨by rfl, ?_⟩) (by assumption) ?_
   · intro wx hSw
     have m1 := (H.out.ba.q hSw).at_ 1 _ rfl; go_simp; (try rw [if_neg (by omega)]); try (with_reducible rfl)
   try simp only [Act.put, List.setIfInBounds_toArray, List.set_cons_zero, List.set_cons_succ]
   refine wpAnyH_take (i := 8) (v := .int .i64 k) (by simp only [List.getElem?_toArray, List.getElem?_cons_zero, List.getElem?_cons_succ]; rfl) (by kernel_rfl) (by kernel_rfl) (by kernel_rfl) (by exact fun _ _ _ h => h) (Or.inl ⟨by rfl, ?_⟩) (by assumption) ?_
   · intro wx hSw
     (try dsimp only at hSw); go_simp; (try rw [if_neg (by omega)]); try (with_reducible rfl)
   try simp only [Act.put, List.setIfInBounds_toArray, List.set_cons_zero, List.set_cons_succ]
   refine wpAnyH_take (i := 9) (v := .pointer (some ⟨b, off + k * 9, none⟩)) (by simp only [List.getElem?_toArray, List.getElem?_cons_zero, List.getElem?_cons_succ]; rfl) (by kernel_rfl) (by kernel_rfl) (by kernel_rfl) (by exact fun _ _ _ h => h) (Or.inl ⟨by rfl, ?_⟩) (by assumption) ?_
   · intro wx hSw
     (try dsimp only at hSw); go_simp; (try rw [if_neg (by omega)]); try (with_reducible rfl)
   try simp only [Act.put, List.setIfInBounds_toArray, List.set_cons_zero, List.set_cons_succ]
   refine wpAnyH_take (i := 10) (v := .agg #[.int .i64 x.kind, .int .u64 x.amount, .string x.key, .string x.gate, .int .i64 x.expiry, .string x.anchor, .int .u64 x.unit, .int .i64 x.tokens, .string x.of_]) (by simp only [List.getElem?_toArray, List.getElem?_cons_zero, List.getElem?_cons_succ]; rfl) (by kernel_rfl) (by kernel_rfl) (by kernel_rfl) (by exact fun _ _ _ h => h) (Or.inl ⟨by rfl, ?_⟩) (by assumption) ?_
   · intro wx hSw
     exact ex_loado 47 rfl b (off + k * 9) [.int .i64 x.kind, .int .u64 x.amount, .string x.key, .string x.gate, .int .i64 x.expiry, .string x.anchor, .int .u64 x.unit, .int .i64 x.tokens, .string x.of_] _ rfl (fun j v hv => Q.cell' hSw (hrow.out j v hv)) Tryz.underlying47 rfl (by kernel_rfl)
   try simp only [Act.put, List.setIfInBounds_toArray, List.set_cons_zero, List.set_cons_succ]
   refine wpAnyH_ready (rs := [5]) (by kernel_rfl) (by simp) ?_
   refine AllReadyH.cons (by simp only [List.getElem?_toArray, List.getElem?_cons_succ, List.getElem?_cons_zero]; rfl) (fun K hK => ?_) AllReadyH.nil
   go_simp
   refine (C1.out _).mono ?_
   rintro r w2 ⟨rfl, q2⟩
   have QB := Lib.hid (hHeld.trans q2)
   clear q2 C1
   dsimp only
   refine hK.out _ _ QB.out (fun hHeld5 => ?_)
   clear hK K
   try simp only [Act.put, List.setIfInBounds_toArray, List.set_cons_zero, List.set_cons_succ]
   refine wpAnyH_ready (rs := [11]) (by kernel_rfl) (by simp) ?_
   refine AllReadyH.cons (by simp only [List.getElem?_toArray, List.getElem?_cons_succ, List.getElem?_cons_zero]; rfl) (fun K hK => ?_) AllReadyH.nil
   go_simp
   refine (C2.out _).mono ?_
   rintro r w3 ⟨rfl, q3⟩
   have QC := Lib.hid (QB.out.trans q3)
   clear q3 C2
   dsimp only
   refine hK.out _ _ QC.out (fun hHeld11 => ?_)
   clear hK K
   try simp only [Act.put, List.setIfInBounds_toArray, List.set_cons_zero, List.set_cons_succ]
   refine wpAnyH_ready (rs := [12]) (by kernel_rfl) (by simp) ?_
   refine AllReadyH.cons (by simp only [List.getElem?_toArray, List.getElem?_cons_succ, List.getElem?_cons_zero]; rfl) (fun K hK => ?_) AllReadyH.nil
   go_simp
   refine (C3.out _).mono ?_
   rintro r w4 ⟨rfl, q4⟩
   have QD := Lib.hid (QC.out.trans q4)
   clear q4 C3
   dsimp only
   refine hK.out _ _ QD.out (fun hHeld12 => ?_)
   clear hK K
   try simp only [Act.put, List.setIfInBounds_toArray, List.set_cons_zero, List.set_cons_succ]
   refine wpAnyH_take (i := 13) (v := .bool false) (by simp only [List.getElem?_toArray, List.getElem?_cons_zero, List.getElem?_cons_succ]; rfl) (by kernel_rfl) (by kernel_rfl) (by kernel_rfl) (by exact fun _ _ _ h => h) (Or.inl ⟨by rfl, ?_⟩) (by assumption) ?_
   · intro wx hSw
     exact ex_bin rfl rfl rfl (neb_samep _ _ _ _)
   try simp only [Act.put, List.setIfInBounds_toArray, List.set_cons_zero, List.set_cons_succ]
   refine wpAnyH_done (by kernel_rfl) ?_ _
   have H4 := Lib.hid (H.out.up QD.out)
   clear H QB QC QD hHeld hHeld5 hHeld11 hHeld12
   go_wp2_with fail
   go_roundw
   case rel => exact ⟨k + 1, by omega, by go_num, H4⟩
   case measure => simp [intOf]; omega
 · obtain rfl : k = A.nO := by omega
   have k1 : ¬ (A.nO : Int) < (A.nO : Int) := by omega
   have td : decide (A.nO < A.nO) = false := by simp
   as_aux_lemma =>
   go_wp2_with (with_reducible (show wpList _ _ _ (⟨_, Op.load 29 (.tmp 3), _, _, _, _⟩ :: _) _ _); refine halt ?_)
   clear m1 k0 k1 td hk hlt
   refine Lib.hid (ld_box rfl 29 _ rfl b3 _ rfl H.out.ba Tryz.underlying29 rfl (by kernel_rfl) ?_)
   go_wp2_with fail
   refine (copy_x A aI cI aO cO aW cW wr (H.out.oa.i.sl in_len) (H.out.oa.o.sl out_len) (H.out.oa.w.sl win_len) OKA.out).mono ?_
   rintro e w9 ⟨pI, qI, pO, qO, pW, qW, rfl, o1, o2, o3, q9⟩
   go_wp2_with (with_reducible (show wpList _ _ _ (⟨_, Op.alloc 29, _, _, _, _⟩ :: _) _ _); refine halt ?_)
   refine wpList_allocZ rfl 29 rfl #[.slice none 0 0, .slice none 0 0, .int .u64 0, .string ⟨#[]⟩, .string ⟨#[]⟩, .slice none 0 0] zeroT ?_
   refine st_box rfl 29 _ _ rfl w9.heap.size _ [.slice pI A.nI qI, .slice pO A.nO qO, .int .u64 A.p.amount, .string A.p.sig, .string A.p.token, .slice pW A.p.n qW] rfl rfl (Box.new w9 [.slice none 0 0, .slice none 0 0, .int .u64 0, .string ⟨#[]⟩, .string ⟨#[]⟩, .slice none 0 0] 29) rfl (by kernel_rfl) (one6 rfl rfl rfl rfl rfl rfl) ?_
   intro w10 B12 c10
   have q10 : Q w9 w10 := c10.q ((Q.refl w9).alloc _) (Nat.le_refl _)
   have s9 := q9.size
   have TC : Hid (TM w10 pI qI pO pW A) := ⟨(o1.q q10).sl in_len, (o1.ins in_len (P := fun _ => True) fun _ _ => trivial).le, (o2.q q10).sl out_len, (o3.q q10).sl win_len⟩
   have LC : Hid (PuL wr w9.heap.size A pI qI pO qO pW qW 0 w10) := by
    refine ⟨q9.trans q10, B12, ?_⟩
    by_cases e0 : A.nI = 0
    · exact .inl e0
    obtain ⟨g, cs, e1, x1, x2, x3, x4⟩ := (o1.q q10).box in_len (by omega)
    refine .inr ⟨g, cs, e1, x1, x2, ?_, x3, fun i hi _ => x4 i hi 3 _ rfl⟩
    have := (o1.blk_ _ e1).2
    dsimp only at this
    omega
   have H10 := Lib.hid (H.out.up (q9.trans q10))
   clear c10 q9 q10 o1 o2 o3 B12 s9
   obtain ⟨b12, hb12⟩ : ∃ b, w9.heap.size = b := ⟨_, rfl⟩
   rw [hb12] at LC ⊢
   clear hb12
   obtain ⟨wC, hwC⟩ : ∃ v, wr = v := ⟨_, rfl⟩
   rw [hwC] at LC H
   clear hwC w9 wr
   as_aux_lemma =>
   go_wp2_with (with_reducible (show wpList _ _ _ (⟨_, Op.load 29 (.tmp 12), _, _, _, _⟩ :: _) _ _); refine halt ?_)
   refine Lib.hid (ld_box rfl 29 _ rfl b12 _ rfl LC.out.c Tryz.underlying29 rfl (by kernel_rfl) ?_)
   go_wp2_with (with_reducible (show wpList _ _ _ (⟨_, Op.load 29 (.tmp 3), _, _, _, _⟩ :: _) _ _); refine halt ?_)
   refine Lib.hid (ld_box rfl 29 _ rfl b3 _ rfl H10.out.ba Tryz.underlying29 rfl (by kernel_rfl) ?_)
   go_wp2_with fail
   refine (same_x A A pI pO pW aI aO aW qI qO qW cI cO cW _ TC.out H10.out.oa.tm OKA.out OKA.out).mono ?_
   intro e w11 he
   obtain ⟨rfl, q11⟩ := tells_b (b := true) (by simp [samT_refl]) he
   have L11 := Lib.hid (LC.out.up q11)
   clear he q11 LC TC H10
   go_wp2_with fail
   go_loopw [13] (fun i wr => ∃ k : Nat, k ≤ A.nI ∧ i = .int .i64 k ∧ Hid (PuL wC b12 A pI qI pO qO pW qW k wr)) (fun i _ => A.nI - (intOf i).toNat)
   case atStart => exact ⟨0, by omega, rfl, L11⟩
   case round =>
   obtain ⟨k, hk, rfl, LK⟩ := hrel
   clear L11
   have k0 : (0 : Int) ≤ (k : Int) := by omega
   have m0 := LK.out.c.at_ 0 _ rfl
   have a0 := (H.out.up LK.out.q).ba.at_ 0 _ rfl
   by_cases hlt : k < A.nI
   · have k1 : (k : Int) < (A.nI : Int) := by omega
     obtain ⟨g, cs, rfl, GB, gw, gn, gl, gc⟩ := LK.out.i.resolve_left (by omega)
     obtain ⟨b, off, rfl, hrow⟩ := (H.out.oa.i.sl in_len).some_ (by omega)
     have c3 : Hid (wC.cell? ⟨b, off + k * 4 + 3, none⟩ = some (.string (A.ins k).sig)) := hrow k hlt 3 _ rfl
     have OLD : Hid (cs[k * 4 + 3]? = some (.string (A.ins k).sig)) := gc k hlt (Nat.le_refl _)
     have GC := Lib.hid gc
     have GB := Lib.hid GB
     have zs : Hid ((A.ins k).sig.size ≤ 1000000) := (OKA.out.ins k hlt).sig
     clear hrow gc
     obtain ⟨sg, hsg⟩ : ∃ s, (A.ins k).sig = s := ⟨_, rfl⟩
     rw [hsg] at c3 OLD zs
     clear hsg
     obtain ⟨nw, hnw⟩ : ∃ s, sg ++ (⟨#[120]⟩ : ByteArray) = s := ⟨_, rfl⟩
     have NE : Hid (nw ≠ sg) := fun e => by have := congrArg ByteArray.size (hnw.trans e); rw [ByteArray.size_append] at this; have h1 : (⟨#[120]⟩ : ByteArray).size = 1 := rfl; omega
     have HNW := Lib.hid hnw
     clear hnw
     go_wp2_with fail
     clear m0 a0
     refine wp_region_held_drew (S := fun w' => Box w' b12 [.slice (some ⟨g, 0, none⟩) A.nI qI, .slice pO A.nO qO, .int .u64 A.p.amount, .string A.p.sig, .string A.p.token, .slice pW A.p.n qW]) (by kernel_rfl) (LK.out.c.q (Q.refl wr).drew) (fun hHeld => ?_)
     refine wpAnyH_take (i := 0) (v := .pointer (some ⟨b12, 0, none⟩)) (by simp only [List.getElem?_toArray, List.getElem?_cons_zero]; rfl) (by kernel_rfl) (by kernel_rfl) (by kernel_rfl) (by exact fun _ _ _ h => h) (Or.inl ⟨by rfl, ?_⟩) (by assumption) ?_
     · intro wx hSw
       (try dsimp only at hSw); go_simp; (try rw [if_neg (by omega)]); try (with_reducible rfl)
     try simp only [Act.put, List.setIfInBounds_toArray, List.set_cons_zero, List.set_cons_succ]
     refine wpAnyH_take (i := 1) (v := .slice (some ⟨g, 0, none⟩) A.nI qI) (by simp only [List.getElem?_toArray, List.getElem?_cons_zero, List.getElem?_cons_succ]; rfl) (by kernel_rfl) (by kernel_rfl) (by kernel_rfl) (by exact fun _ _ _ h => h) (Or.inl ⟨by rfl, ?_⟩) (by assumption) ?_
     · intro wx hSw
       have m0 := hSw.at_ 0 _ rfl; go_simp; (try rw [if_neg (by omega)]); try (with_reducible rfl)
     try simp only [Act.put, List.setIfInBounds_toArray, List.set_cons_zero, List.set_cons_succ]
     refine wpAnyH_take (i := 2) (v := .int .i64 k) (by simp only [List.getElem?_toArray, List.getElem?_cons_zero, List.getElem?_cons_succ]; rfl) (by kernel_rfl) (by kernel_rfl) (by kernel_rfl) (by exact fun _ _ _ h => h) (Or.inl ⟨by rfl, ?_⟩) (by assumption) ?_
     · intro wx hSw
       (try dsimp only at hSw); go_simp; (try rw [if_neg (by omega)]); try (with_reducible rfl)
     try simp only [Act.put, List.setIfInBounds_toArray, List.set_cons_zero, List.set_cons_succ]
     refine wpAnyH_take (i := 3) (v := .pointer (some ⟨b12, 0, none⟩)) (by simp only [List.getElem?_toArray, List.getElem?_cons_zero, List.getElem?_cons_succ]; rfl) (by kernel_rfl) (by kernel_rfl) (by kernel_rfl) (by exact fun _ _ _ h => h) (Or.inl ⟨by rfl, ?_⟩) (by assumption) ?_
     · intro wx hSw
       (try dsimp only at hSw); go_simp; (try rw [if_neg (by omega)]); try (with_reducible rfl)
     try simp only [Act.put, List.setIfInBounds_toArray, List.set_cons_zero, List.set_cons_succ]
     refine wpAnyH_take (i := 4) (v := .slice (some ⟨g, 0, none⟩) A.nI qI) (by simp only [List.getElem?_toArray, List.getElem?_cons_zero, List.getElem?_cons_succ]; rfl) (by kernel_rfl) (by kernel_rfl) (by kernel_rfl) (by exact fun _ _ _ h => h) (Or.inl ⟨by rfl, ?_⟩) (by assumption) ?_
     · intro wx hSw
       have m0 := hSw.at_ 0 _ rfl; go_simp; (try rw [if_neg (by omega)]); try (with_reducible rfl)
     try simp only [Act.put, List.setIfInBounds_toArray, List.set_cons_zero, List.set_cons_succ]
     refine wpAnyH_take (i := 5) (v := .int .i64 k) (by simp only [List.getElem?_toArray, List.getElem?_cons_zero, List.getElem?_cons_succ]; rfl) (by kernel_rfl) (by kernel_rfl) (by kernel_rfl) (by exact fun _ _ _ h => h) (Or.inl ⟨by rfl, ?_⟩) (by assumption) ?_
     · intro wx hSw
       (try dsimp only at hSw); go_simp; (try rw [if_neg (by omega)]); try (with_reducible rfl)
     try simp only [Act.put, List.setIfInBounds_toArray, List.set_cons_zero, List.set_cons_succ]
     refine wpAnyH_take (i := 6) (v := .pointer (some ⟨g, k * 4, none⟩)) (by simp only [List.getElem?_toArray, List.getElem?_cons_zero, List.getElem?_cons_succ]; rfl) (by kernel_rfl) (by kernel_rfl) (by kernel_rfl) (by exact fun _ _ _ h => h) (Or.inl ⟨by rfl, ?_⟩) (by assumption) ?_
     · intro wx hSw
       (try dsimp only at hSw); go_simp; (try rw [if_neg (by omega)]); try (with_reducible rfl)
     try simp only [Act.put, List.setIfInBounds_toArray, List.set_cons_zero, List.set_cons_succ]
     refine wpAnyH_take (i := 7) (v := .pointer (some ⟨g, k * 4 + 3, none⟩)) (by simp only [List.getElem?_toArray, List.getElem?_cons_zero, List.getElem?_cons_succ]; rfl) (by kernel_rfl) (by kernel_rfl) (by kernel_rfl) (by exact fun _ _ _ h => h) (Or.inl ⟨by rfl, ?_⟩) (by assumption) ?_
     · intro wx hSw
       (try dsimp only at hSw); go_simp; (try rw [if_neg (by omega)]); try (with_reducible rfl)
     try simp only [Act.put, List.setIfInBounds_toArray, List.set_cons_zero, List.set_cons_succ]
     refine wpAnyH_ready (rs := [8]) (by kernel_rfl) (by simp) ?_
     refine AllReadyH.cons (by simp only [List.getElem?_toArray, List.getElem?_cons_succ, List.getElem?_cons_zero]; rfl) (fun K hK => ?_) AllReadyH.nil
     have d3 := (GB.out.q (Q.refl wr).drew).at_ _ _ OLD.out
     go_simp
     clear d3
     refine hK.out _ _ hHeld (fun hHeld8 => ?_)
     clear hK K
     try simp only [Act.put, List.setIfInBounds_toArray, List.set_cons_zero, List.set_cons_succ]
     refine wpAnyH_take (i := 9) (v := .string nw) (by simp only [List.getElem?_toArray, List.getElem?_cons_zero, List.getElem?_cons_succ]; rfl) (by kernel_rfl) (by kernel_rfl) (by kernel_rfl) (by exact fun _ _ _ h => h) (Or.inl ⟨by rfl, ?_⟩) (by assumption) ?_
     · intro wx hSw
       exact ex_bin rfl rfl rfl (cats zs.out (by decide) HNW.out)
     try simp only [Act.put, List.setIfInBounds_toArray, List.set_cons_zero, List.set_cons_succ]
     refine wpAnyH_take (i := 10) (v := .pointer (some ⟨g, k * 4, none⟩)) (by simp only [List.getElem?_toArray, List.getElem?_cons_zero, List.getElem?_cons_succ]; rfl) (by kernel_rfl) (by kernel_rfl) (by kernel_rfl) (by exact fun _ _ _ h => h) (Or.inl ⟨by rfl, ?_⟩) (by assumption) ?_
     · intro wx hSw
       (try dsimp only at hSw); go_simp; (try rw [if_neg (by omega)]); try (with_reducible rfl)
     try simp only [Act.put, List.setIfInBounds_toArray, List.set_cons_zero, List.set_cons_succ]
     refine wpAnyH_take (i := 11) (v := .pointer (some ⟨g, k * 4 + 3, none⟩)) (by simp only [List.getElem?_toArray, List.getElem?_cons_zero, List.getElem?_cons_succ]; rfl) (by kernel_rfl) (by kernel_rfl) (by kernel_rfl) (by exact fun _ _ _ h => h) (Or.inl ⟨by rfl, ?_⟩) (by assumption) ?_
     · intro wx hSw
       (try dsimp only at hSw); go_simp; (try rw [if_neg (by omega)]); try (with_reducible rfl)
     try simp only [Act.put, List.setIfInBounds_toArray, List.set_cons_zero, List.set_cons_succ]
     refine wpAnyH_ready (rs := [12]) (by kernel_rfl) (by simp) ?_
     refine AllReadyH.cons (by simp only [List.getElem?_toArray, List.getElem?_cons_succ, List.getElem?_cons_zero]; rfl) (fun K hK => ?_) AllReadyH.nil
     rw [if_pos (by rfl)]
     refine wpo_st1 9 _ _ rfl (b := g) (j := k * 4 + 3) (v := .string nw) rfl rfl (GB.out.q (Q.refl wr).drew) OLD.out (fun w hc hf => by simp [go_sem, hc, hf]) ?_
     intro w5 B5 c5
     refine hK.out _ _ (hHeld.ch c5 (Ne.symm gn)) (fun hHeld12 => ?_)
     clear hK K
     try simp only [Act.put, List.setIfInBounds_toArray, List.set_cons_zero, List.set_cons_succ]
     refine wpAnyH_done (by kernel_rfl) ?_ _
     have L5 : Hid (PuL wC b12 A (some ⟨g, 0, none⟩) qI pO qO pW qW (k + 1) w5) := (LK.out.up (Q.refl wr).drew).step gw gn gl GC.out B5 c5
     have d3 : w5.cell? ⟨g, k * 4 + 3, none⟩ = some (.string nw) := B5.at_ _ _ (by rw [List.getElem?_set_self]; exact (List.getElem?_eq_some_iff.1 OLD.out).1)
     have c3 := Q.cell' L5.out.q c3.out
     have m0 := L5.out.c.at_ 0 _ rfl
     have a0 := (H.out.up L5.out.q).ba.at_ 0 _ rfl
     have t1 : (nw.toList == sg.toList) = false := by rw [← Bool.not_eq_true, beq_tl]; exact NE.out
     have t2 : nw.toList ≠ sg.toList := by rw [ne_eq, tl_inj]; exact NE.out
     clear LK B5 c5 GB GC OLD HNW NE zs gw gn gl hHeld hHeld8 hHeld12
     as_aux_lemma =>
     go_wp2_with fail
     go_quiet (fail)
     go_wp2_with fail
     have L6 := Lib.hid (L5.out.up ((Q.refl w5).drewN nq))
     go_roundw
     case rel => exact ⟨k + 1, by omega, by go_num, L6⟩
     case measure => simp [intOf]; omega
   · obtain rfl : k = A.nI := by omega
     have k1 : ¬ (A.nI : Int) < (A.nI : Int) := by omega
     have td : decide (A.nI < A.nI) = false := by simp
     as_aux_lemma =>
     go_wp2_with fail
     clear m0 a0 k0 k1 td hk hlt
     have S9 := Lib.hid (H.out.up LK.out.q)
     clear LK H
     obtain ⟨rb, hrb⟩ := bool_of (RightT A)
     obtain ⟨cc, hcc⟩ := enc_of (RightT A) (coreS A)
     obtain ⟨ii, hii⟩ := enc_of (RightT A) (idS A)
     obtain ⟨xx, hxx⟩ := enc_of (RightT A) (txB A)
     obtain ⟨sb, hsb⟩ := bool_of (SamT A B)
     obtain ⟨nm, hnm⟩ : ∃ z, nmS px po = z := ⟨_, rfl⟩
     have RF2 : Hid (∀ w, PuS W B0 b3 b4 b5 A aI cI aO cO aW cW B eI dI eO dO eW dW px po w → Calls Tryz.prog 8 #[txV B eI dI eO dO eW dW] w fun e w' => ∃ f0 f1 f2 f3 f4 f5, e = .returned (txV B f0 f1 f2 f3 f4 f5) ∧ SL IN.cells 4 w' f0 B.nI B.ins ∧ SL OU.cells 9 w' f2 B.nO B.outs ∧ SL WN.cells 10 w' f4 B.p.n B.p.w ∧ Q w w') := fun w h => (ref9_x B eI dI eO dO eW dW w (h.ob.i.sl in_len) (h.ob.o.sl out_len) (h.ob.w.sl win_len) OKB.out.nI OKB.out.nO OKB.out.p.n).mono fun e w' h => by
      obtain ⟨f0, f1, f2, f3, f4, f5, h0, h1, h2⟩ := h
      exact ⟨f0, f1, f2, f3, f4, f5, h0, h1.i.sl in_len, h1.o.sl out_len, h1.w.sl win_len, h2⟩
     have R1 : Hid (∀ w, PuS W B0 b3 b4 b5 A aI cI aO cO aW cW B eI dI eO dO eW dW px po w → Calls Tryz.prog 14 #[txV A aI cI aO cO aW cW] w fun e w' => e = .returned (.bool rb) ∧ Q w w') := fun w h => (right_x A aI aO aW cI cO cW w h.oa.tm OKA.out).mono fun e w' k => tells_b hrb k
     have K1 : Hid (∀ w, PuS W B0 b3 b4 b5 A aI cI aO cO aW cW B eI dI eO dO eW dW px po w → Calls Tryz.prog 16 #[txV A aI cI aO cO aW cW] w fun e w' => e = .returned (.string cc) ∧ Q w w') := fun w h => (core_x A aI aO aW cI cO cW w h.oa.tm OKA.out).mono fun e w' k => enc_b hcc k
     have I1 : Hid (∀ w, PuS W B0 b3 b4 b5 A aI cI aO cO aW cW B eI dI eO dO eW dW px po w → Calls Tryz.prog 18 #[txV A aI cI aO cO aW cW] w fun e w' => e = .returned (.string ii) ∧ Q w w') := fun w h => (id_x A aI aO aW cI cO cW w (hG.out.q h.q) h.oa.tm OKA.out).mono fun e w' k => enc_b hii k
     have E1 : Hid (∀ w, PuS W B0 b3 b4 b5 A aI cI aO cO aW cW B eI dI eO dO eW dW px po w → Calls Tryz.prog 20 #[txV A aI cI aO cO aW cW] w fun e w' => e = .returned (.string xx) ∧ Q w w') := fun w h => (encode_x A aI aO aW cI cO cW w h.oa.tm OKA.out).mono fun e w' k => enc_b hxx k
     have M1 : Hid (∀ w, PuS W B0 b3 b4 b5 A aI cI aO cO aW cW B eI dI eO dO eW dW px po w → Calls Tryz.prog 13 #[txV A aI cI aO cO aW cW, txV B eI dI eO dO eW dW] w fun e w' => e = .returned (.bool sb) ∧ Q w w') := fun w h => (same_x A B aI aO aW eI eO eW cI cO cW dI dO dW w h.oa.tm h.ob.tm OKA.out OKB.out).mono fun e w' k => tells_b hsb k
     have N1 : Hid (∀ w, PuS W B0 b3 b4 b5 A aI cI aO cO aW cW B eI dI eO dO eW dW px po w → Calls Tryz.prog 23 #[.agg #[.string px, .int .i64 po]] w fun e w' => e = .returned (.string nm) ∧ Q w w') := fun w h => by rw [← hnm]; exact name_x px po w (hG.out.q h.q) OKP.out
     have N2 : Hid (∀ w, PuS W B0 b3 b4 b5 A aI cI aO cO aW cW B eI dI eO dO eW dW px po w → Calls Tryz.prog 24 #[.agg #[.string px, .int .i64 po]] w fun e w' => e = .returned (.string nm) ∧ Q w w') := fun w h => by rw [← hnm]; exact d9name_x px po w OKP.out
     have FX : Hid (∀ w, PuS W B0 b3 b4 b5 A aI cI aO cO aW cW B eI dI eO dO eW dW px po w → Calls Tryz.prog 25 #[] w fun e w' => e = .returned (.bool true) ∧ Q w w') := fun w h => fixed_x (hG.out.q h.q) w (Q.refl w)
     have R2 : Hid (∀ f0 f1 f2 f3 f4 f5 w, SL IN.cells 4 w f0 A.nI A.ins → SL OU.cells 9 w f2 A.nO A.outs → SL WN.cells 10 w f4 A.p.n A.p.w → Calls Tryz.prog 15 #[txV A f0 f1 f2 f3 f4 f5] w fun e w' => e = .returned (.bool rb) ∧ Q w w') := fun f0 f1 f2 f3 f4 f5 w h1 h2 h3 => (d9right_x A f0 f1 f2 f3 f4 f5 w h1 h2 h3 OKA.out).mono fun e w' k => tells_b hrb k
     have K2 : Hid (∀ f0 f1 f2 f3 f4 f5 w, SL IN.cells 4 w f0 A.nI A.ins → SL OU.cells 9 w f2 A.nO A.outs → SL WN.cells 10 w f4 A.p.n A.p.w → Calls Tryz.prog 17 #[txV A f0 f1 f2 f3 f4 f5] w fun e w' => e = .returned (.string cc) ∧ Q w w') := fun f0 f1 f2 f3 f4 f5 w h1 h2 h3 => (d9coreof_x A f0 f1 f2 f3 f4 f5 w h1 h2 h3 OKA.out).mono fun e w' k => enc_b hcc k
     have I2 : Hid (∀ f0 f1 f2 f3 f4 f5 w, SL IN.cells 4 w f0 A.nI A.ins → SL OU.cells 9 w f2 A.nO A.outs → SL WN.cells 10 w f4 A.p.n A.p.w → Calls Tryz.prog 19 #[txV A f0 f1 f2 f3 f4 f5] w fun e w' => e = .returned (.string ii) ∧ Q w w') := fun f0 f1 f2 f3 f4 f5 w h1 h2 h3 => (d9id_x A f0 f1 f2 f3 f4 f5 w h1 h2 h3 OKA.out).mono fun e w' k => enc_b hii k
     have E2 : Hid (∀ f0 f1 f2 f3 f4 f5 w, SL IN.cells 4 w f0 A.nI A.ins → SL OU.cells 9 w f2 A.nO A.outs → SL WN.cells 10 w f4 A.p.n A.p.w → Calls Tryz.prog 21 #[txV A f0 f1 f2 f3 f4 f5] w fun e w' => e = .returned (.string xx) ∧ Q w w') := fun f0 f1 f2 f3 f4 f5 w h1 h2 h3 => (d9encode_x A f0 f1 f2 f3 f4 f5 w h1 h2 h3 OKA.out).mono fun e w' k => enc_b hxx k
     have M2 : Hid (∀ f0 f1 f2 f3 f4 f5 r0 r1 r2 r3 r4 r5 w, SL IN.cells 4 w f0 A.nI A.ins → SL OU.cells 9 w f2 A.nO A.outs → SL WN.cells 10 w f4 A.p.n A.p.w → SL IN.cells 4 w r0 B.nI B.ins → SL OU.cells 9 w r2 B.nO B.outs → SL WN.cells 10 w r4 B.p.n B.p.w → Calls Tryz.prog 22 #[txV A f0 f1 f2 f3 f4 f5, txV B r0 r1 r2 r3 r4 r5] w fun e w' => e = .returned (.bool sb) ∧ Q w w') := fun f0 f1 f2 f3 f4 f5 r0 r1 r2 r3 r4 r5 w h1 h2 h3 h4 h5 h6 => (d9same_x A B f0 f1 f2 f3 f4 f5 r0 r1 r2 r3 r4 r5 w h1 h2 h3 h4 h5 h6 OKA.out.nI OKA.out.nO OKA.out.p.n OKB.out.nI OKB.out.nO OKB.out.p.n).mono fun e w' k => tells_b hsb k
     clear hrb hcc hii hxx hsb hnm hG OKA OKB OKP
     as_aux_lemma =>
     have hS0 : Q wr wr.drew := (Q.refl wr).drew
     refine region_gen3 ?_
     intro OPS QQ A0 hO hQQ hA
     have hz : A0.tmps.size = 166 := by rw [hA]; rfl
     have hs : sound OPS A0.tmps.size = true := by rw [hz, hO]; kernel_rfl
     have b_3 : A0.eval (.tmp 3) = .pointer (some ⟨b3, 0, none⟩) := by rw [hA]; rfl
     have fr_3 : free OPS 3 = true := by rw [hO]; kernel_rfl
     have b_4 : A0.eval (.tmp 4) = .pointer (some ⟨b4, 0, none⟩) := by rw [hA]; rfl
     have fr_4 : free OPS 4 = true := by rw [hO]; kernel_rfl
     have b_5 : A0.eval (.tmp 5) = .pointer (some ⟨b5, 0, none⟩) := by rw [hA]; rfl
     have fr_5 : free OPS 5 = true := by rw [hO]; kernel_rfl
     have b_7 : A0.eval (.tmp 7) = .int .u64 nv := by rw [hA]; rfl
     have fr_7 : free OPS 7 = true := by rw [hO]; kernel_rfl
     have b_8 : A0.eval (.tmp 8) = .int .i64 ne := by rw [hA]; rfl
     have fr_8 : free OPS 8 = true := by rw [hO]; kernel_rfl
     have b_9 : A0.eval (.tmp 9) = .int .u64 nv := by rw [hA]; rfl
     have fr_9 : free OPS 9 = true := by rw [hO]; kernel_rfl
     have b_10 : A0.eval (.tmp 10) = .int .i64 ne := by rw [hA]; rfl
     have fr_10 : free OPS 10 = true := by rw [hO]; kernel_rfl
     obtain ⟨VV, hVV⟩ : ∃ V : Nat → Value → World → Prop, V = fun i => ([fun v _ => v = txV A aI cI aO cO aW cW, fun v _ => v = .bool rb, fun v _ => v = txV A aI cI aO cO aW cW, fun v w => ∃ f0 f1 f2 f3 f4 f5, v = txV A f0 f1 f2 f3 f4 f5 ∧ SL IN.cells 4 w f0 A.nI A.ins ∧ SL OU.cells 9 w f2 A.nO A.outs ∧ SL WN.cells 10 w f4 A.p.n A.p.w, fun v _ => v = .bool rb, fun v _ => v = .bool true, fun v _ => v = .bool true, fun v _ => v = txV A aI cI aO cO aW cW, fun v _ => v = .string cc, fun v _ => v = txV A aI cI aO cO aW cW, fun v w => ∃ f0 f1 f2 f3 f4 f5, v = txV A f0 f1 f2 f3 f4 f5 ∧ SL IN.cells 4 w f0 A.nI A.ins ∧ SL OU.cells 9 w f2 A.nO A.outs ∧ SL WN.cells 10 w f4 A.p.n A.p.w, fun v _ => v = .string cc, fun v _ => v = .bool true, fun v _ => v = .bool true, fun v _ => v = .bool true, fun v _ => v = txV A aI cI aO cO aW cW, fun v _ => v = .string ii, fun v _ => v = txV A aI cI aO cO aW cW, fun v w => ∃ f0 f1 f2 f3 f4 f5, v = txV A f0 f1 f2 f3 f4 f5 ∧ SL IN.cells 4 w f0 A.nI A.ins ∧ SL OU.cells 9 w f2 A.nO A.outs ∧ SL WN.cells 10 w f4 A.p.n A.p.w, fun v _ => v = .string ii, fun v _ => v = .bool true, fun v _ => v = .bool true, fun v _ => v = .bool true, fun v _ => v = txV A aI cI aO cO aW cW, fun v _ => v = .string xx, fun v _ => v = txV A aI cI aO cO aW cW, fun v w => ∃ f0 f1 f2 f3 f4 f5, v = txV A f0 f1 f2 f3 f4 f5 ∧ SL IN.cells 4 w f0 A.nI A.ins ∧ SL OU.cells 9 w f2 A.nO A.outs ∧ SL WN.cells 10 w f4 A.p.n A.p.w, fun v _ => v = .string xx, fun v _ => v = .bool true, fun v _ => v = .bool true, fun v _ => v = .bool true, fun v _ => v = txV A aI cI aO cO aW cW, fun v _ => v = txV B eI dI eO dO eW dW, fun v _ => v = .bool sb, fun v _ => v = txV A aI cI aO cO aW cW, fun v w => ∃ f0 f1 f2 f3 f4 f5, v = txV A f0 f1 f2 f3 f4 f5 ∧ SL IN.cells 4 w f0 A.nI A.ins ∧ SL OU.cells 9 w f2 A.nO A.outs ∧ SL WN.cells 10 w f4 A.p.n A.p.w, fun v _ => v = txV B eI dI eO dO eW dW, fun v w => ∃ f0 f1 f2 f3 f4 f5, v = txV B f0 f1 f2 f3 f4 f5 ∧ SL IN.cells 4 w f0 B.nI B.ins ∧ SL OU.cells 9 w f2 B.nO B.outs ∧ SL WN.cells 10 w f4 B.p.n B.p.w, fun v _ => v = .bool sb, fun v _ => v = .bool true, fun v _ => v = .bool true, fun v _ => v = .bool true, fun v _ => v = .agg #[.string px, .int .i64 po], fun v _ => v = .string nm, fun v _ => v = .agg #[.string px, .int .i64 po], fun v _ => v = .string nm, fun v _ => v = .bool true, fun v _ => v = .bool true, fun v _ => v = .bool true, fun v _ => v = .int .u64 nv, fun v _ => v = .int .u64 nv, fun v _ => v = .bool true, fun v _ => v = .bool true, fun v _ => v = .bool true, fun v _ => v = .int .i64 ne, fun v _ => v = .int .i64 ne, fun v _ => v = .bool true, fun v _ => v = .bool true, fun v _ => v = .bool true, fun v _ => v = .bool true, fun v _ => v = .bool true, fun v _ => v = .bool true] : List (Value → World → Prop)).getD i (fun _ _ => True) := ⟨_, rfl⟩
     have v_0 : VV 0 = fun v _ => v = txV A aI cI aO cO aW cW := vat hVV 0
     have v_1 : VV 1 = fun v _ => v = .bool rb := vat hVV 1
     have v_2 : VV 2 = fun v _ => v = txV A aI cI aO cO aW cW := vat hVV 2
     have v_3 : VV 3 = fun v w => ∃ f0 f1 f2 f3 f4 f5, v = txV A f0 f1 f2 f3 f4 f5 ∧ SL IN.cells 4 w f0 A.nI A.ins ∧ SL OU.cells 9 w f2 A.nO A.outs ∧ SL WN.cells 10 w f4 A.p.n A.p.w := vat hVV 3
     have v_4 : VV 4 = fun v _ => v = .bool rb := vat hVV 4
     have v_5 : VV 5 = fun v _ => v = .bool true := vat hVV 5
     have v_6 : VV 6 = fun v _ => v = .bool true := vat hVV 6
     have v_7 : VV 7 = fun v _ => v = txV A aI cI aO cO aW cW := vat hVV 7
     have v_8 : VV 8 = fun v _ => v = .string cc := vat hVV 8
     have v_9 : VV 9 = fun v _ => v = txV A aI cI aO cO aW cW := vat hVV 9
     have v_10 : VV 10 = fun v w => ∃ f0 f1 f2 f3 f4 f5, v = txV A f0 f1 f2 f3 f4 f5 ∧ SL IN.cells 4 w f0 A.nI A.ins ∧ SL OU.cells 9 w f2 A.nO A.outs ∧ SL WN.cells 10 w f4 A.p.n A.p.w := vat hVV 10
     have v_11 : VV 11 = fun v _ => v = .string cc := vat hVV 11
     have v_12 : VV 12 = fun v _ => v = .bool true := vat hVV 12
     have v_13 : VV 13 = fun v _ => v = .bool true := vat hVV 13
     have v_14 : VV 14 = fun v _ => v = .bool true := vat hVV 14
     have v_15 : VV 15 = fun v _ => v = txV A aI cI aO cO aW cW := vat hVV 15
     have v_16 : VV 16 = fun v _ => v = .string ii := vat hVV 16
     have v_17 : VV 17 = fun v _ => v = txV A aI cI aO cO aW cW := vat hVV 17
     have v_18 : VV 18 = fun v w => ∃ f0 f1 f2 f3 f4 f5, v = txV A f0 f1 f2 f3 f4 f5 ∧ SL IN.cells 4 w f0 A.nI A.ins ∧ SL OU.cells 9 w f2 A.nO A.outs ∧ SL WN.cells 10 w f4 A.p.n A.p.w := vat hVV 18
     have v_19 : VV 19 = fun v _ => v = .string ii := vat hVV 19
     have v_20 : VV 20 = fun v _ => v = .bool true := vat hVV 20
     have v_21 : VV 21 = fun v _ => v = .bool true := vat hVV 21
     have v_22 : VV 22 = fun v _ => v = .bool true := vat hVV 22
     have v_23 : VV 23 = fun v _ => v = txV A aI cI aO cO aW cW := vat hVV 23
     have v_24 : VV 24 = fun v _ => v = .string xx := vat hVV 24
     have v_25 : VV 25 = fun v _ => v = txV A aI cI aO cO aW cW := vat hVV 25
     have v_26 : VV 26 = fun v w => ∃ f0 f1 f2 f3 f4 f5, v = txV A f0 f1 f2 f3 f4 f5 ∧ SL IN.cells 4 w f0 A.nI A.ins ∧ SL OU.cells 9 w f2 A.nO A.outs ∧ SL WN.cells 10 w f4 A.p.n A.p.w := vat hVV 26
     have v_27 : VV 27 = fun v _ => v = .string xx := vat hVV 27
     have v_28 : VV 28 = fun v _ => v = .bool true := vat hVV 28
     have v_29 : VV 29 = fun v _ => v = .bool true := vat hVV 29
     have v_30 : VV 30 = fun v _ => v = .bool true := vat hVV 30
     have v_31 : VV 31 = fun v _ => v = txV A aI cI aO cO aW cW := vat hVV 31
     have v_32 : VV 32 = fun v _ => v = txV B eI dI eO dO eW dW := vat hVV 32
     have v_33 : VV 33 = fun v _ => v = .bool sb := vat hVV 33
     have v_34 : VV 34 = fun v _ => v = txV A aI cI aO cO aW cW := vat hVV 34
     have v_35 : VV 35 = fun v w => ∃ f0 f1 f2 f3 f4 f5, v = txV A f0 f1 f2 f3 f4 f5 ∧ SL IN.cells 4 w f0 A.nI A.ins ∧ SL OU.cells 9 w f2 A.nO A.outs ∧ SL WN.cells 10 w f4 A.p.n A.p.w := vat hVV 35
     have v_36 : VV 36 = fun v _ => v = txV B eI dI eO dO eW dW := vat hVV 36
     have v_37 : VV 37 = fun v w => ∃ f0 f1 f2 f3 f4 f5, v = txV B f0 f1 f2 f3 f4 f5 ∧ SL IN.cells 4 w f0 B.nI B.ins ∧ SL OU.cells 9 w f2 B.nO B.outs ∧ SL WN.cells 10 w f4 B.p.n B.p.w := vat hVV 37
     have v_38 : VV 38 = fun v _ => v = .bool sb := vat hVV 38
     have v_39 : VV 39 = fun v _ => v = .bool true := vat hVV 39
     have v_40 : VV 40 = fun v _ => v = .bool true := vat hVV 40
     have v_41 : VV 41 = fun v _ => v = .bool true := vat hVV 41
     have v_42 : VV 42 = fun v _ => v = .agg #[.string px, .int .i64 po] := vat hVV 42
     have v_43 : VV 43 = fun v _ => v = .string nm := vat hVV 43
     have v_44 : VV 44 = fun v _ => v = .agg #[.string px, .int .i64 po] := vat hVV 44
     have v_45 : VV 45 = fun v _ => v = .string nm := vat hVV 45
     have v_46 : VV 46 = fun v _ => v = .bool true := vat hVV 46
     have v_47 : VV 47 = fun v _ => v = .bool true := vat hVV 47
     have v_48 : VV 48 = fun v _ => v = .bool true := vat hVV 48
     have v_49 : VV 49 = fun v _ => v = .int .u64 nv := vat hVV 49
     have v_50 : VV 50 = fun v _ => v = .int .u64 nv := vat hVV 50
     have v_51 : VV 51 = fun v _ => v = .bool true := vat hVV 51
     have v_52 : VV 52 = fun v _ => v = .bool true := vat hVV 52
     have v_53 : VV 53 = fun v _ => v = .bool true := vat hVV 53
     have v_54 : VV 54 = fun v _ => v = .int .i64 ne := vat hVV 54
     have v_55 : VV 55 = fun v _ => v = .int .i64 ne := vat hVV 55
     have v_56 : VV 56 = fun v _ => v = .bool true := vat hVV 56
     have v_57 : VV 57 = fun v _ => v = .bool true := vat hVV 57
     have v_58 : VV 58 = fun v _ => v = .bool true := vat hVV 58
     have v_59 : VV 59 = fun v _ => v = .bool true := vat hVV 59
     have v_60 : VV 60 = fun v _ => v = .bool true := vat hVV 60
     have v_61 : VV 61 = fun v _ => v = .bool true := vat hVV 61
     have hV := stable_of (T := Q) hVV ((sl_cons (fun _ _ _ h _ => h) (sl_cons (fun _ _ _ h _ => h) (sl_cons (fun _ _ _ h _ => h) (sl_cons (fun v w w' h t => by obtain ⟨f0, f1, f2, f3, f4, f5, h0, h1, h2, h3⟩ := h; exact ⟨f0, f1, f2, f3, f4, f5, h0, h1.q t, h2.q t, h3.q t⟩) (sl_cons (fun _ _ _ h _ => h) (sl_cons (fun _ _ _ h _ => h) (sl_cons (fun _ _ _ h _ => h) (sl_cons (fun _ _ _ h _ => h) (sl_cons (fun _ _ _ h _ => h) (sl_cons (fun _ _ _ h _ => h) (sl_cons (fun v w w' h t => by obtain ⟨f0, f1, f2, f3, f4, f5, h0, h1, h2, h3⟩ := h; exact ⟨f0, f1, f2, f3, f4, f5, h0, h1.q t, h2.q t, h3.q t⟩) (sl_cons (fun _ _ _ h _ => h) (sl_cons (fun _ _ _ h _ => h) (sl_cons (fun _ _ _ h _ => h) (sl_cons (fun _ _ _ h _ => h) (sl_cons (fun _ _ _ h _ => h) (sl_cons (fun _ _ _ h _ => h) (sl_cons (fun _ _ _ h _ => h) (sl_cons (fun v w w' h t => by obtain ⟨f0, f1, f2, f3, f4, f5, h0, h1, h2, h3⟩ := h; exact ⟨f0, f1, f2, f3, f4, f5, h0, h1.q t, h2.q t, h3.q t⟩) (sl_cons (fun _ _ _ h _ => h) (sl_cons (fun _ _ _ h _ => h) (sl_cons (fun _ _ _ h _ => h) (sl_cons (fun _ _ _ h _ => h) (sl_cons (fun _ _ _ h _ => h) (sl_cons (fun _ _ _ h _ => h) (sl_cons (fun _ _ _ h _ => h) (sl_cons (fun v w w' h t => by obtain ⟨f0, f1, f2, f3, f4, f5, h0, h1, h2, h3⟩ := h; exact ⟨f0, f1, f2, f3, f4, f5, h0, h1.q t, h2.q t, h3.q t⟩) (sl_cons (fun _ _ _ h _ => h) (sl_cons (fun _ _ _ h _ => h) (sl_cons (fun _ _ _ h _ => h) (sl_cons (fun _ _ _ h _ => h) (sl_cons (fun _ _ _ h _ => h) (sl_cons (fun _ _ _ h _ => h) (sl_cons (fun _ _ _ h _ => h) (sl_cons (fun _ _ _ h _ => h) (sl_cons (fun v w w' h t => by obtain ⟨f0, f1, f2, f3, f4, f5, h0, h1, h2, h3⟩ := h; exact ⟨f0, f1, f2, f3, f4, f5, h0, h1.q t, h2.q t, h3.q t⟩) (sl_cons (fun _ _ _ h _ => h) (sl_cons (fun v w w' h t => by obtain ⟨f0, f1, f2, f3, f4, f5, h0, h1, h2, h3⟩ := h; exact ⟨f0, f1, f2, f3, f4, f5, h0, h1.q t, h2.q t, h3.q t⟩) (sl_cons (fun _ _ _ h _ => h) (sl_cons (fun _ _ _ h _ => h) (sl_cons (fun _ _ _ h _ => h) (sl_cons (fun _ _ _ h _ => h) (sl_cons (fun _ _ _ h _ => h) (sl_cons (fun _ _ _ h _ => h) (sl_cons (fun _ _ _ h _ => h) (sl_cons (fun _ _ _ h _ => h) (sl_cons (fun _ _ _ h _ => h) (sl_cons (fun _ _ _ h _ => h) (sl_cons (fun _ _ _ h _ => h) (sl_cons (fun _ _ _ h _ => h) (sl_cons (fun _ _ _ h _ => h) (sl_cons (fun _ _ _ h _ => h) (sl_cons (fun _ _ _ h _ => h) (sl_cons (fun _ _ _ h _ => h) (sl_cons (fun _ _ _ h _ => h) (sl_cons (fun _ _ _ h _ => h) (sl_cons (fun _ _ _ h _ => h) (sl_cons (fun _ _ _ h _ => h) (sl_cons (fun _ _ _ h _ => h) (sl_cons (fun _ _ _ h _ => h) (sl_cons (fun _ _ _ h _ => h) (sl_cons (fun _ _ _ h _ => h) trivial)))))))))))))))))))))))))))))))))))))))))))))))))))))))))))))))
     clear hVV
     have i_0 := pget_at hO 0 rfl
     have i_1 := pget_at hO 1 rfl
     have i_2 := pget_at hO 2 rfl
     have i_3 := pget_at hO 3 rfl
     have i_4 := pget_at hO 4 rfl
     have i_5 := pget_at hO 5 rfl
     have i_6 := pget_at hO 6 rfl
     have i_7 := pget_at hO 7 rfl
     have i_8 := pget_at hO 8 rfl
     have i_9 := pget_at hO 9 rfl
     have i_10 := pget_at hO 10 rfl
     have i_11 := pget_at hO 11 rfl
     have i_12 := pget_at hO 12 rfl
     have i_13 := pget_at hO 13 rfl
     have i_14 := pget_at hO 14 rfl
     have i_15 := pget_at hO 15 rfl
     have i_16 := pget_at hO 16 rfl
     have i_17 := pget_at hO 17 rfl
     have i_18 := pget_at hO 18 rfl
     have i_19 := pget_at hO 19 rfl
     have i_20 := pget_at hO 20 rfl
     have i_21 := pget_at hO 21 rfl
     have i_22 := pget_at hO 22 rfl
     have i_23 := pget_at hO 23 rfl
     have i_24 := pget_at hO 24 rfl
     have i_25 := pget_at hO 25 rfl
     have i_26 := pget_at hO 26 rfl
     have i_27 := pget_at hO 27 rfl
     have i_28 := pget_at hO 28 rfl
     have i_29 := pget_at hO 29 rfl
     have i_30 := pget_at hO 30 rfl
     have i_31 := pget_at hO 31 rfl
     have i_32 := pget_at hO 32 rfl
     have i_33 := pget_at hO 33 rfl
     have i_34 := pget_at hO 34 rfl
     have i_35 := pget_at hO 35 rfl
     have i_36 := pget_at hO 36 rfl
     have i_37 := pget_at hO 37 rfl
     have i_38 := pget_at hO 38 rfl
     have i_39 := pget_at hO 39 rfl
     have i_40 := pget_at hO 40 rfl
     have i_41 := pget_at hO 41 rfl
     have i_42 := pget_at hO 42 rfl
     have i_43 := pget_at hO 43 rfl
     have i_44 := pget_at hO 44 rfl
     have i_45 := pget_at hO 45 rfl
     have i_46 := pget_at hO 46 rfl
     have i_47 := pget_at hO 47 rfl
     have i_48 := pget_at hO 48 rfl
     have i_49 := pget_at hO 49 rfl
     have i_50 := pget_at hO 50 rfl
     have i_51 := pget_at hO 51 rfl
     have i_52 := pget_at hO 52 rfl
     have i_53 := pget_at hO 53 rfl
     have i_54 := pget_at hO 54 rfl
     have i_55 := pget_at hO 55 rfl
     have i_56 := pget_at hO 56 rfl
     have i_57 := pget_at hO 57 rfl
     have i_58 := pget_at hO 58 rfl
     have i_59 := pget_at hO 59 rfl
     have i_60 := pget_at hO 60 rfl
     have i_61 := pget_at hO 61 rfl
     have MK41 := @Step.pure Tryz.prog OPS QQ VV Q (Q wr) A0
     have s_0 := MK41 i_0 (txV A aI cI aO cO aW cW) (Q.refl ·) (fun l a w hI hl => ⟨wanted_none rfl, ex_loado 29 rfl b3 0 [.slice aI A.nI cI, .slice aO A.nO cO, .int .u64 A.p.amount, .string A.p.sig, .string A.p.token, .slice aW A.p.n cW] _ ((hI.base 3 fr_3).trans b_3) (((S9.out.up hI.st)).ba.rangeo 0 (r := []) rfl) Tryz.underlying29 rfl (by kernel_rfl), at_mk v_0 rfl⟩)
     have s_1 := Step.call (P := Tryz.prog) (V := VV) (T := Q) (S := (Q wr)) (a0 := A0) (Qx := QQ) (R := fun _ _ _ => True) i_1 (fun l a w hI hl => by
      refine ⟨wanted_none rfl, 14, #[txV A aI cI aO cO aW cW], ?_, ?_⟩
      · exact ex_call rfl (by simp only [List.map_toArray, List.map_cons, List.map_nil, ev_const, (show a.eval (.tmp 105) = _ from (at_eq v_0 (hI.at_ 0 105 _ i_0 rfl (hl_at hl 0 rfl rfl))))]) Tryz.func14 (by kernel_rfl) (by kernel_rfl)
      · exact (R1.out w (S9.out.up hI.st)).mono fun e w' hc => by
         obtain ⟨rfl, hq⟩ := hc
         exact ⟨_, rfl, hq, hI.st.trans hq, at_mk v_1 rfl⟩)
     have s_2 := MK41 i_2 (txV A aI cI aO cO aW cW) (Q.refl ·) (fun l a w hI hl => ⟨wanted_none rfl, ex_loado 29 rfl b3 0 [.slice aI A.nI cI, .slice aO A.nO cO, .int .u64 A.p.amount, .string A.p.sig, .string A.p.token, .slice aW A.p.n cW] _ ((hI.base 3 fr_3).trans b_3) (((S9.out.up hI.st)).ba.rangeo 0 (r := []) rfl) Tryz.underlying29 rfl (by kernel_rfl), at_mk v_2 rfl⟩)
     have MK42 := @Step.done Tryz.prog OPS QQ VV Q (Q wr) A0
     have s_3 := MK42 i_3 (fun l a w hI hl => by
      refine ⟨wanted_none rfl, ?_⟩
      refine wp_enter (f := 8) (args := #[txV A aI cI aO cO aW cW]) ?_ ?_
      · exact ex_call rfl (by simp only [List.map_toArray, List.map_cons, List.map_nil, ev_const, (show a.eval (.tmp 107) = _ from (at_eq v_2 (hI.at_ 2 107 _ i_2 rfl (hl_at hl 0 rfl rfl))))]) Tryz.func8 (by kernel_rfl) (by kernel_rfl)
      · refine (RF.out w (S9.out.up hI.st)).mono fun e w' hc => ?_
        obtain ⟨f0, f1, f2, f3, f4, f5, rfl, h1, h2, h3, hq⟩ := hc
        exact ⟨_, rfl, hq, hI.st.trans hq, p_at v_3 ⟨f0, f1, f2, f3, f4, f5, rfl, h1, h2, h3⟩⟩)
     have s_4 := MK42 i_4 (fun l a w hI hl => by
      obtain ⟨f0, f1, f2, f3, f4, f5, e23, h1, h2, h3⟩ := at_p v_3 (hI.at_ 3 108 _ i_3 rfl (hl_at hl 0 rfl rfl))
      refine ⟨wanted_none rfl, ?_⟩
      refine wp_enter (f := 15) (args := #[txV A f0 f1 f2 f3 f4 f5]) ?_ ?_
      · exact ex_call rfl (by simp only [List.map_toArray, List.map_cons, List.map_nil, ev_const, (show a.eval (.tmp 108) = _ from e23)]) Tryz.func15 (by kernel_rfl) (by kernel_rfl)
      · refine (R2.out f0 f1 f2 f3 f4 f5 w h1 h2 h3).mono fun e w' hc => ?_
        obtain ⟨rfl, hq⟩ := hc
        exact ⟨_, rfl, hq, hI.st.trans hq, at_mk v_4 rfl⟩)
     have s_5 := MK41 i_5 (.bool true) (Q.refl ·) (fun l a w hI hl => ⟨wanted_none rfl, ex_bin rfl (at_eq v_1 (hI.at_ 1 106 _ i_1 rfl (hl_at hl 0 rfl rfl))) (at_eq v_4 (hI.at_ 4 109 _ i_4 rfl (hl_at hl 1 rfl rfl))) (eqb_samep _ _ _ _), at_mk v_5 rfl⟩)
     have s_6 := MK41 i_6 (.bool true) (Q.refl ·) (fun l a w hI hl => ⟨wanted_none rfl, ex_move rfl (at_eq v_5 (hI.at_ 5 110 _ i_5 rfl (hl_at hl 0 rfl rfl))), at_mk v_6 rfl⟩)
     have s_7 := MK41 i_7 (txV A aI cI aO cO aW cW) (Q.refl ·) (fun l a w hI hl => ⟨wanted_of rfl i_6 rfl (lt_of hI hz rfl) (at_eq v_6 (hI.at_ 6 111 _ i_6 rfl (hl_at hl 0 rfl rfl))), ex_loado 29 rfl b3 0 [.slice aI A.nI cI, .slice aO A.nO cO, .int .u64 A.p.amount, .string A.p.sig, .string A.p.token, .slice aW A.p.n cW] _ ((hI.base 3 fr_3).trans b_3) (((S9.out.up hI.st)).ba.rangeo 0 (r := []) rfl) Tryz.underlying29 rfl (by kernel_rfl), at_mk v_7 rfl⟩)
     have s_8 := Step.call (P := Tryz.prog) (V := VV) (T := Q) (S := (Q wr)) (a0 := A0) (Qx := QQ) (R := fun _ _ _ => True) i_8 (fun l a w hI hl => by
      refine ⟨wanted_of rfl i_6 rfl (lt_of hI hz rfl) (at_eq v_6 (hI.at_ 6 111 _ i_6 rfl (hl_at hl 1 rfl rfl))), 16, #[txV A aI cI aO cO aW cW], ?_, ?_⟩
      · exact ex_call rfl (by simp only [List.map_toArray, List.map_cons, List.map_nil, ev_const, (show a.eval (.tmp 112) = _ from (at_eq v_7 (hI.at_ 7 112 _ i_7 rfl (hl_at hl 0 rfl rfl))))]) Tryz.func16 (by kernel_rfl) (by kernel_rfl)
      · exact (K1.out w (S9.out.up hI.st)).mono fun e w' hc => by
         obtain ⟨rfl, hq⟩ := hc
         exact ⟨_, rfl, hq, hI.st.trans hq, at_mk v_8 rfl⟩)
     have s_9 := MK41 i_9 (txV A aI cI aO cO aW cW) (Q.refl ·) (fun l a w hI hl => ⟨wanted_of rfl i_6 rfl (lt_of hI hz rfl) (at_eq v_6 (hI.at_ 6 111 _ i_6 rfl (hl_at hl 0 rfl rfl))), ex_loado 29 rfl b3 0 [.slice aI A.nI cI, .slice aO A.nO cO, .int .u64 A.p.amount, .string A.p.sig, .string A.p.token, .slice aW A.p.n cW] _ ((hI.base 3 fr_3).trans b_3) (((S9.out.up hI.st)).ba.rangeo 0 (r := []) rfl) Tryz.underlying29 rfl (by kernel_rfl), at_mk v_9 rfl⟩)
     have s_10 := MK42 i_10 (fun l a w hI hl => by
      refine ⟨wanted_of rfl i_6 rfl (lt_of hI hz rfl) (at_eq v_6 (hI.at_ 6 111 _ i_6 rfl (hl_at hl 2 rfl rfl))), ?_⟩
      refine wp_enter (f := 8) (args := #[txV A aI cI aO cO aW cW]) ?_ ?_
      · exact ex_call rfl (by simp only [List.map_toArray, List.map_cons, List.map_nil, ev_const, (show a.eval (.tmp 114) = _ from (at_eq v_9 (hI.at_ 9 114 _ i_9 rfl (hl_at hl 0 rfl rfl))))]) Tryz.func8 (by kernel_rfl) (by kernel_rfl)
      · refine (RF.out w (S9.out.up hI.st)).mono fun e w' hc => ?_
        obtain ⟨f0, f1, f2, f3, f4, f5, rfl, h1, h2, h3, hq⟩ := hc
        exact ⟨_, rfl, hq, hI.st.trans hq, p_at v_10 ⟨f0, f1, f2, f3, f4, f5, rfl, h1, h2, h3⟩⟩)
     have s_11 := MK42 i_11 (fun l a w hI hl => by
      obtain ⟨f0, f1, f2, f3, f4, f5, e23, h1, h2, h3⟩ := at_p v_10 (hI.at_ 10 115 _ i_10 rfl (hl_at hl 0 rfl rfl))
      refine ⟨wanted_of rfl i_6 rfl (lt_of hI hz rfl) (at_eq v_6 (hI.at_ 6 111 _ i_6 rfl (hl_at hl 2 rfl rfl))), ?_⟩
      refine wp_enter (f := 17) (args := #[txV A f0 f1 f2 f3 f4 f5]) ?_ ?_
      · exact ex_call rfl (by simp only [List.map_toArray, List.map_cons, List.map_nil, ev_const, (show a.eval (.tmp 115) = _ from e23)]) Tryz.func17 (by kernel_rfl) (by kernel_rfl)
      · refine (K2.out f0 f1 f2 f3 f4 f5 w h1 h2 h3).mono fun e w' hc => ?_
        obtain ⟨rfl, hq⟩ := hc
        exact ⟨_, rfl, hq, hI.st.trans hq, at_mk v_11 rfl⟩)
     have s_12 := MK41 i_12 (.bool true) (Q.refl ·) (fun l a w hI hl => ⟨wanted_of rfl i_6 rfl (lt_of hI hz rfl) (at_eq v_6 (hI.at_ 6 111 _ i_6 rfl (hl_at hl 2 rfl rfl))), ex_bin rfl (at_eq v_8 (hI.at_ 8 113 _ i_8 rfl (hl_at hl 0 rfl rfl))) (at_eq v_11 (hI.at_ 11 116 _ i_11 rfl (hl_at hl 1 rfl rfl))) (eqs_same _ _ _ _ _), at_mk v_12 rfl⟩)
     have s_13 := MK41 i_13 (.bool true) (Q.refl ·) (fun l a w hI hl => ⟨wanted_none rfl, ex_pick_t rfl (at_eq v_6 (hI.at_ 6 111 _ i_6 rfl (hl_at hl 0 rfl rfl))) (at_eq v_12 (hI.at_ 12 117 _ i_12 rfl (hl_at hl 1 rfl rfl))), at_mk v_13 rfl⟩)
     have s_14 := MK41 i_14 (.bool true) (Q.refl ·) (fun l a w hI hl => ⟨wanted_none rfl, ex_move rfl (at_eq v_13 (hI.at_ 13 118 _ i_13 rfl (hl_at hl 0 rfl rfl))), at_mk v_14 rfl⟩)
     have s_15 := MK41 i_15 (txV A aI cI aO cO aW cW) (Q.refl ·) (fun l a w hI hl => ⟨wanted_of rfl i_14 rfl (lt_of hI hz rfl) (at_eq v_14 (hI.at_ 14 119 _ i_14 rfl (hl_at hl 0 rfl rfl))), ex_loado 29 rfl b3 0 [.slice aI A.nI cI, .slice aO A.nO cO, .int .u64 A.p.amount, .string A.p.sig, .string A.p.token, .slice aW A.p.n cW] _ ((hI.base 3 fr_3).trans b_3) (((S9.out.up hI.st)).ba.rangeo 0 (r := []) rfl) Tryz.underlying29 rfl (by kernel_rfl), at_mk v_15 rfl⟩)
     have s_16 := Step.call (P := Tryz.prog) (V := VV) (T := Q) (S := (Q wr)) (a0 := A0) (Qx := QQ) (R := fun _ _ _ => True) i_16 (fun l a w hI hl => by
      refine ⟨wanted_of rfl i_14 rfl (lt_of hI hz rfl) (at_eq v_14 (hI.at_ 14 119 _ i_14 rfl (hl_at hl 1 rfl rfl))), 18, #[txV A aI cI aO cO aW cW], ?_, ?_⟩
      · exact ex_call rfl (by simp only [List.map_toArray, List.map_cons, List.map_nil, ev_const, (show a.eval (.tmp 120) = _ from (at_eq v_15 (hI.at_ 15 120 _ i_15 rfl (hl_at hl 0 rfl rfl))))]) Tryz.func18 (by kernel_rfl) (by kernel_rfl)
      · exact (I1.out w (S9.out.up hI.st)).mono fun e w' hc => by
         obtain ⟨rfl, hq⟩ := hc
         exact ⟨_, rfl, hq, hI.st.trans hq, at_mk v_16 rfl⟩)
     have s_17 := MK41 i_17 (txV A aI cI aO cO aW cW) (Q.refl ·) (fun l a w hI hl => ⟨wanted_of rfl i_14 rfl (lt_of hI hz rfl) (at_eq v_14 (hI.at_ 14 119 _ i_14 rfl (hl_at hl 0 rfl rfl))), ex_loado 29 rfl b3 0 [.slice aI A.nI cI, .slice aO A.nO cO, .int .u64 A.p.amount, .string A.p.sig, .string A.p.token, .slice aW A.p.n cW] _ ((hI.base 3 fr_3).trans b_3) (((S9.out.up hI.st)).ba.rangeo 0 (r := []) rfl) Tryz.underlying29 rfl (by kernel_rfl), at_mk v_17 rfl⟩)
     have s_18 := MK42 i_18 (fun l a w hI hl => by
      refine ⟨wanted_of rfl i_14 rfl (lt_of hI hz rfl) (at_eq v_14 (hI.at_ 14 119 _ i_14 rfl (hl_at hl 2 rfl rfl))), ?_⟩
      refine wp_enter (f := 8) (args := #[txV A aI cI aO cO aW cW]) ?_ ?_
      · exact ex_call rfl (by simp only [List.map_toArray, List.map_cons, List.map_nil, ev_const, (show a.eval (.tmp 122) = _ from (at_eq v_17 (hI.at_ 17 122 _ i_17 rfl (hl_at hl 0 rfl rfl))))]) Tryz.func8 (by kernel_rfl) (by kernel_rfl)
      · refine (RF.out w (S9.out.up hI.st)).mono fun e w' hc => ?_
        obtain ⟨f0, f1, f2, f3, f4, f5, rfl, h1, h2, h3, hq⟩ := hc
        exact ⟨_, rfl, hq, hI.st.trans hq, p_at v_18 ⟨f0, f1, f2, f3, f4, f5, rfl, h1, h2, h3⟩⟩)
     have s_19 := MK42 i_19 (fun l a w hI hl => by
      obtain ⟨f0, f1, f2, f3, f4, f5, e23, h1, h2, h3⟩ := at_p v_18 (hI.at_ 18 123 _ i_18 rfl (hl_at hl 0 rfl rfl))
      refine ⟨wanted_of rfl i_14 rfl (lt_of hI hz rfl) (at_eq v_14 (hI.at_ 14 119 _ i_14 rfl (hl_at hl 2 rfl rfl))), ?_⟩
      refine wp_enter (f := 19) (args := #[txV A f0 f1 f2 f3 f4 f5]) ?_ ?_
      · exact ex_call rfl (by simp only [List.map_toArray, List.map_cons, List.map_nil, ev_const, (show a.eval (.tmp 123) = _ from e23)]) Tryz.func19 (by kernel_rfl) (by kernel_rfl)
      · refine (I2.out f0 f1 f2 f3 f4 f5 w h1 h2 h3).mono fun e w' hc => ?_
        obtain ⟨rfl, hq⟩ := hc
        exact ⟨_, rfl, hq, hI.st.trans hq, at_mk v_19 rfl⟩)
     have s_20 := MK41 i_20 (.bool true) (Q.refl ·) (fun l a w hI hl => ⟨wanted_of rfl i_14 rfl (lt_of hI hz rfl) (at_eq v_14 (hI.at_ 14 119 _ i_14 rfl (hl_at hl 2 rfl rfl))), ex_bin rfl (at_eq v_16 (hI.at_ 16 121 _ i_16 rfl (hl_at hl 0 rfl rfl))) (at_eq v_19 (hI.at_ 19 124 _ i_19 rfl (hl_at hl 1 rfl rfl))) (eqs_same _ _ _ _ _), at_mk v_20 rfl⟩)
     have s_21 := MK41 i_21 (.bool true) (Q.refl ·) (fun l a w hI hl => ⟨wanted_none rfl, ex_pick_t rfl (at_eq v_14 (hI.at_ 14 119 _ i_14 rfl (hl_at hl 0 rfl rfl))) (at_eq v_20 (hI.at_ 20 125 _ i_20 rfl (hl_at hl 1 rfl rfl))), at_mk v_21 rfl⟩)
     have s_22 := MK41 i_22 (.bool true) (Q.refl ·) (fun l a w hI hl => ⟨wanted_none rfl, ex_move rfl (at_eq v_21 (hI.at_ 21 126 _ i_21 rfl (hl_at hl 0 rfl rfl))), at_mk v_22 rfl⟩)
     have s_23 := MK41 i_23 (txV A aI cI aO cO aW cW) (Q.refl ·) (fun l a w hI hl => ⟨wanted_of rfl i_22 rfl (lt_of hI hz rfl) (at_eq v_22 (hI.at_ 22 127 _ i_22 rfl (hl_at hl 0 rfl rfl))), ex_loado 29 rfl b3 0 [.slice aI A.nI cI, .slice aO A.nO cO, .int .u64 A.p.amount, .string A.p.sig, .string A.p.token, .slice aW A.p.n cW] _ ((hI.base 3 fr_3).trans b_3) (((S9.out.up hI.st)).ba.rangeo 0 (r := []) rfl) Tryz.underlying29 rfl (by kernel_rfl), at_mk v_23 rfl⟩)
     have s_24 := Step.call (P := Tryz.prog) (V := VV) (T := Q) (S := (Q wr)) (a0 := A0) (Qx := QQ) (R := fun _ _ _ => True) i_24 (fun l a w hI hl => by
      refine ⟨wanted_of rfl i_22 rfl (lt_of hI hz rfl) (at_eq v_22 (hI.at_ 22 127 _ i_22 rfl (hl_at hl 1 rfl rfl))), 20, #[txV A aI cI aO cO aW cW], ?_, ?_⟩
      · exact ex_call rfl (by simp only [List.map_toArray, List.map_cons, List.map_nil, ev_const, (show a.eval (.tmp 128) = _ from (at_eq v_23 (hI.at_ 23 128 _ i_23 rfl (hl_at hl 0 rfl rfl))))]) Tryz.func20 (by kernel_rfl) (by kernel_rfl)
      · exact (E1.out w (S9.out.up hI.st)).mono fun e w' hc => by
         obtain ⟨rfl, hq⟩ := hc
         exact ⟨_, rfl, hq, hI.st.trans hq, at_mk v_24 rfl⟩)
     have s_25 := MK41 i_25 (txV A aI cI aO cO aW cW) (Q.refl ·) (fun l a w hI hl => ⟨wanted_of rfl i_22 rfl (lt_of hI hz rfl) (at_eq v_22 (hI.at_ 22 127 _ i_22 rfl (hl_at hl 0 rfl rfl))), ex_loado 29 rfl b3 0 [.slice aI A.nI cI, .slice aO A.nO cO, .int .u64 A.p.amount, .string A.p.sig, .string A.p.token, .slice aW A.p.n cW] _ ((hI.base 3 fr_3).trans b_3) (((S9.out.up hI.st)).ba.rangeo 0 (r := []) rfl) Tryz.underlying29 rfl (by kernel_rfl), at_mk v_25 rfl⟩)
     have s_26 := MK42 i_26 (fun l a w hI hl => by
      refine ⟨wanted_of rfl i_22 rfl (lt_of hI hz rfl) (at_eq v_22 (hI.at_ 22 127 _ i_22 rfl (hl_at hl 2 rfl rfl))), ?_⟩
      refine wp_enter (f := 8) (args := #[txV A aI cI aO cO aW cW]) ?_ ?_
      · exact ex_call rfl (by simp only [List.map_toArray, List.map_cons, List.map_nil, ev_const, (show a.eval (.tmp 130) = _ from (at_eq v_25 (hI.at_ 25 130 _ i_25 rfl (hl_at hl 0 rfl rfl))))]) Tryz.func8 (by kernel_rfl) (by kernel_rfl)
      · refine (RF.out w (S9.out.up hI.st)).mono fun e w' hc => ?_
        obtain ⟨f0, f1, f2, f3, f4, f5, rfl, h1, h2, h3, hq⟩ := hc
        exact ⟨_, rfl, hq, hI.st.trans hq, p_at v_26 ⟨f0, f1, f2, f3, f4, f5, rfl, h1, h2, h3⟩⟩)
     have s_27 := MK42 i_27 (fun l a w hI hl => by
      obtain ⟨f0, f1, f2, f3, f4, f5, e23, h1, h2, h3⟩ := at_p v_26 (hI.at_ 26 131 _ i_26 rfl (hl_at hl 0 rfl rfl))
      refine ⟨wanted_of rfl i_22 rfl (lt_of hI hz rfl) (at_eq v_22 (hI.at_ 22 127 _ i_22 rfl (hl_at hl 2 rfl rfl))), ?_⟩
      refine wp_enter (f := 21) (args := #[txV A f0 f1 f2 f3 f4 f5]) ?_ ?_
      · exact ex_call rfl (by simp only [List.map_toArray, List.map_cons, List.map_nil, ev_const, (show a.eval (.tmp 131) = _ from e23)]) Tryz.func21 (by kernel_rfl) (by kernel_rfl)
      · refine (E2.out f0 f1 f2 f3 f4 f5 w h1 h2 h3).mono fun e w' hc => ?_
        obtain ⟨rfl, hq⟩ := hc
        exact ⟨_, rfl, hq, hI.st.trans hq, at_mk v_27 rfl⟩)
     have s_28 := MK41 i_28 (.bool true) (Q.refl ·) (fun l a w hI hl => ⟨wanted_of rfl i_22 rfl (lt_of hI hz rfl) (at_eq v_22 (hI.at_ 22 127 _ i_22 rfl (hl_at hl 2 rfl rfl))), ex_bin rfl (at_eq v_24 (hI.at_ 24 129 _ i_24 rfl (hl_at hl 0 rfl rfl))) (at_eq v_27 (hI.at_ 27 132 _ i_27 rfl (hl_at hl 1 rfl rfl))) (eqs_same _ _ _ _ _), at_mk v_28 rfl⟩)
     have s_29 := MK41 i_29 (.bool true) (Q.refl ·) (fun l a w hI hl => ⟨wanted_none rfl, ex_pick_t rfl (at_eq v_22 (hI.at_ 22 127 _ i_22 rfl (hl_at hl 0 rfl rfl))) (at_eq v_28 (hI.at_ 28 133 _ i_28 rfl (hl_at hl 1 rfl rfl))), at_mk v_29 rfl⟩)
     have s_30 := MK41 i_30 (.bool true) (Q.refl ·) (fun l a w hI hl => ⟨wanted_none rfl, ex_move rfl (at_eq v_29 (hI.at_ 29 134 _ i_29 rfl (hl_at hl 0 rfl rfl))), at_mk v_30 rfl⟩)
     have s_31 := MK41 i_31 (txV A aI cI aO cO aW cW) (Q.refl ·) (fun l a w hI hl => ⟨wanted_of rfl i_30 rfl (lt_of hI hz rfl) (at_eq v_30 (hI.at_ 30 135 _ i_30 rfl (hl_at hl 0 rfl rfl))), ex_loado 29 rfl b3 0 [.slice aI A.nI cI, .slice aO A.nO cO, .int .u64 A.p.amount, .string A.p.sig, .string A.p.token, .slice aW A.p.n cW] _ ((hI.base 3 fr_3).trans b_3) (((S9.out.up hI.st)).ba.rangeo 0 (r := []) rfl) Tryz.underlying29 rfl (by kernel_rfl), at_mk v_31 rfl⟩)
     have s_32 := MK41 i_32 (txV B eI dI eO dO eW dW) (Q.refl ·) (fun l a w hI hl => ⟨wanted_of rfl i_30 rfl (lt_of hI hz rfl) (at_eq v_30 (hI.at_ 30 135 _ i_30 rfl (hl_at hl 0 rfl rfl))), ex_loado 29 rfl b4 0 [.slice eI B.nI dI, .slice eO B.nO dO, .int .u64 B.p.amount, .string B.p.sig, .string B.p.token, .slice eW B.p.n dW] _ ((hI.base 4 fr_4).trans b_4) (((S9.out.up hI.st)).bb.rangeo 0 (r := []) rfl) Tryz.underlying29 rfl (by kernel_rfl), at_mk v_32 rfl⟩)
     have s_33 := Step.call (P := Tryz.prog) (V := VV) (T := Q) (S := (Q wr)) (a0 := A0) (Qx := QQ) (R := fun _ _ _ => True) i_33 (fun l a w hI hl => by
      refine ⟨wanted_of rfl i_30 rfl (lt_of hI hz rfl) (at_eq v_30 (hI.at_ 30 135 _ i_30 rfl (hl_at hl 2 rfl rfl))), 13, #[txV A aI cI aO cO aW cW, txV B eI dI eO dO eW dW], ?_, ?_⟩
      · exact ex_call rfl (by simp only [List.map_toArray, List.map_cons, List.map_nil, ev_const, (show a.eval (.tmp 136) = _ from (at_eq v_31 (hI.at_ 31 136 _ i_31 rfl (hl_at hl 0 rfl rfl)))), (show a.eval (.tmp 137) = _ from (at_eq v_32 (hI.at_ 32 137 _ i_32 rfl (hl_at hl 1 rfl rfl))))]) Tryz.func13 (by kernel_rfl) (by kernel_rfl)
      · exact (M1.out w (S9.out.up hI.st)).mono fun e w' hc => by
         obtain ⟨rfl, hq⟩ := hc
         exact ⟨_, rfl, hq, hI.st.trans hq, at_mk v_33 rfl⟩)
     have s_34 := MK41 i_34 (txV A aI cI aO cO aW cW) (Q.refl ·) (fun l a w hI hl => ⟨wanted_of rfl i_30 rfl (lt_of hI hz rfl) (at_eq v_30 (hI.at_ 30 135 _ i_30 rfl (hl_at hl 0 rfl rfl))), ex_loado 29 rfl b3 0 [.slice aI A.nI cI, .slice aO A.nO cO, .int .u64 A.p.amount, .string A.p.sig, .string A.p.token, .slice aW A.p.n cW] _ ((hI.base 3 fr_3).trans b_3) (((S9.out.up hI.st)).ba.rangeo 0 (r := []) rfl) Tryz.underlying29 rfl (by kernel_rfl), at_mk v_34 rfl⟩)
     have s_35 := MK42 i_35 (fun l a w hI hl => by
      refine ⟨wanted_of rfl i_30 rfl (lt_of hI hz rfl) (at_eq v_30 (hI.at_ 30 135 _ i_30 rfl (hl_at hl 2 rfl rfl))), ?_⟩
      refine wp_enter (f := 8) (args := #[txV A aI cI aO cO aW cW]) ?_ ?_
      · exact ex_call rfl (by simp only [List.map_toArray, List.map_cons, List.map_nil, ev_const, (show a.eval (.tmp 139) = _ from (at_eq v_34 (hI.at_ 34 139 _ i_34 rfl (hl_at hl 0 rfl rfl))))]) Tryz.func8 (by kernel_rfl) (by kernel_rfl)
      · refine (RF.out w (S9.out.up hI.st)).mono fun e w' hc => ?_
        obtain ⟨f0, f1, f2, f3, f4, f5, rfl, h1, h2, h3, hq⟩ := hc
        exact ⟨_, rfl, hq, hI.st.trans hq, p_at v_35 ⟨f0, f1, f2, f3, f4, f5, rfl, h1, h2, h3⟩⟩)
     have s_36 := MK41 i_36 (txV B eI dI eO dO eW dW) (Q.refl ·) (fun l a w hI hl => ⟨wanted_of rfl i_30 rfl (lt_of hI hz rfl) (at_eq v_30 (hI.at_ 30 135 _ i_30 rfl (hl_at hl 0 rfl rfl))), ex_loado 29 rfl b4 0 [.slice eI B.nI dI, .slice eO B.nO dO, .int .u64 B.p.amount, .string B.p.sig, .string B.p.token, .slice eW B.p.n dW] _ ((hI.base 4 fr_4).trans b_4) (((S9.out.up hI.st)).bb.rangeo 0 (r := []) rfl) Tryz.underlying29 rfl (by kernel_rfl), at_mk v_36 rfl⟩)
     have s_37 := MK42 i_37 (fun l a w hI hl => by
      refine ⟨wanted_of rfl i_30 rfl (lt_of hI hz rfl) (at_eq v_30 (hI.at_ 30 135 _ i_30 rfl (hl_at hl 2 rfl rfl))), ?_⟩
      refine wp_enter (f := 8) (args := #[txV B eI dI eO dO eW dW]) ?_ ?_
      · exact ex_call rfl (by simp only [List.map_toArray, List.map_cons, List.map_nil, ev_const, (show a.eval (.tmp 141) = _ from (at_eq v_36 (hI.at_ 36 141 _ i_36 rfl (hl_at hl 0 rfl rfl))))]) Tryz.func8 (by kernel_rfl) (by kernel_rfl)
      · refine (RF2.out w (S9.out.up hI.st)).mono fun e w' hc => ?_
        obtain ⟨f0, f1, f2, f3, f4, f5, rfl, h1, h2, h3, hq⟩ := hc
        exact ⟨_, rfl, hq, hI.st.trans hq, p_at v_37 ⟨f0, f1, f2, f3, f4, f5, rfl, h1, h2, h3⟩⟩)
     have s_38 := MK42 i_38 (fun l a w hI hl => by
      obtain ⟨f0, f1, f2, f3, f4, f5, e23, h1, h2, h3⟩ := at_p v_35 (hI.at_ 35 140 _ i_35 rfl (hl_at hl 0 rfl rfl))
      obtain ⟨r0, r1, r2, r3, r4, r5, e24, h4, h5, h6⟩ := at_p v_37 (hI.at_ 37 142 _ i_37 rfl (hl_at hl 1 rfl rfl))
      refine ⟨wanted_of rfl i_30 rfl (lt_of hI hz rfl) (at_eq v_30 (hI.at_ 30 135 _ i_30 rfl (hl_at hl 3 rfl rfl))), ?_⟩
      refine wp_enter (f := 22) (args := #[txV A f0 f1 f2 f3 f4 f5, txV B r0 r1 r2 r3 r4 r5]) ?_ ?_
      · exact ex_call rfl (by simp only [List.map_toArray, List.map_cons, List.map_nil, ev_const, (show a.eval (.tmp 140) = _ from e23), (show a.eval (.tmp 142) = _ from e24)]) Tryz.func22 (by kernel_rfl) (by kernel_rfl)
      · refine (M2.out f0 f1 f2 f3 f4 f5 r0 r1 r2 r3 r4 r5 w h1 h2 h3 h4 h5 h6).mono fun e w' hc => ?_
        obtain ⟨rfl, hq⟩ := hc
        exact ⟨_, rfl, hq, hI.st.trans hq, at_mk v_38 rfl⟩)
     have s_39 := MK41 i_39 (.bool true) (Q.refl ·) (fun l a w hI hl => ⟨wanted_of rfl i_30 rfl (lt_of hI hz rfl) (at_eq v_30 (hI.at_ 30 135 _ i_30 rfl (hl_at hl 2 rfl rfl))), ex_bin rfl (at_eq v_33 (hI.at_ 33 138 _ i_33 rfl (hl_at hl 0 rfl rfl))) (at_eq v_38 (hI.at_ 38 143 _ i_38 rfl (hl_at hl 1 rfl rfl))) (eqb_samep _ _ _ _), at_mk v_39 rfl⟩)
     have s_40 := MK41 i_40 (.bool true) (Q.refl ·) (fun l a w hI hl => ⟨wanted_none rfl, ex_pick_t rfl (at_eq v_30 (hI.at_ 30 135 _ i_30 rfl (hl_at hl 0 rfl rfl))) (at_eq v_39 (hI.at_ 39 144 _ i_39 rfl (hl_at hl 1 rfl rfl))), at_mk v_40 rfl⟩)
     have s_41 := MK41 i_41 (.bool true) (Q.refl ·) (fun l a w hI hl => ⟨wanted_none rfl, ex_move rfl (at_eq v_40 (hI.at_ 40 145 _ i_40 rfl (hl_at hl 0 rfl rfl))), at_mk v_41 rfl⟩)
     have s_42 := MK41 i_42 (.agg #[.string px, .int .i64 po]) (Q.refl ·) (fun l a w hI hl => ⟨wanted_of rfl i_41 rfl (lt_of hI hz rfl) (at_eq v_41 (hI.at_ 41 146 _ i_41 rfl (hl_at hl 0 rfl rfl))), ex_loado 31 rfl b5 0 [.string px, .int .i64 po] _ ((hI.base 5 fr_5).trans b_5) (((S9.out.up hI.st)).bp.rangeo 0 (r := []) rfl) Tryz.underlying31 rfl (by kernel_rfl), at_mk v_42 rfl⟩)
     have s_43 := Step.call (P := Tryz.prog) (V := VV) (T := Q) (S := (Q wr)) (a0 := A0) (Qx := QQ) (R := fun _ _ _ => True) i_43 (fun l a w hI hl => by
      refine ⟨wanted_of rfl i_41 rfl (lt_of hI hz rfl) (at_eq v_41 (hI.at_ 41 146 _ i_41 rfl (hl_at hl 1 rfl rfl))), 23, #[.agg #[.string px, .int .i64 po]], ?_, ?_⟩
      · exact ex_call rfl (by simp only [List.map_toArray, List.map_cons, List.map_nil, ev_const, (show a.eval (.tmp 147) = _ from (at_eq v_42 (hI.at_ 42 147 _ i_42 rfl (hl_at hl 0 rfl rfl))))]) Tryz.func23 (by kernel_rfl) (by kernel_rfl)
      · exact (N1.out w (S9.out.up hI.st)).mono fun e w' hc => by
         obtain ⟨rfl, hq⟩ := hc
         exact ⟨_, rfl, hq, hI.st.trans hq, at_mk v_43 rfl⟩)
     have s_44 := MK41 i_44 (.agg #[.string px, .int .i64 po]) (Q.refl ·) (fun l a w hI hl => ⟨wanted_of rfl i_41 rfl (lt_of hI hz rfl) (at_eq v_41 (hI.at_ 41 146 _ i_41 rfl (hl_at hl 0 rfl rfl))), ex_loado 31 rfl b5 0 [.string px, .int .i64 po] _ ((hI.base 5 fr_5).trans b_5) (((S9.out.up hI.st)).bp.rangeo 0 (r := []) rfl) Tryz.underlying31 rfl (by kernel_rfl), at_mk v_44 rfl⟩)
     have s_45 := Step.call (P := Tryz.prog) (V := VV) (T := Q) (S := (Q wr)) (a0 := A0) (Qx := QQ) (R := fun _ _ _ => True) i_45 (fun l a w hI hl => by
      refine ⟨wanted_of rfl i_41 rfl (lt_of hI hz rfl) (at_eq v_41 (hI.at_ 41 146 _ i_41 rfl (hl_at hl 2 rfl rfl))), 24, #[.agg #[.string px, .int .i64 po]], ?_, ?_⟩
      · exact ex_call rfl (by simp only [List.map_toArray, List.map_cons, List.map_nil, ev_const, (show a.eval (.tmp 149) = _ from (at_eq v_44 (hI.at_ 44 149 _ i_44 rfl (hl_at hl 0 rfl rfl))))]) Tryz.func24 (by kernel_rfl) (by kernel_rfl)
      · exact (N2.out w (S9.out.up hI.st)).mono fun e w' hc => by
         obtain ⟨rfl, hq⟩ := hc
         exact ⟨_, rfl, hq, hI.st.trans hq, at_mk v_45 rfl⟩)
     have s_46 := MK41 i_46 (.bool true) (Q.refl ·) (fun l a w hI hl => ⟨wanted_of rfl i_41 rfl (lt_of hI hz rfl) (at_eq v_41 (hI.at_ 41 146 _ i_41 rfl (hl_at hl 2 rfl rfl))), ex_bin rfl (at_eq v_43 (hI.at_ 43 148 _ i_43 rfl (hl_at hl 0 rfl rfl))) (at_eq v_45 (hI.at_ 45 150 _ i_45 rfl (hl_at hl 1 rfl rfl))) (eqs_same _ _ _ _ _), at_mk v_46 rfl⟩)
     have s_47 := MK41 i_47 (.bool true) (Q.refl ·) (fun l a w hI hl => ⟨wanted_none rfl, ex_pick_t rfl (at_eq v_41 (hI.at_ 41 146 _ i_41 rfl (hl_at hl 0 rfl rfl))) (at_eq v_46 (hI.at_ 46 151 _ i_46 rfl (hl_at hl 1 rfl rfl))), at_mk v_47 rfl⟩)
     have s_48 := MK41 i_48 (.bool true) (Q.refl ·) (fun l a w hI hl => ⟨wanted_none rfl, ex_move rfl (at_eq v_47 (hI.at_ 47 152 _ i_47 rfl (hl_at hl 0 rfl rfl))), at_mk v_48 rfl⟩)
     have s_49 := MK41 i_49 (.int .u64 nv) (Q.refl ·) (fun l a w hI hl => ⟨wanted_of rfl i_48 rfl (lt_of hI hz rfl) (at_eq v_48 (hI.at_ 48 153 _ i_48 rfl (hl_at hl 0 rfl rfl))), ex_move rfl ((hI.base 7 fr_7).trans b_7), at_mk v_49 rfl⟩)
     have s_50 := MK41 i_50 (.int .u64 nv) (Q.refl ·) (fun l a w hI hl => ⟨wanted_of rfl i_48 rfl (lt_of hI hz rfl) (at_eq v_48 (hI.at_ 48 153 _ i_48 rfl (hl_at hl 0 rfl rfl))), ex_move rfl ((hI.base 9 fr_9).trans b_9), at_mk v_50 rfl⟩)
     have s_51 := MK41 i_51 (.bool true) (Q.refl ·) (fun l a w hI hl => ⟨wanted_of rfl i_48 rfl (lt_of hI hz rfl) (at_eq v_48 (hI.at_ 48 153 _ i_48 rfl (hl_at hl 2 rfl rfl))), ex_bin rfl (at_eq v_49 (hI.at_ 49 154 _ i_49 rfl (hl_at hl 0 rfl rfl))) (at_eq v_50 (hI.at_ 50 155 _ i_50 rfl (hl_at hl 1 rfl rfl))) (eqi_samep _ _ _ _ _ _), at_mk v_51 rfl⟩)
     have s_52 := MK41 i_52 (.bool true) (Q.refl ·) (fun l a w hI hl => ⟨wanted_none rfl, ex_pick_t rfl (at_eq v_48 (hI.at_ 48 153 _ i_48 rfl (hl_at hl 0 rfl rfl))) (at_eq v_51 (hI.at_ 51 156 _ i_51 rfl (hl_at hl 1 rfl rfl))), at_mk v_52 rfl⟩)
     have s_53 := MK41 i_53 (.bool true) (Q.refl ·) (fun l a w hI hl => ⟨wanted_none rfl, ex_move rfl (at_eq v_52 (hI.at_ 52 157 _ i_52 rfl (hl_at hl 0 rfl rfl))), at_mk v_53 rfl⟩)
     have s_54 := MK41 i_54 (.int .i64 ne) (Q.refl ·) (fun l a w hI hl => ⟨wanted_of rfl i_53 rfl (lt_of hI hz rfl) (at_eq v_53 (hI.at_ 53 158 _ i_53 rfl (hl_at hl 0 rfl rfl))), ex_move rfl ((hI.base 8 fr_8).trans b_8), at_mk v_54 rfl⟩)
     have s_55 := MK41 i_55 (.int .i64 ne) (Q.refl ·) (fun l a w hI hl => ⟨wanted_of rfl i_53 rfl (lt_of hI hz rfl) (at_eq v_53 (hI.at_ 53 158 _ i_53 rfl (hl_at hl 0 rfl rfl))), ex_move rfl ((hI.base 10 fr_10).trans b_10), at_mk v_55 rfl⟩)
     have s_56 := MK41 i_56 (.bool true) (Q.refl ·) (fun l a w hI hl => ⟨wanted_of rfl i_53 rfl (lt_of hI hz rfl) (at_eq v_53 (hI.at_ 53 158 _ i_53 rfl (hl_at hl 2 rfl rfl))), ex_bin rfl (at_eq v_54 (hI.at_ 54 159 _ i_54 rfl (hl_at hl 0 rfl rfl))) (at_eq v_55 (hI.at_ 55 160 _ i_55 rfl (hl_at hl 1 rfl rfl))) (eqi_samep _ _ _ _ _ _), at_mk v_56 rfl⟩)
     have s_57 := MK41 i_57 (.bool true) (Q.refl ·) (fun l a w hI hl => ⟨wanted_none rfl, ex_pick_t rfl (at_eq v_53 (hI.at_ 53 158 _ i_53 rfl (hl_at hl 0 rfl rfl))) (at_eq v_56 (hI.at_ 56 161 _ i_56 rfl (hl_at hl 1 rfl rfl))), at_mk v_57 rfl⟩)
     have s_58 := MK41 i_58 (.bool true) (Q.refl ·) (fun l a w hI hl => ⟨wanted_none rfl, ex_move rfl (at_eq v_57 (hI.at_ 57 162 _ i_57 rfl (hl_at hl 0 rfl rfl))), at_mk v_58 rfl⟩)
     have s_59 := Step.call (P := Tryz.prog) (V := VV) (T := Q) (S := (Q wr)) (a0 := A0) (Qx := QQ) (R := fun _ _ _ => True) i_59 (fun l a w hI hl => by
      refine ⟨wanted_of rfl i_58 rfl (lt_of hI hz rfl) (at_eq v_58 (hI.at_ 58 163 _ i_58 rfl (hl_at hl 0 rfl rfl))), 25, #[], ?_, ?_⟩
      · exact ex_call rfl (by simp only [List.map_toArray, List.map_cons, List.map_nil, ev_const]) Tryz.func25 (by kernel_rfl) (by kernel_rfl)
      · exact (FX.out w (S9.out.up hI.st)).mono fun e w' hc => by
         obtain ⟨rfl, hq⟩ := hc
         exact ⟨_, rfl, hq, hI.st.trans hq, at_mk v_59 rfl⟩)
     have s_60 := MK41 i_60 (.bool true) (Q.refl ·) (fun l a w hI hl => ⟨wanted_none rfl, ex_pick_t rfl (at_eq v_58 (hI.at_ 58 163 _ i_58 rfl (hl_at hl 0 rfl rfl))) (at_eq v_59 (hI.at_ 59 164 _ i_59 rfl (hl_at hl 1 rfl rfl))), at_mk v_60 rfl⟩)
     have s_61 := MK41 i_61 (.bool true) (Q.refl ·) (fun l a w hI hl => ⟨wanted_none rfl, ex_assign rfl (at_eq v_60 (hI.at_ 60 165 _ i_60 rfl (hl_at hl 0 rfl rfl))), at_mk v_61 rfl⟩)
     refine wp_plan VV Q (Q wr) (by kernel_rfl) hs hV hS0 (steps_all hO ((sf_cons s_0 (sf_cons s_1 (sf_cons s_2 (sf_cons s_3 (sf_cons s_4 (sf_cons s_5 (sf_cons s_6 (sf_cons s_7 (sf_cons s_8 (sf_cons s_9 (sf_cons s_10 (sf_cons s_11 (sf_cons s_12 (sf_cons s_13 (sf_cons s_14 (sf_cons s_15 (sf_cons s_16 (sf_cons s_17 (sf_cons s_18 (sf_cons s_19 (sf_cons s_20 (sf_cons s_21 (sf_cons s_22 (sf_cons s_23 (sf_cons s_24 (sf_cons s_25 (sf_cons s_26 (sf_cons s_27 (sf_cons s_28 (sf_cons s_29 (sf_cons s_30 (sf_cons s_31 (sf_cons s_32 (sf_cons s_33 (sf_cons s_34 (sf_cons s_35 (sf_cons s_36 (sf_cons s_37 (sf_cons s_38 (sf_cons s_39 (sf_cons s_40 (sf_cons s_41 (sf_cons s_42 (sf_cons s_43 (sf_cons s_44 (sf_cons s_45 (sf_cons s_46 (sf_cons s_47 (sf_cons s_48 (sf_cons s_49 (sf_cons s_50 (sf_cons s_51 (sf_cons s_52 (sf_cons s_53 (sf_cons s_54 (sf_cons s_55 (sf_cons s_56 (sf_cons s_57 (sf_cons s_58 (sf_cons s_59 (sf_cons s_60 (sf_cons s_61 trivial)))))))))))))))))))))))))))))))))))))))))))))))))))))))))))))))) ?_
     intro l a' w' hall hIv
     have e0 : a'.eval (.tmp 6) = .bool true := at_eq v_61 (hIv.at_ 61 6 _ i_61 rfl (hall 61 (by rw [hO]; decide)))
     have hd : a'.defers = [] := by (rw [hIv.df, hA]; try rfl)
     have hst := S9.out.q.trans hIv.st
     rw [hQQ]
     clear hIv hall
     go_wp2_with fail
     (try simp only [Exit.inBlock, Exit.then])
     refine bodyPost_ret (results_tmp rfl _ _ _) hd ?_
     exact ⟨congrArg Ending.returned e0, hst⟩
end Go.Proofs.YtobfgljkckcmcaaGreatDoor.Coi
