import Derived.Test.YtjiepemapffgjaaGreatDoorXJDecA
import Derived.Deep.CutRange
import Derived.Deep.DeepCutAuto
set_option maxRecDepth 100000
namespace Go.Proofs.YtjiepemapffgjaaGreatDoor.Coi
open Go.RowKit
open Mem Num Cod Plan
set_option linter.unusedVariables false
set_option linter.unusedSimpArgs false
theorem built_dtz  : Tryz.prog.built 43 [] = some #[.slice none 0 0, .slice none 0 0, .int .u64 0, .string ⟨#[]⟩, .string ⟨#[]⟩, .slice none 0 0] := by kernel_rfl
theorem wpl_dtz {ops : Array Oper} {rest : List Oper} {o : Oper} {a : Act} {w : World} {Q : Exit → Act → World → Prop} (hg : o.guard = none)  (ho : o.op = .build 43 #[]) (d : Option Tmp) (hd : o.dst = d)  (h : wpList Tryz.prog ops Q rest (a.put d (.agg #[.slice none 0 0, .slice none 0 0, .int .u64 0, .string ⟨#[]⟩, .string ⟨#[]⟩, .slice none 0 0])) w) : wpList Tryz.prog ops Q (o :: rest) a w := by
 refine wpList_buildTo hg 43 _ ho d hd _ ?_ h
 simp only [List.map_toArray, List.map_nil]
 exact built_dtz
theorem built_diz  : Tryz.prog.built 98 [] = some #[.string ⟨#[]⟩, .int .i64 0, .int .i64 0, .string ⟨#[]⟩] := by kernel_rfl
theorem wpl_diz {ops : Array Oper} {rest : List Oper} {o : Oper} {a : Act} {w : World} {Q : Exit → Act → World → Prop} (hg : o.guard = none)  (ho : o.op = .build 98 #[]) (d : Option Tmp) (hd : o.dst = d)  (h : wpList Tryz.prog ops Q rest (a.put d (.agg #[.string ⟨#[]⟩, .int .i64 0, .int .i64 0, .string ⟨#[]⟩])) w) : wpList Tryz.prog ops Q (o :: rest) a w := by
 refine wpList_buildTo hg 98 _ ho d hd _ ?_ h
 simp only [List.map_toArray, List.map_nil]
 exact built_diz
/-- A Reader, two boxes, and the inputs that were read. -/
structure DI (w0 : World) (g gr : Nat) (Z : List Value) (gb : Nat) (cs : List Value) (B : Nat) (a : Option Addr) (n cap : Nat) (F : Nat → IN) (p : PS) (w : World) : Prop where
 x : DX w0 g gr Z gb cs p w
 o : OR 98 IN.cells 4 w B a n cap F
 lg : g < B
theorem DI.rs {w0 w : World} {g gr gb B n cap : Nat} {Z cs : List Value} {a : Option Addr} {F : Nat → IN} {p : PS} (h : DI w0 g gr Z gb cs B a n cap F p w) : DR w0 g p w := h.x.rs
theorem DI.go {w0 w w' : World} {g gr gb B n cap : Nat} {Z cs : List Value} {a : Option Addr} {F : Nat → IN} {p p' : PS} (h : DI w0 g gr Z gb cs B a n cap F p w) (k : DR w g p' w') : DI w0 g gr Z gb cs B a n cap F p' w' := ⟨h.x.go k, h.o.low k.ch h.lg, h.lg⟩
theorem OR.grown_ {α β : Type} {t t' : TypeId} {C : α → List Value} {D : β → List Value} {K K' : Nat} {w w2 : World} {B B' : Nat} {a a' : Option Addr} {n n' cap cap' g' : Nat} {F : Nat → α} {F' : Nat → β} (h : OR t C K w B a n cap F) (o : OR t' D K' w B' a' n' cap' F') (hb : B' ≤ w.heap.size) (hl : ∀ x, a = some x → x.block < B') (G : Grow w w2 (blk a') g') : OR t C K w2 B a n cap F := by
 obtain ⟨j, c, h1, h2⟩ := grow_c G
 have : B' ≤ j := by
  cases ha : a' with
  | none => rw [h2 ha]; exact hb
  | some y => rw [h1 y ha]; exact (o.blk_ y ha).1
 exact h.ch c (fun x hx => by have := hl x hx; omega)
set_option maxHeartbeats 4000000 in
set_option maxRecDepth 100000 in
/-- What core answers. -/
def DCo (c : ByteArray) (W : World) (r : Ending) (w' : World) : Prop := ∃ aI cI aO cO, r = .returned (.tuple #[txV (coX smallD c) aI cI aO cO none 0, .int .i64 (coR c (coM c)).en]) ∧
 OR 98 IN.cells 4 w' W.heap.size aI (coN c) cI (fun i => rdI (coQ c i)) ∧ OR 49 OU.cells 9 w' W.heap.size aO (coM c) cO (fun i => rdO smallD (coR c i)) ∧ Apart aI aO ∧ Q W w'
set_option maxHeartbeats 4000000 in
set_option maxRecDepth 100000 in
theorem d9core_x (c : ByteArray) (hs : c.size ≤ 1000000) (W : World) : Calls Tryz.prog 92 #[.string c] W (DCo c W) := by
 have HB : Hid (∀ t, Box (W.alloc (.cells #[.slice none 0 0, .slice none 0 0, .int .u64 0, .string ⟨#[]⟩, .string ⟨#[]⟩, .slice none 0 0] t)) W.heap.size [.slice none 0 0, .slice none 0 0, .int .u64 0, .string ⟨#[]⟩, .string ⟨#[]⟩, .slice none 0 0]) := fun t => Box.new W _ t
 have HQ : Hid (∀ o, Q W (W.alloc o)) := fun o => (Q.refl W).alloc o
 go_enter Tryz.func92, Tryz.ntmps92
 go_wp2_with (with_reducible (show wpList _ _ _ (⟨_, Op.build 43 _, _, _, _, _⟩ :: _) _ _); refine halt ?_)
 have B0 := Lib.hid (HB.out 43)
 have Q0 := Lib.hid (HQ.out (.cells #[.slice none 0 0, .slice none 0 0, .int .u64 0, .string ⟨#[]⟩, .string ⟨#[]⟩, .slice none 0 0] 43))
 clear HB HQ
 have hsz : (W.alloc (.cells #[.slice none 0 0, .slice none 0 0, .int .u64 0, .string ⟨#[]⟩, .string ⟨#[]⟩, .slice none 0 0] 43)).heap.size = W.heap.size + 1 := by simp
 generalize W.alloc (.cells #[.slice none 0 0, .slice none 0 0, .int .u64 0, .string ⟨#[]⟩, .string ⟨#[]⟩, .slice none 0 0] 43) = wA at *
 have n1 : wA.heap.size ≠ W.heap.size := by omega
 have l3 : W.heap.size ≤ wA.heap.size := by omega
 clear hsz
 refine Lib.hid (wpl_dtz rfl rfl _ rfl ?_)
 go_wp2_with (with_reducible (show wpList _ _ _ (⟨_, Op.build 140 _, _, _, _, _⟩ :: _) _ _); refine halt ?_)
 refine Lib.hid (wpl_drd rfl c rfl _ rfl rfl ?_)
 have D0 := Lib.hid (DR.new c hs wA 140)
 have Q1 : Hid (Q W (wA.alloc (.cells #[.string c, .int .i64 0, .int .i64 0] 140))) := Q0.out.alloc _
 have B1 : Hid (Box (wA.alloc (.cells #[.string c, .int .i64 0, .int .i64 0] 140)) W.heap.size [.slice none 0 0, .slice none 0 0, .int .u64 0, .string ⟨#[]⟩, .string ⟨#[]⟩, .slice none 0 0]) := B0.out.q ((Q.refl _).alloc _)
 go_wp2_with (with_reducible (show wpList _ _ _ (⟨_, Op.alloc 43, _, _, _, _⟩ :: _) _ _); refine halt ?_)
 generalize wA.alloc (.cells #[.string c, .int .i64 0, .int .i64 0] 140) = wB at *
 have H1 : Hid (DR W wA.heap.size ⟨c, 0⟩ wB) := ⟨D0.out.rd, Ch.of_q Q1.out _⟩
 generalize wA.heap.size = g at *
 clear Q0 Q1 B0 D0
 have l1 : W.heap.size ≤ W.heap.size := Nat.le_refl _
 refine wpList_allocZ rfl 43 rfl #[.slice none 0 0, .slice none 0 0, .int .u64 0, .string ⟨#[]⟩, .string ⟨#[]⟩, .slice none 0 0] zeroDTx ?_
 have G3 := H1.out.lt
 have G4 := B1.out.lt
 have G5 := H1.out.ch.size
 refine st_box rfl 43 _ _ rfl wB.heap.size _ [.slice none 0 0, .slice none 0 0, .int .u64 0, .string ⟨#[]⟩, .string ⟨#[]⟩, .slice none 0 0] rfl rfl (Box.new wB [.slice none 0 0, .slice none 0 0, .int .u64 0, .string ⟨#[]⟩, .string ⟨#[]⟩, .slice none 0 0] 43) rfl (by kernel_rfl) (one6d rfl rfl rfl rfl rfl rfl) ?_
 intro w3 B3 c3
 have X3 : Hid (DX W g W.heap.size [.slice none 0 0, .slice none 0 0, .int .u64 0, .string ⟨#[]⟩, .string ⟨#[]⟩, .slice none 0 0] wB.heap.size [.slice none 0 0, .slice none 0 0, .int .u64 0, .string ⟨#[]⟩, .string ⟨#[]⟩, .slice none 0 0] ⟨c, 0⟩ w3) := ⟨(H1.out.q ((Q.refl wB).alloc _)).box c3 G5 (by omega), (B1.out.q ((Q.refl wB).alloc _)).ch c3 (by omega), B3, n1, by omega, by omega, l1, G5⟩
 generalize wB.heap.size = gb at *
 clear B3 c3 H1 B1 G3 G4 G5
 as_aux_lemma =>
 obtain ⟨v0, x0⟩ : ∃ v, (PS.mk c 0).byV = v := ⟨_, rfl⟩
 have hb0 := PS.byV_in (PS.mk c 0)
 rw [x0] at hb0
 go_upto_if 17 with fail
 refine (X3.out.rs.up.byte_l x0 rfl).mono ?_
 rintro r w4 ⟨rfl, h⟩
 have X4 := Lib.hid (X3.out.go h)
 clear h X3
 go_upto_if 17 with fail
 go_cut [] from 11 (fun wx => Hid (DX W g W.heap.size [.slice none 0 0, .slice none 0 0, .int .u64 0, .string ⟨#[]⟩, .string ⟨#[]⟩, .slice none 0 0] gb [.slice none 0 0, .slice none 0 0, .int .u64 0, .string ⟨#[]⟩, .string ⟨#[]⟩, .slice none 0 0] (coP0 c) wx))
 case first =>
  by_cases h67 : v0 = 67
  · have t1 : (v0 != 67) = false := by simpa using h67
    have X5 : Hid (DX W g W.heap.size [.slice none 0 0, .slice none 0 0, .int .u64 0, .string ⟨#[]⟩, .string ⟨#[]⟩, .slice none 0 0] gb [.slice none 0 0, .slice none 0 0, .int .u64 0, .string ⟨#[]⟩, .string ⟨#[]⟩, .slice none 0 0] (coP0 c) w4) := by
     have e : coP0 c = (PS.mk c 0).byt := by unfold coP0; rw [x0, if_pos h67]
     rw [e]; exact X4.out
    clear X4 h67
    go_wp2_with fail
    go_meet
    case rel => exact X5
  · have t1 : (v0 != 67) = true := by simpa using h67
    have e : coP0 c = ((PS.mk c 0).byt).fl 4 := by unfold coP0; rw [x0, if_neg h67]
    clear h67
    go_wp2_with fail
    refine (X4.out.rs.up.fail_l rfl).mono ?_
    rintro r w5 ⟨rfl, h⟩
    have X5 : Hid (DX W g W.heap.size [.slice none 0 0, .slice none 0 0, .int .u64 0, .string ⟨#[]⟩, .string ⟨#[]⟩, .slice none 0 0] gb [.slice none 0 0, .slice none 0 0, .int .u64 0, .string ⟨#[]⟩, .string ⟨#[]⟩, .slice none 0 0] (coP0 c) w5) := by rw [e]; exact X4.out.go h
    clear X4 h e
    go_wp2_with fail
    go_meet
    case rel => exact X5
 case rest =>
 have X4 := hcut
 clear hcut x0 hb0
 as_aux_lemma =>
 go_wp2_with fail
 obtain ⟨v1, x1⟩ : ∃ v, (coP0 c).byV = v := ⟨_, rfl⟩
 refine (X4.out.rs.up.byte_l x1 rfl).mono ?_
 rintro r wv ⟨rfl, h⟩
 have XV := Lib.hid (X4.out.go h)
 clear h X4
 have hbv := PS.byV_in (coP0 c)
 rw [x1] at hbv
 have EN : Hid (coN c = cn (coP0 c) ∧ coQ c 0 = cnP (coP0 c)) := ⟨rfl, rfl⟩
 go_upto_region 5 with fail
 go_cut [27] from 11 (fun t wx => t = .bool (decide (¬ (1 ≤ v1 ∧ v1 ≤ 4))) ∧ Hid (DX W g W.heap.size [.slice none 0 0, .slice none 0 0, .int .u64 0, .string ⟨#[]⟩, .string ⟨#[]⟩, .slice none 0 0] gb [.slice none 0 0, .slice none 0 0, .int .u64 0, .string ⟨#[]⟩, .string ⟨#[]⟩, .slice none 0 0] ((coP0 c).byt) wx))
 case first =>
  by_cases h1 : v1 < 1
  · have t1 : decide (v1 < 1) = true := by simpa using h1
    go_wp2_with fail
    go_meet
    case rel => exact ⟨congrArg Value.bool (decide_eq_true (by omega)).symm, XV⟩
  have t1 : decide (v1 < 1) = false := by simpa using h1
  by_cases h2 : 4 < v1
  · have t2 : decide (4 < v1) = true := by simpa using h2
    go_wp2_with fail
    go_meet
    case rel => exact ⟨congrArg Value.bool (decide_eq_true (by omega)).symm, XV⟩
  have t2 : decide (4 < v1) = false := by simpa using h2
  go_wp2_with fail
  go_meet
  case rel => exact ⟨congrArg Value.bool (decide_eq_false (by omega)).symm, XV⟩
 case rest =>
 obtain ⟨ht_, XV⟩ := hcut
 subst ht_
 go_upto_if 27 with fail
 go_cut [6] from 11 (fun nn wx => nn = .int .i64 (coN c : Nat) ∧ Hid (DX W g W.heap.size [.slice none 0 0, .slice none 0 0, .int .u64 0, .string ⟨#[]⟩, .string ⟨#[]⟩, .slice none 0 0] gb [.slice none 0 0, .slice none 0 0, .int .u64 0, .string ⟨#[]⟩, .string ⟨#[]⟩, .slice none 0 0] (coQ c 0) wx))
 case first =>
  by_cases hb : 1 ≤ v1 ∧ v1 ≤ 4
  · have t1 : decide (¬ (1 ≤ v1 ∧ v1 ≤ 4)) = false := decide_eq_false (fun h => h hb)
    have e1 : (v1 : Int) = (coN c : Nat) := by rw [EN.out.1]; unfold cn; rw [x1, if_pos hb]; omega
    have e2 : (coP0 c).byt = coQ c 0 := by rw [EN.out.2]; unfold cnP; rw [x1, if_pos hb]
    rw [e2] at XV
    clear EN e2 hb x1
    rw [t1]
    clear t1
    go_wp2_with fail
    go_meet
    case rel => exact ⟨by rw [e1], XV⟩
  · have t1 : decide (¬ (1 ≤ v1 ∧ v1 ≤ 4)) = true := decide_eq_true hb
    have e1 : ((0 : Nat) : Int) = (coN c : Nat) := by rw [EN.out.1]; unfold cn; rw [x1, if_neg hb]
    have e2 : (coP0 c).byt.fl 4 = coQ c 0 := by rw [EN.out.2]; unfold cnP; rw [x1, if_neg hb]
    clear EN hb x1
    rw [t1]
    clear t1
    go_wp2_with fail
    refine (XV.out.rs.up.fail_l e2).mono ?_
    rintro r wf ⟨rfl, h⟩
    have XF := Lib.hid (XV.out.go h)
    clear XV h e2
    go_wp2_with fail
    go_meet
    case rel => exact ⟨by rw [← e1]; rfl, XF⟩
 case rest =>
 obtain ⟨ht_, X4⟩ := hcut
 subst ht_
 clear EN hbv XV x1
 go_wp2_with fail
 have hK4 := coN_le c
 have lB := X4.out.bb.lt
 have lG := X4.out.rs.lt
 have lR := X4.out.br.lt
 have l0 := X4.out.rs.ch.size
 have O8 := Lib.hid (OR.nil 98 IN.cells 4 wc wc.heap.size (fun i => rdI (coQ c i)))
 obtain ⟨B, hB⟩ : ∃ n, wc.heap.size = n := ⟨_, rfl⟩
 rw [hB] at lB lG lR l0 O8
 have HBE := Lib.hid (Nat.le_of_eq hB.symm)
 clear hB
 as_aux_lemma =>
 go_loopw [7, 8] (fun i z wr => ∃ (k : Nat) (a : Option Addr) (cap : Nat), k ≤ coN c ∧ i = .int .i64 k ∧ B ≤ wr.heap.size ∧ Hid (DX W g W.heap.size [.slice none 0 0, .slice none 0 0, .int .u64 0, .string ⟨#[]⟩, .string ⟨#[]⟩, .slice none 0 0] gb [.slice a k cap, .slice none 0 0, .int .u64 0, .string ⟨#[]⟩, .string ⟨#[]⟩, .slice none 0 0] (coQ c k) wr) ∧ Hid (OR 98 IN.cells 4 wr B a k cap (fun i => rdI (coQ c i)))) (fun i _ _ => coN c - (intOf i).toNat)
 case atStart => exact ⟨0, none, 0, by omega, rfl, HBE.out, X4, O8⟩
 case round =>
 obtain ⟨k, a, cap, hk, rfl, hb, X, O⟩ := hrel
 clear X4 O8
 have k0 : (0 : Int) ≤ (k : Int) := by omega
 by_cases hlt : k < coN c
 · have k1 : (k : Int) < (coN c : Int) := by omega
   have t1 : decide ((k : Int) < (coN c : Int)) = true := by simpa using k1
   have t2 : decide (k < coN c) = true := by simpa using hlt
   obtain ⟨p0, hp0⟩ : ∃ v, coQ c k = v := ⟨_, rfl⟩
   obtain ⟨y0, b0⟩ : ∃ v, p0.haV = v := ⟨_, rfl⟩
   obtain ⟨p1, a0⟩ : ∃ v, p0.has = v := ⟨_, rfl⟩
   obtain ⟨y1, b1⟩ : ∃ v, p1.byV = v := ⟨_, rfl⟩
   obtain ⟨p2, a1⟩ : ∃ v, p1.byt = v := ⟨_, rfl⟩
   obtain ⟨y2, b2⟩ : ∃ v, p2.byV = v := ⟨_, rfl⟩
   obtain ⟨p3, a2⟩ : ∃ v, p2.byt = v := ⟨_, rfl⟩
   have HW : Hid ((rdI (coQ c k)).cells = [.string y0, .int .i64 y1, .int .i64 y2, .string ⟨#[]⟩]) := by show _ = _; rw [hp0]; unfold rdI IN.cells; rw [b0, a0, b1, a1, b2]
   have HS : Hid (p3 = coQ c (k + 1)) := by show _ = stI (coQ c k); rw [hp0]; unfold stI; rw [a0, a1, a2]
   rw [hp0] at X
   clear hp0
   go_wp2_with (with_reducible (show wpList _ _ _ (⟨_, Op.build 98 _, _, _, _, _⟩ :: _) _ _); refine halt ?_)
   refine Lib.hid (wpl_diz rfl rfl _ rfl ?_)
   refine wpList_allocZ rfl 98 rfl #[.string ⟨#[]⟩, .int .i64 0, .int .i64 0, .string ⟨#[]⟩] zeroDI ?_
   refine st_box rfl 98 _ _ rfl wr.heap.size _ [.string ⟨#[]⟩, .int .i64 0, .int .i64 0, .string ⟨#[]⟩] rfl rfl (Box.new wr [.string ⟨#[]⟩, .int .i64 0, .int .i64 0, .string ⟨#[]⟩] 98) rfl (by kernel_rfl) (one4 rfl rfl rfl rfl) ?_
   intro u0 Bx cx
   obtain ⟨gx, hgx⟩ : ∃ n, wr.heap.size = n := ⟨_, rfl⟩
   have Y0 : Hid (DY 98 IN.cells 4 W g W.heap.size [.slice none 0 0, .slice none 0 0, .int .u64 0, .string ⟨#[]⟩, .string ⟨#[]⟩, .slice none 0 0] gb [.slice a k cap, .slice none 0 0, .int .u64 0, .string ⟨#[]⟩, .string ⟨#[]⟩, .slice none 0 0] B gx [.string ⟨#[]⟩, .int .i64 0, .int .i64 0, .string ⟨#[]⟩] a k cap (fun i => rdI (coQ c i)) p0 u0) := by
    have XA := X.out.q ((Q.refl wr).alloc (.cells #[.string ⟨#[]⟩, .int .i64 0, .int .i64 0, .string ⟨#[]⟩] 98))
    have OA := O.out.q ((Q.refl wr).alloc (.cells #[.string ⟨#[]⟩, .int .i64 0, .int .i64 0, .string ⟨#[]⟩] 98))
    have hsw : (wr.alloc (.cells #[.string ⟨#[]⟩, .int .i64 0, .int .i64 0, .string ⟨#[]⟩] 98)).heap.size = wr.heap.size + 1 := by simp
    have hbo : ∀ y, a = some y → y.block < wr.heap.size := fun y hy => (O.out.blk_ y hy).2
    rw [hgx] at Bx cx
    exact ⟨XA.oth cx (by omega) (by omega) (by omega) (by omega), Bx, OA.ch cx (fun y hy => by have := hbo y hy; omega), by have h1 := cx.size; rw [hsw] at h1; omega, lG, lR, lB, by omega, l0, fun y hy => by have := hbo y hy; omega⟩
   rw [hgx] at *
   clear Bx cx X O hgx
   go_wp2_with fail
   refine (Y0.out.x.rs.up.hash_l b0 a0).mono ?_
   rintro r z0 ⟨rfl, h⟩
   have Z0 := Lib.hid (Y0.out.go h)
   clear h Y0
   obtain ⟨d1, f1⟩ := Z0.out.cell 0 rfl
   go_wp2_with fail
   clear d1 f1
   have Y1 := Lib.hid (Z0.out.set 0 (.string y0))
   clear Z0
   refine (Y1.out.x.rs.up.byte_l b1 a1).mono ?_
   rintro r z1 ⟨rfl, h⟩
   have Z1 := Lib.hid (Y1.out.go h)
   clear h Y1
   obtain ⟨d1, f1⟩ := Z1.out.cell 1 rfl
   go_wp2_with fail
   clear d1 f1
   have Y2 := Lib.hid (Z1.out.set 1 (.int .i64 y1))
   clear Z1
   refine (Y2.out.x.rs.up.byte_l b2 a2).mono ?_
   rintro r z2 ⟨rfl, h⟩
   have Z2 := Lib.hid (Y2.out.go h)
   clear h Y2
   obtain ⟨d1, f1⟩ := Z2.out.cell 2 rfl
   have d3 := (Z2.out.x.cell 0 rfl).1
   go_wp2_with (with_reducible (show wpList _ _ _ (⟨_, Op.load 98 _, _, _, _, _⟩ :: _) _ _); refine halt ?_)
   clear d1 f1 d3
   have Y3 := Lib.hid (Z2.out.set 2 (.int .i64 y2))
   clear Z2
   as_aux_lemma =>
   refine Lib.hid (ld_box rfl 98 _ rfl gx _ rfl Y3.out.bx Tryz.underlying98 rfl (by kernel_rfl) ?_)
   refine Lib.hid (wpl_rowdinn rfl y0 y1 y2 ⟨#[]⟩ rfl rfl ?_)
   generalize z2.setCell ⟨gx, 2, none⟩ (.int .i64 y2) = z10 at *
   have qz : Q z10 (z10.alloc (.cells #[.string y0, .int .i64 y1, .int .i64 y2, .string ⟨#[]⟩] 98)) := (Q.refl z10).alloc _
   have X11 := Lib.hid (Y3.out.x.q qz)
   have O11 := Lib.hid (Y3.out.o.q qz)
   have hb11 : Hid (B ≤ (z10.alloc (.cells #[.string y0, .int .i64 y1, .int .i64 y2, .string ⟨#[]⟩] 98)).heap.size) := Nat.le_trans Y3.out.hb qz.size
   have C11 : Hid (∀ j u, ([.string y0, .int .i64 y1, .int .i64 y2, .string ⟨#[]⟩] : List Value)[j]? = some u → (z10.alloc (.cells #[.string y0, .int .i64 y1, .int .i64 y2, .string ⟨#[]⟩] 98)).cell? ⟨z10.heap.size, j, none⟩ = some u) := fun j u hj => by rw [World.cell?_alloc_at _ _ _ _ rfl]; simpa using hj
   clear qz Y3
   generalize z10.alloc (.cells #[.string y0, .int .i64 y1, .int .i64 y2, .string ⟨#[]⟩] 98) = z11 at *
   obtain ⟨i0, hi0, hz0, hz1, hz2⟩ := info_of info_dinn
   refine Lib.hid (wpl_app rfl (.tmp 48) (.tmp 50) 37 rfl i0 _ 48 Tryz.underlying37 hi0 hz0 hz1 hz2 rfl (by decide) rfl O11.out z10.heap.size rfl (by rw [HW.out]; rfl) (fun j u hj => C11.out j u (by rw [HW.out] at hj; exact hj)) (by rw [HW.out]; exact one4 rfl rfl rfl rfl) (by omega) (by decide) hb11.out ?_)
   intro g' c' z12 O12 Gr
   have X12 := Lib.hid (X11.out.grown O11.out hb11.out lG lR lB l0 Gr)
   have hb12 : B ≤ z12.heap.size := by have := hb11.out; have := Gr.gr.size; omega
   have O12 := Lib.hid O12
   clear Gr X11 O11 hb11 C11
   obtain ⟨d3, f3⟩ := X12.out.cell 0 rfl
   go_wp2_with fail
   clear d3 f3
   have X13 := Lib.hid (X12.out.set 0 (.slice (some ⟨g', 0, none⟩) (k + 1) c'))
   have O13 := Lib.hid (O12.out.low (Ch.set z12 gb 0 (.slice (some ⟨g', 0, none⟩) (k + 1) c')) lB)
   have hb13 : B ≤ (z12.setCell ⟨gb, 0, none⟩ (.slice (some ⟨g', 0, none⟩) (k + 1) c')).heap.size := by simpa using hb12
   rw [HS.out] at X13
   clear X12 O12 hb12
   go_roundw
   case rel => exact ⟨k + 1, _, c', by omega, by go_num, hb13, X13, O13⟩
   case measure => simp [intOf]; omega
 · obtain rfl : k = coN c := by omega
   have td : decide (coN c < coN c) = false := by simp
   have k1 : ¬ (coN c : Int) < (coN c : Int) := by omega
   go_wp2_with fail
   clear td k1 hlt k0 hk
   have D4 : Hid (DI W g W.heap.size [.slice none 0 0, .slice none 0 0, .int .u64 0, .string ⟨#[]⟩, .string ⟨#[]⟩, .slice none 0 0] gb [.slice a (coN c) cap, .slice none 0 0, .int .u64 0, .string ⟨#[]⟩, .string ⟨#[]⟩, .slice none 0 0] B a (coN c) cap (fun i => rdI (coQ c i)) (coQ c (coN c)) wr) := ⟨X.out, O.out, lG⟩
   clear X O
   as_aux_lemma =>
   obtain ⟨v2, x2⟩ : ∃ v, (coQ c (coN c)).byV = v := ⟨_, rfl⟩
   refine (D4.out.rs.up.byte_l x2 rfl).mono ?_
   rintro r wv ⟨rfl, h⟩
   have XV := Lib.hid (D4.out.go h)
   clear h D4
   have hbv := PS.byV_in (coQ c (coN c))
   rw [x2] at hbv
   have EN : Hid (coM c = cn (coQ c (coN c)) ∧ coR c 0 = cnP (coQ c (coN c))) := ⟨rfl, rfl⟩
   go_upto_region 17 with fail
   go_cut [60] from 11 (fun t wx => t = .bool (decide (¬ (1 ≤ v2 ∧ v2 ≤ 4))) ∧ Hid (DI W g W.heap.size [.slice none 0 0, .slice none 0 0, .int .u64 0, .string ⟨#[]⟩, .string ⟨#[]⟩, .slice none 0 0] gb [.slice a (coN c) cap, .slice none 0 0, .int .u64 0, .string ⟨#[]⟩, .string ⟨#[]⟩, .slice none 0 0] B a (coN c) cap (fun i => rdI (coQ c i)) ((coQ c (coN c)).byt) wx))
   case first =>
    by_cases h1 : v2 < 1
    · have t1 : decide (v2 < 1) = true := by simpa using h1
      go_wp2_with fail
      go_meet
      case rel => exact ⟨congrArg Value.bool (decide_eq_true (by omega)).symm, XV⟩
    have t1 : decide (v2 < 1) = false := by simpa using h1
    by_cases h2 : 4 < v2
    · have t2 : decide (4 < v2) = true := by simpa using h2
      go_wp2_with fail
      go_meet
      case rel => exact ⟨congrArg Value.bool (decide_eq_true (by omega)).symm, XV⟩
    have t2 : decide (4 < v2) = false := by simpa using h2
    go_wp2_with fail
    go_meet
    case rel => exact ⟨congrArg Value.bool (decide_eq_false (by omega)).symm, XV⟩
   case rest =>
   obtain ⟨ht_, XV⟩ := hcut
   subst ht_
   go_upto_if 60 with fail
   go_cut [9] from 11 (fun nn wx => nn = .int .i64 (coM c : Nat) ∧ Hid (DI W g W.heap.size [.slice none 0 0, .slice none 0 0, .int .u64 0, .string ⟨#[]⟩, .string ⟨#[]⟩, .slice none 0 0] gb [.slice a (coN c) cap, .slice none 0 0, .int .u64 0, .string ⟨#[]⟩, .string ⟨#[]⟩, .slice none 0 0] B a (coN c) cap (fun i => rdI (coQ c i)) (coR c 0) wx))
   case first =>
    by_cases hb : 1 ≤ v2 ∧ v2 ≤ 4
    · have t1 : decide (¬ (1 ≤ v2 ∧ v2 ≤ 4)) = false := decide_eq_false (fun h => h hb)
      have e1 : (v2 : Int) = (coM c : Nat) := by rw [EN.out.1]; unfold cn; rw [x2, if_pos hb]; omega
      have e2 : (coQ c (coN c)).byt = coR c 0 := by rw [EN.out.2]; unfold cnP; rw [x2, if_pos hb]
      rw [e2] at XV
      clear EN e2 hb x2
      rw [t1]
      clear t1
      go_wp2_with fail
      go_meet
      case rel => exact ⟨by rw [e1], XV⟩
    · have t1 : decide (¬ (1 ≤ v2 ∧ v2 ≤ 4)) = true := decide_eq_true hb
      have e1 : ((0 : Nat) : Int) = (coM c : Nat) := by rw [EN.out.1]; unfold cn; rw [x2, if_neg hb]
      have e2 : (coQ c (coN c)).byt.fl 4 = coR c 0 := by rw [EN.out.2]; unfold cnP; rw [x2, if_neg hb]
      clear EN hb x2
      rw [t1]
      clear t1
      go_wp2_with fail
      refine (XV.out.rs.up.fail_l e2).mono ?_
      rintro r wf ⟨rfl, h⟩
      have XF := Lib.hid (XV.out.go h)
      clear XV h e2
      go_wp2_with fail
      go_meet
      case rel => exact ⟨by rw [← e1]; rfl, XF⟩
   case rest =>
   obtain ⟨ht_, D4⟩ := hcut
   subst ht_
   clear EN hbv XV x2
   go_wp2_with fail
   have hM4 := coM_le c
   have mB := D4.out.x.bb.lt
   have mG := D4.out.rs.lt
   have mR := D4.out.x.br.lt
   have m0 := D4.out.rs.ch.size
   have hIl : Hid (∀ x, a = some x → x.block < wc.heap.size) := fun x hx => (D4.out.o.blk_ x hx).2
   have hIB : Hid (∀ x, a = some x → W.heap.size ≤ x.block ∧ x.block ≠ g ∧ x.block ≠ gb ∧ x.block ≠ W.heap.size) := fun x hx => by have := (D4.out.o.blk_ x hx).1; omega
   have P8 := Lib.hid (OR.nil 49 OU.cells 9 wc wc.heap.size (fun i => rdO smallD (coR c i)))
   have X4 := Lib.hid D4.out.x
   have OI := Lib.hid D4.out.o
   clear D4
   obtain ⟨D, hD⟩ : ∃ n, wc.heap.size = n := ⟨_, rfl⟩
   rw [hD] at mB mG mR m0 P8 hIl
   have HDE := Lib.hid (Nat.le_of_eq hD.symm)
   clear hD
   as_aux_lemma =>
   go_loopw [10] (fun i wr => ∃ (k : Nat) (ao : Option Addr) (co : Nat), k ≤ coM c ∧ i = .int .i64 k ∧ D ≤ wr.heap.size ∧ Hid (DX W g W.heap.size [.slice none 0 0, .slice none 0 0, .int .u64 0, .string ⟨#[]⟩, .string ⟨#[]⟩, .slice none 0 0] gb [.slice a (coN c) cap, .slice ao k co, .int .u64 0, .string ⟨#[]⟩, .string ⟨#[]⟩, .slice none 0 0] (coR c k) wr) ∧ Hid (OR 49 OU.cells 9 wr D ao k co (fun i => rdO smallD (coR c i))) ∧ Hid (OR 98 IN.cells 4 wr B a (coN c) cap (fun i => rdI (coQ c i)))) (fun i _ => coM c - (intOf i).toNat)
   case atStart => exact ⟨0, none, 0, by omega, rfl, HDE.out, X4, P8, OI⟩
   case round =>
   obtain ⟨k, ao, co, hk, rfl, hb, X, O, OI'⟩ := hrel
   clear X4 P8 OI
   have OI := OI'
   clear OI'
   have k0 : (0 : Int) ≤ (k : Int) := by omega
   by_cases hlt : k < coM c
   · have k1 : (k : Int) < (coM c : Int) := by omega
     have t1 : decide ((k : Int) < (coM c : Int)) = true := by simpa using k1
     have t2 : decide (k < coM c) = true := by simpa using hlt
     obtain ⟨ou, hou⟩ : ∃ v, rdO smallD (coR c k) = v := ⟨_, rfl⟩
     have HR : Hid (∀ w, DR w g (coR c k) w → Calls Tryz.prog 143 #[.pointer (some ⟨g, 0, none⟩)] w fun r w' => r = .returned (ouV ou) ∧ DR w g (coR c (k + 1)) w') := fun w h => by rw [← hou]; exact d9out_l h
     have HW0 : Hid ((fun i => rdO smallD (coR c i)) k = ou) := hou
     clear hou
     obtain ⟨y0, y1, y2, y3, y4, y5, y6, y7, y8⟩ := ou
     have HW : Hid ((rdO smallD (coR c k)).cells = [.int .i64 y0, .int .u64 y1, .string y2, .string y3, .int .i64 y4, .string y5, .int .u64 y6, .int .i64 y7, .string y8]) := by show _ = _; have := HW0.out; dsimp only at this; rw [this]; rfl
     clear HW0
     have XD := Lib.hid (X.out.q (Q.refl _).drew)
     have OD := Lib.hid (O.out.q (Q.refl _).drew)
     have ID := Lib.hid (OI.out.q (Q.refl _).drew)
     have hbD : D ≤ wr.drew.heap.size := hb
     clear X O OI
     go_wp2_with fail
     as_aux_lemma =>
     obtain ⟨i0, hi0, hz0, hz1, hz2⟩ := info_of info_dout
     refine wp_region_held_drew (S := fun _ => True) (by kernel_rfl) trivial (fun hHeld => ?_)
     refine wpAnyH_take (i := 0) (v := ?_) (by simp only [List.getElem?_toArray, List.getElem?_cons_zero]; rfl) (by kernel_rfl) (by kernel_rfl) (by kernel_rfl) (by exact fun _ _ _ h => h) (Or.inl ⟨by rfl, ?_⟩) (by assumption) ?_
     rotate_left
     · (intro wx hSw; (try dsimp only at hSw); go_simp; (try rw [if_neg (by omega)]); try (with_reducible rfl))
     try simp only [Act.put, List.setIfInBounds_toArray, List.set_cons_zero, List.set_cons_succ]
     refine wpAnyH_take (i := 2) (v := ?_) (by simp only [List.getElem?_toArray, List.getElem?_cons_zero, List.getElem?_cons_succ]; rfl) (by kernel_rfl) (by kernel_rfl) (by kernel_rfl) (by exact fun _ _ _ h => h) (Or.inl ⟨by rfl, ?_⟩) (by assumption) ?_
     rotate_left
     · (intro wx hSw; (try dsimp only at hSw); go_simp; (try rw [if_neg (by omega)]); try (with_reducible rfl))
     try simp only [Act.put, List.setIfInBounds_toArray, List.set_cons_zero, List.set_cons_succ]
     refine wpAnyH_ready (rs := [1, 3]) (by kernel_rfl) (by simp) ?_
     refine AllReadyH.cons (by simp only [List.getElem?_toArray, List.getElem?_cons_succ, List.getElem?_cons_zero]; rfl) (fun K hK => ?_) (AllReadyH.cons (by simp only [List.getElem?_toArray, List.getElem?_cons_succ, List.getElem?_cons_zero]; rfl) (fun K hK => ?_) AllReadyH.nil)
     · as_aux_lemma =>
       have dl := (XD.out.cell 1 rfl).1
       go_simp
       refine hK.out _ _ trivial (fun _ => ?_)
       clear hK K dl
       try simp only [Act.put, List.setIfInBounds_toArray, List.set_cons_zero, List.set_cons_succ]
       refine wpAnyH_ready (rs := [3]) (by kernel_rfl) (by simp) ?_
       refine AllReadyH.cons (by simp only [List.getElem?_toArray, List.getElem?_cons_succ, List.getElem?_cons_zero]; rfl) (fun K hK => ?_) AllReadyH.nil
       go_simp
       refine (HR.out _ XD.out.rs.up).mono ?_
       rintro r z1 ⟨rfl, h⟩
       have X1z := Lib.hid (XD.out.go h)
       have O1z := Lib.hid (OD.out.low h.ch mG)
       have I1z := Lib.hid (ID.out.low h.ch lG)
       have hb1 : D ≤ z1.heap.size := Nat.le_trans hbD h.ch.size
       clear h XD OD ID
       dsimp only
       refine hK.out _ _ trivial (fun _ => ?_)
       clear hK K
       try simp only [Act.put, List.setIfInBounds_toArray, List.set_cons_zero, List.set_cons_succ]
       refine wpAnyH_ready (rs := [4]) (by kernel_rfl) (by simp) ?_
       refine AllReadyH.cons (by simp only [List.getElem?_toArray, List.getElem?_cons_succ, List.getElem?_cons_zero]; rfl) (fun K hK => ?_) AllReadyH.nil
       rw [if_pos (by rfl)]
       refine wpo_rowdout y0 y1 y2 y3 y4 y5 y6 y7 y8 rfl rfl ?_
       have X2z := Lib.hid (X1z.out.q ((Q.refl z1).alloc (.cells #[.int .i64 y0, .int .u64 y1, .string y2, .string y3, .int .i64 y4, .string y5, .int .u64 y6, .int .i64 y7, .string y8] 49)))
       have O2z := Lib.hid (O1z.out.q ((Q.refl z1).alloc (.cells #[.int .i64 y0, .int .u64 y1, .string y2, .string y3, .int .i64 y4, .string y5, .int .u64 y6, .int .i64 y7, .string y8] 49)))
       have I2z := Lib.hid (I1z.out.q ((Q.refl z1).alloc (.cells #[.int .i64 y0, .int .u64 y1, .string y2, .string y3, .int .i64 y4, .string y5, .int .u64 y6, .int .i64 y7, .string y8] 49)))
       have N2z : Hid (∀ j u, ([.int .i64 y0, .int .u64 y1, .string y2, .string y3, .int .i64 y4, .string y5, .int .u64 y6, .int .i64 y7, .string y8] : List Value)[j]? = some u → (z1.alloc (.cells #[.int .i64 y0, .int .u64 y1, .string y2, .string y3, .int .i64 y4, .string y5, .int .u64 y6, .int .i64 y7, .string y8] 49)).cell? ⟨z1.heap.size, j, none⟩ = some u) := fun j u hj => by rw [World.cell?_alloc_at _ _ _ _ rfl]; simpa using hj
       have hb2 : D ≤ (z1.alloc (.cells #[.int .i64 y0, .int .u64 y1, .string y2, .string y3, .int .i64 y4, .string y5, .int .u64 y6, .int .i64 y7, .string y8] 49)).heap.size := Nat.le_trans hb1 (by simp)
       clear X1z O1z I1z
       refine hK.out _ _ trivial (fun _ => ?_)
       clear hK K
       try simp only [Act.put, List.setIfInBounds_toArray, List.set_cons_zero, List.set_cons_succ]
       as_aux_lemma =>
       refine wpAnyH_ready (rs := [5]) (by kernel_rfl) (by simp) ?_
       refine AllReadyH.cons (by simp only [List.getElem?_toArray, List.getElem?_cons_succ, List.getElem?_cons_zero]; rfl) (fun K hK => ?_) AllReadyH.nil
       rw [if_pos (by rfl)]
       refine wpo_app (.tmp 69) (.tmp 72) 38 rfl i0 _ 104 Tryz.underlying38 hi0 hz0 hz1 hz2 rfl (by decide) rfl O2z.out z1.heap.size rfl (by rw [HW.out]; rfl) (fun j u hj => N2z.out j u (by rw [HW.out] at hj; exact hj)) (by rw [HW.out]; exact one9 rfl rfl rfl rfl rfl rfl rfl rfl rfl) (by omega) (by decide) hb2 ?_
       intro g3 cap3 w3 O3 Gr
       have X3 := Lib.hid (X2z.out.grown O2z.out hb2 mG mR mB m0 Gr)
       have I3 := Lib.hid (I2z.out.grown_ O2z.out hb2 hIl.out Gr)
       have hb3 : D ≤ w3.heap.size := by have := Gr.gr.size; omega
       have O3 := Lib.hid O3
       clear Gr X2z O2z I2z N2z hb2
       refine hK.out _ _ trivial (fun _ => ?_)
       clear hK K
       try simp only [Act.put, List.setIfInBounds_toArray, List.set_cons_zero, List.set_cons_succ]
       refine wpAnyH_ready (rs := [6]) (by kernel_rfl) (by simp) ?_
       refine AllReadyH.cons (by simp only [List.getElem?_toArray, List.getElem?_cons_succ, List.getElem?_cons_zero]; rfl) (fun K hK => ?_) AllReadyH.nil
       go_simp
       refine hK.out _ _ trivial (fun _ => ?_)
       clear hK K
       try simp only [Act.put, List.setIfInBounds_toArray, List.set_cons_zero, List.set_cons_succ]
       obtain ⟨d3, f3⟩ := X3.out.cell 1 rfl
       refine wpAnyH_ready (rs := [7]) (by kernel_rfl) (by simp) ?_
       refine AllReadyH.cons (by simp only [List.getElem?_toArray, List.getElem?_cons_succ, List.getElem?_cons_zero]; rfl) (fun K hK => ?_) AllReadyH.nil
       go_simp
       refine hK.out _ _ trivial (fun _ => ?_)
       clear hK K
       try simp only [Act.put, List.setIfInBounds_toArray, List.set_cons_zero, List.set_cons_succ]
       clear d3 f3
       have X4 := Lib.hid (X3.out.set 1 (.slice (some ⟨g3, 0, none⟩) (k + 1) cap3))
       have O4 := Lib.hid (O3.out.low (Ch.set w3 gb 1 (.slice (some ⟨g3, 0, none⟩) (k + 1) cap3)) mB)
       have I4 := Lib.hid (I3.out.low (Ch.set w3 gb 1 (.slice (some ⟨g3, 0, none⟩) (k + 1) cap3)) lB)
       have hb4 : D ≤ (w3.setCell ⟨gb, 1, none⟩ (.slice (some ⟨g3, 0, none⟩) (k + 1) cap3)).heap.size := by simpa using hb3
       clear X3 O3 I3 hb3
       refine wpAnyH_done (by kernel_rfl) ?_ _
       go_wp2_with fail
       go_roundw
       case rel => exact ⟨k + 1, _, cap3, by omega, by go_num, hb4, X4, O4, I4⟩
       case measure => simp [intOf]; omega
     · as_aux_lemma =>
       go_simp
       refine (HR.out _ XD.out.rs.up).mono ?_
       rintro r z3 ⟨rfl, h⟩
       have X3z := Lib.hid (XD.out.go h)
       have O3z := Lib.hid (OD.out.low h.ch mG)
       have I3z := Lib.hid (ID.out.low h.ch lG)
       have hb3 : D ≤ z3.heap.size := Nat.le_trans hbD h.ch.size
       clear h XD OD ID
       dsimp only
       refine hK.out _ _ trivial (fun _ => ?_)
       clear hK K
       try simp only [Act.put, List.setIfInBounds_toArray, List.set_cons_zero, List.set_cons_succ]
       refine wpAnyH_ready (rs := [1, 4]) (by kernel_rfl) (by simp) ?_
       refine AllReadyH.cons (by simp only [List.getElem?_toArray, List.getElem?_cons_succ, List.getElem?_cons_zero]; rfl) (fun K hK => ?_) (AllReadyH.cons (by simp only [List.getElem?_toArray, List.getElem?_cons_succ, List.getElem?_cons_zero]; rfl) (fun K hK => ?_) AllReadyH.nil)
       · as_aux_lemma =>
         have dl := (X3z.out.cell 1 rfl).1
         go_simp
         refine hK.out _ _ trivial (fun _ => ?_)
         clear hK K dl
         try simp only [Act.put, List.setIfInBounds_toArray, List.set_cons_zero, List.set_cons_succ]
         refine wpAnyH_ready (rs := [4]) (by kernel_rfl) (by simp) ?_
         refine AllReadyH.cons (by simp only [List.getElem?_toArray, List.getElem?_cons_succ, List.getElem?_cons_zero]; rfl) (fun K hK => ?_) AllReadyH.nil
         rw [if_pos (by rfl)]
         refine wpo_rowdout y0 y1 y2 y3 y4 y5 y6 y7 y8 rfl rfl ?_
         have X4z := Lib.hid (X3z.out.q ((Q.refl z3).alloc (.cells #[.int .i64 y0, .int .u64 y1, .string y2, .string y3, .int .i64 y4, .string y5, .int .u64 y6, .int .i64 y7, .string y8] 49)))
         have O4z := Lib.hid (O3z.out.q ((Q.refl z3).alloc (.cells #[.int .i64 y0, .int .u64 y1, .string y2, .string y3, .int .i64 y4, .string y5, .int .u64 y6, .int .i64 y7, .string y8] 49)))
         have I4z := Lib.hid (I3z.out.q ((Q.refl z3).alloc (.cells #[.int .i64 y0, .int .u64 y1, .string y2, .string y3, .int .i64 y4, .string y5, .int .u64 y6, .int .i64 y7, .string y8] 49)))
         have N4z : Hid (∀ j u, ([.int .i64 y0, .int .u64 y1, .string y2, .string y3, .int .i64 y4, .string y5, .int .u64 y6, .int .i64 y7, .string y8] : List Value)[j]? = some u → (z3.alloc (.cells #[.int .i64 y0, .int .u64 y1, .string y2, .string y3, .int .i64 y4, .string y5, .int .u64 y6, .int .i64 y7, .string y8] 49)).cell? ⟨z3.heap.size, j, none⟩ = some u) := fun j u hj => by rw [World.cell?_alloc_at _ _ _ _ rfl]; simpa using hj
         have hb4 : D ≤ (z3.alloc (.cells #[.int .i64 y0, .int .u64 y1, .string y2, .string y3, .int .i64 y4, .string y5, .int .u64 y6, .int .i64 y7, .string y8] 49)).heap.size := Nat.le_trans hb3 (by simp)
         clear X3z O3z I3z
         refine hK.out _ _ trivial (fun _ => ?_)
         clear hK K
         try simp only [Act.put, List.setIfInBounds_toArray, List.set_cons_zero, List.set_cons_succ]
         as_aux_lemma =>
         refine wpAnyH_ready (rs := [5]) (by kernel_rfl) (by simp) ?_
         refine AllReadyH.cons (by simp only [List.getElem?_toArray, List.getElem?_cons_succ, List.getElem?_cons_zero]; rfl) (fun K hK => ?_) AllReadyH.nil
         rw [if_pos (by rfl)]
         refine wpo_app (.tmp 69) (.tmp 72) 38 rfl i0 _ 104 Tryz.underlying38 hi0 hz0 hz1 hz2 rfl (by decide) rfl O4z.out z3.heap.size rfl (by rw [HW.out]; rfl) (fun j u hj => N4z.out j u (by rw [HW.out] at hj; exact hj)) (by rw [HW.out]; exact one9 rfl rfl rfl rfl rfl rfl rfl rfl rfl) (by omega) (by decide) hb4 ?_
         intro g3 cap3 w3 O3 Gr
         have X3 := Lib.hid (X4z.out.grown O4z.out hb4 mG mR mB m0 Gr)
         have I3 := Lib.hid (I4z.out.grown_ O4z.out hb4 hIl.out Gr)
         have hb3 : D ≤ w3.heap.size := by have := Gr.gr.size; omega
         have O3 := Lib.hid O3
         clear Gr X4z O4z I4z N4z hb4
         refine hK.out _ _ trivial (fun _ => ?_)
         clear hK K
         try simp only [Act.put, List.setIfInBounds_toArray, List.set_cons_zero, List.set_cons_succ]
         refine wpAnyH_ready (rs := [6]) (by kernel_rfl) (by simp) ?_
         refine AllReadyH.cons (by simp only [List.getElem?_toArray, List.getElem?_cons_succ, List.getElem?_cons_zero]; rfl) (fun K hK => ?_) AllReadyH.nil
         go_simp
         refine hK.out _ _ trivial (fun _ => ?_)
         clear hK K
         try simp only [Act.put, List.setIfInBounds_toArray, List.set_cons_zero, List.set_cons_succ]
         obtain ⟨d3, f3⟩ := X3.out.cell 1 rfl
         refine wpAnyH_ready (rs := [7]) (by kernel_rfl) (by simp) ?_
         refine AllReadyH.cons (by simp only [List.getElem?_toArray, List.getElem?_cons_succ, List.getElem?_cons_zero]; rfl) (fun K hK => ?_) AllReadyH.nil
         go_simp
         refine hK.out _ _ trivial (fun _ => ?_)
         clear hK K
         try simp only [Act.put, List.setIfInBounds_toArray, List.set_cons_zero, List.set_cons_succ]
         clear d3 f3
         have X4 := Lib.hid (X3.out.set 1 (.slice (some ⟨g3, 0, none⟩) (k + 1) cap3))
         have O4 := Lib.hid (O3.out.low (Ch.set w3 gb 1 (.slice (some ⟨g3, 0, none⟩) (k + 1) cap3)) mB)
         have I4 := Lib.hid (I3.out.low (Ch.set w3 gb 1 (.slice (some ⟨g3, 0, none⟩) (k + 1) cap3)) lB)
         have hb4 : D ≤ (w3.setCell ⟨gb, 1, none⟩ (.slice (some ⟨g3, 0, none⟩) (k + 1) cap3)).heap.size := by simpa using hb3
         clear X3 O3 I3 hb3
         refine wpAnyH_done (by kernel_rfl) ?_ _
         go_wp2_with fail
         go_roundw
         case rel => exact ⟨k + 1, _, cap3, by omega, by go_num, hb4, X4, O4, I4⟩
         case measure => simp [intOf]; omega
       · as_aux_lemma =>
         rw [if_pos (by rfl)]
         refine wpo_rowdout y0 y1 y2 y3 y4 y5 y6 y7 y8 rfl rfl ?_
         have X5z := Lib.hid (X3z.out.q ((Q.refl z3).alloc (.cells #[.int .i64 y0, .int .u64 y1, .string y2, .string y3, .int .i64 y4, .string y5, .int .u64 y6, .int .i64 y7, .string y8] 49)))
         have O5z := Lib.hid (O3z.out.q ((Q.refl z3).alloc (.cells #[.int .i64 y0, .int .u64 y1, .string y2, .string y3, .int .i64 y4, .string y5, .int .u64 y6, .int .i64 y7, .string y8] 49)))
         have I5z := Lib.hid (I3z.out.q ((Q.refl z3).alloc (.cells #[.int .i64 y0, .int .u64 y1, .string y2, .string y3, .int .i64 y4, .string y5, .int .u64 y6, .int .i64 y7, .string y8] 49)))
         have N5z : Hid (∀ j u, ([.int .i64 y0, .int .u64 y1, .string y2, .string y3, .int .i64 y4, .string y5, .int .u64 y6, .int .i64 y7, .string y8] : List Value)[j]? = some u → (z3.alloc (.cells #[.int .i64 y0, .int .u64 y1, .string y2, .string y3, .int .i64 y4, .string y5, .int .u64 y6, .int .i64 y7, .string y8] 49)).cell? ⟨z3.heap.size, j, none⟩ = some u) := fun j u hj => by rw [World.cell?_alloc_at _ _ _ _ rfl]; simpa using hj
         have hb5 : D ≤ (z3.alloc (.cells #[.int .i64 y0, .int .u64 y1, .string y2, .string y3, .int .i64 y4, .string y5, .int .u64 y6, .int .i64 y7, .string y8] 49)).heap.size := Nat.le_trans hb3 (by simp)
         clear X3z O3z I3z
         refine hK.out _ _ trivial (fun _ => ?_)
         clear hK K
         try simp only [Act.put, List.setIfInBounds_toArray, List.set_cons_zero, List.set_cons_succ]
         refine wpAnyH_ready (rs := [1]) (by kernel_rfl) (by simp) ?_
         refine AllReadyH.cons (by simp only [List.getElem?_toArray, List.getElem?_cons_succ, List.getElem?_cons_zero]; rfl) (fun K hK => ?_) AllReadyH.nil
         have dl := (X5z.out.cell 1 rfl).1
         go_simp
         refine hK.out _ _ trivial (fun _ => ?_)
         clear hK K dl
         try simp only [Act.put, List.setIfInBounds_toArray, List.set_cons_zero, List.set_cons_succ]
         as_aux_lemma =>
         refine wpAnyH_ready (rs := [5]) (by kernel_rfl) (by simp) ?_
         refine AllReadyH.cons (by simp only [List.getElem?_toArray, List.getElem?_cons_succ, List.getElem?_cons_zero]; rfl) (fun K hK => ?_) AllReadyH.nil
         rw [if_pos (by rfl)]
         refine wpo_app (.tmp 69) (.tmp 72) 38 rfl i0 _ 104 Tryz.underlying38 hi0 hz0 hz1 hz2 rfl (by decide) rfl O5z.out z3.heap.size rfl (by rw [HW.out]; rfl) (fun j u hj => N5z.out j u (by rw [HW.out] at hj; exact hj)) (by rw [HW.out]; exact one9 rfl rfl rfl rfl rfl rfl rfl rfl rfl) (by omega) (by decide) hb5 ?_
         intro g3 cap3 w3 O3 Gr
         have X3 := Lib.hid (X5z.out.grown O5z.out hb5 mG mR mB m0 Gr)
         have I3 := Lib.hid (I5z.out.grown_ O5z.out hb5 hIl.out Gr)
         have hb3 : D ≤ w3.heap.size := by have := Gr.gr.size; omega
         have O3 := Lib.hid O3
         clear Gr X5z O5z I5z N5z hb5
         refine hK.out _ _ trivial (fun _ => ?_)
         clear hK K
         try simp only [Act.put, List.setIfInBounds_toArray, List.set_cons_zero, List.set_cons_succ]
         refine wpAnyH_ready (rs := [6]) (by kernel_rfl) (by simp) ?_
         refine AllReadyH.cons (by simp only [List.getElem?_toArray, List.getElem?_cons_succ, List.getElem?_cons_zero]; rfl) (fun K hK => ?_) AllReadyH.nil
         go_simp
         refine hK.out _ _ trivial (fun _ => ?_)
         clear hK K
         try simp only [Act.put, List.setIfInBounds_toArray, List.set_cons_zero, List.set_cons_succ]
         obtain ⟨d3, f3⟩ := X3.out.cell 1 rfl
         refine wpAnyH_ready (rs := [7]) (by kernel_rfl) (by simp) ?_
         refine AllReadyH.cons (by simp only [List.getElem?_toArray, List.getElem?_cons_succ, List.getElem?_cons_zero]; rfl) (fun K hK => ?_) AllReadyH.nil
         go_simp
         refine hK.out _ _ trivial (fun _ => ?_)
         clear hK K
         try simp only [Act.put, List.setIfInBounds_toArray, List.set_cons_zero, List.set_cons_succ]
         clear d3 f3
         have X4 := Lib.hid (X3.out.set 1 (.slice (some ⟨g3, 0, none⟩) (k + 1) cap3))
         have O4 := Lib.hid (O3.out.low (Ch.set w3 gb 1 (.slice (some ⟨g3, 0, none⟩) (k + 1) cap3)) mB)
         have I4 := Lib.hid (I3.out.low (Ch.set w3 gb 1 (.slice (some ⟨g3, 0, none⟩) (k + 1) cap3)) lB)
         have hb4 : D ≤ (w3.setCell ⟨gb, 1, none⟩ (.slice (some ⟨g3, 0, none⟩) (k + 1) cap3)).heap.size := by simpa using hb3
         clear X3 O3 I3 hb3
         refine wpAnyH_done (by kernel_rfl) ?_ _
         go_wp2_with fail
         go_roundw
         case rel => exact ⟨k + 1, _, cap3, by omega, by go_num, hb4, X4, O4, I4⟩
         case measure => simp [intOf]; omega
   · obtain rfl : k = coM c := by omega
     have td : decide (coM c < coM c) = false := by simp
     have k1 : ¬ (coM c : Int) < (coM c : Int) := by omega
     go_wp2_with fail
     clear td k1 hlt k0 hk
     obtain ⟨E, hE⟩ : ∃ v, (coR c (coM c)).en = v := ⟨_, rfl⟩
     obtain ⟨aa, rfl⟩ : ∃ x, x = a := ⟨_, rfl⟩
     have AP : Hid (Apart aa ao) := fun x y hx hy => by have := hIl.out x hx; have := (O.out.blk_ y hy).1; omega
     have hOB : Hid (∀ x, ao = some x → x.block ≠ W.heap.size) := fun x hx => by have := (O.out.blk_ x hx).1; omega
     have hIW : Hid (∀ x, aa = some x → x.block ≠ W.heap.size) := fun x hx => (hIB x hx).2.2.2
     have O := Lib.hid (O.out.downd (show W.heap.size ≤ D by omega))
     have OI := Lib.hid (OI.out.downd (show W.heap.size ≤ B by omega))
     have n3 := X.out.n3
     clear hb hIB hIl HDE
     as_aux_lemma =>
     have SQ : Hid (∀ w w', (fun w => Box w gb [.slice aa (coN c) cap, .slice ao (coM c) co, .int .u64 0, .string ⟨#[]⟩, .string ⟨#[]⟩, .slice none 0 0] ∧ DR W g (coR c (coM c)) w ∧ (∃ z, Box w W.heap.size z ∧ z.length = 6) ∧ OR 98 IN.cells 4 w W.heap.size aa (coN c) cap (fun i => rdI (coQ c i)) ∧ OR 49 OU.cells 9 w W.heap.size ao (coM c) co (fun i => rdO smallD (coR c i))) w → Q w w' → (fun w => Box w gb [.slice aa (coN c) cap, .slice ao (coM c) co, .int .u64 0, .string ⟨#[]⟩, .string ⟨#[]⟩, .slice none 0 0] ∧ DR W g (coR c (coM c)) w ∧ (∃ z, Box w W.heap.size z ∧ z.length = 6) ∧ OR 98 IN.cells 4 w W.heap.size aa (coN c) cap (fun i => rdI (coQ c i)) ∧ OR 49 OU.cells 9 w W.heap.size ao (coM c) co (fun i => rdO smallD (coR c i))) w') := fun w w' h q => ⟨h.1.q q, h.2.1.q q, h.2.2.1.elim fun z hz => ⟨z, hz.1.q q, hz.2⟩, h.2.2.2.1.q q, h.2.2.2.2.q q⟩
     have hS0 : (fun w => Box w gb [.slice aa (coN c) cap, .slice ao (coM c) co, .int .u64 0, .string ⟨#[]⟩, .string ⟨#[]⟩, .slice none 0 0] ∧ DR W g (coR c (coM c)) w ∧ (∃ z, Box w W.heap.size z ∧ z.length = 6) ∧ OR 98 IN.cells 4 w W.heap.size aa (coN c) cap (fun i => rdI (coQ c i)) ∧ OR 49 OU.cells 9 w W.heap.size ao (coM c) co (fun i => rdO smallD (coR c i))) wr.drew := SQ.out wr _ ⟨X.out.bb, X.out.rs, ⟨_, X.out.br, rfl⟩, OI.out, O.out⟩ (Q.refl wr).drew
     clear X O OI
     refine region_gen3 ?_
     intro OPS QQ A0 hO hQQ hA
     have hz : A0.tmps.size = 78 := by rw [hA]; rfl
     have hs : sound OPS A0.tmps.size = true := by rw [hz, hO]; kernel_rfl
     have b_2 : A0.eval (.tmp 2) = .pointer (some ⟨W.heap.size, 0, none⟩) := by rw [hA]; rfl
     have fr_2 : free OPS 2 = true := by rw [hO]; kernel_rfl
     have b_4 : A0.eval (.tmp 4) = .pointer (some ⟨gb, 0, none⟩) := by rw [hA]; rfl
     have fr_4 : free OPS 4 = true := by rw [hO]; kernel_rfl
     have b_5 : A0.eval (.tmp 5) = .pointer (some ⟨g, 0, none⟩) := by rw [hA]; rfl
     have fr_5 : free OPS 5 = true := by rw [hO]; kernel_rfl
     obtain ⟨VV, hVV⟩ : ∃ V : Nat → Value → World → Prop, V = fun i => ([fun v _ => v = .agg #[.slice aa (coN c) cap, .slice ao (coM c) co, .int .u64 0, .string ⟨#[]⟩, .string ⟨#[]⟩, .slice none 0 0], fun v _ => v = .pointer (some ⟨g, 0, none⟩), fun v _ => v = .int .i64 E, fun _ w => Box w W.heap.size [.slice aa (coN c) cap, .slice ao (coM c) co, .int .u64 0, .string ⟨#[]⟩, .string ⟨#[]⟩, .slice none 0 0], fun v _ => v = .int .i64 E] : List (Value → World → Prop)).getD i (fun _ _ => True) := ⟨_, rfl⟩
     have v_0 : VV 0 = fun v _ => v = .agg #[.slice aa (coN c) cap, .slice ao (coM c) co, .int .u64 0, .string ⟨#[]⟩, .string ⟨#[]⟩, .slice none 0 0] := vat hVV 0
     have v_1 : VV 1 = fun v _ => v = .pointer (some ⟨g, 0, none⟩) := vat hVV 1
     have v_2 : VV 2 = fun v _ => v = .int .i64 E := vat hVV 2
     have v_3 : VV 3 = fun _ w => Box w W.heap.size [.slice aa (coN c) cap, .slice ao (coM c) co, .int .u64 0, .string ⟨#[]⟩, .string ⟨#[]⟩, .slice none 0 0] := vat hVV 3
     have v_4 : VV 4 = fun v _ => v = .int .i64 E := vat hVV 4
     have hV := stable_of (T := (fun w w' => Q w w' ∨ (Ch W.heap.size w w' ∧ Box w' W.heap.size [.slice aa (coN c) cap, .slice ao (coM c) co, .int .u64 0, .string ⟨#[]⟩, .string ⟨#[]⟩, .slice none 0 0]))) hVV ((sl_cons (fun _ _ _ h _ => h) (sl_cons (fun _ _ _ h _ => h) (sl_cons (fun _ _ _ h _ => h) (sl_cons (fun _ _ _ h t => t.elim (fun q => h.q q) (fun t => t.2)) (sl_cons (fun _ _ _ h _ => h) trivial))))))
     clear hVV
     have i_0 := pget_at hO 0 rfl
     have i_1 := pget_at hO 1 rfl
     have i_2 := pget_at hO 2 rfl
     have i_3 := pget_at hO 3 rfl
     have i_4 := pget_at hO 4 rfl
     have s_0 := Step.pure (P := Tryz.prog) (V := VV) (T := (fun w w' => Q w w' ∨ (Ch W.heap.size w w' ∧ Box w' W.heap.size [.slice aa (coN c) cap, .slice ao (coM c) co, .int .u64 0, .string ⟨#[]⟩, .string ⟨#[]⟩, .slice none 0 0]))) (S := (fun w => Box w gb [.slice aa (coN c) cap, .slice ao (coM c) co, .int .u64 0, .string ⟨#[]⟩, .string ⟨#[]⟩, .slice none 0 0] ∧ DR W g (coR c (coM c)) w ∧ (∃ z, Box w W.heap.size z ∧ z.length = 6) ∧ OR 98 IN.cells 4 w W.heap.size aa (coN c) cap (fun i => rdI (coQ c i)) ∧ OR 49 OU.cells 9 w W.heap.size ao (coM c) co (fun i => rdO smallD (coR c i)))) (a0 := A0) (Qx := QQ) i_0 (.agg #[.slice aa (coN c) cap, .slice ao (coM c) co, .int .u64 0, .string ⟨#[]⟩, .string ⟨#[]⟩, .slice none 0 0]) (fun w => .inl (Q.refl w)) (fun l a w hI hl => ⟨wanted_none rfl, ex_loado 43 rfl gb 0 [.slice aa (coN c) cap, .slice ao (coM c) co, .int .u64 0, .string ⟨#[]⟩, .string ⟨#[]⟩, .slice none 0 0] _ ((hI.base 4 fr_4).trans b_4) (hI.st.1.rangeo 0 (r := []) rfl) Tryz.underlying43 rfl (by kernel_rfl), at_mk v_0 rfl⟩)
     have s_1 := Step.pure (P := Tryz.prog) (V := VV) (T := (fun w w' => Q w w' ∨ (Ch W.heap.size w w' ∧ Box w' W.heap.size [.slice aa (coN c) cap, .slice ao (coM c) co, .int .u64 0, .string ⟨#[]⟩, .string ⟨#[]⟩, .slice none 0 0]))) (S := (fun w => Box w gb [.slice aa (coN c) cap, .slice ao (coM c) co, .int .u64 0, .string ⟨#[]⟩, .string ⟨#[]⟩, .slice none 0 0] ∧ DR W g (coR c (coM c)) w ∧ (∃ z, Box w W.heap.size z ∧ z.length = 6) ∧ OR 98 IN.cells 4 w W.heap.size aa (coN c) cap (fun i => rdI (coQ c i)) ∧ OR 49 OU.cells 9 w W.heap.size ao (coM c) co (fun i => rdO smallD (coR c i)))) (a0 := A0) (Qx := QQ) i_1 (.pointer (some ⟨g, 0, none⟩)) (fun w => .inl (Q.refl w)) (fun l a w hI hl => ⟨wanted_none rfl, ex_move rfl ((hI.base 5 fr_5).trans b_5), at_mk v_1 rfl⟩)
     have s_2 := Step.call (P := Tryz.prog) (V := VV) (T := (fun w w' => Q w w' ∨ (Ch W.heap.size w w' ∧ Box w' W.heap.size [.slice aa (coN c) cap, .slice ao (coM c) co, .int .u64 0, .string ⟨#[]⟩, .string ⟨#[]⟩, .slice none 0 0]))) (S := (fun w => Box w gb [.slice aa (coN c) cap, .slice ao (coM c) co, .int .u64 0, .string ⟨#[]⟩, .string ⟨#[]⟩, .slice none 0 0] ∧ DR W g (coR c (coM c)) w ∧ (∃ z, Box w W.heap.size z ∧ z.length = 6) ∧ OR 98 IN.cells 4 w W.heap.size aa (coN c) cap (fun i => rdI (coQ c i)) ∧ OR 49 OU.cells 9 w W.heap.size ao (coM c) co (fun i => rdO smallD (coR c i)))) (a0 := A0) (Qx := QQ) (R := fun _ _ _ => True) i_2 (fun l a w hI hl => by
      refine ⟨wanted_none rfl, 144, #[.pointer (some ⟨g, 0, none⟩)], ?_, ?_⟩
      · exact ex_call rfl (by simp only [List.map_toArray, List.map_cons, List.map_nil, ev_const, (show a.eval (.tmp 76) = _ from (at_eq v_1 (hI.at_ 1 76 _ i_1 rfl (hl_at hl 0 rfl rfl))))]) Tryz.func144 (by kernel_rfl) (by kernel_rfl)
      · exact (hI.st.2.1.end_l hE).mono fun e w' hc => by
         obtain ⟨rfl, hq⟩ := hc
         exact ⟨_, rfl, .inl hq, SQ.out _ _ hI.st hq, at_mk v_2 rfl⟩)
     have s_3 := Step.done (P := Tryz.prog) (V := VV) (T := (fun w w' => Q w w' ∨ (Ch W.heap.size w w' ∧ Box w' W.heap.size [.slice aa (coN c) cap, .slice ao (coM c) co, .int .u64 0, .string ⟨#[]⟩, .string ⟨#[]⟩, .slice none 0 0]))) (S := (fun w => Box w gb [.slice aa (coN c) cap, .slice ao (coM c) co, .int .u64 0, .string ⟨#[]⟩, .string ⟨#[]⟩, .slice none 0 0] ∧ DR W g (coR c (coM c)) w ∧ (∃ z, Box w W.heap.size z ∧ z.length = 6) ∧ OR 98 IN.cells 4 w W.heap.size aa (coN c) cap (fun i => rdI (coQ c i)) ∧ OR 49 OU.cells 9 w W.heap.size ao (coM c) co (fun i => rdO smallD (coR c i)))) (a0 := A0) (Qx := QQ) i_3 (fun l a w hI hl => by
      obtain ⟨z0, hzb, hzl⟩ := hI.st.2.2.1
      refine ⟨wanted_none rfl, ?_⟩
      refine wpo_st_box 43 _ _ rfl W.heap.size z0 [.slice aa (coN c) cap, .slice ao (coM c) co, .int .u64 0, .string ⟨#[]⟩, .string ⟨#[]⟩, .slice none 0 0] ((hI.base 2 fr_2).trans b_2) (at_eq v_0 (hI.at_ 0 75 _ i_0 rfl (hl_at hl 0 rfl rfl))) hzb (by rw [hzl]; rfl) (by kernel_rfl) (one6d rfl rfl rfl rfl rfl rfl) ?_
      intro w3 B3 c3
      exact ⟨undef, rfl, .inr ⟨c3, B3⟩, ⟨hI.st.1.ch c3 n3.symm, hI.st.2.1.box c3 (Nat.le_refl _) n1, ⟨_, B3, rfl⟩, hI.st.2.2.2.1.ch c3 hIW.out, hI.st.2.2.2.2.ch c3 hOB.out⟩, p_at v_3 B3⟩)
     have s_4 := Step.pure (P := Tryz.prog) (V := VV) (T := (fun w w' => Q w w' ∨ (Ch W.heap.size w w' ∧ Box w' W.heap.size [.slice aa (coN c) cap, .slice ao (coM c) co, .int .u64 0, .string ⟨#[]⟩, .string ⟨#[]⟩, .slice none 0 0]))) (S := (fun w => Box w gb [.slice aa (coN c) cap, .slice ao (coM c) co, .int .u64 0, .string ⟨#[]⟩, .string ⟨#[]⟩, .slice none 0 0] ∧ DR W g (coR c (coM c)) w ∧ (∃ z, Box w W.heap.size z ∧ z.length = 6) ∧ OR 98 IN.cells 4 w W.heap.size aa (coN c) cap (fun i => rdI (coQ c i)) ∧ OR 49 OU.cells 9 w W.heap.size ao (coM c) co (fun i => rdO smallD (coR c i)))) (a0 := A0) (Qx := QQ) i_4 (.int .i64 E) (fun w => .inl (Q.refl w)) (fun l a w hI hl => ⟨wanted_none rfl, ex_assign rfl (at_eq v_2 (hI.at_ 2 77 _ i_2 rfl (hl_at hl 0 rfl rfl))), at_mk v_4 rfl⟩)
     refine wp_plan VV (fun w w' => Q w w' ∨ (Ch W.heap.size w w' ∧ Box w' W.heap.size [.slice aa (coN c) cap, .slice ao (coM c) co, .int .u64 0, .string ⟨#[]⟩, .string ⟨#[]⟩, .slice none 0 0])) (fun w => Box w gb [.slice aa (coN c) cap, .slice ao (coM c) co, .int .u64 0, .string ⟨#[]⟩, .string ⟨#[]⟩, .slice none 0 0] ∧ DR W g (coR c (coM c)) w ∧ (∃ z, Box w W.heap.size z ∧ z.length = 6) ∧ OR 98 IN.cells 4 w W.heap.size aa (coN c) cap (fun i => rdI (coQ c i)) ∧ OR 49 OU.cells 9 w W.heap.size ao (coM c) co (fun i => rdO smallD (coR c i))) (by kernel_rfl) hs hV hS0 (steps_all hO ((sf_cons s_0 (sf_cons s_1 (sf_cons s_2 (sf_cons s_3 (sf_cons s_4 trivial))))))) ?_
     intro l a' w' hall hIv
     have e0 : a'.eval (.tmp 3) = .int .i64 E := at_eq v_4 (hIv.at_ 4 3 _ i_4 rfl (hall 4 (by rw [hO]; decide)))
     have e2 : a'.tmps.getD 2 undef = .pointer (some ⟨W.heap.size, 0, none⟩) := (hIv.base 2 fr_2).trans b_2
     have hd : a'.defers = [] := by (rw [hIv.df, hA]; try rfl)
     have BF : Box w' W.heap.size [.slice aa (coN c) cap, .slice ao (coM c) co, .int .u64 0, .string ⟨#[]⟩, .string ⟨#[]⟩, .slice none 0 0] := at_p v_3 (hIv.val 3 _ i_3 (hall 3 (by rw [hO]; decide)))
     have HL : Hid ((loadVar 43 ⟨W.heap.size, 0, none⟩).run Tryz.prog w' = .ok (.agg #[.slice aa (coN c) cap, .slice ao (coM c) co, .int .u64 0, .string ⟨#[]⟩, .string ⟨#[]⟩, .slice none 0 0]) w') := BF.load _ Tryz.underlying43 rfl (by kernel_rfl)
     have Q9 : Hid (Q W w') := hIv.st.2.1.ch.q (Q.refl W) l3
     have OI := Lib.hid hIv.st.2.2.2.1
     have O := Lib.hid hIv.st.2.2.2.2
     rw [hQQ]
     clear hIv hall BF SQ
     go_wp2_with fail
     (try simp only [Exit.inBlock, Exit.then])
     refine bodyPost_ret (results_cell_tmp rfl e2 HL.out) hd ?_
     refine ⟨aa, cap, ao, co, ?_, OI.out, O.out, AP.out, Q9.out⟩
     show Ending.returned (.tuple #[_, a'.eval (.tmp 3)]) = _
     rw [e0, hE]
     rfl
end Go.Proofs.YtjiepemapffgjaaGreatDoor.Coi
