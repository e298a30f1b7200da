import Derived.Test.YtjiepemapffgjaaGreatDoorXJDec7
import Derived.Test.YtjiepemapffgjaaGreatDoorXJDecB
import Derived.Test.YtjiepemapffgjaaGreatDoorXJDecD
import Derived.Test.YtjiepemapffgjaaGreatDoorXJDecE
import Derived.Test.YtjiepemapffgjaaGreatDoorXJBloB
set_option maxRecDepth 100000
namespace Go.Proofs.YtjiepemapffgjaaGreatDoor.Coi
open Go.RowKit
open Mem Num Cod Sh Plan
set_option linter.unusedVariables false
set_option linter.unusedSimpArgs false
theorem built_dkz  : Tryz.prog.built 77 [] = some #[.int .i64 0, .string ⟨#[]⟩, .slice none 0 0] := by kernel_rfl
theorem wpl_dkz {ops : Array Oper} {rest : List Oper} {o : Oper} {a : Act} {w : World} {Q : Exit → Act → World → Prop} (hg : o.guard = none)  (ho : o.op = .build 77 #[]) (d : Option Tmp) (hd : o.dst = d)  (h : wpList Tryz.prog ops Q rest (a.put d (.agg #[.int .i64 0, .string ⟨#[]⟩, .slice none 0 0])) w) : wpList Tryz.prog ops Q (o :: rest) a w := by
 refine wpList_buildTo hg 77 _ ho d hd _ ?_ h
 simp only [List.map_toArray, List.map_nil]
 exact built_dkz
theorem built_dkp (v0 : ByteArray) : Tryz.prog.built 77 [(1, .string v0)] = some #[.int .i64 0, .string v0, .slice none 0 0] := by kernel_rfl
theorem wpl_dkp {ops : Array Oper} {rest : List Oper} {o : Oper} {a : Act} {w : World} {Q : Exit → Act → World → Prop} (hg : o.guard = none) {n0 : Nat} (v0 : ByteArray) (ho : o.op = .build 77 #[(1, .tmp n0)]) (d : Option Tmp) (hd : o.dst = d) (h0 : a.eval (.tmp n0) = .string v0) (h : wpList Tryz.prog ops Q rest (a.put d (.agg #[.int .i64 0, .string v0, .slice none 0 0])) w) : wpList Tryz.prog ops Q (o :: rest) a w := by
 refine wpList_buildTo hg 77 _ ho d hd _ ?_ h
 simp only [List.map_toArray, List.map_cons, List.map_nil, h0]
 exact built_dkp v0
theorem built_drd1 (s : ByteArray) : Tryz.prog.built 140 [(0, .string s), (1, .int .i64 1)] = some #[.string s, .int .i64 1, .int .i64 0] := by kernel_rfl
theorem wpl_drd1 {ops : Array Oper} {rest : List Oper} {o : Oper} {a : Act} {w : World} {Q : Exit → Act → World → Prop} (hg : o.guard = none) {n0 : Nat} (s : ByteArray) (ho : o.op = .build 140 #[(0, .tmp n0), (1, .const (.int .i64 1))]) (d : Option Tmp) (hd : o.dst = d) (h0 : a.eval (.tmp n0) = .string s) (h : wpList Tryz.prog ops Q rest (a.put d (.agg #[.string s, .int .i64 1, .int .i64 0])) w) : wpList Tryz.prog ops Q (o :: rest) a w := by
 refine wpList_buildTo hg 140 _ ho d hd _ ?_ h
 simp only [List.map_toArray, List.map_cons, List.map_nil, h0]
 exact built_drd1 s
theorem DR.new1 (s : ByteArray) (hs : s.size ≤ 1000000) (h1 : 0 < s.size) (w : World) (t : TypeId) : DR (w.alloc (.cells #[.string s, .int .i64 1, .int .i64 0] t)) w.heap.size ⟨s.extract 1 s.size, 0⟩ (w.alloc (.cells #[.string s, .int .i64 1, .int .i64 0] t)) := by
 have hc : ∀ o, (w.alloc (.cells #[.string s, .int .i64 1, .int .i64 0] t)).cell? ⟨w.heap.size, o, none⟩ = #[Value.string s, .int .i64 1, .int .i64 0][o]? := fun o => by rw [World.cell?_alloc_at _ _ _ _ rfl]
 exact ⟨⟨s, 1, ⟨hc 0, hc 1, hc 2, made_frozen w _ _⟩, h1, rfl, hs⟩, Ch.refl _ _⟩
theorem DR.grow {w0 w w' : World} {g B : Nat} {p : PS} {o : Option Nat} (h : DR w0 g p w) (k : w.grownBy w' o) (ho : ∀ j, o = some j → B ≤ j) (h0 : w0.heap.size ≤ B) (hg : g < B) (hB : B ≤ w.heap.size) : DR w0 g p w' := by
 obtain ⟨j, hj, c⟩ := ch_of_grown k ho
 exact h.box c (by omega) (by omega)
/-- What Decode answers. -/
def DKo (s : ByteArray) (W : World) (r : Ending) (w' : World) : Prop := ∃ z : BKI, r = .returned (.tuple #[z.val, .int .i64 (bkE smallD s)]) ∧ z.tl w' ∧ z.n ≤ 100 ∧ z.Is (bkV smallD s) ∧ Q W w'
theorem DKo.bad {s : ByteArray} {W w' : World} {e : Int} (h : bkE smallD s = e) (h0 : e ≠ 0) (q : Q W w') : DKo s W (.returned (.tuple #[.agg #[.int .i64 0, .string ⟨#[]⟩, .slice none 0 0], .int .i64 e])) w' := by
 have hv : bkV smallD s = BK.zero := by unfold bkV; rw [if_neg (by rw [h]; exact h0)]
 exact ⟨⟨0, ⟨#[]⟩, 0, fun _ => ⟨TX.zero, none, 0, none, 0, none, 0⟩, none, 0⟩, by rw [h], ⟨SL.nil rfl, fun i hi => by have : i < 0 := hi; omega, fun i hi => by have : i < 0 := hi; omega⟩, Nat.zero_le _, by rw [hv]; exact ⟨rfl, rfl, rfl, fun i hi => by have : i < 0 := hi; omega⟩, q⟩
/-- Where Decode stands: k transactions are decoded. -/
structure DSD (W : World) (s : ByteArray) (g b2 b5 Bt : Nat) (pv : ByteArray) (aT : Option Addr) (k : Nat) (G : Nat → TXI) (a : Option Addr) (c : Nat) (w : World) : Prop where
 rs : DR W g (bkQ s (bkN s)) w
 z : Box w b2 [.int .i64 0, .string ⟨#[]⟩, .slice none 0 0]
 b : Box w b5 [.int .i64 0, .string pv, .slice a k c]
 o : OR 43 TXI.cells 6 w Bt a k c G
 m : ∀ i, i < k → (G i).tm w
 v : ∀ i, i < k → (G i).t = deV smallD (bkT s i)
 d : ∀ i, i < k → deE smallD (bkT s i) = 0
 l : ∀ i, i < k → ∀ b, (G i).on b → Bt ≤ b ∧ ∀ y, a = some y → b ≠ y.block
 t : SL SC 1 w aT (bkN s) (bkT s)
 h : Bt ≤ w.heap.size
section
variable {W : World} {s : ByteArray} {g b2 b5 Bt k : Nat} {pv : ByteArray} {aT a : Option Addr} {G G' : Nat → TXI} {c : Nat} {w w' : World}
theorem DSD.q (h : DSD W s g b2 b5 Bt pv aT k G a c w) (q : Q w w') : DSD W s g b2 b5 Bt pv aT k G a c w' :=
 ⟨h.rs.q q, h.z.q q, h.b.q q, h.o.q q, fun i hi => (h.m i hi).q q, h.v, h.d, h.l, h.t.q q, Nat.le_trans h.h q.size⟩
theorem DSD.push {g' c' : Nat} {w2 : World} (h : DSD W s g b2 b5 Bt pv aT k G a c w) (D : DC W g b2 b5 Bt aT) (hG : ∀ i, i < k → G i = G' i) (O : OR 43 TXI.cells 6 w' Bt (some ⟨g', 0, none⟩) (k + 1) c' G') (gr : Grow w w' (blk a) g')
 (tk : (G' k).tm w) (vk : (G' k).t = deV smallD (bkT s k)) (dk : deE smallD (bkT s k) = 0) (lk : ∀ b, (G' k).on b → Bt ≤ b ∧ ∀ y, a = some y → b ≠ y.block) (B : Box w2 b5 [.int .i64 0, .string pv, .slice (some ⟨g', 0, none⟩) (k + 1) c']) (cb : Ch b5 w' w2) :
 DSD W s g b2 b5 Bt pv aT (k + 1) G' (some ⟨g', 0, none⟩) c' w2 := by
 obtain ⟨jb, cj, j1, j2⟩ := grow_ch gr
 have jB : Bt ≤ jb := by
  cases ha : a with
  | none => rw [j2 ha]; exact h.h
  | some y => rw [j1 y ha]; exact (h.o.blk_ y ha).1
 have all : ∀ i, i < k + 1 → (G' i).tm w ∧ (G' i).t = deV smallD (bkT s i) ∧ (∀ b, (G' i).on b → Bt ≤ b ∧ ∀ y, a = some y → b ≠ y.block) ∧ deE smallD (bkT s i) = 0 := by
  intro i hi
  by_cases e : i = k
  · subst e; exact ⟨tk, vk, lk, dk⟩
  · rw [← hG i (by omega)]; exact ⟨h.m i (by omega), h.v i (by omega), h.l i (by omega), h.d i (by omega)⟩
 have nj : ∀ i, i < k + 1 → ¬ (G' i).on jb := fun i hi ho => by
  cases ha : a with
  | none => have := tm_lt (all i hi).1 ho; rw [j2 ha] at this; omega
  | some y => exact ((all i hi).2.2.1 _ ho).2 y ha (j1 y ha)
 have ng : ∀ i, i < k + 1 → ∀ b, (G' i).on b → b ≠ g' := fun i hi b ho => by
  rcases gr.at_ with e | e
  · cases ha : a with
    | none => rw [ha] at e; cases e
    | some y => rw [ha] at e; simp only [blk, Option.map_some, Option.some.injEq] at e; rw [← e]; exact ((all i hi).2.2.1 _ ho).2 y ha
  · have := tm_lt (all i hi).1 ho; omega
 have D1 := D.lg; have D2 := D.l2; have D3 := D.l5
 refine ⟨(h.rs.box cj (by have := D.wg; omega) (by omega)).box cb D.w5 D.n2, (h.z.ch cj (by omega)).ch cb D.n3, B, O.low cb D3, fun i hi => tm_ch (tm_ch (all i hi).1 cj (nj i hi)) cb (fun ho => by have := ((all i hi).2.2.1 _ ho).1; omega), fun i hi => (all i hi).2.1, fun i hi => (all i hi).2.2.2,
  fun i hi b ho => ⟨((all i hi).2.2.1 b ho).1, fun y hy => by injection hy with hy; subst hy; exact ng i hi b ho⟩, (h.t.ch cj (fun x hx => by have := (D.t x hx).1; omega)).ch cb (fun x hx => (D.t x hx).2.2.2), ?_⟩
 have := cj.size; have := cb.size; have := h.h; omega
end
set_option maxHeartbeats 4000000 in
set_option maxRecDepth 100000 in
theorem d10decode_x (s : ByteArray) (hs : s.size ≤ 1000000) (W : World) : Calls Tryz.prog 47 #[.string s] W (DKo s W) := by
 have HB : Hid (∀ t, Box (W.alloc (.cells #[.int .i64 0, .string ⟨#[]⟩, .slice none 0 0] t)) W.heap.size [.int .i64 0, .string ⟨#[]⟩, .slice none 0 0]) := fun t => Box.new W _ t
 have HQ : Hid (∀ o, Q W (W.alloc o)) := fun o => (Q.refl W).alloc o
 have B0 := Lib.hid (HB.out 77)
 have Q0 := Lib.hid (HQ.out (.cells #[.int .i64 0, .string ⟨#[]⟩, .slice none 0 0] 77))
 clear HB HQ
 have hsz : (W.alloc (.cells #[.int .i64 0, .string ⟨#[]⟩, .slice none 0 0] 77)).heap.size = W.heap.size + 1 := by simp
 by_cases hz : s.size = 0
 · have DE : Hid (bkE smallD s = 3) := bk_x0 hz
   have ec : s = ⟨#[]⟩ := zero_ba hz
   subst ec
   clear hsz hz
   go_enter Tryz.func47, Tryz.ntmps47
   go_wp2_with (with_reducible (show wpList _ _ _ (⟨_, Op.build 77 _, _, _, _, _⟩ :: _) _ _); refine halt ?_)
   refine Lib.hid (wpl_dkz rfl rfl _ rfl ?_)
   go_wp2_with (with_reducible (show wpList _ _ _ (⟨_, Op.store 77 _ _, _, _, _, _⟩ :: _) _ _); refine halt ?_)
   refine Lib.hid (st_box rfl 77 _ _ rfl W.heap.size _ [.int .i64 0, .string ⟨#[]⟩, .slice none 0 0] rfl rfl B0.out rfl (by kernel_rfl) (one3d rfl rfl rfl) ?_)
   intro w19 B9 c9
   have HL : Hid ((loadVar 77 ⟨W.heap.size, 0, none⟩).run Tryz.prog w19 = .ok (.agg #[.int .i64 0, .string ⟨#[]⟩, .slice none 0 0]) w19) := B9.load _ Tryz.underlying77 rfl (by kernel_rfl)
   have Q9 : Hid (Q W w19) := c9.q Q0.out (Nat.le_refl _)
   clear B9 c9
   go_wp2_with fail
   (try simp only [Exit.inBlock, Exit.then])
   refine bodyPost_ret (results_cell_tmp rfl rfl HL.out) rfl ?_
   exact DKo.bad DE.out (by decide) Q9.out
 have ne1 : s.toList.isEmpty = false := isEmpty_pos s (by omega)
 have ne2 : s.toList ≠ [] := by rw [ne_eq, tl_nil]; exact hz
 have ne3 : 0 < s.size := by omega
 have ebt : PlainAid.bt s 0 = ((s[0]'ne3).toNat : Int) := by unfold PlainAid.bt; rw [dif_pos ne3]
 by_cases hb : PlainAid.bt s 0 = 66
 rotate_left
 · have DE : Hid (bkE smallD s = 4) := bk_x1 ne3 hb
   rw [ebt] at hb
   have t1 : (((s[0]'ne3).toNat : Int) != 66) = true := by simpa using hb
   have t2 : (((s[0]'ne3).toNat : Int) == 66) = false := by simpa using hb
   clear hsz hz ebt hb
   go_enter Tryz.func47, Tryz.ntmps47
   go_wp2_with (with_reducible (show wpList _ _ _ (⟨_, Op.build 77 _, _, _, _, _⟩ :: _) _ _); refine halt ?_)
   refine Lib.hid (wpl_dkz rfl rfl _ rfl ?_)
   go_wp2_with (with_reducible (show wpList _ _ _ (⟨_, Op.store 77 _ _, _, _, _, _⟩ :: _) _ _); refine halt ?_)
   refine Lib.hid (st_box rfl 77 _ _ rfl W.heap.size _ [.int .i64 0, .string ⟨#[]⟩, .slice none 0 0] rfl rfl B0.out rfl (by kernel_rfl) (one3d rfl rfl rfl) ?_)
   intro w19 B9 c9
   have HL : Hid ((loadVar 77 ⟨W.heap.size, 0, none⟩).run Tryz.prog w19 = .ok (.agg #[.int .i64 0, .string ⟨#[]⟩, .slice none 0 0]) w19) := B9.load _ Tryz.underlying77 rfl (by kernel_rfl)
   have Q9 : Hid (Q W w19) := c9.q Q0.out (Nat.le_refl _)
   clear B9 c9
   go_wp2_with fail
   (try simp only [Exit.inBlock, Exit.then])
   refine bodyPost_ret (results_cell_tmp rfl rfl HL.out) rfl ?_
   exact DKo.bad DE.out (by decide) Q9.out
 have HP : Hid (bkP s = ⟨s.extract 1 s.size, 0⟩) := bkP_1 ne3 hb
 rw [ebt] at hb
 have t1 : (((s[0]'ne3).toNat : Int) != 66) = false := by simpa using hb
 have t2 : (((s[0]'ne3).toNat : Int) == 66) = true := by simpa using hb
 clear ebt hb hz
 go_enter Tryz.func47, Tryz.ntmps47
 go_wp2_with (with_reducible (show wpList _ _ _ (⟨_, Op.build 140 _, _, _, _, _⟩ :: _) _ _); refine halt ?_)
 generalize W.alloc (.cells #[.int .i64 0, .string ⟨#[]⟩, .slice none 0 0] 77) = wA at *
 have n1 : wA.heap.size ≠ W.heap.size := by omega
 have l3 : W.heap.size ≤ wA.heap.size := by omega
 clear hsz
 refine Lib.hid (wpl_drd1 rfl s rfl _ rfl rfl ?_)
 have D0 := Lib.hid (DR.new1 s hs ne3 wA 140)
 have Q1 : Hid (Q W (wA.alloc (.cells #[.string s, .int .i64 1, .int .i64 0] 140))) := Q0.out.alloc _
 have B1 : Hid (Box (wA.alloc (.cells #[.string s, .int .i64 1, .int .i64 0] 140)) W.heap.size [.int .i64 0, .string ⟨#[]⟩, .slice none 0 0]) := B0.out.q ((Q.refl _).alloc _)
 go_wp2_with fail
 generalize wA.alloc (.cells #[.string s, .int .i64 1, .int .i64 0] 140) = wB at *
 have H1 : Hid (DR W wA.heap.size (bkP s) wB) := by
  show DR W wA.heap.size (bkP s) wB
  rw [HP.out]; exact ⟨D0.out.rd, Ch.of_q Q1.out _⟩
 generalize wA.heap.size = g at *
 clear Q0 Q1 B0 D0 HP ne1 ne2 t1 t2
 obtain ⟨nv, hnv⟩ : ∃ v, (bkP s).nuV = v := ⟨_, rfl⟩
 obtain ⟨pv, hpv⟩ : ∃ v, (bkP s).num.haV = v := ⟨_, rfl⟩
 obtain ⟨bv, hbv⟩ : ∃ v, (bkC s).byV = v := ⟨_, rfl⟩
 have NV : Hid ((bkP s).nuV = nv) := hnv
 have PV : Hid ((bkP s).num.haV = pv) := hpv
 have BV : Hid ((bkC s).byV = bv) := hbv
 have NU := PS.nuV_in (bkP s)
 rw [hnv] at NU
 have BI := PS.byV_in (bkC s)
 rw [hbv] at BI
 refine (H1.out.up.num_l hnv rfl).mono ?_
 rintro r w2 ⟨rfl, h⟩
 have B2 := Lib.hid (B1.out.ch h.ch n1.symm)
 have H2 := Lib.hid (H1.out.over h)
 clear h H1 B1 hnv
 go_wp2_with fail
 refine (H2.out.up.hash_l hpv (p' := bkC s) rfl).mono ?_
 rintro r w3 ⟨rfl, h⟩
 have B3 := Lib.hid (B2.out.ch h.ch n1.symm)
 have H3 := Lib.hid (H2.out.over h)
 clear h H2 B2 hpv
 go_wp2_with (with_reducible (show wpList _ _ _ (⟨_, Op.build 77 _, _, _, _, _⟩ :: _) _ _); refine halt ?_)
 refine Lib.hid (wpl_dkp rfl pv rfl _ rfl rfl ?_)
 refine wpList_allocZ rfl 77 rfl #[.int .i64 0, .string ⟨#[]⟩, .slice none 0 0] zeroDB ?_
 have G3 := H3.out.lt
 have G4 := B3.out.lt
 have G5 := H3.out.ch.size
 refine st_box rfl 77 _ _ rfl w3.heap.size _ [.int .i64 0, .string pv, .slice none 0 0] rfl rfl (Box.new w3 [.int .i64 0, .string ⟨#[]⟩, .slice none 0 0] 77) rfl (by kernel_rfl) (one3d rfl rfl rfl) ?_
 intro w5 B5 c5
 have qz := (Q.refl w3).alloc (.cells #[.int .i64 0, .string ⟨#[]⟩, .slice none 0 0] 77)
 have H5 := Lib.hid ((H3.out.q qz).box c5 G5 (by omega))
 have Z5 := Lib.hid ((B3.out.q qz).ch c5 (by omega))
 have X5 := Lib.hid B5
 have ng5 : g ≠ w3.heap.size := by omega
 have n25 : W.heap.size ≠ w3.heap.size := by omega
 obtain ⟨b5, hb5⟩ : ∃ b, w3.heap.size = b := ⟨_, rfl⟩
 rw [hb5] at X5 ng5 n25 G5 ⊢
 clear c5 B5 qz H3 B3 G3 G4 hb5
 refine wpList_nil ?_
 as_aux_lemma =>
 go_wp2_with fail
 refine (H5.out.up.byte_l hbv rfl).mono ?_
 rintro r w6 ⟨rfl, h⟩
 have Z6 := Lib.hid (Z5.out.ch h.ch n1.symm)
 have X6 := Lib.hid (X5.out.ch h.ch ng5.symm)
 have H6 := Lib.hid (H5.out.over h)
 clear h H5 Z5 X5 hbv
 by_cases h8 : bv ≤ 8
 rotate_left
 · have n8 : (8 : Int) < bv := by omega
   have DE0 : Hid (bkE smallD s = ((bkC s).byt.fl 4).e) := bk_x2 (by rw [BV.out]; omega)
   go_wp2_with fail
   refine (H6.out.up.fail_l rfl).mono ?_
   rintro r w7 ⟨rfl, h⟩
   have BR := Lib.hid (Z6.out.ch h.ch n1.symm)
   have RR := Lib.hid (H6.out.over h)
   clear h H6 Z6 X6 n8 h8 BI NU
   have hz1 : ((bkC s).byt.fl 4).e ≠ 0 := fl4_ne _
   obtain ⟨e1, he1⟩ : ∃ v, ((bkC s).byt.fl 4).e = v := ⟨_, rfl⟩
   rw [he1] at hz1
   have DE : Hid (bkE smallD s = e1) := by show _ = _; rw [DE0.out, he1]
   have EC : Hid (w7.cell? ⟨g, 2, none⟩ = some (.int .i64 e1)) := by show _ = _; rw [← he1]; exact RR.out.e2
   clear he1 DE0
   as_aux_lemma =>
   go_wp2_with fail
   have hS0 : (fun w => DR W g ((bkC s).byt.fl 4) w ∧ w.cell? ⟨g, 2, none⟩ = some (.int .i64 e1) ∧ ∃ z, Box w W.heap.size z ∧ z.length = 3) w7.drew := ⟨RR.out.q (Q.refl w7).drew, Q.cell' (Q.refl w7).drew EC.out, _, BR.out.q (Q.refl w7).drew, rfl⟩
   refine region_gen3 ?_
   intro OPS QQ A0 hO hQQ hA
   have hz : A0.tmps.size = 99 := by rw [hA]; rfl
   have hs : sound OPS A0.tmps.size = true := by rw [hz, hO]; kernel_rfl
   have b_2 : A0.eval (.tmp 2) = .pointer (some ⟨W.heap.size, 0, none⟩) := by rw [hA]; rfl
   have fr_2 : free OPS 2 = true := by rw [hO]; kernel_rfl
   have b_4 : A0.eval (.tmp 4) = .pointer (some ⟨g, 0, none⟩) := by rw [hA]; rfl
   have fr_4 : free OPS 4 = true := by rw [hO]; kernel_rfl
   obtain ⟨VV, hVV⟩ : ∃ V : Nat → Value → World → Prop, V = fun i => ([fun v _ => v = .agg #[.int .i64 0, .string ⟨#[]⟩, .slice none 0 0], fun v _ => v = .pointer (some ⟨g, 0, none⟩), fun v _ => v = .pointer (some ⟨g, 0, none⟩), fun v _ => v = .pointer (some ⟨g, 2, none⟩), fun v _ => v = .int .i64 e1, fun _ w => Box w W.heap.size [.int .i64 0, .string ⟨#[]⟩, .slice none 0 0], fun v _ => v = .int .i64 e1] : List (Value → World → Prop)).getD i (fun _ _ => True) := ⟨_, rfl⟩
   have v_0 : VV 0 = fun v _ => v = .agg #[.int .i64 0, .string ⟨#[]⟩, .slice none 0 0] := vat hVV 0
   have v_1 : VV 1 = fun v _ => v = .pointer (some ⟨g, 0, none⟩) := vat hVV 1
   have v_2 : VV 2 = fun v _ => v = .pointer (some ⟨g, 0, none⟩) := vat hVV 2
   have v_3 : VV 3 = fun v _ => v = .pointer (some ⟨g, 2, none⟩) := vat hVV 3
   have v_4 : VV 4 = fun v _ => v = .int .i64 e1 := vat hVV 4
   have v_5 : VV 5 = fun _ w => Box w W.heap.size [.int .i64 0, .string ⟨#[]⟩, .slice none 0 0] := vat hVV 5
   have v_6 : VV 6 = fun v _ => v = .int .i64 e1 := vat hVV 6
   have hV := stable_of (T := (fun w w' => Q w w' ∨ (Ch W.heap.size w w' ∧ Box w' W.heap.size [.int .i64 0, .string ⟨#[]⟩, .slice none 0 0]))) hVV ((sl_cons (fun _ _ _ h _ => h) (sl_cons (fun _ _ _ h _ => h) (sl_cons (fun _ _ _ h _ => h) (sl_cons (fun _ _ _ h _ => h) (sl_cons (fun _ _ _ h _ => h) (sl_cons (fun _ _ _ h t => t.elim (fun q => h.q q) (fun t => t.2)) (sl_cons (fun _ _ _ h _ => h) trivial))))))))
   clear hVV
   have i_0 := pget_at hO 0 rfl
   have i_1 := pget_at hO 1 rfl
   have i_2 := pget_at hO 2 rfl
   have i_3 := pget_at hO 3 rfl
   have i_4 := pget_at hO 4 rfl
   have i_5 := pget_at hO 5 rfl
   have i_6 := pget_at hO 6 rfl
   have s_0 := Step.pure (P := Tryz.prog) (V := VV) (T := (fun w w' => Q w w' ∨ (Ch W.heap.size w w' ∧ Box w' W.heap.size [.int .i64 0, .string ⟨#[]⟩, .slice none 0 0]))) (S := (fun w => DR W g ((bkC s).byt.fl 4) w ∧ w.cell? ⟨g, 2, none⟩ = some (.int .i64 e1) ∧ ∃ z, Box w W.heap.size z ∧ z.length = 3)) (a0 := A0) (Qx := QQ) i_0 (.agg #[.int .i64 0, .string ⟨#[]⟩, .slice none 0 0]) (fun w => .inl (Q.refl w)) (fun l a w hI hl => ⟨wanted_none rfl, ex_build rfl (by simp only [List.map_toArray, List.map_nil]; exact built_dkz), at_mk v_0 rfl⟩)
   have s_1 := Step.pure (P := Tryz.prog) (V := VV) (T := (fun w w' => Q w w' ∨ (Ch W.heap.size w w' ∧ Box w' W.heap.size [.int .i64 0, .string ⟨#[]⟩, .slice none 0 0]))) (S := (fun w => DR W g ((bkC s).byt.fl 4) w ∧ w.cell? ⟨g, 2, none⟩ = some (.int .i64 e1) ∧ ∃ z, Box w W.heap.size z ∧ z.length = 3)) (a0 := A0) (Qx := QQ) i_1 (.pointer (some ⟨g, 0, none⟩)) (fun w => .inl (Q.refl w)) (fun l a w hI hl => ⟨wanted_none rfl, ex_move rfl ((hI.base 4 fr_4).trans b_4), at_mk v_1 rfl⟩)
   have s_2 := Step.pure (P := Tryz.prog) (V := VV) (T := (fun w w' => Q w w' ∨ (Ch W.heap.size w w' ∧ Box w' W.heap.size [.int .i64 0, .string ⟨#[]⟩, .slice none 0 0]))) (S := (fun w => DR W g ((bkC s).byt.fl 4) w ∧ w.cell? ⟨g, 2, none⟩ = some (.int .i64 e1) ∧ ∃ z, Box w W.heap.size z ∧ z.length = 3)) (a0 := A0) (Qx := QQ) i_2 (.pointer (some ⟨g, 0, none⟩)) (fun w => .inl (Q.refl w)) (fun l a w hI hl => ⟨wanted_none rfl, (by have e0 : a.eval (.tmp 35) = _ := (at_eq v_1 (hI.at_ 1 35 _ i_1 rfl (hl_at hl 0 rfl rfl))); generalize a.eval = ρ at e0 ⊢; simp [go_sem, e0]), at_mk v_2 rfl⟩)
   have s_3 := Step.pure (P := Tryz.prog) (V := VV) (T := (fun w w' => Q w w' ∨ (Ch W.heap.size w w' ∧ Box w' W.heap.size [.int .i64 0, .string ⟨#[]⟩, .slice none 0 0]))) (S := (fun w => DR W g ((bkC s).byt.fl 4) w ∧ w.cell? ⟨g, 2, none⟩ = some (.int .i64 e1) ∧ ∃ z, Box w W.heap.size z ∧ z.length = 3)) (a0 := A0) (Qx := QQ) i_3 (.pointer (some ⟨g, 2, none⟩)) (fun w => .inl (Q.refl w)) (fun l a w hI hl => ⟨wanted_none rfl, (by have e0 : a.eval (.tmp 36) = _ := (at_eq v_2 (hI.at_ 2 36 _ i_2 rfl (hl_at hl 0 rfl rfl))); generalize a.eval = ρ at e0 ⊢; simp [go_sem, e0]), at_mk v_3 rfl⟩)
   have s_4 := Step.pure (P := Tryz.prog) (V := VV) (T := (fun w w' => Q w w' ∨ (Ch W.heap.size w w' ∧ Box w' W.heap.size [.int .i64 0, .string ⟨#[]⟩, .slice none 0 0]))) (S := (fun w => DR W g ((bkC s).byt.fl 4) w ∧ w.cell? ⟨g, 2, none⟩ = some (.int .i64 e1) ∧ ∃ z, Box w W.heap.size z ∧ z.length = 3)) (a0 := A0) (Qx := QQ) i_4 (.int .i64 e1) (fun w => .inl (Q.refl w)) (fun l a w hI hl => ⟨wanted_none rfl, (by have e0 : a.eval (.tmp 37) = _ := (at_eq v_3 (hI.at_ 3 37 _ i_3 rfl (hl_at hl 0 rfl rfl))); have x0 := hI.st.2.1; generalize a.eval = ρ at e0 ⊢; simp [go_sem, e0, x0]), at_mk v_4 rfl⟩)
   have s_5 := Step.done (P := Tryz.prog) (V := VV) (T := (fun w w' => Q w w' ∨ (Ch W.heap.size w w' ∧ Box w' W.heap.size [.int .i64 0, .string ⟨#[]⟩, .slice none 0 0]))) (S := (fun w => DR W g ((bkC s).byt.fl 4) w ∧ w.cell? ⟨g, 2, none⟩ = some (.int .i64 e1) ∧ ∃ z, Box w W.heap.size z ∧ z.length = 3)) (a0 := A0) (Qx := QQ) i_5 (fun l a w hI hl => by
    obtain ⟨z0, hzb, hzl⟩ := hI.st.2.2
    refine ⟨wanted_none rfl, ?_⟩
    refine wpo_st_box 77 _ _ rfl W.heap.size z0 [.int .i64 0, .string ⟨#[]⟩, .slice none 0 0] ((hI.base 2 fr_2).trans b_2) (at_eq v_0 (hI.at_ 0 34 _ i_0 rfl (hl_at hl 0 rfl rfl))) hzb (by rw [hzl]; rfl) (by kernel_rfl) (one3d rfl rfl rfl) ?_
    intro w3 B3 c3
    exact ⟨undef, rfl, .inr ⟨c3, B3⟩, ⟨hI.st.1.box c3 (Nat.le_refl _) n1, c3.cell hI.st.2.1 n1, _, B3, rfl⟩, p_at v_5 B3⟩)
   have s_6 := Step.pure (P := Tryz.prog) (V := VV) (T := (fun w w' => Q w w' ∨ (Ch W.heap.size w w' ∧ Box w' W.heap.size [.int .i64 0, .string ⟨#[]⟩, .slice none 0 0]))) (S := (fun w => DR W g ((bkC s).byt.fl 4) w ∧ w.cell? ⟨g, 2, none⟩ = some (.int .i64 e1) ∧ ∃ z, Box w W.heap.size z ∧ z.length = 3)) (a0 := A0) (Qx := QQ) i_6 (.int .i64 e1) (fun w => .inl (Q.refl w)) (fun l a w hI hl => ⟨wanted_none rfl, ex_assign rfl (at_eq v_4 (hI.at_ 4 38 _ i_4 rfl (hl_at hl 0 rfl rfl))), at_mk v_6 rfl⟩)
   refine wp_plan VV (fun w w' => Q w w' ∨ (Ch W.heap.size w w' ∧ Box w' W.heap.size [.int .i64 0, .string ⟨#[]⟩, .slice none 0 0])) (fun w => DR W g ((bkC s).byt.fl 4) w ∧ w.cell? ⟨g, 2, none⟩ = some (.int .i64 e1) ∧ ∃ z, Box w W.heap.size z ∧ z.length = 3) (by kernel_rfl) hs hV hS0 (steps_all hO ((sf_cons s_0 (sf_cons s_1 (sf_cons s_2 (sf_cons s_3 (sf_cons s_4 (sf_cons s_5 (sf_cons s_6 trivial))))))))) ?_
   intro l a' w' hall hIv
   have e0 : a'.eval (.tmp 3) = .int .i64 e1 := at_eq v_6 (hIv.at_ 6 3 _ i_6 rfl (hall 6 (by rw [hO]; decide)))
   have ee2 : a'.tmps.getD 2 undef = .pointer (some ⟨W.heap.size, 0, none⟩) := (hIv.base 2 fr_2).trans b_2
   have hd : a'.defers = [] := by (rw [hIv.df, hA]; try rfl)
   have BF : Box w' W.heap.size [.int .i64 0, .string ⟨#[]⟩, .slice none 0 0] := at_p v_5 (hIv.val 5 _ i_5 (hall 5 (by rw [hO]; decide)))
   have HL : Hid ((loadVar 77 ⟨W.heap.size, 0, none⟩).run Tryz.prog w' = .ok (.agg #[.int .i64 0, .string ⟨#[]⟩, .slice none 0 0]) w') := BF.load _ Tryz.underlying77 rfl (by kernel_rfl)
   have Q9 : Hid (Q W w') := hIv.st.1.ch.q (Q.refl W) l3
   rw [hQQ]
   clear hIv hall BF
   go_wp2_with fail
   (try simp only [Exit.inBlock, Exit.then])
   refine bodyPost_ret (results_cell_tmp rfl ee2 HL.out) hd ?_
   have fin := DKo.bad DE.out hz1 Q9.out
   rw [← e0] at fin
   exact fin
 obtain ⟨n, hn⟩ : ∃ n : Nat, bv = n := ⟨bv.toNat, by omega⟩
 subst hn
 have n8 : n ≤ 8 := by omega
 have n8' : ¬ (8 : Int) < (n : Int) := by omega
 have HN : Hid (bkN s = n) := by
  show bkN s = n
  unfold bkN tn; rw [BV.out, if_pos h8]; omega
 have HQ0 : Hid ((bkC s).byt = bkQ s 0) := by
  show _ = tnP (bkC s)
  unfold tnP; rw [BV.out, if_pos h8]
 have H7 : Hid (DR W g (bkQ s 0) w6) := by show DR W g (bkQ s 0) w6; rw [← HQ0.out]; exact H6.out
 have HQB : Hid (∀ i, (bkQ s i).blV 4096 = bkT s i) := fun i => rfl
 have HQN : Hid (∀ i, (bkQ s i).blo 4096 = bkQ s (i + 1)) := fun i => rfl
 clear HQ0 H6 h8 BI
 obtain ⟨i0, hi0, hz0, hz1, hz2⟩ := info_of info_str
 have lg := H7.out.lt
 have l2 := Z6.out.lt
 have l5 := X6.out.lt
 have qa : Q w6 (w6.alloc (.cells #[] 9)) := (Q.refl w6).alloc _
 have H8 := Lib.hid (H7.out.q qa)
 have Z8 := Lib.hid (Z6.out.q qa)
 have X8 := Lib.hid (X6.out.q qa)
 have O8 := Lib.hid (OR.made0 9 SC 1 w6 w6.heap.size (Nat.le_refl _) (bkT s))
 have hB8 : w6.heap.size ≤ (w6.alloc (.cells #[] 9)).heap.size := qa.size
 clear qa H7 Z6 X6
 go_wp2_with fail
 generalize w6.alloc (.cells #[] 9) = w8 at *
 obtain ⟨B, hBe⟩ : ∃ b, w6.heap.size = b := ⟨_, rfl⟩
 rw [hBe] at O8 hB8 lg l2 l5 ⊢
 clear hBe
 have hWB : W.heap.size ≤ B := by omega
 go_loopw [8, 9] (fun v i wr => ∃ (k : Nat) (a : Option Addr) (c : Nat), k ≤ n ∧ i = .int .i64 k ∧ v = .slice a k c ∧ Hid (DR W g (bkQ s k) wr) ∧ Hid (Box wr W.heap.size [.int .i64 0, .string ⟨#[]⟩, .slice none 0 0]) ∧ Hid (Box wr b5 [.int .i64 0, .string pv, .slice none 0 0]) ∧ Hid (OR 9 SC 1 wr B a k c (bkT s)) ∧ B ≤ wr.heap.size) (fun _ i _ => n - (intOf i).toNat)
 case atStart => exact ⟨0, _, 0, by omega, rfl, rfl, H8, Z8, X8, O8, hB8⟩
 case round =>
 obtain ⟨k, a, c, hk, rfl, rfl, H, Z, X, O, hBr⟩ := hrel
 clear H8 Z8 X8 O8 hB8
 have k0 : (0 : Int) ≤ (k : Int) := by omega
 by_cases hlt : k < n
 · have k1 : (k : Int) < (n : Int) := by omega
   go_wp2_with fail
   refine (H.out.up.blob_l (HQB.out k) (HQN.out k)).mono ?_
   rintro r w9 ⟨rfl, h⟩
   have hB9 : B ≤ w9.heap.size := Nat.le_trans hBr h.ch.size
   have H9 := Lib.hid (H.out.over h)
   have Z9 := Lib.hid (Z.out.ch h.ch n1.symm)
   have X9 := Lib.hid (X.out.ch h.ch ng5.symm)
   have O9 := Lib.hid (O.out.low h.ch lg)
   clear h H Z X O hBr
   go_wp2_with (with_reducible (show wpList _ _ _ (⟨_, Op.buildSlice 126 _ _, _, _, _, _⟩ :: _) _ _); refine halt ?_)
   refine Lib.hid (wpl_s1 rfl (bkT s k) rfl rfl ?_)
   have qb : Q w9 (w9.alloc (.cells #[.string (bkT s k)] 9)) := (Q.refl w9).alloc _
   have H10 := Lib.hid (H9.out.q qb)
   have Z10 := Lib.hid (Z9.out.q qb)
   have X10 := Lib.hid (X9.out.q qb)
   have O10 := Lib.hid (O9.out.q qb)
   clear H9 Z9 X9 O9 qb
   refine wpl_app rfl (.tmp 45) (.tmp 48) 126 rfl i0 _ 16 Tryz.underlying126 hi0 hz0 hz1 hz2 rfl (by decide) rfl O10.out w9.heap.size rfl rfl (fun j u hj => ?_) (fun v hv => by simp [SC] at hv; subst hv; rfl) (by omega) (by decide) (by simp; omega) ?_
   · rw [World.cell?_alloc_at _ _ _ _ rfl]
     unfold SC at hj
     simpa using hj
   intro g' c' w11 O11 G
   have hBa : B ≤ (w9.alloc (.cells #[.string (bkT s k)] 9)).heap.size := by simp; omega
   have hB11 : B ≤ w11.heap.size := by have := G.gr.size; omega
   have ab : ∀ x, a = some x → B ≤ x.block := fun x hx => (O10.out.blk_ x hx).1
   have H11 := Lib.hid (H10.out.grow G.gr (B := B) (fun j hj => by rw [← own_blk a k c] at hj; exact (World.ownsRow.lt O10.out j hj).1) hWB lg hBa)
   have Z11 := Lib.hid (Z10.out.over (fun x hx => by have := ab x hx; omega) G)
   have X11 := Lib.hid (X10.out.over (fun x hx => by have := ab x hx; omega) G)
   have O11 := Lib.hid O11
   clear H10 Z10 X10 O10 G ab hBa
   go_wp2_with fail
   go_roundw
   case rel => exact ⟨k + 1, some ⟨g', 0, none⟩, c', by omega, by go_num, rfl, H11, Z11, X11, O11, hB11⟩
   case measure => simp [intOf]; omega
 obtain rfl : k = n := by omega
 have td : decide (k < k) = false := by simp
 have k1 : ¬ (k : Int) < (k : Int) := by omega
 have HE := H.out.e2
 obtain ⟨e3, he3⟩ : ∃ v, (bkQ s k).e = v := ⟨_, rfl⟩
 rw [he3] at HE
 clear hi0 hz0 hz1 hz2 i0 HQB HQN hlt hk k0
 as_aux_lemma =>
 by_cases hz2 : e3 = 0
 rotate_left
 · have t1 : (e3 == 0) = false := by simpa using hz2
   have t2 : (e3 != 0) = true := by simpa using hz2
   have DE : Hid (bkE smallD s = e3) := by show _ = _; rw [bk_x3 (by rw [HN.out, he3]; exact hz2), HN.out, he3]
   have RR := Lib.hid H.out
   have BR := Lib.hid Z.out
   have EC : Hid (wr.cell? ⟨g, 2, none⟩ = some (.int .i64 e3)) := HE
   go_wp2_with fail
   clear HE H Z X O he3 hBr td k1 t1 t2 NU
   as_aux_lemma =>
   have hS0 : (fun w => DR W g (bkQ s k) w ∧ w.cell? ⟨g, 2, none⟩ = some (.int .i64 e3) ∧ ∃ z, Box w W.heap.size z ∧ z.length = 3) wr.drew := ⟨RR.out.q (Q.refl wr).drew, Q.cell' (Q.refl wr).drew EC.out, _, BR.out.q (Q.refl wr).drew, rfl⟩
   refine region_gen3 ?_
   intro OPS QQ A0 hO hQQ hA
   have hz : A0.tmps.size = 99 := by rw [hA]; rfl
   have hs : sound OPS A0.tmps.size = true := by rw [hz, hO]; kernel_rfl
   have b_2 : A0.eval (.tmp 2) = .pointer (some ⟨W.heap.size, 0, none⟩) := by rw [hA]; rfl
   have fr_2 : free OPS 2 = true := by rw [hO]; kernel_rfl
   have b_4 : A0.eval (.tmp 4) = .pointer (some ⟨g, 0, none⟩) := by rw [hA]; rfl
   have fr_4 : free OPS 4 = true := by rw [hO]; kernel_rfl
   obtain ⟨VV, hVV⟩ : ∃ V : Nat → Value → World → Prop, V = fun i => ([fun v _ => v = .agg #[.int .i64 0, .string ⟨#[]⟩, .slice none 0 0], fun v _ => v = .pointer (some ⟨g, 0, none⟩), fun v _ => v = .pointer (some ⟨g, 0, none⟩), fun v _ => v = .pointer (some ⟨g, 2, none⟩), fun v _ => v = .int .i64 e3, fun _ w => Box w W.heap.size [.int .i64 0, .string ⟨#[]⟩, .slice none 0 0], fun v _ => v = .int .i64 e3] : List (Value → World → Prop)).getD i (fun _ _ => True) := ⟨_, rfl⟩
   have v_0 : VV 0 = fun v _ => v = .agg #[.int .i64 0, .string ⟨#[]⟩, .slice none 0 0] := vat hVV 0
   have v_1 : VV 1 = fun v _ => v = .pointer (some ⟨g, 0, none⟩) := vat hVV 1
   have v_2 : VV 2 = fun v _ => v = .pointer (some ⟨g, 0, none⟩) := vat hVV 2
   have v_3 : VV 3 = fun v _ => v = .pointer (some ⟨g, 2, none⟩) := vat hVV 3
   have v_4 : VV 4 = fun v _ => v = .int .i64 e3 := vat hVV 4
   have v_5 : VV 5 = fun _ w => Box w W.heap.size [.int .i64 0, .string ⟨#[]⟩, .slice none 0 0] := vat hVV 5
   have v_6 : VV 6 = fun v _ => v = .int .i64 e3 := vat hVV 6
   have hV := stable_of (T := (fun w w' => Q w w' ∨ (Ch W.heap.size w w' ∧ Box w' W.heap.size [.int .i64 0, .string ⟨#[]⟩, .slice none 0 0]))) hVV ((sl_cons (fun _ _ _ h _ => h) (sl_cons (fun _ _ _ h _ => h) (sl_cons (fun _ _ _ h _ => h) (sl_cons (fun _ _ _ h _ => h) (sl_cons (fun _ _ _ h _ => h) (sl_cons (fun _ _ _ h t => t.elim (fun q => h.q q) (fun t => t.2)) (sl_cons (fun _ _ _ h _ => h) trivial))))))))
   clear hVV
   have i_0 := pget_at hO 0 rfl
   have i_1 := pget_at hO 1 rfl
   have i_2 := pget_at hO 2 rfl
   have i_3 := pget_at hO 3 rfl
   have i_4 := pget_at hO 4 rfl
   have i_5 := pget_at hO 5 rfl
   have i_6 := pget_at hO 6 rfl
   have s_0 := Step.pure (P := Tryz.prog) (V := VV) (T := (fun w w' => Q w w' ∨ (Ch W.heap.size w w' ∧ Box w' W.heap.size [.int .i64 0, .string ⟨#[]⟩, .slice none 0 0]))) (S := (fun w => DR W g (bkQ s k) w ∧ w.cell? ⟨g, 2, none⟩ = some (.int .i64 e3) ∧ ∃ z, Box w W.heap.size z ∧ z.length = 3)) (a0 := A0) (Qx := QQ) i_0 (.agg #[.int .i64 0, .string ⟨#[]⟩, .slice none 0 0]) (fun w => .inl (Q.refl w)) (fun l a w hI hl => ⟨wanted_none rfl, ex_build rfl (by simp only [List.map_toArray, List.map_nil]; exact built_dkz), at_mk v_0 rfl⟩)
   have s_1 := Step.pure (P := Tryz.prog) (V := VV) (T := (fun w w' => Q w w' ∨ (Ch W.heap.size w w' ∧ Box w' W.heap.size [.int .i64 0, .string ⟨#[]⟩, .slice none 0 0]))) (S := (fun w => DR W g (bkQ s k) w ∧ w.cell? ⟨g, 2, none⟩ = some (.int .i64 e3) ∧ ∃ z, Box w W.heap.size z ∧ z.length = 3)) (a0 := A0) (Qx := QQ) i_1 (.pointer (some ⟨g, 0, none⟩)) (fun w => .inl (Q.refl w)) (fun l a w hI hl => ⟨wanted_none rfl, ex_move rfl ((hI.base 4 fr_4).trans b_4), at_mk v_1 rfl⟩)
   have s_2 := Step.pure (P := Tryz.prog) (V := VV) (T := (fun w w' => Q w w' ∨ (Ch W.heap.size w w' ∧ Box w' W.heap.size [.int .i64 0, .string ⟨#[]⟩, .slice none 0 0]))) (S := (fun w => DR W g (bkQ s k) w ∧ w.cell? ⟨g, 2, none⟩ = some (.int .i64 e3) ∧ ∃ z, Box w W.heap.size z ∧ z.length = 3)) (a0 := A0) (Qx := QQ) i_2 (.pointer (some ⟨g, 0, none⟩)) (fun w => .inl (Q.refl w)) (fun l a w hI hl => ⟨wanted_none rfl, (by have e0 : a.eval (.tmp 56) = _ := (at_eq v_1 (hI.at_ 1 56 _ i_1 rfl (hl_at hl 0 rfl rfl))); generalize a.eval = ρ at e0 ⊢; simp [go_sem, e0]), at_mk v_2 rfl⟩)
   have s_3 := Step.pure (P := Tryz.prog) (V := VV) (T := (fun w w' => Q w w' ∨ (Ch W.heap.size w w' ∧ Box w' W.heap.size [.int .i64 0, .string ⟨#[]⟩, .slice none 0 0]))) (S := (fun w => DR W g (bkQ s k) w ∧ w.cell? ⟨g, 2, none⟩ = some (.int .i64 e3) ∧ ∃ z, Box w W.heap.size z ∧ z.length = 3)) (a0 := A0) (Qx := QQ) i_3 (.pointer (some ⟨g, 2, none⟩)) (fun w => .inl (Q.refl w)) (fun l a w hI hl => ⟨wanted_none rfl, (by have e0 : a.eval (.tmp 57) = _ := (at_eq v_2 (hI.at_ 2 57 _ i_2 rfl (hl_at hl 0 rfl rfl))); generalize a.eval = ρ at e0 ⊢; simp [go_sem, e0]), at_mk v_3 rfl⟩)
   have s_4 := Step.pure (P := Tryz.prog) (V := VV) (T := (fun w w' => Q w w' ∨ (Ch W.heap.size w w' ∧ Box w' W.heap.size [.int .i64 0, .string ⟨#[]⟩, .slice none 0 0]))) (S := (fun w => DR W g (bkQ s k) w ∧ w.cell? ⟨g, 2, none⟩ = some (.int .i64 e3) ∧ ∃ z, Box w W.heap.size z ∧ z.length = 3)) (a0 := A0) (Qx := QQ) i_4 (.int .i64 e3) (fun w => .inl (Q.refl w)) (fun l a w hI hl => ⟨wanted_none rfl, (by have e0 : a.eval (.tmp 58) = _ := (at_eq v_3 (hI.at_ 3 58 _ i_3 rfl (hl_at hl 0 rfl rfl))); have x0 := hI.st.2.1; generalize a.eval = ρ at e0 ⊢; simp [go_sem, e0, x0]), at_mk v_4 rfl⟩)
   have s_5 := Step.done (P := Tryz.prog) (V := VV) (T := (fun w w' => Q w w' ∨ (Ch W.heap.size w w' ∧ Box w' W.heap.size [.int .i64 0, .string ⟨#[]⟩, .slice none 0 0]))) (S := (fun w => DR W g (bkQ s k) w ∧ w.cell? ⟨g, 2, none⟩ = some (.int .i64 e3) ∧ ∃ z, Box w W.heap.size z ∧ z.length = 3)) (a0 := A0) (Qx := QQ) i_5 (fun l a w hI hl => by
    obtain ⟨z0, hzb, hzl⟩ := hI.st.2.2
    refine ⟨wanted_none rfl, ?_⟩
    refine wpo_st_box 77 _ _ rfl W.heap.size z0 [.int .i64 0, .string ⟨#[]⟩, .slice none 0 0] ((hI.base 2 fr_2).trans b_2) (at_eq v_0 (hI.at_ 0 55 _ i_0 rfl (hl_at hl 0 rfl rfl))) hzb (by rw [hzl]; rfl) (by kernel_rfl) (one3d rfl rfl rfl) ?_
    intro w3 B3 c3
    exact ⟨undef, rfl, .inr ⟨c3, B3⟩, ⟨hI.st.1.box c3 (Nat.le_refl _) n1, c3.cell hI.st.2.1 n1, _, B3, rfl⟩, p_at v_5 B3⟩)
   have s_6 := Step.pure (P := Tryz.prog) (V := VV) (T := (fun w w' => Q w w' ∨ (Ch W.heap.size w w' ∧ Box w' W.heap.size [.int .i64 0, .string ⟨#[]⟩, .slice none 0 0]))) (S := (fun w => DR W g (bkQ s k) w ∧ w.cell? ⟨g, 2, none⟩ = some (.int .i64 e3) ∧ ∃ z, Box w W.heap.size z ∧ z.length = 3)) (a0 := A0) (Qx := QQ) i_6 (.int .i64 e3) (fun w => .inl (Q.refl w)) (fun l a w hI hl => ⟨wanted_none rfl, ex_assign rfl (at_eq v_4 (hI.at_ 4 59 _ i_4 rfl (hl_at hl 0 rfl rfl))), at_mk v_6 rfl⟩)
   refine wp_plan VV (fun w w' => Q w w' ∨ (Ch W.heap.size w w' ∧ Box w' W.heap.size [.int .i64 0, .string ⟨#[]⟩, .slice none 0 0])) (fun w => DR W g (bkQ s k) w ∧ w.cell? ⟨g, 2, none⟩ = some (.int .i64 e3) ∧ ∃ z, Box w W.heap.size z ∧ z.length = 3) (by kernel_rfl) hs hV hS0 (steps_all hO ((sf_cons s_0 (sf_cons s_1 (sf_cons s_2 (sf_cons s_3 (sf_cons s_4 (sf_cons s_5 (sf_cons s_6 trivial))))))))) ?_
   intro l a' w' hall hIv
   have e0 : a'.eval (.tmp 3) = .int .i64 e3 := at_eq v_6 (hIv.at_ 6 3 _ i_6 rfl (hall 6 (by rw [hO]; decide)))
   have ee2 : a'.tmps.getD 2 undef = .pointer (some ⟨W.heap.size, 0, none⟩) := (hIv.base 2 fr_2).trans b_2
   have hd : a'.defers = [] := by (rw [hIv.df, hA]; try rfl)
   have BF : Box w' W.heap.size [.int .i64 0, .string ⟨#[]⟩, .slice none 0 0] := at_p v_5 (hIv.val 5 _ i_5 (hall 5 (by rw [hO]; decide)))
   have HL : Hid ((loadVar 77 ⟨W.heap.size, 0, none⟩).run Tryz.prog w' = .ok (.agg #[.int .i64 0, .string ⟨#[]⟩, .slice none 0 0]) w') := BF.load _ Tryz.underlying77 rfl (by kernel_rfl)
   have Q9 : Hid (Q W w') := hIv.st.1.ch.q (Q.refl W) l3
   rw [hQQ]
   clear hIv hall BF
   go_wp2_with fail
   (try simp only [Exit.inBlock, Exit.then])
   refine bodyPost_ret (results_cell_tmp rfl ee2 HL.out) hd ?_
   have fin := DKo.bad DE.out hz2 Q9.out
   rw [← e0] at fin
   exact fin
 subst hz2
 have E0 : Hid ((bkQ s (bkN s)).e = 0) := by show _ = _; rw [HN.out, he3]
 clear he3
 have lO : ∀ x, a = some x → x.block < wr.heap.size ∧ B ≤ x.block := fun x hx => ⟨(O.out.blk_ x hx).2, (O.out.blk_ x hx).1⟩
 have DD : Hid (DC W g W.heap.size b5 wr.heap.size a) := ⟨by omega, by omega, by omega, n1, ng5, n25, Nat.le_refl _, l3, G5, fun x hx => by have := lO x hx; exact ⟨by omega, by omega, by omega, by omega⟩⟩
 have S0 : Hid (DSD W s g W.heap.size b5 wr.heap.size pv a 0 (fun _ => ⟨TX.zero, none, 0, none, 0, none, 0⟩) none 0 wr) := ⟨by rw [HN.out]; exact H.out, Z.out, X.out, OR.nil _ _ _ _ _ _, fun i hi => by omega, fun i hi => by omega, fun i hi => by omega, fun i hi => by omega, by rw [HN.out]; exact O.out.sl sc_len, Nat.le_refl _⟩
 have w2 : W.heap.size ≤ W.heap.size := Nat.le_refl _
 go_wp2_with fail
 clear HE
 obtain ⟨Bt, hBt⟩ : ∃ b, wr.heap.size = b := ⟨_, rfl⟩
 rw [hBt] at DD S0
 clear H Z X O lO hBt hBr td k1 lg l2 l5 hWB w2 n8'
 obtain ⟨i0, hi0, hz0, hz1, hz2⟩ := info_of info_dtz
 obtain ⟨aT, haT⟩ : ∃ x, a = x := ⟨_, rfl⟩
 rw [haT] at DD S0 ⊢
 clear haT
 obtain ⟨n, hn⟩ : ∃ m, k = m := ⟨_, rfl⟩
 rw [hn] at HN n8 ⊢
 clear hn
 as_aux_lemma =>
 go_loopw [10, 11, 12] (fun i _ _ wq => ∃ (k : Nat) (G : Nat → TXI) (a : Option Addr) (c : Nat), k ≤ n ∧ i = .int .i64 k ∧ Hid (DSD W s g W.heap.size b5 Bt pv aT k G a c wq)) (fun i _ _ _ => n - (intOf i).toNat)
 case atStart => exact ⟨0, _, none, 0, by omega, rfl, S0⟩
 case round =>
 obtain ⟨k, G, a, c, hk, rfl, S⟩ := hrel
 clear S0
 have k0 : (0 : Int) ≤ (k : Int) := by omega
 by_cases hlt : k < n
 · have k1 : (k : Int) < (n : Int) := by omega
   obtain ⟨X, hX⟩ : ∃ X, bkT s k = X := ⟨_, rfl⟩
   have zX : X.size ≤ 1000000 := by rw [← hX]; have := PS.blV_le 4096 (bkQ s k); exact Nat.le_trans this (by decide)
   obtain ⟨bt, off, rfl, hrow⟩ := S.out.t.some_ (by rw [HN.out]; omega)
   have m0 : wr.cell? ⟨bt, off + k, none⟩ = some (.string X) := by
    have := hrow k (by rw [HN.out]; exact hlt) 0 _ rfl
    rw [Nat.mul_one, Nat.add_zero, hX] at this
    exact this
   clear hrow
   have HX := Lib.hid hX
   clear hX
   go_wp2_with fail
   clear m0
   refine (d9decode_n X zX _).mono ?_
   rintro r w7 ⟨xI, yI, xO, yO, xW, yW, rfl, hm, q7, hlo⟩
   obtain ⟨z, hz⟩ : ∃ z : TXI, z = ⟨deV smallD X, xI, yI, xO, yO, xW, yW⟩ := ⟨_, rfl⟩
   obtain ⟨er, her⟩ : ∃ v, deE smallD X = v := ⟨_, rfl⟩
   have ZV : Hid (txV (deV smallD X) xI yI xO yO xW yW = .agg (TXI.cells z).toArray) := by show _ = _; rw [hz]; rfl
   have ZM : Hid (z.tm w7) := by show z.tm w7; rw [hz]; exact hm
   have ZT : Hid (z.t = deV smallD (bkT s k)) := by show _ = _; rw [hz, HX.out]
   have ZL : Hid (∀ b, z.on b → wr.heap.size ≤ b) := fun b hb => by
    rw [hz] at hb
    rcases hb with ⟨_, x, hx, rfl⟩ | ⟨_, x, hx, rfl⟩ | ⟨_, x, hx, rfl⟩
    · exact hlo x (.inl hx)
    · exact hlo x (.inr (.inl hx))
    · exact hlo x (.inr (.inr hx))
   have HER : Hid (deE smallD (bkT s k) = er) := by show _ = _; rw [HX.out, her]
   have AB : Hid (∀ y, a = some y → y.block < wr.heap.size) := fun y hy => (S.out.o.blk_ y hy).2
   have S7 := Lib.hid (S.out.q q7)
   have RB := S.out.h
   rw [ZV.out, her]
   clear hm hlo hz her q7 S ZV
   go_wp2_with (with_reducible (show wpList _ _ _ (⟨_, Op.alloc 43, _, _, _, _⟩ :: _) _ _); refine halt ?_)
   refine wpList_allocZ rfl 43 rfl #[.slice none 0 0, .slice none 0 0, .int .u64 0, .string ⟨#[]⟩, .string ⟨#[]⟩, .slice none 0 0] zeroDTx ?_
   refine st_box rfl 43 _ _ rfl w7.heap.size _ (TXI.cells z) rfl rfl (Box.new w7 [.slice none 0 0, .slice none 0 0, .int .u64 0, .string ⟨#[]⟩, .string ⟨#[]⟩, .slice none 0 0] 43) rfl (by kernel_rfl) (one6d rfl rfl rfl rfl rfl rfl) ?_
   intro w8 B8 c8
   have q8 : Q w7 w8 := c8.q ((Q.refl w7).alloc _) (Nat.le_refl _)
   have S8 := Lib.hid (S7.out.q q8)
   have ZM8 := Lib.hid (ZM.out.q q8)
   have X8 := Lib.hid B8
   have lb8 : Bt ≤ w7.heap.size := S7.out.h
   obtain ⟨b8, hb8⟩ : ∃ b, w7.heap.size = b := ⟨_, rfl⟩
   rw [hb8] at X8 lb8 ⊢
   clear c8 B8 q8 S7 ZM hb8
   by_cases he : er = 0
   rotate_left
   · have t1 : (er == 0) = false := by simpa using he
     have t2 : (er != 0) = true := by simpa using he
     have DE : Hid (bkE smallD s = er) := bk_x4 E0.out (by rw [HN.out]; exact hlt) S8.out.d HER.out he
     clear ZM8 X8 ZT ZL HER AB
     go_wp2_with (with_reducible (show wpList _ _ _ (⟨_, Op.build 77 _, _, _, _, _⟩ :: _) _ _); refine halt ?_)
     refine Lib.hid (wpl_dkz rfl rfl _ rfl ?_)
     go_wp2_with (with_reducible (show wpList _ _ _ (⟨_, Op.store 77 _ _, _, _, _, _⟩ :: _) _ _); refine halt ?_)
     refine Lib.hid (st_box rfl 77 _ _ rfl W.heap.size _ [.int .i64 0, .string ⟨#[]⟩, .slice none 0 0] rfl rfl S8.out.z rfl (by kernel_rfl) (one3d rfl rfl rfl) ?_)
     intro w19 B9 c9
     have HL : Hid ((loadVar 77 ⟨W.heap.size, 0, none⟩).run Tryz.prog w19 = .ok (.agg #[.int .i64 0, .string ⟨#[]⟩, .slice none 0 0]) w19) := B9.load _ Tryz.underlying77 rfl (by kernel_rfl)
     have Q9 : Hid (Q W w19) := (S8.out.rs.box c9 (Nat.le_refl _) n1).ch.q (Q.refl W) l3
     clear B9 c9
     go_wp2_with fail
     (try simp only [Exit.inBlock, Exit.then])
     refine bodyPost_ret (results_cell_tmp rfl rfl HL.out) rfl ?_
     exact DKo.bad DE.out he Q9.out
   subst he
   have m2 := S8.out.b.at_ 2 _ rfl
   go_wp2_with (with_reducible (show wpList _ _ _ (⟨_, Op.load 43 _, _, _, _, _⟩ :: _) _ _); refine halt ?_)
   clear m2
   refine Lib.hid (ld_box rfl 43 _ rfl b8 _ rfl X8.out Tryz.underlying43 rfl (by kernel_rfl) ?_)
   refine wpl_rowdtz rfl z.aI z.t.nI z.cI z.aO z.t.nO z.cO z.t.p.amount z.t.p.sig z.t.p.token z.aW z.t.p.n z.cW rfl rfl ?_
   obtain ⟨G', hG'⟩ : ∃ G' : Nat → TXI, G' = fun i => if i = k then z else G i := ⟨_, rfl⟩
   have GK : Hid (G' k = z) := by show _ = _; rw [hG']; simp
   have GL_ : Hid (∀ i, i < k → G i = G' i) := fun i hi => by rw [hG']; simp only; rw [if_neg (by omega)]
   clear hG'
   have qa : Q w8 (w8.alloc (.cells (TXI.cells z).toArray 43)) := (Q.refl w8).alloc _
   have SA := Lib.hid (S8.out.q qa)
   have ZMA := Lib.hid (ZM8.out.q qa)
   have hB9 : Bt ≤ w8.heap.size := S8.out.h
   have OA := Lib.hid (SA.out.o.congr GL_.out)
   clear qa S8 ZM8 X8
   refine wpl_app rfl (.tmp 78) (.tmp 80) 75 rfl i0 _ 112 Tryz.underlying75 hi0 hz0 hz1 hz2 rfl (by decide) rfl OA.out w8.heap.size rfl rfl (fun j u hj => ?_) (by rw [GK.out]; exact one6d rfl rfl rfl rfl rfl rfl) (by omega) (by decide) (by simp; omega) ?_
   · rw [GK.out] at hj
     rw [World.cell?_alloc_at _ _ _ _ rfl]
     have hj2 : ([.slice z.aI z.t.nI z.cI, .slice z.aO z.t.nO z.cO, .int .u64 z.t.p.amount, .string z.t.p.sig, .string z.t.p.token, .slice z.aW z.t.p.n z.cW] : List Value)[j]? = some u := hj
     simpa using hj2
   intro g' c' w10 O10 gr
   have B10 : Hid (Box w10 b5 [.int .i64 0, .string pv, .slice a k c]) := SA.out.b.over (fun x hx => by have := (SA.out.o.blk_ x hx).1; have := DD.out.l5; omega) gr
   go_wp2_with (with_reducible (show wpList _ _ _ (⟨_, Op.store 75 _ _, _, _, _, _⟩ :: _) _ _); refine halt ?_)
   refine Lib.hid (wpl_stb rfl 75 _ _ rfl rfl rfl B10.out rfl (fun w hc hf => by simp [go_sem, hc, hf]) ?_)
   intro w11 B11 c11
   have S11 : Hid (DSD W s g W.heap.size b5 Bt pv (some ⟨bt, off, none⟩) (k + 1) G' (some ⟨g', 0, none⟩) c' w11) := by
    refine SA.out.push DD.out GL_.out O10 gr (by rw [GK.out]; exact ZMA.out) (by rw [GK.out]; exact ZT.out) HER.out (fun b ho => ?_) B11 c11
    rw [GK.out] at ho
    have := ZL.out b ho
    exact ⟨by omega, fun y hy e => by have := AB.out y hy; omega⟩
   clear B11 c11 B10 O10 gr SA ZMA OA GK GL_ ZL AB ZT HX HER
   go_wp2_with fail
   go_roundw
   case rel => exact ⟨k + 1, G', some ⟨g', 0, none⟩, c', by omega, by go_num, S11⟩
   case measure => simp [intOf]; omega
 obtain rfl : k = n := by omega
 have td : decide (k < k) = false := by simp
 have k1 : ¬ (k : Int) < (k : Int) := by omega
 have DZ : Hid (∀ j, j < bkN s → deE smallD (bkT s j) = 0) := by
  show ∀ j, j < bkN s → _
  rw [HN.out]; exact S.out.d
 clear hi0 hz0 hz1 hz2 i0 hlt hk k0
 as_aux_lemma =>
 by_cases hbig : 4294967295 < nv
 · have t1 : decide (4294967295 < nv) = true := by simpa using hbig
   have DE : Hid (bkE smallD s = 4) := bk_x5 E0.out DZ.out (.inr (bk_big small_doc (by rw [NV.out]; exact hbig)))
   go_wp2_with (with_reducible (show wpList _ _ _ (⟨_, Op.build 77 _, _, _, _, _⟩ :: _) _ _); refine halt ?_)
   refine Lib.hid (wpl_dkz rfl rfl _ rfl ?_)
   go_wp2_with (with_reducible (show wpList _ _ _ (⟨_, Op.store 77 _ _, _, _, _, _⟩ :: _) _ _); refine halt ?_)
   refine Lib.hid (st_box rfl 77 _ _ rfl W.heap.size _ [.int .i64 0, .string ⟨#[]⟩, .slice none 0 0] rfl rfl S.out.z rfl (by kernel_rfl) (one3d rfl rfl rfl) ?_)
   intro w19 B9 c9
   have HL : Hid ((loadVar 77 ⟨W.heap.size, 0, none⟩).run Tryz.prog w19 = .ok (.agg #[.int .i64 0, .string ⟨#[]⟩, .slice none 0 0]) w19) := B9.load _ Tryz.underlying77 rfl (by kernel_rfl)
   have Q9 : Hid (Q W w19) := (S.out.rs.box c9 (Nat.le_refl _) n1).ch.q (Q.refl W) l3
   clear B9 c9
   go_wp2_with fail
   (try simp only [Exit.inBlock, Exit.then])
   refine bodyPost_ret (results_cell_tmp rfl rfl HL.out) rfl ?_
   exact DKo.bad DE.out (by decide) Q9.out
 have t1 : decide (4294967295 < nv) = false := by simpa using hbig
 obtain ⟨nl, hnl⟩ : ∃ v : Int, ((bkQ s (bkN s)).s.size : Int) = v := ⟨_, rfl⟩
 go_wp2_with fail
 refine (S.out.rs.left_l hnl).mono ?_
 rintro r w12 ⟨rfl, q12⟩
 have S2 := Lib.hid (S.out.q q12)
 clear q12 S td k1
 by_cases hl : 0 < nl
 · have t2 : decide (0 < nl) = true := by simpa using hl
   have DE : Hid (bkE smallD s = 4) := bk_x5 E0.out DZ.out (.inl (by omega))
   go_wp2_with (with_reducible (show wpList _ _ _ (⟨_, Op.build 77 _, _, _, _, _⟩ :: _) _ _); refine halt ?_)
   refine Lib.hid (wpl_dkz rfl rfl _ rfl ?_)
   go_wp2_with (with_reducible (show wpList _ _ _ (⟨_, Op.store 77 _ _, _, _, _, _⟩ :: _) _ _); refine halt ?_)
   refine Lib.hid (st_box rfl 77 _ _ rfl W.heap.size _ [.int .i64 0, .string ⟨#[]⟩, .slice none 0 0] rfl rfl S2.out.z rfl (by kernel_rfl) (one3d rfl rfl rfl) ?_)
   intro w19 B9 c9
   have HL : Hid ((loadVar 77 ⟨W.heap.size, 0, none⟩).run Tryz.prog w19 = .ok (.agg #[.int .i64 0, .string ⟨#[]⟩, .slice none 0 0]) w19) := B9.load _ Tryz.underlying77 rfl (by kernel_rfl)
   have Q9 : Hid (Q W w19) := (S2.out.rs.box c9 (Nat.le_refl _) n1).ch.q (Q.refl W) l3
   clear B9 c9
   go_wp2_with fail
   (try simp only [Exit.inBlock, Exit.then])
   refine bodyPost_ret (results_cell_tmp rfl rfl HL.out) rfl ?_
   exact DKo.bad DE.out (by decide) Q9.out
 have t2 : decide (0 < nl) = false := by simpa using hl
 have hl0 : (bkQ s (bkN s)).s.size = 0 := by omega
 have cv : IntKind.i64.wrap nv = nv := small_wrap.in_ nv NU.1 (by omega)
 have sv : smallD nv = nv := small_doc.in_ nv NU.1 (by omega)
 have VX : Hid (bkX smallD s = ⟨nv, pv, k, fun i => deV smallD (bkT s i)⟩) := by show _ = _; unfold bkX; rw [NV.out, sv, PV.out, HN.out]
 have PZ : Hid (pv.size ≤ 16) := by show _ ≤ _; rw [← PV.out]; exact PS.haV_le _
 have L0 := Lib.hid hl0
 have N64 : Hid (I64 nv) := by
  have u0 := NU.1
  show I64 nv
  unfold I64; omega
 clear hl0 sv hnl
 go_wp2_with (with_reducible (show wpList _ _ _ (⟨_, Op.store 3 _ _, _, _, _, _⟩ :: _) _ _); refine halt ?_)
 refine Lib.hid (wpl_stb rfl 3 _ _ rfl rfl rfl S2.out.b rfl (fun w hc hf => by simp [go_sem, hc, hf]) ?_)
 intro w13 B13 c13
 have X13 : Hid (Box w13 b5 [.int .i64 nv, .string pv, .slice a k c]) := B13
 have Z13 := Lib.hid (S2.out.z.ch c13 n25)
 have R13 := Lib.hid (S2.out.rs.box c13 G5 ng5)
 have T13 : Hid (TL w13 a k G) := ⟨(S2.out.o.low c13 DD.out.l5).sl txi_len, fun i hi => tm_ch (S2.out.m i hi) c13 (fun ho => by have := (S2.out.l i hi _ ho).1; have := DD.out.l5; omega), fun i hi => by rw [S2.out.v i hi]; exact deV_ok small_doc _⟩
 have GT : Hid (∀ i, i < k → (G i).t = deV smallD (bkT s i)) := S2.out.v
 have NB : Hid (∀ i, i < k → ¬ (G i).on W.heap.size) := fun i hi ho => by have := (S2.out.l i hi _ ho).1; have := DD.out.l2; omega
 have OL : Hid (∀ x, a = some x → x.block ≠ W.heap.size) := fun x hx => by have := (S2.out.o.blk_ x hx).1; have := DD.out.l2; omega
 clear B13 c13 S2 cv t1 t2 hl hbig
 as_aux_lemma =>
 go_wp2_with (with_reducible (show wpList _ _ _ (⟨_, Op.load 77 _, _, _, _, _⟩ :: _) _ _); refine halt ?_)
 refine Lib.hid (ld_box rfl 77 _ rfl b5 _ rfl X13.out Tryz.underlying77 rfl (by kernel_rfl) ?_)
 go_wp2_with fail
 have RR : Hid (RightB ⟨nv, pv, k, G, a, c⟩ ↔ RightK (bkX smallD s)) := by
  show RightB _ ↔ RightK _
  rw [VX.out]
  exact ⟨fun ⟨h1, h2, h3, h4, h5⟩ => ⟨h1, h2, h3, h4, fun i hi => by show RightT (deV smallD (bkT s i)); rw [← GT.out i hi]; exact h5 i hi⟩, fun ⟨h1, h2, h3, h4, h5⟩ => ⟨h1, h2, h3, h4, fun i hi => by show RightT (G i).t; rw [GT.out i hi]; exact h5 i hi⟩⟩
 refine (d10right_x ⟨nv, pv, k, G, a, c⟩ _ T13.out ⟨N64.out, by have := PZ.out; show pv.size ≤ _; omega, by show k ≤ 100; omega⟩).mono ?_
 rintro r w14 ⟨bb, rfl, hz, q14⟩
 have X14 := Lib.hid (X13.out.q q14)
 have Z14 := Lib.hid (Z13.out.q q14)
 have R14 := Lib.hid (R13.out.q q14)
 have T14 := Lib.hid (T13.out.q q14)
 clear q14 X13 Z13 R13 T13
 rcases two hz with ⟨rfl, Z⟩ | ⟨rfl, Z⟩
 rotate_left
 · have DE : Hid (bkE smallD s = 4) := bk_x5 E0.out DZ.out (.inr (fun h => Z (RR.out.2 h)))
   clear hz Z RR X14 T14
   go_wp2_with (with_reducible (show wpList _ _ _ (⟨_, Op.build 77 _, _, _, _, _⟩ :: _) _ _); refine halt ?_)
   refine Lib.hid (wpl_dkz rfl rfl _ rfl ?_)
   go_wp2_with (with_reducible (show wpList _ _ _ (⟨_, Op.store 77 _ _, _, _, _, _⟩ :: _) _ _); refine halt ?_)
   refine Lib.hid (st_box rfl 77 _ _ rfl W.heap.size _ [.int .i64 0, .string ⟨#[]⟩, .slice none 0 0] rfl rfl Z14.out rfl (by kernel_rfl) (one3d rfl rfl rfl) ?_)
   intro w19 B9 c9
   have HL : Hid ((loadVar 77 ⟨W.heap.size, 0, none⟩).run Tryz.prog w19 = .ok (.agg #[.int .i64 0, .string ⟨#[]⟩, .slice none 0 0]) w19) := B9.load _ Tryz.underlying77 rfl (by kernel_rfl)
   have Q9 : Hid (Q W w19) := (R14.out.box c9 (Nat.le_refl _) n1).ch.q (Q.refl W) l3
   clear B9 c9
   go_wp2_with fail
   (try simp only [Exit.inBlock, Exit.then])
   refine bodyPost_ret (results_cell_tmp rfl rfl HL.out) rfl ?_
   exact DKo.bad DE.out (by decide) Q9.out
 have D0 : Hid (bkE smallD s = 0) := bk_x6 E0.out DZ.out L0.out (RR.out.1 Z)
 have V0 : Hid (bkV smallD s = ⟨nv, pv, k, fun i => deV smallD (bkT s i)⟩) := by show _ = _; unfold bkV; rw [if_pos D0.out, VX.out]
 clear hz Z RR
 go_wp2_with (with_reducible (show wpList _ _ _ (⟨_, Op.load 77 _, _, _, _, _⟩ :: _) _ _); refine halt ?_)
 refine Lib.hid (ld_box rfl 77 _ rfl b5 _ rfl X14.out Tryz.underlying77 rfl (by kernel_rfl) ?_)
 refine st_box rfl 77 _ _ rfl W.heap.size _ [.int .i64 nv, .string pv, .slice a k c] rfl rfl Z14.out rfl (by kernel_rfl) (one3d rfl rfl rfl) ?_
 intro w19 B9 c9
 have HL : Hid ((loadVar 77 ⟨W.heap.size, 0, none⟩).run Tryz.prog w19 = .ok (.agg #[.int .i64 nv, .string pv, .slice a k c]) w19) := B9.load _ Tryz.underlying77 rfl (by kernel_rfl)
 have Q9 : Hid (Q W w19) := (R14.out.box c9 (Nat.le_refl _) n1).ch.q (Q.refl W) l3
 have T9 : Hid (TL w19 a k G) := ⟨T14.out.l.ch c9 OL.out, fun i hi => tm_ch (T14.out.m i hi) c9 (NB.out i hi), T14.out.k⟩
 clear B9 c9 X14 Z14 R14 T14 NB OL
 go_wp2_with fail
 (try simp only [Exit.inBlock, Exit.then])
 refine bodyPost_ret (results_cell_tmp rfl rfl HL.out) rfl ?_
 exact ⟨⟨nv, pv, k, G, a, c⟩, by rw [D0.out]; rfl, T9.out, by show k ≤ 100; omega, by rw [V0.out]; exact ⟨rfl, rfl, rfl, fun i hi => GT.out i hi⟩, Q9.out⟩
end Go.Proofs.YtjiepemapffgjaaGreatDoor.Coi
