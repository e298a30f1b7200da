import Derived.Test.YtobfgljkckcmcaaGreatDoorYJBloA
import Derived.Laws.StructEq
set_option maxRecDepth 100000
namespace Go.Proofs.YtobfgljkckcmcaaGreatDoor.Coi
open Go.RowKit
open Mem Num Cod
set_option linter.unusedVariables false
set_option linter.unusedSimpArgs false
/-- A block. -/
structure BK where
 h : Int
 prev : ByteArray
 n : Nat
 tx : Nat → TX
def RightK (b : BK) : Prop := 1 ≤ b.h ∧ b.h ≤ 4294967295 ∧ b.prev.size = 16 ∧ b.n ≤ 8 ∧ ∀ i, i < b.n → RightT (b.tx i)
def SamK (a b : BK) : Prop := a.h = b.h ∧ a.prev = b.prev ∧ a.n = b.n ∧ ∀ i, i < a.n → SamT (a.tx i) (b.tx i)
def bkK (b : BK) : ByteArray := strOfNums [66] ++ putS b.h ++ b.prev ++ strOfNums [(b.n : Int)] ++ catN (fun i => blobS (txB (b.tx i))) b.n
def BKI.bk (z : BKI) : BK := ⟨z.h, z.prev, z.n, fun i => (z.g i).t⟩
def BK.zero : BK := ⟨0, ⟨#[]⟩, 0, fun _ => TX.zero⟩
def tn (p : PS) : Nat := if p.byV ≤ 8 then p.byV.toNat else 0
def tnP (p : PS) : PS := if p.byV ≤ 8 then p.byt else p.byt.fl 4
def bkP (s : ByteArray) : PS := if (PS.mk s 0).byV = 66 then (PS.mk s 0).byt else (PS.mk s 0).byt.fl 4
def bkC (s : ByteArray) : PS := (bkP s).num.has
def bkN (s : ByteArray) : Nat := tn (bkC s)
def bkQ (s : ByteArray) (i : Nat) : PS := iter (PS.blo 4096) (tnP (bkC s)) i
def bkT (s : ByteArray) (i : Nat) : ByteArray := (bkQ s i).blV 4096
noncomputable def bkF (sm : Int → Int) (s : ByteArray) : Nat → PS
 | 0 => bkQ s (bkN s)
 | i + 1 => (bkF sm s i).fl (deE sm (bkT s i))
noncomputable def bkX (sm : Int → Int) (s : ByteArray) : BK := ⟨sm (bkP s).nuV, (bkP s).num.haV, bkN s, fun i => deV sm (bkT s i)⟩
open Classical in
noncomputable def bkG (sm : Int → Int) (s : ByteArray) : PS := if RightK (bkX sm s) then bkF sm s (bkN s) else (bkF sm s (bkN s)).fl 4
noncomputable def bkE (sm : Int → Int) (s : ByteArray) : Int := (bkG sm s).en
noncomputable def bkV (sm : Int → Int) (s : ByteArray) : BK := if bkE sm s = 0 then bkX sm s else BK.zero
section
variable {sm : Int → Int} {s : ByteArray}
theorem tn_le (p : PS) : tn p ≤ 8 := by unfold tn; split <;> omega
theorem bkN_le (s : ByteArray) : bkN s ≤ 8 := tn_le _
theorem bkF_go (h : (bkQ s (bkN s)).e = 0) : ∀ i, (∀ j, j < i → deE sm (bkT s j) = 0) → bkF sm s i = bkQ s (bkN s)
 | 0, _ => rfl
 | i + 1, hd => by
  show (bkF sm s i).fl _ = _
  rw [hd i (by omega), PS.fl_0]
  exact bkF_go h i (fun j hj => hd j (by omega))
theorem bkF_err (h : (bkQ s (bkN s)).e ≠ 0) : ∀ i, bkF sm s i = bkQ s (bkN s)
 | 0 => rfl
 | i + 1 => by
  show (bkF sm s i).fl _ = _
  rw [bkF_err h i, PS.fl_err h]
/-- What was encoded is read. -/
theorem bk_of (hm : Small sm) (z : BK) (h : RightK z) (hk : ∀ i, i < z.n → (z.tx i).ok) (x : ByteArray) :
 bkF sm (bkK z ++ x) (bkN (bkK z ++ x)) = ⟨x, 0⟩ ∧ SamK (bkX sm (bkK z ++ x)) z ∧ RightK (bkX sm (bkK z ++ x)) := by
 obtain ⟨h1, h2, h3, h4, h5⟩ := h
 obtain ⟨C, hC⟩ : ∃ C, catN (fun i => blobS (txB (z.tx i))) z.n = C := ⟨_, rfl⟩
 have e : bkK z ++ x = strOfNums [66] ++ (putS z.h ++ (z.prev ++ (strOfNums [(z.n : Int)] ++ (C ++ x)))) := by unfold bkK; rw [hC]; simp only [ByteArray.append_assoc]
 obtain ⟨a1, b1⟩ := PS.byt_of 66 (putS z.h ++ (z.prev ++ (strOfNums [(z.n : Int)] ++ (C ++ x)))) (by omega)
 obtain ⟨a2, b2⟩ := PS.num_of z.h (z.prev ++ (strOfNums [(z.n : Int)] ++ (C ++ x))) (by omega)
 obtain ⟨a3, b3⟩ := PS.has_of z.prev (strOfNums [(z.n : Int)] ++ (C ++ x)) h3
 obtain ⟨a4, b4⟩ := PS.byt_of (z.n : Int) (C ++ x) (by omega)
 rw [← e] at a1 b1
 generalize bkK z ++ x = B at *
 have c0 : bkP B = ⟨putS z.h ++ (z.prev ++ (strOfNums [(z.n : Int)] ++ (C ++ x))), 0⟩ := by unfold bkP; rw [a1, if_pos rfl, b1]
 have c1 : bkC B = ⟨strOfNums [(z.n : Int)] ++ (C ++ x), 0⟩ := by unfold bkC; rw [c0, b2, b3]
 have c2 : bkN B = z.n := by unfold bkN tn; rw [c1, a4, if_pos (by omega)]; omega
 have c3 : tnP (bkC B) = ⟨C ++ x, 0⟩ := by unfold tnP; rw [c1, a4, if_pos (by omega), b4]
 have it := iter_of0 (PS.blo 4096) (PS.blV 4096) (fun i => blobS (txB (z.tx i))) (fun i => txB (z.tx i)) z.n (fun i hi r => PS.blo_of 4096 (txB (z.tx i)) r (txB_4096 _ (h5 i hi)) (by have := txB_4096 _ (h5 i hi); omega)) x
 rw [hC] at it
 have c4 : ∀ i, bkQ B i = iter (PS.blo 4096) ⟨C ++ x, 0⟩ i := fun i => by unfold bkQ; rw [c3]
 have c5 : ∀ i, i < z.n → bkT B i = txB (z.tx i) := fun i hi => by unfold bkT; rw [c4]; exact it.2 i hi
 have c6 : bkQ B (bkN B) = ⟨x, 0⟩ := by rw [c2, c4]; exact it.1
 have c7 : ∀ i, i < z.n → deE sm (bkT B i) = 0 ∧ SamT (deV sm (bkT B i)) (z.tx i) := fun i hi => by rw [c5 i hi]; exact de_ok hm (z.tx i) (h5 i hi) (hk i hi)
 have hsm : sm z.h = z.h := hm.in_ _ (by omega) (by omega)
 have X1 : SamK (bkX sm B) z := by
  refine ⟨?_, ?_, c2, fun i hi => (c7 i (by have : i < bkN B := hi; omega)).2⟩
  · show sm (bkP B).nuV = z.h; rw [c0, a2, hsm]
  · show (bkP B).num.haV = z.prev; rw [c0, b2, a3]
 refine ⟨?_, X1, ?_⟩
 · rw [bkF_go (by rw [c6]) _ (fun j hj => (c7 j (by omega)).1), c6]
 · refine ⟨by rw [X1.1]; exact h1, by rw [X1.1]; exact h2, by rw [X1.2.1]; exact h3, by rw [X1.2.2.1]; exact h4, fun i hi => ?_⟩
   exact right_sam (X1.2.2.2 i hi) (h5 i (by have : i < (bkX sm B).n := hi; have := X1.2.2.1; omega))
theorem bk_ok (hm : Small sm) (z : BK) (h : RightK z) (hk : ∀ i, i < z.n → (z.tx i).ok) : bkE sm (bkK z) = 0 ∧ SamK (bkV sm (bkK z)) z := by
 obtain ⟨h1, h2, h3⟩ := bk_of hm z h hk ByteArray.empty
 rw [ByteArray.append_empty] at h1 h2 h3
 have e : bkE sm (bkK z) = 0 := by unfold bkE bkG; rw [if_pos h3, h1]; exact PS.en_empty
 exact ⟨e, by unfold bkV; rw [if_pos e]; exact h2⟩
theorem bk_more (hm : Small sm) (z : BK) (h : RightK z) (hk : ∀ i, i < z.n → (z.tx i).ok) (x : ByteArray) (hx : 0 < x.size) : bkE sm (bkK z ++ x) = 4 := by
 obtain ⟨h1, h2, h3⟩ := bk_of hm z h hk x
 unfold bkE bkG; rw [if_pos h3, h1]; exact PS.en_more x hx
theorem bk_e3 {e : Int} (he : e ≠ 0) (h : (bkP s).e = e) : bkE sm s = e := by
 have c0 : bkC s = bkP s := by unfold bkC; rw [PS.num_err (by rw [h]; exact he), PS.has_err (by rw [h]; exact he)]
 have c1 : tnP (bkC s) = bkP s := by
  unfold tnP
  rw [c0, PS.byt_err (by rw [h]; exact he)]
  split
  · rfl
  · exact PS.fl_err (by rw [h]; exact he)
 have c2 : ∀ i, bkQ s i = bkP s := fun i => by unfold bkQ; rw [c1]; exact iter_err _ (fun p hp => PS.blo_err hp) _ (by rw [h]; exact he) i
 have c3 : bkF sm s (bkN s) = bkP s := by rw [bkF_err (by rw [c2, h]; exact he), c2]
 unfold bkE bkG
 rw [c3]
 split
 · rw [PS.en_err (by rw [h]; exact he), h]
 · rw [PS.fl_err (by rw [h]; exact he), PS.en_err (by rw [h]; exact he), h]
theorem bk_empty : bkE sm ByteArray.empty = 3 := by
 have e : byE ByteArray.empty = 3 := by unfold byE; rw [if_neg (by decide)]
 have e2 : (PS.mk ByteArray.empty 0).byt.e = 3 := by unfold PS.byt failE; dsimp only; rw [e, if_pos rfl]
 refine bk_e3 (by decide) ?_
 unfold bkP
 split
 · exact e2
 · rw [PS.fl_err (by rw [e2]; decide)]; exact e2
theorem bk_67 : bkE sm (strOfNums [67]) = 4 := by
 obtain ⟨a, b⟩ := PS.byt_of 67 ByteArray.empty (by omega)
 rw [ByteArray.append_empty] at a b
 refine bk_e3 (by decide) ?_
 unfold bkP
 rw [a, b, if_neg (by decide)]
 rfl
end
open Mem Num Cod Sh Plan
def SC (s : ByteArray) : List Value := [.string s]
theorem sc_len (s : ByteArray) : (SC s).length = 1 := rfl
theorem wpl_s1 {ops : Array Oper} {rest : List Oper} {o : Oper} {a : Act} {w : World} {Q : Exit → Act → World → Prop} {x : Operand} (hg : o.guard = none) (s : ByteArray) (ho : o.op = .buildSlice 117 1 #[(0, x)]) (h0 : a.eval x = .string s)
 (h : wpList Tryz.prog ops Q rest (a.put o.dst (.slice (some ⟨w.heap.size, 0, none⟩) 1 1)) (w.alloc (.cells #[.string s] 9))) : wpList Tryz.prog ops Q (o :: rest) a w :=
 wpList_plain hg fun K hK => wpo_s1 s ho h0 (hK _ _ h)
theorem RS.grow {w0 w w' : World} {g B : Nat} {p : PS} {o : Option Nat} (h : RS w0 g p w) (k : w.grownBy w' o) (ho : ∀ j, o = some j → B ≤ j) (h0 : w0.heap.size ≤ B) (hg : g < B) : RS w0 g p w' := by
 obtain ⟨j, hj, c⟩ := ch_of_grown k ho
 exact h.box c (by omega) (by omega)
set_option maxHeartbeats 40000000 in
theorem rtexts_x {w0 : World} {g : Nat} {p : PS} (w : World) (H : RS w0 g p w) : Calls Tryz.prog 124 #[.pointer (some ⟨g, 0, none⟩)] w fun r w' => ∃ a c, r = .returned (.slice a (tn p) c) ∧ RS w0 g (iter (PS.blo 4096) (tnP p) (tn p)) w' ∧
 OR 9 SC 1 w' w.heap.size a (tn p) c (fun i => (iter (PS.blo 4096) (tnP p) i).blV 4096) := by
 have hgl : g < w.heap.size := H.rd.lt
 have hw0 : w0.heap.size ≤ w.heap.size := H.ch.size
 obtain ⟨v, hv⟩ : ∃ v, p.byV = v := ⟨_, rfl⟩
 obtain ⟨p1, hp⟩ : ∃ q, p.byt = q := ⟨_, rfl⟩
 have vb := PS.byV_in p
 rw [hv] at vb
 have C0 := Lib.hid (H.up.byte_l hv hp)
 have HH := Lib.hid H
 by_cases h8 : v ≤ 8
 rotate_left
 · have e1 : tn p = 0 := by unfold tn; rw [hv, if_neg h8]
   have e2 : tnP p = p1.fl 4 := by unfold tnP; rw [hv, if_neg h8, hp]
   rw [e1, e2]
   clear e1 e2 hv hp H
   have n1 : (8 : Int) < v := by omega
   go_enter Tryz.func124, Tryz.ntmps124
   go_wp2_with fail
   refine C0.out.mono ?_
   rintro r w1 ⟨rfl, h⟩
   have H1 := Lib.hid (HH.out.over h)
   clear h C0
   go_wp2_with fail
   refine (H1.out.fail_l rfl).mono ?_
   rintro r w2 ⟨rfl, h⟩
   have H2 := Lib.hid h
   clear h
   go_wp2_with fail
   go_ret
   exact ⟨none, 0, rfl, H2.out, OR.nil _ _ _ _ _ _⟩
 have e2 : tnP p = p1 := by unfold tnP; rw [hv, if_pos h8, hp]
 obtain ⟨n, hn⟩ : ∃ n : Nat, v = n := ⟨v.toNat, by omega⟩
 have e1 : tn p = n := by unfold tn; rw [hv, if_pos h8]; omega
 rw [e1, e2]
 subst hn
 obtain ⟨FB, hFB⟩ : ∃ F : Nat → ByteArray, F = fun i => (iter (PS.blo 4096) p1 i).blV 4096 := ⟨_, rfl⟩
 have HFB : Hid (∀ i, (iter (PS.blo 4096) p1 i).blV 4096 = FB i) := fun i => by rw [hFB]
 rw [← hFB]
 have HIT : Hid (∀ i, (iter (PS.blo 4096) p1 i).blo 4096 = iter (PS.blo 4096) p1 (i + 1)) := fun i => rfl
 have HI0 : Hid (iter (PS.blo 4096) p1 0 = p1) := rfl
 obtain ⟨IT, hIT⟩ : ∃ F : Nat → PS, F = iter (PS.blo 4096) p1 := ⟨_, rfl⟩
 rw [← hIT] at HFB HIT HI0 ⊢
 clear e1 e2 hv hp H hFB hIT vb
 have n1 : ¬ (8 : Int) < (n : Int) := by omega
 have n8 : n ≤ 8 := by omega
 obtain ⟨i0, hi0, hz0, hz1, hz2⟩ := info_of info_str
 obtain ⟨B, hB⟩ : ∃ B, w.heap.size = B := ⟨_, rfl⟩
 rw [hB] at hgl hw0 ⊢
 have HBB := Lib.hid hB
 clear hB
 go_enter Tryz.func124, Tryz.ntmps124
 go_wp2_with fail
 refine C0.out.mono ?_
 rintro r w1 ⟨rfl, h⟩
 have H1 : Hid (RS w0 g (IT 0) w1) := by show RS w0 g (IT 0) w1; rw [HI0.out]; exact HH.out.over h
 have HB1 : B ≤ w1.heap.size := by rw [← HBB.out]; exact h.ch.size
 clear h C0 HH
 go_wp2_with fail
 go_loopw [4, 12] (fun v i wr => ∃ (k : Nat) (a : Option Addr) (c : Nat), k ≤ n ∧ i = .int .i64 k ∧ v = .slice a k c ∧ Hid (RS w0 g (IT k) wr) ∧ Hid (OR 9 SC 1 wr B a k c FB) ∧ B ≤ wr.heap.size) (fun _ i _ => n - (intOf i).toNat)
 case atStart => exact ⟨0, none, 0, by omega, rfl, rfl, H1, Lib.hid (OR.nil _ _ _ _ _ _), HB1⟩
 case round =>
  obtain ⟨k, a, c, hk, rfl, rfl, H, O, hBr⟩ := hrel
  clear H1 HB1
  have k0 : (0 : Int) ≤ (k : Int) := by omega
  by_cases hlt : k < n
  · have k1 : (k : Int) < (n : Int) := by omega
    go_wp2_with fail
    refine (H.out.up.blob_l (HFB.out k) (HIT.out k)).mono ?_
    rintro r w2 ⟨rfl, h⟩
    have hB2 : B ≤ w2.heap.size := Nat.le_trans hBr h.ch.size
    have H2 := Lib.hid (H.out.over h)
    have O2 := Lib.hid (O.out.low h.ch hgl)
    clear h H O hBr
    go_wp2_with (with_reducible (show wpList _ _ _ (⟨_, Op.buildSlice 117 _ _, _, _, _, _⟩ :: _) _ _); refine halt ?_)
    refine Lib.hid (wpl_s1 rfl (FB k) rfl rfl ?_)
    have H3 := Lib.hid (H2.out.q ((Q.refl w2).alloc (.cells #[.string (FB k)] 9)))
    have O3 := Lib.hid (O2.out.q ((Q.refl w2).alloc (.cells #[.string (FB k)] 9)))
    clear H2 O2
    refine wpl_app rfl (.tmp 14) (.tmp 17) 117 rfl i0 _ 16 Tryz.underlying117 hi0 hz0 hz1 hz2 rfl (by decide) rfl O3.out w2.heap.size rfl rfl (fun j u hj => ?_) (fun v hv => by simp [SC] at hv; subst hv; rfl) (by omega) (by decide) (by simp; omega) ?_
    · rw [World.cell?_alloc_at _ _ _ _ rfl]
      unfold SC at hj
      simpa using hj
    intro g' c' w3 O4 G
    have hB3 : B ≤ w3.heap.size := by have := G.gr.size; simp at this; omega
    have H4 := Lib.hid (H3.out.grow G.gr (B := B) (fun j hj => by rw [← own_blk a k c] at hj; exact (World.ownsRow.lt O3.out j hj).1) hw0 hgl)
    have O4 := Lib.hid O4
    clear H3 O3 G
    go_wp2_with fail
    go_roundw
    case rel => exact ⟨k + 1, some ⟨g', 0, none⟩, c', by omega, by go_num, rfl, H4, O4, hB3⟩
    case measure => simp [intOf]; omega
  · obtain rfl : k = n := by omega
    have td : decide (k < k) = false := by simp
    go_wp2_with fail
    go_ret
    exact ⟨a, c, rfl, H.out, O.out⟩
theorem wpl_stb {P : Program} {ops : Array Oper} {rest : List Oper} {op : Oper} {a : Act} {w : World} {Q : Exit → Act → World → Prop} (hg : op.guard = none) (ty : TypeId) (x y : Operand) (ho : op.op = .store ty x y) {b j : Nat} {cs : List Value} {v old : Value}
 (hx : a.eval x = .pointer (some ⟨b, j, none⟩)) (hy : a.eval y = v) (hB : Box w b cs) (hj : cs[j]? = some old) (hrun : ∀ w : World, w.cell? ⟨b, j, none⟩ = some old → w.frozen? ⟨b, j, none⟩ = false → (Instr.storeAt ty (.pointer (some ⟨b, j, none⟩)) v).run P w = .ok () (w.setCell ⟨b, j, none⟩ v))
 (h : ∀ w', Box w' b (cs.set j v) → Ch b w w' → wpList P ops Q rest (a.put op.dst undef) w') : wpList P ops Q (op :: rest) a w :=
 wpList_plain hg fun K hK => wpo_st1 ty x y ho hx hy hB hj hrun fun w' hb hc => hK _ _ (h w' hb hc)
theorem built_bkh (v0 : Int) (v1 : ByteArray) : Tryz.prog.built 64 [(0, .int .i64 v0), (1, .string v1)] = some #[.int .i64 v0, .string v1, .slice none 0 0] := by kernel_rfl
theorem wpl_bkh {ops : Array Oper} {rest : List Oper} {o : Oper} {a : Act} {w : World} {Q : Exit → Act → World → Prop} (hg : o.guard = none) {n0 n1 : Nat} (v0 : Int) (v1 : ByteArray) (ho : o.op = .build 64 #[(0, .tmp n0), (1, .tmp n1)]) (d : Option Tmp) (hd : o.dst = d) (h0 : a.eval (.tmp n0) = .int .i64 v0) (h1 : a.eval (.tmp n1) = .string v1) (h : wpList Tryz.prog ops Q rest (a.put d (.agg #[.int .i64 v0, .string v1, .slice none 0 0])) w) : wpList Tryz.prog ops Q (o :: rest) a w := by
 refine wpList_buildTo hg 64 _ ho d hd _ ?_ h
 simp only [List.map_toArray, List.map_cons, List.map_nil, h0, h1]
 exact built_bkh v0 v1
theorem built_bkz  : Tryz.prog.built 64 [] = some #[.int .i64 0, .string ⟨#[]⟩, .slice none 0 0] := by kernel_rfl
theorem wpl_bkz {ops : Array Oper} {rest : List Oper} {o : Oper} {a : Act} {w : World} {Q : Exit → Act → World → Prop} (hg : o.guard = none)  (ho : o.op = .build 64 #[]) (d : Option Tmp) (hd : o.dst = d)  (h : wpList Tryz.prog ops Q rest (a.put d (.agg #[.int .i64 0, .string ⟨#[]⟩, .slice none 0 0])) w) : wpList Tryz.prog ops Q (o :: rest) a w := by
 refine wpList_buildTo hg 64 _ ho d hd _ ?_ h
 simp only [List.map_toArray, List.map_nil]
 exact built_bkz
theorem zeroBk (w : World) : (zeroValue 64).run Tryz.prog w = .ok (.agg #[.int .i64 0, .string ⟨#[]⟩, .slice none 0 0]) w := by
 have h : (Tryz.prog.info? 64).map (·.zero) = some (some (.agg #[.int .i64 0, .string ⟨#[]⟩, .slice none 0 0])) := by kernel_rfl
 cases hi : Tryz.prog.info? 64 with
 | none => rw [hi] at h; cases h
 | some i => rw [hi] at h; simp [zeroValue, typeInfo, hi, show i.zero = some (.agg #[.int .i64 0, .string ⟨#[]⟩, .slice none 0 0]) by simpa using h]
theorem one3 {v0 v1 v2 : Value} (h0 : v0.oneCell' = true) (h1 : v1.oneCell' = true) (h2 : v2.oneCell' = true) : ∀ v ∈ [v0, v1, v2], v.oneCell' = true := by
 intro v hv; simp at hv; rcases hv with rfl | rfl | rfl <;> assumption
theorem info_tx : (Tryz.prog.info? 29).map (fun i => (i.zero, i.size, i.bytes)) = some (some (.agg #[.slice none 0 0, .slice none 0 0, .int .u64 0, .string ⟨#[]⟩, .string ⟨#[]⟩, .slice none 0 0]), 6, 112) := by kernel_rfl
theorem fill_tx (v0 : Option Addr) (v1 v2 : Nat) (v3 : Option Addr) (v4 v5 : Nat) (v6 : Int) (v7 v8 : ByteArray) (v9 : Option Addr) (v10 v11 : Nat) : Instr.fill (fun i => some (i * 6, 6)) ((Array.range (1 * 6)).map ((Value.agg #[.slice none 0 0, .slice none 0 0, .int .u64 0, .string ⟨#[]⟩, .string ⟨#[]⟩, .slice none 0 0]).cells[· % (Value.agg #[.slice none 0 0, .slice none 0 0, .int .u64 0, .string ⟨#[]⟩, .string ⟨#[]⟩, .slice none 0 0]).cells.size]!)) [(0, .agg #[.slice v0 v1 v2, .slice v3 v4 v5, .int .u64 v6, .string v7, .string v8, .slice v9 v10 v11])] = some #[.slice v0 v1 v2, .slice v3 v4 v5, .int .u64 v6, .string v7, .string v8, .slice v9 v10 v11] := by kernel_rfl
theorem wpl_rowtx {ops : Array Oper} {rest : List Oper} {o : Oper} {a : Act} {w : World} {Q : Exit → Act → World → Prop} {x : Operand} (hg : o.guard = none) (z : TXI) (ho : o.op = .buildSlice 62 1 #[(0, x)]) (h0 : a.eval x = .agg (TXI.cells z).toArray)
 (h : wpList Tryz.prog ops Q rest (a.put o.dst (.slice (some ⟨w.heap.size, 0, none⟩) 1 1)) (w.alloc (.cells (TXI.cells z).toArray 29))) : wpList Tryz.prog ops Q (o :: rest) a w := by
 refine wpList_plain hg fun K hK => ?_
 obtain ⟨i0, hi0, hz0, hz1, hz2⟩ := info_of info_tx
 refine wp_buildSlice 62 29 1 _ ho (TXI.cells z).toArray i0 _ Tryz.underlying62 hi0 hz0 (by rw [hz1]; decide) (by rw [hz1]; decide) ?_ (hK _ _ h)
 rw [hz1]
 simp only [List.map_toArray, List.map_cons, List.map_nil, h0]
 exact fill_tx z.aI z.t.nI z.cI z.aO z.t.nO z.cO z.t.p.amount z.t.p.sig z.t.p.token z.aW z.t.p.n z.cW
/-- It lies on a block. -/
def TXI.on (z : TXI) (b : Nat) : Prop := (0 < z.t.nI ∧ ∃ x, z.aI = some x ∧ x.block = b) ∨ (0 < z.t.nO ∧ ∃ x, z.aO = some x ∧ x.block = b) ∨ (0 < z.t.p.n ∧ ∃ x, z.aW = some x ∧ x.block = b)
theorem cell_lt {w : World} {a : Addr} {v : Value} (h : w.cell? a = some v) : a.block < w.heap.size := by
 unfold World.cell? at h
 split at h
 · rename_i h2; exact (Array.getElem?_eq_some_iff.1 h2).1
 · cases h
theorem SL.lt_ {α : Type} {C : α → List Value} {k n : Nat} {w : World} {a : Option Addr} {f : Nat → α} (h : SL C k w a n f) (hn : 0 < n) (hC : ∀ x, 0 < (C x).length) {x : Addr} (hx : a = some x) : x.block < w.heap.size := by
 obtain ⟨b, off, e, hc⟩ := h.some_ hn
 rw [e] at hx; injection hx with hx; subst hx
 have := cell_lt (hc 0 hn 0 _ (List.getElem?_eq_getElem (hC (f 0))))
 exact this
theorem SL.chn {α : Type} {C : α → List Value} {k n g : Nat} {w w' : World} {a : Option Addr} {f : Nat → α} (h : SL C k w a n f) (c : Ch g w w') (hg : 0 < n → ∀ x, a = some x → x.block ≠ g) : SL C k w' a n f := by
 by_cases hn : n = 0
 · exact SL.nil hn
 · exact h.ch c (hg (by omega))
theorem tm_lt {z : TXI} {w : World} {b : Nat} (h : z.tm w) (ho : z.on b) : b < w.heap.size := by
 rcases ho with ⟨h0, x, hx, rfl⟩ | ⟨h0, x, hx, rfl⟩ | ⟨h0, x, hx, rfl⟩
 · exact h.i.lt_ h0 (fun x => by rw [in_len]; omega) hx
 · exact h.o.lt_ h0 (fun x => by rw [out_len]; omega) hx
 · exact h.w.lt_ h0 (fun x => by rw [win_len]; omega) hx
theorem tm_ch {z : TXI} {w w' : World} {g : Nat} (h : z.tm w) (c : Ch g w w') (ho : ¬ z.on g) : z.tm w' :=
 ⟨h.i.chn c (fun h0 x hx e => ho (.inl ⟨h0, x, hx, e⟩)), h.c, h.o.chn c (fun h0 x hx e => ho (.inr (.inl ⟨h0, x, hx, e⟩))), h.w.chn c (fun h0 x hx e => ho (.inr (.inr ⟨h0, x, hx, e⟩)))⟩
theorem grow_ch {w w' : World} {a : Option Addr} {g' : Nat} (G : Grow w w' (blk a) g') : ∃ j, Ch j w w' ∧ (∀ y, a = some y → j = y.block) ∧ (a = none → j = w.heap.size) := by
 have gr := G.gr
 cases a with
 | none => exact ⟨w.heap.size, ⟨gr.os, gr.tape, gr.output, gr.size, fun i hi _ => gr.block i hi (by simp [blk])⟩, fun y h => (by cases h), fun _ => rfl⟩
 | some x => exact ⟨x.block, gr, fun y h => (by injection h with h; rw [h]), fun h => (by cases h)⟩
/-- Where Decode stands: k transactions are decoded, j of their errors are noted. -/
structure DS (W : World) (s : ByteArray) (g b2 b5 Bt : Nat) (hh : Int) (pv : ByteArray) (aT : Option Addr) (j k : Nat) (G : Nat → TXI) (a : Option Addr) (c : Nat) (w : World) : Prop where
 rs : RS W g (bkF IntKind.i64.wrap s j) w
 z : Box w b2 [.int .i64 0, .string ⟨#[]⟩, .slice none 0 0]
 b : Box w b5 [.int .i64 hh, .string pv, .slice a k c]
 o : OR 29 TXI.cells 6 w Bt a k c G
 m : ∀ i, i < k → (G i).tm w
 v : ∀ i, i < k → (G i).t = deV IntKind.i64.wrap (bkT s i)
 l : ∀ i, i < k → ∀ b, (G i).on b → Bt ≤ b ∧ ∀ y, a = some y → b ≠ y.block
 t : SL SC 1 w aT (bkN s) (bkT s)
 h : Bt ≤ w.heap.size
/-- What stays as it is. -/
structure DC (W : World) (g b2 b5 Bt : Nat) (aT : Option Addr) : Prop where
 lg : g < Bt
 l2 : b2 < Bt
 l5 : b5 < Bt
 n1 : g ≠ b2
 n2 : g ≠ b5
 n3 : b2 ≠ b5
 w2 : W.heap.size ≤ b2
 wg : W.heap.size ≤ g
 w5 : W.heap.size ≤ b5
 t : ∀ x, aT = some x → x.block < Bt ∧ x.block ≠ g ∧ x.block ≠ b2 ∧ x.block ≠ b5
section
variable {W : World} {s : ByteArray} {g b2 b5 Bt j k : Nat} {hh : Int} {pv : ByteArray} {aT a : Option Addr} {G G' : Nat → TXI} {c : Nat} {w w' : World}
theorem DS.q (h : DS W s g b2 b5 Bt hh pv aT j k G a c w) (q : Q w w') : DS W s g b2 b5 Bt hh pv aT j k G a c w' :=
 ⟨h.rs.q q, h.z.q q, h.b.q q, h.o.q q, fun i hi => (h.m i hi).q q, h.v, h.l, h.t.q q, Nat.le_trans h.h q.size⟩
theorem DS.go {j' : Nat} (h : DS W s g b2 b5 Bt hh pv aT j k G a c w) (D : DC W g b2 b5 Bt aT) (r : RS w g (bkF IntKind.i64.wrap s j') w') : DS W s g b2 b5 Bt hh pv aT j' k G a c w' :=
 ⟨h.rs.over r, h.z.ch r.ch (Ne.symm D.n1), h.b.ch r.ch (Ne.symm D.n2), h.o.low r.ch D.lg, fun i hi => tm_ch (h.m i hi) r.ch (fun ho => by have := (h.l i hi _ ho).1; have := D.lg; omega), h.v, h.l, h.t.ch r.ch (fun x hx => (D.t x hx).2.1), Nat.le_trans h.h r.ch.size⟩
theorem DS.push {g' c' : Nat} {w2 : World} (h : DS W s g b2 b5 Bt hh pv aT j k G a c w) (D : DC W g b2 b5 Bt aT) (hG : ∀ i, i < k → G i = G' i) (O : OR 29 TXI.cells 6 w' Bt (some ⟨g', 0, none⟩) (k + 1) c' G') (gr : Grow w w' (blk a) g')
 (tk : (G' k).tm w) (vk : (G' k).t = deV IntKind.i64.wrap (bkT s k)) (lk : ∀ b, (G' k).on b → Bt ≤ b ∧ ∀ y, a = some y → b ≠ y.block) (B : Box w2 b5 [.int .i64 hh, .string pv, .slice (some ⟨g', 0, none⟩) (k + 1) c']) (cb : Ch b5 w' w2) :
 DS W s g b2 b5 Bt hh pv aT j (k + 1) G' (some ⟨g', 0, none⟩) c' w2 := by
 obtain ⟨jb, cj, j1, j2⟩ := grow_ch gr
 have jB : Bt ≤ jb := by
  cases ha : a with
  | none => rw [j2 ha]; exact h.h
  | some y => rw [j1 y ha]; exact (h.o.blk_ y ha).1
 have all : ∀ i, i < k + 1 → (G' i).tm w ∧ (G' i).t = deV IntKind.i64.wrap (bkT s i) ∧ ∀ b, (G' i).on b → Bt ≤ b ∧ ∀ y, a = some y → b ≠ y.block := by
  intro i hi
  by_cases e : i = k
  · subst e; exact ⟨tk, vk, lk⟩
  · rw [← hG i (by omega)]; exact ⟨h.m i (by omega), h.v i (by omega), h.l i (by omega)⟩
 have nj : ∀ i, i < k + 1 → ¬ (G' i).on jb := fun i hi ho => by
  cases ha : a with
  | none => have := tm_lt (all i hi).1 ho; rw [j2 ha] at this; omega
  | some y => exact ((all i hi).2.2 _ ho).2 y ha (j1 y ha)
 have ng : ∀ i, i < k + 1 → ∀ b, (G' i).on b → b ≠ g' := fun i hi b ho => by
  rcases gr.at_ with e | e
  · cases ha : a with
    | none => rw [ha] at e; cases e
    | some y => rw [ha] at e; simp only [blk, Option.map_some, Option.some.injEq] at e; rw [← e]; exact ((all i hi).2.2 _ ho).2 y ha
  · have := tm_lt (all i hi).1 ho; omega
 have D1 := D.lg; have D2 := D.l2; have D3 := D.l5
 have lg : Bt ≤ g' := (O.blk_ _ rfl).1
 refine ⟨(h.rs.box cj (by have := D.wg; omega) (by omega)).box cb D.w5 D.n2, (h.z.ch cj (by omega)).ch cb D.n3, B, O.low cb D3, fun i hi => tm_ch (tm_ch (all i hi).1 cj (nj i hi)) cb (fun ho => by have := ((all i hi).2.2 _ ho).1; omega), fun i hi => (all i hi).2.1,
  fun i hi b ho => ⟨((all i hi).2.2 b ho).1, fun y hy => by injection hy with hy; subst hy; exact ng i hi b ho⟩, (h.t.ch cj (fun x hx => by have := (D.t x hx).1; omega)).ch cb (fun x hx => (D.t x hx).2.2.2), ?_⟩
 have := cj.size; have := cb.size; have := h.h; omega
end
/-- It is that block. -/
def BKI.Is (z : BKI) (b : BK) : Prop := z.h = b.h ∧ z.prev = b.prev ∧ z.n = b.n ∧ ∀ i, i < z.n → (z.g i).t = b.tx i
def DBo (s : ByteArray) (W : World) (r : Ending) (w' : World) : Prop := ∃ z : BKI, r = .returned (.tuple #[z.val, .int .i64 (bkE IntKind.i64.wrap s)]) ∧ z.tl w' ∧ z.ok ∧ z.Is (bkV IntKind.i64.wrap s) ∧ Q W w'
set_option maxHeartbeats 40000000 in
theorem bdecode_x (s : ByteArray) (hs : s.size ≤ 1000000) (W : World) : Calls Tryz.prog 88 #[.string s] W (DBo s W) := by
 have Q0 : Hid (Q W (W.alloc (.cells #[.int .i64 0, .string ⟨#[]⟩, .slice none 0 0] 64))) := (Q.refl W).alloc _
 have B0 : Hid (Box (W.alloc (.cells #[.int .i64 0, .string ⟨#[]⟩, .slice none 0 0] 64)) W.heap.size [.int .i64 0, .string ⟨#[]⟩, .slice none 0 0]) := Box.new W [.int .i64 0, .string ⟨#[]⟩, .slice none 0 0] 64
 have hsz : (W.alloc (.cells #[.int .i64 0, .string ⟨#[]⟩, .slice none 0 0] 64)).heap.size = W.heap.size + 1 := by simp
 go_enter Tryz.func88, Tryz.ntmps88
 go_wp2_with fail
 generalize W.alloc (.cells #[.int .i64 0, .string ⟨#[]⟩, .slice none 0 0] 64) = wA at *
 refine (read_l s hs _).mono ?_
 rintro r w1 ⟨rfl, h, q1⟩
 have H1 : Hid (RS W wA.heap.size ⟨s, 0⟩ w1) := ⟨h.rd, Ch.of_q (Q0.out.trans q1) _, h.z⟩
 have B1 := Lib.hid (B0.out.q q1)
 obtain ⟨b2, hb2⟩ : ∃ b, W.heap.size = b := ⟨_, rfl⟩
 have n12 : wA.heap.size ≠ b2 := by omega
 have w2 : W.heap.size ≤ b2 := by omega
 have wg : W.heap.size ≤ wA.heap.size := by omega
 rw [hb2] at B1 ⊢
 clear hb2 h q1 Q0 B0 hsz
 generalize wA.heap.size = g at *
 obtain ⟨v, hv⟩ : ∃ v, (PS.mk s 0).byV = v := ⟨_, rfl⟩
 by_cases h66 : v = 66
 · subst h66
   have HP : Hid ((PS.mk s 0).byt = bkP s) := by show _ = _; unfold bkP; rw [if_pos hv]
   go_wp2_with fail
   refine (H1.out.up.byte_l hv HP.out).mono ?_
   rintro r wq ⟨rfl, h⟩
   have B := Lib.hid (B1.out.ch h.ch (Ne.symm n12))
   have H := Lib.hid (H1.out.over h)
   clear h B1 H1 hv HP
   as_aux_lemma =>
   obtain ⟨nv, hnv⟩ : ∃ v, (bkP s).nuV = v := ⟨_, rfl⟩
   obtain ⟨hh, cv⟩ : ∃ v, IntKind.i64.wrap nv = v := ⟨_, rfl⟩
   obtain ⟨pv, hpv⟩ : ∃ v, (bkP s).num.haV = v := ⟨_, rfl⟩
   have KH : Hid (I64 hh) := by show I64 hh; rw [← cv]; exact small_wrap.bd nv (by have := PS.nuV_in (bkP s); rw [hnv] at this; exact this.1) (by have := PS.nuV_in (bkP s); rw [hnv] at this; exact this.2)
   have KP : Hid (pv.size ≤ 16) := by show pv.size ≤ 16; rw [← hpv]; exact PS.haV_le _
   have VX : Hid (bkX IntKind.i64.wrap s = ⟨hh, pv, bkN s, fun i => deV IntKind.i64.wrap (bkT s i)⟩) := by show _ = _; unfold bkX; rw [hnv, cv, hpv]
   go_wp2_with fail
   refine (H.out.up.num_l hnv rfl).mono ?_
   rintro r w3 ⟨rfl, h⟩
   have B3 := Lib.hid (B.out.ch h.ch (Ne.symm n12))
   have H3 := Lib.hid (H.out.over h)
   clear h H B
   go_wp2_with fail
   refine (H3.out.up.hash_l hpv (p' := bkC s) rfl).mono ?_
   rintro r w4 ⟨rfl, h⟩
   have B4 := Lib.hid (B3.out.ch h.ch (Ne.symm n12))
   have H4 := Lib.hid (H3.out.over h)
   clear h H3 B3 hnv cv hpv
   go_wp2_with (with_reducible (show wpList _ _ _ (⟨_, Op.build 64 _, _, _, _, _⟩ :: _) _ _); refine halt ?_)
   refine Lib.hid (wpl_bkh rfl hh pv rfl _ rfl rfl rfl ?_)
   refine wpList_allocZ rfl 64 rfl #[.int .i64 0, .string ⟨#[]⟩, .slice none 0 0] zeroBk ?_
   refine st_box rfl 64 _ _ rfl w4.heap.size _ [.int .i64 hh, .string pv, .slice none 0 0] rfl rfl (Box.new w4 [.int .i64 0, .string ⟨#[]⟩, .slice none 0 0] 64) rfl (by kernel_rfl) (one3 rfl rfl rfl) ?_
   intro w5 B5 c5
   have q5 : Q w4 w5 := c5.q ((Q.refl w4).alloc _) (Nat.le_refl _)
   have lg := H4.out.lt
   have l2 := B4.out.lt
   have l0 := H4.out.ch.size
   have H5 := Lib.hid (H4.out.q q5)
   have Z5 := Lib.hid (B4.out.q q5)
   have X5 := Lib.hid B5
   obtain ⟨b5, hb5⟩ : ∃ b, w4.heap.size = b := ⟨_, rfl⟩
   rw [hb5] at X5 lg l2 l0 ⊢
   clear q5 c5 B5 H4 B4 hb5
   have n25 : b2 ≠ b5 := by omega
   have ng5 : g ≠ b5 := by omega
   have l5 := X5.out.lt
   refine wpList_nil ?_
   as_aux_lemma =>
   go_wp2_with fail
   refine (rtexts_x w5 H5.out.up).mono ?_
   rintro r w6 ⟨aT, cT, rfl, h, ot⟩
   have H6 : Hid (RS W g (bkF IntKind.i64.wrap s 0) w6) := H5.out.over h
   have Z6 := Lib.hid (Z5.out.ch h.ch (Ne.symm n12))
   have X6 := Lib.hid (X5.out.ch h.ch (Ne.symm ng5))
   have T6 : Hid (SL SC 1 w6 aT (bkN s) (bkT s)) := ot.sl sc_len
   have BT : Hid (∀ x, aT = some x → w5.heap.size ≤ x.block ∧ x.block < w6.heap.size) := fun x hx => ot.blk_ x hx
   have l6 : w5.heap.size ≤ w6.heap.size := h.ch.size
   have DD : Hid (DC W g b2 b5 w6.heap.size aT) := ⟨by omega, by omega, by omega, n12, ng5, n25, w2, wg, by omega, fun x hx => by have := BT.out x hx; exact ⟨by omega, by omega, by omega, by omega⟩⟩
   have S0 : Hid (DS W s g b2 b5 w6.heap.size hh pv aT 0 0 (fun _ => ⟨TX.zero, none, 0, none, 0, none, 0⟩) none 0 w6) := ⟨H6.out, Z6.out, X6.out, OR.nil _ _ _ _ _ _, fun i hi => by omega, fun i hi => by omega, fun i hi => by omega, T6.out, Nat.le_refl _⟩
   obtain ⟨Bt, hBt⟩ : ∃ b, w6.heap.size = b := ⟨_, rfl⟩
   rw [hBt] at DD S0
   clear h ot H5 Z5 X5 H6 Z6 X6 T6 BT l6 hBt lg l2 l0 l5 n12 w2 wg n25 ng5
   have hN : tn (bkC s) = bkN s := rfl
   rw [hN]
   obtain ⟨n, hn⟩ : ∃ n, bkN s = n := ⟨_, rfl⟩
   have n8 : n ≤ 8 := by rw [← hn]; exact bkN_le s
   have HN := Lib.hid hn
   rw [hn]
   clear hn hN
   obtain ⟨i0, hi0, hz0, hz1, hz2⟩ := info_of info_tx
   as_aux_lemma =>
   go_wp2_with fail
   go_loopw [7, 8, 9, 27] (fun _ _ _ i wr => ∃ (k : Nat) (G : Nat → TXI) (a : Option Addr) (c : Nat), k ≤ n ∧ i = .int .i64 k ∧ Hid (DS W s g b2 b5 Bt hh pv aT k k G a c wr)) (fun _ _ _ i _ => n - (intOf i).toNat)
   case atStart => exact ⟨0, _, none, 0, by omega, rfl, S0⟩
   case round =>
   obtain ⟨k, G, a, c, hk, rfl, S⟩ := hrel
   clear S0
   have k0 : (0 : Int) ≤ (k : Int) := by omega
   by_cases hlt : k < n
   · have k1 : (k : Int) < (n : Int) := by omega
     obtain ⟨T, hT⟩ : ∃ T, bkT s k = T := ⟨_, rfl⟩
     have zT : T.size ≤ 1000000 := by rw [← hT]; have := PS.blV_le 4096 (bkQ s k); exact Nat.le_trans this (by decide)
     obtain ⟨bt, off, rfl, hrow⟩ := S.out.t.some_ (by rw [HN.out]; omega)
     have m0 : wr.cell? ⟨bt, off + k, none⟩ = some (.string T) := by
      have := hrow k (by rw [HN.out]; exact hlt) 0 _ rfl
      rw [Nat.mul_one, Nat.add_zero, hT] at this
      exact this
     clear hrow
     have HT := Lib.hid hT
     clear hT
     go_wp2_with fail
     clear m0
     refine (decode_n T zT _).mono ?_
     rintro r w7 ⟨xI, yI, xO, yO, xW, yW, rfl, hm, q7, hlo⟩
     have hm' := hm
     obtain ⟨z, hz⟩ : ∃ z : TXI, z = ⟨deV IntKind.i64.wrap T, xI, yI, xO, yO, xW, yW⟩ := ⟨_, rfl⟩
     obtain ⟨er, her⟩ : ∃ v, deE IntKind.i64.wrap T = v := ⟨_, rfl⟩
     have ZV : Hid (txV (deV IntKind.i64.wrap T) xI yI xO yO xW yW = .agg (TXI.cells z).toArray) := by show _ = _; rw [hz]; rfl
     have ZM : Hid (z.tm w7) := by show z.tm w7; rw [hz]; exact hm
     have ZT : Hid (z.t = deV IntKind.i64.wrap (bkT s k)) := by show _ = _; rw [hz, HT.out]
     have ZL : Hid (∀ b, z.on b → wr.heap.size ≤ b) := fun b hb => by
      rw [hz] at hb
      rcases hb with ⟨_, x, hx, rfl⟩ | ⟨_, x, hx, rfl⟩ | ⟨_, x, hx, rfl⟩
      · exact hlo x (.inl hx)
      · exact hlo x (.inr (.inl hx))
      · exact hlo x (.inr (.inr hx))
     have HER : Hid ((bkF IntKind.i64.wrap s k).fl er = bkF IntKind.i64.wrap s (k + 1)) := by show _ = (bkF IntKind.i64.wrap s k).fl (deE IntKind.i64.wrap (bkT s k)); rw [HT.out, her]
     have AB : Hid (∀ y, a = some y → y.block < wr.heap.size) := fun y hy => (S.out.o.blk_ y hy).2
     have S7 := Lib.hid (S.out.q q7)
     have RB := S.out.h
     rw [ZV.out, her]
     clear hm hm' hlo hz her q7 S ZV
     go_wp2_with (with_reducible (show wpList _ _ _ (⟨_, Op.alloc 29, _, _, _, _⟩ :: _) _ _); refine halt ?_)
     refine wpList_allocZ rfl 29 rfl #[.slice none 0 0, .slice none 0 0, .int .u64 0, .string ⟨#[]⟩, .string ⟨#[]⟩, .slice none 0 0] zeroT ?_
     refine st_box rfl 29 _ _ rfl w7.heap.size _ (TXI.cells z) rfl rfl (Box.new w7 [.slice none 0 0, .slice none 0 0, .int .u64 0, .string ⟨#[]⟩, .string ⟨#[]⟩, .slice none 0 0] 29) rfl (by kernel_rfl) (one6 rfl rfl rfl rfl rfl rfl) ?_
     intro w8 B8 c8
     have q8 : Q w7 w8 := c8.q ((Q.refl w7).alloc _) (Nat.le_refl _)
     have S8 := Lib.hid (S7.out.q q8)
     have ZM8 := Lib.hid (ZM.out.q q8)
     have X8 := Lib.hid B8
     have lb8 : Bt ≤ w7.heap.size := S7.out.h
     obtain ⟨b8, hb8⟩ : ∃ b, w7.heap.size = b := ⟨_, rfl⟩
     rw [hb8] at X8 lb8 ⊢
     clear c8 B8 q8 S7 ZM hb8
     go_wp2_with fail
     refine (S8.out.rs.up.fail_l HER.out).mono ?_
     rintro r w9 ⟨rfl, h⟩
     have S9 := Lib.hid (S8.out.go DD.out h)
     have ZM9 := Lib.hid (tm_ch ZM8.out h.ch (fun ho => by have := ZL.out _ ho; have := DD.out.lg; omega))
     have X9 := Lib.hid (X8.out.ch h.ch (by have := DD.out.lg; omega))
     clear h S8 ZM8 X8 HER
     have m2 := S9.out.b.at_ 2 _ rfl
     go_wp2_with (with_reducible (show wpList _ _ _ (⟨_, Op.load 29 (.tmp 8), _, _, _, _⟩ :: _) _ _); refine halt ?_)
     clear m2
     refine Lib.hid (ld_box rfl 29 _ rfl b8 _ rfl X9.out Tryz.underlying29 rfl (by kernel_rfl) ?_)
     refine wpl_rowtx rfl z rfl rfl ?_
     obtain ⟨G', hG'⟩ : ∃ G' : Nat → TXI, G' = fun i => if i = k then z else G i := ⟨_, rfl⟩
     have GK : Hid (G' k = z) := by show _ = _; rw [hG']; simp
     have GL_ : Hid (∀ i, i < k → G i = G' i) := fun i hi => by rw [hG']; simp only; rw [if_neg (by omega)]
     clear hG'
     have qa : Q w9 (w9.alloc (.cells (TXI.cells z).toArray 29)) := (Q.refl w9).alloc _
     have SA := Lib.hid (S9.out.q qa)
     have ZMA := Lib.hid (ZM9.out.q qa)
     have hB9 : Bt ≤ w9.heap.size := S9.out.h
     have OA := Lib.hid (SA.out.o.congr GL_.out)
     clear qa S9 ZM9 X9
     refine wpl_app rfl (.tmp 40) (.tmp 42) 62 rfl i0 _ 112 Tryz.underlying62 hi0 hz0 hz1 hz2 rfl (by decide) rfl OA.out w9.heap.size rfl rfl (fun j u hj => ?_) (by rw [GK.out]; exact one6 rfl rfl rfl rfl rfl rfl) (by omega) (by decide) (by simp; omega) ?_
     · rw [GK.out] at hj
       rw [World.cell?_alloc_at _ _ _ _ rfl]
       simpa using hj
     intro g' c' w10 O10 gr
     have B10 : Hid (Box w10 b5 [.int .i64 hh, .string pv, .slice a k c]) := SA.out.b.over (fun x hx => by have := (SA.out.o.blk_ x hx).1; have := DD.out.l5; omega) gr
     go_wp2_with (with_reducible (show wpList _ _ _ (⟨_, Op.store 62 _ _, _, _, _, _⟩ :: _) _ _); refine halt ?_)
     refine Lib.hid (wpl_stb rfl 62 _ _ rfl rfl rfl B10.out rfl (fun w hc hf => by simp [go_sem, hc, hf]) ?_)
     intro w11 B11 c11
     have S11 : Hid (DS W s g b2 b5 Bt hh pv (some ⟨bt, off, none⟩) (k + 1) (k + 1) G' (some ⟨g', 0, none⟩) c' w11) := by
      refine SA.out.push DD.out GL_.out O10 gr (by rw [GK.out]; exact ZMA.out) (by rw [GK.out]; exact ZT.out) (fun b ho => ?_) B11 c11
      rw [GK.out] at ho
      have := ZL.out b ho
      exact ⟨by omega, fun y hy e => by have := AB.out y hy; omega⟩
     clear B11 c11 B10 O10 gr SA ZMA OA GK GL_ ZL AB ZT HT
     go_wp2_with fail
     go_roundw
     case rel => exact ⟨k + 1, G', some ⟨g', 0, none⟩, c', by omega, by go_num, S11⟩
     case measure => simp [intOf]; omega
   obtain rfl : k = n := by omega
   have td : decide (k < k) = false := by simp
   as_aux_lemma =>
   go_wp2_with (with_reducible (show wpList _ _ _ (⟨_, Op.load 64 (.tmp 5), _, _, _, _⟩ :: _) _ _); refine halt ?_)
   refine Lib.hid (ld_box rfl 64 _ rfl b5 _ rfl S.out.b Tryz.underlying64 rfl (by kernel_rfl) ?_)
   go_wp2_with fail
   have TL_ : Hid (∀ w', Q wr w' → TL w' a k G) := fun w' q => ⟨(S.out.o.sl txi_len).q q, fun i hi => (S.out.m i hi).q q, fun i hi => by rw [S.out.v i hi]; exact deV_ok small_wrap _⟩
   have KO : Hid (BKI.ok ⟨hh, pv, k, G, a, c⟩) := ⟨KH.out, by have := KP.out; show pv.size ≤ _; omega, by show k ≤ 100; omega⟩
   have RR : Hid (RightB ⟨hh, pv, k, G, a, c⟩ ↔ RightK (bkX IntKind.i64.wrap s)) := by
    show RightB _ ↔ RightK _
    rw [VX.out, HN.out]
    exact ⟨fun ⟨h1, h2, h3, h4, h5⟩ => ⟨h1, h2, h3, h4, fun i hi => by show RightT (deV IntKind.i64.wrap (bkT s i)); rw [← S.out.v i hi]; exact h5 i hi⟩, fun ⟨h1, h2, h3, h4, h5⟩ => ⟨h1, h2, h3, h4, fun i hi => by show RightT (G i).t; rw [S.out.v i hi]; exact h5 i hi⟩⟩
   refine (bright_x ⟨hh, pv, k, G, a, c⟩ _ (TL_.out _ (Q.refl wr)) KO.out).mono ?_
   rintro r w12 ⟨b, rfl, hz, q12⟩
   have TL2 : Hid (∀ w', Q w12 w' → TL w' a k G) := fun w' q => TL_.out w' (q12.trans q)
   have TL3 : Hid (∀ w' g', Ch g' w12 w' → g' = g ∨ g' = b2 → TL w' a k G) := fun w' g' c hgg => by
    have hgB : g' < Bt := by rcases hgg with rfl | rfl; exact DD.out.lg; exact DD.out.l2
    refine ⟨((S.out.o.q q12).low c hgB).sl txi_len, fun i hi => tm_ch ((S.out.m i hi).q q12) c (fun ho => by have := (S.out.l i hi _ ho).1; omega), fun i hi => by rw [S.out.v i hi]; exact deV_ok small_wrap _⟩
   have S12 := Lib.hid (S.out.q q12)
   have SV := Lib.hid S.out.v
   clear TL_ S q12 TL2
   rcases two hz with ⟨rfl, Z⟩ | ⟨rfl, Z⟩
   · have U : Hid (bkF IntKind.i64.wrap s k = bkG IntKind.i64.wrap s) := by show _ = _; unfold bkG; rw [if_pos (RR.out.1 Z), HN.out]
     clear hz Z RR
     have HG : Hid (RS W g (bkG IntKind.i64.wrap s) w12 ∧ Box w12 b2 [.int .i64 0, .string ⟨#[]⟩, .slice none 0 0] ∧ Box w12 b5 [.int .i64 hh, .string pv, .slice a k c] ∧ ∀ w', Ch b2 w12 w' → TL w' a k G) := ⟨by rw [← U.out]; exact S12.out.rs, S12.out.z, S12.out.b, fun w' c => TL3.out w' b2 c (.inr rfl)⟩
     clear S12 U TL3
     as_aux_lemma =>
     obtain ⟨ev, hev⟩ : ∃ v, bkE IntKind.i64.wrap s = v := ⟨_, rfl⟩
     go_wp2_with fail
     refine (HG.out.1.end_l (v := ev) (by rw [← hev]; rfl)).mono ?_
     rintro r _ ⟨rfl, rfl⟩
     have PE := Lib.hid hev
     clear hev
     by_cases he : ev = 0
     · have BV : Hid (bkV IntKind.i64.wrap s = ⟨hh, pv, k, fun i => deV IntKind.i64.wrap (bkT s i)⟩) := by show _ = _; unfold bkV; rw [if_pos (by rw [PE.out]; exact he), VX.out, HN.out]
       subst he
       go_wp2_with (with_reducible (show wpList _ _ _ (⟨_, Op.load 64 (.tmp 5), _, _, _, _⟩ :: _) _ _); refine halt ?_)
       refine Lib.hid (ld_box rfl 64 _ rfl b5 _ rfl HG.out.2.2.1 Tryz.underlying64 rfl (by kernel_rfl) ?_)
       refine st_box rfl 64 _ _ rfl b2 _ [.int .i64 hh, .string pv, .slice a k c] rfl rfl HG.out.2.1 rfl (by kernel_rfl) (one3 rfl rfl rfl) ?_
       intro w19 B9 c9
       have HL : Hid ((loadVar 64 ⟨b2, 0, none⟩).run Tryz.prog w19 = .ok (.agg #[.int .i64 hh, .string pv, .slice a k c]) w19) := B9.load _ Tryz.underlying64 rfl (by kernel_rfl)
       have T9 : Hid (TL w19 a k G) := HG.out.2.2.2 w19 c9
       have Q9 : Hid (Q W w19) := (HG.out.1.box c9 DD.out.w2 DD.out.n1).ch.q (Q.refl W) DD.out.wg
       clear B9 c9 HG
       go_wp2_with fail
       (try simp only [Exit.inBlock, Exit.then])
       refine bodyPost_ret (results_cell_tmp rfl rfl HL.out) rfl ?_
       exact ⟨⟨hh, pv, k, G, a, c⟩, by rw [PE.out]; rfl, T9.out, KO.out, by rw [BV.out]; exact ⟨rfl, rfl, rfl, fun i hi => SV.out i hi⟩, Q9.out⟩
     · have BV : Hid (bkV IntKind.i64.wrap s = BK.zero) := by show _ = _; unfold bkV; rw [if_neg (by rw [PE.out]; exact he)]
       have t1 : (ev == 0) = false := by simpa using he
       have t2 : (ev != 0) = true := by simpa using he
       have t3 : decide (ev = 0) = false := by simpa using he
       go_wp2_with (with_reducible (show wpList _ _ _ (⟨_, Op.build 64 _, _, _, _, _⟩ :: _) _ _); refine halt ?_)
       refine Lib.hid (wpl_bkz rfl rfl _ rfl ?_)
       go_wp2_with (with_reducible (show wpList _ _ _ (⟨_, Op.store 64 _ _, _, _, _, _⟩ :: _) _ _); refine halt ?_)
       refine Lib.hid (st_box rfl 64 _ _ rfl b2 _ [.int .i64 0, .string ⟨#[]⟩, .slice none 0 0] rfl rfl HG.out.2.1 rfl (by kernel_rfl) (one3 rfl rfl rfl) ?_)
       intro w19 B9 c9
       have HL : Hid ((loadVar 64 ⟨b2, 0, none⟩).run Tryz.prog w19 = .ok (.agg #[.int .i64 0, .string ⟨#[]⟩, .slice none 0 0]) w19) := B9.load _ Tryz.underlying64 rfl (by kernel_rfl)
       have Q9 : Hid (Q W w19) := (HG.out.1.box c9 DD.out.w2 DD.out.n1).ch.q (Q.refl W) DD.out.wg
       clear B9 c9 HG
       go_wp2_with fail
       (try simp only [Exit.inBlock, Exit.then])
       refine bodyPost_ret (results_cell_tmp rfl rfl HL.out) rfl ?_
       exact ⟨⟨0, ⟨#[]⟩, 0, fun _ => ⟨TX.zero, none, 0, none, 0, none, 0⟩, none, 0⟩, by rw [PE.out]; rfl, ⟨SL.nil rfl, fun i hi => by have : i < 0 := hi; omega, fun i hi => by have : i < 0 := hi; omega⟩, ⟨⟨by decide, by decide⟩, by decide, by decide⟩, by rw [BV.out]; exact ⟨rfl, rfl, rfl, fun i hi => by have : i < 0 := hi; omega⟩, Q9.out⟩
   · have U : Hid ((bkF IntKind.i64.wrap s k).fl 4 = bkG IntKind.i64.wrap s) := by show _ = _; unfold bkG; rw [if_neg (fun h => Z (RR.out.2 h)), HN.out]
     clear hz Z RR
     as_aux_lemma =>
     go_wp2_with fail
     refine (S12.out.rs.up.fail_l U.out).mono ?_
     rintro r w13 ⟨rfl, h⟩
     have HG : Hid (RS W g (bkG IntKind.i64.wrap s) w13 ∧ Box w13 b2 [.int .i64 0, .string ⟨#[]⟩, .slice none 0 0] ∧ Box w13 b5 [.int .i64 hh, .string pv, .slice a k c] ∧ ∀ w', Ch b2 w13 w' → TL w' a k G) := ⟨S12.out.rs.over h, S12.out.z.ch h.ch (Ne.symm DD.out.n1), S12.out.b.ch h.ch (Ne.symm DD.out.n2), fun w' c => by
      have t := TL3.out w13 g h.ch (.inl rfl)
      exact ⟨((S12.out.o.low h.ch DD.out.lg).low c DD.out.l2).sl txi_len, fun i hi => tm_ch (t.m i hi) c (fun ho => by have := (S12.out.l i hi _ ho).1; have := DD.out.l2; omega), t.k⟩⟩
     clear h S12 U TL3
     obtain ⟨ev, hev⟩ : ∃ v, bkE IntKind.i64.wrap s = v := ⟨_, rfl⟩
     go_wp2_with fail
     refine (HG.out.1.end_l (v := ev) (by rw [← hev]; rfl)).mono ?_
     rintro r _ ⟨rfl, rfl⟩
     have PE := Lib.hid hev
     clear hev
     by_cases he : ev = 0
     · have BV : Hid (bkV IntKind.i64.wrap s = ⟨hh, pv, k, fun i => deV IntKind.i64.wrap (bkT s i)⟩) := by show _ = _; unfold bkV; rw [if_pos (by rw [PE.out]; exact he), VX.out, HN.out]
       subst he
       go_wp2_with (with_reducible (show wpList _ _ _ (⟨_, Op.load 64 (.tmp 5), _, _, _, _⟩ :: _) _ _); refine halt ?_)
       refine Lib.hid (ld_box rfl 64 _ rfl b5 _ rfl HG.out.2.2.1 Tryz.underlying64 rfl (by kernel_rfl) ?_)
       refine st_box rfl 64 _ _ rfl b2 _ [.int .i64 hh, .string pv, .slice a k c] rfl rfl HG.out.2.1 rfl (by kernel_rfl) (one3 rfl rfl rfl) ?_
       intro w19 B9 c9
       have HL : Hid ((loadVar 64 ⟨b2, 0, none⟩).run Tryz.prog w19 = .ok (.agg #[.int .i64 hh, .string pv, .slice a k c]) w19) := B9.load _ Tryz.underlying64 rfl (by kernel_rfl)
       have T9 : Hid (TL w19 a k G) := HG.out.2.2.2 w19 c9
       have Q9 : Hid (Q W w19) := (HG.out.1.box c9 DD.out.w2 DD.out.n1).ch.q (Q.refl W) DD.out.wg
       clear B9 c9 HG
       go_wp2_with fail
       (try simp only [Exit.inBlock, Exit.then])
       refine bodyPost_ret (results_cell_tmp rfl rfl HL.out) rfl ?_
       exact ⟨⟨hh, pv, k, G, a, c⟩, by rw [PE.out]; rfl, T9.out, KO.out, by rw [BV.out]; exact ⟨rfl, rfl, rfl, fun i hi => SV.out i hi⟩, Q9.out⟩
     · have BV : Hid (bkV IntKind.i64.wrap s = BK.zero) := by show _ = _; unfold bkV; rw [if_neg (by rw [PE.out]; exact he)]
       have t1 : (ev == 0) = false := by simpa using he
       have t2 : (ev != 0) = true := by simpa using he
       have t3 : decide (ev = 0) = false := by simpa using he
       go_wp2_with (with_reducible (show wpList _ _ _ (⟨_, Op.build 64 _, _, _, _, _⟩ :: _) _ _); refine halt ?_)
       refine Lib.hid (wpl_bkz rfl rfl _ rfl ?_)
       go_wp2_with (with_reducible (show wpList _ _ _ (⟨_, Op.store 64 _ _, _, _, _, _⟩ :: _) _ _); refine halt ?_)
       refine Lib.hid (st_box rfl 64 _ _ rfl b2 _ [.int .i64 0, .string ⟨#[]⟩, .slice none 0 0] rfl rfl HG.out.2.1 rfl (by kernel_rfl) (one3 rfl rfl rfl) ?_)
       intro w19 B9 c9
       have HL : Hid ((loadVar 64 ⟨b2, 0, none⟩).run Tryz.prog w19 = .ok (.agg #[.int .i64 0, .string ⟨#[]⟩, .slice none 0 0]) w19) := B9.load _ Tryz.underlying64 rfl (by kernel_rfl)
       have Q9 : Hid (Q W w19) := (HG.out.1.box c9 DD.out.w2 DD.out.n1).ch.q (Q.refl W) DD.out.wg
       clear B9 c9 HG
       go_wp2_with fail
       (try simp only [Exit.inBlock, Exit.then])
       refine bodyPost_ret (results_cell_tmp rfl rfl HL.out) rfl ?_
       exact ⟨⟨0, ⟨#[]⟩, 0, fun _ => ⟨TX.zero, none, 0, none, 0, none, 0⟩, none, 0⟩, by rw [PE.out]; rfl, ⟨SL.nil rfl, fun i hi => by have : i < 0 := hi; omega, fun i hi => by have : i < 0 := hi; omega⟩, ⟨⟨by decide, by decide⟩, by decide, by decide⟩, by rw [BV.out]; exact ⟨rfl, rfl, rfl, fun i hi => by have : i < 0 := hi; omega⟩, Q9.out⟩
 · have HP : Hid ((PS.mk s 0).byt.fl 4 = bkP s) := by show _ = _; unfold bkP; rw [hv, if_neg h66]
   have t0 : (v == 66) = false := by simpa using h66
   have t1 : (v != 66) = true := by simpa using h66
   have t2 : decide (v = 66) = false := by simpa using h66
   go_wp2_with fail
   refine (H1.out.up.byte_l hv rfl).mono ?_
   rintro r wp ⟨rfl, h⟩
   have B2 := Lib.hid (B1.out.ch h.ch (Ne.symm n12))
   have H2 := Lib.hid (H1.out.over h)
   clear h B1 H1 hv
   go_wp2_with fail
   refine (H2.out.up.fail_l HP.out).mono ?_
   rintro r wq ⟨rfl, h⟩
   have B := Lib.hid (B2.out.ch h.ch (Ne.symm n12))
   have H := Lib.hid (H2.out.over h)
   clear h B2 H2 HP t0 t1 t2
   as_aux_lemma =>
   obtain ⟨nv, hnv⟩ : ∃ v, (bkP s).nuV = v := ⟨_, rfl⟩
   obtain ⟨hh, cv⟩ : ∃ v, IntKind.i64.wrap nv = v := ⟨_, rfl⟩
   obtain ⟨pv, hpv⟩ : ∃ v, (bkP s).num.haV = v := ⟨_, rfl⟩
   have KH : Hid (I64 hh) := by show I64 hh; rw [← cv]; exact small_wrap.bd nv (by have := PS.nuV_in (bkP s); rw [hnv] at this; exact this.1) (by have := PS.nuV_in (bkP s); rw [hnv] at this; exact this.2)
   have KP : Hid (pv.size ≤ 16) := by show pv.size ≤ 16; rw [← hpv]; exact PS.haV_le _
   have VX : Hid (bkX IntKind.i64.wrap s = ⟨hh, pv, bkN s, fun i => deV IntKind.i64.wrap (bkT s i)⟩) := by show _ = _; unfold bkX; rw [hnv, cv, hpv]
   go_wp2_with fail
   refine (H.out.up.num_l hnv rfl).mono ?_
   rintro r w3 ⟨rfl, h⟩
   have B3 := Lib.hid (B.out.ch h.ch (Ne.symm n12))
   have H3 := Lib.hid (H.out.over h)
   clear h H B
   go_wp2_with fail
   refine (H3.out.up.hash_l hpv (p' := bkC s) rfl).mono ?_
   rintro r w4 ⟨rfl, h⟩
   have B4 := Lib.hid (B3.out.ch h.ch (Ne.symm n12))
   have H4 := Lib.hid (H3.out.over h)
   clear h H3 B3 hnv cv hpv
   go_wp2_with (with_reducible (show wpList _ _ _ (⟨_, Op.build 64 _, _, _, _, _⟩ :: _) _ _); refine halt ?_)
   refine Lib.hid (wpl_bkh rfl hh pv rfl _ rfl rfl rfl ?_)
   refine wpList_allocZ rfl 64 rfl #[.int .i64 0, .string ⟨#[]⟩, .slice none 0 0] zeroBk ?_
   refine st_box rfl 64 _ _ rfl w4.heap.size _ [.int .i64 hh, .string pv, .slice none 0 0] rfl rfl (Box.new w4 [.int .i64 0, .string ⟨#[]⟩, .slice none 0 0] 64) rfl (by kernel_rfl) (one3 rfl rfl rfl) ?_
   intro w5 B5 c5
   have q5 : Q w4 w5 := c5.q ((Q.refl w4).alloc _) (Nat.le_refl _)
   have lg := H4.out.lt
   have l2 := B4.out.lt
   have l0 := H4.out.ch.size
   have H5 := Lib.hid (H4.out.q q5)
   have Z5 := Lib.hid (B4.out.q q5)
   have X5 := Lib.hid B5
   obtain ⟨b5, hb5⟩ : ∃ b, w4.heap.size = b := ⟨_, rfl⟩
   rw [hb5] at X5 lg l2 l0 ⊢
   clear q5 c5 B5 H4 B4 hb5
   have n25 : b2 ≠ b5 := by omega
   have ng5 : g ≠ b5 := by omega
   have l5 := X5.out.lt
   refine wpList_nil ?_
   as_aux_lemma =>
   go_wp2_with fail
   refine (rtexts_x w5 H5.out.up).mono ?_
   rintro r w6 ⟨aT, cT, rfl, h, ot⟩
   have H6 : Hid (RS W g (bkF IntKind.i64.wrap s 0) w6) := H5.out.over h
   have Z6 := Lib.hid (Z5.out.ch h.ch (Ne.symm n12))
   have X6 := Lib.hid (X5.out.ch h.ch (Ne.symm ng5))
   have T6 : Hid (SL SC 1 w6 aT (bkN s) (bkT s)) := ot.sl sc_len
   have BT : Hid (∀ x, aT = some x → w5.heap.size ≤ x.block ∧ x.block < w6.heap.size) := fun x hx => ot.blk_ x hx
   have l6 : w5.heap.size ≤ w6.heap.size := h.ch.size
   have DD : Hid (DC W g b2 b5 w6.heap.size aT) := ⟨by omega, by omega, by omega, n12, ng5, n25, w2, wg, by omega, fun x hx => by have := BT.out x hx; exact ⟨by omega, by omega, by omega, by omega⟩⟩
   have S0 : Hid (DS W s g b2 b5 w6.heap.size hh pv aT 0 0 (fun _ => ⟨TX.zero, none, 0, none, 0, none, 0⟩) none 0 w6) := ⟨H6.out, Z6.out, X6.out, OR.nil _ _ _ _ _ _, fun i hi => by omega, fun i hi => by omega, fun i hi => by omega, T6.out, Nat.le_refl _⟩
   obtain ⟨Bt, hBt⟩ : ∃ b, w6.heap.size = b := ⟨_, rfl⟩
   rw [hBt] at DD S0
   clear h ot H5 Z5 X5 H6 Z6 X6 T6 BT l6 hBt lg l2 l0 l5 n12 w2 wg n25 ng5
   have hN : tn (bkC s) = bkN s := rfl
   rw [hN]
   obtain ⟨n, hn⟩ : ∃ n, bkN s = n := ⟨_, rfl⟩
   have n8 : n ≤ 8 := by rw [← hn]; exact bkN_le s
   have HN := Lib.hid hn
   rw [hn]
   clear hn hN
   obtain ⟨i0, hi0, hz0, hz1, hz2⟩ := info_of info_tx
   as_aux_lemma =>
   go_wp2_with fail
   go_loopw [7, 8, 9, 27] (fun _ _ _ i wr => ∃ (k : Nat) (G : Nat → TXI) (a : Option Addr) (c : Nat), k ≤ n ∧ i = .int .i64 k ∧ Hid (DS W s g b2 b5 Bt hh pv aT k k G a c wr)) (fun _ _ _ i _ => n - (intOf i).toNat)
   case atStart => exact ⟨0, _, none, 0, by omega, rfl, S0⟩
   case round =>
   obtain ⟨k, G, a, c, hk, rfl, S⟩ := hrel
   clear S0
   have k0 : (0 : Int) ≤ (k : Int) := by omega
   by_cases hlt : k < n
   · have k1 : (k : Int) < (n : Int) := by omega
     obtain ⟨T, hT⟩ : ∃ T, bkT s k = T := ⟨_, rfl⟩
     have zT : T.size ≤ 1000000 := by rw [← hT]; have := PS.blV_le 4096 (bkQ s k); exact Nat.le_trans this (by decide)
     obtain ⟨bt, off, rfl, hrow⟩ := S.out.t.some_ (by rw [HN.out]; omega)
     have m0 : wr.cell? ⟨bt, off + k, none⟩ = some (.string T) := by
      have := hrow k (by rw [HN.out]; exact hlt) 0 _ rfl
      rw [Nat.mul_one, Nat.add_zero, hT] at this
      exact this
     clear hrow
     have HT := Lib.hid hT
     clear hT
     go_wp2_with fail
     clear m0
     refine (decode_n T zT _).mono ?_
     rintro r w7 ⟨xI, yI, xO, yO, xW, yW, rfl, hm, q7, hlo⟩
     have hm' := hm
     obtain ⟨z, hz⟩ : ∃ z : TXI, z = ⟨deV IntKind.i64.wrap T, xI, yI, xO, yO, xW, yW⟩ := ⟨_, rfl⟩
     obtain ⟨er, her⟩ : ∃ v, deE IntKind.i64.wrap T = v := ⟨_, rfl⟩
     have ZV : Hid (txV (deV IntKind.i64.wrap T) xI yI xO yO xW yW = .agg (TXI.cells z).toArray) := by show _ = _; rw [hz]; rfl
     have ZM : Hid (z.tm w7) := by show z.tm w7; rw [hz]; exact hm
     have ZT : Hid (z.t = deV IntKind.i64.wrap (bkT s k)) := by show _ = _; rw [hz, HT.out]
     have ZL : Hid (∀ b, z.on b → wr.heap.size ≤ b) := fun b hb => by
      rw [hz] at hb
      rcases hb with ⟨_, x, hx, rfl⟩ | ⟨_, x, hx, rfl⟩ | ⟨_, x, hx, rfl⟩
      · exact hlo x (.inl hx)
      · exact hlo x (.inr (.inl hx))
      · exact hlo x (.inr (.inr hx))
     have HER : Hid ((bkF IntKind.i64.wrap s k).fl er = bkF IntKind.i64.wrap s (k + 1)) := by show _ = (bkF IntKind.i64.wrap s k).fl (deE IntKind.i64.wrap (bkT s k)); rw [HT.out, her]
     have AB : Hid (∀ y, a = some y → y.block < wr.heap.size) := fun y hy => (S.out.o.blk_ y hy).2
     have S7 := Lib.hid (S.out.q q7)
     have RB := S.out.h
     rw [ZV.out, her]
     clear hm hm' hlo hz her q7 S ZV
     go_wp2_with (with_reducible (show wpList _ _ _ (⟨_, Op.alloc 29, _, _, _, _⟩ :: _) _ _); refine halt ?_)
     refine wpList_allocZ rfl 29 rfl #[.slice none 0 0, .slice none 0 0, .int .u64 0, .string ⟨#[]⟩, .string ⟨#[]⟩, .slice none 0 0] zeroT ?_
     refine st_box rfl 29 _ _ rfl w7.heap.size _ (TXI.cells z) rfl rfl (Box.new w7 [.slice none 0 0, .slice none 0 0, .int .u64 0, .string ⟨#[]⟩, .string ⟨#[]⟩, .slice none 0 0] 29) rfl (by kernel_rfl) (one6 rfl rfl rfl rfl rfl rfl) ?_
     intro w8 B8 c8
     have q8 : Q w7 w8 := c8.q ((Q.refl w7).alloc _) (Nat.le_refl _)
     have S8 := Lib.hid (S7.out.q q8)
     have ZM8 := Lib.hid (ZM.out.q q8)
     have X8 := Lib.hid B8
     have lb8 : Bt ≤ w7.heap.size := S7.out.h
     obtain ⟨b8, hb8⟩ : ∃ b, w7.heap.size = b := ⟨_, rfl⟩
     rw [hb8] at X8 lb8 ⊢
     clear c8 B8 q8 S7 ZM hb8
     go_wp2_with fail
     refine (S8.out.rs.up.fail_l HER.out).mono ?_
     rintro r w9 ⟨rfl, h⟩
     have S9 := Lib.hid (S8.out.go DD.out h)
     have ZM9 := Lib.hid (tm_ch ZM8.out h.ch (fun ho => by have := ZL.out _ ho; have := DD.out.lg; omega))
     have X9 := Lib.hid (X8.out.ch h.ch (by have := DD.out.lg; omega))
     clear h S8 ZM8 X8 HER
     have m2 := S9.out.b.at_ 2 _ rfl
     go_wp2_with (with_reducible (show wpList _ _ _ (⟨_, Op.load 29 (.tmp 8), _, _, _, _⟩ :: _) _ _); refine halt ?_)
     clear m2
     refine Lib.hid (ld_box rfl 29 _ rfl b8 _ rfl X9.out Tryz.underlying29 rfl (by kernel_rfl) ?_)
     refine wpl_rowtx rfl z rfl rfl ?_
     obtain ⟨G', hG'⟩ : ∃ G' : Nat → TXI, G' = fun i => if i = k then z else G i := ⟨_, rfl⟩
     have GK : Hid (G' k = z) := by show _ = _; rw [hG']; simp
     have GL_ : Hid (∀ i, i < k → G i = G' i) := fun i hi => by rw [hG']; simp only; rw [if_neg (by omega)]
     clear hG'
     have qa : Q w9 (w9.alloc (.cells (TXI.cells z).toArray 29)) := (Q.refl w9).alloc _
     have SA := Lib.hid (S9.out.q qa)
     have ZMA := Lib.hid (ZM9.out.q qa)
     have hB9 : Bt ≤ w9.heap.size := S9.out.h
     have OA := Lib.hid (SA.out.o.congr GL_.out)
     clear qa S9 ZM9 X9
     refine wpl_app rfl (.tmp 40) (.tmp 42) 62 rfl i0 _ 112 Tryz.underlying62 hi0 hz0 hz1 hz2 rfl (by decide) rfl OA.out w9.heap.size rfl rfl (fun j u hj => ?_) (by rw [GK.out]; exact one6 rfl rfl rfl rfl rfl rfl) (by omega) (by decide) (by simp; omega) ?_
     · rw [GK.out] at hj
       rw [World.cell?_alloc_at _ _ _ _ rfl]
       simpa using hj
     intro g' c' w10 O10 gr
     have B10 : Hid (Box w10 b5 [.int .i64 hh, .string pv, .slice a k c]) := SA.out.b.over (fun x hx => by have := (SA.out.o.blk_ x hx).1; have := DD.out.l5; omega) gr
     go_wp2_with (with_reducible (show wpList _ _ _ (⟨_, Op.store 62 _ _, _, _, _, _⟩ :: _) _ _); refine halt ?_)
     refine Lib.hid (wpl_stb rfl 62 _ _ rfl rfl rfl B10.out rfl (fun w hc hf => by simp [go_sem, hc, hf]) ?_)
     intro w11 B11 c11
     have S11 : Hid (DS W s g b2 b5 Bt hh pv (some ⟨bt, off, none⟩) (k + 1) (k + 1) G' (some ⟨g', 0, none⟩) c' w11) := by
      refine SA.out.push DD.out GL_.out O10 gr (by rw [GK.out]; exact ZMA.out) (by rw [GK.out]; exact ZT.out) (fun b ho => ?_) B11 c11
      rw [GK.out] at ho
      have := ZL.out b ho
      exact ⟨by omega, fun y hy e => by have := AB.out y hy; omega⟩
     clear B11 c11 B10 O10 gr SA ZMA OA GK GL_ ZL AB ZT HT
     go_wp2_with fail
     go_roundw
     case rel => exact ⟨k + 1, G', some ⟨g', 0, none⟩, c', by omega, by go_num, S11⟩
     case measure => simp [intOf]; omega
   obtain rfl : k = n := by omega
   have td : decide (k < k) = false := by simp
   as_aux_lemma =>
   go_wp2_with (with_reducible (show wpList _ _ _ (⟨_, Op.load 64 (.tmp 5), _, _, _, _⟩ :: _) _ _); refine halt ?_)
   refine Lib.hid (ld_box rfl 64 _ rfl b5 _ rfl S.out.b Tryz.underlying64 rfl (by kernel_rfl) ?_)
   go_wp2_with fail
   have TL_ : Hid (∀ w', Q wr w' → TL w' a k G) := fun w' q => ⟨(S.out.o.sl txi_len).q q, fun i hi => (S.out.m i hi).q q, fun i hi => by rw [S.out.v i hi]; exact deV_ok small_wrap _⟩
   have KO : Hid (BKI.ok ⟨hh, pv, k, G, a, c⟩) := ⟨KH.out, by have := KP.out; show pv.size ≤ _; omega, by show k ≤ 100; omega⟩
   have RR : Hid (RightB ⟨hh, pv, k, G, a, c⟩ ↔ RightK (bkX IntKind.i64.wrap s)) := by
    show RightB _ ↔ RightK _
    rw [VX.out, HN.out]
    exact ⟨fun ⟨h1, h2, h3, h4, h5⟩ => ⟨h1, h2, h3, h4, fun i hi => by show RightT (deV IntKind.i64.wrap (bkT s i)); rw [← S.out.v i hi]; exact h5 i hi⟩, fun ⟨h1, h2, h3, h4, h5⟩ => ⟨h1, h2, h3, h4, fun i hi => by show RightT (G i).t; rw [S.out.v i hi]; exact h5 i hi⟩⟩
   refine (bright_x ⟨hh, pv, k, G, a, c⟩ _ (TL_.out _ (Q.refl wr)) KO.out).mono ?_
   rintro r w12 ⟨b, rfl, hz, q12⟩
   have TL2 : Hid (∀ w', Q w12 w' → TL w' a k G) := fun w' q => TL_.out w' (q12.trans q)
   have TL3 : Hid (∀ w' g', Ch g' w12 w' → g' = g ∨ g' = b2 → TL w' a k G) := fun w' g' c hgg => by
    have hgB : g' < Bt := by rcases hgg with rfl | rfl; exact DD.out.lg; exact DD.out.l2
    refine ⟨((S.out.o.q q12).low c hgB).sl txi_len, fun i hi => tm_ch ((S.out.m i hi).q q12) c (fun ho => by have := (S.out.l i hi _ ho).1; omega), fun i hi => by rw [S.out.v i hi]; exact deV_ok small_wrap _⟩
   have S12 := Lib.hid (S.out.q q12)
   have SV := Lib.hid S.out.v
   clear TL_ S q12 TL2
   rcases two hz with ⟨rfl, Z⟩ | ⟨rfl, Z⟩
   · have U : Hid (bkF IntKind.i64.wrap s k = bkG IntKind.i64.wrap s) := by show _ = _; unfold bkG; rw [if_pos (RR.out.1 Z), HN.out]
     clear hz Z RR
     have HG : Hid (RS W g (bkG IntKind.i64.wrap s) w12 ∧ Box w12 b2 [.int .i64 0, .string ⟨#[]⟩, .slice none 0 0] ∧ Box w12 b5 [.int .i64 hh, .string pv, .slice a k c] ∧ ∀ w', Ch b2 w12 w' → TL w' a k G) := ⟨by rw [← U.out]; exact S12.out.rs, S12.out.z, S12.out.b, fun w' c => TL3.out w' b2 c (.inr rfl)⟩
     clear S12 U TL3
     as_aux_lemma =>
     obtain ⟨ev, hev⟩ : ∃ v, bkE IntKind.i64.wrap s = v := ⟨_, rfl⟩
     go_wp2_with fail
     refine (HG.out.1.end_l (v := ev) (by rw [← hev]; rfl)).mono ?_
     rintro r _ ⟨rfl, rfl⟩
     have PE := Lib.hid hev
     clear hev
     by_cases he : ev = 0
     · have BV : Hid (bkV IntKind.i64.wrap s = ⟨hh, pv, k, fun i => deV IntKind.i64.wrap (bkT s i)⟩) := by show _ = _; unfold bkV; rw [if_pos (by rw [PE.out]; exact he), VX.out, HN.out]
       subst he
       go_wp2_with (with_reducible (show wpList _ _ _ (⟨_, Op.load 64 (.tmp 5), _, _, _, _⟩ :: _) _ _); refine halt ?_)
       refine Lib.hid (ld_box rfl 64 _ rfl b5 _ rfl HG.out.2.2.1 Tryz.underlying64 rfl (by kernel_rfl) ?_)
       refine st_box rfl 64 _ _ rfl b2 _ [.int .i64 hh, .string pv, .slice a k c] rfl rfl HG.out.2.1 rfl (by kernel_rfl) (one3 rfl rfl rfl) ?_
       intro w19 B9 c9
       have HL : Hid ((loadVar 64 ⟨b2, 0, none⟩).run Tryz.prog w19 = .ok (.agg #[.int .i64 hh, .string pv, .slice a k c]) w19) := B9.load _ Tryz.underlying64 rfl (by kernel_rfl)
       have T9 : Hid (TL w19 a k G) := HG.out.2.2.2 w19 c9
       have Q9 : Hid (Q W w19) := (HG.out.1.box c9 DD.out.w2 DD.out.n1).ch.q (Q.refl W) DD.out.wg
       clear B9 c9 HG
       go_wp2_with fail
       (try simp only [Exit.inBlock, Exit.then])
       refine bodyPost_ret (results_cell_tmp rfl rfl HL.out) rfl ?_
       exact ⟨⟨hh, pv, k, G, a, c⟩, by rw [PE.out]; rfl, T9.out, KO.out, by rw [BV.out]; exact ⟨rfl, rfl, rfl, fun i hi => SV.out i hi⟩, Q9.out⟩
     · have BV : Hid (bkV IntKind.i64.wrap s = BK.zero) := by show _ = _; unfold bkV; rw [if_neg (by rw [PE.out]; exact he)]
       have t1 : (ev == 0) = false := by simpa using he
       have t2 : (ev != 0) = true := by simpa using he
       have t3 : decide (ev = 0) = false := by simpa using he
       go_wp2_with (with_reducible (show wpList _ _ _ (⟨_, Op.build 64 _, _, _, _, _⟩ :: _) _ _); refine halt ?_)
       refine Lib.hid (wpl_bkz rfl rfl _ rfl ?_)
       go_wp2_with (with_reducible (show wpList _ _ _ (⟨_, Op.store 64 _ _, _, _, _, _⟩ :: _) _ _); refine halt ?_)
       refine Lib.hid (st_box rfl 64 _ _ rfl b2 _ [.int .i64 0, .string ⟨#[]⟩, .slice none 0 0] rfl rfl HG.out.2.1 rfl (by kernel_rfl) (one3 rfl rfl rfl) ?_)
       intro w19 B9 c9
       have HL : Hid ((loadVar 64 ⟨b2, 0, none⟩).run Tryz.prog w19 = .ok (.agg #[.int .i64 0, .string ⟨#[]⟩, .slice none 0 0]) w19) := B9.load _ Tryz.underlying64 rfl (by kernel_rfl)
       have Q9 : Hid (Q W w19) := (HG.out.1.box c9 DD.out.w2 DD.out.n1).ch.q (Q.refl W) DD.out.wg
       clear B9 c9 HG
       go_wp2_with fail
       (try simp only [Exit.inBlock, Exit.then])
       refine bodyPost_ret (results_cell_tmp rfl rfl HL.out) rfl ?_
       exact ⟨⟨0, ⟨#[]⟩, 0, fun _ => ⟨TX.zero, none, 0, none, 0, none, 0⟩, none, 0⟩, by rw [PE.out]; rfl, ⟨SL.nil rfl, fun i hi => by have : i < 0 := hi; omega, fun i hi => by have : i < 0 := hi; omega⟩, ⟨⟨by decide, by decide⟩, by decide, by decide⟩, by rw [BV.out]; exact ⟨rfl, rfl, rfl, fun i hi => by have : i < 0 := hi; omega⟩, Q9.out⟩
   · have U : Hid ((bkF IntKind.i64.wrap s k).fl 4 = bkG IntKind.i64.wrap s) := by show _ = _; unfold bkG; rw [if_neg (fun h => Z (RR.out.2 h)), HN.out]
     clear hz Z RR
     as_aux_lemma =>
     go_wp2_with fail
     refine (S12.out.rs.up.fail_l U.out).mono ?_
     rintro r w13 ⟨rfl, h⟩
     have HG : Hid (RS W g (bkG IntKind.i64.wrap s) w13 ∧ Box w13 b2 [.int .i64 0, .string ⟨#[]⟩, .slice none 0 0] ∧ Box w13 b5 [.int .i64 hh, .string pv, .slice a k c] ∧ ∀ w', Ch b2 w13 w' → TL w' a k G) := ⟨S12.out.rs.over h, S12.out.z.ch h.ch (Ne.symm DD.out.n1), S12.out.b.ch h.ch (Ne.symm DD.out.n2), fun w' c => by
      have t := TL3.out w13 g h.ch (.inl rfl)
      exact ⟨((S12.out.o.low h.ch DD.out.lg).low c DD.out.l2).sl txi_len, fun i hi => tm_ch (t.m i hi) c (fun ho => by have := (S12.out.l i hi _ ho).1; have := DD.out.l2; omega), t.k⟩⟩
     clear h S12 U TL3
     obtain ⟨ev, hev⟩ : ∃ v, bkE IntKind.i64.wrap s = v := ⟨_, rfl⟩
     go_wp2_with fail
     refine (HG.out.1.end_l (v := ev) (by rw [← hev]; rfl)).mono ?_
     rintro r _ ⟨rfl, rfl⟩
     have PE := Lib.hid hev
     clear hev
     by_cases he : ev = 0
     · have BV : Hid (bkV IntKind.i64.wrap s = ⟨hh, pv, k, fun i => deV IntKind.i64.wrap (bkT s i)⟩) := by show _ = _; unfold bkV; rw [if_pos (by rw [PE.out]; exact he), VX.out, HN.out]
       subst he
       go_wp2_with (with_reducible (show wpList _ _ _ (⟨_, Op.load 64 (.tmp 5), _, _, _, _⟩ :: _) _ _); refine halt ?_)
       refine Lib.hid (ld_box rfl 64 _ rfl b5 _ rfl HG.out.2.2.1 Tryz.underlying64 rfl (by kernel_rfl) ?_)
       refine st_box rfl 64 _ _ rfl b2 _ [.int .i64 hh, .string pv, .slice a k c] rfl rfl HG.out.2.1 rfl (by kernel_rfl) (one3 rfl rfl rfl) ?_
       intro w19 B9 c9
       have HL : Hid ((loadVar 64 ⟨b2, 0, none⟩).run Tryz.prog w19 = .ok (.agg #[.int .i64 hh, .string pv, .slice a k c]) w19) := B9.load _ Tryz.underlying64 rfl (by kernel_rfl)
       have T9 : Hid (TL w19 a k G) := HG.out.2.2.2 w19 c9
       have Q9 : Hid (Q W w19) := (HG.out.1.box c9 DD.out.w2 DD.out.n1).ch.q (Q.refl W) DD.out.wg
       clear B9 c9 HG
       go_wp2_with fail
       (try simp only [Exit.inBlock, Exit.then])
       refine bodyPost_ret (results_cell_tmp rfl rfl HL.out) rfl ?_
       exact ⟨⟨hh, pv, k, G, a, c⟩, by rw [PE.out]; rfl, T9.out, KO.out, by rw [BV.out]; exact ⟨rfl, rfl, rfl, fun i hi => SV.out i hi⟩, Q9.out⟩
     · have BV : Hid (bkV IntKind.i64.wrap s = BK.zero) := by show _ = _; unfold bkV; rw [if_neg (by rw [PE.out]; exact he)]
       have t1 : (ev == 0) = false := by simpa using he
       have t2 : (ev != 0) = true := by simpa using he
       have t3 : decide (ev = 0) = false := by simpa using he
       go_wp2_with (with_reducible (show wpList _ _ _ (⟨_, Op.build 64 _, _, _, _, _⟩ :: _) _ _); refine halt ?_)
       refine Lib.hid (wpl_bkz rfl rfl _ rfl ?_)
       go_wp2_with (with_reducible (show wpList _ _ _ (⟨_, Op.store 64 _ _, _, _, _, _⟩ :: _) _ _); refine halt ?_)
       refine Lib.hid (st_box rfl 64 _ _ rfl b2 _ [.int .i64 0, .string ⟨#[]⟩, .slice none 0 0] rfl rfl HG.out.2.1 rfl (by kernel_rfl) (one3 rfl rfl rfl) ?_)
       intro w19 B9 c9
       have HL : Hid ((loadVar 64 ⟨b2, 0, none⟩).run Tryz.prog w19 = .ok (.agg #[.int .i64 0, .string ⟨#[]⟩, .slice none 0 0]) w19) := B9.load _ Tryz.underlying64 rfl (by kernel_rfl)
       have Q9 : Hid (Q W w19) := (HG.out.1.box c9 DD.out.w2 DD.out.n1).ch.q (Q.refl W) DD.out.wg
       clear B9 c9 HG
       go_wp2_with fail
       (try simp only [Exit.inBlock, Exit.then])
       refine bodyPost_ret (results_cell_tmp rfl rfl HL.out) rfl ?_
       exact ⟨⟨0, ⟨#[]⟩, 0, fun _ => ⟨TX.zero, none, 0, none, 0, none, 0⟩, none, 0⟩, by rw [PE.out]; rfl, ⟨SL.nil rfl, fun i hi => by have : i < 0 := hi; omega, fun i hi => by have : i < 0 := hi; omega⟩, ⟨⟨by decide, by decide⟩, by decide, by decide⟩, by rw [BV.out]; exact ⟨rfl, rfl, rfl, fun i hi => by have : i < 0 := hi; omega⟩, Q9.out⟩
theorem built_fb1 (v0 : ByteArray) : Tryz.prog.built 64 [(0, .int .i64 258), (1, .string v0)] = some #[.int .i64 258, .string v0, .slice none 0 0] := by kernel_rfl
theorem wpl_fb1 {ops : Array Oper} {rest : List Oper} {o : Oper} {a : Act} {w : World} {Q : Exit → Act → World → Prop} (hg : o.guard = none) {n1 : Nat} (v0 : ByteArray) (ho : o.op = .build 64 #[(0, .const (.int .i64 258)), (1, .tmp n1)]) (d : Option Tmp) (hd : o.dst = d) (h1 : a.eval (.tmp n1) = .string v0) (h : wpList Tryz.prog ops Q rest (a.put d (.agg #[.int .i64 258, .string v0, .slice none 0 0])) w) : wpList Tryz.prog ops Q (o :: rest) a w := by
 refine wpList_buildTo hg 64 _ ho d hd _ ?_ h
 simp only [List.map_toArray, List.map_cons, List.map_nil, h1]
 exact built_fb1 v0
theorem built_fb2 (v0 : ByteArray) : Tryz.prog.built 47 [(0, .int .i64 1), (1, .int .u64 1), (2, .string v0)] = some #[.int .i64 1, .int .u64 1, .string v0, .string ⟨#[]⟩, .int .i64 0, .string ⟨#[]⟩, .int .u64 0, .int .i64 0, .string ⟨#[]⟩] := by kernel_rfl
theorem wpl_fb2 {ops : Array Oper} {rest : List Oper} {o : Oper} {a : Act} {w : World} {Q : Exit → Act → World → Prop} (hg : o.guard = none) {n2 : Nat} (v0 : ByteArray) (ho : o.op = .build 47 #[(0, .const (.int .i64 1)), (1, .const (.int .u64 1)), (2, .tmp n2)]) (d : Option Tmp) (hd : o.dst = d) (h2 : a.eval (.tmp n2) = .string v0) (h : wpList Tryz.prog ops Q rest (a.put d (.agg #[.int .i64 1, .int .u64 1, .string v0, .string ⟨#[]⟩, .int .i64 0, .string ⟨#[]⟩, .int .u64 0, .int .i64 0, .string ⟨#[]⟩])) w) : wpList Tryz.prog ops Q (o :: rest) a w := by
 refine wpList_buildTo hg 47 _ ho d hd _ ?_ h
 simp only [List.map_toArray, List.map_cons, List.map_nil, h2]
 exact built_fb2 v0
theorem built_fb3 (v0 : ByteArray) : Tryz.prog.built 31 [(0, .string v0), (1, .int .i64 3)] = some #[.string v0, .int .i64 3] := by kernel_rfl
theorem built_fb4 : Tryz.prog.built 64 [] = some #[.int .i64 0, .string ⟨#[]⟩, .slice none 0 0] := by kernel_rfl
theorem eqp_same (x y : Operand) (s : ByteArray) (n : Int) (w : World) : (do eqGuard .eql 31 x y (.agg #[.string s, .int .i64 n]) (.agg #[.string s, .int .i64 n]); binOp .eql 31 (.agg #[.string s, .int .i64 n]) (.agg #[.string s, .int .i64 n]) : Sem Value).run Tryz.prog w = .ok (.bool true) w := by
 have u := Tryz.underlying31
 have us := Tryz.underlying9
 have ui := Tryz.underlying3
 have hp : Tryz.prog.stoodInHeld 31 = false := by kernel_rfl
 have hm : Tryz.prog.eqGuardType Tryz.prog.depth 31 = false := by kernel_rfl
 have ht : Tryz.prog.underlying 31 = some (.struct (Tryz.prog.fieldsOf 31)) := by kernel_rfl
 rw [Sem.run_bind, run_eqGuard_agg w .eql _ x y _ _ hm]
 show ((binOp .eql 31 (.agg #[.string s, .int .i64 n]) (.agg #[.string s, .int .i64 n])).run Tryz.prog w) = _
 rw [run_eql_struct, run_equalIn_agg w 9999 _ _ _ ht hp]
 simp [go_sem, Op.eqFields, Program.fieldsOf, u, us, ui]
def zFx (h : ByteArray) : BKI := ⟨258, h, 0, fun _ => ⟨TX.zero, none, 0, none, 0, none, 0⟩, none, 0⟩
def zZ : BKI := ⟨0, ⟨#[]⟩, 0, fun _ => ⟨TX.zero, none, 0, none, 0, none, 0⟩, none, 0⟩
theorem zFx_tl (h : ByteArray) (w : World) : (zFx h).tl w := ⟨SL.nil rfl, fun i hi => by have : i < 0 := hi; omega, fun i hi => by have : i < 0 := hi; omega⟩
theorem zFx_ok (h : ByteArray) (hz : h.size = 16) : (zFx h).ok := ⟨⟨by show (-9223372036854775808 : Int) ≤ 258; decide, by show (258 : Int) ≤ 9223372036854775807; decide⟩, by show h.size ≤ _; omega, by show 0 ≤ 100; decide⟩
theorem zFx_right (h : ByteArray) (hz : h.size = 16) : RightB (zFx h) := ⟨by show (1 : Int) ≤ 258; decide, by show (258 : Int) ≤ 4294967295; decide, hz, by show 0 ≤ 8; decide, fun i hi => by have : i < 0 := hi; omega⟩
theorem zZ_tl (w : World) : zZ.tl w := ⟨SL.nil rfl, fun i hi => by have : i < 0 := hi; omega, fun i hi => by have : i < 0 := hi; omega⟩
theorem zZ_ok : zZ.ok := ⟨⟨by decide, by decide⟩, by decide, by decide⟩
theorem zZ_right : ¬ RightB zZ := fun x => absurd x.1 (by decide)
theorem head66 : strOfNums [66] ++ putS 258 = ⟨#[66, 0, 0, 0, 0, 0, 0, 1, 2]⟩ := by rfl
theorem zFx_b (h : ByteArray) : bkB (zFx h) = ⟨#[66, 0, 0, 0, 0, 0, 0, 1, 2]⟩ ++ h ++ ⟨#[0]⟩ := by
 show strOfNums [66] ++ putS 258 ++ h ++ strOfNums [((0 : Nat) : Int)] ++ ByteArray.empty = _
 rw [head66, ByteArray.append_empty]
 rfl
def oFx (h : ByteArray) : OU := ⟨1, 1, h, ⟨#[]⟩, 0, ⟨#[]⟩, 0, 0, ⟨#[]⟩⟩
theorem Tells.t {P : Prop} {w w' : World} {e : Ending} (hP : P) (h : Tells P w e w') : e = .returned (.bool true) ∧ Q w w' := by
 obtain ⟨b, rfl, hb, q⟩ := h
 obtain rfl := hb.2 hP
 exact ⟨rfl, q⟩
theorem Tells.f {P : Prop} {w w' : World} {e : Ending} (hP : ¬ P) (h : Tells P w e w') : e = .returned (.bool false) ∧ Q w w' := by
 obtain ⟨b, rfl, hb, q⟩ := h
 cases b with
 | true => exact absurd (hb.1 rfl) hP
 | false => exact ⟨rfl, q⟩
set_option maxHeartbeats 40000000 in
theorem bfixed_x {w0 : World} (hG : GL w0) : Calls Tryz.prog 40 #[] w0 fun e w' => e = .returned (.bool true) ∧ Q w0 w' := by
 obtain ⟨h, hh⟩ : ∃ h, h16 = h := ⟨_, rfl⟩
 have hh' : (⟨#[48, 49, 50, 51, 52, 53, 54, 55, 56, 57, 97, 98, 99, 100, 101, 102]⟩ : ByteArray) = h := hh
 have zh : h.size = 16 := by rw [← hh]; rfl
 obtain ⟨g1, d1⟩ : ∃ x, (⟨#[66, 0, 0, 0, 0, 0, 0, 1, 2]⟩ : ByteArray) ++ h = x := ⟨_, rfl⟩
 obtain ⟨s, d2⟩ : ∃ x, g1 ++ (⟨#[0]⟩ : ByteArray) = x := ⟨_, rfl⟩
 obtain ⟨sx, d3⟩ : ∃ x, s ++ (⟨#[120]⟩ : ByteArray) = x := ⟨_, rfl⟩
 obtain ⟨cn, d4⟩ : ∃ x, (⟨#[0, 0, 0, 0, 0, 0, 0, 1]⟩ : ByteArray) ++ h = x := ⟨_, rfl⟩
 have zg1 : g1.size = 25 := by rw [← d1, ByteArray.size_append, zh]; rfl
 have zs : s.size = 26 := by rw [← d2, ByteArray.size_append, zg1]; rfl
 have zsx : sx.size = 27 := by rw [← d3, ByteArray.size_append, zs]; rfl
 have zcn : cn.size = 24 := by rw [← d4, ByteArray.size_append, zh]; rfl
 have eB : bkB (zFx h) = s := by rw [zFx_b, d1, d2]
 have eK : bkK (zFx h).bk = s := eB
 obtain ⟨k1, k2⟩ := bk_ok small_wrap (zFx h).bk (zFx_right h zh) (fun i hi => by have : i < 0 := hi; omega)
 have k3 := bk_more small_wrap (zFx h).bk (zFx_right h zh) (fun i hi => by have : i < 0 := hi; omega) ⟨#[120]⟩ (by decide)
 rw [eK] at k1 k2 k3
 rw [d3] at k3
 have E1 := Lib.hid k1
 have E2 := Lib.hid k2
 have E3 := Lib.hid k3
 have E4 : Hid (bkE IntKind.i64.wrap (⟨#[]⟩ : ByteArray) = 3) := bk_empty
 have E5 : Hid (bkE IntKind.i64.wrap (⟨#[67]⟩ : ByteArray) = 4) := bk_67
 have EB := Lib.hid eB
 have HG := Lib.hid hG
 have ENC : Hid (∀ w, Calls Tryz.prog 33 #[.agg #[.int .i64 258, .string h, .slice none 0 0]] w fun e w' => e = .returned (.string s) ∧ Q w w') := fun w => by
  rw [← EB.out]
  exact (bencode_x (zFx h) w (zFx_tl h w) (zFx_ok h zh)).mono fun e w' he => he.v (zFx_right h zh)
 clear k1 k2 k3 eB eK hh hG
 have D1 := Lib.hid d1
 have D2 := Lib.hid d2
 have D3 := Lib.hid d3
 have D4 := Lib.hid d4
 clear d1 d2 d4
 have x120 : s.size + (⟨#[120]⟩ : ByteArray).size ≤ 140737488355328 := by rw [zs]; decide
 go_enter Tryz.func40, Tryz.ntmps40
 go_wp2_with (with_reducible (show wpList _ _ _ (⟨_, Op.build 64 _, _, _, _, _⟩ :: _) _ _); refine halt ?_)
 rw [hh']
 clear hh'
 refine Lib.hid (wpl_fb1 rfl h rfl _ rfl rfl ?_)
 refine wpList_allocZ rfl 64 rfl #[.int .i64 0, .string ⟨#[]⟩, .slice none 0 0] zeroBk ?_
 refine st_box rfl 64 _ _ rfl w0.heap.size _ [.int .i64 258, .string h, .slice none 0 0] rfl rfl (Box.new w0 [.int .i64 0, .string ⟨#[]⟩, .slice none 0 0] 64) rfl (by kernel_rfl) (one3 rfl rfl rfl) ?_
 intro w1 B1 c1
 have Q1 : Hid (Q w0 w1) := c1.q ((Q.refl w0).alloc _) (Nat.le_refl _)
 have BA := Lib.hid B1
 clear c1 B1
 obtain ⟨bA, hbA⟩ : ∃ b, w0.heap.size = b := ⟨_, rfl⟩
 rw [hbA] at BA ⊢
 clear hbA
 refine wpList_nil ?_
 go_wp2_with (with_reducible (show wpList _ _ _ (⟨_, Op.load 64 (.tmp 2), _, _, _, _⟩ :: _) _ _); refine halt ?_)
 refine Lib.hid (ld_box rfl 64 _ rfl bA _ rfl BA.out Tryz.underlying64 rfl (by kernel_rfl) ?_)
 go_wp2_with fail
 refine (ENC.out _).mono ?_
 rintro e w2 ⟨rfl, q2⟩
 have BA2 := Lib.hid (BA.out.q q2)
 have Q2 := Lib.hid (Q1.out.trans q2)
 clear BA Q1 q2 ENC
 as_aux_lemma =>
 go_wp2_with fail
 refine (bdecode_x s (by omega) _).mono ?_
 rintro r u1 ⟨z1, rfl, tl1, ok1, is1, q1⟩
 rw [E1.out]
 go_wp2_with (with_reducible (show wpList _ _ _ (⟨_, Op.alloc 64, _, _, _, _⟩ :: _) _ _); refine halt ?_)
 refine wpList_allocZ rfl 64 rfl #[.int .i64 0, .string ⟨#[]⟩, .slice none 0 0] zeroBk ?_
 refine st_box rfl 64 _ _ rfl u1.heap.size _ [.int .i64 z1.h, .string z1.prev, .slice z1.a z1.n z1.c] rfl rfl (Box.new u1 [.int .i64 0, .string ⟨#[]⟩, .slice none 0 0] 64) rfl (by kernel_rfl) (one3 rfl rfl rfl) ?_
 intro v1 X1 c1
 have qq1 : Q u1 v1 := c1.q ((Q.refl u1).alloc _) (Nat.le_refl _)
 have qa1 := q1.trans qq1
 have BA3 := Lib.hid (BA2.out.q qa1)
 have Q3 := Lib.hid (Q2.out.trans qa1)
 have BB3 := Lib.hid X1
 have TL3 := Lib.hid (tl1.q qq1)
 have OK1 := Lib.hid ok1
 have IS1 := Lib.hid is1
 clear BA2 Q2 X1 tl1 ok1 is1 c1 q1 qq1 qa1
 obtain ⟨bB, hbB⟩ : ∃ b, u1.heap.size = b := ⟨_, rfl⟩
 rw [hbB] at BB3 ⊢
 clear hbB
 as_aux_lemma =>
 go_wp2_with fail
 refine (bdecode_x sx (by omega) _).mono ?_
 rintro r u2 ⟨z2, rfl, tl2, ok2, is2, q2⟩
 rw [E3.out]
 go_wp2_with (with_reducible (show wpList _ _ _ (⟨_, Op.alloc 64, _, _, _, _⟩ :: _) _ _); refine halt ?_)
 refine wpList_allocZ rfl 64 rfl #[.int .i64 0, .string ⟨#[]⟩, .slice none 0 0] zeroBk ?_
 refine st_box rfl 64 _ _ rfl u2.heap.size _ [.int .i64 z2.h, .string z2.prev, .slice z2.a z2.n z2.c] rfl rfl (Box.new u2 [.int .i64 0, .string ⟨#[]⟩, .slice none 0 0] 64) rfl (by kernel_rfl) (one3 rfl rfl rfl) ?_
 intro v2 X2 c2
 have qq2 : Q u2 v2 := c2.q ((Q.refl u2).alloc _) (Nat.le_refl _)
 have qa2 := q2.trans qq2
 have BA4 := Lib.hid (BA3.out.q qa2)
 have Q4 := Lib.hid (Q3.out.trans qa2)
 have BB4 := Lib.hid (BB3.out.q qa2)
 have TL4 := Lib.hid (TL3.out.q qa2)
 clear BA3 Q3 BB3 TL3 X2 tl2 ok2 is2 c2 q2 qq2 qa2
 generalize u2.heap.size = b6 at *
 as_aux_lemma =>
 go_wp2_with fail
 refine (bdecode_x ⟨#[]⟩ (by decide) _).mono ?_
 rintro r u3 ⟨z3, rfl, tl3, ok3, is3, q3⟩
 rw [E4.out]
 go_wp2_with (with_reducible (show wpList _ _ _ (⟨_, Op.alloc 64, _, _, _, _⟩ :: _) _ _); refine halt ?_)
 refine wpList_allocZ rfl 64 rfl #[.int .i64 0, .string ⟨#[]⟩, .slice none 0 0] zeroBk ?_
 refine st_box rfl 64 _ _ rfl u3.heap.size _ [.int .i64 z3.h, .string z3.prev, .slice z3.a z3.n z3.c] rfl rfl (Box.new u3 [.int .i64 0, .string ⟨#[]⟩, .slice none 0 0] 64) rfl (by kernel_rfl) (one3 rfl rfl rfl) ?_
 intro v3 X3 c3
 have qq3 : Q u3 v3 := c3.q ((Q.refl u3).alloc _) (Nat.le_refl _)
 have qa3 := q3.trans qq3
 have BA5 := Lib.hid (BA4.out.q qa3)
 have Q5 := Lib.hid (Q4.out.trans qa3)
 have BB5 := Lib.hid (BB4.out.q qa3)
 have TL5 := Lib.hid (TL4.out.q qa3)
 clear BA4 Q4 BB4 TL4 X3 tl3 ok3 is3 c3 q3 qq3 qa3
 generalize u3.heap.size = b8 at *
 as_aux_lemma =>
 go_wp2_with fail
 refine (bdecode_x ⟨#[67]⟩ (by decide) _).mono ?_
 rintro r u4 ⟨z4, rfl, tl4, ok4, is4, q4⟩
 rw [E5.out]
 go_wp2_with (with_reducible (show wpList _ _ _ (⟨_, Op.alloc 64, _, _, _, _⟩ :: _) _ _); refine halt ?_)
 refine wpList_allocZ rfl 64 rfl #[.int .i64 0, .string ⟨#[]⟩, .slice none 0 0] zeroBk ?_
 refine st_box rfl 64 _ _ rfl u4.heap.size _ [.int .i64 z4.h, .string z4.prev, .slice z4.a z4.n z4.c] rfl rfl (Box.new u4 [.int .i64 0, .string ⟨#[]⟩, .slice none 0 0] 64) rfl (by kernel_rfl) (one3 rfl rfl rfl) ?_
 intro v4 X4 c4
 have qq4 : Q u4 v4 := c4.q ((Q.refl u4).alloc _) (Nat.le_refl _)
 have qa4 := q4.trans qq4
 have BA6 := Lib.hid (BA5.out.q qa4)
 have Q6 := Lib.hid (Q5.out.trans qa4)
 have BB6 := Lib.hid (BB5.out.q qa4)
 have TL6 := Lib.hid (TL5.out.q qa4)
 clear BA5 Q5 BB5 TL5 X4 tl4 ok4 is4 c4 q4 qq4 qa4
 generalize u4.heap.size = b10 at *
 as_aux_lemma =>
 go_wp2_with (with_reducible (show wpList _ _ _ (⟨_, Op.build 47 _, _, _, _, _⟩ :: _) _ _); refine halt ?_)
 refine Lib.hid (wpl_fb2 rfl h rfl _ rfl rfl ?_)
 refine wpr_out rfl 1 1 h ⟨#[]⟩ 0 ⟨#[]⟩ 0 0 ⟨#[]⟩ rfl rfl ?_
 have qb : Q v4 (v4.alloc (.cells #[.int .i64 1, .int .u64 1, .string h, .string ⟨#[]⟩, .int .i64 0, .string ⟨#[]⟩, .int .u64 0, .int .i64 0, .string ⟨#[]⟩] 47)) := (Q.refl v4).alloc _
 have RL : Hid (SL OU.cells 9 (v4.alloc (.cells #[.int .i64 1, .int .u64 1, .string h, .string ⟨#[]⟩, .int .i64 0, .string ⟨#[]⟩, .int .u64 0, .int .i64 0, .string ⟨#[]⟩] 47)) (some ⟨v4.heap.size, 0, none⟩) 1 (fun _ => oFx h)) := .inr ⟨v4.heap.size, 0, rfl, fun i hi j v hv => by
  obtain rfl : i = 0 := by omega
  rw [World.cell?_alloc_at _ _ _ _ rfl]
  unfold OU.cells oFx at hv
  simpa using hv⟩
 have BA7 := Lib.hid (BA6.out.q qb)
 have Q7 := Lib.hid (Q6.out.trans qb)
 have BB7 := Lib.hid (BB6.out.q qb)
 have TL7 := Lib.hid (TL6.out.q qb)
 clear BA6 Q6 BB6 TL6 qb
 generalize v4.alloc (.cells #[.int .i64 1, .int .u64 1, .string h, .string ⟨#[]⟩, .int .i64 0, .string ⟨#[]⟩, .int .u64 0, .int .i64 0, .string ⟨#[]⟩] 47) = w7 at *
 obtain ⟨bl, hbl⟩ : ∃ b, v4.heap.size = b := ⟨_, rfl⟩
 rw [hbl] at RL ⊢
 clear hbl
 as_aux_lemma =>
 go_wp2_with fail
 have HY : Hid (∀ i, i < 1 → U64 ((fun _ : Nat => oFx h) i).amount ∧ ((fun _ : Nat => oFx h) i).key.size ≤ 2000) := fun i hi => ⟨⟨by show (0 : Int) ≤ 1; omega, by show (1 : Int) ≤ 18446744073709551615; omega⟩, by show h.size ≤ 2000; omega⟩
 obtain ⟨ff, hff⟩ : ∃ x, fstS 1 (fun _ => oFx h) = x := ⟨_, rfl⟩
 refine (begin_x (some ⟨bl, 0, none⟩) 1 1 (fun _ => oFx h) 3 _ (HG.out.q Q7.out) RL.out (by decide) HY.out).mono ?_
 rw [hff]
 rintro e w8 ⟨rfl, q8⟩
 go_wp2_with (with_reducible (show wpList _ _ _ (⟨_, Op.alloc 31, _, _, _, _⟩ :: _) _ _); refine halt ?_)
 refine wpList_allocZ rfl 31 rfl #[.string ⟨#[]⟩, .int .i64 0] zeroPt ?_
 refine st_box rfl 31 _ _ rfl w8.heap.size _ [.string ff, .int .i64 3] rfl rfl (Box.new w8 [.string ⟨#[]⟩, .int .i64 0] 31) rfl (by kernel_rfl) (fun v hv => by simp at hv; rcases hv with rfl | rfl <;> rfl) ?_
 intro w9 B9 c9
 have qc := q8.trans (c9.q ((Q.refl w8).alloc _) (Nat.le_refl _) : Q w8 w9)
 have BA9 := Lib.hid (BA7.out.q qc)
 have Q9 := Lib.hid (Q7.out.trans qc)
 have BB9 := Lib.hid (BB7.out.q qc)
 have TL9 := Lib.hid (TL7.out.q qc)
 have RL9 := Lib.hid (RL.out.q qc)
 have BP9 := Lib.hid B9
 clear BA7 Q7 BB7 TL7 RL B9 c9 q8 qc
 generalize w8.heap.size = bP at *
 refine wpList_nil ?_
 obtain ⟨ii, hii⟩ : ∃ x, bidS (zFx h) = x := ⟨_, rfl⟩
 have HI : Hid (tagS wBlock (tri ⟨#[0, 0, 0, 0, 0, 0, 1, 2]⟩ h ⟨#[]⟩) 3 = ii) := by show _ = _; rw [← hii]; rfl
 have HF : Hid (tagS wFirst (fun _ => cn) 1 = ff) := by
  show _ = _
  rw [← hff, ← D4.out]
  show _ = tagS wFirst (fun _ => ByteArray.empty ++ (putS 1 ++ h)) 1
  rw [ByteArray.empty_append]
  rfl
 have SB_ : Hid (SamB (zFx h) z1) := by
  obtain ⟨i1, i2, i3, i4⟩ := IS1.out
  obtain ⟨e1, e2, e3, e4⟩ := E2.out
  exact ⟨by rw [i1]; exact e1.symm, by rw [i2]; exact e2.symm, by rw [i3]; exact e3.symm, fun i hi => by have : i < 0 := hi; omega⟩
 have SAME : Hid (∀ w, Q w9 w → Calls Tryz.prog 35 #[.agg #[.int .i64 258, .string h, .slice none 0 0], .agg #[.int .i64 z1.h, .string z1.prev, .slice z1.a z1.n z1.c]] w fun e w' => e = .returned (.bool true) ∧ Q w w') := fun w q => (bsame_x (zFx h) z1 w (zFx_tl h w) (TL9.out.q q) (by show 0 ≤ 100; decide) OK1.out.n).mono fun e w' he => he.t SB_.out
 have BID : Hid (∀ w, Q w9 w → Calls Tryz.prog 31 #[.agg #[.int .i64 258, .string h, .slice none 0 0]] w fun e w' => e = .returned (.string ii) ∧ Q w w') := fun w q => by
  rw [← hii]
  exact (bid_x (zFx h) w (HG.out.q (Q9.out.trans q)) (zFx_tl h w) (zFx_ok h zh)).mono fun e w' he => he.v (zFx_right h zh)
 have RGT : Hid (∀ w, Calls Tryz.prog 28 #[.agg #[.int .i64 258, .string h, .slice none 0 0]] w fun e w' => e = .returned (.bool true) ∧ Q w w') := fun w => (bright_x (zFx h) w (zFx_tl h w) (zFx_ok h zh)).mono fun e w' he => he.t (zFx_right h zh)
 have RGZ : Hid (∀ w, Calls Tryz.prog 28 #[.agg #[.int .i64 0, .string ⟨#[]⟩, .slice none 0 0]] w fun e w' => e = .returned (.bool false) ∧ Q w w') := fun w => (bright_x zZ w (zZ_tl w) zZ_ok).mono fun e w' he => he.f zZ_right
 have IDZ : Hid (∀ w, Q w9 w → Calls Tryz.prog 31 #[.agg #[.int .i64 0, .string ⟨#[]⟩, .slice none 0 0]] w fun e w' => e = .returned (.string ⟨#[]⟩) ∧ Q w w') := fun w q => (bid_x zZ w (HG.out.q (Q9.out.trans q)) (zZ_tl w) zZ_ok).mono fun e w' he => he.n zZ_right
 have FST : Hid (∀ w, Q w9 w → Calls Tryz.prog 37 #[.slice (some ⟨bl, 0, none⟩) 1 1] w fun e w' => e = .returned (.string ff) ∧ Q w w') := fun w q => by
  rw [← hff]
  exact first_x (some ⟨bl, 0, none⟩) 1 1 (fun _ => oFx h) w (HG.out.q (Q9.out.trans q)) (RL9.out.q q) (by decide) HY.out
 clear hii hff HY SB_ IS1 OK1 E1 E2 E3 E4 E5 EB
 have zp8 : (⟨#[0, 0, 0, 0, 0, 0, 1, 2]⟩ : ByteArray).size ≤ 1000000 := by decide
 as_aux_lemma =>
 go_wp2_with fail
 have hS0 : Q w9 w9.drew := (Q.refl w9).drew
 refine region_gen3 ?_
 intro OPS QQ A0 hO hQQ hA
 have hz : A0.tmps.size = 106 := by rw [hA]; rfl
 have hs : sound OPS A0.tmps.size = true := by rw [hz, hO]; kernel_rfl
 have b_1 : A0.eval (.tmp 1) = .string h := by rw [hA]; rfl
 have fr_1 : free OPS 1 = true := by rw [hO]; kernel_rfl
 have b_2 : A0.eval (.tmp 2) = .pointer (some ⟨bA, 0, none⟩) := by rw [hA]; rfl
 have fr_2 : free OPS 2 = true := by rw [hO]; kernel_rfl
 have b_3 : A0.eval (.tmp 3) = .string s := by rw [hA]; rfl
 have fr_3 : free OPS 3 = true := by rw [hO]; kernel_rfl
 have b_4 : A0.eval (.tmp 4) = .pointer (some ⟨bB, 0, none⟩) := by rw [hA]; rfl
 have fr_4 : free OPS 4 = true := by rw [hO]; kernel_rfl
 have b_5 : A0.eval (.tmp 5) = .int .i64 0 := by rw [hA]; rfl
 have fr_5 : free OPS 5 = true := by rw [hO]; kernel_rfl
 have b_7 : A0.eval (.tmp 7) = .int .i64 4 := by rw [hA]; rfl
 have fr_7 : free OPS 7 = true := by rw [hO]; kernel_rfl
 have b_9 : A0.eval (.tmp 9) = .int .i64 3 := by rw [hA]; rfl
 have fr_9 : free OPS 9 = true := by rw [hO]; kernel_rfl
 have b_11 : A0.eval (.tmp 11) = .int .i64 4 := by rw [hA]; rfl
 have fr_11 : free OPS 11 = true := by rw [hO]; kernel_rfl
 have b_12 : A0.eval (.tmp 12) = .slice (some ⟨bl, 0, none⟩) 1 1 := by rw [hA]; rfl
 have fr_12 : free OPS 12 = true := by rw [hO]; kernel_rfl
 have b_13 : A0.eval (.tmp 13) = .pointer (some ⟨bP, 0, none⟩) := by rw [hA]; rfl
 have fr_13 : free OPS 13 = true := by rw [hO]; kernel_rfl
 obtain ⟨VV, hVV⟩ : ∃ V : Nat → Value → World → Prop, V = fun i => ([fun v _ => v = .string s, fun v _ => v = .string h, fun v _ => v = .string g1, fun v _ => v = .string s, fun v _ => v = .bool true, fun v _ => v = .bool true, fun v _ => v = .agg #[.int .i64 258, .string h, .slice none 0 0], fun v _ => v = .agg #[.int .i64 z1.h, .string z1.prev, .slice z1.a z1.n z1.c], fun v _ => v = .bool true, fun v _ => v = .bool true, fun v _ => v = .bool true, fun v _ => v = .int .i64 0, fun v _ => v = .bool true, fun v _ => v = .bool true, fun v _ => v = .bool true, fun v _ => v = .int .i64 4, fun v _ => v = .bool true, fun v _ => v = .bool true, fun v _ => v = .bool true, fun v _ => v = .int .i64 3, fun v _ => v = .bool true, fun v _ => v = .bool true, fun v _ => v = .bool true, fun v _ => v = .int .i64 4, fun v _ => v = .bool true, fun v _ => v = .bool true, fun v _ => v = .bool true, fun v _ => v = .agg #[.int .i64 258, .string h, .slice none 0 0], fun v _ => v = .string ii, fun v _ => v = .string h, fun v w => ∃ wB : World, v = .slice (some ⟨wB.heap.size, 0, none⟩) 3 3 ∧ Q (wB.alloc (.cells #[.string ⟨#[0, 0, 0, 0, 0, 0, 1, 2]⟩, .string h, .string ⟨#[]⟩] 9)) w, fun v _ => v = .string ii, fun v _ => v = .bool true, fun v _ => v = .bool true, fun v _ => v = .bool true, fun v _ => v = .agg #[.int .i64 258, .string h, .slice none 0 0], fun v _ => v = .bool true, fun v _ => v = .bool true, fun v _ => v = .bool true, fun v _ => v = .agg #[.int .i64 0, .string ⟨#[]⟩, .slice none 0 0], fun v _ => v = .bool false, fun v _ => v = .bool true, fun v _ => v = .bool true, fun v _ => v = .bool true, fun v _ => v = .agg #[.int .i64 0, .string ⟨#[]⟩, .slice none 0 0], fun v _ => v = .string ⟨#[]⟩, fun v _ => v = .bool true, fun v _ => v = .bool true, fun v _ => v = .bool true, fun v _ => v = .slice (some ⟨bl, 0, none⟩) 1 1, fun v _ => v = .string ff, fun v _ => v = .string h, fun v _ => v = .string cn, fun v w => ∃ wB : World, v = .slice (some ⟨wB.heap.size, 0, none⟩) 1 1 ∧ Q (wB.alloc (.cells #[.string cn] 9)) w, fun v _ => v = .string ff, fun v _ => v = .bool true, fun v _ => v = .bool true, fun v _ => v = .bool true, fun v _ => v = .agg #[.string ff, .int .i64 3], fun v _ => v = .slice (some ⟨bl, 0, none⟩) 1 1, fun v _ => v = .string ff, fun v _ => v = .agg #[.string ff, .int .i64 3], fun v _ => v = .bool true, fun v _ => v = .bool true, fun v _ => v = .bool true] : List (Value → World → Prop)).getD i (fun _ _ => True) := ⟨_, rfl⟩
 have v_0 : VV 0 = fun v _ => v = .string s := vat hVV 0
 have v_1 : VV 1 = fun v _ => v = .string h := vat hVV 1
 have v_2 : VV 2 = fun v _ => v = .string g1 := vat hVV 2
 have v_3 : VV 3 = fun v _ => v = .string s := vat hVV 3
 have v_4 : VV 4 = fun v _ => v = .bool true := vat hVV 4
 have v_5 : VV 5 = fun v _ => v = .bool true := vat hVV 5
 have v_6 : VV 6 = fun v _ => v = .agg #[.int .i64 258, .string h, .slice none 0 0] := vat hVV 6
 have v_7 : VV 7 = fun v _ => v = .agg #[.int .i64 z1.h, .string z1.prev, .slice z1.a z1.n z1.c] := vat hVV 7
 have v_8 : VV 8 = fun v _ => v = .bool true := vat hVV 8
 have v_9 : VV 9 = fun v _ => v = .bool true := vat hVV 9
 have v_10 : VV 10 = fun v _ => v = .bool true := vat hVV 10
 have v_11 : VV 11 = fun v _ => v = .int .i64 0 := vat hVV 11
 have v_12 : VV 12 = fun v _ => v = .bool true := vat hVV 12
 have v_13 : VV 13 = fun v _ => v = .bool true := vat hVV 13
 have v_14 : VV 14 = fun v _ => v = .bool true := vat hVV 14
 have v_15 : VV 15 = fun v _ => v = .int .i64 4 := vat hVV 15
 have v_16 : VV 16 = fun v _ => v = .bool true := vat hVV 16
 have v_17 : VV 17 = fun v _ => v = .bool true := vat hVV 17
 have v_18 : VV 18 = fun v _ => v = .bool true := vat hVV 18
 have v_19 : VV 19 = fun v _ => v = .int .i64 3 := vat hVV 19
 have v_20 : VV 20 = fun v _ => v = .bool true := vat hVV 20
 have v_21 : VV 21 = fun v _ => v = .bool true := vat hVV 21
 have v_22 : VV 22 = fun v _ => v = .bool true := vat hVV 22
 have v_23 : VV 23 = fun v _ => v = .int .i64 4 := vat hVV 23
 have v_24 : VV 24 = fun v _ => v = .bool true := vat hVV 24
 have v_25 : VV 25 = fun v _ => v = .bool true := vat hVV 25
 have v_26 : VV 26 = fun v _ => v = .bool true := vat hVV 26
 have v_27 : VV 27 = fun v _ => v = .agg #[.int .i64 258, .string h, .slice none 0 0] := vat hVV 27
 have v_28 : VV 28 = fun v _ => v = .string ii := vat hVV 28
 have v_29 : VV 29 = fun v _ => v = .string h := vat hVV 29
 have v_30 : VV 30 = fun v w => ∃ wB : World, v = .slice (some ⟨wB.heap.size, 0, none⟩) 3 3 ∧ Q (wB.alloc (.cells #[.string ⟨#[0, 0, 0, 0, 0, 0, 1, 2]⟩, .string h, .string ⟨#[]⟩] 9)) w := vat hVV 30
 have v_31 : VV 31 = fun v _ => v = .string ii := vat hVV 31
 have v_32 : VV 32 = fun v _ => v = .bool true := vat hVV 32
 have v_33 : VV 33 = fun v _ => v = .bool true := vat hVV 33
 have v_34 : VV 34 = fun v _ => v = .bool true := vat hVV 34
 have v_35 : VV 35 = fun v _ => v = .agg #[.int .i64 258, .string h, .slice none 0 0] := vat hVV 35
 have v_36 : VV 36 = fun v _ => v = .bool true := vat hVV 36
 have v_37 : VV 37 = fun v _ => v = .bool true := vat hVV 37
 have v_38 : VV 38 = fun v _ => v = .bool true := vat hVV 38
 have v_39 : VV 39 = fun v _ => v = .agg #[.int .i64 0, .string ⟨#[]⟩, .slice none 0 0] := vat hVV 39
 have v_40 : VV 40 = fun v _ => v = .bool false := vat hVV 40
 have v_41 : VV 41 = fun v _ => v = .bool true := vat hVV 41
 have v_42 : VV 42 = fun v _ => v = .bool true := vat hVV 42
 have v_43 : VV 43 = fun v _ => v = .bool true := vat hVV 43
 have v_44 : VV 44 = fun v _ => v = .agg #[.int .i64 0, .string ⟨#[]⟩, .slice none 0 0] := vat hVV 44
 have v_45 : VV 45 = fun v _ => v = .string ⟨#[]⟩ := vat hVV 45
 have v_46 : VV 46 = fun v _ => v = .bool true := vat hVV 46
 have v_47 : VV 47 = fun v _ => v = .bool true := vat hVV 47
 have v_48 : VV 48 = fun v _ => v = .bool true := vat hVV 48
 have v_49 : VV 49 = fun v _ => v = .slice (some ⟨bl, 0, none⟩) 1 1 := vat hVV 49
 have v_50 : VV 50 = fun v _ => v = .string ff := vat hVV 50
 have v_51 : VV 51 = fun v _ => v = .string h := vat hVV 51
 have v_52 : VV 52 = fun v _ => v = .string cn := vat hVV 52
 have v_53 : VV 53 = fun v w => ∃ wB : World, v = .slice (some ⟨wB.heap.size, 0, none⟩) 1 1 ∧ Q (wB.alloc (.cells #[.string cn] 9)) w := vat hVV 53
 have v_54 : VV 54 = fun v _ => v = .string ff := vat hVV 54
 have v_55 : VV 55 = fun v _ => v = .bool true := vat hVV 55
 have v_56 : VV 56 = fun v _ => v = .bool true := vat hVV 56
 have v_57 : VV 57 = fun v _ => v = .bool true := vat hVV 57
 have v_58 : VV 58 = fun v _ => v = .agg #[.string ff, .int .i64 3] := vat hVV 58
 have v_59 : VV 59 = fun v _ => v = .slice (some ⟨bl, 0, none⟩) 1 1 := vat hVV 59
 have v_60 : VV 60 = fun v _ => v = .string ff := vat hVV 60
 have v_61 : VV 61 = fun v _ => v = .agg #[.string ff, .int .i64 3] := vat hVV 61
 have v_62 : VV 62 = fun v _ => v = .bool true := vat hVV 62
 have v_63 : VV 63 = fun v _ => v = .bool true := vat hVV 63
 have v_64 : VV 64 = fun v _ => v = .bool true := vat hVV 64
 have hV := stable_of (T := Q) hVV ((sk (sk (sk (sk (sk (sk (sk (sk (sk (sk (sk (sk (sk (sk (sk (sk (sk (sk (sk (sk (sk (sk (sk (sk (sk (sk (sk (sk (sk (sk (sl_cons (fun _ _ _ h q => by obtain ⟨wB, h1, h2⟩ := h; exact ⟨wB, h1, h2.trans q⟩) (sk (sk (sk (sk (sk (sk (sk (sk (sk (sk (sk (sk (sk (sk (sk (sk (sk (sk (sk (sk (sk (sk (sl_cons (fun _ _ _ h q => by obtain ⟨wB, h1, h2⟩ := h; exact ⟨wB, h1, h2.trans q⟩) (sk (sk (sk (sk (sk (sk (sk (sk (sk (sk (sk trivial))))))))))))))))))))))))))))))))))))))))))))))))))))))))))))))))))
 clear hVV
 have i_0 := pget_at hO 0 rfl
 have i_1 := pget_at hO 1 rfl
 have i_2 := pget_at hO 2 rfl
 have i_3 := pget_at hO 3 rfl
 have i_4 := pget_at hO 4 rfl
 have i_5 := pget_at hO 5 rfl
 have i_6 := pget_at hO 6 rfl
 have i_7 := pget_at hO 7 rfl
 have i_8 := pget_at hO 8 rfl
 have i_9 := pget_at hO 9 rfl
 have i_10 := pget_at hO 10 rfl
 have i_11 := pget_at hO 11 rfl
 have i_12 := pget_at hO 12 rfl
 have i_13 := pget_at hO 13 rfl
 have i_14 := pget_at hO 14 rfl
 have i_15 := pget_at hO 15 rfl
 have i_16 := pget_at hO 16 rfl
 have i_17 := pget_at hO 17 rfl
 have i_18 := pget_at hO 18 rfl
 have i_19 := pget_at hO 19 rfl
 have i_20 := pget_at hO 20 rfl
 have i_21 := pget_at hO 21 rfl
 have i_22 := pget_at hO 22 rfl
 have i_23 := pget_at hO 23 rfl
 have i_24 := pget_at hO 24 rfl
 have i_25 := pget_at hO 25 rfl
 have i_26 := pget_at hO 26 rfl
 have i_27 := pget_at hO 27 rfl
 have i_28 := pget_at hO 28 rfl
 have i_29 := pget_at hO 29 rfl
 have i_30 := pget_at hO 30 rfl
 have i_31 := pget_at hO 31 rfl
 have i_32 := pget_at hO 32 rfl
 have i_33 := pget_at hO 33 rfl
 have i_34 := pget_at hO 34 rfl
 have i_35 := pget_at hO 35 rfl
 have i_36 := pget_at hO 36 rfl
 have i_37 := pget_at hO 37 rfl
 have i_38 := pget_at hO 38 rfl
 have i_39 := pget_at hO 39 rfl
 have i_40 := pget_at hO 40 rfl
 have i_41 := pget_at hO 41 rfl
 have i_42 := pget_at hO 42 rfl
 have i_43 := pget_at hO 43 rfl
 have i_44 := pget_at hO 44 rfl
 have i_45 := pget_at hO 45 rfl
 have i_46 := pget_at hO 46 rfl
 have i_47 := pget_at hO 47 rfl
 have i_48 := pget_at hO 48 rfl
 have i_49 := pget_at hO 49 rfl
 have i_50 := pget_at hO 50 rfl
 have i_51 := pget_at hO 51 rfl
 have i_52 := pget_at hO 52 rfl
 have i_53 := pget_at hO 53 rfl
 have i_54 := pget_at hO 54 rfl
 have i_55 := pget_at hO 55 rfl
 have i_56 := pget_at hO 56 rfl
 have i_57 := pget_at hO 57 rfl
 have i_58 := pget_at hO 58 rfl
 have i_59 := pget_at hO 59 rfl
 have i_60 := pget_at hO 60 rfl
 have i_61 := pget_at hO 61 rfl
 have i_62 := pget_at hO 62 rfl
 have i_63 := pget_at hO 63 rfl
 have i_64 := pget_at hO 64 rfl
 have MK17 := @Step.pure Tryz.prog OPS QQ VV Q (Q w9) A0
 have s_0 := MK17 i_0 (.string s) (Q.refl ·) (fun l a w hI hl => ⟨wanted_none rfl, ex_move rfl ((hI.base 3 fr_3).trans b_3), at_mk v_0 rfl⟩)
 have s_1 := MK17 i_1 (.string h) (Q.refl ·) (fun l a w hI hl => ⟨wanted_none rfl, ex_move rfl ((hI.base 1 fr_1).trans b_1), at_mk v_1 rfl⟩)
 have s_2 := MK17 i_2 (.string g1) (Q.refl ·) (fun l a w hI hl => ⟨wanted_none rfl, ex_bin rfl rfl (at_eq v_1 (hI.at_ 1 43 _ i_1 rfl (hl_at hl 0 rfl rfl))) (cats (by decide) (by omega) D1.out), at_mk v_2 rfl⟩)
 have s_3 := MK17 i_3 (.string s) (Q.refl ·) (fun l a w hI hl => ⟨wanted_none rfl, ex_bin rfl (at_eq v_2 (hI.at_ 2 44 _ i_2 rfl (hl_at hl 0 rfl rfl))) rfl (cats (by omega) (by decide) D2.out), at_mk v_3 rfl⟩)
 have s_4 := MK17 i_4 (.bool true) (Q.refl ·) (fun l a w hI hl => ⟨wanted_none rfl, ex_bin rfl (at_eq v_0 (hI.at_ 0 42 _ i_0 rfl (hl_at hl 0 rfl rfl))) (at_eq v_3 (hI.at_ 3 45 _ i_3 rfl (hl_at hl 1 rfl rfl))) (eqs_same _ _ _ _ _), at_mk v_4 rfl⟩)
 have s_5 := MK17 i_5 (.bool true) (Q.refl ·) (fun l a w hI hl => ⟨wanted_none rfl, ex_move rfl (at_eq v_4 (hI.at_ 4 46 _ i_4 rfl (hl_at hl 0 rfl rfl))), at_mk v_5 rfl⟩)
 have s_6 := MK17 i_6 (.agg #[.int .i64 258, .string h, .slice none 0 0]) (Q.refl ·) (fun l a w hI hl => ⟨wanted_of rfl i_5 rfl (lt_of hI hz rfl) (at_eq v_5 (hI.at_ 5 47 _ i_5 rfl (hl_at hl 0 rfl rfl))), ex_loado 64 rfl bA 0 [.int .i64 258, .string h, .slice none 0 0] _ ((hI.base 2 fr_2).trans b_2) ((BA9.out.q hI.st).rangeo 0 (r := []) rfl) Tryz.underlying64 rfl (by kernel_rfl), at_mk v_6 rfl⟩)
 have s_7 := MK17 i_7 (.agg #[.int .i64 z1.h, .string z1.prev, .slice z1.a z1.n z1.c]) (Q.refl ·) (fun l a w hI hl => ⟨wanted_of rfl i_5 rfl (lt_of hI hz rfl) (at_eq v_5 (hI.at_ 5 47 _ i_5 rfl (hl_at hl 0 rfl rfl))), ex_loado 64 rfl bB 0 [.int .i64 z1.h, .string z1.prev, .slice z1.a z1.n z1.c] _ ((hI.base 4 fr_4).trans b_4) ((BB9.out.q hI.st).rangeo 0 (r := []) rfl) Tryz.underlying64 rfl (by kernel_rfl), at_mk v_7 rfl⟩)
 have s_8 := Step.call (P := Tryz.prog) (V := VV) (T := Q) (S := (Q w9)) (a0 := A0) (Qx := QQ) (R := fun _ _ _ => True) i_8 (fun l a w hI hl => by
  refine ⟨wanted_of rfl i_5 rfl (lt_of hI hz rfl) (at_eq v_5 (hI.at_ 5 47 _ i_5 rfl (hl_at hl 2 rfl rfl))), 35, #[.agg #[.int .i64 258, .string h, .slice none 0 0], .agg #[.int .i64 z1.h, .string z1.prev, .slice z1.a z1.n z1.c]], ?_, ?_⟩
  · exact ex_call rfl (by simp only [List.map_toArray, List.map_cons, List.map_nil, ev_const, (show a.eval (.tmp 48) = _ from (at_eq v_6 (hI.at_ 6 48 _ i_6 rfl (hl_at hl 0 rfl rfl)))), (show a.eval (.tmp 49) = _ from (at_eq v_7 (hI.at_ 7 49 _ i_7 rfl (hl_at hl 1 rfl rfl))))]) Tryz.func35 (by kernel_rfl) (by kernel_rfl)
  · exact (SAME.out w hI.st).mono fun e w' hc => by
     obtain ⟨rfl, hq⟩ := hc
     exact ⟨_, rfl, hq, hI.st.trans hq, at_mk v_8 rfl⟩)
 have s_9 := MK17 i_9 (.bool true) (Q.refl ·) (fun l a w hI hl => ⟨wanted_none rfl, ex_pick_t rfl (at_eq v_5 (hI.at_ 5 47 _ i_5 rfl (hl_at hl 0 rfl rfl))) (at_eq v_8 (hI.at_ 8 50 _ i_8 rfl (hl_at hl 1 rfl rfl))), at_mk v_9 rfl⟩)
 have s_10 := MK17 i_10 (.bool true) (Q.refl ·) (fun l a w hI hl => ⟨wanted_none rfl, ex_move rfl (at_eq v_9 (hI.at_ 9 51 _ i_9 rfl (hl_at hl 0 rfl rfl))), at_mk v_10 rfl⟩)
 have s_11 := MK17 i_11 (.int .i64 0) (Q.refl ·) (fun l a w hI hl => ⟨wanted_of rfl i_10 rfl (lt_of hI hz rfl) (at_eq v_10 (hI.at_ 10 52 _ i_10 rfl (hl_at hl 0 rfl rfl))), ex_move rfl ((hI.base 5 fr_5).trans b_5), at_mk v_11 rfl⟩)
 have s_12 := MK17 i_12 (.bool true) (Q.refl ·) (fun l a w hI hl => ⟨wanted_of rfl i_10 rfl (lt_of hI hz rfl) (at_eq v_10 (hI.at_ 10 52 _ i_10 rfl (hl_at hl 1 rfl rfl))), ex_bin rfl (at_eq v_11 (hI.at_ 11 53 _ i_11 rfl (hl_at hl 0 rfl rfl))) rfl (by kernel_rfl), at_mk v_12 rfl⟩)
 have s_13 := MK17 i_13 (.bool true) (Q.refl ·) (fun l a w hI hl => ⟨wanted_none rfl, ex_pick_t rfl (at_eq v_10 (hI.at_ 10 52 _ i_10 rfl (hl_at hl 0 rfl rfl))) (at_eq v_12 (hI.at_ 12 54 _ i_12 rfl (hl_at hl 1 rfl rfl))), at_mk v_13 rfl⟩)
 have s_14 := MK17 i_14 (.bool true) (Q.refl ·) (fun l a w hI hl => ⟨wanted_none rfl, ex_move rfl (at_eq v_13 (hI.at_ 13 55 _ i_13 rfl (hl_at hl 0 rfl rfl))), at_mk v_14 rfl⟩)
 have s_15 := MK17 i_15 (.int .i64 4) (Q.refl ·) (fun l a w hI hl => ⟨wanted_of rfl i_14 rfl (lt_of hI hz rfl) (at_eq v_14 (hI.at_ 14 56 _ i_14 rfl (hl_at hl 0 rfl rfl))), ex_move rfl ((hI.base 7 fr_7).trans b_7), at_mk v_15 rfl⟩)
 have s_16 := MK17 i_16 (.bool true) (Q.refl ·) (fun l a w hI hl => ⟨wanted_of rfl i_14 rfl (lt_of hI hz rfl) (at_eq v_14 (hI.at_ 14 56 _ i_14 rfl (hl_at hl 1 rfl rfl))), ex_bin rfl (at_eq v_15 (hI.at_ 15 57 _ i_15 rfl (hl_at hl 0 rfl rfl))) rfl (by kernel_rfl), at_mk v_16 rfl⟩)
 have s_17 := MK17 i_17 (.bool true) (Q.refl ·) (fun l a w hI hl => ⟨wanted_none rfl, ex_pick_t rfl (at_eq v_14 (hI.at_ 14 56 _ i_14 rfl (hl_at hl 0 rfl rfl))) (at_eq v_16 (hI.at_ 16 58 _ i_16 rfl (hl_at hl 1 rfl rfl))), at_mk v_17 rfl⟩)
 have s_18 := MK17 i_18 (.bool true) (Q.refl ·) (fun l a w hI hl => ⟨wanted_none rfl, ex_move rfl (at_eq v_17 (hI.at_ 17 59 _ i_17 rfl (hl_at hl 0 rfl rfl))), at_mk v_18 rfl⟩)
 have s_19 := MK17 i_19 (.int .i64 3) (Q.refl ·) (fun l a w hI hl => ⟨wanted_of rfl i_18 rfl (lt_of hI hz rfl) (at_eq v_18 (hI.at_ 18 60 _ i_18 rfl (hl_at hl 0 rfl rfl))), ex_move rfl ((hI.base 9 fr_9).trans b_9), at_mk v_19 rfl⟩)
 have s_20 := MK17 i_20 (.bool true) (Q.refl ·) (fun l a w hI hl => ⟨wanted_of rfl i_18 rfl (lt_of hI hz rfl) (at_eq v_18 (hI.at_ 18 60 _ i_18 rfl (hl_at hl 1 rfl rfl))), ex_bin rfl (at_eq v_19 (hI.at_ 19 61 _ i_19 rfl (hl_at hl 0 rfl rfl))) rfl (by kernel_rfl), at_mk v_20 rfl⟩)
 have s_21 := MK17 i_21 (.bool true) (Q.refl ·) (fun l a w hI hl => ⟨wanted_none rfl, ex_pick_t rfl (at_eq v_18 (hI.at_ 18 60 _ i_18 rfl (hl_at hl 0 rfl rfl))) (at_eq v_20 (hI.at_ 20 62 _ i_20 rfl (hl_at hl 1 rfl rfl))), at_mk v_21 rfl⟩)
 have s_22 := MK17 i_22 (.bool true) (Q.refl ·) (fun l a w hI hl => ⟨wanted_none rfl, ex_move rfl (at_eq v_21 (hI.at_ 21 63 _ i_21 rfl (hl_at hl 0 rfl rfl))), at_mk v_22 rfl⟩)
 have s_23 := MK17 i_23 (.int .i64 4) (Q.refl ·) (fun l a w hI hl => ⟨wanted_of rfl i_22 rfl (lt_of hI hz rfl) (at_eq v_22 (hI.at_ 22 64 _ i_22 rfl (hl_at hl 0 rfl rfl))), ex_move rfl ((hI.base 11 fr_11).trans b_11), at_mk v_23 rfl⟩)
 have s_24 := MK17 i_24 (.bool true) (Q.refl ·) (fun l a w hI hl => ⟨wanted_of rfl i_22 rfl (lt_of hI hz rfl) (at_eq v_22 (hI.at_ 22 64 _ i_22 rfl (hl_at hl 1 rfl rfl))), ex_bin rfl (at_eq v_23 (hI.at_ 23 65 _ i_23 rfl (hl_at hl 0 rfl rfl))) rfl (by kernel_rfl), at_mk v_24 rfl⟩)
 have s_25 := MK17 i_25 (.bool true) (Q.refl ·) (fun l a w hI hl => ⟨wanted_none rfl, ex_pick_t rfl (at_eq v_22 (hI.at_ 22 64 _ i_22 rfl (hl_at hl 0 rfl rfl))) (at_eq v_24 (hI.at_ 24 66 _ i_24 rfl (hl_at hl 1 rfl rfl))), at_mk v_25 rfl⟩)
 have s_26 := MK17 i_26 (.bool true) (Q.refl ·) (fun l a w hI hl => ⟨wanted_none rfl, ex_move rfl (at_eq v_25 (hI.at_ 25 67 _ i_25 rfl (hl_at hl 0 rfl rfl))), at_mk v_26 rfl⟩)
 have s_27 := MK17 i_27 (.agg #[.int .i64 258, .string h, .slice none 0 0]) (Q.refl ·) (fun l a w hI hl => ⟨wanted_of rfl i_26 rfl (lt_of hI hz rfl) (at_eq v_26 (hI.at_ 26 68 _ i_26 rfl (hl_at hl 0 rfl rfl))), ex_loado 64 rfl bA 0 [.int .i64 258, .string h, .slice none 0 0] _ ((hI.base 2 fr_2).trans b_2) ((BA9.out.q hI.st).rangeo 0 (r := []) rfl) Tryz.underlying64 rfl (by kernel_rfl), at_mk v_27 rfl⟩)
 have s_28 := Step.call (P := Tryz.prog) (V := VV) (T := Q) (S := (Q w9)) (a0 := A0) (Qx := QQ) (R := fun _ _ _ => True) i_28 (fun l a w hI hl => by
  refine ⟨wanted_of rfl i_26 rfl (lt_of hI hz rfl) (at_eq v_26 (hI.at_ 26 68 _ i_26 rfl (hl_at hl 1 rfl rfl))), 31, #[.agg #[.int .i64 258, .string h, .slice none 0 0]], ?_, ?_⟩
  · exact ex_call rfl (by simp only [List.map_toArray, List.map_cons, List.map_nil, ev_const, (show a.eval (.tmp 69) = _ from (at_eq v_27 (hI.at_ 27 69 _ i_27 rfl (hl_at hl 0 rfl rfl))))]) Tryz.func31 (by kernel_rfl) (by kernel_rfl)
  · exact (BID.out w hI.st).mono fun e w' hc => by
     obtain ⟨rfl, hq⟩ := hc
     exact ⟨_, rfl, hq, hI.st.trans hq, at_mk v_28 rfl⟩)
 have s_29 := MK17 i_29 (.string h) (Q.refl ·) (fun l a w hI hl => ⟨wanted_of rfl i_26 rfl (lt_of hI hz rfl) (at_eq v_26 (hI.at_ 26 68 _ i_26 rfl (hl_at hl 0 rfl rfl))), ex_move rfl ((hI.base 1 fr_1).trans b_1), at_mk v_29 rfl⟩)
 have MK18 := @Step.done Tryz.prog OPS QQ VV Q (Q w9) A0
 have s_30 := MK18 i_30 (fun l a w hI hl => by
  refine ⟨wanted_of rfl i_26 rfl (lt_of hI hz rfl) (at_eq v_26 (hI.at_ 26 68 _ i_26 rfl (hl_at hl 1 rfl rfl))), ?_⟩
  refine wpo_s3 ⟨#[0, 0, 0, 0, 0, 0, 1, 2]⟩ h ⟨#[]⟩ rfl rfl (at_eq v_29 (hI.at_ 29 71 _ i_29 rfl (hl_at hl 0 rfl rfl))) rfl ?_
  exact ⟨_, rfl, (Q.refl w).alloc _, hI.st.alloc _, p_at v_30 ⟨w, rfl, Q.refl _⟩⟩)
 have s_31 := MK18 i_31 (fun l a w hI hl => by
  obtain ⟨wB, eB, qB⟩ := at_p v_30 (hI.at_ 30 72 _ i_30 rfl (hl_at hl 0 rfl rfl))
  refine ⟨wanted_of rfl i_26 rfl (lt_of hI hz rfl) (at_eq v_26 (hI.at_ 26 68 _ i_26 rfl (hl_at hl 2 rfl rfl))), ?_⟩
  refine wp_enter (f := 71) (args := #[.string wBlock, .slice (some ⟨wB.heap.size, 0, none⟩) 3 3]) ?_ ?_
  · exact ex_call rfl (by simp only [List.map_toArray, List.map_cons, List.map_nil, ev_const, eB]; rfl) Tryz.func71 (by kernel_rfl) (by kernel_rfl)
  · refine (tri_at wBlock ⟨#[0, 0, 0, 0, 0, 0, 1, 2]⟩ h ⟨#[]⟩ ii HI.out 9 wB w qB (HG.out.q (Q9.out.trans hI.st)) (by decide) zp8 (by omega) (by decide)).mono fun e w' hc => ?_
    obtain ⟨rfl, hq⟩ := hc
    exact ⟨_, rfl, hq, hI.st.trans hq, at_mk v_31 rfl⟩)
 have s_32 := MK17 i_32 (.bool true) (Q.refl ·) (fun l a w hI hl => ⟨wanted_of rfl i_26 rfl (lt_of hI hz rfl) (at_eq v_26 (hI.at_ 26 68 _ i_26 rfl (hl_at hl 2 rfl rfl))), ex_bin rfl (at_eq v_28 (hI.at_ 28 70 _ i_28 rfl (hl_at hl 0 rfl rfl))) (at_eq v_31 (hI.at_ 31 73 _ i_31 rfl (hl_at hl 1 rfl rfl))) (eqs_same _ _ _ _ _), at_mk v_32 rfl⟩)
 have s_33 := MK17 i_33 (.bool true) (Q.refl ·) (fun l a w hI hl => ⟨wanted_none rfl, ex_pick_t rfl (at_eq v_26 (hI.at_ 26 68 _ i_26 rfl (hl_at hl 0 rfl rfl))) (at_eq v_32 (hI.at_ 32 74 _ i_32 rfl (hl_at hl 1 rfl rfl))), at_mk v_33 rfl⟩)
 have s_34 := MK17 i_34 (.bool true) (Q.refl ·) (fun l a w hI hl => ⟨wanted_none rfl, ex_move rfl (at_eq v_33 (hI.at_ 33 75 _ i_33 rfl (hl_at hl 0 rfl rfl))), at_mk v_34 rfl⟩)
 have s_35 := MK17 i_35 (.agg #[.int .i64 258, .string h, .slice none 0 0]) (Q.refl ·) (fun l a w hI hl => ⟨wanted_of rfl i_34 rfl (lt_of hI hz rfl) (at_eq v_34 (hI.at_ 34 76 _ i_34 rfl (hl_at hl 0 rfl rfl))), ex_loado 64 rfl bA 0 [.int .i64 258, .string h, .slice none 0 0] _ ((hI.base 2 fr_2).trans b_2) ((BA9.out.q hI.st).rangeo 0 (r := []) rfl) Tryz.underlying64 rfl (by kernel_rfl), at_mk v_35 rfl⟩)
 have s_36 := Step.call (P := Tryz.prog) (V := VV) (T := Q) (S := (Q w9)) (a0 := A0) (Qx := QQ) (R := fun _ _ _ => True) i_36 (fun l a w hI hl => by
  refine ⟨wanted_of rfl i_34 rfl (lt_of hI hz rfl) (at_eq v_34 (hI.at_ 34 76 _ i_34 rfl (hl_at hl 1 rfl rfl))), 28, #[.agg #[.int .i64 258, .string h, .slice none 0 0]], ?_, ?_⟩
  · exact ex_call rfl (by simp only [List.map_toArray, List.map_cons, List.map_nil, ev_const, (show a.eval (.tmp 77) = _ from (at_eq v_35 (hI.at_ 35 77 _ i_35 rfl (hl_at hl 0 rfl rfl))))]) Tryz.func28 (by kernel_rfl) (by kernel_rfl)
  · exact (RGT.out w).mono fun e w' hc => by
     obtain ⟨rfl, hq⟩ := hc
     exact ⟨_, rfl, hq, hI.st.trans hq, at_mk v_36 rfl⟩)
 have s_37 := MK17 i_37 (.bool true) (Q.refl ·) (fun l a w hI hl => ⟨wanted_none rfl, ex_pick_t rfl (at_eq v_34 (hI.at_ 34 76 _ i_34 rfl (hl_at hl 0 rfl rfl))) (at_eq v_36 (hI.at_ 36 78 _ i_36 rfl (hl_at hl 1 rfl rfl))), at_mk v_37 rfl⟩)
 have s_38 := MK17 i_38 (.bool true) (Q.refl ·) (fun l a w hI hl => ⟨wanted_none rfl, ex_move rfl (at_eq v_37 (hI.at_ 37 79 _ i_37 rfl (hl_at hl 0 rfl rfl))), at_mk v_38 rfl⟩)
 have s_39 := MK17 i_39 (.agg #[.int .i64 0, .string ⟨#[]⟩, .slice none 0 0]) (Q.refl ·) (fun l a w hI hl => ⟨wanted_of rfl i_38 rfl (lt_of hI hz rfl) (at_eq v_38 (hI.at_ 38 80 _ i_38 rfl (hl_at hl 0 rfl rfl))), ex_build rfl (by simp only [List.map_toArray, List.map_cons, List.map_nil]; exact built_fb4), at_mk v_39 rfl⟩)
 have s_40 := Step.call (P := Tryz.prog) (V := VV) (T := Q) (S := (Q w9)) (a0 := A0) (Qx := QQ) (R := fun _ _ _ => True) i_40 (fun l a w hI hl => by
  refine ⟨wanted_of rfl i_38 rfl (lt_of hI hz rfl) (at_eq v_38 (hI.at_ 38 80 _ i_38 rfl (hl_at hl 1 rfl rfl))), 28, #[.agg #[.int .i64 0, .string ⟨#[]⟩, .slice none 0 0]], ?_, ?_⟩
  · exact ex_call rfl (by simp only [List.map_toArray, List.map_cons, List.map_nil, ev_const, (show a.eval (.tmp 81) = _ from (at_eq v_39 (hI.at_ 39 81 _ i_39 rfl (hl_at hl 0 rfl rfl))))]) Tryz.func28 (by kernel_rfl) (by kernel_rfl)
  · exact (RGZ.out w).mono fun e w' hc => by
     obtain ⟨rfl, hq⟩ := hc
     exact ⟨_, rfl, hq, hI.st.trans hq, at_mk v_40 rfl⟩)
 have s_41 := MK17 i_41 (.bool true) (Q.refl ·) (fun l a w hI hl => ⟨wanted_of rfl i_38 rfl (lt_of hI hz rfl) (at_eq v_38 (hI.at_ 38 80 _ i_38 rfl (hl_at hl 1 rfl rfl))), ex_un rfl (at_eq v_40 (hI.at_ 40 82 _ i_40 rfl (hl_at hl 0 rfl rfl))) (by kernel_rfl), at_mk v_41 rfl⟩)
 have s_42 := MK17 i_42 (.bool true) (Q.refl ·) (fun l a w hI hl => ⟨wanted_none rfl, ex_pick_t rfl (at_eq v_38 (hI.at_ 38 80 _ i_38 rfl (hl_at hl 0 rfl rfl))) (at_eq v_41 (hI.at_ 41 83 _ i_41 rfl (hl_at hl 1 rfl rfl))), at_mk v_42 rfl⟩)
 have s_43 := MK17 i_43 (.bool true) (Q.refl ·) (fun l a w hI hl => ⟨wanted_none rfl, ex_move rfl (at_eq v_42 (hI.at_ 42 84 _ i_42 rfl (hl_at hl 0 rfl rfl))), at_mk v_43 rfl⟩)
 have s_44 := MK17 i_44 (.agg #[.int .i64 0, .string ⟨#[]⟩, .slice none 0 0]) (Q.refl ·) (fun l a w hI hl => ⟨wanted_of rfl i_43 rfl (lt_of hI hz rfl) (at_eq v_43 (hI.at_ 43 85 _ i_43 rfl (hl_at hl 0 rfl rfl))), ex_build rfl (by simp only [List.map_toArray, List.map_cons, List.map_nil]; exact built_fb4), at_mk v_44 rfl⟩)
 have s_45 := Step.call (P := Tryz.prog) (V := VV) (T := Q) (S := (Q w9)) (a0 := A0) (Qx := QQ) (R := fun _ _ _ => True) i_45 (fun l a w hI hl => by
  refine ⟨wanted_of rfl i_43 rfl (lt_of hI hz rfl) (at_eq v_43 (hI.at_ 43 85 _ i_43 rfl (hl_at hl 1 rfl rfl))), 31, #[.agg #[.int .i64 0, .string ⟨#[]⟩, .slice none 0 0]], ?_, ?_⟩
  · exact ex_call rfl (by simp only [List.map_toArray, List.map_cons, List.map_nil, ev_const, (show a.eval (.tmp 86) = _ from (at_eq v_44 (hI.at_ 44 86 _ i_44 rfl (hl_at hl 0 rfl rfl))))]) Tryz.func31 (by kernel_rfl) (by kernel_rfl)
  · exact (IDZ.out w hI.st).mono fun e w' hc => by
     obtain ⟨rfl, hq⟩ := hc
     exact ⟨_, rfl, hq, hI.st.trans hq, at_mk v_45 rfl⟩)
 have s_46 := MK17 i_46 (.bool true) (Q.refl ·) (fun l a w hI hl => ⟨wanted_of rfl i_43 rfl (lt_of hI hz rfl) (at_eq v_43 (hI.at_ 43 85 _ i_43 rfl (hl_at hl 1 rfl rfl))), ex_bin rfl (at_eq v_45 (hI.at_ 45 87 _ i_45 rfl (hl_at hl 0 rfl rfl))) rfl (eqs_same _ _ _ _ _), at_mk v_46 rfl⟩)
 have s_47 := MK17 i_47 (.bool true) (Q.refl ·) (fun l a w hI hl => ⟨wanted_none rfl, ex_pick_t rfl (at_eq v_43 (hI.at_ 43 85 _ i_43 rfl (hl_at hl 0 rfl rfl))) (at_eq v_46 (hI.at_ 46 88 _ i_46 rfl (hl_at hl 1 rfl rfl))), at_mk v_47 rfl⟩)
 have s_48 := MK17 i_48 (.bool true) (Q.refl ·) (fun l a w hI hl => ⟨wanted_none rfl, ex_move rfl (at_eq v_47 (hI.at_ 47 89 _ i_47 rfl (hl_at hl 0 rfl rfl))), at_mk v_48 rfl⟩)
 have s_49 := MK17 i_49 (.slice (some ⟨bl, 0, none⟩) 1 1) (Q.refl ·) (fun l a w hI hl => ⟨wanted_of rfl i_48 rfl (lt_of hI hz rfl) (at_eq v_48 (hI.at_ 48 90 _ i_48 rfl (hl_at hl 0 rfl rfl))), ex_move rfl ((hI.base 12 fr_12).trans b_12), at_mk v_49 rfl⟩)
 have s_50 := Step.call (P := Tryz.prog) (V := VV) (T := Q) (S := (Q w9)) (a0 := A0) (Qx := QQ) (R := fun _ _ _ => True) i_50 (fun l a w hI hl => by
  refine ⟨wanted_of rfl i_48 rfl (lt_of hI hz rfl) (at_eq v_48 (hI.at_ 48 90 _ i_48 rfl (hl_at hl 1 rfl rfl))), 37, #[.slice (some ⟨bl, 0, none⟩) 1 1], ?_, ?_⟩
  · exact ex_call rfl (by simp only [List.map_toArray, List.map_cons, List.map_nil, ev_const, (show a.eval (.tmp 91) = _ from (at_eq v_49 (hI.at_ 49 91 _ i_49 rfl (hl_at hl 0 rfl rfl))))]) Tryz.func37 (by kernel_rfl) (by kernel_rfl)
  · exact (FST.out w hI.st).mono fun e w' hc => by
     obtain ⟨rfl, hq⟩ := hc
     exact ⟨_, rfl, hq, hI.st.trans hq, at_mk v_50 rfl⟩)
 have s_51 := MK17 i_51 (.string h) (Q.refl ·) (fun l a w hI hl => ⟨wanted_of rfl i_48 rfl (lt_of hI hz rfl) (at_eq v_48 (hI.at_ 48 90 _ i_48 rfl (hl_at hl 0 rfl rfl))), ex_move rfl ((hI.base 1 fr_1).trans b_1), at_mk v_51 rfl⟩)
 have s_52 := MK17 i_52 (.string cn) (Q.refl ·) (fun l a w hI hl => ⟨wanted_of rfl i_48 rfl (lt_of hI hz rfl) (at_eq v_48 (hI.at_ 48 90 _ i_48 rfl (hl_at hl 1 rfl rfl))), ex_bin rfl rfl (at_eq v_51 (hI.at_ 51 93 _ i_51 rfl (hl_at hl 0 rfl rfl))) (cats (by decide) (by omega) D4.out), at_mk v_52 rfl⟩)
 have s_53 := MK18 i_53 (fun l a w hI hl => by
  refine ⟨wanted_of rfl i_48 rfl (lt_of hI hz rfl) (at_eq v_48 (hI.at_ 48 90 _ i_48 rfl (hl_at hl 1 rfl rfl))), ?_⟩
  refine wpo_s1 cn rfl (at_eq v_52 (hI.at_ 52 94 _ i_52 rfl (hl_at hl 0 rfl rfl))) ?_
  exact ⟨_, rfl, (Q.refl w).alloc _, hI.st.alloc _, p_at v_53 ⟨w, rfl, Q.refl _⟩⟩)
 have s_54 := MK18 i_54 (fun l a w hI hl => by
  obtain ⟨wB, eB, qB⟩ := at_p v_53 (hI.at_ 53 95 _ i_53 rfl (hl_at hl 0 rfl rfl))
  refine ⟨wanted_of rfl i_48 rfl (lt_of hI hz rfl) (at_eq v_48 (hI.at_ 48 90 _ i_48 rfl (hl_at hl 2 rfl rfl))), ?_⟩
  refine wp_enter (f := 71) (args := #[.string wFirst, .slice (some ⟨wB.heap.size, 0, none⟩) 1 1]) ?_ ?_
  · exact ex_call rfl (by simp only [List.map_toArray, List.map_cons, List.map_nil, ev_const, eB]; rfl) Tryz.func71 (by kernel_rfl) (by kernel_rfl)
  · refine (tag1_at wFirst cn ff HF.out 9 wB w qB (HG.out.q (Q9.out.trans hI.st)) (by decide) (by omega)).mono fun e w' hc => ?_
    obtain ⟨rfl, hq⟩ := hc
    exact ⟨_, rfl, hq, hI.st.trans hq, at_mk v_54 rfl⟩)
 have s_55 := MK17 i_55 (.bool true) (Q.refl ·) (fun l a w hI hl => ⟨wanted_of rfl i_48 rfl (lt_of hI hz rfl) (at_eq v_48 (hI.at_ 48 90 _ i_48 rfl (hl_at hl 2 rfl rfl))), ex_bin rfl (at_eq v_50 (hI.at_ 50 92 _ i_50 rfl (hl_at hl 0 rfl rfl))) (at_eq v_54 (hI.at_ 54 96 _ i_54 rfl (hl_at hl 1 rfl rfl))) (eqs_same _ _ _ _ _), at_mk v_55 rfl⟩)
 have s_56 := MK17 i_56 (.bool true) (Q.refl ·) (fun l a w hI hl => ⟨wanted_none rfl, ex_pick_t rfl (at_eq v_48 (hI.at_ 48 90 _ i_48 rfl (hl_at hl 0 rfl rfl))) (at_eq v_55 (hI.at_ 55 97 _ i_55 rfl (hl_at hl 1 rfl rfl))), at_mk v_56 rfl⟩)
 have s_57 := MK17 i_57 (.bool true) (Q.refl ·) (fun l a w hI hl => ⟨wanted_none rfl, ex_move rfl (at_eq v_56 (hI.at_ 56 98 _ i_56 rfl (hl_at hl 0 rfl rfl))), at_mk v_57 rfl⟩)
 have s_58 := MK17 i_58 (.agg #[.string ff, .int .i64 3]) (Q.refl ·) (fun l a w hI hl => ⟨wanted_of rfl i_57 rfl (lt_of hI hz rfl) (at_eq v_57 (hI.at_ 57 99 _ i_57 rfl (hl_at hl 0 rfl rfl))), ex_loado 31 rfl bP 0 [.string ff, .int .i64 3] _ ((hI.base 13 fr_13).trans b_13) ((BP9.out.q hI.st).rangeo 0 (r := []) rfl) Tryz.underlying31 rfl (by kernel_rfl), at_mk v_58 rfl⟩)
 have s_59 := MK17 i_59 (.slice (some ⟨bl, 0, none⟩) 1 1) (Q.refl ·) (fun l a w hI hl => ⟨wanted_of rfl i_57 rfl (lt_of hI hz rfl) (at_eq v_57 (hI.at_ 57 99 _ i_57 rfl (hl_at hl 0 rfl rfl))), ex_move rfl ((hI.base 12 fr_12).trans b_12), at_mk v_59 rfl⟩)
 have s_60 := Step.call (P := Tryz.prog) (V := VV) (T := Q) (S := (Q w9)) (a0 := A0) (Qx := QQ) (R := fun _ _ _ => True) i_60 (fun l a w hI hl => by
  refine ⟨wanted_of rfl i_57 rfl (lt_of hI hz rfl) (at_eq v_57 (hI.at_ 57 99 _ i_57 rfl (hl_at hl 1 rfl rfl))), 37, #[.slice (some ⟨bl, 0, none⟩) 1 1], ?_, ?_⟩
  · exact ex_call rfl (by simp only [List.map_toArray, List.map_cons, List.map_nil, ev_const, (show a.eval (.tmp 101) = _ from (at_eq v_59 (hI.at_ 59 101 _ i_59 rfl (hl_at hl 0 rfl rfl))))]) Tryz.func37 (by kernel_rfl) (by kernel_rfl)
  · exact (FST.out w hI.st).mono fun e w' hc => by
     obtain ⟨rfl, hq⟩ := hc
     exact ⟨_, rfl, hq, hI.st.trans hq, at_mk v_60 rfl⟩)
 have s_61 := MK17 i_61 (.agg #[.string ff, .int .i64 3]) (Q.refl ·) (fun l a w hI hl => ⟨wanted_of rfl i_57 rfl (lt_of hI hz rfl) (at_eq v_57 (hI.at_ 57 99 _ i_57 rfl (hl_at hl 1 rfl rfl))), ex_build rfl (by simp only [List.map_toArray, List.map_cons, List.map_nil, (show a.eval (.tmp 102) = _ from (at_eq v_60 (hI.at_ 60 102 _ i_60 rfl (hl_at hl 0 rfl rfl))))]; exact built_fb3 ff), at_mk v_61 rfl⟩)
 have s_62 := MK17 i_62 (.bool true) (Q.refl ·) (fun l a w hI hl => ⟨wanted_of rfl i_57 rfl (lt_of hI hz rfl) (at_eq v_57 (hI.at_ 57 99 _ i_57 rfl (hl_at hl 2 rfl rfl))), ex_bin rfl (at_eq v_58 (hI.at_ 58 100 _ i_58 rfl (hl_at hl 0 rfl rfl))) (at_eq v_61 (hI.at_ 61 103 _ i_61 rfl (hl_at hl 1 rfl rfl))) (eqp_same _ _ _ _ _), at_mk v_62 rfl⟩)
 have s_63 := MK17 i_63 (.bool true) (Q.refl ·) (fun l a w hI hl => ⟨wanted_none rfl, ex_pick_t rfl (at_eq v_57 (hI.at_ 57 99 _ i_57 rfl (hl_at hl 0 rfl rfl))) (at_eq v_62 (hI.at_ 62 104 _ i_62 rfl (hl_at hl 1 rfl rfl))), at_mk v_63 rfl⟩)
 have s_64 := MK17 i_64 (.bool true) (Q.refl ·) (fun l a w hI hl => ⟨wanted_none rfl, ex_assign rfl (at_eq v_63 (hI.at_ 63 105 _ i_63 rfl (hl_at hl 0 rfl rfl))), at_mk v_64 rfl⟩)
 refine wp_plan VV Q (Q w9) (by kernel_rfl) hs hV hS0 (steps_all hO ((sf_cons s_0 (sf_cons s_1 (sf_cons s_2 (sf_cons s_3 (sf_cons s_4 (sf_cons s_5 (sf_cons s_6 (sf_cons s_7 (sf_cons s_8 (sf_cons s_9 (sf_cons s_10 (sf_cons s_11 (sf_cons s_12 (sf_cons s_13 (sf_cons s_14 (sf_cons s_15 (sf_cons s_16 (sf_cons s_17 (sf_cons s_18 (sf_cons s_19 (sf_cons s_20 (sf_cons s_21 (sf_cons s_22 (sf_cons s_23 (sf_cons s_24 (sf_cons s_25 (sf_cons s_26 (sf_cons s_27 (sf_cons s_28 (sf_cons s_29 (sf_cons s_30 (sf_cons s_31 (sf_cons s_32 (sf_cons s_33 (sf_cons s_34 (sf_cons s_35 (sf_cons s_36 (sf_cons s_37 (sf_cons s_38 (sf_cons s_39 (sf_cons s_40 (sf_cons s_41 (sf_cons s_42 (sf_cons s_43 (sf_cons s_44 (sf_cons s_45 (sf_cons s_46 (sf_cons s_47 (sf_cons s_48 (sf_cons s_49 (sf_cons s_50 (sf_cons s_51 (sf_cons s_52 (sf_cons s_53 (sf_cons s_54 (sf_cons s_55 (sf_cons s_56 (sf_cons s_57 (sf_cons s_58 (sf_cons s_59 (sf_cons s_60 (sf_cons s_61 (sf_cons s_62 (sf_cons s_63 (sf_cons s_64 trivial))))))))))))))))))))))))))))))))))))))))))))))))))))))))))))))))))) ?_
 intro l a' w' hall hIv
 have e0 : a'.eval (.tmp 0) = .bool true := at_eq v_64 (hIv.at_ 64 0 _ i_64 rfl (hall 64 (by rw [hO]; decide)))
 have hd : a'.defers = [] := by (rw [hIv.df, hA]; try rfl)
 have hst := Q9.out.trans hIv.st
 rw [hQQ]
 clear hIv hall
 go_wp2_with fail
 (try simp only [Exit.inBlock, Exit.then])
 refine bodyPost_ret (results_tmp rfl _ _ _) hd ?_
 exact ⟨congrArg Ending.returned e0, hst⟩
end Go.Proofs.YtobfgljkckcmcaaGreatDoor.Coi
