import Derived.Test.YtobfgljkckcmcaaGreatDoorYJDecA
import Derived.Test.YtobfgljkckcmcaaGreatDoorYJBloA
set_option maxRecDepth 100000
namespace Go.Proofs.YtobfgljkckcmcaaGreatDoor.Coi
open Go.RowKit
open Mem Num Cod Plan
set_option linter.unusedVariables false
set_option linter.unusedSimpArgs false
theorem zeroDB (w : World) : (zeroValue 72).run Tryz.prog w = .ok (.agg #[.int .i64 0, .string ⟨#[]⟩, .slice none 0 0]) w := by
 have h : (Tryz.prog.info? 72).bind (·.zero) = some (.agg #[.int .i64 0, .string ⟨#[]⟩, .slice none 0 0]) := by kernel_rfl
 cases hi : Tryz.prog.info? 72 with
 | none => rw [hi] at h; cases h
 | some i => rw [hi] at h; simp [zeroValue, typeInfo, hi, show i.zero = some (.agg #[.int .i64 0, .string ⟨#[]⟩, .slice none 0 0]) from h]
theorem built_dbk (v0 : Int) (v1 : ByteArray) : Tryz.prog.built 72 [(0, .int .i64 v0), (1, .string v1)] = some #[.int .i64 v0, .string v1, .slice none 0 0] := by kernel_rfl
theorem wpl_dbk {ops : Array Oper} {rest : List Oper} {o : Oper} {a : Act} {w : World} {Q : Exit → Act → World → Prop} (hg : o.guard = none) {n0 n1 : Nat} (v0 : Int) (v1 : ByteArray) (ho : o.op = .build 72 #[(0, .tmp n0), (1, .tmp n1)]) (d : Option Tmp) (hd : o.dst = d) (h0 : a.eval (.tmp n0) = .int .i64 v0) (h1 : a.eval (.tmp n1) = .string v1) (h : wpList Tryz.prog ops Q rest (a.put d (.agg #[.int .i64 v0, .string v1, .slice none 0 0])) w) : wpList Tryz.prog ops Q (o :: rest) a w := by
 refine wpList_buildTo hg 72 _ ho d hd _ ?_ h
 simp only [List.map_toArray, List.map_cons, List.map_nil, h0, h1]
 exact built_dbk v0 v1
theorem info_dtz : (Tryz.prog.info? 43).map (fun i => (i.zero, i.size, i.bytes)) = some (some (.agg #[.slice none 0 0, .slice none 0 0, .int .u64 0, .string ⟨#[]⟩, .string ⟨#[]⟩, .slice none 0 0]), 6, 112) := by kernel_rfl
theorem fill_dtz (v0 : Option Addr) (v1 v2 : Nat) (v3 : Option Addr) (v4 v5 : Nat) (v6 : Int) (v7 v8 : ByteArray) (v9 : Option Addr) (v10 v11 : Nat) : Instr.fill (fun i => some (i * 6, 6)) ((Array.range (1 * 6)).map ((Value.agg #[.slice none 0 0, .slice none 0 0, .int .u64 0, .string ⟨#[]⟩, .string ⟨#[]⟩, .slice none 0 0]).cells[· % (Value.agg #[.slice none 0 0, .slice none 0 0, .int .u64 0, .string ⟨#[]⟩, .string ⟨#[]⟩, .slice none 0 0]).cells.size]!)) [(0, .agg #[.slice v0 v1 v2, .slice v3 v4 v5, .int .u64 v6, .string v7, .string v8, .slice v9 v10 v11])] = some #[.slice v0 v1 v2, .slice v3 v4 v5, .int .u64 v6, .string v7, .string v8, .slice v9 v10 v11] := by kernel_rfl
theorem wpo_rowdtz {o : Oper} {a : Act} {w : World} {K : Act → World → Prop} {Q : Exit → Act → World → Prop} {n0 : Nat} (v0 : Option Addr) (v1 v2 : Nat) (v3 : Option Addr) (v4 v5 : Nat) (v6 : Int) (v7 v8 : ByteArray) (v9 : Option Addr) (v10 v11 : Nat) (ho : o.op = .buildSlice 70 1 #[(0, .tmp n0)]) (h0 : a.eval (.tmp n0) = .agg #[.slice v0 v1 v2, .slice v3 v4 v5, .int .u64 v6, .string v7, .string v8, .slice v9 v10 v11])
 (h : K (a.put o.dst (.slice (some ⟨w.heap.size, 0, none⟩) 1 1)) (w.alloc (.cells #[.slice v0 v1 v2, .slice v3 v4 v5, .int .u64 v6, .string v7, .string v8, .slice v9 v10 v11] 43))) : o.wp Tryz.prog a w K Q := by
 obtain ⟨i0, hi0, hz0, hz1, hz2⟩ := info_of info_dtz
 refine wp_buildSlice 70 43 1 _ ho #[.slice v0 v1 v2, .slice v3 v4 v5, .int .u64 v6, .string v7, .string v8, .slice v9 v10 v11] i0 _ Tryz.underlying70 hi0 hz0 (by rw [hz1]; decide) (by rw [hz1]; decide) ?_ h
 rw [hz1]
 simp only [List.map_toArray, List.map_cons, List.map_nil, h0]
 exact fill_dtz v0 v1 v2 v3 v4 v5 v6 v7 v8 v9 v10 v11
theorem one3d {v0 v1 v2 : Value} (h0 : v0.oneCell' = true) (h1 : v1.oneCell' = true) (h2 : v2.oneCell' = true) : ∀ v ∈ [v0, v1, v2], v.oneCell' = true := by
 intro v hv; simp at hv; rcases hv with rfl | rfl | rfl <;> assumption
/-- One of its rows lies there. -/
def TXI.dat (z : TXI) (b : Nat) : Prop := (∃ x, z.aI = some x ∧ x.block = b) ∨ (∃ x, z.aO = some x ∧ x.block = b) ∨ (∃ x, z.aW = some x ∧ x.block = b)
abbrev TXI.dn (z : TXI) (w : World) (B : Nat) : Prop := DT w B z.t z.aI z.cI z.aO z.cO z.aW z.cW
theorem dn_at {z : TXI} {w : World} {B b : Nat} (h : z.dn w B) (hb : z.dat b) : B ≤ b ∧ b < w.heap.size := by
 rcases hb with ⟨x, hx, rfl⟩ | ⟨x, hx, rfl⟩ | ⟨x, hx, rfl⟩
 · exact h.i.blk_ x hx
 · exact h.o.blk_ x hx
 · exact h.w.blk_ x hx
theorem dn_ch {z : TXI} {w w' : World} {B g : Nat} (h : z.dn w B) (c : Ch g w w') (hg : ¬ z.dat g) : z.dn w' B :=
 ⟨h.i.ch c fun x e e2 => hg (.inl ⟨x, e, e2⟩), h.o.ch c fun x e e2 => hg (.inr (.inl ⟨x, e, e2⟩)), h.w.ch c fun x e e2 => hg (.inr (.inr ⟨x, e, e2⟩))⟩
theorem dn_down {z : TXI} {w : World} {B B' : Nat} (h : z.dn w B) (hb : B' ≤ B) : z.dn w B' := ⟨h.i.downd hb, h.o.downd hb, h.w.downd hb⟩
theorem dn_q {z : TXI} {w w' : World} {B : Nat} (h : z.dn w B) (q : Q w w') : z.dn w' B := ⟨h.i.q q, h.o.q q, h.w.q q⟩
theorem dn_tm {z : TXI} {w : World} {B : Nat} (h : z.dn w B) : z.tm w := ⟨h.i.sl in_len, (h.i.ins in_len (P := fun _ => True) fun _ _ => trivial).le, h.o.sl out_len, h.w.sl win_len⟩
/-- Where Ref stands: k transactions are there. -/
structure KR (W : World) (b1 b2 b5 Bt : Nat) (v1 v2 : List Value) (hh : Int) (pv : ByteArray) (f : Nat → TXI) (k : Nat) (G : Nat → TXI) (a : Option Addr) (c : Nat) (w : World) : Prop where
 y : Box w b1 v1
 z : Box w b2 v2
 b : Box w b5 [.int .i64 hh, .string pv, .slice a k c]
 o : OR 43 TXI.cells 6 w Bt a k c G
 m : ∀ i, i < k → (G i).dn w Bt
 v : ∀ i, i < k → (G i).t = (f i).t
 l : ∀ i, i < k → ∀ b, (G i).dat b → ∀ y, a = some y → b ≠ y.block
 q : Q W w
 h : Bt ≤ w.heap.size
/-- What stays as it is. -/
structure KE (W : World) (b1 b2 b5 Bt : Nat) : Prop where
 l1 : b1 < Bt
 l2 : b2 < Bt
 l5 : b5 < Bt
 n1 : b1 ≠ b5
 n2 : b2 ≠ b5
 w5 : W.heap.size ≤ b5
section
variable {W : World} {b1 b2 b5 Bt k : Nat} {v1 v2 : List Value} {hh : Int} {pv : ByteArray} {f G G' : Nat → TXI} {a : Option Addr} {c : Nat} {w w' : World}
theorem KR.q_ (h : KR W b1 b2 b5 Bt v1 v2 hh pv f k G a c w) (q : Q w w') : KR W b1 b2 b5 Bt v1 v2 hh pv f k G a c w' :=
 ⟨h.y.q q, h.z.q q, h.b.q q, h.o.q q, fun i hi => dn_q (h.m i hi) q, h.v, h.l, h.q.trans q, Nat.le_trans h.h q.size⟩
theorem KR.push {g' c' B0 : Nat} {w2 : World} (h : KR W b1 b2 b5 Bt v1 v2 hh pv f k G a c w) (D : KE W b1 b2 b5 Bt) (hG : ∀ i, i < k → G i = G' i) (O : OR 43 TXI.cells 6 w' Bt (some ⟨g', 0, none⟩) (k + 1) c' G') (gr : Grow w w' (blk a) g')
 (tk : (G' k).dn w B0) (hB : Bt ≤ B0) (hB2 : ∀ y, a = some y → y.block < B0) (vk : (G' k).t = (f k).t)
 (B : Box w2 b5 [.int .i64 hh, .string pv, .slice (some ⟨g', 0, none⟩) (k + 1) c']) (cb : Ch b5 w' w2) :
 KR W b1 b2 b5 Bt v1 v2 hh pv f (k + 1) G' (some ⟨g', 0, none⟩) c' w2 := by
 obtain ⟨jb, cj, j1, j2⟩ := grow_c gr
 have D1 := D.l1; have D2 := D.l2; have D3 := D.l5; have D5 := D.w5
 have hh0 := h.h
 have jB : Bt ≤ jb := by
  cases ha : a with
  | none => rw [j2 ha]; exact h.h
  | some y => rw [j1 y ha]; exact (h.o.blk_ y ha).1
 have all : ∀ i, i < k + 1 → (G' i).dn w Bt ∧ (G' i).t = (f i).t ∧ (∀ b, (G' i).dat b → ∀ y, a = some y → b ≠ y.block) := by
  intro i hi
  by_cases e : i = k
  · subst e
    exact ⟨dn_down tk hB, vk, fun b hb y hy => by have := (dn_at tk hb).1; have := hB2 y hy; omega⟩
  · rw [← hG i (by omega)]; exact ⟨h.m i (by omega), h.v i (by omega), h.l i (by omega)⟩
 have nj : ∀ i, i < k + 1 → ¬ (G' i).dat jb := fun i hi ho => by
  cases ha : a with
  | none => have := (dn_at (all i hi).1 ho).2; rw [j2 ha] at this; omega
  | some y => exact (all i hi).2.2 _ ho y ha (j1 y ha)
 have ng : ∀ i, i < k + 1 → ∀ b, (G' i).dat b → b ≠ g' := fun i hi b ho => by
  rcases gr.at_ with e | e
  · cases ha : a with
    | none => rw [ha] at e; cases e
    | some y => rw [ha] at e; simp only [blk, Option.map_some, Option.some.injEq] at e; rw [← e]; exact (all i hi).2.2 _ ho y ha
  · have := (dn_at (all i hi).1 ho).2; omega
 have qq : Q W w' := h.o.q_grow h.q (by omega) gr
 refine ⟨(h.y.ch cj (by omega)).ch cb D.n1, (h.z.ch cj (by omega)).ch cb D.n2, B, O.low cb D3, fun i hi => dn_ch (dn_ch (all i hi).1 cj (nj i hi)) cb (fun ho => by have := (dn_at (all i hi).1 ho).1; omega), fun i hi => (all i hi).2.1,
  fun i hi b ho y hy => by injection hy with hy; subst hy; exact ng i hi b ho, cb.q qq D5, ?_⟩
 have := cj.size; have := cb.size; omega
end
theorem txref_x (y : TXI) (w : World) (h : y.tm w) (hk : y.t.ok) : Calls Tryz.prog 8 #[.agg (TXI.cells y).toArray] w fun e w' => ∃ z : TXI, e = .returned (.agg (TXI.cells z).toArray) ∧ z.dn w' w.heap.size ∧ z.t = y.t ∧ Q w w' := by
 refine (ref9_x y.t y.aI y.cI y.aO y.cO y.aW y.cW w h.i h.o h.w hk.nI hk.nO hk.p.n).mono ?_
 rintro e w' ⟨aI, cI, aO, cO, aW, cW, rfl, h1, q⟩
 exact ⟨⟨y.t, aI, cI, aO, cO, aW, cW⟩, rfl, h1, rfl, q⟩
set_option maxHeartbeats 4000000 in
theorem ref10_x (z : BKI) (w0 : World) (hz : z.tl w0) (hzn : z.n ≤ 100) : Calls Tryz.prog 30 #[z.val] w0 fun e w' => ∃ y : BKI, e = .returned y.val ∧ y.tl w' ∧ (y.h = z.h ∧ y.prev = z.prev ∧ y.n = z.n ∧ ∀ i, i < y.n → (y.g i).t = (z.g i).t) ∧ Q w0 w' := by
 obtain ⟨hh, pv, nT, f, aT, cT⟩ := z
 dsimp only at hzn
 dsimp only [BKI.val]
 have ZT : Hid (TL w0 aT nT f) := hz
 clear hz
 have HQ : Hid (Q w0 ((w0.alloc (.cells #[.int .i64 hh, .string pv, .slice aT nT cT] 64)).alloc (.cells #[.int .i64 0, .string ⟨#[]⟩, .slice none 0 0] 72))) := ((Q.refl w0).alloc _).alloc _
 have B1 : Hid (Box ((w0.alloc (.cells #[.int .i64 hh, .string pv, .slice aT nT cT] 64)).alloc (.cells #[.int .i64 0, .string ⟨#[]⟩, .slice none 0 0] 72)) w0.heap.size [.int .i64 hh, .string pv, .slice aT nT cT]) := (Box.new w0 [.int .i64 hh, .string pv, .slice aT nT cT] 64).q ((Q.refl _).alloc _)
 have B2 : Hid (Box ((w0.alloc (.cells #[.int .i64 hh, .string pv, .slice aT nT cT] 64)).alloc (.cells #[.int .i64 0, .string ⟨#[]⟩, .slice none 0 0] 72)) (w0.heap.size + 1) [.int .i64 0, .string ⟨#[]⟩, .slice none 0 0]) := by
  have := Box.new (w0.alloc (.cells #[.int .i64 hh, .string pv, .slice aT nT cT] 64)) [.int .i64 0, .string ⟨#[]⟩, .slice none 0 0] 72
  rw [show (w0.alloc (.cells #[.int .i64 hh, .string pv, .slice aT nT cT] 64)).heap.size = w0.heap.size + 1 by simp] at this
  exact this
 obtain ⟨wA, hwA⟩ : ∃ w, (w0.alloc (.cells #[.int .i64 hh, .string pv, .slice aT nT cT] 64)).alloc (.cells #[.int .i64 0, .string ⟨#[]⟩, .slice none 0 0] 72) = w := ⟨_, rfl⟩
 rw [hwA] at HQ B1 B2
 have z0 := B1.out.at_ 0 _ rfl
 have z1 := B1.out.at_ 1 _ rfl
 go_enter Tryz.func30, Tryz.ntmps30
 go_wp2_with (with_reducible (show wpList _ _ _ (⟨_, Op.build 72 _, _, _, _, _⟩ :: _) _ _); refine halt ?_)
 refine Lib.hid (wpl_dbk rfl hh pv rfl _ rfl rfl rfl ?_)
 clear z0 z1 hwA
 obtain ⟨b2, hb⟩ : ∃ b, w0.heap.size + 1 = b := ⟨_, rfl⟩
 rw [hb] at B2 ⊢
 obtain ⟨b1, hb1⟩ : ∃ b, w0.heap.size = b := ⟨_, rfl⟩
 rw [hb1] at B1 ⊢
 refine wpList_allocZ rfl 72 rfl #[.int .i64 0, .string ⟨#[]⟩, .slice none 0 0] zeroDB ?_
 refine st_box rfl 72 _ _ rfl wA.heap.size _ [.int .i64 hh, .string pv, .slice none 0 0] rfl rfl (Box.new wA [.int .i64 0, .string ⟨#[]⟩, .slice none 0 0] 72) rfl (by kernel_rfl) (one3d rfl rfl rfl) ?_
 intro w3 B3 c3
 have la1 := B1.out.lt
 have la2 := B2.out.lt
 have la3 := B3.lt
 have qA : Q wA (wA.alloc (.cells #[.int .i64 0, .string ⟨#[]⟩, .slice none 0 0] 72)) := (Q.refl wA).alloc _
 have C1 := Lib.hid ((B1.out.q qA).ch c3 (show b1 ≠ wA.heap.size by omega))
 have C2 := Lib.hid ((B2.out.q qA).ch c3 (show b2 ≠ wA.heap.size by omega))
 have C3 := Lib.hid B3
 have QQ3 : Hid (Q w0 w3) := c3.q (HQ.out.trans qA) (by omega)
 generalize wA.heap.size = b3 at *
 have DD : Hid (KE w0 b1 b2 b3 w3.heap.size) := ⟨by omega, by omega, by omega, by omega, by omega, by omega⟩
 have LW : w0.heap.size ≤ w3.heap.size := by omega
 have LB2 : w0.heap.size ≤ b2 := by omega
 have S0 : Hid (KR w0 b1 b2 b3 w3.heap.size [.int .i64 hh, .string pv, .slice aT nT cT] [.int .i64 0, .string ⟨#[]⟩, .slice none 0 0] hh pv f 0 (fun _ => ⟨TX.zero, none, 0, none, 0, none, 0⟩) none 0 w3) := ⟨C1.out, C2.out, C3.out, OR.nil _ _ _ _ _ _, fun i hi => by omega, fun i hi => by omega, fun i hi => by omega, QQ3.out, Nat.le_refl _⟩
 obtain ⟨Bt, hBt⟩ : ∃ b, w3.heap.size = b := ⟨_, rfl⟩
 rw [hBt] at DD S0 LW
 clear C1 C2 C3 QQ3 la1 la2 la3 hb hb1 hBt c3 B3 qA HQ B1 B2
 obtain ⟨i0, gi0, gz0, gz1, gz2⟩ := info_of info_dtz
 as_aux_lemma =>
 go_wp2_with fail
 go_loopw [4] (fun i wr => ∃ (k : Nat) (G : Nat → TXI) (aa : Option Addr) (c : Nat), k ≤ nT ∧ i = .int .i64 k ∧ Hid (KR w0 b1 b2 b3 Bt [.int .i64 hh, .string pv, .slice aT nT cT] [.int .i64 0, .string ⟨#[]⟩, .slice none 0 0] hh pv f k G aa c wr)) (fun i _ => nT - (intOf i).toNat)
 case atStart => exact ⟨0, _, none, 0, by omega, rfl, S0⟩
 case round =>
 obtain ⟨k, G, aa, c, hk, rfl, S⟩ := hrel
 clear S0
 have j0 : (0 : Int) ≤ (k : Int) := by omega
 have m2 := S.out.y.at_ 2 _ rfl
 by_cases hlt : k < nT
 · have j1 : (k : Int) < (nT : Int) := by omega
   go_wp2_with fail
   clear m2
   have TW := ZT.out.q S.out.q
   obtain ⟨b, off, hab, hrow⟩ := TW.l.some_ (by omega)
   obtain ⟨y, hy⟩ : ∃ y, f k = y := ⟨_, rfl⟩
   have FY : Hid (f k = y) := hy
   have wy := TW.m k hlt
   have ky := TW.k k hlt
   have hrow := hrow k hlt
   rw [hy] at hrow wy ky
   have RW : Hid (∀ w', Q wr w' → w'.rangeAt b (off + k * 6) (TXI.cells y)) := fun w' q j v hv => Q.cell' q (hrow j v hv)
   have CW : Hid (∀ w, Q wr w → Calls Tryz.prog 8 #[.agg (TXI.cells y).toArray] w fun e w' => ∃ z : TXI, e = .returned (.agg (TXI.cells z).toArray) ∧ z.dn w' w.heap.size ∧ z.t = y.t ∧ Q w w') := fun w q => txref_x y w (wy.q q) ky
   clear hy hrow wy ky TW
   obtain ⟨gp, hg1, hg2⟩ : ∃ gp, (∀ x, aa = some x → x.block = gp) ∧ gp < wr.heap.size := by
    rcases S.out.o.shape with ⟨e, _⟩ | ⟨g, e, _, hl, _⟩
    · exact ⟨b3, (fun x hx => by rw [e] at hx; cases hx), S.out.b.lt⟩
    · exact ⟨g, (fun x hx => by rw [e] at hx; injection hx with hx; rw [← hx]), hl⟩
   have WB := S.out.h
   as_aux_lemma =>
   have hS0 : Q wr wr.drew := (Q.refl wr).drew
   refine region_gen3 ?_
   intro OPS QQ A0 hO hQQ hA
   have hz : A0.tmps.size = 29 := by rw [hA]; rfl
   have hs : sound OPS A0.tmps.size = true := by rw [hz, hO]; kernel_rfl
   have bz_1 : A0.eval (.tmp 1) = .pointer (some ⟨b1, 0, none⟩) := by rw [hA]; rfl
   have frz_1 : free OPS 1 = true := by rw [hO]; kernel_rfl
   have bz_3 : A0.eval (.tmp 3) = .pointer (some ⟨b3, 0, none⟩) := by rw [hA]; rfl
   have frz_3 : free OPS 3 = true := by rw [hO]; kernel_rfl
   have bz_4 : A0.eval (.tmp 4) = .int .i64 k := by rw [hA]; rfl
   have frz_4 : free OPS 4 = true := by rw [hO]; kernel_rfl
   obtain ⟨VV, hVV⟩ : ∃ V : Nat → Value → World → Prop, V = fun i => ([fun v _ => v = .pointer (some ⟨b3, 2, none⟩), fun v _ => v = .slice aa k c, fun v _ => v = .pointer (some ⟨b1, 2, none⟩), fun v _ => v = .slice aT nT cT, fun v _ => v = .int .i64 k, fun v _ => v = .pointer (some ⟨b, off + k * 6, none⟩), fun v _ => v = .agg (TXI.cells y).toArray, fun v w => ∃ z : TXI, v = .agg (TXI.cells z).toArray ∧ z.dn w wr.heap.size ∧ z.t = y.t, fun v w => ∃ (z : TXI) (g : Nat), v = .slice (some ⟨g, 0, none⟩) 1 1 ∧ g ≠ gp ∧ (∀ j u, (TXI.cells z)[j]? = some u → w.cell? ⟨g, j, none⟩ = some u) ∧ z.dn w wr.heap.size ∧ z.t = y.t, fun v w' => ∃ (G' : Nat → TXI) (g' c' : Nat) (w1 : World), v = .slice (some ⟨g', 0, none⟩) (k + 1) c' ∧ KR w0 b1 b2 b3 Bt [.int .i64 hh, .string pv, .slice aT nT cT] [.int .i64 0, .string ⟨#[]⟩, .slice none 0 0] hh pv f k G aa c w1 ∧ (∀ i, i < k → G i = G' i) ∧ OR 43 TXI.cells 6 w' Bt (some ⟨g', 0, none⟩) (k + 1) c' G' ∧ Grow w1 w' (blk aa) g' ∧ (G' k).dn w1 wr.heap.size ∧ (G' k).t = (f k).t, fun v _ => v = .pointer (some ⟨b3, 2, none⟩)] : List (Value → World → Prop)).getD i (fun _ _ => True) := ⟨_, rfl⟩
   have vz_0 : VV 0 = fun v _ => v = .pointer (some ⟨b3, 2, none⟩) := vat hVV 0
   have vz_1 : VV 1 = fun v _ => v = .slice aa k c := vat hVV 1
   have vz_2 : VV 2 = fun v _ => v = .pointer (some ⟨b1, 2, none⟩) := vat hVV 2
   have vz_3 : VV 3 = fun v _ => v = .slice aT nT cT := vat hVV 3
   have vz_4 : VV 4 = fun v _ => v = .int .i64 k := vat hVV 4
   have vz_5 : VV 5 = fun v _ => v = .pointer (some ⟨b, off + k * 6, none⟩) := vat hVV 5
   have vz_6 : VV 6 = fun v _ => v = .agg (TXI.cells y).toArray := vat hVV 6
   have vz_7 : VV 7 = fun v w => ∃ z : TXI, v = .agg (TXI.cells z).toArray ∧ z.dn w wr.heap.size ∧ z.t = y.t := vat hVV 7
   have vz_8 : VV 8 = fun v w => ∃ (z : TXI) (g : Nat), v = .slice (some ⟨g, 0, none⟩) 1 1 ∧ g ≠ gp ∧ (∀ j u, (TXI.cells z)[j]? = some u → w.cell? ⟨g, j, none⟩ = some u) ∧ z.dn w wr.heap.size ∧ z.t = y.t := vat hVV 8
   have vz_9 : VV 9 = fun v w' => ∃ (G' : Nat → TXI) (g' c' : Nat) (w1 : World), v = .slice (some ⟨g', 0, none⟩) (k + 1) c' ∧ KR w0 b1 b2 b3 Bt [.int .i64 hh, .string pv, .slice aT nT cT] [.int .i64 0, .string ⟨#[]⟩, .slice none 0 0] hh pv f k G aa c w1 ∧ (∀ i, i < k → G i = G' i) ∧ OR 43 TXI.cells 6 w' Bt (some ⟨g', 0, none⟩) (k + 1) c' G' ∧ Grow w1 w' (blk aa) g' ∧ (G' k).dn w1 wr.heap.size ∧ (G' k).t = (f k).t := vat hVV 9
   have vz_10 : VV 10 = fun v _ => v = .pointer (some ⟨b3, 2, none⟩) := vat hVV 10
   have hV := stablex_of (T := Ch gp) (p := 9) hVV ((kx (kx (kx (kx (kx (kx (kx (sx_cons (fun v w w' h t => by obtain ⟨z, h1, h2, h3⟩ := h; exact ⟨z, h1, dn_ch h2 t (fun hb => by have := (dn_at h2 hb).1; omega), h3⟩) (sx_cons (fun v w w' h t => by obtain ⟨z, g, h1, h2, h3, h4, h5⟩ := h; exact ⟨z, g, h1, h2, fun j u hj => t.cell (h3 j u hj) h2, dn_ch h4 t (fun hb => by have := (dn_at h4 hb).1; omega), h5⟩) (sx_skip rfl (kx trivial))))))))))))
   clear hVV
   have iz_0 := pget_at hO 0 rfl
   have iz_1 := pget_at hO 1 rfl
   have iz_2 := pget_at hO 2 rfl
   have iz_3 := pget_at hO 3 rfl
   have iz_4 := pget_at hO 4 rfl
   have iz_5 := pget_at hO 5 rfl
   have iz_6 := pget_at hO 6 rfl
   have iz_7 := pget_at hO 7 rfl
   have iz_8 := pget_at hO 8 rfl
   have iz_9 := pget_at hO 9 rfl
   have iz_10 := pget_at hO 10 rfl
   have iz_11 := pget_at hO 11 rfl
   have MK31 := @Step2.pure Tryz.prog OPS QQ VV (Ch gp) (Q wr) A0 9
   have sz_0 := MK31 iz_0 (by rw [hO]; kernel_rfl) (.pointer (some ⟨b3, 2, none⟩)) (Ch.refl gp ·) (fun l a w hI hl hS => ⟨wanted_none rfl, (by have e0 : a.eval (.tmp 3) = _ := ((hI.base 3 frz_3).trans bz_3); generalize a.eval = ρ at e0 ⊢; simp [go_sem, e0]), at_mk vz_0 rfl⟩)
   have sz_1 := MK31 iz_1 (by rw [hO]; kernel_rfl) (.slice aa k c) (Ch.refl gp ·) (fun l a w hI hl hS => ⟨wanted_none rfl, (by have e0 : a.eval (.tmp 17) = _ := (at_eq vz_0 (hI.at_ 0 17 _ iz_0 rfl (hl_at hl 0 rfl rfl))); have x0 := (S.out.q_ hS).b.at_ 2 _ rfl; generalize a.eval = ρ at e0 ⊢; simp [go_sem, e0, x0]), at_mk vz_1 rfl⟩)
   have sz_2 := MK31 iz_2 (by rw [hO]; kernel_rfl) (.pointer (some ⟨b1, 2, none⟩)) (Ch.refl gp ·) (fun l a w hI hl hS => ⟨wanted_none rfl, (by have e0 : a.eval (.tmp 1) = _ := ((hI.base 1 frz_1).trans bz_1); generalize a.eval = ρ at e0 ⊢; simp [go_sem, e0]), at_mk vz_2 rfl⟩)
   have sz_3 := MK31 iz_3 (by rw [hO]; kernel_rfl) (.slice aT nT cT) (Ch.refl gp ·) (fun l a w hI hl hS => ⟨wanted_none rfl, (by have e0 : a.eval (.tmp 19) = _ := (at_eq vz_2 (hI.at_ 2 19 _ iz_2 rfl (hl_at hl 0 rfl rfl))); have x0 := (S.out.q_ hS).y.at_ 2 _ rfl; generalize a.eval = ρ at e0 ⊢; simp [go_sem, e0, x0]), at_mk vz_3 rfl⟩)
   have sz_4 := MK31 iz_4 (by rw [hO]; kernel_rfl) (.int .i64 k) (Ch.refl gp ·) (fun l a w hI hl hS => ⟨wanted_none rfl, ex_move rfl ((hI.base 4 frz_4).trans bz_4), at_mk vz_4 rfl⟩)
   have sz_5 := MK31 iz_5 (by rw [hO]; kernel_rfl) (.pointer (some ⟨b, off + k * 6, none⟩)) (Ch.refl gp ·) (fun l a w hI hl hS => ⟨wanted_none rfl, (by have e0 : a.eval (.tmp 20) = _ := (at_eq vz_3 (hI.at_ 3 20 _ iz_3 rfl (hl_at hl 0 rfl rfl))); have e1 : a.eval (.tmp 21) = _ := (at_eq vz_4 (hI.at_ 4 21 _ iz_4 rfl (hl_at hl 1 rfl rfl))); generalize a.eval = ρ at e0 e1 ⊢; simp [go_sem, e0, e1, j0, j1, hab]), at_mk vz_5 rfl⟩)
   have sz_6 := MK31 iz_6 (by rw [hO]; kernel_rfl) (.agg (TXI.cells y).toArray) (Ch.refl gp ·) (fun l a w hI hl hS => ⟨wanted_none rfl, ex_loado 29 rfl b (off + k * 6) (TXI.cells y) _ (at_eq vz_5 (hI.at_ 5 22 _ iz_5 rfl (hl_at hl 0 rfl rfl))) (RW.out w hS) Tryz.underlying29 rfl (by kernel_rfl), at_mk vz_6 rfl⟩)
   have MK32 := @Step2.done Tryz.prog OPS QQ VV (Ch gp) (Q wr) A0 9
   have sz_7 := MK32 iz_7 (by rw [hO]; kernel_rfl) (fun l a w hI hl hS => by
    refine ⟨wanted_none rfl, ?_⟩
    refine wp_enter (f := 8) (args := #[.agg (TXI.cells y).toArray]) ?_ ?_
    · exact ex_call rfl (by simp only [List.map_toArray, List.map_cons, List.map_nil, ev_const, (show a.eval (.tmp 23) = _ from (at_eq vz_6 (hI.at_ 6 23 _ iz_6 rfl (hl_at hl 0 rfl rfl))))]) Tryz.func8 (by kernel_rfl) (by kernel_rfl)
    · refine (CW.out w hS).mono fun e w' hc => ?_
      obtain ⟨z, rfl, h1, h2, hq⟩ := hc
      exact ⟨_, rfl, Ch.of_q hq gp, hS.trans hq, p_at vz_7 ⟨z, rfl, dn_down h1 hS.size, h2⟩⟩)
   have sz_8 := MK32 iz_8 (by rw [hO]; kernel_rfl) (fun l a w hI hl hS => by
    obtain ⟨z, ez, h1, h2⟩ := at_p vz_7 (hI.at_ 7 24 _ iz_7 rfl (hl_at hl 0 rfl rfl))
    refine ⟨wanted_none rfl, ?_⟩
    refine wpo_rowdtz z.aI z.t.nI z.cI z.aO z.t.nO z.cO z.t.p.amount z.t.p.sig z.t.p.token z.aW z.t.p.n z.cW rfl ez ?_
    exact ⟨_, rfl, Ch.of_q ((Q.refl w).alloc _) gp, hS.alloc _, p_at vz_8 ⟨z, w.heap.size, rfl, by have := hS.size; omega, fun j u hj => by rw [World.cell?_alloc_at _ _ _ _ rfl]; have hj2 : ([.slice z.aI z.t.nI z.cI, .slice z.aO z.t.nO z.cO, .int .u64 z.t.p.amount, .string z.t.p.sig, .string z.t.p.token, .slice z.aW z.t.p.n z.cW] : List Value)[j]? = some u := hj; simpa using hj2, dn_q h1 ((Q.refl w).alloc _), h2⟩⟩)
   have sz_9 := StepP.done (P := Tryz.prog) (V := VV) (T := Ch gp) (S := (Q wr)) (a0 := A0) (p := 9) (Qx := QQ) iz_9 (fun l a w hI hl hS => by
    obtain ⟨z, g, eg, hgne, hcell, h1, h2⟩ := at_p vz_8 (hI.at_ 8 25 _ iz_8 rfl (hl_at hl 1 rfl rfl))
    refine ⟨wanted_none rfl, ?_⟩
    have SA := S.out.q_ hS
    obtain ⟨G', hG'⟩ : ∃ G' : Nat → TXI, G' = fun i => if i = k then z else G i := ⟨_, rfl⟩
    have GK : G' k = z := by rw [hG']; simp
    have GL_ : ∀ i, i < k → G i = G' i := fun i hi => by rw [hG']; simp only; rw [if_neg (by omega)]
    clear hG'
    refine wpo_app (.tmp 18) (.tmp 25) 70 rfl i0 _ 112 Tryz.underlying70 gi0 gz0 gz1 gz2 rfl (by decide) (at_eq vz_1 (hI.at_ 1 18 _ iz_1 rfl (hl_at hl 0 rfl rfl))) (SA.o.congr GL_) g eg rfl (fun j u hj => hcell j u (by rw [GK] at hj; exact hj)) (by rw [GK]; exact one6d rfl rfl rfl rfl rfl rfl) (by omega) (by decide) (by have := SA.h; omega) ?_
    intro g' c' w' O' Gr
    exact ⟨_, rfl, Gr.chp gp hg1, p_at vz_9 ⟨G', g', c', w, rfl, SA, GL_, O', Gr, by rw [GK]; exact h1, by rw [GK, h2, FY.out]⟩⟩)
   have MK33 := @StepQ.pure Tryz.prog OPS QQ VV (Q wr) A0 9
   have sz_10 := MK33 iz_10 (.pointer (some ⟨b3, 2, none⟩)) (fun l a w hI hl => ⟨wanted_none rfl, (by have e0 : a.eval (.tmp 3) = _ := ((hI.base 3 frz_3).trans bz_3); generalize a.eval = ρ at e0 ⊢; simp [go_sem, e0]), at_mk vz_10 rfl⟩)
   refine wp_plan2 VV (Ch gp) (Q wr) 9 11 (by kernel_rfl) hs (by rw [hO]; rfl) (by rw [hO]; kernel_rfl) hV hS0 (steps2_all hO _ rfl ((s2_cons sz_0 (s2_cons sz_1 (s2_cons sz_2 (s2_cons sz_3 (s2_cons sz_4 (s2_cons sz_5 (s2_cons sz_6 (s2_cons sz_7 (s2_cons sz_8 (sp_cons rfl sz_9 (sq_cons sz_10 trivial))))))))))))) ?_
   intro l a w hall hln hI
   as_aux_lemma =>
   obtain ⟨G', g', c', w1, eg, K1, hGG, O', Gr, ho, ht⟩ := (at_p vz_9 (hI.at_ 9 26 _ iz_9 rfl (hall 9 (by decide))))
   have E3 : Box _ b3 [.int .i64 hh, .string pv, .slice aa k c] := K1.b.over (fun x hx => by have := (K1.o.blk_ x hx).1; have := DD.out.l5; omega) Gr
   refine fin_of iz_11 (wanted_none rfl) ?_
   refine wpo_st1 70 _ _ rfl (at_eq vz_10 (hI.at_ 10 27 _ iz_10 rfl (hall 10 (by decide)))) eg E3 rfl (fun w hc hf => by simp [go_sem, hc, hf]) ?_
   intro w5 B3' c5
   rw [hQQ]
   obtain ⟨ts, ds⟩ := a
   have hd : ds = [] := by have := hI.df; rw [hA] at this; exact this
   have hts : ts.size = 29 := by have := hI.sz; rw [hz] at this; exact this
   have f1 : ts.getD 1 undef = .pointer (some ⟨b1, 0, none⟩) := ((hI.base 1 frz_1).trans bz_1)
   have f3 : ts.getD 3 undef = .pointer (some ⟨b3, 0, none⟩) := ((hI.base 3 frz_3).trans bz_3)
   have f4 : ts.getD 4 undef = .int .i64 k := ((hI.base 4 frz_4).trans bz_4)
   have f0 := (hI.base 0 (by rw [hO]; kernel_rfl)).trans (base_at hA 0 rfl)
   have f2 := (hI.base 2 (by rw [hO]; kernel_rfl)).trans (base_at hA 2 rfl)
   have f5 := (hI.base 5 (by rw [hO]; kernel_rfl)).trans (base_at hA 5 rfl)
   have f6 := (hI.base 6 (by rw [hO]; kernel_rfl)).trans (base_at hA 6 rfl)
   have f7 := (hI.base 7 (by rw [hO]; kernel_rfl)).trans (base_at hA 7 rfl)
   have f8 := (hI.base 8 (by rw [hO]; kernel_rfl)).trans (base_at hA 8 rfl)
   have f9 := (hI.base 9 (by rw [hO]; kernel_rfl)).trans (base_at hA 9 rfl)
   have f10 := (hI.base 10 (by rw [hO]; kernel_rfl)).trans (base_at hA 10 rfl)
   have f11 := (hI.base 11 (by rw [hO]; kernel_rfl)).trans (base_at hA 11 rfl)
   have f12 := (hI.base 12 (by rw [hO]; kernel_rfl)).trans (base_at hA 12 rfl)
   have f13 := (hI.base 13 (by rw [hO]; kernel_rfl)).trans (base_at hA 13 rfl)
   have f14 := (hI.base 14 (by rw [hO]; kernel_rfl)).trans (base_at hA 14 rfl)
   have f15 := (hI.base 15 (by rw [hO]; kernel_rfl)).trans (base_at hA 15 rfl)
   have f16 := (hI.base 16 (by rw [hO]; kernel_rfl)).trans (base_at hA 16 rfl)
   have f28 := (hI.base 28 (by rw [hO]; kernel_rfl)).trans (base_at hA 28 rfl)
   obtain ⟨tl0, rfl⟩ : ∃ tl : List Value, ts = tl.toArray := ⟨ts.toList, by simp⟩
   have htl0 : tl0.length = 29 := by simpa using hts
   clear hts
   obtain ⟨y0, y1, y2, y3, y4, y5, y6, y7, tl8, et, htl8⟩ := len_8 htl0
   clear htl0
   subst et
   obtain ⟨y8, y9, y10, y11, y12, y13, y14, y15, tl16, et, htl16⟩ := len_8 htl8
   clear htl8
   subst et
   obtain ⟨y16, y17, y18, y19, y20, y21, y22, y23, tl24, et, htl24⟩ := len_8 htl16
   clear htl16
   subst et
   obtain ⟨y24, tl25, et, htl25⟩ := len_succ htl24
   clear htl24
   subst et
   obtain ⟨y25, tl26, et, htl26⟩ := len_succ htl25
   clear htl25
   subst et
   obtain ⟨y26, tl27, et, htl27⟩ := len_succ htl26
   clear htl26
   subst et
   obtain ⟨y27, tl28, et, htl28⟩ := len_succ htl27
   clear htl27
   subst et
   obtain ⟨y28, tl29, et, htl29⟩ := len_succ htl28
   clear htl28
   subst et
   have et := List.eq_nil_of_length_eq_zero htl29
   clear htl29
   subst et
   have g1 : y1 = .pointer (some ⟨b1, 0, none⟩) := f1
   have g3 : y3 = .pointer (some ⟨b3, 0, none⟩) := f3
   have g4 : y4 = .int .i64 k := f4
   have g0 : y0 = _ := f0
   have g2 : y2 = _ := f2
   have g5 : y5 = _ := f5
   have g6 : y6 = _ := f6
   have g7 : y7 = _ := f7
   have g8 : y8 = _ := f8
   have g9 : y9 = _ := f9
   have g10 : y10 = _ := f10
   have g11 : y11 = _ := f11
   have g12 : y12 = _ := f12
   have g13 : y13 = _ := f13
   have g14 : y14 = _ := f14
   have g15 : y15 = _ := f15
   have g16 : y16 = _ := f16
   have g28 : y28 = _ := f28
   clear f1 f3 f4 f0 f2 f5 f6 f7 f8 f9 f10 f11 f12 f13 f14 f15 f16 f28
   subst hd g1 g3 g4 g0 g2 g5 g6 g7 g8 g9 g10 g11 g12 g13 g14 g15 g16 g28
   have SN : Hid (KR w0 b1 b2 b3 Bt [.int .i64 hh, .string pv, .slice aT nT cT] [.int .i64 0, .string ⟨#[]⟩, .slice none 0 0] hh pv f (k + 1) G' (some ⟨g', 0, none⟩) c' w5) := K1.push DD.out hGG O' Gr ho WB (fun x hx => (S.out.o.blk_ x hx).2) ht B3' c5
   clear hI hall hln c5 B3' eg K1 hGG O' Gr ho ht E3 S RW CW hg1 hg2 hab hV hs hz hA vz_0 sz_0 vz_1 sz_1 vz_2 sz_2 vz_3 sz_3 vz_4 sz_4 vz_5 sz_5 vz_6 sz_6 vz_7 sz_7 vz_8 sz_8 vz_9 sz_9 vz_10 sz_10
   clear iz_0 iz_1 iz_2 iz_3 iz_4 iz_5 iz_6 iz_7 iz_8 iz_9 iz_10 iz_11 bz_1 frz_1 bz_3 frz_3 bz_4 frz_4 hO hQQ
   as_aux_lemma =>
   go_wp2_with fail
   go_roundw
   case rel => exact ⟨k + 1, G', some ⟨g', 0, none⟩, c', by omega, by go_num, SN⟩
   case measure => simp [intOf]; omega
 · obtain rfl : k = nT := by omega
   have j1 : ¬ (k : Int) < (k : Int) := by omega
   have td : decide (k < k) = false := by simp
   go_wp2_with (with_reducible (show wpList _ _ _ (⟨_, Op.load 72 _, _, _, _, _⟩ :: _) _ _); refine halt ?_)
   refine Lib.hid (ld_box rfl 72 _ rfl b3 _ rfl S.out.b Tryz.underlying72 rfl (by kernel_rfl) ?_)
   refine st_box rfl 72 _ _ rfl b2 _ [.int .i64 hh, .string pv, .slice aa k c] rfl rfl S.out.z rfl (by kernel_rfl) (one3d rfl rfl rfl) ?_
   intro w9 B9 c9
   have HL : Hid ((loadVar 72 ⟨b2, 0, none⟩).run Tryz.prog w9 = .ok (.agg #[.int .i64 hh, .string pv, .slice aa k c]) w9) := B9.load _ Tryz.underlying72 rfl (by kernel_rfl)
   have l2 := DD.out.l2
   have T9 : Hid (TL w9 aa k G) := ⟨(S.out.o.low c9 l2).sl txi_len, fun i hi => dn_tm (dn_ch (S.out.m i hi) c9 (fun hb => by have := (dn_at (S.out.m i hi) hb).1; omega)), fun i hi => by rw [S.out.v i hi]; exact ZT.out.k i hi⟩
   have V9 : Hid (∀ i, i < k → (G i).t = (f i).t) := S.out.v
   have Q9 : Hid (Q w0 w9) := c9.q S.out.q LB2
   clear B9 c9 S ZT
   simp only [Act.put, pu]
   refine wpList_nil ?_
   go_step
   go_step
   go_step
   refine bodyPost_ret (results_cell rfl rfl HL.out) rfl ?_
   exact ⟨⟨hh, pv, k, G, aa, c⟩, rfl, T9.out, ⟨rfl, rfl, rfl, V9.out⟩, Q9.out⟩
end Go.Proofs.YtobfgljkckcmcaaGreatDoor.Coi
