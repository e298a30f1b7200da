import Derived.Test.YtjiepemapffgjaaGreatDoorXJDec6
import Derived.Test.YtjiepemapffgjaaGreatDoorXHCoiC
set_option maxRecDepth 100000
namespace Go.Proofs.YtjiepemapffgjaaGreatDoor.Coi
open Go.RowKit
open Mem Num Cod Plan
set_option linter.unusedVariables false
set_option linter.unusedSimpArgs false
/-- A load of the whole box, by an operation that has a guard. -/
theorem ld_boxg2d {P : Program} {ops : Array Oper} {rest : List Oper} {op : Oper} {a : Act} {w : World} {Q : Exit → Act → World → Prop} (hgd : Region.wanted op (yielded ops a.tmps) = true) (ty : TypeId) (x : Operand) (ho : op.op = .load ty x)
 (b : Nat) (cs : List Value) (hx : a.eval x = .pointer (some ⟨b, 0, none⟩)) (hB : Box w b cs) {d : TypeDesc} (hu : P.underlying ty = some d) (hd : d.isRow = true) (hi : (P.info? ty).map (·.size) = some cs.length)
 (h : wpList P ops Q rest (a.put op.dst (.agg cs.toArray)) w) : wpList P ops Q (op :: rest) a w :=
 wpList_step fun K hK => by
  rw [if_pos hgd]
  unfold Oper.wp
  rw [ex_loado ty ho b 0 cs d hx (hB.rangeo 0 (r := []) (by simp)) hu hd hi, Oper.upon_value]
  exact hK _ _ h
theorem SL.chn_ {α : Type} {C : α → List Value} {k n g : Nat} {w w' : World} {a : Option Addr} {f : Nat → α} (h : SL C k w a n f) (c : Ch g w w') (hg : 0 < n → ∀ x, a = some x → x.block ≠ g) : SL C k w' a n f := by
 by_cases hn : n = 0
 · exact SL.nil hn
 · exact h.ch c (hg (by omega))
/-- What Decode answers, and where its lists lie. -/
def DEdn (s : ByteArray) (W : World) (r : Ending) (w' : World) : Prop := ∃ aI cI aO cO aW cW, r = .returned (.tuple #[txV (deV smallD s) aI cI aO cO aW cW, .int .i64 (deE smallD s)]) ∧ TM w' aI cI aO aW (deV smallD s) ∧ Q W w' ∧ ∀ x, aI = some x ∨ aO = some x ∨ aW = some x → W.heap.size ≤ x.block
theorem DEdn.bad {s : ByteArray} {W w' : World} {e : Int} (h : deE smallD s = e) (h0 : e ≠ 0) (q : Q W w') : DEdn s W (.returned (.tuple #[.agg #[.slice none 0 0, .slice none 0 0, .int .u64 0, .string ⟨#[]⟩, .string ⟨#[]⟩, .slice none 0 0], .int .i64 e])) w' := by
 have hv : deV smallD s = TX.zero := by unfold deV; rw [if_neg (by rw [h]; exact h0)]
 refine ⟨none, 0, none, 0, none, 0, by rw [h, hv]; rfl, ?_, q, fun x hx => by rcases hx with hx | hx | hx <;> cases hx⟩
 rw [hv]
 exact ⟨SL.nil rfl, Nat.le_refl _, SL.nil rfl, SL.nil rfl⟩
/-- The inputs, of which the first k bear their signatures. -/
def mixD (s : ByteArray) (k i : Nat) : IN := if i < k then { rdI (coQ (deC s) i) with sig := (deQ s i).blV 400 } else rdI (coQ (deC s) i)
theorem mixD_s (s : ByteArray) (k i : Nat) : mixD s (k + 1) i = if i = k then { mixD s k i with sig := (deQ s k).blV 400 } else mixD s k i := by
 unfold mixD
 by_cases e : i = k
 · subst e; rw [if_pos (by omega), if_pos rfl, if_neg (by omega)]
 · rw [if_neg e]
   by_cases h : i < k
   · rw [if_pos (by omega), if_pos h]
   · rw [if_neg (by omega), if_neg h]
/-- Where Decode stands. -/
structure DD (W : World) (g gb : Nat) (cs : List Value) (aI : Option Addr) (b n : Nat) (F : Nat → IN) (aO : Option Addr) (m : Nat) (FO : Nat → OU) (p : PS) (w : World) : Prop where
 x : DX W g W.heap.size [.slice none 0 0, .slice none 0 0, .int .u64 0, .string ⟨#[]⟩, .string ⟨#[]⟩, .slice none 0 0] gb cs p w
 i : n = 0 ∨ (aI = some ⟨b, 0, none⟩ ∧ SW w b n F)
 o : SL OU.cells 9 w aO m FO
 se : n ≠ 0 → b ≠ gb ∧ b ≠ g ∧ b ≠ W.heap.size ∧ W.heap.size ≤ b
 so : ∀ x, aO = some x → x.block ≠ gb ∧ x.block ≠ g ∧ x.block ≠ W.heap.size ∧ (n ≠ 0 → x.block ≠ b)
section
variable {W : World} {g gb : Nat} {cs cs' : List Value} {aI : Option Addr} {b n : Nat} {F : Nat → IN} {aO : Option Addr} {m : Nat} {FO : Nat → OU} {p p' : PS} {w w' : World}
theorem DD.rs (h : DD W g gb cs aI b n F aO m FO p w) : DR W g p w := h.x.rs
theorem iof (h : n = 0 ∨ (aI = some ⟨b, 0, none⟩ ∧ SW w b n F)) (k : n ≠ 0 → SW w b n F → SW w' b n F) : n = 0 ∨ (aI = some ⟨b, 0, none⟩ ∧ SW w' b n F) := by
 by_cases e : n = 0
 · exact .inl e
 · exact .inr (h.elim (fun h => absurd h e) fun h => ⟨h.1, k e h.2⟩)
theorem DD.go (h : DD W g gb cs aI b n F aO m FO p w) (k : DR w g p' w') : DD W g gb cs aI b n F aO m FO p' w' :=
 ⟨h.x.go k, iof h.i fun e s => s.ch k.ch (h.se e).2.1, h.o.ch k.ch fun x hx => (h.so x hx).2.1, h.se, h.so⟩
theorem DD.q (h : DD W g gb cs aI b n F aO m FO p w) (q : Q w w') : DD W g gb cs aI b n F aO m FO p w' := ⟨h.x.q q, iof h.i fun e s => s.q q, h.o.q q, h.se, h.so⟩
theorem DD.put (h : DD W g gb cs aI b n F aO m FO p w) (c : Ch gb w w') (B : Box w' gb cs') : DD W g gb cs' aI b n F aO m FO p w' :=
 ⟨h.x.put c B, iof h.i fun e s => s.ch c (h.se e).1, h.o.ch c fun x hx => (h.so x hx).1, h.se, h.so⟩
theorem DD.sl (h : DD W g gb cs aI b n F aO m FO p w) : SL IN.cells 4 w aI n F := by
 rcases h.i with e | ⟨rfl, k⟩
 · exact SL.nil e
 · exact k.sl
end
set_option maxHeartbeats 4000000 in
set_option maxRecDepth 100000 in
theorem d9decode_n (s : ByteArray) (hs : s.size ≤ 1000000) (W : World) : Calls Tryz.prog 30 #[.string s] W (DEdn s W) := by
 have HB : Hid (∀ t, Box (W.alloc (.cells #[.slice none 0 0, .slice none 0 0, .int .u64 0, .string ⟨#[]⟩, .string ⟨#[]⟩, .slice none 0 0] t)) W.heap.size [.slice none 0 0, .slice none 0 0, .int .u64 0, .string ⟨#[]⟩, .string ⟨#[]⟩, .slice none 0 0]) := fun t => Box.new W _ t
 have HQ : Hid (∀ o, Q W (W.alloc o)) := fun o => (Q.refl W).alloc o
 go_enter Tryz.func30, Tryz.ntmps30
 go_wp2_with (with_reducible (show wpList _ _ _ (⟨_, Op.build 140 _, _, _, _, _⟩ :: _) _ _); refine halt ?_)
 have B0 := Lib.hid (HB.out 43)
 have Q0 := Lib.hid (HQ.out (.cells #[.slice none 0 0, .slice none 0 0, .int .u64 0, .string ⟨#[]⟩, .string ⟨#[]⟩, .slice none 0 0] 43))
 clear HB HQ
 have hsz : (W.alloc (.cells #[.slice none 0 0, .slice none 0 0, .int .u64 0, .string ⟨#[]⟩, .string ⟨#[]⟩, .slice none 0 0] 43)).heap.size = W.heap.size + 1 := by simp
 generalize W.alloc (.cells #[.slice none 0 0, .slice none 0 0, .int .u64 0, .string ⟨#[]⟩, .string ⟨#[]⟩, .slice none 0 0] 43) = wA at *
 have n1 : wA.heap.size ≠ W.heap.size := by omega
 have l3 : W.heap.size ≤ wA.heap.size := by omega
 clear hsz
 refine Lib.hid (wpl_drd rfl s rfl _ rfl rfl ?_)
 have D0 := Lib.hid (DR.new s hs wA 140)
 have Q1 : Hid (Q W (wA.alloc (.cells #[.string s, .int .i64 0, .int .i64 0] 140))) := Q0.out.alloc _
 have B1 : Hid (Box (wA.alloc (.cells #[.string s, .int .i64 0, .int .i64 0] 140)) W.heap.size [.slice none 0 0, .slice none 0 0, .int .u64 0, .string ⟨#[]⟩, .string ⟨#[]⟩, .slice none 0 0]) := B0.out.q ((Q.refl _).alloc _)
 go_wp2_with fail
 generalize wA.alloc (.cells #[.string s, .int .i64 0, .int .i64 0] 140) = wB at *
 have H1 : Hid (DR W wA.heap.size ⟨s, 0⟩ wB) := ⟨D0.out.rd, Ch.of_q Q1.out _⟩
 generalize wA.heap.size = g at *
 clear Q0 Q1 B0 D0
 obtain ⟨c, hc⟩ : ∃ c, (PS.mk s 0).blV 4096 = c := ⟨_, rfl⟩
 have HC : Hid (deC s = c) := hc
 have hcz : c.size ≤ 1000000 := by rw [← hc]; have := PS.blV_le 4096 (PS.mk s 0); omega
 refine (H1.out.up.blob_l hc (p' := deP s) rfl).mono ?_
 rintro r w2 ⟨rfl, h⟩
 have B2 := Lib.hid (B1.out.ch h.ch n1.symm)
 have H2 := Lib.hid (H1.out.over h)
 clear h H1 B1 hc
 obtain ⟨e1, he1⟩ : ∃ v, (deP s).e = v := ⟨_, rfl⟩
 have d2 : w2.cell? ⟨g, 2, none⟩ = some (.int .i64 e1) := by rw [← he1]; exact H2.out.e2
 by_cases hz1 : e1 = 0
 rotate_left
 · have t1 : (e1 == 0) = false := by simpa using hz1
   have t2 : (e1 != 0) = true := by simpa using hz1
   have DE : Hid (deE smallD s = e1) := by show _ = _; unfold deE; rw [he1, if_pos hz1]
   have RR := Lib.hid H2.out
   have BR := Lib.hid B2.out
   have EC : Hid (w2.cell? ⟨g, 2, none⟩ = some (.int .i64 e1)) := d2
   clear HC H2 B2 t1 he1
   as_aux_lemma =>
   go_wp2_with fail
   clear d2 t2
   have hS0 : (fun w => DR W g (deP s) w ∧ w.cell? ⟨g, 2, none⟩ = some (.int .i64 e1) ∧ ∃ z, Box w W.heap.size z ∧ z.length = 6) w2.drew := ⟨RR.out.q (Q.refl w2).drew, Q.cell' (Q.refl w2).drew EC.out, _, BR.out.q (Q.refl w2).drew, rfl⟩
   refine region_gen3 ?_
   intro OPS QQ A0 hO hQQ hA
   have hz : A0.tmps.size = 86 := by rw [hA]; rfl
   have hs : sound OPS A0.tmps.size = true := by rw [hz, hO]; kernel_rfl
   have b_2 : A0.eval (.tmp 2) = .pointer (some ⟨W.heap.size, 0, none⟩) := by rw [hA]; rfl
   have fr_2 : free OPS 2 = true := by rw [hO]; kernel_rfl
   have b_4 : A0.eval (.tmp 4) = .pointer (some ⟨g, 0, none⟩) := by rw [hA]; rfl
   have fr_4 : free OPS 4 = true := by rw [hO]; kernel_rfl
   obtain ⟨VV, hVV⟩ : ∃ V : Nat → Value → World → Prop, V = fun i => ([fun v _ => v = .agg #[.slice none 0 0, .slice none 0 0, .int .u64 0, .string ⟨#[]⟩, .string ⟨#[]⟩, .slice none 0 0], fun v _ => v = .pointer (some ⟨g, 0, none⟩), fun v _ => v = .pointer (some ⟨g, 0, none⟩), fun v _ => v = .pointer (some ⟨g, 2, none⟩), fun v _ => v = .int .i64 e1, fun _ w => Box w W.heap.size [.slice none 0 0, .slice none 0 0, .int .u64 0, .string ⟨#[]⟩, .string ⟨#[]⟩, .slice none 0 0], fun v _ => v = .int .i64 e1] : List (Value → World → Prop)).getD i (fun _ _ => True) := ⟨_, rfl⟩
   have v_0 : VV 0 = fun v _ => v = .agg #[.slice none 0 0, .slice none 0 0, .int .u64 0, .string ⟨#[]⟩, .string ⟨#[]⟩, .slice none 0 0] := vat hVV 0
   have v_1 : VV 1 = fun v _ => v = .pointer (some ⟨g, 0, none⟩) := vat hVV 1
   have v_2 : VV 2 = fun v _ => v = .pointer (some ⟨g, 0, none⟩) := vat hVV 2
   have v_3 : VV 3 = fun v _ => v = .pointer (some ⟨g, 2, none⟩) := vat hVV 3
   have v_4 : VV 4 = fun v _ => v = .int .i64 e1 := vat hVV 4
   have v_5 : VV 5 = fun _ w => Box w W.heap.size [.slice none 0 0, .slice none 0 0, .int .u64 0, .string ⟨#[]⟩, .string ⟨#[]⟩, .slice none 0 0] := vat hVV 5
   have v_6 : VV 6 = fun v _ => v = .int .i64 e1 := vat hVV 6
   have hV := stable_of (T := (fun w w' => Q w w' ∨ (Ch W.heap.size w w' ∧ Box w' W.heap.size [.slice none 0 0, .slice none 0 0, .int .u64 0, .string ⟨#[]⟩, .string ⟨#[]⟩, .slice none 0 0]))) hVV ((sl_cons (fun _ _ _ h _ => h) (sl_cons (fun _ _ _ h _ => h) (sl_cons (fun _ _ _ h _ => h) (sl_cons (fun _ _ _ h _ => h) (sl_cons (fun _ _ _ h _ => h) (sl_cons (fun _ _ _ h t => t.elim (fun q => h.q q) (fun t => t.2)) (sl_cons (fun _ _ _ h _ => h) trivial))))))))
   clear hVV
   have i_0 := pget_at hO 0 rfl
   have i_1 := pget_at hO 1 rfl
   have i_2 := pget_at hO 2 rfl
   have i_3 := pget_at hO 3 rfl
   have i_4 := pget_at hO 4 rfl
   have i_5 := pget_at hO 5 rfl
   have i_6 := pget_at hO 6 rfl
   have s_0 := Step.pure (P := Tryz.prog) (V := VV) (T := (fun w w' => Q w w' ∨ (Ch W.heap.size w w' ∧ Box w' W.heap.size [.slice none 0 0, .slice none 0 0, .int .u64 0, .string ⟨#[]⟩, .string ⟨#[]⟩, .slice none 0 0]))) (S := (fun w => DR W g (deP s) w ∧ w.cell? ⟨g, 2, none⟩ = some (.int .i64 e1) ∧ ∃ z, Box w W.heap.size z ∧ z.length = 6)) (a0 := A0) (Qx := QQ) i_0 (.agg #[.slice none 0 0, .slice none 0 0, .int .u64 0, .string ⟨#[]⟩, .string ⟨#[]⟩, .slice none 0 0]) (fun w => .inl (Q.refl w)) (fun l a w hI hl => ⟨wanted_none rfl, ex_build rfl (by simp only [List.map_toArray, List.map_nil]; exact built_dtz), at_mk v_0 rfl⟩)
   have s_1 := Step.pure (P := Tryz.prog) (V := VV) (T := (fun w w' => Q w w' ∨ (Ch W.heap.size w w' ∧ Box w' W.heap.size [.slice none 0 0, .slice none 0 0, .int .u64 0, .string ⟨#[]⟩, .string ⟨#[]⟩, .slice none 0 0]))) (S := (fun w => DR W g (deP s) w ∧ w.cell? ⟨g, 2, none⟩ = some (.int .i64 e1) ∧ ∃ z, Box w W.heap.size z ∧ z.length = 6)) (a0 := A0) (Qx := QQ) i_1 (.pointer (some ⟨g, 0, none⟩)) (fun w => .inl (Q.refl w)) (fun l a w hI hl => ⟨wanted_none rfl, ex_move rfl ((hI.base 4 fr_4).trans b_4), at_mk v_1 rfl⟩)
   have s_2 := Step.pure (P := Tryz.prog) (V := VV) (T := (fun w w' => Q w w' ∨ (Ch W.heap.size w w' ∧ Box w' W.heap.size [.slice none 0 0, .slice none 0 0, .int .u64 0, .string ⟨#[]⟩, .string ⟨#[]⟩, .slice none 0 0]))) (S := (fun w => DR W g (deP s) w ∧ w.cell? ⟨g, 2, none⟩ = some (.int .i64 e1) ∧ ∃ z, Box w W.heap.size z ∧ z.length = 6)) (a0 := A0) (Qx := QQ) i_2 (.pointer (some ⟨g, 0, none⟩)) (fun w => .inl (Q.refl w)) (fun l a w hI hl => ⟨wanted_none rfl, (by have e0 : a.eval (.tmp 23) = _ := (at_eq v_1 (hI.at_ 1 23 _ i_1 rfl (hl_at hl 0 rfl rfl))); generalize a.eval = ρ at e0 ⊢; simp [go_sem, e0]), at_mk v_2 rfl⟩)
   have s_3 := Step.pure (P := Tryz.prog) (V := VV) (T := (fun w w' => Q w w' ∨ (Ch W.heap.size w w' ∧ Box w' W.heap.size [.slice none 0 0, .slice none 0 0, .int .u64 0, .string ⟨#[]⟩, .string ⟨#[]⟩, .slice none 0 0]))) (S := (fun w => DR W g (deP s) w ∧ w.cell? ⟨g, 2, none⟩ = some (.int .i64 e1) ∧ ∃ z, Box w W.heap.size z ∧ z.length = 6)) (a0 := A0) (Qx := QQ) i_3 (.pointer (some ⟨g, 2, none⟩)) (fun w => .inl (Q.refl w)) (fun l a w hI hl => ⟨wanted_none rfl, (by have e0 : a.eval (.tmp 24) = _ := (at_eq v_2 (hI.at_ 2 24 _ i_2 rfl (hl_at hl 0 rfl rfl))); generalize a.eval = ρ at e0 ⊢; simp [go_sem, e0]), at_mk v_3 rfl⟩)
   have s_4 := Step.pure (P := Tryz.prog) (V := VV) (T := (fun w w' => Q w w' ∨ (Ch W.heap.size w w' ∧ Box w' W.heap.size [.slice none 0 0, .slice none 0 0, .int .u64 0, .string ⟨#[]⟩, .string ⟨#[]⟩, .slice none 0 0]))) (S := (fun w => DR W g (deP s) w ∧ w.cell? ⟨g, 2, none⟩ = some (.int .i64 e1) ∧ ∃ z, Box w W.heap.size z ∧ z.length = 6)) (a0 := A0) (Qx := QQ) i_4 (.int .i64 e1) (fun w => .inl (Q.refl w)) (fun l a w hI hl => ⟨wanted_none rfl, (by have e0 : a.eval (.tmp 25) = _ := (at_eq v_3 (hI.at_ 3 25 _ i_3 rfl (hl_at hl 0 rfl rfl))); have x0 := hI.st.2.1; generalize a.eval = ρ at e0 ⊢; simp [go_sem, e0, x0]), at_mk v_4 rfl⟩)
   have s_5 := Step.done (P := Tryz.prog) (V := VV) (T := (fun w w' => Q w w' ∨ (Ch W.heap.size w w' ∧ Box w' W.heap.size [.slice none 0 0, .slice none 0 0, .int .u64 0, .string ⟨#[]⟩, .string ⟨#[]⟩, .slice none 0 0]))) (S := (fun w => DR W g (deP s) w ∧ w.cell? ⟨g, 2, none⟩ = some (.int .i64 e1) ∧ ∃ z, Box w W.heap.size z ∧ z.length = 6)) (a0 := A0) (Qx := QQ) i_5 (fun l a w hI hl => by
    obtain ⟨z0, hzb, hzl⟩ := hI.st.2.2
    refine ⟨wanted_none rfl, ?_⟩
    refine wpo_st_box 43 _ _ rfl W.heap.size z0 [.slice none 0 0, .slice none 0 0, .int .u64 0, .string ⟨#[]⟩, .string ⟨#[]⟩, .slice none 0 0] ((hI.base 2 fr_2).trans b_2) (at_eq v_0 (hI.at_ 0 22 _ i_0 rfl (hl_at hl 0 rfl rfl))) hzb (by rw [hzl]; rfl) (by kernel_rfl) (one6d rfl rfl rfl rfl rfl rfl) ?_
    intro w3 B3 c3
    exact ⟨undef, rfl, .inr ⟨c3, B3⟩, ⟨hI.st.1.box c3 (Nat.le_refl _) n1, c3.cell hI.st.2.1 n1, _, B3, rfl⟩, p_at v_5 B3⟩)
   have s_6 := Step.pure (P := Tryz.prog) (V := VV) (T := (fun w w' => Q w w' ∨ (Ch W.heap.size w w' ∧ Box w' W.heap.size [.slice none 0 0, .slice none 0 0, .int .u64 0, .string ⟨#[]⟩, .string ⟨#[]⟩, .slice none 0 0]))) (S := (fun w => DR W g (deP s) w ∧ w.cell? ⟨g, 2, none⟩ = some (.int .i64 e1) ∧ ∃ z, Box w W.heap.size z ∧ z.length = 6)) (a0 := A0) (Qx := QQ) i_6 (.int .i64 e1) (fun w => .inl (Q.refl w)) (fun l a w hI hl => ⟨wanted_none rfl, ex_assign rfl (at_eq v_4 (hI.at_ 4 26 _ i_4 rfl (hl_at hl 0 rfl rfl))), at_mk v_6 rfl⟩)
   refine wp_plan VV (fun w w' => Q w w' ∨ (Ch W.heap.size w w' ∧ Box w' W.heap.size [.slice none 0 0, .slice none 0 0, .int .u64 0, .string ⟨#[]⟩, .string ⟨#[]⟩, .slice none 0 0])) (fun w => DR W g (deP s) w ∧ w.cell? ⟨g, 2, none⟩ = some (.int .i64 e1) ∧ ∃ z, Box w W.heap.size z ∧ z.length = 6) (by kernel_rfl) hs hV hS0 (steps_all hO ((sf_cons s_0 (sf_cons s_1 (sf_cons s_2 (sf_cons s_3 (sf_cons s_4 (sf_cons s_5 (sf_cons s_6 trivial))))))))) ?_
   intro l a' w' hall hIv
   have e0 : a'.eval (.tmp 3) = .int .i64 e1 := at_eq v_6 (hIv.at_ 6 3 _ i_6 rfl (hall 6 (by rw [hO]; decide)))
   have ee2 : a'.tmps.getD 2 undef = .pointer (some ⟨W.heap.size, 0, none⟩) := (hIv.base 2 fr_2).trans b_2
   have hd : a'.defers = [] := by (rw [hIv.df, hA]; try rfl)
   have BF : Box w' W.heap.size [.slice none 0 0, .slice none 0 0, .int .u64 0, .string ⟨#[]⟩, .string ⟨#[]⟩, .slice none 0 0] := at_p v_5 (hIv.val 5 _ i_5 (hall 5 (by rw [hO]; decide)))
   have HL : Hid ((loadVar 43 ⟨W.heap.size, 0, none⟩).run Tryz.prog w' = .ok (.agg #[.slice none 0 0, .slice none 0 0, .int .u64 0, .string ⟨#[]⟩, .string ⟨#[]⟩, .slice none 0 0]) w') := BF.load _ Tryz.underlying43 rfl (by kernel_rfl)
   have Q9 : Hid (Q W w') := hIv.st.1.ch.q (Q.refl W) l3
   rw [hQQ]
   clear hIv hall BF
   go_wp2_with fail
   (try simp only [Exit.inBlock, Exit.then])
   refine bodyPost_ret (results_cell_tmp rfl ee2 HL.out) hd ?_
   have fin := DEdn.bad DE.out hz1 Q9.out
   rw [← e0] at fin
   exact fin
 subst hz1
 have DE0 := Lib.hid he1
 clear he1
 by_cases hz0 : c.size = 0
 · have ec : c = ⟨#[]⟩ := zero_ba hz0
   have DE : Hid (deE smallD s = 4) := by
    have h4 : coE (deC s) = 4 := by unfold coE; rw [HC.out, if_pos hz0]
    show _ = _; unfold deE; rw [DE0.out, if_neg (by decide), h4, if_pos (by decide)]
   subst ec
   clear hcz HC DE0 hz0
   go_wp2_with (with_reducible (show wpList _ _ _ (⟨_, Op.build 43 _, _, _, _, _⟩ :: _) _ _); refine halt ?_)
   refine Lib.hid (wpl_dtz rfl rfl _ rfl ?_)
   go_wp2_with (with_reducible (show wpList _ _ _ (⟨_, Op.store 43 _ _, _, _, _, _⟩ :: _) _ _); refine halt ?_)
   refine Lib.hid (st_box rfl 43 _ _ rfl W.heap.size _ [.slice none 0 0, .slice none 0 0, .int .u64 0, .string ⟨#[]⟩, .string ⟨#[]⟩, .slice none 0 0] rfl rfl B2.out rfl (by kernel_rfl) (one6d rfl rfl rfl rfl rfl rfl) ?_)
   intro w19 B9 c9
   have HL : Hid ((loadVar 43 ⟨W.heap.size, 0, none⟩).run Tryz.prog w19 = .ok (.agg #[.slice none 0 0, .slice none 0 0, .int .u64 0, .string ⟨#[]⟩, .string ⟨#[]⟩, .slice none 0 0]) w19) := B9.load _ Tryz.underlying43 rfl (by kernel_rfl)
   have Q9 : Hid (Q W w19) := (H2.out.box c9 (Nat.le_refl _) n1).ch.q (Q.refl W) l3
   clear B9 c9
   go_wp2_with fail
   (try simp only [Exit.inBlock, Exit.then])
   refine bodyPost_ret (results_cell_tmp rfl rfl HL.out) rfl ?_
   exact DEdn.bad DE.out (by decide) Q9.out
 have ne1 : c.toList.isEmpty = false := isEmpty_pos c (by omega)
 have ne2 : c.toList ≠ [] := by rw [ne_eq, tl_nil]; exact hz0
 go_wp2_with fail
 clear d2 ne1 ne2
 refine (d9core_x c hcz _).mono ?_
 rintro r w3 ⟨aI, cI, aO, cO, rfl, oi, oo, ap, q3⟩
 have H3 := Lib.hid (H2.out.q q3)
 have B3 := Lib.hid (B2.out.q q3)
 have g1 := H2.out.lt
 have g2 := B2.out.lt
 have g3 := q3.size
 obtain ⟨e2, he2⟩ : ∃ v, (coR c (coM c)).en = v := ⟨_, rfl⟩
 rw [he2]
 have CE : Hid (coE c = e2) := by show _ = _; unfold coE; rw [if_neg hz0]; exact he2
 clear he2
 have hi3 : ∀ x, aI = some x → w2.heap.size ≤ x.block ∧ x.block < w3.heap.size := fun x hx => oi.blk_ x hx
 have ho3 : ∀ x, aO = some x → w2.heap.size ≤ x.block ∧ x.block < w3.heap.size := fun x hx => oo.blk_ x hx
 go_wp2_with (with_reducible (show wpList _ _ _ (⟨_, Op.alloc 43, _, _, _, _⟩ :: _) _ _); refine halt ?_)
 refine Lib.hid (wpList_allocZ rfl 43 rfl #[.slice none 0 0, .slice none 0 0, .int .u64 0, .string ⟨#[]⟩, .string ⟨#[]⟩, .slice none 0 0] zeroDTx ?_)
 have G3 := H3.out.lt
 have G4 := B3.out.lt
 have G5 := H3.out.ch.size
 refine st_box rfl 43 _ _ rfl w3.heap.size _ [.slice aI (coN c) cI, .slice aO (coM c) cO, .int .u64 0, .string ⟨#[]⟩, .string ⟨#[]⟩, .slice none 0 0] rfl rfl (Box.new w3 [.slice none 0 0, .slice none 0 0, .int .u64 0, .string ⟨#[]⟩, .string ⟨#[]⟩, .slice none 0 0] 43) rfl (by kernel_rfl) (one6d rfl rfl rfl rfl rfl rfl) ?_
 intro w5 B5 c5
 have qz := (Q.refl w3).alloc (.cells #[.slice none 0 0, .slice none 0 0, .int .u64 0, .string ⟨#[]⟩, .string ⟨#[]⟩, .slice none 0 0] 43)
 obtain ⟨b, hb⟩ : ∃ b : Nat, coN c = 0 ∨ aI = some ⟨b, 0, none⟩ := by
  rcases oi.shape with ⟨_, h, _⟩ | ⟨b, h, _⟩
  · exact ⟨0, .inl h⟩
  · exact ⟨b, .inr h⟩
 have S5 : Hid (DD W g w3.heap.size [.slice aI (coN c) cI, .slice aO (coM c) cO, .int .u64 0, .string ⟨#[]⟩, .string ⟨#[]⟩, .slice none 0 0] aI b (coN c) (fun i => rdI (coQ c i)) aO (coM c) (fun i => rdO smallD (coR c i)) (deP s) w5) := by
  refine ⟨⟨(H3.out.q qz).box c5 G5 (by omega), (B3.out.q qz).ch c5 (by omega), B5, n1, by omega, by omega, Nat.le_refl _, G5⟩, ?_, ((oo.sl out_len).q qz).ch c5 (fun x hx => by have := (ho3 x hx).2; omega), fun e => ?_, fun x hx => ?_⟩
  · by_cases e : coN c = 0
    · exact .inl e
    · have hb' := hb.resolve_left e
      refine .inr ⟨hb', ?_⟩
      rw [hb'] at oi
      have := (hi3 _ hb').2
      exact ((SW.of oi).q qz).ch c5 (by dsimp only at this; omega)
  · have := hi3 _ (hb.resolve_left e); dsimp only at this; omega
  · have := ho3 x hx
    refine ⟨by omega, by omega, by omega, fun e => ?_⟩
    exact fun h => ap _ x (hb.resolve_left e) hx h.symm
 have AIB : Hid (∀ x, aI = some x → W.heap.size ≤ x.block) := fun x hx => by have := (hi3 x hx).1; have := H2.out.ch.size; omega
 have AOB : Hid (∀ x, aO = some x → W.heap.size ≤ x.block) := fun x hx => by have := (ho3 x hx).1; have := H2.out.ch.size; omega
 have CL : Hid (coN c ≤ cI) := (oi.ins in_len (P := fun _ => True) fun _ _ => trivial).le
 generalize w3.heap.size = gb at *
 clear c5 B5 H3 B3 H2 B2 G3 G4 G5 oi oo ap q3 g1 g2 g3 hi3 ho3 hb qz
 as_aux_lemma =>
 by_cases hz2 : e2 = 0
 rotate_left
 · have t1 : (e2 == 0) = false := by simpa using hz2
   have t2 : (e2 != 0) = true := by simpa using hz2
   have DE : Hid (deE smallD s = e2) := by show _ = _; unfold deE; rw [DE0.out, if_neg (by decide), HC.out, CE.out, if_pos hz2]
   clear CE HC DE0
   go_wp2_with (with_reducible (show wpList _ _ _ (⟨_, Op.build 43 _, _, _, _, _⟩ :: _) _ _); refine halt ?_)
   refine Lib.hid (wpl_dtz rfl rfl _ rfl ?_)
   go_wp2_with (with_reducible (show wpList _ _ _ (⟨_, Op.store 43 _ _, _, _, _, _⟩ :: _) _ _); refine halt ?_)
   refine Lib.hid (st_box rfl 43 _ _ rfl W.heap.size _ [.slice none 0 0, .slice none 0 0, .int .u64 0, .string ⟨#[]⟩, .string ⟨#[]⟩, .slice none 0 0] rfl rfl S5.out.x.br rfl (by kernel_rfl) (one6d rfl rfl rfl rfl rfl rfl) ?_)
   intro w19 B9 c9
   have HL : Hid ((loadVar 43 ⟨W.heap.size, 0, none⟩).run Tryz.prog w19 = .ok (.agg #[.slice none 0 0, .slice none 0 0, .int .u64 0, .string ⟨#[]⟩, .string ⟨#[]⟩, .slice none 0 0]) w19) := B9.load _ Tryz.underlying43 rfl (by kernel_rfl)
   have Q9 : Hid (Q W w19) := (S5.out.rs.box c9 (Nat.le_refl _) n1).ch.q (Q.refl W) l3
   clear B9 c9
   go_wp2_with fail
   (try simp only [Exit.inBlock, Exit.then])
   refine bodyPost_ret (results_cell_tmp rfl rfl HL.out) rfl ?_
   exact DEdn.bad DE.out hz2 Q9.out
 subst hz2
 have nK := coN_le c
 have mK := coM_le c
 go_wp2_with fail
 have EM : Hid (∀ i, mixD s 0 i = rdI (coQ c i)) := fun i => by unfold mixD; rw [if_neg (by omega), HC.out]
 have S6 : Hid (DD W g gb [.slice aI (coN c) cI, .slice aO (coM c) cO, .int .u64 0, .string ⟨#[]⟩, .string ⟨#[]⟩, .slice none 0 0] aI b (coN c) (mixD s 0) aO (coM c) (fun i => rdO smallD (coR c i)) (deQ s 0) w5) := by
  have e : mixD s 0 = fun i => rdI (coQ c i) := funext EM.out
  rw [e]; exact S5.out
 clear S5 EM
 as_aux_lemma =>
 go_loopw [8] (fun i wr => ∃ k : Nat, k ≤ coN c ∧ i = .int .i64 k ∧ Hid (DD W g gb [.slice aI (coN c) cI, .slice aO (coM c) cO, .int .u64 0, .string ⟨#[]⟩, .string ⟨#[]⟩, .slice none 0 0] aI b (coN c) (mixD s k) aO (coM c) (fun i => rdO smallD (coR c i)) (deQ s k) wr)) (fun i _ => coN c - (intOf i).toNat)
 case atStart => exact ⟨0, by omega, rfl, S6⟩
 case round =>
 obtain ⟨k, hk, rfl, S⟩ := hrel
 clear S6
 have k0 : (0 : Int) ≤ (k : Int) := by omega
 have m0 := (S.out.x.cell 0 rfl).1
 by_cases hlt : k < coN c
 · have k1 : (k : Int) < (coN c : Int) := by omega
   go_wp2_with fail
   obtain ⟨rfl, SWk⟩ := S.out.i.resolve_left (by omega)
   have W0 := Lib.hid SWk
   clear SWk
   obtain ⟨sg, hsg⟩ : ∃ v, (deQ s k).blV 400 = v := ⟨_, rfl⟩
   have se := S.out.se (by omega)
   have SO := Lib.hid S.out.so
   have SE' := Lib.hid S.out.se
   have HCc : Hid (∀ p w', DX W g W.heap.size [.slice none 0 0, .slice none 0 0, .int .u64 0, .string ⟨#[]⟩, .string ⟨#[]⟩, .slice none 0 0] gb [.slice (some ⟨b, 0, none⟩) (coN c) cI, .slice aO (coM c) cO, .int .u64 0, .string ⟨#[]⟩, .string ⟨#[]⟩, .slice none 0 0] p w' → w'.cell? ⟨gb, 0, none⟩ = some (.slice (some ⟨b, 0, none⟩) (coN c) cI)) := fun p w' x => (x.cell 0 rfl).1
   have XD := Lib.hid (S.out.x.q (Q.refl _).drew)
   have WD := Lib.hid (W0.out.q (Q.refl _).drew)
   have OD := Lib.hid (S.out.o.q (Q.refl _).drew)
   clear S W0 m0
   have c0 := HCc.out _ _ XD.out
   as_aux_lemma =>
   have b3 : Hid (k < coN c) := hlt
   obtain ⟨eb1, eb2, eb3, eb4⟩ := se
   refine wp_region_held_drew (S := fun w' => w'.cell? ⟨gb, 0, none⟩ = some (.slice (some ⟨b, 0, none⟩) (coN c) cI)) (by kernel_rfl) c0 (fun hHeld => ?_)
   refine wpAnyH_take (i := 0) (v := ?_) (by simp only [List.getElem?_toArray, List.getElem?_cons_zero]; rfl) (by kernel_rfl) (by kernel_rfl) (by kernel_rfl) (by exact fun _ _ _ h => h) (Or.inl ⟨by rfl, ?_⟩) (by assumption) ?_
   rotate_left
   · (intro wx hSw; (try dsimp only at hSw); go_simp; (try rw [if_neg (by omega)]); try (with_reducible rfl))
   try simp only [Act.put, List.setIfInBounds_toArray, List.set_cons_zero, List.set_cons_succ]
   refine wpAnyH_take (i := 1) (v := ?_) (by simp only [List.getElem?_toArray, List.getElem?_cons_zero, List.getElem?_cons_succ]; rfl) (by kernel_rfl) (by kernel_rfl) (by kernel_rfl) (by exact fun _ _ _ h => h) (Or.inl ⟨by rfl, ?_⟩) (by assumption) ?_
   rotate_left
   · (intro wx hSw; (try dsimp only at hSw); go_simp; (try rw [if_neg (by omega)]); try (with_reducible rfl))
   try simp only [Act.put, List.setIfInBounds_toArray, List.set_cons_zero, List.set_cons_succ]
   refine wpAnyH_take (i := 2) (v := ?_) (by simp only [List.getElem?_toArray, List.getElem?_cons_zero, List.getElem?_cons_succ]; rfl) (by kernel_rfl) (by kernel_rfl) (by kernel_rfl) (by exact fun _ _ _ h => h) (Or.inl ⟨by rfl, ?_⟩) (by assumption) ?_
   rotate_left
   · (intro wx hSw; (try dsimp only at hSw); go_simp; (try rw [if_neg (by omega)]); try (with_reducible rfl))
   try simp only [Act.put, List.setIfInBounds_toArray, List.set_cons_zero, List.set_cons_succ]
   refine wpAnyH_take (i := 3) (v := ?_) (by simp only [List.getElem?_toArray, List.getElem?_cons_zero, List.getElem?_cons_succ]; rfl) (by kernel_rfl) (by kernel_rfl) (by kernel_rfl) (by exact fun _ _ _ h => h) (Or.inl ⟨by rfl, ?_⟩) (by assumption) ?_
   rotate_left
   · (intro wx hSw; (try dsimp only at hSw); go_simp; (try rw [if_neg (by omega)]); try (with_reducible rfl))
   try simp only [Act.put, List.setIfInBounds_toArray, List.set_cons_zero, List.set_cons_succ]
   refine wpAnyH_ready (rs := [4]) (by kernel_rfl) (by simp) ?_
   refine AllReadyH.cons (by simp only [List.getElem?_toArray, List.getElem?_cons_succ, List.getElem?_cons_zero]; rfl) (fun K hK => ?_) AllReadyH.nil
   go_simp
   refine (XD.out.rs.up.blob_l hsg (p' := deQ s (k + 1)) rfl).mono ?_
   rintro r w7 ⟨rfl, h⟩
   have XE := Lib.hid (XD.out.go h)
   have WE := Lib.hid (WD.out.ch h.ch eb2)
   have OE := Lib.hid (OD.out.ch h.ch (fun x hx => (SO.out x hx).2.1))
   have c1 := HCc.out _ _ XE.out
   clear h XD WD OD c0
   dsimp only
   refine hK.out _ _ c1 (fun hHeld4 => ?_)
   clear hK K
   try simp only [Act.put, List.setIfInBounds_toArray, List.set_cons_zero, List.set_cons_succ]
   refine wpAnyH_take (i := 5) (v := ?_) (by simp only [List.getElem?_toArray, List.getElem?_cons_zero, List.getElem?_cons_succ]; rfl) (by kernel_rfl) (by kernel_rfl) (by kernel_rfl) (by exact fun _ _ _ h => h) (Or.inl ⟨by rfl, ?_⟩) (by assumption) ?_
   rotate_left
   · (intro wx hSw; (try dsimp only at hSw); go_simp; (try rw [if_neg (by omega)]); try (with_reducible rfl))
   try simp only [Act.put, List.setIfInBounds_toArray, List.set_cons_zero, List.set_cons_succ]
   refine wpAnyH_take (i := 6) (v := ?_) (by simp only [List.getElem?_toArray, List.getElem?_cons_zero, List.getElem?_cons_succ]; rfl) (by kernel_rfl) (by kernel_rfl) (by kernel_rfl) (by exact fun _ _ _ h => h) (Or.inl ⟨by rfl, ?_⟩) (by assumption) ?_
   rotate_left
   · (intro wx hSw; (try dsimp only at hSw); go_simp; (try rw [if_neg (by omega)]); try (with_reducible rfl))
   try simp only [Act.put, List.setIfInBounds_toArray, List.set_cons_zero, List.set_cons_succ]
   have d3 := WE.out.at_ k b3.out 3 _ rfl
   have f3 := WE.out.fz (k * 4 + 3)
   refine wpAnyH_ready (rs := [7]) (by kernel_rfl) (by simp) ?_
   refine AllReadyH.cons (by simp only [List.getElem?_toArray, List.getElem?_cons_succ, List.getElem?_cons_zero]; rfl) (fun K hK => ?_) AllReadyH.nil
   go_simp
   have c2 : (w7.setCell ⟨b, k * 4 + 3, none⟩ (.string sg)).cell? ⟨gb, 0, none⟩ = some (.slice (some ⟨b, 0, none⟩) (coN c) cI) := by rw [World.cell?_setCell_other (h := by intro x; injection x; omega)]; exact c1
   refine hK.out _ _ c2 (fun _ => ?_)
   clear hK K c1 d3 f3
   try simp only [Act.put, List.setIfInBounds_toArray, List.set_cons_zero, List.set_cons_succ]
   have cc := Ch.set w7 b (k * 4 + 3) (.string sg)
   have S9 : Hid (DD W g gb [.slice (some ⟨b, 0, none⟩) (coN c) cI, .slice aO (coM c) cO, .int .u64 0, .string ⟨#[]⟩, .string ⟨#[]⟩, .slice none 0 0] (some ⟨b, 0, none⟩) b (coN c) (mixD s (k + 1)) aO (coM c) (fun i => rdO smallD (coR c i)) (deQ s (k + 1)) (w7.setCell ⟨b, k * 4 + 3, none⟩ (.string sg))) := ⟨XE.out.oth cc eb4 eb2.symm eb3.symm eb1.symm, .inr ⟨rfl, WE.out.sig (f' := mixD s (k + 1)) k b3.out sg (fun i hi => by rw [mixD_s, hsg])⟩, OE.out.ch cc (fun x hx => (SO.out x hx).2.2.2 (by have := b3.out; omega)), SE'.out, SO.out⟩
   clear cc c2 XE WE OE
   refine wpAnyH_done (by kernel_rfl) ?_ _
   go_wp2_with fail
   go_roundw
   case rel => exact ⟨k + 1, by omega, by go_num, S9⟩
   case measure => simp [intOf]; omega
 · obtain rfl : k = coN c := by omega
   have k1 : ¬ (coN c : Int) < (coN c : Int) := by omega
   have td : decide (coN c < coN c) = false := by simp
   go_wp2_with fail
   clear k1 td hlt k0 hk m0
   obtain ⟨x, hx⟩ : ∃ v, (deQ s (coN c)).blV 4096 = v := ⟨_, rfl⟩
   have hxz : x.size ≤ 1000000 := by rw [← hx]; have := PS.blV_le 4096 (deQ s (coN c)); omega
   have V1 : Hid (deB s = x) := by show _ = _; unfold deB; rw [HC.out]; exact hx
   have R1 : (deQ s (coN c)).blo 4096 = deR s := by unfold deR; rw [HC.out]
   refine (S.out.rs.up.blob_l hx R1).mono ?_
   rintro r w7 ⟨rfl, h⟩
   have S7 := Lib.hid (S.out.go h)
   clear h S hx R1
   obtain ⟨e3, he3⟩ : ∃ v, (deR s).e = v := ⟨_, rfl⟩
   have d2 : w7.cell? ⟨g, 2, none⟩ = some (.int .i64 e3) := by rw [← he3]; exact S7.out.rs.e2
   by_cases hz2 : e3 = 0
   rotate_left
   · have t1 : (e3 == 0) = false := by simpa using hz2
     have t2 : (e3 != 0) = true := by simpa using hz2
     have DE : Hid (deE smallD s = e3) := by show _ = _; unfold deE; rw [DE0.out, if_neg (by decide), HC.out, CE.out, if_neg (by decide), he3, if_pos hz2]
     have RR := Lib.hid S7.out.rs
     have BR := Lib.hid S7.out.x.br
     have EC : Hid (w7.cell? ⟨g, 2, none⟩ = some (.int .i64 e3)) := d2
     clear S7 HC CE DE0 V1 t1 he3
     as_aux_lemma =>
     go_wp2_with fail
     clear d2 t2
     have hS0 : (fun w => DR W g (deR s) w ∧ w.cell? ⟨g, 2, none⟩ = some (.int .i64 e3) ∧ ∃ z, Box w W.heap.size z ∧ z.length = 6) w7.drew := ⟨RR.out.q (Q.refl w7).drew, Q.cell' (Q.refl w7).drew EC.out, _, BR.out.q (Q.refl w7).drew, rfl⟩
     refine region_gen3 ?_
     intro OPS QQ A0 hO hQQ hA
     have hz : A0.tmps.size = 86 := by rw [hA]; rfl
     have hs : sound OPS A0.tmps.size = true := by rw [hz, hO]; kernel_rfl
     have b_2 : A0.eval (.tmp 2) = .pointer (some ⟨W.heap.size, 0, none⟩) := by rw [hA]; rfl
     have fr_2 : free OPS 2 = true := by rw [hO]; kernel_rfl
     have b_4 : A0.eval (.tmp 4) = .pointer (some ⟨g, 0, none⟩) := by rw [hA]; rfl
     have fr_4 : free OPS 4 = true := by rw [hO]; kernel_rfl
     obtain ⟨VV, hVV⟩ : ∃ V : Nat → Value → World → Prop, V = fun i => ([fun v _ => v = .agg #[.slice none 0 0, .slice none 0 0, .int .u64 0, .string ⟨#[]⟩, .string ⟨#[]⟩, .slice none 0 0], fun v _ => v = .pointer (some ⟨g, 0, none⟩), fun v _ => v = .pointer (some ⟨g, 0, none⟩), fun v _ => v = .pointer (some ⟨g, 2, none⟩), fun v _ => v = .int .i64 e3, fun _ w => Box w W.heap.size [.slice none 0 0, .slice none 0 0, .int .u64 0, .string ⟨#[]⟩, .string ⟨#[]⟩, .slice none 0 0], fun v _ => v = .int .i64 e3] : List (Value → World → Prop)).getD i (fun _ _ => True) := ⟨_, rfl⟩
     have v_0 : VV 0 = fun v _ => v = .agg #[.slice none 0 0, .slice none 0 0, .int .u64 0, .string ⟨#[]⟩, .string ⟨#[]⟩, .slice none 0 0] := vat hVV 0
     have v_1 : VV 1 = fun v _ => v = .pointer (some ⟨g, 0, none⟩) := vat hVV 1
     have v_2 : VV 2 = fun v _ => v = .pointer (some ⟨g, 0, none⟩) := vat hVV 2
     have v_3 : VV 3 = fun v _ => v = .pointer (some ⟨g, 2, none⟩) := vat hVV 3
     have v_4 : VV 4 = fun v _ => v = .int .i64 e3 := vat hVV 4
     have v_5 : VV 5 = fun _ w => Box w W.heap.size [.slice none 0 0, .slice none 0 0, .int .u64 0, .string ⟨#[]⟩, .string ⟨#[]⟩, .slice none 0 0] := vat hVV 5
     have v_6 : VV 6 = fun v _ => v = .int .i64 e3 := vat hVV 6
     have hV := stable_of (T := (fun w w' => Q w w' ∨ (Ch W.heap.size w w' ∧ Box w' W.heap.size [.slice none 0 0, .slice none 0 0, .int .u64 0, .string ⟨#[]⟩, .string ⟨#[]⟩, .slice none 0 0]))) hVV ((sl_cons (fun _ _ _ h _ => h) (sl_cons (fun _ _ _ h _ => h) (sl_cons (fun _ _ _ h _ => h) (sl_cons (fun _ _ _ h _ => h) (sl_cons (fun _ _ _ h _ => h) (sl_cons (fun _ _ _ h t => t.elim (fun q => h.q q) (fun t => t.2)) (sl_cons (fun _ _ _ h _ => h) trivial))))))))
     clear hVV
     have i_0 := pget_at hO 0 rfl
     have i_1 := pget_at hO 1 rfl
     have i_2 := pget_at hO 2 rfl
     have i_3 := pget_at hO 3 rfl
     have i_4 := pget_at hO 4 rfl
     have i_5 := pget_at hO 5 rfl
     have i_6 := pget_at hO 6 rfl
     have s_0 := Step.pure (P := Tryz.prog) (V := VV) (T := (fun w w' => Q w w' ∨ (Ch W.heap.size w w' ∧ Box w' W.heap.size [.slice none 0 0, .slice none 0 0, .int .u64 0, .string ⟨#[]⟩, .string ⟨#[]⟩, .slice none 0 0]))) (S := (fun w => DR W g (deR s) w ∧ w.cell? ⟨g, 2, none⟩ = some (.int .i64 e3) ∧ ∃ z, Box w W.heap.size z ∧ z.length = 6)) (a0 := A0) (Qx := QQ) i_0 (.agg #[.slice none 0 0, .slice none 0 0, .int .u64 0, .string ⟨#[]⟩, .string ⟨#[]⟩, .slice none 0 0]) (fun w => .inl (Q.refl w)) (fun l a w hI hl => ⟨wanted_none rfl, ex_build rfl (by simp only [List.map_toArray, List.map_nil]; exact built_dtz), at_mk v_0 rfl⟩)
     have s_1 := Step.pure (P := Tryz.prog) (V := VV) (T := (fun w w' => Q w w' ∨ (Ch W.heap.size w w' ∧ Box w' W.heap.size [.slice none 0 0, .slice none 0 0, .int .u64 0, .string ⟨#[]⟩, .string ⟨#[]⟩, .slice none 0 0]))) (S := (fun w => DR W g (deR s) w ∧ w.cell? ⟨g, 2, none⟩ = some (.int .i64 e3) ∧ ∃ z, Box w W.heap.size z ∧ z.length = 6)) (a0 := A0) (Qx := QQ) i_1 (.pointer (some ⟨g, 0, none⟩)) (fun w => .inl (Q.refl w)) (fun l a w hI hl => ⟨wanted_none rfl, ex_move rfl ((hI.base 4 fr_4).trans b_4), at_mk v_1 rfl⟩)
     have s_2 := Step.pure (P := Tryz.prog) (V := VV) (T := (fun w w' => Q w w' ∨ (Ch W.heap.size w w' ∧ Box w' W.heap.size [.slice none 0 0, .slice none 0 0, .int .u64 0, .string ⟨#[]⟩, .string ⟨#[]⟩, .slice none 0 0]))) (S := (fun w => DR W g (deR s) w ∧ w.cell? ⟨g, 2, none⟩ = some (.int .i64 e3) ∧ ∃ z, Box w W.heap.size z ∧ z.length = 6)) (a0 := A0) (Qx := QQ) i_2 (.pointer (some ⟨g, 0, none⟩)) (fun w => .inl (Q.refl w)) (fun l a w hI hl => ⟨wanted_none rfl, (by have e0 : a.eval (.tmp 61) = _ := (at_eq v_1 (hI.at_ 1 61 _ i_1 rfl (hl_at hl 0 rfl rfl))); generalize a.eval = ρ at e0 ⊢; simp [go_sem, e0]), at_mk v_2 rfl⟩)
     have s_3 := Step.pure (P := Tryz.prog) (V := VV) (T := (fun w w' => Q w w' ∨ (Ch W.heap.size w w' ∧ Box w' W.heap.size [.slice none 0 0, .slice none 0 0, .int .u64 0, .string ⟨#[]⟩, .string ⟨#[]⟩, .slice none 0 0]))) (S := (fun w => DR W g (deR s) w ∧ w.cell? ⟨g, 2, none⟩ = some (.int .i64 e3) ∧ ∃ z, Box w W.heap.size z ∧ z.length = 6)) (a0 := A0) (Qx := QQ) i_3 (.pointer (some ⟨g, 2, none⟩)) (fun w => .inl (Q.refl w)) (fun l a w hI hl => ⟨wanted_none rfl, (by have e0 : a.eval (.tmp 62) = _ := (at_eq v_2 (hI.at_ 2 62 _ i_2 rfl (hl_at hl 0 rfl rfl))); generalize a.eval = ρ at e0 ⊢; simp [go_sem, e0]), at_mk v_3 rfl⟩)
     have s_4 := Step.pure (P := Tryz.prog) (V := VV) (T := (fun w w' => Q w w' ∨ (Ch W.heap.size w w' ∧ Box w' W.heap.size [.slice none 0 0, .slice none 0 0, .int .u64 0, .string ⟨#[]⟩, .string ⟨#[]⟩, .slice none 0 0]))) (S := (fun w => DR W g (deR s) w ∧ w.cell? ⟨g, 2, none⟩ = some (.int .i64 e3) ∧ ∃ z, Box w W.heap.size z ∧ z.length = 6)) (a0 := A0) (Qx := QQ) i_4 (.int .i64 e3) (fun w => .inl (Q.refl w)) (fun l a w hI hl => ⟨wanted_none rfl, (by have e0 : a.eval (.tmp 63) = _ := (at_eq v_3 (hI.at_ 3 63 _ i_3 rfl (hl_at hl 0 rfl rfl))); have x0 := hI.st.2.1; generalize a.eval = ρ at e0 ⊢; simp [go_sem, e0, x0]), at_mk v_4 rfl⟩)
     have s_5 := Step.done (P := Tryz.prog) (V := VV) (T := (fun w w' => Q w w' ∨ (Ch W.heap.size w w' ∧ Box w' W.heap.size [.slice none 0 0, .slice none 0 0, .int .u64 0, .string ⟨#[]⟩, .string ⟨#[]⟩, .slice none 0 0]))) (S := (fun w => DR W g (deR s) w ∧ w.cell? ⟨g, 2, none⟩ = some (.int .i64 e3) ∧ ∃ z, Box w W.heap.size z ∧ z.length = 6)) (a0 := A0) (Qx := QQ) i_5 (fun l a w hI hl => by
      obtain ⟨z0, hzb, hzl⟩ := hI.st.2.2
      refine ⟨wanted_none rfl, ?_⟩
      refine wpo_st_box 43 _ _ rfl W.heap.size z0 [.slice none 0 0, .slice none 0 0, .int .u64 0, .string ⟨#[]⟩, .string ⟨#[]⟩, .slice none 0 0] ((hI.base 2 fr_2).trans b_2) (at_eq v_0 (hI.at_ 0 60 _ i_0 rfl (hl_at hl 0 rfl rfl))) hzb (by rw [hzl]; rfl) (by kernel_rfl) (one6d rfl rfl rfl rfl rfl rfl) ?_
      intro w3 B3 c3
      exact ⟨undef, rfl, .inr ⟨c3, B3⟩, ⟨hI.st.1.box c3 (Nat.le_refl _) n1, c3.cell hI.st.2.1 n1, _, B3, rfl⟩, p_at v_5 B3⟩)
     have s_6 := Step.pure (P := Tryz.prog) (V := VV) (T := (fun w w' => Q w w' ∨ (Ch W.heap.size w w' ∧ Box w' W.heap.size [.slice none 0 0, .slice none 0 0, .int .u64 0, .string ⟨#[]⟩, .string ⟨#[]⟩, .slice none 0 0]))) (S := (fun w => DR W g (deR s) w ∧ w.cell? ⟨g, 2, none⟩ = some (.int .i64 e3) ∧ ∃ z, Box w W.heap.size z ∧ z.length = 6)) (a0 := A0) (Qx := QQ) i_6 (.int .i64 e3) (fun w => .inl (Q.refl w)) (fun l a w hI hl => ⟨wanted_none rfl, ex_assign rfl (at_eq v_4 (hI.at_ 4 64 _ i_4 rfl (hl_at hl 0 rfl rfl))), at_mk v_6 rfl⟩)
     refine wp_plan VV (fun w w' => Q w w' ∨ (Ch W.heap.size w w' ∧ Box w' W.heap.size [.slice none 0 0, .slice none 0 0, .int .u64 0, .string ⟨#[]⟩, .string ⟨#[]⟩, .slice none 0 0])) (fun w => DR W g (deR s) w ∧ w.cell? ⟨g, 2, none⟩ = some (.int .i64 e3) ∧ ∃ z, Box w W.heap.size z ∧ z.length = 6) (by kernel_rfl) hs hV hS0 (steps_all hO ((sf_cons s_0 (sf_cons s_1 (sf_cons s_2 (sf_cons s_3 (sf_cons s_4 (sf_cons s_5 (sf_cons s_6 trivial))))))))) ?_
     intro l a' w' hall hIv
     have e0 : a'.eval (.tmp 3) = .int .i64 e3 := at_eq v_6 (hIv.at_ 6 3 _ i_6 rfl (hall 6 (by rw [hO]; decide)))
     have ee2 : a'.tmps.getD 2 undef = .pointer (some ⟨W.heap.size, 0, none⟩) := (hIv.base 2 fr_2).trans b_2
     have hd : a'.defers = [] := by (rw [hIv.df, hA]; try rfl)
     have BF : Box w' W.heap.size [.slice none 0 0, .slice none 0 0, .int .u64 0, .string ⟨#[]⟩, .string ⟨#[]⟩, .slice none 0 0] := at_p v_5 (hIv.val 5 _ i_5 (hall 5 (by rw [hO]; decide)))
     have HL : Hid ((loadVar 43 ⟨W.heap.size, 0, none⟩).run Tryz.prog w' = .ok (.agg #[.slice none 0 0, .slice none 0 0, .int .u64 0, .string ⟨#[]⟩, .string ⟨#[]⟩, .slice none 0 0]) w') := BF.load _ Tryz.underlying43 rfl (by kernel_rfl)
     have Q9 : Hid (Q W w') := hIv.st.1.ch.q (Q.refl W) l3
     rw [hQQ]
     clear hIv hall BF
     go_wp2_with fail
     (try simp only [Exit.inBlock, Exit.then])
     refine bodyPost_ret (results_cell_tmp rfl ee2 HL.out) hd ?_
     have fin := DEdn.bad DE.out hz2 Q9.out
     rw [← e0] at fin
     exact fin
   subst hz2
   have DE3 := Lib.hid he3
   clear he3
   go_wp2_with fail
   clear d2
   refine (d8decode_x x hxz _).mono ?_
   rintro r w8 ⟨aW, cW, rfl, sw, sb, q8⟩
   have S8 := Lib.hid (S7.out.q q8)
   have hl1 := S7.out.x.bb.lt
   have hl2 := S7.out.rs.lt
   have hl3 := S7.out.x.br.lt
   have hl5 := q8.size
   have W8 := Lib.hid sw
   have WB : Hid (∀ y, aW = some y → y.block ≠ gb ∧ y.block ≠ g ∧ y.block ≠ W.heap.size) := fun y hy => by have := sb y hy; exact ⟨by omega, by omega, by omega⟩
   obtain ⟨v, hv⟩ : ∃ v, ndV x = v := ⟨_, rfl⟩
   obtain ⟨e4, he4⟩ : ∃ v, ndE x = v := ⟨_, rfl⟩
   rw [hv] at W8 ⊢
   rw [he4]
   have V2 : Hid (ndV (deB s) = v) := by show _ = _; rw [V1.out]; exact hv
   have V3 : Hid (ndE (deB s) = e4) := by show _ = _; rw [V1.out]; exact he4
   have WL : Hid (0 < v.n → ∀ y, aW = some y → y.block < w8.heap.size) := fun h0 y hy => by
    obtain ⟨b', off', e', hc'⟩ := W8.out.some_ h0
    rw [hy] at e'; injection e' with e'; subst e'
    exact World.block_lt_of_cell? _ _ (hc' 0 h0 0 _ rfl)
   have AWB : Hid (∀ y, aW = some y → W.heap.size ≤ y.block) := fun y hy => by have := sb y hy; have := S7.out.rs.ch.size; omega
   clear sw sb q8 S7 hv he4 V1
   as_aux_lemma =>
   go_wp2_with (with_reducible (show wpList _ _ _ (⟨_, Op.alloc 41, _, _, _, _⟩ :: _) _ _); refine halt ?_)
   refine Lib.hid (wpList_allocZ rfl 41 rfl #[.int .u64 0, .string ⟨#[]⟩, .string ⟨#[]⟩, .slice none 0 0] zeroDP ?_)
   refine st_box rfl 41 _ _ rfl w8.heap.size _ [.int .u64 v.amount, .string v.sig, .string v.token, .slice aW v.n cW] rfl rfl (Box.new w8 [.int .u64 0, .string ⟨#[]⟩, .string ⟨#[]⟩, .slice none 0 0] 41) rfl (by kernel_rfl) (one4 rfl rfl rfl rfl) ?_
   intro w9 B9 c9
   have qz := (Q.refl w8).alloc (.cells #[.int .u64 0, .string ⟨#[]⟩, .string ⟨#[]⟩, .slice none 0 0] 41)
   have q9 : Q w8 w9 := c9.q qz (Nat.le_refl _)
   have S9 := Lib.hid (S8.out.q q9)
   have W9 := Lib.hid (W8.out.q q9)
   have hp1 : w8.heap.size ≠ gb := by omega
   have hl4 := S8.out.x.bb.lt
   have hp1 : gb ≠ w8.heap.size := by omega
   have BP := Lib.hid B9
   generalize w8.heap.size = gp at *
   clear B9 c9 qz q9 S8 W8 hl1 hl2 hl3 hl4 hl5
   by_cases hz3 : e4 = 0
   rotate_left
   · have t1 : (e4 == 0) = false := by simpa using hz3
     have t2 : (e4 != 0) = true := by simpa using hz3
     have DE : Hid (deE smallD s = e4) := by show _ = _; unfold deE; rw [DE0.out, if_neg (by decide), HC.out, CE.out, if_neg (by decide), DE3.out, if_neg (by decide), V3.out, if_pos hz3]
     clear CE HC DE0 DE3 V2 V3 WL
     go_wp2_with (with_reducible (show wpList _ _ _ (⟨_, Op.build 43 _, _, _, _, _⟩ :: _) _ _); refine halt ?_)
     refine Lib.hid (wpl_dtz rfl rfl _ rfl ?_)
     go_wp2_with (with_reducible (show wpList _ _ _ (⟨_, Op.store 43 _ _, _, _, _, _⟩ :: _) _ _); refine halt ?_)
     refine Lib.hid (st_box rfl 43 _ _ rfl W.heap.size _ [.slice none 0 0, .slice none 0 0, .int .u64 0, .string ⟨#[]⟩, .string ⟨#[]⟩, .slice none 0 0] rfl rfl S9.out.x.br rfl (by kernel_rfl) (one6d rfl rfl rfl rfl rfl rfl) ?_)
     intro w19 B9 c9
     have HL : Hid ((loadVar 43 ⟨W.heap.size, 0, none⟩).run Tryz.prog w19 = .ok (.agg #[.slice none 0 0, .slice none 0 0, .int .u64 0, .string ⟨#[]⟩, .string ⟨#[]⟩, .slice none 0 0]) w19) := B9.load _ Tryz.underlying43 rfl (by kernel_rfl)
     have Q9 : Hid (Q W w19) := (S9.out.rs.box c9 (Nat.le_refl _) n1).ch.q (Q.refl W) l3
     clear B9 c9
     go_wp2_with fail
     (try simp only [Exit.inBlock, Exit.then])
     refine bodyPost_ret (results_cell_tmp rfl rfl HL.out) rfl ?_
     exact DEdn.bad DE.out hz3 Q9.out
   subst hz3
   go_wp2_with (with_reducible (show wpList _ _ _ (⟨_, Op.load 41 _, _, _, _, _⟩ :: _) _ _); refine halt ?_)
   refine Lib.hid (ld_box rfl 41 _ rfl gp _ rfl BP.out Tryz.underlying41 rfl (by kernel_rfl) ?_)
   go_wp2_with (with_reducible (show wpList _ _ _ (⟨_, Op.store 41 _ _, _, _, _, _⟩ :: _) _ _); refine halt ?_)
   refine Lib.hid (st_mid rfl 41 _ _ rfl gb 2 [.slice aI (coN c) cI, .slice aO (coM c) cO, .int .u64 0, .string ⟨#[]⟩, .string ⟨#[]⟩, .slice none 0 0] [.int .u64 v.amount, .string v.sig, .string v.token, .slice aW v.n cW] rfl rfl S9.out.x.bb (by simp) (by kernel_rfl) (one4 rfl rfl rfl rfl) ?_)
   intro w10 B10 c10
   have S10 : Hid (DD W g gb [.slice aI (coN c) cI, .slice aO (coM c) cO, .int .u64 v.amount, .string v.sig, .string v.token, .slice aW v.n cW] aI b (coN c) (mixD s (coN c)) aO (coM c) (fun i => rdO smallD (coR c i)) (deR s) w10) := S9.out.put c10 B10
   have W10 := Lib.hid (W9.out.ch c10 (fun y hy => (WB.out y hy).1))
   clear B10 c10 S9 W9 BP hp1
   as_aux_lemma =>
   have TX1 : Hid (∀ w, DD W g gb [.slice aI (coN c) cI, .slice aO (coM c) cO, .int .u64 v.amount, .string v.sig, .string v.token, .slice aW v.n cW] aI b (coN c) (mixD s (coN c)) aO (coM c) (fun i => rdO smallD (coR c i)) (deR s) w → SL WN.cells 10 w aW v.n v.w → SL IN.cells 4 w aI (deX smallD s).nI (deX smallD s).ins ∧ SL OU.cells 9 w aO (deX smallD s).nO (deX smallD s).outs ∧ SL WN.cells 10 w aW (deX smallD s).p.n (deX smallD s).p.w) := fun w h hw => by
    have en : (deX smallD s).nI = coN c := by show coN (deC s) = _; rw [HC.out]
    have em : (deX smallD s).nO = coM c := by show coM (deC s) = _; rw [HC.out]
    have ep : (deX smallD s).p = v := V2.out
    rw [en, em, ep]
    refine ⟨h.sl.congr fun i hi => ?_, h.o.congr fun i hi => ?_, hw⟩
    · unfold mixD; rw [if_pos hi]; rfl
    · show _ = rdO smallD (coR (deC s) i); rw [HC.out]
   have VX : Hid (txV (deX smallD s) aI cI aO cO aW cW = .agg #[.slice aI (coN c) cI, .slice aO (coM c) cO, .int .u64 v.amount, .string v.sig, .string v.token, .slice aW v.n cW]) := by
    have en : (deX smallD s).nI = coN c := by show coN (deC s) = _; rw [HC.out]
    have em : (deX smallD s).nO = coM c := by show coM (deC s) = _; rw [HC.out]
    have ep : (deX smallD s).p = v := V2.out
    show txV _ _ _ _ _ _ _ = _
    rw [show txV (deX smallD s) aI cI aO cO aW cW = .agg #[.slice aI (deX smallD s).nI cI, .slice aO (deX smallD s).nO cO, .int .u64 (deX smallD s).p.amount, .string (deX smallD s).p.sig, .string (deX smallD s).p.token, .slice aW (deX smallD s).p.n cW] from rfl, en, em, ep]
   have DXR : deE smallD s = (deE smallD s) := rfl
   have DX4 : Hid (0 < (deR s).s.size ∨ ¬ RightT (deX smallD s) → deE smallD s = 4) := by
    show _ → _ = _; intro h; unfold deE; rw [DE0.out, if_neg (by decide), HC.out, CE.out, if_neg (by decide), DE3.out, if_neg (by decide), V3.out, if_neg (by decide), if_pos h]
   have DX5 : Hid (¬ (0 < (deR s).s.size ∨ ¬ RightT (deX smallD s)) → deE smallD s = 0) := by
    show _ → _ = _; intro h; unfold deE; rw [DE0.out, if_neg (by decide), HC.out, CE.out, if_neg (by decide), DE3.out, if_neg (by decide), V3.out, if_neg (by decide), if_neg h]
   clear DXR
   have EN : Hid ((deX smallD s).nI = coN c) := by show coN (deC s) = _; rw [HC.out]
   have OKX : Hid ((deX smallD s).ok) := deX_ok small_doc s
   clear CE DE0 DE3 V2 V3 HC WL
   obtain ⟨nl, hnl⟩ : ∃ v : Int, ((deR s).s.size : Int) = v := ⟨_, rfl⟩
   go_wp2_with fail
   refine (S10.out.rs.left_l hnl).mono ?_
   rintro r w11 ⟨rfl, q11⟩
   have S11 := Lib.hid (S10.out.q q11)
   have W11 := Lib.hid (W10.out.q q11)
   clear q11 S10 W10
   by_cases hl : 0 < nl
   · have t1 : decide (0 < nl) = true := by simpa using hl
     have DE : Hid (deE smallD s = 4) := by exact DX4.out (.inl (by omega))
     clear TX1 VX DX4 DX5
     go_wp2_with (with_reducible (show wpList _ _ _ (⟨_, Op.build 43 _, _, _, _, _⟩ :: _) _ _); refine halt ?_)
     refine Lib.hid (wpl_dtz rfl rfl _ rfl ?_)
     go_wp2_with (with_reducible (show wpList _ _ _ (⟨_, Op.store 43 _ _, _, _, _, _⟩ :: _) _ _); refine halt ?_)
     refine Lib.hid (st_box rfl 43 _ _ rfl W.heap.size _ [.slice none 0 0, .slice none 0 0, .int .u64 0, .string ⟨#[]⟩, .string ⟨#[]⟩, .slice none 0 0] rfl rfl S11.out.x.br rfl (by kernel_rfl) (one6d rfl rfl rfl rfl rfl rfl) ?_)
     intro w19 B9 c9
     have HL : Hid ((loadVar 43 ⟨W.heap.size, 0, none⟩).run Tryz.prog w19 = .ok (.agg #[.slice none 0 0, .slice none 0 0, .int .u64 0, .string ⟨#[]⟩, .string ⟨#[]⟩, .slice none 0 0]) w19) := B9.load _ Tryz.underlying43 rfl (by kernel_rfl)
     have Q9 : Hid (Q W w19) := (S11.out.rs.box c9 (Nat.le_refl _) n1).ch.q (Q.refl W) l3
     clear B9 c9
     go_wp2_with fail
     (try simp only [Exit.inBlock, Exit.then])
     refine bodyPost_ret (results_cell_tmp rfl rfl HL.out) rfl ?_
     exact DEdn.bad DE.out (by decide) Q9.out
   have t1 : decide (0 < nl) = false := by simpa using hl
   have hl0 : Hid (¬ 0 < (deR s).s.size) := by show ¬ _; omega
   go_wp2_with (with_reducible (show wpList _ _ _ (⟨_, Op.load 43 _, _, _, _, _⟩ :: _) _ _); refine halt ?_)
   refine Lib.hid (ld_boxg2d (by kernel_rfl) 43 _ rfl gb _ rfl S11.out.x.bb Tryz.underlying43 rfl (by kernel_rfl) ?_)
   go_wp2_with fail
   have HR : Hid (∀ w, SL IN.cells 4 w aI (deX smallD s).nI (deX smallD s).ins ∧ SL OU.cells 9 w aO (deX smallD s).nO (deX smallD s).outs ∧ SL WN.cells 10 w aW (deX smallD s).p.n (deX smallD s).p.w → Calls Tryz.prog 18 #[.agg #[.slice aI (coN c) cI, .slice aO (coM c) cO, .int .u64 v.amount, .string v.sig, .string v.token, .slice aW v.n cW]] w (Tells (RightT (deX smallD s)) w)) := fun w h => by rw [← VX.out]; exact d9right_x (deX smallD s) aI cI aO cO aW cW w h.1 h.2.1 h.2.2 OKX.out
   refine (HR.out _ (TX1.out _ S11.out W11.out)).mono ?_
   rintro r w12 ⟨bb, rfl, hzz, q12⟩
   have S12 := Lib.hid (S11.out.q q12)
   have W12 := Lib.hid (W11.out.q q12)
   clear q12 S11 W11 HR t1 hl hnl
   rcases two hzz with ⟨rfl, Z⟩ | ⟨rfl, Z⟩
   rotate_left
   · have DE : Hid (deE smallD s = 4) := by exact DX4.out (.inr Z)
     clear TX1 VX DX4 DX5 hzz Z
     go_wp2_with (with_reducible (show wpList _ _ _ (⟨_, Op.build 43 _, _, _, _, _⟩ :: _) _ _); refine halt ?_)
     refine Lib.hid (wpl_dtz rfl rfl _ rfl ?_)
     go_wp2_with (with_reducible (show wpList _ _ _ (⟨_, Op.store 43 _ _, _, _, _, _⟩ :: _) _ _); refine halt ?_)
     refine Lib.hid (st_box rfl 43 _ _ rfl W.heap.size _ [.slice none 0 0, .slice none 0 0, .int .u64 0, .string ⟨#[]⟩, .string ⟨#[]⟩, .slice none 0 0] rfl rfl S12.out.x.br rfl (by kernel_rfl) (one6d rfl rfl rfl rfl rfl rfl) ?_)
     intro w19 B9 c9
     have HL : Hid ((loadVar 43 ⟨W.heap.size, 0, none⟩).run Tryz.prog w19 = .ok (.agg #[.slice none 0 0, .slice none 0 0, .int .u64 0, .string ⟨#[]⟩, .string ⟨#[]⟩, .slice none 0 0]) w19) := B9.load _ Tryz.underlying43 rfl (by kernel_rfl)
     have Q9 : Hid (Q W w19) := (S12.out.rs.box c9 (Nat.le_refl _) n1).ch.q (Q.refl W) l3
     clear B9 c9
     go_wp2_with fail
     (try simp only [Exit.inBlock, Exit.then])
     refine bodyPost_ret (results_cell_tmp rfl rfl HL.out) rfl ?_
     exact DEdn.bad DE.out (by decide) Q9.out
   have D0 : Hid (deE smallD s = 0) := by exact DX5.out (fun h => h.elim (fun h => hl0.out h) (fun h => h Z))
   have V0 : Hid (deV smallD s = deX smallD s) := by show _ = _; unfold deV; rw [if_pos D0.out]
   clear DX4 DX5 hzz Z
   go_wp2_with (with_reducible (show wpList _ _ _ (⟨_, Op.load 43 _, _, _, _, _⟩ :: _) _ _); refine halt ?_)
   refine Lib.hid (ld_box rfl 43 _ rfl gb _ rfl S12.out.x.bb Tryz.underlying43 rfl (by kernel_rfl) ?_)
   refine st_box rfl 43 _ _ rfl W.heap.size _ [.slice aI (coN c) cI, .slice aO (coM c) cO, .int .u64 v.amount, .string v.sig, .string v.token, .slice aW v.n cW] rfl rfl S12.out.x.br rfl (by kernel_rfl) (one6d rfl rfl rfl rfl rfl rfl) ?_
   intro w19 B9 c9
   have HL : Hid ((loadVar 43 ⟨W.heap.size, 0, none⟩).run Tryz.prog w19 = .ok (.agg #[.slice aI (coN c) cI, .slice aO (coM c) cO, .int .u64 v.amount, .string v.sig, .string v.token, .slice aW v.n cW]) w19) := B9.load _ Tryz.underlying43 rfl (by kernel_rfl)
   have Q9 : Hid (Q W w19) := (S12.out.rs.box c9 (Nat.le_refl _) n1).ch.q (Q.refl W) l3
   have T19 := Lib.hid (TX1.out _ S12.out W12.out)
   have SI : Hid (SL IN.cells 4 w19 aI (deX smallD s).nI (deX smallD s).ins) := T19.out.1.chn_ c9 (fun h0 y hy e => by
    rcases S12.out.i with e0 | ⟨e0, _⟩
    · have en := EN.out
      omega
    · by_cases hn : coN c = 0
      · have en := EN.out
        omega
      · rw [e0] at hy; injection hy with hy; subst hy; exact (S12.out.se hn).2.2.1 e)
   have SO : Hid (SL OU.cells 9 w19 aO (deX smallD s).nO (deX smallD s).outs) := T19.out.2.1.ch c9 (fun y hy => (S12.out.so y hy).2.2.1)
   have SV : Hid (SL WN.cells 10 w19 aW (deX smallD s).p.n (deX smallD s).p.w) := T19.out.2.2.ch c9 (fun y hy => (WB.out y hy).2.2)
   clear B9 c9 S12 W12 T19 TX1
   go_wp2_with fail
   (try simp only [Exit.inBlock, Exit.then])
   refine bodyPost_ret (results_cell_tmp rfl rfl HL.out) rfl ?_
   exact ⟨aI, cI, aO, cO, aW, cW, by rw [V0.out, VX.out, D0.out]; rfl, by rw [V0.out]; exact ⟨SI.out, by rw [EN.out]; exact CL.out, SO.out, SV.out⟩, Q9.out, fun x hx => hx.elim (AIB.out x) fun hx => hx.elim (AOB.out x) (AWB.out x)⟩
/-- What Decode answers. -/
def DEd (s : ByteArray) (W : World) (r : Ending) (w' : World) : Prop := ∃ aI cI aO cO aW cW, r = .returned (.tuple #[txV (deV smallD s) aI cI aO cO aW cW, .int .i64 (deE smallD s)]) ∧
 SL IN.cells 4 w' aI (deV smallD s).nI (deV smallD s).ins ∧ SL OU.cells 9 w' aO (deV smallD s).nO (deV smallD s).outs ∧ SL WN.cells 10 w' aW (deV smallD s).p.n (deV smallD s).p.w ∧ Q W w'
end Go.Proofs.YtjiepemapffgjaaGreatDoor.Coi
