/-
  Layer 6: the walk of the program's ends.
-/
import Derived.Test.YtnghhagiokiaoaaDoorWotT
namespace Go.Proofs.YtnghhagiokiaoaaDoor.Wot
open Go.RowKit
open Mem Sh
set_option linter.unusedVariables false
attribute [local go_sem] Oper.semAt_some

/-- Texts of places, one behind the other. -/
def catL (F : Nat → ByteArray) (l : List Pl) : ByteArray := l.foldl (fun s x => s ++ F x.1) ⟨#[]⟩
theorem catL_snoc (F : Nat → ByteArray) (l : List Pl) (x : Pl) : catL F (l ++ [x]) = catL F l ++ F x.1 := by unfold catL; rw [List.foldl_append]; rfl
theorem catL_upto (F : Nat → ByteArray) : ∀ k, k ≤ 18 → catL F (upto k) = cat F k
  | 0, _ => rfl
  | k + 1, hk => by rw [upto_succ, catL_snoc, pl_val k (by omega), catL_upto F k (by omega)]; rfl
theorem fold_size (F : Nat → ByteArray) (h : ∀ i, i < 18 → (F i).size = 16) : ∀ (l : List Pl) (s : ByteArray), (l.foldl (fun s x => s ++ F x.1) s).size = s.size + 16 * l.length
  | [], s => by simp
  | x :: l, s => by
    show (l.foldl _ (s ++ F x.1)).size = _
    rw [fold_size F h l, ByteArray.size_append, h x.1 x.2, List.length_cons]; omega
theorem catL_size (F : Nat → ByteArray) (h : ∀ i, i < 18 → (F i).size = 16) (l : List Pl) : (catL F l).size = 16 * l.length := by
  unfold catL; rw [fold_size F h l]; show 0 + _ = _; omega
theorem ub_kept {B b : Nat} {bs : List Value} {W W' : World} {row : Option Nat} (h : UB B b bs W) (hg : W.grownBy W' row) (hr : ∀ r, row = some r → ∃ o : Obj, W.heap[r]? = some o ∧ o.isCells = false) : UB B b bs W' := by
  obtain ⟨hB, v, hbk, hown, hne⟩ := h
  refine ⟨hB, v, (grownBy_keeps_cells hg hr hbk rfl).trans hbk, hown.kept hg ?_, hne⟩
  rcases hown.2 with ⟨rfl, _⟩ | ⟨g, cap, cur, rfl, _, hgb, _⟩
  · exact .inl rfl
  · refine .inr fun e' => ?_
    obtain ⟨o, ho, hc⟩ := hr g (by simpa [Value.ownBlock] using e'.symm)
    rw [hgb] at ho; cases ho; cases hc
theorem ub_q {B b : Nat} {bs : List Value} {W W' : World} (h : UB B b bs W) (q : Q W W') : UB B b bs W' :=
  ub_kept (row := none) h ⟨q.os, q.tape, q.output, q.size, fun k hk _ => q.block k hk⟩ (fun r e => by cases e)
/-- Where ends stands: the texts s are written; all of W0 is as it was. -/
structure EI (W0 : World) (s : ByteArray) (W : World) : Prop where
  u : UB W0.heap.size W0.heap.size (Lib.strCells s) W
  q : Q W0 W
theorem EI.own {β : Type} {W0 : World} {B : Nat} (F : β → ByteArray) (hB : W0.heap.size ≤ B) : OwnFrom B (fun pre W => EI W0 (F pre) W) := fun s X Y row h hg hr =>
  ⟨ub_kept h.u hg (fun r e => (hr r e).2), Below.grown h.q hg h.q.size (fun k e => Nat.le_trans hB (hr k e).1)⟩
theorem EI.drew {W0 W : World} {s : ByteArray} (h : EI W0 s W) : EI W0 s W.drew := ⟨h.u, h.q.drew⟩
theorem EI.q_q {W0 W W' : World} {s : ByteArray} (h : EI W0 s W) (q : Q W W') : EI W0 s W' := ⟨ub_q h.u q, h.q.trans q⟩
theorem strCells_app (a b : ByteArray) : Lib.strCells a ++ Lib.strCells b = Lib.strCells (a ++ b) := by
  unfold Lib.strCells; rw [← List.map_append, ByteArray.data_append, Array.toList_append]
theorem EI.write {W0 W : World} {s : ByteArray} (h : EI W0 s W) (t : ByteArray) (hs : s.size ≤ 1000000) (h0 : 0 < t.size) (h1 : t.size ≤ 1000000) :
    Calls Tryd.prog 69 #[.pointer (some ⟨W0.heap.size, 0, none⟩), .string t] W fun e w' =>
      e = .returned (.tuple #[.int .i64 t.size, .nilIface]) ∧ EI W0 (s ++ t) w' ∧ KeepsOthers W w' :=
  (writeS_any _ _ _ t W h.u (by rw [Lib.strCells_length]; omega) h0 h.q.size).mono fun e w' ⟨he, hu, hb, hk⟩ => ⟨he, ⟨by rw [← strCells_app]; exact hu, Below.trans h.q hb⟩, hk⟩

set_option maxRecDepth 100000 in
set_option maxHeartbeats 4000000 in
theorem ends_any (gf gb : Nat) (eg : ∀ args w, (callFunc gf args).run Tryd.prog w = .ok (.enter gf args) w) (f : Nat → ByteArray) (d : Nat → Int) (w : World) (hG : GL w)
    (hf : ∀ wr, Q w wr → ∀ i : Nat, i < 18 → Calls Tryd.prog gf #[.int .i64 i, .pointer (some ⟨gb, 0, none⟩)] wr fun e w' => e = .returned (.string (f i)) ∧ Q wr w')
    (hz : ∀ i, i < 18 → (f i).size = 16) (hd : ∀ i, 0 ≤ d i ∧ d i ≤ 15) :
    Calls Tryd.prog 61 #[.func (.func gf) #[] #[.pointer (some ⟨gb, 0, none⟩)], arr .i64 18 d] w fun e w' => e = .returned (.string (cat (fun i => stp i (f i) (d i).toNat) 18)) ∧ Q w w' := by
  have HF := Lib.hid hf
  have HZ := Lib.hid hz
  have HD := Lib.hid hd
  have HP : Hid (∀ i, i < 18 → (stp i (f i) (d i).toNat).size = 16) := fun i hi => stp_size i _ (hz i hi) _
  have R0 := Lib.hid fun t t' => (Row.boxed .i64 (w.alloc (.cells #[.func (.func gf) #[] #[.pointer (some ⟨gb, 0, none⟩)]] t)) 18 d t')
  have hbx : ∀ (w : World) (t : TypeId) (cs : Array Value), (Instr.box t (.agg cs)).run Tryd.prog w = .ok (.pointer (some ⟨w.heap.size, 0, none⟩)) (w.alloc (.cells cs t)) := fun w t cs => box_arr w t cs
  clear hf hz hd
  refine (callsIn_wide (n := 3)).1 ?_
  refine callsIn_of_wp_marks Tryd.func61 rfl trivial ?_ rfl
  unfold arr
  generalize (cl .i64 18 d).toArray = A at *
  simp only [Tryd.ntmps61, List.size_toArray, List.length_cons, List.length_nil, Nat.reduceAdd, Nat.reduceSub, Array.replicate_succ, Array.replicate_zero, List.push_toArray, List.append_toArray, List.nil_append, List.cons_append]
  gi_wp2_with fail
  have RA := Lib.hid (R0.out 60 76)
  have hsz : ((w.alloc (.cells #[.func (.func gf) #[] #[.pointer (some ⟨gb, 0, none⟩)]] 60)).alloc (.cells A 76)).heap.size = w.heap.size + 1 + 1 := by simp
  have BA : Hid (((w.alloc (.cells #[.func (.func gf) #[] #[.pointer (some ⟨gb, 0, none⟩)]] 60)).alloc (.cells A 76)).cell? ⟨w.heap.size, 0, none⟩ = some (.func (.func gf) #[] #[.pointer (some ⟨gb, 0, none⟩)])) := by
    show _ = _
    rw [Q.cell ((Q.refl (w.alloc (.cells #[.func (.func gf) #[] #[.pointer (some ⟨gb, 0, none⟩)]] 60))).alloc _) (p := ⟨w.heap.size, 0, none⟩) (by simp), World.cell?_alloc_at _ _ _ _ rfl]
    rfl
  have QW := Lib.hid (((Q.refl w).alloc (.cells #[.func (.func gf) #[] #[.pointer (some ⟨gb, 0, none⟩)]] 60)).alloc (.cells A 76))
  rw [show (w.alloc (.cells #[.func (.func gf) #[] #[.pointer (some ⟨gb, 0, none⟩)]] 60)).heap.size = w.heap.size + 1 by simp] at RA
  clear R0 hbx
  generalize ((w.alloc (.cells #[.func (.func gf) #[] #[.pointer (some ⟨gb, 0, none⟩)]] 60)).alloc (.cells A 76)) = W0 at *
  have CG := Lib.hid (Tryd.Builder_Grow_fresh W0.heap.size W0.heap.size 288 (W0.alloc (.cells #[.pointer none, .slice none 0 0] 84)) (Nat.le_refl _) (show (W0.heap.push _)[W0.heap.size]? = _ by simp) (by simp) (by omega))
  rw [← hsz]
  have h01 : w.heap.size + 1 < W0.heap.size := by omega
  clear hsz
  refine ⟨trivial, ?_⟩
  refine (callsIn_wide.2 CG.out).mono ?_
  rintro e w2 ⟨rfl, hu2, hb2⟩
  have H2 : Hid (EI W0 (catL (fun i => stp i (f i) (d i).toNat) []) w2) := ⟨hu2, Below.trans ((Below.refl _ _).alloc (Nat.le_refl _) _) hb2⟩
  have hs2 : W0.heap.size ≤ w2.heap.size := H2.out.q.size
  have hs3 : W0.heap.size < w2.heap.size := H2.out.u.lt
  clear hu2 hb2 CG
  gi_wp2_with fail
  refine wpIn_rangeFunc_ownG rfl (by omega) (gf := 80) (lb := #[]) rfl trivial (enters_of Tryd.func80 (by kernel_rfl) rfl)
    (each_stops Fence.wide _ trivial rfl (by omega) w2) (fun _ _ => trivial) (fun _ _ _ _ _ _ _ _ => trivial) (Below.refl _ _) (fun _ => rfl)
    (fun pre W => EI W0 (catL (fun i => stp i (f i) (d i).toNat) pre) W) (fun _ _ _ => False)
    (EI.own (catL fun i => stp i (f i) (d i).toNat) hs2) (fun _ _ _ _ _ hs _ _ => hs) H2.out
    (fun x => { tmps := #[.func (.func gf) #[] #[.pointer (some ⟨gb, 0, none⟩)], .agg A, .pointer (some ⟨w.heap.size, 0, none⟩), .pointer (some ⟨w.heap.size + 1, 0, none⟩), .string ⟨#[]⟩, .pointer (some ⟨W0.heap.size, 0, none⟩), .int .i64 x.1, .tuple #[], .int .i64 x.1, undef, undef, undef, undef, undef, undef, undef, undef, undef, undef], defers := [] }) ?assign ?body ?done ?stop
  case assign =>
    intro l x W K hK
    unfold encP
    gi_wp2
    exact hK
  case body =>
    rintro l pre x W h hlen
    have HI := Lib.hid h
    obtain ⟨b0, b1⟩ := HD.out x.1
    obtain ⟨dn, ed⟩ := Int.eq_ofNat_of_zero_le b0
    have d15 : dn ≤ 15 := by omega
    have x0 : (0 : Int) ≤ (x.1 : Int) := by omega
    have x1 : (x.1 : Int) < 18 := by have := x.2; omega
    have xl := x.2
    have zs := catL_size _ HP.out pre
    obtain ⟨t, et⟩ : ∃ t, f x.1 = t := ⟨_, rfl⟩
    have zt : t.size = 16 := by rw [← et]; exact HZ.out x.1 xl
    obtain ⟨y, ey⟩ : ∃ y, stp x.1 t dn = y := ⟨_, rfl⟩
    have zy : y.size = 16 := by rw [← ey]; exact stp_size _ _ zt _
    have HN : Hid (catL (fun i => stp i (f i) (d i).toNat) pre ++ y = catL (fun i => stp i (f i) (d i).toNat) (pre ++ [x])) := by
      show _ = _
      rw [catL_snoc, et, ed, ← ey]; rfl
    have CC : Hid (∀ w', Q W0 w' → w'.cell? ⟨w.heap.size, 0, none⟩ = some (.func (.func gf) #[] #[.pointer (some ⟨gb, 0, none⟩)]) ∧ w'.cell? ⟨w.heap.size + 1, x.1, none⟩ = some (.int .i64 (dn : Int))) := fun w' hq => by
      refine ⟨(hq.cell (p := ⟨w.heap.size, 0, none⟩) (by show w.heap.size < _; omega)).trans BA.out, ?_⟩
      have := (RA.out.q hq (by omega)).at0 x.1 xl
      rw [ed] at this; exact this
    have C1 : Hid (∀ wr, Q W0 wr → Calls Tryd.prog gf #[.int .i64 (x.1 : Nat), .pointer (some ⟨gb, 0, none⟩)] wr fun e w' => e = .returned (.string t) ∧ Q wr w') := fun wr hq => by
      have := HF.out wr (QW.out.trans hq) x.1 xl
      rw [et] at this; exact this
    have C2 : Hid (∀ wr, Q W0 wr → Calls Tryd.prog 81 #[.int .i64 (x.1 : Nat), .string t, .int .i64 (dn : Nat)] wr fun e w' => e = .returned (.string y) ∧ Q wr w') := fun wr hq =>
      step_x x.1 dn t y ey wr (Q.refl wr) (hG.q (QW.out.trans hq)) (by omega) zt d15
    have C3 := Lib.hid fun wr (hi : EI W0 (catL (fun i => stp i (f i) (d i).toNat) pre) wr) => hi.write y (by omega) (by omega) (by omega)
    rw [HN.out] at C3
    clear h et ey ed b0 b1 zs HN
    generalize catL (fun i => stp i (f i) (d i).toNat) pre = sp at *
    gi_wp2_with fail
    refine region_round (S := fun w' => w'.cell? ⟨w.heap.size, 0, none⟩ = some (.func (.func gf) #[] #[.pointer (some ⟨gb, 0, none⟩)]) ∧ w'.cell? ⟨w.heap.size + 1, x.1, none⟩ = some (.int .i64 (dn : Int))) (by kernel_rfl) (fun ⟨_, _, h⟩ => h) (by kernel_rfl) (CC.out _ (HI.out.q.drew)) (fun hHeld => ?_)
    refine wpAnyH_take (i := 0) (v := ?_) (by simp only [List.getElem?_toArray, List.getElem?_cons_zero]; rfl) (by kernel_rfl) (by kernel_rfl) (by kernel_rfl) (by exact fun _ _ _ h => h) (Or.inl ⟨by rfl, ?_⟩) (by assumption) ?_
    rotate_left
    · (intro wx hSw; (try dsimp only at hSw); obtain ⟨hS1, hS2⟩ := hSw; go_simp; (try rw [if_neg (by omega)]); try (with_reducible rfl))
    try simp only [Act.put, List.setIfInBounds_toArray, List.set_cons_zero, List.set_cons_succ]
    refine wpAnyH_take (i := 1) (v := ?_) (by simp only [List.getElem?_toArray, List.getElem?_cons_zero, List.getElem?_cons_succ]; rfl) (by kernel_rfl) (by kernel_rfl) (by kernel_rfl) (by exact fun _ _ _ h => h) (Or.inl ⟨by rfl, ?_⟩) (by assumption) ?_
    rotate_left
    · (intro wx hSw; (try dsimp only at hSw); obtain ⟨hS1, hS2⟩ := hSw; go_simp; (try rw [if_neg (by omega)]); try (with_reducible rfl))
    try simp only [Act.put, List.setIfInBounds_toArray, List.set_cons_zero, List.set_cons_succ]
    refine wpAnyH_take (i := 2) (v := ?_) (by simp only [List.getElem?_toArray, List.getElem?_cons_zero, List.getElem?_cons_succ]; rfl) (by kernel_rfl) (by kernel_rfl) (by kernel_rfl) (by exact fun _ _ _ h => h) (Or.inl ⟨by rfl, ?_⟩) (by assumption) ?_
    rotate_left
    · (intro wx hSw; (try dsimp only at hSw); obtain ⟨hS1, hS2⟩ := hSw; go_simp; (try rw [if_neg (by omega)]); try (with_reducible rfl))
    try simp only [Act.put, List.setIfInBounds_toArray, List.set_cons_zero, List.set_cons_succ]
    refine wpAnyH_take (i := 4) (v := ?_) (by simp only [List.getElem?_toArray, List.getElem?_cons_zero, List.getElem?_cons_succ]; rfl) (by kernel_rfl) (by kernel_rfl) (by kernel_rfl) (by exact fun _ _ _ h => h) (Or.inl ⟨by rfl, ?_⟩) (by assumption) ?_
    rotate_left
    · (intro wx hSw; (try dsimp only at hSw); obtain ⟨hS1, hS2⟩ := hSw; go_simp; (try rw [if_neg (by omega)]); try (with_reducible rfl))
    try simp only [Act.put, List.setIfInBounds_toArray, List.set_cons_zero, List.set_cons_succ]
    refine wpAnyH_take (i := 5) (v := ?_) (by simp only [List.getElem?_toArray, List.getElem?_cons_zero, List.getElem?_cons_succ]; rfl) (by kernel_rfl) (by kernel_rfl) (by kernel_rfl) (by exact fun _ _ _ h => h) (Or.inl ⟨by rfl, ?_⟩) (by assumption) ?_
    rotate_left
    · (intro wx hSw; (try dsimp only at hSw); obtain ⟨hS1, hS2⟩ := hSw; go_simp; (try rw [if_neg (by omega)]); try (with_reducible rfl))
    try simp only [Act.put, List.setIfInBounds_toArray, List.set_cons_zero, List.set_cons_succ]
    refine wpAnyH_take (i := 6) (v := ?_) (by simp only [List.getElem?_toArray, List.getElem?_cons_zero, List.getElem?_cons_succ]; rfl) (by kernel_rfl) (by kernel_rfl) (by kernel_rfl) (by exact fun _ _ _ h => h) (Or.inl ⟨by rfl, ?_⟩) (by assumption) ?_
    rotate_left
    · (intro wx hSw; (try dsimp only at hSw); obtain ⟨hS1, hS2⟩ := hSw; go_simp; (try rw [if_neg (by omega)]); try (with_reducible rfl))
    try simp only [Act.put, List.setIfInBounds_toArray, List.set_cons_zero, List.set_cons_succ]
    refine wpAnyH_ready (rs := [3]) (by kernel_rfl) (by simp) ?_
    refine AllReadyH.cons (by simp only [List.getElem?_toArray, List.getElem?_cons_succ, List.getElem?_cons_zero]; rfl) (fun K hK => ?_) AllReadyH.nil
    go_simp
    refine (C1.out _ HI.out.q.drew).mono ?_
    rintro r w1 ⟨rfl, q1⟩
    have H1 := Lib.hid (HI.out.drew.q_q q1)
    have K1 := Lib.hid ((KeepsOthers.drew W).trans (keeps_q q1))
    clear q1 C1
    dsimp only
    refine hK.out _ _ (CC.out _ H1.out.q) (fun hHeld3 => ?_)
    clear hK K
    try simp only [Act.put, List.setIfInBounds_toArray, List.set_cons_zero, List.set_cons_succ]
    refine wpAnyH_ready (rs := [7]) (by kernel_rfl) (by simp) ?_
    refine AllReadyH.cons (by simp only [List.getElem?_toArray, List.getElem?_cons_succ, List.getElem?_cons_zero]; rfl) (fun K hK => ?_) AllReadyH.nil
    go_simp
    refine (C2.out _ H1.out.q).mono ?_
    rintro r w2 ⟨rfl, q2⟩
    have H2 := Lib.hid (H1.out.q_q q2)
    have K2 := Lib.hid (K1.out.trans (keeps_q q2))
    clear q2 C2
    dsimp only
    refine hK.out _ _ (CC.out _ H2.out.q) (fun hHeld7 => ?_)
    clear hK K
    try simp only [Act.put, List.setIfInBounds_toArray, List.set_cons_zero, List.set_cons_succ]
    refine wpAnyH_ready (rs := [8]) (by kernel_rfl) (by simp) ?_
    refine AllReadyH.cons (by simp only [List.getElem?_toArray, List.getElem?_cons_succ, List.getElem?_cons_zero]; rfl) (fun K hK => ?_) AllReadyH.nil
    go_simp
    refine (C3.out _ H2.out).mono ?_
    rintro r w3 ⟨rfl, q3, k3⟩
    have H3 := Lib.hid q3
    have K3 := Lib.hid (K2.out.trans k3)
    clear q3 k3 C3
    dsimp only
    refine hK.out _ _ (CC.out _ H3.out.q) (fun hHeld8 => ?_)
    clear hK K
    try simp only [Act.put, List.setIfInBounds_toArray, List.set_cons_zero, List.set_cons_succ]
    refine wpAnyH_done (by kernel_rfl) ?_ _
    exact ⟨K3.out.from _, trivial, H3.out⟩
  case done =>
    rintro D ys W hD rfl h hK
    rw [catL_upto _ 18 (by omega)] at h
    have CS := Lib.hid (Tryd.Builder_String_any_k W0.heap.size W0.heap.size (cat (fun i => stp i (f i) (d i).toNat) 18).data.toList W (.inr (Lib.BuilderAtF.of h.u)) h.q.size)
    have HQ := Lib.hid h.q
    have HK := Lib.hid hK
    clear h hK
    gi_wp2_with fail
    refine ⟨trivial, ?_⟩
    refine (callsIn_wide.2 CS.out).mono ?_
    rintro e w5 ⟨rfl, _, hb5, hk5⟩
    have H5 : Hid (w5.heap[D]? = some (.deferred (some []))) := hk5 D _ HK.out (by intro e; injection e; omega) (by intro c fz e; cases e)
    have Q5 : Hid (Q w w5) := QW.out.trans (Below.trans HQ.out hb5)
    clear hb5 hk5
    gi_wp2_with fail
    refine ⟨by simp, .inl ⟨_, _, rfl, run_takeDeferred H5.out, ?_⟩⟩
    exact ⟨_, results_tmp rfl _ _ _, rfl, q_putObj Q5.out _ (by omega) H5.out⟩
  case stop =>
    rintro D c pre W _ _ h _
    exact h.elim
end Go.Proofs.YtnghhagiokiaoaaDoor.Wot
