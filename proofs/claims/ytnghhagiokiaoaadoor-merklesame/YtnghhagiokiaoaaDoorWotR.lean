/-
  Layer 6: the walk of the program's rest.
-/
import Derived.Test.YtnghhagiokiaoaaDoorWotI
namespace Go.Proofs.YtnghhagiokiaoaaDoor.Wot
open Go.RowKit Go.Shelf
open Mem
set_option linter.unusedVariables false
attribute [local go_sem] Oper.semAt_some

/-! ### What a turn of a block that is no cells leaves -/
theorem Row.kept {k : IntKind} {W W' : World} {row : Option Nat} {g o n : Nat} {f : Nat → Int} (h : Row k W g o n f) (hg : W.grownBy W' row) (hr : ∀ r, row = some r → ∃ o : Obj, W.heap[r]? = some o ∧ o.isCells = false) : Row k W' g o n f :=
  fun i hi => cell_kept (h i hi) hg hr
theorem there_kept {W W' : World} {row : Option Nat} {g o n : Nat} (h : W.there g o n) (hg : W.grownBy W' row) (hr : ∀ r, row = some r → ∃ o : Obj, W.heap[r]? = some o ∧ o.isCells = false) : W'.there g o n := fun j hj => by
  obtain ⟨h1, h2⟩ := h j hj
  obtain ⟨v, hv⟩ := Option.isSome_iff_exists.1 h1
  exact ⟨by rw [cell_kept hv hg hr]; rfl, (frozen_kept hv hg hr).trans h2⟩
theorem keeps_q {W W' : World} (h : Q W W') : KeepsOthers W W' := ⟨h.size, fun k o hk _ => (h.block k (Array.getElem?_eq_some_iff.1 hk).1).trans hk⟩
theorem q_putObj {w W : World} (h : Q w W) {l : Nat} {o : Obj} (o' : Obj) (hl : w.heap.size ≤ l) (ho : W.heap[l]? = some o) : Q w (W.putObj l o') :=
  Below.grown h (grownBy_putObj' W l o') h.size (fun k e => by cases e; exact hl)

/-- The cells of a new array. -/
def Z18 : Array Value := Array.replicate 18 (.int .i64 0)
theorem al18 (w : World) : (Instr.alloc 76 true (.tuple #[])).run Tryd.prog w = .ok (.pointer (some ⟨w.heap.size, 0, none⟩)) (w.alloc (.cells Z18 76)) := by kernel_rfl
theorem keeps_setCells (b : Nat) : ∀ (vs : List Value) (o : Nat) (w : World), KeepsOthers w (w.setCells b o vs)
  | [], _, w => KeepsOthers.refl w
  | v :: r, o, w => (KeepsOthers.setCell w _ v).trans (keeps_setCells b r _ _)
theorem info18 : (Tryd.prog.info? 76).map (·.size) = some 18 := by kernel_rfl
theorem loadAt18 {w : World} {g : Nat} {f : Nat → Int} (h : Row .i64 w g 0 18 f) (C : List Value) (hC : cl .i64 18 f = C) : (Instr.loadAt 76 (.pointer (some ⟨g, 0, none⟩))).run Tryd.prog w = .ok (.agg C.toArray) w := by
  subst hC; exact run_loadAt_mid w g 0 76 (cl .i64 18 f) _ h.range Tryd.underlying76 rfl (by rw [cl_len]; exact info18)
theorem load18 {w : World} {g : Nat} {f : Nat → Int} (h : Row .i64 w g 0 18 f) : (loadVar 76 ⟨g, 0, none⟩).run Tryd.prog w = .ok (arr .i64 18 f) w :=
  run_loadVar_mid w g 0 76 (cl .i64 18 f) _ h.range Tryd.underlying76 rfl (by rw [cl_len]; exact info18)
theorem storeAt18 {w : World} {g : Nat} (h : w.there g 0 18) (C : List Value) (f : Nat → Int) (hC : cl .i64 18 f = C) : (Instr.storeAt 76 (.pointer (some ⟨g, 0, none⟩)) (.agg C.toArray)).run Tryd.prog w = .ok () (w.setCells g 0 C) := by
  subst hC; exact run_storeAt_mid w g 0 76 (cl .i64 18 f).toArray (by rw [List.size_toArray, cl_len]; exact h) (by rw [List.size_toArray, cl_len]; exact info18) (cl_one _ _ _)
theorem there_new (w : World) (n : Nat) (v : Value) (t : TypeId) : (w.alloc (.cells (Array.replicate n v) t)).there w.heap.size 0 n := by
  intro j hj
  refine ⟨?_, made_frozen w _ _ _⟩
  rw [World.cell?_alloc_at _ _ _ _ rfl, Nat.zero_add]
  simp [hj]
theorem there_set {w : World} {b o n : Nat} (h : w.there b o n) (p : Nat) (x : Nat) (v : Value) : (w.setCell ⟨p, x, none⟩ v).there b o n := World.there_setCells h p x [v]

section
variable {P : Program} {F : Fence} {n : Nat}
theorem wpListIn_load_mid (hro : F.round = none) {ops : Array Oper} {rest : List Oper} {op : Oper} {a : Act} {w : World} {Q : Exit → Act → World → Prop} (hgd : op.guard = none) (ty : TypeId) (x : Operand) (ho : op.op = .load ty x)
    (v : Value) (b o : Nat) (hx : a.eval x = .pointer (some ⟨b, o, none⟩)) (hl : (Instr.loadAt ty (.pointer (some ⟨b, o, none⟩))).run P w = .ok v w)
    (h : wpListIn F n P ops Q rest (a.put op.dst v) w) : wpListIn F n P ops Q (op :: rest) a w :=
  wpListIn_plain hgd fun _ hK => by
    refine ⟨fun f hf => ?_, ?_⟩
    · unfold Oper.about at hf; rw [ho] at hf; cases hf
    · rw [hro, Oper.semAt_none]; unfold execOp; simp only [ho, hx, Sem.run_bind, hl, Result.andThen_ok, Sem.run_pure]; exact hK _ _ h
theorem wpListIn_store_mid (hro : F.round = none) {ops : Array Oper} {rest : List Oper} {op : Oper} {a : Act} {w w' : World} {Q : Exit → Act → World → Prop} (hgd : op.guard = none) (ty : TypeId) (x y : Operand) (ho : op.op = .store ty x y)
    (v : Value) (b o : Nat) (hx : a.eval x = .pointer (some ⟨b, o, none⟩)) (hy : a.eval y = v) (hl : (Instr.storeAt ty (.pointer (some ⟨b, o, none⟩)) v).run P w = .ok () w')
    (h : wpListIn F n P ops Q rest (a.put op.dst undef) w') : wpListIn F n P ops Q (op :: rest) a w :=
  wpListIn_plain hgd fun _ hK => by
    refine ⟨fun f hf => ?_, ?_⟩
    · unfold Oper.about at hf; rw [ho] at hf; cases hf
    · rw [hro, Oper.semAt_none]; unfold execOp; simp only [ho, hx, hy, Sem.run_bind, hl, Result.andThen_ok, Sem.run_pure]; exact hK _ _ h
end

/-! ### rest -/
def restL (d : Nat → Int) (l : List Pl) : Nat → Int := l.foldl (fun d x => upd d x.1 (15 - d x.1)) d
theorem restL_snoc (d : Nat → Int) (l : List Pl) (x : Pl) : restL d (l ++ [x]) = upd (restL d l) x.1 (15 - restL d l x.1) := by unfold restL; rw [List.foldl_append]; rfl
theorem upd_bd {f : Nat → Int} (h : ∀ j, 0 ≤ f j ∧ f j ≤ 15) (x : Nat) (v : Int) (h0 : 0 ≤ v) (h1 : v ≤ 15) (j : Nat) : 0 ≤ upd f x v j ∧ upd f x v j ≤ 15 := by
  unfold upd; split
  · exact ⟨h0, h1⟩
  · exact h j
theorem restL_bd (l : List Pl) : ∀ (d : Nat → Int), (∀ j, 0 ≤ d j ∧ d j ≤ 15) → ∀ j, 0 ≤ restL d l j ∧ restL d l j ≤ 15 := by
  induction l with
  | nil => exact fun d h => h
  | cons x l ih => exact fun d h => ih _ (upd_bd h _ _ (by have := h x.1; omega) (by have := h x.1; omega))
theorem restL_upto (d : Nat → Int) : ∀ k, k ≤ 18 → ∀ j, restL d (upto k) j = if j < k then 15 - d j else d j
  | 0, _, j => by rw [if_neg (by omega)]; rfl
  | k + 1, hk, j => by
    have ih := restL_upto d k (by omega)
    rw [upto_succ, restL_snoc, pl_val k (by omega), ih k, if_neg (by omega)]
    unfold upd
    by_cases e : j = k
    · subst e; rw [if_pos rfl, if_pos (by omega)]
    · rw [if_neg e, ih j]
      by_cases e' : j < k
      · rw [if_pos e', if_pos (by omega)]
      · rw [if_neg e', if_neg (by omega)]
/-- Where rest stands. -/
structure RI (w : World) (g g1 : Nat) (f : Nat → Int) (W : World) : Prop where
  r : Row .i64 W g 0 18 f
  fz : ∀ i, i < 18 → W.frozen? ⟨g, i, none⟩ = false
  th : W.there g1 0 18
  q : Q w W
theorem RI.own {β : Type} {w : World} {B g g1 : Nat} (F : β → Nat → Int) (hB : w.heap.size ≤ B) : OwnFrom B (fun pre W => RI w g g1 (F pre) W) := fun s X Y row h hg hr =>
  ⟨Row.kept h.r hg (fun r e => (hr r e).2), fun i hi => (frozen_kept (h.r.at0 i hi) hg (fun r e => (hr r e).2)).trans (h.fz i hi), there_kept h.th hg (fun r e => (hr r e).2),
    Below.grown h.q hg h.q.size (fun k e => Nat.le_trans hB (hr k e).1)⟩
theorem RI.set {w W : World} {g g1 : Nat} {f : Nat → Int} (h : RI w g g1 f W) (hg : w.heap.size ≤ g) (x : Nat) (hx : x < 18) (v : Int) : RI w g g1 (upd f x v) (W.setCell ⟨g, x, none⟩ (.int .i64 v)) :=
  ⟨h.r.set x hx v, fun i hi => by rw [World.frozen?_setCell]; exact h.fz i hi, there_set h.th _ _ _, h.q.setCell (p := ⟨g, x, none⟩) hg _⟩
theorem RI.start (w : World) (d : Nat → Int) (t t' : TypeId) : RI w w.heap.size (w.heap.size + 1) d ((w.alloc (.cells (cl .i64 18 d).toArray t)).alloc (.cells Z18 t')) := by
  have s1 : (w.alloc (.cells (cl .i64 18 d).toArray t)).heap.size = w.heap.size + 1 := by simp
  have th := there_new (w.alloc (.cells (cl .i64 18 d).toArray t)) 18 (.int .i64 0) t'
  rw [s1] at th
  refine ⟨(Row.boxed .i64 w 18 d t).q ((Q.refl _).alloc _) (by simp), fun i hi => ?_, th, ((Q.refl w).alloc _).alloc _⟩
  rw [Q.frozen ((Q.refl (w.alloc (.cells (cl .i64 18 d).toArray t))).alloc _) (p := ⟨w.heap.size, i, none⟩) (by simp)]
  exact made_frozen w _ _ _

set_option maxRecDepth 100000 in
set_option maxHeartbeats 2000000 in
theorem rest_any (d : Nat → Int) (w : World) (hd : ∀ j, 0 ≤ d j ∧ d j ≤ 15) :
    Calls Tryd.prog 63 #[arr .i64 18 d] w fun e w' => e = .returned (arr .i64 18 (fun j => 15 - d j)) ∧ Q w w' := by
  have HS := Lib.hid (RI.start w d 76 76)
  have HB := Lib.hid fun l => restL_bd l d hd
  have hbx : ∀ (w : World) (t : TypeId) (cs : Array Value), (Instr.box t (.agg cs)).run Tryd.prog w = .ok (.pointer (some ⟨w.heap.size, 0, none⟩)) (w.alloc (.cells cs t)) := fun w t cs => box_arr w t cs
  refine (callsIn_wide (n := 3)).1 ?_
  refine callsIn_of_wp_marks Tryd.func63 rfl trivial ?_ rfl
  unfold arr
  generalize (cl .i64 18 d).toArray = A at *
  simp only [Tryd.ntmps63, List.size_toArray, List.length_cons, List.length_nil, Nat.reduceAdd, Nat.reduceSub, Array.replicate_succ, Array.replicate_zero, List.push_toArray, List.append_toArray, List.nil_append, List.cons_append]
  gi_wp2
  have hsz : ((w.alloc (.cells A 76)).alloc (.cells Z18 76)).heap.size = w.heap.size + 2 := by simp
  clear hbx hd
  show Code.wpIn _ _ _ _ _ _ ((w.alloc (.cells A 76)).alloc (.cells Z18 76))
  generalize ((w.alloc (.cells A 76)).alloc (.cells Z18 76)) = W0 at *
  have hg1 : w.heap.size ≤ w.heap.size + 1 := by omega
  have hne : w.heap.size ≠ w.heap.size + 1 := by omega
  have hle : w.heap.size ≤ w.heap.size := Nat.le_refl _
  refine wpIn_rangeFunc_ownG rfl (by omega) (gf := 80) (lb := #[]) rfl trivial (enters_of Tryd.func80 (by kernel_rfl) rfl)
    (each_stops Fence.wide _ trivial rfl (by omega) W0) (fun _ _ => trivial) (fun _ _ _ _ _ _ _ _ => trivial) (Below.refl _ _) (fun _ => rfl)
    (fun pre W => RI w w.heap.size (w.heap.size + 1) (restL d pre) W) (fun _ _ _ => False)
    (RI.own (restL d) (by omega)) (fun _ _ _ _ _ hs _ _ => hs) HS.out
    (fun x => { tmps := #[.agg A, .pointer (some ⟨w.heap.size, 0, none⟩), .pointer (some ⟨w.heap.size + 1, 0, none⟩), .int .i64 x.1, .int .i64 x.1, undef, undef, undef, undef, undef, undef, undef], defers := [] }) ?assign ?body ?done ?stop
  case assign =>
    intro l x W K hK
    unfold encP
    gi_wp2
    exact hK
  case body =>
    rintro l pre x W h _
    have c := h.r.at0 x.1 x.2
    have f := h.fz x.1 x.2
    obtain ⟨b0, b1⟩ := HB.out pre x.1
    have x0 : (0 : Int) ≤ (x.1 : Int) := by omega
    have x1 : (x.1 : Int) < 18 := by have := x.2; omega
    have HN := Lib.hid (h.set hle x.1 x.2 (15 - restL d pre x.1))
    rw [← restL_snoc] at HN
    clear h
    generalize restL d pre x.1 = y at *
    gi_wp2
    exact ⟨(KeepsOthers.setCell _ _ _).from _, trivial, HN.out⟩
  case done =>
    rintro D ys W hD rfl h hK
    have hcl : cl .i64 18 (restL d (upto 18)) = cl .i64 18 (fun j => 15 - d j) := cl_congr _ _ fun j hj => by rw [restL_upto d 18 (by omega), if_pos hj]
    obtain ⟨C, hC⟩ : ∃ C, cl .i64 18 (restL d (upto 18)) = C := ⟨_, rfl⟩
    have e1 := Lib.hid (loadAt18 h.r C hC)
    have e2 := Lib.hid (storeAt18 h.th C _ hC)
    have HK : Hid ((W.setCells (w.heap.size + 1) 0 C).heap[D]? = some (.deferred (some []))) := (keeps_setCells _ C 0 W).same D _ hK rfl
    have HQ : Hid (Q w (W.setCells (w.heap.size + 1) 0 C)) := Q.setCells h.q hg1 0 C
    have HR : Hid (Row .i64 (W.setCells (w.heap.size + 1) 0 C) (w.heap.size + 1) 0 18 (fun j => 15 - d j)) := by
      rw [← hC, hcl]; exact Row.stored h.th
    clear h hK
    gi_wp2_with (first
      | (refine wpListIn_load_mid rfl rfl 76 _ rfl _ w.heap.size 0 rfl e1.out ?_)
      | (refine wpListIn_store_mid rfl rfl 76 _ _ rfl _ (w.heap.size + 1) 0 rfl rfl e2.out ?_))
    refine ⟨by simp, .inl ⟨_, _, rfl, run_takeDeferred HK.out, ?_⟩⟩
    have HR2 := Row.kept HR.out (grownBy_putObj' _ D (.deferred none)) (fun r e => by cases e; exact ⟨_, HK.out, rfl⟩)
    exact ⟨_, results_cell rfl rfl (load18 HR2), rfl, q_putObj HQ.out _ (by omega) HK.out⟩
  case stop =>
    rintro D c pre W _ _ h _
    exact h.elim
end Go.Proofs.YtnghhagiokiaoaaDoor.Wot
