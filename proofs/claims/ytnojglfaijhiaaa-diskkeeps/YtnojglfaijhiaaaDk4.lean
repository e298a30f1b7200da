/-
  Layer 13: boxes; the program's first.
-/
import Derived.Test.YtnojglfaijhiaaaDk3
namespace Go.Proofs.Ytnojglfaijhiaaa.Dk
open Go.RowKit
open Mem
set_option linter.unusedVariables false
set_option linter.unusedSimpArgs false

theorem Ch.frozen {g : Nat} {w w' : World} (c : Ch g w w') {a : Addr} (hl : a.block < w.heap.size) (hne : a.block ≠ g) : w'.frozen? a = w.frozen? a := World.grownBy.frozen_far c a hl (fun e => hne (by injection e))
/-- A block of one's own: its cells, none of them shut. -/
structure Box (w : World) (b : Nat) (cs : List Value) : Prop where
  at_ : ∀ j v, cs[j]? = some v → w.cell? ⟨b, j, none⟩ = some v
  fz : ∀ j, w.frozen? ⟨b, j, none⟩ = false
  lt : b < w.heap.size
section
variable {w w' : World} {b g : Nat} {cs : List Value}
theorem Box.new (w : World) (cs : List Value) (t : TypeId) : Box (w.alloc (.cells cs.toArray t)) w.heap.size cs :=
  ⟨fun j v h => by rw [World.cell?_alloc_at _ _ _ _ rfl]; simpa using h, made_frozen w _ _, by simp⟩
theorem Box.q (h : Box w b cs) (q : Q w w') : Box w' b cs :=
  ⟨fun j v hv => Q.cell' q (h.at_ j v hv), fun j => by rw [q.frozen (p := ⟨b, j, none⟩) h.lt]; exact h.fz j, Nat.lt_of_lt_of_le h.lt q.size⟩
theorem Box.ch (h : Box w b cs) (c : Ch g w w') (hne : b ≠ g) : Box w' b cs :=
  ⟨fun j v hv => c.cell (h.at_ j v hv) hne, fun j => by rw [c.frozen (a := ⟨b, j, none⟩) h.lt hne]; exact h.fz j, Nat.lt_of_lt_of_le h.lt c.size⟩
end
theorem ch_setCells {b : Nat} : ∀ (vs : List Value) (o : Nat) (w : World), Ch b w (w.setCells b o vs)
  | [], _, w => Ch.refl _ w
  | v :: r, o, w => (Ch.set w b o v).trans (ch_setCells r (o + 1) _)
theorem Box.stored {w : World} {b : Nat} {cs cs' : List Value} (h : Box w b cs) (hl : cs'.length = cs.length) : Box (w.setCells b 0 cs') b cs' ∧ Ch b w (w.setCells b 0 cs') := by
  refine ⟨⟨fun j v hv => ?_, fun j => by rw [World.frozen?_setCells]; exact h.fz j, by rw [setCells_size]; exact h.lt⟩, ch_setCells _ _ _⟩
  obtain ⟨hj, e⟩ := List.getElem?_eq_some_iff.1 hv
  have := World.cell?_setCells_in b cs' 0 w (fun i hi => by
    rw [Nat.zero_add]
    have hi' : i < cs.length := by omega
    rw [h.at_ i _ (List.getElem?_eq_getElem hi')]; rfl) j hj
  rw [Nat.zero_add] at this
  rw [this, ← e]
theorem Box.there {w : World} {b : Nat} {cs : List Value} (h : Box w b cs) : w.there b 0 cs.length := fun j hj => by
  rw [Nat.zero_add]
  exact ⟨by rw [h.at_ j _ (List.getElem?_eq_getElem hj)]; rfl, h.fz j⟩
/-- A store of the whole box. -/
theorem st_box {P : Program} {ops : Array Oper} {rest : List Oper} {op : Oper} {a : Act} {w : World} {Q : Exit → Act → World → Prop} (hgd : op.guard = none) (ty : TypeId) (x y : Operand) (ho : op.op = .store ty x y)
    (b : Nat) (cs cs' : List Value) (hx : a.eval x = .pointer (some ⟨b, 0, none⟩)) (hy : a.eval y = .agg cs'.toArray) (hB : Box w b cs) (hl : cs'.length = cs.length) (hi : (P.info? ty).map (·.size) = some cs'.length) (h1 : ∀ v ∈ cs', v.oneCell' = true)
    (h : ∀ w', Box w' b cs' → Ch b w w' → wpList P ops Q rest (a.put op.dst undef) w') : wpList P ops Q (op :: rest) a w := by
  refine wpList_store_mid hgd ty x y ho b 0 cs'.toArray hx hy (by rw [List.size_toArray, hl]; exact hB.there) (by rw [List.size_toArray]; exact hi) (all_oneCell_toArray h1) ?_
  obtain ⟨h2, h3⟩ := hB.stored hl
  exact h _ h2 h3
theorem Box.load {P : Program} {w : World} {b : Nat} {cs : List Value} (h : Box w b cs) (ty : TypeId) {d : TypeDesc} (hu : P.underlying ty = some d) (hd : d.isRow = true) (hi : (P.info? ty).map (·.size) = some cs.length) : (loadVar ty ⟨b, 0, none⟩).run P w = .ok (.agg cs.toArray) w :=
  run_loadVar_mid w b 0 ty cs d (fun j v hv => by rw [Nat.zero_add]; exact h.at_ j v hv) hu hd hi
theorem Box.set1 {w : World} {b : Nat} {cs : List Value} (h : Box w b cs) (j : Nat) (v : Value) : Box (w.setCell ⟨b, j, none⟩ v) b (cs.set j v) := by
  refine ⟨fun k u hu => ?_, fun k => by simp [h.fz], by simpa using h.lt⟩
  by_cases e : j = k
  · subst e
    have hj : j < cs.length := by have := (List.getElem?_eq_some_iff.1 hu).1; simpa using this
    rw [List.getElem?_set_self hj] at hu
    injection hu with hu
    rw [← hu]
    exact World.cell?_setCell_same _ _ _ (h.at_ j _ (List.getElem?_eq_getElem hj))
  · rw [List.getElem?_set_ne e] at hu
    rw [World.cell?_setCell_other (h := by intro x; injection x; omega)]
    exact h.at_ k u hu
/-- A load of the whole box. -/
theorem ld_box {P : Program} {ops : Array Oper} {rest : List Oper} {op : Oper} {a : Act} {w : World} {Q : Exit → Act → World → Prop} (hgd : op.guard = none) (ty : TypeId) (x : Operand) (ho : op.op = .load ty x)
    (b : Nat) (cs : List Value) (hx : a.eval x = .pointer (some ⟨b, 0, none⟩)) (hB : Box w b cs) {d : TypeDesc} (hu : P.underlying ty = some d) (hd : d.isRow = true) (hi : (P.info? ty).map (·.size) = some cs.length)
    (h : wpList P ops Q rest (a.put op.dst (.agg cs.toArray)) w) : wpList P ops Q (op :: rest) a w :=
  wpList_load_mid hgd ty x ho b 0 hx cs d (fun j v hv => by rw [Nat.zero_add]; exact hB.at_ j v hv) hu hd hi h

/-! ### The first bytes, alone -/
theorem cells_extract (t : ByteArray) (m : Nat) : Lib.strCells (t.extract 0 m) = (Lib.strCells t).take m := by
  unfold Lib.strCells
  rw [← List.map_take]
  congr 1
  simp
theorem size_extract0 (t : ByteArray) (m : Nat) (h : m ≤ t.size) : (t.extract 0 m).size = m := by simp; omega
theorem infoB : (Try.prog.info? 5).map (fun i => (i.zero, i.size, i.bytes)) = some (some (.int .u8 0), 1, 1) := by kernel_rfl
def zb (n : Nat) : Obj := .cells (madeCells #[.int .u8 0] n) 5
theorem makeB (w : World) (n : Nat) (h : n ≤ 16777216) : (Instr.makeSlice 53 (.int .i64 (n : Int)) (.int .i64 (n : Int))).run Try.prog w = .ok (.slice (some ⟨w.heap.size, 0, none⟩) n n) (w.alloc (zb n)) := by
  obtain ⟨i, hi, hz0, hz1, hz2⟩ := info_parts infoB
  have := run_make (P := Try.prog) w 53 5 i _ Try.underlying53 hi hz0 .i64 .i64 (n : Int) (n : Int) (by omega) (Int.le_refl _) (by rw [hz2]; omega) (by omega)
  rw [this, hz1, Int.toNat_natCast, Nat.mul_one]
  rfl
theorem own_cells {w : World} {B : Nat} {a : Option Addr} {c : Nat} {t : ByteArray} (h : w.ownsRow B 5 1 (.slice a t.size c) t.size (Lib.strCells t)) (hp : 0 < t.size) : ∃ ad, a = some ad ∧ ∀ j v, (Lib.strCells t)[j]? = some v → w.cell? (ad.add j) = some v := by
  have hz := h.2
  rcases hz with ⟨e, e2⟩ | ⟨g, cap, cur, e, _⟩
  · omega
  · simp only [Value.slice.injEq] at e
    obtain ⟨rfl, _, rfl⟩ := e
    exact ⟨_, rfl, fun j u hj => World.ownsRow.cells h (g := g) rfl j u hj⟩
/-- copy of the first m bytes into a row of m. -/
theorem copy_x {w : World} {B G m c : Nat} {a : Option Addr} {t : ByteArray} {cur : Array Value} (hx : w.ownsRow B 5 1 (.slice a t.size c) t.size (Lib.strCells t)) (hG : w.heap[G]? = some (.cells cur 5 (0, 0))) (hcs : cur.size = m) (hm : m ≤ t.size) :
    ∃ W2, (Builtin.copy_ #[53, 53] 3 #[.slice (some ⟨G, 0, none⟩) m m, .slice a t.size c]).run Try.prog w = .ok (.int .i64 m) W2 ∧ W2.heap[G]? = some (.cells ((Lib.strCells t).take m).toArray 5 (0, 0)) ∧ Ch G w W2 := by
  have hi : (Try.prog.info? 5).map (·.size) = some 1 := by kernel_rfl
  by_cases h0 : m = 0
  · subst h0
    have e : cur = #[] := Array.eq_empty_of_size_eq_zero hcs
    refine ⟨w, ?_, by rw [hG, e]; simp, Ch.refl _ _⟩
    exact run_copy_none (P := Try.prog) w 53 53 3 5 _ a 0 0 t.size c Try.underlying53 hi (by simp)
  · obtain ⟨ad, rfl, hc⟩ := own_cells hx (by omega)
    have hl : ((Lib.strCells t).take m).length = m := by rw [List.length_take, Lib.strCells_length]; omega
    have hr := run_copy_row (P := Try.prog) w 53 53 3 5 G 0 m m ad t.size c cur 5 ((Lib.strCells t).take m) Try.underlying53 hi hG (by rw [hl]; show m = min t.size m; omega)
      (fun j v hv => hc j v (by rw [List.getElem?_take] at hv; split at hv; · exact hv
                                · cases hv)) (by rw [hl]; omega) (fun v hv => Lib.strCells_oneCell t v (List.mem_of_mem_take hv))
    rw [hl] at hr
    refine ⟨_, hr, ?_, ⟨rfl, rfl, rfl, by simp [World.setRow], fun k hk hne => setRow_other w G k _ (fun e => hne (by rw [e]))⟩⟩
    rw [setRow_heap w G cur _ 5 _ hG]
    congr 2
    apply Array.ext'
    rw [List.take_zero, List.nil_append, Nat.zero_add, List.drop_eq_nil_of_le (by rw [Array.length_toList]; omega), List.append_nil]
section
variable {w : World} {B : Nat}
set_option maxHeartbeats 4000000 in
theorem first_x (x : FL) (m : Nat) (hx : w.ownsRow B 5 1 (.slice x.a x.t.size x.c) x.t.size (Lib.strCells x.t)) (hm : m ≤ x.t.size) (hz : m ≤ 16777216) :
    Calls Try.prog 23 #[.agg #[.slice x.a x.t.size x.c, .int .i64 x.s], .int .i64 m] w fun r w' =>
      ∃ g, r = .returned (.agg #[.slice (some ⟨g, 0, none⟩) m m, .int .i64 m]) ∧ w.heap.size ≤ g ∧ w'.ownsRow w.heap.size 5 1 (.slice (some ⟨g, 0, none⟩) m m) m (Lib.strCells (x.t.extract 0 m)) ∧ Q w w' := by
  have HX := Lib.hid hx
  obtain ⟨a, c, t, s⟩ := x
  dsimp only at *
  have HM := makeB ((w.alloc (.cells #[.slice a t.size c, .int .i64 s] 55)).alloc (.cells #[.slice none 0 0, .int .i64 0] 55)) m hz
  have hz2 : ((w.alloc (.cells #[.slice a t.size c, .int .i64 s] 55)).alloc (.cells #[.slice none 0 0, .int .i64 0] 55)).heap.size = w.heap.size + 1 + 1 := by simp
  have hz1 : (w.alloc (.cells #[.slice a t.size c, .int .i64 s] 55)).heap.size = w.heap.size + 1 := by simp
  have Q3 := ((((Q.refl w).alloc (.cells #[.slice a t.size c, .int .i64 s] 55)).alloc (.cells #[.slice none 0 0, .int .i64 0] 55)).alloc (zb m))
  have B4 := ((Box.new (w.alloc (.cells #[.slice a t.size c, .int .i64 s] 55)) [.slice none 0 0, .int .i64 0] 55).q ((Q.refl _).alloc (zb m)))
  rw [hz1] at B4
  obtain ⟨W2, HC, hG, c2⟩ := copy_x (w := ((w.alloc (.cells #[.slice a t.size c, .int .i64 s] 55)).alloc (.cells #[.slice none 0 0, .int .i64 0] 55)).alloc (zb m)) (G := w.heap.size + 1 + 1) (m := m) (own_keep hx fun k hk => Q3.block k (World.ownsRow.lt hx k hk).2) (by
    rw [← hz2]; exact heap_alloc_new _ _) (size_madeCells _ _) hm
  have HG := Lib.hid hG
  have Q4 := Lib.hid (c2.q Q3 (by omega))
  have B5 := Lib.hid (B4.ch c2 (by omega))
  have hl : Hid (((Lib.strCells t).take m).length = m) := by show _ = _; rw [List.length_take, Lib.strCells_length]; omega
  clear hx B4 hG c2 Q3 hz2 hz1
  go_enter Try.func23, Try.ntmps23
  go_wp2_with (with_reducible (show wpList _ _ _ (⟨_, Op.store 55 _ _, _, _, _, _⟩ :: _) _ _); refine halt ?_)
  have one2 : ∀ v ∈ [Value.slice (some ⟨w.heap.size + 1 + 1, 0, none⟩) m m, .int .i64 m], v.oneCell' = true := by
    intro v hv
    simp only [List.mem_cons, List.not_mem_nil, or_false] at hv
    rcases hv with rfl | rfl <;> rfl
  refine Lib.hid (st_box rfl 55 _ _ rfl (w.heap.size + 1) _ [.slice (some ⟨w.heap.size + 1 + 1, 0, none⟩) m m, .int .i64 m] rfl rfl B5.out rfl (by kernel_rfl) one2 ?_)
  intro w3 B6 c6
  have HL : Hid ((loadVar 55 ⟨w.heap.size + 1, 0, none⟩).run Try.prog w3 = .ok (.agg #[.slice (some ⟨w.heap.size + 1 + 1, 0, none⟩) m m, .int .i64 m]) w3) := B6.load _ Try.underlying55 rfl (by kernel_rfl)
  have Q5 := Lib.hid (c6.q Q4.out (by omega))
  have HG3 : Hid (w3.heap[w.heap.size + 1 + 1]? = some (.cells ((Lib.strCells t).take m).toArray 5 (0, 0))) := by
    show _ = _
    have hh := HG.out
    rw [c6.block (w.heap.size + 1 + 1) (Array.getElem?_eq_some_iff.1 hh).1 (by simp)]
    exact hh
  clear B6 c6
  refine wpList_nil ?_
  go_step
  go_step
  go_step
  refine bodyPost_ret (results_cell rfl rfl HL.out) rfl ?_
  refine ⟨_, rfl, by omega, ?_, Q5.out⟩
  have hl' := hl.out
  rw [cells_extract]
  exact ⟨by rw [hl', Nat.mul_one], .inr ⟨_, m, _, rfl, by omega, HG3.out, Nat.le_refl _, by unfold maxLen; omega, by rw [List.size_toArray, hl', Nat.mul_one], by rw [Nat.mul_one]; exact List.take_of_length_le (by simp; omega)⟩⟩
end
end Go.Proofs.Ytnojglfaijhiaaa.Dk
