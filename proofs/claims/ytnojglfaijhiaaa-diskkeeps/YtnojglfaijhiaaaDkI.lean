/-
  Layer 13: calls of a script, as they come in; rows of numbers.
-/
import Derived.Test.YtnojglfaijhiaaaDk9
import Derived.Deep.Slices
import Derived.Deep.Fields
import Derived.ChangeSame
namespace Go.Proofs.Ytnojglfaijhiaaa.Dk
open Go.RowKit
open Mem
set_option linter.unusedVariables false

def I64 (n : Int) : Prop := -9223372036854775808 ≤ n ∧ n ≤ 9223372036854775807
/-- A slice of numbers that came in. -/
structure IK (w : World) (a : Option Addr) (l c : Nat) (kf : Nat → Int) : Prop where
  r : l = 0 ∨ ∃ b o, a = some ⟨b, o, none⟩ ∧ ∀ j, j < l → w.cell? ⟨b, o + j, none⟩ = some (.int .i64 (kf j))
  le : l ≤ c
  cap : c ≤ maxLen
  kw : ∀ i, I64 (kf i)
/-- The same, as the frame hands it on. -/
def IsRow (k : IntKind) (w : World) (a : Option Addr) (len cap : Nat) (zs : List Int) : Prop :=
  (a = none ∧ len = 0 ∧ cap = 0 ∧ zs = []) ∨
  ∃ x, a = some x ∧ len ≤ cap ∧ cap ≤ maxLen ∧ zs.length = cap ∧ (∀ i, i < zs.length → w.cell? (x.add i) = some (.int k (zs.getD i 0))) ∧ ∀ n ∈ zs, (Lit.int k n).wf = true
theorem getD_i64 {zs : List Int} (h : ∀ n ∈ zs, (Lit.int .i64 n).wf = true) (i : Nat) : I64 (zs.getD i 0) := by
  rw [List.getD_eq_getElem?_getD]
  by_cases hi : i < zs.length
  · rw [List.getElem?_eq_getElem hi]
    exact bounds_i64 (h _ (List.getElem_mem hi))
  · rw [List.getElem?_eq_none (by omega)]
    exact ⟨by decide, by decide⟩
theorem IK.of_row {w : World} {a : Option Addr} {l c : Nat} {zs : List Int} (h : IsRow .i64 w a l c zs) : IK w a l c (fun i => zs.getD i 0) := by
  rcases h with ⟨rfl, rfl, rfl, rfl⟩ | ⟨x, rfl, hl, hm, hz, hc, hw⟩
  · exact ⟨.inl rfl, Nat.le_refl _, Nat.zero_le _, fun i => getD_i64 (fun n h => by cases h) i⟩
  · refine ⟨?_, hl, hm, getD_i64 hw⟩
    by_cases h0 : l = 0
    · exact .inl h0
    · obtain ⟨b, off, rfl, hc'⟩ := ints_at hc (by omega)
      exact .inr ⟨b, off, rfl, fun j hj => hc' j (by omega)⟩
/-- A call of a script. -/
structure OP where
  kind : Int
  f : Int
  n : Int
  s : ByteArray
  a : Option Addr
  l : Nat
  c : Nat
  kf : Nat → Int
def OP.cells (x : OP) : List Value := [.int .i64 x.kind, .int .i64 x.f, .int .i64 x.n, .string x.s, .slice x.a x.l x.c]
theorem op_len (x : OP) : x.cells.length = 5 := rfl
structure OP.In (x : OP) (W : World) : Prop where
  kind : I64 x.kind
  f : I64 x.f
  n : I64 x.n
  s : x.s.size ≤ maxLen
  k : IK W x.a x.l x.c x.kf
def OP.zero : OP := ⟨0, 0, 0, ⟨#[]⟩, none, 0, 0, fun _ => 0⟩
/-- A script. -/
structure IsOps (W : World) (a : Option Addr) (len cap : Nat) (f : Nat → OP) : Prop where
  sl : len = 0 ∨ ∃ b off, a = some ⟨b, off, none⟩ ∧ ∀ i, i < len → ∀ j v, ((f i).cells)[j]? = some v → W.cell? ⟨b, off + i * 5 + j, none⟩ = some v
  le : len ≤ cap
  cap : cap ≤ maxLen
  ok : ∀ i, i < len → (f i).In W
section
open Go.ChangeShapes Go.WideShapes Go.Deep
variable {H : Type} {enc : TypeId × Value → H} {w : World} {base : Nat} {spare : Nat → Bool} {held : Bool}
theorem int_cells : Try.prog.cellsOf 3 = 1 := by kernel_rfl
theorem str_cells1 : Try.prog.cellsOf 9 = 1 := by kernel_rfl
theorem kn_cells : Try.prog.cellsOf 30 = 1 := by kernel_rfl
theorem op_cells : Try.prog.cellsOf 32 = 5 := by kernel_rfl
theorem open_kn {fuel : Nat} {cs : List Value} {x : DataW H × List MemPlace} (h : DataW.trod enc Try.prog w base spare held fuel 30 cs = some x) :
    ∃ a l c kf, cs = [.slice a l c] ∧ IK w a l c kf := by
  rcases open_ints Try.underlying30 Try.underlying3 (by kernel_rfl) h with ⟨hcs, _⟩ | ⟨x, l, c, zs, hcs, _, hl, hm, hz, _, hcell, hwz⟩
  · exact ⟨none, 0, 0, fun _ => 0, hcs, ⟨.inl rfl, Nat.le_refl _, Nat.zero_le _, fun i => ⟨by decide, by decide⟩⟩⟩
  · have hlz : l ≤ zs.length := by rw [hz]; split <;> omega
    refine ⟨some x, l, c, fun i => zs.getD i 0, hcs, ⟨?_, hl, hm, getD_i64 hwz⟩⟩
    by_cases h0 : l = 0
    · exact .inl h0
    · obtain ⟨b, off, rfl, hc'⟩ := ints_at hcell (by omega)
      exact .inr ⟨b, off, rfl, fun j hj => hc' j (by omega)⟩
set_option maxRecDepth 100000 in
theorem trod_op {fuel : Nat} {cs : List Value} {x : DataW H × List MemPlace} (hl : cs.length = 5) (h : DataW.trod enc Try.prog w base spare held fuel 32 cs = some x) : ∃ r : OP, cs = r.cells ∧ r.In w := by
  obtain ⟨ys, n', _, _, hlen, hyl, hf⟩ := DataW.trod_struct Try.underlying32 h
  obtain ⟨c0, c1, c2, c3, c4, rfl⟩ : ∃ c0 c1 c2 c3 c4, cs = [c0, c1, c2, c3, c4] := by
    match cs, hl with
    | [c0, c1, c2, c3, c4], _ => exact ⟨c0, c1, c2, c3, c4, rfl⟩
  obtain ⟨y0, y1, y2, y3, y4, rfl⟩ : ∃ y0 y1 y2 y3 y4, ys = [y0, y1, y2, y3, y4] := by
    match ys, hyl with
    | [y0, y1, y2, y3, y4], _ => exact ⟨y0, y1, y2, y3, y4, rfl⟩
  have g0 : DataW.trod enc Try.prog w base spare held n' 3 [c0] = some y0 := by have := hf 0 _ rfl; simpa [int_cells, str_cells1, kn_cells] using this
  obtain ⟨v0, k0, _, b0⟩ := DataW.trod_int Try.underlying3 g0
  have g1 : DataW.trod enc Try.prog w base spare held n' 3 [c1] = some y1 := by have := hf 1 _ rfl; simpa [int_cells, str_cells1, kn_cells] using this
  obtain ⟨v1, k1, _, b1⟩ := DataW.trod_int Try.underlying3 g1
  have g2 : DataW.trod enc Try.prog w base spare held n' 3 [c2] = some y2 := by have := hf 2 _ rfl; simpa [int_cells, str_cells1, kn_cells] using this
  obtain ⟨v2, k2, _, b2⟩ := DataW.trod_int Try.underlying3 g2
  have g3 : DataW.trod enc Try.prog w base spare held n' 9 [c3] = some y3 := by have := hf 3 _ rfl; simpa [int_cells, str_cells1, kn_cells] using this
  obtain ⟨v3, k3, _, b3⟩ := DataW.trod_string Try.underlying9 g3
  have g4 : DataW.trod enc Try.prog w base spare held n' 30 [c4] = some y4 := by have := hf 4 _ rfl; simpa [int_cells, str_cells1, kn_cells] using this
  obtain ⟨a, l, c, kf, k4, b4⟩ := open_kn g4
  simp only [List.cons.injEq, and_true] at k0 k1 k2 k3 k4
  subst k0 k1 k2 k3 k4
  exact ⟨⟨v0, v1, v2, v3, a, l, c, kf⟩, rfl, ⟨bounds_i64 b0, bounds_i64 b1, bounds_i64 b2, b3, b4⟩⟩
set_option maxRecDepth 100000 in
theorem open_ops {fuel : Nat} {cs : List Value} {x : DataW H × List MemPlace} (h : DataW.trod enc Try.prog w base spare held fuel 22 cs = some x) :
    ∃ a len cap f, cs = [.slice a len cap] ∧ IsOps w a len cap f := by
  rcases open_slice Try.underlying22 h with ⟨h0, _⟩ | ⟨a, len, cap, m, n, D, Pl, hcs, hb, hl, hm, hmm, hx, hi⟩
  · exact ⟨none, 0, 0, fun _ => OP.zero, h0, ⟨.inl rfl, Nat.le_refl _, Nat.zero_le _, fun i hi => by omega⟩⟩
  · have hlm : len ≤ m := by rw [hmm]; split <;> omega
    have hp : ∀ i, i < len → ∃ p : OP, (∀ j v, (p.cells)[j]? = some v → w.cell? ((a.add (i * 5)).add j) = some v) ∧ p.In w := by
      intro i hil
      obtain ⟨cs', hc, ht⟩ := hi i (by omega)
      rw [op_cells] at hc
      obtain ⟨_, hcl, hat⟩ := World.cells?_some hc
      obtain ⟨r, hr, wr⟩ := trod_op hcl ht
      subst hr
      refine ⟨r, fun j v hj => ?_, wr⟩
      have hjl := (List.getElem?_eq_some_iff.1 hj).1
      have := hat j hjl
      exact this.trans hj
    have hF : ∃ f : Nat → OP, ∀ i, i < len → (∀ j v, ((f i).cells)[j]? = some v → w.cell? ((a.add (i * 5)).add j) = some v) ∧ (f i).In w :=
      ⟨fun i => if h : i < len then Classical.choose (hp i h) else OP.zero, fun i hil => by simp only [dif_pos hil]; exact Classical.choose_spec (hp i hil)⟩
    obtain ⟨f, hf⟩ := hF
    refine ⟨some a, len, cap, f, hcs, ⟨?_, hl, hm, fun i hi => (hf i hi).2⟩⟩
    by_cases h0 : len = 0
    · exact .inl h0
    obtain ⟨b, off, spot⟩ := a
    obtain ⟨c0, hc0⟩ : ∃ c0, ((f 0).cells)[0]? = some c0 := ⟨_, rfl⟩
    have hs := (hf 0 (by omega)).1 0 _ hc0
    have hspot : spot = none := by simpa [Addr.add] using World.cell?_spot hs
    subst hspot
    refine .inr ⟨b, off, rfl, fun i hi j v hv => ?_⟩
    have := (hf i hi).1 j v hv
    rw [Go.WideShapes.add_plain, Go.WideShapes.add_plain] at this
    exact this
end
end Go.Proofs.Ytnojglfaijhiaaa.Dk
