/-
  Layer 3: parts, as they come in: a slice of parts in memory.
-/
import Derived.Test.YtefnncihpilpdaaCodF
import Derived.Deep.Slices
import Derived.Deep.Fields
import Derived.ChangeSame
namespace Go.Proofs.Ytefnncihpilpdaa.Cod
open Go.RowKit
open Mem Num
set_option linter.unusedVariables false

theorem cut_le (s : ByteArray) (m : Int) (n : Nat) (h : m = n) : (s.extract 0 (min (s.size : Int) m).toNat).size ≤ n := by
  subst h; rw [ByteArray.size_extract]; omega
/-- A part: which kind, a number, a text. -/
structure Pt where
  k : Int
  n : Int
  s : ByteArray
/-- A part that may be. -/
structure Pt.ok (p : Pt) : Prop where
  k0 : -9223372036854775808 ≤ p.k
  k1 : p.k ≤ 9223372036854775807
  n0 : -9223372036854775808 ≤ p.n
  n1 : p.n ≤ 9223372036854775807
  s1 : p.s.size ≤ maxLen
/-- Parts that lie one behind the other. -/
def PRow (w : World) (b off len : Nat) (f : Nat → Pt) : Prop :=
  ∀ i, i < len → w.cell? ⟨b, off + i * 3, none⟩ = some (.int .i64 (f i).k) ∧ w.cell? ⟨b, off + i * 3 + 1, none⟩ = some (.int .i64 (f i).n) ∧ w.cell? ⟨b, off + i * 3 + 2, none⟩ = some (.string (f i).s)
theorem PRow.q {w w' : World} {b off len : Nat} {f : Nat → Pt} (h : PRow w b off len f) (q : Q w w') : PRow w' b off len f := fun i hi =>
  ⟨Q.cell' q (h i hi).1, Q.cell' q (h i hi).2.1, Q.cell' q (h i hi).2.2⟩

/-- What a slice of parts that came in holds. -/
def IsParts (W : World) (a : Option Addr) (len cap : Nat) (f : Nat → Pt) : Prop :=
  (a = none ∧ len = 0 ∧ cap = 0) ∨ ∃ x, a = some x ∧ len ≤ cap ∧ cap ≤ maxLen ∧ ∀ i, i < len → W.cell? (x.add (i * 3)) = some (.int .i64 (f i).k) ∧ W.cell? ((x.add (i * 3)).add 1) = some (.int .i64 (f i).n) ∧ W.cell? ((x.add (i * 3)).add 2) = some (.string (f i).s) ∧ (f i).ok
theorem parts_cases {W : World} {a : Option Addr} {len cap : Nat} {f : Nat → Pt} (h : IsParts W a len cap f) :
    (len = 0) ∨ (0 < len ∧ len ≤ cap ∧ cap ≤ maxLen ∧ ∃ b off, a = some ⟨b, off, none⟩ ∧ b < W.heap.size ∧ PRow W b off len f ∧ ∀ i, i < len → (f i).ok) := by
  rcases h with ⟨_, h, _⟩ | ⟨x, rfl, hl, hm, hc⟩
  · exact .inl h
  · by_cases h0 : len = 0
    · exact .inl h0
    · refine .inr ⟨by omega, hl, hm, ?_⟩
      obtain ⟨b, off, spot⟩ := x
      have hs := (hc 0 (by omega)).1
      have hspot : spot = none := by simpa [Addr.add] using World.cell?_spot hs
      subst hspot
      refine ⟨b, off, rfl, World.block_lt_of_cell? _ _ hs, fun i hi => ?_, fun i hi => (hc i hi).2.2.2⟩
      obtain ⟨h1, h2, h3, _⟩ := hc i hi
      rw [Go.WideShapes.add_plain] at h1 h2 h3
      rw [Go.WideShapes.add_plain] at h2 h3
      exact ⟨h1, h2, h3⟩

section
open Go.ChangeShapes Go.WideShapes Go.Deep
variable {H : Type} {enc : TypeId × Value → H} {w : World} {base : Nat} {spare : Nat → Bool} {held : Bool}
theorem int_cells : Try.prog.cellsOf 3 = 1 := by kernel_rfl
theorem str_cells : Try.prog.cellsOf 9 = 1 := by kernel_rfl
theorem part_cells : Try.prog.cellsOf 33 = 3 := by kernel_rfl
theorem open_parts {fuel : Nat} {cs : List Value} {x : DataW H × List MemPlace} (h : DataW.trod enc Try.prog w base spare held fuel 22 cs = some x) :
    ∃ a len cap f, cs = [.slice a len cap] ∧ IsParts w a len cap f := by
  rcases open_slice Try.underlying22 h with ⟨h0, _⟩ | ⟨a, len, cap, m, n, D, Pl, hcs, hb, hl, hm, hmm, hx, hi⟩
  · exact ⟨none, 0, 0, fun _ => ⟨0, 0, ByteArray.empty⟩, h0, .inl ⟨rfl, rfl, rfl⟩⟩
  · have hlm : len ≤ m := by rw [hmm]; split <;> omega
    have hp : ∀ i, i < len → ∃ p : Pt, w.cell? (a.add (i * 3)) = some (.int .i64 p.k) ∧ w.cell? ((a.add (i * 3)).add 1) = some (.int .i64 p.n) ∧ w.cell? ((a.add (i * 3)).add 2) = some (.string p.s) ∧ p.ok := by
      intro i hil
      obtain ⟨cs', hc, ht⟩ := hi i (by omega)
      rw [part_cells] at hc
      obtain ⟨ys, n', _, _, hlen, hyl, hf⟩ := DataW.trod_struct Try.underlying33 ht
      obtain ⟨_, hcl, hat⟩ := World.cells?_some hc
      obtain ⟨c0, c1, c2, rfl⟩ : ∃ c0 c1 c2, cs' = [c0, c1, c2] := by
        match cs', hcl with
        | [c0, c1, c2], _ => exact ⟨c0, c1, c2, rfl⟩
      obtain ⟨y0, y1, y2, rfl⟩ : ∃ y0 y1 y2, ys = [y0, y1, y2] := by
        match ys, hyl with
        | [y0, y1, y2], _ => exact ⟨y0, y1, y2, rfl⟩
      have e0 : DataW.trod enc Try.prog w base spare held n' 3 [c0] = some y0 := by have := hf 0 _ rfl; simpa [int_cells] using this
      have e1 : DataW.trod enc Try.prog w base spare held n' 3 [c1] = some y1 := by have := hf 1 _ rfl; simpa [int_cells] using this
      have e2 : DataW.trod enc Try.prog w base spare held n' 9 [c2] = some y2 := by have := hf 2 _ rfl; simpa [str_cells] using this
      obtain ⟨k0, hk0, _, wk⟩ := DataW.trod_int Try.underlying3 e0
      obtain ⟨n0, hn0, _, wn⟩ := DataW.trod_int Try.underlying3 e1
      obtain ⟨s0, hs0, _, ws⟩ := DataW.trod_string Try.underlying9 e2
      simp only [List.cons.injEq, and_true] at hk0 hn0 hs0
      subst hk0 hn0 hs0
      have bk := bounds_i64 wk
      have bn := bounds_i64 wn
      exact ⟨⟨k0, n0, s0⟩, by have := hat 0 (by omega); simpa [Addr.add] using this, by simpa using hat 1 (by omega), by simpa using hat 2 (by omega), ⟨bk.1, bk.2, bn.1, bn.2, ws⟩⟩
    have hF : ∃ f : Nat → Pt, ∀ i, i < len → w.cell? (a.add (i * 3)) = some (.int .i64 (f i).k) ∧ w.cell? ((a.add (i * 3)).add 1) = some (.int .i64 (f i).n) ∧ w.cell? ((a.add (i * 3)).add 2) = some (.string (f i).s) ∧ (f i).ok :=
      ⟨fun i => if h : i < len then Classical.choose (hp i h) else ⟨0, 0, ByteArray.empty⟩, fun i hil => by simp only [dif_pos hil]; exact Classical.choose_spec (hp i hil)⟩
    obtain ⟨f, hf⟩ := hF
    exact ⟨some a, len, cap, f, hcs, .inr ⟨a, rfl, hl, hm, hf⟩⟩
end
end Go.Proofs.Ytefnncihpilpdaa.Cod
