import Derived.Test.YtobfgljkckcmcaaGreatDoorYJBloB
import Derived.Test.YtobfgljkckcmcaaGreatDoorYJCutX
set_option maxRecDepth 100000
namespace Go.Proofs.YtobfgljkckcmcaaGreatDoor.Coi
open Go.RowKit
open Mem Num Cod Sh Plan
set_option linter.unusedVariables false
set_option linter.unusedSimpArgs false
structure BKI.In (z : BKI) (W : World) : Prop where
 h : I64 z.h
 prev : z.prev.size ≤ maxLen
 sl : SL TXI.cells 6 W z.a z.n z.g
 le : z.n ≤ z.c
 cap : z.c ≤ maxLen
 ok : ∀ i, i < z.n → (z.g i).In W
section
open Go.ChangeShapes Go.WideShapes Go.Deep
variable {H : Type} {enc : TypeId × Value → H} {w : World} {base : Nat} {spare : Nat → Bool} {held : Bool}
theorem txs_cells : Tryz.prog.cellsOf 62 = 1 := by kernel_rfl
theorem blk_cells : Tryz.prog.cellsOf 64 = 3 := by kernel_rfl
theorem open_txs {fuel : Nat} {cs : List Value} {x : DataW H × List MemPlace} (h : DataW.trod enc Tryz.prog w base spare held fuel 62 cs = some x) :
 ∃ a len cap f, cs = [.slice a len cap] ∧ SL TXI.cells 6 w a len f ∧ len ≤ cap ∧ cap ≤ maxLen ∧ ∀ i, i < len → (f i).In w := by
 rcases open_slice Tryz.underlying62 h with ⟨h0, _⟩ | ⟨a, len, cap, m, n, D, Pl, hcs, hb, hl, hm, hmm, hx, hi⟩
 · exact ⟨none, 0, 0, fun _ => ⟨TX.zero, none, 0, none, 0, none, 0⟩, h0, SL.nil rfl, Nat.le_refl _, Nat.zero_le _, fun i hi => by omega⟩
 · have hlm : len ≤ m := by rw [hmm]; split <;> omega
   have hp : ∀ i, i < len → ∃ p : TXI, (∀ j v, (p.cells)[j]? = some v → w.cell? ((a.add (i * 6)).add j) = some v) ∧ p.In w := by
    intro i hil
    obtain ⟨cs', hc, ht⟩ := hi i (by omega)
    rw [tx_cells] at hc
    obtain ⟨_, hcl, hat⟩ := World.cells?_some hc
    obtain ⟨r, hr, wr⟩ := trod_tx hcl ht
    subst hr
    refine ⟨r, fun j v hj => ?_, wr⟩
    have hjl := (List.getElem?_eq_some_iff.1 hj).1
    have := hat j hjl
    exact this.trans hj
   have hF : ∃ f : Nat → TXI, ∀ i, i < len → (∀ j v, ((f i).cells)[j]? = some v → w.cell? ((a.add (i * 6)).add j) = some v) ∧ (f i).In w :=
    ⟨fun i => if h : i < len then Classical.choose (hp i h) else ⟨TX.zero, none, 0, none, 0, none, 0⟩, fun i hil => by simp only [dif_pos hil]; exact Classical.choose_spec (hp i hil)⟩
   obtain ⟨f, hf⟩ := hF
   refine ⟨some a, len, cap, f, hcs, ?_, hl, hm, fun i hi => (hf i hi).2⟩
   by_cases h0 : len = 0
   · exact SL.nil h0
   obtain ⟨b, off, spot⟩ := a
   obtain ⟨c0, hc0⟩ : ∃ c0, ((f 0).cells)[0]? = some c0 := ⟨_, rfl⟩
   have hs := (hf 0 (by omega)).1 0 _ hc0
   have hspot : spot = none := by simpa [Addr.add] using World.cell?_spot hs
   subst hspot
   refine .inr ⟨b, off, rfl, fun i hi j v hv => ?_⟩
   have := (hf i hi).1 j v hv
   rw [Go.WideShapes.add_plain, Go.WideShapes.add_plain] at this
   exact this
theorem open_bk {v : Value} {d : DataW H} {p : List MemPlace} (hv : Value.okWide Tryz.prog w .any base 64 v) (h : DataW.Trod enc Tryz.prog w 0 (fun _ => true) true 64 v d p) : ∃ z : BKI, v = z.val ∧ z.In w := by
 obtain ⟨cs, rfl, hsz⟩ := okWide_struct Tryz.underlying64 hv
 obtain ⟨fuel, hf⟩ := h
 obtain ⟨ys, n', _, _, hlen, hyl, hg⟩ := DataW.trod_struct Tryz.underlying64 hf
 obtain ⟨c0, c1, c2, rfl⟩ : ∃ c0 c1 c2, cs = #[c0, c1, c2] := by
  obtain ⟨l⟩ := cs
  match l, (show l.length = 3 from hsz.trans blk_cells) with
  | [c0, c1, c2], _ => exact ⟨c0, c1, c2, rfl⟩
 obtain ⟨y0, y1, y2, rfl⟩ : ∃ y0 y1 y2, ys = [y0, y1, y2] := by
  match ys, hyl with
  | [y0, y1, y2], _ => exact ⟨y0, y1, y2, rfl⟩
 have g0 : DataW.trod enc Tryz.prog w 0 (fun _ => true) true n' 3 [c0] = some y0 := by have := hg 0 _ rfl; simpa [int_cells, str_cells, txs_cells, Value.cells] using this
 obtain ⟨v0, k0, _, b0⟩ := DataW.trod_int Tryz.underlying3 g0
 have g1 : DataW.trod enc Tryz.prog w 0 (fun _ => true) true n' 9 [c1] = some y1 := by have := hg 1 _ rfl; simpa [int_cells, str_cells, txs_cells, Value.cells] using this
 obtain ⟨v1, k1, _, b1⟩ := DataW.trod_string Tryz.underlying9 g1
 have g2 : DataW.trod enc Tryz.prog w 0 (fun _ => true) true n' 62 [c2] = some y2 := by have := hg 2 _ rfl; simpa [int_cells, str_cells, txs_cells, Value.cells] using this
 obtain ⟨a, len, cap, f, k2, b2, b3, b4, b5⟩ := open_txs g2
 simp only [List.cons.injEq, and_true] at k0 k1 k2
 subst k0 k1 k2
 exact ⟨⟨v0, v1, len, f, a, cap⟩, rfl, ⟨bounds_i64 b0, b1, b2, b3, b4, b5⟩⟩
end
end Go.Proofs.YtobfgljkckcmcaaGreatDoor.Coi
