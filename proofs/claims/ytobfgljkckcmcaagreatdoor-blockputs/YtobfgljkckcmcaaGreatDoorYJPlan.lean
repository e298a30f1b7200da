import Derived.Test.YtobfgljkckcmcaaGreatDoorYHCoiA
import Derived.Deep.Slices
import Derived.Deep.Fields
import Derived.ChangeSame
import Derived.Test.YtobfgljkckcmcaaGreatDoorYJCoiD
set_option maxRecDepth 100000
namespace Go.Proofs.YtobfgljkckcmcaaGreatDoor.Coi
open Go.RowKit
open Mem Num Cod
set_option linter.unusedVariables false
structure OU.wide (x : OU) : Prop where
 kind : I64 x.kind
 amount : U64 x.amount
 key : x.key.size ≤ maxLen
 gate : x.gate.size ≤ maxLen
 expiry : I64 x.expiry
 anchor : x.anchor.size ≤ maxLen
 unit : U64 x.unit
 tokens : I64 x.tokens
 of_ : x.of_.size ≤ maxLen
structure IN.wide (x : IN) : Prop where
 tx : x.tx.size ≤ maxLen
 out : I64 x.out
 path : I64 x.path
 sig : x.sig.size ≤ maxLen
structure WN.wide (x : WN) : Prop where
 chan : x.chan.size ≤ maxLen
 serial : U64 x.serial
 face : U64 x.face
 wins : U64 x.wins
 many : U64 x.many
 commit : x.commit.size ≤ maxLen
 client : U64 x.client
 sig : x.sig.size ≤ maxLen
 salt : x.salt.size ≤ maxLen
 drawn : U64 x.drawn
/-- What a slice of records that came in holds. -/
structure Ins {α : Type} (C : α → List Value) (k : Nat) (P : α → Prop) (W : World) (a : Option Addr) (len cap : Nat) (f : Nat → α) : Prop where
 sl : SL C k W a len f
 le : len ≤ cap
 cap : cap ≤ maxLen
 ok : ∀ i, i < len → P (f i)
section
open Go.ChangeShapes Go.WideShapes Go.Deep
variable {H : Type} {enc : TypeId × Value → H} {w : World} {base : Nat} {spare : Nat → Bool} {held : Bool}
theorem int_cells : Tryz.prog.cellsOf 3 = 1 := by kernel_rfl
theorem u64_cells : Tryz.prog.cellsOf 24 = 1 := by kernel_rfl
theorem str_cells : Tryz.prog.cellsOf 9 = 1 := by kernel_rfl
theorem out_cells : Tryz.prog.cellsOf 47 = 9 := by kernel_rfl
theorem trod_out {fuel : Nat} {cs : List Value} {x : DataW H × List MemPlace} (hl : cs.length = 9) (h : DataW.trod enc Tryz.prog w base spare held fuel 47 cs = some x) : ∃ r : OU, cs = r.cells ∧ r.wide := by
 obtain ⟨ys, n', _, _, hlen, hyl, hf⟩ := DataW.trod_struct Tryz.underlying47 h
 obtain ⟨c0, c1, c2, c3, c4, c5, c6, c7, c8, rfl⟩ : ∃ c0 c1 c2 c3 c4 c5 c6 c7 c8, cs = [c0, c1, c2, c3, c4, c5, c6, c7, c8] := by
  match cs, hl with
  | [c0, c1, c2, c3, c4, c5, c6, c7, c8], _ => exact ⟨c0, c1, c2, c3, c4, c5, c6, c7, c8, rfl⟩
 obtain ⟨y0, y1, y2, y3, y4, y5, y6, y7, y8, rfl⟩ : ∃ y0 y1 y2 y3 y4 y5 y6 y7 y8, ys = [y0, y1, y2, y3, y4, y5, y6, y7, y8] := by
  match ys, hyl with
  | [y0, y1, y2, y3, y4, y5, y6, y7, y8], _ => exact ⟨y0, y1, y2, y3, y4, y5, y6, y7, y8, rfl⟩
 have g0 : DataW.trod enc Tryz.prog w base spare held n' 3 [c0] = some y0 := by have := hf 0 _ rfl; simpa [int_cells, u64_cells, str_cells] using this
 obtain ⟨v0, k0, _, b0⟩ := DataW.trod_int Tryz.underlying3 g0
 have g1 : DataW.trod enc Tryz.prog w base spare held n' 24 [c1] = some y1 := by have := hf 1 _ rfl; simpa [int_cells, u64_cells, str_cells] using this
 obtain ⟨v1, k1, _, b1⟩ := DataW.trod_int Tryz.underlying24 g1
 have g2 : DataW.trod enc Tryz.prog w base spare held n' 9 [c2] = some y2 := by have := hf 2 _ rfl; simpa [int_cells, u64_cells, str_cells] using this
 obtain ⟨v2, k2, _, b2⟩ := DataW.trod_string Tryz.underlying9 g2
 have g3 : DataW.trod enc Tryz.prog w base spare held n' 9 [c3] = some y3 := by have := hf 3 _ rfl; simpa [int_cells, u64_cells, str_cells] using this
 obtain ⟨v3, k3, _, b3⟩ := DataW.trod_string Tryz.underlying9 g3
 have g4 : DataW.trod enc Tryz.prog w base spare held n' 3 [c4] = some y4 := by have := hf 4 _ rfl; simpa [int_cells, u64_cells, str_cells] using this
 obtain ⟨v4, k4, _, b4⟩ := DataW.trod_int Tryz.underlying3 g4
 have g5 : DataW.trod enc Tryz.prog w base spare held n' 9 [c5] = some y5 := by have := hf 5 _ rfl; simpa [int_cells, u64_cells, str_cells] using this
 obtain ⟨v5, k5, _, b5⟩ := DataW.trod_string Tryz.underlying9 g5
 have g6 : DataW.trod enc Tryz.prog w base spare held n' 24 [c6] = some y6 := by have := hf 6 _ rfl; simpa [int_cells, u64_cells, str_cells] using this
 obtain ⟨v6, k6, _, b6⟩ := DataW.trod_int Tryz.underlying24 g6
 have g7 : DataW.trod enc Tryz.prog w base spare held n' 3 [c7] = some y7 := by have := hf 7 _ rfl; simpa [int_cells, u64_cells, str_cells] using this
 obtain ⟨v7, k7, _, b7⟩ := DataW.trod_int Tryz.underlying3 g7
 have g8 : DataW.trod enc Tryz.prog w base spare held n' 9 [c8] = some y8 := by have := hf 8 _ rfl; simpa [int_cells, u64_cells, str_cells] using this
 obtain ⟨v8, k8, _, b8⟩ := DataW.trod_string Tryz.underlying9 g8
 simp only [List.cons.injEq, and_true] at k0 k1 k2 k3 k4 k5 k6 k7 k8
 subst k0 k1 k2 k3 k4 k5 k6 k7 k8
 exact ⟨⟨v0, v1, v2, v3, v4, v5, v6, v7, v8⟩, rfl, ⟨bounds_i64 b0, bounds_u64 b1, b2, b3, bounds_i64 b4, b5, bounds_u64 b6, bounds_i64 b7, b8⟩⟩
theorem open_outs {fuel : Nat} {cs : List Value} {x : DataW H × List MemPlace} (h : DataW.trod enc Tryz.prog w base spare held fuel 23 cs = some x) :
 ∃ a len cap f, cs = [.slice a len cap] ∧ Ins OU.cells 9 OU.wide w a len cap f := by
 rcases open_slice Tryz.underlying23 h with ⟨h0, _⟩ | ⟨a, len, cap, m, n, D, Pl, hcs, hb, hl, hm, hmm, hx, hi⟩
 · exact ⟨none, 0, 0, fun _ => ⟨0, 0, ⟨#[]⟩, ⟨#[]⟩, 0, ⟨#[]⟩, 0, 0, ⟨#[]⟩⟩, h0, ⟨SL.nil rfl, Nat.le_refl _, Nat.zero_le _, fun i hi => by omega⟩⟩
 · have hlm : len ≤ m := by rw [hmm]; split <;> omega
   have hp : ∀ i, i < len → ∃ p : OU, (∀ j v, (p.cells)[j]? = some v → w.cell? ((a.add (i * 9)).add j) = some v) ∧ p.wide := by
    intro i hil
    obtain ⟨cs', hc, ht⟩ := hi i (by omega)
    rw [out_cells] at hc
    obtain ⟨_, hcl, hat⟩ := World.cells?_some hc
    obtain ⟨r, hr, wr⟩ := trod_out hcl ht
    subst hr
    refine ⟨r, fun j v hj => ?_, wr⟩
    have hjl := (List.getElem?_eq_some_iff.1 hj).1
    have := hat j (by rw [← hcl]; exact hjl)
    rw [hj] at this
    exact this
   have hF : ∃ f : Nat → OU, ∀ i, i < len → (∀ j v, ((f i).cells)[j]? = some v → w.cell? ((a.add (i * 9)).add j) = some v) ∧ (f i).wide :=
    ⟨fun i => if h : i < len then Classical.choose (hp i h) else ⟨0, 0, ⟨#[]⟩, ⟨#[]⟩, 0, ⟨#[]⟩, 0, 0, ⟨#[]⟩⟩, fun i hil => by simp only [dif_pos hil]; exact Classical.choose_spec (hp i hil)⟩
   obtain ⟨f, hf⟩ := hF
   refine ⟨some a, len, cap, f, hcs, ⟨?_, hl, hm, fun i hi => (hf i hi).2⟩⟩
   by_cases h0 : len = 0
   · exact SL.nil h0
   obtain ⟨b, off, spot⟩ := a
   obtain ⟨c0, hc0⟩ : ∃ c0, ((f 0).cells)[0]? = some c0 := ⟨_, rfl⟩
   have hs := (hf 0 (by omega)).1 0 _ hc0
   have hspot : spot = none := by simpa [Addr.add] using World.cell?_spot hs
   subst hspot
   refine .inr ⟨b, off, rfl, fun i hi j v hv => ?_⟩
   have := (hf i hi).1 j v hv
   rw [Go.WideShapes.add_plain, Go.WideShapes.add_plain] at this
   exact this
theorem inp_cells : Tryz.prog.cellsOf 53 = 4 := by kernel_rfl
theorem inp_sub_cells : Tryz.prog.cellsOf 31 = 2 := by kernel_rfl
theorem trod_inp {fuel : Nat} {cs : List Value} {x : DataW H × List MemPlace} (hl : cs.length = 4) (h : DataW.trod enc Tryz.prog w base spare held fuel 53 cs = some x) : ∃ r : IN, cs = r.cells ∧ r.wide := by
 obtain ⟨ys, n', _, _, hlen, hyl, hf⟩ := DataW.trod_struct Tryz.underlying53 h
 obtain ⟨c0, c1, c2, c3, rfl⟩ : ∃ c0 c1 c2 c3, cs = [c0, c1, c2, c3] := by
  match cs, hl with
  | [c0, c1, c2, c3], _ => exact ⟨c0, c1, c2, c3, rfl⟩
 obtain ⟨y0, y1, y2, rfl⟩ : ∃ y0 y1 y2, ys = [y0, y1, y2] := by
  match ys, hyl with
  | [y0, y1, y2], _ => exact ⟨y0, y1, y2, rfl⟩
 have e0 : DataW.trod enc Tryz.prog w base spare held n' 31 [c0, c1] = some y0 := by have := hf 0 _ rfl; simpa [int_cells, u64_cells, str_cells, inp_sub_cells] using this
 obtain ⟨zs, n2, _, _, hlen2, hzl, hg⟩ := DataW.trod_struct Tryz.underlying31 e0
 obtain ⟨z0, z1, rfl⟩ : ∃ z0 z1, zs = [z0, z1] := by
  match zs, hzl with
  | [z0, z1], _ => exact ⟨z0, z1, rfl⟩
 have g0 : DataW.trod enc Tryz.prog w base spare held n2 9 [c0] = some z0 := by have := hg 0 _ rfl; simpa [int_cells, u64_cells, str_cells, inp_sub_cells] using this
 obtain ⟨v0, k0, _, b0⟩ := DataW.trod_string Tryz.underlying9 g0
 have g1 : DataW.trod enc Tryz.prog w base spare held n2 3 [c1] = some z1 := by have := hg 1 _ rfl; simpa [int_cells, u64_cells, str_cells, inp_sub_cells] using this
 obtain ⟨v1, k1, _, b1⟩ := DataW.trod_int Tryz.underlying3 g1
 have g2 : DataW.trod enc Tryz.prog w base spare held n' 3 [c2] = some y1 := by have := hf 1 _ rfl; simpa [int_cells, u64_cells, str_cells, inp_sub_cells] using this
 obtain ⟨v2, k2, _, b2⟩ := DataW.trod_int Tryz.underlying3 g2
 have g3 : DataW.trod enc Tryz.prog w base spare held n' 9 [c3] = some y2 := by have := hf 2 _ rfl; simpa [int_cells, u64_cells, str_cells, inp_sub_cells] using this
 obtain ⟨v3, k3, _, b3⟩ := DataW.trod_string Tryz.underlying9 g3
 simp only [List.cons.injEq, and_true] at k0 k1 k2 k3
 subst k0 k1 k2 k3
 exact ⟨⟨v0, v1, v2, v3⟩, rfl, ⟨b0, bounds_i64 b1, bounds_i64 b2, b3⟩⟩
theorem open_inps {fuel : Nat} {cs : List Value} {x : DataW H × List MemPlace} (h : DataW.trod enc Tryz.prog w base spare held fuel 22 cs = some x) :
 ∃ a len cap f, cs = [.slice a len cap] ∧ Ins IN.cells 4 IN.wide w a len cap f := by
 rcases open_slice Tryz.underlying22 h with ⟨h0, _⟩ | ⟨a, len, cap, m, n, D, Pl, hcs, hb, hl, hm, hmm, hx, hi⟩
 · exact ⟨none, 0, 0, fun _ => ⟨⟨#[]⟩, 0, 0, ⟨#[]⟩⟩, h0, ⟨SL.nil rfl, Nat.le_refl _, Nat.zero_le _, fun i hi => by omega⟩⟩
 · have hlm : len ≤ m := by rw [hmm]; split <;> omega
   have hp : ∀ i, i < len → ∃ p : IN, (∀ j v, (p.cells)[j]? = some v → w.cell? ((a.add (i * 4)).add j) = some v) ∧ p.wide := by
    intro i hil
    obtain ⟨cs', hc, ht⟩ := hi i (by omega)
    rw [inp_cells] at hc
    obtain ⟨_, hcl, hat⟩ := World.cells?_some hc
    obtain ⟨r, hr, wr⟩ := trod_inp hcl ht
    subst hr
    refine ⟨r, fun j v hj => ?_, wr⟩
    have hjl := (List.getElem?_eq_some_iff.1 hj).1
    have := hat j (by rw [← hcl]; exact hjl)
    rw [hj] at this
    exact this
   have hF : ∃ f : Nat → IN, ∀ i, i < len → (∀ j v, ((f i).cells)[j]? = some v → w.cell? ((a.add (i * 4)).add j) = some v) ∧ (f i).wide :=
    ⟨fun i => if h : i < len then Classical.choose (hp i h) else ⟨⟨#[]⟩, 0, 0, ⟨#[]⟩⟩, fun i hil => by simp only [dif_pos hil]; exact Classical.choose_spec (hp i hil)⟩
   obtain ⟨f, hf⟩ := hF
   refine ⟨some a, len, cap, f, hcs, ⟨?_, hl, hm, fun i hi => (hf i hi).2⟩⟩
   by_cases h0 : len = 0
   · exact SL.nil h0
   obtain ⟨b, off, spot⟩ := a
   obtain ⟨c0, hc0⟩ : ∃ c0, ((f 0).cells)[0]? = some c0 := ⟨_, rfl⟩
   have hs := (hf 0 (by omega)).1 0 _ hc0
   have hspot : spot = none := by simpa [Addr.add] using World.cell?_spot hs
   subst hspot
   refine .inr ⟨b, off, rfl, fun i hi j v hv => ?_⟩
   have := (hf i hi).1 j v hv
   rw [Go.WideShapes.add_plain, Go.WideShapes.add_plain] at this
   exact this
theorem win_cells : Tryz.prog.cellsOf 135 = 10 := by kernel_rfl
theorem win_sub_cells : Tryz.prog.cellsOf 133 = 8 := by kernel_rfl
theorem trod_win {fuel : Nat} {cs : List Value} {x : DataW H × List MemPlace} (hl : cs.length = 10) (h : DataW.trod enc Tryz.prog w base spare held fuel 135 cs = some x) : ∃ r : WN, cs = r.cells ∧ r.wide := by
 obtain ⟨ys, n', _, _, hlen, hyl, hf⟩ := DataW.trod_struct Tryz.underlying135 h
 obtain ⟨c0, c1, c2, c3, c4, c5, c6, c7, c8, c9, rfl⟩ : ∃ c0 c1 c2 c3 c4 c5 c6 c7 c8 c9, cs = [c0, c1, c2, c3, c4, c5, c6, c7, c8, c9] := by
  match cs, hl with
  | [c0, c1, c2, c3, c4, c5, c6, c7, c8, c9], _ => exact ⟨c0, c1, c2, c3, c4, c5, c6, c7, c8, c9, rfl⟩
 obtain ⟨y0, y1, y2, rfl⟩ : ∃ y0 y1 y2, ys = [y0, y1, y2] := by
  match ys, hyl with
  | [y0, y1, y2], _ => exact ⟨y0, y1, y2, rfl⟩
 have e0 : DataW.trod enc Tryz.prog w base spare held n' 133 [c0, c1, c2, c3, c4, c5, c6, c7] = some y0 := by have := hf 0 _ rfl; simpa [int_cells, u64_cells, str_cells, win_sub_cells] using this
 obtain ⟨zs, n2, _, _, hlen2, hzl, hg⟩ := DataW.trod_struct Tryz.underlying133 e0
 obtain ⟨z0, z1, z2, z3, z4, z5, z6, z7, rfl⟩ : ∃ z0 z1 z2 z3 z4 z5 z6 z7, zs = [z0, z1, z2, z3, z4, z5, z6, z7] := by
  match zs, hzl with
  | [z0, z1, z2, z3, z4, z5, z6, z7], _ => exact ⟨z0, z1, z2, z3, z4, z5, z6, z7, rfl⟩
 have g0 : DataW.trod enc Tryz.prog w base spare held n2 9 [c0] = some z0 := by have := hg 0 _ rfl; simpa [int_cells, u64_cells, str_cells, win_sub_cells] using this
 obtain ⟨v0, k0, _, b0⟩ := DataW.trod_string Tryz.underlying9 g0
 have g1 : DataW.trod enc Tryz.prog w base spare held n2 24 [c1] = some z1 := by have := hg 1 _ rfl; simpa [int_cells, u64_cells, str_cells, win_sub_cells] using this
 obtain ⟨v1, k1, _, b1⟩ := DataW.trod_int Tryz.underlying24 g1
 have g2 : DataW.trod enc Tryz.prog w base spare held n2 24 [c2] = some z2 := by have := hg 2 _ rfl; simpa [int_cells, u64_cells, str_cells, win_sub_cells] using this
 obtain ⟨v2, k2, _, b2⟩ := DataW.trod_int Tryz.underlying24 g2
 have g3 : DataW.trod enc Tryz.prog w base spare held n2 24 [c3] = some z3 := by have := hg 3 _ rfl; simpa [int_cells, u64_cells, str_cells, win_sub_cells] using this
 obtain ⟨v3, k3, _, b3⟩ := DataW.trod_int Tryz.underlying24 g3
 have g4 : DataW.trod enc Tryz.prog w base spare held n2 24 [c4] = some z4 := by have := hg 4 _ rfl; simpa [int_cells, u64_cells, str_cells, win_sub_cells] using this
 obtain ⟨v4, k4, _, b4⟩ := DataW.trod_int Tryz.underlying24 g4
 have g5 : DataW.trod enc Tryz.prog w base spare held n2 9 [c5] = some z5 := by have := hg 5 _ rfl; simpa [int_cells, u64_cells, str_cells, win_sub_cells] using this
 obtain ⟨v5, k5, _, b5⟩ := DataW.trod_string Tryz.underlying9 g5
 have g6 : DataW.trod enc Tryz.prog w base spare held n2 24 [c6] = some z6 := by have := hg 6 _ rfl; simpa [int_cells, u64_cells, str_cells, win_sub_cells] using this
 obtain ⟨v6, k6, _, b6⟩ := DataW.trod_int Tryz.underlying24 g6
 have g7 : DataW.trod enc Tryz.prog w base spare held n2 9 [c7] = some z7 := by have := hg 7 _ rfl; simpa [int_cells, u64_cells, str_cells, win_sub_cells] using this
 obtain ⟨v7, k7, _, b7⟩ := DataW.trod_string Tryz.underlying9 g7
 have g8 : DataW.trod enc Tryz.prog w base spare held n' 9 [c8] = some y1 := by have := hf 1 _ rfl; simpa [int_cells, u64_cells, str_cells, win_sub_cells] using this
 obtain ⟨v8, k8, _, b8⟩ := DataW.trod_string Tryz.underlying9 g8
 have g9 : DataW.trod enc Tryz.prog w base spare held n' 24 [c9] = some y2 := by have := hf 2 _ rfl; simpa [int_cells, u64_cells, str_cells, win_sub_cells] using this
 obtain ⟨v9, k9, _, b9⟩ := DataW.trod_int Tryz.underlying24 g9
 simp only [List.cons.injEq, and_true] at k0 k1 k2 k3 k4 k5 k6 k7 k8 k9
 subst k0 k1 k2 k3 k4 k5 k6 k7 k8 k9
 exact ⟨⟨v0, v1, v2, v3, v4, v5, v6, v7, v8, v9⟩, rfl, ⟨b0, bounds_u64 b1, bounds_u64 b2, bounds_u64 b3, bounds_u64 b4, b5, bounds_u64 b6, b7, b8, bounds_u64 b9⟩⟩
theorem open_wins {fuel : Nat} {cs : List Value} {x : DataW H × List MemPlace} (h : DataW.trod enc Tryz.prog w base spare held fuel 25 cs = some x) :
 ∃ a len cap f, cs = [.slice a len cap] ∧ Ins WN.cells 10 WN.wide w a len cap f := by
 rcases open_slice Tryz.underlying25 h with ⟨h0, _⟩ | ⟨a, len, cap, m, n, D, Pl, hcs, hb, hl, hm, hmm, hx, hi⟩
 · exact ⟨none, 0, 0, fun _ => ⟨⟨#[]⟩, 0, 0, 0, 0, ⟨#[]⟩, 0, ⟨#[]⟩, ⟨#[]⟩, 0⟩, h0, ⟨SL.nil rfl, Nat.le_refl _, Nat.zero_le _, fun i hi => by omega⟩⟩
 · have hlm : len ≤ m := by rw [hmm]; split <;> omega
   have hp : ∀ i, i < len → ∃ p : WN, (∀ j v, (p.cells)[j]? = some v → w.cell? ((a.add (i * 10)).add j) = some v) ∧ p.wide := by
    intro i hil
    obtain ⟨cs', hc, ht⟩ := hi i (by omega)
    rw [win_cells] at hc
    obtain ⟨_, hcl, hat⟩ := World.cells?_some hc
    obtain ⟨r, hr, wr⟩ := trod_win hcl ht
    subst hr
    refine ⟨r, fun j v hj => ?_, wr⟩
    have hjl := (List.getElem?_eq_some_iff.1 hj).1
    have := hat j (by rw [← hcl]; exact hjl)
    rw [hj] at this
    exact this
   have hF : ∃ f : Nat → WN, ∀ i, i < len → (∀ j v, ((f i).cells)[j]? = some v → w.cell? ((a.add (i * 10)).add j) = some v) ∧ (f i).wide :=
    ⟨fun i => if h : i < len then Classical.choose (hp i h) else ⟨⟨#[]⟩, 0, 0, 0, 0, ⟨#[]⟩, 0, ⟨#[]⟩, ⟨#[]⟩, 0⟩, fun i hil => by simp only [dif_pos hil]; exact Classical.choose_spec (hp i hil)⟩
   obtain ⟨f, hf⟩ := hF
   refine ⟨some a, len, cap, f, hcs, ⟨?_, hl, hm, fun i hi => (hf i hi).2⟩⟩
   by_cases h0 : len = 0
   · exact SL.nil h0
   obtain ⟨b, off, spot⟩ := a
   obtain ⟨c0, hc0⟩ : ∃ c0, ((f 0).cells)[0]? = some c0 := ⟨_, rfl⟩
   have hs := (hf 0 (by omega)).1 0 _ hc0
   have hspot : spot = none := by simpa [Addr.add] using World.cell?_spot hs
   subst hspot
   refine .inr ⟨b, off, rfl, fun i hi j v hv => ?_⟩
   have := (hf i hi).1 j v hv
   rw [Go.WideShapes.add_plain, Go.WideShapes.add_plain] at this
   exact this
end
end Go.Proofs.YtobfgljkckcmcaaGreatDoor.Coi
namespace Go.Proofs.YtobfgljkckcmcaaGreatDoor.Plan
open Go
set_option linter.unusedVariables false
section
variable {P : Program} {ops : Array Oper} {Qx : Exit → Act → World → Prop} {V : Nat → Value → World → Prop} {T : World → World → Prop} {S : World → Prop} {a0 : Act} {p n : Nat}
structure Inv2 (ops : Array Oper) (V : Nat → Value → World → Prop) (S : World → Prop) (a0 : Act) (p : Nat) (l : Array Bool) (a : Act) (w : World) : Prop where
 sz : a.tmps.size = a0.tmps.size
 df : a.defers = a0.defers
 lsz : l.size = ops.size
 old : ∀ s, (∀ (i : Nat) (o : Oper), ops[i]? = some o → o.dst ≠ some s) → a.tmps[s]? = a0.tmps[s]?
 val : ∀ (i : Nat) (o : Oper), ops[i]? = some o → l.getD i false = true → V i (slot a o) w
 st : l.getD p false = false → S w
 pl : ∀ (q : Nat), l.getD q false = true → ∀ (o : Oper), ops[q]? = some o → ∀ e ∈ o.after, Region.binds .any e = true → l.getD e.on false = true
/-- It is waited for by operation p, itself. -/
def dir (ops : Array Oper) (p i : Nat) : Bool := match ops[p]? with
 | none => false
 | some o => o.after.any fun e => Region.binds .any e && Nat.beq e.on i
theorem dir_spec {i : Nat} {o : Oper} (h : dir ops p i = true) (ho : ops[p]? = some o) : ∃ e ∈ o.after, Region.binds .any e = true ∧ e.on = i := by
 unfold dir at h
 rw [ho] at h
 dsimp only at h
 rw [Array.any_eq_true] at h
 obtain ⟨k, hk, h⟩ := h
 rw [Bool.and_eq_true] at h
 exact ⟨o.after[k], Array.getElem_mem hk, h.1, Nat.eq_of_beq_eq_true h.2⟩
/-- It is waited for by operation p, or by one that is waited for. -/
def reach (ops : Array Oper) : Nat → Nat → Nat → Bool
 | 0, _, _ => false
 | f + 1, p, i => dir ops p i || match ops[p]? with
  | none => false
  | some o => o.after.any fun e => Region.binds .any e && reach ops f e.on i
def ahead (ops : Array Oper) (p i : Nat) : Bool := reach ops 12 p i
theorem reach_listed {l : Array Bool} (pl : ∀ (q : Nat), l.getD q false = true → ∀ (o : Oper), ops[q]? = some o → ∀ e ∈ o.after, Region.binds .any e = true → l.getD e.on false = true) :
 ∀ (f p i : Nat), reach ops f p i = true → l.getD p false = true → l.getD i false = true
 | 0, _, _, h, _ => by cases h
 | f + 1, p, i, h, hp => by
  unfold reach at h
  rw [Bool.or_eq_true] at h
  cases ho : ops[p]? with
  | none =>
   rcases h with h | h
   · unfold dir at h; rw [ho] at h; cases h
   · rw [ho] at h; cases h
  | some o =>
   rcases h with h | h
   · obtain ⟨e, he, hb, rfl⟩ := dir_spec h ho
     exact pl p hp o ho e he hb
   · rw [ho] at h
     dsimp only at h
     rw [Array.any_eq_true] at h
     obtain ⟨k, hk, h⟩ := h
     rw [Bool.and_eq_true] at h
     exact reach_listed pl f _ i h.2 (pl p hp o ho _ (Array.getElem_mem hk) h.1)
/-- All others are waited for by the last one. -/
def lastOf (ops : Array Oper) (n : Nat) : Bool := (List.range n).all fun i => ahead ops n i
def After (o : Oper) (l : Array Bool) : Prop := ∀ e ∈ o.after, Region.binds .any e = true → l.getD e.on false = true
def Step2 (P : Program) (ops : Array Oper) (V : Nat → Value → World → Prop) (T : World → World → Prop) (S : World → Prop) (a0 : Act) (p : Nat) (Qx : Exit → Act → World → Prop) (i : Nat) (o : Oper) : Prop :=
 ahead ops p i = true ∧ ∀ l a w, Inv2 ops V S a0 p l a w → After o l → S w →
  wpOp P ops Qx i (fun a' w' => ∃ v, a' = a.put o.dst v ∧ T w w' ∧ S w' ∧ V i (match o.dst with | some _ => v | none => undef) w') a w
def StepP (P : Program) (ops : Array Oper) (V : Nat → Value → World → Prop) (T : World → World → Prop) (S : World → Prop) (a0 : Act) (p : Nat) (Qx : Exit → Act → World → Prop) (o : Oper) : Prop :=
 ∀ l a w, Inv2 ops V S a0 p l a w → After o l → S w →
  wpOp P ops Qx p (fun a' w' => ∃ v, a' = a.put o.dst v ∧ T w w' ∧ V p (match o.dst with | some _ => v | none => undef) w') a w
def StepQ (P : Program) (ops : Array Oper) (V : Nat → Value → World → Prop) (S : World → Prop) (a0 : Act) (p : Nat) (Qx : Exit → Act → World → Prop) (i : Nat) (o : Oper) : Prop :=
 ∀ l a w, Inv2 ops V S a0 p l a w → After o l →
  wpOp P ops Qx i (fun a' w' => ∃ v, a' = a.put o.dst v ∧ w' = w ∧ V i (match o.dst with | some _ => v | none => undef) w) a w
theorem Inv2.put {i : Nat} {l : Array Bool} {a : Act} {w w' : World} {o : Oper} {v : Value} (hs : sound ops a0.tmps.size = true) (h : Inv2 ops V S a0 p l a w) (hi : ops[i]? = some o) (hun : l.getD i true = false)
 (keep : ∀ j oj, j ≠ i → ops[j]? = some oj → l.getD j false = true → V j (slot a oj) w') (s : (l.setIfInBounds i true).getD p false = false → S w') (ha : After o l) (hv : V i (match o.dst with | some _ => v | none => undef) w') :
 Inv2 ops V S a0 p (l.setIfInBounds i true) (a.put o.dst v) w' := by
 have hlt : i < ops.size := (Array.getElem?_eq_some_iff.1 hi).1
 refine ⟨?_, ?_, by simp [h.lsz], fun s hs' => ?_, fun j oj hj hl => ?_, s, fun q hp op hop e he hb => ?_⟩
 · rw [← h.sz]; cases o.dst <;> simp [Act.put]
 · rw [← h.df]; cases o.dst <;> simp [Act.put]
 · cases hd : o.dst with
   | none => exact h.old s hs'
   | some d => rw [put_get (fun e => hs' i o hi (by rw [hd, e]))]; exact h.old s hs'
 · by_cases hij : i = j
   · subst hij
     obtain rfl : o = oj := Option.some.inj (hi.symm.trans hj)
     cases hd : o.dst with
     | none => rw [hd] at hv; simpa [slot, hd] using hv
     | some d =>
      rw [hd] at hv
      have hb : d < a.tmps.size := by rw [h.sz]; exact ((sound_spec hs hi).2 d hd).1
      simp only [slot, hd]
      rw [put_self hb]
      exact hv
   · have hl' : l.getD j false = true := by rw [getD_set_ne false hij] at hl; exact hl
     have h0 := keep j oj (Ne.symm hij) hj hl'
     cases hd : o.dst with
     | none => exact h0
     | some d =>
      have hne := sound_ne hs hi hj hij hd
      unfold slot at h0 ⊢
      cases hd' : oj.dst with
      | none => rw [hd'] at h0; exact h0
      | some d' =>
       rw [hd'] at h0
       dsimp only at h0 ⊢
       rw [Array.getD_eq_getD_getElem?, put_get (fun e => hne (by rw [hd', e])), ← Array.getD_eq_getD_getElem?]
       exact h0
 · by_cases hpi : i = q
   · subst hpi
     obtain rfl : o = op := Option.some.inj (hi.symm.trans hop)
     exact getD_set_true (ha e he hb)
   · rw [getD_set_ne false hpi] at hp
     exact getD_set_true (h.pl q hp op hop e he hb)
theorem wpAny_all {md : Region.Mode} {l : Array Bool} {a : Act} {w : World} (hl : Region.ready md ops l = []) (q : Qx .normal a w) : ∀ fuel, wpAny P md ops Qx fuel l a w
 | 0 => ⟨hl, q⟩
 | fuel + 1 => ⟨fun _ => q, fun i hi => by rw [hl] at hi; cases hi⟩
theorem getD_or {l : Array Bool} {i : Nat} (h : i < l.size) : l.getD i true = l.getD i false := by
 rw [Array.getD_eq_getD_getElem?, Array.getD_eq_getD_getElem?, Array.getElem?_eq_getElem h]; rfl
theorem plan2_any (hs : sound ops a0.tmps.size = true) (hn : ops.size = n + 1) (hla : lastOf ops n = true) (hV : ∀ i v w w', i ≠ p → V i v w → T w w' → V i v w')
 (step : ∀ (i : Nat) (o : Oper), i < n → ops[i]? = some o → Step2 P ops V T S a0 p Qx i o ∨ (i = p ∧ StepP P ops V T S a0 p Qx o) ∨ StepQ P ops V S a0 p Qx i o)
 (fin : ∀ l a w, (∀ i, i < n → l.getD i false = true) → l.getD n false = false → Inv2 ops V S a0 p l a w → wpOp P ops Qx n (fun a w => Qx .normal a w) a w) :
 ∀ fuel l a w, l.toList.count false ≤ fuel → l.getD n true = false → Inv2 ops V S a0 p l a w → wpAny P .any ops Qx fuel l a w := by
 have hall : ∀ (l : Array Bool), (∀ (q : Nat), l.getD q false = true → ∀ (o : Oper), ops[q]? = some o → ∀ e ∈ o.after, Region.binds .any e = true → l.getD e.on false = true) → l.getD n true = false → n ∈ Region.ready .any ops l → ∀ i, i < n → l.getD i false = true := by
  intro l hl hln hm i hi
  obtain ⟨_, o, h2, h3⟩ := mem_ready.1 hm
  have h4 := List.all_eq_true.1 hla i (List.mem_range.2 hi)
  unfold ahead reach at h4
  rw [Bool.or_eq_true] at h4
  rcases h4 with h4 | h4
  · obtain ⟨e, he, hb, rfl⟩ := dir_spec h4 h2
    exact h3 e he hb
  · rw [h2] at h4
    dsimp only at h4
    rw [Array.any_eq_true] at h4
    obtain ⟨k, hk, h5⟩ := h4
    rw [Bool.and_eq_true] at h5
    exact reach_listed hl _ _ i h5.2 (h3 _ (Array.getElem_mem hk) h5.1)
 intro fuel
 induction fuel with
 | zero =>
  intro l a w hc hln h
  exfalso
  have h0 : false ∉ l.toList := List.count_eq_zero.1 (by omega)
  have hi' : n < l.size := by rw [h.lsz]; omega
  rw [Array.getD_eq_getD_getElem?, Array.getElem?_eq_getElem hi', Option.getD_some] at hln
  exact h0 (by rw [← hln]; exact Array.getElem_mem_toList hi')
 | succ fuel ih =>
  intro l a w hc hln h
  have hnn : n < l.size := by rw [h.lsz]; omega
  refine ⟨fun hr => ?_, fun i hi => ?_⟩
  · exfalso
    have hl : ∀ i, i < ops.size → l.getD i false = true := by
     intro i
     induction i using Nat.strongRecOn with
     | ind i ihi =>
      intro hlt
      cases hb : l.getD i false with
      | true => rfl
      | false =>
       have hmem : i ∈ Region.ready .any ops l := by
        refine mem_ready.2 ⟨?_, ops[i], Array.getElem?_eq_getElem hlt, fun e he hbd => ?_⟩
        · rw [getD_or (by rw [h.lsz]; exact hlt)]; exact hb
        · have := (sound_spec hs (Array.getElem?_eq_getElem hlt)).1 e he hbd
          exact ihi e.on this (by omega)
       rw [hr] at hmem; cases hmem
    have := hl n (by omega)
    rw [getD_or hnn] at hln
    rw [this] at hln; cases hln
  · obtain ⟨h1, o, h2, h3⟩ := mem_ready.1 hi
    have hlt : i < ops.size := (Array.getElem?_eq_some_iff.1 h2).1
    have hi' : i < l.toList.length := by rw [Array.length_toList, h.lsz]; exact hlt
    by_cases hin : i = n
    · subst hin
      have ha := hall l h.pl hln hi
      refine wpOp_mono ?_ (fin l a w ha (by rw [← getD_or (by rw [h.lsz]; exact hlt)]; exact h1) h)
      intro a' w' q
      refine wpAny_all ?_ q fuel
      refine List.eq_nil_iff_forall_not_mem.2 fun j hj => ?_
      obtain ⟨g1, oj, g2, _⟩ := mem_ready.1 hj
      have hlt' : j < ops.size := (Array.getElem?_eq_some_iff.1 g2).1
      by_cases hjn : i = j
      · subst hjn
        rw [getD_or (by rw [Array.size_setIfInBounds, h.lsz]; exact hlt'), getD_set_self (by rw [h.lsz]; exact hlt)] at g1; cases g1
      · rw [getD_set_ne true hjn, getD_or (by rw [h.lsz]; exact hlt'), ha j (by omega)] at g1; cases g1
    · have hcnt : (l.setIfInBounds i true).toList.count false ≤ fuel := by
       rw [Array.toList_setIfInBounds, List.count_set hi']
       have hb : l.toList[i] = false := by
        rw [Array.getElem_toList]
        rw [Array.getD_eq_getD_getElem?, Array.getElem?_eq_getElem (by simpa using hi'), Option.getD_some] at h1
        exact h1
       have hpos : 0 < l.toList.count false := List.count_pos_iff.2 (by rw [← hb]; exact List.getElem_mem hi')
       have e1 : (false == false) = true := rfl
       have e2 : (true == false) = false := rfl
       rw [hb, e1, e2]
       simp only [if_true, Bool.false_eq_true, if_false]
       omega
      have hln' : (l.setIfInBounds i true).getD n true = false := by rw [getD_set_ne true hin]; exact hln
      have hun : l.getD i false = false := by rw [← getD_or (by rw [h.lsz]; exact hlt)]; exact h1
      rcases step i o (by omega) h2 with ⟨hpre, st⟩ | ⟨rfl, st⟩ | st
      · have hnp : l.getD p false = false := by
         cases hb : l.getD p false with
         | false => rfl
         | true => rw [reach_listed h.pl _ _ _ hpre hb] at hun; cases hun
        refine wpOp_mono ?_ (st l a w h h3 (h.st hnp))
        rintro a' w' ⟨v, rfl, t, s, hv⟩
        exact ih _ _ _ hcnt hln' (h.put hs h2 h1 (fun j oj _ hj hl => hV j _ _ _ (fun e => by rw [e, hnp] at hl; cases hl) (h.val j oj hj hl) t) (fun _ => s) h3 hv)
      · refine wpOp_mono ?_ (st l a w h h3 (h.st hun))
        rintro a' w' ⟨v, rfl, t, hv⟩
        exact ih _ _ _ hcnt hln' (h.put hs h2 h1 (fun j oj hj1 hj hl => hV j _ _ _ hj1 (h.val j oj hj hl) t) (fun hb => by rw [getD_set_self (by rw [h.lsz]; exact hlt)] at hb; cases hb) h3 hv)
      · refine wpOp_mono ?_ (st l a w h h3)
        rintro a' w' ⟨v, rfl, rfl, hv⟩
        refine ih _ _ _ hcnt hln' (h.put hs h2 h1 (fun j oj _ hj hl => h.val j oj hj hl) (fun hb => h.st ?_) h3 hv)
        by_cases hip : i = p
        · subst hip; rw [getD_set_self (by rw [h.lsz]; exact hlt)] at hb; cases hb
        · rw [getD_set_ne false hip] at hb; exact hb
theorem wp_plan2 {id : Nat} {a : Act} {w : World} (V : Nat → Value → World → Prop) (T : World → World → Prop) (S : World → Prop) (p n : Nat) (hm : P.follows .mixedOrders = true) (hs : sound ops a.tmps.size = true) (hn : ops.size = n + 1) (hla : lastOf ops n = true)
 (hV : ∀ i v w w', i ≠ p → V i v w → T w w' → V i v w') (hS : S w.drew)
 (step : ∀ (i : Nat) (o : Oper), i < n → ops[i]? = some o → Step2 P ops V T S a p Qx i o ∨ (i = p ∧ StepP P ops V T S a p Qx o) ∨ StepQ P ops V S a p Qx i o)
 (fin : ∀ l a' w', (∀ i, i < n → l.getD i false = true) → l.getD n false = false → Inv2 ops V S a p l a' w' → wpOp P ops Qx n (fun a w => Qx .normal a w) a' w') : (Code.region id ops true).wp P Qx a w := by
 have hff : ∀ i, (Array.replicate ops.size false).getD i false = false := fun i => by
  rw [Array.getD_eq_getD_getElem?]
  by_cases h : i < ops.size <;> simp [h]
 refine wp_region_any hm ?_
 refine plan2_any (a0 := a) hs hn hla hV step fin _ _ _ _ ?_ ?_ ⟨rfl, rfl, by simp, fun _ _ => rfl, fun i o hi hl => ?_, fun _ => hS, fun q hp => ?_⟩
 · simp
 · rw [getD_or (by simp; omega)]; exact hff n
 · rw [hff] at hl; cases hl
 · rw [hff] at hp; cases hp
end
section
variable {P : Program} {ops : Array Oper} {Qx : Exit → Act → World → Prop} {V : Nat → Value → World → Prop} {T : World → World → Prop} {S : World → Prop} {a0 : Act} {p n : Nat}
theorem Step2.pure {i : Nat} {o : Oper} (hi : ops[i]? = some o) (hpre : ahead ops p i = true) (v : Value) (hT : ∀ w, T w w)
 (h : ∀ l a w, Inv2 ops V S a0 p l a w → After o l → S w → Region.wanted o (yielded ops a.tmps) = true ∧ (execOp a.eval o).run P w = .ok (.value v) w ∧ V i (match o.dst with | some _ => v | none => undef) w) : Step2 P ops V T S a0 p Qx i o := by
 refine ⟨hpre, fun l a w hI hl hS => ?_⟩
 obtain ⟨h1, h2, h3⟩ := h l a w hI hl hS
 unfold wpOp
 rw [hi]
 dsimp only
 rw [if_pos h1]
 refine .inl ?_
 unfold Oper.wp
 rw [h2, Oper.upon_value]
 exact ⟨v, rfl, hT w, hS, h3⟩
theorem Step2.done {i : Nat} {o : Oper} (hi : ops[i]? = some o) (hpre : ahead ops p i = true)
 (h : ∀ l a w, Inv2 ops V S a0 p l a w → After o l → S w → Region.wanted o (yielded ops a.tmps) = true ∧ o.wp P a w (fun a' w' => ∃ v, a' = a.put o.dst v ∧ T w w' ∧ S w' ∧ V i (match o.dst with | some _ => v | none => undef) w') Qx) : Step2 P ops V T S a0 p Qx i o := by
 refine ⟨hpre, fun l a w hI hl hS => ?_⟩
 obtain ⟨h1, h2⟩ := h l a w hI hl hS
 unfold wpOp
 rw [hi]
 dsimp only
 rw [if_pos h1]
 exact .inl h2
theorem StepP.done {o : Oper} (hi : ops[p]? = some o)
 (h : ∀ l a w, Inv2 ops V S a0 p l a w → After o l → S w → Region.wanted o (yielded ops a.tmps) = true ∧ o.wp P a w (fun a' w' => ∃ v, a' = a.put o.dst v ∧ T w w' ∧ V p (match o.dst with | some _ => v | none => undef) w') Qx) : StepP P ops V T S a0 p Qx o := by
 intro l a w hI hl hS
 obtain ⟨h1, h2⟩ := h l a w hI hl hS
 unfold wpOp
 rw [hi]
 dsimp only
 rw [if_pos h1]
 exact .inl h2
theorem StepQ.pure {i : Nat} {o : Oper} (hi : ops[i]? = some o) (v : Value)
 (h : ∀ l a w, Inv2 ops V S a0 p l a w → After o l → Region.wanted o (yielded ops a.tmps) = true ∧ (execOp a.eval o).run P w = .ok (.value v) w ∧ V i (match o.dst with | some _ => v | none => undef) w) : StepQ P ops V S a0 p Qx i o := by
 intro l a w hI hl
 obtain ⟨h1, h2, h3⟩ := h l a w hI hl
 unfold wpOp
 rw [hi]
 dsimp only
 rw [if_pos h1]
 refine .inl ?_
 unfold Oper.wp
 rw [h2, Oper.upon_value]
 exact ⟨v, rfl, rfl, h3⟩
theorem Inv2.base {l : Array Bool} {a : Act} {w : World} (h : Inv2 ops V S a0 p l a w) (s : Nat) (hf : free ops s = true) : a.eval (.tmp s) = a0.eval (.tmp s) := by
 show a.tmps.getD s undef = a0.tmps.getD s undef
 rw [Array.getD_eq_getD_getElem?, Array.getD_eq_getD_getElem?, h.old s]
 intro i o hi hd
 have := Array.all_eq_true_iff_forall_mem.1 hf o (Array.mem_of_getElem? hi)
 rw [hd] at this
 simp at this
theorem Inv2.at_ {l : Array Bool} {a : Act} {w : World} (h : Inv2 ops V S a0 p l a w) (j d : Nat) (o : Oper) (hj : ops[j]? = some o) (hd : o.dst = some d) (hl : l.getD j false = true) : V j (a.eval (.tmp d)) w := by
 have := h.val j o hj hl
 unfold slot at this
 rw [hd] at this
 exact this
theorem Inv2.no {l : Array Bool} {a : Act} {w : World} (h : Inv2 ops V S a0 p l a w) (j : Nat) (o : Oper) (hj : ops[j]? = some o) (hd : o.dst = none) (hl : l.getD j false = true) : V j undef w := by
 have := h.val j o hj hl
 unfold slot at this
 rw [hd] at this
 exact this
theorem fin_of {K : Act → World → Prop} {o : Oper} {a : Act} {w : World} (hi : ops[n]? = some o) (hw : Region.wanted o (yielded ops a.tmps) = true) (h : o.wp P a w K Qx) : wpOp P ops Qx n K a w := by
 unfold wpOp
 rw [hi]
 dsimp only
 rw [if_pos hw]
 exact .inl h
/-- All steps but the last one's. -/
def Steps2 (P : Program) (ops : Array Oper) (V : Nat → Value → World → Prop) (T : World → World → Prop) (S : World → Prop) (a0 : Act) (p : Nat) (Qx : Exit → Act → World → Prop) : Nat → List Oper → Prop
 | _, [] => True
 | k, o :: r => (Step2 P ops V T S a0 p Qx k o ∨ (k = p ∧ StepP P ops V T S a0 p Qx o) ∨ StepQ P ops V S a0 p Qx k o) ∧ Steps2 P ops V T S a0 p Qx (k + 1) r
theorem s2_cons {k : Nat} {o : Oper} {r : List Oper} (h : Step2 P ops V T S a0 p Qx k o) (t : Steps2 P ops V T S a0 p Qx (k + 1) r) : Steps2 P ops V T S a0 p Qx k (o :: r) := ⟨.inl h, t⟩
theorem sp_cons {k : Nat} {o : Oper} {r : List Oper} (e : k = p) (h : StepP P ops V T S a0 p Qx o) (t : Steps2 P ops V T S a0 p Qx (k + 1) r) : Steps2 P ops V T S a0 p Qx k (o :: r) := ⟨.inr (.inl ⟨e, h⟩), t⟩
theorem sq_cons {k : Nat} {o : Oper} {r : List Oper} (h : StepQ P ops V S a0 p Qx k o) (t : Steps2 P ops V T S a0 p Qx (k + 1) r) : Steps2 P ops V T S a0 p Qx k (o :: r) := ⟨.inr (.inr h), t⟩
theorem steps2_from : ∀ (l : List Oper) (k : Nat), Steps2 P ops V T S a0 p Qx k l → ∀ (i : Nat) (o : Oper), l[i]? = some o → Step2 P ops V T S a0 p Qx (k + i) o ∨ (k + i = p ∧ StepP P ops V T S a0 p Qx o) ∨ StepQ P ops V S a0 p Qx (k + i) o
 | [], _, _, i, o, h => by simp at h
 | o' :: r, k, h, 0, o, e => by
  simp only [List.getElem?_cons_zero, Option.some.injEq] at e
  subst e
  exact h.1
 | o' :: r, k, h, i + 1, o, e => by
  simp only [List.getElem?_cons_succ] at e
  have := steps2_from r (k + 1) h.2 i o e
  rwa [show k + 1 + i = k + (i + 1) by omega] at this
theorem steps2_all {l : List Oper} (hO : ops = l.toArray) (l' : List Oper) (hl : l.take n = l') (h : Steps2 P ops V T S a0 p Qx 0 l') (i : Nat) (o : Oper) (hi : i < n) (e : ops[i]? = some o) : Step2 P ops V T S a0 p Qx i o ∨ (i = p ∧ StepP P ops V T S a0 p Qx o) ∨ StepQ P ops V S a0 p Qx i o := by
 have := steps2_from l' 0 h i o (by rw [← hl, List.getElem?_take_of_lt hi]; rw [hO] at e; simpa using e)
 rwa [Nat.zero_add] at this
def StableX (T : World → World → Prop) (p : Nat) : Nat → List (Value → World → Prop) → Prop
 | _, [] => True
 | k, q :: r => (k = p ∨ ∀ v w w', q v w → T w w' → q v w') ∧ StableX T p (k + 1) r
theorem sx_cons {k : Nat} {q : Value → World → Prop} {r : List (Value → World → Prop)} (h : ∀ v w w', q v w → T w w' → q v w') (t : StableX T p (k + 1) r) : StableX T p k (q :: r) := ⟨.inr h, t⟩
theorem kx {k : Nat} {x : Value} {r : List (Value → World → Prop)} (t : StableX T p (k + 1) r) : StableX T p k ((fun v _ => v = x) :: r) := ⟨.inr fun _ _ _ h _ => h, t⟩
theorem sx_skip {k : Nat} {q : Value → World → Prop} {r : List (Value → World → Prop)} (e : k = p) (t : StableX T p (k + 1) r) : StableX T p k (q :: r) := ⟨.inl e, t⟩
theorem stablex_from : ∀ (l : List (Value → World → Prop)) (k : Nat), StableX T p k l → ∀ (i : Nat) v w w', k + i ≠ p → l.getD i (fun _ _ => True) v w → T w w' → l.getD i (fun _ _ => True) v w'
 | [], _, _, i, v, w, w', _, h, _ => by simp
 | q :: r, k, h, 0, v, w, w', hne, hp, t => by simp only [List.getD_cons_zero] at hp ⊢; exact h.1.elim (fun e => absurd e hne) (fun f => f v w w' hp t)
 | q :: r, k, h, i + 1, v, w, w', hne, hp, t => by simp only [List.getD_cons_succ] at hp ⊢; exact stablex_from r (k + 1) h.2 i v w w' (by omega) hp t
theorem stablex_of {VL : List (Value → World → Prop)} (hV : V = fun i => VL.getD i (fun _ _ => True)) (h : StableX T p 0 VL) (i : Nat) (v : Value) (w w' : World) (hne : i ≠ p) (hp : V i v w) (t : T w w') : V i v w' := by
 rw [hV] at hp ⊢; exact stablex_from VL 0 h i v w w' (by omega) hp t
/-- The slots, one by one. -/
def Slots (a : Act) : Nat → List Value → Prop
 | _, [] => True
 | k, v :: r => a.eval (.tmp k) = v ∧ Slots a (k + 1) r
end
end Go.Proofs.YtobfgljkckcmcaaGreatDoor.Plan
namespace Go.Proofs.YtobfgljkckcmcaaGreatDoor.Coi
open Go.RowKit
open Mem Num Cod Plan
set_option linter.unusedVariables false
set_option linter.unusedSimpArgs false
theorem len_succ {α : Type} {l : List α} {n : Nat} (h : l.length = n + 1) : ∃ x r, l = x :: r ∧ r.length = n := by
 cases l with
 | nil => simp at h
 | cons x r => exact ⟨x, r, rfl, by simpa using h⟩
theorem base_at {A a0 : Act} (h : A = a0) (s : Nat) {v : Value} (e : a0.tmps[s]? = some v) : A.eval (.tmp s) = v := by
 subst h
 show A.tmps.getD s undef = v
 rw [Array.getD_eq_getD_getElem?, e]; rfl
/-- A store into one cell of a box. -/
theorem wpo_st1 {P : Program} {op : Oper} {a : Act} {w : World} {K : Act → World → Prop} {Q : Exit → Act → World → Prop} (ty : TypeId) (x y : Operand) (ho : op.op = .store ty x y) {b j : Nat} {cs : List Value} {v old : Value}
 (hx : a.eval x = .pointer (some ⟨b, j, none⟩)) (hy : a.eval y = v) (hB : Box w b cs) (hj : cs[j]? = some old) (hrun : ∀ w : World, w.cell? ⟨b, j, none⟩ = some old → w.frozen? ⟨b, j, none⟩ = false → (Instr.storeAt ty (.pointer (some ⟨b, j, none⟩)) v).run P w = .ok () (w.setCell ⟨b, j, none⟩ v))
 (h : ∀ w', Box w' b (cs.set j v) → Ch b w w' → K (a.put op.dst undef) w') : op.wp P a w K Q := by
 unfold Oper.wp execOp
 simp only [ho, hx, hy]
 rw [Sem.run_bind, hrun w (hB.at_ j _ hj) (hB.fz j)]
 exact h _ (hB.set1 j v) (Ch.set w b j v)
/-- An alloc. -/
theorem wpo_alloc {P : Program} {op : Oper} {a : Act} {w : World} {K : Act → World → Prop} {Q : Exit → Act → World → Prop} (ty : TypeId) (ho : op.op = .alloc ty) (cs : Array Value) (hz : ∀ w, (zeroValue ty).run P w = .ok (.agg cs) w)
 (h : K (a.put op.dst (.pointer (some ⟨w.heap.size, 0, none⟩))) (w.alloc (.cells cs ty))) : op.wp P a w K Q := by
 unfold Oper.wp execOp
 simp only [ho, Instr.alloc, Sem.run_bind, hz]
 simp [Oper.upon, go_sem]
 exact h
section
variable {α : Type} {C : α → List Value} {k : Nat} {t : TypeId} {w w' : World} {B n cap g' b : Nat} {a : Option Addr} {f : Nat → α} {cs : List Value}
/-- Another block stays when a row is made longer. -/
theorem Grow.ch (G : Grow w w' (blk a) g') (b : Nat) (hb : b < w.heap.size) (hne : ∀ x, a = some x → x.block ≠ b) : ∃ j, j ≠ b ∧ Ch j w w' := by
 have gr := G.gr
 cases a with
 | none => exact ⟨w.heap.size, by omega, gr.os, gr.tape, gr.output, gr.size, fun i hi _ => gr.block i hi (by simp [blk])⟩
 | some x => exact ⟨x.block, hne x rfl, gr⟩
theorem Grow.chp (G : Grow w w' (blk a) g') (gp : Nat) (hg : ∀ x, a = some x → x.block = gp) : Ch gp w w' := by
 have gr := G.gr
 cases a with
 | none => exact ⟨gr.os, gr.tape, gr.output, gr.size, fun i hi _ => gr.block i hi (by simp [blk])⟩
 | some x => rw [← hg x rfl]; exact gr
theorem Grow.ne (G : Grow w w' (blk a) g') (b : Nat) (hb : b < w.heap.size) (hne : ∀ x, a = some x → x.block ≠ b) : g' ≠ b := by
 rcases G.at_ with e | e
 · cases a with
   | none => cases e
   | some x => have := hne x rfl; simp only [blk, Option.map_some, Option.some.injEq] at e; omega
 · omega
theorem Box.over (h : Box w b cs) (hne : ∀ x, a = some x → x.block ≠ b) (G : Grow w w' (blk a) g') : Box w' b cs := by
 obtain ⟨j, hj, c⟩ := G.ch b h.lt hne
 exact h.ch c (Ne.symm hj)
theorem wpo_app {P : Program} {o : Oper} {c : Act} {K : Act → World → Prop} {Q : Exit → Act → World → Prop} (s x : Operand) (ts : TypeId)
 (ho : o.op = .call { callee := .builtin .append, args := #[s, x], argTypes := #[ts, ts] }) (i : TypeInfo) (z : Value) (bytes : Nat) (ht : P.underlying ts = some (.slice t)) (hi : P.info? t = some i) (hz : i.zero = some z)
 (hsize : i.size = k) (hby : i.bytes = bytes) (hzs : z.cells.size = k) (hsz : 0 < k) (hs : c.eval s = .slice a n cap) (H : OR t C k w B a n cap f)
 (g : Nat) (hx : c.eval x = .slice (some ⟨g, 0, none⟩) 1 1) (hl : (C (f n)).length = k) (hnews : ∀ j u, (C (f n))[j]? = some u → w.cell? ⟨g, j, none⟩ = some u) (h1 : ∀ u ∈ C (f n), u.oneCell' = true)
 (h63 : n + 1 ≤ 1000000) (hbytes : bytes ≤ 1000000) (hbase : B ≤ w.heap.size)
 (h : ∀ g' cap' w', OR t C k w' B (some ⟨g', 0, none⟩) (n + 1) cap' f → Grow w w' (blk a) g' → K (c.put o.dst (.slice (some ⟨g', 0, none⟩) (n + 1) cap')) w') : o.wp P c w K Q := by
 obtain ⟨v', w', hr, h2, h3, _, h5⟩ := run_append_own_at (P := P) w B ts o.type t i z k bytes ht hi hz hsize hby hzs hsz _ n (rc C f n) H ⟨g, 0, none⟩ 1 1 (C (f n)) (by rw [hl, Nat.one_mul]) (fun j u hj => by rw [Go.WideShapes.add_plain, Nat.zero_add]; exact hnews j u hj) h1 (by unfold maxLen; omega)
  (by calc (n + 1) * bytes ≤ 1000000 * 1000000 := Nat.mul_le_mul h63 hbytes
   _ ≤ _ := by decide) hbase
 obtain ⟨g', cap', rfl, h2⟩ := OR.next h2
 rw [own_blk] at h3
 rw [own_blk, own_blk] at h5
 unfold Oper.wp execOp
 simp only [ho, resolve, invoke, builtin, Sem.run_bind, Sem.run_pure, Result.andThen_ok, List.map_toArray, List.map_cons, List.map_nil, hs, hx, hr]
 refine h g' cap' w' h2 ⟨h3, ?_⟩
 rcases h5 with h5 | h5
 · exact .inl h5.symm
 · simp only [blk, Option.map_some, Option.some.injEq] at h5; exact .inr h5
end
theorem ex_loado {P : Program} {o : Oper} {a : Act} {w : World} {x : Operand} (ty : TypeId) (ho : o.op = .load ty x) (b off : Nat) (cs : List Value) (d : TypeDesc) (hx : a.eval x = .pointer (some ⟨b, off, none⟩)) (hr : w.rangeAt b off cs)
 (hu : P.underlying ty = some d) (hd : d.isRow = true) (hi : (P.info? ty).map (·.size) = some cs.length) : (execOp a.eval o).run P w = .ok (.value (.agg cs.toArray)) w := by
 unfold execOp
 simp only [ho, hx, Instr.loadAt, Instr.sureAddr, Sem.run_bind, Sem.run_pure, Result.andThen_ok, run_loadVar_mid w b off ty cs d hr hu hd hi]
theorem Box.rangeo {w : World} {b : Nat} {cs : List Value} (h : Box w b cs) (off : Nat) {cs' r : List Value} (e : cs.drop off = cs' ++ r) : w.rangeAt b off cs' := fun j v hj => by
 refine h.at_ (off + j) v ?_
 have hl := (List.getElem?_eq_some_iff.1 hj).1
 rw [← List.getElem?_drop, e, List.getElem?_append_left hl]; exact hj
/-- A store of the whole box, as the last operation of a region. -/
theorem wpo_st_box {P : Program} {op : Oper} {a : Act} {w : World} {K : Act → World → Prop} {Q : Exit → Act → World → Prop} (ty : TypeId) (x y : Operand) (ho : op.op = .store ty x y)
 (b : Nat) (cs cs' : List Value) (hx : a.eval x = .pointer (some ⟨b, 0, none⟩)) (hy : a.eval y = .agg cs'.toArray) (hB : Box w b cs) (hl : cs'.length = cs.length) (hi : (P.info? ty).map (·.size) = some cs'.length) (h1 : ∀ v ∈ cs', v.oneCell' = true)
 (h : ∀ w', Box w' b cs' → Ch b w w' → K (a.put op.dst undef) w') : op.wp P a w K Q := by
 refine wp_store_mid ty x y ho b 0 cs'.toArray hx hy (by rw [List.size_toArray, hl]; exact hB.there) (by rw [List.size_toArray]; exact hi) (all_oneCell_toArray h1) ?_
 obtain ⟨h2, h3⟩ := hB.stored hl
 exact h _ h2 h3
structure TXI where
 t : TX
 aI : Option Addr
 cI : Nat
 aO : Option Addr
 cO : Nat
 aW : Option Addr
 cW : Nat
abbrev TXI.val (z : TXI) : Value := txV z.t z.aI z.cI z.aO z.cO z.aW z.cW
structure TXI.In (z : TXI) (W : World) : Prop where
 i : Ins IN.cells 4 IN.wide W z.aI z.t.nI z.cI z.t.ins
 o : Ins OU.cells 9 OU.wide W z.aO z.t.nO z.cO z.t.outs
 w : Ins WN.cells 10 WN.wide W z.aW z.t.p.n z.cW z.t.p.w
 amount : U64 z.t.p.amount
 sig : z.t.p.sig.size ≤ maxLen
 token : z.t.p.token.size ≤ maxLen
structure PFI where
 p : PF
 a : Option Addr
 c : Nat
abbrev PFI.val (z : PFI) : Value := pfV z.p z.a z.c
structure PFI.In (z : PFI) (W : World) : Prop where
 w : Ins WN.cells 10 WN.wide W z.a z.p.n z.c z.p.w
 amount : U64 z.p.amount
 sig : z.p.sig.size ≤ maxLen
 token : z.p.token.size ≤ maxLen
/-- A transaction with other signatures and another proof. -/
def setS (t : TX) (s : ByteArray) (p : PF) : TX := ⟨t.nI, fun i => ⟨(t.ins i).tx, (t.ins i).out, (t.ins i).path, s⟩, t.nO, t.outs, p⟩
theorem OR.ins {α : Type} {t : TypeId} {C : α → List Value} {k : Nat} {w : World} {B : Nat} {a : Option Addr} {n cap : Nat} {f : Nat → α} (h : OR t C k w B a n cap f) (hC : ∀ x, (C x).length = k) {P : α → Prop} (hP : ∀ i, i < n → P (f i)) : Ins C k P w a n cap f := by
 refine ⟨h.sl hC, ?_, ?_, hP⟩
 · rcases h.shape with ⟨_, e, _⟩ | ⟨g, _, _, _, h1, _⟩ <;> omega
 · rcases h.shape with ⟨_, _, e⟩ | ⟨g, _, _, _, _, h2⟩
   · rw [e]; exact Nat.zero_le _
   · exact h2
def putL : List Value → Nat → List Value → List Value
 | cs, _, [] => cs
 | cs, o, v :: r => putL (cs.set o v) (o + 1) r
theorem Box.putL {b : Nat} : ∀ (vs cs : List Value) (o : Nat) (w : World), Box w b cs → Box (w.setCells b o vs) b (putL cs o vs)
 | [], _, _, _, h => h
 | v :: r, cs, o, w, h => Box.putL r (cs.set o v) (o + 1) _ (h.set1 o v)
abbrev txC (t : TX) (aI : Option Addr) (cI : Nat) (aO : Option Addr) (cO : Nat) (aW : Option Addr) (cW : Nat) : List Value := [.slice aI t.nI cI, .slice aO t.nO cO, .int .u64 t.p.amount, .string t.p.sig, .string t.p.token, .slice aW t.p.n cW]
structure TB (w : World) (b : Nat) (t : TX) (aI : Option Addr) (cI : Nat) (aO : Option Addr) (cO : Nat) (aW : Option Addr) (cW : Nat) : Prop where
 box : Box w b (txC t aI cI aO cO aW cW)
 tm : TM w aI cI aO aW t
theorem TB.q {w w' : World} {b : Nat} {t : TX} {aI aO aW : Option Addr} {cI cO cW : Nat} (h : TB w b t aI cI aO cO aW cW) (q : Q w w') : TB w' b t aI cI aO cO aW cW := ⟨h.box.q q, h.tm.q q⟩
theorem TM.ch {g : Nat} {w w' : World} {t : TX} {aI aO aW : Option Addr} {cI : Nat} (h : TM w aI cI aO aW t) (c : Ch g w w') (h1 : ∀ x, aI = some x → x.block ≠ g) (h2 : ∀ x, aO = some x → x.block ≠ g) (h3 : ∀ x, aW = some x → x.block ≠ g) : TM w' aI cI aO aW t :=
 ⟨h.i.ch c h1, h.c, h.o.ch c h2, h.w.ch c h3⟩
/-- Three rows of one's own hold a transaction. -/
structure OT (w : World) (B : Nat) (t : TX) (aI : Option Addr) (cI : Nat) (aO : Option Addr) (cO : Nat) (aW : Option Addr) (cW : Nat) : Prop where
 i : OR 53 IN.cells 4 w B aI t.nI cI t.ins
 o : OR 47 OU.cells 9 w B aO t.nO cO t.outs
 w : OR 135 WN.cells 10 w B aW t.p.n cW t.p.w
theorem OR.blk_ {α : Type} {C : α → List Value} {k : Nat} {f : Nat → α} {w : World} {a : Option Addr} {n : Nat} {t : TypeId} {B cap : Nat} (h : OR t C k w B a n cap f) : ∀ x, a = some x → B ≤ x.block ∧ x.block < w.heap.size := by
 intro x hx
 rcases h.shape with ⟨e, _⟩ | ⟨g, e, h1, h2, _⟩
 · rw [e] at hx; cases hx
 · rw [e] at hx; injection hx with hx; subst hx; exact ⟨h1, h2⟩
section
variable {w w' : World} {B : Nat} {t : TX} {aI aO aW : Option Addr} {cI cO cW : Nat}
theorem OT.q (h : OT w B t aI cI aO cO aW cW) (q : Q w w') : OT w' B t aI cI aO cO aW cW := ⟨h.i.q q, h.o.q q, h.w.q q⟩
theorem OT.low {g : Nat} (h : OT w B t aI cI aO cO aW cW) (c : Ch g w w') (hg : g < B) : OT w' B t aI cI aO cO aW cW := ⟨h.i.low c hg, h.o.low c hg, h.w.low c hg⟩
theorem OT.ch {g : Nat} (h : OT w B t aI cI aO cO aW cW) (c : Ch g w w') (hg : w.heap.size ≤ g) : OT w' B t aI cI aO cO aW cW :=
 ⟨h.i.ch c fun x e => by have := (h.i.blk_ x e).2; omega, h.o.ch c fun x e => by have := (h.o.blk_ x e).2; omega, h.w.ch c fun x e => by have := (h.w.blk_ x e).2; omega⟩
theorem OT.tm (h : OT w B t aI cI aO cO aW cW) : TM w aI cI aO aW t := ⟨h.i.sl in_len, (h.i.ins in_len (P := fun _ => True) fun _ _ => trivial).le, h.o.sl out_len, h.w.sl win_len⟩
end
/-- Rows of one's own as a box. -/
theorem OR.box {α : Type} {C : α → List Value} {k : Nat} {f : Nat → α} {w : World} {a : Option Addr} {n : Nat} {t : TypeId} {B cap : Nat} (hC : ∀ x, (C x).length = k) (h : OR t C k w B a n cap f) (hn : 0 < n) : ∃ g cs, a = some ⟨g, 0, none⟩ ∧ Box w g cs ∧ B ≤ g ∧ n * k ≤ cs.length ∧ ∀ i, i < n → ∀ j v, (C (f i))[j]? = some v → cs[i * k + j]? = some v := by
 obtain ⟨h1, h2 | ⟨g, cap', cur, h3, h4, h5, h6, h7, h8, h9⟩⟩ := h
 · omega
 simp only [Value.slice.injEq] at h3
 obtain ⟨rfl, _, rfl⟩ := h3
 have hle : n * k ≤ cap * k := Nat.mul_le_mul_right k h6
 refine ⟨g, cur.toList, rfl, ⟨fun j v hv => ?_, fun j => ?_, ?_⟩, h4, by rw [Array.length_toList, h8]; exact hle, fun i hi j v hv => ?_⟩
 · have : cur[j]? = some v := by simpa using hv
   simp [World.cell?, h5, this]
 · simp [World.frozen?, h5]
 · exact (Array.getElem?_eq_some_iff.1 h5).1
 · have hg := rc_get hC i j v hv n hi
   rw [← h9, List.getElem?_take] at hg
   split at hg
   · exact hg
   · cases hg
end Go.Proofs.YtobfgljkckcmcaaGreatDoor.Coi
