import Derived.Test.YtobfgljkckcmcaaGreatDoorYHShaP
import Derived.Test.YtobfgljkckcmcaaGreatDoorTie
import Derived.Test.YtobfgljkckcmcaaGreatDoorCards
import Derived.LaidMore
import Derived.SevenTiedAt
import Derived.Stop.Joined
import Derived.Deep.Strs
import Derived.Laws.BitsAllLaws
import Derived.Laws.MathBits
import Derived.Laws.Bits64b
import Derived.Test.YtobfgljkckcmcaaGreatDoorYHMem
set_option maxRecDepth 100000
namespace Go.Proofs.YtobfgljkckcmcaaGreatDoor.Sh
open Go.RowKit Go.ChangeShapes Go.WideShapes
open Mem
set_option linter.unusedVariables false
def laid2 := Rows.coinPutsRow.laid
theorem gStart : Tryz.prog.globalNamed "turnstile/sha.start" = some 0 := by kernel_rfl
theorem gRoots : Tryz.prog.globalNamed "turnstile/sha.roots" = some 1 := by kernel_rfl
theorem tStart : (Tryz.prog.globals[0]?).map (·.type) = some 180 := by kernel_rfl
theorem tRoots : (Tryz.prog.globals[1]?).map (·.type) = some 185 := by kernel_rfl
theorem door_met (os : Os) (args : Array Value) : laidMetH Tryz.prog laid2 ((World.doorLaid Tryz.prog 400 os).forCall (fun _ _ => 0) ⟨#[], args, []⟩).memory :=
 laidMetH_of_parts3 (fuel := 8) (laidMet_of_run' 8 (by kernel_rfl) (by kernel_rfl)) (by kernel_rfl) (by kernel_rfl)
theorem cells_of_ints {H : Type} {enc : TypeId × Value → H} {P : Program} {w : World} {base : Nat} {sp : Nat → Bool} {held : Bool} {fuel : Nat} {t e : TypeId} {n : Nat} {k : IntKind} {cs : List Value} {q : List MemPlace} (l : List Int)
 (hu : P.underlying t = some (.array n e)) (he : P.underlying e = some (.int k)) (hc : P.cellsOf e = 1)
 (h : DataW.trod enc P w base sp held fuel t cs = some (.agg (l.map fun z => .lit (.int k z)), q)) : ∀ i, i < n → cs[i]? = some (.int k (l.getD i 0)) := by
 obtain ⟨xs, m, rfl, hx, hlen, hn, hel⟩ := DataW.trod_array hu h
 simp only [Prod.mk.injEq, DataW.agg.injEq] at hx
 intro i hi
 have h1 := hel i hi
 rw [List.getElem?_eq_getElem (by omega), hc, Nat.mul_one] at h1
 obtain ⟨z, e1, e2, _⟩ := DataW.trod_int he h1
 have h2 : (xs.map (·.1))[i]? = some (.lit (.int k z)) := by rw [List.getElem?_map, List.getElem?_eq_getElem (by omega), e2]; rfl
 rw [← hx.1, List.getElem?_map] at h2
 have h3 : l[i]? = some z := by
  cases hl : l[i]? with
  | none => rw [hl] at h2; simp at h2
  | some y => rw [hl] at h2; simp at h2; rw [h2]
 have h4 : ((cs.drop i).take 1)[0]? = some (.int k z) := by rw [e1]; rfl
 rw [List.getElem?_take_of_lt (by omega), List.getElem?_drop] at h4
 rw [List.getD_eq_getElem?_getD, h3]
 simpa using h4
theorem of_laid {W : World} (h : laidMetH Tryz.prog laid2 W) : GL W := by
 rw [MakeChecks.laidMetH_plain _ _ _ (by kernel_rfl)] at h
 obtain ⟨ps, ⟨g0, t0, cs0, f0, p0, q0, hg0, ht0, hv0, hd0, ⟨g1, t1, cs1, f1, p1, q1, hg1, ht1, hv1, hd1, _, _⟩, _⟩, _, _⟩ := h
 obtain rfl := Option.some.inj (gStart.symm.trans hg0)
 obtain rfl := Option.some.inj (gRoots.symm.trans hg1)
 obtain rfl := Option.some.inj (tStart.symm.trans ht0)
 obtain rfl := Option.some.inj (tRoots.symm.trans ht1)
 refine ⟨fun i hi => ?_, fun i hi => ?_⟩
 · rw [Nat.zero_add, World.var?_cell hg0 hv0 i]
   have := cells_of_ints Il Tryz.underlying180 Tryz.underlying179 (by kernel_rfl) hd0 i hi
   rw [Array.getElem?_toList] at this
   exact this
 · rw [Nat.zero_add, World.var?_cell hg1 hv1 i]
   have := cells_of_ints Kl Tryz.underlying185 Tryz.underlying179 (by kernel_rfl) hd1 i hi
   rw [Array.getElem?_toList] at this
   exact this
theorem own : ownKnob Tryz.prog.godebug = none := by kernel_rfl
theorem laidOut : laidOutB Tryz.prog = true := by kernel_rfl
open Go.RowKit
/-- A row of texts that came in. -/
def IsRowS (W : World) (a : Option Addr) (len cap : Nat) (S : Nat → ByteArray) : Prop :=
 (a = none ∧ len = 0 ∧ cap = 0) ∨ ∃ x, a = some x ∧ len ≤ cap ∧ cap ≤ maxLen ∧ ∀ i, i < len → W.cell? (x.add i) = some (.string (S i)) ∧ (S i).size ≤ maxLen
/-- What a sign tells. -/
def digS (c : Int) : Int := if 48 ≤ c ∧ c ≤ 57 then c - 48 else if 97 ≤ c ∧ c ≤ 102 then c - 87 else -1000
end Go.Proofs.YtobfgljkckcmcaaGreatDoor.Sh
namespace Go.Proofs.YtobfgljkckcmcaaGreatDoor.M
/-- num.product: the two words, as the walk spells them. -/
def pHi (a b : Int) : Int := a * b / 18446744073709551616
def pLo (a b : Int) : Int := a * b % 18446744073709551616
end Go.Proofs.YtobfgljkckcmcaaGreatDoor.M
namespace Go.Proofs.YtobfgljkckcmcaaGreatDoor.Num
open Go.RowKit
open Mem
set_option linter.unusedVariables false
def addV (a b : Int) : Int := if a + b ≤ 18446744073709551615 then a + b else 0
def addE (a b : Int) : Int := if a + b ≤ 18446744073709551615 then 0 else 2
def subV (a b : Int) : Int := if b ≤ a then a - b else 0
def subE (a b : Int) : Int := if b ≤ a then 0 else 2
def mulV (a b : Int) : Int := if a * b ≤ 18446744073709551615 then a * b else 0
def mulE (a b : Int) : Int := if a * b ≤ 18446744073709551615 then 0 else 2
def mdV (a b c : Int) : Int := if c = 0 then 0 else if a * b / c ≤ 18446744073709551615 then a * b / c else 0
def mdE (a b c : Int) : Int := if c = 0 then 1 else if a * b / c ≤ 18446744073709551615 then 0 else 2
def remV (a b c : Int) : Int := if c = 0 then 0 else a * b % c
def remE (a b c : Int) : Int := if c = 0 then 1 else 0
def intV (n : Int) : Int := if n ≤ 9223372036854775807 then n else 0
def intE (n : Int) : Int := if n ≤ 9223372036854775807 then 0 else 2
def ofV (n : Int) : Int := if 0 ≤ n then n else 0
def ofE (n : Int) : Int := if 0 ≤ n then 0 else 2
end Go.Proofs.YtobfgljkckcmcaaGreatDoor.Num
