/-
  What the row's condition on the package's variables gives a walk.
  Layer 2's contracts, their answers as letters.
  Plain arithmetic behind the walks: products of two words, the quotient of two words by one (the schoolbook digit steps), leading zeros. No Go in sight.
  Numbers that find room: the walks of num.Add, num.Mul, num.Of, and of the document's own Mul.
-/
import Derived.Test.YtjiepemapffgjaaGreatDoorHShaP
import Derived.Test.YtjiepemapffgjaaGreatDoorTie
import Derived.Test.YtjiepemapffgjaaGreatDoorCards
import Derived.LaidMore
import Derived.SevenTiedAt
import Derived.Stop.Joined
import Derived.Deep.Strs
import Derived.Laws.BitsAllLaws
import Derived.Laws.MathBits
import Derived.Laws.Bits64b
import Derived.Test.YtjiepemapffgjaaGreatDoorHMem
set_option maxRecDepth 100000
namespace Go.Proofs.YtjiepemapffgjaaGreatDoor.Sh
open Go.RowKit Go.ChangeShapes Go.WideShapes
open Mem
set_option linter.unusedVariables false

def laid2 := Rows.coinPutsRow.laid
theorem gStart : Tryz.prog.globalNamed "turnstile/sha.start" = some 0 := by kernel_rfl
theorem gRoots : Tryz.prog.globalNamed "turnstile/sha.roots" = some 1 := by kernel_rfl
theorem tStart : (Tryz.prog.globals[0]?).map (·.type) = some 205 := by kernel_rfl
theorem tRoots : (Tryz.prog.globals[1]?).map (·.type) = some 210 := by kernel_rfl
theorem door_met (os : Os) (args : Array Value) : laidMetH Tryz.prog laid2 ((World.doorLaid Tryz.prog 400 os).forCall (fun _ _ => 0) ⟨#[], args, []⟩).memory :=
  laidMetH_of_parts3 (fuel := 8) (laidMet_of_run' 8 (by kernel_rfl) (by kernel_rfl)) (by kernel_rfl) (by kernel_rfl)

theorem cells_of_ints {H : Type} {enc : TypeId × Value → H} {P : Program} {w : World} {base : Nat} {sp : Nat → Bool} {held : Bool} {fuel : Nat} {t e : TypeId} {n : Nat} {k : IntKind} {cs : List Value} {q : List MemPlace} (l : List Int)
    (hu : P.underlying t = some (.array n e)) (he : P.underlying e = some (.int k)) (hc : P.cellsOf e = 1)
    (h : DataW.trod enc P w base sp held fuel t cs = some (.agg (l.map fun z => .lit (.int k z)), q)) : ∀ i, i < n → cs[i]? = some (.int k (l.getD i 0)) := by
  obtain ⟨xs, m, rfl, hx, hlen, hn, hel⟩ := DataW.trod_array hu h
  simp only [Prod.mk.injEq, DataW.agg.injEq] at hx
  intro i hi
  have h1 := hel i hi
  rw [List.getElem?_eq_getElem (by omega), hc, Nat.mul_one] at h1
  obtain ⟨z, e1, e2, _⟩ := DataW.trod_int he h1
  have h2 : (xs.map (·.1))[i]? = some (.lit (.int k z)) := by rw [List.getElem?_map, List.getElem?_eq_getElem (by omega), e2]; rfl
  rw [← hx.1, List.getElem?_map] at h2
  have h3 : l[i]? = some z := by
    cases hl : l[i]? with
    | none => rw [hl] at h2; simp at h2
    | some y => rw [hl] at h2; simp at h2; rw [h2]
  have h4 : ((cs.drop i).take 1)[0]? = some (.int k z) := by rw [e1]; rfl
  rw [List.getElem?_take_of_lt (by omega), List.getElem?_drop] at h4
  rw [List.getD_eq_getElem?_getD, h3]
  simpa using h4

theorem of_laid {W : World} (h : laidMetH Tryz.prog laid2 W) : GL W := by
  rw [MakeChecks.laidMetH_plain _ _ _ (by kernel_rfl)] at h
  obtain ⟨ps, ⟨g0, t0, cs0, f0, p0, q0, hg0, ht0, hv0, hd0, ⟨g1, t1, cs1, f1, p1, q1, hg1, ht1, hv1, hd1, _, _⟩, _⟩, _, _⟩ := h
  obtain rfl := Option.some.inj (gStart.symm.trans hg0)
  obtain rfl := Option.some.inj (gRoots.symm.trans hg1)
  obtain rfl := Option.some.inj (tStart.symm.trans ht0)
  obtain rfl := Option.some.inj (tRoots.symm.trans ht1)
  refine ⟨fun i hi => ?_, fun i hi => ?_⟩
  · rw [Nat.zero_add, World.var?_cell hg0 hv0 i]
    have := cells_of_ints Il Tryz.underlying205 Tryz.underlying204 (by kernel_rfl) hd0 i hi
    rw [Array.getElem?_toList] at this
    exact this
  · rw [Nat.zero_add, World.var?_cell hg1 hv1 i]
    have := cells_of_ints Kl Tryz.underlying210 Tryz.underlying204 (by kernel_rfl) hd1 i hi
    rw [Array.getElem?_toList] at this
    exact this
theorem own : ownKnob Tryz.prog.godebug = none := by kernel_rfl
theorem laidOut : laidOutB Tryz.prog = true := by kernel_rfl
end Go.Proofs.YtjiepemapffgjaaGreatDoor.Sh

namespace Go.Proofs.YtjiepemapffgjaaGreatDoor.Sh
open Go.RowKit
open Mem
set_option linter.unusedVariables false

theorem rsum_x {W : World} (s x : ByteArray) (hx : shaS s = x) (hs : s.size ≤ 100000) (w : World) (q : Q W w) : Calls Tryz.prog 163 #[.string s] w fun e w' => e = .returned (.string x) ∧ Q W w' := by
  subst hx; exact rsum_any s w q (by omega)
theorem rshort_x {W : World} (s x : ByteArray) (hx : shortS s = x) (hs : s.size ≤ 100000) (w : World) (q : Q W w) : Calls Tryz.prog 133 #[.string s] w fun e w' => e = .returned (.string x) ∧ Q W w' := by
  subst hx; exact rshort_any s w q (by omega)
theorem tag_x {W : World} (word x : ByteArray) (g off n cap : Nat) (ps : Nat → ByteArray) (hx : tagS word ps n = x) (w : World) (q : Q W w) (hG : GL W) (hr : RowS w g off n ps) (hg : 0 < n → g < w.heap.size) (hw : word.size ≤ 1000000) (hn : n ≤ 100) (hp : ∀ i, (ps i).size ≤ 1000000) :
    Calls Tryz.prog 78 #[.string word, .slice (some ⟨g, off, none⟩) n cap] w fun e w' => e = .returned (.string x) ∧ Q W w' := by
  subst hx; exact tag_any word g off n cap ps w q hG hr hg hw hn hp
theorem rtag_x {W : World} (word x : ByteArray) (g off n cap : Nat) (ps : Nat → ByteArray) (hx : tagS word ps n = x) (w : World) (q : Q W w) (hr : RowS w g off n ps) (hg : 0 < n → g < w.heap.size) (hw : word.size ≤ 1000000) (hn : n ≤ 100) (hp : ∀ i, (ps i).size ≤ 1000000) :
    Calls Tryz.prog 79 #[.string word, .slice (some ⟨g, off, none⟩) n cap] w fun e w' => e = .returned (.string x) ∧ Q W w' := by
  subst hx; exact rtag_any word g off n cap ps w q hr hg hw hn hp
theorem cut_le (s : ByteArray) (m : Nat) (mi : Int) (h : mi = (m : Int)) : (s.extract 0 (min (s.size : Int) mi).toNat).size ≤ m := by subst h; rw [ByteArray.size_extract]; omega
/-- A row of texts that came in. -/
def IsRowS (W : World) (a : Option Addr) (len cap : Nat) (S : Nat → ByteArray) : Prop :=
  (a = none ∧ len = 0 ∧ cap = 0) ∨ ∃ x, a = some x ∧ len ≤ cap ∧ cap ≤ maxLen ∧ ∀ i, i < len → W.cell? (x.add i) = some (.string (S i)) ∧ (S i).size ≤ maxLen
/-- What a sign tells. -/
def digS (c : Int) : Int := if 48 ≤ c ∧ c ≤ 57 then c - 48 else if 97 ≤ c ∧ c ≤ 102 then c - 87 else -1000
end Go.Proofs.YtjiepemapffgjaaGreatDoor.Sh

namespace Go.Proofs.YtjiepemapffgjaaGreatDoor.M

theorem and_mask (a : Int) (h0 : 0 ≤ a) (h1 : a ≤ 18446744073709551615) : bits .and .u64 a 4294967295 = a % 4294967296 := by
  obtain ⟨n, rfl⟩ := Int.eq_ofNat_of_zero_le h0
  rw [show (4294967295 : Int) = ((4294967295 : Nat) : Int) from rfl, bits_and_u64_nat n 4294967295 (by omega) (by omega)]
  rw [Nat.and_two_pow_sub_one_eq_mod n 32]
  omega

theorem prod_bound (a b : Int) (ha0 : 0 ≤ a) (ha : a ≤ 4294967295) (hb0 : 0 ≤ b) (hb : b ≤ 4294967295) : 0 ≤ a * b ∧ a * b ≤ 18446744065119617025 := by
  refine ⟨Int.mul_nonneg ha0 hb0, ?_⟩
  have := Int.mul_le_mul ha hb hb0 (by omega : (0 : Int) ≤ 4294967295)
  simpa using this

/-- The word of high bits and the word of low bits, joined. -/
theorem or_join (o l : Int) (hl : 0 ≤ l) (hl' : l < 4294967296) :
    bits .or .u64 (o * 4294967296 % 18446744073709551616) l = o * 4294967296 % 18446744073709551616 + l := by
  have h0 : 0 ≤ o * 4294967296 % 18446744073709551616 := by omega
  have h1 : o * 4294967296 % 18446744073709551616 < 18446744073709551616 := by omega
  have h2 : o * 4294967296 % 18446744073709551616 % 4294967296 = 0 := by omega
  generalize o * 4294967296 % 18446744073709551616 = x at *
  obtain ⟨n, rfl⟩ := Int.eq_ofNat_of_zero_le h0
  obtain ⟨m, rfl⟩ := Int.eq_ofNat_of_zero_le hl
  rw [bits_or_u64_nat n m (by omega) (by omega), nat_join 32 n m (by omega) (by omega)]
  omega

theorem split_mul (x1 x0 y1 y0 : Int) : (x1 * 4294967296 + x0) * (y1 * 4294967296 + y0) = x1 * y1 * 18446744073709551616 + x1 * y0 * 4294967296 + x0 * y1 * 4294967296 + x0 * y0 := by
  grind

/-- num.product: the two words, as the walk spells them. -/
def pHi (a b : Int) : Int := a * b / 18446744073709551616
def pLo (a b : Int) : Int := a * b % 18446744073709551616

theorem product_eq (a b : Int) (ha : 0 ≤ a) (ha' : a ≤ 18446744073709551615) (hb : 0 ≤ b) (hb' : b ≤ 18446744073709551615) :
    IntKind.u64.wrap (IntKind.u64.wrap (IntKind.u64.wrap (a / 4294967296 * (b / 4294967296)) + IntKind.u64.wrap (IntKind.u64.wrap (a / 4294967296 * bits BinOp.and IntKind.u64 b 4294967295) + IntKind.u64.wrap (bits BinOp.and IntKind.u64 a 4294967295 * bits BinOp.and IntKind.u64 b 4294967295) / 4294967296) / 4294967296) + IntKind.u64.wrap (IntKind.u64.wrap (bits BinOp.and IntKind.u64 a 4294967295 * (b / 4294967296)) + bits BinOp.and IntKind.u64 (IntKind.u64.wrap (IntKind.u64.wrap (a / 4294967296 * bits BinOp.and IntKind.u64 b 4294967295) + IntKind.u64.wrap (bits BinOp.and IntKind.u64 a 4294967295 * bits BinOp.and IntKind.u64 b 4294967295) / 4294967296)) 4294967295) / 4294967296) = pHi a b
    ∧ bits BinOp.or IntKind.u64 (IntKind.u64.wrap (IntKind.u64.wrap (IntKind.u64.wrap (bits BinOp.and IntKind.u64 a 4294967295 * (b / 4294967296)) + bits BinOp.and IntKind.u64 (IntKind.u64.wrap (IntKind.u64.wrap (a / 4294967296 * bits BinOp.and IntKind.u64 b 4294967295) + IntKind.u64.wrap (bits BinOp.and IntKind.u64 a 4294967295 * bits BinOp.and IntKind.u64 b 4294967295) / 4294967296)) 4294967295) * 4294967296)) (bits BinOp.and IntKind.u64 (IntKind.u64.wrap (bits BinOp.and IntKind.u64 a 4294967295 * bits BinOp.and IntKind.u64 b 4294967295)) 4294967295) = pLo a b := by
  unfold pHi pLo
  have ex : a = a / 4294967296 * 4294967296 + a % 4294967296 := by omega
  have ey : b = b / 4294967296 * 4294967296 + b % 4294967296 := by omega
  have e : a * b = a / 4294967296 * (b / 4294967296) * 18446744073709551616 + a / 4294967296 * (b % 4294967296) * 4294967296 + a % 4294967296 * (b / 4294967296) * 4294967296 + a % 4294967296 * (b % 4294967296) := by
    have := split_mul (a / 4294967296) (a % 4294967296) (b / 4294967296) (b % 4294967296)
    rw [← ex, ← ey] at this
    exact this
  rw [e]
  simp only [IntKind.wrap_u64]
  rw [and_mask a ha ha', and_mask b hb hb']
  have b1 := prod_bound (a / 4294967296) (b / 4294967296) (by omega) (by omega) (by omega) (by omega)
  have b2 := prod_bound (a / 4294967296) (b % 4294967296) (by omega) (by omega) (by omega) (by omega)
  have b3 := prod_bound (a % 4294967296) (b / 4294967296) (by omega) (by omega) (by omega) (by omega)
  have b4 := prod_bound (a % 4294967296) (b % 4294967296) (by omega) (by omega) (by omega) (by omega)
  clear e ex ey
  generalize a / 4294967296 * (b / 4294967296) = p11 at *
  generalize a / 4294967296 * (b % 4294967296) = p10 at *
  generalize a % 4294967296 * (b / 4294967296) = p01 at *
  generalize a % 4294967296 * (b % 4294967296) = p00 at *
  rw [and_mask _ (by omega) (by omega), and_mask _ (by omega) (by omega), or_join _ _ (by omega) (by omega)]
  constructor <;> omega

theorem pHi_bd (a b : Int) (ha : 0 ≤ a) (ha' : a ≤ 18446744073709551615) (hb : 0 ≤ b) (hb' : b ≤ 18446744073709551615) : 0 ≤ pHi a b ∧ pHi a b ≤ 18446744073709551614 := by
  unfold pHi
  have h0 : 0 ≤ a * b := Int.mul_nonneg ha hb
  have h1 := Int.mul_le_mul ha' hb' hb (by omega : (0 : Int) ≤ 18446744073709551615)
  omega
theorem pLo_bd (a b : Int) : 0 ≤ pLo a b ∧ pLo a b ≤ 18446744073709551615 := by unfold pLo; omega
theorem p_split (a b : Int) : pHi a b * 18446744073709551616 + pLo a b = a * b := by unfold pHi pLo; omega
end Go.Proofs.YtjiepemapffgjaaGreatDoor.M

namespace Go.Proofs.YtjiepemapffgjaaGreatDoor.Num
open Go.RowKit
open Mem
set_option linter.unusedVariables false

theorem ret2 {k1 k2 : IntKind} {a b c d : Int} (h : a = c) (h' : b = d) : Ending.returned (.tuple #[.int k1 a, .int k2 b]) = .returned (.tuple #[.int k1 c, .int k2 d]) := by rw [h, h']
/-! ### What they answer -/
def addV (a b : Int) : Int := if a + b ≤ 18446744073709551615 then a + b else 0
def addE (a b : Int) : Int := if a + b ≤ 18446744073709551615 then 0 else 2
def subV (a b : Int) : Int := if b ≤ a then a - b else 0
def subE (a b : Int) : Int := if b ≤ a then 0 else 2
def mulV (a b : Int) : Int := if a * b ≤ 18446744073709551615 then a * b else 0
def mulE (a b : Int) : Int := if a * b ≤ 18446744073709551615 then 0 else 2
def mdV (a b c : Int) : Int := if c = 0 then 0 else if a * b / c ≤ 18446744073709551615 then a * b / c else 0
def mdE (a b c : Int) : Int := if c = 0 then 1 else if a * b / c ≤ 18446744073709551615 then 0 else 2
def remV (a b c : Int) : Int := if c = 0 then 0 else a * b % c
def remE (a b c : Int) : Int := if c = 0 then 1 else 0
def intV (n : Int) : Int := if n ≤ 9223372036854775807 then n else 0
def intE (n : Int) : Int := if n ≤ 9223372036854775807 then 0 else 2
def ofV (n : Int) : Int := if 0 ≤ n then n else 0
def ofE (n : Int) : Int := if 0 ≤ n then 0 else 2

theorem addV_bd (a b : Int) (ha : 0 ≤ a) (hb : 0 ≤ b) : 0 ≤ addV a b ∧ addV a b ≤ 18446744073709551615 := by unfold addV; split <;> omega
theorem subV_bd (a b : Int) (ha' : a ≤ 18446744073709551615) (hb : 0 ≤ b) : 0 ≤ subV a b ∧ subV a b ≤ 18446744073709551615 := by unfold subV; split <;> omega
theorem mulV_bd (a b : Int) (ha : 0 ≤ a) (hb : 0 ≤ b) : 0 ≤ mulV a b ∧ mulV a b ≤ 18446744073709551615 := by
  have := Int.mul_nonneg ha hb
  unfold mulV; split <;> omega
theorem mdV_bd (a b c : Int) (ha : 0 ≤ a) (hb : 0 ≤ b) (hc : 0 ≤ c) : 0 ≤ mdV a b c ∧ mdV a b c ≤ 18446744073709551615 := by
  have := Int.ediv_nonneg (Int.mul_nonneg ha hb) hc
  unfold mdV; split
  · omega
  · split <;> omega

theorem add_any (a b : Int) (w : World) (ha : 0 ≤ a) (ha' : a ≤ 18446744073709551615) (hb : 0 ≤ b) (hb' : b ≤ 18446744073709551615) :
    Calls Tryz.prog 113 #[.int .u64 a, .int .u64 b] w fun e w' => e = .returned (.tuple #[.int .u64 (addV a b), .int .i64 (addE a b)]) ∧ w = w' := by
  unfold addV addE
  by_cases h : a + b ≤ 18446744073709551615
  · rw [if_pos h, if_pos h]
    go_enter Tryz.func113, Tryz.ntmps113
    go_wp2
    go_ret2
    exact ⟨rfl, rfl⟩
  · rw [if_neg h, if_neg h]
    go_enter Tryz.func113, Tryz.ntmps113
    go_wp2
    go_ret2
    exact ⟨rfl, rfl⟩

theorem top_any (w : World) : Calls Tryz.prog 114 #[] w fun e w' => e = .returned (.int .u64 18446744073709551615) ∧ w' = w := by
  go_enter Tryz.func114, Tryz.ntmps114
  go_wp2
  go_ret
  exact ⟨rfl, rfl⟩

end Go.Proofs.YtjiepemapffgjaaGreatDoor.Num
