import Derived.Deep.RegionHeld
import Derived.Test.YtobfgljkckcmcaaGreatDoorRows
import Derived.WalkKit
import Derived.Outline
import Derived.Handy
import Derived.Lib.Hide
import Derived.ProofKit
import Derived.OpenShut
import Derived.ShutString
import Derived.PlainAid
import Derived.Laws.BytesArg
import Derived.Laws.OwnMore
import Derived.OwnWalk
import Derived.RangeFuncBox
import Derived.Lib.SmallJoins
import Derived.Deep.QuietTactic
import Derived.BigQuiet
import Derived.Deep.RegionHeld3
import Derived.Deep.DeepCutAuto
import Derived.Deep.AppendSrc
import Derived.WalkLawsBesides
import Derived.WalkSpells
import Derived.Deep.MidRow
import Derived.Lib.LazyBuf
set_option maxRecDepth 100000
namespace Go.Proofs.YtobfgljkckcmcaaGreatDoor.Mem
open Go.RowKit
set_option linter.unusedVariables false
theorem ret1 {k : IntKind} {a b : Int} (h : a = b) : Ending.returned (.int k a) = .returned (.int k b) := by rw [h]
theorem retS {a b : ByteArray} (h : a = b) : Ending.returned (.string a) = .returned (.string b) := by rw [h]
/-- All that was there in W is there in w, as it was. -/
def Q (W w : World) : Prop := Below W.heap.size W w
theorem Q.refl (w : World) : Q w w := Below.refl _ _
theorem Q.trans {a b c : World} (h : Q a b) (k : Q b c) : Q a c := Below.trans h (Below.mono k h.size)
theorem Q.drewN {a b : World} (h : Q a b) (n : Nat) : Q a (b.drewN n) := below_drewN h n
theorem Q.drew {a b : World} (h : Q a b) : Q a b.drew := Below.drew h
theorem Q.alloc {a b : World} (h : Q a b) (o : Obj) : Q a (b.alloc o) := h.trans (Below.alloc (Below.refl _ _) (Nat.le_refl _) _)
theorem Q.setCell {a b : World} (h : Q a b) {p : Addr} (hp : a.heap.size ≤ p.block) (v : Value) : Q a (b.setCell p v) := Below.setCell h hp v
theorem Q.cell {a b : World} (h : Q a b) {p : Addr} (hp : p.block < a.heap.size) : b.cell? p = a.cell? p := Below.cell h hp
theorem Q.frozen {a b : World} (h : Q a b) {p : Addr} (hp : p.block < a.heap.size) : b.frozen? p = a.frozen? p := Below.frozen h hp
/-- A row of numbers: cell i behind the address holds number i. -/
def Row (k : IntKind) (w : World) (b off len : Nat) (f : Nat → Int) : Prop := ∀ i, i < len → w.cell? ⟨b, off + i, none⟩ = some (.int k (f i))
theorem Row.q {k : IntKind} {w w' : World} {g off n : Nat} {f : Nat → Int} (h : Row k w g off n f) (q : Q w w') (hg : g < w.heap.size) : Row k w' g off n f :=
 fun i hi => by rw [q.cell (p := ⟨g, off + i, none⟩) hg]; exact h i hi
theorem Row.drewN {k : IntKind} {w : World} {g off n : Nat} {f : Nat → Int} (h : Row k w g off n f) (m : Nat) : Row k (w.drewN m) g off n f := fun i hi => h i hi
theorem Row.drew {k : IntKind} {w : World} {g off n : Nat} {f : Nat → Int} (h : Row k w g off n f) : Row k w.drew g off n f := fun i hi => h i hi
theorem Row.at0 {k : IntKind} {w : World} {g n : Nat} {f : Nat → Int} (h : Row k w g 0 n f) (i : Nat) (hi : i < n) : w.cell? ⟨g, i, none⟩ = some (.int k (f i)) := by have := h i hi; rwa [Nat.zero_add] at this
theorem Row.lt {k : IntKind} {w : World} {g off n : Nat} {f : Nat → Int} (h : Row k w g off n f) (hn : 0 < n) : g < w.heap.size := World.block_lt_of_cell? _ _ (h 0 hn)
def upd (o : Nat → Int) (x : Nat) (v : Int) : Nat → Int := fun i => if i = x then v else o i
theorem Row.set {k : IntKind} {w : World} {g n : Nat} {o : Nat → Int} (h : Row k w g 0 n o) (x : Nat) (hx : x < n) (v : Int) : Row k (w.setCell ⟨g, x, none⟩ (.int k v)) g 0 n (upd o x v) := by
 intro i hi
 rw [Nat.zero_add]
 unfold upd
 by_cases e : i = x
 · subst e
   rw [if_pos rfl]
   exact World.cell?_setCell_same _ _ _ (h.at0 i hi)
 · rw [if_neg e, World.cell?_setCell_other (h := by intro h; injection h; omega)]
   exact h.at0 i hi
theorem Row.other {k : IntKind} {w : World} {g off n x gz : Nat} {o : Nat → Int} (h : Row k w g off n o) (hg : g ≠ gz) (v : Value) : Row k (w.setCell ⟨gz, x, none⟩ v) g off n o := by
 intro i hi
 rw [World.cell?_setCell_other (h := by intro h; injection h; omega)]
 exact h i hi
/-- A new block of n cells, all alike. -/
theorem Row.made (k : IntKind) (w : World) (n : Nat) (v : Int) (t : TypeId) : Row k (w.alloc (.cells (Array.replicate n (.int k v)) t)) w.heap.size 0 n (fun _ => v) := by
 intro i hi
 rw [World.cell?_alloc_at _ _ _ _ rfl, Nat.zero_add]
 simp [hi]
theorem made_frozen (w : World) (c : Array Value) (t : TypeId) (i : Nat) : (w.alloc (.cells c t)).frozen? ⟨w.heap.size, i, none⟩ = false := World.frozen?_alloc_at _ _ _ _ rfl
/-- A row of the call's own, as an ending. -/
def OwnRow (k : IntKind) (W : World) (f : Nat → Int) (n : Nat) (e : Ending) (w' : World) : Prop :=
 ∃ g cap, e = .returned (.slice (some ⟨g, 0, none⟩) n cap) ∧ n ≤ cap ∧ cap ≤ maxLen ∧ Row k w' g 0 n f ∧ (∀ i, w'.frozen? ⟨g, i, none⟩ = false) ∧ W.heap.size ≤ g ∧ g < w'.heap.size ∧ Q W w'
/-- A goal that the walk does not open. -/
theorem halt {p : Prop} (h : Hid p) : p := h.out
/-- The cells of an array of n numbers. -/
def cl (k : IntKind) (n : Nat) (f : Nat → Int) : List Value := (List.range n).map fun i => Value.int k (f i)
theorem cl_len (k : IntKind) (n : Nat) (f : Nat → Int) : (cl k n f).length = n := by unfold cl; simp
theorem cl_get (k : IntKind) (n : Nat) (f : Nat → Int) (j : Nat) (h : j < n) : (cl k n f)[j]? = some (.int k (f j)) := by unfold cl; simp [h]
theorem cl_one (k : IntKind) (n : Nat) (f : Nat → Int) : (cl k n f).toArray.all (·.oneCell') = true :=
 all_oneCell_toArray (by intro v hv; unfold cl at hv; obtain ⟨i, _, rfl⟩ := List.mem_map.1 hv; rfl)
theorem cl_congr (k : IntKind) (n : Nat) {f g : Nat → Int} (h : ∀ i, i < n → f i = g i) : cl k n f = cl k n g := by
 unfold cl
 apply List.map_congr_left
 intro i hi
 rw [h i (List.mem_range.1 hi)]
/-- Its value. -/
def arr (k : IntKind) (n : Nat) (f : Nat → Int) : Value := .agg (cl k n f).toArray
theorem Row.range {k : IntKind} {w : World} {b o n : Nat} {f : Nat → Int} (h : Row k w b o n f) : w.rangeAt b o (cl k n f) := by
 intro j v hv
 have hj : j < n := by have := (List.getElem?_eq_some_iff.1 hv).1; rwa [cl_len] at this
 rw [cl_get _ _ _ _ hj] at hv
 rw [h j hj, hv]
theorem Row.boxed (k : IntKind) (w : World) (n : Nat) (f : Nat → Int) (t : TypeId) : Row k (w.alloc (.cells (cl k n f).toArray t)) w.heap.size 0 n f := by
 intro i hi
 rw [World.cell?_alloc_at _ _ _ _ rfl, Nat.zero_add]
 simpa using cl_get k n f i hi
theorem Row.there {k : IntKind} {w : World} {b o n : Nat} {f : Nat → Int} (h : Row k w b o n f) (hf : ∀ j, w.frozen? ⟨b, j, none⟩ = false) : w.there b o n :=
 fun j hj => ⟨by rw [h j hj]; rfl, hf _⟩
theorem Row.stored {k : IntKind} {w : World} {b o n : Nat} {f : Nat → Int} (h : w.there b o n) : Row k (w.setCells b o (cl k n f)) b o n f := by
 intro i hi
 have := World.rangeAt_setCells_same w b o (cl k n f) (by rw [cl_len]; exact h)
 exact this i _ (cl_get k n f i hi)
theorem Row.apart {k : IntKind} {w : World} {b o n : Nat} {f : Nat → Int} (h : Row k w b o n f) (b' o' : Nat) (vs : List Value) (ha : b ≠ b' ∨ o + n ≤ o' ∨ o' + vs.length ≤ o) : Row k (w.setCells b' o' vs) b o n f := by
 intro i hi
 rw [World.cell?_setCells_out b' vs o' w ⟨b, o + i, none⟩ (fun hb _ => by
  rcases ha with ha | ha | ha
  · exact absurd hb ha
  · left; show o + i < o'; omega
  · right; show o' + vs.length ≤ o + i; omega)]
 exact h i hi
theorem Row.congr {k : IntKind} {w : World} {b o n : Nat} {f g : Nat → Int} (h : Row k w b o n f) (e : ∀ i, i < n → f i = g i) : Row k w b o n g := fun i hi => by rw [h i hi, e i hi]
theorem setCells_size (b : Nat) : ∀ (vs : List Value) (o : Nat) (w : World), (w.setCells b o vs).heap.size = w.heap.size
 | [], _, _ => rfl
 | v :: r, o, w => by rw [World.setCells, setCells_size b r]; simp
theorem Q.setCells {a b : World} (h : Q a b) {p : Nat} (hp : a.heap.size ≤ p) (o : Nat) (vs : List Value) : Q a (b.setCells p o vs) := below_setCells hp vs o b h
section
variable {P : Program}
/-- A result that lies in memory. -/
theorem results_cell {fn : Func} {p : Tmp} {ty : TypeId} (h : fn.results = #[.cell p ty]) {tmps : Array Value} {w : World} {a : Addr} {v : Value} (ha : tmps.getD p undef = .pointer (some a)) (hl : (loadVar ty a).run P w = .ok v w) :
 (results fn tmps).run P w = .ok v w := by
 rw [Array.getD_eq_getD_getElem?] at ha
 simp only [results, h]
 simp [ha, asAddr, hl]
/-- A new variable of a type of many cells. -/
theorem wpList_allocZ {ops : Array Oper} {rest : List Oper} {o : Oper} {a : Act} {w : World} {Q : Exit → Act → World → Prop} (hg : o.guard = none) (t : TypeId) (ho : o.op = .alloc t) (Z : Array Value) (hz : ∀ w, (zeroValue t).run P w = .ok (.agg Z) w)
 (h : wpList P ops Q rest (a.put o.dst (.pointer (some ⟨w.heap.size, 0, none⟩))) (w.alloc (.cells Z t))) : wpList P ops Q (o :: rest) a w :=
 wpList_plain hg fun _ hK => by
  unfold Oper.wp execOp
  simp [ho, Instr.alloc, newVar, newRow, Value.cells, hz]
  exact hK _ _ h
/-- A part of an array in memory. -/
theorem slice_lh {t e : TypeId} {n : Nat} (hu : P.underlying t = some (.array n e)) (hz : ∀ w, (Go.sizeOf e).run P w = .ok 1 w) (w : World) (g o : Nat) (kl kh : IntKind) (l h : Nat) (h1 : l ≤ h) (h2 : h ≤ n) (h3 : l < n) :
 (Instr.sliceAt t (.pointer (some ⟨g, o, none⟩)) (some (.int kl l)) (some (.int kh h)) none).run P w = .ok (.slice (some ⟨g, o + l, none⟩) (h - l) (n - l)) w := by
 have h4 : ¬ n = l := by omega
 simp [Instr.sliceAt, Instr.sureAddr, run_underlying hu, Instr.sliceBounds, run_sliceBound, hz, h1, h2, h4, Addr.add_mid]
theorem slice_l {t e : TypeId} {n : Nat} (hu : P.underlying t = some (.array n e)) (hz : ∀ w, (Go.sizeOf e).run P w = .ok 1 w) (w : World) (g o : Nat) (kl : IntKind) (l : Nat) (h3 : l < n) :
 (Instr.sliceAt t (.pointer (some ⟨g, o, none⟩)) (some (.int kl l)) none none).run P w = .ok (.slice (some ⟨g, o + l, none⟩) (n - l) (n - l)) w := by
 have h4 : ¬ n = l := by omega
 have h5 : l ≤ n := by omega
 simp [Instr.sliceAt, Instr.sureAddr, run_underlying hu, Instr.sliceBounds, run_sliceBound, hz, h4, h5, Addr.add_mid]
/-- 'copy(dst, s)', s a text: as many bytes as find room go over. -/
theorem run_copy_part (w : World) (dT sT ty elem : TypeId) (b o dLen dCap : Nat) (t : ByteArray)
 (hu : P.underlying dT = some (.slice elem)) (hz : ∀ w, (Go.sizeOf elem).run P w = .ok 1 w)
 (hc : ∀ j, j < dLen → (w.cell? ⟨b, o + j, none⟩).isSome = true) (hf : ∀ j, j < dLen → w.frozen? ⟨b, o + j, none⟩ = false) :
 (Builtin.copy_ #[dT, sT] ty #[.slice (some ⟨b, o, none⟩) dLen dCap, .string t]).run P w = .ok (goInt (min t.size dLen : Nat)) (w.setCells b o ((t.data.toList.map fun x => Value.int .u8 (x.toNat : Int)).take (min t.size dLen))) := by
 have hl : (t.data.toList.map fun x => Value.int .u8 (x.toNat : Int)).length = t.size := by rw [List.length_map, ← Lib.size_eq]
 have hl2 : ((t.data.toList.map fun x => Value.int .u8 (x.toNat : Int)).take (min t.size dLen)).length ≤ dLen := by rw [List.length_take]; omega
 have hst := run_storeCells_cells (P := P) b o ((t.data.toList.map fun x => Value.int .u8 (x.toNat : Int)).take (min t.size dLen)) 0 w
  (fun j hj => by simpa using hc j (by omega)) (fun j hj => by simpa using hf j (by omega)) (by
  intro v hv
  obtain ⟨x, _, rfl⟩ := List.mem_map.1 (List.mem_of_mem_take hv)
  rfl)
 have hm : Nat.min t.size dLen = min t.size dLen := rfl
 simp [Builtin.copy_, run_underlying hu, Builtin.lenOf, Builtin.firstCells, hz, hm]
 rw [hst]
 rfl
end
end Go.Proofs.YtobfgljkckcmcaaGreatDoor.Mem
namespace Go.Proofs.YtobfgljkckcmcaaGreatDoor
theorem gat {l : List Oper} {i : Nat} {o : Oper} (h : l[i]? = some o) : l.toArray[i]? = some o := by simpa using h
theorem pu {α : Type} : (∀ (l : List α) (i : Nat) (a : α), l.toArray.setIfInBounds i a = (l.set i a).toArray) ∧ (∀ (a b : α) (l : List α), (a :: l).set 0 b = b :: l) ∧ (∀ (a b : α) (l : List α) (n : Nat), (a :: l).set (n + 1) b = a :: l.set n b) :=
 ⟨fun _ _ _ => List.setIfInBounds_toArray .., fun _ _ _ => rfl, fun _ _ _ _ => rfl⟩
theorem len_8 {α : Type} {l : List α} {n : Nat} (h : l.length = n + 8) : ∃ a b c d e f g i r, l = a :: b :: c :: d :: e :: f :: g :: i :: r ∧ r.length = n := by
 match l, h with
 | a :: b :: c :: d :: e :: f :: g :: i :: r, h => exact ⟨a, b, c, d, e, f, g, i, r, rfl, by simpa using h⟩
theorem ar1 {P : Program} {md : Region.Mode} {ops : Array Oper} {Q : Exit → Act → World → Prop} {S : World → Prop} {fuel : Nat} {listed : Array Bool} {a : Act} {w : World} {i : Nat} {o : Oper} (ho : ops[i]? = some o)
 (h : ∀ K' : Act → World → Prop, Shut (∀ a w, S w → (S w → wpAnyH P md ops Q S fuel (listed.setIfInBounds i true) a w) → K' a w) → if Region.wanted o (yielded ops a.tmps) = true then Oper.wp P o a w K' Q else K' (a.put o.dst undef) w) : AllReadyH P md ops Q S fuel listed a w [i] := AllReadyH.cons ho h AllReadyH.nil
theorem wtk {P : Program} {md : Region.Mode} {ops : Array Oper} {Q : Exit → Act → World → Prop} {S : World → Prop} {i : Nat} {oi : Oper} {v : Value} {fuel : Nat} {listed : Array Bool} {a : Act} {w : World} (hi : ops[i]? = some oi)
 (h3 : (Region.noSelect ops && Region.free md ops listed i && (Region.ready md ops listed).contains i) = true)
 (hQ : ∀ c a w, Q (.panic c) (a.put oi.dst v) w → Q (.panic c) a w) (hy : YieldsIf P ops S oi v a) (hS : S w)
 (h : wpAnyH P md ops Q S fuel (listed.setIfInBounds i true) (a.put oi.dst v) w) : wpAnyH P md ops Q S (fuel + 1) listed a w := by
 rw [Bool.and_eq_true, Bool.and_eq_true] at h3
 exact wpAnyH_take hi h3.1.1 h3.1.2 h3.2 hQ hy hS h
end Go.Proofs.YtobfgljkckcmcaaGreatDoor
