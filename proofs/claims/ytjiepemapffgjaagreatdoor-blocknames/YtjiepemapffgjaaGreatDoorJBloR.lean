/-
  Layer 10: blocks of one's own; what a block that was decoded is.
-/
import Derived.Test.YtjiepemapffgjaaGreatDoorJBloQ
set_option maxRecDepth 100000
namespace Go.Proofs.YtjiepemapffgjaaGreatDoor.Coi
open Go.RowKit
open Mem Num Cod Sh Plan
set_option linter.unusedVariables false
set_option linter.unusedSimpArgs false

structure BO (w : World) (B : Nat) (y : BKI) : Prop where
  o : OR 29 TXI.cells 6 w B y.a y.n y.c y.g
  m : ∀ i, i < y.n → (y.g i).own w B
  p : ∀ i, i < y.n → Apart (y.g i).aI (y.g i).aO ∧ Apart (y.g i).aI (y.g i).aW
  l : ∀ i, i < y.n → ∀ b, (y.g i).at' b → ∀ x, y.a = some x → b ≠ x.block
  d : ∀ i j, i < j → j < y.n → ∀ b, (y.g i).at' b → ¬ (y.g j).at' b
  k : ∀ i, i < y.n → (y.g i).t.ok
theorem BO.q {w w' : World} {B : Nat} {y : BKI} (h : BO w B y) (q : Q w w') : BO w' B y := ⟨h.o.q q, fun i hi => (h.m i hi).q q, h.p, h.l, h.d, h.k⟩
theorem BO.low {w w' : World} {B g : Nat} {y : BKI} (h : BO w B y) (c : Ch g w w') (hg : g < B) : BO w' B y := ⟨h.o.low c hg, fun i hi => (h.m i hi).low c hg, h.p, h.l, h.d, h.k⟩
theorem BO.tl {w : World} {B : Nat} {y : BKI} (h : BO w B y) : y.tl w := ⟨h.o.sl txi_len, fun i hi => (h.m i hi).tm, h.k⟩
theorem BO.down {w : World} {B B' : Nat} {y : BKI} (h : BO w B y) (hb : B' ≤ B) : BO w B' y := ⟨h.o.down hb, fun i hi => own_down (h.m i hi) hb, h.p, h.l, h.d, h.k⟩
theorem TL.q_ {w w' : World} {a : Option Addr} {n : Nat} {f : Nat → TXI} (h : TL w a n f) (q : Q w w') : TL w' a n f := ⟨h.l.q q, fun i hi => (h.m i hi).q q, h.k⟩
def BKI.cells (z : BKI) : List Value := [.int .i64 z.h, .string z.prev, .slice z.a z.n z.c]
/-- A block in a variable. -/
structure BB (w : World) (b : Nat) (z : BKI) : Prop where
  box : Box w b [.int .i64 z.h, .string z.prev, .slice z.a z.n z.c]
  tl : z.tl w
theorem BB.q {w w' : World} {b : Nat} {z : BKI} (h : BB w b z) (q : Q w w') : BB w' b z := ⟨h.box.q q, h.tl.q_ q⟩
theorem is_right {z : BKI} {b : BK} (h : z.Is b) : RightB z ↔ RightK b := by
  obtain ⟨h1, h2, h3, h4⟩ := h
  unfold RightB RightK
  rw [h1, h2]
  constructor
  · rintro ⟨a1, a2, a3, a4, a5⟩
    exact ⟨a1, a2, a3, by omega, fun i hi => by rw [← h4 i (by omega)]; exact a5 i (by omega)⟩
  · rintro ⟨a1, a2, a3, a4, a5⟩
    exact ⟨a1, a2, a3, by omega, fun i hi => by rw [h4 i hi]; exact a5 i (by omega)⟩
theorem is_bk {z : BKI} {b : BK} (h : z.Is b) : bkB z = bkK b := by
  obtain ⟨h1, h2, h3, h4⟩ := h
  unfold bkB bkK
  rw [h1, h2, catN_congr (fun i => blobS (txB (z.g i).t)) (fun i => blobS (txB (b.tx i))) z.n (fun i hi => by rw [h4 i hi]), h3]
theorem is_same {z u : BKI} {b : BK} (h : u.Is b) (s : SamK b z.bk) : SamB z u := by
  obtain ⟨h1, h2, h3, h4⟩ := h
  obtain ⟨s1, s2, s3, s4⟩ := s
  have s3' : b.n = z.n := s3
  exact ⟨by rw [h1, s1]; rfl, by rw [h2, s2]; rfl, by omega, fun i hi => by rw [h4 i (by omega)]; exact (s4 i (by omega)).symm⟩
theorem bkK_size (b : BK) (h : RightK b) : (bkK b).size ≤ 100000 := by
  have z1 := catN_size (fun i => blobS (txB (b.tx i))) 4098 b.n (fun i hi => by rw [blobS_size]; have := txB_4096 _ (h.2.2.2.2 i hi); omega)
  have z2 := h.2.2.1
  have z3 := h.2.2.2.1
  have z4 : b.n * 4098 ≤ 8 * 4098 := Nat.mul_le_mul_right _ z3
  unfold bkK
  simp only [ByteArray.size_append, putS_size, strOfNums_size, List.length_cons, List.length_nil]
  omega
theorem bkK_pos (b : BK) : 0 < (bkK b).size := by
  unfold bkK
  simp only [ByteArray.size_append, putS_size, strOfNums_size, List.length_cons, List.length_nil]
  omega
end Go.Proofs.YtjiepemapffgjaaGreatDoor.Coi
