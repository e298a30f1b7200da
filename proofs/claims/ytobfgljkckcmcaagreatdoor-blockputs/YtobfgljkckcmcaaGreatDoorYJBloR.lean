import Derived.Test.YtobfgljkckcmcaaGreatDoorYJBloQ
set_option maxRecDepth 100000
namespace Go.Proofs.YtobfgljkckcmcaaGreatDoor.Coi
open Go.RowKit
open Mem Num Cod Sh Plan
set_option linter.unusedVariables false
set_option linter.unusedSimpArgs false
structure BO (w : World) (B : Nat) (y : BKI) : Prop where
 o : OR 29 TXI.cells 6 w B y.a y.n y.c y.g
 m : ∀ i, i < y.n → (y.g i).own w B
 p : ∀ i, i < y.n → Apart (y.g i).aI (y.g i).aO ∧ Apart (y.g i).aI (y.g i).aW
 l : ∀ i, i < y.n → ∀ b, (y.g i).at' b → ∀ x, y.a = some x → b ≠ x.block
 d : ∀ i j, i < j → j < y.n → ∀ b, (y.g i).at' b → ¬ (y.g j).at' b
 k : ∀ i, i < y.n → (y.g i).t.ok
theorem BO.q {w w' : World} {B : Nat} {y : BKI} (h : BO w B y) (q : Q w w') : BO w' B y := ⟨h.o.q q, fun i hi => (h.m i hi).q q, h.p, h.l, h.d, h.k⟩
theorem BO.low {w w' : World} {B g : Nat} {y : BKI} (h : BO w B y) (c : Ch g w w') (hg : g < B) : BO w' B y := ⟨h.o.low c hg, fun i hi => (h.m i hi).low c hg, h.p, h.l, h.d, h.k⟩
theorem BO.tl {w : World} {B : Nat} {y : BKI} (h : BO w B y) : y.tl w := ⟨h.o.sl txi_len, fun i hi => (h.m i hi).tm, h.k⟩
theorem BO.down {w : World} {B B' : Nat} {y : BKI} (h : BO w B y) (hb : B' ≤ B) : BO w B' y := ⟨h.o.down hb, fun i hi => own_down (h.m i hi) hb, h.p, h.l, h.d, h.k⟩
theorem TL.q_ {w w' : World} {a : Option Addr} {n : Nat} {f : Nat → TXI} (h : TL w a n f) (q : Q w w') : TL w' a n f := ⟨h.l.q q, fun i hi => (h.m i hi).q q, h.k⟩
def BKI.cells (z : BKI) : List Value := [.int .i64 z.h, .string z.prev, .slice z.a z.n z.c]
/-- A block in a variable. -/
structure BB (w : World) (b : Nat) (z : BKI) : Prop where
 box : Box w b [.int .i64 z.h, .string z.prev, .slice z.a z.n z.c]
 tl : z.tl w
theorem BB.q {w w' : World} {b : Nat} {z : BKI} (h : BB w b z) (q : Q w w') : BB w' b z := ⟨h.box.q q, h.tl.q_ q⟩
end Go.Proofs.YtobfgljkckcmcaaGreatDoor.Coi
