import Derived.Test.YtobfgljkckcmcaaGreatDoorXJDec3
import Derived.Test.YtobfgljkckcmcaaGreatDoorXHCoiB
set_option maxRecDepth 100000
namespace Go.Proofs.YtobfgljkckcmcaaGreatDoor.Coi
open Go.RowKit
open Mem Num Cod
set_option linter.unusedVariables false
set_option linter.unusedSimpArgs false
/-- A store into one cell of a box, in a plain region. -/
theorem st_one {P : Program} {ops : Array Oper} {rest : List Oper} {op : Oper} {a : Act} {w : World} {Q : Exit → Act → World → Prop} (hgd : op.guard = none) (ty : TypeId) (x y : Operand) (ho : op.op = .store ty x y) {b j : Nat} {cs : List Value} {v old : Value}
 (hx : a.eval x = .pointer (some ⟨b, j, none⟩)) (hy : a.eval y = v) (hB : Box w b cs) (hj : cs[j]? = some old) (hrun : ∀ w : World, w.cell? ⟨b, j, none⟩ = some old → w.frozen? ⟨b, j, none⟩ = false → (Instr.storeAt ty (.pointer (some ⟨b, j, none⟩)) v).run P w = .ok () (w.setCell ⟨b, j, none⟩ v))
 (h : ∀ w', Box w' b (cs.set j v) → Ch b w w' → wpList P ops Q rest (a.put op.dst undef) w') : wpList P ops Q (op :: rest) a w :=
 wpList_plain hgd fun K hK => wpo_st1 ty x y ho hx hy hB hj hrun fun w' h1 h2 => hK _ _ (h w' h1 h2)
end Go.Proofs.YtobfgljkckcmcaaGreatDoor.Coi
