/-
  DERIVED. GIVEN WITH THE SEED: THE CARDS: each row of YtobfgljkckcmcaaGreatDoorRows.lean that lists a variable, with what it lists TIED to the program's text (the seventh form; the later family's looks); each row that meets fmt, with fmt's text TOLD by the authors' own Lean function (tested against real Go, not proved from fmt's source: count such statements apart). THE CARD IS WHAT COUNTS. Prove the row's statement (the work); the ties are given (YtobfgljkckcmcaaGreatDoorTie.lean); close each card by the builder's one call (the guide's Derived/Test/ToyasCard.lean, 'card_holds'). Laid BY PROGRAM, IN A SANDBOX (cutbox-door.mjs). By AI agents, Wed Nov 11 2026. No macro, syntax, notation, axiom, sorry.
-/
import Derived.Test.YtobfgljkckcmcaaGreatDoorRows
import GoSem.ClaimSeven
namespace Go.Proofs.YtobfgljkckcmcaaGreatDoor
namespace Rows

/-- THE TIED CARD OF 'turnstilelaw09.CoinPuts'. -/
def coinPutsCard : Claim7 := { stood := { row := coinPutsRow, standIns := [], harness := (true, "dc4d0af669067e5ace8c55b62445eb43e0da505e213d03c94a6866fa113f4030"), looks := false }, kinds := [], alts := [], laidByText := true, laidKinds := [.data, .data], laidTests := true, laidLooks := .later }
def CoinPutsCardSaid : Prop := Claim7.holds Tryz.pinned (.plain (OpenSpec.ofChange coinPutsSpec)) coinPutsCard

/-- THE TIED CARD OF 'turnstilelaw10.BlockPuts'. -/
def blockPutsCard : Claim7 := { stood := { row := blockPutsRow, standIns := [], harness := (true, "dc4d0af669067e5ace8c55b62445eb43e0da505e213d03c94a6866fa113f4030"), looks := false }, kinds := [], alts := [], laidByText := true, laidKinds := [.data, .data], laidTests := true, laidLooks := .later }
def BlockPutsCardSaid : Prop := Claim7.holds Tryz.pinned (.plain (OpenSpec.ofChange blockPutsSpec)) blockPutsCard

/-- THE SECOND FORM's CARD OF 'turnstilelaw09.CoinPuts'. -/
def coinPutsUptoCard : Claim7 := { stood := { row := coinPutsUptoRow, standIns := [], harness := (true, "dc4d0af669067e5ace8c55b62445eb43e0da505e213d03c94a6866fa113f4030"), looks := false }, kinds := [], alts := [], laidByText := true, laidKinds := [.data, .data], laidTests := true, laidLooks := .later }
def CoinPutsUptoCardSaid : Prop := Claim7.holds Tryz.pinned (.plain (OpenSpec.upto coinPutsSpec)) coinPutsUptoCard

/-- THE SECOND FORM's CARD OF 'turnstilelaw10.BlockPuts'. -/
def blockPutsUptoCard : Claim7 := { stood := { row := blockPutsUptoRow, standIns := [], harness := (true, "dc4d0af669067e5ace8c55b62445eb43e0da505e213d03c94a6866fa113f4030"), looks := false }, kinds := [], alts := [], laidByText := true, laidKinds := [.data, .data], laidTests := true, laidLooks := .later }
def BlockPutsUptoCardSaid : Prop := Claim7.holds Tryz.pinned (.plain (OpenSpec.upto blockPutsSpec)) blockPutsUptoCard
end Rows
end Go.Proofs.YtobfgljkckcmcaaGreatDoor
