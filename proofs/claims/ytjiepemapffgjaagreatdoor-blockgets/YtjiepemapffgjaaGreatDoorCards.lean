/-
  DERIVED. GIVEN WITH THE SEED: THE CARDS: each row of YtjiepemapffgjaaGreatDoorRows.lean that lists a variable, with what it lists TIED to the program's text (the seventh form; the later family's looks); each row that meets fmt, with fmt's text TOLD by the authors' own Lean function (tested against real Go, not proved from fmt's source: count such statements apart). THE CARD IS WHAT COUNTS. Prove the row's statement (the work); the ties are given (YtjiepemapffgjaaGreatDoorTie.lean); close each card by the builder's one call (the guide's Derived/Test/ToyasCard.lean, 'card_holds'). Laid BY PROGRAM, IN A SANDBOX (cutbox-door.mjs). By AI agents, Wed Nov 11 2026. No macro, syntax, notation, axiom, sorry.
-/
import Derived.Test.YtjiepemapffgjaaGreatDoorRows
import GoSem.ClaimSeven
namespace Go.Proofs.YtjiepemapffgjaaGreatDoor
namespace Rows

/-- THE TIED CARD OF 'turnstilelaw09.CoinPuts'. -/
def coinPutsCard : Claim7 := { stood := { row := coinPutsRow, standIns := [], harness := (true, "2717cd6523cd3c8a2436c54d369e788546328e50a06053fc10ebc94efbf758d6"), looks := false }, kinds := [], alts := [], laidByText := true, laidKinds := [.data, .data], laidTests := true, laidLooks := .later }
def CoinPutsCardSaid : Prop := Claim7.holds Tryz.pinned (.plain (OpenSpec.ofChange coinPutsSpec)) coinPutsCard

/-- THE TIED CARD OF 'turnstilelaw09.CoinGets'. -/
def coinGetsCard : Claim7 := { stood := { row := coinGetsRow, standIns := [], harness := (true, "2717cd6523cd3c8a2436c54d369e788546328e50a06053fc10ebc94efbf758d6"), looks := false }, kinds := [], alts := [], laidByText := true, laidKinds := [.data, .data], laidTests := true, laidLooks := .later }
def CoinGetsCardSaid : Prop := Claim7.holds Tryz.pinned (.plain (OpenSpec.ofChange coinGetsSpec)) coinGetsCard

/-- THE TIED CARD OF 'turnstilelaw10.BlockPuts'. -/
def blockPutsCard : Claim7 := { stood := { row := blockPutsRow, standIns := [], harness := (true, "2717cd6523cd3c8a2436c54d369e788546328e50a06053fc10ebc94efbf758d6"), looks := false }, kinds := [], alts := [], laidByText := true, laidKinds := [.data, .data], laidTests := true, laidLooks := .later }
def BlockPutsCardSaid : Prop := Claim7.holds Tryz.pinned (.plain (OpenSpec.ofChange blockPutsSpec)) blockPutsCard

/-- THE TIED CARD OF 'turnstilelaw10.BlockGets'. -/
def blockGetsCard : Claim7 := { stood := { row := blockGetsRow, standIns := [], harness := (true, "2717cd6523cd3c8a2436c54d369e788546328e50a06053fc10ebc94efbf758d6"), looks := false }, kinds := [], alts := [], laidByText := true, laidKinds := [.data, .data], laidTests := true, laidLooks := .later }
def BlockGetsCardSaid : Prop := Claim7.holds Tryz.pinned (.plain (OpenSpec.ofChange blockGetsSpec)) blockGetsCard

/-- THE TIED CARD OF 'turnstilelaw10.BlockNames'. -/
def blockNamesCard : Claim7 := { stood := { row := blockNamesRow, standIns := [], harness := (true, "2717cd6523cd3c8a2436c54d369e788546328e50a06053fc10ebc94efbf758d6"), looks := false }, kinds := [], alts := [], laidByText := true, laidKinds := [.data, .data], laidTests := true, laidLooks := .later }
def BlockNamesCardSaid : Prop := Claim7.holds Tryz.pinned (.plain (OpenSpec.ofChange blockNamesSpec)) blockNamesCard

/-- THE SECOND FORM's CARD OF 'turnstilelaw09.CoinPuts'. -/
def coinPutsUptoCard : Claim7 := { stood := { row := coinPutsUptoRow, standIns := [], harness := (true, "2717cd6523cd3c8a2436c54d369e788546328e50a06053fc10ebc94efbf758d6"), looks := false }, kinds := [], alts := [], laidByText := true, laidKinds := [.data, .data], laidTests := true, laidLooks := .later }
def CoinPutsUptoCardSaid : Prop := Claim7.holds Tryz.pinned (.plain (OpenSpec.upto coinPutsSpec)) coinPutsUptoCard

/-- THE SECOND FORM's CARD OF 'turnstilelaw09.CoinGets'. -/
def coinGetsUptoCard : Claim7 := { stood := { row := coinGetsUptoRow, standIns := [], harness := (true, "2717cd6523cd3c8a2436c54d369e788546328e50a06053fc10ebc94efbf758d6"), looks := false }, kinds := [], alts := [], laidByText := true, laidKinds := [.data, .data], laidTests := true, laidLooks := .later }
def CoinGetsUptoCardSaid : Prop := Claim7.holds Tryz.pinned (.plain (OpenSpec.upto coinGetsSpec)) coinGetsUptoCard

/-- THE SECOND FORM's CARD OF 'turnstilelaw10.BlockPuts'. -/
def blockPutsUptoCard : Claim7 := { stood := { row := blockPutsUptoRow, standIns := [], harness := (true, "2717cd6523cd3c8a2436c54d369e788546328e50a06053fc10ebc94efbf758d6"), looks := false }, kinds := [], alts := [], laidByText := true, laidKinds := [.data, .data], laidTests := true, laidLooks := .later }
def BlockPutsUptoCardSaid : Prop := Claim7.holds Tryz.pinned (.plain (OpenSpec.upto blockPutsSpec)) blockPutsUptoCard

/-- THE SECOND FORM's CARD OF 'turnstilelaw10.BlockGets'. -/
def blockGetsUptoCard : Claim7 := { stood := { row := blockGetsUptoRow, standIns := [], harness := (true, "2717cd6523cd3c8a2436c54d369e788546328e50a06053fc10ebc94efbf758d6"), looks := false }, kinds := [], alts := [], laidByText := true, laidKinds := [.data, .data], laidTests := true, laidLooks := .later }
def BlockGetsUptoCardSaid : Prop := Claim7.holds Tryz.pinned (.plain (OpenSpec.upto blockGetsSpec)) blockGetsUptoCard

/-- THE SECOND FORM's CARD OF 'turnstilelaw10.BlockNames'. -/
def blockNamesUptoCard : Claim7 := { stood := { row := blockNamesUptoRow, standIns := [], harness := (true, "2717cd6523cd3c8a2436c54d369e788546328e50a06053fc10ebc94efbf758d6"), looks := false }, kinds := [], alts := [], laidByText := true, laidKinds := [.data, .data], laidTests := true, laidLooks := .later }
def BlockNamesUptoCardSaid : Prop := Claim7.holds Tryz.pinned (.plain (OpenSpec.upto blockNamesSpec)) blockNamesUptoCard
end Rows
end Go.Proofs.YtjiepemapffgjaaGreatDoor
