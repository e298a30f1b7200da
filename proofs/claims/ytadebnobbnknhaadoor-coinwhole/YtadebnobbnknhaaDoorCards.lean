/-
  DERIVED. GIVEN WITH THE SEED: THE CARDS: each row of YtadebnobbnknhaaDoorRows.lean that lists a variable, with what it lists TIED to the program's text (the seventh form; the later family's looks); each row that meets fmt, with fmt's text TOLD by the authors' own Lean function (tested against real Go, not proved from fmt's source: count such statements apart). THE CARD IS WHAT COUNTS. Prove the row's statement (the work); the ties are given (YtadebnobbnknhaaDoorTie.lean); close each card by the builder's one call (the guide's Derived/Test/ToyasCard.lean, 'card_holds'). Laid BY PROGRAM, IN A SANDBOX (cutbox-door.mjs). By AI agents, Wed Nov 11 2026. No macro, syntax, notation, axiom, sorry.
-/
import Derived.Test.YtadebnobbnknhaaDoorRows
import GoSem.ClaimSeven
namespace Go.Proofs.YtadebnobbnknhaaDoor
namespace Rows

/-- THE TIED CARD OF 'turnstilelaw09.CoinBack'. -/
def coinBackCard : Claim7 := { stood := { row := coinBackRow, standIns := [], harness := (true, "a66fdd2ce7b17e8775e5d25da6dc1d564a63a84f84881afad226f3d618790e73"), looks := false }, kinds := [], alts := [], laidByText := true, laidKinds := [.data, .data], laidTests := true, laidLooks := .later }
def CoinBackCardSaid : Prop := Claim7.holds Tryd.pinned (.plain (OpenSpec.ofChange coinBackSpec)) coinBackCard

/-- THE TIED CARD OF 'turnstilelaw09.CoinNames'. -/
def coinNamesCard : Claim7 := { stood := { row := coinNamesRow, standIns := [], harness := (true, "a66fdd2ce7b17e8775e5d25da6dc1d564a63a84f84881afad226f3d618790e73"), looks := false }, kinds := [], alts := [], laidByText := true, laidKinds := [.data, .data], laidTests := true, laidLooks := .later }
def CoinNamesCardSaid : Prop := Claim7.holds Tryd.pinned (.plain (OpenSpec.ofChange coinNamesSpec)) coinNamesCard

/-- THE TIED CARD OF 'turnstilelaw09.CoinTells'. -/
def coinTellsCard : Claim7 := { stood := { row := coinTellsRow, standIns := [], harness := (true, "a66fdd2ce7b17e8775e5d25da6dc1d564a63a84f84881afad226f3d618790e73"), looks := false }, kinds := [], alts := [], laidByText := true, laidKinds := [.data, .data], laidTests := true, laidLooks := .later }
def CoinTellsCardSaid : Prop := Claim7.holds Tryd.pinned (.plain (OpenSpec.ofChange coinTellsSpec)) coinTellsCard

/-- THE TIED CARD OF 'turnstilelaw09.CoinWhole'. -/
def coinWholeCard : Claim7 := { stood := { row := coinWholeRow, standIns := [], harness := (true, "a66fdd2ce7b17e8775e5d25da6dc1d564a63a84f84881afad226f3d618790e73"), looks := false }, kinds := [], alts := [], laidByText := true, laidKinds := [.data, .data], laidTests := true, laidLooks := .later }
def CoinWholeCardSaid : Prop := Claim7.holds Tryd.pinned (.plain (OpenSpec.ofChange coinWholeSpec)) coinWholeCard

/-- THE TIED CARD OF 'turnstilelaw10.BlockPlaces'. -/
def blockPlacesCard : Claim7 := { stood := { row := blockPlacesRow, standIns := [], harness := (true, "a66fdd2ce7b17e8775e5d25da6dc1d564a63a84f84881afad226f3d618790e73"), looks := false }, kinds := [], alts := [], laidByText := true, laidKinds := [.data, .data], laidTests := true, laidLooks := .later }
def BlockPlacesCardSaid : Prop := Claim7.holds Tryd.pinned (.plain (OpenSpec.ofChange blockPlacesSpec)) blockPlacesCard

/-- THE SECOND FORM's CARD OF 'turnstilelaw09.CoinBack'. -/
def coinBackUptoCard : Claim7 := { stood := { row := coinBackUptoRow, standIns := [], harness := (true, "a66fdd2ce7b17e8775e5d25da6dc1d564a63a84f84881afad226f3d618790e73"), looks := false }, kinds := [], alts := [], laidByText := true, laidKinds := [.data, .data], laidTests := true, laidLooks := .later }
def CoinBackUptoCardSaid : Prop := Claim7.holds Tryd.pinned (.plain (OpenSpec.upto coinBackSpec)) coinBackUptoCard

/-- THE SECOND FORM's CARD OF 'turnstilelaw09.CoinNames'. -/
def coinNamesUptoCard : Claim7 := { stood := { row := coinNamesUptoRow, standIns := [], harness := (true, "a66fdd2ce7b17e8775e5d25da6dc1d564a63a84f84881afad226f3d618790e73"), looks := false }, kinds := [], alts := [], laidByText := true, laidKinds := [.data, .data], laidTests := true, laidLooks := .later }
def CoinNamesUptoCardSaid : Prop := Claim7.holds Tryd.pinned (.plain (OpenSpec.upto coinNamesSpec)) coinNamesUptoCard

/-- THE SECOND FORM's CARD OF 'turnstilelaw09.CoinTells'. -/
def coinTellsUptoCard : Claim7 := { stood := { row := coinTellsUptoRow, standIns := [], harness := (true, "a66fdd2ce7b17e8775e5d25da6dc1d564a63a84f84881afad226f3d618790e73"), looks := false }, kinds := [], alts := [], laidByText := true, laidKinds := [.data, .data], laidTests := true, laidLooks := .later }
def CoinTellsUptoCardSaid : Prop := Claim7.holds Tryd.pinned (.plain (OpenSpec.upto coinTellsSpec)) coinTellsUptoCard

/-- THE SECOND FORM's CARD OF 'turnstilelaw09.CoinWhole'. -/
def coinWholeUptoCard : Claim7 := { stood := { row := coinWholeUptoRow, standIns := [], harness := (true, "a66fdd2ce7b17e8775e5d25da6dc1d564a63a84f84881afad226f3d618790e73"), looks := false }, kinds := [], alts := [], laidByText := true, laidKinds := [.data, .data], laidTests := true, laidLooks := .later }
def CoinWholeUptoCardSaid : Prop := Claim7.holds Tryd.pinned (.plain (OpenSpec.upto coinWholeSpec)) coinWholeUptoCard

/-- THE SECOND FORM's CARD OF 'turnstilelaw10.BlockPlaces'. -/
def blockPlacesUptoCard : Claim7 := { stood := { row := blockPlacesUptoRow, standIns := [], harness := (true, "a66fdd2ce7b17e8775e5d25da6dc1d564a63a84f84881afad226f3d618790e73"), looks := false }, kinds := [], alts := [], laidByText := true, laidKinds := [.data, .data], laidTests := true, laidLooks := .later }
def BlockPlacesUptoCardSaid : Prop := Claim7.holds Tryd.pinned (.plain (OpenSpec.upto blockPlacesSpec)) blockPlacesUptoCard
end Rows
end Go.Proofs.YtadebnobbnknhaaDoor
