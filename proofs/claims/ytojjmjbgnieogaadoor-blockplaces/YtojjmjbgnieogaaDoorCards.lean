/-
  DERIVED. GIVEN WITH THE SEED: THE CARDS: each row of YtojjmjbgnieogaaDoorRows.lean that lists a variable, with what it lists TIED to the program's text (the seventh form; the later family's looks); each row that meets fmt, with fmt's text TOLD by the authors' own Lean function (tested against real Go, not proved from fmt's source: count such statements apart). THE CARD IS WHAT COUNTS. Prove the row's statement (the work); the ties are given (YtojjmjbgnieogaaDoorTie.lean); close each card by the builder's one call (the guide's Derived/Test/ToyasCard.lean, 'card_holds'). Laid BY PROGRAM, IN A SANDBOX (cutbox-door.mjs). By AI agents, Wed Nov 11 2026. No macro, syntax, notation, axiom, sorry.
-/
import Derived.Test.YtojjmjbgnieogaaDoorRows
import GoSem.ClaimSeven
namespace Go.Proofs.YtojjmjbgnieogaaDoor
namespace Rows

/-- THE TIED CARD OF 'turnstilelaw09.CoinBack'. -/
def coinBackCard : Claim7 := { stood := { row := coinBackRow, standIns := [], harness := (true, "d249d05053606060519340106ce5403f21c3a37455bc05ab1e7bd3e59538fec0"), looks := false }, kinds := [], alts := [], laidByText := true, laidKinds := [.data, .data], laidTests := true, laidLooks := .later }
def CoinBackCardSaid : Prop := Claim7.holds Tryd.pinned (.plain (OpenSpec.ofChange coinBackSpec)) coinBackCard

/-- THE TIED CARD OF 'turnstilelaw09.CoinNames'. -/
def coinNamesCard : Claim7 := { stood := { row := coinNamesRow, standIns := [], harness := (true, "d249d05053606060519340106ce5403f21c3a37455bc05ab1e7bd3e59538fec0"), looks := false }, kinds := [], alts := [], laidByText := true, laidKinds := [.data, .data], laidTests := true, laidLooks := .later }
def CoinNamesCardSaid : Prop := Claim7.holds Tryd.pinned (.plain (OpenSpec.ofChange coinNamesSpec)) coinNamesCard

/-- THE TIED CARD OF 'turnstilelaw09.CoinTells'. -/
def coinTellsCard : Claim7 := { stood := { row := coinTellsRow, standIns := [], harness := (true, "d249d05053606060519340106ce5403f21c3a37455bc05ab1e7bd3e59538fec0"), looks := false }, kinds := [], alts := [], laidByText := true, laidKinds := [.data, .data], laidTests := true, laidLooks := .later }
def CoinTellsCardSaid : Prop := Claim7.holds Tryd.pinned (.plain (OpenSpec.ofChange coinTellsSpec)) coinTellsCard

/-- THE TIED CARD OF 'turnstilelaw10.BlockPlaces'. -/
def blockPlacesCard : Claim7 := { stood := { row := blockPlacesRow, standIns := [], harness := (true, "d249d05053606060519340106ce5403f21c3a37455bc05ab1e7bd3e59538fec0"), looks := false }, kinds := [], alts := [], laidByText := true, laidKinds := [.data, .data], laidTests := true, laidLooks := .later }
def BlockPlacesCardSaid : Prop := Claim7.holds Tryd.pinned (.plain (OpenSpec.ofChange blockPlacesSpec)) blockPlacesCard

/-- THE SECOND FORM's CARD OF 'turnstilelaw09.CoinBack'. -/
def coinBackUptoCard : Claim7 := { stood := { row := coinBackUptoRow, standIns := [], harness := (true, "d249d05053606060519340106ce5403f21c3a37455bc05ab1e7bd3e59538fec0"), looks := false }, kinds := [], alts := [], laidByText := true, laidKinds := [.data, .data], laidTests := true, laidLooks := .later }
def CoinBackUptoCardSaid : Prop := Claim7.holds Tryd.pinned (.plain (OpenSpec.upto coinBackSpec)) coinBackUptoCard

/-- THE SECOND FORM's CARD OF 'turnstilelaw09.CoinNames'. -/
def coinNamesUptoCard : Claim7 := { stood := { row := coinNamesUptoRow, standIns := [], harness := (true, "d249d05053606060519340106ce5403f21c3a37455bc05ab1e7bd3e59538fec0"), looks := false }, kinds := [], alts := [], laidByText := true, laidKinds := [.data, .data], laidTests := true, laidLooks := .later }
def CoinNamesUptoCardSaid : Prop := Claim7.holds Tryd.pinned (.plain (OpenSpec.upto coinNamesSpec)) coinNamesUptoCard

/-- THE SECOND FORM's CARD OF 'turnstilelaw09.CoinTells'. -/
def coinTellsUptoCard : Claim7 := { stood := { row := coinTellsUptoRow, standIns := [], harness := (true, "d249d05053606060519340106ce5403f21c3a37455bc05ab1e7bd3e59538fec0"), looks := false }, kinds := [], alts := [], laidByText := true, laidKinds := [.data, .data], laidTests := true, laidLooks := .later }
def CoinTellsUptoCardSaid : Prop := Claim7.holds Tryd.pinned (.plain (OpenSpec.upto coinTellsSpec)) coinTellsUptoCard

/-- THE SECOND FORM's CARD OF 'turnstilelaw10.BlockPlaces'. -/
def blockPlacesUptoCard : Claim7 := { stood := { row := blockPlacesUptoRow, standIns := [], harness := (true, "d249d05053606060519340106ce5403f21c3a37455bc05ab1e7bd3e59538fec0"), looks := false }, kinds := [], alts := [], laidByText := true, laidKinds := [.data, .data], laidTests := true, laidLooks := .later }
def BlockPlacesUptoCardSaid : Prop := Claim7.holds Tryd.pinned (.plain (OpenSpec.upto blockPlacesSpec)) blockPlacesUptoCard
end Rows
end Go.Proofs.YtojjmjbgnieogaaDoor
