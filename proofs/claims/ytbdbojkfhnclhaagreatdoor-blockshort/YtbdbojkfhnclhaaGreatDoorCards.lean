/-
  DERIVED. GIVEN WITH THE SEED: THE CARDS: each row of YtbdbojkfhnclhaaGreatDoorRows.lean that lists a variable, with what it lists TIED to the program's text (the seventh form; the later family's looks); each row that meets fmt, with fmt's text TOLD by the authors' own Lean function (tested against real Go, not proved from fmt's source: count such statements apart). THE CARD IS WHAT COUNTS. Prove the row's statement (the work); the ties are given (YtbdbojkfhnclhaaGreatDoorTie.lean); close each card by the builder's one call (the guide's Derived/Test/ToyasCard.lean, 'card_holds'). Laid BY PROGRAM, IN A SANDBOX (cutbox-door.mjs). By AI agents, Wed Nov 11 2026. No macro, syntax, notation, axiom, sorry.
-/
import Derived.Test.YtbdbojkfhnclhaaGreatDoorRows
import GoSem.ClaimSeven
namespace Go.Proofs.YtbdbojkfhnclhaaGreatDoor
namespace Rows

/-- THE TIED CARD OF 'turnstilelaw10.BlockBack'. -/
def blockBackCard : Claim7 := { stood := { row := blockBackRow, standIns := [], harness := (true, "8d8be44e30d8865ddee85eab7a9727286ac8157b8ff006f8713e6d9ab83a587b"), looks := false }, kinds := [], alts := [], laidByText := true, laidKinds := [.data, .data], laidTests := true, laidLooks := .later }
def BlockBackCardSaid : Prop := Claim7.holds Tryz.pinned (.plain (OpenSpec.ofChange blockBackSpec)) blockBackCard

/-- THE TIED CARD OF 'turnstilelaw10.BlockNames'. -/
def blockNamesCard : Claim7 := { stood := { row := blockNamesRow, standIns := [], harness := (true, "8d8be44e30d8865ddee85eab7a9727286ac8157b8ff006f8713e6d9ab83a587b"), looks := false }, kinds := [], alts := [], laidByText := true, laidKinds := [.data, .data], laidTests := true, laidLooks := .later }
def BlockNamesCardSaid : Prop := Claim7.holds Tryz.pinned (.plain (OpenSpec.ofChange blockNamesSpec)) blockNamesCard

/-- THE TIED CARD OF 'turnstilelaw10.BlockShort'. -/
def blockShortCard : Claim7 := { stood := { row := blockShortRow, standIns := [], harness := (true, "8d8be44e30d8865ddee85eab7a9727286ac8157b8ff006f8713e6d9ab83a587b"), looks := false }, kinds := [], alts := [], laidByText := true, laidKinds := [.data, .data], laidTests := true, laidLooks := .later }
def BlockShortCardSaid : Prop := Claim7.holds Tryz.pinned (.plain (OpenSpec.ofChange blockShortSpec)) blockShortCard

/-- THE SECOND FORM's CARD OF 'turnstilelaw10.BlockBack'. -/
def blockBackUptoCard : Claim7 := { stood := { row := blockBackUptoRow, standIns := [], harness := (true, "8d8be44e30d8865ddee85eab7a9727286ac8157b8ff006f8713e6d9ab83a587b"), looks := false }, kinds := [], alts := [], laidByText := true, laidKinds := [.data, .data], laidTests := true, laidLooks := .later }
def BlockBackUptoCardSaid : Prop := Claim7.holds Tryz.pinned (.plain (OpenSpec.upto blockBackSpec)) blockBackUptoCard

/-- THE SECOND FORM's CARD OF 'turnstilelaw10.BlockNames'. -/
def blockNamesUptoCard : Claim7 := { stood := { row := blockNamesUptoRow, standIns := [], harness := (true, "8d8be44e30d8865ddee85eab7a9727286ac8157b8ff006f8713e6d9ab83a587b"), looks := false }, kinds := [], alts := [], laidByText := true, laidKinds := [.data, .data], laidTests := true, laidLooks := .later }
def BlockNamesUptoCardSaid : Prop := Claim7.holds Tryz.pinned (.plain (OpenSpec.upto blockNamesSpec)) blockNamesUptoCard

/-- THE SECOND FORM's CARD OF 'turnstilelaw10.BlockShort'. -/
def blockShortUptoCard : Claim7 := { stood := { row := blockShortUptoRow, standIns := [], harness := (true, "8d8be44e30d8865ddee85eab7a9727286ac8157b8ff006f8713e6d9ab83a587b"), looks := false }, kinds := [], alts := [], laidByText := true, laidKinds := [.data, .data], laidTests := true, laidLooks := .later }
def BlockShortUptoCardSaid : Prop := Claim7.holds Tryz.pinned (.plain (OpenSpec.upto blockShortSpec)) blockShortUptoCard
end Rows
end Go.Proofs.YtbdbojkfhnclhaaGreatDoor
