/-
  DERIVED. GIVEN WITH THE SEED: THE CARDS: each row of YtnjkikdcalfjgaaDoorRows.lean that lists a variable, with what it lists TIED to the program's text (the seventh form; the later family's looks); each row that meets fmt, with fmt's text TOLD by the authors' own Lean function (tested against real Go, not proved from fmt's source: count such statements apart). THE CARD IS WHAT COUNTS. Prove the row's statement (the work); the ties are given (YtnjkikdcalfjgaaDoorTie.lean); close each card by the builder's one call (the guide's Derived/Test/ToyasCard.lean, 'card_holds'). Laid BY PROGRAM, IN A SANDBOX (cutbox-door.mjs). By AI agents, Wed Nov 11 2026. No macro, syntax, notation, axiom, sorry.
-/
import Derived.Test.YtnjkikdcalfjgaaDoorRows
import GoSem.ClaimSeven
namespace Go.Proofs.YtnjkikdcalfjgaaDoor
namespace Rows

/-- THE TIED CARD OF 'turnstilelaw04.PaywordChains'. -/
def paywordChainsCard : Claim7 := { stood := { row := paywordChainsRow, standIns := [], harness := (true, "2e78df9c528ec50581c08a8f4f947f52c98f57b7a381092ead4e202195fe315e"), looks := false }, kinds := [], alts := [], laidByText := true, laidKinds := [.data, .data], laidTests := true, laidLooks := .later }
def PaywordChainsCardSaid : Prop := Claim7.holds Tryd.pinned (.plain (OpenSpec.ofChange paywordChainsSpec)) paywordChainsCard

/-- THE TIED CARD OF 'turnstilelaw04.PaywordCounts'. -/
def paywordCountsCard : Claim7 := { stood := { row := paywordCountsRow, standIns := [], harness := (true, "2e78df9c528ec50581c08a8f4f947f52c98f57b7a381092ead4e202195fe315e"), looks := false }, kinds := [], alts := [], laidByText := true, laidKinds := [.data, .data], laidTests := true, laidLooks := .later }
def PaywordCountsCardSaid : Prop := Claim7.holds Tryd.pinned (.plain (OpenSpec.ofChange paywordCountsSpec)) paywordCountsCard

/-- THE TIED CARD OF 'turnstilelaw04.PaywordLeads'. -/
def paywordLeadsCard : Claim7 := { stood := { row := paywordLeadsRow, standIns := [], harness := (true, "2e78df9c528ec50581c08a8f4f947f52c98f57b7a381092ead4e202195fe315e"), looks := false }, kinds := [], alts := [], laidByText := true, laidKinds := [.data, .data], laidTests := true, laidLooks := .later }
def PaywordLeadsCardSaid : Prop := Claim7.holds Tryd.pinned (.plain (OpenSpec.ofChange paywordLeadsSpec)) paywordLeadsCard

/-- THE TIED CARD OF 'turnstilelaw04.PaywordFar'. -/
def paywordFarCard : Claim7 := { stood := { row := paywordFarRow, standIns := [], harness := (true, "2e78df9c528ec50581c08a8f4f947f52c98f57b7a381092ead4e202195fe315e"), looks := false }, kinds := [], alts := [], laidByText := true, laidKinds := [.data, .data], laidTests := true, laidLooks := .later }
def PaywordFarCardSaid : Prop := Claim7.holds Tryd.pinned (.plain (OpenSpec.ofChange paywordFarSpec)) paywordFarCard

/-- THE TIED CARD OF 'turnstilelaw04.PaywordValues'. -/
def paywordValuesCard : Claim7 := { stood := { row := paywordValuesRow, standIns := [], harness := (true, "2e78df9c528ec50581c08a8f4f947f52c98f57b7a381092ead4e202195fe315e"), looks := false }, kinds := [], alts := [], laidByText := true, laidKinds := [.data, .data], laidTests := true, laidLooks := .later }
def PaywordValuesCardSaid : Prop := Claim7.holds Tryd.pinned (.plain (OpenSpec.ofChange paywordValuesSpec)) paywordValuesCard

/-- THE SECOND FORM's CARD OF 'turnstilelaw04.PaywordChains'. -/
def paywordChainsUptoCard : Claim7 := { stood := { row := paywordChainsUptoRow, standIns := [], harness := (true, "2e78df9c528ec50581c08a8f4f947f52c98f57b7a381092ead4e202195fe315e"), looks := false }, kinds := [], alts := [], laidByText := true, laidKinds := [.data, .data], laidTests := true, laidLooks := .later }
def PaywordChainsUptoCardSaid : Prop := Claim7.holds Tryd.pinned (.plain (OpenSpec.upto paywordChainsSpec)) paywordChainsUptoCard

/-- THE SECOND FORM's CARD OF 'turnstilelaw04.PaywordCounts'. -/
def paywordCountsUptoCard : Claim7 := { stood := { row := paywordCountsUptoRow, standIns := [], harness := (true, "2e78df9c528ec50581c08a8f4f947f52c98f57b7a381092ead4e202195fe315e"), looks := false }, kinds := [], alts := [], laidByText := true, laidKinds := [.data, .data], laidTests := true, laidLooks := .later }
def PaywordCountsUptoCardSaid : Prop := Claim7.holds Tryd.pinned (.plain (OpenSpec.upto paywordCountsSpec)) paywordCountsUptoCard

/-- THE SECOND FORM's CARD OF 'turnstilelaw04.PaywordLeads'. -/
def paywordLeadsUptoCard : Claim7 := { stood := { row := paywordLeadsUptoRow, standIns := [], harness := (true, "2e78df9c528ec50581c08a8f4f947f52c98f57b7a381092ead4e202195fe315e"), looks := false }, kinds := [], alts := [], laidByText := true, laidKinds := [.data, .data], laidTests := true, laidLooks := .later }
def PaywordLeadsUptoCardSaid : Prop := Claim7.holds Tryd.pinned (.plain (OpenSpec.upto paywordLeadsSpec)) paywordLeadsUptoCard

/-- THE SECOND FORM's CARD OF 'turnstilelaw04.PaywordFar'. -/
def paywordFarUptoCard : Claim7 := { stood := { row := paywordFarUptoRow, standIns := [], harness := (true, "2e78df9c528ec50581c08a8f4f947f52c98f57b7a381092ead4e202195fe315e"), looks := false }, kinds := [], alts := [], laidByText := true, laidKinds := [.data, .data], laidTests := true, laidLooks := .later }
def PaywordFarUptoCardSaid : Prop := Claim7.holds Tryd.pinned (.plain (OpenSpec.upto paywordFarSpec)) paywordFarUptoCard

/-- THE SECOND FORM's CARD OF 'turnstilelaw04.PaywordValues'. -/
def paywordValuesUptoCard : Claim7 := { stood := { row := paywordValuesUptoRow, standIns := [], harness := (true, "2e78df9c528ec50581c08a8f4f947f52c98f57b7a381092ead4e202195fe315e"), looks := false }, kinds := [], alts := [], laidByText := true, laidKinds := [.data, .data], laidTests := true, laidLooks := .later }
def PaywordValuesUptoCardSaid : Prop := Claim7.holds Tryd.pinned (.plain (OpenSpec.upto paywordValuesSpec)) paywordValuesUptoCard
end Rows
end Go.Proofs.YtnjkikdcalfjgaaDoor
