/-
  DERIVED. GIVEN WITH THE SEED: THE CARDS: each row of YtmjbglhpghpaeaaDoorRows.lean that lists a variable, with what it lists TIED to the program's text (the seventh form; the later family's looks); each row that meets fmt, with fmt's text TOLD by the authors' own Lean function (tested against real Go, not proved from fmt's source: count such statements apart). THE CARD IS WHAT COUNTS. Prove the row's statement (the work); the ties are given (YtmjbglhpghpaeaaDoorTie.lean); close each card by the builder's one call (the guide's Derived/Test/ToyasCard.lean, 'card_holds'). Laid BY PROGRAM, IN A SANDBOX (cutbox-door.mjs). By AI agents, Wed Nov 11 2026. No macro, syntax, notation, axiom, sorry.
-/
import Derived.Test.YtmjbglhpghpaeaaDoorRows
import GoSem.ClaimSeven
namespace Go.Proofs.YtmjbglhpghpaeaaDoor
namespace Rows

/-- THE TIED CARD OF 'turnstilelaw06.WotsSigns'. -/
def wotsSignsCard : Claim7 := { stood := { row := wotsSignsRow, standIns := [], harness := (true, "2648f67b38a7152a2ad2b86c85c069b620d594f064e3f22f5a6264f3c71e245d"), looks := false }, kinds := [], alts := [], laidByText := true, laidKinds := [.data, .data], laidTests := true, laidLooks := .later }
def WotsSignsCardSaid : Prop := Claim7.holds Tryd.pinned (.plain (OpenSpec.ofChange wotsSignsSpec)) wotsSignsCard

/-- THE TIED CARD OF 'turnstilelaw06.WotsFrom'. -/
def wotsFromCard : Claim7 := { stood := { row := wotsFromRow, standIns := [], harness := (true, "2648f67b38a7152a2ad2b86c85c069b620d594f064e3f22f5a6264f3c71e245d"), looks := false }, kinds := [], alts := [], laidByText := true, laidKinds := [.data, .data], laidTests := true, laidLooks := .later }
def WotsFromCardSaid : Prop := Claim7.holds Tryd.pinned (.plain (OpenSpec.ofChange wotsFromSpec)) wotsFromCard

/-- THE TIED CARD OF 'turnstilelaw06.WotsSteps'. -/
def wotsStepsCard : Claim7 := { stood := { row := wotsStepsRow, standIns := [], harness := (true, "2648f67b38a7152a2ad2b86c85c069b620d594f064e3f22f5a6264f3c71e245d"), looks := false }, kinds := [], alts := [], laidByText := true, laidKinds := [.data, .data], laidTests := true, laidLooks := .later }
def WotsStepsCardSaid : Prop := Claim7.holds Tryd.pinned (.plain (OpenSpec.ofChange wotsStepsSpec)) wotsStepsCard

/-- THE TIED CARD OF 'turnstilelaw06.WotsBack'. -/
def wotsBackCard : Claim7 := { stood := { row := wotsBackRow, standIns := [], harness := (true, "2648f67b38a7152a2ad2b86c85c069b620d594f064e3f22f5a6264f3c71e245d"), looks := false }, kinds := [], alts := [], laidByText := true, laidKinds := [.data, .data], laidTests := true, laidLooks := .later }
def WotsBackCardSaid : Prop := Claim7.holds Tryd.pinned (.plain (OpenSpec.ofChange wotsBackSpec)) wotsBackCard

/-- THE TIED CARD OF 'turnstilelaw06.WotsLess'. -/
def wotsLessCard : Claim7 := { stood := { row := wotsLessRow, standIns := [], harness := (true, "2648f67b38a7152a2ad2b86c85c069b620d594f064e3f22f5a6264f3c71e245d"), looks := false }, kinds := [], alts := [], laidByText := true, laidKinds := [.data, .data], laidTests := true, laidLooks := .later }
def WotsLessCardSaid : Prop := Claim7.holds Tryd.pinned (.plain (OpenSpec.ofChange wotsLessSpec)) wotsLessCard

/-- THE TIED CARD OF 'turnstilelaw06.WotsChains'. -/
def wotsChainsCard : Claim7 := { stood := { row := wotsChainsRow, standIns := [], harness := (true, "2648f67b38a7152a2ad2b86c85c069b620d594f064e3f22f5a6264f3c71e245d"), looks := false }, kinds := [], alts := [], laidByText := true, laidKinds := [.data, .data], laidTests := true, laidLooks := .later }
def WotsChainsCardSaid : Prop := Claim7.holds Tryd.pinned (.plain (OpenSpec.ofChange wotsChainsSpec)) wotsChainsCard

/-- THE SECOND FORM's CARD OF 'turnstilelaw06.WotsSigns'. -/
def wotsSignsUptoCard : Claim7 := { stood := { row := wotsSignsUptoRow, standIns := [], harness := (true, "2648f67b38a7152a2ad2b86c85c069b620d594f064e3f22f5a6264f3c71e245d"), looks := false }, kinds := [], alts := [], laidByText := true, laidKinds := [.data, .data], laidTests := true, laidLooks := .later }
def WotsSignsUptoCardSaid : Prop := Claim7.holds Tryd.pinned (.plain (OpenSpec.upto wotsSignsSpec)) wotsSignsUptoCard

/-- THE SECOND FORM's CARD OF 'turnstilelaw06.WotsFrom'. -/
def wotsFromUptoCard : Claim7 := { stood := { row := wotsFromUptoRow, standIns := [], harness := (true, "2648f67b38a7152a2ad2b86c85c069b620d594f064e3f22f5a6264f3c71e245d"), looks := false }, kinds := [], alts := [], laidByText := true, laidKinds := [.data, .data], laidTests := true, laidLooks := .later }
def WotsFromUptoCardSaid : Prop := Claim7.holds Tryd.pinned (.plain (OpenSpec.upto wotsFromSpec)) wotsFromUptoCard

/-- THE SECOND FORM's CARD OF 'turnstilelaw06.WotsSteps'. -/
def wotsStepsUptoCard : Claim7 := { stood := { row := wotsStepsUptoRow, standIns := [], harness := (true, "2648f67b38a7152a2ad2b86c85c069b620d594f064e3f22f5a6264f3c71e245d"), looks := false }, kinds := [], alts := [], laidByText := true, laidKinds := [.data, .data], laidTests := true, laidLooks := .later }
def WotsStepsUptoCardSaid : Prop := Claim7.holds Tryd.pinned (.plain (OpenSpec.upto wotsStepsSpec)) wotsStepsUptoCard

/-- THE SECOND FORM's CARD OF 'turnstilelaw06.WotsBack'. -/
def wotsBackUptoCard : Claim7 := { stood := { row := wotsBackUptoRow, standIns := [], harness := (true, "2648f67b38a7152a2ad2b86c85c069b620d594f064e3f22f5a6264f3c71e245d"), looks := false }, kinds := [], alts := [], laidByText := true, laidKinds := [.data, .data], laidTests := true, laidLooks := .later }
def WotsBackUptoCardSaid : Prop := Claim7.holds Tryd.pinned (.plain (OpenSpec.upto wotsBackSpec)) wotsBackUptoCard

/-- THE SECOND FORM's CARD OF 'turnstilelaw06.WotsLess'. -/
def wotsLessUptoCard : Claim7 := { stood := { row := wotsLessUptoRow, standIns := [], harness := (true, "2648f67b38a7152a2ad2b86c85c069b620d594f064e3f22f5a6264f3c71e245d"), looks := false }, kinds := [], alts := [], laidByText := true, laidKinds := [.data, .data], laidTests := true, laidLooks := .later }
def WotsLessUptoCardSaid : Prop := Claim7.holds Tryd.pinned (.plain (OpenSpec.upto wotsLessSpec)) wotsLessUptoCard

/-- THE SECOND FORM's CARD OF 'turnstilelaw06.WotsChains'. -/
def wotsChainsUptoCard : Claim7 := { stood := { row := wotsChainsUptoRow, standIns := [], harness := (true, "2648f67b38a7152a2ad2b86c85c069b620d594f064e3f22f5a6264f3c71e245d"), looks := false }, kinds := [], alts := [], laidByText := true, laidKinds := [.data, .data], laidTests := true, laidLooks := .later }
def WotsChainsUptoCardSaid : Prop := Claim7.holds Tryd.pinned (.plain (OpenSpec.upto wotsChainsSpec)) wotsChainsUptoCard
end Rows
end Go.Proofs.YtmjbglhpghpaeaaDoor
