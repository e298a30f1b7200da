/-
  DERIVED. GIVEN WITH THE SEED: THE CARDS: each row of YtnghhagiokiaoaaDoorRows.lean that lists a variable, with what it lists TIED to the program's text (the seventh form; the later family's looks); each row that meets fmt, with fmt's text TOLD by the authors' own Lean function (tested against real Go, not proved from fmt's source: count such statements apart). THE CARD IS WHAT COUNTS. Prove the row's statement (the work); the ties are given (YtnghhagiokiaoaaDoorTie.lean); close each card by the builder's one call (the guide's Derived/Test/ToyasCard.lean, 'card_holds'). Laid BY PROGRAM, IN A SANDBOX (cutbox-door.mjs). By AI agents, Wed Nov 11 2026. No macro, syntax, notation, axiom, sorry.
-/
import Derived.Test.YtnghhagiokiaoaaDoorRows
import GoSem.ClaimSeven
namespace Go.Proofs.YtnghhagiokiaoaaDoor
namespace Rows

/-- THE TIED CARD OF 'turnstilelaw07.MerkleTrees'. -/
def merkleTreesCard : Claim7 := { stood := { row := merkleTreesRow, standIns := [], harness := (true, "1641dc3770e10695a36a2dc6cb2203775959339365ee23d9d0a00303977142a9"), looks := false }, kinds := [], alts := [], laidByText := true, laidKinds := [.data, .data], laidTests := true, laidLooks := .later }
def MerkleTreesCardSaid : Prop := Claim7.holds Tryd.pinned (.plain (OpenSpec.ofChange merkleTreesSpec)) merkleTreesCard

/-- THE TIED CARD OF 'turnstilelaw07.MerkleSigns'. -/
def merkleSignsCard : Claim7 := { stood := { row := merkleSignsRow, standIns := [], harness := (true, "1641dc3770e10695a36a2dc6cb2203775959339365ee23d9d0a00303977142a9"), looks := false }, kinds := [], alts := [], laidByText := true, laidKinds := [.data, .data], laidTests := true, laidLooks := .later }
def MerkleSignsCardSaid : Prop := Claim7.holds Tryd.pinned (.plain (OpenSpec.ofChange merkleSignsSpec)) merkleSignsCard

/-- THE TIED CARD OF 'turnstilelaw07.MerkleVerifies'. -/
def merkleVerifiesCard : Claim7 := { stood := { row := merkleVerifiesRow, standIns := [], harness := (true, "1641dc3770e10695a36a2dc6cb2203775959339365ee23d9d0a00303977142a9"), looks := false }, kinds := [], alts := [], laidByText := true, laidKinds := [.data, .data], laidTests := true, laidLooks := .later }
def MerkleVerifiesCardSaid : Prop := Claim7.holds Tryd.pinned (.plain (OpenSpec.ofChange merkleVerifiesSpec)) merkleVerifiesCard

/-- THE TIED CARD OF 'turnstilelaw07.MerklePaths'. -/
def merklePathsCard : Claim7 := { stood := { row := merklePathsRow, standIns := [], harness := (true, "1641dc3770e10695a36a2dc6cb2203775959339365ee23d9d0a00303977142a9"), looks := false }, kinds := [], alts := [], laidByText := true, laidKinds := [.data, .data], laidTests := true, laidLooks := .later }
def MerklePathsCardSaid : Prop := Claim7.holds Tryd.pinned (.plain (OpenSpec.ofChange merklePathsSpec)) merklePathsCard

/-- THE TIED CARD OF 'turnstilelaw07.MerkleOnce'. -/
def merkleOnceCard : Claim7 := { stood := { row := merkleOnceRow, standIns := [], harness := (true, "1641dc3770e10695a36a2dc6cb2203775959339365ee23d9d0a00303977142a9"), looks := false }, kinds := [], alts := [], laidByText := true, laidKinds := [.data, .data], laidTests := true, laidLooks := .later }
def MerkleOnceCardSaid : Prop := Claim7.holds Tryd.pinned (.plain (OpenSpec.ofChange merkleOnceSpec)) merkleOnceCard

/-- THE TIED CARD OF 'turnstilelaw07.MerkleSame'. -/
def merkleSameCard : Claim7 := { stood := { row := merkleSameRow, standIns := [], harness := (true, "1641dc3770e10695a36a2dc6cb2203775959339365ee23d9d0a00303977142a9"), looks := false }, kinds := [], alts := [], laidByText := true, laidKinds := [.data, .data], laidTests := true, laidLooks := .later }
def MerkleSameCardSaid : Prop := Claim7.holds Tryd.pinned (.plain (OpenSpec.ofChange merkleSameSpec)) merkleSameCard

/-- THE SECOND FORM's CARD OF 'turnstilelaw07.MerkleTrees'. -/
def merkleTreesUptoCard : Claim7 := { stood := { row := merkleTreesUptoRow, standIns := [], harness := (true, "1641dc3770e10695a36a2dc6cb2203775959339365ee23d9d0a00303977142a9"), looks := false }, kinds := [], alts := [], laidByText := true, laidKinds := [.data, .data], laidTests := true, laidLooks := .later }
def MerkleTreesUptoCardSaid : Prop := Claim7.holds Tryd.pinned (.plain (OpenSpec.upto merkleTreesSpec)) merkleTreesUptoCard

/-- THE SECOND FORM's CARD OF 'turnstilelaw07.MerkleSigns'. -/
def merkleSignsUptoCard : Claim7 := { stood := { row := merkleSignsUptoRow, standIns := [], harness := (true, "1641dc3770e10695a36a2dc6cb2203775959339365ee23d9d0a00303977142a9"), looks := false }, kinds := [], alts := [], laidByText := true, laidKinds := [.data, .data], laidTests := true, laidLooks := .later }
def MerkleSignsUptoCardSaid : Prop := Claim7.holds Tryd.pinned (.plain (OpenSpec.upto merkleSignsSpec)) merkleSignsUptoCard

/-- THE SECOND FORM's CARD OF 'turnstilelaw07.MerkleVerifies'. -/
def merkleVerifiesUptoCard : Claim7 := { stood := { row := merkleVerifiesUptoRow, standIns := [], harness := (true, "1641dc3770e10695a36a2dc6cb2203775959339365ee23d9d0a00303977142a9"), looks := false }, kinds := [], alts := [], laidByText := true, laidKinds := [.data, .data], laidTests := true, laidLooks := .later }
def MerkleVerifiesUptoCardSaid : Prop := Claim7.holds Tryd.pinned (.plain (OpenSpec.upto merkleVerifiesSpec)) merkleVerifiesUptoCard

/-- THE SECOND FORM's CARD OF 'turnstilelaw07.MerklePaths'. -/
def merklePathsUptoCard : Claim7 := { stood := { row := merklePathsUptoRow, standIns := [], harness := (true, "1641dc3770e10695a36a2dc6cb2203775959339365ee23d9d0a00303977142a9"), looks := false }, kinds := [], alts := [], laidByText := true, laidKinds := [.data, .data], laidTests := true, laidLooks := .later }
def MerklePathsUptoCardSaid : Prop := Claim7.holds Tryd.pinned (.plain (OpenSpec.upto merklePathsSpec)) merklePathsUptoCard

/-- THE SECOND FORM's CARD OF 'turnstilelaw07.MerkleOnce'. -/
def merkleOnceUptoCard : Claim7 := { stood := { row := merkleOnceUptoRow, standIns := [], harness := (true, "1641dc3770e10695a36a2dc6cb2203775959339365ee23d9d0a00303977142a9"), looks := false }, kinds := [], alts := [], laidByText := true, laidKinds := [.data, .data], laidTests := true, laidLooks := .later }
def MerkleOnceUptoCardSaid : Prop := Claim7.holds Tryd.pinned (.plain (OpenSpec.upto merkleOnceSpec)) merkleOnceUptoCard

/-- THE SECOND FORM's CARD OF 'turnstilelaw07.MerkleSame'. -/
def merkleSameUptoCard : Claim7 := { stood := { row := merkleSameUptoRow, standIns := [], harness := (true, "1641dc3770e10695a36a2dc6cb2203775959339365ee23d9d0a00303977142a9"), looks := false }, kinds := [], alts := [], laidByText := true, laidKinds := [.data, .data], laidTests := true, laidLooks := .later }
def MerkleSameUptoCardSaid : Prop := Claim7.holds Tryd.pinned (.plain (OpenSpec.upto merkleSameSpec)) merkleSameUptoCard
end Rows
end Go.Proofs.YtnghhagiokiaoaaDoor
