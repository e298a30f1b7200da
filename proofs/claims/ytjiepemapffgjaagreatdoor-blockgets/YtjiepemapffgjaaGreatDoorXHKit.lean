import Derived.Test.YtjiepemapffgjaaGreatDoorXHShaP
import Derived.Test.YtjiepemapffgjaaGreatDoorTie
import Derived.Test.YtjiepemapffgjaaGreatDoorCards
import Derived.LaidMore
import Derived.SevenTiedAt
import Derived.Stop.Joined
import Derived.Deep.Strs
import Derived.Laws.BitsAllLaws
import Derived.Laws.MathBits
import Derived.Laws.Bits64b
import Derived.Test.YtjiepemapffgjaaGreatDoorXHMem
set_option maxRecDepth 100000
namespace Go.Proofs.YtjiepemapffgjaaGreatDoor.Sh
open Go.RowKit Go.ChangeShapes Go.WideShapes
open Mem
set_option linter.unusedVariables false

def laid2 := Rows.coinPutsRow.laid
end Go.Proofs.YtjiepemapffgjaaGreatDoor.Sh

namespace Go.Proofs.YtjiepemapffgjaaGreatDoor.Sh
open Go.RowKit
open Mem
set_option linter.unusedVariables false

/-- A row of texts that came in. -/
def IsRowS (W : World) (a : Option Addr) (len cap : Nat) (S : Nat → ByteArray) : Prop :=
  (a = none ∧ len = 0 ∧ cap = 0) ∨ ∃ x, a = some x ∧ len ≤ cap ∧ cap ≤ maxLen ∧ ∀ i, i < len → W.cell? (x.add i) = some (.string (S i)) ∧ (S i).size ≤ maxLen
/-- What a sign tells. -/
def digS (c : Int) : Int := if 48 ≤ c ∧ c ≤ 57 then c - 48 else if 97 ≤ c ∧ c ≤ 102 then c - 87 else -1000
end Go.Proofs.YtjiepemapffgjaaGreatDoor.Sh

namespace Go.Proofs.YtjiepemapffgjaaGreatDoor.M

/-- num.product: the two words, as the walk spells them. -/
def pHi (a b : Int) : Int := a * b / 18446744073709551616
def pLo (a b : Int) : Int := a * b % 18446744073709551616

end Go.Proofs.YtjiepemapffgjaaGreatDoor.M

namespace Go.Proofs.YtjiepemapffgjaaGreatDoor.Num
open Go.RowKit
open Mem
set_option linter.unusedVariables false

def addV (a b : Int) : Int := if a + b ≤ 18446744073709551615 then a + b else 0
def addE (a b : Int) : Int := if a + b ≤ 18446744073709551615 then 0 else 2
def subV (a b : Int) : Int := if b ≤ a then a - b else 0
def subE (a b : Int) : Int := if b ≤ a then 0 else 2
def mulV (a b : Int) : Int := if a * b ≤ 18446744073709551615 then a * b else 0
def mulE (a b : Int) : Int := if a * b ≤ 18446744073709551615 then 0 else 2
def mdV (a b c : Int) : Int := if c = 0 then 0 else if a * b / c ≤ 18446744073709551615 then a * b / c else 0
def mdE (a b c : Int) : Int := if c = 0 then 1 else if a * b / c ≤ 18446744073709551615 then 0 else 2
def remV (a b c : Int) : Int := if c = 0 then 0 else a * b % c
def remE (a b c : Int) : Int := if c = 0 then 1 else 0
def intV (n : Int) : Int := if n ≤ 9223372036854775807 then n else 0
def intE (n : Int) : Int := if n ≤ 9223372036854775807 then 0 else 2
def ofV (n : Int) : Int := if 0 ≤ n then n else 0
def ofE (n : Int) : Int := if 0 ≤ n then 0 else 2

end Go.Proofs.YtjiepemapffgjaaGreatDoor.Num

