import Derived.Test.YtobfgljkckcmcaaGreatDoorYJDec3
import Derived.Test.YtobfgljkckcmcaaGreatDoorYHCoiB
set_option maxRecDepth 100000
namespace Go.Proofs.YtobfgljkckcmcaaGreatDoor.Coi
open Go.RowKit
open Mem Num Cod
set_option linter.unusedVariables false
set_option linter.unusedSimpArgs false
end Go.Proofs.YtobfgljkckcmcaaGreatDoor.Coi
