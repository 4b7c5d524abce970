/- Contracts of the document's own answers for layer 1. No condition beyond what each names. -/
import Derived.Deep.RegionHeld3
import Derived.Test.YtcemdajkddidnaaGreatDoorQGet
namespace Go.Proofs.YtcemdajkddidnaaGreatDoor
open Go.RowKit
set_option linter.unusedVariables false

end Go.Proofs.YtcemdajkddidnaaGreatDoor
