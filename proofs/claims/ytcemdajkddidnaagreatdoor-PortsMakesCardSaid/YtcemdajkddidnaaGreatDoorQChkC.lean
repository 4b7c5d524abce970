/- What is asked of the functions of layer 2, and the document's example over it. No condition beyond what each names. -/
import Derived.Test.YtcemdajkddidnaaGreatDoorQChkR
namespace Go.Proofs.YtcemdajkddidnaaGreatDoor
open Go.RowKit
set_option linter.unusedVariables false

end Go.Proofs.YtcemdajkddidnaaGreatDoor
