/- What is asked of the functions of layer 2, and the document's example over it. No condition beyond what each names. -/
import Derived.Test.YteoleblnhcnpkaaChkR
namespace Go.Proofs.Yteoleblnhcnpkaa
open Go.RowKit
set_option linter.unusedVariables false

end Go.Proofs.Yteoleblnhcnpkaa
