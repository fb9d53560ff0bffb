/-
  The model's place of a milling.
-/
import Derived.Test.YtjhldjojkaphkaaPlcK
namespace Go.Proofs.Ytjhldjojkaphkaa
open Go.ChangeShapes Go.WideShapes Go.ChangeAt Go.RowKit
set_option linter.unusedVariables false
set_option linter.unusedSimpArgs false

end Go.Proofs.Ytjhldjojkaphkaa
