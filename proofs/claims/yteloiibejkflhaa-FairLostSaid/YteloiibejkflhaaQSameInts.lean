/- two slices of one kind of numbers held against each other -/
import Derived.Test.YteloiibejkflhaaChecked
import Derived.Test.YteloiibejkflhaaPkA
import Derived.WalkLawsBesides
import Derived.Outline
import Derived.Deep.QuietTactic
import Derived.BigQuiet
namespace Go.Proofs.Yteloiibejkflhaa
open Go.RowKit
set_option linter.unusedVariables false
set_option maxRecDepth 20000
end Go.Proofs.Yteloiibejkflhaa
