/- contract of text.Runes -/
import Derived.Test.YteloiibejkflhaaQTxV
namespace Go.Proofs.Yteloiibejkflhaa
open Go.RowKit
set_option linter.unusedVariables false
set_option maxRecDepth 20000
end Go.Proofs.Yteloiibejkflhaa
