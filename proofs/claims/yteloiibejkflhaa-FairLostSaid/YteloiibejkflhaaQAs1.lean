/- contract of text.Asked -/
import Derived.Test.YteloiibejkflhaaQTx1
namespace Go.Proofs.Yteloiibejkflhaa
open Go.RowKit
set_option linter.unusedVariables false
set_option maxRecDepth 20000
end Go.Proofs.Yteloiibejkflhaa
