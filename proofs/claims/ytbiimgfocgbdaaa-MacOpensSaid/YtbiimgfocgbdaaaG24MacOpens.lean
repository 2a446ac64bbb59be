/- Contract of the reference's Pair, layer 3: whole. -/
import Derived.Test.YtbiimgfocgbdaaaG23MacOpens

namespace Go.Proofs.Ytbiimgfocgbdaaa
open Go.RowKit
set_option linter.unusedVariables false
end Go.Proofs.Ytbiimgfocgbdaaa
