/- Contract of the reference's Pair, layer 3: whole. -/
import Derived.Test.YtmpakhcanejamaaG24MacCovers

namespace Go.Proofs.Ytmpakhcanejamaa
open Go.RowKit
set_option linter.unusedVariables false
end Go.Proofs.Ytmpakhcanejamaa
