/- IsNear of the model: what it answers at every argument. -/
import Derived.Test.YtdmlgfifiicmpabNear
namespace Go.Proofs.Ytdmlgfifiicmpab
open Go.RowKit
set_option linter.unusedSimpArgs false
set_option linter.unusedVariables false

/-- Whether p is near the segment. -/
def isNearB (px py ax ay bx by' r : Int) : Bool := okP px py && (okP ax ay && (okP bx by' && (inB r 0 4096 && nearB px py ax ay bx by' r)))

end Go.Proofs.Ytdmlgfifiicmpab
