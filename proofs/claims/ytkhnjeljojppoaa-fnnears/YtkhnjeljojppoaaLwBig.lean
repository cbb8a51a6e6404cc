/- lwBig tells whether a code is too long. -/
import Derived.Test.YtkhnjeljojppoaaDraw4
import Derived.Test.YtkhnjeljojppoaaFCross
namespace Go.Proofs.Ytkhnjeljojppoaa
end Go.Proofs.Ytkhnjeljojppoaa
