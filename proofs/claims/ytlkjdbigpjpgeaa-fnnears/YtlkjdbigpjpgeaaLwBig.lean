/- lwBig tells whether a code is too long. -/
import Derived.Test.YtlkjdbigpjpgeaaDraw4
import Derived.Test.YtlkjdbigpjpgeaaFCross
namespace Go.Proofs.Ytlkjdbigpjpgeaa
end Go.Proofs.Ytlkjdbigpjpgeaa
