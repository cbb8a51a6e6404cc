/- Texts. -/
import Derived.JoinedOf
import Derived.Test.YtpaiholildedcaaGreatVLabelsIn1
set_option linter.unusedSimpArgs false
set_option linter.unusedVariables false
set_option maxRecDepth 100000
set_option maxHeartbeats 32000000
namespace Go.Proofs.YtpaiholildedcaaGreat
open Go.RowKit
end Go.Proofs.YtpaiholildedcaaGreat
namespace Go.Proofs.YtpaiholildedcaaGreat.fnExactLabelsIn
open Go.RowKit
theorem closed:joinedFacts Tryz.prog 5 Tryz.f5 Rows.fnExactLabelsInSpec Rows.fnExactLabelsInRow=true:=by kernel_rfl
end Go.Proofs.YtpaiholildedcaaGreat.fnExactLabelsIn
namespace Go.Proofs.YtpaiholildedcaaGreat
open Go.RowKit
end Go.Proofs.YtpaiholildedcaaGreat
