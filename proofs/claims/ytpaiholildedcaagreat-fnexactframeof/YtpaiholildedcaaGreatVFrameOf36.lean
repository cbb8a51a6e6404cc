/- Texts. -/
import Derived.JoinedOf
import Derived.Test.YtpaiholildedcaaGreatVFrameOf1
set_option linter.unusedSimpArgs false
set_option linter.unusedVariables false
set_option maxRecDepth 100000
set_option maxHeartbeats 32000000
namespace Go.Proofs.YtpaiholildedcaaGreat
open Go.RowKit
end Go.Proofs.YtpaiholildedcaaGreat
namespace Go.Proofs.YtpaiholildedcaaGreat.fnExactFrameOf
open Go.RowKit
theorem closed:joinedFacts Tryz.prog 4 Tryz.f4 Rows.fnExactFrameOfSpec Rows.fnExactFrameOfRow=true:=by kernel_rfl
end Go.Proofs.YtpaiholildedcaaGreat.fnExactFrameOf
namespace Go.Proofs.YtpaiholildedcaaGreat
open Go.RowKit
end Go.Proofs.YtpaiholildedcaaGreat
