/- Texts. -/
import Derived.JoinedOf
import Derived.Test.YtpaiholildedcaaGreatVNewViewer1
set_option linter.unusedSimpArgs false
set_option linter.unusedVariables false
set_option maxRecDepth 100000
set_option maxHeartbeats 32000000
namespace Go.Proofs.YtpaiholildedcaaGreat
open Go.RowKit
end Go.Proofs.YtpaiholildedcaaGreat
namespace Go.Proofs.YtpaiholildedcaaGreat.fnExactNewViewer
open Go.RowKit
theorem closed:joinedFacts Tryz.prog 3 Tryz.f3 Rows.fnExactNewViewerSpec Rows.fnExactNewViewerRow=true:=by kernel_rfl
end Go.Proofs.YtpaiholildedcaaGreat.fnExactNewViewer
namespace Go.Proofs.YtpaiholildedcaaGreat
open Go.RowKit
end Go.Proofs.YtpaiholildedcaaGreat
