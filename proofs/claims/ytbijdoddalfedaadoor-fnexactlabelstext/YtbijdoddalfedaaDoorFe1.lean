/- kinds. -/
import Derived.Test.YtbijdoddalfedaaDoorFe0
import Derived.LoopN
namespace Go.Proofs.YtbijdoddalfedaaDoor
open Go.RowKit
set_option linter.unusedSimpArgs false
set_option linter.unusedVariables false
set_option maxRecDepth 100000
abbrev wordP : ByteArray := ⟨#[112, 111, 105, 110, 116]⟩
abbrev wordL : ByteArray := ⟨#[108, 105, 110, 101]⟩
abbrev wordA : ByteArray := ⟨#[97, 114, 101, 97]⟩
end Go.Proofs.YtbijdoddalfedaaDoor
