/- Answers in rows are of their own. -/
import Derived.Test.YtfcbbfhfjojoeaaWq9
import Derived.Deep.DeepCutAuto
namespace Go.Proofs.Ytfcbbfhfjojoeaa
open Go.RowKit
set_option linter.unusedSimpArgs false
set_option linter.unusedVariables false
set_option maxRecDepth 100000

theorem RowS.ans {base : Nat} {w : World} {v1 v2 : Value} {s l : List Req} (h1 : RowS base w v1 s) (h2 : RowW base w v2 l) : OwA base s.length (rfsOf s) l.length (nw l) w v1 v2 :=
  ⟨h1.own, h2.own, fun p c p' c' e1 e2 => rows_apart h1 h2 (by decide) p _ c p' _ c' e1 e2⟩
end Go.Proofs.Ytfcbbfhfjojoeaa
