/- Texts. -/
import Derived.Test.YtpaiholildedcaaGreatVLabelsIn14
import Derived.Laws.AppendOwnNone
set_option linter.unusedSimpArgs false
set_option linter.unusedVariables false
set_option maxRecDepth 100000
set_option maxHeartbeats 32000000
namespace Go.Proofs.YtpaiholildedcaaGreat
open Go.RowKit








theorem zC3 {G G':Nat→Bool}:∀ n,(∀ j,j<n→G j=G' j)→yK G n=yK G' n
 | 0,_=>rfl
 | n+1,h=>by rw [yK,yK,zC3 n (fun j hj=>h j (by omega)),h n (by omega)]
section
variable {n:Nat} {E:Nat→Req} {z x y now:Int}
end
section
variable {n:Nat} {E:Nat→Req} {z x y now:Int}
end
end Go.Proofs.YtpaiholildedcaaGreat
