/- One byte as a text. -/
import Derived.Test.YtbijdoddalfedaaRows
import Derived.Test.YtbijdoddalfedaaPlain
import Derived.WalkSpells
import Derived.WalkLawsBesides
import Derived.Outline
import Derived.Laws.IdiomStrings
namespace Go.Proofs.Ytbijdoddalfedaa
open Go.RowKit
set_option linter.unusedSimpArgs false
set_option linter.unusedVariables false
set_option maxRecDepth 100000

def oneB (m : Nat) : ByteArray := ⟨#[UInt8.ofNat m]⟩
theorem oneB_size (m : Nat) : (oneB m).size = 1 := rfl
theorem conv_one {W : World} {b : Nat} {m : Nat} (hm : m < 256) (hc : W.cell? ⟨b, 0, none⟩ = some (.int .u8 (m : Int))) :
    (convert 40 9 (.slice (some ⟨b, 0, none⟩) 1 1)).run Try.prog W = .ok (.string ⟨#[UInt8.ofNat m]⟩) W := by
  have h := run_convert_bytes_back (P := Try.prog) W 40 9 5 ⟨b, 0, none⟩ 1 [UInt8.ofNat m] Try.underlying40 Try.underlying5 Try.underlying9
  refine h (fun j hj => ?_)
  have hj0 : j = 0 := by simpa using hj
  subst hj0
  have e : (UInt8.ofNat m).toNat = m := by rw [UInt8.toNat_ofNat']; omega
  simp only [Addr.add, Nat.zero_add, List.getElem_cons_zero, e]
  exact hc
end Go.Proofs.Ytbijdoddalfedaa
