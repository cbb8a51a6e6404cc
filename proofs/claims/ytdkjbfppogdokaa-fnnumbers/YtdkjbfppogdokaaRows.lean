/-
  No cell of these rows narrows 'for every input' (looked for: loops, veiled, ifaces, maps, wideKeys, modest, calm, conditions, laid).
  DERIVED. THE GIVEN ROWS OF THIS SEAT. 6 by the template 'for every input the law returns true; each argument reads behind the call as it read before'; 0 by the template 'total and deterministic' (their statements: YtdkjbfppogdokaaTotals.lean).
  GIVEN WITH THE SEED: the statements are not yours to turn. If you find one false, say at which input.
  Laid BY PROGRAM, IN A SANDBOX (cutbox-rows.mjs): the forced cells as the released guide's own fill.sh prints them over the translation 0ef40cd32bb12499… (all of the seat's roots in one cut). By AI agents, Wed Nov 11 2026. No macro, syntax, notation, axiom, sorry.
-/
import Derived.Test.YtdkjbfppogdokaaChecked
import GoSem.Claim
import GoSem.ClaimJoined
import GoSem.ClaimMapViews
import Derived.JoinedTies
import Derived.KernelRfl
namespace Go.Proofs.Ytdkjbfppogdokaa
/- THE CELL 'sum', in the pinned program and in every row, IS THE sha256 OF THE DUMP (.gsa) THAT YtdkjbfppogdokaaProg.lean LOADS. Nothing in Lean hashes anything: it is a label: what it is worth is what the hold of that sum in a sandbox is worth. -/
noncomputable def Try.pinned : Pinned := { name := "ytdkjbfppogdokaa", sum := "0ef40cd32bb12499153cbb46cb351846275a13e364c24b5e6df890d92abed2f7", checked := Try.checked }
namespace Rows
def none {H : Type} : Left H := { results := [], args := [] }

/-- 'laws.FnNumbers': WHATEVER THE INPUT: true; the input reads as it did. -/
def fnNumbersSpec : ChangeSpec := { name := "fnNumbers", fn := fun _ => fun
  | [d] => { results := [.lit (.bool true)], args := [d] }
  | _ => none }
def fnNumbersRow : OpenClaim := { program := "ytdkjbfppogdokaa", sum := "0ef40cd32bb12499153cbb46cb351846275a13e364c24b5e6df890d92abed2f7", func := "loop.example/g00403/laws.FnNumbers", spec := "fnNumbers", unfollowed := true, recurses := true, apart := false }
def FnNumbersSaid : Prop := fnNumbersRow.holds Try.pinned (OpenSpec.ofChange fnNumbersSpec)

/-- ITS FALSE NEIGHBOUR: 'it returns false'. Refute it at one input. -/
def fnNumbersWrong : ChangeSpec := { name := "fnNumbers", fn := fun _ => fun
  | [d] => { results := [.lit (.bool false)], args := [d] }
  | _ => none }
def FnNumbersWrongFalsely : Prop := fnNumbersRow.holds Try.pinned (OpenSpec.ofChange fnNumbersWrong)

/-- 'laws.FnExactPutNumber': WHATEVER THE INPUT: true; the input reads as it did. -/
def fnExactPutNumberSpec : ChangeSpec := { name := "fnExactPutNumber", fn := fun _ => fun
  | [d] => { results := [.lit (.bool true)], args := [d] }
  | _ => none }
def fnExactPutNumberRow : OpenClaim := { program := "ytdkjbfppogdokaa", sum := "0ef40cd32bb12499153cbb46cb351846275a13e364c24b5e6df890d92abed2f7", func := "loop.example/g00403/laws.FnExactPutNumber", spec := "fnExactPutNumber", recurses := true, apart := false }
def FnExactPutNumberSaid : Prop := fnExactPutNumberRow.holds Try.pinned (OpenSpec.ofChange fnExactPutNumberSpec)

/-- ITS FALSE NEIGHBOUR: 'it returns false'. Refute it at one input. -/
def fnExactPutNumberWrong : ChangeSpec := { name := "fnExactPutNumber", fn := fun _ => fun
  | [d] => { results := [.lit (.bool false)], args := [d] }
  | _ => none }
def FnExactPutNumberWrongFalsely : Prop := fnExactPutNumberRow.holds Try.pinned (OpenSpec.ofChange fnExactPutNumberWrong)

/-- 'laws.FnExactReadNumber': WHATEVER THE INPUT: true; the input reads as it did. -/
def fnExactReadNumberSpec : ChangeSpec := { name := "fnExactReadNumber", fn := fun _ => fun
  | [d] => { results := [.lit (.bool true)], args := [d] }
  | _ => none }
def fnExactReadNumberRow : OpenClaim := { program := "ytdkjbfppogdokaa", sum := "0ef40cd32bb12499153cbb46cb351846275a13e364c24b5e6df890d92abed2f7", func := "loop.example/g00403/laws.FnExactReadNumber", spec := "fnExactReadNumber", unfollowed := true, recurses := true, apart := false }
def FnExactReadNumberSaid : Prop := fnExactReadNumberRow.holds Try.pinned (OpenSpec.ofChange fnExactReadNumberSpec)

/-- ITS FALSE NEIGHBOUR: 'it returns false'. Refute it at one input. -/
def fnExactReadNumberWrong : ChangeSpec := { name := "fnExactReadNumber", fn := fun _ => fun
  | [d] => { results := [.lit (.bool false)], args := [d] }
  | _ => none }
def FnExactReadNumberWrongFalsely : Prop := fnExactReadNumberRow.holds Try.pinned (OpenSpec.ofChange fnExactReadNumberWrong)

/-- 'laws.FnExactFoldNumber': WHATEVER THE INPUT: true; the input reads as it did. -/
def fnExactFoldNumberSpec : ChangeSpec := { name := "fnExactFoldNumber", fn := fun _ => fun
  | [d] => { results := [.lit (.bool true)], args := [d] }
  | _ => none }
def fnExactFoldNumberRow : OpenClaim := { program := "ytdkjbfppogdokaa", sum := "0ef40cd32bb12499153cbb46cb351846275a13e364c24b5e6df890d92abed2f7", func := "loop.example/g00403/laws.FnExactFoldNumber", spec := "fnExactFoldNumber", apart := false }
def FnExactFoldNumberSaid : Prop := fnExactFoldNumberRow.holds Try.pinned (OpenSpec.ofChange fnExactFoldNumberSpec)

/-- ITS FALSE NEIGHBOUR: 'it returns false'. Refute it at one input. -/
def fnExactFoldNumberWrong : ChangeSpec := { name := "fnExactFoldNumber", fn := fun _ => fun
  | [d] => { results := [.lit (.bool false)], args := [d] }
  | _ => none }
def FnExactFoldNumberWrongFalsely : Prop := fnExactFoldNumberRow.holds Try.pinned (OpenSpec.ofChange fnExactFoldNumberWrong)

/-- 'laws.FnExactUnfoldNumber': WHATEVER THE INPUT: true; the input reads as it did. -/
def fnExactUnfoldNumberSpec : ChangeSpec := { name := "fnExactUnfoldNumber", fn := fun _ => fun
  | [d] => { results := [.lit (.bool true)], args := [d] }
  | _ => none }
def fnExactUnfoldNumberRow : OpenClaim := { program := "ytdkjbfppogdokaa", sum := "0ef40cd32bb12499153cbb46cb351846275a13e364c24b5e6df890d92abed2f7", func := "loop.example/g00403/laws.FnExactUnfoldNumber", spec := "fnExactUnfoldNumber", apart := false }
def FnExactUnfoldNumberSaid : Prop := fnExactUnfoldNumberRow.holds Try.pinned (OpenSpec.ofChange fnExactUnfoldNumberSpec)

/-- ITS FALSE NEIGHBOUR: 'it returns false'. Refute it at one input. -/
def fnExactUnfoldNumberWrong : ChangeSpec := { name := "fnExactUnfoldNumber", fn := fun _ => fun
  | [d] => { results := [.lit (.bool false)], args := [d] }
  | _ => none }
def FnExactUnfoldNumberWrongFalsely : Prop := fnExactUnfoldNumberRow.holds Try.pinned (OpenSpec.ofChange fnExactUnfoldNumberWrong)

/-- 'laws.FnExactSumBytes': WHATEVER THE INPUT: true; the input reads as it did. -/
def fnExactSumBytesSpec : ChangeSpec := { name := "fnExactSumBytes", fn := fun _ => fun
  | [d] => { results := [.lit (.bool true)], args := [d] }
  | _ => none }
def fnExactSumBytesRow : OpenClaim := { program := "ytdkjbfppogdokaa", sum := "0ef40cd32bb12499153cbb46cb351846275a13e364c24b5e6df890d92abed2f7", func := "loop.example/g00403/laws.FnExactSumBytes", spec := "fnExactSumBytes", apart := false }
def FnExactSumBytesSaid : Prop := fnExactSumBytesRow.holds Try.pinned (OpenSpec.ofChange fnExactSumBytesSpec)

/-- ITS FALSE NEIGHBOUR: 'it returns false'. Refute it at one input. -/
def fnExactSumBytesWrong : ChangeSpec := { name := "fnExactSumBytes", fn := fun _ => fun
  | [d] => { results := [.lit (.bool false)], args := [d] }
  | _ => none }
def FnExactSumBytesWrongFalsely : Prop := fnExactSumBytesRow.holds Try.pinned (OpenSpec.ofChange fnExactSumBytesWrong)

/- THE SECOND FORM. 'bulk': how many values and letters a reading holds, each counted each time it is reached (what is shared counts as often as it is met; a slice's spare places count too). A statement '..UptoSaid' is the law's where the arguments, and the package variables that the reading takes, are together of bulk at most 1048576: NARROWER than '..Said'. Prove '..Said' where nothing that the law and all that it calls make is longer than what came in: it says more and counts as full. Else prove '..UptoSaid'. A law counts once. -/
mutual
def uptoBulk {H : Type} : DataW H → Nat
  | .lit (.string bytes) => bytes.length + 1
  | .lit _ => 1
  | .nil => 1
  | .ptr d => uptoBulk d + 1
  | .slice elems spare => uptoBulkAll elems + uptoBulkAll spare + 1
  | .agg parts => uptoBulkAll parts + 1
  | .iface _ d => uptoBulk d + 1
  | .map entries => uptoBulkEntries entries + 1
  | .held _ => 1
def uptoBulkAll {H : Type} : List (DataW H) → Nat
  | [] => 0
  | d :: r => uptoBulk d + uptoBulkAll r
def uptoBulkEntries {H : Type} : List (Lit × DataW H) → Nat
  | [] => 0
  | x :: r => uptoBulkEntry x + uptoBulkEntries r
def uptoBulkEntry {H : Type} : Lit × DataW H → Nat
  | (.string bytes, d) => bytes.length + uptoBulk d + 1
  | (_, d) => uptoBulk d + 1
 end
def uptoSmall : (H : Type) → List (DataW H) → Bool := fun _ ds => decide (uptoBulkAll ds ≤ 1048576)
def OpenSpec.upto (s : _root_.Go.ChangeSpec) : _root_.Go.OpenSpec := { _root_.Go.OpenSpec.ofChange s with cond := some uptoSmall }

/-- 'laws.FnNumbers', WHERE WHAT IT READS IS OF BULK AT MOST 1048576: true; the input reads as it did. -/
def fnNumbersUptoRow : OpenClaim := { program := "ytdkjbfppogdokaa", sum := "0ef40cd32bb12499153cbb46cb351846275a13e364c24b5e6df890d92abed2f7", func := "loop.example/g00403/laws.FnNumbers", spec := "fnNumbers", unfollowed := true, recurses := true, apart := false, narrowed := true }
def FnNumbersUptoSaid : Prop := fnNumbersUptoRow.holds Try.pinned (OpenSpec.upto fnNumbersSpec)

/-- 'laws.FnExactPutNumber', WHERE WHAT IT READS IS OF BULK AT MOST 1048576: true; the input reads as it did. -/
def fnExactPutNumberUptoRow : OpenClaim := { program := "ytdkjbfppogdokaa", sum := "0ef40cd32bb12499153cbb46cb351846275a13e364c24b5e6df890d92abed2f7", func := "loop.example/g00403/laws.FnExactPutNumber", spec := "fnExactPutNumber", recurses := true, apart := false, narrowed := true }
def FnExactPutNumberUptoSaid : Prop := fnExactPutNumberUptoRow.holds Try.pinned (OpenSpec.upto fnExactPutNumberSpec)

/-- 'laws.FnExactReadNumber', WHERE WHAT IT READS IS OF BULK AT MOST 1048576: true; the input reads as it did. -/
def fnExactReadNumberUptoRow : OpenClaim := { program := "ytdkjbfppogdokaa", sum := "0ef40cd32bb12499153cbb46cb351846275a13e364c24b5e6df890d92abed2f7", func := "loop.example/g00403/laws.FnExactReadNumber", spec := "fnExactReadNumber", unfollowed := true, recurses := true, apart := false, narrowed := true }
def FnExactReadNumberUptoSaid : Prop := fnExactReadNumberUptoRow.holds Try.pinned (OpenSpec.upto fnExactReadNumberSpec)

/-- 'laws.FnExactFoldNumber', WHERE WHAT IT READS IS OF BULK AT MOST 1048576: true; the input reads as it did. -/
def fnExactFoldNumberUptoRow : OpenClaim := { program := "ytdkjbfppogdokaa", sum := "0ef40cd32bb12499153cbb46cb351846275a13e364c24b5e6df890d92abed2f7", func := "loop.example/g00403/laws.FnExactFoldNumber", spec := "fnExactFoldNumber", apart := false, narrowed := true }
def FnExactFoldNumberUptoSaid : Prop := fnExactFoldNumberUptoRow.holds Try.pinned (OpenSpec.upto fnExactFoldNumberSpec)

/-- 'laws.FnExactUnfoldNumber', WHERE WHAT IT READS IS OF BULK AT MOST 1048576: true; the input reads as it did. -/
def fnExactUnfoldNumberUptoRow : OpenClaim := { program := "ytdkjbfppogdokaa", sum := "0ef40cd32bb12499153cbb46cb351846275a13e364c24b5e6df890d92abed2f7", func := "loop.example/g00403/laws.FnExactUnfoldNumber", spec := "fnExactUnfoldNumber", apart := false, narrowed := true }
def FnExactUnfoldNumberUptoSaid : Prop := fnExactUnfoldNumberUptoRow.holds Try.pinned (OpenSpec.upto fnExactUnfoldNumberSpec)

/-- 'laws.FnExactSumBytes', WHERE WHAT IT READS IS OF BULK AT MOST 1048576: true; the input reads as it did. -/
def fnExactSumBytesUptoRow : OpenClaim := { program := "ytdkjbfppogdokaa", sum := "0ef40cd32bb12499153cbb46cb351846275a13e364c24b5e6df890d92abed2f7", func := "loop.example/g00403/laws.FnExactSumBytes", spec := "fnExactSumBytes", apart := false, narrowed := true }
def FnExactSumBytesUptoSaid : Prop := fnExactSumBytesUptoRow.holds Try.pinned (OpenSpec.upto fnExactSumBytesSpec)

end Rows
end Go.Proofs.Ytdkjbfppogdokaa
