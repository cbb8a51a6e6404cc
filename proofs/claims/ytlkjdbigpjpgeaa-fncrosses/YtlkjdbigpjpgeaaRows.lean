/-
  No cell of these rows narrows 'for every input' (looked for: loops, veiled, ifaces, maps, wideKeys, modest, calm, conditions, laid).
  DERIVED. THE GIVEN ROWS OF THIS SEAT. 5 by the template 'for every input the law returns true; each argument reads behind the call as it read before'; 0 by the template 'total and deterministic' (their statements: YtlkjdbigpjpgeaaTotals.lean).
  GIVEN WITH THE SEED: the statements are not yours to turn. If you find one false, say at which input.
  Laid BY PROGRAM, IN A SANDBOX (cutbox-rows.mjs): the forced cells as the released guide's own fill.sh prints them over the translation 1a662090b5dc8d5d… (all of the seat's roots in one cut). By AI agents, Wed Nov 11 2026. No macro, syntax, notation, axiom, sorry.
-/
import Derived.Test.YtlkjdbigpjpgeaaChecked
import GoSem.Claim
import GoSem.ClaimJoined
import GoSem.ClaimMapViews
import Derived.JoinedTies
import Derived.KernelRfl
namespace Go.Proofs.Ytlkjdbigpjpgeaa
/- THE CELL 'sum', in the pinned program and in every row, IS THE sha256 OF THE DUMP (.gsa) THAT YtlkjdbigpjpgeaaProg.lean LOADS. Nothing in Lean hashes anything: it is a label: what it is worth is what the hold of that sum in a sandbox is worth. -/
noncomputable def Try.pinned : Pinned := { name := "ytlkjdbigpjpgeaa", sum := "1a662090b5dc8d5d43826f3a539729b0c5233a5315d5a320446e58b9e4201191", checked := Try.checked }
namespace Rows
def none {H : Type} : Left H := { results := [], args := [] }

/-- 'laws.FnCrosses': WHATEVER THE INPUT: true; the input reads as it did. -/
def fnCrossesSpec : ChangeSpec := { name := "fnCrosses", fn := fun _ => fun
  | [d] => { results := [.lit (.bool true)], args := [d] }
  | _ => none }
def fnCrossesRow : OpenClaim := { program := "ytlkjdbigpjpgeaa", sum := "1a662090b5dc8d5d43826f3a539729b0c5233a5315d5a320446e58b9e4201191", func := "loop.example/g00403/laws.FnCrosses", spec := "fnCrosses", apart := false }
def FnCrossesSaid : Prop := fnCrossesRow.holds Try.pinned (OpenSpec.ofChange fnCrossesSpec)

/-- ITS FALSE NEIGHBOUR: 'it returns false'. Refute it at one input. -/
def fnCrossesWrong : ChangeSpec := { name := "fnCrosses", fn := fun _ => fun
  | [d] => { results := [.lit (.bool false)], args := [d] }
  | _ => none }
def FnCrossesWrongFalsely : Prop := fnCrossesRow.holds Try.pinned (OpenSpec.ofChange fnCrossesWrong)

/-- 'laws.FnNears': WHATEVER THE INPUT: true; the input reads as it did. -/
def fnNearsSpec : ChangeSpec := { name := "fnNears", fn := fun _ => fun
  | [d] => { results := [.lit (.bool true)], args := [d] }
  | _ => none }
def fnNearsRow : OpenClaim := { program := "ytlkjdbigpjpgeaa", sum := "1a662090b5dc8d5d43826f3a539729b0c5233a5315d5a320446e58b9e4201191", func := "loop.example/g00403/laws.FnNears", spec := "fnNears", apart := false }
def FnNearsSaid : Prop := fnNearsRow.holds Try.pinned (OpenSpec.ofChange fnNearsSpec)

/-- ITS FALSE NEIGHBOUR: 'it returns false'. Refute it at one input. -/
def fnNearsWrong : ChangeSpec := { name := "fnNears", fn := fun _ => fun
  | [d] => { results := [.lit (.bool false)], args := [d] }
  | _ => none }
def FnNearsWrongFalsely : Prop := fnNearsRow.holds Try.pinned (OpenSpec.ofChange fnNearsWrong)

/-- 'laws.FnInsides': WHATEVER THE INPUT: true; the input reads as it did. -/
def fnInsidesSpec : ChangeSpec := { name := "fnInsides", fn := fun _ => fun
  | [d] => { results := [.lit (.bool true)], args := [d] }
  | _ => none }
def fnInsidesRow : OpenClaim := { program := "ytlkjdbigpjpgeaa", sum := "1a662090b5dc8d5d43826f3a539729b0c5233a5315d5a320446e58b9e4201191", func := "loop.example/g00403/laws.FnInsides", spec := "fnInsides", apart := false }
def FnInsidesSaid : Prop := fnInsidesRow.holds Try.pinned (OpenSpec.ofChange fnInsidesSpec)

/-- ITS FALSE NEIGHBOUR: 'it returns false'. Refute it at one input. -/
def fnInsidesWrong : ChangeSpec := { name := "fnInsides", fn := fun _ => fun
  | [d] => { results := [.lit (.bool false)], args := [d] }
  | _ => none }
def FnInsidesWrongFalsely : Prop := fnInsidesRow.holds Try.pinned (OpenSpec.ofChange fnInsidesWrong)

/-- 'laws.FnSorts': WHATEVER THE INPUT: true; the input reads as it did. -/
def fnSortsSpec : ChangeSpec := { name := "fnSorts", fn := fun _ => fun
  | [d] => { results := [.lit (.bool true)], args := [d] }
  | _ => none }
def fnSortsRow : OpenClaim := { program := "ytlkjdbigpjpgeaa", sum := "1a662090b5dc8d5d43826f3a539729b0c5233a5315d5a320446e58b9e4201191", func := "loop.example/g00403/laws.FnSorts", spec := "fnSorts", unfollowed := true, recurses := true, apart := false }
def FnSortsSaid : Prop := fnSortsRow.holds Try.pinned (OpenSpec.ofChange fnSortsSpec)

/-- ITS FALSE NEIGHBOUR: 'it returns false'. Refute it at one input. -/
def fnSortsWrong : ChangeSpec := { name := "fnSorts", fn := fun _ => fun
  | [d] => { results := [.lit (.bool false)], args := [d] }
  | _ => none }
def FnSortsWrongFalsely : Prop := fnSortsRow.holds Try.pinned (OpenSpec.ofChange fnSortsWrong)

/-- 'laws.FnExactPointFault': WHATEVER THE INPUT: true; the input reads as it did. -/
def fnExactPointFaultSpec : ChangeSpec := { name := "fnExactPointFault", fn := fun _ => fun
  | [d] => { results := [.lit (.bool true)], args := [d] }
  | _ => none }
def fnExactPointFaultRow : OpenClaim := { program := "ytlkjdbigpjpgeaa", sum := "1a662090b5dc8d5d43826f3a539729b0c5233a5315d5a320446e58b9e4201191", func := "loop.example/g00403/laws.FnExactPointFault", spec := "fnExactPointFault", apart := false }
def FnExactPointFaultSaid : Prop := fnExactPointFaultRow.holds Try.pinned (OpenSpec.ofChange fnExactPointFaultSpec)

/-- ITS FALSE NEIGHBOUR: 'it returns false'. Refute it at one input. -/
def fnExactPointFaultWrong : ChangeSpec := { name := "fnExactPointFault", fn := fun _ => fun
  | [d] => { results := [.lit (.bool false)], args := [d] }
  | _ => none }
def FnExactPointFaultWrongFalsely : Prop := fnExactPointFaultRow.holds Try.pinned (OpenSpec.ofChange fnExactPointFaultWrong)

/- THE SECOND FORM. 'bulk': how many values and letters a reading holds, each counted each time it is reached (what is shared counts as often as it is met; a slice's spare places count too). A statement '..UptoSaid' is the law's where the arguments, and the package variables that the reading takes, are together of bulk at most 1048576: NARROWER than '..Said'. Prove '..Said' where nothing that the law and all that it calls make is longer than what came in: it says more and counts as full. Else prove '..UptoSaid'. A law counts once. -/
mutual
def uptoBulk {H : Type} : DataW H → Nat
  | .lit (.string bytes) => bytes.length + 1
  | .lit _ => 1
  | .nil => 1
  | .ptr d => uptoBulk d + 1
  | .slice elems spare => uptoBulkAll elems + uptoBulkAll spare + 1
  | .agg parts => uptoBulkAll parts + 1
  | .iface _ d => uptoBulk d + 1
  | .map entries => uptoBulkEntries entries + 1
  | .held _ => 1
def uptoBulkAll {H : Type} : List (DataW H) → Nat
  | [] => 0
  | d :: r => uptoBulk d + uptoBulkAll r
def uptoBulkEntries {H : Type} : List (Lit × DataW H) → Nat
  | [] => 0
  | x :: r => uptoBulkEntry x + uptoBulkEntries r
def uptoBulkEntry {H : Type} : Lit × DataW H → Nat
  | (.string bytes, d) => bytes.length + uptoBulk d + 1
  | (_, d) => uptoBulk d + 1
 end
def uptoSmall : (H : Type) → List (DataW H) → Bool := fun _ ds => decide (uptoBulkAll ds ≤ 1048576)
def OpenSpec.upto (s : _root_.Go.ChangeSpec) : _root_.Go.OpenSpec := { _root_.Go.OpenSpec.ofChange s with cond := some uptoSmall }

/-- 'laws.FnCrosses', WHERE WHAT IT READS IS OF BULK AT MOST 1048576: true; the input reads as it did. -/
def fnCrossesUptoRow : OpenClaim := { program := "ytlkjdbigpjpgeaa", sum := "1a662090b5dc8d5d43826f3a539729b0c5233a5315d5a320446e58b9e4201191", func := "loop.example/g00403/laws.FnCrosses", spec := "fnCrosses", apart := false, narrowed := true }
def FnCrossesUptoSaid : Prop := fnCrossesUptoRow.holds Try.pinned (OpenSpec.upto fnCrossesSpec)

/-- 'laws.FnNears', WHERE WHAT IT READS IS OF BULK AT MOST 1048576: true; the input reads as it did. -/
def fnNearsUptoRow : OpenClaim := { program := "ytlkjdbigpjpgeaa", sum := "1a662090b5dc8d5d43826f3a539729b0c5233a5315d5a320446e58b9e4201191", func := "loop.example/g00403/laws.FnNears", spec := "fnNears", apart := false, narrowed := true }
def FnNearsUptoSaid : Prop := fnNearsUptoRow.holds Try.pinned (OpenSpec.upto fnNearsSpec)

/-- 'laws.FnInsides', WHERE WHAT IT READS IS OF BULK AT MOST 1048576: true; the input reads as it did. -/
def fnInsidesUptoRow : OpenClaim := { program := "ytlkjdbigpjpgeaa", sum := "1a662090b5dc8d5d43826f3a539729b0c5233a5315d5a320446e58b9e4201191", func := "loop.example/g00403/laws.FnInsides", spec := "fnInsides", apart := false, narrowed := true }
def FnInsidesUptoSaid : Prop := fnInsidesUptoRow.holds Try.pinned (OpenSpec.upto fnInsidesSpec)

/-- 'laws.FnSorts', WHERE WHAT IT READS IS OF BULK AT MOST 1048576: true; the input reads as it did. -/
def fnSortsUptoRow : OpenClaim := { program := "ytlkjdbigpjpgeaa", sum := "1a662090b5dc8d5d43826f3a539729b0c5233a5315d5a320446e58b9e4201191", func := "loop.example/g00403/laws.FnSorts", spec := "fnSorts", unfollowed := true, recurses := true, apart := false, narrowed := true }
def FnSortsUptoSaid : Prop := fnSortsUptoRow.holds Try.pinned (OpenSpec.upto fnSortsSpec)

/-- 'laws.FnExactPointFault', WHERE WHAT IT READS IS OF BULK AT MOST 1048576: true; the input reads as it did. -/
def fnExactPointFaultUptoRow : OpenClaim := { program := "ytlkjdbigpjpgeaa", sum := "1a662090b5dc8d5d43826f3a539729b0c5233a5315d5a320446e58b9e4201191", func := "loop.example/g00403/laws.FnExactPointFault", spec := "fnExactPointFault", apart := false, narrowed := true }
def FnExactPointFaultUptoSaid : Prop := fnExactPointFaultUptoRow.holds Try.pinned (OpenSpec.upto fnExactPointFaultSpec)

end Rows
end Go.Proofs.Ytlkjdbigpjpgeaa
