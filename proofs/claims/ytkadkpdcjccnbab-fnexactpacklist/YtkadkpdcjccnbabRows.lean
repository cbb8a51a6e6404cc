/-
  No cell of these rows narrows 'for every input' (looked for: loops, veiled, ifaces, maps, wideKeys, modest, calm, conditions, laid).
  DERIVED. THE GIVEN ROWS OF THIS SEAT. 6 by the template 'for every input the law returns true; each argument reads behind the call as it read before'; 0 by the template 'total and deterministic' (their statements: YtkadkpdcjccnbabTotals.lean).
  GIVEN WITH THE SEED: the statements are not yours to turn. If you find one false, say at which input.
  Laid BY PROGRAM, IN A SANDBOX (cutbox-rows.mjs): the forced cells as the released guide's own fill.sh prints them over the translation ee66b7b2bac15a2c… (all of the seat's roots in one cut). By AI agents, Wed Nov 11 2026. No macro, syntax, notation, axiom, sorry.
-/
import Derived.Test.YtkadkpdcjccnbabChecked
import GoSem.Claim
import GoSem.ClaimJoined
import GoSem.ClaimMapViews
import Derived.JoinedTies
import Derived.KernelRfl
namespace Go.Proofs.Ytkadkpdcjccnbab
/- THE CELL 'sum', in the pinned program and in every row, IS THE sha256 OF THE DUMP (.gsa) THAT YtkadkpdcjccnbabProg.lean LOADS. Nothing in Lean hashes anything: it is a label: what it is worth is what the hold of that sum in a sandbox is worth. -/
noncomputable def Try.pinned : Pinned := { name := "ytkadkpdcjccnbab", sum := "ee66b7b2bac15a2c3490dd885f72ae2863eb08e5b74ac09bb551c292e6ea2414", checked := Try.checked }
namespace Rows
def none {H : Type} : Left H := { results := [], args := [] }

/-- 'laws.FnExactFoldNumber': WHATEVER THE INPUT: true; the input reads as it did. -/
def fnExactFoldNumberSpec : ChangeSpec := { name := "fnExactFoldNumber", fn := fun _ => fun
  | [d] => { results := [.lit (.bool true)], args := [d] }
  | _ => none }
def fnExactFoldNumberRow : OpenClaim := { program := "ytkadkpdcjccnbab", sum := "ee66b7b2bac15a2c3490dd885f72ae2863eb08e5b74ac09bb551c292e6ea2414", func := "loop.example/g00403/laws.FnExactFoldNumber", spec := "fnExactFoldNumber", apart := false }
def FnExactFoldNumberSaid : Prop := fnExactFoldNumberRow.holds Try.pinned (OpenSpec.ofChange fnExactFoldNumberSpec)

/-- ITS FALSE NEIGHBOUR: 'it returns false'. Refute it at one input. -/
def fnExactFoldNumberWrong : ChangeSpec := { name := "fnExactFoldNumber", fn := fun _ => fun
  | [d] => { results := [.lit (.bool false)], args := [d] }
  | _ => none }
def FnExactFoldNumberWrongFalsely : Prop := fnExactFoldNumberRow.holds Try.pinned (OpenSpec.ofChange fnExactFoldNumberWrong)

/-- 'laws.FnExactUnfoldNumber': WHATEVER THE INPUT: true; the input reads as it did. -/
def fnExactUnfoldNumberSpec : ChangeSpec := { name := "fnExactUnfoldNumber", fn := fun _ => fun
  | [d] => { results := [.lit (.bool true)], args := [d] }
  | _ => none }
def fnExactUnfoldNumberRow : OpenClaim := { program := "ytkadkpdcjccnbab", sum := "ee66b7b2bac15a2c3490dd885f72ae2863eb08e5b74ac09bb551c292e6ea2414", func := "loop.example/g00403/laws.FnExactUnfoldNumber", spec := "fnExactUnfoldNumber", apart := false }
def FnExactUnfoldNumberSaid : Prop := fnExactUnfoldNumberRow.holds Try.pinned (OpenSpec.ofChange fnExactUnfoldNumberSpec)

/-- ITS FALSE NEIGHBOUR: 'it returns false'. Refute it at one input. -/
def fnExactUnfoldNumberWrong : ChangeSpec := { name := "fnExactUnfoldNumber", fn := fun _ => fun
  | [d] => { results := [.lit (.bool false)], args := [d] }
  | _ => none }
def FnExactUnfoldNumberWrongFalsely : Prop := fnExactUnfoldNumberRow.holds Try.pinned (OpenSpec.ofChange fnExactUnfoldNumberWrong)

/-- 'laws.FnExactSumBytes': WHATEVER THE INPUT: true; the input reads as it did. -/
def fnExactSumBytesSpec : ChangeSpec := { name := "fnExactSumBytes", fn := fun _ => fun
  | [d] => { results := [.lit (.bool true)], args := [d] }
  | _ => none }
def fnExactSumBytesRow : OpenClaim := { program := "ytkadkpdcjccnbab", sum := "ee66b7b2bac15a2c3490dd885f72ae2863eb08e5b74ac09bb551c292e6ea2414", func := "loop.example/g00403/laws.FnExactSumBytes", spec := "fnExactSumBytes", apart := false }
def FnExactSumBytesSaid : Prop := fnExactSumBytesRow.holds Try.pinned (OpenSpec.ofChange fnExactSumBytesSpec)

/-- ITS FALSE NEIGHBOUR: 'it returns false'. Refute it at one input. -/
def fnExactSumBytesWrong : ChangeSpec := { name := "fnExactSumBytes", fn := fun _ => fun
  | [d] => { results := [.lit (.bool false)], args := [d] }
  | _ => none }
def FnExactSumBytesWrongFalsely : Prop := fnExactSumBytesRow.holds Try.pinned (OpenSpec.ofChange fnExactSumBytesWrong)

/-- 'laws.FnExactPackFeature': WHATEVER THE INPUT: true; the input reads as it did. -/
def fnExactPackFeatureSpec : ChangeSpec := { name := "fnExactPackFeature", fn := fun _ => fun
  | [d] => { results := [.lit (.bool true)], args := [d] }
  | _ => none }
def fnExactPackFeatureRow : OpenClaim := { program := "ytkadkpdcjccnbab", sum := "ee66b7b2bac15a2c3490dd885f72ae2863eb08e5b74ac09bb551c292e6ea2414", func := "loop.example/g00403/laws.FnExactPackFeature", spec := "fnExactPackFeature", unfollowed := true, recurses := true, apart := false }
def FnExactPackFeatureSaid : Prop := fnExactPackFeatureRow.holds Try.pinned (OpenSpec.ofChange fnExactPackFeatureSpec)

/-- ITS FALSE NEIGHBOUR: 'it returns false'. Refute it at one input. -/
def fnExactPackFeatureWrong : ChangeSpec := { name := "fnExactPackFeature", fn := fun _ => fun
  | [d] => { results := [.lit (.bool false)], args := [d] }
  | _ => none }
def FnExactPackFeatureWrongFalsely : Prop := fnExactPackFeatureRow.holds Try.pinned (OpenSpec.ofChange fnExactPackFeatureWrong)

/-- 'laws.FnExactPackList': WHATEVER THE INPUT: true; the input reads as it did. -/
def fnExactPackListSpec : ChangeSpec := { name := "fnExactPackList", fn := fun _ => fun
  | [d] => { results := [.lit (.bool true)], args := [d] }
  | _ => none }
def fnExactPackListRow : OpenClaim := { program := "ytkadkpdcjccnbab", sum := "ee66b7b2bac15a2c3490dd885f72ae2863eb08e5b74ac09bb551c292e6ea2414", func := "loop.example/g00403/laws.FnExactPackList", spec := "fnExactPackList", unfollowed := true, recurses := true, apart := false }
def FnExactPackListSaid : Prop := fnExactPackListRow.holds Try.pinned (OpenSpec.ofChange fnExactPackListSpec)

/-- ITS FALSE NEIGHBOUR: 'it returns false'. Refute it at one input. -/
def fnExactPackListWrong : ChangeSpec := { name := "fnExactPackList", fn := fun _ => fun
  | [d] => { results := [.lit (.bool false)], args := [d] }
  | _ => none }
def FnExactPackListWrongFalsely : Prop := fnExactPackListRow.holds Try.pinned (OpenSpec.ofChange fnExactPackListWrong)

/-- 'laws.FnExactUnpackList': WHATEVER THE INPUT: true; the input reads as it did. -/
def fnExactUnpackListSpec : ChangeSpec := { name := "fnExactUnpackList", fn := fun _ => fun
  | [d] => { results := [.lit (.bool true)], args := [d] }
  | _ => none }
def fnExactUnpackListRow : OpenClaim := { program := "ytkadkpdcjccnbab", sum := "ee66b7b2bac15a2c3490dd885f72ae2863eb08e5b74ac09bb551c292e6ea2414", func := "loop.example/g00403/laws.FnExactUnpackList", spec := "fnExactUnpackList", unfollowed := true, recurses := true, apart := false }
def FnExactUnpackListSaid : Prop := fnExactUnpackListRow.holds Try.pinned (OpenSpec.ofChange fnExactUnpackListSpec)

/-- ITS FALSE NEIGHBOUR: 'it returns false'. Refute it at one input. -/
def fnExactUnpackListWrong : ChangeSpec := { name := "fnExactUnpackList", fn := fun _ => fun
  | [d] => { results := [.lit (.bool false)], args := [d] }
  | _ => none }
def FnExactUnpackListWrongFalsely : Prop := fnExactUnpackListRow.holds Try.pinned (OpenSpec.ofChange fnExactUnpackListWrong)

/- THE SECOND FORM. 'bulk': how many values and letters a reading holds, each counted each time it is reached (what is shared counts as often as it is met; a slice's spare places count too). A statement '..UptoSaid' is the law's where the arguments, and the package variables that the reading takes, are together of bulk at most 1048576: NARROWER than '..Said'. Prove '..Said' where nothing that the law and all that it calls make is longer than what came in: it says more and counts as full. Else prove '..UptoSaid'. A law counts once. -/
mutual
def uptoBulk {H : Type} : DataW H → Nat
  | .lit (.string bytes) => bytes.length + 1
  | .lit _ => 1
  | .nil => 1
  | .ptr d => uptoBulk d + 1
  | .slice elems spare => uptoBulkAll elems + uptoBulkAll spare + 1
  | .agg parts => uptoBulkAll parts + 1
  | .iface _ d => uptoBulk d + 1
  | .map entries => uptoBulkEntries entries + 1
  | .held _ => 1
def uptoBulkAll {H : Type} : List (DataW H) → Nat
  | [] => 0
  | d :: r => uptoBulk d + uptoBulkAll r
def uptoBulkEntries {H : Type} : List (Lit × DataW H) → Nat
  | [] => 0
  | x :: r => uptoBulkEntry x + uptoBulkEntries r
def uptoBulkEntry {H : Type} : Lit × DataW H → Nat
  | (.string bytes, d) => bytes.length + uptoBulk d + 1
  | (_, d) => uptoBulk d + 1
 end
def uptoSmall : (H : Type) → List (DataW H) → Bool := fun _ ds => decide (uptoBulkAll ds ≤ 1048576)
def OpenSpec.upto (s : _root_.Go.ChangeSpec) : _root_.Go.OpenSpec := { _root_.Go.OpenSpec.ofChange s with cond := some uptoSmall }

/-- 'laws.FnExactFoldNumber', WHERE WHAT IT READS IS OF BULK AT MOST 1048576: true; the input reads as it did. -/
def fnExactFoldNumberUptoRow : OpenClaim := { program := "ytkadkpdcjccnbab", sum := "ee66b7b2bac15a2c3490dd885f72ae2863eb08e5b74ac09bb551c292e6ea2414", func := "loop.example/g00403/laws.FnExactFoldNumber", spec := "fnExactFoldNumber", apart := false, narrowed := true }
def FnExactFoldNumberUptoSaid : Prop := fnExactFoldNumberUptoRow.holds Try.pinned (OpenSpec.upto fnExactFoldNumberSpec)

/-- 'laws.FnExactUnfoldNumber', WHERE WHAT IT READS IS OF BULK AT MOST 1048576: true; the input reads as it did. -/
def fnExactUnfoldNumberUptoRow : OpenClaim := { program := "ytkadkpdcjccnbab", sum := "ee66b7b2bac15a2c3490dd885f72ae2863eb08e5b74ac09bb551c292e6ea2414", func := "loop.example/g00403/laws.FnExactUnfoldNumber", spec := "fnExactUnfoldNumber", apart := false, narrowed := true }
def FnExactUnfoldNumberUptoSaid : Prop := fnExactUnfoldNumberUptoRow.holds Try.pinned (OpenSpec.upto fnExactUnfoldNumberSpec)

/-- 'laws.FnExactSumBytes', WHERE WHAT IT READS IS OF BULK AT MOST 1048576: true; the input reads as it did. -/
def fnExactSumBytesUptoRow : OpenClaim := { program := "ytkadkpdcjccnbab", sum := "ee66b7b2bac15a2c3490dd885f72ae2863eb08e5b74ac09bb551c292e6ea2414", func := "loop.example/g00403/laws.FnExactSumBytes", spec := "fnExactSumBytes", apart := false, narrowed := true }
def FnExactSumBytesUptoSaid : Prop := fnExactSumBytesUptoRow.holds Try.pinned (OpenSpec.upto fnExactSumBytesSpec)

/-- 'laws.FnExactPackFeature', WHERE WHAT IT READS IS OF BULK AT MOST 1048576: true; the input reads as it did. -/
def fnExactPackFeatureUptoRow : OpenClaim := { program := "ytkadkpdcjccnbab", sum := "ee66b7b2bac15a2c3490dd885f72ae2863eb08e5b74ac09bb551c292e6ea2414", func := "loop.example/g00403/laws.FnExactPackFeature", spec := "fnExactPackFeature", unfollowed := true, recurses := true, apart := false, narrowed := true }
def FnExactPackFeatureUptoSaid : Prop := fnExactPackFeatureUptoRow.holds Try.pinned (OpenSpec.upto fnExactPackFeatureSpec)

/-- 'laws.FnExactPackList', WHERE WHAT IT READS IS OF BULK AT MOST 1048576: true; the input reads as it did. -/
def fnExactPackListUptoRow : OpenClaim := { program := "ytkadkpdcjccnbab", sum := "ee66b7b2bac15a2c3490dd885f72ae2863eb08e5b74ac09bb551c292e6ea2414", func := "loop.example/g00403/laws.FnExactPackList", spec := "fnExactPackList", unfollowed := true, recurses := true, apart := false, narrowed := true }
def FnExactPackListUptoSaid : Prop := fnExactPackListUptoRow.holds Try.pinned (OpenSpec.upto fnExactPackListSpec)

/-- 'laws.FnExactUnpackList', WHERE WHAT IT READS IS OF BULK AT MOST 1048576: true; the input reads as it did. -/
def fnExactUnpackListUptoRow : OpenClaim := { program := "ytkadkpdcjccnbab", sum := "ee66b7b2bac15a2c3490dd885f72ae2863eb08e5b74ac09bb551c292e6ea2414", func := "loop.example/g00403/laws.FnExactUnpackList", spec := "fnExactUnpackList", unfollowed := true, recurses := true, apart := false, narrowed := true }
def FnExactUnpackListUptoSaid : Prop := fnExactUnpackListUptoRow.holds Try.pinned (OpenSpec.upto fnExactUnpackListSpec)

end Rows
end Go.Proofs.Ytkadkpdcjccnbab
