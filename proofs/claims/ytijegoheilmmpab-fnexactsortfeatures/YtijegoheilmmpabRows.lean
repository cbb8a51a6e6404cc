/-
  No cell of these rows narrows 'for every input' (looked for: loops, veiled, ifaces, maps, wideKeys, modest, calm, conditions, laid).
  DERIVED. THE GIVEN ROWS OF THIS SEAT. 4 by the template 'for every input the law returns true; each argument reads behind the call as it read before'; 0 by the template 'total and deterministic' (their statements: YtijegoheilmmpabTotals.lean).
  GIVEN WITH THE SEED: the statements are not yours to turn. If you find one false, say at which input.
  Laid BY PROGRAM, IN A SANDBOX (cutbox-rows.mjs): the forced cells as the released guide's own fill.sh prints them over the translation 6f6800fb5e74c16f… (all of the seat's roots in one cut). By AI agents, Wed Nov 11 2026. No macro, syntax, notation, axiom, sorry.
-/
import Derived.Test.YtijegoheilmmpabChecked
import GoSem.Claim
import GoSem.ClaimJoined
import GoSem.ClaimMapViews
import Derived.JoinedTies
import Derived.KernelRfl
namespace Go.Proofs.Ytijegoheilmmpab
/- THE CELL 'sum', in the pinned program and in every row, IS THE sha256 OF THE DUMP (.gsa) THAT YtijegoheilmmpabProg.lean LOADS. Nothing in Lean hashes anything: it is a label: what it is worth is what the hold of that sum in a sandbox is worth. -/
noncomputable def Try.pinned : Pinned := { name := "ytijegoheilmmpab", sum := "6f6800fb5e74c16fc3c00a7c0f511cd56cf98af4932aec75781b3943ad683811", checked := Try.checked }
namespace Rows
def none {H : Type} : Left H := { results := [], args := [] }

/-- 'laws.FnExactSortFeatures': WHATEVER THE INPUT: true; the input reads as it did. -/
def fnExactSortFeaturesSpec : ChangeSpec := { name := "fnExactSortFeatures", fn := fun _ => fun
  | [d] => { results := [.lit (.bool true)], args := [d] }
  | _ => none }
def fnExactSortFeaturesRow : OpenClaim := { program := "ytijegoheilmmpab", sum := "6f6800fb5e74c16fc3c00a7c0f511cd56cf98af4932aec75781b3943ad683811", func := "loop.example/g00403/laws.FnExactSortFeatures", spec := "fnExactSortFeatures", unfollowed := true, recurses := true, apart := false }
def FnExactSortFeaturesSaid : Prop := fnExactSortFeaturesRow.holds Try.pinned (OpenSpec.ofChange fnExactSortFeaturesSpec)

/-- ITS FALSE NEIGHBOUR: 'it returns false'. Refute it at one input. -/
def fnExactSortFeaturesWrong : ChangeSpec := { name := "fnExactSortFeatures", fn := fun _ => fun
  | [d] => { results := [.lit (.bool false)], args := [d] }
  | _ => none }
def FnExactSortFeaturesWrongFalsely : Prop := fnExactSortFeaturesRow.holds Try.pinned (OpenSpec.ofChange fnExactSortFeaturesWrong)

/-- 'laws.FnExactEntriesFault': WHATEVER THE INPUT: true; the input reads as it did. -/
def fnExactEntriesFaultSpec : ChangeSpec := { name := "fnExactEntriesFault", fn := fun _ => fun
  | [d] => { results := [.lit (.bool true)], args := [d] }
  | _ => none }
def fnExactEntriesFaultRow : OpenClaim := { program := "ytijegoheilmmpab", sum := "6f6800fb5e74c16fc3c00a7c0f511cd56cf98af4932aec75781b3943ad683811", func := "loop.example/g00403/laws.FnExactEntriesFault", spec := "fnExactEntriesFault", apart := false }
def FnExactEntriesFaultSaid : Prop := fnExactEntriesFaultRow.holds Try.pinned (OpenSpec.ofChange fnExactEntriesFaultSpec)

/-- ITS FALSE NEIGHBOUR: 'it returns false'. Refute it at one input. -/
def fnExactEntriesFaultWrong : ChangeSpec := { name := "fnExactEntriesFault", fn := fun _ => fun
  | [d] => { results := [.lit (.bool false)], args := [d] }
  | _ => none }
def FnExactEntriesFaultWrongFalsely : Prop := fnExactEntriesFaultRow.holds Try.pinned (OpenSpec.ofChange fnExactEntriesFaultWrong)

/-- 'laws.FnExactBuildQuads': WHATEVER THE INPUT: true; the input reads as it did. -/
def fnExactBuildQuadsSpec : ChangeSpec := { name := "fnExactBuildQuads", fn := fun _ => fun
  | [d1, d2] => { results := [.lit (.bool true)], args := [d1, d2] }
  | _ => none }
def fnExactBuildQuadsRow : OpenClaim := { program := "ytijegoheilmmpab", sum := "6f6800fb5e74c16fc3c00a7c0f511cd56cf98af4932aec75781b3943ad683811", func := "loop.example/g00403/laws.FnExactBuildQuads", spec := "fnExactBuildQuads", apart := false }
def FnExactBuildQuadsSaid : Prop := fnExactBuildQuadsRow.holds Try.pinned (OpenSpec.ofChange fnExactBuildQuadsSpec)

/-- ITS FALSE NEIGHBOUR: 'it returns false'. Refute it at one input. -/
def fnExactBuildQuadsWrong : ChangeSpec := { name := "fnExactBuildQuads", fn := fun _ => fun
  | [d1, d2] => { results := [.lit (.bool false)], args := [d1, d2] }
  | _ => none }
def FnExactBuildQuadsWrongFalsely : Prop := fnExactBuildQuadsRow.holds Try.pinned (OpenSpec.ofChange fnExactBuildQuadsWrong)

/-- 'laws.FnExactQuadsFault': WHATEVER THE INPUT: true; the input reads as it did. -/
def fnExactQuadsFaultSpec : ChangeSpec := { name := "fnExactQuadsFault", fn := fun _ => fun
  | [d] => { results := [.lit (.bool true)], args := [d] }
  | _ => none }
def fnExactQuadsFaultRow : OpenClaim := { program := "ytijegoheilmmpab", sum := "6f6800fb5e74c16fc3c00a7c0f511cd56cf98af4932aec75781b3943ad683811", func := "loop.example/g00403/laws.FnExactQuadsFault", spec := "fnExactQuadsFault", unfollowed := true, recurses := true, apart := false }
def FnExactQuadsFaultSaid : Prop := fnExactQuadsFaultRow.holds Try.pinned (OpenSpec.ofChange fnExactQuadsFaultSpec)

/-- ITS FALSE NEIGHBOUR: 'it returns false'. Refute it at one input. -/
def fnExactQuadsFaultWrong : ChangeSpec := { name := "fnExactQuadsFault", fn := fun _ => fun
  | [d] => { results := [.lit (.bool false)], args := [d] }
  | _ => none }
def FnExactQuadsFaultWrongFalsely : Prop := fnExactQuadsFaultRow.holds Try.pinned (OpenSpec.ofChange fnExactQuadsFaultWrong)

/- THE SECOND FORM. 'bulk': how many values and letters a reading holds, each counted each time it is reached (what is shared counts as often as it is met; a slice's spare places count too). A statement '..UptoSaid' is the law's where the arguments, and the package variables that the reading takes, are together of bulk at most 1048576: NARROWER than '..Said'. Prove '..Said' where nothing that the law and all that it calls make is longer than what came in: it says more and counts as full. Else prove '..UptoSaid'. A law counts once. -/
mutual
def uptoBulk {H : Type} : DataW H → Nat
  | .lit (.string bytes) => bytes.length + 1
  | .lit _ => 1
  | .nil => 1
  | .ptr d => uptoBulk d + 1
  | .slice elems spare => uptoBulkAll elems + uptoBulkAll spare + 1
  | .agg parts => uptoBulkAll parts + 1
  | .iface _ d => uptoBulk d + 1
  | .map entries => uptoBulkEntries entries + 1
  | .held _ => 1
def uptoBulkAll {H : Type} : List (DataW H) → Nat
  | [] => 0
  | d :: r => uptoBulk d + uptoBulkAll r
def uptoBulkEntries {H : Type} : List (Lit × DataW H) → Nat
  | [] => 0
  | x :: r => uptoBulkEntry x + uptoBulkEntries r
def uptoBulkEntry {H : Type} : Lit × DataW H → Nat
  | (.string bytes, d) => bytes.length + uptoBulk d + 1
  | (_, d) => uptoBulk d + 1
 end
def uptoSmall : (H : Type) → List (DataW H) → Bool := fun _ ds => decide (uptoBulkAll ds ≤ 1048576)
def OpenSpec.upto (s : _root_.Go.ChangeSpec) : _root_.Go.OpenSpec := { _root_.Go.OpenSpec.ofChange s with cond := some uptoSmall }

/-- 'laws.FnExactSortFeatures', WHERE WHAT IT READS IS OF BULK AT MOST 1048576: true; the input reads as it did. -/
def fnExactSortFeaturesUptoRow : OpenClaim := { program := "ytijegoheilmmpab", sum := "6f6800fb5e74c16fc3c00a7c0f511cd56cf98af4932aec75781b3943ad683811", func := "loop.example/g00403/laws.FnExactSortFeatures", spec := "fnExactSortFeatures", unfollowed := true, recurses := true, apart := false, narrowed := true }
def FnExactSortFeaturesUptoSaid : Prop := fnExactSortFeaturesUptoRow.holds Try.pinned (OpenSpec.upto fnExactSortFeaturesSpec)

/-- 'laws.FnExactEntriesFault', WHERE WHAT IT READS IS OF BULK AT MOST 1048576: true; the input reads as it did. -/
def fnExactEntriesFaultUptoRow : OpenClaim := { program := "ytijegoheilmmpab", sum := "6f6800fb5e74c16fc3c00a7c0f511cd56cf98af4932aec75781b3943ad683811", func := "loop.example/g00403/laws.FnExactEntriesFault", spec := "fnExactEntriesFault", apart := false, narrowed := true }
def FnExactEntriesFaultUptoSaid : Prop := fnExactEntriesFaultUptoRow.holds Try.pinned (OpenSpec.upto fnExactEntriesFaultSpec)

/-- 'laws.FnExactBuildQuads', WHERE WHAT IT READS IS OF BULK AT MOST 1048576: true; the input reads as it did. -/
def fnExactBuildQuadsUptoRow : OpenClaim := { program := "ytijegoheilmmpab", sum := "6f6800fb5e74c16fc3c00a7c0f511cd56cf98af4932aec75781b3943ad683811", func := "loop.example/g00403/laws.FnExactBuildQuads", spec := "fnExactBuildQuads", apart := false, narrowed := true }
def FnExactBuildQuadsUptoSaid : Prop := fnExactBuildQuadsUptoRow.holds Try.pinned (OpenSpec.upto fnExactBuildQuadsSpec)

/-- 'laws.FnExactQuadsFault', WHERE WHAT IT READS IS OF BULK AT MOST 1048576: true; the input reads as it did. -/
def fnExactQuadsFaultUptoRow : OpenClaim := { program := "ytijegoheilmmpab", sum := "6f6800fb5e74c16fc3c00a7c0f511cd56cf98af4932aec75781b3943ad683811", func := "loop.example/g00403/laws.FnExactQuadsFault", spec := "fnExactQuadsFault", unfollowed := true, recurses := true, apart := false, narrowed := true }
def FnExactQuadsFaultUptoSaid : Prop := fnExactQuadsFaultUptoRow.holds Try.pinned (OpenSpec.upto fnExactQuadsFaultSpec)

end Rows
end Go.Proofs.Ytijegoheilmmpab
