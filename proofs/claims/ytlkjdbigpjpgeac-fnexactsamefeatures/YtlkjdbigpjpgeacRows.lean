/-
  No cell of these rows narrows 'for every input' (looked for: loops, veiled, ifaces, maps, wideKeys, modest, calm, conditions, laid).
  DERIVED. THE GIVEN ROWS OF THIS SEAT. 4 by the template 'for every input the law returns true; each argument reads behind the call as it read before'; 0 by the template 'total and deterministic' (their statements: YtlkjdbigpjpgeacTotals.lean).
  GIVEN WITH THE SEED: the statements are not yours to turn. If you find one false, say at which input.
  Laid BY PROGRAM, IN A SANDBOX (cutbox-rows.mjs): the forced cells as the released guide's own fill.sh prints them over the translation b2444f651b0bca5c… (all of the seat's roots in one cut). By AI agents, Wed Nov 11 2026. No macro, syntax, notation, axiom, sorry.
-/
import Derived.Test.YtlkjdbigpjpgeacChecked
import GoSem.Claim
import GoSem.ClaimJoined
import GoSem.ClaimMapViews
import Derived.JoinedTies
import Derived.KernelRfl
namespace Go.Proofs.Ytlkjdbigpjpgeac
/- THE CELL 'sum', in the pinned program and in every row, IS THE sha256 OF THE DUMP (.gsa) THAT YtlkjdbigpjpgeacProg.lean LOADS. Nothing in Lean hashes anything: it is a label: what it is worth is what the hold of that sum in a sandbox is worth. -/
noncomputable def Try.pinned : Pinned := { name := "ytlkjdbigpjpgeac", sum := "b2444f651b0bca5c6dfb418c776c8c6e489bae92d463f7e03be74499270f1502", checked := Try.checked }
namespace Rows
def none {H : Type} : Left H := { results := [], args := [] }

/-- 'laws.FnExactFeatureFault': WHATEVER THE INPUT: true; the input reads as it did. -/
def fnExactFeatureFaultSpec : ChangeSpec := { name := "fnExactFeatureFault", fn := fun _ => fun
  | [d] => { results := [.lit (.bool true)], args := [d] }
  | _ => none }
def fnExactFeatureFaultRow : OpenClaim := { program := "ytlkjdbigpjpgeac", sum := "b2444f651b0bca5c6dfb418c776c8c6e489bae92d463f7e03be74499270f1502", func := "loop.example/g00403/laws.FnExactFeatureFault", spec := "fnExactFeatureFault", unfollowed := true, recurses := true, apart := false }
def FnExactFeatureFaultSaid : Prop := fnExactFeatureFaultRow.holds Try.pinned (OpenSpec.ofChange fnExactFeatureFaultSpec)

/-- ITS FALSE NEIGHBOUR: 'it returns false'. Refute it at one input. -/
def fnExactFeatureFaultWrong : ChangeSpec := { name := "fnExactFeatureFault", fn := fun _ => fun
  | [d] => { results := [.lit (.bool false)], args := [d] }
  | _ => none }
def FnExactFeatureFaultWrongFalsely : Prop := fnExactFeatureFaultRow.holds Try.pinned (OpenSpec.ofChange fnExactFeatureFaultWrong)

/-- 'laws.FnExactFeaturesFault': WHATEVER THE INPUT: true; the input reads as it did. -/
def fnExactFeaturesFaultSpec : ChangeSpec := { name := "fnExactFeaturesFault", fn := fun _ => fun
  | [d] => { results := [.lit (.bool true)], args := [d] }
  | _ => none }
def fnExactFeaturesFaultRow : OpenClaim := { program := "ytlkjdbigpjpgeac", sum := "b2444f651b0bca5c6dfb418c776c8c6e489bae92d463f7e03be74499270f1502", func := "loop.example/g00403/laws.FnExactFeaturesFault", spec := "fnExactFeaturesFault", unfollowed := true, recurses := true, apart := false }
def FnExactFeaturesFaultSaid : Prop := fnExactFeaturesFaultRow.holds Try.pinned (OpenSpec.ofChange fnExactFeaturesFaultSpec)

/-- ITS FALSE NEIGHBOUR: 'it returns false'. Refute it at one input. -/
def fnExactFeaturesFaultWrong : ChangeSpec := { name := "fnExactFeaturesFault", fn := fun _ => fun
  | [d] => { results := [.lit (.bool false)], args := [d] }
  | _ => none }
def FnExactFeaturesFaultWrongFalsely : Prop := fnExactFeaturesFaultRow.holds Try.pinned (OpenSpec.ofChange fnExactFeaturesFaultWrong)

/-- 'laws.FnExactSortFeatures': WHATEVER THE INPUT: true; the input reads as it did. -/
def fnExactSortFeaturesSpec : ChangeSpec := { name := "fnExactSortFeatures", fn := fun _ => fun
  | [d] => { results := [.lit (.bool true)], args := [d] }
  | _ => none }
def fnExactSortFeaturesRow : OpenClaim := { program := "ytlkjdbigpjpgeac", sum := "b2444f651b0bca5c6dfb418c776c8c6e489bae92d463f7e03be74499270f1502", func := "loop.example/g00403/laws.FnExactSortFeatures", spec := "fnExactSortFeatures", unfollowed := true, recurses := true, apart := false }
def FnExactSortFeaturesSaid : Prop := fnExactSortFeaturesRow.holds Try.pinned (OpenSpec.ofChange fnExactSortFeaturesSpec)

/-- ITS FALSE NEIGHBOUR: 'it returns false'. Refute it at one input. -/
def fnExactSortFeaturesWrong : ChangeSpec := { name := "fnExactSortFeatures", fn := fun _ => fun
  | [d] => { results := [.lit (.bool false)], args := [d] }
  | _ => none }
def FnExactSortFeaturesWrongFalsely : Prop := fnExactSortFeaturesRow.holds Try.pinned (OpenSpec.ofChange fnExactSortFeaturesWrong)

/-- 'laws.FnExactSameFeatures': WHATEVER THE INPUT: true; the input reads as it did. -/
def fnExactSameFeaturesSpec : ChangeSpec := { name := "fnExactSameFeatures", fn := fun _ => fun
  | [d1, d2] => { results := [.lit (.bool true)], args := [d1, d2] }
  | _ => none }
def fnExactSameFeaturesRow : OpenClaim := { program := "ytlkjdbigpjpgeac", sum := "b2444f651b0bca5c6dfb418c776c8c6e489bae92d463f7e03be74499270f1502", func := "loop.example/g00403/laws.FnExactSameFeatures", spec := "fnExactSameFeatures", unfollowed := true, recurses := true, apart := false }
def FnExactSameFeaturesSaid : Prop := fnExactSameFeaturesRow.holds Try.pinned (OpenSpec.ofChange fnExactSameFeaturesSpec)

/-- ITS FALSE NEIGHBOUR: 'it returns false'. Refute it at one input. -/
def fnExactSameFeaturesWrong : ChangeSpec := { name := "fnExactSameFeatures", fn := fun _ => fun
  | [d1, d2] => { results := [.lit (.bool false)], args := [d1, d2] }
  | _ => none }
def FnExactSameFeaturesWrongFalsely : Prop := fnExactSameFeaturesRow.holds Try.pinned (OpenSpec.ofChange fnExactSameFeaturesWrong)

/- THE SECOND FORM. 'bulk': how many values and letters a reading holds, each counted each time it is reached (what is shared counts as often as it is met; a slice's spare places count too). A statement '..UptoSaid' is the law's where the arguments, and the package variables that the reading takes, are together of bulk at most 1048576: NARROWER than '..Said'. Prove '..Said' where nothing that the law and all that it calls make is longer than what came in: it says more and counts as full. Else prove '..UptoSaid'. A law counts once. -/
mutual
def uptoBulk {H : Type} : DataW H → Nat
  | .lit (.string bytes) => bytes.length + 1
  | .lit _ => 1
  | .nil => 1
  | .ptr d => uptoBulk d + 1
  | .slice elems spare => uptoBulkAll elems + uptoBulkAll spare + 1
  | .agg parts => uptoBulkAll parts + 1
  | .iface _ d => uptoBulk d + 1
  | .map entries => uptoBulkEntries entries + 1
  | .held _ => 1
def uptoBulkAll {H : Type} : List (DataW H) → Nat
  | [] => 0
  | d :: r => uptoBulk d + uptoBulkAll r
def uptoBulkEntries {H : Type} : List (Lit × DataW H) → Nat
  | [] => 0
  | x :: r => uptoBulkEntry x + uptoBulkEntries r
def uptoBulkEntry {H : Type} : Lit × DataW H → Nat
  | (.string bytes, d) => bytes.length + uptoBulk d + 1
  | (_, d) => uptoBulk d + 1
 end
def uptoSmall : (H : Type) → List (DataW H) → Bool := fun _ ds => decide (uptoBulkAll ds ≤ 1048576)
def OpenSpec.upto (s : _root_.Go.ChangeSpec) : _root_.Go.OpenSpec := { _root_.Go.OpenSpec.ofChange s with cond := some uptoSmall }

/-- 'laws.FnExactFeatureFault', WHERE WHAT IT READS IS OF BULK AT MOST 1048576: true; the input reads as it did. -/
def fnExactFeatureFaultUptoRow : OpenClaim := { program := "ytlkjdbigpjpgeac", sum := "b2444f651b0bca5c6dfb418c776c8c6e489bae92d463f7e03be74499270f1502", func := "loop.example/g00403/laws.FnExactFeatureFault", spec := "fnExactFeatureFault", unfollowed := true, recurses := true, apart := false, narrowed := true }
def FnExactFeatureFaultUptoSaid : Prop := fnExactFeatureFaultUptoRow.holds Try.pinned (OpenSpec.upto fnExactFeatureFaultSpec)

/-- 'laws.FnExactFeaturesFault', WHERE WHAT IT READS IS OF BULK AT MOST 1048576: true; the input reads as it did. -/
def fnExactFeaturesFaultUptoRow : OpenClaim := { program := "ytlkjdbigpjpgeac", sum := "b2444f651b0bca5c6dfb418c776c8c6e489bae92d463f7e03be74499270f1502", func := "loop.example/g00403/laws.FnExactFeaturesFault", spec := "fnExactFeaturesFault", unfollowed := true, recurses := true, apart := false, narrowed := true }
def FnExactFeaturesFaultUptoSaid : Prop := fnExactFeaturesFaultUptoRow.holds Try.pinned (OpenSpec.upto fnExactFeaturesFaultSpec)

/-- 'laws.FnExactSortFeatures', WHERE WHAT IT READS IS OF BULK AT MOST 1048576: true; the input reads as it did. -/
def fnExactSortFeaturesUptoRow : OpenClaim := { program := "ytlkjdbigpjpgeac", sum := "b2444f651b0bca5c6dfb418c776c8c6e489bae92d463f7e03be74499270f1502", func := "loop.example/g00403/laws.FnExactSortFeatures", spec := "fnExactSortFeatures", unfollowed := true, recurses := true, apart := false, narrowed := true }
def FnExactSortFeaturesUptoSaid : Prop := fnExactSortFeaturesUptoRow.holds Try.pinned (OpenSpec.upto fnExactSortFeaturesSpec)

/-- 'laws.FnExactSameFeatures', WHERE WHAT IT READS IS OF BULK AT MOST 1048576: true; the input reads as it did. -/
def fnExactSameFeaturesUptoRow : OpenClaim := { program := "ytlkjdbigpjpgeac", sum := "b2444f651b0bca5c6dfb418c776c8c6e489bae92d463f7e03be74499270f1502", func := "loop.example/g00403/laws.FnExactSameFeatures", spec := "fnExactSameFeatures", unfollowed := true, recurses := true, apart := false, narrowed := true }
def FnExactSameFeaturesUptoSaid : Prop := fnExactSameFeaturesUptoRow.holds Try.pinned (OpenSpec.upto fnExactSameFeaturesSpec)

end Rows
end Go.Proofs.Ytlkjdbigpjpgeac
