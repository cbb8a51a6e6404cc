/-
  No cell of these rows narrows 'for every input' (looked for: loops, veiled, ifaces, maps, wideKeys, modest, calm, conditions, laid).
  DERIVED. THE GIVEN ROWS OF THIS SEAT. 5 by the template 'for every input the law returns true; each argument reads behind the call as it read before'; 0 by the template 'total and deterministic' (their statements: YtjnglencgkhhaabTotals.lean).
  GIVEN WITH THE SEED: the statements are not yours to turn. If you find one false, say at which input.
  Laid BY PROGRAM, IN A SANDBOX (cutbox-rows.mjs): the forced cells as the released guide's own fill.sh prints them over the translation 830b7a4ed244c0c3… (all of the seat's roots in one cut). By AI agents, Wed Nov 11 2026. No macro, syntax, notation, axiom, sorry.
-/
import Derived.Test.YtjnglencgkhhaabChecked
import GoSem.Claim
import GoSem.ClaimJoined
import GoSem.ClaimMapViews
import Derived.JoinedTies
import Derived.KernelRfl
namespace Go.Proofs.Ytjnglencgkhhaab
/- THE CELL 'sum', in the pinned program and in every row, IS THE sha256 OF THE DUMP (.gsa) THAT YtjnglencgkhhaabProg.lean LOADS. Nothing in Lean hashes anything: it is a label: what it is worth is what the hold of that sum in a sandbox is worth. -/
noncomputable def Try.pinned : Pinned := { name := "ytjnglencgkhhaab", sum := "830b7a4ed244c0c3b70aa4b0b8dab11dfdf0e9c5bc514933672512d7dc0bfd27", checked := Try.checked }
namespace Rows
def none {H : Type} : Left H := { results := [], args := [] }

/-- 'laws.FnExactSortFeatures': WHATEVER THE INPUT: true; the input reads as it did. -/
def fnExactSortFeaturesSpec : ChangeSpec := { name := "fnExactSortFeatures", fn := fun _ => fun
  | [d] => { results := [.lit (.bool true)], args := [d] }
  | _ => none }
def fnExactSortFeaturesRow : OpenClaim := { program := "ytjnglencgkhhaab", sum := "830b7a4ed244c0c3b70aa4b0b8dab11dfdf0e9c5bc514933672512d7dc0bfd27", func := "loop.example/g00403/laws.FnExactSortFeatures", spec := "fnExactSortFeatures", unfollowed := true, recurses := true, apart := false }
def FnExactSortFeaturesSaid : Prop := fnExactSortFeaturesRow.holds Try.pinned (OpenSpec.ofChange fnExactSortFeaturesSpec)

/-- ITS FALSE NEIGHBOUR: 'it returns false'. Refute it at one input. -/
def fnExactSortFeaturesWrong : ChangeSpec := { name := "fnExactSortFeatures", fn := fun _ => fun
  | [d] => { results := [.lit (.bool false)], args := [d] }
  | _ => none }
def FnExactSortFeaturesWrongFalsely : Prop := fnExactSortFeaturesRow.holds Try.pinned (OpenSpec.ofChange fnExactSortFeaturesWrong)

/-- 'laws.FnExactPixelCount': WHATEVER THE INPUT: true; the input reads as it did. -/
def fnExactPixelCountSpec : ChangeSpec := { name := "fnExactPixelCount", fn := fun _ => fun
  | [d] => { results := [.lit (.bool true)], args := [d] }
  | _ => none }
def fnExactPixelCountRow : OpenClaim := { program := "ytjnglencgkhhaab", sum := "830b7a4ed244c0c3b70aa4b0b8dab11dfdf0e9c5bc514933672512d7dc0bfd27", func := "loop.example/g00403/laws.FnExactPixelCount", spec := "fnExactPixelCount", apart := false }
def FnExactPixelCountSaid : Prop := fnExactPixelCountRow.holds Try.pinned (OpenSpec.ofChange fnExactPixelCountSpec)

/-- ITS FALSE NEIGHBOUR: 'it returns false'. Refute it at one input. -/
def fnExactPixelCountWrong : ChangeSpec := { name := "fnExactPixelCount", fn := fun _ => fun
  | [d] => { results := [.lit (.bool false)], args := [d] }
  | _ => none }
def FnExactPixelCountWrongFalsely : Prop := fnExactPixelCountRow.holds Try.pinned (OpenSpec.ofChange fnExactPixelCountWrong)

/-- 'laws.FnExactCentreOf': WHATEVER THE INPUT: true; the input reads as it did. -/
def fnExactCentreOfSpec : ChangeSpec := { name := "fnExactCentreOf", fn := fun _ => fun
  | [d1, d2, d3] => { results := [.lit (.bool true)], args := [d1, d2, d3] }
  | _ => none }
def fnExactCentreOfRow : OpenClaim := { program := "ytjnglencgkhhaab", sum := "830b7a4ed244c0c3b70aa4b0b8dab11dfdf0e9c5bc514933672512d7dc0bfd27", func := "loop.example/g00403/laws.FnExactCentreOf", spec := "fnExactCentreOf", apart := false }
def FnExactCentreOfSaid : Prop := fnExactCentreOfRow.holds Try.pinned (OpenSpec.ofChange fnExactCentreOfSpec)

/-- ITS FALSE NEIGHBOUR: 'it returns false'. Refute it at one input. -/
def fnExactCentreOfWrong : ChangeSpec := { name := "fnExactCentreOf", fn := fun _ => fun
  | [d1, d2, d3] => { results := [.lit (.bool false)], args := [d1, d2, d3] }
  | _ => none }
def FnExactCentreOfWrongFalsely : Prop := fnExactCentreOfRow.holds Try.pinned (OpenSpec.ofChange fnExactCentreOfWrong)

/-- 'laws.FnExactReachOf': WHATEVER THE INPUT: true; the input reads as it did. -/
def fnExactReachOfSpec : ChangeSpec := { name := "fnExactReachOf", fn := fun _ => fun
  | [d1, d2] => { results := [.lit (.bool true)], args := [d1, d2] }
  | _ => none }
def fnExactReachOfRow : OpenClaim := { program := "ytjnglencgkhhaab", sum := "830b7a4ed244c0c3b70aa4b0b8dab11dfdf0e9c5bc514933672512d7dc0bfd27", func := "loop.example/g00403/laws.FnExactReachOf", spec := "fnExactReachOf", unfollowed := true, recurses := true, apart := false }
def FnExactReachOfSaid : Prop := fnExactReachOfRow.holds Try.pinned (OpenSpec.ofChange fnExactReachOfSpec)

/-- ITS FALSE NEIGHBOUR: 'it returns false'. Refute it at one input. -/
def fnExactReachOfWrong : ChangeSpec := { name := "fnExactReachOf", fn := fun _ => fun
  | [d1, d2] => { results := [.lit (.bool false)], args := [d1, d2] }
  | _ => none }
def FnExactReachOfWrongFalsely : Prop := fnExactReachOfRow.holds Try.pinned (OpenSpec.ofChange fnExactReachOfWrong)

/-- 'laws.FnExactDoesCover': WHATEVER THE INPUT: true; the input reads as it did. -/
def fnExactDoesCoverSpec : ChangeSpec := { name := "fnExactDoesCover", fn := fun _ => fun
  | [d1, d2, d3, d4] => { results := [.lit (.bool true)], args := [d1, d2, d3, d4] }
  | _ => none }
def fnExactDoesCoverRow : OpenClaim := { program := "ytjnglencgkhhaab", sum := "830b7a4ed244c0c3b70aa4b0b8dab11dfdf0e9c5bc514933672512d7dc0bfd27", func := "loop.example/g00403/laws.FnExactDoesCover", spec := "fnExactDoesCover", unfollowed := true, recurses := true, apart := false }
def FnExactDoesCoverSaid : Prop := fnExactDoesCoverRow.holds Try.pinned (OpenSpec.ofChange fnExactDoesCoverSpec)

/-- ITS FALSE NEIGHBOUR: 'it returns false'. Refute it at one input. -/
def fnExactDoesCoverWrong : ChangeSpec := { name := "fnExactDoesCover", fn := fun _ => fun
  | [d1, d2, d3, d4] => { results := [.lit (.bool false)], args := [d1, d2, d3, d4] }
  | _ => none }
def FnExactDoesCoverWrongFalsely : Prop := fnExactDoesCoverRow.holds Try.pinned (OpenSpec.ofChange fnExactDoesCoverWrong)

/- THE SECOND FORM. 'bulk': how many values and letters a reading holds, each counted each time it is reached (what is shared counts as often as it is met; a slice's spare places count too). A statement '..UptoSaid' is the law's where the arguments, and the package variables that the reading takes, are together of bulk at most 1048576: NARROWER than '..Said'. Prove '..Said' where nothing that the law and all that it calls make is longer than what came in: it says more and counts as full. Else prove '..UptoSaid'. A law counts once. -/
mutual
def uptoBulk {H : Type} : DataW H → Nat
  | .lit (.string bytes) => bytes.length + 1
  | .lit _ => 1
  | .nil => 1
  | .ptr d => uptoBulk d + 1
  | .slice elems spare => uptoBulkAll elems + uptoBulkAll spare + 1
  | .agg parts => uptoBulkAll parts + 1
  | .iface _ d => uptoBulk d + 1
  | .map entries => uptoBulkEntries entries + 1
  | .held _ => 1
def uptoBulkAll {H : Type} : List (DataW H) → Nat
  | [] => 0
  | d :: r => uptoBulk d + uptoBulkAll r
def uptoBulkEntries {H : Type} : List (Lit × DataW H) → Nat
  | [] => 0
  | x :: r => uptoBulkEntry x + uptoBulkEntries r
def uptoBulkEntry {H : Type} : Lit × DataW H → Nat
  | (.string bytes, d) => bytes.length + uptoBulk d + 1
  | (_, d) => uptoBulk d + 1
 end
def uptoSmall : (H : Type) → List (DataW H) → Bool := fun _ ds => decide (uptoBulkAll ds ≤ 1048576)
def OpenSpec.upto (s : _root_.Go.ChangeSpec) : _root_.Go.OpenSpec := { _root_.Go.OpenSpec.ofChange s with cond := some uptoSmall }

/-- 'laws.FnExactSortFeatures', WHERE WHAT IT READS IS OF BULK AT MOST 1048576: true; the input reads as it did. -/
def fnExactSortFeaturesUptoRow : OpenClaim := { program := "ytjnglencgkhhaab", sum := "830b7a4ed244c0c3b70aa4b0b8dab11dfdf0e9c5bc514933672512d7dc0bfd27", func := "loop.example/g00403/laws.FnExactSortFeatures", spec := "fnExactSortFeatures", unfollowed := true, recurses := true, apart := false, narrowed := true }
def FnExactSortFeaturesUptoSaid : Prop := fnExactSortFeaturesUptoRow.holds Try.pinned (OpenSpec.upto fnExactSortFeaturesSpec)

/-- 'laws.FnExactPixelCount', WHERE WHAT IT READS IS OF BULK AT MOST 1048576: true; the input reads as it did. -/
def fnExactPixelCountUptoRow : OpenClaim := { program := "ytjnglencgkhhaab", sum := "830b7a4ed244c0c3b70aa4b0b8dab11dfdf0e9c5bc514933672512d7dc0bfd27", func := "loop.example/g00403/laws.FnExactPixelCount", spec := "fnExactPixelCount", apart := false, narrowed := true }
def FnExactPixelCountUptoSaid : Prop := fnExactPixelCountUptoRow.holds Try.pinned (OpenSpec.upto fnExactPixelCountSpec)

/-- 'laws.FnExactCentreOf', WHERE WHAT IT READS IS OF BULK AT MOST 1048576: true; the input reads as it did. -/
def fnExactCentreOfUptoRow : OpenClaim := { program := "ytjnglencgkhhaab", sum := "830b7a4ed244c0c3b70aa4b0b8dab11dfdf0e9c5bc514933672512d7dc0bfd27", func := "loop.example/g00403/laws.FnExactCentreOf", spec := "fnExactCentreOf", apart := false, narrowed := true }
def FnExactCentreOfUptoSaid : Prop := fnExactCentreOfUptoRow.holds Try.pinned (OpenSpec.upto fnExactCentreOfSpec)

/-- 'laws.FnExactReachOf', WHERE WHAT IT READS IS OF BULK AT MOST 1048576: true; the input reads as it did. -/
def fnExactReachOfUptoRow : OpenClaim := { program := "ytjnglencgkhhaab", sum := "830b7a4ed244c0c3b70aa4b0b8dab11dfdf0e9c5bc514933672512d7dc0bfd27", func := "loop.example/g00403/laws.FnExactReachOf", spec := "fnExactReachOf", unfollowed := true, recurses := true, apart := false, narrowed := true }
def FnExactReachOfUptoSaid : Prop := fnExactReachOfUptoRow.holds Try.pinned (OpenSpec.upto fnExactReachOfSpec)

/-- 'laws.FnExactDoesCover', WHERE WHAT IT READS IS OF BULK AT MOST 1048576: true; the input reads as it did. -/
def fnExactDoesCoverUptoRow : OpenClaim := { program := "ytjnglencgkhhaab", sum := "830b7a4ed244c0c3b70aa4b0b8dab11dfdf0e9c5bc514933672512d7dc0bfd27", func := "loop.example/g00403/laws.FnExactDoesCover", spec := "fnExactDoesCover", unfollowed := true, recurses := true, apart := false, narrowed := true }
def FnExactDoesCoverUptoSaid : Prop := fnExactDoesCoverUptoRow.holds Try.pinned (OpenSpec.upto fnExactDoesCoverSpec)

end Rows
end Go.Proofs.Ytjnglencgkhhaab
