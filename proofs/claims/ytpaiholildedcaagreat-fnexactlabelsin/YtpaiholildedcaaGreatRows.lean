/-
  No cell of these rows narrows 'for every input' (looked for: loops, veiled, ifaces, maps, wideKeys, modest, calm, conditions, laid).
  DERIVED. THE GIVEN ROWS OF THIS SEAT. 4 by the template 'for every input the law returns true; each argument reads behind the call as it read before'; 0 by the template 'total and deterministic' (their statements: YtpaiholildedcaaGreatTotals.lean).
  GIVEN WITH THE SEED: the statements are not yours to turn. If you find one false, say at which input.
  Laid BY PROGRAM, IN A SANDBOX (cutbox-rows.mjs): the forced cells as the released guide's own fill.sh prints them over the translation 656172255c2aab85… (all of the seat's roots in one cut). By AI agents, Wed Nov 11 2026. No macro, syntax, notation, axiom, sorry.
-/
import Derived.Test.YtpaiholildedcaaGreatChecked
import GoSem.Claim
import GoSem.ClaimJoined
import GoSem.ClaimMapViews
import Derived.JoinedTies
import Derived.KernelRfl
namespace Go.Proofs.YtpaiholildedcaaGreat
/- THE CELL 'sum', in the pinned program and in every row, IS THE sha256 OF THE DUMP (.gsa) THAT YtpaiholildedcaaGreatProg.lean LOADS. Nothing in Lean hashes anything: it is a label: what it is worth is what the hold of that sum in a sandbox is worth. -/
noncomputable def Tryz.pinned : Pinned := { name := "ytpaiholildedcaagreat", sum := "656172255c2aab85aacc492fc6780cd25e5ae9fabbb00cf453062a03af584db9", checked := Tryz.checked }
namespace Rows
def none {H : Type} : Left H := { results := [], args := [] }

/-- 'laws.FnExactNewViewer': WHATEVER THE INPUT: true; the input reads as it did. -/
def fnExactNewViewerSpec : ChangeSpec := { name := "fnExactNewViewer", fn := fun _ => fun
  | [d1, d2] => { results := [.lit (.bool true)], args := [d1, d2] }
  | _ => none }
def fnExactNewViewerRow : OpenClaim := { program := "ytpaiholildedcaagreat", sum := "656172255c2aab85aacc492fc6780cd25e5ae9fabbb00cf453062a03af584db9", func := "loop.example/g00403/laws.FnExactNewViewer", spec := "fnExactNewViewer", unfollowed := true, recurses := true, plainKeys := false, apart := false }
def FnExactNewViewerSaid : Prop := fnExactNewViewerRow.holds Tryz.pinned (OpenSpec.ofChange fnExactNewViewerSpec)

/-- ITS FALSE NEIGHBOUR: 'it returns false'. Refute it at one input. -/
def fnExactNewViewerWrong : ChangeSpec := { name := "fnExactNewViewer", fn := fun _ => fun
  | [d1, d2] => { results := [.lit (.bool false)], args := [d1, d2] }
  | _ => none }
def FnExactNewViewerWrongFalsely : Prop := fnExactNewViewerRow.holds Tryz.pinned (OpenSpec.ofChange fnExactNewViewerWrong)

/-- 'laws.FnExactFrameOf': WHATEVER THE INPUT: true; the input reads as it did. -/
def fnExactFrameOfSpec : ChangeSpec := { name := "fnExactFrameOf", fn := fun _ => fun
  | [d] => { results := [.lit (.bool true)], args := [d] }
  | _ => none }
def fnExactFrameOfRow : OpenClaim := { program := "ytpaiholildedcaagreat", sum := "656172255c2aab85aacc492fc6780cd25e5ae9fabbb00cf453062a03af584db9", func := "loop.example/g00403/laws.FnExactFrameOf", spec := "fnExactFrameOf", unfollowed := true, recurses := true, plainKeys := false, apart := false }
def FnExactFrameOfSaid : Prop := fnExactFrameOfRow.holds Tryz.pinned (OpenSpec.ofChange fnExactFrameOfSpec)

/-- ITS FALSE NEIGHBOUR: 'it returns false'. Refute it at one input. -/
def fnExactFrameOfWrong : ChangeSpec := { name := "fnExactFrameOf", fn := fun _ => fun
  | [d] => { results := [.lit (.bool false)], args := [d] }
  | _ => none }
def FnExactFrameOfWrongFalsely : Prop := fnExactFrameOfRow.holds Tryz.pinned (OpenSpec.ofChange fnExactFrameOfWrong)

/-- 'laws.FnExactLabelsIn': WHATEVER THE INPUT: true; the input reads as it did. -/
def fnExactLabelsInSpec : ChangeSpec := { name := "fnExactLabelsIn", fn := fun _ => fun
  | [d] => { results := [.lit (.bool true)], args := [d] }
  | _ => none }
def fnExactLabelsInRow : OpenClaim := { program := "ytpaiholildedcaagreat", sum := "656172255c2aab85aacc492fc6780cd25e5ae9fabbb00cf453062a03af584db9", func := "loop.example/g00403/laws.FnExactLabelsIn", spec := "fnExactLabelsIn", unfollowed := true, recurses := true, plainKeys := false, apart := false }
def FnExactLabelsInSaid : Prop := fnExactLabelsInRow.holds Tryz.pinned (OpenSpec.ofChange fnExactLabelsInSpec)

/-- ITS FALSE NEIGHBOUR: 'it returns false'. Refute it at one input. -/
def fnExactLabelsInWrong : ChangeSpec := { name := "fnExactLabelsIn", fn := fun _ => fun
  | [d] => { results := [.lit (.bool false)], args := [d] }
  | _ => none }
def FnExactLabelsInWrongFalsely : Prop := fnExactLabelsInRow.holds Tryz.pinned (OpenSpec.ofChange fnExactLabelsInWrong)

/-- 'laws.FnExactPickIn': WHATEVER THE INPUT: true; the input reads as it did. -/
def fnExactPickInSpec : ChangeSpec := { name := "fnExactPickIn", fn := fun _ => fun
  | [d1, d2, d3] => { results := [.lit (.bool true)], args := [d1, d2, d3] }
  | _ => none }
def fnExactPickInRow : OpenClaim := { program := "ytpaiholildedcaagreat", sum := "656172255c2aab85aacc492fc6780cd25e5ae9fabbb00cf453062a03af584db9", func := "loop.example/g00403/laws.FnExactPickIn", spec := "fnExactPickIn", unfollowed := true, recurses := true, plainKeys := false, apart := false }
def FnExactPickInSaid : Prop := fnExactPickInRow.holds Tryz.pinned (OpenSpec.ofChange fnExactPickInSpec)

/-- ITS FALSE NEIGHBOUR: 'it returns false'. Refute it at one input. -/
def fnExactPickInWrong : ChangeSpec := { name := "fnExactPickIn", fn := fun _ => fun
  | [d1, d2, d3] => { results := [.lit (.bool false)], args := [d1, d2, d3] }
  | _ => none }
def FnExactPickInWrongFalsely : Prop := fnExactPickInRow.holds Tryz.pinned (OpenSpec.ofChange fnExactPickInWrong)

/- THE SECOND FORM. 'bulk': how many values and letters a reading holds, each counted each time it is reached (what is shared counts as often as it is met; a slice's spare places count too). A statement '..UptoSaid' is the law's where the arguments, and the package variables that the reading takes, are together of bulk at most 1048576: NARROWER than '..Said'. Prove '..Said' where nothing that the law and all that it calls make is longer than what came in: it says more and counts as full. Else prove '..UptoSaid'. A law counts once. -/
mutual
def uptoBulk {H : Type} : DataW H → Nat
  | .lit (.string bytes) => bytes.length + 1
  | .lit _ => 1
  | .nil => 1
  | .ptr d => uptoBulk d + 1
  | .slice elems spare => uptoBulkAll elems + uptoBulkAll spare + 1
  | .agg parts => uptoBulkAll parts + 1
  | .iface _ d => uptoBulk d + 1
  | .map entries => uptoBulkEntries entries + 1
  | .held _ => 1
def uptoBulkAll {H : Type} : List (DataW H) → Nat
  | [] => 0
  | d :: r => uptoBulk d + uptoBulkAll r
def uptoBulkEntries {H : Type} : List (Lit × DataW H) → Nat
  | [] => 0
  | x :: r => uptoBulkEntry x + uptoBulkEntries r
def uptoBulkEntry {H : Type} : Lit × DataW H → Nat
  | (.string bytes, d) => bytes.length + uptoBulk d + 1
  | (_, d) => uptoBulk d + 1
 end
def uptoSmall : (H : Type) → List (DataW H) → Bool := fun _ ds => decide (uptoBulkAll ds ≤ 1048576)
def OpenSpec.upto (s : _root_.Go.ChangeSpec) : _root_.Go.OpenSpec := { _root_.Go.OpenSpec.ofChange s with cond := some uptoSmall }

/-- 'laws.FnExactNewViewer', WHERE WHAT IT READS IS OF BULK AT MOST 1048576: true; the input reads as it did. -/
def fnExactNewViewerUptoRow : OpenClaim := { program := "ytpaiholildedcaagreat", sum := "656172255c2aab85aacc492fc6780cd25e5ae9fabbb00cf453062a03af584db9", func := "loop.example/g00403/laws.FnExactNewViewer", spec := "fnExactNewViewer", unfollowed := true, recurses := true, plainKeys := false, apart := false, narrowed := true }
def FnExactNewViewerUptoSaid : Prop := fnExactNewViewerUptoRow.holds Tryz.pinned (OpenSpec.upto fnExactNewViewerSpec)

/-- 'laws.FnExactFrameOf', WHERE WHAT IT READS IS OF BULK AT MOST 1048576: true; the input reads as it did. -/
def fnExactFrameOfUptoRow : OpenClaim := { program := "ytpaiholildedcaagreat", sum := "656172255c2aab85aacc492fc6780cd25e5ae9fabbb00cf453062a03af584db9", func := "loop.example/g00403/laws.FnExactFrameOf", spec := "fnExactFrameOf", unfollowed := true, recurses := true, plainKeys := false, apart := false, narrowed := true }
def FnExactFrameOfUptoSaid : Prop := fnExactFrameOfUptoRow.holds Tryz.pinned (OpenSpec.upto fnExactFrameOfSpec)

/-- 'laws.FnExactLabelsIn', WHERE WHAT IT READS IS OF BULK AT MOST 1048576: true; the input reads as it did. -/
def fnExactLabelsInUptoRow : OpenClaim := { program := "ytpaiholildedcaagreat", sum := "656172255c2aab85aacc492fc6780cd25e5ae9fabbb00cf453062a03af584db9", func := "loop.example/g00403/laws.FnExactLabelsIn", spec := "fnExactLabelsIn", unfollowed := true, recurses := true, plainKeys := false, apart := false, narrowed := true }
def FnExactLabelsInUptoSaid : Prop := fnExactLabelsInUptoRow.holds Tryz.pinned (OpenSpec.upto fnExactLabelsInSpec)

/-- 'laws.FnExactPickIn', WHERE WHAT IT READS IS OF BULK AT MOST 1048576: true; the input reads as it did. -/
def fnExactPickInUptoRow : OpenClaim := { program := "ytpaiholildedcaagreat", sum := "656172255c2aab85aacc492fc6780cd25e5ae9fabbb00cf453062a03af584db9", func := "loop.example/g00403/laws.FnExactPickIn", spec := "fnExactPickIn", unfollowed := true, recurses := true, plainKeys := false, apart := false, narrowed := true }
def FnExactPickInUptoSaid : Prop := fnExactPickInUptoRow.holds Tryz.pinned (OpenSpec.upto fnExactPickInSpec)

end Rows
end Go.Proofs.YtpaiholildedcaaGreat
