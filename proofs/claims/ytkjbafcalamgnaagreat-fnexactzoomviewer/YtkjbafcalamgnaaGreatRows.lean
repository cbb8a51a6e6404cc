/-
  No cell of these rows narrows 'for every input' (looked for: loops, veiled, ifaces, maps, wideKeys, modest, calm, conditions, laid).
  DERIVED. THE GIVEN ROWS OF THIS SEAT. 4 by the template 'for every input the law returns true; each argument reads behind the call as it read before'; 0 by the template 'total and deterministic' (their statements: YtkjbafcalamgnaaGreatTotals.lean).
  GIVEN WITH THE SEED: the statements are not yours to turn. If you find one false, say at which input.
  Laid BY PROGRAM, IN A SANDBOX (cutbox-rows.mjs): the forced cells as the released guide's own fill.sh prints them over the translation c5e1f81267c79aea… (all of the seat's roots in one cut). By AI agents, Wed Nov 11 2026. No macro, syntax, notation, axiom, sorry.
-/
import Derived.Test.YtkjbafcalamgnaaGreatChecked
import GoSem.Claim
import GoSem.ClaimJoined
import GoSem.ClaimMapViews
import Derived.JoinedTies
import Derived.KernelRfl
namespace Go.Proofs.YtkjbafcalamgnaaGreat
/- THE CELL 'sum', in the pinned program and in every row, IS THE sha256 OF THE DUMP (.gsa) THAT YtkjbafcalamgnaaGreatProg.lean LOADS. Nothing in Lean hashes anything: it is a label: what it is worth is what the hold of that sum in a sandbox is worth. -/
noncomputable def Tryz.pinned : Pinned := { name := "ytkjbafcalamgnaagreat", sum := "c5e1f81267c79aeab6b29e3d6b2d9d61a5bf548b3b5da6792715a9fc322e2ec1", checked := Tryz.checked }
namespace Rows
def none {H : Type} : Left H := { results := [], args := [] }

/-- 'laws.FnExactPanViewer': WHATEVER THE INPUT: true; the input reads as it did. -/
def fnExactPanViewerSpec : ChangeSpec := { name := "fnExactPanViewer", fn := fun _ => fun
  | [d1, d2, d3] => { results := [.lit (.bool true)], args := [d1, d2, d3] }
  | _ => none }
def fnExactPanViewerRow : OpenClaim := { program := "ytkjbafcalamgnaagreat", sum := "c5e1f81267c79aeab6b29e3d6b2d9d61a5bf548b3b5da6792715a9fc322e2ec1", func := "loop.example/g00403/laws.FnExactPanViewer", spec := "fnExactPanViewer", unfollowed := true, recurses := true, plainKeys := false, apart := false }
def FnExactPanViewerSaid : Prop := fnExactPanViewerRow.holds Tryz.pinned (OpenSpec.ofChange fnExactPanViewerSpec)

/-- ITS FALSE NEIGHBOUR: 'it returns false'. Refute it at one input. -/
def fnExactPanViewerWrong : ChangeSpec := { name := "fnExactPanViewer", fn := fun _ => fun
  | [d1, d2, d3] => { results := [.lit (.bool false)], args := [d1, d2, d3] }
  | _ => none }
def FnExactPanViewerWrongFalsely : Prop := fnExactPanViewerRow.holds Tryz.pinned (OpenSpec.ofChange fnExactPanViewerWrong)

/-- 'laws.FnExactZoomViewer': WHATEVER THE INPUT: true; the input reads as it did. -/
def fnExactZoomViewerSpec : ChangeSpec := { name := "fnExactZoomViewer", fn := fun _ => fun
  | [d1, d2] => { results := [.lit (.bool true)], args := [d1, d2] }
  | _ => none }
def fnExactZoomViewerRow : OpenClaim := { program := "ytkjbafcalamgnaagreat", sum := "c5e1f81267c79aeab6b29e3d6b2d9d61a5bf548b3b5da6792715a9fc322e2ec1", func := "loop.example/g00403/laws.FnExactZoomViewer", spec := "fnExactZoomViewer", inPlace := ["math.archFloor", "math.Float64bits", "math.Float64frombits", "math.archTrunc"], unfollowed := true, recurses := true, plainKeys := false, apart := false }
def FnExactZoomViewerSaid : Prop := fnExactZoomViewerRow.holds Tryz.pinned (OpenSpec.ofChange fnExactZoomViewerSpec)

/-- ITS FALSE NEIGHBOUR: 'it returns false'. Refute it at one input. -/
def fnExactZoomViewerWrong : ChangeSpec := { name := "fnExactZoomViewer", fn := fun _ => fun
  | [d1, d2] => { results := [.lit (.bool false)], args := [d1, d2] }
  | _ => none }
def FnExactZoomViewerWrongFalsely : Prop := fnExactZoomViewerRow.holds Tryz.pinned (OpenSpec.ofChange fnExactZoomViewerWrong)

/-- 'laws.FnExactSizeViewer': WHATEVER THE INPUT: true; the input reads as it did. -/
def fnExactSizeViewerSpec : ChangeSpec := { name := "fnExactSizeViewer", fn := fun _ => fun
  | [d1, d2, d3] => { results := [.lit (.bool true)], args := [d1, d2, d3] }
  | _ => none }
def fnExactSizeViewerRow : OpenClaim := { program := "ytkjbafcalamgnaagreat", sum := "c5e1f81267c79aeab6b29e3d6b2d9d61a5bf548b3b5da6792715a9fc322e2ec1", func := "loop.example/g00403/laws.FnExactSizeViewer", spec := "fnExactSizeViewer", unfollowed := true, recurses := true, plainKeys := false, apart := false }
def FnExactSizeViewerSaid : Prop := fnExactSizeViewerRow.holds Tryz.pinned (OpenSpec.ofChange fnExactSizeViewerSpec)

/-- ITS FALSE NEIGHBOUR: 'it returns false'. Refute it at one input. -/
def fnExactSizeViewerWrong : ChangeSpec := { name := "fnExactSizeViewer", fn := fun _ => fun
  | [d1, d2, d3] => { results := [.lit (.bool false)], args := [d1, d2, d3] }
  | _ => none }
def FnExactSizeViewerWrongFalsely : Prop := fnExactSizeViewerRow.holds Tryz.pinned (OpenSpec.ofChange fnExactSizeViewerWrong)

/-- 'laws.FnExactMapFault': WHATEVER THE INPUT: true; the input reads as it did. -/
def fnExactMapFaultSpec : ChangeSpec := { name := "fnExactMapFault", fn := fun _ => fun
  | [d] => { results := [.lit (.bool true)], args := [d] }
  | _ => none }
def fnExactMapFaultRow : OpenClaim := { program := "ytkjbafcalamgnaagreat", sum := "c5e1f81267c79aeab6b29e3d6b2d9d61a5bf548b3b5da6792715a9fc322e2ec1", func := "loop.example/g00403/laws.FnExactMapFault", spec := "fnExactMapFault", unfollowed := true, recurses := true, plainKeys := false, apart := false }
def FnExactMapFaultSaid : Prop := fnExactMapFaultRow.holds Tryz.pinned (OpenSpec.ofChange fnExactMapFaultSpec)

/-- ITS FALSE NEIGHBOUR: 'it returns false'. Refute it at one input. -/
def fnExactMapFaultWrong : ChangeSpec := { name := "fnExactMapFault", fn := fun _ => fun
  | [d] => { results := [.lit (.bool false)], args := [d] }
  | _ => none }
def FnExactMapFaultWrongFalsely : Prop := fnExactMapFaultRow.holds Tryz.pinned (OpenSpec.ofChange fnExactMapFaultWrong)

/- THE SECOND FORM. 'bulk': how many values and letters a reading holds, each counted each time it is reached (what is shared counts as often as it is met; a slice's spare places count too). A statement '..UptoSaid' is the law's where the arguments, and the package variables that the reading takes, are together of bulk at most 1048576: NARROWER than '..Said'. Prove '..Said' where nothing that the law and all that it calls make is longer than what came in: it says more and counts as full. Else prove '..UptoSaid'. A law counts once. -/
mutual
def uptoBulk {H : Type} : DataW H → Nat
  | .lit (.string bytes) => bytes.length + 1
  | .lit _ => 1
  | .nil => 1
  | .ptr d => uptoBulk d + 1
  | .slice elems spare => uptoBulkAll elems + uptoBulkAll spare + 1
  | .agg parts => uptoBulkAll parts + 1
  | .iface _ d => uptoBulk d + 1
  | .map entries => uptoBulkEntries entries + 1
  | .held _ => 1
def uptoBulkAll {H : Type} : List (DataW H) → Nat
  | [] => 0
  | d :: r => uptoBulk d + uptoBulkAll r
def uptoBulkEntries {H : Type} : List (Lit × DataW H) → Nat
  | [] => 0
  | x :: r => uptoBulkEntry x + uptoBulkEntries r
def uptoBulkEntry {H : Type} : Lit × DataW H → Nat
  | (.string bytes, d) => bytes.length + uptoBulk d + 1
  | (_, d) => uptoBulk d + 1
 end
def uptoSmall : (H : Type) → List (DataW H) → Bool := fun _ ds => decide (uptoBulkAll ds ≤ 1048576)
def OpenSpec.upto (s : _root_.Go.ChangeSpec) : _root_.Go.OpenSpec := { _root_.Go.OpenSpec.ofChange s with cond := some uptoSmall }

/-- 'laws.FnExactPanViewer', WHERE WHAT IT READS IS OF BULK AT MOST 1048576: true; the input reads as it did. -/
def fnExactPanViewerUptoRow : OpenClaim := { program := "ytkjbafcalamgnaagreat", sum := "c5e1f81267c79aeab6b29e3d6b2d9d61a5bf548b3b5da6792715a9fc322e2ec1", func := "loop.example/g00403/laws.FnExactPanViewer", spec := "fnExactPanViewer", unfollowed := true, recurses := true, plainKeys := false, apart := false, narrowed := true }
def FnExactPanViewerUptoSaid : Prop := fnExactPanViewerUptoRow.holds Tryz.pinned (OpenSpec.upto fnExactPanViewerSpec)

/-- 'laws.FnExactZoomViewer', WHERE WHAT IT READS IS OF BULK AT MOST 1048576: true; the input reads as it did. -/
def fnExactZoomViewerUptoRow : OpenClaim := { program := "ytkjbafcalamgnaagreat", sum := "c5e1f81267c79aeab6b29e3d6b2d9d61a5bf548b3b5da6792715a9fc322e2ec1", func := "loop.example/g00403/laws.FnExactZoomViewer", spec := "fnExactZoomViewer", inPlace := ["math.archFloor", "math.Float64bits", "math.Float64frombits", "math.archTrunc"], unfollowed := true, recurses := true, plainKeys := false, apart := false, narrowed := true }
def FnExactZoomViewerUptoSaid : Prop := fnExactZoomViewerUptoRow.holds Tryz.pinned (OpenSpec.upto fnExactZoomViewerSpec)

/-- 'laws.FnExactSizeViewer', WHERE WHAT IT READS IS OF BULK AT MOST 1048576: true; the input reads as it did. -/
def fnExactSizeViewerUptoRow : OpenClaim := { program := "ytkjbafcalamgnaagreat", sum := "c5e1f81267c79aeab6b29e3d6b2d9d61a5bf548b3b5da6792715a9fc322e2ec1", func := "loop.example/g00403/laws.FnExactSizeViewer", spec := "fnExactSizeViewer", unfollowed := true, recurses := true, plainKeys := false, apart := false, narrowed := true }
def FnExactSizeViewerUptoSaid : Prop := fnExactSizeViewerUptoRow.holds Tryz.pinned (OpenSpec.upto fnExactSizeViewerSpec)

/-- 'laws.FnExactMapFault', WHERE WHAT IT READS IS OF BULK AT MOST 1048576: true; the input reads as it did. -/
def fnExactMapFaultUptoRow : OpenClaim := { program := "ytkjbafcalamgnaagreat", sum := "c5e1f81267c79aeab6b29e3d6b2d9d61a5bf548b3b5da6792715a9fc322e2ec1", func := "loop.example/g00403/laws.FnExactMapFault", spec := "fnExactMapFault", unfollowed := true, recurses := true, plainKeys := false, apart := false, narrowed := true }
def FnExactMapFaultUptoSaid : Prop := fnExactMapFaultUptoRow.holds Tryz.pinned (OpenSpec.upto fnExactMapFaultSpec)

end Rows
end Go.Proofs.YtkjbafcalamgnaaGreat
