/-
  No cell of these rows narrows 'for every input' (looked for: loops, veiled, ifaces, maps, wideKeys, modest, calm, conditions, laid).
  DERIVED. THE GIVEN ROWS OF THIS SEAT. 5 by the template 'for every input the law returns true; each argument reads behind the call as it read before'; 0 by the template 'total and deterministic' (their statements: YtkejjfdfofojoaaTotals.lean).
  GIVEN WITH THE SEED: the statements are not yours to turn. If you find one false, say at which input.
  Laid BY PROGRAM, IN A SANDBOX (cutbox-rows.mjs): the forced cells as the released guide's own fill.sh prints them over the translation 3510ea479d5fd8a7… (all of the seat's roots in one cut). By AI agents, Wed Nov 11 2026. No macro, syntax, notation, axiom, sorry.
-/
import Derived.Test.YtkejjfdfofojoaaChecked
import GoSem.Claim
import GoSem.ClaimJoined
import GoSem.ClaimMapViews
import Derived.JoinedTies
import Derived.KernelRfl
namespace Go.Proofs.Ytkejjfdfofojoaa
/- THE CELL 'sum', in the pinned program and in every row, IS THE sha256 OF THE DUMP (.gsa) THAT YtkejjfdfofojoaaProg.lean LOADS. Nothing in Lean hashes anything: it is a label: what it is worth is what the hold of that sum in a sandbox is worth. -/
noncomputable def Try.pinned : Pinned := { name := "ytkejjfdfofojoaa", sum := "3510ea479d5fd8a7c5e40979d7d02775942461fe05da226e32fc97e435465f5c", checked := Try.checked }
namespace Rows
def none {H : Type} : Left H := { results := [], args := [] }

/-- 'laws.FnCameras': WHATEVER THE INPUT: true; the input reads as it did. -/
def fnCamerasSpec : ChangeSpec := { name := "fnCameras", fn := fun _ => fun
  | [d] => { results := [.lit (.bool true)], args := [d] }
  | _ => none }
def fnCamerasRow : OpenClaim := { program := "ytkejjfdfofojoaa", sum := "3510ea479d5fd8a7c5e40979d7d02775942461fe05da226e32fc97e435465f5c", func := "loop.example/g00403/laws.FnCameras", spec := "fnCameras", inPlace := ["math.archFloor", "math.Float64bits", "math.Float64frombits", "math.archTrunc"], apart := false }
def FnCamerasSaid : Prop := fnCamerasRow.holds Try.pinned (OpenSpec.ofChange fnCamerasSpec)

/-- ITS FALSE NEIGHBOUR: 'it returns false'. Refute it at one input. -/
def fnCamerasWrong : ChangeSpec := { name := "fnCameras", fn := fun _ => fun
  | [d] => { results := [.lit (.bool false)], args := [d] }
  | _ => none }
def FnCamerasWrongFalsely : Prop := fnCamerasRow.holds Try.pinned (OpenSpec.ofChange fnCamerasWrong)

/-- 'laws.FnExactCameraFault': WHATEVER THE INPUT: true; the input reads as it did. -/
def fnExactCameraFaultSpec : ChangeSpec := { name := "fnExactCameraFault", fn := fun _ => fun
  | [d] => { results := [.lit (.bool true)], args := [d] }
  | _ => none }
def fnExactCameraFaultRow : OpenClaim := { program := "ytkejjfdfofojoaa", sum := "3510ea479d5fd8a7c5e40979d7d02775942461fe05da226e32fc97e435465f5c", func := "loop.example/g00403/laws.FnExactCameraFault", spec := "fnExactCameraFault", apart := false }
def FnExactCameraFaultSaid : Prop := fnExactCameraFaultRow.holds Try.pinned (OpenSpec.ofChange fnExactCameraFaultSpec)

/-- ITS FALSE NEIGHBOUR: 'it returns false'. Refute it at one input. -/
def fnExactCameraFaultWrong : ChangeSpec := { name := "fnExactCameraFault", fn := fun _ => fun
  | [d] => { results := [.lit (.bool false)], args := [d] }
  | _ => none }
def FnExactCameraFaultWrongFalsely : Prop := fnExactCameraFaultRow.holds Try.pinned (OpenSpec.ofChange fnExactCameraFaultWrong)

/-- 'laws.FnExactPanCamera': WHATEVER THE INPUT: true; the input reads as it did. -/
def fnExactPanCameraSpec : ChangeSpec := { name := "fnExactPanCamera", fn := fun _ => fun
  | [d1, d2, d3] => { results := [.lit (.bool true)], args := [d1, d2, d3] }
  | _ => none }
def fnExactPanCameraRow : OpenClaim := { program := "ytkejjfdfofojoaa", sum := "3510ea479d5fd8a7c5e40979d7d02775942461fe05da226e32fc97e435465f5c", func := "loop.example/g00403/laws.FnExactPanCamera", spec := "fnExactPanCamera", apart := false }
def FnExactPanCameraSaid : Prop := fnExactPanCameraRow.holds Try.pinned (OpenSpec.ofChange fnExactPanCameraSpec)

/-- ITS FALSE NEIGHBOUR: 'it returns false'. Refute it at one input. -/
def fnExactPanCameraWrong : ChangeSpec := { name := "fnExactPanCamera", fn := fun _ => fun
  | [d1, d2, d3] => { results := [.lit (.bool false)], args := [d1, d2, d3] }
  | _ => none }
def FnExactPanCameraWrongFalsely : Prop := fnExactPanCameraRow.holds Try.pinned (OpenSpec.ofChange fnExactPanCameraWrong)

/-- 'laws.FnExactZoomCamera': WHATEVER THE INPUT: true; the input reads as it did. -/
def fnExactZoomCameraSpec : ChangeSpec := { name := "fnExactZoomCamera", fn := fun _ => fun
  | [d1, d2] => { results := [.lit (.bool true)], args := [d1, d2] }
  | _ => none }
def fnExactZoomCameraRow : OpenClaim := { program := "ytkejjfdfofojoaa", sum := "3510ea479d5fd8a7c5e40979d7d02775942461fe05da226e32fc97e435465f5c", func := "loop.example/g00403/laws.FnExactZoomCamera", spec := "fnExactZoomCamera", inPlace := ["math.archFloor", "math.Float64bits", "math.Float64frombits", "math.archTrunc"], apart := false }
def FnExactZoomCameraSaid : Prop := fnExactZoomCameraRow.holds Try.pinned (OpenSpec.ofChange fnExactZoomCameraSpec)

/-- ITS FALSE NEIGHBOUR: 'it returns false'. Refute it at one input. -/
def fnExactZoomCameraWrong : ChangeSpec := { name := "fnExactZoomCamera", fn := fun _ => fun
  | [d1, d2] => { results := [.lit (.bool false)], args := [d1, d2] }
  | _ => none }
def FnExactZoomCameraWrongFalsely : Prop := fnExactZoomCameraRow.holds Try.pinned (OpenSpec.ofChange fnExactZoomCameraWrong)

/-- 'laws.FnExactSizeCamera': WHATEVER THE INPUT: true; the input reads as it did. -/
def fnExactSizeCameraSpec : ChangeSpec := { name := "fnExactSizeCamera", fn := fun _ => fun
  | [d1, d2, d3] => { results := [.lit (.bool true)], args := [d1, d2, d3] }
  | _ => none }
def fnExactSizeCameraRow : OpenClaim := { program := "ytkejjfdfofojoaa", sum := "3510ea479d5fd8a7c5e40979d7d02775942461fe05da226e32fc97e435465f5c", func := "loop.example/g00403/laws.FnExactSizeCamera", spec := "fnExactSizeCamera", apart := false }
def FnExactSizeCameraSaid : Prop := fnExactSizeCameraRow.holds Try.pinned (OpenSpec.ofChange fnExactSizeCameraSpec)

/-- ITS FALSE NEIGHBOUR: 'it returns false'. Refute it at one input. -/
def fnExactSizeCameraWrong : ChangeSpec := { name := "fnExactSizeCamera", fn := fun _ => fun
  | [d1, d2, d3] => { results := [.lit (.bool false)], args := [d1, d2, d3] }
  | _ => none }
def FnExactSizeCameraWrongFalsely : Prop := fnExactSizeCameraRow.holds Try.pinned (OpenSpec.ofChange fnExactSizeCameraWrong)

/- THE SECOND FORM. 'bulk': how many values and letters a reading holds, each counted each time it is reached (what is shared counts as often as it is met; a slice's spare places count too). A statement '..UptoSaid' is the law's where the arguments, and the package variables that the reading takes, are together of bulk at most 1048576: NARROWER than '..Said'. Prove '..Said' where nothing that the law and all that it calls make is longer than what came in: it says more and counts as full. Else prove '..UptoSaid'. A law counts once. -/
mutual
def uptoBulk {H : Type} : DataW H → Nat
  | .lit (.string bytes) => bytes.length + 1
  | .lit _ => 1
  | .nil => 1
  | .ptr d => uptoBulk d + 1
  | .slice elems spare => uptoBulkAll elems + uptoBulkAll spare + 1
  | .agg parts => uptoBulkAll parts + 1
  | .iface _ d => uptoBulk d + 1
  | .map entries => uptoBulkEntries entries + 1
  | .held _ => 1
def uptoBulkAll {H : Type} : List (DataW H) → Nat
  | [] => 0
  | d :: r => uptoBulk d + uptoBulkAll r
def uptoBulkEntries {H : Type} : List (Lit × DataW H) → Nat
  | [] => 0
  | x :: r => uptoBulkEntry x + uptoBulkEntries r
def uptoBulkEntry {H : Type} : Lit × DataW H → Nat
  | (.string bytes, d) => bytes.length + uptoBulk d + 1
  | (_, d) => uptoBulk d + 1
 end
def uptoSmall : (H : Type) → List (DataW H) → Bool := fun _ ds => decide (uptoBulkAll ds ≤ 1048576)
def OpenSpec.upto (s : _root_.Go.ChangeSpec) : _root_.Go.OpenSpec := { _root_.Go.OpenSpec.ofChange s with cond := some uptoSmall }

/-- 'laws.FnCameras', WHERE WHAT IT READS IS OF BULK AT MOST 1048576: true; the input reads as it did. -/
def fnCamerasUptoRow : OpenClaim := { program := "ytkejjfdfofojoaa", sum := "3510ea479d5fd8a7c5e40979d7d02775942461fe05da226e32fc97e435465f5c", func := "loop.example/g00403/laws.FnCameras", spec := "fnCameras", inPlace := ["math.archFloor", "math.Float64bits", "math.Float64frombits", "math.archTrunc"], apart := false, narrowed := true }
def FnCamerasUptoSaid : Prop := fnCamerasUptoRow.holds Try.pinned (OpenSpec.upto fnCamerasSpec)

/-- 'laws.FnExactCameraFault', WHERE WHAT IT READS IS OF BULK AT MOST 1048576: true; the input reads as it did. -/
def fnExactCameraFaultUptoRow : OpenClaim := { program := "ytkejjfdfofojoaa", sum := "3510ea479d5fd8a7c5e40979d7d02775942461fe05da226e32fc97e435465f5c", func := "loop.example/g00403/laws.FnExactCameraFault", spec := "fnExactCameraFault", apart := false, narrowed := true }
def FnExactCameraFaultUptoSaid : Prop := fnExactCameraFaultUptoRow.holds Try.pinned (OpenSpec.upto fnExactCameraFaultSpec)

/-- 'laws.FnExactPanCamera', WHERE WHAT IT READS IS OF BULK AT MOST 1048576: true; the input reads as it did. -/
def fnExactPanCameraUptoRow : OpenClaim := { program := "ytkejjfdfofojoaa", sum := "3510ea479d5fd8a7c5e40979d7d02775942461fe05da226e32fc97e435465f5c", func := "loop.example/g00403/laws.FnExactPanCamera", spec := "fnExactPanCamera", apart := false, narrowed := true }
def FnExactPanCameraUptoSaid : Prop := fnExactPanCameraUptoRow.holds Try.pinned (OpenSpec.upto fnExactPanCameraSpec)

/-- 'laws.FnExactZoomCamera', WHERE WHAT IT READS IS OF BULK AT MOST 1048576: true; the input reads as it did. -/
def fnExactZoomCameraUptoRow : OpenClaim := { program := "ytkejjfdfofojoaa", sum := "3510ea479d5fd8a7c5e40979d7d02775942461fe05da226e32fc97e435465f5c", func := "loop.example/g00403/laws.FnExactZoomCamera", spec := "fnExactZoomCamera", inPlace := ["math.archFloor", "math.Float64bits", "math.Float64frombits", "math.archTrunc"], apart := false, narrowed := true }
def FnExactZoomCameraUptoSaid : Prop := fnExactZoomCameraUptoRow.holds Try.pinned (OpenSpec.upto fnExactZoomCameraSpec)

/-- 'laws.FnExactSizeCamera', WHERE WHAT IT READS IS OF BULK AT MOST 1048576: true; the input reads as it did. -/
def fnExactSizeCameraUptoRow : OpenClaim := { program := "ytkejjfdfofojoaa", sum := "3510ea479d5fd8a7c5e40979d7d02775942461fe05da226e32fc97e435465f5c", func := "loop.example/g00403/laws.FnExactSizeCamera", spec := "fnExactSizeCamera", apart := false, narrowed := true }
def FnExactSizeCameraUptoSaid : Prop := fnExactSizeCameraUptoRow.holds Try.pinned (OpenSpec.upto fnExactSizeCameraSpec)

end Rows
end Go.Proofs.Ytkejjfdfofojoaa
