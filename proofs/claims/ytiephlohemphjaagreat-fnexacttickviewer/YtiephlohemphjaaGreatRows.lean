/-
  No cell of these rows narrows 'for every input' (looked for: loops, veiled, ifaces, maps, wideKeys, modest, calm, conditions, laid).
  DERIVED. THE GIVEN ROWS OF THIS SEAT. 5 by the template 'for every input the law returns true; each argument reads behind the call as it read before'; 0 by the template 'total and deterministic' (their statements: YtiephlohemphjaaGreatTotals.lean).
  GIVEN WITH THE SEED: the statements are not yours to turn. If you find one false, say at which input.
  Laid BY PROGRAM, IN A SANDBOX (cutbox-rows.mjs): the forced cells as the released guide's own fill.sh prints them over the translation a728d79b1eb42693… (all of the seat's roots in one cut). By AI agents, Wed Nov 11 2026. No macro, syntax, notation, axiom, sorry.
-/
import Derived.Test.YtiephlohemphjaaGreatChecked
import GoSem.Claim
import GoSem.ClaimJoined
import GoSem.ClaimMapViews
import Derived.JoinedTies
import Derived.KernelRfl
namespace Go.Proofs.YtiephlohemphjaaGreat
/- THE CELL 'sum', in the pinned program and in every row, IS THE sha256 OF THE DUMP (.gsa) THAT YtiephlohemphjaaGreatProg.lean LOADS. Nothing in Lean hashes anything: it is a label: what it is worth is what the hold of that sum in a sandbox is worth. -/
noncomputable def Tryz.pinned : Pinned := { name := "ytiephlohemphjaagreat", sum := "a728d79b1eb426939704abf898291c110670a1ed263d5f0e6b39ab591ffd56d6", checked := Tryz.checked }
namespace Rows
def none {H : Type} : Left H := { results := [], args := [] }

/-- 'laws.FnExactTickViewer': WHATEVER THE INPUT: true; the input reads as it did. -/
def fnExactTickViewerSpec : ChangeSpec := { name := "fnExactTickViewer", fn := fun _ => fun
  | [d1, d2] => { results := [.lit (.bool true)], args := [d1, d2] }
  | _ => none }
def fnExactTickViewerRow : OpenClaim := { program := "ytiephlohemphjaagreat", sum := "a728d79b1eb426939704abf898291c110670a1ed263d5f0e6b39ab591ffd56d6", func := "loop.example/g00403/laws.FnExactTickViewer", spec := "fnExactTickViewer", unfollowed := true, recurses := true, plainKeys := false, apart := false }
def FnExactTickViewerSaid : Prop := fnExactTickViewerRow.holds Tryz.pinned (OpenSpec.ofChange fnExactTickViewerSpec)

/-- ITS FALSE NEIGHBOUR: 'it returns false'. Refute it at one input. -/
def fnExactTickViewerWrong : ChangeSpec := { name := "fnExactTickViewer", fn := fun _ => fun
  | [d1, d2] => { results := [.lit (.bool false)], args := [d1, d2] }
  | _ => none }
def FnExactTickViewerWrongFalsely : Prop := fnExactTickViewerRow.holds Tryz.pinned (OpenSpec.ofChange fnExactTickViewerWrong)

/-- 'laws.FnExactNewViewer': WHATEVER THE INPUT: true; the input reads as it did. -/
def fnExactNewViewerSpec : ChangeSpec := { name := "fnExactNewViewer", fn := fun _ => fun
  | [d1, d2] => { results := [.lit (.bool true)], args := [d1, d2] }
  | _ => none }
def fnExactNewViewerRow : OpenClaim := { program := "ytiephlohemphjaagreat", sum := "a728d79b1eb426939704abf898291c110670a1ed263d5f0e6b39ab591ffd56d6", func := "loop.example/g00403/laws.FnExactNewViewer", spec := "fnExactNewViewer", unfollowed := true, recurses := true, plainKeys := false, apart := false }
def FnExactNewViewerSaid : Prop := fnExactNewViewerRow.holds Tryz.pinned (OpenSpec.ofChange fnExactNewViewerSpec)

/-- ITS FALSE NEIGHBOUR: 'it returns false'. Refute it at one input. -/
def fnExactNewViewerWrong : ChangeSpec := { name := "fnExactNewViewer", fn := fun _ => fun
  | [d1, d2] => { results := [.lit (.bool false)], args := [d1, d2] }
  | _ => none }
def FnExactNewViewerWrongFalsely : Prop := fnExactNewViewerRow.holds Tryz.pinned (OpenSpec.ofChange fnExactNewViewerWrong)

/-- 'laws.FnExactPanViewer': WHATEVER THE INPUT: true; the input reads as it did. -/
def fnExactPanViewerSpec : ChangeSpec := { name := "fnExactPanViewer", fn := fun _ => fun
  | [d1, d2, d3] => { results := [.lit (.bool true)], args := [d1, d2, d3] }
  | _ => none }
def fnExactPanViewerRow : OpenClaim := { program := "ytiephlohemphjaagreat", sum := "a728d79b1eb426939704abf898291c110670a1ed263d5f0e6b39ab591ffd56d6", func := "loop.example/g00403/laws.FnExactPanViewer", spec := "fnExactPanViewer", unfollowed := true, recurses := true, plainKeys := false, apart := false }
def FnExactPanViewerSaid : Prop := fnExactPanViewerRow.holds Tryz.pinned (OpenSpec.ofChange fnExactPanViewerSpec)

/-- ITS FALSE NEIGHBOUR: 'it returns false'. Refute it at one input. -/
def fnExactPanViewerWrong : ChangeSpec := { name := "fnExactPanViewer", fn := fun _ => fun
  | [d1, d2, d3] => { results := [.lit (.bool false)], args := [d1, d2, d3] }
  | _ => none }
def FnExactPanViewerWrongFalsely : Prop := fnExactPanViewerRow.holds Tryz.pinned (OpenSpec.ofChange fnExactPanViewerWrong)

/-- 'laws.FnExactZoomViewer': WHATEVER THE INPUT: true; the input reads as it did. -/
def fnExactZoomViewerSpec : ChangeSpec := { name := "fnExactZoomViewer", fn := fun _ => fun
  | [d1, d2] => { results := [.lit (.bool true)], args := [d1, d2] }
  | _ => none }
def fnExactZoomViewerRow : OpenClaim := { program := "ytiephlohemphjaagreat", sum := "a728d79b1eb426939704abf898291c110670a1ed263d5f0e6b39ab591ffd56d6", func := "loop.example/g00403/laws.FnExactZoomViewer", spec := "fnExactZoomViewer", inPlace := ["math.archFloor", "math.Float64bits", "math.Float64frombits", "math.archTrunc"], unfollowed := true, recurses := true, plainKeys := false, apart := false }
def FnExactZoomViewerSaid : Prop := fnExactZoomViewerRow.holds Tryz.pinned (OpenSpec.ofChange fnExactZoomViewerSpec)

/-- ITS FALSE NEIGHBOUR: 'it returns false'. Refute it at one input. -/
def fnExactZoomViewerWrong : ChangeSpec := { name := "fnExactZoomViewer", fn := fun _ => fun
  | [d1, d2] => { results := [.lit (.bool false)], args := [d1, d2] }
  | _ => none }
def FnExactZoomViewerWrongFalsely : Prop := fnExactZoomViewerRow.holds Tryz.pinned (OpenSpec.ofChange fnExactZoomViewerWrong)

/-- 'laws.FnExactSizeViewer': WHATEVER THE INPUT: true; the input reads as it did. -/
def fnExactSizeViewerSpec : ChangeSpec := { name := "fnExactSizeViewer", fn := fun _ => fun
  | [d1, d2, d3] => { results := [.lit (.bool true)], args := [d1, d2, d3] }
  | _ => none }
def fnExactSizeViewerRow : OpenClaim := { program := "ytiephlohemphjaagreat", sum := "a728d79b1eb426939704abf898291c110670a1ed263d5f0e6b39ab591ffd56d6", func := "loop.example/g00403/laws.FnExactSizeViewer", spec := "fnExactSizeViewer", unfollowed := true, recurses := true, plainKeys := false, apart := false }
def FnExactSizeViewerSaid : Prop := fnExactSizeViewerRow.holds Tryz.pinned (OpenSpec.ofChange fnExactSizeViewerSpec)

/-- ITS FALSE NEIGHBOUR: 'it returns false'. Refute it at one input. -/
def fnExactSizeViewerWrong : ChangeSpec := { name := "fnExactSizeViewer", fn := fun _ => fun
  | [d1, d2, d3] => { results := [.lit (.bool false)], args := [d1, d2, d3] }
  | _ => none }
def FnExactSizeViewerWrongFalsely : Prop := fnExactSizeViewerRow.holds Tryz.pinned (OpenSpec.ofChange fnExactSizeViewerWrong)

/- THE SECOND FORM. 'bulk': how many values and letters a reading holds, each counted each time it is reached (what is shared counts as often as it is met; a slice's spare places count too). A statement '..UptoSaid' is the law's where the arguments, and the package variables that the reading takes, are together of bulk at most 1048576: NARROWER than '..Said'. Prove '..Said' where nothing that the law and all that it calls make is longer than what came in: it says more and counts as full. Else prove '..UptoSaid'. A law counts once. -/
mutual
def uptoBulk {H : Type} : DataW H → Nat
  | .lit (.string bytes) => bytes.length + 1
  | .lit _ => 1
  | .nil => 1
  | .ptr d => uptoBulk d + 1
  | .slice elems spare => uptoBulkAll elems + uptoBulkAll spare + 1
  | .agg parts => uptoBulkAll parts + 1
  | .iface _ d => uptoBulk d + 1
  | .map entries => uptoBulkEntries entries + 1
  | .held _ => 1
def uptoBulkAll {H : Type} : List (DataW H) → Nat
  | [] => 0
  | d :: r => uptoBulk d + uptoBulkAll r
def uptoBulkEntries {H : Type} : List (Lit × DataW H) → Nat
  | [] => 0
  | x :: r => uptoBulkEntry x + uptoBulkEntries r
def uptoBulkEntry {H : Type} : Lit × DataW H → Nat
  | (.string bytes, d) => bytes.length + uptoBulk d + 1
  | (_, d) => uptoBulk d + 1
 end
def uptoSmall : (H : Type) → List (DataW H) → Bool := fun _ ds => decide (uptoBulkAll ds ≤ 1048576)
def OpenSpec.upto (s : _root_.Go.ChangeSpec) : _root_.Go.OpenSpec := { _root_.Go.OpenSpec.ofChange s with cond := some uptoSmall }

/-- 'laws.FnExactTickViewer', WHERE WHAT IT READS IS OF BULK AT MOST 1048576: true; the input reads as it did. -/
def fnExactTickViewerUptoRow : OpenClaim := { program := "ytiephlohemphjaagreat", sum := "a728d79b1eb426939704abf898291c110670a1ed263d5f0e6b39ab591ffd56d6", func := "loop.example/g00403/laws.FnExactTickViewer", spec := "fnExactTickViewer", unfollowed := true, recurses := true, plainKeys := false, apart := false, narrowed := true }
def FnExactTickViewerUptoSaid : Prop := fnExactTickViewerUptoRow.holds Tryz.pinned (OpenSpec.upto fnExactTickViewerSpec)

/-- 'laws.FnExactNewViewer', WHERE WHAT IT READS IS OF BULK AT MOST 1048576: true; the input reads as it did. -/
def fnExactNewViewerUptoRow : OpenClaim := { program := "ytiephlohemphjaagreat", sum := "a728d79b1eb426939704abf898291c110670a1ed263d5f0e6b39ab591ffd56d6", func := "loop.example/g00403/laws.FnExactNewViewer", spec := "fnExactNewViewer", unfollowed := true, recurses := true, plainKeys := false, apart := false, narrowed := true }
def FnExactNewViewerUptoSaid : Prop := fnExactNewViewerUptoRow.holds Tryz.pinned (OpenSpec.upto fnExactNewViewerSpec)

/-- 'laws.FnExactPanViewer', WHERE WHAT IT READS IS OF BULK AT MOST 1048576: true; the input reads as it did. -/
def fnExactPanViewerUptoRow : OpenClaim := { program := "ytiephlohemphjaagreat", sum := "a728d79b1eb426939704abf898291c110670a1ed263d5f0e6b39ab591ffd56d6", func := "loop.example/g00403/laws.FnExactPanViewer", spec := "fnExactPanViewer", unfollowed := true, recurses := true, plainKeys := false, apart := false, narrowed := true }
def FnExactPanViewerUptoSaid : Prop := fnExactPanViewerUptoRow.holds Tryz.pinned (OpenSpec.upto fnExactPanViewerSpec)

/-- 'laws.FnExactZoomViewer', WHERE WHAT IT READS IS OF BULK AT MOST 1048576: true; the input reads as it did. -/
def fnExactZoomViewerUptoRow : OpenClaim := { program := "ytiephlohemphjaagreat", sum := "a728d79b1eb426939704abf898291c110670a1ed263d5f0e6b39ab591ffd56d6", func := "loop.example/g00403/laws.FnExactZoomViewer", spec := "fnExactZoomViewer", inPlace := ["math.archFloor", "math.Float64bits", "math.Float64frombits", "math.archTrunc"], unfollowed := true, recurses := true, plainKeys := false, apart := false, narrowed := true }
def FnExactZoomViewerUptoSaid : Prop := fnExactZoomViewerUptoRow.holds Tryz.pinned (OpenSpec.upto fnExactZoomViewerSpec)

/-- 'laws.FnExactSizeViewer', WHERE WHAT IT READS IS OF BULK AT MOST 1048576: true; the input reads as it did. -/
def fnExactSizeViewerUptoRow : OpenClaim := { program := "ytiephlohemphjaagreat", sum := "a728d79b1eb426939704abf898291c110670a1ed263d5f0e6b39ab591ffd56d6", func := "loop.example/g00403/laws.FnExactSizeViewer", spec := "fnExactSizeViewer", unfollowed := true, recurses := true, plainKeys := false, apart := false, narrowed := true }
def FnExactSizeViewerUptoSaid : Prop := fnExactSizeViewerUptoRow.holds Tryz.pinned (OpenSpec.upto fnExactSizeViewerSpec)

end Rows
end Go.Proofs.YtiephlohemphjaaGreat
