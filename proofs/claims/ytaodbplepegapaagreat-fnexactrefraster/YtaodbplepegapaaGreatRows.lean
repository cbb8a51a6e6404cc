/-
  No cell of these rows narrows 'for every input' (looked for: loops, veiled, ifaces, maps, wideKeys, modest, calm, conditions, laid).
  DERIVED. THE GIVEN ROWS OF THIS SEAT. 4 by the template 'for every input the law returns true; each argument reads behind the call as it read before'; 0 by the template 'total and deterministic' (their statements: YtaodbplepegapaaGreatTotals.lean).
  GIVEN WITH THE SEED: the statements are not yours to turn. If you find one false, say at which input.
  Laid BY PROGRAM, IN A SANDBOX (cutbox-rows.mjs): the forced cells as the released guide's own fill.sh prints them over the translation b42d02e759c9b14d… (all of the seat's roots in one cut). By AI agents, Wed Nov 11 2026. No macro, syntax, notation, axiom, sorry.
-/
import Derived.Test.YtaodbplepegapaaGreatChecked
import GoSem.Claim
import GoSem.ClaimJoined
import GoSem.ClaimMapViews
import Derived.JoinedTies
import Derived.KernelRfl
namespace Go.Proofs.YtaodbplepegapaaGreat
/- THE CELL 'sum', in the pinned program and in every row, IS THE sha256 OF THE DUMP (.gsa) THAT YtaodbplepegapaaGreatProg.lean LOADS. Nothing in Lean hashes anything: it is a label: what it is worth is what the hold of that sum in a sandbox is worth. -/
noncomputable def Tryz.pinned : Pinned := { name := "ytaodbplepegapaagreat", sum := "b42d02e759c9b14d6bed20946350c41756345fa2ba862035370c03ccc64eecef", checked := Tryz.checked }
namespace Rows
def none {H : Type} : Left H := { results := [], args := [] }

/-- 'laws.FnExactPaintedAt': WHATEVER THE INPUT: true; the input reads as it did. -/
def fnExactPaintedAtSpec : ChangeSpec := { name := "fnExactPaintedAt", fn := fun _ => fun
  | [d1, d2, d3, d4] => { results := [.lit (.bool true)], args := [d1, d2, d3, d4] }
  | _ => none }
def fnExactPaintedAtRow : OpenClaim := { program := "ytaodbplepegapaagreat", sum := "b42d02e759c9b14d6bed20946350c41756345fa2ba862035370c03ccc64eecef", func := "loop.example/g00403/laws.FnExactPaintedAt", spec := "fnExactPaintedAt", unfollowed := true, recurses := true, apart := false }
def FnExactPaintedAtSaid : Prop := fnExactPaintedAtRow.holds Tryz.pinned (OpenSpec.ofChange fnExactPaintedAtSpec)

/-- ITS FALSE NEIGHBOUR: 'it returns false'. Refute it at one input. -/
def fnExactPaintedAtWrong : ChangeSpec := { name := "fnExactPaintedAt", fn := fun _ => fun
  | [d1, d2, d3, d4] => { results := [.lit (.bool false)], args := [d1, d2, d3, d4] }
  | _ => none }
def FnExactPaintedAtWrongFalsely : Prop := fnExactPaintedAtRow.holds Tryz.pinned (OpenSpec.ofChange fnExactPaintedAtWrong)

/-- 'laws.FnExactRasterTile': WHATEVER THE INPUT: true; the input reads as it did. -/
def fnExactRasterTileSpec : ChangeSpec := { name := "fnExactRasterTile", fn := fun _ => fun
  | [d] => { results := [.lit (.bool true)], args := [d] }
  | _ => none }
def fnExactRasterTileRow : OpenClaim := { program := "ytaodbplepegapaagreat", sum := "b42d02e759c9b14d6bed20946350c41756345fa2ba862035370c03ccc64eecef", func := "loop.example/g00403/laws.FnExactRasterTile", spec := "fnExactRasterTile", unfollowed := true, recurses := true, apart := false }
def FnExactRasterTileSaid : Prop := fnExactRasterTileRow.holds Tryz.pinned (OpenSpec.ofChange fnExactRasterTileSpec)

/-- ITS FALSE NEIGHBOUR: 'it returns false'. Refute it at one input. -/
def fnExactRasterTileWrong : ChangeSpec := { name := "fnExactRasterTile", fn := fun _ => fun
  | [d] => { results := [.lit (.bool false)], args := [d] }
  | _ => none }
def FnExactRasterTileWrongFalsely : Prop := fnExactRasterTileRow.holds Tryz.pinned (OpenSpec.ofChange fnExactRasterTileWrong)

/-- 'laws.FnExactRefRaster': WHATEVER THE INPUT: true; the input reads as it did. -/
def fnExactRefRasterSpec : ChangeSpec := { name := "fnExactRefRaster", fn := fun _ => fun
  | [d1, d2] => { results := [.lit (.bool true)], args := [d1, d2] }
  | _ => none }
def fnExactRefRasterRow : OpenClaim := { program := "ytaodbplepegapaagreat", sum := "b42d02e759c9b14d6bed20946350c41756345fa2ba862035370c03ccc64eecef", func := "loop.example/g00403/laws.FnExactRefRaster", spec := "fnExactRefRaster", unfollowed := true, recurses := true, apart := false }
def FnExactRefRasterSaid : Prop := fnExactRefRasterRow.holds Tryz.pinned (OpenSpec.ofChange fnExactRefRasterSpec)

/-- ITS FALSE NEIGHBOUR: 'it returns false'. Refute it at one input. -/
def fnExactRefRasterWrong : ChangeSpec := { name := "fnExactRefRaster", fn := fun _ => fun
  | [d1, d2] => { results := [.lit (.bool false)], args := [d1, d2] }
  | _ => none }
def FnExactRefRasterWrongFalsely : Prop := fnExactRefRasterRow.holds Tryz.pinned (OpenSpec.ofChange fnExactRefRasterWrong)

/-- 'laws.FnExactRefFrame': WHATEVER THE INPUT: true; the input reads as it did. -/
def fnExactRefFrameSpec : ChangeSpec := { name := "fnExactRefFrame", fn := fun _ => fun
  | [d1, d2] => { results := [.lit (.bool true)], args := [d1, d2] }
  | _ => none }
def fnExactRefFrameRow : OpenClaim := { program := "ytaodbplepegapaagreat", sum := "b42d02e759c9b14d6bed20946350c41756345fa2ba862035370c03ccc64eecef", func := "loop.example/g00403/laws.FnExactRefFrame", spec := "fnExactRefFrame", unfollowed := true, recurses := true, apart := false }
def FnExactRefFrameSaid : Prop := fnExactRefFrameRow.holds Tryz.pinned (OpenSpec.ofChange fnExactRefFrameSpec)

/-- ITS FALSE NEIGHBOUR: 'it returns false'. Refute it at one input. -/
def fnExactRefFrameWrong : ChangeSpec := { name := "fnExactRefFrame", fn := fun _ => fun
  | [d1, d2] => { results := [.lit (.bool false)], args := [d1, d2] }
  | _ => none }
def FnExactRefFrameWrongFalsely : Prop := fnExactRefFrameRow.holds Tryz.pinned (OpenSpec.ofChange fnExactRefFrameWrong)

/- THE SECOND FORM. 'bulk': how many values and letters a reading holds, each counted each time it is reached (what is shared counts as often as it is met; a slice's spare places count too). A statement '..UptoSaid' is the law's where the arguments, and the package variables that the reading takes, are together of bulk at most 1048576: NARROWER than '..Said'. Prove '..Said' where nothing that the law and all that it calls make is longer than what came in: it says more and counts as full. Else prove '..UptoSaid'. A law counts once. -/
mutual
def uptoBulk {H : Type} : DataW H → Nat
  | .lit (.string bytes) => bytes.length + 1
  | .lit _ => 1
  | .nil => 1
  | .ptr d => uptoBulk d + 1
  | .slice elems spare => uptoBulkAll elems + uptoBulkAll spare + 1
  | .agg parts => uptoBulkAll parts + 1
  | .iface _ d => uptoBulk d + 1
  | .map entries => uptoBulkEntries entries + 1
  | .held _ => 1
def uptoBulkAll {H : Type} : List (DataW H) → Nat
  | [] => 0
  | d :: r => uptoBulk d + uptoBulkAll r
def uptoBulkEntries {H : Type} : List (Lit × DataW H) → Nat
  | [] => 0
  | x :: r => uptoBulkEntry x + uptoBulkEntries r
def uptoBulkEntry {H : Type} : Lit × DataW H → Nat
  | (.string bytes, d) => bytes.length + uptoBulk d + 1
  | (_, d) => uptoBulk d + 1
 end
def uptoSmall : (H : Type) → List (DataW H) → Bool := fun _ ds => decide (uptoBulkAll ds ≤ 1048576)
def OpenSpec.upto (s : _root_.Go.ChangeSpec) : _root_.Go.OpenSpec := { _root_.Go.OpenSpec.ofChange s with cond := some uptoSmall }

/-- 'laws.FnExactPaintedAt', WHERE WHAT IT READS IS OF BULK AT MOST 1048576: true; the input reads as it did. -/
def fnExactPaintedAtUptoRow : OpenClaim := { program := "ytaodbplepegapaagreat", sum := "b42d02e759c9b14d6bed20946350c41756345fa2ba862035370c03ccc64eecef", func := "loop.example/g00403/laws.FnExactPaintedAt", spec := "fnExactPaintedAt", unfollowed := true, recurses := true, apart := false, narrowed := true }
def FnExactPaintedAtUptoSaid : Prop := fnExactPaintedAtUptoRow.holds Tryz.pinned (OpenSpec.upto fnExactPaintedAtSpec)

/-- 'laws.FnExactRasterTile', WHERE WHAT IT READS IS OF BULK AT MOST 1048576: true; the input reads as it did. -/
def fnExactRasterTileUptoRow : OpenClaim := { program := "ytaodbplepegapaagreat", sum := "b42d02e759c9b14d6bed20946350c41756345fa2ba862035370c03ccc64eecef", func := "loop.example/g00403/laws.FnExactRasterTile", spec := "fnExactRasterTile", unfollowed := true, recurses := true, apart := false, narrowed := true }
def FnExactRasterTileUptoSaid : Prop := fnExactRasterTileUptoRow.holds Tryz.pinned (OpenSpec.upto fnExactRasterTileSpec)

/-- 'laws.FnExactRefRaster', WHERE WHAT IT READS IS OF BULK AT MOST 1048576: true; the input reads as it did. -/
def fnExactRefRasterUptoRow : OpenClaim := { program := "ytaodbplepegapaagreat", sum := "b42d02e759c9b14d6bed20946350c41756345fa2ba862035370c03ccc64eecef", func := "loop.example/g00403/laws.FnExactRefRaster", spec := "fnExactRefRaster", unfollowed := true, recurses := true, apart := false, narrowed := true }
def FnExactRefRasterUptoSaid : Prop := fnExactRefRasterUptoRow.holds Tryz.pinned (OpenSpec.upto fnExactRefRasterSpec)

/-- 'laws.FnExactRefFrame', WHERE WHAT IT READS IS OF BULK AT MOST 1048576: true; the input reads as it did. -/
def fnExactRefFrameUptoRow : OpenClaim := { program := "ytaodbplepegapaagreat", sum := "b42d02e759c9b14d6bed20946350c41756345fa2ba862035370c03ccc64eecef", func := "loop.example/g00403/laws.FnExactRefFrame", spec := "fnExactRefFrame", unfollowed := true, recurses := true, apart := false, narrowed := true }
def FnExactRefFrameUptoSaid : Prop := fnExactRefFrameUptoRow.holds Tryz.pinned (OpenSpec.upto fnExactRefFrameSpec)

end Rows
end Go.Proofs.YtaodbplepegapaaGreat
