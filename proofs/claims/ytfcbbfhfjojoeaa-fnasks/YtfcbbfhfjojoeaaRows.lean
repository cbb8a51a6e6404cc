/-
  No cell of these rows narrows 'for every input' (looked for: loops, veiled, ifaces, maps, wideKeys, modest, calm, conditions, laid).
  DERIVED. THE GIVEN ROWS OF THIS SEAT. 6 by the template 'for every input the law returns true; each argument reads behind the call as it read before'; 0 by the template 'total and deterministic' (their statements: YtfcbbfhfjojoeaaTotals.lean).
  GIVEN WITH THE SEED: the statements are not yours to turn. If you find one false, say at which input.
  Laid BY PROGRAM, IN A SANDBOX (cutbox-rows.mjs): the forced cells as the released guide's own fill.sh prints them over the translation adbccdd2400c569a… (all of the seat's roots in one cut). By AI agents, Wed Nov 11 2026. No macro, syntax, notation, axiom, sorry.
-/
import Derived.Test.YtfcbbfhfjojoeaaChecked
import GoSem.Claim
import GoSem.ClaimJoined
import GoSem.ClaimMapViews
import Derived.JoinedTies
import Derived.KernelRfl
namespace Go.Proofs.Ytfcbbfhfjojoeaa
/- THE CELL 'sum', in the pinned program and in every row, IS THE sha256 OF THE DUMP (.gsa) THAT YtfcbbfhfjojoeaaProg.lean LOADS. Nothing in Lean hashes anything: it is a label: what it is worth is what the hold of that sum in a sandbox is worth. -/
noncomputable def Try.pinned : Pinned := { name := "ytfcbbfhfjojoeaa", sum := "adbccdd2400c569a1ef197cadd37b979a71142b1ac49e5eb3d238e3b433a4f1c", checked := Try.checked }
namespace Rows
def none {H : Type} : Left H := { results := [], args := [] }

/-- 'laws.FnAsks': WHATEVER THE INPUT: true; the input reads as it did. -/
def fnAsksSpec : ChangeSpec := { name := "fnAsks", fn := fun _ => fun
  | [d] => { results := [.lit (.bool true)], args := [d] }
  | _ => none }
def fnAsksRow : OpenClaim := { program := "ytfcbbfhfjojoeaa", sum := "adbccdd2400c569a1ef197cadd37b979a71142b1ac49e5eb3d238e3b433a4f1c", func := "loop.example/g00403/laws.FnAsks", spec := "fnAsks", unfollowed := true, recurses := true, apart := false }
def FnAsksSaid : Prop := fnAsksRow.holds Try.pinned (OpenSpec.ofChange fnAsksSpec)

/-- ITS FALSE NEIGHBOUR: 'it returns false'. Refute it at one input. -/
def fnAsksWrong : ChangeSpec := { name := "fnAsks", fn := fun _ => fun
  | [d] => { results := [.lit (.bool false)], args := [d] }
  | _ => none }
def FnAsksWrongFalsely : Prop := fnAsksRow.holds Try.pinned (OpenSpec.ofChange fnAsksWrong)

/-- 'laws.FnExactRequestsFault': WHATEVER THE INPUT: true; the input reads as it did. -/
def fnExactRequestsFaultSpec : ChangeSpec := { name := "fnExactRequestsFault", fn := fun _ => fun
  | [d] => { results := [.lit (.bool true)], args := [d] }
  | _ => none }
def fnExactRequestsFaultRow : OpenClaim := { program := "ytfcbbfhfjojoeaa", sum := "adbccdd2400c569a1ef197cadd37b979a71142b1ac49e5eb3d238e3b433a4f1c", func := "loop.example/g00403/laws.FnExactRequestsFault", spec := "fnExactRequestsFault", unfollowed := true, recurses := true, apart := false }
def FnExactRequestsFaultSaid : Prop := fnExactRequestsFaultRow.holds Try.pinned (OpenSpec.ofChange fnExactRequestsFaultSpec)

/-- ITS FALSE NEIGHBOUR: 'it returns false'. Refute it at one input. -/
def fnExactRequestsFaultWrong : ChangeSpec := { name := "fnExactRequestsFault", fn := fun _ => fun
  | [d] => { results := [.lit (.bool false)], args := [d] }
  | _ => none }
def FnExactRequestsFaultWrongFalsely : Prop := fnExactRequestsFaultRow.holds Try.pinned (OpenSpec.ofChange fnExactRequestsFaultWrong)

/-- 'laws.FnExactAskTile': WHATEVER THE INPUT: true; the input reads as it did. -/
def fnExactAskTileSpec : ChangeSpec := { name := "fnExactAskTile", fn := fun _ => fun
  | [d1, d2, d3] => { results := [.lit (.bool true)], args := [d1, d2, d3] }
  | _ => none }
def fnExactAskTileRow : OpenClaim := { program := "ytfcbbfhfjojoeaa", sum := "adbccdd2400c569a1ef197cadd37b979a71142b1ac49e5eb3d238e3b433a4f1c", func := "loop.example/g00403/laws.FnExactAskTile", spec := "fnExactAskTile", unfollowed := true, recurses := true, apart := false }
def FnExactAskTileSaid : Prop := fnExactAskTileRow.holds Try.pinned (OpenSpec.ofChange fnExactAskTileSpec)

/-- ITS FALSE NEIGHBOUR: 'it returns false'. Refute it at one input. -/
def fnExactAskTileWrong : ChangeSpec := { name := "fnExactAskTile", fn := fun _ => fun
  | [d1, d2, d3] => { results := [.lit (.bool false)], args := [d1, d2, d3] }
  | _ => none }
def FnExactAskTileWrongFalsely : Prop := fnExactAskTileRow.holds Try.pinned (OpenSpec.ofChange fnExactAskTileWrong)

/-- 'laws.FnExactDropRequest': WHATEVER THE INPUT: true; the input reads as it did. -/
def fnExactDropRequestSpec : ChangeSpec := { name := "fnExactDropRequest", fn := fun _ => fun
  | [d1, d2] => { results := [.lit (.bool true)], args := [d1, d2] }
  | _ => none }
def fnExactDropRequestRow : OpenClaim := { program := "ytfcbbfhfjojoeaa", sum := "adbccdd2400c569a1ef197cadd37b979a71142b1ac49e5eb3d238e3b433a4f1c", func := "loop.example/g00403/laws.FnExactDropRequest", spec := "fnExactDropRequest", unfollowed := true, recurses := true, apart := false }
def FnExactDropRequestSaid : Prop := fnExactDropRequestRow.holds Try.pinned (OpenSpec.ofChange fnExactDropRequestSpec)

/-- ITS FALSE NEIGHBOUR: 'it returns false'. Refute it at one input. -/
def fnExactDropRequestWrong : ChangeSpec := { name := "fnExactDropRequest", fn := fun _ => fun
  | [d1, d2] => { results := [.lit (.bool false)], args := [d1, d2] }
  | _ => none }
def FnExactDropRequestWrongFalsely : Prop := fnExactDropRequestRow.holds Try.pinned (OpenSpec.ofChange fnExactDropRequestWrong)

/-- 'laws.FnExactRetryAll': WHATEVER THE INPUT: true; the input reads as it did. -/
def fnExactRetryAllSpec : ChangeSpec := { name := "fnExactRetryAll", fn := fun _ => fun
  | [d1, d2] => { results := [.lit (.bool true)], args := [d1, d2] }
  | _ => none }
def fnExactRetryAllRow : OpenClaim := { program := "ytfcbbfhfjojoeaa", sum := "adbccdd2400c569a1ef197cadd37b979a71142b1ac49e5eb3d238e3b433a4f1c", func := "loop.example/g00403/laws.FnExactRetryAll", spec := "fnExactRetryAll", unfollowed := true, recurses := true, apart := false }
def FnExactRetryAllSaid : Prop := fnExactRetryAllRow.holds Try.pinned (OpenSpec.ofChange fnExactRetryAllSpec)

/-- ITS FALSE NEIGHBOUR: 'it returns false'. Refute it at one input. -/
def fnExactRetryAllWrong : ChangeSpec := { name := "fnExactRetryAll", fn := fun _ => fun
  | [d1, d2] => { results := [.lit (.bool false)], args := [d1, d2] }
  | _ => none }
def FnExactRetryAllWrongFalsely : Prop := fnExactRetryAllRow.holds Try.pinned (OpenSpec.ofChange fnExactRetryAllWrong)

/-- 'laws.FnExactIsAsked': WHATEVER THE INPUT: true; the input reads as it did. -/
def fnExactIsAskedSpec : ChangeSpec := { name := "fnExactIsAsked", fn := fun _ => fun
  | [d1, d2] => { results := [.lit (.bool true)], args := [d1, d2] }
  | _ => none }
def fnExactIsAskedRow : OpenClaim := { program := "ytfcbbfhfjojoeaa", sum := "adbccdd2400c569a1ef197cadd37b979a71142b1ac49e5eb3d238e3b433a4f1c", func := "loop.example/g00403/laws.FnExactIsAsked", spec := "fnExactIsAsked", unfollowed := true, recurses := true, apart := false }
def FnExactIsAskedSaid : Prop := fnExactIsAskedRow.holds Try.pinned (OpenSpec.ofChange fnExactIsAskedSpec)

/-- ITS FALSE NEIGHBOUR: 'it returns false'. Refute it at one input. -/
def fnExactIsAskedWrong : ChangeSpec := { name := "fnExactIsAsked", fn := fun _ => fun
  | [d1, d2] => { results := [.lit (.bool false)], args := [d1, d2] }
  | _ => none }
def FnExactIsAskedWrongFalsely : Prop := fnExactIsAskedRow.holds Try.pinned (OpenSpec.ofChange fnExactIsAskedWrong)

/- THE SECOND FORM. 'bulk': how many values and letters a reading holds, each counted each time it is reached (what is shared counts as often as it is met; a slice's spare places count too). A statement '..UptoSaid' is the law's where the arguments, and the package variables that the reading takes, are together of bulk at most 1048576: NARROWER than '..Said'. Prove '..Said' where nothing that the law and all that it calls make is longer than what came in: it says more and counts as full. Else prove '..UptoSaid'. A law counts once. -/
mutual
def uptoBulk {H : Type} : DataW H → Nat
  | .lit (.string bytes) => bytes.length + 1
  | .lit _ => 1
  | .nil => 1
  | .ptr d => uptoBulk d + 1
  | .slice elems spare => uptoBulkAll elems + uptoBulkAll spare + 1
  | .agg parts => uptoBulkAll parts + 1
  | .iface _ d => uptoBulk d + 1
  | .map entries => uptoBulkEntries entries + 1
  | .held _ => 1
def uptoBulkAll {H : Type} : List (DataW H) → Nat
  | [] => 0
  | d :: r => uptoBulk d + uptoBulkAll r
def uptoBulkEntries {H : Type} : List (Lit × DataW H) → Nat
  | [] => 0
  | x :: r => uptoBulkEntry x + uptoBulkEntries r
def uptoBulkEntry {H : Type} : Lit × DataW H → Nat
  | (.string bytes, d) => bytes.length + uptoBulk d + 1
  | (_, d) => uptoBulk d + 1
 end
def uptoSmall : (H : Type) → List (DataW H) → Bool := fun _ ds => decide (uptoBulkAll ds ≤ 1048576)
def OpenSpec.upto (s : _root_.Go.ChangeSpec) : _root_.Go.OpenSpec := { _root_.Go.OpenSpec.ofChange s with cond := some uptoSmall }

/-- 'laws.FnAsks', WHERE WHAT IT READS IS OF BULK AT MOST 1048576: true; the input reads as it did. -/
def fnAsksUptoRow : OpenClaim := { program := "ytfcbbfhfjojoeaa", sum := "adbccdd2400c569a1ef197cadd37b979a71142b1ac49e5eb3d238e3b433a4f1c", func := "loop.example/g00403/laws.FnAsks", spec := "fnAsks", unfollowed := true, recurses := true, apart := false, narrowed := true }
def FnAsksUptoSaid : Prop := fnAsksUptoRow.holds Try.pinned (OpenSpec.upto fnAsksSpec)

/-- 'laws.FnExactRequestsFault', WHERE WHAT IT READS IS OF BULK AT MOST 1048576: true; the input reads as it did. -/
def fnExactRequestsFaultUptoRow : OpenClaim := { program := "ytfcbbfhfjojoeaa", sum := "adbccdd2400c569a1ef197cadd37b979a71142b1ac49e5eb3d238e3b433a4f1c", func := "loop.example/g00403/laws.FnExactRequestsFault", spec := "fnExactRequestsFault", unfollowed := true, recurses := true, apart := false, narrowed := true }
def FnExactRequestsFaultUptoSaid : Prop := fnExactRequestsFaultUptoRow.holds Try.pinned (OpenSpec.upto fnExactRequestsFaultSpec)

/-- 'laws.FnExactAskTile', WHERE WHAT IT READS IS OF BULK AT MOST 1048576: true; the input reads as it did. -/
def fnExactAskTileUptoRow : OpenClaim := { program := "ytfcbbfhfjojoeaa", sum := "adbccdd2400c569a1ef197cadd37b979a71142b1ac49e5eb3d238e3b433a4f1c", func := "loop.example/g00403/laws.FnExactAskTile", spec := "fnExactAskTile", unfollowed := true, recurses := true, apart := false, narrowed := true }
def FnExactAskTileUptoSaid : Prop := fnExactAskTileUptoRow.holds Try.pinned (OpenSpec.upto fnExactAskTileSpec)

/-- 'laws.FnExactDropRequest', WHERE WHAT IT READS IS OF BULK AT MOST 1048576: true; the input reads as it did. -/
def fnExactDropRequestUptoRow : OpenClaim := { program := "ytfcbbfhfjojoeaa", sum := "adbccdd2400c569a1ef197cadd37b979a71142b1ac49e5eb3d238e3b433a4f1c", func := "loop.example/g00403/laws.FnExactDropRequest", spec := "fnExactDropRequest", unfollowed := true, recurses := true, apart := false, narrowed := true }
def FnExactDropRequestUptoSaid : Prop := fnExactDropRequestUptoRow.holds Try.pinned (OpenSpec.upto fnExactDropRequestSpec)

/-- 'laws.FnExactRetryAll', WHERE WHAT IT READS IS OF BULK AT MOST 1048576: true; the input reads as it did. -/
def fnExactRetryAllUptoRow : OpenClaim := { program := "ytfcbbfhfjojoeaa", sum := "adbccdd2400c569a1ef197cadd37b979a71142b1ac49e5eb3d238e3b433a4f1c", func := "loop.example/g00403/laws.FnExactRetryAll", spec := "fnExactRetryAll", unfollowed := true, recurses := true, apart := false, narrowed := true }
def FnExactRetryAllUptoSaid : Prop := fnExactRetryAllUptoRow.holds Try.pinned (OpenSpec.upto fnExactRetryAllSpec)

/-- 'laws.FnExactIsAsked', WHERE WHAT IT READS IS OF BULK AT MOST 1048576: true; the input reads as it did. -/
def fnExactIsAskedUptoRow : OpenClaim := { program := "ytfcbbfhfjojoeaa", sum := "adbccdd2400c569a1ef197cadd37b979a71142b1ac49e5eb3d238e3b433a4f1c", func := "loop.example/g00403/laws.FnExactIsAsked", spec := "fnExactIsAsked", unfollowed := true, recurses := true, apart := false, narrowed := true }
def FnExactIsAskedUptoSaid : Prop := fnExactIsAskedUptoRow.holds Try.pinned (OpenSpec.upto fnExactIsAskedSpec)

end Rows
end Go.Proofs.Ytfcbbfhfjojoeaa
