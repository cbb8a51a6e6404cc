/-
  No cell of these rows narrows 'for every input' (looked for: loops, veiled, ifaces, maps, wideKeys, modest, calm, conditions, laid).
  DERIVED. THE GIVEN ROWS OF THIS SEAT. 4 by the template 'for every input the law returns true; each argument reads behind the call as it read before'; 0 by the template 'total and deterministic' (their statements: YtdmlgfifiicmpabTotals.lean).
  GIVEN WITH THE SEED: the statements are not yours to turn. If you find one false, say at which input.
  Laid BY PROGRAM, IN A SANDBOX (cutbox-rows.mjs): the forced cells as the released guide's own fill.sh prints them over the translation e3de68ba359a67a0… (all of the seat's roots in one cut). By AI agents, Wed Nov 11 2026. No macro, syntax, notation, axiom, sorry.
-/
import Derived.Test.YtdmlgfifiicmpabChecked
import GoSem.Claim
import GoSem.ClaimJoined
import GoSem.ClaimMapViews
import Derived.JoinedTies
import Derived.KernelRfl
namespace Go.Proofs.Ytdmlgfifiicmpab
/- THE CELL 'sum', in the pinned program and in every row, IS THE sha256 OF THE DUMP (.gsa) THAT YtdmlgfifiicmpabProg.lean LOADS. Nothing in Lean hashes anything: it is a label: what it is worth is what the hold of that sum in a sandbox is worth. -/
noncomputable def Try.pinned : Pinned := { name := "ytdmlgfifiicmpab", sum := "e3de68ba359a67a044388b89daeca541d500a8e7ea461be4c27c899f0c184fb7", checked := Try.checked }
namespace Rows
def none {H : Type} : Left H := { results := [], args := [] }

/-- 'laws.FnExactSnapPoint': WHATEVER THE INPUT: true; the input reads as it did. -/
def fnExactSnapPointSpec : ChangeSpec := { name := "fnExactSnapPoint", fn := fun _ => fun
  | [d1, d2] => { results := [.lit (.bool true)], args := [d1, d2] }
  | _ => none }
def fnExactSnapPointRow : OpenClaim := { program := "ytdmlgfifiicmpab", sum := "e3de68ba359a67a044388b89daeca541d500a8e7ea461be4c27c899f0c184fb7", func := "loop.example/g00403/laws.FnExactSnapPoint", spec := "fnExactSnapPoint", apart := false }
def FnExactSnapPointSaid : Prop := fnExactSnapPointRow.holds Try.pinned (OpenSpec.ofChange fnExactSnapPointSpec)

/-- ITS FALSE NEIGHBOUR: 'it returns false'. Refute it at one input. -/
def fnExactSnapPointWrong : ChangeSpec := { name := "fnExactSnapPoint", fn := fun _ => fun
  | [d1, d2] => { results := [.lit (.bool false)], args := [d1, d2] }
  | _ => none }
def FnExactSnapPointWrongFalsely : Prop := fnExactSnapPointRow.holds Try.pinned (OpenSpec.ofChange fnExactSnapPointWrong)

/-- 'laws.FnExactSnapAll': WHATEVER THE INPUT: true; the input reads as it did. -/
def fnExactSnapAllSpec : ChangeSpec := { name := "fnExactSnapAll", fn := fun _ => fun
  | [d1, d2] => { results := [.lit (.bool true)], args := [d1, d2] }
  | _ => none }
def fnExactSnapAllRow : OpenClaim := { program := "ytdmlgfifiicmpab", sum := "e3de68ba359a67a044388b89daeca541d500a8e7ea461be4c27c899f0c184fb7", func := "loop.example/g00403/laws.FnExactSnapAll", spec := "fnExactSnapAll", apart := false }
def FnExactSnapAllSaid : Prop := fnExactSnapAllRow.holds Try.pinned (OpenSpec.ofChange fnExactSnapAllSpec)

/-- ITS FALSE NEIGHBOUR: 'it returns false'. Refute it at one input. -/
def fnExactSnapAllWrong : ChangeSpec := { name := "fnExactSnapAll", fn := fun _ => fun
  | [d1, d2] => { results := [.lit (.bool false)], args := [d1, d2] }
  | _ => none }
def FnExactSnapAllWrongFalsely : Prop := fnExactSnapAllRow.holds Try.pinned (OpenSpec.ofChange fnExactSnapAllWrong)

/-- 'laws.FnExactThinLine': WHATEVER THE INPUT: true; the input reads as it did. -/
def fnExactThinLineSpec : ChangeSpec := { name := "fnExactThinLine", fn := fun _ => fun
  | [d1, d2] => { results := [.lit (.bool true)], args := [d1, d2] }
  | _ => none }
def fnExactThinLineRow : OpenClaim := { program := "ytdmlgfifiicmpab", sum := "e3de68ba359a67a044388b89daeca541d500a8e7ea461be4c27c899f0c184fb7", func := "loop.example/g00403/laws.FnExactThinLine", spec := "fnExactThinLine", recurses := true, apart := false }
def FnExactThinLineSaid : Prop := fnExactThinLineRow.holds Try.pinned (OpenSpec.ofChange fnExactThinLineSpec)

/-- ITS FALSE NEIGHBOUR: 'it returns false'. Refute it at one input. -/
def fnExactThinLineWrong : ChangeSpec := { name := "fnExactThinLine", fn := fun _ => fun
  | [d1, d2] => { results := [.lit (.bool false)], args := [d1, d2] }
  | _ => none }
def FnExactThinLineWrongFalsely : Prop := fnExactThinLineRow.holds Try.pinned (OpenSpec.ofChange fnExactThinLineWrong)

/-- 'laws.FnExactSimpleAt': WHATEVER THE INPUT: true; the input reads as it did. -/
def fnExactSimpleAtSpec : ChangeSpec := { name := "fnExactSimpleAt", fn := fun _ => fun
  | [d1, d2] => { results := [.lit (.bool true)], args := [d1, d2] }
  | _ => none }
def fnExactSimpleAtRow : OpenClaim := { program := "ytdmlgfifiicmpab", sum := "e3de68ba359a67a044388b89daeca541d500a8e7ea461be4c27c899f0c184fb7", func := "loop.example/g00403/laws.FnExactSimpleAt", spec := "fnExactSimpleAt", unfollowed := true, recurses := true, apart := false }
def FnExactSimpleAtSaid : Prop := fnExactSimpleAtRow.holds Try.pinned (OpenSpec.ofChange fnExactSimpleAtSpec)

/-- ITS FALSE NEIGHBOUR: 'it returns false'. Refute it at one input. -/
def fnExactSimpleAtWrong : ChangeSpec := { name := "fnExactSimpleAt", fn := fun _ => fun
  | [d1, d2] => { results := [.lit (.bool false)], args := [d1, d2] }
  | _ => none }
def FnExactSimpleAtWrongFalsely : Prop := fnExactSimpleAtRow.holds Try.pinned (OpenSpec.ofChange fnExactSimpleAtWrong)

/- THE SECOND FORM. 'bulk': how many values and letters a reading holds, each counted each time it is reached (what is shared counts as often as it is met; a slice's spare places count too). A statement '..UptoSaid' is the law's where the arguments, and the package variables that the reading takes, are together of bulk at most 1048576: NARROWER than '..Said'. Prove '..Said' where nothing that the law and all that it calls make is longer than what came in: it says more and counts as full. Else prove '..UptoSaid'. A law counts once. -/
mutual
def uptoBulk {H : Type} : DataW H → Nat
  | .lit (.string bytes) => bytes.length + 1
  | .lit _ => 1
  | .nil => 1
  | .ptr d => uptoBulk d + 1
  | .slice elems spare => uptoBulkAll elems + uptoBulkAll spare + 1
  | .agg parts => uptoBulkAll parts + 1
  | .iface _ d => uptoBulk d + 1
  | .map entries => uptoBulkEntries entries + 1
  | .held _ => 1
def uptoBulkAll {H : Type} : List (DataW H) → Nat
  | [] => 0
  | d :: r => uptoBulk d + uptoBulkAll r
def uptoBulkEntries {H : Type} : List (Lit × DataW H) → Nat
  | [] => 0
  | x :: r => uptoBulkEntry x + uptoBulkEntries r
def uptoBulkEntry {H : Type} : Lit × DataW H → Nat
  | (.string bytes, d) => bytes.length + uptoBulk d + 1
  | (_, d) => uptoBulk d + 1
 end
def uptoSmall : (H : Type) → List (DataW H) → Bool := fun _ ds => decide (uptoBulkAll ds ≤ 1048576)
def OpenSpec.upto (s : _root_.Go.ChangeSpec) : _root_.Go.OpenSpec := { _root_.Go.OpenSpec.ofChange s with cond := some uptoSmall }

/-- 'laws.FnExactSnapPoint', WHERE WHAT IT READS IS OF BULK AT MOST 1048576: true; the input reads as it did. -/
def fnExactSnapPointUptoRow : OpenClaim := { program := "ytdmlgfifiicmpab", sum := "e3de68ba359a67a044388b89daeca541d500a8e7ea461be4c27c899f0c184fb7", func := "loop.example/g00403/laws.FnExactSnapPoint", spec := "fnExactSnapPoint", apart := false, narrowed := true }
def FnExactSnapPointUptoSaid : Prop := fnExactSnapPointUptoRow.holds Try.pinned (OpenSpec.upto fnExactSnapPointSpec)

/-- 'laws.FnExactSnapAll', WHERE WHAT IT READS IS OF BULK AT MOST 1048576: true; the input reads as it did. -/
def fnExactSnapAllUptoRow : OpenClaim := { program := "ytdmlgfifiicmpab", sum := "e3de68ba359a67a044388b89daeca541d500a8e7ea461be4c27c899f0c184fb7", func := "loop.example/g00403/laws.FnExactSnapAll", spec := "fnExactSnapAll", apart := false, narrowed := true }
def FnExactSnapAllUptoSaid : Prop := fnExactSnapAllUptoRow.holds Try.pinned (OpenSpec.upto fnExactSnapAllSpec)

/-- 'laws.FnExactThinLine', WHERE WHAT IT READS IS OF BULK AT MOST 1048576: true; the input reads as it did. -/
def fnExactThinLineUptoRow : OpenClaim := { program := "ytdmlgfifiicmpab", sum := "e3de68ba359a67a044388b89daeca541d500a8e7ea461be4c27c899f0c184fb7", func := "loop.example/g00403/laws.FnExactThinLine", spec := "fnExactThinLine", recurses := true, apart := false, narrowed := true }
def FnExactThinLineUptoSaid : Prop := fnExactThinLineUptoRow.holds Try.pinned (OpenSpec.upto fnExactThinLineSpec)

/-- 'laws.FnExactSimpleAt', WHERE WHAT IT READS IS OF BULK AT MOST 1048576: true; the input reads as it did. -/
def fnExactSimpleAtUptoRow : OpenClaim := { program := "ytdmlgfifiicmpab", sum := "e3de68ba359a67a044388b89daeca541d500a8e7ea461be4c27c899f0c184fb7", func := "loop.example/g00403/laws.FnExactSimpleAt", spec := "fnExactSimpleAt", unfollowed := true, recurses := true, apart := false, narrowed := true }
def FnExactSimpleAtUptoSaid : Prop := fnExactSimpleAtUptoRow.holds Try.pinned (OpenSpec.upto fnExactSimpleAtSpec)

end Rows
end Go.Proofs.Ytdmlgfifiicmpab
