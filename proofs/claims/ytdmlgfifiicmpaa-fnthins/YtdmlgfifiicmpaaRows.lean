/-
  No cell of these rows narrows 'for every input' (looked for: loops, veiled, ifaces, maps, wideKeys, modest, calm, conditions, laid).
  DERIVED. THE GIVEN ROWS OF THIS SEAT. 6 by the template 'for every input the law returns true; each argument reads behind the call as it read before'; 0 by the template 'total and deterministic' (their statements: YtdmlgfifiicmpaaTotals.lean).
  GIVEN WITH THE SEED: the statements are not yours to turn. If you find one false, say at which input.
  Laid BY PROGRAM, IN A SANDBOX (cutbox-rows.mjs): the forced cells as the released guide's own fill.sh prints them over the translation 6f183ca22f4eceae… (all of the seat's roots in one cut). By AI agents, Wed Nov 11 2026. No macro, syntax, notation, axiom, sorry.
-/
import Derived.Test.YtdmlgfifiicmpaaChecked
import GoSem.Claim
import GoSem.ClaimJoined
import GoSem.ClaimMapViews
import Derived.JoinedTies
import Derived.KernelRfl
namespace Go.Proofs.Ytdmlgfifiicmpaa
/- THE CELL 'sum', in the pinned program and in every row, IS THE sha256 OF THE DUMP (.gsa) THAT YtdmlgfifiicmpaaProg.lean LOADS. Nothing in Lean hashes anything: it is a label: what it is worth is what the hold of that sum in a sandbox is worth. -/
noncomputable def Try.pinned : Pinned := { name := "ytdmlgfifiicmpaa", sum := "6f183ca22f4eceaead28e65a3780ecdcfc23b48284d4bbc6701ec3bad4ec4c3a", checked := Try.checked }
namespace Rows
def none {H : Type} : Left H := { results := [], args := [] }

/-- 'laws.FnSnaps': WHATEVER THE INPUT: true; the input reads as it did. -/
def fnSnapsSpec : ChangeSpec := { name := "fnSnaps", fn := fun _ => fun
  | [d] => { results := [.lit (.bool true)], args := [d] }
  | _ => none }
def fnSnapsRow : OpenClaim := { program := "ytdmlgfifiicmpaa", sum := "6f183ca22f4eceaead28e65a3780ecdcfc23b48284d4bbc6701ec3bad4ec4c3a", func := "loop.example/g00403/laws.FnSnaps", spec := "fnSnaps", apart := false }
def FnSnapsSaid : Prop := fnSnapsRow.holds Try.pinned (OpenSpec.ofChange fnSnapsSpec)

/-- ITS FALSE NEIGHBOUR: 'it returns false'. Refute it at one input. -/
def fnSnapsWrong : ChangeSpec := { name := "fnSnaps", fn := fun _ => fun
  | [d] => { results := [.lit (.bool false)], args := [d] }
  | _ => none }
def FnSnapsWrongFalsely : Prop := fnSnapsRow.holds Try.pinned (OpenSpec.ofChange fnSnapsWrong)

/-- 'laws.FnThins': WHATEVER THE INPUT: true; the input reads as it did. -/
def fnThinsSpec : ChangeSpec := { name := "fnThins", fn := fun _ => fun
  | [d] => { results := [.lit (.bool true)], args := [d] }
  | _ => none }
def fnThinsRow : OpenClaim := { program := "ytdmlgfifiicmpaa", sum := "6f183ca22f4eceaead28e65a3780ecdcfc23b48284d4bbc6701ec3bad4ec4c3a", func := "loop.example/g00403/laws.FnThins", spec := "fnThins", recurses := true, apart := false }
def FnThinsSaid : Prop := fnThinsRow.holds Try.pinned (OpenSpec.ofChange fnThinsSpec)

/-- ITS FALSE NEIGHBOUR: 'it returns false'. Refute it at one input. -/
def fnThinsWrong : ChangeSpec := { name := "fnThins", fn := fun _ => fun
  | [d] => { results := [.lit (.bool false)], args := [d] }
  | _ => none }
def FnThinsWrongFalsely : Prop := fnThinsRow.holds Try.pinned (OpenSpec.ofChange fnThinsWrong)

/-- 'laws.FnSimples': WHATEVER THE INPUT: true; the input reads as it did. -/
def fnSimplesSpec : ChangeSpec := { name := "fnSimples", fn := fun _ => fun
  | [d] => { results := [.lit (.bool true)], args := [d] }
  | _ => none }
def fnSimplesRow : OpenClaim := { program := "ytdmlgfifiicmpaa", sum := "6f183ca22f4eceaead28e65a3780ecdcfc23b48284d4bbc6701ec3bad4ec4c3a", func := "loop.example/g00403/laws.FnSimples", spec := "fnSimples", unfollowed := true, recurses := true, apart := false }
def FnSimplesSaid : Prop := fnSimplesRow.holds Try.pinned (OpenSpec.ofChange fnSimplesSpec)

/-- ITS FALSE NEIGHBOUR: 'it returns false'. Refute it at one input. -/
def fnSimplesWrong : ChangeSpec := { name := "fnSimples", fn := fun _ => fun
  | [d] => { results := [.lit (.bool false)], args := [d] }
  | _ => none }
def FnSimplesWrongFalsely : Prop := fnSimplesRow.holds Try.pinned (OpenSpec.ofChange fnSimplesWrong)

/-- 'laws.FnSorts': WHATEVER THE INPUT: true; the input reads as it did. -/
def fnSortsSpec : ChangeSpec := { name := "fnSorts", fn := fun _ => fun
  | [d] => { results := [.lit (.bool true)], args := [d] }
  | _ => none }
def fnSortsRow : OpenClaim := { program := "ytdmlgfifiicmpaa", sum := "6f183ca22f4eceaead28e65a3780ecdcfc23b48284d4bbc6701ec3bad4ec4c3a", func := "loop.example/g00403/laws.FnSorts", spec := "fnSorts", unfollowed := true, recurses := true, apart := false }
def FnSortsSaid : Prop := fnSortsRow.holds Try.pinned (OpenSpec.ofChange fnSortsSpec)

/-- ITS FALSE NEIGHBOUR: 'it returns false'. Refute it at one input. -/
def fnSortsWrong : ChangeSpec := { name := "fnSorts", fn := fun _ => fun
  | [d] => { results := [.lit (.bool false)], args := [d] }
  | _ => none }
def FnSortsWrongFalsely : Prop := fnSortsRow.holds Try.pinned (OpenSpec.ofChange fnSortsWrong)

/-- 'laws.FnExactSortFeatures': WHATEVER THE INPUT: true; the input reads as it did. -/
def fnExactSortFeaturesSpec : ChangeSpec := { name := "fnExactSortFeatures", fn := fun _ => fun
  | [d] => { results := [.lit (.bool true)], args := [d] }
  | _ => none }
def fnExactSortFeaturesRow : OpenClaim := { program := "ytdmlgfifiicmpaa", sum := "6f183ca22f4eceaead28e65a3780ecdcfc23b48284d4bbc6701ec3bad4ec4c3a", func := "loop.example/g00403/laws.FnExactSortFeatures", spec := "fnExactSortFeatures", unfollowed := true, recurses := true, apart := false }
def FnExactSortFeaturesSaid : Prop := fnExactSortFeaturesRow.holds Try.pinned (OpenSpec.ofChange fnExactSortFeaturesSpec)

/-- ITS FALSE NEIGHBOUR: 'it returns false'. Refute it at one input. -/
def fnExactSortFeaturesWrong : ChangeSpec := { name := "fnExactSortFeatures", fn := fun _ => fun
  | [d] => { results := [.lit (.bool false)], args := [d] }
  | _ => none }
def FnExactSortFeaturesWrongFalsely : Prop := fnExactSortFeaturesRow.holds Try.pinned (OpenSpec.ofChange fnExactSortFeaturesWrong)

/-- 'laws.FnExactUnitAt': WHATEVER THE INPUT: true; the input reads as it did. -/
def fnExactUnitAtSpec : ChangeSpec := { name := "fnExactUnitAt", fn := fun _ => fun
  | [d] => { results := [.lit (.bool true)], args := [d] }
  | _ => none }
def fnExactUnitAtRow : OpenClaim := { program := "ytdmlgfifiicmpaa", sum := "6f183ca22f4eceaead28e65a3780ecdcfc23b48284d4bbc6701ec3bad4ec4c3a", func := "loop.example/g00403/laws.FnExactUnitAt", spec := "fnExactUnitAt", apart := false }
def FnExactUnitAtSaid : Prop := fnExactUnitAtRow.holds Try.pinned (OpenSpec.ofChange fnExactUnitAtSpec)

/-- ITS FALSE NEIGHBOUR: 'it returns false'. Refute it at one input. -/
def fnExactUnitAtWrong : ChangeSpec := { name := "fnExactUnitAt", fn := fun _ => fun
  | [d] => { results := [.lit (.bool false)], args := [d] }
  | _ => none }
def FnExactUnitAtWrongFalsely : Prop := fnExactUnitAtRow.holds Try.pinned (OpenSpec.ofChange fnExactUnitAtWrong)

/- THE SECOND FORM. 'bulk': how many values and letters a reading holds, each counted each time it is reached (what is shared counts as often as it is met; a slice's spare places count too). A statement '..UptoSaid' is the law's where the arguments, and the package variables that the reading takes, are together of bulk at most 1048576: NARROWER than '..Said'. Prove '..Said' where nothing that the law and all that it calls make is longer than what came in: it says more and counts as full. Else prove '..UptoSaid'. A law counts once. -/
mutual
def uptoBulk {H : Type} : DataW H → Nat
  | .lit (.string bytes) => bytes.length + 1
  | .lit _ => 1
  | .nil => 1
  | .ptr d => uptoBulk d + 1
  | .slice elems spare => uptoBulkAll elems + uptoBulkAll spare + 1
  | .agg parts => uptoBulkAll parts + 1
  | .iface _ d => uptoBulk d + 1
  | .map entries => uptoBulkEntries entries + 1
  | .held _ => 1
def uptoBulkAll {H : Type} : List (DataW H) → Nat
  | [] => 0
  | d :: r => uptoBulk d + uptoBulkAll r
def uptoBulkEntries {H : Type} : List (Lit × DataW H) → Nat
  | [] => 0
  | x :: r => uptoBulkEntry x + uptoBulkEntries r
def uptoBulkEntry {H : Type} : Lit × DataW H → Nat
  | (.string bytes, d) => bytes.length + uptoBulk d + 1
  | (_, d) => uptoBulk d + 1
 end
def uptoSmall : (H : Type) → List (DataW H) → Bool := fun _ ds => decide (uptoBulkAll ds ≤ 1048576)
def OpenSpec.upto (s : _root_.Go.ChangeSpec) : _root_.Go.OpenSpec := { _root_.Go.OpenSpec.ofChange s with cond := some uptoSmall }

/-- 'laws.FnSnaps', WHERE WHAT IT READS IS OF BULK AT MOST 1048576: true; the input reads as it did. -/
def fnSnapsUptoRow : OpenClaim := { program := "ytdmlgfifiicmpaa", sum := "6f183ca22f4eceaead28e65a3780ecdcfc23b48284d4bbc6701ec3bad4ec4c3a", func := "loop.example/g00403/laws.FnSnaps", spec := "fnSnaps", apart := false, narrowed := true }
def FnSnapsUptoSaid : Prop := fnSnapsUptoRow.holds Try.pinned (OpenSpec.upto fnSnapsSpec)

/-- 'laws.FnThins', WHERE WHAT IT READS IS OF BULK AT MOST 1048576: true; the input reads as it did. -/
def fnThinsUptoRow : OpenClaim := { program := "ytdmlgfifiicmpaa", sum := "6f183ca22f4eceaead28e65a3780ecdcfc23b48284d4bbc6701ec3bad4ec4c3a", func := "loop.example/g00403/laws.FnThins", spec := "fnThins", recurses := true, apart := false, narrowed := true }
def FnThinsUptoSaid : Prop := fnThinsUptoRow.holds Try.pinned (OpenSpec.upto fnThinsSpec)

/-- 'laws.FnSimples', WHERE WHAT IT READS IS OF BULK AT MOST 1048576: true; the input reads as it did. -/
def fnSimplesUptoRow : OpenClaim := { program := "ytdmlgfifiicmpaa", sum := "6f183ca22f4eceaead28e65a3780ecdcfc23b48284d4bbc6701ec3bad4ec4c3a", func := "loop.example/g00403/laws.FnSimples", spec := "fnSimples", unfollowed := true, recurses := true, apart := false, narrowed := true }
def FnSimplesUptoSaid : Prop := fnSimplesUptoRow.holds Try.pinned (OpenSpec.upto fnSimplesSpec)

/-- 'laws.FnSorts', WHERE WHAT IT READS IS OF BULK AT MOST 1048576: true; the input reads as it did. -/
def fnSortsUptoRow : OpenClaim := { program := "ytdmlgfifiicmpaa", sum := "6f183ca22f4eceaead28e65a3780ecdcfc23b48284d4bbc6701ec3bad4ec4c3a", func := "loop.example/g00403/laws.FnSorts", spec := "fnSorts", unfollowed := true, recurses := true, apart := false, narrowed := true }
def FnSortsUptoSaid : Prop := fnSortsUptoRow.holds Try.pinned (OpenSpec.upto fnSortsSpec)

/-- 'laws.FnExactSortFeatures', WHERE WHAT IT READS IS OF BULK AT MOST 1048576: true; the input reads as it did. -/
def fnExactSortFeaturesUptoRow : OpenClaim := { program := "ytdmlgfifiicmpaa", sum := "6f183ca22f4eceaead28e65a3780ecdcfc23b48284d4bbc6701ec3bad4ec4c3a", func := "loop.example/g00403/laws.FnExactSortFeatures", spec := "fnExactSortFeatures", unfollowed := true, recurses := true, apart := false, narrowed := true }
def FnExactSortFeaturesUptoSaid : Prop := fnExactSortFeaturesUptoRow.holds Try.pinned (OpenSpec.upto fnExactSortFeaturesSpec)

/-- 'laws.FnExactUnitAt', WHERE WHAT IT READS IS OF BULK AT MOST 1048576: true; the input reads as it did. -/
def fnExactUnitAtUptoRow : OpenClaim := { program := "ytdmlgfifiicmpaa", sum := "6f183ca22f4eceaead28e65a3780ecdcfc23b48284d4bbc6701ec3bad4ec4c3a", func := "loop.example/g00403/laws.FnExactUnitAt", spec := "fnExactUnitAt", apart := false, narrowed := true }
def FnExactUnitAtUptoSaid : Prop := fnExactUnitAtUptoRow.holds Try.pinned (OpenSpec.upto fnExactUnitAtSpec)

end Rows
end Go.Proofs.Ytdmlgfifiicmpaa
