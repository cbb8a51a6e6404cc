/-
  No cell of these rows narrows 'for every input' (looked for: loops, veiled, ifaces, maps, wideKeys, modest, calm, conditions, laid).
  DERIVED. THE GIVEN ROWS OF THIS SEAT. 6 by the template 'for every input the law returns true; each argument reads behind the call as it read before'; 0 by the template 'total and deterministic' (their statements: YtkadkpdcjccnbaaTotals.lean).
  GIVEN WITH THE SEED: the statements are not yours to turn. If you find one false, say at which input.
  Laid BY PROGRAM, IN A SANDBOX (cutbox-rows.mjs): the forced cells as the released guide's own fill.sh prints them over the translation fdf0d986b87f128a… (all of the seat's roots in one cut). By AI agents, Wed Nov 11 2026. No macro, syntax, notation, axiom, sorry.
-/
import Derived.Test.YtkadkpdcjccnbaaChecked
import GoSem.Claim
import GoSem.ClaimJoined
import GoSem.ClaimMapViews
import Derived.JoinedTies
import Derived.KernelRfl
namespace Go.Proofs.Ytkadkpdcjccnbaa
/- THE CELL 'sum', in the pinned program and in every row, IS THE sha256 OF THE DUMP (.gsa) THAT YtkadkpdcjccnbaaProg.lean LOADS. Nothing in Lean hashes anything: it is a label: what it is worth is what the hold of that sum in a sandbox is worth. -/
noncomputable def Try.pinned : Pinned := { name := "ytkadkpdcjccnbaa", sum := "fdf0d986b87f128a55a33e0879d650932c9715c29d6cd3d2e69b743f890ab02b", checked := Try.checked }
namespace Rows
def none {H : Type} : Left H := { results := [], args := [] }

/-- 'laws.FnNumbers': WHATEVER THE INPUT: true; the input reads as it did. -/
def fnNumbersSpec : ChangeSpec := { name := "fnNumbers", fn := fun _ => fun
  | [d] => { results := [.lit (.bool true)], args := [d] }
  | _ => none }
def fnNumbersRow : OpenClaim := { program := "ytkadkpdcjccnbaa", sum := "fdf0d986b87f128a55a33e0879d650932c9715c29d6cd3d2e69b743f890ab02b", func := "loop.example/g00403/laws.FnNumbers", spec := "fnNumbers", unfollowed := true, recurses := true, apart := false }
def FnNumbersSaid : Prop := fnNumbersRow.holds Try.pinned (OpenSpec.ofChange fnNumbersSpec)

/-- ITS FALSE NEIGHBOUR: 'it returns false'. Refute it at one input. -/
def fnNumbersWrong : ChangeSpec := { name := "fnNumbers", fn := fun _ => fun
  | [d] => { results := [.lit (.bool false)], args := [d] }
  | _ => none }
def FnNumbersWrongFalsely : Prop := fnNumbersRow.holds Try.pinned (OpenSpec.ofChange fnNumbersWrong)

/-- 'laws.FnPacks': WHATEVER THE INPUT: true; the input reads as it did. -/
def fnPacksSpec : ChangeSpec := { name := "fnPacks", fn := fun _ => fun
  | [d] => { results := [.lit (.bool true)], args := [d] }
  | _ => none }
def fnPacksRow : OpenClaim := { program := "ytkadkpdcjccnbaa", sum := "fdf0d986b87f128a55a33e0879d650932c9715c29d6cd3d2e69b743f890ab02b", func := "loop.example/g00403/laws.FnPacks", spec := "fnPacks", unfollowed := true, recurses := true, apart := false }
def FnPacksSaid : Prop := fnPacksRow.holds Try.pinned (OpenSpec.ofChange fnPacksSpec)

/-- ITS FALSE NEIGHBOUR: 'it returns false'. Refute it at one input. -/
def fnPacksWrong : ChangeSpec := { name := "fnPacks", fn := fun _ => fun
  | [d] => { results := [.lit (.bool false)], args := [d] }
  | _ => none }
def FnPacksWrongFalsely : Prop := fnPacksRow.holds Try.pinned (OpenSpec.ofChange fnPacksWrong)

/-- 'laws.FnExactQuadsFault': WHATEVER THE INPUT: true; the input reads as it did. -/
def fnExactQuadsFaultSpec : ChangeSpec := { name := "fnExactQuadsFault", fn := fun _ => fun
  | [d] => { results := [.lit (.bool true)], args := [d] }
  | _ => none }
def fnExactQuadsFaultRow : OpenClaim := { program := "ytkadkpdcjccnbaa", sum := "fdf0d986b87f128a55a33e0879d650932c9715c29d6cd3d2e69b743f890ab02b", func := "loop.example/g00403/laws.FnExactQuadsFault", spec := "fnExactQuadsFault", unfollowed := true, recurses := true, apart := false }
def FnExactQuadsFaultSaid : Prop := fnExactQuadsFaultRow.holds Try.pinned (OpenSpec.ofChange fnExactQuadsFaultSpec)

/-- ITS FALSE NEIGHBOUR: 'it returns false'. Refute it at one input. -/
def fnExactQuadsFaultWrong : ChangeSpec := { name := "fnExactQuadsFault", fn := fun _ => fun
  | [d] => { results := [.lit (.bool false)], args := [d] }
  | _ => none }
def FnExactQuadsFaultWrongFalsely : Prop := fnExactQuadsFaultRow.holds Try.pinned (OpenSpec.ofChange fnExactQuadsFaultWrong)

/-- 'laws.FnExactCountQuads': WHATEVER THE INPUT: true; the input reads as it did. -/
def fnExactCountQuadsSpec : ChangeSpec := { name := "fnExactCountQuads", fn := fun _ => fun
  | [d] => { results := [.lit (.bool true)], args := [d] }
  | _ => none }
def fnExactCountQuadsRow : OpenClaim := { program := "ytkadkpdcjccnbaa", sum := "fdf0d986b87f128a55a33e0879d650932c9715c29d6cd3d2e69b743f890ab02b", func := "loop.example/g00403/laws.FnExactCountQuads", spec := "fnExactCountQuads", unfollowed := true, recurses := true, apart := false }
def FnExactCountQuadsSaid : Prop := fnExactCountQuadsRow.holds Try.pinned (OpenSpec.ofChange fnExactCountQuadsSpec)

/-- ITS FALSE NEIGHBOUR: 'it returns false'. Refute it at one input. -/
def fnExactCountQuadsWrong : ChangeSpec := { name := "fnExactCountQuads", fn := fun _ => fun
  | [d] => { results := [.lit (.bool false)], args := [d] }
  | _ => none }
def FnExactCountQuadsWrongFalsely : Prop := fnExactCountQuadsRow.holds Try.pinned (OpenSpec.ofChange fnExactCountQuadsWrong)

/-- 'laws.FnExactPutNumber': WHATEVER THE INPUT: true; the input reads as it did. -/
def fnExactPutNumberSpec : ChangeSpec := { name := "fnExactPutNumber", fn := fun _ => fun
  | [d] => { results := [.lit (.bool true)], args := [d] }
  | _ => none }
def fnExactPutNumberRow : OpenClaim := { program := "ytkadkpdcjccnbaa", sum := "fdf0d986b87f128a55a33e0879d650932c9715c29d6cd3d2e69b743f890ab02b", func := "loop.example/g00403/laws.FnExactPutNumber", spec := "fnExactPutNumber", recurses := true, apart := false }
def FnExactPutNumberSaid : Prop := fnExactPutNumberRow.holds Try.pinned (OpenSpec.ofChange fnExactPutNumberSpec)

/-- ITS FALSE NEIGHBOUR: 'it returns false'. Refute it at one input. -/
def fnExactPutNumberWrong : ChangeSpec := { name := "fnExactPutNumber", fn := fun _ => fun
  | [d] => { results := [.lit (.bool false)], args := [d] }
  | _ => none }
def FnExactPutNumberWrongFalsely : Prop := fnExactPutNumberRow.holds Try.pinned (OpenSpec.ofChange fnExactPutNumberWrong)

/-- 'laws.FnExactReadNumber': WHATEVER THE INPUT: true; the input reads as it did. -/
def fnExactReadNumberSpec : ChangeSpec := { name := "fnExactReadNumber", fn := fun _ => fun
  | [d] => { results := [.lit (.bool true)], args := [d] }
  | _ => none }
def fnExactReadNumberRow : OpenClaim := { program := "ytkadkpdcjccnbaa", sum := "fdf0d986b87f128a55a33e0879d650932c9715c29d6cd3d2e69b743f890ab02b", func := "loop.example/g00403/laws.FnExactReadNumber", spec := "fnExactReadNumber", unfollowed := true, recurses := true, apart := false }
def FnExactReadNumberSaid : Prop := fnExactReadNumberRow.holds Try.pinned (OpenSpec.ofChange fnExactReadNumberSpec)

/-- ITS FALSE NEIGHBOUR: 'it returns false'. Refute it at one input. -/
def fnExactReadNumberWrong : ChangeSpec := { name := "fnExactReadNumber", fn := fun _ => fun
  | [d] => { results := [.lit (.bool false)], args := [d] }
  | _ => none }
def FnExactReadNumberWrongFalsely : Prop := fnExactReadNumberRow.holds Try.pinned (OpenSpec.ofChange fnExactReadNumberWrong)

/- THE SECOND FORM. 'bulk': how many values and letters a reading holds, each counted each time it is reached (what is shared counts as often as it is met; a slice's spare places count too). A statement '..UptoSaid' is the law's where the arguments, and the package variables that the reading takes, are together of bulk at most 1048576: NARROWER than '..Said'. Prove '..Said' where nothing that the law and all that it calls make is longer than what came in: it says more and counts as full. Else prove '..UptoSaid'. A law counts once. -/
mutual
def uptoBulk {H : Type} : DataW H → Nat
  | .lit (.string bytes) => bytes.length + 1
  | .lit _ => 1
  | .nil => 1
  | .ptr d => uptoBulk d + 1
  | .slice elems spare => uptoBulkAll elems + uptoBulkAll spare + 1
  | .agg parts => uptoBulkAll parts + 1
  | .iface _ d => uptoBulk d + 1
  | .map entries => uptoBulkEntries entries + 1
  | .held _ => 1
def uptoBulkAll {H : Type} : List (DataW H) → Nat
  | [] => 0
  | d :: r => uptoBulk d + uptoBulkAll r
def uptoBulkEntries {H : Type} : List (Lit × DataW H) → Nat
  | [] => 0
  | x :: r => uptoBulkEntry x + uptoBulkEntries r
def uptoBulkEntry {H : Type} : Lit × DataW H → Nat
  | (.string bytes, d) => bytes.length + uptoBulk d + 1
  | (_, d) => uptoBulk d + 1
 end
def uptoSmall : (H : Type) → List (DataW H) → Bool := fun _ ds => decide (uptoBulkAll ds ≤ 1048576)
def OpenSpec.upto (s : _root_.Go.ChangeSpec) : _root_.Go.OpenSpec := { _root_.Go.OpenSpec.ofChange s with cond := some uptoSmall }

/-- 'laws.FnNumbers', WHERE WHAT IT READS IS OF BULK AT MOST 1048576: true; the input reads as it did. -/
def fnNumbersUptoRow : OpenClaim := { program := "ytkadkpdcjccnbaa", sum := "fdf0d986b87f128a55a33e0879d650932c9715c29d6cd3d2e69b743f890ab02b", func := "loop.example/g00403/laws.FnNumbers", spec := "fnNumbers", unfollowed := true, recurses := true, apart := false, narrowed := true }
def FnNumbersUptoSaid : Prop := fnNumbersUptoRow.holds Try.pinned (OpenSpec.upto fnNumbersSpec)

/-- 'laws.FnPacks', WHERE WHAT IT READS IS OF BULK AT MOST 1048576: true; the input reads as it did. -/
def fnPacksUptoRow : OpenClaim := { program := "ytkadkpdcjccnbaa", sum := "fdf0d986b87f128a55a33e0879d650932c9715c29d6cd3d2e69b743f890ab02b", func := "loop.example/g00403/laws.FnPacks", spec := "fnPacks", unfollowed := true, recurses := true, apart := false, narrowed := true }
def FnPacksUptoSaid : Prop := fnPacksUptoRow.holds Try.pinned (OpenSpec.upto fnPacksSpec)

/-- 'laws.FnExactQuadsFault', WHERE WHAT IT READS IS OF BULK AT MOST 1048576: true; the input reads as it did. -/
def fnExactQuadsFaultUptoRow : OpenClaim := { program := "ytkadkpdcjccnbaa", sum := "fdf0d986b87f128a55a33e0879d650932c9715c29d6cd3d2e69b743f890ab02b", func := "loop.example/g00403/laws.FnExactQuadsFault", spec := "fnExactQuadsFault", unfollowed := true, recurses := true, apart := false, narrowed := true }
def FnExactQuadsFaultUptoSaid : Prop := fnExactQuadsFaultUptoRow.holds Try.pinned (OpenSpec.upto fnExactQuadsFaultSpec)

/-- 'laws.FnExactCountQuads', WHERE WHAT IT READS IS OF BULK AT MOST 1048576: true; the input reads as it did. -/
def fnExactCountQuadsUptoRow : OpenClaim := { program := "ytkadkpdcjccnbaa", sum := "fdf0d986b87f128a55a33e0879d650932c9715c29d6cd3d2e69b743f890ab02b", func := "loop.example/g00403/laws.FnExactCountQuads", spec := "fnExactCountQuads", unfollowed := true, recurses := true, apart := false, narrowed := true }
def FnExactCountQuadsUptoSaid : Prop := fnExactCountQuadsUptoRow.holds Try.pinned (OpenSpec.upto fnExactCountQuadsSpec)

/-- 'laws.FnExactPutNumber', WHERE WHAT IT READS IS OF BULK AT MOST 1048576: true; the input reads as it did. -/
def fnExactPutNumberUptoRow : OpenClaim := { program := "ytkadkpdcjccnbaa", sum := "fdf0d986b87f128a55a33e0879d650932c9715c29d6cd3d2e69b743f890ab02b", func := "loop.example/g00403/laws.FnExactPutNumber", spec := "fnExactPutNumber", recurses := true, apart := false, narrowed := true }
def FnExactPutNumberUptoSaid : Prop := fnExactPutNumberUptoRow.holds Try.pinned (OpenSpec.upto fnExactPutNumberSpec)

/-- 'laws.FnExactReadNumber', WHERE WHAT IT READS IS OF BULK AT MOST 1048576: true; the input reads as it did. -/
def fnExactReadNumberUptoRow : OpenClaim := { program := "ytkadkpdcjccnbaa", sum := "fdf0d986b87f128a55a33e0879d650932c9715c29d6cd3d2e69b743f890ab02b", func := "loop.example/g00403/laws.FnExactReadNumber", spec := "fnExactReadNumber", unfollowed := true, recurses := true, apart := false, narrowed := true }
def FnExactReadNumberUptoSaid : Prop := fnExactReadNumberUptoRow.holds Try.pinned (OpenSpec.upto fnExactReadNumberSpec)

end Rows
end Go.Proofs.Ytkadkpdcjccnbaa
