/-
  No cell of these rows narrows 'for every input' (looked for: loops, veiled, ifaces, maps, wideKeys, modest, calm, conditions, laid).
  DERIVED. THE GIVEN ROWS OF THIS SEAT. 3 by the template 'for every input the law returns true; each argument reads behind the call as it read before'; 0 by the template 'total and deterministic' (their statements: YtioiikddgcmjeaaTotals.lean).
  GIVEN WITH THE SEED: the statements are not yours to turn. If you find one false, say at which input.
  Laid BY PROGRAM, IN A SANDBOX (cutbox-rows.mjs): the forced cells as the released guide's own fill.sh prints them over the translation 6917e26107eb9e6a… (all of the seat's roots in one cut). By AI agents, Wed Nov 11 2026. No macro, syntax, notation, axiom, sorry.
-/
import Derived.Test.YtioiikddgcmjeaaChecked
import GoSem.Claim
import GoSem.ClaimJoined
import GoSem.ClaimMapViews
import Derived.JoinedTies
import Derived.KernelRfl
namespace Go.Proofs.Ytioiikddgcmjeaa
/- THE CELL 'sum', in the pinned program and in every row, IS THE sha256 OF THE DUMP (.gsa) THAT YtioiikddgcmjeaaProg.lean LOADS. Nothing in Lean hashes anything: it is a label: what it is worth is what the hold of that sum in a sandbox is worth. -/
noncomputable def Try.pinned : Pinned := { name := "ytioiikddgcmjeaa", sum := "6917e26107eb9e6af8ca43a406f575a674b0f87b48b807af7e7c6891193c6f53", checked := Try.checked }
namespace Rows
def none {H : Type} : Left H := { results := [], args := [] }

/-- 'laws.FnViews': WHATEVER THE INPUT: true; the input reads as it did. -/
def fnViewsSpec : ChangeSpec := { name := "fnViews", fn := fun _ => fun
  | [d] => { results := [.lit (.bool true)], args := [d] }
  | _ => none }
def fnViewsRow : OpenClaim := { program := "ytioiikddgcmjeaa", sum := "6917e26107eb9e6af8ca43a406f575a674b0f87b48b807af7e7c6891193c6f53", func := "loop.example/g00403/laws.FnViews", spec := "fnViews", apart := false }
def FnViewsSaid : Prop := fnViewsRow.holds Try.pinned (OpenSpec.ofChange fnViewsSpec)

/-- ITS FALSE NEIGHBOUR: 'it returns false'. Refute it at one input. -/
def fnViewsWrong : ChangeSpec := { name := "fnViews", fn := fun _ => fun
  | [d] => { results := [.lit (.bool false)], args := [d] }
  | _ => none }
def FnViewsWrongFalsely : Prop := fnViewsRow.holds Try.pinned (OpenSpec.ofChange fnViewsWrong)

/-- 'laws.FnExactVisibleRefs': WHATEVER THE INPUT: true; the input reads as it did. -/
def fnExactVisibleRefsSpec : ChangeSpec := { name := "fnExactVisibleRefs", fn := fun _ => fun
  | [d] => { results := [.lit (.bool true)], args := [d] }
  | _ => none }
def fnExactVisibleRefsRow : OpenClaim := { program := "ytioiikddgcmjeaa", sum := "6917e26107eb9e6af8ca43a406f575a674b0f87b48b807af7e7c6891193c6f53", func := "loop.example/g00403/laws.FnExactVisibleRefs", spec := "fnExactVisibleRefs", apart := false }
def FnExactVisibleRefsSaid : Prop := fnExactVisibleRefsRow.holds Try.pinned (OpenSpec.ofChange fnExactVisibleRefsSpec)

/-- ITS FALSE NEIGHBOUR: 'it returns false'. Refute it at one input. -/
def fnExactVisibleRefsWrong : ChangeSpec := { name := "fnExactVisibleRefs", fn := fun _ => fun
  | [d] => { results := [.lit (.bool false)], args := [d] }
  | _ => none }
def FnExactVisibleRefsWrongFalsely : Prop := fnExactVisibleRefsRow.holds Try.pinned (OpenSpec.ofChange fnExactVisibleRefsWrong)

/-- 'laws.FnExactIsSeen': WHATEVER THE INPUT: true; the input reads as it did. -/
def fnExactIsSeenSpec : ChangeSpec := { name := "fnExactIsSeen", fn := fun _ => fun
  | [d1, d2] => { results := [.lit (.bool true)], args := [d1, d2] }
  | _ => none }
def fnExactIsSeenRow : OpenClaim := { program := "ytioiikddgcmjeaa", sum := "6917e26107eb9e6af8ca43a406f575a674b0f87b48b807af7e7c6891193c6f53", func := "loop.example/g00403/laws.FnExactIsSeen", spec := "fnExactIsSeen", apart := false }
def FnExactIsSeenSaid : Prop := fnExactIsSeenRow.holds Try.pinned (OpenSpec.ofChange fnExactIsSeenSpec)

/-- ITS FALSE NEIGHBOUR: 'it returns false'. Refute it at one input. -/
def fnExactIsSeenWrong : ChangeSpec := { name := "fnExactIsSeen", fn := fun _ => fun
  | [d1, d2] => { results := [.lit (.bool false)], args := [d1, d2] }
  | _ => none }
def FnExactIsSeenWrongFalsely : Prop := fnExactIsSeenRow.holds Try.pinned (OpenSpec.ofChange fnExactIsSeenWrong)

/- THE SECOND FORM. 'bulk': how many values and letters a reading holds, each counted each time it is reached (what is shared counts as often as it is met; a slice's spare places count too). A statement '..UptoSaid' is the law's where the arguments, and the package variables that the reading takes, are together of bulk at most 1048576: NARROWER than '..Said'. Prove '..Said' where nothing that the law and all that it calls make is longer than what came in: it says more and counts as full. Else prove '..UptoSaid'. A law counts once. -/
mutual
def uptoBulk {H : Type} : DataW H → Nat
  | .lit (.string bytes) => bytes.length + 1
  | .lit _ => 1
  | .nil => 1
  | .ptr d => uptoBulk d + 1
  | .slice elems spare => uptoBulkAll elems + uptoBulkAll spare + 1
  | .agg parts => uptoBulkAll parts + 1
  | .iface _ d => uptoBulk d + 1
  | .map entries => uptoBulkEntries entries + 1
  | .held _ => 1
def uptoBulkAll {H : Type} : List (DataW H) → Nat
  | [] => 0
  | d :: r => uptoBulk d + uptoBulkAll r
def uptoBulkEntries {H : Type} : List (Lit × DataW H) → Nat
  | [] => 0
  | x :: r => uptoBulkEntry x + uptoBulkEntries r
def uptoBulkEntry {H : Type} : Lit × DataW H → Nat
  | (.string bytes, d) => bytes.length + uptoBulk d + 1
  | (_, d) => uptoBulk d + 1
 end
def uptoSmall : (H : Type) → List (DataW H) → Bool := fun _ ds => decide (uptoBulkAll ds ≤ 1048576)
def OpenSpec.upto (s : _root_.Go.ChangeSpec) : _root_.Go.OpenSpec := { _root_.Go.OpenSpec.ofChange s with cond := some uptoSmall }

/-- 'laws.FnViews', WHERE WHAT IT READS IS OF BULK AT MOST 1048576: true; the input reads as it did. -/
def fnViewsUptoRow : OpenClaim := { program := "ytioiikddgcmjeaa", sum := "6917e26107eb9e6af8ca43a406f575a674b0f87b48b807af7e7c6891193c6f53", func := "loop.example/g00403/laws.FnViews", spec := "fnViews", apart := false, narrowed := true }
def FnViewsUptoSaid : Prop := fnViewsUptoRow.holds Try.pinned (OpenSpec.upto fnViewsSpec)

/-- 'laws.FnExactVisibleRefs', WHERE WHAT IT READS IS OF BULK AT MOST 1048576: true; the input reads as it did. -/
def fnExactVisibleRefsUptoRow : OpenClaim := { program := "ytioiikddgcmjeaa", sum := "6917e26107eb9e6af8ca43a406f575a674b0f87b48b807af7e7c6891193c6f53", func := "loop.example/g00403/laws.FnExactVisibleRefs", spec := "fnExactVisibleRefs", apart := false, narrowed := true }
def FnExactVisibleRefsUptoSaid : Prop := fnExactVisibleRefsUptoRow.holds Try.pinned (OpenSpec.upto fnExactVisibleRefsSpec)

/-- 'laws.FnExactIsSeen', WHERE WHAT IT READS IS OF BULK AT MOST 1048576: true; the input reads as it did. -/
def fnExactIsSeenUptoRow : OpenClaim := { program := "ytioiikddgcmjeaa", sum := "6917e26107eb9e6af8ca43a406f575a674b0f87b48b807af7e7c6891193c6f53", func := "loop.example/g00403/laws.FnExactIsSeen", spec := "fnExactIsSeen", apart := false, narrowed := true }
def FnExactIsSeenUptoSaid : Prop := fnExactIsSeenUptoRow.holds Try.pinned (OpenSpec.upto fnExactIsSeenSpec)

end Rows
end Go.Proofs.Ytioiikddgcmjeaa
