/-
  DERIVED. GIVEN WITH THE SEED: THE CARDS: each row of YtnbhpicdghgniaaDoorRows.lean that lists a variable, with what it lists TIED to the program's text (the seventh form; the later family's looks); each row that meets fmt, with fmt's text TOLD by the authors' own Lean function (tested against real Go, not proved from fmt's source: count such statements apart). THE CARD IS WHAT COUNTS. Prove the row's statement (the work); the ties are given (YtnbhpicdghgniaaDoorTie.lean); close each card by the builder's one call (the guide's Derived/Test/ToyasCard.lean, 'card_holds'). Laid BY PROGRAM, IN A SANDBOX (cutbox-door.mjs). By AI agents, Wed Nov 11 2026. No macro, syntax, notation, axiom, sorry.
-/
import Derived.Test.YtnbhpicdghgniaaDoorRows
import GoSem.ClaimSeven
namespace Go.Proofs.YtnbhpicdghgniaaDoor
namespace Rows

/-- THE TIED CARD OF 'laws.FnExactFeatureText'. -/
def fnExactFeatureTextCard : Claim7 := { stood := { row := fnExactFeatureTextRow, standIns := [], harness := (true, "d3932e337739ee66e06b4ae6908d510d78c48b74235b03d40b9f48e72e67cd16"), looks := true }, kinds := [], alts := [], laidByText := true, laidKinds := [.data, .data, .data], laidTests := true, laidLooks := .later }
def FnExactFeatureTextCardSaid : Prop := Claim7.holds Tryd.pinned (.plain (OpenSpec.ofChange fnExactFeatureTextSpec)) fnExactFeatureTextCard

/-- THE TIED CARD OF 'laws.FnExactParseFeature'. -/
def fnExactParseFeatureCard : Claim7 := { stood := { row := fnExactParseFeatureRow, standIns := [], harness := (true, "d3932e337739ee66e06b4ae6908d510d78c48b74235b03d40b9f48e72e67cd16"), looks := true }, kinds := [], alts := [], laidByText := true, laidKinds := [.data, .data, .data, .sentinel, .sentinel], laidTests := true, laidLooks := .later }
def FnExactParseFeatureCardSaid : Prop := Claim7.holds Tryd.pinned (.plain (OpenSpec.ofChange fnExactParseFeatureSpec)) fnExactParseFeatureCard

/-- THE SECOND FORM's CARD OF 'laws.FnExactFeatureText'. -/
def fnExactFeatureTextUptoCard : Claim7 := { stood := { row := fnExactFeatureTextUptoRow, standIns := [], harness := (true, "d3932e337739ee66e06b4ae6908d510d78c48b74235b03d40b9f48e72e67cd16"), looks := true }, kinds := [], alts := [], laidByText := true, laidKinds := [.data, .data, .data], laidTests := true, laidLooks := .later }
def FnExactFeatureTextUptoCardSaid : Prop := Claim7.holds Tryd.pinned (.plain (OpenSpec.upto fnExactFeatureTextSpec)) fnExactFeatureTextUptoCard

/-- THE SECOND FORM's CARD OF 'laws.FnExactParseFeature'. -/
def fnExactParseFeatureUptoCard : Claim7 := { stood := { row := fnExactParseFeatureUptoRow, standIns := [], harness := (true, "d3932e337739ee66e06b4ae6908d510d78c48b74235b03d40b9f48e72e67cd16"), looks := true }, kinds := [], alts := [], laidByText := true, laidKinds := [.data, .data, .data, .sentinel, .sentinel], laidTests := true, laidLooks := .later }
def FnExactParseFeatureUptoCardSaid : Prop := Claim7.holds Tryd.pinned (.plain (OpenSpec.upto fnExactParseFeatureSpec)) fnExactParseFeatureUptoCard
end Rows
end Go.Proofs.YtnbhpicdghgniaaDoor
