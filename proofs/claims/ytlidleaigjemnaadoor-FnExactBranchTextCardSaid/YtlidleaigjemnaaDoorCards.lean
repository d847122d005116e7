/-
  DERIVED. GIVEN WITH THE SEED: THE CARDS: each row of YtlidleaigjemnaaDoorRows.lean that lists a variable, with what it lists TIED to the program's text (the seventh form; the later family's looks); each row that meets fmt, with fmt's text TOLD by the authors' own Lean function (tested against real Go, not proved from fmt's source: count such statements apart). THE CARD IS WHAT COUNTS. Prove the row's statement (the work); the ties are given (YtlidleaigjemnaaDoorTie.lean); close each card by the builder's one call (the guide's Derived/Test/ToyasCard.lean, 'card_holds'). Laid BY PROGRAM, IN A SANDBOX (cutbox-door.mjs). By AI agents, Wed Nov 11 2026. No macro, syntax, notation, axiom, sorry.
-/
import Derived.Test.YtlidleaigjemnaaDoorRows
import GoSem.ClaimSeven
namespace Go.Proofs.YtlidleaigjemnaaDoor
namespace Rows

/-- THE TIED CARD OF 'laws.FnFractions'. -/
def fnFractionsCard : Claim7 := { stood := { row := fnFractionsRow, standIns := [], harness := (true, "4091aa499666c251a2db4afdb2237cf3cd7c3f9484b74dad924bf532f2e81eec"), looks := false }, kinds := [], alts := [], laidByText := true, laidKinds := [.data, .data, .data], laidTests := true, laidLooks := .later }
def FnFractionsCardSaid : Prop := Claim7.holds Tryd.pinned (.plain (OpenSpec.ofChange fnFractionsSpec)) fnFractionsCard

/-- THE TIED CARD OF 'laws.FnExactParsePolynomial'. -/
def fnExactParsePolynomialCard : Claim7 := { stood := { row := fnExactParsePolynomialRow, standIns := [], harness := (true, "4091aa499666c251a2db4afdb2237cf3cd7c3f9484b74dad924bf532f2e81eec"), looks := false }, kinds := [], alts := [], laidByText := true, laidKinds := [.data, .data, .data], laidTests := true, laidLooks := .later }
def FnExactParsePolynomialCardSaid : Prop := Claim7.holds Tryd.pinned (.plain (OpenSpec.ofChange fnExactParsePolynomialSpec)) fnExactParsePolynomialCard

/-- THE TIED CARD OF 'laws.FnExactBranchText'. -/
def fnExactBranchTextCard : Claim7 := { stood := { row := fnExactBranchTextRow, standIns := [], harness := (true, "4091aa499666c251a2db4afdb2237cf3cd7c3f9484b74dad924bf532f2e81eec"), looks := false }, kinds := [], alts := [], laidByText := true, laidKinds := [.data, .data, .data], laidTests := true, laidLooks := .later }
def FnExactBranchTextCardSaid : Prop := Claim7.holds Tryd.pinned (.plain (OpenSpec.ofChange fnExactBranchTextSpec)) fnExactBranchTextCard

/-- THE TIED CARD OF 'laws.FnExactParseBranch'. -/
def fnExactParseBranchCard : Claim7 := { stood := { row := fnExactParseBranchRow, standIns := [], harness := (true, "4091aa499666c251a2db4afdb2237cf3cd7c3f9484b74dad924bf532f2e81eec"), looks := false }, kinds := [], alts := [], laidByText := true, laidKinds := [.data, .data, .data, .data, .pinned], laidTests := true, laidLooks := .later }
def FnExactParseBranchCardSaid : Prop := Claim7.holds Tryd.pinned (.plain (OpenSpec.ofChange fnExactParseBranchSpec)) fnExactParseBranchCard

/-- THE SECOND FORM's CARD OF 'laws.FnFractions'. -/
def fnFractionsUptoCard : Claim7 := { stood := { row := fnFractionsUptoRow, standIns := [], harness := (true, "4091aa499666c251a2db4afdb2237cf3cd7c3f9484b74dad924bf532f2e81eec"), looks := false }, kinds := [], alts := [], laidByText := true, laidKinds := [.data, .data, .data], laidTests := true, laidLooks := .later }
def FnFractionsUptoCardSaid : Prop := Claim7.holds Tryd.pinned (.plain (OpenSpec.upto fnFractionsSpec)) fnFractionsUptoCard

/-- THE SECOND FORM's CARD OF 'laws.FnExactParsePolynomial'. -/
def fnExactParsePolynomialUptoCard : Claim7 := { stood := { row := fnExactParsePolynomialUptoRow, standIns := [], harness := (true, "4091aa499666c251a2db4afdb2237cf3cd7c3f9484b74dad924bf532f2e81eec"), looks := false }, kinds := [], alts := [], laidByText := true, laidKinds := [.data, .data, .data], laidTests := true, laidLooks := .later }
def FnExactParsePolynomialUptoCardSaid : Prop := Claim7.holds Tryd.pinned (.plain (OpenSpec.upto fnExactParsePolynomialSpec)) fnExactParsePolynomialUptoCard

/-- THE SECOND FORM's CARD OF 'laws.FnExactBranchText'. -/
def fnExactBranchTextUptoCard : Claim7 := { stood := { row := fnExactBranchTextUptoRow, standIns := [], harness := (true, "4091aa499666c251a2db4afdb2237cf3cd7c3f9484b74dad924bf532f2e81eec"), looks := false }, kinds := [], alts := [], laidByText := true, laidKinds := [.data, .data, .data], laidTests := true, laidLooks := .later }
def FnExactBranchTextUptoCardSaid : Prop := Claim7.holds Tryd.pinned (.plain (OpenSpec.upto fnExactBranchTextSpec)) fnExactBranchTextUptoCard

/-- THE SECOND FORM's CARD OF 'laws.FnExactParseBranch'. -/
def fnExactParseBranchUptoCard : Claim7 := { stood := { row := fnExactParseBranchUptoRow, standIns := [], harness := (true, "4091aa499666c251a2db4afdb2237cf3cd7c3f9484b74dad924bf532f2e81eec"), looks := false }, kinds := [], alts := [], laidByText := true, laidKinds := [.data, .data, .data, .data, .pinned], laidTests := true, laidLooks := .later }
def FnExactParseBranchUptoCardSaid : Prop := Claim7.holds Tryd.pinned (.plain (OpenSpec.upto fnExactParseBranchSpec)) fnExactParseBranchUptoCard
end Rows
end Go.Proofs.YtlidleaigjemnaaDoor
