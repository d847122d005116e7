/-
  No cell of these rows narrows 'for every input' (looked for: loops, veiled, ifaces, maps, wideKeys, modest, calm, conditions, laid).
  DERIVED. THE GIVEN ROWS OF THIS SEAT. 13 by the template 'for every input the law returns true; each argument reads behind the call as it read before'; 0 by the template 'total and deterministic' (their statements: YtaigcmhfhdapdaaTotals.lean).
  GIVEN WITH THE SEED: the statements are not yours to turn. If you find one false, say at which input.
  Laid BY PROGRAM, IN A SANDBOX (cutbox-rows.mjs): the forced cells as the released guide's own fill.sh prints them over the translation 838a5ec121761d01… (all of the seat's roots in one cut). By AI agents, Wed Nov 11 2026. No macro, syntax, notation, axiom, sorry.
-/
import Derived.Test.YtaigcmhfhdapdaaChecked
import GoSem.Claim
import GoSem.ClaimJoined
import GoSem.ClaimMapViews
import Derived.JoinedTies
import Derived.KernelRfl
namespace Go.Proofs.Ytaigcmhfhdapdaa
/- THE CELL 'sum', in the pinned program and in every row, IS THE sha256 OF THE DUMP (.gsa) THAT YtaigcmhfhdapdaaProg.lean LOADS. Nothing in Lean hashes anything: it is a label: what it is worth is what the hold of that sum in a sandbox is worth. -/
noncomputable def Try.pinned : Pinned := { name := "ytaigcmhfhdapdaa", sum := "838a5ec121761d01af437591702277939eace821aec7ad4299de4105d47520b7", checked := Try.checked }
namespace Rows
def none {H : Type} : Left H := { results := [], args := [] }

/-- 'laws.FnExactGeneratorsOf': WHATEVER THE INPUT: true; the input reads as it did. -/
def fnExactGeneratorsOfSpec : ChangeSpec := { name := "fnExactGeneratorsOf", fn := fun _ => fun
  | [d] => { results := [.lit (.bool true)], args := [d] }
  | _ => none }
def fnExactGeneratorsOfRow : OpenClaim := { program := "ytaigcmhfhdapdaa", sum := "838a5ec121761d01af437591702277939eace821aec7ad4299de4105d47520b7", func := "loop.example/g01140/laws.FnExactGeneratorsOf", spec := "fnExactGeneratorsOf", unfollowed := true, recurses := true, apart := false }
def FnExactGeneratorsOfSaid : Prop := fnExactGeneratorsOfRow.holds Try.pinned (OpenSpec.ofChange fnExactGeneratorsOfSpec)

/-- ITS FALSE NEIGHBOUR: 'it returns false'. Refute it at one input. -/
def fnExactGeneratorsOfWrong : ChangeSpec := { name := "fnExactGeneratorsOf", fn := fun _ => fun
  | [d] => { results := [.lit (.bool false)], args := [d] }
  | _ => none }
def FnExactGeneratorsOfWrongFalsely : Prop := fnExactGeneratorsOfRow.holds Try.pinned (OpenSpec.ofChange fnExactGeneratorsOfWrong)

/-- 'laws.FnExactBranchOfGenerators': WHATEVER THE INPUT: true; the input reads as it did. -/
def fnExactBranchOfGeneratorsSpec : ChangeSpec := { name := "fnExactBranchOfGenerators", fn := fun _ => fun
  | [d] => { results := [.lit (.bool true)], args := [d] }
  | _ => none }
def fnExactBranchOfGeneratorsRow : OpenClaim := { program := "ytaigcmhfhdapdaa", sum := "838a5ec121761d01af437591702277939eace821aec7ad4299de4105d47520b7", func := "loop.example/g01140/laws.FnExactBranchOfGenerators", spec := "fnExactBranchOfGenerators", unfollowed := true, recurses := true, apart := false }
def FnExactBranchOfGeneratorsSaid : Prop := fnExactBranchOfGeneratorsRow.holds Try.pinned (OpenSpec.ofChange fnExactBranchOfGeneratorsSpec)

/-- ITS FALSE NEIGHBOUR: 'it returns false'. Refute it at one input. -/
def fnExactBranchOfGeneratorsWrong : ChangeSpec := { name := "fnExactBranchOfGenerators", fn := fun _ => fun
  | [d] => { results := [.lit (.bool false)], args := [d] }
  | _ => none }
def FnExactBranchOfGeneratorsWrongFalsely : Prop := fnExactBranchOfGeneratorsRow.holds Try.pinned (OpenSpec.ofChange fnExactBranchOfGeneratorsWrong)

/-- 'laws.FnExactConductorOf': WHATEVER THE INPUT: true; the input reads as it did. -/
def fnExactConductorOfSpec : ChangeSpec := { name := "fnExactConductorOf", fn := fun _ => fun
  | [d] => { results := [.lit (.bool true)], args := [d] }
  | _ => none }
def fnExactConductorOfRow : OpenClaim := { program := "ytaigcmhfhdapdaa", sum := "838a5ec121761d01af437591702277939eace821aec7ad4299de4105d47520b7", func := "loop.example/g01140/laws.FnExactConductorOf", spec := "fnExactConductorOf", unfollowed := true, recurses := true, apart := false }
def FnExactConductorOfSaid : Prop := fnExactConductorOfRow.holds Try.pinned (OpenSpec.ofChange fnExactConductorOfSpec)

/-- ITS FALSE NEIGHBOUR: 'it returns false'. Refute it at one input. -/
def fnExactConductorOfWrong : ChangeSpec := { name := "fnExactConductorOf", fn := fun _ => fun
  | [d] => { results := [.lit (.bool false)], args := [d] }
  | _ => none }
def FnExactConductorOfWrongFalsely : Prop := fnExactConductorOfRow.holds Try.pinned (OpenSpec.ofChange fnExactConductorOfWrong)

/-- 'laws.FnExactIsValue': WHATEVER THE INPUT: true; the input reads as it did. -/
def fnExactIsValueSpec : ChangeSpec := { name := "fnExactIsValue", fn := fun _ => fun
  | [d1, d2] => { results := [.lit (.bool true)], args := [d1, d2] }
  | _ => none }
def fnExactIsValueRow : OpenClaim := { program := "ytaigcmhfhdapdaa", sum := "838a5ec121761d01af437591702277939eace821aec7ad4299de4105d47520b7", func := "loop.example/g01140/laws.FnExactIsValue", spec := "fnExactIsValue", unfollowed := true, recurses := true, apart := false }
def FnExactIsValueSaid : Prop := fnExactIsValueRow.holds Try.pinned (OpenSpec.ofChange fnExactIsValueSpec)

/-- ITS FALSE NEIGHBOUR: 'it returns false'. Refute it at one input. -/
def fnExactIsValueWrong : ChangeSpec := { name := "fnExactIsValue", fn := fun _ => fun
  | [d1, d2] => { results := [.lit (.bool false)], args := [d1, d2] }
  | _ => none }
def FnExactIsValueWrongFalsely : Prop := fnExactIsValueRow.holds Try.pinned (OpenSpec.ofChange fnExactIsValueWrong)

/-- 'laws.FnExactValuesUpTo': WHATEVER THE INPUT: true; the input reads as it did. -/
def fnExactValuesUpToSpec : ChangeSpec := { name := "fnExactValuesUpTo", fn := fun _ => fun
  | [d1, d2] => { results := [.lit (.bool true)], args := [d1, d2] }
  | _ => none }
def fnExactValuesUpToRow : OpenClaim := { program := "ytaigcmhfhdapdaa", sum := "838a5ec121761d01af437591702277939eace821aec7ad4299de4105d47520b7", func := "loop.example/g01140/laws.FnExactValuesUpTo", spec := "fnExactValuesUpTo", unfollowed := true, recurses := true, apart := false }
def FnExactValuesUpToSaid : Prop := fnExactValuesUpToRow.holds Try.pinned (OpenSpec.ofChange fnExactValuesUpToSpec)

/-- ITS FALSE NEIGHBOUR: 'it returns false'. Refute it at one input. -/
def fnExactValuesUpToWrong : ChangeSpec := { name := "fnExactValuesUpTo", fn := fun _ => fun
  | [d1, d2] => { results := [.lit (.bool false)], args := [d1, d2] }
  | _ => none }
def FnExactValuesUpToWrongFalsely : Prop := fnExactValuesUpToRow.holds Try.pinned (OpenSpec.ofChange fnExactValuesUpToWrong)

/-- 'laws.FnExactGapsOf': WHATEVER THE INPUT: true; the input reads as it did. -/
def fnExactGapsOfSpec : ChangeSpec := { name := "fnExactGapsOf", fn := fun _ => fun
  | [d] => { results := [.lit (.bool true)], args := [d] }
  | _ => none }
def fnExactGapsOfRow : OpenClaim := { program := "ytaigcmhfhdapdaa", sum := "838a5ec121761d01af437591702277939eace821aec7ad4299de4105d47520b7", func := "loop.example/g01140/laws.FnExactGapsOf", spec := "fnExactGapsOf", unfollowed := true, recurses := true, apart := false }
def FnExactGapsOfSaid : Prop := fnExactGapsOfRow.holds Try.pinned (OpenSpec.ofChange fnExactGapsOfSpec)

/-- ITS FALSE NEIGHBOUR: 'it returns false'. Refute it at one input. -/
def fnExactGapsOfWrong : ChangeSpec := { name := "fnExactGapsOf", fn := fun _ => fun
  | [d] => { results := [.lit (.bool false)], args := [d] }
  | _ => none }
def FnExactGapsOfWrongFalsely : Prop := fnExactGapsOfRow.holds Try.pinned (OpenSpec.ofChange fnExactGapsOfWrong)

/-- 'laws.FnExactRepresentationOf': WHATEVER THE INPUT: true; the input reads as it did. -/
def fnExactRepresentationOfSpec : ChangeSpec := { name := "fnExactRepresentationOf", fn := fun _ => fun
  | [d1, d2] => { results := [.lit (.bool true)], args := [d1, d2] }
  | _ => none }
def fnExactRepresentationOfRow : OpenClaim := { program := "ytaigcmhfhdapdaa", sum := "838a5ec121761d01af437591702277939eace821aec7ad4299de4105d47520b7", func := "loop.example/g01140/laws.FnExactRepresentationOf", spec := "fnExactRepresentationOf", unfollowed := true, recurses := true, apart := false }
def FnExactRepresentationOfSaid : Prop := fnExactRepresentationOfRow.holds Try.pinned (OpenSpec.ofChange fnExactRepresentationOfSpec)

/-- ITS FALSE NEIGHBOUR: 'it returns false'. Refute it at one input. -/
def fnExactRepresentationOfWrong : ChangeSpec := { name := "fnExactRepresentationOf", fn := fun _ => fun
  | [d1, d2] => { results := [.lit (.bool false)], args := [d1, d2] }
  | _ => none }
def FnExactRepresentationOfWrongFalsely : Prop := fnExactRepresentationOfRow.holds Try.pinned (OpenSpec.ofChange fnExactRepresentationOfWrong)

/-- 'laws.FnExactAperyOf': WHATEVER THE INPUT: true; the input reads as it did. -/
def fnExactAperyOfSpec : ChangeSpec := { name := "fnExactAperyOf", fn := fun _ => fun
  | [d] => { results := [.lit (.bool true)], args := [d] }
  | _ => none }
def fnExactAperyOfRow : OpenClaim := { program := "ytaigcmhfhdapdaa", sum := "838a5ec121761d01af437591702277939eace821aec7ad4299de4105d47520b7", func := "loop.example/g01140/laws.FnExactAperyOf", spec := "fnExactAperyOf", unfollowed := true, recurses := true, apart := false }
def FnExactAperyOfSaid : Prop := fnExactAperyOfRow.holds Try.pinned (OpenSpec.ofChange fnExactAperyOfSpec)

/-- ITS FALSE NEIGHBOUR: 'it returns false'. Refute it at one input. -/
def fnExactAperyOfWrong : ChangeSpec := { name := "fnExactAperyOf", fn := fun _ => fun
  | [d] => { results := [.lit (.bool false)], args := [d] }
  | _ => none }
def FnExactAperyOfWrongFalsely : Prop := fnExactAperyOfRow.holds Try.pinned (OpenSpec.ofChange fnExactAperyOfWrong)

/-- 'laws.FnExactSemigroupPolynomial': WHATEVER THE INPUT: true; the input reads as it did. -/
def fnExactSemigroupPolynomialSpec : ChangeSpec := { name := "fnExactSemigroupPolynomial", fn := fun _ => fun
  | [d] => { results := [.lit (.bool true)], args := [d] }
  | _ => none }
def fnExactSemigroupPolynomialRow : OpenClaim := { program := "ytaigcmhfhdapdaa", sum := "838a5ec121761d01af437591702277939eace821aec7ad4299de4105d47520b7", func := "loop.example/g01140/laws.FnExactSemigroupPolynomial", spec := "fnExactSemigroupPolynomial", unfollowed := true, recurses := true, apart := false }
def FnExactSemigroupPolynomialSaid : Prop := fnExactSemigroupPolynomialRow.holds Try.pinned (OpenSpec.ofChange fnExactSemigroupPolynomialSpec)

/-- ITS FALSE NEIGHBOUR: 'it returns false'. Refute it at one input. -/
def fnExactSemigroupPolynomialWrong : ChangeSpec := { name := "fnExactSemigroupPolynomial", fn := fun _ => fun
  | [d] => { results := [.lit (.bool false)], args := [d] }
  | _ => none }
def FnExactSemigroupPolynomialWrongFalsely : Prop := fnExactSemigroupPolynomialRow.holds Try.pinned (OpenSpec.ofChange fnExactSemigroupPolynomialWrong)

/-- 'laws.FnExactSemigroupBinomials': WHATEVER THE INPUT: true; the input reads as it did. -/
def fnExactSemigroupBinomialsSpec : ChangeSpec := { name := "fnExactSemigroupBinomials", fn := fun _ => fun
  | [d] => { results := [.lit (.bool true)], args := [d] }
  | _ => none }
def fnExactSemigroupBinomialsRow : OpenClaim := { program := "ytaigcmhfhdapdaa", sum := "838a5ec121761d01af437591702277939eace821aec7ad4299de4105d47520b7", func := "loop.example/g01140/laws.FnExactSemigroupBinomials", spec := "fnExactSemigroupBinomials", unfollowed := true, recurses := true, apart := false }
def FnExactSemigroupBinomialsSaid : Prop := fnExactSemigroupBinomialsRow.holds Try.pinned (OpenSpec.ofChange fnExactSemigroupBinomialsSpec)

/-- ITS FALSE NEIGHBOUR: 'it returns false'. Refute it at one input. -/
def fnExactSemigroupBinomialsWrong : ChangeSpec := { name := "fnExactSemigroupBinomials", fn := fun _ => fun
  | [d] => { results := [.lit (.bool false)], args := [d] }
  | _ => none }
def FnExactSemigroupBinomialsWrongFalsely : Prop := fnExactSemigroupBinomialsRow.holds Try.pinned (OpenSpec.ofChange fnExactSemigroupBinomialsWrong)

/-- 'laws.FnExactBranchOfSequence': WHATEVER THE INPUT: true; the input reads as it did. -/
def fnExactBranchOfSequenceSpec : ChangeSpec := { name := "fnExactBranchOfSequence", fn := fun _ => fun
  | [d] => { results := [.lit (.bool true)], args := [d] }
  | _ => none }
def fnExactBranchOfSequenceRow : OpenClaim := { program := "ytaigcmhfhdapdaa", sum := "838a5ec121761d01af437591702277939eace821aec7ad4299de4105d47520b7", func := "loop.example/g01140/laws.FnExactBranchOfSequence", spec := "fnExactBranchOfSequence", apart := false }
def FnExactBranchOfSequenceSaid : Prop := fnExactBranchOfSequenceRow.holds Try.pinned (OpenSpec.ofChange fnExactBranchOfSequenceSpec)

/-- ITS FALSE NEIGHBOUR: 'it returns false'. Refute it at one input. -/
def fnExactBranchOfSequenceWrong : ChangeSpec := { name := "fnExactBranchOfSequence", fn := fun _ => fun
  | [d] => { results := [.lit (.bool false)], args := [d] }
  | _ => none }
def FnExactBranchOfSequenceWrongFalsely : Prop := fnExactBranchOfSequenceRow.holds Try.pinned (OpenSpec.ofChange fnExactBranchOfSequenceWrong)

/-- 'laws.FnExactIsSequence': WHATEVER THE INPUT: true; the input reads as it did. -/
def fnExactIsSequenceSpec : ChangeSpec := { name := "fnExactIsSequence", fn := fun _ => fun
  | [d] => { results := [.lit (.bool true)], args := [d] }
  | _ => none }
def fnExactIsSequenceRow : OpenClaim := { program := "ytaigcmhfhdapdaa", sum := "838a5ec121761d01af437591702277939eace821aec7ad4299de4105d47520b7", func := "loop.example/g01140/laws.FnExactIsSequence", spec := "fnExactIsSequence", apart := false }
def FnExactIsSequenceSaid : Prop := fnExactIsSequenceRow.holds Try.pinned (OpenSpec.ofChange fnExactIsSequenceSpec)

/-- ITS FALSE NEIGHBOUR: 'it returns false'. Refute it at one input. -/
def fnExactIsSequenceWrong : ChangeSpec := { name := "fnExactIsSequence", fn := fun _ => fun
  | [d] => { results := [.lit (.bool false)], args := [d] }
  | _ => none }
def FnExactIsSequenceWrongFalsely : Prop := fnExactIsSequenceRow.holds Try.pinned (OpenSpec.ofChange fnExactIsSequenceWrong)

/-- 'laws.FnExactStrictTransform': WHATEVER THE INPUT: true; the input reads as it did. -/
def fnExactStrictTransformSpec : ChangeSpec := { name := "fnExactStrictTransform", fn := fun _ => fun
  | [d] => { results := [.lit (.bool true)], args := [d] }
  | _ => none }
def fnExactStrictTransformRow : OpenClaim := { program := "ytaigcmhfhdapdaa", sum := "838a5ec121761d01af437591702277939eace821aec7ad4299de4105d47520b7", func := "loop.example/g01140/laws.FnExactStrictTransform", spec := "fnExactStrictTransform", unfollowed := true, recurses := true, apart := false }
def FnExactStrictTransformSaid : Prop := fnExactStrictTransformRow.holds Try.pinned (OpenSpec.ofChange fnExactStrictTransformSpec)

/-- ITS FALSE NEIGHBOUR: 'it returns false'. Refute it at one input. -/
def fnExactStrictTransformWrong : ChangeSpec := { name := "fnExactStrictTransform", fn := fun _ => fun
  | [d] => { results := [.lit (.bool false)], args := [d] }
  | _ => none }
def FnExactStrictTransformWrongFalsely : Prop := fnExactStrictTransformRow.holds Try.pinned (OpenSpec.ofChange fnExactStrictTransformWrong)

/- THE SECOND FORM. 'bulk': how many values and letters a reading holds, each counted each time it is reached (what is shared counts as often as it is met; a slice's spare places count too). A statement '..UptoSaid' is the law's where the arguments, and the package variables that the reading takes, are together of bulk at most 1048576: NARROWER than '..Said'. Prove '..Said' where nothing that the law and all that it calls make is longer than what came in: it says more and counts as full. Else prove '..UptoSaid'. A law counts once. -/
mutual
def uptoBulk {H : Type} : DataW H → Nat
  | .lit (.string bytes) => bytes.length + 1
  | .lit _ => 1
  | .nil => 1
  | .ptr d => uptoBulk d + 1
  | .slice elems spare => uptoBulkAll elems + uptoBulkAll spare + 1
  | .agg parts => uptoBulkAll parts + 1
  | .iface _ d => uptoBulk d + 1
  | .map entries => uptoBulkEntries entries + 1
  | .held _ => 1
def uptoBulkAll {H : Type} : List (DataW H) → Nat
  | [] => 0
  | d :: r => uptoBulk d + uptoBulkAll r
def uptoBulkEntries {H : Type} : List (Lit × DataW H) → Nat
  | [] => 0
  | x :: r => uptoBulkEntry x + uptoBulkEntries r
def uptoBulkEntry {H : Type} : Lit × DataW H → Nat
  | (.string bytes, d) => bytes.length + uptoBulk d + 1
  | (_, d) => uptoBulk d + 1
 end
def uptoSmall : (H : Type) → List (DataW H) → Bool := fun _ ds => decide (uptoBulkAll ds ≤ 1048576)
def OpenSpec.upto (s : _root_.Go.ChangeSpec) : _root_.Go.OpenSpec := { _root_.Go.OpenSpec.ofChange s with cond := some uptoSmall }

/-- 'laws.FnExactGeneratorsOf', WHERE WHAT IT READS IS OF BULK AT MOST 1048576: true; the input reads as it did. -/
def fnExactGeneratorsOfUptoRow : OpenClaim := { program := "ytaigcmhfhdapdaa", sum := "838a5ec121761d01af437591702277939eace821aec7ad4299de4105d47520b7", func := "loop.example/g01140/laws.FnExactGeneratorsOf", spec := "fnExactGeneratorsOf", unfollowed := true, recurses := true, apart := false, narrowed := true }
def FnExactGeneratorsOfUptoSaid : Prop := fnExactGeneratorsOfUptoRow.holds Try.pinned (OpenSpec.upto fnExactGeneratorsOfSpec)

/-- 'laws.FnExactBranchOfGenerators', WHERE WHAT IT READS IS OF BULK AT MOST 1048576: true; the input reads as it did. -/
def fnExactBranchOfGeneratorsUptoRow : OpenClaim := { program := "ytaigcmhfhdapdaa", sum := "838a5ec121761d01af437591702277939eace821aec7ad4299de4105d47520b7", func := "loop.example/g01140/laws.FnExactBranchOfGenerators", spec := "fnExactBranchOfGenerators", unfollowed := true, recurses := true, apart := false, narrowed := true }
def FnExactBranchOfGeneratorsUptoSaid : Prop := fnExactBranchOfGeneratorsUptoRow.holds Try.pinned (OpenSpec.upto fnExactBranchOfGeneratorsSpec)

/-- 'laws.FnExactConductorOf', WHERE WHAT IT READS IS OF BULK AT MOST 1048576: true; the input reads as it did. -/
def fnExactConductorOfUptoRow : OpenClaim := { program := "ytaigcmhfhdapdaa", sum := "838a5ec121761d01af437591702277939eace821aec7ad4299de4105d47520b7", func := "loop.example/g01140/laws.FnExactConductorOf", spec := "fnExactConductorOf", unfollowed := true, recurses := true, apart := false, narrowed := true }
def FnExactConductorOfUptoSaid : Prop := fnExactConductorOfUptoRow.holds Try.pinned (OpenSpec.upto fnExactConductorOfSpec)

/-- 'laws.FnExactIsValue', WHERE WHAT IT READS IS OF BULK AT MOST 1048576: true; the input reads as it did. -/
def fnExactIsValueUptoRow : OpenClaim := { program := "ytaigcmhfhdapdaa", sum := "838a5ec121761d01af437591702277939eace821aec7ad4299de4105d47520b7", func := "loop.example/g01140/laws.FnExactIsValue", spec := "fnExactIsValue", unfollowed := true, recurses := true, apart := false, narrowed := true }
def FnExactIsValueUptoSaid : Prop := fnExactIsValueUptoRow.holds Try.pinned (OpenSpec.upto fnExactIsValueSpec)

/-- 'laws.FnExactValuesUpTo', WHERE WHAT IT READS IS OF BULK AT MOST 1048576: true; the input reads as it did. -/
def fnExactValuesUpToUptoRow : OpenClaim := { program := "ytaigcmhfhdapdaa", sum := "838a5ec121761d01af437591702277939eace821aec7ad4299de4105d47520b7", func := "loop.example/g01140/laws.FnExactValuesUpTo", spec := "fnExactValuesUpTo", unfollowed := true, recurses := true, apart := false, narrowed := true }
def FnExactValuesUpToUptoSaid : Prop := fnExactValuesUpToUptoRow.holds Try.pinned (OpenSpec.upto fnExactValuesUpToSpec)

/-- 'laws.FnExactGapsOf', WHERE WHAT IT READS IS OF BULK AT MOST 1048576: true; the input reads as it did. -/
def fnExactGapsOfUptoRow : OpenClaim := { program := "ytaigcmhfhdapdaa", sum := "838a5ec121761d01af437591702277939eace821aec7ad4299de4105d47520b7", func := "loop.example/g01140/laws.FnExactGapsOf", spec := "fnExactGapsOf", unfollowed := true, recurses := true, apart := false, narrowed := true }
def FnExactGapsOfUptoSaid : Prop := fnExactGapsOfUptoRow.holds Try.pinned (OpenSpec.upto fnExactGapsOfSpec)

/-- 'laws.FnExactRepresentationOf', WHERE WHAT IT READS IS OF BULK AT MOST 1048576: true; the input reads as it did. -/
def fnExactRepresentationOfUptoRow : OpenClaim := { program := "ytaigcmhfhdapdaa", sum := "838a5ec121761d01af437591702277939eace821aec7ad4299de4105d47520b7", func := "loop.example/g01140/laws.FnExactRepresentationOf", spec := "fnExactRepresentationOf", unfollowed := true, recurses := true, apart := false, narrowed := true }
def FnExactRepresentationOfUptoSaid : Prop := fnExactRepresentationOfUptoRow.holds Try.pinned (OpenSpec.upto fnExactRepresentationOfSpec)

/-- 'laws.FnExactAperyOf', WHERE WHAT IT READS IS OF BULK AT MOST 1048576: true; the input reads as it did. -/
def fnExactAperyOfUptoRow : OpenClaim := { program := "ytaigcmhfhdapdaa", sum := "838a5ec121761d01af437591702277939eace821aec7ad4299de4105d47520b7", func := "loop.example/g01140/laws.FnExactAperyOf", spec := "fnExactAperyOf", unfollowed := true, recurses := true, apart := false, narrowed := true }
def FnExactAperyOfUptoSaid : Prop := fnExactAperyOfUptoRow.holds Try.pinned (OpenSpec.upto fnExactAperyOfSpec)

/-- 'laws.FnExactSemigroupPolynomial', WHERE WHAT IT READS IS OF BULK AT MOST 1048576: true; the input reads as it did. -/
def fnExactSemigroupPolynomialUptoRow : OpenClaim := { program := "ytaigcmhfhdapdaa", sum := "838a5ec121761d01af437591702277939eace821aec7ad4299de4105d47520b7", func := "loop.example/g01140/laws.FnExactSemigroupPolynomial", spec := "fnExactSemigroupPolynomial", unfollowed := true, recurses := true, apart := false, narrowed := true }
def FnExactSemigroupPolynomialUptoSaid : Prop := fnExactSemigroupPolynomialUptoRow.holds Try.pinned (OpenSpec.upto fnExactSemigroupPolynomialSpec)

/-- 'laws.FnExactSemigroupBinomials', WHERE WHAT IT READS IS OF BULK AT MOST 1048576: true; the input reads as it did. -/
def fnExactSemigroupBinomialsUptoRow : OpenClaim := { program := "ytaigcmhfhdapdaa", sum := "838a5ec121761d01af437591702277939eace821aec7ad4299de4105d47520b7", func := "loop.example/g01140/laws.FnExactSemigroupBinomials", spec := "fnExactSemigroupBinomials", unfollowed := true, recurses := true, apart := false, narrowed := true }
def FnExactSemigroupBinomialsUptoSaid : Prop := fnExactSemigroupBinomialsUptoRow.holds Try.pinned (OpenSpec.upto fnExactSemigroupBinomialsSpec)

/-- 'laws.FnExactBranchOfSequence', WHERE WHAT IT READS IS OF BULK AT MOST 1048576: true; the input reads as it did. -/
def fnExactBranchOfSequenceUptoRow : OpenClaim := { program := "ytaigcmhfhdapdaa", sum := "838a5ec121761d01af437591702277939eace821aec7ad4299de4105d47520b7", func := "loop.example/g01140/laws.FnExactBranchOfSequence", spec := "fnExactBranchOfSequence", apart := false, narrowed := true }
def FnExactBranchOfSequenceUptoSaid : Prop := fnExactBranchOfSequenceUptoRow.holds Try.pinned (OpenSpec.upto fnExactBranchOfSequenceSpec)

/-- 'laws.FnExactIsSequence', WHERE WHAT IT READS IS OF BULK AT MOST 1048576: true; the input reads as it did. -/
def fnExactIsSequenceUptoRow : OpenClaim := { program := "ytaigcmhfhdapdaa", sum := "838a5ec121761d01af437591702277939eace821aec7ad4299de4105d47520b7", func := "loop.example/g01140/laws.FnExactIsSequence", spec := "fnExactIsSequence", apart := false, narrowed := true }
def FnExactIsSequenceUptoSaid : Prop := fnExactIsSequenceUptoRow.holds Try.pinned (OpenSpec.upto fnExactIsSequenceSpec)

/-- 'laws.FnExactStrictTransform', WHERE WHAT IT READS IS OF BULK AT MOST 1048576: true; the input reads as it did. -/
def fnExactStrictTransformUptoRow : OpenClaim := { program := "ytaigcmhfhdapdaa", sum := "838a5ec121761d01af437591702277939eace821aec7ad4299de4105d47520b7", func := "loop.example/g01140/laws.FnExactStrictTransform", spec := "fnExactStrictTransform", unfollowed := true, recurses := true, apart := false, narrowed := true }
def FnExactStrictTransformUptoSaid : Prop := fnExactStrictTransformUptoRow.holds Try.pinned (OpenSpec.upto fnExactStrictTransformSpec)

end Rows
end Go.Proofs.Ytaigcmhfhdapdaa
