/-
  No cell of these rows narrows 'for every input' (looked for: loops, veiled, ifaces, maps, wideKeys, modest, calm, conditions, laid).
  DERIVED. THE GIVEN ROWS OF THIS SEAT. 12 by the template 'for every input the law returns true; each argument reads behind the call as it read before'; 0 by the template 'total and deterministic' (their statements: YtjgidalmgoifgaaTotals.lean).
  GIVEN WITH THE SEED: the statements are not yours to turn. If you find one false, say at which input.
  Laid BY PROGRAM, IN A SANDBOX (cutbox-rows.mjs): the forced cells as the released guide's own fill.sh prints them over the translation ed13d37bb84b07bd… (all of the seat's roots in one cut). By AI agents, Wed Nov 11 2026. No macro, syntax, notation, axiom, sorry.
-/
import Derived.Test.YtjgidalmgoifgaaChecked
import GoSem.Claim
import GoSem.ClaimJoined
import GoSem.ClaimMapViews
import Derived.JoinedTies
import Derived.KernelRfl
namespace Go.Proofs.Ytjgidalmgoifgaa
/- THE CELL 'sum', in the pinned program and in every row, IS THE sha256 OF THE DUMP (.gsa) THAT YtjgidalmgoifgaaProg.lean LOADS. Nothing in Lean hashes anything: it is a label: what it is worth is what the hold of that sum in a sandbox is worth. -/
noncomputable def Try.pinned : Pinned := { name := "ytjgidalmgoifgaa", sum := "ed13d37bb84b07bd3d0c91494a73af32fc964c1fa7ce915b15621851704a0282", checked := Try.checked }
namespace Rows
def none {H : Type} : Left H := { results := [], args := [] }

/-- 'laws.FnSequences': WHATEVER THE INPUT: true; the input reads as it did. -/
def fnSequencesSpec : ChangeSpec := { name := "fnSequences", fn := fun _ => fun
  | [d] => { results := [.lit (.bool true)], args := [d] }
  | _ => none }
def fnSequencesRow : OpenClaim := { program := "ytjgidalmgoifgaa", sum := "ed13d37bb84b07bd3d0c91494a73af32fc964c1fa7ce915b15621851704a0282", func := "loop.example/g01140/laws.FnSequences", spec := "fnSequences", unfollowed := true, recurses := true, apart := false }
def FnSequencesSaid : Prop := fnSequencesRow.holds Try.pinned (OpenSpec.ofChange fnSequencesSpec)

/-- ITS FALSE NEIGHBOUR: 'it returns false'. Refute it at one input. -/
def fnSequencesWrong : ChangeSpec := { name := "fnSequences", fn := fun _ => fun
  | [d] => { results := [.lit (.bool false)], args := [d] }
  | _ => none }
def FnSequencesWrongFalsely : Prop := fnSequencesRow.holds Try.pinned (OpenSpec.ofChange fnSequencesWrong)

/-- 'laws.FnBlocks': WHATEVER THE INPUT: true; the input reads as it did. -/
def fnBlocksSpec : ChangeSpec := { name := "fnBlocks", fn := fun _ => fun
  | [d] => { results := [.lit (.bool true)], args := [d] }
  | _ => none }
def fnBlocksRow : OpenClaim := { program := "ytjgidalmgoifgaa", sum := "ed13d37bb84b07bd3d0c91494a73af32fc964c1fa7ce915b15621851704a0282", func := "loop.example/g01140/laws.FnBlocks", spec := "fnBlocks", unfollowed := true, recurses := true, apart := false }
def FnBlocksSaid : Prop := fnBlocksRow.holds Try.pinned (OpenSpec.ofChange fnBlocksSpec)

/-- ITS FALSE NEIGHBOUR: 'it returns false'. Refute it at one input. -/
def fnBlocksWrong : ChangeSpec := { name := "fnBlocks", fn := fun _ => fun
  | [d] => { results := [.lit (.bool false)], args := [d] }
  | _ => none }
def FnBlocksWrongFalsely : Prop := fnBlocksRow.holds Try.pinned (OpenSpec.ofChange fnBlocksWrong)

/-- 'laws.FnSemigroups': WHATEVER THE INPUT: true; the input reads as it did. -/
def fnSemigroupsSpec : ChangeSpec := { name := "fnSemigroups", fn := fun _ => fun
  | [d] => { results := [.lit (.bool true)], args := [d] }
  | _ => none }
def fnSemigroupsRow : OpenClaim := { program := "ytjgidalmgoifgaa", sum := "ed13d37bb84b07bd3d0c91494a73af32fc964c1fa7ce915b15621851704a0282", func := "loop.example/g01140/laws.FnSemigroups", spec := "fnSemigroups", unfollowed := true, recurses := true, apart := false }
def FnSemigroupsSaid : Prop := fnSemigroupsRow.holds Try.pinned (OpenSpec.ofChange fnSemigroupsSpec)

/-- ITS FALSE NEIGHBOUR: 'it returns false'. Refute it at one input. -/
def fnSemigroupsWrong : ChangeSpec := { name := "fnSemigroups", fn := fun _ => fun
  | [d] => { results := [.lit (.bool false)], args := [d] }
  | _ => none }
def FnSemigroupsWrongFalsely : Prop := fnSemigroupsRow.holds Try.pinned (OpenSpec.ofChange fnSemigroupsWrong)

/-- 'laws.FnRepresentations': WHATEVER THE INPUT: true; the input reads as it did. -/
def fnRepresentationsSpec : ChangeSpec := { name := "fnRepresentations", fn := fun _ => fun
  | [d] => { results := [.lit (.bool true)], args := [d] }
  | _ => none }
def fnRepresentationsRow : OpenClaim := { program := "ytjgidalmgoifgaa", sum := "ed13d37bb84b07bd3d0c91494a73af32fc964c1fa7ce915b15621851704a0282", func := "loop.example/g01140/laws.FnRepresentations", spec := "fnRepresentations", unfollowed := true, recurses := true, apart := false }
def FnRepresentationsSaid : Prop := fnRepresentationsRow.holds Try.pinned (OpenSpec.ofChange fnRepresentationsSpec)

/-- ITS FALSE NEIGHBOUR: 'it returns false'. Refute it at one input. -/
def fnRepresentationsWrong : ChangeSpec := { name := "fnRepresentations", fn := fun _ => fun
  | [d] => { results := [.lit (.bool false)], args := [d] }
  | _ => none }
def FnRepresentationsWrongFalsely : Prop := fnRepresentationsRow.holds Try.pinned (OpenSpec.ofChange fnRepresentationsWrong)

/-- 'laws.FnExactBranchOfSequence': WHATEVER THE INPUT: true; the input reads as it did. -/
def fnExactBranchOfSequenceSpec : ChangeSpec := { name := "fnExactBranchOfSequence", fn := fun _ => fun
  | [d] => { results := [.lit (.bool true)], args := [d] }
  | _ => none }
def fnExactBranchOfSequenceRow : OpenClaim := { program := "ytjgidalmgoifgaa", sum := "ed13d37bb84b07bd3d0c91494a73af32fc964c1fa7ce915b15621851704a0282", func := "loop.example/g01140/laws.FnExactBranchOfSequence", spec := "fnExactBranchOfSequence", apart := false }
def FnExactBranchOfSequenceSaid : Prop := fnExactBranchOfSequenceRow.holds Try.pinned (OpenSpec.ofChange fnExactBranchOfSequenceSpec)

/-- ITS FALSE NEIGHBOUR: 'it returns false'. Refute it at one input. -/
def fnExactBranchOfSequenceWrong : ChangeSpec := { name := "fnExactBranchOfSequence", fn := fun _ => fun
  | [d] => { results := [.lit (.bool false)], args := [d] }
  | _ => none }
def FnExactBranchOfSequenceWrongFalsely : Prop := fnExactBranchOfSequenceRow.holds Try.pinned (OpenSpec.ofChange fnExactBranchOfSequenceWrong)

/-- 'laws.FnExactIsSequence': WHATEVER THE INPUT: true; the input reads as it did. -/
def fnExactIsSequenceSpec : ChangeSpec := { name := "fnExactIsSequence", fn := fun _ => fun
  | [d] => { results := [.lit (.bool true)], args := [d] }
  | _ => none }
def fnExactIsSequenceRow : OpenClaim := { program := "ytjgidalmgoifgaa", sum := "ed13d37bb84b07bd3d0c91494a73af32fc964c1fa7ce915b15621851704a0282", func := "loop.example/g01140/laws.FnExactIsSequence", spec := "fnExactIsSequence", apart := false }
def FnExactIsSequenceSaid : Prop := fnExactIsSequenceRow.holds Try.pinned (OpenSpec.ofChange fnExactIsSequenceSpec)

/-- ITS FALSE NEIGHBOUR: 'it returns false'. Refute it at one input. -/
def fnExactIsSequenceWrong : ChangeSpec := { name := "fnExactIsSequence", fn := fun _ => fun
  | [d] => { results := [.lit (.bool false)], args := [d] }
  | _ => none }
def FnExactIsSequenceWrongFalsely : Prop := fnExactIsSequenceRow.holds Try.pinned (OpenSpec.ofChange fnExactIsSequenceWrong)

/-- 'laws.FnExactStrictTransform': WHATEVER THE INPUT: true; the input reads as it did. -/
def fnExactStrictTransformSpec : ChangeSpec := { name := "fnExactStrictTransform", fn := fun _ => fun
  | [d] => { results := [.lit (.bool true)], args := [d] }
  | _ => none }
def fnExactStrictTransformRow : OpenClaim := { program := "ytjgidalmgoifgaa", sum := "ed13d37bb84b07bd3d0c91494a73af32fc964c1fa7ce915b15621851704a0282", func := "loop.example/g01140/laws.FnExactStrictTransform", spec := "fnExactStrictTransform", unfollowed := true, recurses := true, apart := false }
def FnExactStrictTransformSaid : Prop := fnExactStrictTransformRow.holds Try.pinned (OpenSpec.ofChange fnExactStrictTransformSpec)

/-- ITS FALSE NEIGHBOUR: 'it returns false'. Refute it at one input. -/
def fnExactStrictTransformWrong : ChangeSpec := { name := "fnExactStrictTransform", fn := fun _ => fun
  | [d] => { results := [.lit (.bool false)], args := [d] }
  | _ => none }
def FnExactStrictTransformWrongFalsely : Prop := fnExactStrictTransformRow.holds Try.pinned (OpenSpec.ofChange fnExactStrictTransformWrong)

/-- 'laws.FnExactIsValue': WHATEVER THE INPUT: true; the input reads as it did. -/
def fnExactIsValueSpec : ChangeSpec := { name := "fnExactIsValue", fn := fun _ => fun
  | [d1, d2] => { results := [.lit (.bool true)], args := [d1, d2] }
  | _ => none }
def fnExactIsValueRow : OpenClaim := { program := "ytjgidalmgoifgaa", sum := "ed13d37bb84b07bd3d0c91494a73af32fc964c1fa7ce915b15621851704a0282", func := "loop.example/g01140/laws.FnExactIsValue", spec := "fnExactIsValue", unfollowed := true, recurses := true, apart := false }
def FnExactIsValueSaid : Prop := fnExactIsValueRow.holds Try.pinned (OpenSpec.ofChange fnExactIsValueSpec)

/-- ITS FALSE NEIGHBOUR: 'it returns false'. Refute it at one input. -/
def fnExactIsValueWrong : ChangeSpec := { name := "fnExactIsValue", fn := fun _ => fun
  | [d1, d2] => { results := [.lit (.bool false)], args := [d1, d2] }
  | _ => none }
def FnExactIsValueWrongFalsely : Prop := fnExactIsValueRow.holds Try.pinned (OpenSpec.ofChange fnExactIsValueWrong)

/-- 'laws.FnExactValuesUpTo': WHATEVER THE INPUT: true; the input reads as it did. -/
def fnExactValuesUpToSpec : ChangeSpec := { name := "fnExactValuesUpTo", fn := fun _ => fun
  | [d1, d2] => { results := [.lit (.bool true)], args := [d1, d2] }
  | _ => none }
def fnExactValuesUpToRow : OpenClaim := { program := "ytjgidalmgoifgaa", sum := "ed13d37bb84b07bd3d0c91494a73af32fc964c1fa7ce915b15621851704a0282", func := "loop.example/g01140/laws.FnExactValuesUpTo", spec := "fnExactValuesUpTo", unfollowed := true, recurses := true, apart := false }
def FnExactValuesUpToSaid : Prop := fnExactValuesUpToRow.holds Try.pinned (OpenSpec.ofChange fnExactValuesUpToSpec)

/-- ITS FALSE NEIGHBOUR: 'it returns false'. Refute it at one input. -/
def fnExactValuesUpToWrong : ChangeSpec := { name := "fnExactValuesUpTo", fn := fun _ => fun
  | [d1, d2] => { results := [.lit (.bool false)], args := [d1, d2] }
  | _ => none }
def FnExactValuesUpToWrongFalsely : Prop := fnExactValuesUpToRow.holds Try.pinned (OpenSpec.ofChange fnExactValuesUpToWrong)

/-- 'laws.FnExactGapsOf': WHATEVER THE INPUT: true; the input reads as it did. -/
def fnExactGapsOfSpec : ChangeSpec := { name := "fnExactGapsOf", fn := fun _ => fun
  | [d] => { results := [.lit (.bool true)], args := [d] }
  | _ => none }
def fnExactGapsOfRow : OpenClaim := { program := "ytjgidalmgoifgaa", sum := "ed13d37bb84b07bd3d0c91494a73af32fc964c1fa7ce915b15621851704a0282", func := "loop.example/g01140/laws.FnExactGapsOf", spec := "fnExactGapsOf", unfollowed := true, recurses := true, apart := false }
def FnExactGapsOfSaid : Prop := fnExactGapsOfRow.holds Try.pinned (OpenSpec.ofChange fnExactGapsOfSpec)

/-- ITS FALSE NEIGHBOUR: 'it returns false'. Refute it at one input. -/
def fnExactGapsOfWrong : ChangeSpec := { name := "fnExactGapsOf", fn := fun _ => fun
  | [d] => { results := [.lit (.bool false)], args := [d] }
  | _ => none }
def FnExactGapsOfWrongFalsely : Prop := fnExactGapsOfRow.holds Try.pinned (OpenSpec.ofChange fnExactGapsOfWrong)

/-- 'laws.FnExactAperyOf': WHATEVER THE INPUT: true; the input reads as it did. -/
def fnExactAperyOfSpec : ChangeSpec := { name := "fnExactAperyOf", fn := fun _ => fun
  | [d] => { results := [.lit (.bool true)], args := [d] }
  | _ => none }
def fnExactAperyOfRow : OpenClaim := { program := "ytjgidalmgoifgaa", sum := "ed13d37bb84b07bd3d0c91494a73af32fc964c1fa7ce915b15621851704a0282", func := "loop.example/g01140/laws.FnExactAperyOf", spec := "fnExactAperyOf", unfollowed := true, recurses := true, apart := false }
def FnExactAperyOfSaid : Prop := fnExactAperyOfRow.holds Try.pinned (OpenSpec.ofChange fnExactAperyOfSpec)

/-- ITS FALSE NEIGHBOUR: 'it returns false'. Refute it at one input. -/
def fnExactAperyOfWrong : ChangeSpec := { name := "fnExactAperyOf", fn := fun _ => fun
  | [d] => { results := [.lit (.bool false)], args := [d] }
  | _ => none }
def FnExactAperyOfWrongFalsely : Prop := fnExactAperyOfRow.holds Try.pinned (OpenSpec.ofChange fnExactAperyOfWrong)

/-- 'laws.FnExactSemigroupPolynomial': WHATEVER THE INPUT: true; the input reads as it did. -/
def fnExactSemigroupPolynomialSpec : ChangeSpec := { name := "fnExactSemigroupPolynomial", fn := fun _ => fun
  | [d] => { results := [.lit (.bool true)], args := [d] }
  | _ => none }
def fnExactSemigroupPolynomialRow : OpenClaim := { program := "ytjgidalmgoifgaa", sum := "ed13d37bb84b07bd3d0c91494a73af32fc964c1fa7ce915b15621851704a0282", func := "loop.example/g01140/laws.FnExactSemigroupPolynomial", spec := "fnExactSemigroupPolynomial", unfollowed := true, recurses := true, apart := false }
def FnExactSemigroupPolynomialSaid : Prop := fnExactSemigroupPolynomialRow.holds Try.pinned (OpenSpec.ofChange fnExactSemigroupPolynomialSpec)

/-- ITS FALSE NEIGHBOUR: 'it returns false'. Refute it at one input. -/
def fnExactSemigroupPolynomialWrong : ChangeSpec := { name := "fnExactSemigroupPolynomial", fn := fun _ => fun
  | [d] => { results := [.lit (.bool false)], args := [d] }
  | _ => none }
def FnExactSemigroupPolynomialWrongFalsely : Prop := fnExactSemigroupPolynomialRow.holds Try.pinned (OpenSpec.ofChange fnExactSemigroupPolynomialWrong)

/- THE SECOND FORM. 'bulk': how many values and letters a reading holds, each counted each time it is reached (what is shared counts as often as it is met; a slice's spare places count too). A statement '..UptoSaid' is the law's where the arguments, and the package variables that the reading takes, are together of bulk at most 1048576: NARROWER than '..Said'. Prove '..Said' where nothing that the law and all that it calls make is longer than what came in: it says more and counts as full. Else prove '..UptoSaid'. A law counts once. -/
mutual
def uptoBulk {H : Type} : DataW H → Nat
  | .lit (.string bytes) => bytes.length + 1
  | .lit _ => 1
  | .nil => 1
  | .ptr d => uptoBulk d + 1
  | .slice elems spare => uptoBulkAll elems + uptoBulkAll spare + 1
  | .agg parts => uptoBulkAll parts + 1
  | .iface _ d => uptoBulk d + 1
  | .map entries => uptoBulkEntries entries + 1
  | .held _ => 1
def uptoBulkAll {H : Type} : List (DataW H) → Nat
  | [] => 0
  | d :: r => uptoBulk d + uptoBulkAll r
def uptoBulkEntries {H : Type} : List (Lit × DataW H) → Nat
  | [] => 0
  | x :: r => uptoBulkEntry x + uptoBulkEntries r
def uptoBulkEntry {H : Type} : Lit × DataW H → Nat
  | (.string bytes, d) => bytes.length + uptoBulk d + 1
  | (_, d) => uptoBulk d + 1
 end
def uptoSmall : (H : Type) → List (DataW H) → Bool := fun _ ds => decide (uptoBulkAll ds ≤ 1048576)
def OpenSpec.upto (s : _root_.Go.ChangeSpec) : _root_.Go.OpenSpec := { _root_.Go.OpenSpec.ofChange s with cond := some uptoSmall }

/-- 'laws.FnSequences', WHERE WHAT IT READS IS OF BULK AT MOST 1048576: true; the input reads as it did. -/
def fnSequencesUptoRow : OpenClaim := { program := "ytjgidalmgoifgaa", sum := "ed13d37bb84b07bd3d0c91494a73af32fc964c1fa7ce915b15621851704a0282", func := "loop.example/g01140/laws.FnSequences", spec := "fnSequences", unfollowed := true, recurses := true, apart := false, narrowed := true }
def FnSequencesUptoSaid : Prop := fnSequencesUptoRow.holds Try.pinned (OpenSpec.upto fnSequencesSpec)

/-- 'laws.FnBlocks', WHERE WHAT IT READS IS OF BULK AT MOST 1048576: true; the input reads as it did. -/
def fnBlocksUptoRow : OpenClaim := { program := "ytjgidalmgoifgaa", sum := "ed13d37bb84b07bd3d0c91494a73af32fc964c1fa7ce915b15621851704a0282", func := "loop.example/g01140/laws.FnBlocks", spec := "fnBlocks", unfollowed := true, recurses := true, apart := false, narrowed := true }
def FnBlocksUptoSaid : Prop := fnBlocksUptoRow.holds Try.pinned (OpenSpec.upto fnBlocksSpec)

/-- 'laws.FnSemigroups', WHERE WHAT IT READS IS OF BULK AT MOST 1048576: true; the input reads as it did. -/
def fnSemigroupsUptoRow : OpenClaim := { program := "ytjgidalmgoifgaa", sum := "ed13d37bb84b07bd3d0c91494a73af32fc964c1fa7ce915b15621851704a0282", func := "loop.example/g01140/laws.FnSemigroups", spec := "fnSemigroups", unfollowed := true, recurses := true, apart := false, narrowed := true }
def FnSemigroupsUptoSaid : Prop := fnSemigroupsUptoRow.holds Try.pinned (OpenSpec.upto fnSemigroupsSpec)

/-- 'laws.FnRepresentations', WHERE WHAT IT READS IS OF BULK AT MOST 1048576: true; the input reads as it did. -/
def fnRepresentationsUptoRow : OpenClaim := { program := "ytjgidalmgoifgaa", sum := "ed13d37bb84b07bd3d0c91494a73af32fc964c1fa7ce915b15621851704a0282", func := "loop.example/g01140/laws.FnRepresentations", spec := "fnRepresentations", unfollowed := true, recurses := true, apart := false, narrowed := true }
def FnRepresentationsUptoSaid : Prop := fnRepresentationsUptoRow.holds Try.pinned (OpenSpec.upto fnRepresentationsSpec)

/-- 'laws.FnExactBranchOfSequence', WHERE WHAT IT READS IS OF BULK AT MOST 1048576: true; the input reads as it did. -/
def fnExactBranchOfSequenceUptoRow : OpenClaim := { program := "ytjgidalmgoifgaa", sum := "ed13d37bb84b07bd3d0c91494a73af32fc964c1fa7ce915b15621851704a0282", func := "loop.example/g01140/laws.FnExactBranchOfSequence", spec := "fnExactBranchOfSequence", apart := false, narrowed := true }
def FnExactBranchOfSequenceUptoSaid : Prop := fnExactBranchOfSequenceUptoRow.holds Try.pinned (OpenSpec.upto fnExactBranchOfSequenceSpec)

/-- 'laws.FnExactIsSequence', WHERE WHAT IT READS IS OF BULK AT MOST 1048576: true; the input reads as it did. -/
def fnExactIsSequenceUptoRow : OpenClaim := { program := "ytjgidalmgoifgaa", sum := "ed13d37bb84b07bd3d0c91494a73af32fc964c1fa7ce915b15621851704a0282", func := "loop.example/g01140/laws.FnExactIsSequence", spec := "fnExactIsSequence", apart := false, narrowed := true }
def FnExactIsSequenceUptoSaid : Prop := fnExactIsSequenceUptoRow.holds Try.pinned (OpenSpec.upto fnExactIsSequenceSpec)

/-- 'laws.FnExactStrictTransform', WHERE WHAT IT READS IS OF BULK AT MOST 1048576: true; the input reads as it did. -/
def fnExactStrictTransformUptoRow : OpenClaim := { program := "ytjgidalmgoifgaa", sum := "ed13d37bb84b07bd3d0c91494a73af32fc964c1fa7ce915b15621851704a0282", func := "loop.example/g01140/laws.FnExactStrictTransform", spec := "fnExactStrictTransform", unfollowed := true, recurses := true, apart := false, narrowed := true }
def FnExactStrictTransformUptoSaid : Prop := fnExactStrictTransformUptoRow.holds Try.pinned (OpenSpec.upto fnExactStrictTransformSpec)

/-- 'laws.FnExactIsValue', WHERE WHAT IT READS IS OF BULK AT MOST 1048576: true; the input reads as it did. -/
def fnExactIsValueUptoRow : OpenClaim := { program := "ytjgidalmgoifgaa", sum := "ed13d37bb84b07bd3d0c91494a73af32fc964c1fa7ce915b15621851704a0282", func := "loop.example/g01140/laws.FnExactIsValue", spec := "fnExactIsValue", unfollowed := true, recurses := true, apart := false, narrowed := true }
def FnExactIsValueUptoSaid : Prop := fnExactIsValueUptoRow.holds Try.pinned (OpenSpec.upto fnExactIsValueSpec)

/-- 'laws.FnExactValuesUpTo', WHERE WHAT IT READS IS OF BULK AT MOST 1048576: true; the input reads as it did. -/
def fnExactValuesUpToUptoRow : OpenClaim := { program := "ytjgidalmgoifgaa", sum := "ed13d37bb84b07bd3d0c91494a73af32fc964c1fa7ce915b15621851704a0282", func := "loop.example/g01140/laws.FnExactValuesUpTo", spec := "fnExactValuesUpTo", unfollowed := true, recurses := true, apart := false, narrowed := true }
def FnExactValuesUpToUptoSaid : Prop := fnExactValuesUpToUptoRow.holds Try.pinned (OpenSpec.upto fnExactValuesUpToSpec)

/-- 'laws.FnExactGapsOf', WHERE WHAT IT READS IS OF BULK AT MOST 1048576: true; the input reads as it did. -/
def fnExactGapsOfUptoRow : OpenClaim := { program := "ytjgidalmgoifgaa", sum := "ed13d37bb84b07bd3d0c91494a73af32fc964c1fa7ce915b15621851704a0282", func := "loop.example/g01140/laws.FnExactGapsOf", spec := "fnExactGapsOf", unfollowed := true, recurses := true, apart := false, narrowed := true }
def FnExactGapsOfUptoSaid : Prop := fnExactGapsOfUptoRow.holds Try.pinned (OpenSpec.upto fnExactGapsOfSpec)

/-- 'laws.FnExactAperyOf', WHERE WHAT IT READS IS OF BULK AT MOST 1048576: true; the input reads as it did. -/
def fnExactAperyOfUptoRow : OpenClaim := { program := "ytjgidalmgoifgaa", sum := "ed13d37bb84b07bd3d0c91494a73af32fc964c1fa7ce915b15621851704a0282", func := "loop.example/g01140/laws.FnExactAperyOf", spec := "fnExactAperyOf", unfollowed := true, recurses := true, apart := false, narrowed := true }
def FnExactAperyOfUptoSaid : Prop := fnExactAperyOfUptoRow.holds Try.pinned (OpenSpec.upto fnExactAperyOfSpec)

/-- 'laws.FnExactSemigroupPolynomial', WHERE WHAT IT READS IS OF BULK AT MOST 1048576: true; the input reads as it did. -/
def fnExactSemigroupPolynomialUptoRow : OpenClaim := { program := "ytjgidalmgoifgaa", sum := "ed13d37bb84b07bd3d0c91494a73af32fc964c1fa7ce915b15621851704a0282", func := "loop.example/g01140/laws.FnExactSemigroupPolynomial", spec := "fnExactSemigroupPolynomial", unfollowed := true, recurses := true, apart := false, narrowed := true }
def FnExactSemigroupPolynomialUptoSaid : Prop := fnExactSemigroupPolynomialUptoRow.holds Try.pinned (OpenSpec.upto fnExactSemigroupPolynomialSpec)

end Rows
end Go.Proofs.Ytjgidalmgoifgaa
