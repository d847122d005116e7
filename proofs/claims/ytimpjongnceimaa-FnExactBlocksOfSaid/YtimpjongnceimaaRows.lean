/-
  No cell of these rows narrows 'for every input' (looked for: loops, veiled, ifaces, maps, wideKeys, modest, calm, conditions, laid).
  DERIVED. THE GIVEN ROWS OF THIS SEAT. 12 by the template 'for every input the law returns true; each argument reads behind the call as it read before'; 0 by the template 'total and deterministic' (their statements: YtimpjongnceimaaTotals.lean).
  GIVEN WITH THE SEED: the statements are not yours to turn. If you find one false, say at which input.
  Laid BY PROGRAM, IN A SANDBOX (cutbox-rows.mjs): the forced cells as the released guide's own fill.sh prints them over the translation 704bb792aa35aa52… (all of the seat's roots in one cut). By AI agents, Wed Nov 11 2026. No macro, syntax, notation, axiom, sorry.
-/
import Derived.Test.YtimpjongnceimaaChecked
import GoSem.Claim
import GoSem.ClaimJoined
import GoSem.ClaimMapViews
import Derived.JoinedTies
import Derived.KernelRfl
namespace Go.Proofs.Ytimpjongnceimaa
/- THE CELL 'sum', in the pinned program and in every row, IS THE sha256 OF THE DUMP (.gsa) THAT YtimpjongnceimaaProg.lean LOADS. Nothing in Lean hashes anything: it is a label: what it is worth is what the hold of that sum in a sandbox is worth. -/
noncomputable def Try.pinned : Pinned := { name := "ytimpjongnceimaa", sum := "704bb792aa35aa525c82a97b5d2eb62d1012e0bf16ad252fad54207ac06ee8bc", checked := Try.checked }
namespace Rows
def none {H : Type} : Left H := { results := [], args := [] }

/-- 'laws.FnSequences': WHATEVER THE INPUT: true; the input reads as it did. -/
def fnSequencesSpec : ChangeSpec := { name := "fnSequences", fn := fun _ => fun
  | [d] => { results := [.lit (.bool true)], args := [d] }
  | _ => none }
def fnSequencesRow : OpenClaim := { program := "ytimpjongnceimaa", sum := "704bb792aa35aa525c82a97b5d2eb62d1012e0bf16ad252fad54207ac06ee8bc", func := "loop.example/g01140/laws.FnSequences", spec := "fnSequences", unfollowed := true, recurses := true, apart := false }
def FnSequencesSaid : Prop := fnSequencesRow.holds Try.pinned (OpenSpec.ofChange fnSequencesSpec)

/-- ITS FALSE NEIGHBOUR: 'it returns false'. Refute it at one input. -/
def fnSequencesWrong : ChangeSpec := { name := "fnSequences", fn := fun _ => fun
  | [d] => { results := [.lit (.bool false)], args := [d] }
  | _ => none }
def FnSequencesWrongFalsely : Prop := fnSequencesRow.holds Try.pinned (OpenSpec.ofChange fnSequencesWrong)

/-- 'laws.FnBlocks': WHATEVER THE INPUT: true; the input reads as it did. -/
def fnBlocksSpec : ChangeSpec := { name := "fnBlocks", fn := fun _ => fun
  | [d] => { results := [.lit (.bool true)], args := [d] }
  | _ => none }
def fnBlocksRow : OpenClaim := { program := "ytimpjongnceimaa", sum := "704bb792aa35aa525c82a97b5d2eb62d1012e0bf16ad252fad54207ac06ee8bc", func := "loop.example/g01140/laws.FnBlocks", spec := "fnBlocks", unfollowed := true, recurses := true, apart := false }
def FnBlocksSaid : Prop := fnBlocksRow.holds Try.pinned (OpenSpec.ofChange fnBlocksSpec)

/-- ITS FALSE NEIGHBOUR: 'it returns false'. Refute it at one input. -/
def fnBlocksWrong : ChangeSpec := { name := "fnBlocks", fn := fun _ => fun
  | [d] => { results := [.lit (.bool false)], args := [d] }
  | _ => none }
def FnBlocksWrongFalsely : Prop := fnBlocksRow.holds Try.pinned (OpenSpec.ofChange fnBlocksWrong)

/-- 'laws.FnExactSequenceOf': WHATEVER THE INPUT: true; the input reads as it did. -/
def fnExactSequenceOfSpec : ChangeSpec := { name := "fnExactSequenceOf", fn := fun _ => fun
  | [d] => { results := [.lit (.bool true)], args := [d] }
  | _ => none }
def fnExactSequenceOfRow : OpenClaim := { program := "ytimpjongnceimaa", sum := "704bb792aa35aa525c82a97b5d2eb62d1012e0bf16ad252fad54207ac06ee8bc", func := "loop.example/g01140/laws.FnExactSequenceOf", spec := "fnExactSequenceOf", unfollowed := true, recurses := true, apart := false }
def FnExactSequenceOfSaid : Prop := fnExactSequenceOfRow.holds Try.pinned (OpenSpec.ofChange fnExactSequenceOfSpec)

/-- ITS FALSE NEIGHBOUR: 'it returns false'. Refute it at one input. -/
def fnExactSequenceOfWrong : ChangeSpec := { name := "fnExactSequenceOf", fn := fun _ => fun
  | [d] => { results := [.lit (.bool false)], args := [d] }
  | _ => none }
def FnExactSequenceOfWrongFalsely : Prop := fnExactSequenceOfRow.holds Try.pinned (OpenSpec.ofChange fnExactSequenceOfWrong)

/-- 'laws.FnExactLongSequence': WHATEVER THE INPUT: true; the input reads as it did. -/
def fnExactLongSequenceSpec : ChangeSpec := { name := "fnExactLongSequence", fn := fun _ => fun
  | [d1, d2] => { results := [.lit (.bool true)], args := [d1, d2] }
  | _ => none }
def fnExactLongSequenceRow : OpenClaim := { program := "ytimpjongnceimaa", sum := "704bb792aa35aa525c82a97b5d2eb62d1012e0bf16ad252fad54207ac06ee8bc", func := "loop.example/g01140/laws.FnExactLongSequence", spec := "fnExactLongSequence", unfollowed := true, recurses := true, apart := false }
def FnExactLongSequenceSaid : Prop := fnExactLongSequenceRow.holds Try.pinned (OpenSpec.ofChange fnExactLongSequenceSpec)

/-- ITS FALSE NEIGHBOUR: 'it returns false'. Refute it at one input. -/
def fnExactLongSequenceWrong : ChangeSpec := { name := "fnExactLongSequence", fn := fun _ => fun
  | [d1, d2] => { results := [.lit (.bool false)], args := [d1, d2] }
  | _ => none }
def FnExactLongSequenceWrongFalsely : Prop := fnExactLongSequenceRow.holds Try.pinned (OpenSpec.ofChange fnExactLongSequenceWrong)

/-- 'laws.FnExactBlocksOf': WHATEVER THE INPUT: true; the input reads as it did. -/
def fnExactBlocksOfSpec : ChangeSpec := { name := "fnExactBlocksOf", fn := fun _ => fun
  | [d] => { results := [.lit (.bool true)], args := [d] }
  | _ => none }
def fnExactBlocksOfRow : OpenClaim := { program := "ytimpjongnceimaa", sum := "704bb792aa35aa525c82a97b5d2eb62d1012e0bf16ad252fad54207ac06ee8bc", func := "loop.example/g01140/laws.FnExactBlocksOf", spec := "fnExactBlocksOf", unfollowed := true, recurses := true, apart := false }
def FnExactBlocksOfSaid : Prop := fnExactBlocksOfRow.holds Try.pinned (OpenSpec.ofChange fnExactBlocksOfSpec)

/-- ITS FALSE NEIGHBOUR: 'it returns false'. Refute it at one input. -/
def fnExactBlocksOfWrong : ChangeSpec := { name := "fnExactBlocksOf", fn := fun _ => fun
  | [d] => { results := [.lit (.bool false)], args := [d] }
  | _ => none }
def FnExactBlocksOfWrongFalsely : Prop := fnExactBlocksOfRow.holds Try.pinned (OpenSpec.ofChange fnExactBlocksOfWrong)

/-- 'laws.FnExactCountBranchPoints': WHATEVER THE INPUT: true; the input reads as it did. -/
def fnExactCountBranchPointsSpec : ChangeSpec := { name := "fnExactCountBranchPoints", fn := fun _ => fun
  | [d] => { results := [.lit (.bool true)], args := [d] }
  | _ => none }
def fnExactCountBranchPointsRow : OpenClaim := { program := "ytimpjongnceimaa", sum := "704bb792aa35aa525c82a97b5d2eb62d1012e0bf16ad252fad54207ac06ee8bc", func := "loop.example/g01140/laws.FnExactCountBranchPoints", spec := "fnExactCountBranchPoints", unfollowed := true, recurses := true, apart := false }
def FnExactCountBranchPointsSaid : Prop := fnExactCountBranchPointsRow.holds Try.pinned (OpenSpec.ofChange fnExactCountBranchPointsSpec)

/-- ITS FALSE NEIGHBOUR: 'it returns false'. Refute it at one input. -/
def fnExactCountBranchPointsWrong : ChangeSpec := { name := "fnExactCountBranchPoints", fn := fun _ => fun
  | [d] => { results := [.lit (.bool false)], args := [d] }
  | _ => none }
def FnExactCountBranchPointsWrongFalsely : Prop := fnExactCountBranchPointsRow.holds Try.pinned (OpenSpec.ofChange fnExactCountBranchPointsWrong)

/-- 'laws.FnExactBranchOfSequence': WHATEVER THE INPUT: true; the input reads as it did. -/
def fnExactBranchOfSequenceSpec : ChangeSpec := { name := "fnExactBranchOfSequence", fn := fun _ => fun
  | [d] => { results := [.lit (.bool true)], args := [d] }
  | _ => none }
def fnExactBranchOfSequenceRow : OpenClaim := { program := "ytimpjongnceimaa", sum := "704bb792aa35aa525c82a97b5d2eb62d1012e0bf16ad252fad54207ac06ee8bc", func := "loop.example/g01140/laws.FnExactBranchOfSequence", spec := "fnExactBranchOfSequence", apart := false }
def FnExactBranchOfSequenceSaid : Prop := fnExactBranchOfSequenceRow.holds Try.pinned (OpenSpec.ofChange fnExactBranchOfSequenceSpec)

/-- ITS FALSE NEIGHBOUR: 'it returns false'. Refute it at one input. -/
def fnExactBranchOfSequenceWrong : ChangeSpec := { name := "fnExactBranchOfSequence", fn := fun _ => fun
  | [d] => { results := [.lit (.bool false)], args := [d] }
  | _ => none }
def FnExactBranchOfSequenceWrongFalsely : Prop := fnExactBranchOfSequenceRow.holds Try.pinned (OpenSpec.ofChange fnExactBranchOfSequenceWrong)

/-- 'laws.FnExactIsSequence': WHATEVER THE INPUT: true; the input reads as it did. -/
def fnExactIsSequenceSpec : ChangeSpec := { name := "fnExactIsSequence", fn := fun _ => fun
  | [d] => { results := [.lit (.bool true)], args := [d] }
  | _ => none }
def fnExactIsSequenceRow : OpenClaim := { program := "ytimpjongnceimaa", sum := "704bb792aa35aa525c82a97b5d2eb62d1012e0bf16ad252fad54207ac06ee8bc", func := "loop.example/g01140/laws.FnExactIsSequence", spec := "fnExactIsSequence", apart := false }
def FnExactIsSequenceSaid : Prop := fnExactIsSequenceRow.holds Try.pinned (OpenSpec.ofChange fnExactIsSequenceSpec)

/-- ITS FALSE NEIGHBOUR: 'it returns false'. Refute it at one input. -/
def fnExactIsSequenceWrong : ChangeSpec := { name := "fnExactIsSequence", fn := fun _ => fun
  | [d] => { results := [.lit (.bool false)], args := [d] }
  | _ => none }
def FnExactIsSequenceWrongFalsely : Prop := fnExactIsSequenceRow.holds Try.pinned (OpenSpec.ofChange fnExactIsSequenceWrong)

/-- 'laws.FnExactStrictTransform': WHATEVER THE INPUT: true; the input reads as it did. -/
def fnExactStrictTransformSpec : ChangeSpec := { name := "fnExactStrictTransform", fn := fun _ => fun
  | [d] => { results := [.lit (.bool true)], args := [d] }
  | _ => none }
def fnExactStrictTransformRow : OpenClaim := { program := "ytimpjongnceimaa", sum := "704bb792aa35aa525c82a97b5d2eb62d1012e0bf16ad252fad54207ac06ee8bc", func := "loop.example/g01140/laws.FnExactStrictTransform", spec := "fnExactStrictTransform", unfollowed := true, recurses := true, apart := false }
def FnExactStrictTransformSaid : Prop := fnExactStrictTransformRow.holds Try.pinned (OpenSpec.ofChange fnExactStrictTransformSpec)

/-- ITS FALSE NEIGHBOUR: 'it returns false'. Refute it at one input. -/
def fnExactStrictTransformWrong : ChangeSpec := { name := "fnExactStrictTransform", fn := fun _ => fun
  | [d] => { results := [.lit (.bool false)], args := [d] }
  | _ => none }
def FnExactStrictTransformWrongFalsely : Prop := fnExactStrictTransformRow.holds Try.pinned (OpenSpec.ofChange fnExactStrictTransformWrong)

/-- 'laws.FnExactDeltaInvariant': WHATEVER THE INPUT: true; the input reads as it did. -/
def fnExactDeltaInvariantSpec : ChangeSpec := { name := "fnExactDeltaInvariant", fn := fun _ => fun
  | [d] => { results := [.lit (.bool true)], args := [d] }
  | _ => none }
def fnExactDeltaInvariantRow : OpenClaim := { program := "ytimpjongnceimaa", sum := "704bb792aa35aa525c82a97b5d2eb62d1012e0bf16ad252fad54207ac06ee8bc", func := "loop.example/g01140/laws.FnExactDeltaInvariant", spec := "fnExactDeltaInvariant", unfollowed := true, recurses := true, apart := false }
def FnExactDeltaInvariantSaid : Prop := fnExactDeltaInvariantRow.holds Try.pinned (OpenSpec.ofChange fnExactDeltaInvariantSpec)

/-- ITS FALSE NEIGHBOUR: 'it returns false'. Refute it at one input. -/
def fnExactDeltaInvariantWrong : ChangeSpec := { name := "fnExactDeltaInvariant", fn := fun _ => fun
  | [d] => { results := [.lit (.bool false)], args := [d] }
  | _ => none }
def FnExactDeltaInvariantWrongFalsely : Prop := fnExactDeltaInvariantRow.holds Try.pinned (OpenSpec.ofChange fnExactDeltaInvariantWrong)

/-- 'laws.FnExactMilnorOfBranch': WHATEVER THE INPUT: true; the input reads as it did. -/
def fnExactMilnorOfBranchSpec : ChangeSpec := { name := "fnExactMilnorOfBranch", fn := fun _ => fun
  | [d] => { results := [.lit (.bool true)], args := [d] }
  | _ => none }
def fnExactMilnorOfBranchRow : OpenClaim := { program := "ytimpjongnceimaa", sum := "704bb792aa35aa525c82a97b5d2eb62d1012e0bf16ad252fad54207ac06ee8bc", func := "loop.example/g01140/laws.FnExactMilnorOfBranch", spec := "fnExactMilnorOfBranch", unfollowed := true, recurses := true, apart := false }
def FnExactMilnorOfBranchSaid : Prop := fnExactMilnorOfBranchRow.holds Try.pinned (OpenSpec.ofChange fnExactMilnorOfBranchSpec)

/-- ITS FALSE NEIGHBOUR: 'it returns false'. Refute it at one input. -/
def fnExactMilnorOfBranchWrong : ChangeSpec := { name := "fnExactMilnorOfBranch", fn := fun _ => fun
  | [d] => { results := [.lit (.bool false)], args := [d] }
  | _ => none }
def FnExactMilnorOfBranchWrongFalsely : Prop := fnExactMilnorOfBranchRow.holds Try.pinned (OpenSpec.ofChange fnExactMilnorOfBranchWrong)

/-- 'laws.FnExactCountBlowUps': WHATEVER THE INPUT: true; the input reads as it did. -/
def fnExactCountBlowUpsSpec : ChangeSpec := { name := "fnExactCountBlowUps", fn := fun _ => fun
  | [d] => { results := [.lit (.bool true)], args := [d] }
  | _ => none }
def fnExactCountBlowUpsRow : OpenClaim := { program := "ytimpjongnceimaa", sum := "704bb792aa35aa525c82a97b5d2eb62d1012e0bf16ad252fad54207ac06ee8bc", func := "loop.example/g01140/laws.FnExactCountBlowUps", spec := "fnExactCountBlowUps", unfollowed := true, recurses := true, apart := false }
def FnExactCountBlowUpsSaid : Prop := fnExactCountBlowUpsRow.holds Try.pinned (OpenSpec.ofChange fnExactCountBlowUpsSpec)

/-- ITS FALSE NEIGHBOUR: 'it returns false'. Refute it at one input. -/
def fnExactCountBlowUpsWrong : ChangeSpec := { name := "fnExactCountBlowUps", fn := fun _ => fun
  | [d] => { results := [.lit (.bool false)], args := [d] }
  | _ => none }
def FnExactCountBlowUpsWrongFalsely : Prop := fnExactCountBlowUpsRow.holds Try.pinned (OpenSpec.ofChange fnExactCountBlowUpsWrong)

/- THE SECOND FORM. 'bulk': how many values and letters a reading holds, each counted each time it is reached (what is shared counts as often as it is met; a slice's spare places count too). A statement '..UptoSaid' is the law's where the arguments, and the package variables that the reading takes, are together of bulk at most 1048576: NARROWER than '..Said'. Prove '..Said' where nothing that the law and all that it calls make is longer than what came in: it says more and counts as full. Else prove '..UptoSaid'. A law counts once. -/
mutual
def uptoBulk {H : Type} : DataW H → Nat
  | .lit (.string bytes) => bytes.length + 1
  | .lit _ => 1
  | .nil => 1
  | .ptr d => uptoBulk d + 1
  | .slice elems spare => uptoBulkAll elems + uptoBulkAll spare + 1
  | .agg parts => uptoBulkAll parts + 1
  | .iface _ d => uptoBulk d + 1
  | .map entries => uptoBulkEntries entries + 1
  | .held _ => 1
def uptoBulkAll {H : Type} : List (DataW H) → Nat
  | [] => 0
  | d :: r => uptoBulk d + uptoBulkAll r
def uptoBulkEntries {H : Type} : List (Lit × DataW H) → Nat
  | [] => 0
  | x :: r => uptoBulkEntry x + uptoBulkEntries r
def uptoBulkEntry {H : Type} : Lit × DataW H → Nat
  | (.string bytes, d) => bytes.length + uptoBulk d + 1
  | (_, d) => uptoBulk d + 1
 end
def uptoSmall : (H : Type) → List (DataW H) → Bool := fun _ ds => decide (uptoBulkAll ds ≤ 1048576)
def OpenSpec.upto (s : _root_.Go.ChangeSpec) : _root_.Go.OpenSpec := { _root_.Go.OpenSpec.ofChange s with cond := some uptoSmall }

/-- 'laws.FnSequences', WHERE WHAT IT READS IS OF BULK AT MOST 1048576: true; the input reads as it did. -/
def fnSequencesUptoRow : OpenClaim := { program := "ytimpjongnceimaa", sum := "704bb792aa35aa525c82a97b5d2eb62d1012e0bf16ad252fad54207ac06ee8bc", func := "loop.example/g01140/laws.FnSequences", spec := "fnSequences", unfollowed := true, recurses := true, apart := false, narrowed := true }
def FnSequencesUptoSaid : Prop := fnSequencesUptoRow.holds Try.pinned (OpenSpec.upto fnSequencesSpec)

/-- 'laws.FnBlocks', WHERE WHAT IT READS IS OF BULK AT MOST 1048576: true; the input reads as it did. -/
def fnBlocksUptoRow : OpenClaim := { program := "ytimpjongnceimaa", sum := "704bb792aa35aa525c82a97b5d2eb62d1012e0bf16ad252fad54207ac06ee8bc", func := "loop.example/g01140/laws.FnBlocks", spec := "fnBlocks", unfollowed := true, recurses := true, apart := false, narrowed := true }
def FnBlocksUptoSaid : Prop := fnBlocksUptoRow.holds Try.pinned (OpenSpec.upto fnBlocksSpec)

/-- 'laws.FnExactSequenceOf', WHERE WHAT IT READS IS OF BULK AT MOST 1048576: true; the input reads as it did. -/
def fnExactSequenceOfUptoRow : OpenClaim := { program := "ytimpjongnceimaa", sum := "704bb792aa35aa525c82a97b5d2eb62d1012e0bf16ad252fad54207ac06ee8bc", func := "loop.example/g01140/laws.FnExactSequenceOf", spec := "fnExactSequenceOf", unfollowed := true, recurses := true, apart := false, narrowed := true }
def FnExactSequenceOfUptoSaid : Prop := fnExactSequenceOfUptoRow.holds Try.pinned (OpenSpec.upto fnExactSequenceOfSpec)

/-- 'laws.FnExactLongSequence', WHERE WHAT IT READS IS OF BULK AT MOST 1048576: true; the input reads as it did. -/
def fnExactLongSequenceUptoRow : OpenClaim := { program := "ytimpjongnceimaa", sum := "704bb792aa35aa525c82a97b5d2eb62d1012e0bf16ad252fad54207ac06ee8bc", func := "loop.example/g01140/laws.FnExactLongSequence", spec := "fnExactLongSequence", unfollowed := true, recurses := true, apart := false, narrowed := true }
def FnExactLongSequenceUptoSaid : Prop := fnExactLongSequenceUptoRow.holds Try.pinned (OpenSpec.upto fnExactLongSequenceSpec)

/-- 'laws.FnExactBlocksOf', WHERE WHAT IT READS IS OF BULK AT MOST 1048576: true; the input reads as it did. -/
def fnExactBlocksOfUptoRow : OpenClaim := { program := "ytimpjongnceimaa", sum := "704bb792aa35aa525c82a97b5d2eb62d1012e0bf16ad252fad54207ac06ee8bc", func := "loop.example/g01140/laws.FnExactBlocksOf", spec := "fnExactBlocksOf", unfollowed := true, recurses := true, apart := false, narrowed := true }
def FnExactBlocksOfUptoSaid : Prop := fnExactBlocksOfUptoRow.holds Try.pinned (OpenSpec.upto fnExactBlocksOfSpec)

/-- 'laws.FnExactCountBranchPoints', WHERE WHAT IT READS IS OF BULK AT MOST 1048576: true; the input reads as it did. -/
def fnExactCountBranchPointsUptoRow : OpenClaim := { program := "ytimpjongnceimaa", sum := "704bb792aa35aa525c82a97b5d2eb62d1012e0bf16ad252fad54207ac06ee8bc", func := "loop.example/g01140/laws.FnExactCountBranchPoints", spec := "fnExactCountBranchPoints", unfollowed := true, recurses := true, apart := false, narrowed := true }
def FnExactCountBranchPointsUptoSaid : Prop := fnExactCountBranchPointsUptoRow.holds Try.pinned (OpenSpec.upto fnExactCountBranchPointsSpec)

/-- 'laws.FnExactBranchOfSequence', WHERE WHAT IT READS IS OF BULK AT MOST 1048576: true; the input reads as it did. -/
def fnExactBranchOfSequenceUptoRow : OpenClaim := { program := "ytimpjongnceimaa", sum := "704bb792aa35aa525c82a97b5d2eb62d1012e0bf16ad252fad54207ac06ee8bc", func := "loop.example/g01140/laws.FnExactBranchOfSequence", spec := "fnExactBranchOfSequence", apart := false, narrowed := true }
def FnExactBranchOfSequenceUptoSaid : Prop := fnExactBranchOfSequenceUptoRow.holds Try.pinned (OpenSpec.upto fnExactBranchOfSequenceSpec)

/-- 'laws.FnExactIsSequence', WHERE WHAT IT READS IS OF BULK AT MOST 1048576: true; the input reads as it did. -/
def fnExactIsSequenceUptoRow : OpenClaim := { program := "ytimpjongnceimaa", sum := "704bb792aa35aa525c82a97b5d2eb62d1012e0bf16ad252fad54207ac06ee8bc", func := "loop.example/g01140/laws.FnExactIsSequence", spec := "fnExactIsSequence", apart := false, narrowed := true }
def FnExactIsSequenceUptoSaid : Prop := fnExactIsSequenceUptoRow.holds Try.pinned (OpenSpec.upto fnExactIsSequenceSpec)

/-- 'laws.FnExactStrictTransform', WHERE WHAT IT READS IS OF BULK AT MOST 1048576: true; the input reads as it did. -/
def fnExactStrictTransformUptoRow : OpenClaim := { program := "ytimpjongnceimaa", sum := "704bb792aa35aa525c82a97b5d2eb62d1012e0bf16ad252fad54207ac06ee8bc", func := "loop.example/g01140/laws.FnExactStrictTransform", spec := "fnExactStrictTransform", unfollowed := true, recurses := true, apart := false, narrowed := true }
def FnExactStrictTransformUptoSaid : Prop := fnExactStrictTransformUptoRow.holds Try.pinned (OpenSpec.upto fnExactStrictTransformSpec)

/-- 'laws.FnExactDeltaInvariant', WHERE WHAT IT READS IS OF BULK AT MOST 1048576: true; the input reads as it did. -/
def fnExactDeltaInvariantUptoRow : OpenClaim := { program := "ytimpjongnceimaa", sum := "704bb792aa35aa525c82a97b5d2eb62d1012e0bf16ad252fad54207ac06ee8bc", func := "loop.example/g01140/laws.FnExactDeltaInvariant", spec := "fnExactDeltaInvariant", unfollowed := true, recurses := true, apart := false, narrowed := true }
def FnExactDeltaInvariantUptoSaid : Prop := fnExactDeltaInvariantUptoRow.holds Try.pinned (OpenSpec.upto fnExactDeltaInvariantSpec)

/-- 'laws.FnExactMilnorOfBranch', WHERE WHAT IT READS IS OF BULK AT MOST 1048576: true; the input reads as it did. -/
def fnExactMilnorOfBranchUptoRow : OpenClaim := { program := "ytimpjongnceimaa", sum := "704bb792aa35aa525c82a97b5d2eb62d1012e0bf16ad252fad54207ac06ee8bc", func := "loop.example/g01140/laws.FnExactMilnorOfBranch", spec := "fnExactMilnorOfBranch", unfollowed := true, recurses := true, apart := false, narrowed := true }
def FnExactMilnorOfBranchUptoSaid : Prop := fnExactMilnorOfBranchUptoRow.holds Try.pinned (OpenSpec.upto fnExactMilnorOfBranchSpec)

/-- 'laws.FnExactCountBlowUps', WHERE WHAT IT READS IS OF BULK AT MOST 1048576: true; the input reads as it did. -/
def fnExactCountBlowUpsUptoRow : OpenClaim := { program := "ytimpjongnceimaa", sum := "704bb792aa35aa525c82a97b5d2eb62d1012e0bf16ad252fad54207ac06ee8bc", func := "loop.example/g01140/laws.FnExactCountBlowUps", spec := "fnExactCountBlowUps", unfollowed := true, recurses := true, apart := false, narrowed := true }
def FnExactCountBlowUpsUptoSaid : Prop := fnExactCountBlowUpsUptoRow.holds Try.pinned (OpenSpec.upto fnExactCountBlowUpsSpec)

end Rows
end Go.Proofs.Ytimpjongnceimaa
