/-
  No cell of these rows narrows 'for every input' (looked for: loops, veiled, ifaces, maps, wideKeys, modest, calm, conditions, laid).
  DERIVED. THE GIVEN ROWS OF THIS SEAT. 12 by the template 'for every input the law returns true; each argument reads behind the call as it read before'; 0 by the template 'total and deterministic' (their statements: YtohbgfmjnanlkaaTotals.lean).
  GIVEN WITH THE SEED: the statements are not yours to turn. If you find one false, say at which input.
  Laid BY PROGRAM, IN A SANDBOX (cutbox-rows.mjs): the forced cells as the released guide's own fill.sh prints them over the translation cbd19b954567a1b0… (all of the seat's roots in one cut). By AI agents, Wed Nov 11 2026. No macro, syntax, notation, axiom, sorry.
-/
import Derived.Test.YtohbgfmjnanlkaaChecked
import GoSem.Claim
import GoSem.ClaimJoined
import GoSem.ClaimMapViews
import Derived.JoinedTies
import Derived.KernelRfl
namespace Go.Proofs.Ytohbgfmjnanlkaa
/- THE CELL 'sum', in the pinned program and in every row, IS THE sha256 OF THE DUMP (.gsa) THAT YtohbgfmjnanlkaaProg.lean LOADS. Nothing in Lean hashes anything: it is a label: what it is worth is what the hold of that sum in a sandbox is worth. -/
noncomputable def Try.pinned : Pinned := { name := "ytohbgfmjnanlkaa", sum := "cbd19b954567a1b02426b307c60de7ee1d79a4e69b687f0c4703d95e4176395c", checked := Try.checked }
namespace Rows
def none {H : Type} : Left H := { results := [], args := [] }

/-- 'laws.FnExactMeetCurvette': WHATEVER THE INPUT: true; the input reads as it did. -/
def fnExactMeetCurvetteSpec : ChangeSpec := { name := "fnExactMeetCurvette", fn := fun _ => fun
  | [d1, d2] => { results := [.lit (.bool true)], args := [d1, d2] }
  | _ => none }
def fnExactMeetCurvetteRow : OpenClaim := { program := "ytohbgfmjnanlkaa", sum := "cbd19b954567a1b02426b307c60de7ee1d79a4e69b687f0c4703d95e4176395c", func := "loop.example/g01140/laws.FnExactMeetCurvette", spec := "fnExactMeetCurvette", unfollowed := true, recurses := true, apart := false }
def FnExactMeetCurvetteSaid : Prop := fnExactMeetCurvetteRow.holds Try.pinned (OpenSpec.ofChange fnExactMeetCurvetteSpec)

/-- ITS FALSE NEIGHBOUR: 'it returns false'. Refute it at one input. -/
def fnExactMeetCurvetteWrong : ChangeSpec := { name := "fnExactMeetCurvette", fn := fun _ => fun
  | [d1, d2] => { results := [.lit (.bool false)], args := [d1, d2] }
  | _ => none }
def FnExactMeetCurvetteWrongFalsely : Prop := fnExactMeetCurvetteRow.holds Try.pinned (OpenSpec.ofChange fnExactMeetCurvetteWrong)

/-- 'laws.FnExactMixedProduct': WHATEVER THE INPUT: true; the input reads as it did. -/
def fnExactMixedProductSpec : ChangeSpec := { name := "fnExactMixedProduct", fn := fun _ => fun
  | [d1, d2] => { results := [.lit (.bool true)], args := [d1, d2] }
  | _ => none }
def fnExactMixedProductRow : OpenClaim := { program := "ytohbgfmjnanlkaa", sum := "cbd19b954567a1b02426b307c60de7ee1d79a4e69b687f0c4703d95e4176395c", func := "loop.example/g01140/laws.FnExactMixedProduct", spec := "fnExactMixedProduct", unfollowed := true, recurses := true, apart := false }
def FnExactMixedProductSaid : Prop := fnExactMixedProductRow.holds Try.pinned (OpenSpec.ofChange fnExactMixedProductSpec)

/-- ITS FALSE NEIGHBOUR: 'it returns false'. Refute it at one input. -/
def fnExactMixedProductWrong : ChangeSpec := { name := "fnExactMixedProduct", fn := fun _ => fun
  | [d1, d2] => { results := [.lit (.bool false)], args := [d1, d2] }
  | _ => none }
def FnExactMixedProductWrongFalsely : Prop := fnExactMixedProductRow.holds Try.pinned (OpenSpec.ofChange fnExactMixedProductWrong)

/-- 'laws.FnExactMultiplierCluster': WHATEVER THE INPUT: true; the input reads as it did. -/
def fnExactMultiplierClusterSpec : ChangeSpec := { name := "fnExactMultiplierCluster", fn := fun _ => fun
  | [d1, d2] => { results := [.lit (.bool true)], args := [d1, d2] }
  | _ => none }
def fnExactMultiplierClusterRow : OpenClaim := { program := "ytohbgfmjnanlkaa", sum := "cbd19b954567a1b02426b307c60de7ee1d79a4e69b687f0c4703d95e4176395c", func := "loop.example/g01140/laws.FnExactMultiplierCluster", spec := "fnExactMultiplierCluster", unfollowed := true, recurses := true, apart := false }
def FnExactMultiplierClusterSaid : Prop := fnExactMultiplierClusterRow.holds Try.pinned (OpenSpec.ofChange fnExactMultiplierClusterSpec)

/-- ITS FALSE NEIGHBOUR: 'it returns false'. Refute it at one input. -/
def fnExactMultiplierClusterWrong : ChangeSpec := { name := "fnExactMultiplierCluster", fn := fun _ => fun
  | [d1, d2] => { results := [.lit (.bool false)], args := [d1, d2] }
  | _ => none }
def FnExactMultiplierClusterWrongFalsely : Prop := fnExactMultiplierClusterRow.holds Try.pinned (OpenSpec.ofChange fnExactMultiplierClusterWrong)

/-- 'laws.FnExactIsCurve': WHATEVER THE INPUT: true; the input reads as it did. -/
def fnExactIsCurveSpec : ChangeSpec := { name := "fnExactIsCurve", fn := fun _ => fun
  | [d] => { results := [.lit (.bool true)], args := [d] }
  | _ => none }
def fnExactIsCurveRow : OpenClaim := { program := "ytohbgfmjnanlkaa", sum := "cbd19b954567a1b02426b307c60de7ee1d79a4e69b687f0c4703d95e4176395c", func := "loop.example/g01140/laws.FnExactIsCurve", spec := "fnExactIsCurve", unfollowed := true, recurses := true, apart := false }
def FnExactIsCurveSaid : Prop := fnExactIsCurveRow.holds Try.pinned (OpenSpec.ofChange fnExactIsCurveSpec)

/-- ITS FALSE NEIGHBOUR: 'it returns false'. Refute it at one input. -/
def fnExactIsCurveWrong : ChangeSpec := { name := "fnExactIsCurve", fn := fun _ => fun
  | [d] => { results := [.lit (.bool false)], args := [d] }
  | _ => none }
def FnExactIsCurveWrongFalsely : Prop := fnExactIsCurveRow.holds Try.pinned (OpenSpec.ofChange fnExactIsCurveWrong)

/-- 'laws.FnExactCurveOfBranch': WHATEVER THE INPUT: true; the input reads as it did. -/
def fnExactCurveOfBranchSpec : ChangeSpec := { name := "fnExactCurveOfBranch", fn := fun _ => fun
  | [d] => { results := [.lit (.bool true)], args := [d] }
  | _ => none }
def fnExactCurveOfBranchRow : OpenClaim := { program := "ytohbgfmjnanlkaa", sum := "cbd19b954567a1b02426b307c60de7ee1d79a4e69b687f0c4703d95e4176395c", func := "loop.example/g01140/laws.FnExactCurveOfBranch", spec := "fnExactCurveOfBranch", apart := false }
def FnExactCurveOfBranchSaid : Prop := fnExactCurveOfBranchRow.holds Try.pinned (OpenSpec.ofChange fnExactCurveOfBranchSpec)

/-- ITS FALSE NEIGHBOUR: 'it returns false'. Refute it at one input. -/
def fnExactCurveOfBranchWrong : ChangeSpec := { name := "fnExactCurveOfBranch", fn := fun _ => fun
  | [d] => { results := [.lit (.bool false)], args := [d] }
  | _ => none }
def FnExactCurveOfBranchWrongFalsely : Prop := fnExactCurveOfBranchRow.holds Try.pinned (OpenSpec.ofChange fnExactCurveOfBranchWrong)

/-- 'laws.FnExactCurveMultiplicity': WHATEVER THE INPUT: true; the input reads as it did. -/
def fnExactCurveMultiplicitySpec : ChangeSpec := { name := "fnExactCurveMultiplicity", fn := fun _ => fun
  | [d] => { results := [.lit (.bool true)], args := [d] }
  | _ => none }
def fnExactCurveMultiplicityRow : OpenClaim := { program := "ytohbgfmjnanlkaa", sum := "cbd19b954567a1b02426b307c60de7ee1d79a4e69b687f0c4703d95e4176395c", func := "loop.example/g01140/laws.FnExactCurveMultiplicity", spec := "fnExactCurveMultiplicity", unfollowed := true, recurses := true, apart := false }
def FnExactCurveMultiplicitySaid : Prop := fnExactCurveMultiplicityRow.holds Try.pinned (OpenSpec.ofChange fnExactCurveMultiplicitySpec)

/-- ITS FALSE NEIGHBOUR: 'it returns false'. Refute it at one input. -/
def fnExactCurveMultiplicityWrong : ChangeSpec := { name := "fnExactCurveMultiplicity", fn := fun _ => fun
  | [d] => { results := [.lit (.bool false)], args := [d] }
  | _ => none }
def FnExactCurveMultiplicityWrongFalsely : Prop := fnExactCurveMultiplicityRow.holds Try.pinned (OpenSpec.ofChange fnExactCurveMultiplicityWrong)

/-- 'laws.FnExactIntersectionNumber': WHATEVER THE INPUT: true; the input reads as it did. -/
def fnExactIntersectionNumberSpec : ChangeSpec := { name := "fnExactIntersectionNumber", fn := fun _ => fun
  | [d1, d2, d3] => { results := [.lit (.bool true)], args := [d1, d2, d3] }
  | _ => none }
def fnExactIntersectionNumberRow : OpenClaim := { program := "ytohbgfmjnanlkaa", sum := "cbd19b954567a1b02426b307c60de7ee1d79a4e69b687f0c4703d95e4176395c", func := "loop.example/g01140/laws.FnExactIntersectionNumber", spec := "fnExactIntersectionNumber", unfollowed := true, recurses := true, apart := false }
def FnExactIntersectionNumberSaid : Prop := fnExactIntersectionNumberRow.holds Try.pinned (OpenSpec.ofChange fnExactIntersectionNumberSpec)

/-- ITS FALSE NEIGHBOUR: 'it returns false'. Refute it at one input. -/
def fnExactIntersectionNumberWrong : ChangeSpec := { name := "fnExactIntersectionNumber", fn := fun _ => fun
  | [d1, d2, d3] => { results := [.lit (.bool false)], args := [d1, d2, d3] }
  | _ => none }
def FnExactIntersectionNumberWrongFalsely : Prop := fnExactIntersectionNumberRow.holds Try.pinned (OpenSpec.ofChange fnExactIntersectionNumberWrong)

/-- 'laws.FnExactCurveDelta': WHATEVER THE INPUT: true; the input reads as it did. -/
def fnExactCurveDeltaSpec : ChangeSpec := { name := "fnExactCurveDelta", fn := fun _ => fun
  | [d] => { results := [.lit (.bool true)], args := [d] }
  | _ => none }
def fnExactCurveDeltaRow : OpenClaim := { program := "ytohbgfmjnanlkaa", sum := "cbd19b954567a1b02426b307c60de7ee1d79a4e69b687f0c4703d95e4176395c", func := "loop.example/g01140/laws.FnExactCurveDelta", spec := "fnExactCurveDelta", unfollowed := true, recurses := true, apart := false }
def FnExactCurveDeltaSaid : Prop := fnExactCurveDeltaRow.holds Try.pinned (OpenSpec.ofChange fnExactCurveDeltaSpec)

/-- ITS FALSE NEIGHBOUR: 'it returns false'. Refute it at one input. -/
def fnExactCurveDeltaWrong : ChangeSpec := { name := "fnExactCurveDelta", fn := fun _ => fun
  | [d] => { results := [.lit (.bool false)], args := [d] }
  | _ => none }
def FnExactCurveDeltaWrongFalsely : Prop := fnExactCurveDeltaRow.holds Try.pinned (OpenSpec.ofChange fnExactCurveDeltaWrong)

/-- 'laws.FnExactCurveMilnor': WHATEVER THE INPUT: true; the input reads as it did. -/
def fnExactCurveMilnorSpec : ChangeSpec := { name := "fnExactCurveMilnor", fn := fun _ => fun
  | [d] => { results := [.lit (.bool true)], args := [d] }
  | _ => none }
def fnExactCurveMilnorRow : OpenClaim := { program := "ytohbgfmjnanlkaa", sum := "cbd19b954567a1b02426b307c60de7ee1d79a4e69b687f0c4703d95e4176395c", func := "loop.example/g01140/laws.FnExactCurveMilnor", spec := "fnExactCurveMilnor", unfollowed := true, recurses := true, apart := false }
def FnExactCurveMilnorSaid : Prop := fnExactCurveMilnorRow.holds Try.pinned (OpenSpec.ofChange fnExactCurveMilnorSpec)

/-- ITS FALSE NEIGHBOUR: 'it returns false'. Refute it at one input. -/
def fnExactCurveMilnorWrong : ChangeSpec := { name := "fnExactCurveMilnor", fn := fun _ => fun
  | [d] => { results := [.lit (.bool false)], args := [d] }
  | _ => none }
def FnExactCurveMilnorWrongFalsely : Prop := fnExactCurveMilnorRow.holds Try.pinned (OpenSpec.ofChange fnExactCurveMilnorWrong)

/-- 'laws.FnExactLengthsOf': WHATEVER THE INPUT: true; the input reads as it did. -/
def fnExactLengthsOfSpec : ChangeSpec := { name := "fnExactLengthsOf", fn := fun _ => fun
  | [d] => { results := [.lit (.bool true)], args := [d] }
  | _ => none }
def fnExactLengthsOfRow : OpenClaim := { program := "ytohbgfmjnanlkaa", sum := "cbd19b954567a1b02426b307c60de7ee1d79a4e69b687f0c4703d95e4176395c", func := "loop.example/g01140/laws.FnExactLengthsOf", spec := "fnExactLengthsOf", unfollowed := true, recurses := true, apart := false }
def FnExactLengthsOfSaid : Prop := fnExactLengthsOfRow.holds Try.pinned (OpenSpec.ofChange fnExactLengthsOfSpec)

/-- ITS FALSE NEIGHBOUR: 'it returns false'. Refute it at one input. -/
def fnExactLengthsOfWrong : ChangeSpec := { name := "fnExactLengthsOf", fn := fun _ => fun
  | [d] => { results := [.lit (.bool false)], args := [d] }
  | _ => none }
def FnExactLengthsOfWrongFalsely : Prop := fnExactLengthsOfRow.holds Try.pinned (OpenSpec.ofChange fnExactLengthsOfWrong)

/-- 'laws.FnExactRenumberCurve': WHATEVER THE INPUT: true; the input reads as it did. -/
def fnExactRenumberCurveSpec : ChangeSpec := { name := "fnExactRenumberCurve", fn := fun _ => fun
  | [d1, d2] => { results := [.lit (.bool true)], args := [d1, d2] }
  | _ => none }
def fnExactRenumberCurveRow : OpenClaim := { program := "ytohbgfmjnanlkaa", sum := "cbd19b954567a1b02426b307c60de7ee1d79a4e69b687f0c4703d95e4176395c", func := "loop.example/g01140/laws.FnExactRenumberCurve", spec := "fnExactRenumberCurve", unfollowed := true, recurses := true, apart := false }
def FnExactRenumberCurveSaid : Prop := fnExactRenumberCurveRow.holds Try.pinned (OpenSpec.ofChange fnExactRenumberCurveSpec)

/-- ITS FALSE NEIGHBOUR: 'it returns false'. Refute it at one input. -/
def fnExactRenumberCurveWrong : ChangeSpec := { name := "fnExactRenumberCurve", fn := fun _ => fun
  | [d1, d2] => { results := [.lit (.bool false)], args := [d1, d2] }
  | _ => none }
def FnExactRenumberCurveWrongFalsely : Prop := fnExactRenumberCurveRow.holds Try.pinned (OpenSpec.ofChange fnExactRenumberCurveWrong)

/-- 'laws.FnExactPartOfCurve': WHATEVER THE INPUT: true; the input reads as it did. -/
def fnExactPartOfCurveSpec : ChangeSpec := { name := "fnExactPartOfCurve", fn := fun _ => fun
  | [d1, d2] => { results := [.lit (.bool true)], args := [d1, d2] }
  | _ => none }
def fnExactPartOfCurveRow : OpenClaim := { program := "ytohbgfmjnanlkaa", sum := "cbd19b954567a1b02426b307c60de7ee1d79a4e69b687f0c4703d95e4176395c", func := "loop.example/g01140/laws.FnExactPartOfCurve", spec := "fnExactPartOfCurve", unfollowed := true, recurses := true, apart := false }
def FnExactPartOfCurveSaid : Prop := fnExactPartOfCurveRow.holds Try.pinned (OpenSpec.ofChange fnExactPartOfCurveSpec)

/-- ITS FALSE NEIGHBOUR: 'it returns false'. Refute it at one input. -/
def fnExactPartOfCurveWrong : ChangeSpec := { name := "fnExactPartOfCurve", fn := fun _ => fun
  | [d1, d2] => { results := [.lit (.bool false)], args := [d1, d2] }
  | _ => none }
def FnExactPartOfCurveWrongFalsely : Prop := fnExactPartOfCurveRow.holds Try.pinned (OpenSpec.ofChange fnExactPartOfCurveWrong)

/- THE SECOND FORM. 'bulk': how many values and letters a reading holds, each counted each time it is reached (what is shared counts as often as it is met; a slice's spare places count too). A statement '..UptoSaid' is the law's where the arguments, and the package variables that the reading takes, are together of bulk at most 1048576: NARROWER than '..Said'. Prove '..Said' where nothing that the law and all that it calls make is longer than what came in: it says more and counts as full. Else prove '..UptoSaid'. A law counts once. -/
mutual
def uptoBulk {H : Type} : DataW H → Nat
  | .lit (.string bytes) => bytes.length + 1
  | .lit _ => 1
  | .nil => 1
  | .ptr d => uptoBulk d + 1
  | .slice elems spare => uptoBulkAll elems + uptoBulkAll spare + 1
  | .agg parts => uptoBulkAll parts + 1
  | .iface _ d => uptoBulk d + 1
  | .map entries => uptoBulkEntries entries + 1
  | .held _ => 1
def uptoBulkAll {H : Type} : List (DataW H) → Nat
  | [] => 0
  | d :: r => uptoBulk d + uptoBulkAll r
def uptoBulkEntries {H : Type} : List (Lit × DataW H) → Nat
  | [] => 0
  | x :: r => uptoBulkEntry x + uptoBulkEntries r
def uptoBulkEntry {H : Type} : Lit × DataW H → Nat
  | (.string bytes, d) => bytes.length + uptoBulk d + 1
  | (_, d) => uptoBulk d + 1
 end
def uptoSmall : (H : Type) → List (DataW H) → Bool := fun _ ds => decide (uptoBulkAll ds ≤ 1048576)
def OpenSpec.upto (s : _root_.Go.ChangeSpec) : _root_.Go.OpenSpec := { _root_.Go.OpenSpec.ofChange s with cond := some uptoSmall }

/-- 'laws.FnExactMeetCurvette', WHERE WHAT IT READS IS OF BULK AT MOST 1048576: true; the input reads as it did. -/
def fnExactMeetCurvetteUptoRow : OpenClaim := { program := "ytohbgfmjnanlkaa", sum := "cbd19b954567a1b02426b307c60de7ee1d79a4e69b687f0c4703d95e4176395c", func := "loop.example/g01140/laws.FnExactMeetCurvette", spec := "fnExactMeetCurvette", unfollowed := true, recurses := true, apart := false, narrowed := true }
def FnExactMeetCurvetteUptoSaid : Prop := fnExactMeetCurvetteUptoRow.holds Try.pinned (OpenSpec.upto fnExactMeetCurvetteSpec)

/-- 'laws.FnExactMixedProduct', WHERE WHAT IT READS IS OF BULK AT MOST 1048576: true; the input reads as it did. -/
def fnExactMixedProductUptoRow : OpenClaim := { program := "ytohbgfmjnanlkaa", sum := "cbd19b954567a1b02426b307c60de7ee1d79a4e69b687f0c4703d95e4176395c", func := "loop.example/g01140/laws.FnExactMixedProduct", spec := "fnExactMixedProduct", unfollowed := true, recurses := true, apart := false, narrowed := true }
def FnExactMixedProductUptoSaid : Prop := fnExactMixedProductUptoRow.holds Try.pinned (OpenSpec.upto fnExactMixedProductSpec)

/-- 'laws.FnExactMultiplierCluster', WHERE WHAT IT READS IS OF BULK AT MOST 1048576: true; the input reads as it did. -/
def fnExactMultiplierClusterUptoRow : OpenClaim := { program := "ytohbgfmjnanlkaa", sum := "cbd19b954567a1b02426b307c60de7ee1d79a4e69b687f0c4703d95e4176395c", func := "loop.example/g01140/laws.FnExactMultiplierCluster", spec := "fnExactMultiplierCluster", unfollowed := true, recurses := true, apart := false, narrowed := true }
def FnExactMultiplierClusterUptoSaid : Prop := fnExactMultiplierClusterUptoRow.holds Try.pinned (OpenSpec.upto fnExactMultiplierClusterSpec)

/-- 'laws.FnExactIsCurve', WHERE WHAT IT READS IS OF BULK AT MOST 1048576: true; the input reads as it did. -/
def fnExactIsCurveUptoRow : OpenClaim := { program := "ytohbgfmjnanlkaa", sum := "cbd19b954567a1b02426b307c60de7ee1d79a4e69b687f0c4703d95e4176395c", func := "loop.example/g01140/laws.FnExactIsCurve", spec := "fnExactIsCurve", unfollowed := true, recurses := true, apart := false, narrowed := true }
def FnExactIsCurveUptoSaid : Prop := fnExactIsCurveUptoRow.holds Try.pinned (OpenSpec.upto fnExactIsCurveSpec)

/-- 'laws.FnExactCurveOfBranch', WHERE WHAT IT READS IS OF BULK AT MOST 1048576: true; the input reads as it did. -/
def fnExactCurveOfBranchUptoRow : OpenClaim := { program := "ytohbgfmjnanlkaa", sum := "cbd19b954567a1b02426b307c60de7ee1d79a4e69b687f0c4703d95e4176395c", func := "loop.example/g01140/laws.FnExactCurveOfBranch", spec := "fnExactCurveOfBranch", apart := false, narrowed := true }
def FnExactCurveOfBranchUptoSaid : Prop := fnExactCurveOfBranchUptoRow.holds Try.pinned (OpenSpec.upto fnExactCurveOfBranchSpec)

/-- 'laws.FnExactCurveMultiplicity', WHERE WHAT IT READS IS OF BULK AT MOST 1048576: true; the input reads as it did. -/
def fnExactCurveMultiplicityUptoRow : OpenClaim := { program := "ytohbgfmjnanlkaa", sum := "cbd19b954567a1b02426b307c60de7ee1d79a4e69b687f0c4703d95e4176395c", func := "loop.example/g01140/laws.FnExactCurveMultiplicity", spec := "fnExactCurveMultiplicity", unfollowed := true, recurses := true, apart := false, narrowed := true }
def FnExactCurveMultiplicityUptoSaid : Prop := fnExactCurveMultiplicityUptoRow.holds Try.pinned (OpenSpec.upto fnExactCurveMultiplicitySpec)

/-- 'laws.FnExactIntersectionNumber', WHERE WHAT IT READS IS OF BULK AT MOST 1048576: true; the input reads as it did. -/
def fnExactIntersectionNumberUptoRow : OpenClaim := { program := "ytohbgfmjnanlkaa", sum := "cbd19b954567a1b02426b307c60de7ee1d79a4e69b687f0c4703d95e4176395c", func := "loop.example/g01140/laws.FnExactIntersectionNumber", spec := "fnExactIntersectionNumber", unfollowed := true, recurses := true, apart := false, narrowed := true }
def FnExactIntersectionNumberUptoSaid : Prop := fnExactIntersectionNumberUptoRow.holds Try.pinned (OpenSpec.upto fnExactIntersectionNumberSpec)

/-- 'laws.FnExactCurveDelta', WHERE WHAT IT READS IS OF BULK AT MOST 1048576: true; the input reads as it did. -/
def fnExactCurveDeltaUptoRow : OpenClaim := { program := "ytohbgfmjnanlkaa", sum := "cbd19b954567a1b02426b307c60de7ee1d79a4e69b687f0c4703d95e4176395c", func := "loop.example/g01140/laws.FnExactCurveDelta", spec := "fnExactCurveDelta", unfollowed := true, recurses := true, apart := false, narrowed := true }
def FnExactCurveDeltaUptoSaid : Prop := fnExactCurveDeltaUptoRow.holds Try.pinned (OpenSpec.upto fnExactCurveDeltaSpec)

/-- 'laws.FnExactCurveMilnor', WHERE WHAT IT READS IS OF BULK AT MOST 1048576: true; the input reads as it did. -/
def fnExactCurveMilnorUptoRow : OpenClaim := { program := "ytohbgfmjnanlkaa", sum := "cbd19b954567a1b02426b307c60de7ee1d79a4e69b687f0c4703d95e4176395c", func := "loop.example/g01140/laws.FnExactCurveMilnor", spec := "fnExactCurveMilnor", unfollowed := true, recurses := true, apart := false, narrowed := true }
def FnExactCurveMilnorUptoSaid : Prop := fnExactCurveMilnorUptoRow.holds Try.pinned (OpenSpec.upto fnExactCurveMilnorSpec)

/-- 'laws.FnExactLengthsOf', WHERE WHAT IT READS IS OF BULK AT MOST 1048576: true; the input reads as it did. -/
def fnExactLengthsOfUptoRow : OpenClaim := { program := "ytohbgfmjnanlkaa", sum := "cbd19b954567a1b02426b307c60de7ee1d79a4e69b687f0c4703d95e4176395c", func := "loop.example/g01140/laws.FnExactLengthsOf", spec := "fnExactLengthsOf", unfollowed := true, recurses := true, apart := false, narrowed := true }
def FnExactLengthsOfUptoSaid : Prop := fnExactLengthsOfUptoRow.holds Try.pinned (OpenSpec.upto fnExactLengthsOfSpec)

/-- 'laws.FnExactRenumberCurve', WHERE WHAT IT READS IS OF BULK AT MOST 1048576: true; the input reads as it did. -/
def fnExactRenumberCurveUptoRow : OpenClaim := { program := "ytohbgfmjnanlkaa", sum := "cbd19b954567a1b02426b307c60de7ee1d79a4e69b687f0c4703d95e4176395c", func := "loop.example/g01140/laws.FnExactRenumberCurve", spec := "fnExactRenumberCurve", unfollowed := true, recurses := true, apart := false, narrowed := true }
def FnExactRenumberCurveUptoSaid : Prop := fnExactRenumberCurveUptoRow.holds Try.pinned (OpenSpec.upto fnExactRenumberCurveSpec)

/-- 'laws.FnExactPartOfCurve', WHERE WHAT IT READS IS OF BULK AT MOST 1048576: true; the input reads as it did. -/
def fnExactPartOfCurveUptoRow : OpenClaim := { program := "ytohbgfmjnanlkaa", sum := "cbd19b954567a1b02426b307c60de7ee1d79a4e69b687f0c4703d95e4176395c", func := "loop.example/g01140/laws.FnExactPartOfCurve", spec := "fnExactPartOfCurve", unfollowed := true, recurses := true, apart := false, narrowed := true }
def FnExactPartOfCurveUptoSaid : Prop := fnExactPartOfCurveUptoRow.holds Try.pinned (OpenSpec.upto fnExactPartOfCurveSpec)

end Rows
end Go.Proofs.Ytohbgfmjnanlkaa
