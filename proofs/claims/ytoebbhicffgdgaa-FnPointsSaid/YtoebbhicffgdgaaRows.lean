/-
  No cell of these rows narrows 'for every input' (looked for: loops, veiled, ifaces, maps, wideKeys, modest, calm, conditions, laid).
  DERIVED. THE GIVEN ROWS OF THIS SEAT. 14 by the template 'for every input the law returns true; each argument reads behind the call as it read before'; 0 by the template 'total and deterministic' (their statements: YtoebbhicffgdgaaTotals.lean).
  GIVEN WITH THE SEED: the statements are not yours to turn. If you find one false, say at which input.
  Laid BY PROGRAM, IN A SANDBOX (cutbox-rows.mjs): the forced cells as the released guide's own fill.sh prints them over the translation ca842450174306f7… (all of the seat's roots in one cut). By AI agents, Wed Nov 11 2026. No macro, syntax, notation, axiom, sorry.
-/
import Derived.Test.YtoebbhicffgdgaaChecked
import GoSem.Claim
import GoSem.ClaimJoined
import GoSem.ClaimMapViews
import Derived.JoinedTies
import Derived.KernelRfl
namespace Go.Proofs.Ytoebbhicffgdgaa
/- THE CELL 'sum', in the pinned program and in every row, IS THE sha256 OF THE DUMP (.gsa) THAT YtoebbhicffgdgaaProg.lean LOADS. Nothing in Lean hashes anything: it is a label: what it is worth is what the hold of that sum in a sandbox is worth. -/
noncomputable def Try.pinned : Pinned := { name := "ytoebbhicffgdgaa", sum := "ca842450174306f75c3b19e02c3eccdce55ef0bb9db143ac9f9e5e95b6c96ffa", checked := Try.checked }
namespace Rows
def none {H : Type} : Left H := { results := [], args := [] }

/-- 'laws.FnPoints': WHATEVER THE INPUT: true; the input reads as it did. -/
def fnPointsSpec : ChangeSpec := { name := "fnPoints", fn := fun _ => fun
  | [d] => { results := [.lit (.bool true)], args := [d] }
  | _ => none }
def fnPointsRow : OpenClaim := { program := "ytoebbhicffgdgaa", sum := "ca842450174306f75c3b19e02c3eccdce55ef0bb9db143ac9f9e5e95b6c96ffa", func := "loop.example/g01140/laws.FnPoints", spec := "fnPoints", unfollowed := true, recurses := true, apart := false }
def FnPointsSaid : Prop := fnPointsRow.holds Try.pinned (OpenSpec.ofChange fnPointsSpec)

/-- ITS FALSE NEIGHBOUR: 'it returns false'. Refute it at one input. -/
def fnPointsWrong : ChangeSpec := { name := "fnPoints", fn := fun _ => fun
  | [d] => { results := [.lit (.bool false)], args := [d] }
  | _ => none }
def FnPointsWrongFalsely : Prop := fnPointsRow.holds Try.pinned (OpenSpec.ofChange fnPointsWrong)

/-- 'laws.FnCurvettes': WHATEVER THE INPUT: true; the input reads as it did. -/
def fnCurvettesSpec : ChangeSpec := { name := "fnCurvettes", fn := fun _ => fun
  | [d] => { results := [.lit (.bool true)], args := [d] }
  | _ => none }
def fnCurvettesRow : OpenClaim := { program := "ytoebbhicffgdgaa", sum := "ca842450174306f75c3b19e02c3eccdce55ef0bb9db143ac9f9e5e95b6c96ffa", func := "loop.example/g01140/laws.FnCurvettes", spec := "fnCurvettes", unfollowed := true, recurses := true, apart := false }
def FnCurvettesSaid : Prop := fnCurvettesRow.holds Try.pinned (OpenSpec.ofChange fnCurvettesSpec)

/-- ITS FALSE NEIGHBOUR: 'it returns false'. Refute it at one input. -/
def fnCurvettesWrong : ChangeSpec := { name := "fnCurvettes", fn := fun _ => fun
  | [d] => { results := [.lit (.bool false)], args := [d] }
  | _ => none }
def FnCurvettesWrongFalsely : Prop := fnCurvettesRow.holds Try.pinned (OpenSpec.ofChange fnCurvettesWrong)

/-- 'laws.FnThresholds': WHATEVER THE INPUT: true; the input reads as it did. -/
def fnThresholdsSpec : ChangeSpec := { name := "fnThresholds", fn := fun _ => fun
  | [d] => { results := [.lit (.bool true)], args := [d] }
  | _ => none }
def fnThresholdsRow : OpenClaim := { program := "ytoebbhicffgdgaa", sum := "ca842450174306f75c3b19e02c3eccdce55ef0bb9db143ac9f9e5e95b6c96ffa", func := "loop.example/g01140/laws.FnThresholds", spec := "fnThresholds", unfollowed := true, recurses := true, apart := false }
def FnThresholdsSaid : Prop := fnThresholdsRow.holds Try.pinned (OpenSpec.ofChange fnThresholdsSpec)

/-- ITS FALSE NEIGHBOUR: 'it returns false'. Refute it at one input. -/
def fnThresholdsWrong : ChangeSpec := { name := "fnThresholds", fn := fun _ => fun
  | [d] => { results := [.lit (.bool false)], args := [d] }
  | _ => none }
def FnThresholdsWrongFalsely : Prop := fnThresholdsRow.holds Try.pinned (OpenSpec.ofChange fnThresholdsWrong)

/-- 'laws.FnExactMultiplicitiesAt': WHATEVER THE INPUT: true; the input reads as it did. -/
def fnExactMultiplicitiesAtSpec : ChangeSpec := { name := "fnExactMultiplicitiesAt", fn := fun _ => fun
  | [d1, d2] => { results := [.lit (.bool true)], args := [d1, d2] }
  | _ => none }
def fnExactMultiplicitiesAtRow : OpenClaim := { program := "ytoebbhicffgdgaa", sum := "ca842450174306f75c3b19e02c3eccdce55ef0bb9db143ac9f9e5e95b6c96ffa", func := "loop.example/g01140/laws.FnExactMultiplicitiesAt", spec := "fnExactMultiplicitiesAt", unfollowed := true, recurses := true, apart := false }
def FnExactMultiplicitiesAtSaid : Prop := fnExactMultiplicitiesAtRow.holds Try.pinned (OpenSpec.ofChange fnExactMultiplicitiesAtSpec)

/-- ITS FALSE NEIGHBOUR: 'it returns false'. Refute it at one input. -/
def fnExactMultiplicitiesAtWrong : ChangeSpec := { name := "fnExactMultiplicitiesAt", fn := fun _ => fun
  | [d1, d2] => { results := [.lit (.bool false)], args := [d1, d2] }
  | _ => none }
def FnExactMultiplicitiesAtWrongFalsely : Prop := fnExactMultiplicitiesAtRow.holds Try.pinned (OpenSpec.ofChange fnExactMultiplicitiesAtWrong)

/-- 'laws.FnExactProximatesOf': WHATEVER THE INPUT: true; the input reads as it did. -/
def fnExactProximatesOfSpec : ChangeSpec := { name := "fnExactProximatesOf", fn := fun _ => fun
  | [d1, d2] => { results := [.lit (.bool true)], args := [d1, d2] }
  | _ => none }
def fnExactProximatesOfRow : OpenClaim := { program := "ytoebbhicffgdgaa", sum := "ca842450174306f75c3b19e02c3eccdce55ef0bb9db143ac9f9e5e95b6c96ffa", func := "loop.example/g01140/laws.FnExactProximatesOf", spec := "fnExactProximatesOf", unfollowed := true, recurses := true, apart := false }
def FnExactProximatesOfSaid : Prop := fnExactProximatesOfRow.holds Try.pinned (OpenSpec.ofChange fnExactProximatesOfSpec)

/-- ITS FALSE NEIGHBOUR: 'it returns false'. Refute it at one input. -/
def fnExactProximatesOfWrong : ChangeSpec := { name := "fnExactProximatesOf", fn := fun _ => fun
  | [d1, d2] => { results := [.lit (.bool false)], args := [d1, d2] }
  | _ => none }
def FnExactProximatesOfWrongFalsely : Prop := fnExactProximatesOfRow.holds Try.pinned (OpenSpec.ofChange fnExactProximatesOfWrong)

/-- 'laws.FnExactCodeOf': WHATEVER THE INPUT: true; the input reads as it did. -/
def fnExactCodeOfSpec : ChangeSpec := { name := "fnExactCodeOf", fn := fun _ => fun
  | [d1, d2] => { results := [.lit (.bool true)], args := [d1, d2] }
  | _ => none }
def fnExactCodeOfRow : OpenClaim := { program := "ytoebbhicffgdgaa", sum := "ca842450174306f75c3b19e02c3eccdce55ef0bb9db143ac9f9e5e95b6c96ffa", func := "loop.example/g01140/laws.FnExactCodeOf", spec := "fnExactCodeOf", unfollowed := true, recurses := true, apart := false }
def FnExactCodeOfSaid : Prop := fnExactCodeOfRow.holds Try.pinned (OpenSpec.ofChange fnExactCodeOfSpec)

/-- ITS FALSE NEIGHBOUR: 'it returns false'. Refute it at one input. -/
def fnExactCodeOfWrong : ChangeSpec := { name := "fnExactCodeOf", fn := fun _ => fun
  | [d1, d2] => { results := [.lit (.bool false)], args := [d1, d2] }
  | _ => none }
def FnExactCodeOfWrongFalsely : Prop := fnExactCodeOfRow.holds Try.pinned (OpenSpec.ofChange fnExactCodeOfWrong)

/-- 'laws.FnExactCountSatellites': WHATEVER THE INPUT: true; the input reads as it did. -/
def fnExactCountSatellitesSpec : ChangeSpec := { name := "fnExactCountSatellites", fn := fun _ => fun
  | [d1, d2] => { results := [.lit (.bool true)], args := [d1, d2] }
  | _ => none }
def fnExactCountSatellitesRow : OpenClaim := { program := "ytoebbhicffgdgaa", sum := "ca842450174306f75c3b19e02c3eccdce55ef0bb9db143ac9f9e5e95b6c96ffa", func := "loop.example/g01140/laws.FnExactCountSatellites", spec := "fnExactCountSatellites", unfollowed := true, recurses := true, apart := false }
def FnExactCountSatellitesSaid : Prop := fnExactCountSatellitesRow.holds Try.pinned (OpenSpec.ofChange fnExactCountSatellitesSpec)

/-- ITS FALSE NEIGHBOUR: 'it returns false'. Refute it at one input. -/
def fnExactCountSatellitesWrong : ChangeSpec := { name := "fnExactCountSatellites", fn := fun _ => fun
  | [d1, d2] => { results := [.lit (.bool false)], args := [d1, d2] }
  | _ => none }
def FnExactCountSatellitesWrongFalsely : Prop := fnExactCountSatellitesRow.holds Try.pinned (OpenSpec.ofChange fnExactCountSatellitesWrong)

/-- 'laws.FnExactOrdersOf': WHATEVER THE INPUT: true; the input reads as it did. -/
def fnExactOrdersOfSpec : ChangeSpec := { name := "fnExactOrdersOf", fn := fun _ => fun
  | [d1, d2] => { results := [.lit (.bool true)], args := [d1, d2] }
  | _ => none }
def fnExactOrdersOfRow : OpenClaim := { program := "ytoebbhicffgdgaa", sum := "ca842450174306f75c3b19e02c3eccdce55ef0bb9db143ac9f9e5e95b6c96ffa", func := "loop.example/g01140/laws.FnExactOrdersOf", spec := "fnExactOrdersOf", unfollowed := true, recurses := true, apart := false }
def FnExactOrdersOfSaid : Prop := fnExactOrdersOfRow.holds Try.pinned (OpenSpec.ofChange fnExactOrdersOfSpec)

/-- ITS FALSE NEIGHBOUR: 'it returns false'. Refute it at one input. -/
def fnExactOrdersOfWrong : ChangeSpec := { name := "fnExactOrdersOf", fn := fun _ => fun
  | [d1, d2] => { results := [.lit (.bool false)], args := [d1, d2] }
  | _ => none }
def FnExactOrdersOfWrongFalsely : Prop := fnExactOrdersOfRow.holds Try.pinned (OpenSpec.ofChange fnExactOrdersOfWrong)

/-- 'laws.FnExactDiscrepanciesOf': WHATEVER THE INPUT: true; the input reads as it did. -/
def fnExactDiscrepanciesOfSpec : ChangeSpec := { name := "fnExactDiscrepanciesOf", fn := fun _ => fun
  | [d1, d2] => { results := [.lit (.bool true)], args := [d1, d2] }
  | _ => none }
def fnExactDiscrepanciesOfRow : OpenClaim := { program := "ytoebbhicffgdgaa", sum := "ca842450174306f75c3b19e02c3eccdce55ef0bb9db143ac9f9e5e95b6c96ffa", func := "loop.example/g01140/laws.FnExactDiscrepanciesOf", spec := "fnExactDiscrepanciesOf", unfollowed := true, recurses := true, apart := false }
def FnExactDiscrepanciesOfSaid : Prop := fnExactDiscrepanciesOfRow.holds Try.pinned (OpenSpec.ofChange fnExactDiscrepanciesOfSpec)

/-- ITS FALSE NEIGHBOUR: 'it returns false'. Refute it at one input. -/
def fnExactDiscrepanciesOfWrong : ChangeSpec := { name := "fnExactDiscrepanciesOf", fn := fun _ => fun
  | [d1, d2] => { results := [.lit (.bool false)], args := [d1, d2] }
  | _ => none }
def FnExactDiscrepanciesOfWrongFalsely : Prop := fnExactDiscrepanciesOfRow.holds Try.pinned (OpenSpec.ofChange fnExactDiscrepanciesOfWrong)

/-- 'laws.FnExactIsCode': WHATEVER THE INPUT: true; the input reads as it did. -/
def fnExactIsCodeSpec : ChangeSpec := { name := "fnExactIsCode", fn := fun _ => fun
  | [d] => { results := [.lit (.bool true)], args := [d] }
  | _ => none }
def fnExactIsCodeRow : OpenClaim := { program := "ytoebbhicffgdgaa", sum := "ca842450174306f75c3b19e02c3eccdce55ef0bb9db143ac9f9e5e95b6c96ffa", func := "loop.example/g01140/laws.FnExactIsCode", spec := "fnExactIsCode", apart := false }
def FnExactIsCodeSaid : Prop := fnExactIsCodeRow.holds Try.pinned (OpenSpec.ofChange fnExactIsCodeSpec)

/-- ITS FALSE NEIGHBOUR: 'it returns false'. Refute it at one input. -/
def fnExactIsCodeWrong : ChangeSpec := { name := "fnExactIsCode", fn := fun _ => fun
  | [d] => { results := [.lit (.bool false)], args := [d] }
  | _ => none }
def FnExactIsCodeWrongFalsely : Prop := fnExactIsCodeRow.holds Try.pinned (OpenSpec.ofChange fnExactIsCodeWrong)

/-- 'laws.FnExactCurvetteOfCode': WHATEVER THE INPUT: true; the input reads as it did. -/
def fnExactCurvetteOfCodeSpec : ChangeSpec := { name := "fnExactCurvetteOfCode", fn := fun _ => fun
  | [d] => { results := [.lit (.bool true)], args := [d] }
  | _ => none }
def fnExactCurvetteOfCodeRow : OpenClaim := { program := "ytoebbhicffgdgaa", sum := "ca842450174306f75c3b19e02c3eccdce55ef0bb9db143ac9f9e5e95b6c96ffa", func := "loop.example/g01140/laws.FnExactCurvetteOfCode", spec := "fnExactCurvetteOfCode", apart := false }
def FnExactCurvetteOfCodeSaid : Prop := fnExactCurvetteOfCodeRow.holds Try.pinned (OpenSpec.ofChange fnExactCurvetteOfCodeSpec)

/-- ITS FALSE NEIGHBOUR: 'it returns false'. Refute it at one input. -/
def fnExactCurvetteOfCodeWrong : ChangeSpec := { name := "fnExactCurvetteOfCode", fn := fun _ => fun
  | [d] => { results := [.lit (.bool false)], args := [d] }
  | _ => none }
def FnExactCurvetteOfCodeWrongFalsely : Prop := fnExactCurvetteOfCodeRow.holds Try.pinned (OpenSpec.ofChange fnExactCurvetteOfCodeWrong)

/-- 'laws.FnExactCurvetteAt': WHATEVER THE INPUT: true; the input reads as it did. -/
def fnExactCurvetteAtSpec : ChangeSpec := { name := "fnExactCurvetteAt", fn := fun _ => fun
  | [d1, d2] => { results := [.lit (.bool true)], args := [d1, d2] }
  | _ => none }
def fnExactCurvetteAtRow : OpenClaim := { program := "ytoebbhicffgdgaa", sum := "ca842450174306f75c3b19e02c3eccdce55ef0bb9db143ac9f9e5e95b6c96ffa", func := "loop.example/g01140/laws.FnExactCurvetteAt", spec := "fnExactCurvetteAt", unfollowed := true, recurses := true, apart := false }
def FnExactCurvetteAtSaid : Prop := fnExactCurvetteAtRow.holds Try.pinned (OpenSpec.ofChange fnExactCurvetteAtSpec)

/-- ITS FALSE NEIGHBOUR: 'it returns false'. Refute it at one input. -/
def fnExactCurvetteAtWrong : ChangeSpec := { name := "fnExactCurvetteAt", fn := fun _ => fun
  | [d1, d2] => { results := [.lit (.bool false)], args := [d1, d2] }
  | _ => none }
def FnExactCurvetteAtWrongFalsely : Prop := fnExactCurvetteAtRow.holds Try.pinned (OpenSpec.ofChange fnExactCurvetteAtWrong)

/-- 'laws.FnExactMeetCurvette': WHATEVER THE INPUT: true; the input reads as it did. -/
def fnExactMeetCurvetteSpec : ChangeSpec := { name := "fnExactMeetCurvette", fn := fun _ => fun
  | [d1, d2] => { results := [.lit (.bool true)], args := [d1, d2] }
  | _ => none }
def fnExactMeetCurvetteRow : OpenClaim := { program := "ytoebbhicffgdgaa", sum := "ca842450174306f75c3b19e02c3eccdce55ef0bb9db143ac9f9e5e95b6c96ffa", func := "loop.example/g01140/laws.FnExactMeetCurvette", spec := "fnExactMeetCurvette", unfollowed := true, recurses := true, apart := false }
def FnExactMeetCurvetteSaid : Prop := fnExactMeetCurvetteRow.holds Try.pinned (OpenSpec.ofChange fnExactMeetCurvetteSpec)

/-- ITS FALSE NEIGHBOUR: 'it returns false'. Refute it at one input. -/
def fnExactMeetCurvetteWrong : ChangeSpec := { name := "fnExactMeetCurvette", fn := fun _ => fun
  | [d1, d2] => { results := [.lit (.bool false)], args := [d1, d2] }
  | _ => none }
def FnExactMeetCurvetteWrongFalsely : Prop := fnExactMeetCurvetteRow.holds Try.pinned (OpenSpec.ofChange fnExactMeetCurvetteWrong)

/-- 'laws.FnExactThresholdOfBranch': WHATEVER THE INPUT: true; the input reads as it did. -/
def fnExactThresholdOfBranchSpec : ChangeSpec := { name := "fnExactThresholdOfBranch", fn := fun _ => fun
  | [d] => { results := [.lit (.bool true)], args := [d] }
  | _ => none }
def fnExactThresholdOfBranchRow : OpenClaim := { program := "ytoebbhicffgdgaa", sum := "ca842450174306f75c3b19e02c3eccdce55ef0bb9db143ac9f9e5e95b6c96ffa", func := "loop.example/g01140/laws.FnExactThresholdOfBranch", spec := "fnExactThresholdOfBranch", apart := false }
def FnExactThresholdOfBranchSaid : Prop := fnExactThresholdOfBranchRow.holds Try.pinned (OpenSpec.ofChange fnExactThresholdOfBranchSpec)

/-- ITS FALSE NEIGHBOUR: 'it returns false'. Refute it at one input. -/
def fnExactThresholdOfBranchWrong : ChangeSpec := { name := "fnExactThresholdOfBranch", fn := fun _ => fun
  | [d] => { results := [.lit (.bool false)], args := [d] }
  | _ => none }
def FnExactThresholdOfBranchWrongFalsely : Prop := fnExactThresholdOfBranchRow.holds Try.pinned (OpenSpec.ofChange fnExactThresholdOfBranchWrong)

/- THE SECOND FORM. 'bulk': how many values and letters a reading holds, each counted each time it is reached (what is shared counts as often as it is met; a slice's spare places count too). A statement '..UptoSaid' is the law's where the arguments, and the package variables that the reading takes, are together of bulk at most 1048576: NARROWER than '..Said'. Prove '..Said' where nothing that the law and all that it calls make is longer than what came in: it says more and counts as full. Else prove '..UptoSaid'. A law counts once. -/
mutual
def uptoBulk {H : Type} : DataW H → Nat
  | .lit (.string bytes) => bytes.length + 1
  | .lit _ => 1
  | .nil => 1
  | .ptr d => uptoBulk d + 1
  | .slice elems spare => uptoBulkAll elems + uptoBulkAll spare + 1
  | .agg parts => uptoBulkAll parts + 1
  | .iface _ d => uptoBulk d + 1
  | .map entries => uptoBulkEntries entries + 1
  | .held _ => 1
def uptoBulkAll {H : Type} : List (DataW H) → Nat
  | [] => 0
  | d :: r => uptoBulk d + uptoBulkAll r
def uptoBulkEntries {H : Type} : List (Lit × DataW H) → Nat
  | [] => 0
  | x :: r => uptoBulkEntry x + uptoBulkEntries r
def uptoBulkEntry {H : Type} : Lit × DataW H → Nat
  | (.string bytes, d) => bytes.length + uptoBulk d + 1
  | (_, d) => uptoBulk d + 1
 end
def uptoSmall : (H : Type) → List (DataW H) → Bool := fun _ ds => decide (uptoBulkAll ds ≤ 1048576)
def OpenSpec.upto (s : _root_.Go.ChangeSpec) : _root_.Go.OpenSpec := { _root_.Go.OpenSpec.ofChange s with cond := some uptoSmall }

/-- 'laws.FnPoints', WHERE WHAT IT READS IS OF BULK AT MOST 1048576: true; the input reads as it did. -/
def fnPointsUptoRow : OpenClaim := { program := "ytoebbhicffgdgaa", sum := "ca842450174306f75c3b19e02c3eccdce55ef0bb9db143ac9f9e5e95b6c96ffa", func := "loop.example/g01140/laws.FnPoints", spec := "fnPoints", unfollowed := true, recurses := true, apart := false, narrowed := true }
def FnPointsUptoSaid : Prop := fnPointsUptoRow.holds Try.pinned (OpenSpec.upto fnPointsSpec)

/-- 'laws.FnCurvettes', WHERE WHAT IT READS IS OF BULK AT MOST 1048576: true; the input reads as it did. -/
def fnCurvettesUptoRow : OpenClaim := { program := "ytoebbhicffgdgaa", sum := "ca842450174306f75c3b19e02c3eccdce55ef0bb9db143ac9f9e5e95b6c96ffa", func := "loop.example/g01140/laws.FnCurvettes", spec := "fnCurvettes", unfollowed := true, recurses := true, apart := false, narrowed := true }
def FnCurvettesUptoSaid : Prop := fnCurvettesUptoRow.holds Try.pinned (OpenSpec.upto fnCurvettesSpec)

/-- 'laws.FnThresholds', WHERE WHAT IT READS IS OF BULK AT MOST 1048576: true; the input reads as it did. -/
def fnThresholdsUptoRow : OpenClaim := { program := "ytoebbhicffgdgaa", sum := "ca842450174306f75c3b19e02c3eccdce55ef0bb9db143ac9f9e5e95b6c96ffa", func := "loop.example/g01140/laws.FnThresholds", spec := "fnThresholds", unfollowed := true, recurses := true, apart := false, narrowed := true }
def FnThresholdsUptoSaid : Prop := fnThresholdsUptoRow.holds Try.pinned (OpenSpec.upto fnThresholdsSpec)

/-- 'laws.FnExactMultiplicitiesAt', WHERE WHAT IT READS IS OF BULK AT MOST 1048576: true; the input reads as it did. -/
def fnExactMultiplicitiesAtUptoRow : OpenClaim := { program := "ytoebbhicffgdgaa", sum := "ca842450174306f75c3b19e02c3eccdce55ef0bb9db143ac9f9e5e95b6c96ffa", func := "loop.example/g01140/laws.FnExactMultiplicitiesAt", spec := "fnExactMultiplicitiesAt", unfollowed := true, recurses := true, apart := false, narrowed := true }
def FnExactMultiplicitiesAtUptoSaid : Prop := fnExactMultiplicitiesAtUptoRow.holds Try.pinned (OpenSpec.upto fnExactMultiplicitiesAtSpec)

/-- 'laws.FnExactProximatesOf', WHERE WHAT IT READS IS OF BULK AT MOST 1048576: true; the input reads as it did. -/
def fnExactProximatesOfUptoRow : OpenClaim := { program := "ytoebbhicffgdgaa", sum := "ca842450174306f75c3b19e02c3eccdce55ef0bb9db143ac9f9e5e95b6c96ffa", func := "loop.example/g01140/laws.FnExactProximatesOf", spec := "fnExactProximatesOf", unfollowed := true, recurses := true, apart := false, narrowed := true }
def FnExactProximatesOfUptoSaid : Prop := fnExactProximatesOfUptoRow.holds Try.pinned (OpenSpec.upto fnExactProximatesOfSpec)

/-- 'laws.FnExactCodeOf', WHERE WHAT IT READS IS OF BULK AT MOST 1048576: true; the input reads as it did. -/
def fnExactCodeOfUptoRow : OpenClaim := { program := "ytoebbhicffgdgaa", sum := "ca842450174306f75c3b19e02c3eccdce55ef0bb9db143ac9f9e5e95b6c96ffa", func := "loop.example/g01140/laws.FnExactCodeOf", spec := "fnExactCodeOf", unfollowed := true, recurses := true, apart := false, narrowed := true }
def FnExactCodeOfUptoSaid : Prop := fnExactCodeOfUptoRow.holds Try.pinned (OpenSpec.upto fnExactCodeOfSpec)

/-- 'laws.FnExactCountSatellites', WHERE WHAT IT READS IS OF BULK AT MOST 1048576: true; the input reads as it did. -/
def fnExactCountSatellitesUptoRow : OpenClaim := { program := "ytoebbhicffgdgaa", sum := "ca842450174306f75c3b19e02c3eccdce55ef0bb9db143ac9f9e5e95b6c96ffa", func := "loop.example/g01140/laws.FnExactCountSatellites", spec := "fnExactCountSatellites", unfollowed := true, recurses := true, apart := false, narrowed := true }
def FnExactCountSatellitesUptoSaid : Prop := fnExactCountSatellitesUptoRow.holds Try.pinned (OpenSpec.upto fnExactCountSatellitesSpec)

/-- 'laws.FnExactOrdersOf', WHERE WHAT IT READS IS OF BULK AT MOST 1048576: true; the input reads as it did. -/
def fnExactOrdersOfUptoRow : OpenClaim := { program := "ytoebbhicffgdgaa", sum := "ca842450174306f75c3b19e02c3eccdce55ef0bb9db143ac9f9e5e95b6c96ffa", func := "loop.example/g01140/laws.FnExactOrdersOf", spec := "fnExactOrdersOf", unfollowed := true, recurses := true, apart := false, narrowed := true }
def FnExactOrdersOfUptoSaid : Prop := fnExactOrdersOfUptoRow.holds Try.pinned (OpenSpec.upto fnExactOrdersOfSpec)

/-- 'laws.FnExactDiscrepanciesOf', WHERE WHAT IT READS IS OF BULK AT MOST 1048576: true; the input reads as it did. -/
def fnExactDiscrepanciesOfUptoRow : OpenClaim := { program := "ytoebbhicffgdgaa", sum := "ca842450174306f75c3b19e02c3eccdce55ef0bb9db143ac9f9e5e95b6c96ffa", func := "loop.example/g01140/laws.FnExactDiscrepanciesOf", spec := "fnExactDiscrepanciesOf", unfollowed := true, recurses := true, apart := false, narrowed := true }
def FnExactDiscrepanciesOfUptoSaid : Prop := fnExactDiscrepanciesOfUptoRow.holds Try.pinned (OpenSpec.upto fnExactDiscrepanciesOfSpec)

/-- 'laws.FnExactIsCode', WHERE WHAT IT READS IS OF BULK AT MOST 1048576: true; the input reads as it did. -/
def fnExactIsCodeUptoRow : OpenClaim := { program := "ytoebbhicffgdgaa", sum := "ca842450174306f75c3b19e02c3eccdce55ef0bb9db143ac9f9e5e95b6c96ffa", func := "loop.example/g01140/laws.FnExactIsCode", spec := "fnExactIsCode", apart := false, narrowed := true }
def FnExactIsCodeUptoSaid : Prop := fnExactIsCodeUptoRow.holds Try.pinned (OpenSpec.upto fnExactIsCodeSpec)

/-- 'laws.FnExactCurvetteOfCode', WHERE WHAT IT READS IS OF BULK AT MOST 1048576: true; the input reads as it did. -/
def fnExactCurvetteOfCodeUptoRow : OpenClaim := { program := "ytoebbhicffgdgaa", sum := "ca842450174306f75c3b19e02c3eccdce55ef0bb9db143ac9f9e5e95b6c96ffa", func := "loop.example/g01140/laws.FnExactCurvetteOfCode", spec := "fnExactCurvetteOfCode", apart := false, narrowed := true }
def FnExactCurvetteOfCodeUptoSaid : Prop := fnExactCurvetteOfCodeUptoRow.holds Try.pinned (OpenSpec.upto fnExactCurvetteOfCodeSpec)

/-- 'laws.FnExactCurvetteAt', WHERE WHAT IT READS IS OF BULK AT MOST 1048576: true; the input reads as it did. -/
def fnExactCurvetteAtUptoRow : OpenClaim := { program := "ytoebbhicffgdgaa", sum := "ca842450174306f75c3b19e02c3eccdce55ef0bb9db143ac9f9e5e95b6c96ffa", func := "loop.example/g01140/laws.FnExactCurvetteAt", spec := "fnExactCurvetteAt", unfollowed := true, recurses := true, apart := false, narrowed := true }
def FnExactCurvetteAtUptoSaid : Prop := fnExactCurvetteAtUptoRow.holds Try.pinned (OpenSpec.upto fnExactCurvetteAtSpec)

/-- 'laws.FnExactMeetCurvette', WHERE WHAT IT READS IS OF BULK AT MOST 1048576: true; the input reads as it did. -/
def fnExactMeetCurvetteUptoRow : OpenClaim := { program := "ytoebbhicffgdgaa", sum := "ca842450174306f75c3b19e02c3eccdce55ef0bb9db143ac9f9e5e95b6c96ffa", func := "loop.example/g01140/laws.FnExactMeetCurvette", spec := "fnExactMeetCurvette", unfollowed := true, recurses := true, apart := false, narrowed := true }
def FnExactMeetCurvetteUptoSaid : Prop := fnExactMeetCurvetteUptoRow.holds Try.pinned (OpenSpec.upto fnExactMeetCurvetteSpec)

/-- 'laws.FnExactThresholdOfBranch', WHERE WHAT IT READS IS OF BULK AT MOST 1048576: true; the input reads as it did. -/
def fnExactThresholdOfBranchUptoRow : OpenClaim := { program := "ytoebbhicffgdgaa", sum := "ca842450174306f75c3b19e02c3eccdce55ef0bb9db143ac9f9e5e95b6c96ffa", func := "loop.example/g01140/laws.FnExactThresholdOfBranch", spec := "fnExactThresholdOfBranch", apart := false, narrowed := true }
def FnExactThresholdOfBranchUptoSaid : Prop := fnExactThresholdOfBranchUptoRow.holds Try.pinned (OpenSpec.upto fnExactThresholdOfBranchSpec)

end Rows
end Go.Proofs.Ytoebbhicffgdgaa
