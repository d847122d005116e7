/-
  No cell of these rows narrows 'for every input' (looked for: loops, veiled, ifaces, maps, wideKeys, modest, calm, conditions, laid).
  DERIVED. THE GIVEN ROWS OF THIS SEAT. 15 by the template 'for every input the law returns true; each argument reads behind the call as it read before'; 0 by the template 'total and deterministic' (their statements: YtbempmbnhfnlbaaTotals.lean).
  GIVEN WITH THE SEED: the statements are not yours to turn. If you find one false, say at which input.
  Laid BY PROGRAM, IN A SANDBOX (cutbox-rows.mjs): the forced cells as the released guide's own fill.sh prints them over the translation 625a26c76faccb1b… (all of the seat's roots in one cut). By AI agents, Wed Nov 11 2026. No macro, syntax, notation, axiom, sorry.
-/
import Derived.Test.YtbempmbnhfnlbaaChecked
import GoSem.Claim
import GoSem.ClaimJoined
import GoSem.ClaimMapViews
import Derived.JoinedTies
import Derived.KernelRfl
namespace Go.Proofs.Ytbempmbnhfnlbaa
/- THE CELL 'sum', in the pinned program and in every row, IS THE sha256 OF THE DUMP (.gsa) THAT YtbempmbnhfnlbaaProg.lean LOADS. Nothing in Lean hashes anything: it is a label: what it is worth is what the hold of that sum in a sandbox is worth. -/
noncomputable def Try.pinned : Pinned := { name := "ytbempmbnhfnlbaa", sum := "625a26c76faccb1bb4c91b13af2986dfafd16793adb4e7657f3aa849f88fd754", checked := Try.checked }
namespace Rows
def none {H : Type} : Left H := { results := [], args := [] }

/-- 'laws.FnClusters': WHATEVER THE INPUT: true; the input reads as it did. -/
def fnClustersSpec : ChangeSpec := { name := "fnClusters", fn := fun _ => fun
  | [d] => { results := [.lit (.bool true)], args := [d] }
  | _ => none }
def fnClustersRow : OpenClaim := { program := "ytbempmbnhfnlbaa", sum := "625a26c76faccb1bb4c91b13af2986dfafd16793adb4e7657f3aa849f88fd754", func := "loop.example/g01140/laws.FnClusters", spec := "fnClusters", unfollowed := true, recurses := true, apart := false }
def FnClustersSaid : Prop := fnClustersRow.holds Try.pinned (OpenSpec.ofChange fnClustersSpec)

/-- ITS FALSE NEIGHBOUR: 'it returns false'. Refute it at one input. -/
def fnClustersWrong : ChangeSpec := { name := "fnClusters", fn := fun _ => fun
  | [d] => { results := [.lit (.bool false)], args := [d] }
  | _ => none }
def FnClustersWrongFalsely : Prop := fnClustersRow.holds Try.pinned (OpenSpec.ofChange fnClustersWrong)

/-- 'laws.FnExactIsCluster': WHATEVER THE INPUT: true; the input reads as it did. -/
def fnExactIsClusterSpec : ChangeSpec := { name := "fnExactIsCluster", fn := fun _ => fun
  | [d] => { results := [.lit (.bool true)], args := [d] }
  | _ => none }
def fnExactIsClusterRow : OpenClaim := { program := "ytbempmbnhfnlbaa", sum := "625a26c76faccb1bb4c91b13af2986dfafd16793adb4e7657f3aa849f88fd754", func := "loop.example/g01140/laws.FnExactIsCluster", spec := "fnExactIsCluster", unfollowed := true, recurses := true, apart := false }
def FnExactIsClusterSaid : Prop := fnExactIsClusterRow.holds Try.pinned (OpenSpec.ofChange fnExactIsClusterSpec)

/-- ITS FALSE NEIGHBOUR: 'it returns false'. Refute it at one input. -/
def fnExactIsClusterWrong : ChangeSpec := { name := "fnExactIsCluster", fn := fun _ => fun
  | [d] => { results := [.lit (.bool false)], args := [d] }
  | _ => none }
def FnExactIsClusterWrongFalsely : Prop := fnExactIsClusterRow.holds Try.pinned (OpenSpec.ofChange fnExactIsClusterWrong)

/-- 'laws.FnExactProximityMatrix': WHATEVER THE INPUT: true; the input reads as it did. -/
def fnExactProximityMatrixSpec : ChangeSpec := { name := "fnExactProximityMatrix", fn := fun _ => fun
  | [d] => { results := [.lit (.bool true)], args := [d] }
  | _ => none }
def fnExactProximityMatrixRow : OpenClaim := { program := "ytbempmbnhfnlbaa", sum := "625a26c76faccb1bb4c91b13af2986dfafd16793adb4e7657f3aa849f88fd754", func := "loop.example/g01140/laws.FnExactProximityMatrix", spec := "fnExactProximityMatrix", unfollowed := true, recurses := true, apart := false }
def FnExactProximityMatrixSaid : Prop := fnExactProximityMatrixRow.holds Try.pinned (OpenSpec.ofChange fnExactProximityMatrixSpec)

/-- ITS FALSE NEIGHBOUR: 'it returns false'. Refute it at one input. -/
def fnExactProximityMatrixWrong : ChangeSpec := { name := "fnExactProximityMatrix", fn := fun _ => fun
  | [d] => { results := [.lit (.bool false)], args := [d] }
  | _ => none }
def FnExactProximityMatrixWrongFalsely : Prop := fnExactProximityMatrixRow.holds Try.pinned (OpenSpec.ofChange fnExactProximityMatrixWrong)

/-- 'laws.FnExactInverseProximity': WHATEVER THE INPUT: true; the input reads as it did. -/
def fnExactInverseProximitySpec : ChangeSpec := { name := "fnExactInverseProximity", fn := fun _ => fun
  | [d] => { results := [.lit (.bool true)], args := [d] }
  | _ => none }
def fnExactInverseProximityRow : OpenClaim := { program := "ytbempmbnhfnlbaa", sum := "625a26c76faccb1bb4c91b13af2986dfafd16793adb4e7657f3aa849f88fd754", func := "loop.example/g01140/laws.FnExactInverseProximity", spec := "fnExactInverseProximity", unfollowed := true, recurses := true, apart := false }
def FnExactInverseProximitySaid : Prop := fnExactInverseProximityRow.holds Try.pinned (OpenSpec.ofChange fnExactInverseProximitySpec)

/-- ITS FALSE NEIGHBOUR: 'it returns false'. Refute it at one input. -/
def fnExactInverseProximityWrong : ChangeSpec := { name := "fnExactInverseProximity", fn := fun _ => fun
  | [d] => { results := [.lit (.bool false)], args := [d] }
  | _ => none }
def FnExactInverseProximityWrongFalsely : Prop := fnExactInverseProximityRow.holds Try.pinned (OpenSpec.ofChange fnExactInverseProximityWrong)

/-- 'laws.FnExactExcessesOf': WHATEVER THE INPUT: true; the input reads as it did. -/
def fnExactExcessesOfSpec : ChangeSpec := { name := "fnExactExcessesOf", fn := fun _ => fun
  | [d] => { results := [.lit (.bool true)], args := [d] }
  | _ => none }
def fnExactExcessesOfRow : OpenClaim := { program := "ytbempmbnhfnlbaa", sum := "625a26c76faccb1bb4c91b13af2986dfafd16793adb4e7657f3aa849f88fd754", func := "loop.example/g01140/laws.FnExactExcessesOf", spec := "fnExactExcessesOf", unfollowed := true, recurses := true, apart := false }
def FnExactExcessesOfSaid : Prop := fnExactExcessesOfRow.holds Try.pinned (OpenSpec.ofChange fnExactExcessesOfSpec)

/-- ITS FALSE NEIGHBOUR: 'it returns false'. Refute it at one input. -/
def fnExactExcessesOfWrong : ChangeSpec := { name := "fnExactExcessesOf", fn := fun _ => fun
  | [d] => { results := [.lit (.bool false)], args := [d] }
  | _ => none }
def FnExactExcessesOfWrongFalsely : Prop := fnExactExcessesOfRow.holds Try.pinned (OpenSpec.ofChange fnExactExcessesOfWrong)

/-- 'laws.FnExactIsConsistent': WHATEVER THE INPUT: true; the input reads as it did. -/
def fnExactIsConsistentSpec : ChangeSpec := { name := "fnExactIsConsistent", fn := fun _ => fun
  | [d] => { results := [.lit (.bool true)], args := [d] }
  | _ => none }
def fnExactIsConsistentRow : OpenClaim := { program := "ytbempmbnhfnlbaa", sum := "625a26c76faccb1bb4c91b13af2986dfafd16793adb4e7657f3aa849f88fd754", func := "loop.example/g01140/laws.FnExactIsConsistent", spec := "fnExactIsConsistent", unfollowed := true, recurses := true, apart := false }
def FnExactIsConsistentSaid : Prop := fnExactIsConsistentRow.holds Try.pinned (OpenSpec.ofChange fnExactIsConsistentSpec)

/-- ITS FALSE NEIGHBOUR: 'it returns false'. Refute it at one input. -/
def fnExactIsConsistentWrong : ChangeSpec := { name := "fnExactIsConsistent", fn := fun _ => fun
  | [d] => { results := [.lit (.bool false)], args := [d] }
  | _ => none }
def FnExactIsConsistentWrongFalsely : Prop := fnExactIsConsistentRow.holds Try.pinned (OpenSpec.ofChange fnExactIsConsistentWrong)

/-- 'laws.FnExactClusterOrders': WHATEVER THE INPUT: true; the input reads as it did. -/
def fnExactClusterOrdersSpec : ChangeSpec := { name := "fnExactClusterOrders", fn := fun _ => fun
  | [d] => { results := [.lit (.bool true)], args := [d] }
  | _ => none }
def fnExactClusterOrdersRow : OpenClaim := { program := "ytbempmbnhfnlbaa", sum := "625a26c76faccb1bb4c91b13af2986dfafd16793adb4e7657f3aa849f88fd754", func := "loop.example/g01140/laws.FnExactClusterOrders", spec := "fnExactClusterOrders", unfollowed := true, recurses := true, apart := false }
def FnExactClusterOrdersSaid : Prop := fnExactClusterOrdersRow.holds Try.pinned (OpenSpec.ofChange fnExactClusterOrdersSpec)

/-- ITS FALSE NEIGHBOUR: 'it returns false'. Refute it at one input. -/
def fnExactClusterOrdersWrong : ChangeSpec := { name := "fnExactClusterOrders", fn := fun _ => fun
  | [d] => { results := [.lit (.bool false)], args := [d] }
  | _ => none }
def FnExactClusterOrdersWrongFalsely : Prop := fnExactClusterOrdersRow.holds Try.pinned (OpenSpec.ofChange fnExactClusterOrdersWrong)

/-- 'laws.FnExactSimpleCluster': WHATEVER THE INPUT: true; the input reads as it did. -/
def fnExactSimpleClusterSpec : ChangeSpec := { name := "fnExactSimpleCluster", fn := fun _ => fun
  | [d1, d2] => { results := [.lit (.bool true)], args := [d1, d2] }
  | _ => none }
def fnExactSimpleClusterRow : OpenClaim := { program := "ytbempmbnhfnlbaa", sum := "625a26c76faccb1bb4c91b13af2986dfafd16793adb4e7657f3aa849f88fd754", func := "loop.example/g01140/laws.FnExactSimpleCluster", spec := "fnExactSimpleCluster", unfollowed := true, recurses := true, apart := false }
def FnExactSimpleClusterSaid : Prop := fnExactSimpleClusterRow.holds Try.pinned (OpenSpec.ofChange fnExactSimpleClusterSpec)

/-- ITS FALSE NEIGHBOUR: 'it returns false'. Refute it at one input. -/
def fnExactSimpleClusterWrong : ChangeSpec := { name := "fnExactSimpleCluster", fn := fun _ => fun
  | [d1, d2] => { results := [.lit (.bool false)], args := [d1, d2] }
  | _ => none }
def FnExactSimpleClusterWrongFalsely : Prop := fnExactSimpleClusterRow.holds Try.pinned (OpenSpec.ofChange fnExactSimpleClusterWrong)

/-- 'laws.FnExactClusterOfExcesses': WHATEVER THE INPUT: true; the input reads as it did. -/
def fnExactClusterOfExcessesSpec : ChangeSpec := { name := "fnExactClusterOfExcesses", fn := fun _ => fun
  | [d1, d2] => { results := [.lit (.bool true)], args := [d1, d2] }
  | _ => none }
def fnExactClusterOfExcessesRow : OpenClaim := { program := "ytbempmbnhfnlbaa", sum := "625a26c76faccb1bb4c91b13af2986dfafd16793adb4e7657f3aa849f88fd754", func := "loop.example/g01140/laws.FnExactClusterOfExcesses", spec := "fnExactClusterOfExcesses", unfollowed := true, recurses := true, apart := false }
def FnExactClusterOfExcessesSaid : Prop := fnExactClusterOfExcessesRow.holds Try.pinned (OpenSpec.ofChange fnExactClusterOfExcessesSpec)

/-- ITS FALSE NEIGHBOUR: 'it returns false'. Refute it at one input. -/
def fnExactClusterOfExcessesWrong : ChangeSpec := { name := "fnExactClusterOfExcesses", fn := fun _ => fun
  | [d1, d2] => { results := [.lit (.bool false)], args := [d1, d2] }
  | _ => none }
def FnExactClusterOfExcessesWrongFalsely : Prop := fnExactClusterOfExcessesRow.holds Try.pinned (OpenSpec.ofChange fnExactClusterOfExcessesWrong)

/-- 'laws.FnExactAddClusters': WHATEVER THE INPUT: true; the input reads as it did. -/
def fnExactAddClustersSpec : ChangeSpec := { name := "fnExactAddClusters", fn := fun _ => fun
  | [d1, d2] => { results := [.lit (.bool true)], args := [d1, d2] }
  | _ => none }
def fnExactAddClustersRow : OpenClaim := { program := "ytbempmbnhfnlbaa", sum := "625a26c76faccb1bb4c91b13af2986dfafd16793adb4e7657f3aa849f88fd754", func := "loop.example/g01140/laws.FnExactAddClusters", spec := "fnExactAddClusters", unfollowed := true, recurses := true, apart := false }
def FnExactAddClustersSaid : Prop := fnExactAddClustersRow.holds Try.pinned (OpenSpec.ofChange fnExactAddClustersSpec)

/-- ITS FALSE NEIGHBOUR: 'it returns false'. Refute it at one input. -/
def fnExactAddClustersWrong : ChangeSpec := { name := "fnExactAddClusters", fn := fun _ => fun
  | [d1, d2] => { results := [.lit (.bool false)], args := [d1, d2] }
  | _ => none }
def FnExactAddClustersWrongFalsely : Prop := fnExactAddClustersRow.holds Try.pinned (OpenSpec.ofChange fnExactAddClustersWrong)

/-- 'laws.FnExactMultiplyClusters': WHATEVER THE INPUT: true; the input reads as it did. -/
def fnExactMultiplyClustersSpec : ChangeSpec := { name := "fnExactMultiplyClusters", fn := fun _ => fun
  | [d1, d2] => { results := [.lit (.bool true)], args := [d1, d2] }
  | _ => none }
def fnExactMultiplyClustersRow : OpenClaim := { program := "ytbempmbnhfnlbaa", sum := "625a26c76faccb1bb4c91b13af2986dfafd16793adb4e7657f3aa849f88fd754", func := "loop.example/g01140/laws.FnExactMultiplyClusters", spec := "fnExactMultiplyClusters", unfollowed := true, recurses := true, apart := false }
def FnExactMultiplyClustersSaid : Prop := fnExactMultiplyClustersRow.holds Try.pinned (OpenSpec.ofChange fnExactMultiplyClustersSpec)

/-- ITS FALSE NEIGHBOUR: 'it returns false'. Refute it at one input. -/
def fnExactMultiplyClustersWrong : ChangeSpec := { name := "fnExactMultiplyClusters", fn := fun _ => fun
  | [d1, d2] => { results := [.lit (.bool false)], args := [d1, d2] }
  | _ => none }
def FnExactMultiplyClustersWrongFalsely : Prop := fnExactMultiplyClustersRow.holds Try.pinned (OpenSpec.ofChange fnExactMultiplyClustersWrong)

/-- 'laws.FnExactExceptionalMatrix': WHATEVER THE INPUT: true; the input reads as it did. -/
def fnExactExceptionalMatrixSpec : ChangeSpec := { name := "fnExactExceptionalMatrix", fn := fun _ => fun
  | [d] => { results := [.lit (.bool true)], args := [d] }
  | _ => none }
def fnExactExceptionalMatrixRow : OpenClaim := { program := "ytbempmbnhfnlbaa", sum := "625a26c76faccb1bb4c91b13af2986dfafd16793adb4e7657f3aa849f88fd754", func := "loop.example/g01140/laws.FnExactExceptionalMatrix", spec := "fnExactExceptionalMatrix", unfollowed := true, recurses := true, apart := false }
def FnExactExceptionalMatrixSaid : Prop := fnExactExceptionalMatrixRow.holds Try.pinned (OpenSpec.ofChange fnExactExceptionalMatrixSpec)

/-- ITS FALSE NEIGHBOUR: 'it returns false'. Refute it at one input. -/
def fnExactExceptionalMatrixWrong : ChangeSpec := { name := "fnExactExceptionalMatrix", fn := fun _ => fun
  | [d] => { results := [.lit (.bool false)], args := [d] }
  | _ => none }
def FnExactExceptionalMatrixWrongFalsely : Prop := fnExactExceptionalMatrixRow.holds Try.pinned (OpenSpec.ofChange fnExactExceptionalMatrixWrong)

/-- 'laws.FnExactDeltaOfCluster': WHATEVER THE INPUT: true; the input reads as it did. -/
def fnExactDeltaOfClusterSpec : ChangeSpec := { name := "fnExactDeltaOfCluster", fn := fun _ => fun
  | [d] => { results := [.lit (.bool true)], args := [d] }
  | _ => none }
def fnExactDeltaOfClusterRow : OpenClaim := { program := "ytbempmbnhfnlbaa", sum := "625a26c76faccb1bb4c91b13af2986dfafd16793adb4e7657f3aa849f88fd754", func := "loop.example/g01140/laws.FnExactDeltaOfCluster", spec := "fnExactDeltaOfCluster", unfollowed := true, recurses := true, apart := false }
def FnExactDeltaOfClusterSaid : Prop := fnExactDeltaOfClusterRow.holds Try.pinned (OpenSpec.ofChange fnExactDeltaOfClusterSpec)

/-- ITS FALSE NEIGHBOUR: 'it returns false'. Refute it at one input. -/
def fnExactDeltaOfClusterWrong : ChangeSpec := { name := "fnExactDeltaOfCluster", fn := fun _ => fun
  | [d] => { results := [.lit (.bool false)], args := [d] }
  | _ => none }
def FnExactDeltaOfClusterWrongFalsely : Prop := fnExactDeltaOfClusterRow.holds Try.pinned (OpenSpec.ofChange fnExactDeltaOfClusterWrong)

/-- 'laws.FnExactClusterOfBranch': WHATEVER THE INPUT: true; the input reads as it did. -/
def fnExactClusterOfBranchSpec : ChangeSpec := { name := "fnExactClusterOfBranch", fn := fun _ => fun
  | [d1, d2] => { results := [.lit (.bool true)], args := [d1, d2] }
  | _ => none }
def fnExactClusterOfBranchRow : OpenClaim := { program := "ytbempmbnhfnlbaa", sum := "625a26c76faccb1bb4c91b13af2986dfafd16793adb4e7657f3aa849f88fd754", func := "loop.example/g01140/laws.FnExactClusterOfBranch", spec := "fnExactClusterOfBranch", unfollowed := true, recurses := true, apart := false }
def FnExactClusterOfBranchSaid : Prop := fnExactClusterOfBranchRow.holds Try.pinned (OpenSpec.ofChange fnExactClusterOfBranchSpec)

/-- ITS FALSE NEIGHBOUR: 'it returns false'. Refute it at one input. -/
def fnExactClusterOfBranchWrong : ChangeSpec := { name := "fnExactClusterOfBranch", fn := fun _ => fun
  | [d1, d2] => { results := [.lit (.bool false)], args := [d1, d2] }
  | _ => none }
def FnExactClusterOfBranchWrongFalsely : Prop := fnExactClusterOfBranchRow.holds Try.pinned (OpenSpec.ofChange fnExactClusterOfBranchWrong)

/-- 'laws.FnExactSatellitesOf': WHATEVER THE INPUT: true; the input reads as it did. -/
def fnExactSatellitesOfSpec : ChangeSpec := { name := "fnExactSatellitesOf", fn := fun _ => fun
  | [d] => { results := [.lit (.bool true)], args := [d] }
  | _ => none }
def fnExactSatellitesOfRow : OpenClaim := { program := "ytbempmbnhfnlbaa", sum := "625a26c76faccb1bb4c91b13af2986dfafd16793adb4e7657f3aa849f88fd754", func := "loop.example/g01140/laws.FnExactSatellitesOf", spec := "fnExactSatellitesOf", unfollowed := true, recurses := true, apart := false }
def FnExactSatellitesOfSaid : Prop := fnExactSatellitesOfRow.holds Try.pinned (OpenSpec.ofChange fnExactSatellitesOfSpec)

/-- ITS FALSE NEIGHBOUR: 'it returns false'. Refute it at one input. -/
def fnExactSatellitesOfWrong : ChangeSpec := { name := "fnExactSatellitesOf", fn := fun _ => fun
  | [d] => { results := [.lit (.bool false)], args := [d] }
  | _ => none }
def FnExactSatellitesOfWrongFalsely : Prop := fnExactSatellitesOfRow.holds Try.pinned (OpenSpec.ofChange fnExactSatellitesOfWrong)

/- THE SECOND FORM. 'bulk': how many values and letters a reading holds, each counted each time it is reached (what is shared counts as often as it is met; a slice's spare places count too). A statement '..UptoSaid' is the law's where the arguments, and the package variables that the reading takes, are together of bulk at most 1048576: NARROWER than '..Said'. Prove '..Said' where nothing that the law and all that it calls make is longer than what came in: it says more and counts as full. Else prove '..UptoSaid'. A law counts once. -/
mutual
def uptoBulk {H : Type} : DataW H → Nat
  | .lit (.string bytes) => bytes.length + 1
  | .lit _ => 1
  | .nil => 1
  | .ptr d => uptoBulk d + 1
  | .slice elems spare => uptoBulkAll elems + uptoBulkAll spare + 1
  | .agg parts => uptoBulkAll parts + 1
  | .iface _ d => uptoBulk d + 1
  | .map entries => uptoBulkEntries entries + 1
  | .held _ => 1
def uptoBulkAll {H : Type} : List (DataW H) → Nat
  | [] => 0
  | d :: r => uptoBulk d + uptoBulkAll r
def uptoBulkEntries {H : Type} : List (Lit × DataW H) → Nat
  | [] => 0
  | x :: r => uptoBulkEntry x + uptoBulkEntries r
def uptoBulkEntry {H : Type} : Lit × DataW H → Nat
  | (.string bytes, d) => bytes.length + uptoBulk d + 1
  | (_, d) => uptoBulk d + 1
 end
def uptoSmall : (H : Type) → List (DataW H) → Bool := fun _ ds => decide (uptoBulkAll ds ≤ 1048576)
def OpenSpec.upto (s : _root_.Go.ChangeSpec) : _root_.Go.OpenSpec := { _root_.Go.OpenSpec.ofChange s with cond := some uptoSmall }

/-- 'laws.FnClusters', WHERE WHAT IT READS IS OF BULK AT MOST 1048576: true; the input reads as it did. -/
def fnClustersUptoRow : OpenClaim := { program := "ytbempmbnhfnlbaa", sum := "625a26c76faccb1bb4c91b13af2986dfafd16793adb4e7657f3aa849f88fd754", func := "loop.example/g01140/laws.FnClusters", spec := "fnClusters", unfollowed := true, recurses := true, apart := false, narrowed := true }
def FnClustersUptoSaid : Prop := fnClustersUptoRow.holds Try.pinned (OpenSpec.upto fnClustersSpec)

/-- 'laws.FnExactIsCluster', WHERE WHAT IT READS IS OF BULK AT MOST 1048576: true; the input reads as it did. -/
def fnExactIsClusterUptoRow : OpenClaim := { program := "ytbempmbnhfnlbaa", sum := "625a26c76faccb1bb4c91b13af2986dfafd16793adb4e7657f3aa849f88fd754", func := "loop.example/g01140/laws.FnExactIsCluster", spec := "fnExactIsCluster", unfollowed := true, recurses := true, apart := false, narrowed := true }
def FnExactIsClusterUptoSaid : Prop := fnExactIsClusterUptoRow.holds Try.pinned (OpenSpec.upto fnExactIsClusterSpec)

/-- 'laws.FnExactProximityMatrix', WHERE WHAT IT READS IS OF BULK AT MOST 1048576: true; the input reads as it did. -/
def fnExactProximityMatrixUptoRow : OpenClaim := { program := "ytbempmbnhfnlbaa", sum := "625a26c76faccb1bb4c91b13af2986dfafd16793adb4e7657f3aa849f88fd754", func := "loop.example/g01140/laws.FnExactProximityMatrix", spec := "fnExactProximityMatrix", unfollowed := true, recurses := true, apart := false, narrowed := true }
def FnExactProximityMatrixUptoSaid : Prop := fnExactProximityMatrixUptoRow.holds Try.pinned (OpenSpec.upto fnExactProximityMatrixSpec)

/-- 'laws.FnExactInverseProximity', WHERE WHAT IT READS IS OF BULK AT MOST 1048576: true; the input reads as it did. -/
def fnExactInverseProximityUptoRow : OpenClaim := { program := "ytbempmbnhfnlbaa", sum := "625a26c76faccb1bb4c91b13af2986dfafd16793adb4e7657f3aa849f88fd754", func := "loop.example/g01140/laws.FnExactInverseProximity", spec := "fnExactInverseProximity", unfollowed := true, recurses := true, apart := false, narrowed := true }
def FnExactInverseProximityUptoSaid : Prop := fnExactInverseProximityUptoRow.holds Try.pinned (OpenSpec.upto fnExactInverseProximitySpec)

/-- 'laws.FnExactExcessesOf', WHERE WHAT IT READS IS OF BULK AT MOST 1048576: true; the input reads as it did. -/
def fnExactExcessesOfUptoRow : OpenClaim := { program := "ytbempmbnhfnlbaa", sum := "625a26c76faccb1bb4c91b13af2986dfafd16793adb4e7657f3aa849f88fd754", func := "loop.example/g01140/laws.FnExactExcessesOf", spec := "fnExactExcessesOf", unfollowed := true, recurses := true, apart := false, narrowed := true }
def FnExactExcessesOfUptoSaid : Prop := fnExactExcessesOfUptoRow.holds Try.pinned (OpenSpec.upto fnExactExcessesOfSpec)

/-- 'laws.FnExactIsConsistent', WHERE WHAT IT READS IS OF BULK AT MOST 1048576: true; the input reads as it did. -/
def fnExactIsConsistentUptoRow : OpenClaim := { program := "ytbempmbnhfnlbaa", sum := "625a26c76faccb1bb4c91b13af2986dfafd16793adb4e7657f3aa849f88fd754", func := "loop.example/g01140/laws.FnExactIsConsistent", spec := "fnExactIsConsistent", unfollowed := true, recurses := true, apart := false, narrowed := true }
def FnExactIsConsistentUptoSaid : Prop := fnExactIsConsistentUptoRow.holds Try.pinned (OpenSpec.upto fnExactIsConsistentSpec)

/-- 'laws.FnExactClusterOrders', WHERE WHAT IT READS IS OF BULK AT MOST 1048576: true; the input reads as it did. -/
def fnExactClusterOrdersUptoRow : OpenClaim := { program := "ytbempmbnhfnlbaa", sum := "625a26c76faccb1bb4c91b13af2986dfafd16793adb4e7657f3aa849f88fd754", func := "loop.example/g01140/laws.FnExactClusterOrders", spec := "fnExactClusterOrders", unfollowed := true, recurses := true, apart := false, narrowed := true }
def FnExactClusterOrdersUptoSaid : Prop := fnExactClusterOrdersUptoRow.holds Try.pinned (OpenSpec.upto fnExactClusterOrdersSpec)

/-- 'laws.FnExactSimpleCluster', WHERE WHAT IT READS IS OF BULK AT MOST 1048576: true; the input reads as it did. -/
def fnExactSimpleClusterUptoRow : OpenClaim := { program := "ytbempmbnhfnlbaa", sum := "625a26c76faccb1bb4c91b13af2986dfafd16793adb4e7657f3aa849f88fd754", func := "loop.example/g01140/laws.FnExactSimpleCluster", spec := "fnExactSimpleCluster", unfollowed := true, recurses := true, apart := false, narrowed := true }
def FnExactSimpleClusterUptoSaid : Prop := fnExactSimpleClusterUptoRow.holds Try.pinned (OpenSpec.upto fnExactSimpleClusterSpec)

/-- 'laws.FnExactClusterOfExcesses', WHERE WHAT IT READS IS OF BULK AT MOST 1048576: true; the input reads as it did. -/
def fnExactClusterOfExcessesUptoRow : OpenClaim := { program := "ytbempmbnhfnlbaa", sum := "625a26c76faccb1bb4c91b13af2986dfafd16793adb4e7657f3aa849f88fd754", func := "loop.example/g01140/laws.FnExactClusterOfExcesses", spec := "fnExactClusterOfExcesses", unfollowed := true, recurses := true, apart := false, narrowed := true }
def FnExactClusterOfExcessesUptoSaid : Prop := fnExactClusterOfExcessesUptoRow.holds Try.pinned (OpenSpec.upto fnExactClusterOfExcessesSpec)

/-- 'laws.FnExactAddClusters', WHERE WHAT IT READS IS OF BULK AT MOST 1048576: true; the input reads as it did. -/
def fnExactAddClustersUptoRow : OpenClaim := { program := "ytbempmbnhfnlbaa", sum := "625a26c76faccb1bb4c91b13af2986dfafd16793adb4e7657f3aa849f88fd754", func := "loop.example/g01140/laws.FnExactAddClusters", spec := "fnExactAddClusters", unfollowed := true, recurses := true, apart := false, narrowed := true }
def FnExactAddClustersUptoSaid : Prop := fnExactAddClustersUptoRow.holds Try.pinned (OpenSpec.upto fnExactAddClustersSpec)

/-- 'laws.FnExactMultiplyClusters', WHERE WHAT IT READS IS OF BULK AT MOST 1048576: true; the input reads as it did. -/
def fnExactMultiplyClustersUptoRow : OpenClaim := { program := "ytbempmbnhfnlbaa", sum := "625a26c76faccb1bb4c91b13af2986dfafd16793adb4e7657f3aa849f88fd754", func := "loop.example/g01140/laws.FnExactMultiplyClusters", spec := "fnExactMultiplyClusters", unfollowed := true, recurses := true, apart := false, narrowed := true }
def FnExactMultiplyClustersUptoSaid : Prop := fnExactMultiplyClustersUptoRow.holds Try.pinned (OpenSpec.upto fnExactMultiplyClustersSpec)

/-- 'laws.FnExactExceptionalMatrix', WHERE WHAT IT READS IS OF BULK AT MOST 1048576: true; the input reads as it did. -/
def fnExactExceptionalMatrixUptoRow : OpenClaim := { program := "ytbempmbnhfnlbaa", sum := "625a26c76faccb1bb4c91b13af2986dfafd16793adb4e7657f3aa849f88fd754", func := "loop.example/g01140/laws.FnExactExceptionalMatrix", spec := "fnExactExceptionalMatrix", unfollowed := true, recurses := true, apart := false, narrowed := true }
def FnExactExceptionalMatrixUptoSaid : Prop := fnExactExceptionalMatrixUptoRow.holds Try.pinned (OpenSpec.upto fnExactExceptionalMatrixSpec)

/-- 'laws.FnExactDeltaOfCluster', WHERE WHAT IT READS IS OF BULK AT MOST 1048576: true; the input reads as it did. -/
def fnExactDeltaOfClusterUptoRow : OpenClaim := { program := "ytbempmbnhfnlbaa", sum := "625a26c76faccb1bb4c91b13af2986dfafd16793adb4e7657f3aa849f88fd754", func := "loop.example/g01140/laws.FnExactDeltaOfCluster", spec := "fnExactDeltaOfCluster", unfollowed := true, recurses := true, apart := false, narrowed := true }
def FnExactDeltaOfClusterUptoSaid : Prop := fnExactDeltaOfClusterUptoRow.holds Try.pinned (OpenSpec.upto fnExactDeltaOfClusterSpec)

/-- 'laws.FnExactClusterOfBranch', WHERE WHAT IT READS IS OF BULK AT MOST 1048576: true; the input reads as it did. -/
def fnExactClusterOfBranchUptoRow : OpenClaim := { program := "ytbempmbnhfnlbaa", sum := "625a26c76faccb1bb4c91b13af2986dfafd16793adb4e7657f3aa849f88fd754", func := "loop.example/g01140/laws.FnExactClusterOfBranch", spec := "fnExactClusterOfBranch", unfollowed := true, recurses := true, apart := false, narrowed := true }
def FnExactClusterOfBranchUptoSaid : Prop := fnExactClusterOfBranchUptoRow.holds Try.pinned (OpenSpec.upto fnExactClusterOfBranchSpec)

/-- 'laws.FnExactSatellitesOf', WHERE WHAT IT READS IS OF BULK AT MOST 1048576: true; the input reads as it did. -/
def fnExactSatellitesOfUptoRow : OpenClaim := { program := "ytbempmbnhfnlbaa", sum := "625a26c76faccb1bb4c91b13af2986dfafd16793adb4e7657f3aa849f88fd754", func := "loop.example/g01140/laws.FnExactSatellitesOf", spec := "fnExactSatellitesOf", unfollowed := true, recurses := true, apart := false, narrowed := true }
def FnExactSatellitesOfUptoSaid : Prop := fnExactSatellitesOfUptoRow.holds Try.pinned (OpenSpec.upto fnExactSatellitesOfSpec)

end Rows
end Go.Proofs.Ytbempmbnhfnlbaa
