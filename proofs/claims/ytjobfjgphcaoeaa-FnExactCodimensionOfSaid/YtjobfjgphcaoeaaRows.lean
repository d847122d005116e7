/-
  No cell of these rows narrows 'for every input' (looked for: loops, veiled, ifaces, maps, wideKeys, modest, calm, conditions, laid).
  DERIVED. THE GIVEN ROWS OF THIS SEAT. 15 by the template 'for every input the law returns true; each argument reads behind the call as it read before'; 0 by the template 'total and deterministic' (their statements: YtjobfjgphcaoeaaTotals.lean).
  GIVEN WITH THE SEED: the statements are not yours to turn. If you find one false, say at which input.
  Laid BY PROGRAM, IN A SANDBOX (cutbox-rows.mjs): the forced cells as the released guide's own fill.sh prints them over the translation ceac3a3cf5dc9122… (all of the seat's roots in one cut). By AI agents, Wed Nov 11 2026. No macro, syntax, notation, axiom, sorry.
-/
import Derived.Test.YtjobfjgphcaoeaaChecked
import GoSem.Claim
import GoSem.ClaimJoined
import GoSem.ClaimMapViews
import Derived.JoinedTies
import Derived.KernelRfl
namespace Go.Proofs.Ytjobfjgphcaoeaa
/- THE CELL 'sum', in the pinned program and in every row, IS THE sha256 OF THE DUMP (.gsa) THAT YtjobfjgphcaoeaaProg.lean LOADS. Nothing in Lean hashes anything: it is a label: what it is worth is what the hold of that sum in a sandbox is worth. -/
noncomputable def Try.pinned : Pinned := { name := "ytjobfjgphcaoeaa", sum := "ceac3a3cf5dc9122b6a63f64a7023c7d8eed51feb50b65b2bb5520125b869e28", checked := Try.checked }
namespace Rows
def none {H : Type} : Left H := { results := [], args := [] }

/-- 'laws.FnExactClusterOrders': WHATEVER THE INPUT: true; the input reads as it did. -/
def fnExactClusterOrdersSpec : ChangeSpec := { name := "fnExactClusterOrders", fn := fun _ => fun
  | [d] => { results := [.lit (.bool true)], args := [d] }
  | _ => none }
def fnExactClusterOrdersRow : OpenClaim := { program := "ytjobfjgphcaoeaa", sum := "ceac3a3cf5dc9122b6a63f64a7023c7d8eed51feb50b65b2bb5520125b869e28", func := "loop.example/g01140/laws.FnExactClusterOrders", spec := "fnExactClusterOrders", unfollowed := true, recurses := true, apart := false }
def FnExactClusterOrdersSaid : Prop := fnExactClusterOrdersRow.holds Try.pinned (OpenSpec.ofChange fnExactClusterOrdersSpec)

/-- ITS FALSE NEIGHBOUR: 'it returns false'. Refute it at one input. -/
def fnExactClusterOrdersWrong : ChangeSpec := { name := "fnExactClusterOrders", fn := fun _ => fun
  | [d] => { results := [.lit (.bool false)], args := [d] }
  | _ => none }
def FnExactClusterOrdersWrongFalsely : Prop := fnExactClusterOrdersRow.holds Try.pinned (OpenSpec.ofChange fnExactClusterOrdersWrong)

/-- 'laws.FnExactSimpleCluster': WHATEVER THE INPUT: true; the input reads as it did. -/
def fnExactSimpleClusterSpec : ChangeSpec := { name := "fnExactSimpleCluster", fn := fun _ => fun
  | [d1, d2] => { results := [.lit (.bool true)], args := [d1, d2] }
  | _ => none }
def fnExactSimpleClusterRow : OpenClaim := { program := "ytjobfjgphcaoeaa", sum := "ceac3a3cf5dc9122b6a63f64a7023c7d8eed51feb50b65b2bb5520125b869e28", func := "loop.example/g01140/laws.FnExactSimpleCluster", spec := "fnExactSimpleCluster", unfollowed := true, recurses := true, apart := false }
def FnExactSimpleClusterSaid : Prop := fnExactSimpleClusterRow.holds Try.pinned (OpenSpec.ofChange fnExactSimpleClusterSpec)

/-- ITS FALSE NEIGHBOUR: 'it returns false'. Refute it at one input. -/
def fnExactSimpleClusterWrong : ChangeSpec := { name := "fnExactSimpleCluster", fn := fun _ => fun
  | [d1, d2] => { results := [.lit (.bool false)], args := [d1, d2] }
  | _ => none }
def FnExactSimpleClusterWrongFalsely : Prop := fnExactSimpleClusterRow.holds Try.pinned (OpenSpec.ofChange fnExactSimpleClusterWrong)

/-- 'laws.FnExactAddClusters': WHATEVER THE INPUT: true; the input reads as it did. -/
def fnExactAddClustersSpec : ChangeSpec := { name := "fnExactAddClusters", fn := fun _ => fun
  | [d1, d2] => { results := [.lit (.bool true)], args := [d1, d2] }
  | _ => none }
def fnExactAddClustersRow : OpenClaim := { program := "ytjobfjgphcaoeaa", sum := "ceac3a3cf5dc9122b6a63f64a7023c7d8eed51feb50b65b2bb5520125b869e28", func := "loop.example/g01140/laws.FnExactAddClusters", spec := "fnExactAddClusters", unfollowed := true, recurses := true, apart := false }
def FnExactAddClustersSaid : Prop := fnExactAddClustersRow.holds Try.pinned (OpenSpec.ofChange fnExactAddClustersSpec)

/-- ITS FALSE NEIGHBOUR: 'it returns false'. Refute it at one input. -/
def fnExactAddClustersWrong : ChangeSpec := { name := "fnExactAddClusters", fn := fun _ => fun
  | [d1, d2] => { results := [.lit (.bool false)], args := [d1, d2] }
  | _ => none }
def FnExactAddClustersWrongFalsely : Prop := fnExactAddClustersRow.holds Try.pinned (OpenSpec.ofChange fnExactAddClustersWrong)

/-- 'laws.FnExactExceptionalMatrix': WHATEVER THE INPUT: true; the input reads as it did. -/
def fnExactExceptionalMatrixSpec : ChangeSpec := { name := "fnExactExceptionalMatrix", fn := fun _ => fun
  | [d] => { results := [.lit (.bool true)], args := [d] }
  | _ => none }
def fnExactExceptionalMatrixRow : OpenClaim := { program := "ytjobfjgphcaoeaa", sum := "ceac3a3cf5dc9122b6a63f64a7023c7d8eed51feb50b65b2bb5520125b869e28", func := "loop.example/g01140/laws.FnExactExceptionalMatrix", spec := "fnExactExceptionalMatrix", unfollowed := true, recurses := true, apart := false }
def FnExactExceptionalMatrixSaid : Prop := fnExactExceptionalMatrixRow.holds Try.pinned (OpenSpec.ofChange fnExactExceptionalMatrixSpec)

/-- ITS FALSE NEIGHBOUR: 'it returns false'. Refute it at one input. -/
def fnExactExceptionalMatrixWrong : ChangeSpec := { name := "fnExactExceptionalMatrix", fn := fun _ => fun
  | [d] => { results := [.lit (.bool false)], args := [d] }
  | _ => none }
def FnExactExceptionalMatrixWrongFalsely : Prop := fnExactExceptionalMatrixRow.holds Try.pinned (OpenSpec.ofChange fnExactExceptionalMatrixWrong)

/-- 'laws.FnExactClusterOfOrders': WHATEVER THE INPUT: true; the input reads as it did. -/
def fnExactClusterOfOrdersSpec : ChangeSpec := { name := "fnExactClusterOfOrders", fn := fun _ => fun
  | [d1, d2] => { results := [.lit (.bool true)], args := [d1, d2] }
  | _ => none }
def fnExactClusterOfOrdersRow : OpenClaim := { program := "ytjobfjgphcaoeaa", sum := "ceac3a3cf5dc9122b6a63f64a7023c7d8eed51feb50b65b2bb5520125b869e28", func := "loop.example/g01140/laws.FnExactClusterOfOrders", spec := "fnExactClusterOfOrders", unfollowed := true, recurses := true, apart := false }
def FnExactClusterOfOrdersSaid : Prop := fnExactClusterOfOrdersRow.holds Try.pinned (OpenSpec.ofChange fnExactClusterOfOrdersSpec)

/-- ITS FALSE NEIGHBOUR: 'it returns false'. Refute it at one input. -/
def fnExactClusterOfOrdersWrong : ChangeSpec := { name := "fnExactClusterOfOrders", fn := fun _ => fun
  | [d1, d2] => { results := [.lit (.bool false)], args := [d1, d2] }
  | _ => none }
def FnExactClusterOfOrdersWrongFalsely : Prop := fnExactClusterOfOrdersRow.holds Try.pinned (OpenSpec.ofChange fnExactClusterOfOrdersWrong)

/-- 'laws.FnExactUnloadStep': WHATEVER THE INPUT: true; the input reads as it did. -/
def fnExactUnloadStepSpec : ChangeSpec := { name := "fnExactUnloadStep", fn := fun _ => fun
  | [d] => { results := [.lit (.bool true)], args := [d] }
  | _ => none }
def fnExactUnloadStepRow : OpenClaim := { program := "ytjobfjgphcaoeaa", sum := "ceac3a3cf5dc9122b6a63f64a7023c7d8eed51feb50b65b2bb5520125b869e28", func := "loop.example/g01140/laws.FnExactUnloadStep", spec := "fnExactUnloadStep", unfollowed := true, recurses := true, apart := false }
def FnExactUnloadStepSaid : Prop := fnExactUnloadStepRow.holds Try.pinned (OpenSpec.ofChange fnExactUnloadStepSpec)

/-- ITS FALSE NEIGHBOUR: 'it returns false'. Refute it at one input. -/
def fnExactUnloadStepWrong : ChangeSpec := { name := "fnExactUnloadStep", fn := fun _ => fun
  | [d] => { results := [.lit (.bool false)], args := [d] }
  | _ => none }
def FnExactUnloadStepWrongFalsely : Prop := fnExactUnloadStepRow.holds Try.pinned (OpenSpec.ofChange fnExactUnloadStepWrong)

/-- 'laws.FnExactUnloadCluster': WHATEVER THE INPUT: true; the input reads as it did. -/
def fnExactUnloadClusterSpec : ChangeSpec := { name := "fnExactUnloadCluster", fn := fun _ => fun
  | [d] => { results := [.lit (.bool true)], args := [d] }
  | _ => none }
def fnExactUnloadClusterRow : OpenClaim := { program := "ytjobfjgphcaoeaa", sum := "ceac3a3cf5dc9122b6a63f64a7023c7d8eed51feb50b65b2bb5520125b869e28", func := "loop.example/g01140/laws.FnExactUnloadCluster", spec := "fnExactUnloadCluster", unfollowed := true, recurses := true, apart := false }
def FnExactUnloadClusterSaid : Prop := fnExactUnloadClusterRow.holds Try.pinned (OpenSpec.ofChange fnExactUnloadClusterSpec)

/-- ITS FALSE NEIGHBOUR: 'it returns false'. Refute it at one input. -/
def fnExactUnloadClusterWrong : ChangeSpec := { name := "fnExactUnloadCluster", fn := fun _ => fun
  | [d] => { results := [.lit (.bool false)], args := [d] }
  | _ => none }
def FnExactUnloadClusterWrongFalsely : Prop := fnExactUnloadClusterRow.holds Try.pinned (OpenSpec.ofChange fnExactUnloadClusterWrong)

/-- 'laws.FnExactCodimensionOf': WHATEVER THE INPUT: true; the input reads as it did. -/
def fnExactCodimensionOfSpec : ChangeSpec := { name := "fnExactCodimensionOf", fn := fun _ => fun
  | [d] => { results := [.lit (.bool true)], args := [d] }
  | _ => none }
def fnExactCodimensionOfRow : OpenClaim := { program := "ytjobfjgphcaoeaa", sum := "ceac3a3cf5dc9122b6a63f64a7023c7d8eed51feb50b65b2bb5520125b869e28", func := "loop.example/g01140/laws.FnExactCodimensionOf", spec := "fnExactCodimensionOf", unfollowed := true, recurses := true, apart := false }
def FnExactCodimensionOfSaid : Prop := fnExactCodimensionOfRow.holds Try.pinned (OpenSpec.ofChange fnExactCodimensionOfSpec)

/-- ITS FALSE NEIGHBOUR: 'it returns false'. Refute it at one input. -/
def fnExactCodimensionOfWrong : ChangeSpec := { name := "fnExactCodimensionOf", fn := fun _ => fun
  | [d] => { results := [.lit (.bool false)], args := [d] }
  | _ => none }
def FnExactCodimensionOfWrongFalsely : Prop := fnExactCodimensionOfRow.holds Try.pinned (OpenSpec.ofChange fnExactCodimensionOfWrong)

/-- 'laws.FnExactSquareOfCluster': WHATEVER THE INPUT: true; the input reads as it did. -/
def fnExactSquareOfClusterSpec : ChangeSpec := { name := "fnExactSquareOfCluster", fn := fun _ => fun
  | [d] => { results := [.lit (.bool true)], args := [d] }
  | _ => none }
def fnExactSquareOfClusterRow : OpenClaim := { program := "ytjobfjgphcaoeaa", sum := "ceac3a3cf5dc9122b6a63f64a7023c7d8eed51feb50b65b2bb5520125b869e28", func := "loop.example/g01140/laws.FnExactSquareOfCluster", spec := "fnExactSquareOfCluster", unfollowed := true, recurses := true, apart := false }
def FnExactSquareOfClusterSaid : Prop := fnExactSquareOfClusterRow.holds Try.pinned (OpenSpec.ofChange fnExactSquareOfClusterSpec)

/-- ITS FALSE NEIGHBOUR: 'it returns false'. Refute it at one input. -/
def fnExactSquareOfClusterWrong : ChangeSpec := { name := "fnExactSquareOfCluster", fn := fun _ => fun
  | [d] => { results := [.lit (.bool false)], args := [d] }
  | _ => none }
def FnExactSquareOfClusterWrongFalsely : Prop := fnExactSquareOfClusterRow.holds Try.pinned (OpenSpec.ofChange fnExactSquareOfClusterWrong)

/-- 'laws.FnExactMixedProduct': WHATEVER THE INPUT: true; the input reads as it did. -/
def fnExactMixedProductSpec : ChangeSpec := { name := "fnExactMixedProduct", fn := fun _ => fun
  | [d1, d2] => { results := [.lit (.bool true)], args := [d1, d2] }
  | _ => none }
def fnExactMixedProductRow : OpenClaim := { program := "ytjobfjgphcaoeaa", sum := "ceac3a3cf5dc9122b6a63f64a7023c7d8eed51feb50b65b2bb5520125b869e28", func := "loop.example/g01140/laws.FnExactMixedProduct", spec := "fnExactMixedProduct", unfollowed := true, recurses := true, apart := false }
def FnExactMixedProductSaid : Prop := fnExactMixedProductRow.holds Try.pinned (OpenSpec.ofChange fnExactMixedProductSpec)

/-- ITS FALSE NEIGHBOUR: 'it returns false'. Refute it at one input. -/
def fnExactMixedProductWrong : ChangeSpec := { name := "fnExactMixedProduct", fn := fun _ => fun
  | [d1, d2] => { results := [.lit (.bool false)], args := [d1, d2] }
  | _ => none }
def FnExactMixedProductWrongFalsely : Prop := fnExactMixedProductRow.holds Try.pinned (OpenSpec.ofChange fnExactMixedProductWrong)

/-- 'laws.FnExactFactorsOf': WHATEVER THE INPUT: true; the input reads as it did. -/
def fnExactFactorsOfSpec : ChangeSpec := { name := "fnExactFactorsOf", fn := fun _ => fun
  | [d] => { results := [.lit (.bool true)], args := [d] }
  | _ => none }
def fnExactFactorsOfRow : OpenClaim := { program := "ytjobfjgphcaoeaa", sum := "ceac3a3cf5dc9122b6a63f64a7023c7d8eed51feb50b65b2bb5520125b869e28", func := "loop.example/g01140/laws.FnExactFactorsOf", spec := "fnExactFactorsOf", unfollowed := true, recurses := true, apart := false }
def FnExactFactorsOfSaid : Prop := fnExactFactorsOfRow.holds Try.pinned (OpenSpec.ofChange fnExactFactorsOfSpec)

/-- ITS FALSE NEIGHBOUR: 'it returns false'. Refute it at one input. -/
def fnExactFactorsOfWrong : ChangeSpec := { name := "fnExactFactorsOf", fn := fun _ => fun
  | [d] => { results := [.lit (.bool false)], args := [d] }
  | _ => none }
def FnExactFactorsOfWrongFalsely : Prop := fnExactFactorsOfRow.holds Try.pinned (OpenSpec.ofChange fnExactFactorsOfWrong)

/-- 'laws.FnExactPathOf': WHATEVER THE INPUT: true; the input reads as it did. -/
def fnExactPathOfSpec : ChangeSpec := { name := "fnExactPathOf", fn := fun _ => fun
  | [d1, d2] => { results := [.lit (.bool true)], args := [d1, d2] }
  | _ => none }
def fnExactPathOfRow : OpenClaim := { program := "ytjobfjgphcaoeaa", sum := "ceac3a3cf5dc9122b6a63f64a7023c7d8eed51feb50b65b2bb5520125b869e28", func := "loop.example/g01140/laws.FnExactPathOf", spec := "fnExactPathOf", unfollowed := true, recurses := true, apart := false }
def FnExactPathOfSaid : Prop := fnExactPathOfRow.holds Try.pinned (OpenSpec.ofChange fnExactPathOfSpec)

/-- ITS FALSE NEIGHBOUR: 'it returns false'. Refute it at one input. -/
def fnExactPathOfWrong : ChangeSpec := { name := "fnExactPathOf", fn := fun _ => fun
  | [d1, d2] => { results := [.lit (.bool false)], args := [d1, d2] }
  | _ => none }
def FnExactPathOfWrongFalsely : Prop := fnExactPathOfRow.holds Try.pinned (OpenSpec.ofChange fnExactPathOfWrong)

/-- 'laws.FnExactPointDiscrepancies': WHATEVER THE INPUT: true; the input reads as it did. -/
def fnExactPointDiscrepanciesSpec : ChangeSpec := { name := "fnExactPointDiscrepancies", fn := fun _ => fun
  | [d] => { results := [.lit (.bool true)], args := [d] }
  | _ => none }
def fnExactPointDiscrepanciesRow : OpenClaim := { program := "ytjobfjgphcaoeaa", sum := "ceac3a3cf5dc9122b6a63f64a7023c7d8eed51feb50b65b2bb5520125b869e28", func := "loop.example/g01140/laws.FnExactPointDiscrepancies", spec := "fnExactPointDiscrepancies", unfollowed := true, recurses := true, apart := false }
def FnExactPointDiscrepanciesSaid : Prop := fnExactPointDiscrepanciesRow.holds Try.pinned (OpenSpec.ofChange fnExactPointDiscrepanciesSpec)

/-- ITS FALSE NEIGHBOUR: 'it returns false'. Refute it at one input. -/
def fnExactPointDiscrepanciesWrong : ChangeSpec := { name := "fnExactPointDiscrepancies", fn := fun _ => fun
  | [d] => { results := [.lit (.bool false)], args := [d] }
  | _ => none }
def FnExactPointDiscrepanciesWrongFalsely : Prop := fnExactPointDiscrepanciesRow.holds Try.pinned (OpenSpec.ofChange fnExactPointDiscrepanciesWrong)

/-- 'laws.FnExactMultiplierCluster': WHATEVER THE INPUT: true; the input reads as it did. -/
def fnExactMultiplierClusterSpec : ChangeSpec := { name := "fnExactMultiplierCluster", fn := fun _ => fun
  | [d1, d2] => { results := [.lit (.bool true)], args := [d1, d2] }
  | _ => none }
def fnExactMultiplierClusterRow : OpenClaim := { program := "ytjobfjgphcaoeaa", sum := "ceac3a3cf5dc9122b6a63f64a7023c7d8eed51feb50b65b2bb5520125b869e28", func := "loop.example/g01140/laws.FnExactMultiplierCluster", spec := "fnExactMultiplierCluster", unfollowed := true, recurses := true, apart := false }
def FnExactMultiplierClusterSaid : Prop := fnExactMultiplierClusterRow.holds Try.pinned (OpenSpec.ofChange fnExactMultiplierClusterSpec)

/-- ITS FALSE NEIGHBOUR: 'it returns false'. Refute it at one input. -/
def fnExactMultiplierClusterWrong : ChangeSpec := { name := "fnExactMultiplierCluster", fn := fun _ => fun
  | [d1, d2] => { results := [.lit (.bool false)], args := [d1, d2] }
  | _ => none }
def FnExactMultiplierClusterWrongFalsely : Prop := fnExactMultiplierClusterRow.holds Try.pinned (OpenSpec.ofChange fnExactMultiplierClusterWrong)

/-- 'laws.FnExactLeastThreshold': WHATEVER THE INPUT: true; the input reads as it did. -/
def fnExactLeastThresholdSpec : ChangeSpec := { name := "fnExactLeastThreshold", fn := fun _ => fun
  | [d] => { results := [.lit (.bool true)], args := [d] }
  | _ => none }
def fnExactLeastThresholdRow : OpenClaim := { program := "ytjobfjgphcaoeaa", sum := "ceac3a3cf5dc9122b6a63f64a7023c7d8eed51feb50b65b2bb5520125b869e28", func := "loop.example/g01140/laws.FnExactLeastThreshold", spec := "fnExactLeastThreshold", unfollowed := true, recurses := true, apart := false }
def FnExactLeastThresholdSaid : Prop := fnExactLeastThresholdRow.holds Try.pinned (OpenSpec.ofChange fnExactLeastThresholdSpec)

/-- ITS FALSE NEIGHBOUR: 'it returns false'. Refute it at one input. -/
def fnExactLeastThresholdWrong : ChangeSpec := { name := "fnExactLeastThreshold", fn := fun _ => fun
  | [d] => { results := [.lit (.bool false)], args := [d] }
  | _ => none }
def FnExactLeastThresholdWrongFalsely : Prop := fnExactLeastThresholdRow.holds Try.pinned (OpenSpec.ofChange fnExactLeastThresholdWrong)

/- THE SECOND FORM. 'bulk': how many values and letters a reading holds, each counted each time it is reached (what is shared counts as often as it is met; a slice's spare places count too). A statement '..UptoSaid' is the law's where the arguments, and the package variables that the reading takes, are together of bulk at most 1048576: NARROWER than '..Said'. Prove '..Said' where nothing that the law and all that it calls make is longer than what came in: it says more and counts as full. Else prove '..UptoSaid'. A law counts once. -/
mutual
def uptoBulk {H : Type} : DataW H → Nat
  | .lit (.string bytes) => bytes.length + 1
  | .lit _ => 1
  | .nil => 1
  | .ptr d => uptoBulk d + 1
  | .slice elems spare => uptoBulkAll elems + uptoBulkAll spare + 1
  | .agg parts => uptoBulkAll parts + 1
  | .iface _ d => uptoBulk d + 1
  | .map entries => uptoBulkEntries entries + 1
  | .held _ => 1
def uptoBulkAll {H : Type} : List (DataW H) → Nat
  | [] => 0
  | d :: r => uptoBulk d + uptoBulkAll r
def uptoBulkEntries {H : Type} : List (Lit × DataW H) → Nat
  | [] => 0
  | x :: r => uptoBulkEntry x + uptoBulkEntries r
def uptoBulkEntry {H : Type} : Lit × DataW H → Nat
  | (.string bytes, d) => bytes.length + uptoBulk d + 1
  | (_, d) => uptoBulk d + 1
 end
def uptoSmall : (H : Type) → List (DataW H) → Bool := fun _ ds => decide (uptoBulkAll ds ≤ 1048576)
def OpenSpec.upto (s : _root_.Go.ChangeSpec) : _root_.Go.OpenSpec := { _root_.Go.OpenSpec.ofChange s with cond := some uptoSmall }

/-- 'laws.FnExactClusterOrders', WHERE WHAT IT READS IS OF BULK AT MOST 1048576: true; the input reads as it did. -/
def fnExactClusterOrdersUptoRow : OpenClaim := { program := "ytjobfjgphcaoeaa", sum := "ceac3a3cf5dc9122b6a63f64a7023c7d8eed51feb50b65b2bb5520125b869e28", func := "loop.example/g01140/laws.FnExactClusterOrders", spec := "fnExactClusterOrders", unfollowed := true, recurses := true, apart := false, narrowed := true }
def FnExactClusterOrdersUptoSaid : Prop := fnExactClusterOrdersUptoRow.holds Try.pinned (OpenSpec.upto fnExactClusterOrdersSpec)

/-- 'laws.FnExactSimpleCluster', WHERE WHAT IT READS IS OF BULK AT MOST 1048576: true; the input reads as it did. -/
def fnExactSimpleClusterUptoRow : OpenClaim := { program := "ytjobfjgphcaoeaa", sum := "ceac3a3cf5dc9122b6a63f64a7023c7d8eed51feb50b65b2bb5520125b869e28", func := "loop.example/g01140/laws.FnExactSimpleCluster", spec := "fnExactSimpleCluster", unfollowed := true, recurses := true, apart := false, narrowed := true }
def FnExactSimpleClusterUptoSaid : Prop := fnExactSimpleClusterUptoRow.holds Try.pinned (OpenSpec.upto fnExactSimpleClusterSpec)

/-- 'laws.FnExactAddClusters', WHERE WHAT IT READS IS OF BULK AT MOST 1048576: true; the input reads as it did. -/
def fnExactAddClustersUptoRow : OpenClaim := { program := "ytjobfjgphcaoeaa", sum := "ceac3a3cf5dc9122b6a63f64a7023c7d8eed51feb50b65b2bb5520125b869e28", func := "loop.example/g01140/laws.FnExactAddClusters", spec := "fnExactAddClusters", unfollowed := true, recurses := true, apart := false, narrowed := true }
def FnExactAddClustersUptoSaid : Prop := fnExactAddClustersUptoRow.holds Try.pinned (OpenSpec.upto fnExactAddClustersSpec)

/-- 'laws.FnExactExceptionalMatrix', WHERE WHAT IT READS IS OF BULK AT MOST 1048576: true; the input reads as it did. -/
def fnExactExceptionalMatrixUptoRow : OpenClaim := { program := "ytjobfjgphcaoeaa", sum := "ceac3a3cf5dc9122b6a63f64a7023c7d8eed51feb50b65b2bb5520125b869e28", func := "loop.example/g01140/laws.FnExactExceptionalMatrix", spec := "fnExactExceptionalMatrix", unfollowed := true, recurses := true, apart := false, narrowed := true }
def FnExactExceptionalMatrixUptoSaid : Prop := fnExactExceptionalMatrixUptoRow.holds Try.pinned (OpenSpec.upto fnExactExceptionalMatrixSpec)

/-- 'laws.FnExactClusterOfOrders', WHERE WHAT IT READS IS OF BULK AT MOST 1048576: true; the input reads as it did. -/
def fnExactClusterOfOrdersUptoRow : OpenClaim := { program := "ytjobfjgphcaoeaa", sum := "ceac3a3cf5dc9122b6a63f64a7023c7d8eed51feb50b65b2bb5520125b869e28", func := "loop.example/g01140/laws.FnExactClusterOfOrders", spec := "fnExactClusterOfOrders", unfollowed := true, recurses := true, apart := false, narrowed := true }
def FnExactClusterOfOrdersUptoSaid : Prop := fnExactClusterOfOrdersUptoRow.holds Try.pinned (OpenSpec.upto fnExactClusterOfOrdersSpec)

/-- 'laws.FnExactUnloadStep', WHERE WHAT IT READS IS OF BULK AT MOST 1048576: true; the input reads as it did. -/
def fnExactUnloadStepUptoRow : OpenClaim := { program := "ytjobfjgphcaoeaa", sum := "ceac3a3cf5dc9122b6a63f64a7023c7d8eed51feb50b65b2bb5520125b869e28", func := "loop.example/g01140/laws.FnExactUnloadStep", spec := "fnExactUnloadStep", unfollowed := true, recurses := true, apart := false, narrowed := true }
def FnExactUnloadStepUptoSaid : Prop := fnExactUnloadStepUptoRow.holds Try.pinned (OpenSpec.upto fnExactUnloadStepSpec)

/-- 'laws.FnExactUnloadCluster', WHERE WHAT IT READS IS OF BULK AT MOST 1048576: true; the input reads as it did. -/
def fnExactUnloadClusterUptoRow : OpenClaim := { program := "ytjobfjgphcaoeaa", sum := "ceac3a3cf5dc9122b6a63f64a7023c7d8eed51feb50b65b2bb5520125b869e28", func := "loop.example/g01140/laws.FnExactUnloadCluster", spec := "fnExactUnloadCluster", unfollowed := true, recurses := true, apart := false, narrowed := true }
def FnExactUnloadClusterUptoSaid : Prop := fnExactUnloadClusterUptoRow.holds Try.pinned (OpenSpec.upto fnExactUnloadClusterSpec)

/-- 'laws.FnExactCodimensionOf', WHERE WHAT IT READS IS OF BULK AT MOST 1048576: true; the input reads as it did. -/
def fnExactCodimensionOfUptoRow : OpenClaim := { program := "ytjobfjgphcaoeaa", sum := "ceac3a3cf5dc9122b6a63f64a7023c7d8eed51feb50b65b2bb5520125b869e28", func := "loop.example/g01140/laws.FnExactCodimensionOf", spec := "fnExactCodimensionOf", unfollowed := true, recurses := true, apart := false, narrowed := true }
def FnExactCodimensionOfUptoSaid : Prop := fnExactCodimensionOfUptoRow.holds Try.pinned (OpenSpec.upto fnExactCodimensionOfSpec)

/-- 'laws.FnExactSquareOfCluster', WHERE WHAT IT READS IS OF BULK AT MOST 1048576: true; the input reads as it did. -/
def fnExactSquareOfClusterUptoRow : OpenClaim := { program := "ytjobfjgphcaoeaa", sum := "ceac3a3cf5dc9122b6a63f64a7023c7d8eed51feb50b65b2bb5520125b869e28", func := "loop.example/g01140/laws.FnExactSquareOfCluster", spec := "fnExactSquareOfCluster", unfollowed := true, recurses := true, apart := false, narrowed := true }
def FnExactSquareOfClusterUptoSaid : Prop := fnExactSquareOfClusterUptoRow.holds Try.pinned (OpenSpec.upto fnExactSquareOfClusterSpec)

/-- 'laws.FnExactMixedProduct', WHERE WHAT IT READS IS OF BULK AT MOST 1048576: true; the input reads as it did. -/
def fnExactMixedProductUptoRow : OpenClaim := { program := "ytjobfjgphcaoeaa", sum := "ceac3a3cf5dc9122b6a63f64a7023c7d8eed51feb50b65b2bb5520125b869e28", func := "loop.example/g01140/laws.FnExactMixedProduct", spec := "fnExactMixedProduct", unfollowed := true, recurses := true, apart := false, narrowed := true }
def FnExactMixedProductUptoSaid : Prop := fnExactMixedProductUptoRow.holds Try.pinned (OpenSpec.upto fnExactMixedProductSpec)

/-- 'laws.FnExactFactorsOf', WHERE WHAT IT READS IS OF BULK AT MOST 1048576: true; the input reads as it did. -/
def fnExactFactorsOfUptoRow : OpenClaim := { program := "ytjobfjgphcaoeaa", sum := "ceac3a3cf5dc9122b6a63f64a7023c7d8eed51feb50b65b2bb5520125b869e28", func := "loop.example/g01140/laws.FnExactFactorsOf", spec := "fnExactFactorsOf", unfollowed := true, recurses := true, apart := false, narrowed := true }
def FnExactFactorsOfUptoSaid : Prop := fnExactFactorsOfUptoRow.holds Try.pinned (OpenSpec.upto fnExactFactorsOfSpec)

/-- 'laws.FnExactPathOf', WHERE WHAT IT READS IS OF BULK AT MOST 1048576: true; the input reads as it did. -/
def fnExactPathOfUptoRow : OpenClaim := { program := "ytjobfjgphcaoeaa", sum := "ceac3a3cf5dc9122b6a63f64a7023c7d8eed51feb50b65b2bb5520125b869e28", func := "loop.example/g01140/laws.FnExactPathOf", spec := "fnExactPathOf", unfollowed := true, recurses := true, apart := false, narrowed := true }
def FnExactPathOfUptoSaid : Prop := fnExactPathOfUptoRow.holds Try.pinned (OpenSpec.upto fnExactPathOfSpec)

/-- 'laws.FnExactPointDiscrepancies', WHERE WHAT IT READS IS OF BULK AT MOST 1048576: true; the input reads as it did. -/
def fnExactPointDiscrepanciesUptoRow : OpenClaim := { program := "ytjobfjgphcaoeaa", sum := "ceac3a3cf5dc9122b6a63f64a7023c7d8eed51feb50b65b2bb5520125b869e28", func := "loop.example/g01140/laws.FnExactPointDiscrepancies", spec := "fnExactPointDiscrepancies", unfollowed := true, recurses := true, apart := false, narrowed := true }
def FnExactPointDiscrepanciesUptoSaid : Prop := fnExactPointDiscrepanciesUptoRow.holds Try.pinned (OpenSpec.upto fnExactPointDiscrepanciesSpec)

/-- 'laws.FnExactMultiplierCluster', WHERE WHAT IT READS IS OF BULK AT MOST 1048576: true; the input reads as it did. -/
def fnExactMultiplierClusterUptoRow : OpenClaim := { program := "ytjobfjgphcaoeaa", sum := "ceac3a3cf5dc9122b6a63f64a7023c7d8eed51feb50b65b2bb5520125b869e28", func := "loop.example/g01140/laws.FnExactMultiplierCluster", spec := "fnExactMultiplierCluster", unfollowed := true, recurses := true, apart := false, narrowed := true }
def FnExactMultiplierClusterUptoSaid : Prop := fnExactMultiplierClusterUptoRow.holds Try.pinned (OpenSpec.upto fnExactMultiplierClusterSpec)

/-- 'laws.FnExactLeastThreshold', WHERE WHAT IT READS IS OF BULK AT MOST 1048576: true; the input reads as it did. -/
def fnExactLeastThresholdUptoRow : OpenClaim := { program := "ytjobfjgphcaoeaa", sum := "ceac3a3cf5dc9122b6a63f64a7023c7d8eed51feb50b65b2bb5520125b869e28", func := "loop.example/g01140/laws.FnExactLeastThreshold", spec := "fnExactLeastThreshold", unfollowed := true, recurses := true, apart := false, narrowed := true }
def FnExactLeastThresholdUptoSaid : Prop := fnExactLeastThresholdUptoRow.holds Try.pinned (OpenSpec.upto fnExactLeastThresholdSpec)

end Rows
end Go.Proofs.Ytjobfjgphcaoeaa
