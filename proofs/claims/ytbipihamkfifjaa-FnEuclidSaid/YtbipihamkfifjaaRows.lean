/-
  No cell of these rows narrows 'for every input' (looked for: loops, veiled, ifaces, maps, wideKeys, modest, calm, conditions, laid).
  DERIVED. THE GIVEN ROWS OF THIS SEAT. 9 by the template 'for every input the law returns true; each argument reads behind the call as it read before'; 0 by the template 'total and deterministic' (their statements: YtbipihamkfifjaaTotals.lean).
  GIVEN WITH THE SEED: the statements are not yours to turn. If you find one false, say at which input.
  Laid BY PROGRAM, IN A SANDBOX (cutbox-rows.mjs): the forced cells as the released guide's own fill.sh prints them over the translation e7dd9d39b2f5fc1b… (all of the seat's roots in one cut). By AI agents, Wed Nov 11 2026. No macro, syntax, notation, axiom, sorry.
-/
import Derived.Test.YtbipihamkfifjaaChecked
import GoSem.Claim
import GoSem.ClaimJoined
import GoSem.ClaimMapViews
import Derived.JoinedTies
import Derived.KernelRfl
namespace Go.Proofs.Ytbipihamkfifjaa
/- THE CELL 'sum', in the pinned program and in every row, IS THE sha256 OF THE DUMP (.gsa) THAT YtbipihamkfifjaaProg.lean LOADS. Nothing in Lean hashes anything: it is a label: what it is worth is what the hold of that sum in a sandbox is worth. -/
noncomputable def Try.pinned : Pinned := { name := "ytbipihamkfifjaa", sum := "e7dd9d39b2f5fc1bcf0c995626b36e3ac2d08b53bae81fa91f64df8b2e1f5411", checked := Try.checked }
namespace Rows
def none {H : Type} : Left H := { results := [], args := [] }

/-- 'laws.FnEuclid': WHATEVER THE INPUT: true; the input reads as it did. -/
def fnEuclidSpec : ChangeSpec := { name := "fnEuclid", fn := fun _ => fun
  | [d] => { results := [.lit (.bool true)], args := [d] }
  | _ => none }
def fnEuclidRow : OpenClaim := { program := "ytbipihamkfifjaa", sum := "e7dd9d39b2f5fc1bcf0c995626b36e3ac2d08b53bae81fa91f64df8b2e1f5411", func := "loop.example/g01140/laws.FnEuclid", spec := "fnEuclid", apart := false }
def FnEuclidSaid : Prop := fnEuclidRow.holds Try.pinned (OpenSpec.ofChange fnEuclidSpec)

/-- ITS FALSE NEIGHBOUR: 'it returns false'. Refute it at one input. -/
def fnEuclidWrong : ChangeSpec := { name := "fnEuclid", fn := fun _ => fun
  | [d] => { results := [.lit (.bool false)], args := [d] }
  | _ => none }
def FnEuclidWrongFalsely : Prop := fnEuclidRow.holds Try.pinned (OpenSpec.ofChange fnEuclidWrong)

/-- 'laws.FnPolynomials': WHATEVER THE INPUT: true; the input reads as it did. -/
def fnPolynomialsSpec : ChangeSpec := { name := "fnPolynomials", fn := fun _ => fun
  | [d] => { results := [.lit (.bool true)], args := [d] }
  | _ => none }
def fnPolynomialsRow : OpenClaim := { program := "ytbipihamkfifjaa", sum := "e7dd9d39b2f5fc1bcf0c995626b36e3ac2d08b53bae81fa91f64df8b2e1f5411", func := "loop.example/g01140/laws.FnPolynomials", spec := "fnPolynomials", leaving := true, apart := false }
def FnPolynomialsSaid : Prop := fnPolynomialsRow.holds Try.pinned (OpenSpec.ofChange fnPolynomialsSpec)

/-- ITS FALSE NEIGHBOUR: 'it returns false'. Refute it at one input. -/
def fnPolynomialsWrong : ChangeSpec := { name := "fnPolynomials", fn := fun _ => fun
  | [d] => { results := [.lit (.bool false)], args := [d] }
  | _ => none }
def FnPolynomialsWrongFalsely : Prop := fnPolynomialsRow.holds Try.pinned (OpenSpec.ofChange fnPolynomialsWrong)

/-- 'laws.FnCyclotomics': WHATEVER THE INPUT: true; the input reads as it did. -/
def fnCyclotomicsSpec : ChangeSpec := { name := "fnCyclotomics", fn := fun _ => fun
  | [d] => { results := [.lit (.bool true)], args := [d] }
  | _ => none }
def fnCyclotomicsRow : OpenClaim := { program := "ytbipihamkfifjaa", sum := "e7dd9d39b2f5fc1bcf0c995626b36e3ac2d08b53bae81fa91f64df8b2e1f5411", func := "loop.example/g01140/laws.FnCyclotomics", spec := "fnCyclotomics", unfollowed := true, recurses := true, leaving := true, apart := false }
def FnCyclotomicsSaid : Prop := fnCyclotomicsRow.holds Try.pinned (OpenSpec.ofChange fnCyclotomicsSpec)

/-- ITS FALSE NEIGHBOUR: 'it returns false'. Refute it at one input. -/
def fnCyclotomicsWrong : ChangeSpec := { name := "fnCyclotomics", fn := fun _ => fun
  | [d] => { results := [.lit (.bool false)], args := [d] }
  | _ => none }
def FnCyclotomicsWrongFalsely : Prop := fnCyclotomicsRow.holds Try.pinned (OpenSpec.ofChange fnCyclotomicsWrong)

/-- 'laws.FnExactIsPolynomial': WHATEVER THE INPUT: true; the input reads as it did. -/
def fnExactIsPolynomialSpec : ChangeSpec := { name := "fnExactIsPolynomial", fn := fun _ => fun
  | [d] => { results := [.lit (.bool true)], args := [d] }
  | _ => none }
def fnExactIsPolynomialRow : OpenClaim := { program := "ytbipihamkfifjaa", sum := "e7dd9d39b2f5fc1bcf0c995626b36e3ac2d08b53bae81fa91f64df8b2e1f5411", func := "loop.example/g01140/laws.FnExactIsPolynomial", spec := "fnExactIsPolynomial", apart := false }
def FnExactIsPolynomialSaid : Prop := fnExactIsPolynomialRow.holds Try.pinned (OpenSpec.ofChange fnExactIsPolynomialSpec)

/-- ITS FALSE NEIGHBOUR: 'it returns false'. Refute it at one input. -/
def fnExactIsPolynomialWrong : ChangeSpec := { name := "fnExactIsPolynomial", fn := fun _ => fun
  | [d] => { results := [.lit (.bool false)], args := [d] }
  | _ => none }
def FnExactIsPolynomialWrongFalsely : Prop := fnExactIsPolynomialRow.holds Try.pinned (OpenSpec.ofChange fnExactIsPolynomialWrong)

/-- 'laws.FnExactAddPolynomials': WHATEVER THE INPUT: true; the input reads as it did. -/
def fnExactAddPolynomialsSpec : ChangeSpec := { name := "fnExactAddPolynomials", fn := fun _ => fun
  | [d1, d2] => { results := [.lit (.bool true)], args := [d1, d2] }
  | _ => none }
def fnExactAddPolynomialsRow : OpenClaim := { program := "ytbipihamkfifjaa", sum := "e7dd9d39b2f5fc1bcf0c995626b36e3ac2d08b53bae81fa91f64df8b2e1f5411", func := "loop.example/g01140/laws.FnExactAddPolynomials", spec := "fnExactAddPolynomials", apart := false }
def FnExactAddPolynomialsSaid : Prop := fnExactAddPolynomialsRow.holds Try.pinned (OpenSpec.ofChange fnExactAddPolynomialsSpec)

/-- ITS FALSE NEIGHBOUR: 'it returns false'. Refute it at one input. -/
def fnExactAddPolynomialsWrong : ChangeSpec := { name := "fnExactAddPolynomials", fn := fun _ => fun
  | [d1, d2] => { results := [.lit (.bool false)], args := [d1, d2] }
  | _ => none }
def FnExactAddPolynomialsWrongFalsely : Prop := fnExactAddPolynomialsRow.holds Try.pinned (OpenSpec.ofChange fnExactAddPolynomialsWrong)

/-- 'laws.FnExactSubtractPolynomials': WHATEVER THE INPUT: true; the input reads as it did. -/
def fnExactSubtractPolynomialsSpec : ChangeSpec := { name := "fnExactSubtractPolynomials", fn := fun _ => fun
  | [d1, d2] => { results := [.lit (.bool true)], args := [d1, d2] }
  | _ => none }
def fnExactSubtractPolynomialsRow : OpenClaim := { program := "ytbipihamkfifjaa", sum := "e7dd9d39b2f5fc1bcf0c995626b36e3ac2d08b53bae81fa91f64df8b2e1f5411", func := "loop.example/g01140/laws.FnExactSubtractPolynomials", spec := "fnExactSubtractPolynomials", apart := false }
def FnExactSubtractPolynomialsSaid : Prop := fnExactSubtractPolynomialsRow.holds Try.pinned (OpenSpec.ofChange fnExactSubtractPolynomialsSpec)

/-- ITS FALSE NEIGHBOUR: 'it returns false'. Refute it at one input. -/
def fnExactSubtractPolynomialsWrong : ChangeSpec := { name := "fnExactSubtractPolynomials", fn := fun _ => fun
  | [d1, d2] => { results := [.lit (.bool false)], args := [d1, d2] }
  | _ => none }
def FnExactSubtractPolynomialsWrongFalsely : Prop := fnExactSubtractPolynomialsRow.holds Try.pinned (OpenSpec.ofChange fnExactSubtractPolynomialsWrong)

/-- 'laws.FnExactMultiplyPolynomials': WHATEVER THE INPUT: true; the input reads as it did. -/
def fnExactMultiplyPolynomialsSpec : ChangeSpec := { name := "fnExactMultiplyPolynomials", fn := fun _ => fun
  | [d1, d2] => { results := [.lit (.bool true)], args := [d1, d2] }
  | _ => none }
def fnExactMultiplyPolynomialsRow : OpenClaim := { program := "ytbipihamkfifjaa", sum := "e7dd9d39b2f5fc1bcf0c995626b36e3ac2d08b53bae81fa91f64df8b2e1f5411", func := "loop.example/g01140/laws.FnExactMultiplyPolynomials", spec := "fnExactMultiplyPolynomials", leaving := true, apart := false }
def FnExactMultiplyPolynomialsSaid : Prop := fnExactMultiplyPolynomialsRow.holds Try.pinned (OpenSpec.ofChange fnExactMultiplyPolynomialsSpec)

/-- ITS FALSE NEIGHBOUR: 'it returns false'. Refute it at one input. -/
def fnExactMultiplyPolynomialsWrong : ChangeSpec := { name := "fnExactMultiplyPolynomials", fn := fun _ => fun
  | [d1, d2] => { results := [.lit (.bool false)], args := [d1, d2] }
  | _ => none }
def FnExactMultiplyPolynomialsWrongFalsely : Prop := fnExactMultiplyPolynomialsRow.holds Try.pinned (OpenSpec.ofChange fnExactMultiplyPolynomialsWrong)

/-- 'laws.FnExactDividePolynomials': WHATEVER THE INPUT: true; the input reads as it did. -/
def fnExactDividePolynomialsSpec : ChangeSpec := { name := "fnExactDividePolynomials", fn := fun _ => fun
  | [d1, d2] => { results := [.lit (.bool true)], args := [d1, d2] }
  | _ => none }
def fnExactDividePolynomialsRow : OpenClaim := { program := "ytbipihamkfifjaa", sum := "e7dd9d39b2f5fc1bcf0c995626b36e3ac2d08b53bae81fa91f64df8b2e1f5411", func := "loop.example/g01140/laws.FnExactDividePolynomials", spec := "fnExactDividePolynomials", apart := false }
def FnExactDividePolynomialsSaid : Prop := fnExactDividePolynomialsRow.holds Try.pinned (OpenSpec.ofChange fnExactDividePolynomialsSpec)

/-- ITS FALSE NEIGHBOUR: 'it returns false'. Refute it at one input. -/
def fnExactDividePolynomialsWrong : ChangeSpec := { name := "fnExactDividePolynomials", fn := fun _ => fun
  | [d1, d2] => { results := [.lit (.bool false)], args := [d1, d2] }
  | _ => none }
def FnExactDividePolynomialsWrongFalsely : Prop := fnExactDividePolynomialsRow.holds Try.pinned (OpenSpec.ofChange fnExactDividePolynomialsWrong)

/-- 'laws.FnExactSubstitutePower': WHATEVER THE INPUT: true; the input reads as it did. -/
def fnExactSubstitutePowerSpec : ChangeSpec := { name := "fnExactSubstitutePower", fn := fun _ => fun
  | [d1, d2] => { results := [.lit (.bool true)], args := [d1, d2] }
  | _ => none }
def fnExactSubstitutePowerRow : OpenClaim := { program := "ytbipihamkfifjaa", sum := "e7dd9d39b2f5fc1bcf0c995626b36e3ac2d08b53bae81fa91f64df8b2e1f5411", func := "loop.example/g01140/laws.FnExactSubstitutePower", spec := "fnExactSubstitutePower", apart := false }
def FnExactSubstitutePowerSaid : Prop := fnExactSubstitutePowerRow.holds Try.pinned (OpenSpec.ofChange fnExactSubstitutePowerSpec)

/-- ITS FALSE NEIGHBOUR: 'it returns false'. Refute it at one input. -/
def fnExactSubstitutePowerWrong : ChangeSpec := { name := "fnExactSubstitutePower", fn := fun _ => fun
  | [d1, d2] => { results := [.lit (.bool false)], args := [d1, d2] }
  | _ => none }
def FnExactSubstitutePowerWrongFalsely : Prop := fnExactSubstitutePowerRow.holds Try.pinned (OpenSpec.ofChange fnExactSubstitutePowerWrong)

/- THE SECOND FORM. 'bulk': how many values and letters a reading holds, each counted each time it is reached (what is shared counts as often as it is met; a slice's spare places count too). A statement '..UptoSaid' is the law's where the arguments, and the package variables that the reading takes, are together of bulk at most 1048576: NARROWER than '..Said'. Prove '..Said' where nothing that the law and all that it calls make is longer than what came in: it says more and counts as full. Else prove '..UptoSaid'. A law counts once. -/
mutual
def uptoBulk {H : Type} : DataW H → Nat
  | .lit (.string bytes) => bytes.length + 1
  | .lit _ => 1
  | .nil => 1
  | .ptr d => uptoBulk d + 1
  | .slice elems spare => uptoBulkAll elems + uptoBulkAll spare + 1
  | .agg parts => uptoBulkAll parts + 1
  | .iface _ d => uptoBulk d + 1
  | .map entries => uptoBulkEntries entries + 1
  | .held _ => 1
def uptoBulkAll {H : Type} : List (DataW H) → Nat
  | [] => 0
  | d :: r => uptoBulk d + uptoBulkAll r
def uptoBulkEntries {H : Type} : List (Lit × DataW H) → Nat
  | [] => 0
  | x :: r => uptoBulkEntry x + uptoBulkEntries r
def uptoBulkEntry {H : Type} : Lit × DataW H → Nat
  | (.string bytes, d) => bytes.length + uptoBulk d + 1
  | (_, d) => uptoBulk d + 1
 end
def uptoSmall : (H : Type) → List (DataW H) → Bool := fun _ ds => decide (uptoBulkAll ds ≤ 1048576)
def OpenSpec.upto (s : _root_.Go.ChangeSpec) : _root_.Go.OpenSpec := { _root_.Go.OpenSpec.ofChange s with cond := some uptoSmall }

/-- 'laws.FnEuclid', WHERE WHAT IT READS IS OF BULK AT MOST 1048576: true; the input reads as it did. -/
def fnEuclidUptoRow : OpenClaim := { program := "ytbipihamkfifjaa", sum := "e7dd9d39b2f5fc1bcf0c995626b36e3ac2d08b53bae81fa91f64df8b2e1f5411", func := "loop.example/g01140/laws.FnEuclid", spec := "fnEuclid", apart := false, narrowed := true }
def FnEuclidUptoSaid : Prop := fnEuclidUptoRow.holds Try.pinned (OpenSpec.upto fnEuclidSpec)

/-- 'laws.FnPolynomials', WHERE WHAT IT READS IS OF BULK AT MOST 1048576: true; the input reads as it did. -/
def fnPolynomialsUptoRow : OpenClaim := { program := "ytbipihamkfifjaa", sum := "e7dd9d39b2f5fc1bcf0c995626b36e3ac2d08b53bae81fa91f64df8b2e1f5411", func := "loop.example/g01140/laws.FnPolynomials", spec := "fnPolynomials", leaving := true, apart := false, narrowed := true }
def FnPolynomialsUptoSaid : Prop := fnPolynomialsUptoRow.holds Try.pinned (OpenSpec.upto fnPolynomialsSpec)

/-- 'laws.FnCyclotomics', WHERE WHAT IT READS IS OF BULK AT MOST 1048576: true; the input reads as it did. -/
def fnCyclotomicsUptoRow : OpenClaim := { program := "ytbipihamkfifjaa", sum := "e7dd9d39b2f5fc1bcf0c995626b36e3ac2d08b53bae81fa91f64df8b2e1f5411", func := "loop.example/g01140/laws.FnCyclotomics", spec := "fnCyclotomics", unfollowed := true, recurses := true, leaving := true, apart := false, narrowed := true }
def FnCyclotomicsUptoSaid : Prop := fnCyclotomicsUptoRow.holds Try.pinned (OpenSpec.upto fnCyclotomicsSpec)

/-- 'laws.FnExactIsPolynomial', WHERE WHAT IT READS IS OF BULK AT MOST 1048576: true; the input reads as it did. -/
def fnExactIsPolynomialUptoRow : OpenClaim := { program := "ytbipihamkfifjaa", sum := "e7dd9d39b2f5fc1bcf0c995626b36e3ac2d08b53bae81fa91f64df8b2e1f5411", func := "loop.example/g01140/laws.FnExactIsPolynomial", spec := "fnExactIsPolynomial", apart := false, narrowed := true }
def FnExactIsPolynomialUptoSaid : Prop := fnExactIsPolynomialUptoRow.holds Try.pinned (OpenSpec.upto fnExactIsPolynomialSpec)

/-- 'laws.FnExactAddPolynomials', WHERE WHAT IT READS IS OF BULK AT MOST 1048576: true; the input reads as it did. -/
def fnExactAddPolynomialsUptoRow : OpenClaim := { program := "ytbipihamkfifjaa", sum := "e7dd9d39b2f5fc1bcf0c995626b36e3ac2d08b53bae81fa91f64df8b2e1f5411", func := "loop.example/g01140/laws.FnExactAddPolynomials", spec := "fnExactAddPolynomials", apart := false, narrowed := true }
def FnExactAddPolynomialsUptoSaid : Prop := fnExactAddPolynomialsUptoRow.holds Try.pinned (OpenSpec.upto fnExactAddPolynomialsSpec)

/-- 'laws.FnExactSubtractPolynomials', WHERE WHAT IT READS IS OF BULK AT MOST 1048576: true; the input reads as it did. -/
def fnExactSubtractPolynomialsUptoRow : OpenClaim := { program := "ytbipihamkfifjaa", sum := "e7dd9d39b2f5fc1bcf0c995626b36e3ac2d08b53bae81fa91f64df8b2e1f5411", func := "loop.example/g01140/laws.FnExactSubtractPolynomials", spec := "fnExactSubtractPolynomials", apart := false, narrowed := true }
def FnExactSubtractPolynomialsUptoSaid : Prop := fnExactSubtractPolynomialsUptoRow.holds Try.pinned (OpenSpec.upto fnExactSubtractPolynomialsSpec)

/-- 'laws.FnExactMultiplyPolynomials', WHERE WHAT IT READS IS OF BULK AT MOST 1048576: true; the input reads as it did. -/
def fnExactMultiplyPolynomialsUptoRow : OpenClaim := { program := "ytbipihamkfifjaa", sum := "e7dd9d39b2f5fc1bcf0c995626b36e3ac2d08b53bae81fa91f64df8b2e1f5411", func := "loop.example/g01140/laws.FnExactMultiplyPolynomials", spec := "fnExactMultiplyPolynomials", leaving := true, apart := false, narrowed := true }
def FnExactMultiplyPolynomialsUptoSaid : Prop := fnExactMultiplyPolynomialsUptoRow.holds Try.pinned (OpenSpec.upto fnExactMultiplyPolynomialsSpec)

/-- 'laws.FnExactDividePolynomials', WHERE WHAT IT READS IS OF BULK AT MOST 1048576: true; the input reads as it did. -/
def fnExactDividePolynomialsUptoRow : OpenClaim := { program := "ytbipihamkfifjaa", sum := "e7dd9d39b2f5fc1bcf0c995626b36e3ac2d08b53bae81fa91f64df8b2e1f5411", func := "loop.example/g01140/laws.FnExactDividePolynomials", spec := "fnExactDividePolynomials", apart := false, narrowed := true }
def FnExactDividePolynomialsUptoSaid : Prop := fnExactDividePolynomialsUptoRow.holds Try.pinned (OpenSpec.upto fnExactDividePolynomialsSpec)

/-- 'laws.FnExactSubstitutePower', WHERE WHAT IT READS IS OF BULK AT MOST 1048576: true; the input reads as it did. -/
def fnExactSubstitutePowerUptoRow : OpenClaim := { program := "ytbipihamkfifjaa", sum := "e7dd9d39b2f5fc1bcf0c995626b36e3ac2d08b53bae81fa91f64df8b2e1f5411", func := "loop.example/g01140/laws.FnExactSubstitutePower", spec := "fnExactSubstitutePower", apart := false, narrowed := true }
def FnExactSubstitutePowerUptoSaid : Prop := fnExactSubstitutePowerUptoRow.holds Try.pinned (OpenSpec.upto fnExactSubstitutePowerSpec)

end Rows
end Go.Proofs.Ytbipihamkfifjaa
