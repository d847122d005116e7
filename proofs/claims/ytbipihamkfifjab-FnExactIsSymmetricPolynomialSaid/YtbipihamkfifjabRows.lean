/-
  No cell of these rows narrows 'for every input' (looked for: loops, veiled, ifaces, maps, wideKeys, modest, calm, conditions, laid).
  DERIVED. THE GIVEN ROWS OF THIS SEAT. 6 by the template 'for every input the law returns true; each argument reads behind the call as it read before'; 0 by the template 'total and deterministic' (their statements: YtbipihamkfifjabTotals.lean).
  GIVEN WITH THE SEED: the statements are not yours to turn. If you find one false, say at which input.
  Laid BY PROGRAM, IN A SANDBOX (cutbox-rows.mjs): the forced cells as the released guide's own fill.sh prints them over the translation 365f0ca907b8327a… (all of the seat's roots in one cut). By AI agents, Wed Nov 11 2026. No macro, syntax, notation, axiom, sorry.
-/
import Derived.Test.YtbipihamkfifjabChecked
import GoSem.Claim
import GoSem.ClaimJoined
import GoSem.ClaimMapViews
import Derived.JoinedTies
import Derived.KernelRfl
namespace Go.Proofs.Ytbipihamkfifjab
/- THE CELL 'sum', in the pinned program and in every row, IS THE sha256 OF THE DUMP (.gsa) THAT YtbipihamkfifjabProg.lean LOADS. Nothing in Lean hashes anything: it is a label: what it is worth is what the hold of that sum in a sandbox is worth. -/
noncomputable def Try.pinned : Pinned := { name := "ytbipihamkfifjab", sum := "365f0ca907b8327aba4b38aa202ce6e568ced234d3e3b6a561f6f3c8256c3f84", checked := Try.checked }
namespace Rows
def none {H : Type} : Left H := { results := [], args := [] }

/-- 'laws.FnExactEvaluatePolynomial': WHATEVER THE INPUT: true; the input reads as it did. -/
def fnExactEvaluatePolynomialSpec : ChangeSpec := { name := "fnExactEvaluatePolynomial", fn := fun _ => fun
  | [d1, d2] => { results := [.lit (.bool true)], args := [d1, d2] }
  | _ => none }
def fnExactEvaluatePolynomialRow : OpenClaim := { program := "ytbipihamkfifjab", sum := "365f0ca907b8327aba4b38aa202ce6e568ced234d3e3b6a561f6f3c8256c3f84", func := "loop.example/g01140/laws.FnExactEvaluatePolynomial", spec := "fnExactEvaluatePolynomial", apart := false }
def FnExactEvaluatePolynomialSaid : Prop := fnExactEvaluatePolynomialRow.holds Try.pinned (OpenSpec.ofChange fnExactEvaluatePolynomialSpec)

/-- ITS FALSE NEIGHBOUR: 'it returns false'. Refute it at one input. -/
def fnExactEvaluatePolynomialWrong : ChangeSpec := { name := "fnExactEvaluatePolynomial", fn := fun _ => fun
  | [d1, d2] => { results := [.lit (.bool false)], args := [d1, d2] }
  | _ => none }
def FnExactEvaluatePolynomialWrongFalsely : Prop := fnExactEvaluatePolynomialRow.holds Try.pinned (OpenSpec.ofChange fnExactEvaluatePolynomialWrong)

/-- 'laws.FnExactReversePolynomial': WHATEVER THE INPUT: true; the input reads as it did. -/
def fnExactReversePolynomialSpec : ChangeSpec := { name := "fnExactReversePolynomial", fn := fun _ => fun
  | [d] => { results := [.lit (.bool true)], args := [d] }
  | _ => none }
def fnExactReversePolynomialRow : OpenClaim := { program := "ytbipihamkfifjab", sum := "365f0ca907b8327aba4b38aa202ce6e568ced234d3e3b6a561f6f3c8256c3f84", func := "loop.example/g01140/laws.FnExactReversePolynomial", spec := "fnExactReversePolynomial", apart := false }
def FnExactReversePolynomialSaid : Prop := fnExactReversePolynomialRow.holds Try.pinned (OpenSpec.ofChange fnExactReversePolynomialSpec)

/-- ITS FALSE NEIGHBOUR: 'it returns false'. Refute it at one input. -/
def fnExactReversePolynomialWrong : ChangeSpec := { name := "fnExactReversePolynomial", fn := fun _ => fun
  | [d] => { results := [.lit (.bool false)], args := [d] }
  | _ => none }
def FnExactReversePolynomialWrongFalsely : Prop := fnExactReversePolynomialRow.holds Try.pinned (OpenSpec.ofChange fnExactReversePolynomialWrong)

/-- 'laws.FnExactIsSymmetricPolynomial': WHATEVER THE INPUT: true; the input reads as it did. -/
def fnExactIsSymmetricPolynomialSpec : ChangeSpec := { name := "fnExactIsSymmetricPolynomial", fn := fun _ => fun
  | [d] => { results := [.lit (.bool true)], args := [d] }
  | _ => none }
def fnExactIsSymmetricPolynomialRow : OpenClaim := { program := "ytbipihamkfifjab", sum := "365f0ca907b8327aba4b38aa202ce6e568ced234d3e3b6a561f6f3c8256c3f84", func := "loop.example/g01140/laws.FnExactIsSymmetricPolynomial", spec := "fnExactIsSymmetricPolynomial", apart := false }
def FnExactIsSymmetricPolynomialSaid : Prop := fnExactIsSymmetricPolynomialRow.holds Try.pinned (OpenSpec.ofChange fnExactIsSymmetricPolynomialSpec)

/-- ITS FALSE NEIGHBOUR: 'it returns false'. Refute it at one input. -/
def fnExactIsSymmetricPolynomialWrong : ChangeSpec := { name := "fnExactIsSymmetricPolynomial", fn := fun _ => fun
  | [d] => { results := [.lit (.bool false)], args := [d] }
  | _ => none }
def FnExactIsSymmetricPolynomialWrongFalsely : Prop := fnExactIsSymmetricPolynomialRow.holds Try.pinned (OpenSpec.ofChange fnExactIsSymmetricPolynomialWrong)

/-- 'laws.FnExactCyclotomicPolynomial': WHATEVER THE INPUT: true; the input reads as it did. -/
def fnExactCyclotomicPolynomialSpec : ChangeSpec := { name := "fnExactCyclotomicPolynomial", fn := fun _ => fun
  | [d] => { results := [.lit (.bool true)], args := [d] }
  | _ => none }
def fnExactCyclotomicPolynomialRow : OpenClaim := { program := "ytbipihamkfifjab", sum := "365f0ca907b8327aba4b38aa202ce6e568ced234d3e3b6a561f6f3c8256c3f84", func := "loop.example/g01140/laws.FnExactCyclotomicPolynomial", spec := "fnExactCyclotomicPolynomial", apart := false }
def FnExactCyclotomicPolynomialSaid : Prop := fnExactCyclotomicPolynomialRow.holds Try.pinned (OpenSpec.ofChange fnExactCyclotomicPolynomialSpec)

/-- ITS FALSE NEIGHBOUR: 'it returns false'. Refute it at one input. -/
def fnExactCyclotomicPolynomialWrong : ChangeSpec := { name := "fnExactCyclotomicPolynomial", fn := fun _ => fun
  | [d] => { results := [.lit (.bool false)], args := [d] }
  | _ => none }
def FnExactCyclotomicPolynomialWrongFalsely : Prop := fnExactCyclotomicPolynomialRow.holds Try.pinned (OpenSpec.ofChange fnExactCyclotomicPolynomialWrong)

/-- 'laws.FnExactCyclotomicFactors': WHATEVER THE INPUT: true; the input reads as it did. -/
def fnExactCyclotomicFactorsSpec : ChangeSpec := { name := "fnExactCyclotomicFactors", fn := fun _ => fun
  | [d] => { results := [.lit (.bool true)], args := [d] }
  | _ => none }
def fnExactCyclotomicFactorsRow : OpenClaim := { program := "ytbipihamkfifjab", sum := "365f0ca907b8327aba4b38aa202ce6e568ced234d3e3b6a561f6f3c8256c3f84", func := "loop.example/g01140/laws.FnExactCyclotomicFactors", spec := "fnExactCyclotomicFactors", apart := false }
def FnExactCyclotomicFactorsSaid : Prop := fnExactCyclotomicFactorsRow.holds Try.pinned (OpenSpec.ofChange fnExactCyclotomicFactorsSpec)

/-- ITS FALSE NEIGHBOUR: 'it returns false'. Refute it at one input. -/
def fnExactCyclotomicFactorsWrong : ChangeSpec := { name := "fnExactCyclotomicFactors", fn := fun _ => fun
  | [d] => { results := [.lit (.bool false)], args := [d] }
  | _ => none }
def FnExactCyclotomicFactorsWrongFalsely : Prop := fnExactCyclotomicFactorsRow.holds Try.pinned (OpenSpec.ofChange fnExactCyclotomicFactorsWrong)

/-- 'laws.FnExactBinomialProduct': WHATEVER THE INPUT: true; the input reads as it did. -/
def fnExactBinomialProductSpec : ChangeSpec := { name := "fnExactBinomialProduct", fn := fun _ => fun
  | [d] => { results := [.lit (.bool true)], args := [d] }
  | _ => none }
def fnExactBinomialProductRow : OpenClaim := { program := "ytbipihamkfifjab", sum := "365f0ca907b8327aba4b38aa202ce6e568ced234d3e3b6a561f6f3c8256c3f84", func := "loop.example/g01140/laws.FnExactBinomialProduct", spec := "fnExactBinomialProduct", unfollowed := true, recurses := true, leaving := true, apart := false }
def FnExactBinomialProductSaid : Prop := fnExactBinomialProductRow.holds Try.pinned (OpenSpec.ofChange fnExactBinomialProductSpec)

/-- ITS FALSE NEIGHBOUR: 'it returns false'. Refute it at one input. -/
def fnExactBinomialProductWrong : ChangeSpec := { name := "fnExactBinomialProduct", fn := fun _ => fun
  | [d] => { results := [.lit (.bool false)], args := [d] }
  | _ => none }
def FnExactBinomialProductWrongFalsely : Prop := fnExactBinomialProductRow.holds Try.pinned (OpenSpec.ofChange fnExactBinomialProductWrong)

/- THE SECOND FORM. 'bulk': how many values and letters a reading holds, each counted each time it is reached (what is shared counts as often as it is met; a slice's spare places count too). A statement '..UptoSaid' is the law's where the arguments, and the package variables that the reading takes, are together of bulk at most 1048576: NARROWER than '..Said'. Prove '..Said' where nothing that the law and all that it calls make is longer than what came in: it says more and counts as full. Else prove '..UptoSaid'. A law counts once. -/
mutual
def uptoBulk {H : Type} : DataW H → Nat
  | .lit (.string bytes) => bytes.length + 1
  | .lit _ => 1
  | .nil => 1
  | .ptr d => uptoBulk d + 1
  | .slice elems spare => uptoBulkAll elems + uptoBulkAll spare + 1
  | .agg parts => uptoBulkAll parts + 1
  | .iface _ d => uptoBulk d + 1
  | .map entries => uptoBulkEntries entries + 1
  | .held _ => 1
def uptoBulkAll {H : Type} : List (DataW H) → Nat
  | [] => 0
  | d :: r => uptoBulk d + uptoBulkAll r
def uptoBulkEntries {H : Type} : List (Lit × DataW H) → Nat
  | [] => 0
  | x :: r => uptoBulkEntry x + uptoBulkEntries r
def uptoBulkEntry {H : Type} : Lit × DataW H → Nat
  | (.string bytes, d) => bytes.length + uptoBulk d + 1
  | (_, d) => uptoBulk d + 1
 end
def uptoSmall : (H : Type) → List (DataW H) → Bool := fun _ ds => decide (uptoBulkAll ds ≤ 1048576)
def OpenSpec.upto (s : _root_.Go.ChangeSpec) : _root_.Go.OpenSpec := { _root_.Go.OpenSpec.ofChange s with cond := some uptoSmall }

/-- 'laws.FnExactEvaluatePolynomial', WHERE WHAT IT READS IS OF BULK AT MOST 1048576: true; the input reads as it did. -/
def fnExactEvaluatePolynomialUptoRow : OpenClaim := { program := "ytbipihamkfifjab", sum := "365f0ca907b8327aba4b38aa202ce6e568ced234d3e3b6a561f6f3c8256c3f84", func := "loop.example/g01140/laws.FnExactEvaluatePolynomial", spec := "fnExactEvaluatePolynomial", apart := false, narrowed := true }
def FnExactEvaluatePolynomialUptoSaid : Prop := fnExactEvaluatePolynomialUptoRow.holds Try.pinned (OpenSpec.upto fnExactEvaluatePolynomialSpec)

/-- 'laws.FnExactReversePolynomial', WHERE WHAT IT READS IS OF BULK AT MOST 1048576: true; the input reads as it did. -/
def fnExactReversePolynomialUptoRow : OpenClaim := { program := "ytbipihamkfifjab", sum := "365f0ca907b8327aba4b38aa202ce6e568ced234d3e3b6a561f6f3c8256c3f84", func := "loop.example/g01140/laws.FnExactReversePolynomial", spec := "fnExactReversePolynomial", apart := false, narrowed := true }
def FnExactReversePolynomialUptoSaid : Prop := fnExactReversePolynomialUptoRow.holds Try.pinned (OpenSpec.upto fnExactReversePolynomialSpec)

/-- 'laws.FnExactIsSymmetricPolynomial', WHERE WHAT IT READS IS OF BULK AT MOST 1048576: true; the input reads as it did. -/
def fnExactIsSymmetricPolynomialUptoRow : OpenClaim := { program := "ytbipihamkfifjab", sum := "365f0ca907b8327aba4b38aa202ce6e568ced234d3e3b6a561f6f3c8256c3f84", func := "loop.example/g01140/laws.FnExactIsSymmetricPolynomial", spec := "fnExactIsSymmetricPolynomial", apart := false, narrowed := true }
def FnExactIsSymmetricPolynomialUptoSaid : Prop := fnExactIsSymmetricPolynomialUptoRow.holds Try.pinned (OpenSpec.upto fnExactIsSymmetricPolynomialSpec)

/-- 'laws.FnExactCyclotomicPolynomial', WHERE WHAT IT READS IS OF BULK AT MOST 1048576: true; the input reads as it did. -/
def fnExactCyclotomicPolynomialUptoRow : OpenClaim := { program := "ytbipihamkfifjab", sum := "365f0ca907b8327aba4b38aa202ce6e568ced234d3e3b6a561f6f3c8256c3f84", func := "loop.example/g01140/laws.FnExactCyclotomicPolynomial", spec := "fnExactCyclotomicPolynomial", apart := false, narrowed := true }
def FnExactCyclotomicPolynomialUptoSaid : Prop := fnExactCyclotomicPolynomialUptoRow.holds Try.pinned (OpenSpec.upto fnExactCyclotomicPolynomialSpec)

/-- 'laws.FnExactCyclotomicFactors', WHERE WHAT IT READS IS OF BULK AT MOST 1048576: true; the input reads as it did. -/
def fnExactCyclotomicFactorsUptoRow : OpenClaim := { program := "ytbipihamkfifjab", sum := "365f0ca907b8327aba4b38aa202ce6e568ced234d3e3b6a561f6f3c8256c3f84", func := "loop.example/g01140/laws.FnExactCyclotomicFactors", spec := "fnExactCyclotomicFactors", apart := false, narrowed := true }
def FnExactCyclotomicFactorsUptoSaid : Prop := fnExactCyclotomicFactorsUptoRow.holds Try.pinned (OpenSpec.upto fnExactCyclotomicFactorsSpec)

/-- 'laws.FnExactBinomialProduct', WHERE WHAT IT READS IS OF BULK AT MOST 1048576: true; the input reads as it did. -/
def fnExactBinomialProductUptoRow : OpenClaim := { program := "ytbipihamkfifjab", sum := "365f0ca907b8327aba4b38aa202ce6e568ced234d3e3b6a561f6f3c8256c3f84", func := "loop.example/g01140/laws.FnExactBinomialProduct", spec := "fnExactBinomialProduct", unfollowed := true, recurses := true, leaving := true, apart := false, narrowed := true }
def FnExactBinomialProductUptoSaid : Prop := fnExactBinomialProductUptoRow.holds Try.pinned (OpenSpec.upto fnExactBinomialProductSpec)

end Rows
end Go.Proofs.Ytbipihamkfifjab
