/- For every list, impl.PolynomialText answers as spec.PolynomialText does and leaves its argument alone: laws.FnExactPolynomialText returns true; the library's tables are tied to the program's text by the card. No further condition. -/
import Derived.Test.YtbipihamkfifjabDoorPt2
import Derived.Test.YtbipihamkfifjabDoorLaw
import Derived.Test.YtbipihamkfifjabDoorCards
import Derived.Test.YtbipihamkfifjabDoorTie
import Derived.Deep.DeepHandedRow
import Derived.Lib.LaidTab
import Derived.LaidSub
namespace Go.Proofs.YtbipihamkfifjabDoor
open Go.ChangeShapes Go.WideShapes Go.ChangeAt Go.RowKit
set_option linter.unusedVariables false

theorem FnExactPolynomialText_walk (w : World) (A0 : Option Addr) (n0 c0 : Nat) (z0 : List Int) (hr0 : RI w w.heap.size A0 n0 z0) (hn0 : n0 ≤ 9223372036854775807) (hw0 : ∀ z ∈ z0, (Lit.int .i64 z).wf = true) (ht : Tab w) :
    Calls Tryd.prog 3 #[.slice A0 n0 c0] w fun e w' => e = .returned (.bool true) ∧ Below w.heap.size w w' := by
  obtain rfl : z0.length = n0 := hr0.1
  by_cases hb0 : 1048576 < z0.length
  · clear hr0 hw0 ht
    go_enter Tryd.func3, Tryd.ntmps3
    go_wp2
    go_ret
    exact ⟨rfl, Below.refl _ _⟩
  have hq0 : z0.length ≤ 1048576 := by omega
  clear hb0 hn0
  have R0 : Hid (ReadW w w.heap.size (.slice A0 z0.length c0) z0) := Lib.hid (ReadW.mk' hr0)
  have HT := Lib.hid ht
  clear hr0 ht
  have HW0 := Lib.hid hw0
  clear hw0
  have HS := fun (W : World) (v0 : Value) (h0 : ReadI W W.heap.size v0 z0) => hid_in (specPolynomialText_any v0 z0 W h0 hq0 HW0.out)
  have HI := fun (W : World) (v0 : Value) (h0 : ReadI W W.heap.size v0 z0) (h1 : Tab W) => hid_in (implPolynomialText_any v0 z0 W h0 hq0 HW0.out h1)
  generalize ptT z0 = K0 at *
  generalize ptC z0 = K1 at *
  go_enter Tryd.func3, Tryd.ntmps3
  go_wp2_with fail
  refine (toI _ z0 w R0.out hq0).mono ?_
  rintro e w1 ⟨x1, rfl, ho, hb⟩
  have O1 := Lib.hid ho; clear ho
  have B1 := Lib.hid hb; have S1 : Hid (w.heap.size ≤ w1.heap.size) := Lib.hid hb.size; clear hb
  have C1 := Lib.hid B1.out
  go_wp2_with fail
  refine (hid_out (HS w1 x1 (O1.out.reads))).mono ?_
  rintro e w2 ⟨rfl, hb⟩
  have B2 := Lib.hid hb; have S2 : Hid (w1.heap.size ≤ w2.heap.size) := Lib.hid hb.size; clear hb
  have C2 := Lib.hid (C1.out.trans (B2.out.mono C1.out.size))
  go_wp2_with fail
  refine (toI _ z0 w2 ((R0.out.below C2.out).more C2.out.size) hq0).mono ?_
  rintro e w3 ⟨x3, rfl, ho, hb⟩
  have O3 := Lib.hid ho; clear ho
  have B3 := Lib.hid hb; have S3 : Hid (w2.heap.size ≤ w3.heap.size) := Lib.hid hb.size; clear hb
  have C3 := Lib.hid (C2.out.trans (B3.out.mono C2.out.size))
  go_wp2_with fail
  refine (hid_out (HI w3 x3 (O3.out.reads) (HT.out.below C3.out))).mono ?_
  rintro e w4 ⟨rfl, hb⟩
  have B4 := Lib.hid hb; have S4 : Hid (w3.heap.size ≤ w4.heap.size) := Lib.hid hb.size; clear hb
  have C4 := Lib.hid (C3.out.trans (B4.out.mono C3.out.size))
  go_wp2_with fail
  refine (toI _ z0 w4 ((R0.out.below C4.out).more C4.out.size) hq0).mono ?_
  rintro e w5 ⟨x5, rfl, ho, hb⟩
  have O5 := Lib.hid ho; clear ho
  have B5 := Lib.hid hb; have S5 : Hid (w4.heap.size ≤ w5.heap.size) := Lib.hid hb.size; clear hb
  have C5 := Lib.hid (C4.out.trans (B5.out.mono C4.out.size))
  go_wp2_with fail
  refine (eqI' _ _ z0 w5 w5.heap.size ((O3.out.kept (Kept.trans (Kept.of_below B4.out (by have s1 := S1.out; have s2 := S2.out; have s3 := S3.out; have s4 := S4.out; have s5 := S5.out; omega)) (Kept.of_below B5.out (by have s1 := S1.out; have s2 := S2.out; have s3 := S3.out; have s4 := S4.out; have s5 := S5.out; omega)))).reads) (O5.out.reads) (by omega)).mono ?_
  rintro e w6 ⟨rfl, hb⟩
  have B6 := Lib.hid hb; have S6 : Hid (w5.heap.size ≤ w6.heap.size) := Lib.hid hb.size; clear hb
  have C6 := Lib.hid (C5.out.trans (B6.out.mono C5.out.size))
  go_wp2_with fail
  go_ret
  exact ⟨rfl, C6.out⟩

theorem cellsPow : Tryd.prog.cellsOf 77 = 20 := by kernel_rfl
theorem cellsU64 : Tryd.prog.cellsOf 68 = 1 := by kernel_rfl
theorem gPowType : (Tryd.prog.globals[0]?).map (·.type) = some 77 := by kernel_rfl
/-- What the row's list gives: the table of powers of ten. -/
theorem tab_of {W : World} (h : laidMetH Tryd.prog Rows.fnExactPolynomialTextRow.laid W) : Tab W := by
  have h1 := laidMetH.filter (fun x => x.1 == "internal/strconv.uint64pow10") h
  have e : Rows.fnExactPolynomialTextRow.laid.filter (fun x => x.1 == "internal/strconv.uint64pow10") = [("internal/strconv.uint64pow10", Lib.tabData .u64 Lib.pow10Tab)] := by kernel_rfl
  rw [e] at h1
  exact Lib.tabIs_of_head (rest := []) gPow gPowType Tryd.underlying77 Tryd.underlying68 cellsU64 cellsPow h1

set_option maxRecDepth 100000 in
theorem FnExactPolynomialText_contract (H : Type) (enc : TypeId × Value → H) (W : World) (base : Nat) (args : Array Value) (ds gs : List (DataW H)) (before : List MemPlace)
    (hval : ∀ (j : Nat) t v, Tryd.f3.params[j]? = some t → args[j]? = some v → Value.okWide Tryd.prog W .any base t v)
    (hW : DataW.Whole enc Tryd.prog Tryd.f3.params.toList Rows.fnExactPolynomialTextSpec.vars false W args.toList ds gs before) (hL : laidMetH Tryd.prog Rows.fnExactPolynomialTextRow.laid W) (hS : W.ShapedOpen Tryd.prog) :
    Calls Tryd.prog 3 args W fun e W' => ∃ v, e = .returned v ∧ Rows.fnExactPolynomialTextSpec.post enc Tryd.prog Tryd.f3 false true false false W args v W' := by
  have hW' := hW
  obtain ⟨p, q, hA0, hV, rfl, hfz, hnd⟩ := hW
  have hA : DataW.TrodAll enc Tryd.prog W 0 (fun _ => true) true Tryd.f3.params.toList args.toList ds p := hA0
  rw [Tryd.params3] at hA hval
  obtain ⟨v0, vs0, d0, ds0, p0, q0, hargs, rfl, rfl, h0, r0⟩ := trodAll_cons hA
  obtain ⟨rfl, rfl, rfl⟩ := trodAll_nil r0
  obtain rfl : args = #[v0] := by cases args; simp_all
  obtain ⟨rfl, rfl⟩ := trodVars_none hV
  obtain ⟨A0, n0, c0, z0, rfl, hr0, hn0, hw0⟩ := open_row_ints (B := W.heap.size) (hval 0 22 v0 rfl rfl) h0 (fun x hx => hW'.lt x (by simp [hx]))
  refine (FnExactPolynomialText_walk W A0 n0 c0 z0 hr0 hn0 hw0 (tab_of hL)).mono fun e W' ⟨he, hb⟩ => ?_
  subst he
  exact ⟨_, rfl, law_post (tb := 4) Tryd.laidOut (by kernel_rfl) rfl Tryd.underlying4 rfl rfl hW' hb⟩

/-- The cells that a list of literals stands for. -/
def litCells : DataW Unit → Array Value
  | .agg l => (l.map fun | .lit (.int k n) => Value.int k n | _ => undef).toArray
  | _ => #[]
/-- For the witness's world: the settled one, the three tables holding what their initialisers lay. -/
def putLits (d : DataW Unit) : Obj → Obj
  | .cells _ t frozen => .cells (litCells d) t frozen
  | o => o
noncomputable def laidWorld (os : Os) : World :=
  { World.holding Tryd.prog os ⟨#[], #[], []⟩ with heap := (((World.holding Tryd.prog os ⟨#[], #[], []⟩).heap.modify 0 (putLits Rows.laid_internal_strconv_uint64pow10)).modify 2 (putLits Rows.laid_math_bits_deBruijn32tab)).modify 3 (putLits Rows.laid_math_bits_deBruijn64tab) }
set_option maxRecDepth 100000 in
theorem laid_met (os : Os) : laidMet Tryd.prog Rows.fnExactPolynomialTextRow.laid ((laidWorld os).forCall (fun _ _ => 0) ⟨#[], #[.slice none 0 0], []⟩).memory :=
  laidMet_of_run' 8 (by kernel_rfl) (by kernel_rfl)
set_option maxRecDepth 100000 in
theorem reads (os : Os) {H : Type} (enc : TypeId × Value → H) : ∃ places, DataW.whole enc Tryd.prog ((laidWorld os).forCall (fun _ _ => 0) ⟨#[], #[.slice none 0 0], []⟩).memory Tryd.f3.params.toList Rows.fnExactPolynomialTextSpec.vars false #[(.slice none 0 0 : Value)].toList 8 = some ([.nil], [], places) :=
  ⟨[], by kernel_rfl⟩

set_option maxRecDepth 100000 in
theorem FnExactPolynomialText_lifted (os : Os) (started : os.Started) (H : Type) (enc : TypeId × Value → H) (F : Stop.Interp) :
    ReturnsInHanded {} Tryd.checked os 3 .any ((OpenSpec.ofChange Rows.fnExactPolynomialTextSpec).preRow enc Tryd.prog Tryd.f3 Rows.fnExactPolynomialTextRow.domain false Rows.fnExactPolynomialTextRow.laid) (((OpenSpec.ofChange Rows.fnExactPolynomialTextSpec).at F).post enc Tryd.prog Tryd.f3 false true false false) := by
  obtain ⟨places, hx⟩ := reads os enc
  refine returnsInHanded_of_row (C := Tryd.checked) (s := OpenSpec.ofChange Rows.fnExactPolynomialTextSpec) Tryd.own started (by kernel_rfl) Tryd.func3
    (witness_row_at (enc := enc) (C := Tryd.checked) false (laidWorld os) #[.slice none 0 0] rfl (by kernel_rfl) (by kernel_rfl) (by kernel_rfl)
      (OpenSpec.preRow_of_cond 8 hx (by kernel_rfl) (fun k hk => by cases hk) (by kernel_rfl) (laid_met os))) ?_
  intro W base args ds gs before hval hW _ _ _ hL hS _
  exact FnExactPolynomialText_contract H enc W base args ds gs before hval hW hL hS

set_option maxRecDepth 100000 in
theorem fnExactPolynomialText_said : Rows.FnExactPolynomialTextSaid :=
  OpenClaim.holds_of_cond 3 Tryd.f3 rfl rfl rfl rfl rfl rfl rfl ⟨rfl, rfl, rfl, rfl, rfl⟩ rfl rfl rfl rfl rfl (by kernel_rfl) Tryd.func3 (by kernel_rfl)
    (of_decide_eq_true (by kernel_rfl)) (by unfold Func.isWrapper; first | (rw [if_pos (by decide +kernel)]; kernel_rfl) | (rw [if_neg (by decide +kernel)]; exact ⟨rfl, rfl⟩))
    (fun os started H enc _ F => by rw [OpenClaim.pre_eq_preRow]; exact FnExactPolynomialText_lifted os started H enc F)

theorem fnExactPolynomialText_plain (g : FuncId) (fn : Func) (hf : Tryd.pinned.checked.prog.funcNamed "loop.example/g01140/laws.FnExactPolynomialText" = some g) (hfn : Tryd.pinned.checked.prog.funcs[g]? = some fn) :
    false = Tryd.pinned.checked.prog.looks [] ∧ ∀ (j : Nat) t, fn.params[j]? = some t → Tryd.pinned.checked.prog.wantsStandIn t = false := by
  obtain rfl : g = 3 := Option.some.inj ((show Tryd.prog.funcNamed "loop.example/g01140/laws.FnExactPolynomialText" = some 3 by kernel_rfl).symm.trans hf) |>.symm
  obtain rfl : fn = Tryd.f3 := (Option.some.inj (Tryd.func3.symm.trans hfn)).symm
  refine ⟨by kernel_rfl, fun j t ht => ?_⟩
  rw [Tryd.params3] at ht
  obtain rfl : t = 22 := by simpa using Array.mem_of_getElem? ht
  exact (show Tryd.prog.wantsStandIn 22 = false by kernel_rfl)

/-- The card: the given statement. -/
theorem fnExactPolynomialText_proved : Rows.FnExactPolynomialTextCardSaid :=
  Claim7.holds_tied_plain_at .later [] _ _ _ _ fnExactPolynomialText_said (fun _ h => by cases h) (by kernel_rfl) (fun _ h => by cases h) fnExactPolynomialText_row_tie rfl ⟨rfl, rfl⟩ (by kernel_rfl) rfl fnExactPolynomialText_plain (by kernel_rfl)
end Go.Proofs.YtbipihamkfifjabDoor
