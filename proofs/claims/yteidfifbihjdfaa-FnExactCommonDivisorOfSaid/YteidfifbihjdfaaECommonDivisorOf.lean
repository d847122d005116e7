/- For all lists of int64, impl.CommonDivisorOf answers as spec.CommonDivisorOf does and leaves its argument alone: laws.FnExactCommonDivisorOf returns true. No condition. -/
import Derived.Test.YteidfifbihjdfaaCdo
namespace Go.Proofs.Yteidfifbihjdfaa
open Go.ChangeShapes Go.WideShapes Go.ChangeAt Go.RowKit
set_option linter.unusedVariables false

theorem FnExactCommonDivisorOf_walk (A0 : Option Addr) (n c : Nat) (z0 : List Int) (w : World) (hr : RI w w.heap.size A0 n z0) (hn : n ≤ 9223372036854775807) (hwf : ∀ z ∈ z0, (Lit.int .i64 z).wf = true) :
    Calls Try.prog 5 #[.slice A0 n c] w fun e w' => e = .returned (.bool true) ∧ Below w.heap.size w w' := by
  by_cases hbig : 1048576 < n
  · clear hr hwf
    go_enter Try.func5, Try.ntmps5
    go_wp2
    go_ret
    exact ⟨rfl, Below.refl _ _⟩
  · have HL := Lib.hid hr.1
    have HR := Lib.hid hr
    have HW := Lib.hid hwf
    clear hr hwf
    go_enter Try.func5, Try.ntmps5
    go_wp2_with (first
      | (go_at_call 33; refine (toInt64S_any A0 n c z0 w HR.out (by omega)).mono ?_; rintro e w1 ⟨rfl, hrow1, hb1⟩; have H1 := Lib.hid hrow1; have hs1 := hrow1.lt; clear hrow1)
      | (go_at_call 32; refine (specCommonDivisorOf_any _ n _ z0 w1 w1.heap.size ?_ (by omega) HW.out).mono ?_; (exact RI.of_row H1.out HL.out hs1); rintro e w' ⟨rfl, m1, rfl⟩)
      | (go_at_call 33; refine (toInt64S_any A0 n c z0 (w1.drewN m1) ?_ (by omega)).mono ?_; (exact ((HR.out.below hb1).drewN m1).more hb1.size); rintro e w2 ⟨rfl, hrow2, hb2⟩; have H2 := Lib.hid hrow2; have hs2 := hrow2.lt; clear hrow2)
      | (go_at_call 34; refine (implCommonDivisorOf_any _ n _ z0 w2 w2.heap.size ?_ (by omega) HW.out).mono ?_; (exact RI.of_row H2.out HL.out hs2); rintro e w' ⟨rfl, m2, rfl⟩)
      | (go_at_call 33; refine (toInt64S_any A0 n c z0 (w2.drewN m2) ?_ (by omega)).mono ?_; (exact ((((HR.out.below hb1).drewN m1).below (hb2.mono hb1.size)).drewN m2).more (Nat.le_trans hb1.size hb2.size)); rintro e w3 ⟨rfl, hrow3, hb3⟩; have H3 := Lib.hid hrow3; have hs3 := hrow3.lt; clear hrow3)
      | (go_at_call 35; refine (eqInt64S_same _ _ n _ _ z0 w3 w3.heap.size ?_ ?_ (by omega)).mono ?_; (exact RI.more (((RI.of_row H2.out HL.out hs2).drewN m2).below (hb3.mono (Nat.le_refl _))) hb3.size); (exact RI.of_row H3.out HL.out hs3); rintro e w' ⟨rfl, m3, rfl⟩))
    go_ret
    exact ⟨rfl, below_drewN ((below_drewN ((below_drewN hb1 m1).trans (hb2.mono hb1.size)) m2).trans (hb3.mono (Nat.le_trans hb1.size hb2.size))) m3⟩

set_option maxRecDepth 100000 in
theorem FnExactCommonDivisorOf_lifted (os : Os) (started : os.Started) (H : Type) (enc : TypeId × Value → H) :
    ReturnsInHanded {} Try.checked os 5 .any (Rows.fnExactCommonDivisorOfSpec.pre6 enc Try.prog Try.f5 Rows.fnExactCommonDivisorOfRow.domain false) (Rows.fnExactCommonDivisorOfSpec.post enc Try.prog Try.f5 false true false false) := by
  refine returnsInHanded_of_change (C := Try.checked) Try.own started (by kernel_rfl) Try.func5
    (ChangeSpec.witness6 (enc := enc) (C := Try.checked) false ⟨#[], #[.slice none 0 0], []⟩ 8 (by kernel_rfl) (by kernel_rfl) (by kernel_rfl) (by kernel_rfl)) ?_
  intro W base args ds gs before hval0 hW hcnd _
  have hval : ∀ (j : Nat) t v, Try.f5.params[j]? = some t → args[j]? = some v → Value.okWide Try.prog W .any base t v := hval0
  have hW' := hW
  have hltW : ∀ x ∈ before, x.block < W.heap.size := fun x hx => by simpa using hW'.lt x hx
  obtain ⟨p, q, hA0, hV, rfl, hfz, hnd⟩ := hW
  have hA : DataW.TrodAll enc Try.prog W 0 (fun _ => true) true Try.f5.params.toList args.toList ds p := hA0
  rw [Try.params5] at hA hval
  obtain ⟨v0, vs0, d0, ds0, p0, q0, hargs, rfl, rfl, h0, r0⟩ := trodAll_cons hA
  obtain ⟨rfl, rfl, rfl⟩ := trodAll_nil r0
  obtain rfl : args = #[v0] := by cases args; simp_all
  obtain ⟨rfl, rfl⟩ := trodVars_none hV
  obtain ⟨A0, n0, c0, z0, rfl, hr0, hn0, hw0⟩ := open_row_ints (B := W.heap.size) (hval 0 29 v0 rfl rfl) h0 (fun x hx => hltW x (by simp [hx]))
  refine (FnExactCommonDivisorOf_walk (w := W) A0 n0 c0 z0 hr0 hn0 hw0).mono fun e W' ⟨he, hb⟩ => ?_
  subst he
  exact ⟨_, rfl, law_post (tb := 4) Try.laidOut (by kernel_rfl) rfl Try.underlying4 rfl rfl hW' hb⟩

/-- The given statement. -/
theorem fnExactCommonDivisorOf_proved : Rows.FnExactCommonDivisorOfSaid :=
  OpenClaim.holds_of_wide 5 Try.f5 rfl rfl rfl rfl rfl rfl rfl ⟨rfl, rfl, rfl, rfl, rfl⟩ rfl rfl rfl rfl rfl (by kernel_rfl) Try.func5 (by kernel_rfl)
    (of_decide_eq_true (by kernel_rfl)) (by unfold Func.isWrapper; first | (rw [if_pos (by decide +kernel)]; kernel_rfl) | (rw [if_neg (by decide +kernel)]; exact ⟨rfl, rfl⟩))
    (fun os started H enc _ => FnExactCommonDivisorOf_lifted os started H enc)
end Go.Proofs.Yteidfifbihjdfaa
