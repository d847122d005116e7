/- For all integers a and b, impl.EuclidSteps answers as spec.EuclidSteps does, in memory of its own: laws.FnExactEuclidSteps returns true. No condition. -/
import Derived.Test.YteidfifbihjdfaaSteps
import Derived.Test.YteidfifbihjdfaaMarksSS
namespace Go.Proofs.Yteidfifbihjdfaa
open Go.ChangeShapes Go.WideShapes Go.ChangeAt Go.RowKit
set_option linter.unusedVariables false

theorem FnExactEuclidSteps_walk (a0 : Int) (w0 : (Lit.int .i64 a0).wf = true) (a1 : Int) (w1 : (Lit.int .i64 a1).wf = true) (w : World) :
    Calls Try.prog 6 #[.int .i64 a0, .int .i64 a1] w fun e w' => e = .returned (.bool true) ∧ Below w.heap.size w w' := by
  clear w0 w1
  have HS := fun W => hideS (specEuclidSteps_any a0 a1 W)
  have HI := fun W => hideS (implEuclidSteps_any a0 a1 W)
  have hlen := esA_len a0 a1
  generalize (esA a0 a1) = L at *
  generalize (esC a0 a1) = C at *
  have hn : L.length ≤ 1099511627776 := by omega
  have hk : 1 + off two L.length ≤ 1099511627776 := by rw [off_two]; omega
  have tok1 : True := trivial
  have tok2 : True := trivial
  have tok3 : True := trivial
  have tok4 : True := trivial
  go_enter Try.func6, Try.ntmps6
  go_wp2_with (first
    | (go_at_call 17; refine (unhideS (HS _)).mono ?_; rintro e w1 ⟨A0, c0, vf0, rfl, hs0, hb1⟩; have O0 := Lib.hid hs0.reads; have B1 := Lib.hid hb1; clear hs0 hb1)
    | (go_at_call 16; have _t := tok1; refine (unhideS (HI _)).mono ?_; rintro e w2 ⟨A1, c1, vf1, rfl, hs1, hb2⟩; have O1 := Lib.hid hs1; have B2 := Lib.hid hb2; have O0b := Lib.hid (O0.out.below B2.out); clear hs1 hb2 tok1 _t)
    | (go_at_call 36; have _t := tok2; refine (eqInt64SS_same A1 A0 L.length c1 c0 (stF L) w2 w2.heap.size ?_ ?_ ?_ ?_).mono ?_; (exact O1.out.reads); (exact O0b.out.more B2.out.size); (omega); (intro k hk; simp [stF]); rintro e w' ⟨rfl, m2, rfl⟩; clear tok2 _t)
    | (go_at_call 37; refine (markSS1 A1 L.length c1 w1.heap.size vf1 two (fun i => (stF L i).map (.int .i64)) _ ?_ hn hk).mono ?_; (exact O1.out.drewN m2); rintro e w3 ⟨rfl, ⟨yf, hy, hym⟩, hg3⟩; have O1m := Lib.hid hy; have M1 := Lib.hid hym; have O0c := Lib.hid ((O0b.out.drewN m2).below hg3); have G3 := Lib.hid hg3; clear hy hym hg3)
    | (go_at_call 38; have _t := tok3; refine (heldSS1 A1 L.length c1 w1.heap.size vf1 two yf w3 ?_ ?_ hn hk).mono ?_; (exact O1m.out); (exact M1.out); rintro e w' ⟨rfl, rfl⟩; clear tok3 _t)
    | (go_at_call 16; refine (unhideS (HI w3)).mono ?_; rintro e w4 ⟨A4, c4, vf4, rfl, hs4, hb4⟩; have O4 := Lib.hid hs4; have B4 := Lib.hid hb4; have S3 := Lib.hid (Nat.le_trans B2.out.size G3.out.size); have O0d := Lib.hid (O0c.out.below (B4.out.mono S3.out)); have O1d := Lib.hid (O1m.out.below B4.out); clear hs4 hb4)
    | (go_at_call 36; have _t := tok4; refine (eqInt64SS_same A4 A0 L.length c4 c0 (stF L) w4 w4.heap.size ?_ ?_ ?_ ?_).mono ?_; (exact O4.out.reads); (exact O0d.out.more (Nat.le_trans S3.out B4.out.size)); (omega); (intro k hk; simp [stF]); rintro e w' ⟨rfl, m4, rfl⟩; clear tok4 _t)
    | (go_at_call 38; refine (heldSS1 A1 L.length c1 w1.heap.size vf1 two yf (w4.drewN m4) ?_ ?_ hn hk).mono ?_; (exact O1d.out.drewN m4); (exact M1.out); rintro e w' ⟨rfl, rfl⟩))
  go_ret
  exact ⟨rfl, below_drewN (((B1.out.trans ((below_drewN B2.out m2).mono B1.out.size)).trans (G3.out.mono B1.out.size)).trans (B4.out.mono (Nat.le_trans B1.out.size S3.out))) m4⟩

set_option maxRecDepth 100000 in
theorem FnExactEuclidSteps_lifted (os : Os) (started : os.Started) (H : Type) (enc : TypeId × Value → H) :
    ReturnsInHanded {} Try.checked os 6 .any (Rows.fnExactEuclidStepsSpec.pre6 enc Try.prog Try.f6 Rows.fnExactEuclidStepsRow.domain false) (Rows.fnExactEuclidStepsSpec.post enc Try.prog Try.f6 false true false false) := by
  refine returnsInHanded_of_change (C := Try.checked) Try.own started (by kernel_rfl) Try.func6
    (ChangeSpec.witness6 (enc := enc) (C := Try.checked) false ⟨#[], #[.int .i64 0, .int .i64 0], []⟩ 8 (by kernel_rfl) (by kernel_rfl) (by kernel_rfl) (by kernel_rfl)) ?_
  intro W base args ds gs before hval0 hW hcnd _
  have hval : ∀ (j : Nat) t v, Try.f6.params[j]? = some t → args[j]? = some v → Value.okWide Try.prog W .any base t v := hval0
  have hW' := hW
  have hltW : ∀ x ∈ before, x.block < W.heap.size := fun x hx => by simpa using hW'.lt x hx
  obtain ⟨p, q, hA0, hV, rfl, hfz, hnd⟩ := hW
  have hA : DataW.TrodAll enc Try.prog W 0 (fun _ => true) true Try.f6.params.toList args.toList ds p := hA0
  rw [Try.params6] at hA hval
  obtain ⟨v0, vs0, d0, ds0, p0, q0, hargs, rfl, rfl, h0, r0⟩ := trodAll_cons hA
  obtain ⟨v1, vs1, d1, ds1, p1, q1, rfl, rfl, rfl, h1, r1⟩ := trodAll_cons r0
  obtain ⟨rfl, rfl, rfl⟩ := trodAll_nil r1
  obtain rfl : args = #[v0, v1] := by cases args; simp_all
  obtain ⟨rfl, rfl⟩ := trodVars_none hV
  obtain ⟨a0, rfl, rfl, rfl, w0⟩ := open_int Try.underlying2 (hval 0 2 v0 rfl rfl) h0
  obtain ⟨a1, rfl, rfl, rfl, w1⟩ := open_int Try.underlying2 (hval 1 2 v1 rfl rfl) h1
  refine (FnExactEuclidSteps_walk (w := W) a0 w0 a1 w1).mono fun e W' ⟨he, hb⟩ => ?_
  subst he
  exact ⟨_, rfl, law_post (tb := 4) Try.laidOut (by kernel_rfl) rfl Try.underlying4 rfl rfl hW' hb⟩

/-- The given statement. -/
theorem fnExactEuclidSteps_proved : Rows.FnExactEuclidStepsSaid :=
  OpenClaim.holds_of_wide 6 Try.f6 rfl rfl rfl rfl rfl rfl rfl ⟨rfl, rfl, rfl, rfl, rfl⟩ rfl rfl rfl rfl rfl (by kernel_rfl) Try.func6 (by kernel_rfl)
    (of_decide_eq_true (by kernel_rfl)) (by unfold Func.isWrapper; first | (rw [if_pos (by decide +kernel)]; kernel_rfl) | (rw [if_neg (by decide +kernel)]; exact ⟨rfl, rfl⟩))
    (fun os started H enc _ => FnExactEuclidSteps_lifted os started H enc)
end Go.Proofs.Yteidfifbihjdfaa
