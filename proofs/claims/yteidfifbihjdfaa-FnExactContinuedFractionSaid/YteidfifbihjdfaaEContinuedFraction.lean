/- For all integers a and b, impl.ContinuedFraction answers as spec.ContinuedFraction does, in memory of its own: laws.FnExactContinuedFraction returns true. No condition. -/
import Derived.Test.YteidfifbihjdfaaCf
import Derived.Test.YteidfifbihjdfaaMarks
namespace Go.Proofs.Yteidfifbihjdfaa
open Go.ChangeShapes Go.WideShapes Go.ChangeAt Go.RowKit
set_option linter.unusedVariables false

theorem FnExactContinuedFraction_walk (a0 : Int) (w0 : (Lit.int .i64 a0).wf = true) (a1 : Int) (w1 : (Lit.int .i64 a1).wf = true) (w : World) :
    Calls Try.prog 7 #[.int .i64 a0, .int .i64 a1] w fun e w' => e = .returned (.bool true) ∧ Below w.heap.size w w' := by
  clear w0 w1
  have HS := fun W => hide (Cf.specContinuedFraction_any a0 a1 W)
  have HI := fun W => hide (Cf.implContinuedFraction_any a0 a1 W)
  have hlen := Cf.cfA_len a0 a1
  generalize (Cf.cfA a0 a1) = L at *
  generalize (esC a0 a1) = C at *
  have tok1 : True := trivial
  have tok2 : True := trivial
  have tok3 : True := trivial
  have tok4 : True := trivial
  go_enter Try.func7, Try.ntmps7
  go_wp2_with (first
    | (go_at_call 39; refine (unhide (HS _)).mono ?_; rintro e w1 ⟨A0, c0, rfl, hs0, hb1⟩; have O0 := Lib.hid hs0; have B1 := Lib.hid hb1; clear hs0 hb1)
    | (go_at_call 18; have _t := tok1; refine (unhide (HI _)).mono ?_; rintro e w2 ⟨A1, c1, rfl, hs1, hb2⟩; have O1 := Lib.hid hs1; have B2 := Lib.hid hb2; have O0b := Lib.hid (O0.out.below B2.out); clear hs1 hb2 tok1 _t)
    | (go_at_call 35; have _t := tok2; refine (eqInt64S_same A1 A0 L.length c1 c0 L w2 w2.heap.size ?_ ?_ ?_).mono ?_; (exact O1.out.reads); (exact O0b.out.reads); (omega); rintro e w' ⟨rfl, m2, rfl⟩; clear tok2 _t)
    | (go_at_call 40; refine (mark1 A1 L.length c1 w1.heap.size (L.map (.int .i64)) _ ?_ ?_).mono ?_; (exact O1.out.drewN m2); (omega); rintro e w3 ⟨rfl, ⟨ys, hy, hym⟩, hg3⟩; have O1m := Lib.hid hy; have M1 := Lib.hid hym; have O0c := Lib.hid ((O0b.out.drewN m2).kept hg3 (Own.apart O0.out O1.out (Nat.le_refl _))); have G3 := Lib.hid hg3; clear hy hym hg3)
    | (go_at_call 41; have _t := tok3; refine (held1 A1 L.length c1 w1.heap.size ys w3 ?_ ?_ ?_).mono ?_; (exact O1m.out); (exact M1.out); (omega); rintro e w' ⟨rfl, rfl⟩; clear tok3 _t)
    | (go_at_call 18; refine (unhide (HI w3)).mono ?_; rintro e w4 ⟨A4, c4, rfl, hs4, hb4⟩; have O4 := Lib.hid hs4; have B4 := Lib.hid hb4; have O0d := Lib.hid (O0c.out.below B4.out); have O1d := Lib.hid (O1m.out.below B4.out); clear hs4 hb4)
    | (go_at_call 35; have _t := tok4; refine (eqInt64S_same A4 A0 L.length c4 c0 L w4 w4.heap.size ?_ ?_ ?_).mono ?_; (exact O4.out.reads); (exact O0d.out.reads); (omega); rintro e w' ⟨rfl, m4, rfl⟩; clear tok4 _t)
    | (go_at_call 41; refine (held1 A1 L.length c1 w1.heap.size ys (w4.drewN m4) ?_ ?_ ?_).mono ?_; (exact O1d.out.drewN m4); (exact M1.out); (omega); rintro e w' ⟨rfl, rfl⟩))
  go_ret
  exact ⟨rfl, below_drewN (((B1.out.trans ((below_drewN B2.out m2).mono B1.out.size)).grown G3.out (Nat.le_trans B1.out.size B2.out.size) (fun k hk => Nat.le_trans B1.out.size (O1.out.lt k hk).1)).trans (B4.out.mono (Nat.le_trans B1.out.size (Nat.le_trans B2.out.size G3.out.size)))) m4⟩

set_option maxRecDepth 100000 in
theorem FnExactContinuedFraction_lifted (os : Os) (started : os.Started) (H : Type) (enc : TypeId × Value → H) :
    ReturnsInHanded {} Try.checked os 7 .any (Rows.fnExactContinuedFractionSpec.pre6 enc Try.prog Try.f7 Rows.fnExactContinuedFractionRow.domain false) (Rows.fnExactContinuedFractionSpec.post enc Try.prog Try.f7 false true false false) := by
  refine returnsInHanded_of_change (C := Try.checked) Try.own started (by kernel_rfl) Try.func7
    (ChangeSpec.witness6 (enc := enc) (C := Try.checked) false ⟨#[], #[.int .i64 0, .int .i64 0], []⟩ 8 (by kernel_rfl) (by kernel_rfl) (by kernel_rfl) (by kernel_rfl)) ?_
  intro W base args ds gs before hval0 hW hcnd _
  have hval : ∀ (j : Nat) t v, Try.f7.params[j]? = some t → args[j]? = some v → Value.okWide Try.prog W .any base t v := hval0
  have hW' := hW
  have hltW : ∀ x ∈ before, x.block < W.heap.size := fun x hx => by simpa using hW'.lt x hx
  obtain ⟨p, q, hA0, hV, rfl, hfz, hnd⟩ := hW
  have hA : DataW.TrodAll enc Try.prog W 0 (fun _ => true) true Try.f7.params.toList args.toList ds p := hA0
  rw [Try.params7] at hA hval
  obtain ⟨v0, vs0, d0, ds0, p0, q0, hargs, rfl, rfl, h0, r0⟩ := trodAll_cons hA
  obtain ⟨v1, vs1, d1, ds1, p1, q1, rfl, rfl, rfl, h1, r1⟩ := trodAll_cons r0
  obtain ⟨rfl, rfl, rfl⟩ := trodAll_nil r1
  obtain rfl : args = #[v0, v1] := by cases args; simp_all
  obtain ⟨rfl, rfl⟩ := trodVars_none hV
  obtain ⟨a0, rfl, rfl, rfl, w0⟩ := open_int Try.underlying2 (hval 0 2 v0 rfl rfl) h0
  obtain ⟨a1, rfl, rfl, rfl, w1⟩ := open_int Try.underlying2 (hval 1 2 v1 rfl rfl) h1
  refine (FnExactContinuedFraction_walk (w := W) a0 w0 a1 w1).mono fun e W' ⟨he, hb⟩ => ?_
  subst he
  exact ⟨_, rfl, law_post (tb := 4) Try.laidOut (by kernel_rfl) rfl Try.underlying4 rfl rfl hW' hb⟩

/-- The given statement. -/
theorem fnExactContinuedFraction_proved : Rows.FnExactContinuedFractionSaid :=
  OpenClaim.holds_of_wide 7 Try.f7 rfl rfl rfl rfl rfl rfl rfl ⟨rfl, rfl, rfl, rfl, rfl⟩ rfl rfl rfl rfl rfl (by kernel_rfl) Try.func7 (by kernel_rfl)
    (of_decide_eq_true (by kernel_rfl)) (by unfold Func.isWrapper; first | (rw [if_pos (by decide +kernel)]; kernel_rfl) | (rw [if_neg (by decide +kernel)]; exact ⟨rfl, rfl⟩))
    (fun os started H enc _ => FnExactContinuedFraction_lifted os started H enc)
end Go.Proofs.Yteidfifbihjdfaa
