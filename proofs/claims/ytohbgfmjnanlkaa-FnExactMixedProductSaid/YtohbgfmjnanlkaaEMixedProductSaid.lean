/- For all arguments, impl.MixedProduct answers as spec.MixedProduct does, leaves its arguments alone and answers in memory of its own: laws.FnExactMixedProduct returns true. No condition. -/
import Derived.Test.YtohbgfmjnanlkaaEMixedProduct
import Derived.Test.YtohbgfmjnanlkaaFact
namespace Go.Proofs.Ytohbgfmjnanlkaa
open Go.ChangeShapes Go.WideShapes Go.ChangeAt Go.RowKit
set_option linter.unusedVariables false

set_option maxRecDepth 100000 in
theorem FnExactMixedProduct_lifted (os : Os) (started : os.Started) (H : Type) (enc : TypeId × Value → H) :
    ReturnsInHanded {} Try.checked os 4 .any (Rows.fnExactMixedProductSpec.pre6 enc Try.prog Try.f4 Rows.fnExactMixedProductRow.domain false) (Rows.fnExactMixedProductSpec.post enc Try.prog Try.f4 false true false false) := by
  refine returnsInHanded_of_change (C := Try.checked) Try.own started (by kernel_rfl) Try.func4
    (ChangeSpec.witness6 (enc := enc) (C := Try.checked) false ⟨#[], #[.agg #[.slice none 0 0, .slice none 0 0, .slice none 0 0], .agg #[.slice none 0 0, .slice none 0 0, .slice none 0 0]], []⟩ 8 (by kernel_rfl) (by kernel_rfl) (by kernel_rfl) (by kernel_rfl)) ?_
  intro W base args ds gs before hval0 hW hcnd _
  have hval : ∀ (j : Nat) t v, Try.f4.params[j]? = some t → args[j]? = some v → Value.okWide Try.prog W .any base t v := hval0
  have hW' := hW
  have hltW : ∀ x ∈ before, x.block < W.heap.size := fun x hx => by simpa using hW'.lt x hx
  obtain ⟨p, q, hA0, hV, rfl, hfz, hnd⟩ := hW
  have hA : DataW.TrodAll enc Try.prog W 0 (fun _ => true) true Try.f4.params.toList args.toList ds p := hA0
  rw [Try.params4] at hA hval
  obtain ⟨v0, vs0, d0, ds0, p0, q0, hargs, rfl, rfl, h0, r0⟩ := trodAll_cons hA
  obtain ⟨v1, vs1, d1, ds1, p1, q1, rfl, rfl, rfl, h1, r1⟩ := trodAll_cons r0
  obtain ⟨rfl, rfl, rfl⟩ := trodAll_nil r1
  obtain rfl : args = #[v0, v1] := by cases args; simp_all
  obtain ⟨rfl, rfl⟩ := trodVars_none hV
  obtain ⟨A0p, A0s, A0w, n0p, n0s, n0w, c0p, c0s, c0w, z0p, z0s, z0w, rfl, ⟨hr0p, hn0p, hw0p⟩, ⟨hr0s, hn0s, hw0s⟩, ⟨hr0w, hn0w, hw0w⟩⟩ := open_cluster (B := W.heap.size) Try.underlying33 (by kernel_rfl) (by kernel_rfl) ⟨rfl, rfl, rfl⟩ (hval 0 33 v0 rfl rfl) h0 (fun x hx => hltW x (by simp [hx]))
  obtain ⟨A1p, A1s, A1w, n1p, n1s, n1w, c1p, c1s, c1w, z1p, z1s, z1w, rfl, ⟨hr1p, hn1p, hw1p⟩, ⟨hr1s, hn1s, hw1s⟩, ⟨hr1w, hn1w, hw1w⟩⟩ := open_cluster (B := W.heap.size) Try.underlying33 (by kernel_rfl) (by kernel_rfl) ⟨rfl, rfl, rfl⟩ (hval 1 33 v1 rfl rfl) h1 (fun x hx => hltW x (by simp [hx]))
  refine (FnExactMixedProduct_walk (w := W) A0p n0p c0p z0p hr0p hn0p hw0p A0s n0s c0s z0s hr0s hn0s hw0s A0w n0w c0w z0w hr0w hn0w hw0w A1p n1p c1p z1p hr1p hn1p hw1p A1s n1s c1s z1s hr1s hn1s hw1s A1w n1w c1w z1w hr1w hn1w hw1w).mono fun e W' ⟨he, hb⟩ => ?_
  subst he
  exact ⟨_, rfl, law_post (tb := 4) Try.laidOut (by kernel_rfl) rfl Try.underlying4 rfl rfl hW' hb⟩

/-- The given statement. -/
theorem fnExactMixedProduct_proved : Rows.FnExactMixedProductSaid :=
  OpenClaim.holds_of_wide 4 Try.f4 rfl rfl rfl rfl rfl rfl rfl ⟨rfl, rfl, rfl, rfl, rfl⟩ rfl rfl rfl rfl rfl (by kernel_rfl) Try.func4 (by unfold joinedFacts; exact and2 (and2 (and2 (and2 (and2 (and2 (and2 (by kernel_rfl) seat_enter) (by show (_ == Try.prog.liftsFinal) = true; rw [seat_lifts]; kernel_rfl)) (by show (Try.prog.make == _) = true; rw [seat_make]; kernel_rfl)) (by kernel_rfl)) (by kernel_rfl)) (by kernel_rfl)) (by kernel_rfl))
    (of_decide_eq_true (by kernel_rfl)) (by unfold Func.isWrapper; first | (rw [if_pos (by decide +kernel)]; kernel_rfl) | (rw [if_neg (by decide +kernel)]; exact ⟨rfl, rfl⟩))
    (fun os started H enc _ => FnExactMixedProduct_lifted os started H enc)
end Go.Proofs.Ytohbgfmjnanlkaa
