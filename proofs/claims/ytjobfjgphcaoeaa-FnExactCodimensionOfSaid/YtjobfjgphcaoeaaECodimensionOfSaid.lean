/- For all arguments, impl.CodimensionOf answers as spec.CodimensionOf does, leaves its arguments alone and answers in memory of its own: laws.FnExactCodimensionOf returns true. No condition. -/
import Derived.Test.YtjobfjgphcaoeaaECodimensionOf
import Derived.Test.YtjobfjgphcaoeaaFact
namespace Go.Proofs.Ytjobfjgphcaoeaa
open Go.ChangeShapes Go.WideShapes Go.ChangeAt Go.RowKit
set_option linter.unusedVariables false

set_option maxRecDepth 100000 in
theorem FnExactCodimensionOf_lifted (os : Os) (started : os.Started) (H : Type) (enc : TypeId × Value → H) :
    ReturnsInHanded {} Try.checked os 10 .any (Rows.fnExactCodimensionOfSpec.pre6 enc Try.prog Try.f10 Rows.fnExactCodimensionOfRow.domain false) (Rows.fnExactCodimensionOfSpec.post enc Try.prog Try.f10 false true false false) := by
  refine returnsInHanded_of_change (C := Try.checked) Try.own started (by kernel_rfl) Try.func10
    (ChangeSpec.witness6 (enc := enc) (C := Try.checked) false ⟨#[], #[.agg #[.slice none 0 0, .slice none 0 0, .slice none 0 0]], []⟩ 8 (by kernel_rfl) (by kernel_rfl) (by kernel_rfl) (by kernel_rfl)) ?_
  intro W base args ds gs before hval0 hW hcnd _
  have hval : ∀ (j : Nat) t v, Try.f10.params[j]? = some t → args[j]? = some v → Value.okWide Try.prog W .any base t v := hval0
  have hW' := hW
  have hltW : ∀ x ∈ before, x.block < W.heap.size := fun x hx => by simpa using hW'.lt x hx
  obtain ⟨p, q, hA0, hV, rfl, hfz, hnd⟩ := hW
  have hA : DataW.TrodAll enc Try.prog W 0 (fun _ => true) true Try.f10.params.toList args.toList ds p := hA0
  rw [Try.params10] at hA hval
  obtain ⟨v0, vs0, d0, ds0, p0, q0, hargs, rfl, rfl, h0, r0⟩ := trodAll_cons hA
  obtain ⟨rfl, rfl, rfl⟩ := trodAll_nil r0
  obtain rfl : args = #[v0] := by cases args; simp_all
  obtain ⟨rfl, rfl⟩ := trodVars_none hV
  obtain ⟨A0p, A0s, A0w, n0p, n0s, n0w, c0p, c0s, c0w, z0p, z0s, z0w, rfl, ⟨hr0p, hn0p, hw0p⟩, ⟨hr0s, hn0s, hw0s⟩, ⟨hr0w, hn0w, hw0w⟩⟩ := open_cluster (B := W.heap.size) Try.underlying24 (by kernel_rfl) (by kernel_rfl) ⟨rfl, rfl, rfl⟩ (hval 0 24 v0 rfl rfl) h0 (fun x hx => hltW x (by simp [hx]))
  refine (FnExactCodimensionOf_walk (w := W) A0p n0p c0p z0p hr0p hn0p hw0p A0s n0s c0s z0s hr0s hn0s hw0s A0w n0w c0w z0w hr0w hn0w hw0w).mono fun e W' ⟨he, hb⟩ => ?_
  subst he
  exact ⟨_, rfl, law_post (tb := 4) Try.laidOut (by kernel_rfl) rfl Try.underlying4 rfl rfl hW' hb⟩

/-- The given statement. -/
theorem fnExactCodimensionOf_proved : Rows.FnExactCodimensionOfSaid :=
  OpenClaim.holds_of_wide 10 Try.f10 rfl rfl rfl rfl rfl rfl rfl ⟨rfl, rfl, rfl, rfl, rfl⟩ rfl rfl rfl rfl rfl (by kernel_rfl) Try.func10 (by unfold joinedFacts; exact and2 (and2 (and2 (and2 (and2 (and2 (and2 (by kernel_rfl) seat_enter) (by show (_ == Try.prog.liftsFinal) = true; rw [seat_lifts]; kernel_rfl)) (by show (Try.prog.make == _) = true; rw [seat_make]; kernel_rfl)) (by kernel_rfl)) (by kernel_rfl)) (by kernel_rfl)) (by kernel_rfl))
    (of_decide_eq_true (by kernel_rfl)) (by unfold Func.isWrapper; first | (rw [if_pos (by decide +kernel)]; kernel_rfl) | (rw [if_neg (by decide +kernel)]; exact ⟨rfl, rfl⟩))
    (fun os started H enc _ => FnExactCodimensionOf_lifted os started H enc)
end Go.Proofs.Ytjobfjgphcaoeaa
