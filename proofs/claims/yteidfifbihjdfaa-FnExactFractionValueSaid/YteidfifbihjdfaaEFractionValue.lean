/- For all lists of int64, impl.FractionValue answers as spec.FractionValue does and leaves its argument alone: laws.FnExactFractionValue returns true. No condition. -/
import Derived.Test.YteidfifbihjdfaaFv
import Derived.Test.YteidfifbihjdfaaFrac2
namespace Go.Proofs.Yteidfifbihjdfaa
open Go.ChangeShapes Go.WideShapes Go.ChangeAt Go.RowKit
set_option linter.unusedVariables false
theorem alloc_size (w : World) (o : Obj) : (w.alloc o).heap.size = w.heap.size + 1 := by simp
theorem RI.up {w w' : World} {A : Option Addr} {n : Nat} {zs : List Int} (h : RI w w.heap.size A n zs) (hb : Below w.heap.size w w') : RI w' w'.heap.size A n zs := (h.below hb).more hb.size

theorem FnExactFractionValue_walk (A0 : Option Addr) (n c : Nat) (z0 : List Int) (w : World) (hr : RI w w.heap.size A0 n z0) (hn : n ≤ 9223372036854775807) (hwf : ∀ z ∈ z0, (Lit.int .i64 z).wf = true) :
    Calls Try.prog 8 #[.slice A0 n c] w fun e w' => e = .returned (.bool true) ∧ Below w.heap.size w w' := by
  by_cases hbig : 1048576 < n
  · clear hr hwf
    go_enter Try.func8, Try.ntmps8
    go_wp2
    go_ret
    exact ⟨rfl, Below.refl _ _⟩
  · have HL := Lib.hid hr.1
    have HR := Lib.hid hr
    have HW := Lib.hid hwf
    clear hr hwf
    have tok1 : True := trivial
    have tok2 : True := trivial
    go_enter Try.func8, Try.ntmps8
    go_wp2_with (first
      | (go_at_call 33; have _t := tok1; refine (toInt64S_any A0 n c z0 _ ?_ ?_).mono ?_; (exact HR.out); (omega); rintro e w1 ⟨rfl, hrow1, hb1⟩; have H1 := Lib.hid hrow1; have hs1 := hrow1.lt; clear hrow1 tok1 _t)
      | (go_at_call 30; refine (specFractionValue_any _ n _ z0 w1 ?_ ?_ ?_).mono ?_; (exact RI.of_row H1.out HL.out hs1); (omega); (exact HW.out); rintro e w2 ⟨rfl, hb2⟩; have hz2 := hb2.size; have hk2 : w.heap.size < w2.heap.size := by omega)
      | (go_at_call 33; have _t := tok2; refine (toInt64S_any A0 n c z0 _ ?_ ?_).mono ?_; (refine HR.out.up ?_; exact (by repeat (first | exact Below.refl _ _ | apply below_drewN | apply Below.drew | (refine Below.setCell ?_ (by first | (simp; done) | (simp; omega) | omega) _) | (refine Below.alloc ?_ (by first | exact Nat.le_refl _ | (simp; done) | (simp; omega) | omega) _) | (refine Below.trans ?_ (hb2.mono (by first | exact Nat.le_refl _ | (simp; done) | (simp; omega) | omega))) | (refine Below.trans ?_ (hb1.mono (by first | exact Nat.le_refl _ | (simp; done) | (simp; omega) | omega)))))); (omega); rintro e w3 ⟨rfl, hrow3, hb3⟩; (simp only [alloc_size] at hrow3); have H3 := Lib.hid hrow3; have hs3 := hrow3.lt; (try simp at hs3); obtain ⟨hc3, hf3⟩ := bcellS hb3; have hz3 := hb3.size; (try simp at hz3); (have hk3_0 : w.heap.size < w3.heap.size := by omega); (have hk3_2 : w2.heap.size < w3.heap.size := by omega); clear hrow3 tok2 _t)
      | (go_at_call 21; refine (implFractionValue_any _ n _ z0 w3 ?_ ?_ ?_).mono ?_; (exact RI.of_row H3.out HL.out (by first | omega | (simp; omega))); (omega); (exact HW.out); rintro e w4 ⟨rfl, hb4⟩; obtain ⟨hc4, hf4⟩ := bcellS hb4; have hz4 := hb4.size; (try simp at hz4); (have hk4_0 : w.heap.size < w4.heap.size := by omega); (have hk4_2 : w2.heap.size < w4.heap.size := by omega); (have hk4_3 : w2.heap.size + 1 < w4.heap.size := by omega))
      | (go_at_call 42; refine (eqFraction_same _ _ _).mono ?_; rintro e w5 ⟨rfl, hb5⟩; obtain ⟨hc5, hf5⟩ := bcellS hb5; have hz5 := hb5.size; (try simp at hz5); (have hk5_0 : w.heap.size < w5.heap.size := by omega); (have hk5_2 : w2.heap.size < w5.heap.size := by omega); (have hk5_3 : w2.heap.size + 1 < w5.heap.size := by omega))
      | (go_at_call 33; refine (toInt64S_any A0 n c z0 _ ?_ ?_).mono ?_; (refine HR.out.up ?_; exact (by repeat (first | exact Below.refl _ _ | apply below_drewN | apply Below.drew | (refine Below.setCell ?_ (by first | (simp; done) | (simp; omega) | omega) _) | (refine Below.alloc ?_ (by first | exact Nat.le_refl _ | (simp; done) | (simp; omega) | omega) _) | (refine Below.trans ?_ (hb5.mono (by first | exact Nat.le_refl _ | (simp; done) | (simp; omega) | omega))) | (refine Below.trans ?_ (hb4.mono (by first | exact Nat.le_refl _ | (simp; done) | (simp; omega) | omega))) | (refine Below.trans ?_ (hb3.mono (by first | exact Nat.le_refl _ | (simp; done) | (simp; omega) | omega))) | (refine Below.trans ?_ (hb2.mono (by first | exact Nat.le_refl _ | (simp; done) | (simp; omega) | omega))) | (refine Below.trans ?_ (hb1.mono (by first | exact Nat.le_refl _ | (simp; done) | (simp; omega) | omega)))))); (omega); rintro e w6 ⟨rfl, hrow6, hb6⟩; have H6 := Lib.hid hrow6; have hs6 := hrow6.lt; have hz6 := hb6.size; clear hrow6)
      | (go_at_call 35; refine (eqInt64S_same _ _ n _ _ z0 w6 w6.heap.size ?_ ?_ ?_).mono ?_; (exact RI.more ((RI.of_row (B := w3.heap.size) H3.out HL.out (by first | omega | (simp; omega))).below (by repeat (first | exact Below.refl _ _ | apply below_drewN | apply Below.drew | (refine Below.setCell ?_ (by first | (simp; done) | (simp; omega) | omega) _) | (refine Below.alloc ?_ (by first | exact Nat.le_refl _ | (simp; done) | (simp; omega) | omega) _) | (refine Below.trans ?_ (hb6.mono (by first | exact Nat.le_refl _ | (simp; done) | (simp; omega) | omega))) | (refine Below.trans ?_ (hb5.mono (by first | exact Nat.le_refl _ | (simp; done) | (simp; omega) | omega))) | (refine Below.trans ?_ (hb4.mono (by first | exact Nat.le_refl _ | (simp; done) | (simp; omega) | omega)))))) (by omega)); (exact RI.of_row H6.out HL.out hs6); (omega); rintro e w' ⟨rfl, m3, rfl⟩))
    go_ret
    exact ⟨rfl, (by repeat (first | exact Below.refl _ _ | apply below_drewN | apply Below.drew | (refine Below.setCell ?_ (by first | (simp; done) | (simp; omega) | omega) _) | (refine Below.alloc ?_ (by first | exact Nat.le_refl _ | (simp; done) | (simp; omega) | omega) _) | (refine Below.trans ?_ (hb6.mono (by first | exact Nat.le_refl _ | (simp; done) | (simp; omega) | omega))) | (refine Below.trans ?_ (hb5.mono (by first | exact Nat.le_refl _ | (simp; done) | (simp; omega) | omega))) | (refine Below.trans ?_ (hb4.mono (by first | exact Nat.le_refl _ | (simp; done) | (simp; omega) | omega))) | (refine Below.trans ?_ (hb3.mono (by first | exact Nat.le_refl _ | (simp; done) | (simp; omega) | omega))) | (refine Below.trans ?_ (hb2.mono (by first | exact Nat.le_refl _ | (simp; done) | (simp; omega) | omega))) | (refine Below.trans ?_ (hb1.mono (by first | exact Nat.le_refl _ | (simp; done) | (simp; omega) | omega)))))⟩

set_option maxRecDepth 100000 in
theorem FnExactFractionValue_lifted (os : Os) (started : os.Started) (H : Type) (enc : TypeId × Value → H) :
    ReturnsInHanded {} Try.checked os 8 .any (Rows.fnExactFractionValueSpec.pre6 enc Try.prog Try.f8 Rows.fnExactFractionValueRow.domain false) (Rows.fnExactFractionValueSpec.post enc Try.prog Try.f8 false true false false) := by
  refine returnsInHanded_of_change (C := Try.checked) Try.own started (by kernel_rfl) Try.func8
    (ChangeSpec.witness6 (enc := enc) (C := Try.checked) false ⟨#[], #[.slice none 0 0], []⟩ 8 (by kernel_rfl) (by kernel_rfl) (by kernel_rfl) (by kernel_rfl)) ?_
  intro W base args ds gs before hval0 hW hcnd _
  have hval : ∀ (j : Nat) t v, Try.f8.params[j]? = some t → args[j]? = some v → Value.okWide Try.prog W .any base t v := hval0
  have hW' := hW
  have hltW : ∀ x ∈ before, x.block < W.heap.size := fun x hx => by simpa using hW'.lt x hx
  obtain ⟨p, q, hA0, hV, rfl, hfz, hnd⟩ := hW
  have hA : DataW.TrodAll enc Try.prog W 0 (fun _ => true) true Try.f8.params.toList args.toList ds p := hA0
  rw [Try.params8] at hA hval
  obtain ⟨v0, vs0, d0, ds0, p0, q0, hargs, rfl, rfl, h0, r0⟩ := trodAll_cons hA
  obtain ⟨rfl, rfl, rfl⟩ := trodAll_nil r0
  obtain rfl : args = #[v0] := by cases args; simp_all
  obtain ⟨rfl, rfl⟩ := trodVars_none hV
  obtain ⟨A0, n0, c0, z0, rfl, hr0, hn0, hw0⟩ := open_row_ints (B := W.heap.size) (hval 0 29 v0 rfl rfl) h0 (fun x hx => hltW x (by simp [hx]))
  refine (FnExactFractionValue_walk (w := W) A0 n0 c0 z0 hr0 hn0 hw0).mono fun e W' ⟨he, hb⟩ => ?_
  subst he
  exact ⟨_, rfl, law_post (tb := 4) Try.laidOut (by kernel_rfl) rfl Try.underlying4 rfl rfl hW' hb⟩

/-- The given statement. -/
theorem fnExactFractionValue_proved : Rows.FnExactFractionValueSaid :=
  OpenClaim.holds_of_wide 8 Try.f8 rfl rfl rfl rfl rfl rfl rfl ⟨rfl, rfl, rfl, rfl, rfl⟩ rfl rfl rfl rfl rfl (by kernel_rfl) Try.func8 (by kernel_rfl)
    (of_decide_eq_true (by kernel_rfl)) (by unfold Func.isWrapper; first | (rw [if_pos (by decide +kernel)]; kernel_rfl) | (rw [if_neg (by decide +kernel)]; exact ⟨rfl, rfl⟩))
    (fun os started H enc _ => FnExactFractionValue_lifted os started H enc)
end Go.Proofs.Yteidfifbihjdfaa
