/- Words for laws.FnBlocks. Conditions: stated at each theorem. -/
import Derived.Test.YtncgkoanckefmaaFnBm
namespace Go.Proofs.Ytncgkoanckefmaa
open Go.ChangeShapes Go.WideShapes Go.ChangeAt Go.RowKit
set_option linter.unusedVariables false

theorem seq_range {L : List Int} (h : brB L = true) : ∀ z ∈ seqL L, 1 ≤ z ∧ z ≤ 64 := fun z hz => by
  obtain ⟨p, hp1, hp2⟩ := List.mem_flatMap.1 hz
  have h5 := (rsI_ok h).1 p hp1
  have h6 := (List.mem_replicate.1 hp2).2
  subst h6
  exact h5.2
theorem dA_half {L : List Int} (h : brB L = true) : dA L = sumF halfF (seqL L) := by
  rw [dA, if_pos h, seqL, fl_half (rsI_ok h).1]
theorem uA_more {L : List Int} (h : brB L = true) : uA L = sumF moreF (seqL L) := by
  rw [uA, if_pos h, seqL, fl_more (rsI_ok h).1]
theorem half_in {x : Int} (h : 1 ≤ x ∧ x ≤ 64) : 0 ≤ halfF x ∧ halfF x ≤ 2016 ∧ (x * (x - 1)).tdiv 2 = halfF x ∧ 0 ≤ x * (x - 1) ∧ x * (x - 1) ≤ 4032 := by
  have h1 := halfR h
  unfold halfF
  rw [Int.tdiv_eq_ediv_of_nonneg h1.1]
  omega
theorem more_in (x : Int) : 0 ≤ moreF x ∧ moreF x ≤ 1 := by unfold moreF; split <;> omega
theorem sum_in (f : Int → Int) (b : Int) : ∀ (xs : List Int), (∀ z ∈ xs, 0 ≤ f z ∧ f z ≤ b) → 0 ≤ sumF f xs ∧ sumF f xs ≤ b * xs.length := fun xs h => sumL_bound f b xs h
theorem sum_take {f : Int → Int} {xs : List Int} {q : Nat} (h : q < xs.length) : sumF f (xs.take (q + 1)) = sumF f (xs.take q) + f (xs[q]?.getD 0) := by
  rw [List.take_succ_eq_append_getElem h, sumF_snoc]
  simp [h]
theorem two_at {w : World} {B N c i : Nat} {A : Option Addr} {xs : List Int} (h : ReadQ w B (.slice A N c) (bkQ xs)) (hN : (bkL xs).length = N) (hi : i < N) :
    ∃ g o gi oi ci, A = some ⟨g, o, none⟩ ∧ w.cell? ⟨g, o + i, none⟩ = some (.slice (some ⟨gi, oi, none⟩) 2 ci) ∧ w.cell? ⟨gi, oi, none⟩ = some (.int .i64 ((bkL xs).getD i (0, 0)).1) ∧ w.cell? ⟨gi, oi + 1, none⟩ = some (.int .i64 ((bkL xs).getD i (0, 0)).2) := by
  obtain ⟨A', c', e, h1, _, _, h2, _⟩ := h
  have hl : (bkQ xs).length = N := by simp [bkQ, hN]
  rw [hl] at e h1
  cases e
  obtain ⟨a, u, ea, _, hc, hr⟩ := h1 i hi
  obtain ⟨g, o, rfl⟩ := h2 a ea
  have e2 : (bkQ xs).getD i [] = [((bkL xs).getD i (0, 0)).1, ((bkL xs).getD i (0, 0)).2] := by
    simp [bkQ, List.getD, show i < (bkL xs).length by omega]
  rw [e2] at hr
  obtain ⟨A2, c2, rfl, ⟨_, h5⟩, _, _, h6, _⟩ := hr
  obtain ⟨a0, e0, _, k0⟩ := h5 0 (by simp)
  obtain ⟨a1, e1, _, k1⟩ := h5 1 (by simp)
  rw [e0] at e1
  cases e1
  obtain ⟨gi, oi, rfl⟩ := h6 a0 e0
  rw [add_lit] at hc k0 k1
  rw [e0] at hc
  exact ⟨g, o, gi, oi, c2, ea, hc, k0, k1⟩
theorem int_at {w : World} {B M c i : Nat} {A : Option Addr} {xs : List Int} (h : ReadI w B (.slice A M c) xs) (hM : xs.length = M) (hi : i < M) :
    ∃ g o, A = some ⟨g, o, none⟩ ∧ w.cell? ⟨g, o + i, none⟩ = some (.int .i64 (xs[i]?.getD 0)) := by
  obtain ⟨A', c', e, ⟨_, h5⟩, _, _, h6, _⟩ := h
  rw [hM] at e h5
  cases e
  obtain ⟨a, ea, _, k⟩ := h5 i hi
  obtain ⟨g, o, rfl⟩ := h6 a ea
  rw [add_lit] at k
  exact ⟨g, o, ea, by simpa using k⟩
end Go.Proofs.Ytncgkoanckefmaa
