/- FnPoints: the words for its answers, and what its loops keep. No condition. -/
import Derived.Test.YtoebbhicffgdgaaFnPm
import Derived.Test.YtoebbhicffgdgaaZE
namespace Go.Proofs.Ytoebbhicffgdgaa
open Go.ChangeShapes Go.WideShapes Go.ChangeAt Go.RowKit Go.Deep
set_option linter.unusedVariables false
set_option linter.unusedSimpArgs false

theorem ReadI.atP {w : World} {B M c i : Nat} {A : Option Addr} {xs : List Int} (h : ReadI w B (.slice A M c) xs) (hM : xs.length = M) (hi : i < M) :
    ∃ g o, A = some ⟨g, o, none⟩ ∧ g < B ∧ w.cell? ⟨g, o + i, none⟩ = some (.int .i64 (xs[i]?.getD 0)) := by
  obtain ⟨A', c', e, ⟨_, h5⟩, _, _, h6, _⟩ := h
  rw [hM] at e h5
  cases e
  obtain ⟨a, ea, hb, k⟩ := h5 i hi
  obtain ⟨g, o, rfl⟩ := h6 a ea
  rw [add_lit] at k
  exact ⟨g, o, ea, hb, by rw [k]; rfl⟩
/-- What is known of a branch at its first N points. -/
structure PtOK (L mm : List Int) (N : Nat) : Prop where
  code : ptC L (N : Int) = 0
  mq : MQ mm N
  ma : mqA L (N : Int) = mm
  oa : orA L (N : Int) = odL mm N (fun j => mm[j]?.getD 0)
  pa : prA L (N : Int) = prQ mm N
  ka : ptK L (N : Int) = cdL mm N
  sa : satA L (N : Int) = satN mm N (N - 1)
  ic : isC (cdL mm N) = true
  n1 : 1 ≤ N
  n4 : N ≤ 400
  klen : (cdL mm N).length = N - 1
  olen : (odL mm N (fun j => mm[j]?.getD 0)).length = N
  plen : (prQ mm N).length = N
  kwf : ∀ z ∈ cdL mm N, (Lit.int .i64 z).wf = true
  od : ∀ j, j < N → 1 ≤ oD mm N (fun j => mm[j]?.getD 0) j ∧ oD mm N (fun j => mm[j]?.getD 0) j ≤ 1638400
theorem PtOK.make {L : List Int} {N : Nat} (hp : brB L = true) (h1 : 1 ≤ N) (h4 : N ≤ 400) (hc : ptC L (N : Int) = 0) : ∃ mm, PtOK L mm N := by
  have hM := mq_ok hp N
  refine ⟨mqL L N, hc, hM, mqA_yes hc, orA_yes hc, prA_yes hc, ptK_yes hc, satA_yes hc, isC_cdL hM h4, h1, h4, cdL_len _ _, odL_len _ _ _, prQ_len _ _, fun z hz => ?_, fun j hj => od_bound hM h4 hj⟩
  unfold cdL at hz
  rw [List.mem_map] at hz
  obtain ⟨a, ha, rfl⟩ := hz
  rw [List.mem_range] at ha
  have := (prx_near hM (j := a + 1) (by omega)).2
  exact i64_wf (by omega) (by omega)
/-- The three shapes of a point. -/
theorem pt_shape {m : List Int} {n j : Nat} (h : MQ m n) (hj : j < n) :
    (j = 0 ∧ prx m n j = [] ∧ cdI m n j = 0) ∨ (1 ≤ j ∧ prx m n j = [((j - 1 : Nat) : Int)] ∧ cdI m n j = 0) ∨
    ∃ i, 1 ≤ j ∧ i + 1 < j ∧ prx m n j = [((i : Nat) : Int), ((j - 1 : Nat) : Int)] ∧ cdI m n j = (j : Int) - (i : Int) ∧ cdI m n j ≠ 0 := by
  obtain ⟨h1, h2⟩ := prx_near h hj
  by_cases h0 : j = 0
  · subst h0
    exact .inl ⟨rfl, by rw [h1]; rfl, cdI_zero⟩
  · right
    rcases h2 with h2 | h2
    · left
      refine ⟨by omega, ?_, h2⟩
      rw [h1, h2, nearL_one (by omega)]
      congr 1; omega
    · right
      refine ⟨((j : Int) - cdI m n j).toNat, by omega, by omega, ?_, by omega, by omega⟩
      rw [h1, nearL_two (by omega) (by omega)]
      congr 1
      · omega
      · congr 1; omega
/-- What the law's list of sums bears at the point p behind t of the points it is proximate to. -/
def pwT (m : List Int) (n p t x : Nat) : Int := pw m x p + if ((x : Int) ∈ (prx m n p).take t) then m[p]?.getD 0 else 0
theorem pwT_zero (m : List Int) (n p x : Nat) : pwT m n p 0 x = pw m x p := by simp [pwT]
theorem pwT_end {m : List Int} {n p K x : Nat} (h : MQ m n) (hp : p < n) (hK : (prx m n p).length = K) : pwT m n p K x = pw m x (p + 1) := by
  unfold pwT
  rw [← hK, List.take_length]
  show _ = pw m x p + _
  congr 1
  by_cases e : PR m x p = true
  · rw [if_pos e, if_pos ((prx_pr h hp).2 e)]
  · rw [if_neg e, if_neg (fun k => e ((prx_pr h hp).1 k))]
theorem pwT_next {m : List Int} {n p t i : Nat} (h : MQ m n) (hp : p < n) (hi : (prx m n p)[t]? = some (i : Int)) (x : Nat) :
    (if x = i then pwT m n p t i + m[p]?.getD 0 else pwT m n p t x) = pwT m n p (t + 1) x ∧ pwT m n p t i = pw m i p := by
  have hl : t < (prx m n p).length := by
    rcases Nat.lt_or_ge t (prx m n p).length with q | q
    · exact q
    · rw [List.getElem?_eq_none q] at hi; cases hi
  have hn : ¬ ((i : Int) ∈ (prx m n p).take t) := by
    rcases pt_shape h hp with ⟨_, e, _⟩ | ⟨_, e, _⟩ | ⟨j, _, hj, e, _⟩
    · rw [e] at hl; simp at hl
    · rw [e] at hl ⊢
      have : t = 0 := by simpa using hl
      subst this; simp
    · rw [e] at hl hi ⊢
      have : t < 2 := by simpa using hl
      rcases (show t = 0 ∨ t = 1 by omega) with rfl | rfl
      · simp
      · simp at hi
        simp; omega
  have ht : (prx m n p).take (t + 1) = (prx m n p).take t ++ [(i : Int)] := by rw [List.take_add_one, hi]; rfl
  refine ⟨?_, by unfold pwT; rw [if_neg hn]; omega⟩
  unfold pwT
  rw [ht]
  by_cases e : x = i
  · subst e
    rw [if_pos rfl, if_neg hn, if_pos (by simp)]; omega
  · rw [if_neg e]
    congr 1
    by_cases q : (x : Int) ∈ (prx m n p).take t
    · rw [if_pos q, if_pos (by simp [q])]
    · rw [if_neg q, if_neg]
      rw [List.mem_append, List.mem_singleton]
      rintro (k | k)
      · exact q k
      · omega
theorem pw_range {m : List Int} {n i t : Nat} (h : MQ m n) (hi : i < n) (ht : t ≤ n) : 0 ≤ pw m i t ∧ pw m i t ≤ 64 := by
  refine ⟨pw_nn h t ht, ?_⟩
  by_cases e : i + 1 ≤ t
  · have h1 := (pw_le h t e ht).1
    have h2 := (h.rng i hi).2
    omega
  · rw [pw_zero m i t (by omega)]; omega
theorem satN_step {m : List Int} {n p : Nat} (h : 1 ≤ p) : satN m n p = satN m n (p - 1) + (if cdI m n p = 0 then 0 else 1) := by
  obtain ⟨q, rfl⟩ : ∃ q, p = q + 1 := ⟨p - 1, by omega⟩
  rfl
theorem prQ_one {m : List Int} {n : Nat} (h : MQ m n) (k : Nat) : lens (prQ m n) k ≤ 9223372036854775807 := by
  unfold lens
  by_cases hk : k < n
  · rw [prQ_at hk]
    rcases pt_shape h hk with ⟨_, e, _⟩ | ⟨_, e, _⟩ | ⟨j, _, hj, e, _⟩ <;> rw [e] <;> simp
  · rw [show (prQ m n).getD k [] = [] by rw [List.getD, List.getElem?_eq_none (by rw [prQ_len]; omega)]; rfl]; simp
end Go.Proofs.Ytoebbhicffgdgaa
