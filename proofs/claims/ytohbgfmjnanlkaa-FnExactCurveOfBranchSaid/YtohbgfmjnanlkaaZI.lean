/- ZI: RdM RdI RdS RdB RdT RdU StS. Conditions: stated at each theorem. -/
import Derived.Test.YtohbgfmjnanlkaaZD
import Derived.Test.YtohbgfmjnanlkaaZB
import Derived.Test.YtohbgfmjnanlkaaZA
import Derived.Test.YtohbgfmjnanlkaaZC
import Derived.WalkMore
import Derived.RangeFuncNested
import Derived.Deep.DeepCutAuto
import Derived.Test.YtohbgfmjnanlkaaZR
/- Reading a branch from its sequence: plain mathematics of chapter 4. Conditions: stated at each theorem. -/
namespace Go.Proofs.Ytohbgfmjnanlkaa
set_option linter.unusedVariables false

/-- Steps are read from the beginning of a list: the last divisor, and what is left. -/
def eat : List (Int × Int) → Int → List Int → Option (Int × List Int)
  | [], e, R => some (e, R)
  | (q, r) :: S, _, R => if (lead r R : Int) < q then none else eat S r (R.drop q.toNat)
/-- The first number of a run. -/
def kk (e : Int) (R : List Int) : Int := (lead e R : Int) * e + R[lead e R]?.getD 0
/-- Runs are read: the terms, and what is left. -/
def rd : Nat → Int → Int → List Int → Option (List Int × List Int)
  | 0, _, _, _ => none
  | f + 1, e, t, R =>
    if e ≤ 1 then some ([], R)
    else if lead e R = R.length then none
    else match eat (steps (kk e R) e) e R with
      | none => none
      | some p => match rd f p.1 (t + kk e R) p.2 with
        | none => none
        | some x => some ((t + kk e R) :: x.1, x.2)
def rdC (T : List Int) : Option (List Int × List Int) → Option (List Int × List Int)
  | none => none
  | some p => some (T ++ p.1, p.2)
theorem rdC_nil (o : Option (List Int × List Int)) : rdC [] o = o := by cases o <;> rfl
theorem rd_end {f : Nat} {e t : Int} {R : List Int} (h : e ≤ 1) : rd (f + 1) e t R = some ([], R) := by rw [rd, if_pos h]
theorem rd_short {f : Nat} {e t : Int} {R : List Int} (h : ¬ e ≤ 1) (h2 : lead e R = R.length) : rd (f + 1) e t R = none := by rw [rd, if_neg h, if_pos h2]
theorem rd_none {f : Nat} {e t : Int} {R : List Int} (h : ¬ e ≤ 1) (h2 : ¬ lead e R = R.length) (h3 : eat (steps (kk e R) e) e R = none) : rd (f + 1) e t R = none := by rw [rd, if_neg h, if_neg h2, h3]
theorem rd_more {f : Nat} {e t e' : Int} {R R' T : List Int} (h : ¬ e ≤ 1) (h2 : ¬ lead e R = R.length) (h3 : eat (steps (kk e R) e) e R = some (e', R')) :
    rdC T (rd (f + 1) e t R) = rdC (T ++ [t + kk e R]) (rd f e' (t + kk e R) R') := by
  rw [rd, if_neg h, if_neg h2, h3]
  cases hx : rd f e' (t + kk e R) R' with
  | none => simp only [hx]; rfl
  | some x => simp only [hx, rdC, List.append_assoc]; rfl
/-- What reading steps leaves. -/
theorem eat_stL : ∀ (f : Nat) (a b e0 : Int) (R : List Int), 0 ≤ a → 1 ≤ b → b.toNat < f → ∀ e' R', eat (stL f a b) e0 R = some (e', R') → e' = (Int.gcd a b : Int)
  | 0, _, b, _, _, _, _, h, _, _, _ => by omega
  | f + 1, a, b, e0, R, ha, hb, hf, e', R', h => by
    unfold stL at h
    rw [if_neg (by omega)] at h
    simp only [eat] at h
    split at h
    · cases h
    · have h1 : 0 ≤ a % b ∧ a % b < b := ⟨Int.emod_nonneg _ (by omega), Int.emod_lt_of_pos _ (by omega)⟩
      have hg : (Int.gcd b (a % b) : Int) = (Int.gcd a b : Int) := by
        have e1 : a % b + b * (a / b) = a := Int.emod_add_mul_ediv a b
        have e2 : Int.gcd b (a % b + b * (a / b)) = Int.gcd b (a % b) := Int.gcd_add_mul_left_right ..
        rw [e1] at e2
        rw [Int.gcd_comm a b, e2]
      by_cases h0 : a % b = 0
      · have h2 : stL f b (a % b) = [] := by
          cases f with
          | zero => rfl
          | succ f => rw [stL, if_pos (by omega)]
        rw [h2] at h
        simp only [eat, Option.some.injEq, Prod.mk.injEq] at h
        rw [← h.1, ← hg, h0, Int.gcd_zero_right]; omega
      · rw [← hg]
        exact eat_stL f b (a % b) b _ (by omega) (by omega) (by omega) e' R' h
theorem eat_gcd {k e e0 e' : Int} {R R' : List Int} (hk : 0 ≤ k) (he : 1 ≤ e) (h : eat (steps k e) e0 R = some (e', R')) : e' = (Int.gcd k e : Int) := eat_stL _ k e e0 R hk he (by omega) e' R' h
/-- A run that can be read divides the divisor. -/
theorem eat_less {e e' : Int} {R R' : List Int} (he : 1 ≤ e) (hR : ∀ x ∈ R, (1 : Int) ≤ x) (hl : lead e R < R.length) (h : eat (steps (kk e R) e) e R = some (e', R')) :
    (1 ≤ e' ∧ e' < e) ∧ (R[lead e R]?.getD 0 < e ∧ 1 ≤ R[lead e R]?.getD 0) ∧ e' = (Int.gcd e (kk e R) : Int) := by
  have hx : 1 ≤ R[lead e R]?.getD 0 := by
    have := hR R[lead e R] (List.getElem_mem _); simpa [hl] using this
  have hk0 : 0 ≤ kk e R := by
    unfold kk
    have : 0 ≤ (lead e R : Int) * e := Int.mul_nonneg (by omega) (by omega)
    omega
  have hg := eat_gcd hk0 he h
  have hq : kk e R / e ≤ (lead e R : Int) := by
    unfold steps at h
    unfold stL at h
    rw [if_neg (by omega)] at h
    simp only [eat] at h
    split at h
    · cases h
    · omega
  have hxe : R[lead e R]?.getD 0 < e := by
    by_cases h1 : R[lead e R]?.getD 0 < e
    · exact h1
    · have h2 : ((lead e R : Int) + 1) * e ≤ kk e R := by unfold kk; rw [Int.add_mul]; omega
      have h3 := (Int.le_ediv_iff_mul_le (a := (lead e R : Int) + 1) (b := kk e R) (c := e) (by omega)).2 h2
      omega
  have hd : (Int.gcd (kk e R) e : Int) ∣ R[lead e R]?.getD 0 := by
    have h1 : (Int.gcd (kk e R) e : Int) ∣ kk e R := Int.gcd_dvd_left _ _
    have h2 : (Int.gcd (kk e R) e : Int) ∣ (lead e R : Int) * e := Int.dvd_trans (Int.gcd_dvd_right _ _) (Int.dvd_mul_left _ _)
    have h3 := Int.dvd_sub h1 h2
    unfold kk at h3 ⊢
    rwa [show (lead e R : Int) * e + R[lead e R]?.getD 0 - (lead e R : Int) * e = R[lead e R]?.getD 0 by omega] at h3
  have h4 := Int.le_of_dvd (by omega) hd
  have h5 := gcd_le (e := kk e R) he
  refine ⟨⟨by omega, by omega⟩, ⟨hxe, hx⟩, by rw [hg, Int.gcd_comm]⟩
/-- The divisor of a list of terms. -/
def gcF (e : Int) : List Int → Int
  | [] => e
  | z :: r => gcF (Int.gcd e z : Int) r
theorem gcF_snoc : ∀ (T : List Int) (e z : Int), gcF e (T ++ [z]) = (Int.gcd (gcF e T) z : Int)
  | [], _, _ => rfl
  | y :: T, e, z => gcF_snoc T _ z
theorem gcF_des : ∀ (T : List Int) (e : Int), desB e T = true → gcF e T = 1
  | [], e, h => by simpa [desB, gcF] using h
  | z :: T, e, h => by
    simp only [desB, Bool.and_eq_true] at h
    exact gcF_des T _ h.2
theorem br_gcF {n : Int} {T : List Int} (h : gcF n T ≠ 1) : brB (n :: T) = false := by
  cases hb : brB (n :: T)
  · rfl
  · have h1 := brB_dcB hb
    simp only [dcB, Bool.and_eq_true] at h1
    exact absurd (gcF_des T n h1.2.2) h
/-- Lists of 1 to 400 numbers in 1..64. -/
def sqlB (L : List Int) : Bool := decide (1 ≤ L.length ∧ L.length ≤ 400) && L.all mulB
theorem sql_yes {L : List Int} (h : sqlB L = true) : (1 ≤ L.length ∧ L.length ≤ 400) ∧ ∀ x ∈ L, 1 ≤ x ∧ x ≤ 64 := by
  simp only [sqlB, Bool.and_eq_true, decide_eq_true_eq, List.all_eq_true] at h
  exact ⟨h.1, fun x hx => mulB_true.1 (h.2 x hx)⟩
def bsR (L : List Int) : Option (List Int × List Int) := rd 65 (L[0]?.getD 0) 0 L
def bsB (L : List Int) : Bool := match bsR L with
  | none => false
  | some p => brB (L[0]?.getD 0 :: p.1) && decide (lead 1 p.2 = p.2.length)
def bsT (L : List Int) : List Int := match bsR L with
  | none => []
  | some p => L[0]?.getD 0 :: p.1
def bsA (L : List Int) : List Int := if sqlB L then (if bsB L then bsT L else []) else []
def bsC (L : List Int) : Int := if sqlB L then (if bsB L then 0 else 5) else 2
theorem bs_no {L : List Int} (h : sqlB L = false) : bsA L = [] ∧ bsC L = 2 := by simp [bsA, bsC, h]
theorem bs_out {L : List Int} (h : sqlB L = true) (h2 : bsB L = false) : bsA L = [] ∧ bsC L = 5 := by simp [bsA, bsC, h, h2]
theorem bs_yes {L : List Int} (h : sqlB L = true) (h2 : bsB L = true) : bsA L = bsT L ∧ bsC L = 0 := by simp [bsA, bsC, h, h2]
theorem rd_len : ∀ (f : Nat) (e t : Int) (R : List Int) (x : List Int × List Int), rd f e t R = some x → x.1.length ≤ f
  | 0, _, _, _, _, h => by cases h
  | f + 1, e, t, R, x, h => by
    rw [rd] at h
    split at h
    · cases h; simp
    · split at h
      · cases h
      · split at h
        · cases h
        · split at h
          · cases h
          · rename_i p _ y hy
            have := rd_len f _ _ _ _ hy
            cases h
            simp; omega
theorem bsA_len (L : List Int) : (bsA L).length ≤ 1099511627776 := by
  unfold bsA
  split
  · split
    · unfold bsT
      cases h : bsR L with
      | none => simp
      | some p =>
        have := rd_len _ _ _ _ _ h
        simp; omega
    · simp
  · simp
end Go.Proofs.Ytohbgfmjnanlkaa
/- Runs that are read from a list, the program's: contract of impl.readRuns. Conditions: stated at each theorem. -/
namespace Go.Proofs.Ytohbgfmjnanlkaa
open Go.ChangeShapes Go.WideShapes Go.ChangeAt Go.RowKit Go.Deep
set_option linter.unusedVariables false
set_option linter.unusedSimpArgs false

theorem stL_ok2 : ∀ (f : Nat) (a b : Int), (0 ≤ a ∧ a ≤ 1000000) → (0 ≤ b ∧ b ≤ 64) → ∀ p ∈ stL f a b, (0 ≤ p.1 ∧ p.1 ≤ 1000000) ∧ 1 ≤ p.2 ∧ p.2 ≤ 64
  | 0, _, _, _, _ => by simp [stL]
  | f + 1, a, b, ha, hb => by
    unfold stL
    split
    · simp
    · intro p hp
      rcases List.mem_cons.1 hp with rfl | hp
      · have h1 : 0 ≤ a / b ∧ a / b ≤ a := ⟨Int.ediv_nonneg (by omega) (by omega), Int.ediv_le_self _ (by omega)⟩
        exact ⟨by dsimp; omega, by dsimp; omega⟩
      · have h2 : 0 ≤ a % b ∧ a % b < b := ⟨Int.emod_nonneg _ (by omega), Int.emod_lt_of_pos _ (by omega)⟩
        exact stL_ok2 f b (a % b) (by omega) (by omega) p hp
theorem steps_mem2 {base : Nat} {w2 : World} {L : List (Int × Int)} {A : Option Addr} {c : Nat} {vf : Nat → Value}
    (ho : OwnSS w2 base A L.length c vf two (fun i => (stF L i).map (.int .i64))) : ∀ i, i < L.length →
    ∃ go gi ci, A = some ⟨go, 0, none⟩ ∧ go < w2.heap.size ∧ gi < w2.heap.size ∧ w2.cell? ⟨go, i, none⟩ = some (.slice (some ⟨gi, 0, none⟩) 2 ci) ∧ w2.cell? ⟨gi, 0, none⟩ = some (.int .i64 (L[i]?.getD (0, 0)).1) ∧ w2.cell? ⟨gi, 1, none⟩ = some (.int .i64 (L[i]?.getD (0, 0)).2) := by
  intro i hi
  obtain ⟨go, rfl, hgo, hc⟩ := ho.cell hi
  have hin := ho.inner i hi
  rcases hin.2 with ⟨_, e0⟩ | ⟨gi, ci, cur, e, hbi, hgi, _⟩
  · cases e0
  · have hlt := (World.ownsRow.lt hin gi (by rw [e]; rfl)).2
    rw [e] at hc hin
    have hi2 : two i = 2 := rfl
    rw [hi2] at hc hin
    exact ⟨go, gi, ci, rfl, hgo, hlt, hc, World.ownsRow.cellAt hin 0 (by omega), World.ownsRow.cellAt hin 1 (by omega)⟩
theorem ri_at {w W : World} {g o n M x : Nat} {zs R : List Int} (hC : ∀ k, k < n → w.cell? ⟨g, o + k, none⟩ = some (.int .i64 (zs[k]?.getD 0))) (hg : g < w.heap.size) (hb : Below w.heap.size w W) (hL : zs.length = n) (hM : M ≤ n) (hx : M = 0 ∨ x = o + (n - M)) (hR : zs.drop (n - M) = R) :
    RI W w.heap.size (some ⟨g, x, none⟩) M R := by
  subst hR
  refine ⟨by rw [List.length_drop, hL]; omega, fun k hk => ⟨_, rfl, hg, ?_⟩⟩
  rcases hx with h0 | h0
  · omega
  · rw [add_lit, h0, hb.cell (p := ⟨g, o + (n - M) + k, none⟩) hg, Nat.add_assoc, hC (n - M + k) (by omega)]
    simp [List.getD]
theorem mul_range2 {a b A B : Int} (h1 : 0 ≤ a ∧ a ≤ A) (h2 : 0 ≤ b ∧ b ≤ B) : 0 ≤ a * b ∧ a * b ≤ A * B :=
  ⟨Int.mul_nonneg h1.1 h2.1, Int.mul_le_mul h1.2 h2.2 h2.1 (by omega)⟩
/-- What reading runs leaves. -/
def RdAns (w : World) (zs : List Int) (e : Ending) (w' : World) : Prop :=
  ∃ vT T R A' M c', e = .returned (.tuple #[vT, .slice A' M c']) ∧ OwnI w' w.heap.size w'.heap.size vT T ∧ (RI w' w.heap.size A' M R ∧ M ≤ c' ∧ c' ≤ 9223372036854775807 ∧ ∀ x ∈ R, 1 ≤ x ∧ x ≤ 64) ∧ (T.length ≤ 64 ∧ (∀ z ∈ T, 0 ≤ z ∧ z ≤ 1642496) ∧ (bsR zs = some (T, R) ∨ (bsR zs = none ∧ gcF (zs[0]?.getD 0) T ≠ 1)) ∧ Below w.heap.size w w')

end Go.Proofs.Ytohbgfmjnanlkaa
/- BranchOfSequence, the program's: contract. Conditions: stated at each theorem. -/
namespace Go.Proofs.Ytohbgfmjnanlkaa
open Go.ChangeShapes Go.WideShapes Go.ChangeAt Go.RowKit Go.Deep
set_option linter.unusedVariables false
set_option linter.unusedSimpArgs false

theorem sq_no1 {L : List Int} (h : ¬ (1 ≤ L.length ∧ L.length ≤ 400)) : sqlB L = false := by unfold sqlB; rw [decide_eq_false h]; rfl
theorem sq_all {L : List Int} (h : 1 ≤ L.length ∧ L.length ≤ 400) : sqlB L = L.all mulB := by unfold sqlB; rw [decide_eq_true h]; rfl
end Go.Proofs.Ytohbgfmjnanlkaa
/- Reading a branch from the blocks of its sequence: plain mathematics of chapter 4. Conditions: stated at each theorem. -/
namespace Go.Proofs.Ytohbgfmjnanlkaa
set_option linter.unusedVariables false

/-- The list of some blocks. -/
def flB (D : List (Int × Int)) : List Int := D.flatMap fun p => List.replicate p.2.toNat p.1
theorem flB_cons (p : Int × Int) (D : List (Int × Int)) : flB (p :: D) = List.replicate p.2.toNat p.1 ++ flB D := by simp [flB]
/-- Blocks of strictly descending numbers; the first one may be empty. -/
def wfB : List (Int × Int) → Prop
  | [] => True
  | [p] => 1 ≤ p.1 ∧ 0 ≤ p.2
  | p :: q :: r => q.1 < p.1 ∧ 0 ≤ p.2 ∧ 1 ≤ q.2 ∧ wfB (q :: r)
theorem wfB_tail {p : Int × Int} {D : List (Int × Int)} (h : wfB (p :: D)) : wfB D := by
  cases D with
  | nil => trivial
  | cons q r => exact h.2.2.2
theorem wfB_pos {p : Int × Int} {D : List (Int × Int)} (h : wfB (p :: D)) : 1 ≤ p.1 ∧ 0 ≤ p.2 := by
  induction D generalizing p with
  | nil => exact h
  | cons q r ih =>
    have := ih h.2.2.2
    exact ⟨by have := h.1; omega, h.2.1⟩
theorem wfB_set {p : Int × Int} {D : List (Int × Int)} {c : Int} (h : wfB (p :: D)) (hc : 0 ≤ c) : wfB ((p.1, c) :: D) := by
  cases D with
  | nil => exact ⟨h.1, hc⟩
  | cons q r => exact ⟨h.1, hc, h.2.2.1, h.2.2.2⟩
theorem lead_rep (x : Int) : ∀ (c : Nat) (R : List Int), lead x (List.replicate c x ++ R) = c + lead x R
  | 0, R => by simp
  | c + 1, R => by
    rw [List.replicate_succ, List.cons_append, lead, if_pos rfl, lead_rep x c R]; omega
theorem lead_flB {p : Int × Int} {D : List (Int × Int)} (h : wfB (p :: D)) : lead p.1 (flB (p :: D)) = p.2.toNat := by
  rw [flB_cons, lead_rep]
  cases D with
  | nil => rfl
  | cons q r =>
    have h1 := h.1
    have h2 := h.2.2.1
    obtain ⟨k, hk⟩ : ∃ k, q.2.toNat = k + 1 := ⟨q.2.toNat - 1, by omega⟩
    rw [flB_cons, hk, List.replicate_succ, List.cons_append, lead, if_neg (by omega)]; rfl
/-- Another number than the first one does not stand at the beginning. -/
theorem lead_not {x y : Int} {D : List (Int × Int)} {c : Int} (hc : 1 ≤ c) (h : y ≠ x) : lead x (flB ((y, c) :: D)) = 0 := by
  obtain ⟨k, hk⟩ : ∃ k, c.toNat = k + 1 := ⟨c.toNat - 1, by omega⟩
  rw [flB_cons]
  show lead x (List.replicate c.toNat y ++ _) = 0
  rw [hk, List.replicate_succ, List.cons_append, lead, if_neg h]
theorem drop_flB {v c : Int} {D : List (Int × Int)} {q : Nat} (h : (q : Int) ≤ c) : (flB ((v, c) :: D)).drop q = flB ((v, c - q) :: D) := by
  rw [flB_cons, flB_cons]
  show (List.replicate c.toNat v ++ flB D).drop q = List.replicate (c - (q : Int)).toNat v ++ flB D
  rw [List.drop_append_of_le_length (by simp; omega), List.drop_replicate]
  congr 2
  omega
theorem flB_zero (v : Int) (D : List (Int × Int)) : flB ((v, 0) :: D) = flB D := by simp [flB_cons]
theorem flB_get {v c x c1 : Int} {D : List (Int × Int)} (hc : 0 ≤ c) (h1 : 1 ≤ c1) : (flB ((v, c) :: (x, c1) :: D))[c.toNat]?.getD 0 = x := by
  obtain ⟨k, hk⟩ : ∃ k, c1.toNat = k + 1 := ⟨c1.toNat - 1, by omega⟩
  rw [flB_cons, List.getElem?_append_right (by simp)]
  simp only [List.length_replicate, Nat.sub_self]
  rw [flB_cons]
  show (List.replicate c1.toNat x ++ _)[0]?.getD 0 = x
  rw [hk, List.replicate_succ]; rfl
/-- The first step of a run over blocks. -/
theorem eat_first {e c x c1 : Int} {D : List (Int × Int)} (h : wfB ((e, c) :: (x, c1) :: D)) :
    kk e (flB ((e, c) :: (x, c1) :: D)) = c * e + x ∧ eat (steps (c * e + x) e) e (flB ((e, c) :: (x, c1) :: D)) = eat (stL (e.toNat) e x) e (flB ((x, c1) :: D)) := by
  have hx := wfB_pos (wfB_tail h)
  have hc := h.2.1
  have hlt := h.1
  have h1 := h.2.2.1
  dsimp only at hx hc hlt h1
  have hl := lead_flB h
  dsimp only at hl
  have hg := flB_get (v := e) (x := x) (D := D) hc h1
  refine ⟨?_, ?_⟩
  · unfold kk
    rw [hl, hg]
    congr 2
    omega
  · have hq : (c * e + x) / e = c := by
      rw [Int.add_comm, Int.add_mul_ediv_right _ _ (by omega), Int.ediv_eq_zero_of_lt (by omega) hlt]; omega
    have hm : (c * e + x) % e = x := by
      rw [Int.add_comm, Int.add_mul_emod_self_right, Int.emod_eq_of_lt (by omega) hlt]
    unfold steps
    rw [stL, if_neg (by omega), hq, hm]
    simp only [eat]
    rw [if_neg (by rw [hl]; omega), drop_flB (q := c.toNat) (by omega)]
    rw [show c - (c.toNat : Int) = 0 by omega, flB_zero]
theorem stL_cons {f : Nat} {a b : Int} (hb : 1 ≤ b) : stL (f + 1) a b = (a / b, b) :: stL f b (a % b) := by rw [stL, if_neg (by omega)]
theorem stL_zero (f : Nat) (a : Int) : stL f a 0 = [] := by
  cases f with
  | zero => rfl
  | succ f => rw [stL, if_pos (Int.le_refl 0)]
theorem eat_cons (q r e : Int) (S : List (Int × Int)) (R : List Int) : eat ((q, r) :: S) e R = if (lead r R : Int) < q then none else eat S r (R.drop q.toNat) := rfl
/-- A step in between that can't be read. -/
theorem eat_mid_no {f : Nat} {e x c1 : Int} {D : List (Int × Int)} (hf : x.toNat < f + 1) (h : wfB ((x, c1) :: D)) (hx : x < e) (hm : ¬ e % x = 0) (hbad : c1 ≠ e / x ∨ D = [] ∨ ∃ y c2 D2, D = (y, c2) :: D2 ∧ y ≠ e % x) :
    eat (stL (f + 1) e x) e (flB ((x, c1) :: D)) = none := by
  have hp := wfB_pos h
  dsimp only at hp
  have h1 : 0 ≤ e % x := Int.emod_nonneg _ (by omega)
  have h2 : e % x < x := Int.emod_lt_of_pos _ (by omega)
  have hq0 : 0 ≤ e / x := Int.ediv_nonneg (by omega) (by omega)
  have hq2 : 1 ≤ x / (e % x) := by
    have := (Int.le_ediv_iff_mul_le (a := (1 : Int)) (b := x) (c := e % x) (by omega)).2 (by omega)
    exact this
  have hl := lead_flB h
  dsimp only at hl
  rw [stL_cons (by omega), eat_cons]
  by_cases hlt : (lead x (flB ((x, c1) :: D)) : Int) < e / x
  · rw [if_pos hlt]
  · rw [if_neg hlt]
    rw [hl] at hlt
    obtain ⟨f, rfl⟩ : ∃ f', f = f' + 1 := ⟨f - 1, by omega⟩
    rw [stL_cons (by omega), eat_cons, drop_flB (by omega)]
    have hz : lead (e % x) (flB ((x, c1 - ((e / x).toNat : Int)) :: D)) = 0 := by
      by_cases hc : c1 - ((e / x).toNat : Int) = 0
      · rw [hc, flB_zero]
        rcases hbad with hb | rfl | ⟨y, c2, D2, rfl, hy⟩
        · omega
        · rfl
        · exact lead_not (by have := h.2.2.1; exact this) hy
      · exact lead_not (by omega) (by omega)
    rw [if_pos (by rw [hz]; omega)]
/-- A step in between. -/
theorem eat_mid {f : Nat} {e x c1 c2 : Int} {D : List (Int × Int)} (h : wfB ((x, c1) :: (e % x, c2) :: D)) (hx : x < e) (hm : ¬ e % x = 0) (hc : c1 = e / x) :
    eat (stL (f + 1) e x) e (flB ((x, c1) :: (e % x, c2) :: D)) = eat (stL f x (e % x)) x (flB ((e % x, c2) :: D)) := by
  have hp := wfB_pos h
  dsimp only at hp
  have hl := lead_flB h
  dsimp only at hl
  have hq0 : 0 ≤ e / x := Int.ediv_nonneg (by omega) (by omega)
  rw [stL_cons (by omega), eat_cons, if_neg (by rw [hl, hc]; omega), drop_flB (by omega)]
  rw [hc, show e / x - ((e / x).toNat : Int) = 0 by omega, flB_zero]
/-- The last step. -/
theorem eat_last {f : Nat} {e x c1 : Int} {D : List (Int × Int)} (h : wfB ((x, c1) :: D)) (hx : x < e) (hm : e % x = 0) :
    eat (stL (f + 1) e x) e (flB ((x, c1) :: D)) = if c1 < e / x then none else some (x, flB ((x, c1 - e / x) :: D)) := by
  have hp := wfB_pos h
  dsimp only at hp
  have hl := lead_flB h
  dsimp only at hl
  have hq0 : 0 ≤ e / x := Int.ediv_nonneg (by omega) (by omega)
  rw [stL_cons (by omega), eat_cons, hm, stL_zero, hl]
  by_cases hlt : c1 < e / x
  · rw [if_pos hlt, if_pos (by omega)]
  · rw [if_neg hlt, if_neg (by omega), drop_flB (by omega)]
    show some (x, _) = some (x, _)
    rw [show ((e / x).toNat : Int) = e / x by omega]
/-- No number is greater than the one before it; the first one is at most e. -/
def dsc (e : Int) : List Int → Prop
  | [] => True
  | x :: r => x ≤ e ∧ dsc x r
theorem dsc_more {e e' : Int} {R : List Int} (h : dsc e R) (he : e ≤ e') : dsc e' R := by
  cases R with
  | nil => trivial
  | cons x r => exact ⟨by have := h.1; omega, h.2⟩
theorem dsc_rep {x : Int} : ∀ (c : Nat) {R : List Int}, dsc x R → dsc x (List.replicate c x ++ R)
  | 0, R, h => by simpa using h
  | c + 1, R, h => by
    rw [List.replicate_succ, List.cons_append]
    exact ⟨Int.le_refl _, dsc_rep c h⟩
theorem lead_take {x : Int} : ∀ {R : List Int} {q : Nat}, q ≤ lead x R → R = List.replicate q x ++ R.drop q
  | R, 0, _ => by simp
  | [], q + 1, h => by simp [lead] at h
  | y :: r, q + 1, h => by
    unfold lead at h
    split at h
    · rename_i hy
      subst hy
      have := lead_take (x := y) (R := r) (q := q) (by omega)
      rw [List.replicate_succ, List.cons_append, List.drop_succ_cons, ← this]
    · omega
theorem eat_dsc : ∀ (f : Nat) (a b e0 : Int) (R : List Int), 0 ≤ a → 1 ≤ b → b.toNat < f → ∀ e' R', eat (stL f a b) e0 R = some (e', R') → dsc e' R' → dsc b R
  | 0, _, b, _, _, _, _, h, _, _, _, _ => by omega
  | f + 1, a, b, e0, R, ha, hb, hf, e', R', h, hd => by
    rw [stL_cons hb, eat_cons] at h
    split at h
    · cases h
    · rename_i hl
      have hq0 : 0 ≤ a / b := Int.ediv_nonneg ha (by omega)
      have h1 : 0 ≤ a % b ∧ a % b < b := ⟨Int.emod_nonneg _ (by omega), Int.emod_lt_of_pos _ (by omega)⟩
      have hR := lead_take (x := b) (R := R) (q := (a / b).toNat) (by omega)
      rw [hR]
      refine dsc_rep _ ?_
      by_cases h0 : a % b = 0
      · rw [h0, stL_zero] at h
        simp only [eat, Option.some.injEq, Prod.mk.injEq] at h
        rw [← h.1, ← h.2] at hd; exact hd
      · exact dsc_more (eat_dsc f b (a % b) b _ (by omega) (by omega) (by omega) e' R' h hd) (by omega)
theorem ones_dsc : ∀ {R : List Int}, lead 1 R = R.length → dsc 1 R
  | [], _ => trivial
  | x :: r, h => by
    unfold lead at h
    split at h
    · rename_i hx
      exact ⟨by omega, by rw [hx]; exact ones_dsc (by simpa using h)⟩
    · simp at h
/-- What can be read descends. -/
theorem rd_dsc : ∀ (f : Nat) (e t : Int) (R : List Int), 1 ≤ e → (∀ x ∈ R, (1 : Int) ≤ x) → ∀ T R', rd f e t R = some (T, R') → lead 1 R' = R'.length → dsc e R
  | 0, _, _, _, _, _, _, _, h, _ => by cases h
  | f + 1, e, t, R, he, hR, T, R', h, h1 => by
    rw [rd] at h
    split at h
    · rename_i hle
      simp only [Option.some.injEq, Prod.mk.injEq] at h
      rw [← h.2] at h1
      have : e = 1 := by omega
      subst this
      exact ones_dsc h1
    · split at h
      · cases h
      · rename_i hlen
        split at h
        · cases h
        · rename_i p hp
          split at h
          · cases h
          · rename_i y hy
            obtain ⟨e', R2⟩ := p
            obtain ⟨T2, R3⟩ := y
            simp only [Option.some.injEq, Prod.mk.injEq] at h
            have hl : lead e R < R.length := by have := lead_le e R; omega
            have hless := eat_less he hR hl hp
            have hk0 : 0 ≤ kk e R := by
              unfold kk
              have h5 : 0 ≤ (lead e R : Int) * e := Int.mul_nonneg (by omega) (by omega)
              have := hless.2.1
              omega
            have hsub : ∀ x ∈ R2, (1 : Int) ≤ x := by
              have : ∀ (S : List (Int × Int)) (e0 : Int) (R0 : List Int) (e1 : Int) (R1 : List Int), eat S e0 R0 = some (e1, R1) → ∀ x ∈ R1, x ∈ R0 := by
                intro S
                induction S with
                | nil => intro e0 R0 e1 R1 h x hx; simp only [eat, Option.some.injEq, Prod.mk.injEq] at h; rw [h.2]; exact hx
                | cons q S ih =>
                  intro e0 R0 e1 R1 h x hx
                  obtain ⟨q1, r1⟩ := q
                  rw [eat_cons] at h
                  split at h
                  · cases h
                  · exact List.mem_of_mem_drop (ih _ _ _ _ h x hx)
              exact fun x hx => hR x (this _ _ _ _ _ hp x hx)
            have ih := rd_dsc f e' (t + kk e R) R2 hless.1.1 hsub T2 R3 hy (by rw [h.2]; exact h1)
            exact eat_dsc (e.toNat + 1) (kk e R) e e R hk0 he (by omega) e' R2 hp ih
theorem bs_dsc {L : List Int} (h : sqlB L = true) (hb : bsB L = true) : dsc (L[0]?.getD 0) L := by
  obtain ⟨⟨h1, h2⟩, h3⟩ := sql_yes h
  unfold bsB at hb
  split at hb
  · cases hb
  · rename_i p hp
    simp only [Bool.and_eq_true, decide_eq_true_eq] at hb
    have h0 : (1 : Int) ≤ L[0]?.getD 0 := by
      have := (h3 L[0] (List.getElem_mem (by omega))).1
      simpa [show 0 < L.length by omega] using this
    exact rd_dsc 65 _ 0 L h0 (fun x hx => (h3 x hx).1) p.1 p.2 hp hb.2
theorem dsc_at : ∀ {e : Int} {L : List Int} {i : Nat}, dsc e L → i + 1 < L.length → L[i + 1]?.getD 0 ≤ L[i]?.getD 0
  | e, [], i, _, hi => by simp at hi
  | e, x :: r, 0, h, hi => by
    cases r with
    | nil => simp at hi
    | cons y s => simpa using h.2.1
  | e, x :: r, i + 1, h, hi => by
    have := dsc_at (e := x) (L := r) (i := i) h.2 (by simpa using hi)
    simpa using this
theorem dsc_of : ∀ {L : List Int} {e : Int}, (0 < L.length → L[0]?.getD 0 ≤ e) → (∀ i, i + 1 < L.length → L[i + 1]?.getD 0 ≤ L[i]?.getD 0) → dsc e L
  | [], _, _, _ => trivial
  | x :: r, e, h0, h => by
    refine ⟨by simpa using h0 (by simp), dsc_of (fun hr => by simpa using h 0 (by simpa using hr)) (fun i hi => by simpa using h (i + 1) (by simpa using hi))⟩
/-- The blocks of a list make it up, and they descend if it does. -/
theorem flB_bk : ∀ (L : List Int), flB (bkL L) = L
  | [] => rfl
  | x :: r => by
    have ih := flB_bk r
    cases h : bkL r with
    | nil =>
      rw [bk_none h]
      rw [h] at ih
      have : r = [] := ih.symm
      subst this; rfl
    | cons p q =>
      obtain ⟨y, k⟩ := p
      have hk := (bk_bound r).2 (y, k) (by rw [h]; simp)
      rw [h] at ih
      by_cases hy : y = x
      · subst hy
        rw [bk_same h]
        conv => rhs; rw [← ih]
        rw [flB_cons, flB_cons]
        show List.replicate (k + 1).toNat y ++ _ = y :: (List.replicate k.toNat y ++ _)
        rw [show (k + 1).toNat = k.toNat + 1 by dsimp only at hk; omega, List.replicate_succ]; rfl
      · rw [bk_other h hy]
        conv => rhs; rw [← ih]
        rw [flB_cons]; rfl
theorem wfB_bk : ∀ {L : List Int} {e : Int}, dsc e L → (∀ x ∈ L, (1 : Int) ≤ x) → wfB (bkL L)
  | [], _, _, _ => trivial
  | x :: r, e, h, h1 => by
    have ih := wfB_bk (L := r) h.2 (fun y hy => h1 y (List.mem_cons_of_mem _ hy))
    have hx := h1 x (List.mem_cons_self ..)
    cases hb : bkL r with
    | nil => rw [bk_none hb]; exact ⟨hx, by show (0 : Int) ≤ 1; decide⟩
    | cons p q =>
      obtain ⟨y, k⟩ := p
      have hk := (bk_bound r).2 (y, k) (by rw [hb]; simp)
      rw [hb] at ih
      dsimp only at hk
      by_cases hy : y = x
      · subst hy
        rw [bk_same hb]
        exact wfB_set ih (by omega)
      · rw [bk_other hb hy]
        refine ⟨?_, by show (0 : Int) ≤ 1; decide, hk.1, ih⟩
        have hyx : y ≤ x := by
          cases r with
          | nil => simp [bkL] at hb
          | cons z s =>
            have e1 := bk_lead s z
            rw [hb] at e1
            have e2 : y = z := by
              have := (List.cons.inj e1).1
              simpa using congrArg Prod.fst this
            rw [e2]; exact h.2.1
        show y < x
        omega
theorem bk_first {x : Int} {r : List Int} : ∃ k q, bkL (x :: r) = (x, k) :: q ∧ 1 ≤ k := ⟨_, _, bk_lead r x, by omega⟩
end Go.Proofs.Ytohbgfmjnanlkaa
/- The model's reading of a branch from a sequence: contract of spec.l04Branch. Conditions: stated at each theorem. -/
namespace Go.Proofs.Ytohbgfmjnanlkaa
open Go.ChangeShapes Go.WideShapes Go.ChangeAt Go.RowKit Go.Deep
set_option linter.unusedVariables false
set_option linter.unusedSimpArgs false

theorem Boxed.newR (W : World) {H : Nat} {t : TypeId} {v : Value} (h : W.heap.size = H) : Boxed (W.alloc (.cells #[v] t)) H t v := by subst h; exact Boxed.new W t v
theorem keptR' {lo hi : Nat} (w : World) {p : Addr} (h : ¬ (lo ≤ p.block ∧ p.block < hi)) (u : Value) : Kept lo hi w (w.setCell p u) :=
  ⟨by simp [World.setCell], fun b h1 h2 => Below.heap_setCell w p u b (fun e => h ⟨by omega, by omega⟩)⟩
theorem own_boxedR {W : World} {b : Nat} {z : Int} (h : Boxed W b 2 (.int .i64 z)) : OwnI W b (b + 1) (.slice (some ⟨b, 0, none⟩) 1 1) [z] := by
  have hl := h.lt
  exact ⟨⟨rfl, .inr ⟨b, 1, #[.int .i64 z], rfl, Nat.le_refl _, h, Nat.le_refl _, by simp [maxLen], rfl, rfl⟩⟩, fun k hk => by simp [Value.ownBlock] at hk; omega, by omega⟩
theorem kept_grownR {w a w2 : World} {lo hi : Nat} {row : Option Nat} (h : Kept lo hi w a) (hg : a.grownBy w2 row) (hs : hi ≤ a.heap.size) (hn : ∀ b, lo ≤ b → b < hi → some b ≠ row) : Kept lo hi w w2 :=
  h.trans ⟨hg.size, fun b h1 h2 => hg.block b (Nat.lt_of_lt_of_le h2 hs) (hn b h1 h2)⟩
theorem own_tightR {w : World} {lo hi n c d : Nat} {zs : List Int} (h : OwnI w lo hi (.slice (some ⟨d, 0, none⟩) n c) zs) (hd : d < w.heap.size) : OwnI w d (d + 1) (.slice (some ⟨d, 0, none⟩) n c) zs := by
  obtain ⟨⟨h0, h1⟩, h2, h3⟩ := h
  refine ⟨⟨h0, ?_⟩, fun k hk => by (simp [Value.ownBlock] at hk; omega), by omega⟩
  rcases h1 with ⟨e, _⟩ | ⟨g, cap, cur, e, hb, rest⟩
  · cases e
  · simp only [Value.slice.injEq, Option.some.injEq, Addr.mk.injEq] at e
    obtain ⟨⟨rfl, _, _⟩, rfl, rfl⟩ := e
    exact .inr ⟨d, _, cur, rfl, Nat.le_refl _, rest⟩
/-- A branch and whether there is one. -/
def BrAns (w : World) (L : List Int) (b : Bool) (e : Ending) (w' : World) : Prop := ∃ v, e = .returned (.tuple #[.agg #[v], .bool b]) ∧ OwnI w' w.heap.size w'.heap.size v L ∧ Below w.heap.size w w'
theorem ansB_end {w w1 : World} {v : Value} {zs L : List Int} {b b' : Bool} (p : Nat) (hp : w.heap.size ≤ p) (h1 : zs = L) (h2 : b' = b) (ho : OwnI w1 w.heap.size w1.heap.size v zs) (hne : v.ownBlock ≠ some p) (hb : Below w.heap.size w w1) (u : Value) :
    BrAns w L b (.returned (.tuple #[.agg #[v], .bool b'])) (w1.setCell ⟨p, 0, none⟩ u) := by
  obtain ⟨v', e, h5, h6⟩ := ansR_endG (C := 0) (D := 0) p hp h1 rfl ho hne hb u
  subst h2
  cases e
  exact ⟨v, rfl, h5, h6⟩
def bsL (L : List Int) : List Int := if bsB L then bsT L else []
theorem bsL_no {L : List Int} (h : bsB L = false) : [] = bsL L := by rw [bsL, h]; rfl
theorem bsL_yes {L : List Int} (h : bsB L = true) : bsT L = bsL L := by rw [bsL, h]; rfl
theorem bsB_none {L : List Int} (h : bsR L = none) : bsB L = false := by simp only [bsB, h]
theorem bkQ_map (L : List Int) : bkQ L = (bkL L).map fun p => [p.1, p.2] := rfl
theorem map_getD {Bs : List (Int × Int)} {i : Nat} {p : Int × Int} {D : List (Int × Int)} (h : Bs.drop i = p :: D) : (Bs.map fun p => [p.1, p.2]).getD i [] = [p.1, p.2] ∧ i < Bs.length ∧ p ∈ Bs ∧ Bs.drop (i + 1) = D := by
  have hi : i < Bs.length := by
    by_cases hi : i < Bs.length
    · exact hi
    · rw [List.drop_eq_nil_of_le (by omega)] at h; cases h
  rw [List.drop_eq_getElem_cons hi] at h
  have h1 := (List.cons.inj h).1
  refine ⟨by simp [List.getD, hi, h1], hi, by rw [← h1]; exact List.getElem_mem hi, (List.cons.inj h).2⟩
theorem drop_set0 {Bs : List (Int × Int)} {i : Nat} {p p' : Int × Int} {D : List (Int × Int)} (h : Bs.drop i = p :: D) : (Bs.set i p').drop i = p' :: D := by
  obtain ⟨_, hi, _, h2⟩ := map_getD h
  rw [List.drop_set, if_neg (by omega), Nat.sub_self, h]; rfl
theorem map_set {Bs : List (Int × Int)} {i : Nat} {e c c' : Int} {D : List (Int × Int)} (h : Bs.drop i = (e, c) :: D) : (Bs.map fun p => [p.1, p.2]).set i (((Bs.map fun p => [p.1, p.2]).getD i []).set 1 c') = (Bs.set i (e, c')).map fun p => [p.1, p.2] := by
  rw [(map_getD h).1, List.map_set]; rfl
theorem pow_six {j : Nat} (h : 2 * 2 ^ j ≤ 64) : j ≤ 5 := by
  by_cases hj : j ≤ 5
  · exact hj
  · have := Nat.pow_le_pow_right (n := 2) (by omega) (show 6 ≤ j by omega)
    omega
theorem pow_step {e e' : Int} {j : Nat} (h : e.toNat * 2 ^ j ≤ 64) (h1 : 1 ≤ e') (h2 : e' * 2 ≤ e) : e'.toNat * 2 ^ (j + 1) ≤ 64 := by
  have h3 : e'.toNat * 2 ≤ e.toNat := by omega
  have h4 : e'.toNat * 2 * 2 ^ j ≤ e.toNat * 2 ^ j := Nat.mul_le_mul_right _ h3
  rw [Nat.pow_succ, Nat.mul_comm (2 ^ j) 2, ← Nat.mul_assoc]; omega

theorem rows_two {w : World} {lo hi n c i : Nat} {A : Option Addr} {L : List (List Int)} {a b : Int} (h : OwnQ w lo hi (.slice A n c) L) (hL : L.length = n) (hi' : i < n) (he : L.getD i [] = [a, b]) :
    ∃ go gi ci, A = some ⟨go, 0, none⟩ ∧ (lo ≤ go ∧ go < hi) ∧ (lo ≤ gi ∧ gi < hi) ∧ w.cell? ⟨go, i, none⟩ = some (.slice (some ⟨gi, 0, none⟩) 2 ci) ∧ w.cell? ⟨gi, 0, none⟩ = some (.int .i64 a) ∧ w.cell? ⟨gi, 1, none⟩ = some (.int .i64 b) ∧ w.frozen? ⟨gi, 1, none⟩ = false := by
  obtain ⟨go, gi, ci, rfl, h1, h2, h3, h4, h5, h6, _⟩ := rows_at h hL hi' (j := 0) (by rw [he]; simp)
  obtain ⟨go', gi', ci', e1, _, _, k3, _, _, k6, k7⟩ := rows_at h hL hi' (j := 1) (by rw [he]; simp)
  cases e1
  rw [h3] at k3
  simp only [Option.some.injEq, Value.slice.injEq, Addr.mk.injEq] at k3
  obtain ⟨⟨rfl, _, _⟩, _, _⟩ := k3
  rw [he] at h3 h6 k6
  exact ⟨go, gi, ci, rfl, ⟨h1, h2⟩, ⟨h4, h5⟩, h3, h6, k6, k7⟩
theorem flB_pos : ∀ {D : List (Int × Int)}, wfB D → ∀ y ∈ flB D, (1 : Int) ≤ y
  | [], _, y, hy => by cases hy
  | p :: D, h, y, hy => by
    rw [flB_cons] at hy
    rcases List.mem_append.1 hy with h5 | h5
    · have := (List.mem_replicate.1 h5).2
      rw [this]; exact (wfB_pos h).1
    · exact flB_pos (wfB_tail h) y h5
theorem lead_lt {e c x c1 : Int} {D : List (Int × Int)} (h : wfB ((e, c) :: (x, c1) :: D)) : lead e (flB ((e, c) :: (x, c1) :: D)) < (flB ((e, c) :: (x, c1) :: D)).length := by
  have h1 := h.2.2.1
  dsimp only at h1
  rw [show lead e (flB ((e, c) :: (x, c1) :: D)) = c.toNat from lead_flB h, flB_cons, flB_cons]
  simp; omega
theorem grown_cell (w : World) (p : Addr) (u : Value) : w.grownBy (w.setCell p u) (some p.block) := grown_setCell (World.grownBy.refl w _) rfl u
theorem dvd_half {a e : Int} (h : a ∣ e) (h1 : 1 ≤ a) (h2 : a < e) : a * 2 ≤ e := by
  obtain ⟨k, rfl⟩ := h
  have h3 : a * 1 < a * k := by omega
  have h4 : 1 < k := Int.lt_of_mul_lt_mul_left h3 (by omega)
  exact Int.mul_le_mul_of_nonneg_left (by omega) (by omega)

end Go.Proofs.Ytohbgfmjnanlkaa
/- BranchOfSequence, the model's, and IsSequence, the model's and the program's: contracts. Conditions: stated at each theorem. -/
namespace Go.Proofs.Ytohbgfmjnanlkaa
open Go.ChangeShapes Go.WideShapes Go.ChangeAt Go.RowKit Go.Deep
set_option linter.unusedVariables false
set_option linter.unusedSimpArgs false

def isqB (zs : List Int) : Bool := sqlB zs && bsB zs
end Go.Proofs.Ytohbgfmjnanlkaa
/- StrictTransform, the model's and the program's: contracts. Conditions: stated at each theorem. -/
namespace Go.Proofs.Ytohbgfmjnanlkaa
open Go.ChangeShapes Go.WideShapes Go.ChangeAt Go.RowKit Go.Deep
set_option linter.unusedVariables false
set_option linter.unusedSimpArgs false

theorem flL_cons (p : Int × Int) (S : List (Int × Int)) : flL (p :: S) = List.replicate p.1.toNat p.2 ++ flL S := by simp [flL]
theorem lead_more (x : Int) (c : Nat) (R : List Int) : c ≤ lead x (List.replicate c x ++ R) := by rw [lead_rep]; omega
/-- Steps are read from their own list. -/
theorem eat_full : ∀ (S : List (Int × Int)) (e : Int) (Y : List Int), (∀ p ∈ S, (0 : Int) ≤ p.1) → ∃ e', eat S e (flL S ++ Y) = some (e', Y)
  | [], e, Y, _ => ⟨e, rfl⟩
  | (q, r) :: S, e, Y, h => by
    have hq := h (q, r) (List.mem_cons_self ..)
    dsimp only at hq
    obtain ⟨e', he⟩ := eat_full S r Y (fun p hp => h p (List.mem_cons_of_mem _ hp))
    refine ⟨e', ?_⟩
    rw [eat_cons, flL_cons, List.append_assoc]
    have h1 := lead_more r q.toNat (flL S ++ Y)
    show (if (lead r (List.replicate q.toNat r ++ (flL S ++ Y)) : Int) < q then none else eat S r ((List.replicate q.toNat r ++ (flL S ++ Y)).drop q.toNat)) = _
    rw [if_neg (by omega), List.drop_append_of_le_length (by simp), List.drop_eq_nil_of_le (by simp), List.nil_append]
    exact he
theorem stL_nonneg : ∀ (f : Nat) (a b : Int), 0 ≤ a → ∀ p ∈ stL f a b, (0 : Int) ≤ p.1
  | 0, _, _, _, p, hp => by cases hp
  | f + 1, a, b, ha, p, hp => by
    unfold stL at hp
    split at hp
    · cases hp
    · rcases List.mem_cons.1 hp with rfl | hp
      · exact Int.ediv_nonneg ha (by omega)
      · exact stL_nonneg f b (a % b) (by omega) p hp
theorem stL_fuel : ∀ (f f' : Nat) (a b : Int), b.toNat < f → b.toNat < f' → stL f a b = stL f' a b
  | 0, _, _, _, h, _ => by omega
  | _, 0, _, _, _, h => by omega
  | f + 1, f' + 1, a, b, h, h' => by
    unfold stL
    by_cases hb : b ≤ 0
    · rw [if_pos hb, if_pos hb]
    · rw [if_neg hb, if_neg hb]
      have h1 : a % b < b := Int.emod_lt_of_pos _ (by omega)
      rw [stL_fuel f f' b (a % b) (by omega) (by omega)]
theorem steps_cons {k e : Int} (he : 1 ≤ e) : steps k e = (k / e, e) :: stL e.toNat e (k % e) := by unfold steps; exact stL_cons he
/-- The first numbers of a run. -/
theorem run_first {k e : Int} {Y : List Int} (hk : 0 ≤ k) (he : 1 ≤ e) (hd : ¬ e ∣ k) :
    lead e (flL (steps k e) ++ Y) = (k / e).toNat ∧ kk e (flL (steps k e) ++ Y) = k ∧ lead e (flL (steps k e) ++ Y) < (flL (steps k e) ++ Y).length := by
  have hm0 : 0 ≤ k % e := Int.emod_nonneg _ (by omega)
  have hm1 : k % e < e := Int.emod_lt_of_pos _ (by omega)
  have hm2 : k % e ≠ 0 := fun h => hd (Int.dvd_of_emod_eq_zero h)
  have hq0 : 0 ≤ k / e := Int.ediv_nonneg hk (by omega)
  have hqq : 1 ≤ e / (k % e) := (Int.le_ediv_iff_mul_le (a := (1 : Int)) (b := e) (c := k % e) (by omega)).2 (by omega)
  obtain ⟨f, hf⟩ : ∃ f, e.toNat = f + 1 := ⟨e.toNat - 1, by omega⟩
  obtain ⟨j, hj⟩ : ∃ j, (e / (k % e)).toNat = j + 1 := ⟨(e / (k % e)).toNat - 1, by omega⟩
  have hR : flL (steps k e) ++ Y = List.replicate (k / e).toNat e ++ ((k % e) :: (List.replicate j (k % e) ++ (flL (stL f (k % e) (e % (k % e))) ++ Y))) := by
    rw [steps_cons he, flL_cons, hf, stL_cons (by omega), flL_cons]
    show (List.replicate (k / e).toNat e ++ (List.replicate (e / (k % e)).toNat (k % e) ++ _)) ++ Y = _
    rw [hj, List.replicate_succ]
    simp only [List.append_assoc, List.cons_append]
  have hl : lead e (flL (steps k e) ++ Y) = (k / e).toNat := by
    rw [hR, lead_rep, lead, if_neg (by omega)]; omega
  refine ⟨hl, ?_, ?_⟩
  · unfold kk
    rw [hl, hR, List.getElem?_append_right (by simp)]
    simp only [List.length_replicate, Nat.sub_self, List.getElem?_cons_zero, Option.getD_some]
    have := Int.mul_ediv_add_emod k e
    rw [show ((k / e).toNat : Int) = k / e by omega, Int.mul_comm]
    exact this
  · rw [hl, hR]
    simp
/-- The runs of a branch are read back. -/
theorem rd_full : ∀ (r : List Int) (f : Nat) (e p : Int) (X : List Int), 1 ≤ e → e.toNat < f → e ∣ p → 0 ≤ p → ascB p r = true → desB e r = true → rd f e p (flL (rnL p e r) ++ X) = some (r, X)
  | [], f, e, p, X, he, hf, _, _, _, hdes => by
    have h1 : e = 1 := by simpa [desB] using hdes
    obtain ⟨f, rfl⟩ : ∃ f', f = f' + 1 := ⟨f - 1, by omega⟩
    rw [rd_end (by omega)]; rfl
  | z :: r, f, e, p, X, he, hf, hep, hp0, hasc, hdes => by
    simp only [ascB, Bool.and_eq_true, decide_eq_true_eq] at hasc
    simp only [desB, Bool.and_eq_true, decide_eq_true_eq] at hdes
    obtain ⟨f, rfl⟩ : ∃ f', f = f' + 1 := ⟨f - 1, by omega⟩
    have hgz : (Int.gcd e (z - p) : Int) = (Int.gcd e z : Int) := by
      obtain ⟨s, hs⟩ := hep
      rw [hs, show z - e * s = z + e * (-s) by rw [Int.mul_neg]; omega, Int.gcd_add_mul_left_right]
    have hg := gcd_le_left (e := e) (z := z) he
    have hnd : ¬ e ∣ z - p := fun hd => by
      have h5 : (e : Int) ∣ (Int.gcd e (z - p) : Int) := Int.dvd_coe_gcd (Int.dvd_refl _) hd
      rw [hgz] at h5
      have := Int.le_of_dvd (by omega) h5
      exact hdes.1 (by omega)
    have hgne := hdes.1
    have he2 : ¬ e ≤ 1 := by omega
    have hR : flL (rnL p e (z :: r)) ++ X = flL (steps (z - p) e) ++ (flL (rnL z (Int.gcd e z : Int) r) ++ X) := by
      show flL (steps (z - p) e ++ rnL z (Int.gcd e z : Int) r) ++ X = _
      rw [flL_append, List.append_assoc]
    rw [hR]
    obtain ⟨h1, h2, h3⟩ := run_first (k := z - p) (Y := flL (rnL z (Int.gcd e z : Int) r) ++ X) (by omega) he hnd
    obtain ⟨e', he'⟩ := eat_full (steps (z - p) e) e (flL (rnL z (Int.gcd e z : Int) r) ++ X) (stL_nonneg _ _ _ (by omega))
    have hee := eat_gcd (by omega) he he'
    have hee2 : e' = (Int.gcd e z : Int) := by rw [hee, Int.gcd_comm, hgz]
    rw [hee2] at he'
    rw [rd, if_neg he2, if_neg (by omega), h2, he']
    have ih := rd_full r f (Int.gcd e z : Int) z X hg.1 (by omega) (Int.gcd_dvd_right _ _) (by omega) hasc.2 hdes.2
    simp only [show p + (z - p) = z by omega, ih]
/-- Runs with all terms less by a multiple of the divisor. -/
theorem rn_shift : ∀ (r : List Int) (p e m : Int), e ∣ m → rnL (p - m) e (r.map fun z => z - m) = rnL p e r
  | [], _, _, _, _ => rfl
  | z :: r, p, e, m, h => by
    obtain ⟨s, hs⟩ := h
    have hg : (Int.gcd e (z - m) : Int) = (Int.gcd e z : Int) := by
      rw [hs, show z - e * s = z + e * (-s) by rw [Int.mul_neg]; omega, Int.gcd_add_mul_left_right]
    show steps (z - m - (p - m)) e ++ rnL (z - m) (Int.gcd e (z - m) : Int) (r.map fun z => z - m) = steps (z - p) e ++ rnL z (Int.gcd e z : Int) r
    rw [hg, rn_shift r z (Int.gcd e z : Int) m (Int.dvd_trans (Int.gcd_dvd_left _ _) ⟨s, hs⟩), show z - m - (p - m) = z - p by omega]
theorem asc_shift : ∀ (r : List Int) (p m : Int), 0 ≤ m → ascB p r = true → ascB (p - m) (r.map fun z => z - m) = true
  | [], _, _, _, _ => rfl
  | z :: r, p, m, hm, h => by
    simp only [ascB, Bool.and_eq_true, decide_eq_true_eq] at h
    simp only [List.map_cons, ascB, Bool.and_eq_true, decide_eq_true_eq]
    exact ⟨by omega, asc_shift r z m hm h.2⟩
theorem des_shift : ∀ (r : List Int) (e m : Int), e ∣ m → desB e r = true → desB e (r.map fun z => z - m) = true
  | [], _, _, _, h => h
  | z :: r, e, m, h, hd => by
    simp only [desB, Bool.and_eq_true, decide_eq_true_eq] at hd
    obtain ⟨s, hs⟩ := h
    have hg : (Int.gcd e (z - m) : Int) = (Int.gcd e z : Int) := by
      rw [hs, show z - e * s = z + e * (-s) by rw [Int.mul_neg]; omega, Int.gcd_add_mul_left_right]
    simp only [List.map_cons, desB, Bool.and_eq_true, decide_eq_true_eq, hg]
    exact ⟨hd.1, des_shift r (Int.gcd e z : Int) m (Int.dvd_trans (Int.gcd_dvd_left _ _) ⟨s, hs⟩) hd.2⟩
/-- What is read back is a sequence. -/
theorem bs_full {n z : Int} {r : List Int} (hn : 1 ≤ n ∧ n ≤ 64) (hnz : n < z) (hasc : ascB 0 (z :: r) = true) (hdes : desB n (z :: r) = true) {L : List Int} (hL : L = flL (rnL 0 n (z :: r)) ++ [1]) (h0 : L[0]?.getD 0 = n) : bsB L = true := by
  have h1 := rd_full (z :: r) 65 n 0 [1] hn.1 (by omega) (Int.dvd_zero _) (Int.le_refl _) hasc hdes
  have h2 : bsR L = some (z :: r, [1]) := by unfold bsR; rw [h0, hL]; exact h1
  have h3 : brB (n :: z :: r) = true := by
    rw [brB_more]
    simp only [dcB, Bool.and_eq_true, decide_eq_true_eq]
    exact ⟨⟨mulB_true.2 hn, hasc, hdes⟩, hnz⟩
  simp only [bsB, h2, h0, h3, Bool.true_and]
  simp [lead]
/-- The strict transform of a branch has a sequence. -/
theorem strict_seq {zs : List Int} (hp : brB zs = true) : bsB ((seqL zs ++ [1]).drop 1) = true := by
  cases zs with
  | nil => cases hp
  | cons n r =>
    cases r with
    | nil =>
      have h1 : n = 1 := by
        rw [brB_one] at hp
        simp only [dcB, desB, Bool.and_eq_true, beq_iff_eq] at hp
        exact hp.2.2
      subst h1
      decide
    | cons z r =>
      have hp2 := hp
      rw [brB_more] at hp2
      simp only [dcB, Bool.and_eq_true, decide_eq_true_eq] at hp2
      obtain ⟨⟨hm, hasc, hdes⟩, hnz⟩ := hp2
      have hn := mulB_true.1 hm
      have hasc' := hasc
      have hdes' := hdes
      simp only [ascB, Bool.and_eq_true, decide_eq_true_eq] at hasc'
      simp only [desB, Bool.and_eq_true, decide_eq_true_eq] at hdes'
      have hgd := gcd_le_left (e := n) (z := z) hn.1
      obtain ⟨q, hq⟩ : ∃ q, z / n = q := ⟨_, rfl⟩
      obtain ⟨x, hx⟩ : ∃ x, z % n = x := ⟨_, rfl⟩
      have hx0 : 0 ≤ x ∧ x < n := by rw [← hx]; exact ⟨Int.emod_nonneg _ (by omega), Int.emod_lt_of_pos _ (by omega)⟩
      have hzq : n * q + x = z := by rw [← hq, ← hx]; exact Int.mul_ediv_add_emod z n
      have hq1 : 1 ≤ q := by rw [← hq]; exact (Int.le_ediv_iff_mul_le (by omega)).2 (by omega)
      have hgx : (Int.gcd n z : Int) = (Int.gcd n x : Int) := by rw [← hzq, Int.add_comm, Int.gcd_add_mul_left_right]
      have hx1 : 1 ≤ x := by
        by_cases h0 : x = 0
        · have h5 := hdes'.1
          rw [hgx, h0, Int.gcd_zero_right] at h5
          omega
        · omega
      have hnx : 1 ≤ n / x := (Int.le_ediv_iff_mul_le (by omega)).2 (by omega)
      have hs : seqL (n :: z :: r) = List.replicate q.toNat n ++ (flL (stL n.toNat n x) ++ flL (rnL z (Int.gcd n z : Int) r)) := by
        show flL (rsI (n :: z :: r)) = _
        rw [rsI_more]
        show flL (steps (z - 0) n ++ rnL z (Int.gcd n z : Int) r) = _
        rw [flL_append, Int.sub_zero, steps_cons hn.1, flL_cons, hq, hx, List.append_assoc]
      obtain ⟨q', hq'⟩ : ∃ q', q.toNat = q' + 1 := ⟨q.toNat - 1, by omega⟩
      have hL : (seqL (n :: z :: r) ++ [1]).drop 1 = List.replicate q' n ++ (flL (stL n.toNat n x) ++ (flL (rnL z (Int.gcd n z : Int) r) ++ [1])) := by
        rw [hs, hq', List.replicate_succ]
        simp [List.append_assoc]
      rw [hL]
      by_cases hq2 : 2 ≤ q
      · -- a number n less in front
        have hd : ((z - n) / n).toNat = q' := by
          rw [← hzq, show n * q + x - n = x + n * (q - 1) by rw [Int.mul_sub]; omega, Int.add_mul_ediv_left _ _ (by omega), Int.ediv_eq_zero_of_lt hx0.1 hx0.2]; omega
        have hmd : (z - n) % n = x := by
          rw [← hzq, show n * q + x - n = x + n * (q - 1) by rw [Int.mul_sub]; omega, Int.add_mul_emod_self_left, Int.emod_eq_of_lt hx0.1 hx0.2]
        have hg2 : (Int.gcd n (z - n) : Int) = (Int.gcd n z : Int) := by
          rw [show z - n = z + n * (-1) by omega, Int.gcd_add_mul_left_right]
        have hz2 : 2 * n < z := by
          have : n * 2 ≤ n * q := Int.mul_le_mul_of_nonneg_left hq2 (by omega)
          omega
        refine bs_full (n := n) (z := z - n) (r := r.map fun y => y - n) hn (by omega) ?_ ?_ ?_ ?_
        · simp only [ascB, Bool.and_eq_true, decide_eq_true_eq]
          exact ⟨by omega, asc_shift r z n (by omega) hasc'.2⟩
        · simp only [desB, Bool.and_eq_true, decide_eq_true_eq, hg2]
          exact ⟨hdes'.1, des_shift r _ n (Int.gcd_dvd_left _ _) hdes'.2⟩
        · show _ = flL (steps (z - n - 0) n ++ rnL (z - n) (Int.gcd n (z - n) : Int) (r.map fun y => y - n)) ++ [1]
          rw [hg2, rn_shift r z _ n (Int.gcd_dvd_left _ _), flL_append, Int.sub_zero, steps_cons hn.1, flL_cons, hmd]
          show _ = (List.replicate ((z - n) / n).toNat n ++ _) ++ _ ++ _
          rw [hd]
          simp [List.append_assoc]
        · obtain ⟨q'', hq''⟩ : ∃ k, q' = k + 1 := ⟨q' - 1, by omega⟩
          rw [hq'', List.replicate_succ]; rfl
      · -- the first number is the remainder
        obtain rfl : q = 1 := by omega
        obtain rfl : q' = 0 := by
          have : (1 : Int).toNat = 1 := rfl
          omega
        rw [List.replicate_zero, List.nil_append]
        obtain ⟨f, hf⟩ : ∃ f, n.toNat = f + 1 := ⟨n.toNat - 1, by omega⟩
        obtain ⟨j, hj⟩ : ∃ j, (n / x).toNat = j + 1 := ⟨(n / x).toNat - 1, by omega⟩
        have hst : stL n.toNat n x = (n / x, x) :: stL f x (n % x) := by rw [hf, stL_cons hx1]
        have h0 : (flL (stL n.toNat n x) ++ (flL (rnL z (Int.gcd n z : Int) r) ++ [1]))[0]?.getD 0 = x := by
          rw [hst, flL_cons]
          show ((List.replicate (n / x).toNat x ++ _) ++ _)[0]?.getD 0 = x
          rw [hj, List.replicate_succ]; rfl
        have hzx : z = n + x := by omega
        by_cases hxn : x ∣ n
        · -- a run less
          have hgxx : (Int.gcd n z : Int) = x := by
            rw [hgx]
            have h5 : x ∣ (Int.gcd n x : Int) := Int.dvd_coe_gcd hxn (Int.dvd_refl _)
            have h6 := Int.le_of_dvd (by have := gcd_le (e := n) hx1; omega) h5
            have h7 := gcd_le (e := n) hx1
            omega
          rw [hgxx] at hdes' ⊢
          rw [hgxx] at h0
          have hmx : n % x = 0 := Int.emod_eq_zero_of_dvd hxn
          rw [hmx, stL_zero] at hst
          rw [hst] at h0 ⊢
          cases r with
          | nil =>
            have h1 : x = 1 := by simpa [desB] using hdes'.2
            subst h1
            have hR : bsR (flL [(n / 1, 1)] ++ (flL (rnL z 1 []) ++ [1])) = some ([], flL [(n / 1, 1)] ++ (flL (rnL z 1 []) ++ [1])) := by
              unfold bsR; rw [h0]; exact rd_end (by omega)
            simp only [bsB, hR, h0]
            have hE : flL [(n / 1, (1 : Int))] ++ (flL (rnL z 1 []) ++ [1]) = List.replicate (n / 1).toNat 1 ++ [1] := by simp [flL, rnL]
            rw [hE, lead_rep]
            simp [lead, brB, mulB, isB]
          | cons y r =>
            have hasc2 := hasc'.2
            simp only [ascB, Bool.and_eq_true, decide_eq_true_eq] at hasc2
            have hdes2 := hdes'.2
            simp only [desB, Bool.and_eq_true, decide_eq_true_eq] at hdes2
            have hg2 : (Int.gcd x (y - x) : Int) = (Int.gcd x y : Int) := by
              rw [show y - x = y + x * (-1) by omega, Int.gcd_add_mul_left_right]
            obtain ⟨k, hk⟩ := hxn
            have hnk : n / x = k := by rw [hk, Int.mul_ediv_cancel_left _ (by omega)]
            have hyz : (y - x) / x = k + (y - z) / x := by
              rw [show y - x = (y - z) + x * k by omega, Int.add_mul_ediv_left _ _ (by omega)]; omega
            have hym : (y - x) % x = (y - z) % x := by
              rw [show y - x = (y - z) + x * k by omega, Int.add_mul_emod_self_left]
            have hyq : 0 ≤ (y - z) / x := Int.ediv_nonneg (by omega) (by omega)
            have hxx : x < n := hx0.2
            refine bs_full (n := x) (z := y - x) (r := r.map fun w => w - x) (by omega) (by omega) ?_ ?_ ?_ h0
            · simp only [ascB, Bool.and_eq_true, decide_eq_true_eq]
              exact ⟨by omega, asc_shift r y x (by omega) hasc2.2⟩
            · simp only [desB, Bool.and_eq_true, decide_eq_true_eq, hg2]
              exact ⟨hdes2.1, des_shift r _ x (Int.gcd_dvd_left _ _) hdes2.2⟩
            · show _ = flL (steps (y - x - 0) x ++ rnL (y - x) (Int.gcd x (y - x) : Int) (r.map fun w => w - x)) ++ [1]
              show flL [(n / x, x)] ++ (flL (steps (y - z) x ++ rnL y (Int.gcd x y : Int) r) ++ [1]) = _
              rw [hg2, rn_shift r y _ x (Int.gcd_dvd_left _ _), flL_append, flL_append, Int.sub_zero, steps_cons hx1, steps_cons hx1, flL_cons, flL_cons, flL_cons, hym]
              show (List.replicate (n / x).toNat x ++ flL []) ++ ((List.replicate ((y - z) / x).toNat x ++ _) ++ _ ++ _) = (List.replicate ((y - x) / x).toNat x ++ _) ++ _ ++ _
              rw [hyz, hnk, show (k + (y - z) / x).toNat = k.toNat + ((y - z) / x).toNat by omega, ← List.replicate_append_replicate]
              simp [flL, List.append_assoc, -List.replicate_append_replicate]
        · -- as many runs
          have hx2 : 2 ≤ x := by
            by_cases h5 : x = 1
            · exact absurd (h5 ▸ Int.one_dvd n) hxn
            · omega
          have hgn : (Int.gcd x n : Int) = (Int.gcd n z : Int) := by rw [Int.gcd_comm, hgx]
          have hgx2 : (Int.gcd n z : Int) ∣ x := by rw [hgx]; exact Int.gcd_dvd_right _ _
          refine bs_full (n := x) (z := n) (r := r.map fun y => y - x) (by omega) hx0.2 ?_ ?_ ?_ h0
          · simp only [ascB, Bool.and_eq_true, decide_eq_true_eq]
            have h5 := asc_shift r z x (by omega) hasc'.2
            rw [show z - x = n by omega] at h5
            exact ⟨by omega, h5⟩
          · simp only [desB, Bool.and_eq_true, decide_eq_true_eq, hgn]
            refine ⟨fun h5 => hxn ?_, des_shift r _ x hgx2 hdes'.2⟩
            rw [← h5]; exact Int.gcd_dvd_left _ _
          · show _ = flL (steps (n - 0) x ++ rnL n (Int.gcd x n : Int) (r.map fun y => y - x)) ++ [1]
            have h5 := rn_shift r z (Int.gcd n z : Int) x hgx2
            rw [show z - x = n by omega] at h5
            rw [hgn, h5, flL_append, Int.sub_zero]
            unfold steps
            rw [stL_fuel n.toNat (x.toNat + 1) n x (by omega) (by omega)]
            simp [List.append_assoc]
def stA (zs : List Int) : List Int := if lqC zs 1 = 0 then bsT ((seqL zs ++ [1]).drop 1) else []
theorem lq_br {zs : List Int} (h0 : lqC zs 1 = 0) : brB zs = true := by
  rcases bool_fs (brB zs) with hp | hp
  · rw [(lq_no hp).1] at h0; cases h0
  · exact hp
theorem lq_cnt {zs : List Int} (h0 : lqC zs 1 = 0) : cntL (rsI zs) + 1 ≤ 400 := by
  have hp := lq_br h0
  by_cases h3 : 400 < cntL (rsI zs) + 1
  · rw [(lq_big hp (by omega) h3).1] at h0; cases h0
  · omega
theorem st_len {zs : List Int} (h0 : lqC zs 1 = 0) : 2 ≤ (seqL zs ++ [1]).length ∧ (seqL zs ++ [1]).length ≤ 400 := by
  have hp := lq_br h0
  have h1 := (seq_len hp).1
  have h2 := lq_cnt h0
  have h3 := cnt_eq hp
  rw [List.length_append]
  simp only [List.length_cons, List.length_nil]
  omega
theorem st_sql {zs : List Int} (h0 : lqC zs 1 = 0) : sqlB ((seqL zs ++ [1]).drop 1) = true := by
  have hp := lq_br h0
  have h1 := st_len h0
  unfold sqlB
  rw [decide_eq_true (by rw [List.length_drop]; omega), Bool.true_and, List.all_eq_true]
  intro z hz
  have hz2 := List.mem_of_mem_drop hz
  refine mulB_true.2 ?_
  rcases List.mem_append.1 hz2 with h5 | h5
  · obtain ⟨p, hp1, hp2⟩ := List.mem_flatMap.1 h5
    have h6 := (rsI_ok hp).1 p hp1
    have h7 := (List.mem_replicate.1 hp2).2
    rw [h7]
    exact h6.2
  · have : z = 1 := by simpa using h5
    omega
theorem stA_len (zs : List Int) : (stA zs).length ≤ 1099511627776 := by
  unfold stA
  split
  · rename_i h0
    have h1 := bsA_len ((seqL zs ++ [1]).drop 1)
    rwa [(bs_yes (st_sql h0) (strict_seq (lq_br h0))).1] at h1
  · simp

end Go.Proofs.Ytohbgfmjnanlkaa
