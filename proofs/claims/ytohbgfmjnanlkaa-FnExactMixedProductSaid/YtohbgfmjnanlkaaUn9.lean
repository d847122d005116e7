/- A single step of unloading, the program's. Conditions: stated at each theorem. -/
import Derived.Test.YtohbgfmjnanlkaaUn8
namespace Go.Proofs.Ytohbgfmjnanlkaa
open Go.ChangeShapes Go.WideShapes Go.ChangeAt Go.RowKit Go.Deep
set_option linter.unusedVariables false
set_option linter.unusedSimpArgs false

theorem Kept.set3 {V : World} {lo hi g : Nat} (h : ¬ (lo ≤ g ∧ g < hi)) (x y z : Value) : Kept lo hi V (((V.setCell ⟨g, 0, none⟩ x).setCell ⟨g, 1, none⟩ y).setCell ⟨g, 2, none⟩ z) :=
  ⟨by rw [size_set3]; exact Nat.le_refl _, fun b h1 h2 => by
    have hb : b ≠ g := fun e => h ⟨by omega, by omega⟩
    rw [Below.heap_setCell _ _ _ _ (by simpa using hb), Below.heap_setCell _ _ _ _ (by simpa using hb), Below.heap_setCell _ _ _ _ (by simpa using hb)]⟩
theorem OwnI.widen_lo {w : World} {l l' h : Nat} {v : Value} {L : List Int} (o : OwnI w l h v L) (hl : l' ≤ l) : OwnI w l' h v L := own_less o hl
theorem US.below {w w' : World} {lo ub bo bj g n mo bn co cm cn : Nat} {P S : List Int} {O : Nat → Int} {J : Nat → Bool} (h : US w lo ub bo bj g n mo bn co cm cn P S O J) (hb : Below w.heap.size w w') : US w' lo ub bo bj g n mo bn co cm cn P S O J := by
  obtain ⟨hsta, ⟨A1, c1, A4, c4, l1, h1, l4, h4, hux, ho1, ho4, hl1, hl4⟩, hord, hjoi⟩ := h
  exact ⟨hsta.keep (U3.ofBelow hb), ⟨A1, c1, A4, c4, l1, h1, l4, h4, hux.below hb, ho1.stay hb, ho4.stay hb, hl1, hl4⟩, hord.stay hb, hjoi.of_block (hb.block bj hsta.jlo.2)⟩
theorem me_rng {P S : List Int} {n p : Nat} (h : okAll P S n = true) (hp : p < n) (hn : n ≤ 24) : -100 ≤ meE P S n p p ∧ meE P S n p p ≤ -1 := by
  have h1 := me_self h hp
  have h2 : 0 ≤ sgC (fun j => cnQ (nrC P S j) p) n := sgC_nn fun i _ => cnQ_nn _ _
  have h3 : sgC (fun j => cnQ (nrC P S j) p) n ≤ 1 * n := (sgC_le (b := 1) (n := n) (fun i hi => by
    rw [cn_le h hi]; split <;> omega)).2
  omega
/-- The least point with a negative excess, or -1; the step there; the weights behind it. -/
def usP (P S W : List Int) (n : Nat) : Int := lsI (fun x => (ecL P S W n)[x]?.getD 0) n
def usS (P S W : List Int) (n p : Nat) : Int := qtI (-(exN P S (fun x => W[x]?.getD 0) n p)) (-(meE P S n p p))
def usL (P S W : List Int) (n p : Nat) : List Int := fnL (fun x => W[x]?.getD 0 + pfE P S x p * usS P S W n p) n
theorem usL_len (P S W : List Int) (n p : Nat) : (usL P S W n p).length = n := fnL_len _ _
def usC (P S W : List Int) : Int := if clB P S W then (if usP P S W P.length < 0 then 4 else if wtOK (usL P S W P.length (usP P S W P.length).toNat) then 0 else 3) else 1
def usPA (P S W : List Int) : List Int := if usC P S W = 0 then P else []
def usSA (P S W : List Int) : List Int := if usC P S W = 0 then S else []
def usWA (P S W : List Int) : List Int := if usC P S W = 0 then usL P S W P.length (usP P S W P.length).toNat else []
theorem us_no {P S W : List Int} {C : Int} (h : usC P S W = C) (hC : C ≠ 0) : usPA P S W = [] ∧ usSA P S W = [] ∧ usWA P S W = [] := by
  subst h; exact ⟨if_neg hC, if_neg hC, if_neg hC⟩
theorem us_none {P S W : List Int} {n : Nat} (h : ClOK P S W n) (hp : usP P S W n < 0) : usC P S W = 4 := by
  unfold usC; rw [if_pos h.b, h.p, if_pos hp]
theorem us_mid {P S W : List Int} {n p : Nat} (h : ClOK P S W n) (hp : usP P S W n = (p : Int)) : usC P S W = if wtOK (usL P S W n p) then 0 else 3 := by
  unfold usC; rw [if_pos h.b, h.p, hp, if_neg (by omega), Int.toNat_natCast]
theorem us_yes {P S W : List Int} {n p : Nat} (h : ClOK P S W n) (hp : usP P S W n = (p : Int)) (hw : wtOK (usL P S W n p) = true) : usC P S W = 0 ∧ usPA P S W = P ∧ usSA P S W = S ∧ usWA P S W = usL P S W n p := by
  have h0 : usC P S W = 0 := by rw [us_mid h hp, hw]; rfl
  exact ⟨h0, if_pos h0, if_pos h0, by unfold usWA; rw [if_pos h0, h.p, hp, Int.toNat_natCast]⟩
theorem us_len (P S W : List Int) : (usPA P S W).length ≤ 1048576 ∧ (usSA P S W).length ≤ 1048576 ∧ (usWA P S W).length ≤ 1048576 := by
  by_cases h : usC P S W = 0
  · have hb : clB P S W = true := by
      cases hb : clB P S W with
      | true => rfl
      | false => simp [usC, hb] at h
    obtain ⟨n, hC⟩ := clB_true hb
    have hn := hC.hi
    refine ⟨by rw [usPA, if_pos h, hC.p]; omega, by rw [usSA, if_pos h, hC.s]; omega, by rw [usWA, if_pos h, usL_len, hC.p]; omega⟩
  · have h2 := us_no (C := usC P S W) rfl h
    rw [h2.1, h2.2.1, h2.2.2]; simp
/-- The orders of a cluster as a function. -/
def ofF (P S W : List Int) (n : Nat) (x : Nat) : Int := (orL P S W n)[x]?.getD 0
theorem ofF_at {P S W : List Int} {n x : Nat} (h : x < n) : ofF P S W n x = oF P S (fun x => W[x]?.getD 0) x := orL_at h
theorem ofF_list (P S W : List Int) (n : Nat) : fnL (ofF P S W n) n = orL P S W n := fnL_self (orL_len _ _ _ _)
theorem fnL_back {W : List Int} {n : Nat} (h : W.length = n) : fnL (fun x => W[x]?.getD 0) n = W := fnL_self h
theorem woL_fn {P S : List Int} {n : Nat} (h : okAll P S n = true) (O : Nat → Int) : woL P S (fnL O n) n = fnL (woF P S O) n := fnL_congr fun x hx => wo_congr h hx fun y hy => fnL_at hy
theorem wo_back {P S W : List Int} {n : Nat} (h : okAll P S n = true) (hw : W.length = n) : woL P S (fnL (ofF P S W n) n) n = W := by
  rw [woL_fn h]
  refine Eq.trans (fnL_congr fun x hx => ?_) (fnL_back hw)
  rw [wo_congr h hx (O' := oF P S (fun x => W[x]?.getD 0)) (fun y hy => ofF_at hy), wo_oF h hx]
theorem of_rng {P S W : List Int} {n : Nat} (h : ClOK P S W n) : ∀ x, x < n → -30000000000000000 ≤ ofF P S W n x ∧ ofF P S W n x ≤ 30000000000000000 := fun x hx => by
  rw [ofF_at hx]; exact oF_rng h.ok h.hi (fun i _ => wtOK_at h.wt) hx
theorem wo_raise {P S W : List Int} {n p : Nat} (h : okAll P S n = true) (hw : W.length = n) (hp : p < n) (st : Nat → Int) (hst : st p = usS P S W n p) : woL P S (fnL (raF (ofF P S W n) st [p]) n) n = usL P S W n p := by
  rw [woL_fn h]
  refine fnL_congr fun x hx => ?_
  have e : raF (ofF P S W n) st [p] = fun x => ofF P S W n x + (if x = p then st p else 0) := by
    funext x
    show updF (ofF P S W n) p (st p) x = _
    unfold updF
    by_cases hxp : x = p
    · rw [if_pos hxp, if_pos hxp]
    · rw [if_neg hxp, if_neg hxp, Int.add_zero]
  rw [e, wo_add, wo_un h hx hp, wo_congr h hx (O' := oF P S (fun x => W[x]?.getD 0)) (fun y hy => ofF_at hy), wo_oF h hx, hst]
theorem qtI_rng {a b : Int} (ha : 0 < a) (hb : 0 < b) : 0 ≤ qtI a b ∧ qtI a b ≤ a := by
  have h1 := Int.ediv_nonneg (a := a + b - 1) (by omega) (Int.le_of_lt hb)
  refine ⟨h1, ?_⟩
  have h2 := Int.mul_le_mul_of_nonneg_left (show (1 : Int) ≤ b by omega) (show 0 ≤ a by omega)
  have h3 : (a + b - 1) / b ≤ (a * b + b - 1) / b := Int.ediv_le_ediv hb (by omega)
  have h4 : (a * b + b - 1) / b = a := by
    rw [show a * b + b - 1 = (b - 1) + b * a by rw [Int.mul_comm a b]; omega, Int.add_mul_ediv_left _ _ (by omega), Int.ediv_eq_zero_of_lt (by omega) (by omega)]; omega
  show (a + b - 1) / b ≤ a
  omega
theorem ec_at_ex {P S W : List Int} {n x : Nat} (hx : x < n) : (ecL P S W n)[x]?.getD 0 = exN P S (fun x => W[x]?.getD 0) n x := ecL_at hx

end Go.Proofs.Ytohbgfmjnanlkaa
