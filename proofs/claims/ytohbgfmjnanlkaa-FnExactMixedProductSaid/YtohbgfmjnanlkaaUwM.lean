/- Unloading, plain mathematics: a round of raising. Conditions: stated at each theorem. -/
import Derived.Test.YtohbgfmjnanlkaaUlM
import Derived.Test.YtohbgfmjnanlkaaUn13
namespace Go.Proofs.Ytohbgfmjnanlkaa
set_option linter.unusedVariables false
set_option linter.unusedSimpArgs false

theorem exU_xs {P S : List Int} {n v : Nat} (h : okAll P S n = true) (hv : v < n) (O : Nat → Int) : exU P S n O v = xsF P S n O v := by
  rw [← ex_wo h hv O]
  unfold exU
  rw [woL_fn h]
  rw [ex_pf h _ (Nat.le_refl n), ex_pf h _ (Nat.le_refl n), fnL_at hv]
  rw [sgC_congr (fun j hj => by rw [fnL_at hj])]
theorem raF_mem {O st : Nat → Int} : ∀ {L : List Nat}, L.Nodup → ∀ x, raF O st L x = O x + (if x ∈ L then st x else 0)
  | [], _, x => by simp [raF]
  | p :: L, h, x => by
    have hp := (List.nodup_cons.1 h)
    have ih := raF_mem (O := updF O p (st p)) (st := st) hp.2 x
    show raF (updF O p (st p)) st L x = _
    rw [ih]
    unfold updF
    by_cases e : x = p
    · subst e
      rw [if_pos rfl, if_neg hp.1, if_pos (by simp)]; omega
    · rw [if_neg e]
      by_cases m : x ∈ L
      · rw [if_pos m, if_pos (by simp [m])]
      · rw [if_neg m, if_neg (by simp [e, m])]
/-- What a round of raising knows of orders. -/
structure RS (P S : List Int) (n : Nat) (O0 O : Nat → Int) : Prop where
  btw : Btw P S n O0 O
  ex : ∀ x, x < n → -(bdE P S n x) ≤ exU P S n O x ∧ exU P S n O x ≤ bdE P S n x
def stR (P S : List Int) (n K : Nat) (O : Nat → Int) (J : Nat → Bool) (p : Nat) : Int := qtR (riR (meE P S n) (exU P S n O) J n K p (-1))
/-- No point joined, none to rise: the orders are consistent. -/
theorem rf_none {M : Nat → Nat → Int} {J : Nat → Bool} {o : Nat → Int × Int × Int} {v : Nat} {f : Int} {r0 : Int × Int × Int} : ∀ {m : Nat}, (∀ c, c < m → J c = false) → rfN M J o v f r0 m = r0
  | 0, _ => rfl
  | m + 1, h => by
    rw [rfN_no (fun hh => by rw [h m (by omega)] at hh; exact absurd hh.2.2 (by decide))]
    exact rf_none fun c hc => h c (by omega)
theorem RS.done {P S : List Int} {n K : Nat} {O0 O : Nat → Int} {J : Nat → Bool} {sd : Nat → Int → Nat → Bool} {mu : Nat → Int → Nat} (h : RS P S n O0 O) (hT : TB n (adjB P S n) sd mu K) (hO : okAll P S n = true) (hn : n ≤ 24) (hJ : JL n J [])
    (hout : ∀ q, q < n → J q = false → (riR (meE P S n) (exU P S n O) J n K q (-1)).1 ≤ 0) : Lst P S n O0 O := by
  have hM := mx_cluster hO hn
  have hj : ∀ c, c < n → J c = false := fun c hc => by
    cases e : J c
    · rfl
    · have := (hJ.mem c).2 ⟨hc, e⟩; cases this
  refine h.btw.lst fun v hv => ?_
  have h1 := hout v hv (hj v hv)
  rw [ri_eq hM hT _ J hv (.inl rfl), rf_none hj, exU_xs hO hv] at h1
  simp only at h1
  omega
theorem RS.next {P S : List Int} {n K : Nat} {O0 O : Nat → Int} {J : Nat → Bool} {L : List Nat} {sd : Nat → Int → Nat → Bool} {mu : Nat → Int → Nat} (h : RS P S n O0 O) (hT : TB n (adjB P S n) sd mu K) (hO : okAll P S n = true) (hn : n ≤ 24) (hJ : JL n J L)
    (hin : ∀ q, q < n → J q = true → 0 < (riR (meE P S n) (exU P S n O) J n K q (-1)).1) (hout : ∀ q, q < n → J q = false → (riR (meE P S n) (exU P S n O) J n K q (-1)).1 ≤ 0) :
    RS P S n O0 (raF O (stR P S n K O J) L) ∧ ∀ x, x ∈ L → 1 ≤ stR P S n K O J x := by
  have hM := mx_cluster hO hn
  obtain ⟨r1, r2, r3⟩ := ri_raise hM hT (exU P S n O) hin hout
  have hD : ∀ v, v < n → (if v ∈ L then stR P S n K O J v else 0) = dtR (meE P S n) (exU P S n O) J n K v := fun v hv => by
    unfold dtR stR
    by_cases hj : J v = true
    · rw [if_pos hj, if_pos ((hJ.mem v).2 ⟨hv, hj⟩)]
    · rw [if_neg hj, if_neg (fun hm => hj ((hJ.mem v).1 hm).2)]
  have hra : raF O (stR P S n K O J) L = fun x => O x + (if x ∈ L then stR P S n K O J x else 0) := funext fun x => raF_mem hJ.nd x
  have hsum : ∀ v, sgC (fun k => meE P S n v k * (if k ∈ L then stR P S n K O J k else 0)) n = sgC (fun k => meE P S n v k * dtR (meE P S n) (exU P S n O) J n K k) n := fun v => sgC_congr fun k hk => by rw [hD k hk]
  have hnn : ∀ v, v < n → 0 ≤ dtR (meE P S n) (exU P S n O) J n K v := fun v hv => by
    cases e : J v
    · rw [r2 v hv e]; exact Int.le_refl _
    · have := r1 v hv e; omega
  refine ⟨⟨?_, fun x hx => ?_⟩, fun x hx => ?_⟩
  · rw [hra]
    refine h.btw.step _ (fun v hv => by rw [hD v hv]; exact hnn v hv) (fun y hy hc v hv => ?_)
    rw [hD v hv]
    exact ri_feas hM hT (exU P S n O) J hy (fun v hv => by rw [exU_xs hO hv]; exact hc v hv) v hv
  · have h3 := r3 x hx
    have h4 := h.ex x hx
    have h5 := hM.neg x hx
    have h6 : exU P S n (raF O (stR P S n K O J) L) x = exU P S n O x - sgC (fun k => meE P S n x k * dtR (meE P S n) (exU P S n O) J n K k) n := by
      rw [exU_xs hO hx, exU_xs hO hx, hra, xs_add]
      have : xsF P S n (fun k => if k ∈ L then stR P S n K O J k else 0) x = -sgC (fun k => meE P S n x k * dtR (meE P S n) (exU P S n O) J n K k) n := by
        unfold xsF; rw [hsum]
      rw [this]; omega
    rw [h6]
    unfold bdE at h4 ⊢
    have h7 : exU P S n O x - sgC (fun k => meE P S n x k * dtR (meE P S n) (exU P S n O) J n K k) n ≤ 100100 * -(meE P S n x x) := by
      cases e : J x
      · have := h3.2.2 e; omega
      · have := h3.2.1 e; omega
    refine ⟨?_, h7⟩
    have := h3.1
    omega
  · have hm := (hJ.mem x).1 hx
    have h1 := r1 x hm.1 hm.2
    rw [← hD x hm.1, if_pos hx] at h1
    exact h1
/-- Orders on the way are bounded. -/
theorem RS.top {P S : List Int} {n : Nat} {O0 O : Nat → Int} (h : RS P S n O0 O) (hO : okAll P S n = true) (hn : n ≤ 24) (h0 : ∀ x, x < n → -13000000000 ≤ O0 x ∧ O0 x ≤ 13000000000) (he : ∀ v, v < n → -2500000 ≤ xsF P S n O0 v) : ∀ x, x < n → -13000000000 ≤ O x ∧ O x ≤ O0 x + 2500000 * zU P S n x ∧ O x ≤ 40000000000000000 := fun x hx => by
  have h1 := h.btw.top hO hn (by omega) he x hx
  have h2 := h.btw.ge x hx
  have h3 := h0 x hx
  have h4 := zU_rng hO hn hx
  omega
def fuU (P S : List Int) (n : Nat) (O0 O : Nat → Int) : Nat := (sgC (fun x => O0 x + 2500000 * zU P S n x - O x) n).toNat
theorem sgC_inc {F G : Nat → Int} {p : Nat} : ∀ {n : Nat}, p < n → (∀ x, x < n → F x ≤ G x) → F p + 1 ≤ G p → sgC F n + 1 ≤ sgC G n
  | 0, h, _, _ => by omega
  | n + 1, h, hl, hp => by
    show sgC F n + F n + 1 ≤ sgC G n + G n
    by_cases e : p = n
    · subst e
      have := sgC_mono (F := F) (G := G) (n := p) (fun i hi => hl i (by omega))
      omega
    · have := sgC_inc (F := F) (G := G) (p := p) (n := n) (by omega) (fun x hx => hl x (by omega)) hp
      have := hl n (by omega)
      omega
theorem RS.fuel {P S : List Int} {n : Nat} {O0 O O1 : Nat → Int} {p : Nat} (h : RS P S n O0 O1) (hO : okAll P S n = true) (hn : n ≤ 24) (h0 : ∀ x, x < n → -13000000000 ≤ O0 x ∧ O0 x ≤ 13000000000) (he : ∀ v, v < n → -2500000 ≤ xsF P S n O0 v)
    (hge : ∀ x, x < n → O x ≤ O1 x) (hp : p < n) (hp1 : O p + 1 ≤ O1 p) : fuU P S n O0 O1 < fuU P S n O0 O := by
  have h1 := sgC_inc (F := fun x => O0 x + 2500000 * zU P S n x - O1 x) (G := fun x => O0 x + 2500000 * zU P S n x - O x) hp (fun x hx => by have := hge x hx; omega) (by omega)
  have h2 : 0 ≤ sgC (fun x => O0 x + 2500000 * zU P S n x - O1 x) n := sgC_nn fun x hx => by have := (h.top hO hn h0 he x hx).2.1; omega
  unfold fuU
  omega
end Go.Proofs.Ytohbgfmjnanlkaa
