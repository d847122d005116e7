/- Apery lists: plain mathematics of chapter 5. Conditions: stated at each theorem. -/
import Derived.Test.YtncgkoanckefmaaVaM
namespace Go.Proofs.Ytncgkoanckefmaa
set_option linter.unusedVariables false

theorem rcL_shift {e g : Int} : ∀ (f : Nat) (v k : Int), rcL e g (v + e * k) f = rcL e g v f
  | 0, _, _ => rfl
  | f + 1, v, k => by
    unfold rcL
    have h : (v + e * k).tmod e = 0 ↔ v.tmod e = 0 := by
      rw [tmod_zero, tmod_zero]
      exact ⟨fun h => by have := Int.dvd_sub h (Int.dvd_mul_right e k); rwa [Int.add_sub_cancel] at this, fun h => Int.dvd_add h (Int.dvd_mul_right e k)⟩
    by_cases h0 : v.tmod e = 0
    · rw [if_pos (h.2 h0), if_pos h0]
    · rw [if_neg (fun x => h0 (h.1 x)), if_neg h0]
      have e1 : v + e * k - g = (v - g) + e * k := by omega
      rw [e1, rcL_shift f]
theorem dvA_all {zs : List Int} (hp : brB zs = true) : ∀ {i : Nat}, i < zs.length → dvA zs i ∣ dvA zs 0
  | 0, _ => Int.dvd_refl _
  | i + 1, h => Int.dvd_trans (dvA_dvd hp h).1 (dvA_all hp (by omega))
theorem rpV_shift {zs : List Int} (hp : brB zs = true) : ∀ {i : Nat} {v k : Int}, i < zs.length → rpV zs i (v + dvA zs 0 * k) = rpV zs i v + dvA zs 0 * k
  | 0, _, _, _ => rfl
  | i + 1, v, k, hi => by
    rw [rpV_step, rpV_step]
    obtain ⟨t, ht⟩ := dvA_all hp (i := i) (by omega)
    have h1 : rcA zs i (v + dvA zs 0 * k) = rcA zs i v := by
      show rcL (dvA zs i) _ _ 64 = rcL (dvA zs i) _ _ 64
      rw [ht, Int.mul_assoc]; exact rcL_shift _ _ _
    rw [h1]
    have e1 : v + dvA zs 0 * k - (rcA zs i v : Int) * gnA zs (i + 1) = (v - (rcA zs i v : Int) * gnA zs (i + 1)) + dvA zs 0 * k := by omega
    rw [e1, rpV_shift hp (by omega)]
theorem rpV_dvd {zs : List Int} (hp : brB zs = true) : ∀ {i : Nat} {v : Int}, i < zs.length → dvA zs i ∣ v → dvA zs 0 ∣ rpV zs i v
  | 0, _, _, h => h
  | i + 1, v, hi, hd => by rw [rpV_step]; exact rpV_dvd hp (by omega) (rc_level hp hi hd).2.2
theorem rpV_le {zs : List Int} (hp : brB zs = true) : ∀ {i : Nat} {v : Int}, i < zs.length → rpV zs i v ≤ v
  | 0, v, _ => Int.le_refl v
  | i + 1, v, hi => by
    rw [rpV_step]
    have h1 := rpV_le hp (i := i) (v := v - (rcA zs i v : Int) * gnA zs (i + 1)) (by omega)
    have h2 := gnA_pos hp hi
    have h4 : 0 ≤ (rcA zs i v : Int) * gnA zs (i + 1) := Int.mul_nonneg (by omega) (by omega)
    omega
/-- The least value with the remainder of r. -/
def apA (zs : List Int) (r : Int) : Int := r - rpV zs (zs.length - 1) r
theorem dv_last_dvd {zs : List Int} (hp : brB zs = true) (v : Int) : dvA zs (zs.length - 1) ∣ v := by rw [dvA_last hp]; exact Int.one_dvd v
theorem apA_range {zs : List Int} (hp : brB zs = true) (r : Int) : 0 ≤ apA zs r ∧ apA zs r ≤ 8192000 := by
  have h0 := brB_pos hp
  have h1 := rpV_le hp (i := zs.length - 1) (v := r) (by omega)
  unfold apA
  refine ⟨by omega, ?_⟩
  obtain ⟨m, hm⟩ : ∃ m, zs.length - 1 = m := ⟨_, rfl⟩
  have hd := dv_last_dvd hp r
  rw [hm] at hd ⊢
  cases m with
  | zero => show r - r ≤ _; omega
  | succ i =>
    rw [rpV_step]
    have hi : i + 1 < zs.length := by omega
    have hl := rc_level hp hi hd
    have h2 := rpV_low hp (i := i) (v := r - (rcA zs i r : Int) * gnA zs (i + 1)) hi hl.2.2
    have h3 := rcA_lt hp hi hd
    have h4 := gnA_pos hp hi
    have h6 := nnA_pos hp hi
    have h5 : ((rcA zs i r : Int) + 1) * gnA zs (i + 1) ≤ nnA zs i * gnA zs (i + 1) := Int.mul_le_mul_of_nonneg_right (by omega) (by omega)
    have h7 : nnA zs i * gnA zs (i + 1) ≤ 64 * 128000 := Int.mul_le_mul h6.2 h4.2 (by omega) (by omega)
    rw [Int.add_mul] at h5
    omega
theorem apA_shift {zs : List Int} (hp : brB zs = true) (v k : Int) : apA zs (v + dvA zs 0 * k) = apA zs v := by
  have h0 := brB_pos hp
  unfold apA
  rw [rpV_shift hp (by omega)]; omega
theorem apA_mod {zs : List Int} (hp : brB zs = true) (v : Int) : apA zs (v % dvA zs 0) = apA zs v := by
  have h := apA_shift hp (v % dvA zs 0) (v / dvA zs 0)
  rw [Int.emod_add_mul_ediv] at h
  exact h.symm
theorem apA_dvd {zs : List Int} (hp : brB zs = true) (r : Int) : dvA zs 0 ∣ r - apA zs r := by
  have h0 := brB_pos hp
  have h1 := rpV_dvd hp (i := zs.length - 1) (v := r) (by omega) (dv_last_dvd hp r)
  unfold apA
  rwa [show r - (r - rpV zs (zs.length - 1) r) = rpV zs (zs.length - 1) r by omega]
theorem apA_rem {zs : List Int} (hp : brB zs = true) {r : Int} (h : 0 ≤ r ∧ r < dvA zs 0) : apA zs r % dvA zs 0 = r := by
  have h1 := Int.emod_emod_of_dvd
  have h2 : (r - apA zs r) % dvA zs 0 = 0 := Int.emod_eq_zero_of_dvd (apA_dvd hp r)
  have h3 := (Int.emod_eq_emod_iff_emod_sub_eq_zero).2 h2
  rw [← h3]
  exact Int.emod_eq_of_lt h.1 h.2
/-- The values are the numbers that are not less than the entry of the Apery list. -/
theorem reB_ap {zs : List Int} (hp : brB zs = true) (v : Int) : reB zs v = true ↔ apA zs v ≤ v := by
  simp only [reB, decide_eq_true_eq, apA]; omega
theorem reB_apA {zs : List Int} (hp : brB zs = true) (r : Int) : reB zs (apA zs r) = true := by
  rw [reB_ap hp]
  obtain ⟨k, hk⟩ := apA_dvd hp r
  have h1 : apA zs r = r + dvA zs 0 * (-k) := by rw [Int.mul_neg]; omega
  have h2 := apA_shift hp r (-k)
  rw [← h1] at h2
  rw [h2]; exact Int.le_refl _

/-- s is a sum of k generators behind the first one. -/
def OSum (zs : List Int) : Nat → Int → Prop
  | 0, s => s = 0
  | k + 1, s => ∃ i, 1 ≤ i ∧ i < zs.length ∧ OSum zs k (s - gnA zs i)
theorem OSum.mul {zs : List Int} {i : Nat} (h1 : 1 ≤ i) (h2 : i < zs.length) : ∀ (c : Nat) {k : Nat} {s : Int}, OSum zs k s → ∃ k', OSum zs k' (s + (c : Int) * gnA zs i)
  | 0, k, s, h => ⟨k, by simpa using h⟩
  | c + 1, k, s, h => by
    obtain ⟨k', h'⟩ := OSum.mul h1 h2 c h
    refine ⟨k' + 1, i, h1, h2, ?_⟩
    have e1 : s + ((c + 1 : Nat) : Int) * gnA zs i - gnA zs i = s + (c : Int) * gnA zs i := by push_cast; rw [Int.add_mul]; omega
    rw [e1]; exact h'
theorem osum_rp {zs : List Int} : ∀ {i : Nat} (v : Int), i < zs.length → ∃ k, OSum zs k (v - rpV zs i v)
  | 0, v, _ => ⟨0, by show v - v = 0; omega⟩
  | i + 1, v, hi => by
    obtain ⟨k, h⟩ := osum_rp (zs := zs) (i := i) (v - (rcA zs i v : Int) * gnA zs (i + 1)) (by omega)
    obtain ⟨k', h'⟩ := OSum.mul (zs := zs) (i := i + 1) (by omega) hi (rcA zs i v) h
    refine ⟨k', ?_⟩
    rw [rpV_step]
    have e1 : v - rpV zs i (v - (rcA zs i v : Int) * gnA zs (i + 1)) = v - (rcA zs i v : Int) * gnA zs (i + 1) - rpV zs i (v - (rcA zs i v : Int) * gnA zs (i + 1)) + (rcA zs i v : Int) * gnA zs (i + 1) := by omega
    rw [e1]; exact h'

abbrev MXV : Int := 9223372036854775807
/-- How many entries are no longer the greatest number. -/
def fins : List Int → Nat
  | [] => 0
  | x :: r => (if x = MXV then 0 else 1) + fins r
/-- A measure of a list that falls with each lesser entry. -/
def phi : List Int → Nat
  | [] => 0
  | x :: r => (if x = MXV then 8192001 else x.toNat) + phi r
theorem fins_le : ∀ (L : List Int), fins L ≤ L.length
  | [] => by simp [fins]
  | x :: r => by have := fins_le r; simp only [fins, List.length_cons]; split <;> omega
theorem fins_set : ∀ (L : List Int) (q : Nat) (s : Int), q < L.length → s ≠ MXV → fins (L.set q s) = fins L + (if L[q]?.getD 0 = MXV then 1 else 0)
  | [], _, _, h, _ => by simp at h
  | x :: r, 0, s, _, hs => by
    simp only [List.set_cons_zero, fins, List.getElem?_cons_zero, Option.getD_some, if_neg hs]
    by_cases hx : x = MXV
    · simp only [if_pos hx]; omega
    · simp only [if_neg hx]; omega
  | x :: r, q + 1, s, h, hs => by
    have := fins_set r q s (by simpa using h) hs
    simp only [List.set_cons_succ, fins, List.getElem?_cons_succ, this]; omega
theorem phi_set : ∀ (L : List Int) (q : Nat) (s : Int), q < L.length → (0 ≤ s ∧ s ≤ 8192000) → s < L[q]?.getD 0 → phi (L.set q s) + 1 ≤ phi L
  | [], _, _, h, _, _ => by simp at h
  | x :: r, 0, s, _, hs, hl => by
    simp only [List.getElem?_cons_zero, Option.getD_some] at hl
    simp only [List.set_cons_zero, phi, if_neg (show ¬ s = MXV by unfold MXV; omega)]
    by_cases hx : x = MXV
    · simp only [if_pos hx]; omega
    · simp only [if_neg hx]; omega
  | x :: r, q + 1, s, h, hs, hl => by
    have := phi_set r q s (by simpa using h) hs (by simpa using hl)
    simp only [List.set_cons_succ, phi]; omega
theorem phi_rep : ∀ (k : Nat), phi (List.replicate k MXV) = 8192001 * k
  | 0 => rfl
  | k + 1 => by
    rw [List.replicate_succ]
    simp only [phi, if_true, phi_rep k]; omega
theorem fins_rep : ∀ (k : Nat), fins (List.replicate k MXV) = 0
  | 0 => rfl
  | k + 1 => by
    rw [List.replicate_succ]
    simp only [fins, if_true, fins_rep k]
/-- The entry at the remainder of v. -/
def lq (L : List Int) (n v : Int) : Int := L[(v % n).toNat]?.getD 0
def ApFin (zs L : List Int) : Prop :=
  ∀ r : Nat, r < L.length → L[r]?.getD 0 = MXV ∨ (L[r]?.getD 0 % (L.length : Int) = (r : Int) ∧ reB zs (L[r]?.getD 0) = true ∧ 0 ≤ L[r]?.getD 0 ∧ L[r]?.getD 0 + 128000 ≤ 128000 * (fins L : Int))
def ApGood (zs L : List Int) (x : Int) : Prop := 0 ≤ x ∧ reB zs x = true ∧ x + 128000 ≤ 128000 * (fins L : Int) ∧ lq L L.length x ≤ x
def ApCl (zs L : List Int) (a : Int) : Prop := ∀ i, 1 ≤ i → i < zs.length → lq L L.length (a + gnA zs i) ≤ a + gnA zs i
/-- Between the rounds: S holds the numbers that are still to be looked at. -/
structure ApInv (zs L : List Int) (S : Int → Prop) : Prop where
  len : (L.length : Int) = dvA zs 0
  fin : ApFin zs L
  zero : L[0]?.getD 0 = 0
  good : ∀ x, S x → ApGood zs L x
  clo : ∀ r : Nat, r < L.length → L[r]?.getD 0 ≠ MXV → S (L[r]?.getD 0) ∨ ApCl zs L (L[r]?.getD 0)
/-- While v is looked at: the first i generators are done. -/
structure ApInvV (zs L : List Int) (S : Int → Prop) (v : Int) (i : Nat) : Prop where
  len : (L.length : Int) = dvA zs 0
  fin : ApFin zs L
  zero : L[0]?.getD 0 = 0
  good : ∀ x, S x → ApGood zs L x
  goodv : ApGood zs L v
  done : ∀ j, 1 ≤ j → j ≤ i → lq L L.length (v + gnA zs j) ≤ v + gnA zs j
  clo : ∀ r : Nat, r < L.length → L[r]?.getD 0 ≠ MXV → S (L[r]?.getD 0) ∨ L[r]?.getD 0 = v ∨ ApCl zs L (L[r]?.getD 0)
theorem ApInv.take {zs L : List Int} {S S' : Int → Prop} {v : Int} (h : ApInv zs L S) (hv : S v) (h1 : ∀ x, S' x → S x) (h2 : ∀ x, S x → S' x ∨ x = v) : ApInvV zs L S' v 0 :=
  ⟨h.len, h.fin, h.zero, fun x hx => h.good x (h1 x hx), h.good v hv, fun j h3 h4 => by omega, fun r hr hm => by
    rcases h.clo r hr hm with h5 | h5
    · rcases h2 _ h5 with h6 | h6
      · exact .inl h6
      · exact .inr (.inl h6)
    · exact .inr (.inr h5)⟩
theorem ApInvV.give {zs L : List Int} {S : Int → Prop} {v : Int} {i : Nat} (h : ApInvV zs L S v i) (hi : zs.length ≤ i + 1) : ApInv zs L S :=
  ⟨h.len, h.fin, h.zero, h.good, fun r hr hm => by
    rcases h.clo r hr hm with h5 | h5 | h5
    · exact .inl h5
    · exact .inr (fun j h1 h2 => by rw [h5]; exact h.done j h1 (by omega))
    · exact .inr h5⟩
theorem ApInvV.no {zs L : List Int} {S : Int → Prop} {v : Int} {i : Nat} (h : ApInvV zs L S v i) (hs : lq L L.length (v + gnA zs (i + 1)) ≤ v + gnA zs (i + 1)) : ApInvV zs L S v (i + 1) :=
  ⟨h.len, h.fin, h.zero, h.good, h.goodv, fun j h1 h2 => by
    by_cases hj : j ≤ i
    · exact h.done j h1 hj
    · obtain rfl : j = i + 1 := by omega
      exact hs, h.clo⟩
theorem lq_set {L : List Int} {n s v : Int} (hn : (L.length : Int) = n) (hn1 : 1 ≤ n) (h : s ≤ lq L n s) : lq (L.set (s % n).toNat s) n v ≤ lq L n v := by
  have h1 : 0 ≤ s % n := Int.emod_nonneg _ (by omega)
  have h2 : s % n < n := Int.emod_lt_of_pos _ (by omega)
  unfold lq at *
  by_cases hv : (s % n).toNat = (v % n).toNat
  · rw [← hv, List.getElem?_set_self (by omega)]
    simpa using h
  · rw [List.getElem?_set_ne hv]
    exact Int.le_refl _
/-- A sum that is less is laid down. -/
theorem ApInvV.yes {zs L : List Int} {S S' : Int → Prop} {v : Int} {i : Nat} (hp : brB zs = true) (h : ApInvV zs L S v i) (hi : i + 1 < zs.length) {s : Int} (es : s = v + gnA zs (i + 1)) (hs : s < lq L L.length s) (hS : ∀ x, S' x ↔ (S x ∨ x = s)) :
    ApInvV zs (L.set (s % (L.length : Int)).toNat s) S' v (i + 1) ∧ phi (L.set (s % (L.length : Int)).toNat s) + 1 ≤ phi L := by
  have hd := dvA_pos hp (i := 0) (brB_pos hp)
  have hl := h.len
  have hg := gnA_pos hp hi
  obtain ⟨v0, v1, v2, v3⟩ := h.goodv
  have hf := fins_le L
  have hq0 : 0 ≤ s % (L.length : Int) := Int.emod_nonneg _ (by omega)
  have hq1 : s % (L.length : Int) < (L.length : Int) := Int.emod_lt_of_pos _ (by omega)
  obtain ⟨q, hq⟩ : ∃ q : Nat, s % (L.length : Int) = (q : Int) := ⟨(s % (L.length : Int)).toNat, by omega⟩
  have hqq : (s % (L.length : Int)).toNat = q := by omega
  have hql : q < L.length := by omega
  have hsm : s ≠ MXV := by unfold MXV; omega
  have hsl : s < L[q]?.getD 0 := by unfold lq at hs; rwa [hqq] at hs
  have hrs : reB zs s = true := by
    rw [reB_iff hp] at v1 ⊢
    rw [es]
    exact SmT_add hp (by omega) (i + 1) (by omega) _ v1
  have hmono : ∀ x, lq (L.set q s) L.length x ≤ lq L L.length x := fun x => by
    have := lq_set (L := L) (s := s) (v := x) rfl (by omega) (by unfold lq at hs ⊢; rw [hqq] at hs ⊢; omega)
    rwa [hqq] at this
  have hfs := fins_set L q s hql hsm
  have hfin : (fins L : Int) ≤ (fins (L.set q s) : Int) := by rw [hfs]; split <;> omega
  have hat : ∀ r : Nat, (L.set q s)[r]?.getD 0 = if r = q then s else L[r]?.getD 0 := fun r => by
    by_cases hr : r = q
    · subst hr; rw [List.getElem?_set_self hql, if_pos rfl]; rfl
    · rw [List.getElem?_set_ne (fun e => hr e.symm), if_neg hr]
  have hlen : (L.set q s).length = L.length := List.length_set ..
  have hsb : s + 128000 ≤ 128000 * (fins (L.set q s) : Int) := by
    rw [hfs]
    by_cases hm : L[q]?.getD 0 = MXV
    · rw [if_pos hm]; push_cast; omega
    · rw [if_neg hm]
      rcases h.fin q hql with h1 | h1
      · exact absurd h1 hm
      · push_cast; omega
  have hgs : ApGood zs (L.set q s) s := ⟨by omega, hrs, hsb, by
    unfold lq; rw [hlen, hqq, hat, if_pos rfl]; exact Int.le_refl _⟩
  have hgo : ∀ x, ApGood zs L x → ApGood zs (L.set q s) x := fun x ⟨a, b, c, d⟩ => ⟨a, b, by omega, by rw [hlen]; exact Int.le_trans (hmono x) d⟩
  rw [hqq]
  refine ⟨⟨by rw [hlen]; exact hl, ?_, ?_, ?_, hgo v h.goodv, ?_, ?_⟩, phi_set L q s hql (by omega) hsl⟩
  · intro r hr
    rw [hlen] at hr
    rw [hat, hlen]
    by_cases hrq : r = q
    · rw [if_pos hrq]
      exact .inr ⟨by rw [hq, hrq], hrs, by omega, hsb⟩
    · rw [if_neg hrq]
      rcases h.fin r hr with h1 | ⟨a, b, c, d⟩
      · exact .inl h1
      · exact .inr ⟨a, b, c, by omega⟩
  · rw [hat]
    by_cases h0 : 0 = q
    · rw [← h0, h.zero] at hsl; omega
    · rw [if_neg h0]; exact h.zero
  · intro x hx
    rcases (hS x).1 hx with h1 | rfl
    · exact hgo x (h.good x h1)
    · exact hgs
  · intro j h1 h2
    rw [hlen]
    by_cases hj : j ≤ i
    · exact Int.le_trans (hmono _) (h.done j h1 hj)
    · obtain rfl : j = i + 1 := by omega
      rw [← es]
      unfold lq; rw [hqq, hat, if_pos rfl]; exact Int.le_refl _
  · intro r hr hm
    rw [hlen] at hr
    rw [hat] at hm ⊢
    by_cases hrq : r = q
    · rw [if_pos hrq]; exact .inl ((hS s).2 (.inr rfl))
    · rw [if_neg hrq] at hm ⊢
      rcases h.clo r hr hm with h1 | h1 | h1
      · exact .inl ((hS _).2 (.inl h1))
      · exact .inr (.inl h1)
      · exact .inr (.inr (fun j h2 h3 => by rw [hlen]; exact Int.le_trans (hmono _) (h1 j h2 h3)))
/-- The first list. -/
def apL0 (n : Nat) : List Int := (List.replicate n MXV).set 0 0
theorem apL0_phi {n : Nat} (h : 1 ≤ n ∧ n ≤ 64) : phi (apL0 n) ≤ 524288064 := by
  obtain ⟨k, rfl⟩ : ∃ k, n = k + 1 := ⟨n - 1, by omega⟩
  have := phi_rep k
  have e : apL0 (k + 1) = 0 :: List.replicate k MXV := by simp [apL0, List.replicate_succ]
  rw [e]
  simp only [phi, this]
  rw [if_neg (by decide)]
  simp only [Int.toNat_zero]
  omega
theorem apInv_start {zs : List Int} (hp : brB zs = true) {n : Nat} (hn : (n : Int) = dvA zs 0) : ApInv zs (apL0 n) (fun x => x = 0) := by
  have hd := dvA_pos hp (i := 0) (brB_pos hp)
  obtain ⟨k, rfl⟩ : ∃ k, n = k + 1 := ⟨n - 1, by omega⟩
  have e : apL0 (k + 1) = 0 :: List.replicate k MXV := by simp [apL0, List.replicate_succ]
  have hf : fins (apL0 (k + 1)) = 1 := by rw [e]; simp only [fins, fins_rep]; rw [if_neg (by decide)]
  have hl : (apL0 (k + 1)).length = k + 1 := by rw [e]; simp
  have h0 : (apL0 (k + 1))[0]?.getD 0 = 0 := by rw [e]; rfl
  have hr : ∀ r : Nat, r < k + 1 → r ≠ 0 → (apL0 (k + 1))[r]?.getD 0 = MXV := by
    intro r h1 h2
    obtain ⟨j, rfl⟩ : ∃ j, r = j + 1 := ⟨r - 1, by omega⟩
    rw [e]; simp [show j < k by omega]
  have hg : ApGood zs (apL0 (k + 1)) 0 := ⟨Int.le_refl _, reB_zero hp, by rw [hf]; decide, by unfold lq; simp [h0]⟩
  refine ⟨by rw [hl]; exact hn, ?_, h0, fun x hx => by subst hx; exact hg, ?_⟩
  · intro r h1
    by_cases h2 : r = 0
    · subst h2
      rw [h0]
      exact .inr ⟨by simp, reB_zero hp, Int.le_refl _, by rw [hf]; decide⟩
    · exact .inl (hr r (by omega) h2)
  · intro r h1 h2
    by_cases h3 : r = 0
    · subst h3; exact .inl h0
    · exact absurd (hr r (by omega) h3) h2
/-- The Apery list. -/
def apL (zs : List Int) : List Int := (List.range (dvA zs 0).toNat).map fun (r : Nat) => apA zs (r : Int)
theorem apL_len (zs : List Int) : (apL zs).length = (dvA zs 0).toNat := by simp [apL]
theorem apL_at {zs : List Int} {r : Nat} (h : (r : Int) < dvA zs 0) : (apL zs)[r]?.getD 0 = apA zs (r : Int) := by
  simp [apL, show r < (dvA zs 0).toNat by omega]
theorem ap_low {zs L : List Int} (hp : brB zs = true) (hi : ApInv zs L (fun _ => False)) : ∀ (k : Nat) (s : Int), OSum zs k s → s ≤ 8192000 → lq L L.length s ≤ s ∧ 0 ≤ s
  | 0, s, h, _ => by
    obtain rfl : s = 0 := h
    refine ⟨?_, Int.le_refl _⟩
    unfold lq; simp [hi.zero]
  | k + 1, s, ⟨i, h1, h2, h⟩, hb => by
    have hg := gnA_pos hp h2
    have hd := dvA_pos hp (i := 0) (brB_pos hp)
    have hl := hi.len
    obtain ⟨h3, h4⟩ := ap_low hp hi k _ h (by omega)
    refine ⟨?_, by omega⟩
    have hq0 : 0 ≤ (s - gnA zs i) % (L.length : Int) := Int.emod_nonneg _ (by omega)
    have hq1 : (s - gnA zs i) % (L.length : Int) < (L.length : Int) := Int.emod_lt_of_pos _ (by omega)
    obtain ⟨q, hq⟩ : ∃ q : Nat, (s - gnA zs i) % (L.length : Int) = (q : Int) := ⟨((s - gnA zs i) % (L.length : Int)).toNat, by omega⟩
    have hqq : ((s - gnA zs i) % (L.length : Int)).toNat = q := by omega
    have e3 : lq L L.length (s - gnA zs i) = L[q]?.getD 0 := by unfold lq; rw [hqq]
    rw [e3] at h3
    have hqm : L[q]?.getD 0 ≠ MXV := by unfold MXV; omega
    rcases hi.fin q (by omega) with h5 | h5
    · exact absurd h5 hqm
    rcases hi.clo q (by omega) hqm with h6 | h6
    · exact h6.elim
    · have h7 := h6 i h1 h2
      have e4 : lq L L.length (L[q]?.getD 0 + gnA zs i) = lq L L.length s := by
        unfold lq
        have e5 : (L[q]?.getD 0 + gnA zs i) % (L.length : Int) = s % (L.length : Int) := by
          rw [Int.add_emod, h5.1, ← hq, ← Int.add_emod, Int.sub_add_cancel]
        rw [e5]
      rw [e4] at h7
      omega
theorem apInv_end {zs L : List Int} (hp : brB zs = true) (hi : ApInv zs L (fun _ => False)) : L = apL zs := by
  have hl := hi.len
  have hz := brB_pos hp
  have hlen : L.length = (apL zs).length := by rw [apL_len]; omega
  refine List.ext_getElem hlen fun r h1 h2 => ?_
  have e1 : L[r] = L[r]?.getD 0 := by simp [h1]
  have e2 : (apL zs)[r] = (apL zs)[r]?.getD 0 := by simp [h2]
  rw [e1, e2, apL_at (by omega)]
  have hr := apA_range hp (r : Int)
  obtain ⟨k, hk⟩ := osum_rp (zs := zs) (i := zs.length - 1) (r : Int) (by omega)
  have h3 := ap_low hp hi k (apA zs (r : Int)) hk hr.2
  have h4 : lq L L.length (apA zs (r : Int)) = L[r]?.getD 0 := by
    unfold lq
    rw [hl, apA_rem hp (r := (r : Int)) (by omega)]; simp
  rw [h4] at h3
  rcases hi.fin r h1 with h5 | ⟨a, b, c, d⟩
  · rw [h5] at h3; unfold MXV at h3; omega
  · have h6 := (reB_ap hp _).1 b
    have h7 : apA zs (L[r]?.getD 0) = apA zs (r : Int) := by
      rw [← apA_mod hp, ← hl, a]
    rw [h7] at h6
    omega
end Go.Proofs.Ytncgkoanckefmaa
