/- ZG: ApM ApL ApI ApD ApS VuM VuI VuS. Conditions: stated at each theorem. -/
import Derived.Test.YtjgidalmgoifgaaZF
import Derived.Test.YtjgidalmgoifgaaZB
import Derived.Maps.RangeWalk
import Derived.Maps.Ext
import Derived.Test.YtjgidalmgoifgaaZR
import Derived.Deep.LoopGhost
import Derived.Laws.EntriesVeiled
/- Apery lists: plain mathematics of chapter 5. Conditions: stated at each theorem. -/
namespace Go.Proofs.Ytjgidalmgoifgaa
set_option linter.unusedVariables false

theorem rcL_shift {e g : Int} : ∀ (f : Nat) (v k : Int), rcL e g (v + e * k) f = rcL e g v f
  | 0, _, _ => rfl
  | f + 1, v, k => by
    unfold rcL
    have h : (v + e * k).tmod e = 0 ↔ v.tmod e = 0 := by
      rw [tmod_zero, tmod_zero]
      exact ⟨fun h => by have := Int.dvd_sub h (Int.dvd_mul_right e k); rwa [Int.add_sub_cancel] at this, fun h => Int.dvd_add h (Int.dvd_mul_right e k)⟩
    by_cases h0 : v.tmod e = 0
    · rw [if_pos (h.2 h0), if_pos h0]
    · rw [if_neg (fun x => h0 (h.1 x)), if_neg h0]
      have e1 : v + e * k - g = (v - g) + e * k := by omega
      rw [e1, rcL_shift f]
theorem dvA_all {zs : List Int} (hp : brB zs = true) : ∀ {i : Nat}, i < zs.length → dvA zs i ∣ dvA zs 0
  | 0, _ => Int.dvd_refl _
  | i + 1, h => Int.dvd_trans (dvA_dvd hp h).1 (dvA_all hp (by omega))
theorem rpV_shift {zs : List Int} (hp : brB zs = true) : ∀ {i : Nat} {v k : Int}, i < zs.length → rpV zs i (v + dvA zs 0 * k) = rpV zs i v + dvA zs 0 * k
  | 0, _, _, _ => rfl
  | i + 1, v, k, hi => by
    rw [rpV_step, rpV_step]
    obtain ⟨t, ht⟩ := dvA_all hp (i := i) (by omega)
    have h1 : rcA zs i (v + dvA zs 0 * k) = rcA zs i v := by
      show rcL (dvA zs i) _ _ 64 = rcL (dvA zs i) _ _ 64
      rw [ht, Int.mul_assoc]; exact rcL_shift _ _ _
    rw [h1]
    have e1 : v + dvA zs 0 * k - (rcA zs i v : Int) * gnA zs (i + 1) = (v - (rcA zs i v : Int) * gnA zs (i + 1)) + dvA zs 0 * k := by omega
    rw [e1, rpV_shift hp (by omega)]
theorem rpV_dvd {zs : List Int} (hp : brB zs = true) : ∀ {i : Nat} {v : Int}, i < zs.length → dvA zs i ∣ v → dvA zs 0 ∣ rpV zs i v
  | 0, _, _, h => h
  | i + 1, v, hi, hd => by rw [rpV_step]; exact rpV_dvd hp (by omega) (rc_level hp hi hd).2.2
theorem rpV_le {zs : List Int} (hp : brB zs = true) : ∀ {i : Nat} {v : Int}, i < zs.length → rpV zs i v ≤ v
  | 0, v, _ => Int.le_refl v
  | i + 1, v, hi => by
    rw [rpV_step]
    have h1 := rpV_le hp (i := i) (v := v - (rcA zs i v : Int) * gnA zs (i + 1)) (by omega)
    have h2 := gnA_pos hp hi
    have h4 : 0 ≤ (rcA zs i v : Int) * gnA zs (i + 1) := Int.mul_nonneg (by omega) (by omega)
    omega
/-- The least value with the remainder of r. -/
def apA (zs : List Int) (r : Int) : Int := r - rpV zs (zs.length - 1) r
theorem dv_last_dvd {zs : List Int} (hp : brB zs = true) (v : Int) : dvA zs (zs.length - 1) ∣ v := by rw [dvA_last hp]; exact Int.one_dvd v
theorem apA_range {zs : List Int} (hp : brB zs = true) (r : Int) : 0 ≤ apA zs r ∧ apA zs r ≤ 8192000 := by
  have h0 := brB_pos hp
  have h1 := rpV_le hp (i := zs.length - 1) (v := r) (by omega)
  unfold apA
  refine ⟨by omega, ?_⟩
  obtain ⟨m, hm⟩ : ∃ m, zs.length - 1 = m := ⟨_, rfl⟩
  have hd := dv_last_dvd hp r
  rw [hm] at hd ⊢
  cases m with
  | zero => show r - r ≤ _; omega
  | succ i =>
    rw [rpV_step]
    have hi : i + 1 < zs.length := by omega
    have hl := rc_level hp hi hd
    have h2 := rpV_low hp (i := i) (v := r - (rcA zs i r : Int) * gnA zs (i + 1)) hi hl.2.2
    have h3 := rcA_lt hp hi hd
    have h4 := gnA_pos hp hi
    have h6 := nnA_pos hp hi
    have h5 : ((rcA zs i r : Int) + 1) * gnA zs (i + 1) ≤ nnA zs i * gnA zs (i + 1) := Int.mul_le_mul_of_nonneg_right (by omega) (by omega)
    have h7 : nnA zs i * gnA zs (i + 1) ≤ 64 * 128000 := Int.mul_le_mul h6.2 h4.2 (by omega) (by omega)
    rw [Int.add_mul] at h5
    omega
theorem apA_shift {zs : List Int} (hp : brB zs = true) (v k : Int) : apA zs (v + dvA zs 0 * k) = apA zs v := by
  have h0 := brB_pos hp
  unfold apA
  rw [rpV_shift hp (by omega)]; omega
theorem apA_mod {zs : List Int} (hp : brB zs = true) (v : Int) : apA zs (v % dvA zs 0) = apA zs v := by
  have h := apA_shift hp (v % dvA zs 0) (v / dvA zs 0)
  rw [Int.emod_add_mul_ediv] at h
  exact h.symm
theorem apA_dvd {zs : List Int} (hp : brB zs = true) (r : Int) : dvA zs 0 ∣ r - apA zs r := by
  have h0 := brB_pos hp
  have h1 := rpV_dvd hp (i := zs.length - 1) (v := r) (by omega) (dv_last_dvd hp r)
  unfold apA
  rwa [show r - (r - rpV zs (zs.length - 1) r) = rpV zs (zs.length - 1) r by omega]
theorem apA_rem {zs : List Int} (hp : brB zs = true) {r : Int} (h : 0 ≤ r ∧ r < dvA zs 0) : apA zs r % dvA zs 0 = r := by
  have h1 := Int.emod_emod_of_dvd
  have h2 : (r - apA zs r) % dvA zs 0 = 0 := Int.emod_eq_zero_of_dvd (apA_dvd hp r)
  have h3 := (Int.emod_eq_emod_iff_emod_sub_eq_zero).2 h2
  rw [← h3]
  exact Int.emod_eq_of_lt h.1 h.2
/-- The values are the numbers that are not less than the entry of the Apery list. -/
theorem reB_ap {zs : List Int} (hp : brB zs = true) (v : Int) : reB zs v = true ↔ apA zs v ≤ v := by
  simp only [reB, decide_eq_true_eq, apA]; omega
theorem reB_apA {zs : List Int} (hp : brB zs = true) (r : Int) : reB zs (apA zs r) = true := by
  rw [reB_ap hp]
  obtain ⟨k, hk⟩ := apA_dvd hp r
  have h1 : apA zs r = r + dvA zs 0 * (-k) := by rw [Int.mul_neg]; omega
  have h2 := apA_shift hp r (-k)
  rw [← h1] at h2
  rw [h2]; exact Int.le_refl _

/-- s is a sum of k generators behind the first one. -/
def OSum (zs : List Int) : Nat → Int → Prop
  | 0, s => s = 0
  | k + 1, s => ∃ i, 1 ≤ i ∧ i < zs.length ∧ OSum zs k (s - gnA zs i)
theorem OSum.mul {zs : List Int} {i : Nat} (h1 : 1 ≤ i) (h2 : i < zs.length) : ∀ (c : Nat) {k : Nat} {s : Int}, OSum zs k s → ∃ k', OSum zs k' (s + (c : Int) * gnA zs i)
  | 0, k, s, h => ⟨k, by simpa using h⟩
  | c + 1, k, s, h => by
    obtain ⟨k', h'⟩ := OSum.mul h1 h2 c h
    refine ⟨k' + 1, i, h1, h2, ?_⟩
    have e1 : s + ((c + 1 : Nat) : Int) * gnA zs i - gnA zs i = s + (c : Int) * gnA zs i := by push_cast; rw [Int.add_mul]; omega
    rw [e1]; exact h'
theorem osum_rp {zs : List Int} : ∀ {i : Nat} (v : Int), i < zs.length → ∃ k, OSum zs k (v - rpV zs i v)
  | 0, v, _ => ⟨0, by show v - v = 0; omega⟩
  | i + 1, v, hi => by
    obtain ⟨k, h⟩ := osum_rp (zs := zs) (i := i) (v - (rcA zs i v : Int) * gnA zs (i + 1)) (by omega)
    obtain ⟨k', h'⟩ := OSum.mul (zs := zs) (i := i + 1) (by omega) hi (rcA zs i v) h
    refine ⟨k', ?_⟩
    rw [rpV_step]
    have e1 : v - rpV zs i (v - (rcA zs i v : Int) * gnA zs (i + 1)) = v - (rcA zs i v : Int) * gnA zs (i + 1) - rpV zs i (v - (rcA zs i v : Int) * gnA zs (i + 1)) + (rcA zs i v : Int) * gnA zs (i + 1) := by omega
    rw [e1]; exact h'

abbrev MXV : Int := 9223372036854775807
/-- How many entries are no longer the greatest number. -/
def fins : List Int → Nat
  | [] => 0
  | x :: r => (if x = MXV then 0 else 1) + fins r
/-- A measure of a list that falls with each lesser entry. -/
def phi : List Int → Nat
  | [] => 0
  | x :: r => (if x = MXV then 8192001 else x.toNat) + phi r
theorem fins_le : ∀ (L : List Int), fins L ≤ L.length
  | [] => by simp [fins]
  | x :: r => by have := fins_le r; simp only [fins, List.length_cons]; split <;> omega
theorem fins_set : ∀ (L : List Int) (q : Nat) (s : Int), q < L.length → s ≠ MXV → fins (L.set q s) = fins L + (if L[q]?.getD 0 = MXV then 1 else 0)
  | [], _, _, h, _ => by simp at h
  | x :: r, 0, s, _, hs => by
    simp only [List.set_cons_zero, fins, List.getElem?_cons_zero, Option.getD_some, if_neg hs]
    by_cases hx : x = MXV
    · simp only [if_pos hx]; omega
    · simp only [if_neg hx]; omega
  | x :: r, q + 1, s, h, hs => by
    have := fins_set r q s (by simpa using h) hs
    simp only [List.set_cons_succ, fins, List.getElem?_cons_succ, this]; omega
theorem phi_set : ∀ (L : List Int) (q : Nat) (s : Int), q < L.length → (0 ≤ s ∧ s ≤ 8192000) → s < L[q]?.getD 0 → phi (L.set q s) + 1 ≤ phi L
  | [], _, _, h, _, _ => by simp at h
  | x :: r, 0, s, _, hs, hl => by
    simp only [List.getElem?_cons_zero, Option.getD_some] at hl
    simp only [List.set_cons_zero, phi, if_neg (show ¬ s = MXV by unfold MXV; omega)]
    by_cases hx : x = MXV
    · simp only [if_pos hx]; omega
    · simp only [if_neg hx]; omega
  | x :: r, q + 1, s, h, hs, hl => by
    have := phi_set r q s (by simpa using h) hs (by simpa using hl)
    simp only [List.set_cons_succ, phi]; omega
theorem phi_rep : ∀ (k : Nat), phi (List.replicate k MXV) = 8192001 * k
  | 0 => rfl
  | k + 1 => by
    rw [List.replicate_succ]
    simp only [phi, if_true, phi_rep k]; omega
theorem fins_rep : ∀ (k : Nat), fins (List.replicate k MXV) = 0
  | 0 => rfl
  | k + 1 => by
    rw [List.replicate_succ]
    simp only [fins, if_true, fins_rep k]
/-- The entry at the remainder of v. -/
def lq (L : List Int) (n v : Int) : Int := L[(v % n).toNat]?.getD 0
def ApFin (zs L : List Int) : Prop :=
  ∀ r : Nat, r < L.length → L[r]?.getD 0 = MXV ∨ (L[r]?.getD 0 % (L.length : Int) = (r : Int) ∧ reB zs (L[r]?.getD 0) = true ∧ 0 ≤ L[r]?.getD 0 ∧ L[r]?.getD 0 + 128000 ≤ 128000 * (fins L : Int))
def ApGood (zs L : List Int) (x : Int) : Prop := 0 ≤ x ∧ reB zs x = true ∧ x + 128000 ≤ 128000 * (fins L : Int) ∧ lq L L.length x ≤ x
def ApCl (zs L : List Int) (a : Int) : Prop := ∀ i, 1 ≤ i → i < zs.length → lq L L.length (a + gnA zs i) ≤ a + gnA zs i
/-- Between the rounds: S holds the numbers that are still to be looked at. -/
structure ApInv (zs L : List Int) (S : Int → Prop) : Prop where
  len : (L.length : Int) = dvA zs 0
  fin : ApFin zs L
  zero : L[0]?.getD 0 = 0
  good : ∀ x, S x → ApGood zs L x
  clo : ∀ r : Nat, r < L.length → L[r]?.getD 0 ≠ MXV → S (L[r]?.getD 0) ∨ ApCl zs L (L[r]?.getD 0)
/-- While v is looked at: the first i generators are done. -/
structure ApInvV (zs L : List Int) (S : Int → Prop) (v : Int) (i : Nat) : Prop where
  len : (L.length : Int) = dvA zs 0
  fin : ApFin zs L
  zero : L[0]?.getD 0 = 0
  good : ∀ x, S x → ApGood zs L x
  goodv : ApGood zs L v
  done : ∀ j, 1 ≤ j → j ≤ i → lq L L.length (v + gnA zs j) ≤ v + gnA zs j
  clo : ∀ r : Nat, r < L.length → L[r]?.getD 0 ≠ MXV → S (L[r]?.getD 0) ∨ L[r]?.getD 0 = v ∨ ApCl zs L (L[r]?.getD 0)
theorem ApInv.take {zs L : List Int} {S S' : Int → Prop} {v : Int} (h : ApInv zs L S) (hv : S v) (h1 : ∀ x, S' x → S x) (h2 : ∀ x, S x → S' x ∨ x = v) : ApInvV zs L S' v 0 :=
  ⟨h.len, h.fin, h.zero, fun x hx => h.good x (h1 x hx), h.good v hv, fun j h3 h4 => by omega, fun r hr hm => by
    rcases h.clo r hr hm with h5 | h5
    · rcases h2 _ h5 with h6 | h6
      · exact .inl h6
      · exact .inr (.inl h6)
    · exact .inr (.inr h5)⟩
theorem ApInvV.give {zs L : List Int} {S : Int → Prop} {v : Int} {i : Nat} (h : ApInvV zs L S v i) (hi : zs.length ≤ i + 1) : ApInv zs L S :=
  ⟨h.len, h.fin, h.zero, h.good, fun r hr hm => by
    rcases h.clo r hr hm with h5 | h5 | h5
    · exact .inl h5
    · exact .inr (fun j h1 h2 => by rw [h5]; exact h.done j h1 (by omega))
    · exact .inr h5⟩
theorem ApInvV.no {zs L : List Int} {S : Int → Prop} {v : Int} {i : Nat} (h : ApInvV zs L S v i) (hs : lq L L.length (v + gnA zs (i + 1)) ≤ v + gnA zs (i + 1)) : ApInvV zs L S v (i + 1) :=
  ⟨h.len, h.fin, h.zero, h.good, h.goodv, fun j h1 h2 => by
    by_cases hj : j ≤ i
    · exact h.done j h1 hj
    · obtain rfl : j = i + 1 := by omega
      exact hs, h.clo⟩
theorem lq_set {L : List Int} {n s v : Int} (hn : (L.length : Int) = n) (hn1 : 1 ≤ n) (h : s ≤ lq L n s) : lq (L.set (s % n).toNat s) n v ≤ lq L n v := by
  have h1 : 0 ≤ s % n := Int.emod_nonneg _ (by omega)
  have h2 : s % n < n := Int.emod_lt_of_pos _ (by omega)
  unfold lq at *
  by_cases hv : (s % n).toNat = (v % n).toNat
  · rw [← hv, List.getElem?_set_self (by omega)]
    simpa using h
  · rw [List.getElem?_set_ne hv]
    exact Int.le_refl _
/-- A sum that is less is laid down. -/
theorem ApInvV.yes {zs L : List Int} {S S' : Int → Prop} {v : Int} {i : Nat} (hp : brB zs = true) (h : ApInvV zs L S v i) (hi : i + 1 < zs.length) {s : Int} (es : s = v + gnA zs (i + 1)) (hs : s < lq L L.length s) (hS : ∀ x, S' x ↔ (S x ∨ x = s)) :
    ApInvV zs (L.set (s % (L.length : Int)).toNat s) S' v (i + 1) ∧ phi (L.set (s % (L.length : Int)).toNat s) + 1 ≤ phi L := by
  have hd := dvA_pos hp (i := 0) (brB_pos hp)
  have hl := h.len
  have hg := gnA_pos hp hi
  obtain ⟨v0, v1, v2, v3⟩ := h.goodv
  have hf := fins_le L
  have hq0 : 0 ≤ s % (L.length : Int) := Int.emod_nonneg _ (by omega)
  have hq1 : s % (L.length : Int) < (L.length : Int) := Int.emod_lt_of_pos _ (by omega)
  obtain ⟨q, hq⟩ : ∃ q : Nat, s % (L.length : Int) = (q : Int) := ⟨(s % (L.length : Int)).toNat, by omega⟩
  have hqq : (s % (L.length : Int)).toNat = q := by omega
  have hql : q < L.length := by omega
  have hsm : s ≠ MXV := by unfold MXV; omega
  have hsl : s < L[q]?.getD 0 := by unfold lq at hs; rwa [hqq] at hs
  have hrs : reB zs s = true := by
    rw [reB_iff hp] at v1 ⊢
    rw [es]
    exact SmT_add hp (by omega) (i + 1) (by omega) _ v1
  have hmono : ∀ x, lq (L.set q s) L.length x ≤ lq L L.length x := fun x => by
    have := lq_set (L := L) (s := s) (v := x) rfl (by omega) (by unfold lq at hs ⊢; rw [hqq] at hs ⊢; omega)
    rwa [hqq] at this
  have hfs := fins_set L q s hql hsm
  have hfin : (fins L : Int) ≤ (fins (L.set q s) : Int) := by rw [hfs]; split <;> omega
  have hat : ∀ r : Nat, (L.set q s)[r]?.getD 0 = if r = q then s else L[r]?.getD 0 := fun r => by
    by_cases hr : r = q
    · subst hr; rw [List.getElem?_set_self hql, if_pos rfl]; rfl
    · rw [List.getElem?_set_ne (fun e => hr e.symm), if_neg hr]
  have hlen : (L.set q s).length = L.length := List.length_set ..
  have hsb : s + 128000 ≤ 128000 * (fins (L.set q s) : Int) := by
    rw [hfs]
    by_cases hm : L[q]?.getD 0 = MXV
    · rw [if_pos hm]; push_cast; omega
    · rw [if_neg hm]
      rcases h.fin q hql with h1 | h1
      · exact absurd h1 hm
      · push_cast; omega
  have hgs : ApGood zs (L.set q s) s := ⟨by omega, hrs, hsb, by
    unfold lq; rw [hlen, hqq, hat, if_pos rfl]; exact Int.le_refl _⟩
  have hgo : ∀ x, ApGood zs L x → ApGood zs (L.set q s) x := fun x ⟨a, b, c, d⟩ => ⟨a, b, by omega, by rw [hlen]; exact Int.le_trans (hmono x) d⟩
  rw [hqq]
  refine ⟨⟨by rw [hlen]; exact hl, ?_, ?_, ?_, hgo v h.goodv, ?_, ?_⟩, phi_set L q s hql (by omega) hsl⟩
  · intro r hr
    rw [hlen] at hr
    rw [hat, hlen]
    by_cases hrq : r = q
    · rw [if_pos hrq]
      exact .inr ⟨by rw [hq, hrq], hrs, by omega, hsb⟩
    · rw [if_neg hrq]
      rcases h.fin r hr with h1 | ⟨a, b, c, d⟩
      · exact .inl h1
      · exact .inr ⟨a, b, c, by omega⟩
  · rw [hat]
    by_cases h0 : 0 = q
    · rw [← h0, h.zero] at hsl; omega
    · rw [if_neg h0]; exact h.zero
  · intro x hx
    rcases (hS x).1 hx with h1 | rfl
    · exact hgo x (h.good x h1)
    · exact hgs
  · intro j h1 h2
    rw [hlen]
    by_cases hj : j ≤ i
    · exact Int.le_trans (hmono _) (h.done j h1 hj)
    · obtain rfl : j = i + 1 := by omega
      rw [← es]
      unfold lq; rw [hqq, hat, if_pos rfl]; exact Int.le_refl _
  · intro r hr hm
    rw [hlen] at hr
    rw [hat] at hm ⊢
    by_cases hrq : r = q
    · rw [if_pos hrq]; exact .inl ((hS s).2 (.inr rfl))
    · rw [if_neg hrq] at hm ⊢
      rcases h.clo r hr hm with h1 | h1 | h1
      · exact .inl ((hS _).2 (.inl h1))
      · exact .inr (.inl h1)
      · exact .inr (.inr (fun j h2 h3 => by rw [hlen]; exact Int.le_trans (hmono _) (h1 j h2 h3)))
/-- The first list. -/
def apL0 (n : Nat) : List Int := (List.replicate n MXV).set 0 0
theorem apL0_phi {n : Nat} (h : 1 ≤ n ∧ n ≤ 64) : phi (apL0 n) ≤ 524288064 := by
  obtain ⟨k, rfl⟩ : ∃ k, n = k + 1 := ⟨n - 1, by omega⟩
  have := phi_rep k
  have e : apL0 (k + 1) = 0 :: List.replicate k MXV := by simp [apL0, List.replicate_succ]
  rw [e]
  simp only [phi, this]
  rw [if_neg (by decide)]
  simp only [Int.toNat_zero]
  omega
theorem apInv_start {zs : List Int} (hp : brB zs = true) {n : Nat} (hn : (n : Int) = dvA zs 0) : ApInv zs (apL0 n) (fun x => x = 0) := by
  have hd := dvA_pos hp (i := 0) (brB_pos hp)
  obtain ⟨k, rfl⟩ : ∃ k, n = k + 1 := ⟨n - 1, by omega⟩
  have e : apL0 (k + 1) = 0 :: List.replicate k MXV := by simp [apL0, List.replicate_succ]
  have hf : fins (apL0 (k + 1)) = 1 := by rw [e]; simp only [fins, fins_rep]; rw [if_neg (by decide)]
  have hl : (apL0 (k + 1)).length = k + 1 := by rw [e]; simp
  have h0 : (apL0 (k + 1))[0]?.getD 0 = 0 := by rw [e]; rfl
  have hr : ∀ r : Nat, r < k + 1 → r ≠ 0 → (apL0 (k + 1))[r]?.getD 0 = MXV := by
    intro r h1 h2
    obtain ⟨j, rfl⟩ : ∃ j, r = j + 1 := ⟨r - 1, by omega⟩
    rw [e]; simp [show j < k by omega]
  have hg : ApGood zs (apL0 (k + 1)) 0 := ⟨Int.le_refl _, reB_zero hp, by rw [hf]; decide, by unfold lq; simp [h0]⟩
  refine ⟨by rw [hl]; exact hn, ?_, h0, fun x hx => by subst hx; exact hg, ?_⟩
  · intro r h1
    by_cases h2 : r = 0
    · subst h2
      rw [h0]
      exact .inr ⟨by simp, reB_zero hp, Int.le_refl _, by rw [hf]; decide⟩
    · exact .inl (hr r (by omega) h2)
  · intro r h1 h2
    by_cases h3 : r = 0
    · subst h3; exact .inl h0
    · exact absurd (hr r (by omega) h3) h2
/-- The Apery list. -/
def apL (zs : List Int) : List Int := (List.range (dvA zs 0).toNat).map fun (r : Nat) => apA zs (r : Int)
theorem apL_len (zs : List Int) : (apL zs).length = (dvA zs 0).toNat := by simp [apL]
theorem apL_at {zs : List Int} {r : Nat} (h : (r : Int) < dvA zs 0) : (apL zs)[r]?.getD 0 = apA zs (r : Int) := by
  simp [apL, show r < (dvA zs 0).toNat by omega]
theorem ap_low {zs L : List Int} (hp : brB zs = true) (hi : ApInv zs L (fun _ => False)) : ∀ (k : Nat) (s : Int), OSum zs k s → s ≤ 8192000 → lq L L.length s ≤ s ∧ 0 ≤ s
  | 0, s, h, _ => by
    obtain rfl : s = 0 := h
    refine ⟨?_, Int.le_refl _⟩
    unfold lq; simp [hi.zero]
  | k + 1, s, ⟨i, h1, h2, h⟩, hb => by
    have hg := gnA_pos hp h2
    have hd := dvA_pos hp (i := 0) (brB_pos hp)
    have hl := hi.len
    obtain ⟨h3, h4⟩ := ap_low hp hi k _ h (by omega)
    refine ⟨?_, by omega⟩
    have hq0 : 0 ≤ (s - gnA zs i) % (L.length : Int) := Int.emod_nonneg _ (by omega)
    have hq1 : (s - gnA zs i) % (L.length : Int) < (L.length : Int) := Int.emod_lt_of_pos _ (by omega)
    obtain ⟨q, hq⟩ : ∃ q : Nat, (s - gnA zs i) % (L.length : Int) = (q : Int) := ⟨((s - gnA zs i) % (L.length : Int)).toNat, by omega⟩
    have hqq : ((s - gnA zs i) % (L.length : Int)).toNat = q := by omega
    have e3 : lq L L.length (s - gnA zs i) = L[q]?.getD 0 := by unfold lq; rw [hqq]
    rw [e3] at h3
    have hqm : L[q]?.getD 0 ≠ MXV := by unfold MXV; omega
    rcases hi.fin q (by omega) with h5 | h5
    · exact absurd h5 hqm
    rcases hi.clo q (by omega) hqm with h6 | h6
    · exact h6.elim
    · have h7 := h6 i h1 h2
      have e4 : lq L L.length (L[q]?.getD 0 + gnA zs i) = lq L L.length s := by
        unfold lq
        have e5 : (L[q]?.getD 0 + gnA zs i) % (L.length : Int) = s % (L.length : Int) := by
          rw [Int.add_emod, h5.1, ← hq, ← Int.add_emod, Int.sub_add_cancel]
        rw [e5]
      rw [e4] at h7
      omega
theorem apInv_end {zs L : List Int} (hp : brB zs = true) (hi : ApInv zs L (fun _ => False)) : L = apL zs := by
  have hl := hi.len
  have hz := brB_pos hp
  have hlen : L.length = (apL zs).length := by rw [apL_len]; omega
  refine List.ext_getElem hlen fun r h1 h2 => ?_
  have e1 : L[r] = L[r]?.getD 0 := by simp [h1]
  have e2 : (apL zs)[r] = (apL zs)[r]?.getD 0 := by simp [h2]
  rw [e1, e2, apL_at (by omega)]
  have hr := apA_range hp (r : Int)
  obtain ⟨k, hk⟩ := osum_rp (zs := zs) (i := zs.length - 1) (r : Int) (by omega)
  have h3 := ap_low hp hi k (apA zs (r : Int)) hk hr.2
  have h4 : lq L L.length (apA zs (r : Int)) = L[r]?.getD 0 := by
    unfold lq
    rw [hl, apA_rem hp (r := (r : Int)) (by omega)]; simp
  rw [h4] at h3
  rcases hi.fin r h1 with h5 | ⟨a, b, c, d⟩
  · rw [h5] at h3; unfold MXV at h3; omega
  · have h6 := (reB_ap hp _).1 b
    have h7 : apA zs (L[r]?.getD 0) = apA zs (r : Int) := by
      rw [← apA_mod hp, ← hl, a]
    rw [h7] at h6
    omega
end Go.Proofs.Ytjgidalmgoifgaa
/- Maps from int64 to bool that a call makes: laws. Conditions: stated at each theorem. -/
namespace Go.Proofs.Ytjgidalmgoifgaa
open Go.ChangeShapes Go.WideShapes Go.ChangeAt Go.RowKit Go.Deep Go.Maps Go.MapKept Go.ChangeMaps
set_option linter.unusedVariables false

theorem law64 : Keyed Try.prog 2 := int_keyed Try.underlying2
theorem pb_true : (plainElem (H := Unit) Try.prog 4) (.bool true) = some (.lit (.bool true), []) := plainElem_bool Try.underlying4 true
theorem plainElem_bool_inv {H : Type} {P : Program} {e : TypeId} (he : P.underlying e = some .bool) {v : Value} {z : DataW H × List MemPlace} (h : plainElem P e v = some z) : ∃ b, v = .bool b := by
  unfold plainElem at h
  rw [he] at h
  cases v <;> simp at h
  exact ⟨_, rfl⟩
theorem wpList_insert_own {H : Type} {P : Program} (w : World) {ops : Array Oper} {rest : List Oper} {o : Oper} {a : Act} {Q : Exit → Act → World → Prop}
    (hg : o.guard = none) (m x v : Operand) (t : TypeId) (hop : o.op = Op.insert t m x v)
    (k e : TypeId) (K : Keyed P k) (ht : P.underlying t = some (.map k e)) (R : Value → Option (DataW H × List MemPlace)) (b n : Nat) (D : DataW H)
    (hm : a.eval m = .map (some b)) (hown : w.ownsMap P k R b n D) (hn : n < maxLen) (key val : Value) (kl : Lit) (hx : a.eval x = key) (hv : a.eval v = val) (hkey : keyOf P k key = some kl)
    (d : DataW H) (ps : List MemPlace) (hval : R val = some (d, ps))
    (hK : ∀ w', w'.ownsMap P k R b (n + 1) (D.put kl d) → w.grownBy w' (some b) → wpList P ops Q rest (a.put o.dst undef) w') :
    wpList P ops Q (o :: rest) a w := by
  refine wpList_plain hg fun K' hK' => ?_
  obtain ⟨w', hrun, r1, r2⟩ := hown.update K ht hn hkey hval
  unfold Oper.wp
  simp [execOp, hop, hm, hx, hv, hrun, Result.andThen]
  exact hK' _ _ (hK w' r1 r2)
theorem wpList_clear_own {H : Type} {P : Program} (w : World) {ops : Array Oper} {rest : List Oper} {o : Oper} {a : Act} {Q : Exit → Act → World → Prop}
    (hg : o.guard = none) (m : Operand) (t : TypeId) (hop : o.op = Op.call { callee := Callee.builtin Builtin.clear, args := #[m], argTypes := #[t] })
    (k e : TypeId) (ht : P.underlying t = some (.map k e)) (R : Value → Option (DataW H × List MemPlace)) (b n : Nat) (D : DataW H) (hm : a.eval m = .map (some b)) (hown : w.ownsMap P k R b n D)
    (hK : ∀ w', w'.ownsMap P k R b 0 (.map []) → w.grownBy w' (some b) → wpList P ops Q rest (a.put o.dst (.tuple #[])) w') :
    wpList P ops Q (o :: rest) a w := by
  refine wpList_plain hg fun K' hK' => ?_
  obtain ⟨es, clock, hb, F, hs, rfl⟩ := hown
  have hrun : (Builtin.clear_ #[t] o.type #[.map (some b)]).run P w = .ok (.tuple #[]) (setBlock w b (.map #[] clock)) := by
    simp [Builtin.clear_, run_underlying ht, MapKept.run_getObj_map hb, MapKept.run_setObj_map _ hb, Result.andThen, setBlock]
  unfold Oper.wp
  simp [execOp, hop, resolve, invoke, builtin, hm, hrun, Result.andThen]
  exact hK' _ _ (hK _ ⟨#[], clock, heap_setBlock_same hb _, ⟨by simp, stamped_empty clock, by simp⟩, Nat.le_refl _, rfl⟩ ⟨rfl, rfl, rfl, by simp [setBlock], fun i _ hi => heap_setBlock_other hb _ (fun e => hi (by rw [e]))⟩)
/-- The step of a range over such a map. -/
theorem wpList_next_ranges_ib {H : Type} {P : Program} (w : World) {ops : Array Oper} {rest : List Oper} {o : Oper} {a : Act} {Q : Exit → Act → World → Prop}
    (hg : o.guard = none) (it : Operand) (hop : o.op = Op.next it false) (k e : TypeId) (K : Keyed P k) (hk : P.underlying k = some (.int .i64)) (he : P.underlying e = some .bool)
    (b r n : Nat) (D : DataW H) (left : Lit → Bool) (cnt : Nat) (hit : a.eval it = .pointer (some ⟨r, 0, none⟩)) (h : w.ranges P k (plainElem P e) b r n D left cnt)
    (hDone : (∀ kl, left kl = false) → wpList P ops Q rest (a.put o.dst (.tuple #[.bool false])) w)
    (hMore : ∀ (x : Int) (cv : Value) (w' : World) (cnt' : Nat), left (.int .i64 x) = true → w'.ranges P k (plainElem P e) b r n D (fun z => left z && !z.sameKey (.int .i64 x)) cnt' → cnt' < cnt →
      w.grownBy w' (some r) → (Instr.entry (.pointer (some ⟨r, 0, none⟩))).run P w' = .ok (.tuple #[.int .i64 x, cv]) w' → wpList P ops Q rest (a.put o.dst (.tuple #[.bool true, .int .i64 x, cv])) w') :
    wpList P ops Q (o :: rest) a w :=
  wpList_next_ranges w hg it hop k K (plainElem P e) (Value.int .i64) (fun v : Value => v) (fun key kl hkey => by obtain ⟨x, rfl, _⟩ := Maps.keyOf_int_inv hk hkey; exact ⟨x, rfl⟩) (fun v y hv => ⟨v, rfl⟩)
    b r n D left cnt hit h (fun _ hl => hDone hl) (fun x c kl y w' cnt' hkey hlk hv hat hrg hlt hgr hsz hen => by
      obtain ⟨x', ex, rfl, hwx⟩ := Maps.keyOf_int_inv hk hkey
      cases ex
      exact hMore x c w' cnt' hlk hrg hlt hgr hen)
/-- The numbers that a map holds. -/
def hasI (D : DataW Unit) (x : Int) : Prop := Maps.has D (.int .i64 x) = true
theorem hasI_none {x : Int} : ¬ hasI (.map []) x := by intro h; cases h
theorem hasI_size {D : DataW Unit} {x : Int} (hm : IsMap D) (h : Maps.size D = 0) : ¬ hasI D x := by
  obtain ⟨es, rfl⟩ := hm
  intro h2
  have : es = [] := List.length_eq_zero_iff.1 h
  subst this
  cases h2
theorem hasI_put {D : DataW Unit} {s : Int} (hm : IsMap D) (x : Int) : hasI (D.put (.int .i64 s) (.lit (.bool true))) x ↔ (hasI D x ∨ x = s) := by
  unfold hasI
  by_cases e : x = s
  · subst e
    rw [has_put_same hm (show WideAt.IsKeyLit (Lit.int .i64 x) from trivial)]; simp
  · rw [has_put_other (fun h => e (by cases h; rfl))]
    simp [e]
theorem left_strike {left : Lit → Bool} {x y : Int} : (left (.int .i64 y) && !(Lit.int .i64 y).sameKey (.int .i64 x)) = true → left (.int .i64 y) = true := by simp; intro h _; exact h
theorem left_strike2 {left : Lit → Bool} {x y : Int} (h : left (.int .i64 y) = true) : (left (.int .i64 y) && !(Lit.int .i64 y).sameKey (.int .i64 x)) = true ∨ y = x := by
  cases hk : (Lit.int .i64 y).sameKey (.int .i64 x)
  · left; simp [h]
  · right; have := WideAt.sameKey_eq hk; cases this; rfl
theorem ApInv.iff {zs L : List Int} {S S' : Int → Prop} (h : ApInv zs L S) (hS : ∀ x, S' x ↔ S x) : ApInv zs L S' := by
  have : S' = S := funext fun x => propext (hS x)
  rw [this]; exact h
/-- Other blocks stay. -/
theorem kept_grown1 {a b : World} {lo hi k : Nat} (h : a.grownBy b (some k)) (hs : hi ≤ a.heap.size) (hk : ¬ (lo ≤ k ∧ k < hi)) : Kept lo hi a b :=
  ⟨h.size, fun j h1 h2 => h.block j (by omega) (fun e => by cases e; exact hk ⟨h1, h2⟩)⟩
theorem kept_grown0 {a b : World} {lo hi : Nat} (h : a.grownBy b none) (hs : hi ≤ a.heap.size) : Kept lo hi a b :=
  ⟨h.size, fun j h1 h2 => h.block j (by omega) (fun e => by cases e)⟩
theorem below_grown1 {a b : World} {B k : Nat} (h : a.grownBy b (some k)) (hs : B ≤ a.heap.size) (hk : B ≤ k) : Below B a b :=
  ⟨h.os, h.tape, h.output, h.size, fun j h1 => h.block j (by omega) (fun e => by cases e; omega)⟩
theorem below_grown0 {a b : World} {B : Nat} (h : a.grownBy b none) (hs : B ≤ a.heap.size) : Below B a b :=
  ⟨h.os, h.tape, h.output, h.size, fun j h1 => h.block j (by omega) (fun e => by cases e)⟩
theorem grown_cell1 (w : World) (p : Addr) (u : Value) : w.grownBy (w.setCell p u) (some p.block) := grown_setCell (World.grownBy.refl w _) rfl u
theorem mod_nat {x : Int} {N : Nat} (hx : 0 ≤ x) (hN : 1 ≤ N) : ∃ q : Nat, q < N ∧ x.tmod (N : Int) = (q : Int) ∧ x % (N : Int) = (q : Int) ∧ (x % (N : Int)).toNat = q := by
  have h1 : 0 ≤ x % (N : Int) := Int.emod_nonneg _ (by omega)
  have h2 : x % (N : Int) < (N : Int) := Int.emod_lt_of_pos _ (by omega)
  have h3 : x.tmod (N : Int) = x % (N : Int) := Int.tmod_eq_emod_of_nonneg hx
  exact ⟨(x % (N : Int)).toNat, by omega, by omega, by omega, rfl⟩
end Go.Proofs.Ytjgidalmgoifgaa
/- Apery lists, the program's: contract of impl.Branch.apery. Conditions: stated at each theorem. -/
namespace Go.Proofs.Ytjgidalmgoifgaa
open Go.ChangeShapes Go.WideShapes Go.ChangeAt Go.RowKit Go.Deep Go.Maps
set_option linter.unusedVariables false
set_option linter.unusedSimpArgs false

theorem keptS2A {lo hi : Nat} (w : World) {p : Addr} (h : ¬ (lo ≤ p.block ∧ p.block < hi)) (u : Value) : Kept lo hi w (w.setCell p u) :=
  ⟨by simp [World.setCell], fun b h1 h2 => Below.heap_setCell w p u b (fun e => h ⟨by omega, by omega⟩)⟩
/-- The generators behind the first one. -/
def tailA (gg m : Nat) : Option Addr := if m = 0 then some ⟨gg, 0, none⟩ else some ⟨gg, 1, none⟩
def ApCut (W0 : World) (zs : List Int) (m N : Nat) (wc : World) (s3 s4 : Value) : Prop :=
  ∃ gg, s3 = .int .i64 (N : Int) ∧ s4 = .slice (tailA gg m) m m ∧ OwnI wc gg (gg + 1) (.slice (some ⟨gg, 0, none⟩) (m + 1) (m + 1)) (gnB zs) ∧ W0.heap.size ≤ gg ∧ gg < wc.heap.size ∧ Below W0.heap.size W0 wc
theorem ap_cut {W0 W1 : World} {zs : List Int} {m N gg : Nat} {A4 : Option Addr} (hA : A4 = if m = 0 then some ⟨gg, 0, none⟩ else some ⟨gg, 1, none⟩) (ho : OwnI W1 W0.heap.size W1.heap.size (.slice (some ⟨gg, 0, none⟩) (m + 1) (m + 1)) (gnB zs)) (hb : Below W0.heap.size W0 W1) :
    ApCut W0 zs m N W1 (.int .i64 (N : Int)) (.slice A4 m m) := by
  subst hA
  have h := (ho.1 : Own W1 W0.heap.size _ _ _).lt gg rfl
  exact ⟨gg, rfl, rfl, own_tight ho h.2, h.1, h.2, hb⟩

set_option maxRecDepth 100000 in
set_option maxHeartbeats 4000000 in
theorem apery_any (v : Value) (zs : List Int) (N : Nat) (w : World) (h : ReadI w w.heap.size v zs) (hn : zs.length ≤ 1048576) (hp : brB zs = true) (hN : (N : Int) = dvA zs 0) :
    Calls Try.prog 113 #[.agg #[v]] w fun e w' => ∃ gl, e = .returned (.slice (some ⟨gl, 0, none⟩) N N) ∧ OwnI w' w.heap.size w'.heap.size (.slice (some ⟨gl, 0, none⟩) N N) (apL zs) ∧ Below w.heap.size w w' := by
  have HP := Lib.hid hp
  obtain ⟨n, A, c, rfl, hr, HL, _, hnc, HF, hcm⟩ := h.split2
  have hn0 : 0 < n := by have := brB_pos hp; rw [HL.out] at this; exact this
  have HN1 := Lib.hid hn
  rw [HL.out] at hn
  obtain ⟨a, rfl, hlt, hc0⟩ := hr.2 0 hn0
  obtain ⟨g, o, rfl⟩ := HF.out a rfl
  have hgw : g < w.heap.size := hlt
  obtain ⟨W0, HE⟩ : ∃ W, W = w.alloc (.cells #[.slice (some ⟨g, o, none⟩) n c] 26) := ⟨_, rfl⟩
  have hb0 : Below w.heap.size w W0 := by rw [HE]; exact below_box2 _ _
  have hq0 : BoxI W0 w.heap.size (.slice (some ⟨g, o, none⟩) n c) := by rw [HE]; exact BoxI.new _ _ _
  have hs0 : w.heap.size < W0.heap.size := hq0.2
  have HR : Hid (ReadI W0.drew W0.drew.heap.size (.slice (some ⟨g, o, none⟩) n c) zs) := Lib.hid ((h.below hb0).more hb0.size)
  have B0 := Lib.hid hb0
  have HEQ := Lib.hid HE
  have q0 := hq0.1
  have hgW0 : g < W0.heap.size := by omega
  have hzN : zs[0]?.getD 0 = (N : Int) := by rw [hN, dvA_first hp]
  have HNN := Lib.hid hN
  have hNb := br_first hp
  rw [hzN] at hNb
  have cz : W0.cell? ⟨g, o, none⟩ = some (.int .i64 (N : Int)) := by
    have h2 : (⟨g, o, none⟩ : Addr).add 0 = ⟨g, o, none⟩ := by rw [add_lit]; rfl
    rw [h2] at hc0
    rw [hb0.cell (p := ⟨g, o, none⟩) hgw, hc0, ← hzN]; simp
  have HLG : Hid ((gnB zs).length = n) := Lib.hid (by rw [gnB_len, HL.out])
  obtain ⟨m, rfl⟩ : ∃ m, n = m + 1 := ⟨n - 1, by omega⟩
  have HGA := Lib.hid (fun i (hi : i < zs.length) => gnA_pos hp hi)
  have HST := Lib.hid (apInv_start hp hN)
  have hph := apL0_phi (n := N) (by omega)
  clear h hr hp hb0 hq0 HE hc0 hlt hN hzN
  have h1m : (1 : Int) ≤ (m : Int) + 1 := by omega
  go_enter Try.func113, Try.ntmps113
  go_upto_region 1 with fail
  rw [← HEQ.out]
  go_cut [3, 4] (fun s3 s4 wx => Hid (ApCut W0 zs m N wx s3 s4))
  case first =>
    obtain ⟨A4, hA4⟩ : ∃ A, (if m = 0 then some (⟨W0.heap.size + 1, 0, none⟩ : Addr) else some ⟨W0.heap.size + 1, 1, none⟩) = A := ⟨_, rfl⟩
    have HA4 := Lib.hid hA4
    refine wp_region_held_drew (S := fun w' => w'.cell? ⟨w.heap.size, 0, none⟩ = some (.slice (some ⟨g, o, none⟩) (m + 1) c) ∧ w'.cell? ⟨g, o, none⟩ = some (.int .i64 (N : Int))) (by kernel_rfl) ⟨q0, cz⟩ (fun hHeld => ?_)
    refine takeY 0 _ (v := ?_) rfl rfl (by kernel_rfl) (by kernel_rfl) (by kernel_rfl) (fun _ _ _ h => h) (by kernel_rfl) ?_ (by assumption) ?_
    rotate_left 1
    · intro w hSw; (try dsimp only at hSw); go_simp; (try with_reducible rfl)
    try simp only [Act.put, List.setIfInBounds_toArray, List.set_cons_zero, List.set_cons_succ]
    refine takeY 1 _ (v := ?_) rfl rfl (by kernel_rfl) (by kernel_rfl) (by kernel_rfl) (fun _ _ _ h => h) (by kernel_rfl) ?_ (by assumption) ?_
    rotate_left 1
    · intro w hSw; (try dsimp only at hSw); go_simp; (try with_reducible rfl)
    try simp only [Act.put, List.setIfInBounds_toArray, List.set_cons_zero, List.set_cons_succ]
    refine takeY 2 _ (v := ?_) rfl rfl (by kernel_rfl) (by kernel_rfl) (by kernel_rfl) (fun _ _ _ h => h) (by kernel_rfl) ?_ (by assumption) ?_
    rotate_left 1
    · intro w hSw; (try dsimp only at hSw); go_simp; (try with_reducible rfl)
    try simp only [Act.put, List.setIfInBounds_toArray, List.set_cons_zero, List.set_cons_succ]
    refine takeY 3 _ (v := ?_) rfl rfl (by kernel_rfl) (by kernel_rfl) (by kernel_rfl) (fun _ _ _ h => h) (by kernel_rfl) ?_ (by assumption) ?_
    rotate_left 1
    · intro w hSw; (try dsimp only at hSw); go_simp; (try with_reducible rfl)
    try simp only [Act.put, List.setIfInBounds_toArray, List.set_cons_zero, List.set_cons_succ]
    refine takeY 4 _ (v := ?_) rfl rfl (by kernel_rfl) (by kernel_rfl) (by kernel_rfl) (fun _ _ _ h => h) (by kernel_rfl) ?_ (by assumption) ?_
    rotate_left 1
    · intro w hSw; (try dsimp only at hSw); go_simp; (try with_reducible rfl)
    try simp only [Act.put, List.setIfInBounds_toArray, List.set_cons_zero, List.set_cons_succ]
    refine wpAnyH_ready (rs := [5]) (by kernel_rfl) (by simp) ?_
    refine AllReadyH.cons rfl (fun K hK => ?_) AllReadyH.nil
    go_simp
    refine (generators_any _ zs W0.drew HR.out HN1.out HP.out).mono ?_
    rintro e W1 ⟨v1, rfl, rfl, ho1, hb1⟩
    replace hb1 : Below W0.heap.size W0 W1 := ⟨hb1.os, hb1.tape, hb1.output, hb1.size, hb1.block⟩
    have q1 := (hb1.cell (p := ⟨w.heap.size, 0, none⟩) hs0).trans q0
    have cz1 := (hb1.cell (p := ⟨g, o, none⟩) hgW0).trans cz
    rw [HL.out] at ho1 ⊢
    refine hK.out _ (W1) ⟨q1, cz1⟩ (fun hHeld => ?_)
    clear hK K
    try simp only [Act.put, List.setIfInBounds_toArray, List.set_cons_zero, List.set_cons_succ]
    refine takeY 6 _ (v := ?_) rfl rfl (by kernel_rfl) (by kernel_rfl) (by kernel_rfl) (fun _ _ _ h => h) (by kernel_rfl) ?_ (by assumption) ?_
    rotate_left 1
    · intro w hSw; (try dsimp only at hSw); go_simp; (try with_reducible rfl)
    try simp only [Act.put, List.setIfInBounds_toArray, List.set_cons_zero, List.set_cons_succ]
    clear hA4
    refine takeY 7 _ (v := ?_) rfl rfl (by kernel_rfl) (by kernel_rfl) (by kernel_rfl) (fun _ _ _ h => h) (by kernel_rfl) ?_ (by assumption) ?_
    rotate_left 1
    · intro w hSw; (try dsimp only at hSw); go_simp; (try with_reducible rfl)
    try simp only [Act.put, List.setIfInBounds_toArray, List.set_cons_zero, List.set_cons_succ]
    refine takeY 8 _ (v := ?_) rfl rfl (by kernel_rfl) (by kernel_rfl) (by kernel_rfl) (fun _ _ _ h => h) (by kernel_rfl) ?_ (by assumption) ?_
    rotate_left 1
    · intro w hSw; (try dsimp only at hSw); go_simp; (try with_reducible rfl)
    try simp only [Act.put, List.setIfInBounds_toArray, List.set_cons_zero, List.set_cons_succ]
    refine wpAnyH_done (by kernel_rfl) ?_ _
    go_wp2_with fail
    go_meet
    exact Lib.hid (ap_cut (W0 := W0) HA4.out.symm ho1 hb1)
  case rest =>
    clear q0 cz h1m
    obtain ⟨gg, rfl, rfl, hog, hg1, hg2, hbc⟩ := hcut.out
    have HTA : Hid (m ≠ 0 → tailA gg m = some ⟨gg, 1, none⟩) := Lib.hid (fun h => by unfold tailA; rw [if_neg h])
    generalize tailA gg m = A4 at *
    obtain ⟨WA, HWA⟩ : ∃ W, W = wc.alloc (.cells #[.int .i64 9223372036854775807] 2) := ⟨_, rfl⟩
    have hcA : WA.cell? ⟨wc.heap.size, 0, none⟩ = some (.int .i64 9223372036854775807) := by rw [HWA]; exact (BoxI.new _ _ _).1
    have hsA : WA.heap.size = wc.heap.size + 1 := by rw [HWA]; simp
    have hbA : Below wc.heap.size wc WA := by rw [HWA]; exact below_box2 _ _
    have OG := Lib.hid (hog.kept (Kept.of_below hbA (by omega)))
    have BA := Lib.hid (B0.out.trans ((hbc.trans (hbA.mono hbc.size)).mono (by omega)))
    have hsz1 := hbc.size
    have HWE := Lib.hid HWA
    clear hog hbA HWA hbc hcut
    go_wp2_with fail
    rw [← HWE.out]
    refine (repeat_any 9223372036854775807 N wc.heap.size 1 WA hcA (by omega) (by omega)).mono ?_
    rintro e W1 ⟨rfl, hol, hb1⟩
    obtain ⟨gl, hgl⟩ : ∃ gl, WA.heap.size = gl := ⟨_, rfl⟩
    rw [hgl] at hol hb1 ⊢
    have OG1 := Lib.hid (OG.out.kept (Kept.of_below hb1 (by omega)))
    have B1 := Lib.hid (BA.out.trans (hb1.mono (by omega)))
    have hgl1 := (hol.1 : Own W1 gl _ _ _).lt gl rfl
    have hot := own_tight hol hgl1.2
    have hrl : (List.replicate N (9223372036854775807 : Int)).length = N := by simp
    obtain ⟨g', e1, _, _, hcl, hfl⟩ := own_at hot hrl (show 0 < N by omega)
    cases e1
    have hN0 : 0 < N := by omega
    have OL := Lib.hid (own_store (j := 0) hot hrl 0)
    have OG2 := Lib.hid (OG1.out.kept (keptS2A W1 (p := ⟨gl, 0, none⟩) (show ¬ (gg ≤ gl ∧ gl < gg + 1) by omega) (.int .i64 0)))
    have B2 := Lib.hid (B1.out.setCell (p := ⟨gl, 0, none⟩) (by show w.heap.size ≤ gl; omega) (.int .i64 0))
    have hs2 : (W1.setCell ⟨gl, 0, none⟩ (.int .i64 0)).heap.size = W1.heap.size := by simp [World.setCell]
    clear hol hot hb1 OG1 OG BA hcA HWE
    have hmm := @run_makeMap Try.prog
    go_upto_region 4 with fail
    clear hcl hfl hrl
    generalize W1.setCell ⟨gl, 0, none⟩ (.int .i64 0) = WS at *
    obtain ⟨B, hB⟩ : ∃ B, WS.heap.size = B := ⟨_, rfl⟩
    have hglB : gl < B := by omega
    have hggB : gg < gl := by omega
    have hwgg : w.heap.size ≤ gg := by omega
    have hsm1 : (WS.alloc (.map #[] 0)).heap.size = B + 1 := by rw [← hB]; simp
    clear hgl hgl1 hs2 hsA
    have HMD : Hid ((WS.alloc (.map #[] 0)).ownsMap Try.prog 2 (plainElem (H := Unit) Try.prog 4) B 0 (.map [])) := Lib.hid (by have := World.ownsMap_made WS Try.prog 2 (plainElem (H := Unit) Try.prog 4); rwa [hB] at this)
    go_wp2_with (refine wpList_insert_own _ rfl _ _ _ 110 rfl 2 4 law64 Try.underlying110 (plainElem (H := Unit) Try.prog 4) B 0 (.map []) rfl HMD.out (by unfold maxLen; omega) (.int .i64 0) (.bool true) (.int .i64 0) rfl rfl (keyOf_int_mk Try.underlying2 (by decide)) (.lit (.bool true)) [] pb_true ?_; intro w3 hm3 hg3)
    have hs3 := hg3.size
    rw [hsm1] at hs3
    have k1 : Below B WS (WS.alloc (.map #[] 0)) := (Below.refl _ _).alloc (by omega) _
    have k2 : Below B (WS.alloc (.map #[] 0)) w3 := below_grown1 hg3 (by omega) (by omega)
    have k3 : Below B w3 (w3.alloc (.map #[] 0)) := (Below.refl _ _).alloc (by omega) _
    have k4 := (k1.trans k2).trans k3
    have HM1 := Lib.hid (hm3.alloc (.map #[] 0))
    have HM2 : Hid ((w3.alloc (.map #[] 0)).ownsMap Try.prog 2 (plainElem (H := Unit) Try.prog 4) w3.heap.size 0 (.map [])) := Lib.hid (World.ownsMap_made _ _ _ _)
    have OL2 := Lib.hid (OL.out.kept (Kept.of_below k4 (by omega)))
    have OG3 := Lib.hid (OG2.out.kept (Kept.of_below k4 (by omega)))
    have B3 := Lib.hid (B2.out.trans (k4.mono (by omega)))
    have HAI := Lib.hid (HST.out.iff (S' := hasI ((DataW.map []).put (.int .i64 0) (.lit (.bool true)))) (fun x => by
      rw [hasI_put ⟨[], rfl⟩]
      exact ⟨fun h => h.elim (fun h => absurd h hasI_none) id, .inr⟩))
    have HL0 : Hid ((apL0 N).length = N) := Lib.hid (by simp [apL0])
    have hs4 : (w3.alloc (.map #[] 0)).heap.size = w3.heap.size + 1 := by simp
    obtain ⟨b2, hb2⟩ : ∃ b, w3.heap.size = b := ⟨_, rfl⟩
    rw [hb2] at HM2 hs4 hs3 ⊢
    clear hm3 hg3 k1 k2 k3 k4 OL OG2 B2 HST hsm1 hmm hb2
    generalize w3.alloc (.map #[] 0) = WC at *
    generalize (DataW.map []).put (.int .i64 0) (.lit (.bool true)) = D1 at *
    have HKP : Hid (Kept gg (gg + 1) WC WC) := Lib.hid (Kept.refl _ _ _)
    have hBW : B ≤ WC.heap.size := by omega
    have hNz : ((N : Int) == 0) = false := by simp; omega
    have hNz2 : ¬ (N : Int) = 0 := by omega
    go_loopg [6, 7] (2 * 524288064 + 1) (fun k s6 s7 wr => ∃ (bf bn : Nat) (L : List Int) (D : DataW Unit) (kf : Nat), s6 = .map (some bf) ∧ s7 = .map (some bn) ∧ (bf ≠ bn ∧ B ≤ bf ∧ B ≤ bn) ∧ Hid (OwnI wr gl (gl + 1) (.slice (some ⟨gl, 0, none⟩) N N) L) ∧ Hid (L.length = N) ∧ Hid (wr.ownsMap Try.prog 2 (plainElem (H := Unit) Try.prog 4) bf kf D) ∧ Hid (wr.ownsMap Try.prog 2 (plainElem (H := Unit) Try.prog 4) bn 0 (.map [])) ∧ Hid (ApInv zs L (hasI D)) ∧ phi L ≤ 524288064 ∧ 2 * phi L + (if Maps.size D = 0 then 0 else 1) ≤ k ∧ Hid (Below w.heap.size w wr) ∧ Hid (Kept gg (gg + 1) WC wr) ∧ B ≤ wr.heap.size)
    case atStart => exact ⟨B, b2, apL0 N, D1, 1, rfl, rfl, ⟨by omega, Nat.le_refl _, by omega⟩, OL2, HL0, HM1, HM2, HAI, hph, by (split <;> omega), B3, HKP, hBW⟩
    case round =>
      clear OL2 HM1 HM2 HAI HL0 HKP B3
      obtain ⟨bf, bn, L, D, kf, rfl, rfl, ⟨hne, hbf, hbn⟩, hol, hL, hmf, hmn, hinv, hph1, hk, hb, hkp, hBs⟩ := hrel
      by_cases hsz : Maps.size D = 0
      · have hszi : ¬ (0 : Int) < ((Maps.size D : Nat) : Int) := by omega
        have HE : Hid (L = apL zs) := Lib.hid (apInv_end HP.out (hinv.out.iff (fun x => ⟨fun h => h.elim, fun h => hasI_size hmf.out.isMap hsz h⟩)))
        have HOL := Lib.hid ((own_lessB hol.out (show w.heap.size ≤ gl by omega)).raise (show gl + 1 ≤ wr.heap.size by omega) (Nat.le_refl _))
        clear hinv hk hsz
        go_wp2_with (at_len; refine wpList_len_own _ rfl _ 110 rfl 2 4 Try.underlying110 (plainElem (H := Unit) Try.prog 4) bf kf D rfl hmf.out ?_)
        go_ret
        exact ⟨gl, rfl, by rw [← HE.out]; exact HOL.out, hb.out⟩
      · have hszi : (0 : Int) < ((Maps.size D : Nat) : Int) := by omega
        obtain ⟨r, hr⟩ : ∃ r, wr.heap.size = r := ⟨_, rfl⟩
        have hmnl := hmn.out.lt
        go_wp2_with (first
          | (at_len; refine wpList_len_own _ rfl _ 110 rfl 2 4 Try.underlying110 (plainElem (H := Unit) Try.prog 4) bf kf D rfl hmf.out ?_)
          | (at_range; refine wpList_range_own _ rfl _ 110 rfl 2 4 law64 Try.underlying110 (plainElem (H := Unit) Try.prog 4) bf kf D rfl hmf.out ?_; intro w0 hrg0 hg0 hs0))
        go_frame
        rw [hr] at hrg0 hs0 ⊢
        have hszn : 0 < Maps.size D := by omega
        simp only [hszi, hszn, decide_true]
        have HRG := Lib.hid hrg0
        have HMN := Lib.hid (hmn.out.kept hg0 (by simp))
        have HOL := Lib.hid (hol.out.kept (kept_grown0 hg0 (by omega)))
        have HB := Lib.hid (hb.out.trans (below_grown0 hg0 (by have := hb.out.size; omega)))
        have HKP := Lib.hid (hkp.out.trans (kept_grown0 hg0 (by omega)))
        have HIN : Hid (ApInv zs L (fun x => hasI (.map []) x ∨ Maps.has D (.int .i64 x) = true)) := Lib.hid (hinv.out.iff (fun x => ⟨fun h => h.elim (fun h => absurd h hasI_none) id, .inr⟩))
        have hrB : B ≤ r := by omega
        have hBw0 : B ≤ w0.heap.size := by omega
        have hbnr : bn ≠ r := by omega
        have HNE := Lib.hid hne
        clear hrg0 hg0 hs0 hol hmf hmn hinv hb hkp hne
        go_loopg [8] (Maps.size D) (fun k s8 wi => ∃ (left : Lit → Bool) (cnt : Nat) (L2 : List Int) (D2 : DataW Unit) (kn : Nat), cnt ≤ k ∧ Hid (wi.ranges Try.prog 2 (plainElem (H := Unit) Try.prog 4) bf r kf D left cnt) ∧ Hid (wi.ownsMap Try.prog 2 (plainElem (H := Unit) Try.prog 4) bn kn D2) ∧ Hid (OwnI wi gl (gl + 1) (.slice (some ⟨gl, 0, none⟩) N N) L2) ∧ Hid (L2.length = N) ∧ Hid (ApInv zs L2 (fun x => hasI D2 x ∨ left (.int .i64 x) = true)) ∧ kn + phi L2 ≤ phi L ∧ Hid (Below w.heap.size w wi) ∧ Hid (Kept gg (gg + 1) WC wi) ∧ B ≤ wi.heap.size)
        case atStart => exact ⟨_, _, L, .map [], 0, Nat.le_refl _, HRG, HMN, HOL, hL, HIN, by omega, HB, HKP, hBw0⟩
        case round =>
          clear HRG HMN HOL HIN HB HKP hBw0 hBs
          obtain ⟨left, cnt, L2, D2, kn, hck, hrg, hm2, hol2, hL2, hi2, hph2, hbw, hkp2, hB2⟩ := hrel
          go_wp2_with (first
            | (at_next; refine wpList_next_ranges_ib _ rfl _ rfl 2 4 law64 Try.underlying2 Try.underlying4 bf r kf D left cnt rfl hrg.out ?_ ?_)
            | fail)
          · intro hl0
            have HI2 := Lib.hid (hi2.out.iff (S' := hasI D2) (fun x => ⟨.inl, fun h => h.elim id (fun h => by rw [hl0] at h; cases h)⟩))
            have hsd := hm2.out.size_le
            clear hl0 hi2
            go_wp2_with (refine wpList_clear_own _ rfl _ 110 rfl 2 4 Try.underlying110 (plainElem (H := Unit) Try.prog 4) bf kf D rfl hrg.out.owns ?_; intro w5 hm5 hg5)
            go_roundg (2 * phi L2 + (if Maps.size D2 = 0 then 0 else 1))
            case measure =>
              rw [if_neg hsz] at hk
              split <;> omega
            case rel =>
              exact ⟨bn, bf, L2, D2, kn, rfl, rfl, ⟨fun e => HNE.out e.symm, hbn, hbf⟩, Lib.hid (hol2.out.kept (kept_grown1 hg5 (by omega) (by omega))), hL2, Lib.hid (hm2.out.kept hg5 (fun e => HNE.out (by cases e; rfl))), Lib.hid hm5, HI2, by omega, Nat.le_refl _,
                Lib.hid (hbw.out.trans (below_grown1 hg5 (by have := hbw.out.size; omega) (by omega))), Lib.hid (hkp2.out.trans (kept_grown1 hg5 (by omega) (by omega))), by have := hg5.size; omega⟩
          · intro x cx w1 cnt1 hlx hrg1 hlt hg1 hen
            have HV := Lib.hid (hi2.out.take (S' := fun y => hasI D2 y ∨ (left (.int .i64 y) && !(Lit.int .i64 y).sameKey (.int .i64 x)) = true) (v := x) (.inr hlx)
              (fun y h => h.elim .inl (fun h => .inr (left_strike h))) (fun y h => h.elim (fun h => .inl (.inl h)) (fun h => (left_strike2 h).elim (fun h => .inl (.inr h)) .inr)))
            have HRG1 := Lib.hid hrg1
            have HM1 := Lib.hid (hm2.out.kept hg1 (fun e => hbnr (by cases e; rfl)))
            have HOL1 := Lib.hid (hol2.out.kept (kept_grown1 hg1 (by omega) (by omega)))
            have HB1 := Lib.hid (hbw.out.trans (below_grown1 hg1 (by have := hbw.out.size; omega) (by omega)))
            have HKP1 := Lib.hid (hkp2.out.trans (kept_grown1 hg1 (by omega) (by omega)))
            have hBw1 : B ≤ w1.heap.size := by have := hg1.size; omega
            clear hi2 hlx hrg1 hg1 hrg hm2 hol2 hbw hkp2
            go_wp2_with fail
            clear hen
            go_loopw [38] (fun vi wj => ∃ (j : Nat) (L3 : List Int) (D3 : DataW Unit) (kn : Nat), j ≤ m ∧ vi = .int .i64 j ∧ Hid (wj.ranges Try.prog 2 (plainElem (H := Unit) Try.prog 4) bf r kf D (fun z => left z && !z.sameKey (.int .i64 x)) cnt1) ∧ Hid (wj.ownsMap Try.prog 2 (plainElem (H := Unit) Try.prog 4) bn kn D3) ∧ Hid (OwnI wj gl (gl + 1) (.slice (some ⟨gl, 0, none⟩) N N) L3) ∧ Hid (L3.length = N) ∧ Hid (ApInvV zs L3 (fun y => hasI D3 y ∨ (left (.int .i64 y) && !(Lit.int .i64 y).sameKey (.int .i64 x)) = true) x j) ∧ kn + phi L3 ≤ phi L ∧ Hid (Below w.heap.size w wj) ∧ Hid (Kept gg (gg + 1) WC wj) ∧ B ≤ wj.heap.size) (fun vi _ => m - (intOf vi).toNat)
            case atStart => exact ⟨0, L2, D2, kn, Nat.zero_le _, rfl, HRG1, HM1, HOL1, hL2, HV, hph2, HB1, HKP1, hBw1⟩
            case round =>
              clear HRG1 HM1 HOL1 hL2 HV hph2 HB1 HKP1 hBw1
              obtain ⟨j, L3, D3, kn3, hj, rfl, hrj, hmj, holj, hL3, hv3, hph3, hbj, hkpj, hBj⟩ := hrel
              by_cases hjm : j < m
              · obtain rfl := HTA.out (by omega)
                have hjmi : (j : Int) < (m : Int) := by omega
                obtain ⟨g', e1, _, _, hcg, _⟩ := own_at (OG3.out.kept hkpj.out) HLG.out (show j + 1 < m + 1 by omega)
                cases e1
                have hgp := HGA.out (j + 1) (by have := HL.out; omega)
                obtain ⟨gy, hgy⟩ : ∃ c, gnA zs (j + 1) = c := ⟨_, rfl⟩
                rw [show (gnB zs)[j + 1]?.getD 0 = gy from hgy, Nat.add_comm j 1] at hcg
                rw [hgy] at hgp
                have hx1 := hv3.out.goodv.1
                have hx2 := hv3.out.goodv.2.2.1
                have hx3 := fins_le L3
                rw [hL3.out] at hx3
                obtain ⟨q, hqN, hqt, hqe, hqn⟩ := mod_nat (x := x + gy) (N := N) (by omega) (by omega)
                obtain ⟨g', e1, _, _, hcl, hfl⟩ := own_at holj.out hL3.out hqN
                cases e1
                obtain ⟨lv, hlv⟩ : ∃ c, L3[q]?.getD 0 = c := ⟨_, rfl⟩
                rw [hlv] at hcl
                have HLQ : Hid (lq L3 L3.length (x + gy) = lv) := Lib.hid (by unfold lq; rw [hL3.out, hqn, hlv])
                have p1 : IntKind.i64.wrap (x + gy) = x + gy := IntWalk.i64_in _ (by omega)
                have p2 : IntKind.i64.wrap (q : Int) = (q : Int) := IntWalk.i64_in _ (by omega)
                have hqi : (q : Int) < (N : Int) := by omega
                have HGY := Lib.hid hgy
                have HQN := Lib.hid hqn
                have hsb : 0 ≤ x + gy ∧ x + gy ≤ 8192000 := by omega
                by_cases hls : x + gy < lv
                · have HY := Lib.hid (hv3.out.yes HP.out (by rw [HL.out]; omega) (s := x + gy) (by rw [hgy]) (by rw [HLQ.out]; exact hls) (S' := fun y => hasI (D3.put (.int .i64 (x + gy)) (.lit (.bool true))) y ∨ (left (.int .i64 y) && !(Lit.int .i64 y).sameKey (.int .i64 x)) = true) (fun y => by
                    rw [hasI_put hmj.out.isMap]
                    exact ⟨fun h => h.elim (fun h => h.elim (fun h => .inl (.inl h)) .inr) (fun h => .inl (.inr h)), fun h => h.elim (fun h => h.elim (fun h => .inl (.inl h)) .inr) (fun h => .inl (.inr h))⟩))
                  rw [hL3.out, HQN.out] at HY
                  have hphy := HY.out.2
                  have HMS := Lib.hid (hmj.out.setCell (a := ⟨gl, q, none⟩) (show bn ≠ gl by omega) (.int .i64 (x + gy)))
                  have HRS := Lib.hid (hrj.out.kept (grown_cell1 _ ⟨gl, q, none⟩ (.int .i64 (x + gy))) (fun e => by have h9 : bf = gl := Option.some.inj e; omega) (fun e => by have h9 : r = gl := Option.some.inj e; omega))
                  have HOS := Lib.hid (own_store (j := q) holj.out hL3.out (x + gy))
                  have HBS := Lib.hid (hbj.out.setCell (p := ⟨gl, q, none⟩) (show w.heap.size ≤ gl by omega) (.int .i64 (x + gy)))
                  have HKS := Lib.hid (hkpj.out.trans (keptS2A _ (p := ⟨gl, q, none⟩) (show ¬ (gg ≤ gl ∧ gl < gg + 1) by omega) (.int .i64 (x + gy))))
                  have HLS : Hid ((L3.set q (x + gy)).length = N) := Lib.hid (by rw [List.length_set, hL3.out])
                  clear hlv hgy hqn hqe hgp hx2 hx3 hv3
                  go_wp2_with (at_mapUpdate; refine wpList_mapUpdate_own _ rfl _ _ _ 110 rfl 2 4 law64 Try.underlying110 (plainElem (H := Unit) Try.prog 4) bn kn3 D3 rfl HMS.out (by unfold maxLen; omega) (.int .i64 (x + gy)) (.bool true) (.int .i64 (x + gy)) rfl rfl (keyOf_int_mk Try.underlying2 (WalkArith.wf_i64 (by omega))) (.lit (.bool true)) [] pb_true ?_; intro w6 hm6 hg6)
                  have hsw : (World.setCell wr ⟨gl, q, none⟩ (.int .i64 (x + gy))).heap.size = wr.heap.size := by simp [World.setCell]
                  go_roundw
                  case rel =>
                    exact ⟨j + 1, L3.set q (x + gy), _, kn3 + 1, by omega, by go_num, Lib.hid (HRS.out.kept hg6 (fun e => HNE.out (by cases e; rfl)) (fun e => hbnr (by cases e; rfl))), Lib.hid hm6, Lib.hid (HOS.out.kept (kept_grown1 hg6 (by rw [hsw]; omega) (by omega))), HLS, Lib.hid HY.out.1, by omega,
                      Lib.hid (HBS.out.trans (below_grown1 hg6 (by have := HBS.out.size; omega) (by omega))), Lib.hid (HKS.out.trans (kept_grown1 hg6 (by rw [hsw]; omega) (by omega))), by have := hg6.size; rw [hsw] at this; omega⟩
                  case measure => first | (simp [intOf]; done) | (simp [intOf]; omega)
                · have HY := Lib.hid (hv3.out.no (by rw [HGY.out, HLQ.out]; omega))
                  clear hlv hgy hqn hqe hgp hx2 hx3 hv3
                  go_wp2_with fail
                  go_roundw
                  case rel => exact ⟨j + 1, L3, D3, kn3, by omega, by go_num, hrj, hmj, holj, hL3, HY, hph3, hbj, hkpj, hBj⟩
                  case measure => first | (simp [intOf]; done) | (simp [intOf]; omega)
              · obtain rfl : m = j := by omega
                have HG := Lib.hid (hv3.out.give (by rw [HL.out]; omega))
                clear hv3
                go_wp2_with fail
                go_roundg cnt1
                case measure => omega
                case rel => exact ⟨_, cnt1, L3, D3, kn3, Nat.le_refl _, hrj, hmj, holj, hL3, HG, hph3, hbj, hkpj, hBj⟩
end Go.Proofs.Ytjgidalmgoifgaa
/- Apery lists by digits: plain mathematics of chapter 5. Conditions: stated at each theorem. -/
namespace Go.Proofs.Ytjgidalmgoifgaa
set_option linter.unusedVariables false

/-- The sum of the first i digits of v, each times its generator, and what is left of v. -/
def dS (zs : List Int) (v : Int) : Nat → Int × Int
  | 0 => (0, v)
  | i + 1 => ((dS zs v i).1 + (dS zs v i).2.tmod (nnA zs i) * gnA zs (i + 1), (dS zs v i).2.tdiv (nnA zs i))
theorem dS_step (zs : List Int) (v : Int) (i : Nat) : dS zs v (i + 1) = ((dS zs v i).1 + (dS zs v i).2.tmod (nnA zs i) * gnA zs (i + 1), (dS zs v i).2.tdiv (nnA zs i)) := rfl
theorem dS_rest {zs : List Int} (hp : brB zs = true) {v : Int} (hv : 0 ≤ v) : ∀ {i : Nat}, i < zs.length → 0 ≤ (dS zs v i).2 ∧ (dS zs v i).2 ≤ v
  | 0, _ => ⟨hv, Int.le_refl _⟩
  | i + 1, hi => by
    have h1 := dS_rest hp hv (i := i) (by omega)
    have h2 := nnA_pos hp hi
    rw [dS_step]
    refine ⟨Int.tdiv_nonneg h1.1 (by omega), ?_⟩
    show (dS zs v i).2.tdiv (nnA zs i) ≤ v
    rw [Int.tdiv_eq_ediv_of_nonneg h1.1]
    have := Int.ediv_le_self (a := (dS zs v i).2) (nnA zs i) h1.1
    omega
theorem dS_digit {zs : List Int} (hp : brB zs = true) {v : Int} (hv : 0 ≤ v) {i : Nat} (hi : i + 1 < zs.length) : 0 ≤ (dS zs v i).2.tmod (nnA zs i) ∧ (dS zs v i).2.tmod (nnA zs i) < nnA zs i ∧ (dS zs v i).2.tmod (nnA zs i) ≤ 64 := by
  have h1 := dS_rest hp hv (i := i) (by omega)
  have h2 := nnA_pos hp hi
  rw [Int.tmod_eq_emod_of_nonneg h1.1]
  have h3 := Int.emod_nonneg (dS zs v i).2 (show nnA zs i ≠ 0 by omega)
  have h4 := Int.emod_lt_of_pos (dS zs v i).2 (show 0 < nnA zs i by omega)
  omega
theorem dS_rp {zs : List Int} (hp : brB zs = true) {v : Int} (hv : 0 ≤ v) : ∀ {i : Nat}, i < zs.length → dvA zs i ∣ (dS zs v i).1 ∧ rpV zs i (dS zs v i).1 = 0 ∧ 0 ≤ (dS zs v i).1
  | 0, _ => ⟨Int.dvd_zero _, rfl, Int.le_refl _⟩
  | i + 1, hi => by
    obtain ⟨h1, h2, h3⟩ := dS_rp hp hv (i := i) (by omega)
    have hd := dS_digit hp hv hi
    have hg := gnA_pos hp hi
    rw [dS_step]
    obtain ⟨c, hc⟩ : ∃ c : Nat, (dS zs v i).2.tmod (nnA zs i) = (c : Int) := ⟨((dS zs v i).2.tmod (nnA zs i)).toNat, by omega⟩
    rw [hc] at hd ⊢
    have e1 : (dS zs v i).1 + (c : Int) * gnA zs (i + 1) - (c : Int) * gnA zs (i + 1) = (dS zs v i).1 := by omega
    have h4 : 0 ≤ (c : Int) * gnA zs (i + 1) := Int.mul_nonneg (by omega) (by omega)
    have h5 : rcA zs i ((dS zs v i).1 + (c : Int) * gnA zs (i + 1)) = c := rcA_is hp hi hd.2.1 (by rw [e1]; exact h1)
    refine ⟨Int.dvd_add (Int.dvd_trans (dvA_dvd hp hi).1 h1) (Int.dvd_trans (dvA_dvd hp hi).2 (Int.dvd_mul_left _ _)), ?_, by show 0 ≤ (dS zs v i).1 + (c : Int) * gnA zs (i + 1); omega⟩
    show rpV zs (i + 1) ((dS zs v i).1 + (c : Int) * gnA zs (i + 1)) = 0
    rw [rpV_step, h5, e1]
    exact h2
theorem dS_last {zs : List Int} (hp : brB zs = true) {v : Int} (hv : 0 ≤ v) : apA zs (dS zs v (zs.length - 1)).1 = (dS zs v (zs.length - 1)).1 := by
  have h0 := brB_pos hp
  have := (dS_rp hp hv (i := zs.length - 1) (by omega)).2.1
  unfold apA
  omega
theorem dS_range {zs : List Int} (hp : brB zs = true) {v : Int} (hv : 0 ≤ v) {i : Nat} (hi : i < zs.length) : 0 ≤ (dS zs v i).1 ∧ (dS zs v i).1 ≤ 8192000 := by
  obtain ⟨h1, h2, h3⟩ := dS_rp hp hv hi
  refine ⟨h3, ?_⟩
  by_cases hl : i + 1 < zs.length
  · have h4 := rpV_low hp hl h1
    have h5 := gnA_pos hp hl
    omega
  · have e : i = zs.length - 1 := by omega
    rw [e]
    have h4 := dS_last hp hv
    have h5 := apA_range hp (dS zs v (zs.length - 1)).1
    omega
def pP (zs : List Int) : Nat → Int
  | 0 => 1
  | i + 1 => pP zs i * nnA zs i
theorem pP_mul {zs : List Int} (hp : brB zs = true) : ∀ {i : Nat}, i < zs.length → pP zs i * dvA zs i = dvA zs 0
  | 0, _ => by simp [pP]
  | i + 1, hi => by
    have h1 := pP_mul hp (i := i) (by omega)
    have h2 := nnA_mul hp hi
    show pP zs i * nnA zs i * dvA zs (i + 1) = dvA zs 0
    rw [Int.mul_assoc, h2, h1]
theorem pP_pos {zs : List Int} (hp : brB zs = true) : ∀ {i : Nat}, i < zs.length → 1 ≤ pP zs i
  | 0, _ => Int.le_refl _
  | i + 1, hi => by
    have h1 := pP_pos hp (i := i) (by omega)
    have h2 := nnA_pos hp hi
    have : 1 * 1 ≤ pP zs i * nnA zs i := Int.mul_le_mul h1 h2.1 (by omega) (by omega)
    show 1 ≤ pP zs i * nnA zs i
    omega
theorem dS_shift {zs : List Int} (hp : brB zs = true) : ∀ {i : Nat} {v t : Int}, i < zs.length → 0 ≤ v → 0 ≤ t → dS zs (v + pP zs i * t) i = ((dS zs v i).1, (dS zs v i).2 + t)
  | 0, v, t, _, _, _ => by simp [dS, pP]
  | i + 1, v, t, hi, hv, ht => by
    have hn := nnA_pos hp hi
    have h1 := dS_shift hp (i := i) (v := v) (t := nnA zs i * t) (by omega) hv (Int.mul_nonneg (by omega) ht)
    have hr := dS_rest hp hv (i := i) (by omega)
    have e1 : v + pP zs (i + 1) * t = v + pP zs i * (nnA zs i * t) := by
      show v + pP zs i * nnA zs i * t = _
      rw [Int.mul_assoc]
    rw [e1, dS_step, h1, dS_step]
    have h2 : 0 ≤ nnA zs i * t := Int.mul_nonneg (by omega) ht
    show ((dS zs v i).1 + ((dS zs v i).2 + nnA zs i * t).tmod (nnA zs i) * gnA zs (i + 1), ((dS zs v i).2 + nnA zs i * t).tdiv (nnA zs i)) = ((dS zs v i).1 + (dS zs v i).2.tmod (nnA zs i) * gnA zs (i + 1), (dS zs v i).2.tdiv (nnA zs i) + t)
    rw [Int.tmod_eq_emod_of_nonneg (by omega), Int.tmod_eq_emod_of_nonneg hr.1, Int.tdiv_eq_ediv_of_nonneg (by omega), Int.tdiv_eq_ediv_of_nonneg hr.1, Int.add_mul_emod_self_left, Int.add_mul_ediv_left _ _ (by omega)]
/-- The number whose digits are the counts of u. -/
def vOf (zs : List Int) : Nat → Int → Int
  | 0, _ => 0
  | i + 1, u => vOf zs i (u - (rcA zs i u : Int) * gnA zs (i + 1)) + pP zs i * (rcA zs i u : Int)
theorem vOf_range {zs : List Int} (hp : brB zs = true) : ∀ {i : Nat} {u : Int}, i < zs.length → dvA zs i ∣ u → 0 ≤ vOf zs i u ∧ vOf zs i u < pP zs i
  | 0, u, _, _ => ⟨Int.le_refl _, by show (0 : Int) < 1; decide⟩
  | i + 1, u, hi, hd => by
    have hl := rc_level hp hi hd
    have hc := rcA_lt hp hi hd
    have hP := pP_pos hp (i := i) (by omega)
    have h1 := vOf_range hp (i := i) (u := u - (rcA zs i u : Int) * gnA zs (i + 1)) (by omega) hl.2.2
    have h2 : 0 ≤ pP zs i * (rcA zs i u : Int) := Int.mul_nonneg (by omega) (by omega)
    have h3 : pP zs i * ((rcA zs i u : Int) + 1) ≤ pP zs i * nnA zs i := Int.mul_le_mul_of_nonneg_left (by omega) (by omega)
    rw [Int.mul_add] at h3
    show 0 ≤ vOf zs i _ + _ ∧ vOf zs i _ + _ < pP zs i * nnA zs i
    omega
theorem dS_vOf {zs : List Int} (hp : brB zs = true) : ∀ {i : Nat} {u : Int}, i < zs.length → dvA zs i ∣ u → dS zs (vOf zs i u) i = (u - rpV zs i u, 0)
  | 0, u, _, _ => by show ((0 : Int), (0 : Int)) = (u - u, 0); simp
  | i + 1, u, hi, hd => by
    have hl := rc_level hp hi hd
    have hc := rcA_lt hp hi hd
    have hn := nnA_pos hp hi
    have hr := vOf_range hp (i := i) (u := u - (rcA zs i u : Int) * gnA zs (i + 1)) (by omega) hl.2.2
    have h1 := dS_vOf hp (i := i) (u := u - (rcA zs i u : Int) * gnA zs (i + 1)) (by omega) hl.2.2
    have h2 := dS_shift hp (i := i) (v := vOf zs i (u - (rcA zs i u : Int) * gnA zs (i + 1))) (t := (rcA zs i u : Int)) (by omega) hr.1 (by omega)
    rw [h1] at h2
    show dS zs (vOf zs i (u - (rcA zs i u : Int) * gnA zs (i + 1)) + pP zs i * (rcA zs i u : Int)) (i + 1) = _
    rw [dS_step, h2, rpV_step]
    show (u - (rcA zs i u : Int) * gnA zs (i + 1) - rpV zs i (u - (rcA zs i u : Int) * gnA zs (i + 1)) + (0 + (rcA zs i u : Int)).tmod (nnA zs i) * gnA zs (i + 1), (0 + (rcA zs i u : Int)).tdiv (nnA zs i)) = _
    rw [Int.zero_add, Int.tmod_eq_emod_of_nonneg (by omega), Int.tdiv_eq_ediv_of_nonneg (by omega), Int.emod_eq_of_lt (by omega) hc, Int.ediv_eq_zero_of_lt (by omega) hc]
    congr 1
    omega
/-- The list of the model, index by index, when the numbers less than k have been looked at. -/
def outF (zs : List Int) : Nat → Nat → Int
  | 0, _ => 0
  | k + 1, y => if y = ((dS zs (k : Int) (zs.length - 1)).1 % dvA zs 0).toNat then (dS zs (k : Int) (zs.length - 1)).1 else outF zs k y
theorem outF_eq {zs : List Int} (hp : brB zs = true) : ∀ (k y : Nat), (∃ v : Nat, v < k ∧ ((dS zs (v : Int) (zs.length - 1)).1 % dvA zs 0).toNat = y) → outF zs k y = apA zs (y : Int)
  | 0, _, ⟨_, h, _⟩ => by omega
  | k + 1, y, ⟨v, hv, he⟩ => by
    have hd := dvA_pos hp (i := 0) (brB_pos hp)
    unfold outF
    by_cases hy : y = ((dS zs (k : Int) (zs.length - 1)).1 % dvA zs 0).toNat
    · rw [if_pos hy]
      have h1 := Int.emod_nonneg (dS zs (k : Int) (zs.length - 1)).1 (show dvA zs 0 ≠ 0 by omega)
      have h2 : (y : Int) = (dS zs (k : Int) (zs.length - 1)).1 % dvA zs 0 := by omega
      rw [h2, apA_mod hp]
      exact (dS_last hp (by omega)).symm
    · rw [if_neg hy]
      have hvk : v ≠ k := by intro e; subst e; exact hy he.symm
      exact outF_eq hp k y ⟨v, by omega, he⟩
theorem outF_end {zs : List Int} (hp : brB zs = true) {N y : Nat} (hN : (N : Int) = dvA zs 0) (hy : y < N) : outF zs N y = apA zs (y : Int) := by
  have h0 := brB_pos hp
  have hd := dv_last_dvd hp (y : Int)
  have h1 := vOf_range hp (i := zs.length - 1) (u := (y : Int)) (by omega) hd
  have h2 := dS_vOf hp (i := zs.length - 1) (u := (y : Int)) (by omega) hd
  have h3 := pP_mul hp (i := zs.length - 1) (by omega)
  rw [dvA_last hp, Int.mul_one] at h3
  refine outF_eq hp N y ⟨(vOf zs (zs.length - 1) (y : Int)).toNat, by omega, ?_⟩
  have e : (((vOf zs (zs.length - 1) (y : Int)).toNat : Nat) : Int) = vOf zs (zs.length - 1) (y : Int) := by omega
  rw [e, h2]
  show (apA zs (y : Int) % dvA zs 0).toNat = y
  rw [apA_rem hp (by omega)]
  omega
end Go.Proofs.Ytjgidalmgoifgaa
/- AperyOf, the model's and the program's: contracts. Conditions: stated at each theorem. -/
namespace Go.Proofs.Ytjgidalmgoifgaa
open Go.ChangeShapes Go.WideShapes Go.ChangeAt Go.RowKit Go.Deep
set_option linter.unusedVariables false
set_option linter.unusedSimpArgs false

def apoA (zs : List Int) : List Int := if brB zs then apL zs else []
theorem apoA_len {zs : List Int} (h : zs.length ≤ 1048576) : (apoA zs).length ≤ 1099511627776 := by
  unfold apoA
  split
  · rename_i hp
    have := dvA_pos hp (i := 0) (brB_pos hp)
    rw [apL_len]; omega
  · simp
set_option maxRecDepth 100000 in
set_option maxHeartbeats 4000000 in
theorem specAperyOf_any (v : Value) (zs : List Int) (w : World) (h : ReadI w w.heap.size v zs) (hn : zs.length ≤ 1048576) (hw : ∀ z ∈ zs, (Lit.int .i64 z).wf = true) :
    Calls Try.prog 60 #[.agg #[v]] w (AnsIC w (apoA zs) (goC zs)) := by
  have HWW := Lib.hid hw
  have HN0 := Lib.hid hn
  rcases bool_fs (brB zs) with hp | hp
  · have HP := Lib.hid hp
    obtain ⟨n, A, c, rfl, hr, HL, _, hnc, HF, hcm⟩ := h.split2
    obtain ⟨W0, HE⟩ : ∃ W, W = w.alloc (.cells #[.slice A n c] 26) := ⟨_, rfl⟩
    have hb0 : Below w.heap.size w W0 := by rw [HE]; exact below_box _ _
    have H0 := Lib.hid ((h.below hb0).more hb0.size)
    have HEQ := Lib.hid HE
    clear h hr HE HF hn hw hp
    go_enter Try.func60, Try.ntmps60
    go_wp2_with fail
    rw [← HEQ.out]
    refine (l03Is_if _ zs _ false H0.out HN0.out HWW.out HP.out).mono ?_
    rintro e w1 ⟨rfl, hb1⟩
    go_wp2_with fail
    go_ret2
    exact AnsIC.empty (by rw [apoA, HP.out]; rfl) (by rw [goC, HP.out]; rfl) (hb0.trans (hb1.mono hb0.size))
  have HP := Lib.hid hp
  obtain ⟨n, A, c, rfl, hr, HL, _, hnc, HF, hcm⟩ := h.split2
  have hn0 : 0 < n := by have := brB_pos hp; rw [HL.out] at this; exact this
  have HN1 := Lib.hid hn
  rw [HL.out] at hn
  obtain ⟨a, rfl, hlt, hc0⟩ := hr.2 0 hn0
  obtain ⟨g, o, rfl⟩ := HF.out a rfl
  have hgw : g < w.heap.size := hlt
  obtain ⟨W0, HE⟩ : ∃ W, W = w.alloc (.cells #[.slice (some ⟨g, o, none⟩) n c] 26) := ⟨_, rfl⟩
  have hb0 : Below w.heap.size w W0 := by rw [HE]; exact below_box2 _ _
  have hq0 : BoxI W0 w.heap.size (.slice (some ⟨g, o, none⟩) n c) := by rw [HE]; exact BoxI.new _ _ _
  have hs0 : w.heap.size < W0.heap.size := hq0.2
  have HR := Lib.hid ((h.below hb0).more hb0.size)
  have B0 := Lib.hid hb0
  have HEQ := Lib.hid HE
  have q0 := hq0.1
  have Q0 := Lib.hid q0
  obtain ⟨N, hN⟩ : ∃ N : Nat, zs[0]?.getD 0 = (N : Int) := ⟨(zs[0]?.getD 0).toNat, by have := br_first hp; omega⟩
  have CZ : Hid (w.cell? ⟨g, o, none⟩ = some (.int .i64 (N : Int))) := Lib.hid (by
    have h2 : (⟨g, o, none⟩ : Addr).add 0 = ⟨g, o, none⟩ := by rw [add_lit]; rfl
    rw [h2] at hc0; rw [hc0, ← hN]; simp)
  have HLG : Hid ((gnB zs).length = n) := Lib.hid (by rw [gnB_len, HL.out])
  have HLD : Hid ((dvL 0 zs).length = n) := Lib.hid (by rw [dvL_len, HL.out])
  obtain ⟨m, rfl⟩ : ∃ m, n = m + 1 := ⟨n - 1, by omega⟩
  have hNb := br_first hp
  rw [hN] at hNb
  have HNN : Hid ((N : Int) = dvA zs 0) := Lib.hid (by rw [dvA_first hp, hN])
  have HLM : Hid (zs.length - 1 = m) := Lib.hid (by have := HL.out; omega)
  clear h hr hp hb0 hq0 HE hc0 hlt hw hN
  go_enter Try.func60, Try.ntmps60
  go_wp2_with fail
  rw [← HEQ.out]
  refine (l03Is_if _ zs _ true HR.out HN1.out HWW.out HP.out).mono ?_
  rintro e W1 ⟨rfl, hb1⟩
  have hs1 := hb1.size
  have q1 := (hb1.cell (p := ⟨w.heap.size, 0, none⟩) hs0).trans Q0.out
  have cz := ((hb1.cell (p := ⟨g, o, none⟩) (by show g < _; omega)).trans (B0.out.cell (p := ⟨g, o, none⟩) hgw)).trans CZ.out
  have HR1 := Lib.hid ((HR.out.below hb1).more hs1)
  have B1 := Lib.hid (B0.out.trans (hb1.mono (by omega)))
  have hw1 : w.heap.size < W1.heap.size := by omega
  have hgW1 : g < W1.heap.size := by omega
  clear hb1 q0
  go_upto_region 3 with fail
  go_cut [4, 5, 6] (fun s4 s5 s6 wx => Hid (TwoCut W1 (dvL 0 zs) (gnB zs) (m + 1) wx s4 s5 ∧ s6 = .int .i64 (N : Int)))
  case first =>
    refine wp_region_held_drew (S := fun w' => w'.cell? ⟨w.heap.size, 0, none⟩ = some (.slice (some ⟨g, o, none⟩) (m + 1) c) ∧ w'.cell? ⟨g, o, none⟩ = some (.int .i64 (N : Int))) (by kernel_rfl) ⟨q1, cz⟩ (fun hHeld => ?_)
    refine takeY 0 _ (v := ?_) rfl rfl (by kernel_rfl) (by kernel_rfl) (by kernel_rfl) (fun _ _ _ h => h) (by kernel_rfl) ?_ (by assumption) ?_
    rotate_left 1
    · intro w hSw; (try dsimp only at hSw); go_simp; (try with_reducible rfl)
    try simp only [Act.put, List.setIfInBounds_toArray, List.set_cons_zero, List.set_cons_succ]
    refine takeY 2 _ (v := ?_) rfl rfl (by kernel_rfl) (by kernel_rfl) (by kernel_rfl) (fun _ _ _ h => h) (by kernel_rfl) ?_ (by assumption) ?_
    rotate_left 1
    · intro w hSw; (try dsimp only at hSw); go_simp; (try with_reducible rfl)
    try simp only [Act.put, List.setIfInBounds_toArray, List.set_cons_zero, List.set_cons_succ]
    refine takeY 4 _ (v := ?_) rfl rfl (by kernel_rfl) (by kernel_rfl) (by kernel_rfl) (fun _ _ _ h => h) (by kernel_rfl) ?_ (by assumption) ?_
    rotate_left 1
    · intro w hSw; (try dsimp only at hSw); go_simp; (try with_reducible rfl)
    try simp only [Act.put, List.setIfInBounds_toArray, List.set_cons_zero, List.set_cons_succ]
    refine takeY 5 _ (v := ?_) rfl rfl (by kernel_rfl) (by kernel_rfl) (by kernel_rfl) (fun _ _ _ h => h) (by kernel_rfl) ?_ (by assumption) ?_
    rotate_left 1
    · intro w hSw; (try dsimp only at hSw); go_simp; (try with_reducible rfl)
    try simp only [Act.put, List.setIfInBounds_toArray, List.set_cons_zero, List.set_cons_succ]
    refine takeY 6 _ (v := ?_) rfl rfl (by kernel_rfl) (by kernel_rfl) (by kernel_rfl) (fun _ _ _ h => h) (by kernel_rfl) ?_ (by assumption) ?_
    rotate_left 1
    · intro w hSw; (try dsimp only at hSw); go_simp; (try with_reducible rfl)
    try simp only [Act.put, List.setIfInBounds_toArray, List.set_cons_zero, List.set_cons_succ]
    refine takeY 7 _ (v := ?_) rfl rfl (by kernel_rfl) (by kernel_rfl) (by kernel_rfl) (fun _ _ _ h => h) (by kernel_rfl) ?_ (by assumption) ?_
    rotate_left 1
    · intro w hSw; (try dsimp only at hSw); go_simp; (try with_reducible rfl)
    try simp only [Act.put, List.setIfInBounds_toArray, List.set_cons_zero, List.set_cons_succ]
    refine wpAnyH_ready (rs := [1]) (by kernel_rfl) (by simp) ?_
    refine AllReadyH.cons rfl (fun K hK => ?_) AllReadyH.nil
    go_simp
    refine (l03Divisors_any _ zs W1.drew HR1.out HN1.out HP.out).mono ?_
    rintro e W2 ⟨v1, rfl, ho1, hb2⟩
    replace hb2 : Below W1.heap.size W1 W2 := ⟨hb2.os, hb2.tape, hb2.output, hb2.size, hb2.block⟩
    obtain ⟨A1, c1, rfl⟩ := ho1.form HLD.out
    obtain ⟨d, e1, hd1, hd2, _, _⟩ := own_at ho1 HLD.out hn0
    cases e1
    have hs2 := hb2.size
    change W1.heap.size ≤ d at hd1
    have q2 := (hb2.cell (p := ⟨w.heap.size, 0, none⟩) hw1).trans q1
    have cz2 := (hb2.cell (p := ⟨g, o, none⟩) hgW1).trans cz
    refine hK.out _ (W2) ⟨q2, cz2⟩ (fun hHeld => ?_)
    clear hK K
    try simp only [Act.put, List.setIfInBounds_toArray, List.set_cons_zero, List.set_cons_succ]
    refine wpAnyH_ready (rs := [3]) (by kernel_rfl) (by simp) ?_
    refine AllReadyH.cons rfl (fun K hK => ?_) AllReadyH.nil
    go_simp
    refine (l05Generators_any _ zs W2 ((HR1.out.below hb2).more hs2) HN1.out HP.out).mono ?_
    rintro e W3 ⟨v2, rfl, ho2, hb3⟩
    obtain ⟨A2, c2, rfl⟩ := ho2.form HLG.out
    obtain ⟨gg, e2, hd3, hd4, _, _⟩ := own_at ho2 HLG.out hn0
    cases e2
    have q3 := (hb3.cell (p := ⟨w.heap.size, 0, none⟩) (by show w.heap.size < _; omega)).trans q2
    have cz3 := (hb3.cell (p := ⟨g, o, none⟩) (by show g < _; omega)).trans cz2
    refine hK.out _ (W3) ⟨q3, cz3⟩ (fun hHeld => ?_)
    clear hK K
    try simp only [Act.put, List.setIfInBounds_toArray, List.set_cons_zero, List.set_cons_succ]
    refine takeY 8 _ (v := ?_) rfl rfl (by kernel_rfl) (by kernel_rfl) (by kernel_rfl) (fun _ _ _ h => h) (by kernel_rfl) ?_ (by assumption) ?_
    rotate_left 1
    · intro w hSw; (try dsimp only at hSw); go_simp; (try with_reducible rfl)
    try simp only [Act.put, List.setIfInBounds_toArray, List.set_cons_zero, List.set_cons_succ]
    refine takeY 9 _ (v := ?_) rfl rfl (by kernel_rfl) (by kernel_rfl) (by kernel_rfl) (fun _ _ _ h => h) (by kernel_rfl) ?_ (by assumption) ?_
    rotate_left 1
    · intro w hSw; (try dsimp only at hSw); go_simp; (try with_reducible rfl)
    try simp only [Act.put, List.setIfInBounds_toArray, List.set_cons_zero, List.set_cons_succ]
    refine takeY 10 _ (v := ?_) rfl rfl (by kernel_rfl) (by kernel_rfl) (by kernel_rfl) (fun _ _ _ h => h) (by kernel_rfl) ?_ (by assumption) ?_
    rotate_left 1
    · intro w hSw; (try dsimp only at hSw); go_simp; (try with_reducible rfl)
    try simp only [Act.put, List.setIfInBounds_toArray, List.set_cons_zero, List.set_cons_succ]
    refine wpAnyH_done (by kernel_rfl) ?_ _
    go_wp2_with fail
    go_meet
    exact Lib.hid ⟨two_cut (n := m + 1) (own_tight ho1 hd2) (own_tight ho2 hd4) (by omega) (hb2.trans (hb3.mono hs2)) hb3 hd2, rfl⟩
  case rest =>
    obtain ⟨⟨d, gg, c1, c2, rfl, rfl, hod, hog, hdg, hbw⟩, rfl⟩ := hcut.out
    have hdw : d < wc.heap.size := hod.2.2
    have hggw : gg < wc.heap.size := hog.2.2
    have hsw := hbw.size
    have hmk := fun (W : World) => run_make_row' (P := Try.prog) 24 2 (.int .i64 0) 8 Try.underlying24 int_info rfl .i64 .i64 N (by omega) (by omega) W
    have hbC : Below wc.heap.size wc (wc.alloc (.cells (madeCells #[.int .i64 0] N) 2)) := below_box2 _ _
    have ROW0 : Hid ((wc.alloc (.cells (madeCells #[.int .i64 0] N) 2)).rowIs wc.heap.size 2 N (fun y => .int .i64 (outF zs 0 y))) := Lib.hid ((World.rowIs_made wc _ N _).congr (fun i hi => rfl))
    have hsC : (wc.alloc (.cells (madeCells #[.int .i64 0] N) 2)).heap.size = wc.heap.size + 1 := by simp
    clear q1 cz
    go_wp2_with fail
    clear hmk
    generalize wc.alloc (.cells (madeCells #[.int .i64 0] N) 2) = WC at *
    have OD := Lib.hid (hod.kept (Kept.of_below hbC (by omega)))
    have OG := Lib.hid (hog.kept (Kept.of_below hbC (by omega)))
    have BC := Lib.hid (B1.out.trans ((hbw.trans (hbC.mono hsw)).mono (by omega)))
    have HB0 : Hid (Below wc.heap.size WC WC) := Lib.hid (Below.refl _ _)
    have hsw2 : w.heap.size < wc.heap.size := by omega
    clear hod hog hbw hbC hcut
    have hNz : ((N : Int) == 0) = false := by simp; omega
    have hNz2 : ¬ (N : Int) = 0 := by omega
    go_loopw [8] (fun vk wr => ∃ k : Nat, k ≤ N ∧ vk = .int .i64 k ∧ Hid (wr.rowIs wc.heap.size 2 N (fun y => .int .i64 (outF zs k y))) ∧ Hid (Below wc.heap.size WC wr)) (fun vk _ => N - (intOf vk).toNat)
    case atStart => exact ⟨0, Nat.zero_le _, rfl, ROW0, HB0⟩
    case round =>
      clear ROW0 HB0
      obtain ⟨k, hk, rfl, hrow, hb⟩ := hrel
      by_cases hkN : k < N
      · have hki : (k : Int) < (N : Int) := by omega
        have HROW := hrow
        have HB := hb
        have HRG := Lib.hid (fun (i : Nat) (hi : i < zs.length) => dS_range HP.out (v := (k : Int)) (by omega) hi)
        have HRS := Lib.hid (fun (i : Nat) (hi : i < zs.length) => dS_rest HP.out (v := (k : Int)) (by omega) hi)
        have HDG := Lib.hid (fun (i : Nat) (hi : i + 1 < zs.length) => dS_digit HP.out (v := (k : Int)) (by omega) hi)
        clear hrow hb
        go_wp2_with fail
        go_loopw [9, 10, 11] (fun vs vr vi wj => ∃ (i : Nat), i ≤ m ∧ vs = .int .i64 (dS zs (k : Int) i).1 ∧ vr = .int .i64 (dS zs (k : Int) i).2 ∧ vi = .int .i64 ((i : Int) + 1) ∧ Hid (wj.rowIs wc.heap.size 2 N (fun y => .int .i64 (outF zs k y))) ∧ Hid (Below wc.heap.size WC wj)) (fun _ _ vi _ => m + 1 - (intOf vi).toNat)
        case atStart => exact ⟨0, Nat.zero_le _, rfl, rfl, rfl, HROW, HB⟩
        case round =>
          clear HROW HB
          obtain ⟨i, hi, rfl, rfl, rfl, hrow, hb⟩ := hrel
          have hszw := hb.out.size
          by_cases him : i < m
          · have himi : (i : Int) + 1 < (m : Int) + 1 := by omega
            obtain ⟨d', e3, _, _, hd1, _⟩ := own_at OD.out HLD.out (show i < m + 1 by omega)
            cases e3
            obtain ⟨d', e3, _, _, hd0, _⟩ := own_at OD.out HLD.out (show i + 1 < m + 1 by omega)
            cases e3
            obtain ⟨gg', e3, _, _, hx, _⟩ := own_at OG.out HLG.out (show i + 1 < m + 1 by omega)
            cases e3
            have ce1 := (hb.out.cell (p := ⟨d, i, none⟩) hdw).trans hd1
            have ce2 := (hb.out.cell (p := ⟨d, i + 1, none⟩) hdw).trans hd0
            have cx := (hb.out.cell (p := ⟨gg, i + 1, none⟩) hggw).trans hx
            have hi1 : i + 1 < zs.length := by rw [HL.out]; omega
            have h1 := HRG.out i (by omega)
            have h2 := HRS.out i (by omega)
            have h3 := HDG.out i hi1
            have h4 := nnA_pos HP.out hi1
            have h5 := gnA_pos HP.out hi1
            have h6 := dvA_pos HP.out hi1
            have h7 := dvA_pos HP.out (i := i) (by omega)
            have h8 := HRG.out (i + 1) hi1
            have h9 := HRS.out (i + 1) hi1
            have HST := Lib.hid (dS_step zs (k : Int) i)
            rw [HST.out] at h8 h9
            have HNA : Hid (nnA zs i = (dvA zs i).tdiv (dvA zs (i + 1))) := Lib.hid rfl
            change wr.cell? ⟨d, i, none⟩ = some (.int .i64 (dvA zs i)) at ce1
            change wr.cell? ⟨d, i + 1, none⟩ = some (.int .i64 (dvA zs (i + 1))) at ce2
            change wr.cell? ⟨gg, i + 1, none⟩ = some (.int .i64 (gnA zs (i + 1))) at cx
            generalize (dS zs (k : Int) i).1 = S at *
            generalize (dS zs (k : Int) i).2 = R at *
            generalize nnA zs i = bb at *
            generalize dvA zs i = e1 at *
            generalize dvA zs (i + 1) = e2 at *
            generalize gnA zs (i + 1) = x at *
            dsimp only at h8 h9
            have hez : (e2 == 0) = false := by simp; omega
            have hez2 : ¬ e2 = 0 := by omega
            have hbz : (bb == 0) = false := by simp; omega
            have hbz2 : ¬ bb = 0 := by omega
            have hmul : 0 ≤ R.tmod bb * x ∧ R.tmod bb * x ≤ 8192000 := by
              have := mul_range (A := 64) (B := 128000) (a := R.tmod bb) (b := x) (by omega) (by omega)
              omega
            have hbb : e1.tdiv e2 = bb := HNA.out.symm
            have g1 : (i : Int) + 1 - 1 = (i : Int) := by omega
            have g6 : (0 : Int) ≤ (i : Int) := by omega
            have g7 : (0 : Int) ≤ (i : Int) + 1 := by omega
            have g8 : ((i : Int) + 1).toNat = i + 1 := by omega
            have g9 : (i : Int) < (m : Int) + 1 := by omega
            have g10 : i < m + 1 := by omega
            have g11 : i + 1 < m + 1 := by omega
            have p0 : IntKind.i64.wrap (i : Int) = (i : Int) := IntWalk.i64_in _ (by omega)
            have p1 : IntKind.i64.wrap ((i : Int) + 1 - 1) = (i : Int) := by rw [IntWalk.i64_in _ (by omega)]; omega
            have p2 : IntKind.i64.wrap bb = bb := IntWalk.i64_in _ (by omega)
            have p3 : IntKind.i64.wrap (R.tmod bb) = R.tmod bb := IntWalk.i64_in _ (by omega)
            have p4 : IntKind.i64.wrap (R.tmod bb * x) = R.tmod bb * x := IntWalk.i64_in _ (by omega)
            have p5 : IntKind.i64.wrap (S + R.tmod bb * x) = S + R.tmod bb * x := IntWalk.i64_in _ (by omega)
            have p6 : IntKind.i64.wrap (R.tdiv bb) = R.tdiv bb := IntWalk.i64_in _ (by omega)
            clear hd1 hd0 hx
            go_wp2_with fail
            refine wp_region_held_drew (S := fun w' => w'.cell? ⟨d, i, none⟩ = some (.int .i64 e1) ∧ w'.cell? ⟨d, i + 1, none⟩ = some (.int .i64 e2)) (by kernel_rfl) ⟨ce1, ce2⟩ (fun hHeld => ?_)
            refine takeY 0 _ (v := ?_) rfl rfl (by kernel_rfl) (by kernel_rfl) (by kernel_rfl) (fun _ _ _ h => h) (by kernel_rfl) ?_ (by assumption) ?_
            rotate_left 1
            · intro w hSw; (try dsimp only at hSw); go_simp; (try with_reducible rfl)
            try simp only [Act.put, List.setIfInBounds_toArray, List.set_cons_zero, List.set_cons_succ]
            refine takeY 1 _ (v := ?_) rfl rfl (by kernel_rfl) (by kernel_rfl) (by kernel_rfl) (fun _ _ _ h => h) (by kernel_rfl) ?_ (by assumption) ?_
            rotate_left 1
            · intro w hSw; (try dsimp only at hSw); go_simp; (try with_reducible rfl)
            try simp only [Act.put, List.setIfInBounds_toArray, List.set_cons_zero, List.set_cons_succ]
            refine takeY 2 _ (v := ?_) rfl rfl (by kernel_rfl) (by kernel_rfl) (by kernel_rfl) (fun _ _ _ h => h) (by kernel_rfl) ?_ (by assumption) ?_
            rotate_left 1
            · intro w hSw; (try dsimp only at hSw); go_simp; (try with_reducible rfl)
            try simp only [Act.put, List.setIfInBounds_toArray, List.set_cons_zero, List.set_cons_succ]
            refine takeY 3 _ (v := ?_) rfl rfl (by kernel_rfl) (by kernel_rfl) (by kernel_rfl) (fun _ _ _ h => h) (by kernel_rfl) ?_ (by assumption) ?_
            rotate_left 1
            · intro w hSw; (try dsimp only at hSw); go_simp; (try with_reducible rfl)
            try simp only [Act.put, List.setIfInBounds_toArray, List.set_cons_zero, List.set_cons_succ]
            refine takeY 4 _ (v := ?_) rfl rfl (by kernel_rfl) (by kernel_rfl) (by kernel_rfl) (fun _ _ _ h => h) (by kernel_rfl) ?_ (by assumption) ?_
            rotate_left 1
            · intro w hSw; (try dsimp only at hSw); go_simp; (try with_reducible rfl)
            try simp only [Act.put, List.setIfInBounds_toArray, List.set_cons_zero, List.set_cons_succ]
            refine takeY 5 _ (v := ?_) rfl rfl (by kernel_rfl) (by kernel_rfl) (by kernel_rfl) (fun _ _ _ h => h) (by kernel_rfl) ?_ (by assumption) ?_
            rotate_left 1
            · intro w hSw; (try dsimp only at hSw); go_simp; (try with_reducible rfl)
            try simp only [Act.put, List.setIfInBounds_toArray, List.set_cons_zero, List.set_cons_succ]
            refine takeY 6 _ (v := ?_) rfl rfl (by kernel_rfl) (by kernel_rfl) (by kernel_rfl) (fun _ _ _ h => h) (by kernel_rfl) ?_ (by assumption) ?_
            rotate_left 1
            · intro w hSw; (try dsimp only at hSw); go_simp; (try with_reducible rfl)
            try simp only [Act.put, List.setIfInBounds_toArray, List.set_cons_zero, List.set_cons_succ]
            refine takeY 7 _ (v := ?_) rfl rfl (by kernel_rfl) (by kernel_rfl) (by kernel_rfl) (fun _ _ _ h => h) (by kernel_rfl) ?_ (by assumption) ?_
            rotate_left 1
            · intro w hSw; (try dsimp only at hSw); go_simp; (try with_reducible rfl)
            try simp only [Act.put, List.setIfInBounds_toArray, List.set_cons_zero, List.set_cons_succ]
            refine takeY 8 _ (v := ?_) rfl rfl (by kernel_rfl) (by kernel_rfl) (by kernel_rfl) (fun _ _ _ h => h) (by kernel_rfl) ?_ (by assumption) ?_
            rotate_left 1
            · intro w hSw; (try dsimp only at hSw); go_simp; (try with_reducible rfl)
            try simp only [Act.put, List.setIfInBounds_toArray, List.set_cons_zero, List.set_cons_succ]
            refine takeY 9 _ (v := ?_) rfl rfl (by kernel_rfl) (by kernel_rfl) (by kernel_rfl) (fun _ _ _ h => h) (by kernel_rfl) ?_ (by assumption) ?_
            rotate_left 1
            · intro w hSw; (try dsimp only at hSw); go_simp; (try with_reducible rfl)
            try simp only [Act.put, List.setIfInBounds_toArray, List.set_cons_zero, List.set_cons_succ]
            refine takeY 10 _ (v := ?_) rfl rfl (by kernel_rfl) (by kernel_rfl) (by kernel_rfl) (fun _ _ _ h => h) (by kernel_rfl) ?_ (by assumption) ?_
            rotate_left 1
            · intro w hSw; (try dsimp only at hSw); go_simp; (try with_reducible rfl)
            try simp only [Act.put, List.setIfInBounds_toArray, List.set_cons_zero, List.set_cons_succ]
            refine wpAnyH_done (by kernel_rfl) ?_ _
            go_wp2_with fail
            refine wp_region_held_drew (S := fun w' => w'.cell? ⟨gg, i + 1, none⟩ = some (.int .i64 x)) (by kernel_rfl) (cx) (fun hHeld => ?_)
            refine takeY 0 _ (v := ?_) rfl rfl (by kernel_rfl) (by kernel_rfl) (by kernel_rfl) (fun _ _ _ h => h) (by kernel_rfl) ?_ (by assumption) ?_
            rotate_left 1
            · intro w hSw; (try dsimp only at hSw); go_simp; (try with_reducible rfl)
            try simp only [Act.put, List.setIfInBounds_toArray, List.set_cons_zero, List.set_cons_succ]
            refine takeY 1 _ (v := ?_) rfl rfl (by kernel_rfl) (by kernel_rfl) (by kernel_rfl) (fun _ _ _ h => h) (by kernel_rfl) ?_ (by assumption) ?_
            rotate_left 1
            · intro w hSw; (try dsimp only at hSw); go_simp; (try with_reducible rfl)
            try simp only [Act.put, List.setIfInBounds_toArray, List.set_cons_zero, List.set_cons_succ]
            refine takeY 2 _ (v := ?_) rfl rfl (by kernel_rfl) (by kernel_rfl) (by kernel_rfl) (fun _ _ _ h => h) (by kernel_rfl) ?_ (by assumption) ?_
            rotate_left 1
            · intro w hSw; (try dsimp only at hSw); go_simp; (try with_reducible rfl)
            try simp only [Act.put, List.setIfInBounds_toArray, List.set_cons_zero, List.set_cons_succ]
            refine takeY 3 _ (v := ?_) rfl rfl (by kernel_rfl) (by kernel_rfl) (by kernel_rfl) (fun _ _ _ h => h) (by kernel_rfl) ?_ (by assumption) ?_
            rotate_left 1
            · intro w hSw; (try dsimp only at hSw); go_simp; (try with_reducible rfl)
            try simp only [Act.put, List.setIfInBounds_toArray, List.set_cons_zero, List.set_cons_succ]
            refine takeY 4 _ (v := ?_) rfl rfl (by kernel_rfl) (by kernel_rfl) (by kernel_rfl) (fun _ _ _ h => h) (by kernel_rfl) ?_ (by assumption) ?_
            rotate_left 1
            · intro w hSw; (try dsimp only at hSw); go_simp; (try with_reducible rfl)
            try simp only [Act.put, List.setIfInBounds_toArray, List.set_cons_zero, List.set_cons_succ]
            refine takeY 5 _ (v := ?_) rfl rfl (by kernel_rfl) (by kernel_rfl) (by kernel_rfl) (fun _ _ _ h => h) (by kernel_rfl) ?_ (by assumption) ?_
            rotate_left 1
            · intro w hSw; (try dsimp only at hSw); go_simp; (try with_reducible rfl)
            try simp only [Act.put, List.setIfInBounds_toArray, List.set_cons_zero, List.set_cons_succ]
            refine takeY 6 _ (v := ?_) rfl rfl (by kernel_rfl) (by kernel_rfl) (by kernel_rfl) (fun _ _ _ h => h) (by kernel_rfl) ?_ (by assumption) ?_
            rotate_left 1
            · intro w hSw; (try dsimp only at hSw); go_simp; (try with_reducible rfl)
            try simp only [Act.put, List.setIfInBounds_toArray, List.set_cons_zero, List.set_cons_succ]
            refine takeY 7 _ (v := ?_) rfl rfl (by kernel_rfl) (by kernel_rfl) (by kernel_rfl) (fun _ _ _ h => h) (by kernel_rfl) ?_ (by assumption) ?_
            rotate_left 1
            · intro w hSw; (try dsimp only at hSw); go_simp; (try with_reducible rfl)
            try simp only [Act.put, List.setIfInBounds_toArray, List.set_cons_zero, List.set_cons_succ]
            refine takeY 8 _ (v := ?_) rfl rfl (by kernel_rfl) (by kernel_rfl) (by kernel_rfl) (fun _ _ _ h => h) (by kernel_rfl) ?_ (by assumption) ?_
            rotate_left 1
            · intro w hSw; (try dsimp only at hSw); go_simp; (try with_reducible rfl)
            try simp only [Act.put, List.setIfInBounds_toArray, List.set_cons_zero, List.set_cons_succ]
            refine takeY 9 _ (v := ?_) rfl rfl (by kernel_rfl) (by kernel_rfl) (by kernel_rfl) (fun _ _ _ h => h) (by kernel_rfl) ?_ (by assumption) ?_
            rotate_left 1
            · intro w hSw; (try dsimp only at hSw); go_simp; (try with_reducible rfl)
            try simp only [Act.put, List.setIfInBounds_toArray, List.set_cons_zero, List.set_cons_succ]
            refine takeY 10 _ (v := ?_) rfl rfl (by kernel_rfl) (by kernel_rfl) (by kernel_rfl) (fun _ _ _ h => h) (by kernel_rfl) ?_ (by assumption) ?_
            rotate_left 1
            · intro w hSw; (try dsimp only at hSw); go_simp; (try with_reducible rfl)
            try simp only [Act.put, List.setIfInBounds_toArray, List.set_cons_zero, List.set_cons_succ]
            refine wpAnyH_done (by kernel_rfl) ?_ _
            go_wp2_with fail
            go_roundw
            case rel => exact ⟨i + 1, by omega, by rw [HST.out], by rw [HST.out], by go_num, Lib.hid (hrow.out.drew.drew), Lib.hid (Below.drew (Below.drew hb.out))⟩
            case measure => first | (simp [intOf]; done) | (simp [intOf]; omega)
          · obtain rfl : m = i := by omega
            have h1 := HRG.out m (by have := HL.out; omega)
            have HSM : Hid ((dS zs (k : Int) (zs.length - 1)).1 = (dS zs (k : Int) m).1) := Lib.hid (by rw [HLM.out])
            have himi : ¬ (m : Int) + 1 < (m : Int) + 1 := by omega
            generalize (dS zs (k : Int) m).1 = S at *
            generalize (dS zs (k : Int) m).2 = R at *
            obtain ⟨q, hqN, hqt, hqe, hqn⟩ := mod_nat (x := S) (N := N) h1.1 (by omega)
            have p2 : IntKind.i64.wrap (q : Int) = (q : Int) := IntWalk.i64_in _ (by omega)
            have hqi : (q : Int) < (N : Int) := by omega
            have hdst := hrow.out.cell hqN
            have hfz := hrow.out.frozen q
            have HR2 := Lib.hid ((hrow.out.set q (.int .i64 S)).congr (g := fun y => .int .i64 (outF zs (k + 1) y)) (fun y hy => by
              show _ = Value.int .i64 (if y = ((dS zs (k : Int) (zs.length - 1)).1 % dvA zs 0).toNat then (dS zs (k : Int) (zs.length - 1)).1 else outF zs k y)
              rw [HSM.out, ← HNN.out, hqn]
              by_cases h9 : y = q
              · rw [if_pos h9, if_pos h9]
              · rw [if_neg h9, if_neg h9]))
            have HB2 := Lib.hid (hb.out.setCell (p := ⟨wc.heap.size, q, none⟩) (Nat.le_refl _) (.int .i64 S))
            clear hqn hqe
            go_wp2_with fail
            go_roundw
            case rel => exact ⟨k + 1, by omega, by go_num, HR2, HB2⟩
            case measure => first | (simp [intOf]; done) | (simp [intOf]; omega)
      · obtain rfl : k = N := by omega
        have hro := row_ownB (zs := apL zs) (hrow.out.congr (fun y hy => by
          rw [if_pos hy, List.getD, apL_at (by rw [← HNN.out]; omega), outF_end HP.out HNN.out hy])) (by rw [apL_len, ← HNN.out]; simp) (show w.heap.size ≤ wc.heap.size by omega) (by omega)
        have HRO := Lib.hid hro
        clear hro
        go_wp2_with fail
        go_ret2
        exact AnsIC.mk' (by rw [apoA, HP.out]; rfl) (by rw [goC, HP.out]; rfl) HRO.out (BC.out.trans (hb.out.mono (by omega)))
theorem apery_v (v : Value) (zs : List Int) (w : World) (h : ReadI w w.heap.size v zs) (hn : zs.length ≤ 1048576) (hp : brB zs = true) :
    Calls Try.prog 113 #[.agg #[v]] w fun e w' => ∃ v', e = .returned v' ∧ OwnI w' w.heap.size w'.heap.size v' (apL zs) ∧ Below w.heap.size w w' :=
  (apery_any v zs (dvA zs 0).toNat w h hn hp (by have := dvA_pos hp (i := 0) (brB_pos hp); omega)).mono (by
    rintro e w' ⟨gl, h1, h2, h3⟩
    exact ⟨_, h1, h2, h3⟩)
set_option maxHeartbeats 1000000 in
theorem implAperyOf_any (v : Value) (zs : List Int) (w : World) (h : ReadI w w.heap.size v zs) (hn : zs.length ≤ 1048576) (hw : ∀ z ∈ zs, (Lit.int .i64 z).wf = true) :
    Calls Try.prog 59 #[.agg #[v]] w (AnsIC w (apoA zs) (goC zs)) := by
  obtain ⟨n, A, c, rfl, hr, HL, _, hnc, HF, hcm⟩ := h.split2
  obtain ⟨W0, HE⟩ : ∃ W, W = w.alloc (.cells #[.slice A n c] 26) := ⟨_, rfl⟩
  have hb0 : Below w.heap.size w W0 := by rw [HE]; exact below_box _ _
  have hq0 : BoxI W0 w.heap.size (.slice A n c) := by rw [HE]; exact BoxI.new _ _ _
  have H0 := Lib.hid ((h.below hb0).more hb0.size)
  have HNN := Lib.hid hn
  have HWW := Lib.hid hw
  have HEQ := Lib.hid HE
  clear h hr HE HF hn hw
  rcases bool_fs (brB zs) with hp | hp
  · have HP := Lib.hid hp
    clear hp
    go_enter Try.func59, Try.ntmps59
    go_wp2_with fail
    rw [← HEQ.out]
    refine (implIsBranch_if _ zs _ false H0.out HNN.out HWW.out HP.out).mono ?_
    rintro e w1 ⟨rfl, hb1⟩
    go_wp2
    go_ret2
    exact AnsIC.empty (by rw [apoA, HP.out]; rfl) (by rw [goC, HP.out]; rfl) (hb0.trans (hb1.mono hb0.size))
  · have HP := Lib.hid hp
    clear hp
    go_enter Try.func59, Try.ntmps59
    go_wp2_with fail
    rw [← HEQ.out]
    refine (implIsBranch_if _ zs _ true H0.out HNN.out HWW.out HP.out).mono ?_
    rintro e w1 ⟨rfl, hb1⟩
    have cb1 : w1.cell? ⟨w.heap.size, 0, none⟩ = some (.slice A n c) := by rw [hb1.cell (p := ⟨w.heap.size, 0, none⟩) hq0.2]; exact hq0.1
    have H1 := Lib.hid ((H0.out.below hb1).more hb1.size)
    have B1 := Lib.hid (hb0.trans (hb1.mono hb0.size))
    clear hb1 hb0 HEQ
    go_wp2_with fail
    refine (apery_v _ zs w1 H1.out HNN.out HP.out).mono ?_
    rintro e w2 ⟨v1, rfl, ho1, hb2⟩
    obtain ⟨A1, c1, rfl⟩ := own_form ho1.1
    have HO1 := Lib.hid (own_lessB ho1 (lo' := w.heap.size) B1.out.size)
    have B2 := Lib.hid (B1.out.trans (hb2.mono B1.out.size))
    clear ho1 hb2
    go_wp2_with fail
    go_ret2
    exact AnsIC.mk' (by rw [apoA, HP.out]; rfl) (by rw [goC, HP.out]; rfl) HO1.out B2.out
end Go.Proofs.Ytjgidalmgoifgaa
/- Lists of values and of gaps: plain mathematics of chapter 5. Conditions: stated at each theorem. -/
namespace Go.Proofs.Ytjgidalmgoifgaa
set_option linter.unusedVariables false

/-- The numbers less than k that are values (or are none), in order. -/
def vlL (zs : List Int) (b : Bool) : Nat → List Int
  | 0 => []
  | k + 1 => if reB zs (k : Int) = b then vlL zs b k ++ [(k : Int)] else vlL zs b k
theorem vlL_len (zs : List Int) (b : Bool) : ∀ k, (vlL zs b k).length ≤ k
  | 0 => by simp [vlL]
  | k + 1 => by
    have := vlL_len zs b k
    unfold vlL
    split
    · simp; omega
    · omega
theorem vlL_yes {zs : List Int} {b : Bool} {k : Nat} (h : reB zs (k : Int) = b) : vlL zs b (k + 1) = vlL zs b k ++ [(k : Int)] := by rw [vlL, if_pos h]
theorem vlL_no {zs : List Int} {b : Bool} {k : Nat} (h : ¬ reB zs (k : Int) = b) : vlL zs b (k + 1) = vlL zs b k := by rw [vlL, if_neg h]
/-- What is taken away is bounded by the conductor. -/
theorem rp_cond {zs : List Int} (hp : brB zs = true) : ∀ {i : Nat} {v : Int}, i < zs.length → dvA zs i ∣ v → v - rpV zs i v ≤ cdS zs i + zs[0]?.getD 0 - 1
  | 0, v, _, _ => by show v - v ≤ 1 - zs[0]?.getD 0 + zs[0]?.getD 0 - 1; omega
  | i + 1, v, hi, hd => by
    have hl := rc_level hp hi hd
    have h1 := rp_cond hp (i := i) (v := v - (rcA zs i v : Int) * gnA zs (i + 1)) (by omega) hl.2.2
    have h2 := rcA_lt hp hi hd
    have h3 := gnA_pos hp hi
    have h4 : (rcA zs i v : Int) * gnA zs (i + 1) ≤ (nnA zs i - 1) * gnA zs (i + 1) := Int.mul_le_mul_of_nonneg_right (by omega) (by omega)
    rw [rpV_step]
    show v - rpV zs i _ ≤ cdS zs i + (nnA zs i - 1) * gnA zs (i + 1) + zs[0]?.getD 0 - 1
    omega
theorem apA_cond {zs : List Int} (hp : brB zs = true) (r : Int) : apA zs r ≤ cdB zs + dvA zs 0 - 1 := by
  have h0 := brB_pos hp
  have := rp_cond hp (i := zs.length - 1) (v := r) (by omega) (dv_last_dvd hp r)
  rw [dvA_first hp]
  exact this
/-- From the conductor on there are values only. -/
theorem reB_cond {zs : List Int} (hp : brB zs = true) {v : Int} (h : cdB zs ≤ v) : reB zs v = true := by
  rw [reB_ap hp]
  have h1 := apA_cond hp v
  obtain ⟨k, hk⟩ := apA_dvd hp v
  have hd := dvA_pos hp (i := 0) (brB_pos hp)
  by_cases h2 : apA zs v ≤ v
  · exact h2
  · have h3 : dvA zs 0 * (-k) < dvA zs 0 * 1 := by rw [Int.mul_neg]; omega
    have h4 : -k < 1 := Int.lt_of_mul_lt_mul_left h3 (by omega)
    have h5 : dvA zs 0 * 0 ≤ dvA zs 0 * k := Int.mul_le_mul_of_nonneg_left (by omega) (by omega)
    omega
theorem cdB_nonneg {zs : List Int} (hp : brB zs = true) : 0 ≤ cdB zs := by
  have hd := dvA_pos hp (i := 0) (brB_pos hp)
  have h1 := apA_cond hp (dvA zs 0 - 1)
  have h2 := (apA_range hp (dvA zs 0 - 1)).1
  have h3 := apA_rem hp (r := dvA zs 0 - 1) (by omega)
  have h4 := Int.emod_add_mul_ediv (apA zs (dvA zs 0 - 1)) (dvA zs 0)
  have h5 : 0 ≤ dvA zs 0 * (apA zs (dvA zs 0 - 1) / dvA zs 0) := Int.mul_nonneg (by omega) (Int.ediv_nonneg h2 (by omega))
  rw [h3] at h4
  omega
theorem vlL_cond {zs : List Int} (hp : brB zs = true) {c : Nat} (h : (c : Int) = cdB zs) : vlL zs false (c + 1) = vlL zs false c := by
  refine vlL_no ?_
  rw [reB_cond hp (by omega)]; decide
/-- The number at v of the polynomial. -/
def spB (zs : List Int) : Nat → Int
  | 0 => if reB zs 0 then 1 else 0
  | k + 1 => (if reB zs ((k + 1 : Nat) : Int) then 1 else 0) - (if reB zs (k : Int) then 1 else 0)
def spL (zs : List Int) (k : Nat) : List Int := (List.range k).map (spB zs)
theorem spL_len (zs : List Int) (k : Nat) : (spL zs k).length = k := by simp [spL]
theorem spL_succ (zs : List Int) (k : Nat) : spL zs (k + 1) = spL zs k ++ [spB zs k] := by simp [spL, List.range_succ]
theorem spL_at {zs : List Int} {k i : Nat} (h : i < k) : (spL zs k).getD i 0 = spB zs i := by simp [spL, List.getD, h]
end Go.Proofs.Ytjgidalmgoifgaa
/- The program's function that tells values, and lists of numbers that it chooses: contracts. Conditions: stated at each theorem. -/
namespace Go.Proofs.Ytjgidalmgoifgaa
open Go.ChangeShapes Go.WideShapes Go.ChangeAt Go.RowKit Go.Deep
set_option linter.unusedVariables false
set_option linter.unusedSimpArgs false

theorem cell_kept {lo hi : Nat} {w w' : World} (k : Kept lo hi w w') {p : Addr} (h1 : lo ≤ p.block) (h2 : p.block < hi) : w'.cell? p = w.cell? p := by
  unfold World.cell?; rw [k.block _ h1 h2]
/-- What the function that tells values holds on to. -/
def VT (w : World) (lo hi : Nat) (zs : List Int) (p3 p4 : Nat) : Prop :=
  ∃ gl N : Nat, (N : Int) = dvA zs 0 ∧ (lo ≤ gl ∧ gl < hi) ∧ (lo ≤ p3 ∧ p3 < hi) ∧ (lo ≤ p4 ∧ p4 < hi) ∧ OwnI w gl (gl + 1) (.slice (some ⟨gl, 0, none⟩) N N) (apL zs) ∧
    w.cell? ⟨p3, 0, none⟩ = some (.slice (some ⟨gl, 0, none⟩) N N) ∧ w.cell? ⟨p4, 0, none⟩ = some (.int .i64 (N : Int))
theorem VT.kept {w w' : World} {lo hi : Nat} {zs : List Int} {p3 p4 : Nat} (h : VT w lo hi zs p3 p4) (k : Kept lo hi w w') : VT w' lo hi zs p3 p4 := by
  obtain ⟨gl, N, h1, h2, h3, h4, h5, h6, h7⟩ := h
  exact ⟨gl, N, h1, h2, h3, h4, h5.kept ⟨k.size, fun b hb1 hb2 => k.block b (by omega) (by omega)⟩, (cell_kept k (p := ⟨p3, 0, none⟩) h3.1 h3.2).trans h6, (cell_kept k (p := ⟨p4, 0, none⟩) h4.1 h4.2).trans h7⟩
theorem VT.wide {w : World} {lo hi lo' hi' : Nat} {zs : List Int} {p3 p4 : Nat} (h : VT w lo hi zs p3 p4) (h1 : lo' ≤ lo) (h2 : hi ≤ hi') : VT w lo' hi' zs p3 p4 := by
  obtain ⟨gl, N, a, b, c, d, e⟩ := h
  exact ⟨gl, N, a, ⟨by omega, by omega⟩, ⟨by omega, by omega⟩, ⟨by omega, by omega⟩, e⟩
set_option maxRecDepth 100000 in
set_option maxHeartbeats 1000000 in
theorem test1_any (zs : List Int) (x : Int) (lo hi p3 p4 : Nat) (w : World) (hp : brB zs = true) (hv : VT w lo hi zs p3 p4) (hx : 0 ≤ x ∧ x ≤ 1000000) :
    Calls Try.prog 123 #[.int .i64 x, .pointer (some ⟨p3, 0, none⟩), .pointer (some ⟨p4, 0, none⟩)] w fun e w' => e = .returned (.bool (reB zs x)) ∧ ∃ n, w' = w.drewN n := by
  obtain ⟨gl, N, hN, _, _, _, ho, c3, c4⟩ := hv
  have hd := dvA_pos hp (i := 0) (brB_pos hp)
  obtain ⟨q, hqN, hqt, hqe, hqn⟩ := mod_nat (x := x) (N := N) hx.1 (by omega)
  obtain ⟨g', e1, _, _, ca, _⟩ := own_at ho (by rw [apL_len]; omega) hqN
  cases e1
  rw [apL_at (by omega)] at ca
  have hr := apA_range hp (q : Int)
  have HA : Hid (apA zs x = apA zs (q : Int)) := Lib.hid (by rw [← apA_mod hp x, ← hN, hqe])
  have HRE := Lib.hid (reB_ap hp x)
  have hNz : ((N : Int) == 0) = false := by simp; omega
  have hNz2 : ¬ (N : Int) = 0 := by omega
  have hNz3 : ¬ N = 0 := by omega
  have p2 : IntKind.i64.wrap (q : Int) = (q : Int) := IntWalk.i64_in _ (by omega)
  have hqi : (q : Int) < (N : Int) := by omega
  have HD : Hid (decide (x ≥ apA zs (q : Int)) = reB zs x) := Lib.hid (by
    by_cases h : reB zs x = true
    · have h2 := HRE.out.1 h
      rw [HA.out] at h2
      rw [h, decide_eq_true h2]
    · have h2 : ¬ apA zs x ≤ x := fun h3 => h (HRE.out.2 h3)
      rw [HA.out] at h2
      rw [decide_eq_false h2]
      cases h4 : reB zs x
      · rfl
      · exact absurd h4 h)
  have HD2 : Hid (decide (apA zs (q : Int) ≤ x) = reB zs x) := Lib.hid HD.out
  clear hN hqe hqn ho hd
  go_enter Try.func123, Try.ntmps123
  go_upto_region 1 with fail
  refine wp_region_held_drew (S := fun w' => w'.cell? ⟨p3, 0, none⟩ = some (.slice (some ⟨gl, 0, none⟩) N N) ∧ w'.cell? ⟨p4, 0, none⟩ = some (.int .i64 (N : Int)) ∧ w'.cell? ⟨gl, q, none⟩ = some (.int .i64 (apA zs (q : Int)))) (by kernel_rfl) ⟨c3, c4, ca⟩ (fun hHeld => ?_)
  refine takeY 0 _ (v := ?_) rfl rfl (by kernel_rfl) (by kernel_rfl) (by kernel_rfl) (fun _ _ _ h => h) (by kernel_rfl) ?_ (by assumption) ?_
  rotate_left 1
  · intro w hSw; (try dsimp only at hSw); go_simp; (try with_reducible rfl)
  try simp only [Act.put, List.setIfInBounds_toArray, List.set_cons_zero, List.set_cons_succ]
  refine takeY 1 _ (v := ?_) rfl rfl (by kernel_rfl) (by kernel_rfl) (by kernel_rfl) (fun _ _ _ h => h) (by kernel_rfl) ?_ (by assumption) ?_
  rotate_left 1
  · intro w hSw; (try dsimp only at hSw); go_simp; (try with_reducible rfl)
  try simp only [Act.put, List.setIfInBounds_toArray, List.set_cons_zero, List.set_cons_succ]
  refine takeY 2 _ (v := ?_) rfl rfl (by kernel_rfl) (by kernel_rfl) (by kernel_rfl) (fun _ _ _ h => h) (by kernel_rfl) ?_ (by assumption) ?_
  rotate_left 1
  · intro w hSw; (try dsimp only at hSw); go_simp; (try with_reducible rfl)
  try simp only [Act.put, List.setIfInBounds_toArray, List.set_cons_zero, List.set_cons_succ]
  refine takeY 3 _ (v := ?_) rfl rfl (by kernel_rfl) (by kernel_rfl) (by kernel_rfl) (fun _ _ _ h => h) (by kernel_rfl) ?_ (by assumption) ?_
  rotate_left 1
  · intro w hSw; (try dsimp only at hSw); go_simp; (try with_reducible rfl)
  try simp only [Act.put, List.setIfInBounds_toArray, List.set_cons_zero, List.set_cons_succ]
  refine takeY 4 _ (v := ?_) rfl rfl (by kernel_rfl) (by kernel_rfl) (by kernel_rfl) (fun _ _ _ h => h) (by kernel_rfl) ?_ (by assumption) ?_
  rotate_left 1
  · intro w hSw; (try dsimp only at hSw); go_simp; (try with_reducible rfl)
  try simp only [Act.put, List.setIfInBounds_toArray, List.set_cons_zero, List.set_cons_succ]
  refine takeY 5 _ (v := ?_) rfl rfl (by kernel_rfl) (by kernel_rfl) (by kernel_rfl) (fun _ _ _ h => h) (by kernel_rfl) ?_ (by assumption) ?_
  rotate_left 1
  · intro w hSw; (try dsimp only at hSw); go_simp; (try with_reducible rfl)
  try simp only [Act.put, List.setIfInBounds_toArray, List.set_cons_zero, List.set_cons_succ]
  refine takeY 6 _ (v := ?_) rfl rfl (by kernel_rfl) (by kernel_rfl) (by kernel_rfl) (fun _ _ _ h => h) (by kernel_rfl) ?_ (by assumption) ?_
  rotate_left 1
  · intro w hSw; (try dsimp only at hSw); go_simp; (try with_reducible rfl)
  try simp only [Act.put, List.setIfInBounds_toArray, List.set_cons_zero, List.set_cons_succ]
  refine takeY 7 _ (v := ?_) rfl rfl (by kernel_rfl) (by kernel_rfl) (by kernel_rfl) (fun _ _ _ h => h) (by kernel_rfl) ?_ (by assumption) ?_
  rotate_left 1
  · intro w hSw; (try dsimp only at hSw); go_simp; (try with_reducible rfl)
  try simp only [Act.put, List.setIfInBounds_toArray, List.set_cons_zero, List.set_cons_succ]
  refine takeY 8 _ (v := ?_) rfl rfl (by kernel_rfl) (by kernel_rfl) (by kernel_rfl) (fun _ _ _ h => h) (by kernel_rfl) ?_ (by assumption) ?_
  rotate_left 1
  · intro w hSw; (try dsimp only at hSw); go_simp; (try with_reducible rfl)
  try simp only [Act.put, List.setIfInBounds_toArray, List.set_cons_zero, List.set_cons_succ]
  refine wpAnyH_done (by kernel_rfl) ?_ _
  go_wp2_with fail
  go_ret
  exact ⟨by rw [HD2.out]; rfl, 1, rfl⟩

set_option maxRecDepth 100000 in
set_option maxHeartbeats 1000000 in
theorem valueTest_any (v : Value) (zs : List Int) (w : World) (h : ReadI w w.heap.size v zs) (hn : zs.length ≤ 1048576) (hp : brB zs = true) :
    Calls Try.prog 96 #[.agg #[v]] w fun e w' => ∃ p3 p4, e = .returned (.func (.func 123) #[] #[.pointer (some ⟨p3, 0, none⟩), .pointer (some ⟨p4, 0, none⟩)]) ∧ VT w' w.heap.size w'.heap.size zs p3 p4 ∧ Below w.heap.size w w' := by
  have hmf : ∀ (fn : Fn) (first cap : Array Value) (w : World), (Instr.makeFunc fn first cap).run Try.prog w = .ok (.func fn first cap) w := fun _ _ _ _ => rfl
  have HP := Lib.hid hp
  obtain ⟨n, A, c, rfl, hr, HL, _, hnc, HF, hcm⟩ := h.split2
  obtain ⟨W0, HE⟩ : ∃ W, W = w.alloc (.cells #[.slice A n c] 26) := ⟨_, rfl⟩
  have hb0 : Below w.heap.size w W0 := by rw [HE]; exact below_box _ _
  have H0 := Lib.hid ((h.below hb0).more hb0.size)
  have HNN := Lib.hid hn
  have hd := dvA_pos hp (i := 0) (brB_pos hp)
  have HEQ := Lib.hid HE
  obtain ⟨N, hN⟩ : ∃ N : Nat, (N : Int) = dvA zs 0 := ⟨(dvA zs 0).toNat, by omega⟩
  clear h hr HE HF hn hp
  go_enter Try.func96, Try.ntmps96
  go_wp2_with fail
  rw [← HEQ.out]
  refine (apery_any _ zs N W0 H0.out HNN.out HP.out hN).mono ?_
  rintro e W1 ⟨gl, rfl, ho, hb1⟩
  have hgl := (ho.1 : Own W1 W0.heap.size _ _ _).lt gl rfl
  have HT := Lib.hid (own_tight ho hgl.2)
  have HB := Lib.hid (hb0.trans (hb1.mono hb0.size))
  have HNI := Lib.hid hN
  have hs0 := hb0.size
  clear hb1 hb0 ho hN
  go_wp2_with fail
  go_ret
  have k1 : Below W1.heap.size W1 (W1.alloc (.cells #[.slice (some ⟨gl, 0, none⟩) N N] 24)) := below_box2 _ _
  have k2 := below_box2 (W1.alloc (.cells #[.slice (some ⟨gl, 0, none⟩) N N] 24)) (.cells #[.int .i64 (N : Int)] 2)
  have z1 : (W1.alloc (.cells #[.slice (some ⟨gl, 0, none⟩) N N] 24)).heap.size = W1.heap.size + 1 := by simp
  have z2 : ((W1.alloc (.cells #[.slice (some ⟨gl, 0, none⟩) N N] 24)).alloc (.cells #[.int .i64 (N : Int)] 2)).heap.size = W1.heap.size + 2 := by simp
  refine ⟨W1.heap.size, W1.heap.size + 1, rfl, ⟨gl, N, HNI.out, ⟨by omega, by omega⟩, ⟨by omega, by omega⟩, ⟨by omega, by omega⟩, HT.out.kept (Kept.of_below (k1.trans (k2.mono (by omega))) (by omega)), ?_, ?_⟩, HB.out.trans ((k1.trans (k2.mono (by omega))).mono (by omega))⟩
  · exact (k2.cell (p := ⟨W1.heap.size, 0, none⟩) (by show W1.heap.size < _; omega)).trans (BoxI.new W1 _ _).1
  · have := (BoxI.new (W1.alloc (.cells #[.slice (some ⟨gl, 0, none⟩) N N] 24)) (.int .i64 (N : Int)) 2).1
    rwa [z1] at this
/-- The function that tells gaps holds on to the function that tells values. -/
def GT (w : World) (lo hi : Nat) (zs : List Int) (p5 : Nat) : Prop :=
  (lo ≤ p5 ∧ p5 < hi) ∧ ∃ p3 p4, w.cell? ⟨p5, 0, none⟩ = some (.func (.func 123) #[] #[.pointer (some ⟨p3, 0, none⟩), .pointer (some ⟨p4, 0, none⟩)]) ∧ VT w lo hi zs p3 p4
theorem GT.kept {w w' : World} {lo hi : Nat} {zs : List Int} {p5 : Nat} (h : GT w lo hi zs p5) (k : Kept lo hi w w') : GT w' lo hi zs p5 := by
  obtain ⟨h1, p3, p4, h2, h3⟩ := h
  exact ⟨h1, p3, p4, (cell_kept k (p := ⟨p5, 0, none⟩) h1.1 h1.2).trans h2, h3.kept k⟩
theorem gap1_any (zs : List Int) (x : Int) (lo hi p5 : Nat) (w : World) (hp : brB zs = true) (hv : GT w lo hi zs p5) (hx : 0 ≤ x ∧ x ≤ 1000000) :
    Calls Try.prog 98 #[.int .i64 x, .pointer (some ⟨p5, 0, none⟩)] w fun e w' => e = .returned (.bool (!reB zs x)) ∧ ∃ n, w' = w.drewN n := by
  obtain ⟨_, p3, p4, hc, hvt⟩ := hv
  go_enter Try.func98, Try.ntmps98
  go_wp2_with fail
  refine (test1_any zs x lo hi p3 p4 w hp hvt hx).mono ?_
  rintro e w' ⟨rfl, nd, rfl⟩
  go_wp2_with fail
  go_ret
  exact ⟨rfl, nd, rfl⟩

set_option maxRecDepth 100000 in
set_option maxHeartbeats 2000000 in
theorem below_values (zs : List Int) (en lo hi : Nat) (p3 p4 : Nat) (w : World) (hp : brB zs = true) (hv : VT w lo hi zs p3 p4) (hhi : hi ≤ w.heap.size) (hen : en ≤ 1000000) :
    Calls Try.prog 97 #[.int .i64 (en : Int), .func (.func 123) #[] #[.pointer (some ⟨p3, 0, none⟩), .pointer (some ⟨p4, 0, none⟩)]] w fun e w' => ∃ v', e = .returned v' ∧ OwnI w' w.heap.size w'.heap.size v' (vlL zs true en) ∧ Below w.heap.size w w' := by
  have HP := Lib.hid hp
  have HV := Lib.hid hv
  clear hp hv
  obtain ⟨i0, hi0, hz0, hz1, hz2⟩ := info_parts int_info
  have HO : Hid (Own w w.heap.size (.slice none 0 0) 0 ((vlL zs true 0).map (.int .i64))) := Lib.hid (Own.nil _ _)
  have HB : Hid (Below w.heap.size w w) := Lib.hid (Below.refl _ _)
  go_enter Try.func97, Try.ntmps97
  go_wp2_with fail
  go_loopw [5, 8] (fun vo vk wr => ∃ (k j : Nat) (A : Option Addr) (c : Nat), k ≤ en ∧ vk = .int .i64 (k : Int) ∧ vo = .slice A j c ∧ Hid ((vlL zs true k).length = j) ∧ Hid (Own wr w.heap.size (.slice A j c) j ((vlL zs true k).map (.int .i64))) ∧ Hid (Below w.heap.size w wr)) (fun _ vk _ => en - (intOf vk).toNat)
  case atStart => exact ⟨0, 0, none, 0, Nat.zero_le _, rfl, rfl, Lib.hid rfl, HO, HB⟩
  case round =>
    clear HO HB
    obtain ⟨k, j, A, c, hk, rfl, rfl, hj, ho, hb⟩ := hrel
    have hsz := hb.out.size
    by_cases hlt : k < en
    · have hki : (k : Int) < (en : Int) := by omega
      have hjk := vlL_len zs true k
      rw [hj.out] at hjk
      have HV1 := Lib.hid (HV.out.kept (Kept.of_below hb.out hhi))
      go_wp2_with fail
      refine (test1_any zs (k : Int) lo hi p3 p4 wr HP.out HV1.out (by omega)).mono ?_
      rintro e w' ⟨rfl, nd, rfl⟩
      have HO2 : Hid (Own (wr.drewN nd) w.heap.size (.slice A j c) j ((vlL zs true k).map (.int .i64))) := Lib.hid (Own.drewN ho.out nd)
      have HB2 : Hid (Below w.heap.size w (wr.drewN nd)) := Lib.hid (below_drewN hb.out nd)
      have hsz2 : w.heap.size ≤ (wr.drewN nd).heap.size := hsz
      clear ho hb
      generalize wr.drewN nd = wr at *
      rcases bool_fs (reB zs (k : Int)) with hre | hre
      · have HVL := Lib.hid (vlL_no (b := true) (by rw [hre]; decide))
        have HJ2 : Hid ((vlL zs true (k + 1)).length = j) := Lib.hid (by rw [HVL.out, hj.out])
        rw [hre]
        clear hre
        go_wp2_with fail
        go_roundw
        case rel => exact ⟨k + 1, j, A, c, by omega, by go_num, rfl, HJ2, Lib.hid (by rw [HVL.out]; exact HO2.out), HB2⟩
        case measure => first | (simp [intOf]; done) | (simp [intOf]; omega)
      · have HVL := Lib.hid (vlL_yes hre)
        have HJ2 : Hid ((vlL zs true (k + 1)).length = j + 1) := Lib.hid (by rw [HVL.out, List.length_append, hj.out]; rfl)
        rw [hre]
        clear hre
        go_wp2_with (at_builtin; refine wpList_append_own _ rfl _ _ 24 rfl w.heap.size 2 i0 (.int .i64 0) 1 8 Try.underlying24 hi0 hz0 hz1 hz2 rfl ?_ _ j ((vlL zs true k).map (.int .i64)) rfl (World.ownsRow.alloc HO2.out _) ⟨wr.heap.size, 0, none⟩ 1 1 [.int .i64 (k : Int)] rfl rfl ?_ ?_ ?_ ?_ ?_ ?_; (decide); (exact World.news_of_block (cs := #[.int .i64 (k : Int)]) (t := 2) (fr := (0, 0)) (heap_alloc_new wr _)); (simp [Value.oneCell']); (simp [maxLen]; omega); (omega); (simp; omega); intro v1 w1 hown1 hgrow _; obtain ⟨A1, c1, rfl⟩ := own_form (n := j + 1) hown1; have HO1 : Hid (Own w1 w.heap.size (.slice A1 (j + 1) c1) (j + 1) ((vlL zs true (k + 1)).map (.int .i64))) := Lib.hid (by rw [HVL.out, List.map_append]; exact hown1); have hb1 : Hid (Below w.heap.size w w1) := Lib.hid ((HB2.out.alloc HB2.out.size _).grown hgrow (by simp; omega) (fun k hk => (Own.lt HO2.out k hk).1)); clear hown1 hgrow)
        go_roundw
        case rel => exact ⟨k + 1, j + 1, A1, c1, by omega, by go_num, rfl, HJ2, HO1, hb1⟩
        case measure => first | (simp [intOf]; done) | (simp [intOf]; omega)
    · obtain rfl : k = en := by omega
      go_wp2_with fail
      go_ret
      exact ⟨_, rfl, OwnI.mk' ho.out, hb.out⟩

set_option maxRecDepth 100000 in
set_option maxHeartbeats 2000000 in
theorem below_gaps (zs : List Int) (en lo hi : Nat) (p5 : Nat) (w : World) (hp : brB zs = true) (hv : GT w lo hi zs p5) (hhi : hi ≤ w.heap.size) (hen : en ≤ 1000000) :
    Calls Try.prog 97 #[.int .i64 (en : Int), .func (.func 98) #[] #[.pointer (some ⟨p5, 0, none⟩)]] w fun e w' => ∃ v', e = .returned v' ∧ OwnI w' w.heap.size w'.heap.size v' (vlL zs false en) ∧ Below w.heap.size w w' := by
  have HP := Lib.hid hp
  have HV := Lib.hid hv
  clear hp hv
  obtain ⟨i0, hi0, hz0, hz1, hz2⟩ := info_parts int_info
  have HO : Hid (Own w w.heap.size (.slice none 0 0) 0 ((vlL zs false 0).map (.int .i64))) := Lib.hid (Own.nil _ _)
  have HB : Hid (Below w.heap.size w w) := Lib.hid (Below.refl _ _)
  go_enter Try.func97, Try.ntmps97
  go_wp2_with fail
  go_loopw [5, 8] (fun vo vk wr => ∃ (k j : Nat) (A : Option Addr) (c : Nat), k ≤ en ∧ vk = .int .i64 (k : Int) ∧ vo = .slice A j c ∧ Hid ((vlL zs false k).length = j) ∧ Hid (Own wr w.heap.size (.slice A j c) j ((vlL zs false k).map (.int .i64))) ∧ Hid (Below w.heap.size w wr)) (fun _ vk _ => en - (intOf vk).toNat)
  case atStart => exact ⟨0, 0, none, 0, Nat.zero_le _, rfl, rfl, Lib.hid rfl, HO, HB⟩
  case round =>
    clear HO HB
    obtain ⟨k, j, A, c, hk, rfl, rfl, hj, ho, hb⟩ := hrel
    have hsz := hb.out.size
    by_cases hlt : k < en
    · have hki : (k : Int) < (en : Int) := by omega
      have hjk := vlL_len zs false k
      rw [hj.out] at hjk
      have HV1 := Lib.hid (HV.out.kept (Kept.of_below hb.out hhi))
      go_wp2_with fail
      refine (gap1_any zs (k : Int) lo hi p5 wr HP.out HV1.out (by omega)).mono ?_
      rintro e w' ⟨rfl, nd, rfl⟩
      have HO2 : Hid (Own (wr.drewN nd) w.heap.size (.slice A j c) j ((vlL zs false k).map (.int .i64))) := Lib.hid (Own.drewN ho.out nd)
      have HB2 : Hid (Below w.heap.size w (wr.drewN nd)) := Lib.hid (below_drewN hb.out nd)
      have hsz2 : w.heap.size ≤ (wr.drewN nd).heap.size := hsz
      clear ho hb
      generalize wr.drewN nd = wr at *
      rcases bool_fs (reB zs (k : Int)) with hre | hre
      · have HVL := Lib.hid (vlL_yes hre)
        have HJ2 : Hid ((vlL zs false (k + 1)).length = j + 1) := Lib.hid (by rw [HVL.out, List.length_append, hj.out]; rfl)
        rw [hre]
        clear hre
        go_wp2_with (at_builtin; refine wpList_append_own _ rfl _ _ 24 rfl w.heap.size 2 i0 (.int .i64 0) 1 8 Try.underlying24 hi0 hz0 hz1 hz2 rfl ?_ _ j ((vlL zs false k).map (.int .i64)) rfl (World.ownsRow.alloc HO2.out _) ⟨wr.heap.size, 0, none⟩ 1 1 [.int .i64 (k : Int)] rfl rfl ?_ ?_ ?_ ?_ ?_ ?_; (decide); (exact World.news_of_block (cs := #[.int .i64 (k : Int)]) (t := 2) (fr := (0, 0)) (heap_alloc_new wr _)); (simp [Value.oneCell']); (simp [maxLen]; omega); (omega); (simp; omega); intro v1 w1 hown1 hgrow _; obtain ⟨A1, c1, rfl⟩ := own_form (n := j + 1) hown1; have HO1 : Hid (Own w1 w.heap.size (.slice A1 (j + 1) c1) (j + 1) ((vlL zs false (k + 1)).map (.int .i64))) := Lib.hid (by rw [HVL.out, List.map_append]; exact hown1); have hb1 : Hid (Below w.heap.size w w1) := Lib.hid ((HB2.out.alloc HB2.out.size _).grown hgrow (by simp; omega) (fun k hk => (Own.lt HO2.out k hk).1)); clear hown1 hgrow)
        go_roundw
        case rel => exact ⟨k + 1, j + 1, A1, c1, by omega, by go_num, rfl, HJ2, HO1, hb1⟩
        case measure => first | (simp [intOf]; done) | (simp [intOf]; omega)
      · have HVL := Lib.hid (vlL_no (b := false) (by rw [hre]; decide))
        have HJ2 : Hid ((vlL zs false (k + 1)).length = j) := Lib.hid (by rw [HVL.out, hj.out])
        rw [hre]
        clear hre
        go_wp2_with fail
        go_roundw
        case rel => exact ⟨k + 1, j, A, c, by omega, by go_num, rfl, HJ2, Lib.hid (by rw [HVL.out]; exact HO2.out), HB2⟩
        case measure => first | (simp [intOf]; done) | (simp [intOf]; omega)
    · obtain rfl : k = en := by omega
      go_wp2_with fail
      go_ret
      exact ⟨_, rfl, OwnI.mk' ho.out, hb.out⟩
end Go.Proofs.Ytjgidalmgoifgaa
/- ValuesUpTo, GapsOf, SemigroupPolynomial, the models' and the programs': contracts. Conditions: stated at each theorem. -/
namespace Go.Proofs.Ytjgidalmgoifgaa
open Go.ChangeShapes Go.WideShapes Go.ChangeAt Go.RowKit Go.Deep
set_option linter.unusedVariables false
set_option linter.unusedSimpArgs false

theorem below_values2 (zs : List Int) (en lo hi p3 p4 : Nat) (w : World) (hp : brB zs = true) (hv : VT w lo hi zs p3 p4) (hhi : hi ≤ w.heap.size) (hen : en ≤ 1000000) (E : Int) (hE : E = (en : Int)) :
    Calls Try.prog 97 #[.int .i64 E, .func (.func 123) #[] #[.pointer (some ⟨p3, 0, none⟩), .pointer (some ⟨p4, 0, none⟩)]] w fun e w' => ∃ v', e = .returned v' ∧ OwnI w' w.heap.size w'.heap.size v' (vlL zs true en) ∧ Below w.heap.size w w' := by
  subst hE; exact below_values zs en lo hi p3 p4 w hp hv hhi hen
def vuA (zs : List Int) (x : Int) : List Int := if brB zs then (if semiB x then vlL zs true (x.toNat + 1) else []) else []
theorem vu_no {zs : List Int} {v : Int} (h : brB zs = false) : vuA zs v = [] ∧ ivC zs v = 1 := by simp [vuA, ivC, h]
theorem vu_out {zs : List Int} {v : Int} (h : brB zs = true) (h2 : semiB v = false) : vuA zs v = [] ∧ ivC zs v = 2 := by simp [vuA, ivC, h, h2]
theorem vu_yes {zs : List Int} {m : Nat} (h : brB zs = true) (h2 : semiB (m : Int) = true) : vuA zs (m : Int) = vlL zs true (m + 1) ∧ ivC zs (m : Int) = 0 := by simp [vuA, ivC, h, h2]
theorem vuA_len {zs : List Int} (x : Int) : (vuA zs x).length ≤ 1099511627776 := by
  unfold vuA
  split
  · split
    · rename_i h
      have h1 := vlL_len zs true (x.toNat + 1)
      have h2 := semiB_yes h
      omega
    · simp
  · simp
def gpA (zs : List Int) : List Int := if brB zs then (if cdB zs ≤ 20000 then vlL zs false (cdB zs).toNat else []) else []
def gpC (zs : List Int) : Int := if brB zs then (if cdB zs ≤ 20000 then 0 else 3) else 1
theorem gp_no {zs : List Int} (h : brB zs = false) : gpA zs = [] ∧ gpC zs = 1 := by simp [gpA, gpC, h]
theorem gp_out {zs : List Int} (h : brB zs = true) (h2 : ¬ cdB zs ≤ 20000) : gpA zs = [] ∧ gpC zs = 3 := by simp [gpA, gpC, h, h2]
theorem gp_yes {zs : List Int} {m : Nat} (h : brB zs = true) (h2 : cdB zs ≤ 20000) (hm : cdB zs = (m : Int)) : gpA zs = vlL zs false m ∧ gpC zs = 0 := by
  rw [hm] at h2; simp [gpA, gpC, h, hm, h2]
theorem gpA_len (zs : List Int) : (gpA zs).length ≤ 1099511627776 := by
  unfold gpA
  split
  · split
    · have h1 := vlL_len zs false (cdB zs).toNat
      omega
    · simp
  · simp
def spA (zs : List Int) : List Int := if brB zs then (if cdB zs ≤ 2000 then spL zs ((cdB zs).toNat + 1) else []) else []
def spC (zs : List Int) : Int := if brB zs then (if cdB zs ≤ 2000 then 0 else 3) else 1
theorem sp_no {zs : List Int} (h : brB zs = false) : spA zs = [] ∧ spC zs = 1 := by simp [spA, spC, h]
theorem sp_out {zs : List Int} (h : brB zs = true) (h2 : ¬ cdB zs ≤ 2000) : spA zs = [] ∧ spC zs = 3 := by simp [spA, spC, h, h2]
theorem sp_yes {zs : List Int} {m : Nat} (h : brB zs = true) (h2 : cdB zs ≤ 2000) (hm : cdB zs = (m : Int)) : spA zs = spL zs (m + 1) ∧ spC zs = 0 := by
  rw [hm] at h2; simp [spA, spC, h, hm, h2]
theorem spA_len (zs : List Int) : (spA zs).length ≤ 1099511627776 := by
  unfold spA
  split
  · split
    · rw [spL_len]; omega
    · simp
  · simp

set_option maxRecDepth 100000 in
set_option maxHeartbeats 2000000 in
theorem specValuesUpTo_any (v : Value) (zs : List Int) (x : Int) (w : World) (h : ReadI w w.heap.size v zs) (hn : zs.length ≤ 1048576) (hw : ∀ z ∈ zs, (Lit.int .i64 z).wf = true) (hwx : (Lit.int .i64 x).wf = true) :
    Calls Try.prog 69 #[.agg #[v], .int .i64 x] w (AnsIC w (vuA zs x) (ivC zs x)) := by
  have HWW := Lib.hid hw
  have HN0 := Lib.hid hn
  rcases bool_fs (brB zs) with hp | hp
  · have E := Lib.hid (vu_no (v := x) hp)
    have HP := Lib.hid hp
    obtain ⟨n, A, c, rfl, hr, HL, _, hnc, HF, hcm⟩ := h.split2
    obtain ⟨W0, HE⟩ : ∃ W, W = w.alloc (.cells #[.slice A n c] 26) := ⟨_, rfl⟩
    have hb0 : Below w.heap.size w W0 := by rw [HE]; exact below_box _ _
    have hq0 : BoxI W0 w.heap.size (.slice A n c) := by rw [HE]; exact BoxI.new _ _ _
    have H0 := Lib.hid ((h.below hb0).more hb0.size)
    have HEQ := Lib.hid HE
    clear h hr HE HF hn hw hp hwx
    go_enter Try.func69, Try.ntmps69
    go_wp2_with fail
    rw [← HEQ.out]
    refine (l03Is_if _ zs _ false H0.out HN0.out HWW.out HP.out).mono ?_
    rintro e w1 ⟨rfl, hb1⟩
    go_wp2_with fail
    go_ret2
    exact AnsIC.empty (by rw [E.out.1]) (by rw [E.out.2]) (hb0.trans (hb1.mono hb0.size))
  have HP := Lib.hid hp
  rcases bool_fs (semiB x) with hsb | hsb
  · have E := Lib.hid (vu_out hp hsb)
    have HSB := Lib.hid hsb
    obtain ⟨n, A, c, rfl, hr, HL, _, hnc, HF, hcm⟩ := h.split2
    obtain ⟨W0, HE⟩ : ∃ W, W = w.alloc (.cells #[.slice A n c] 26) := ⟨_, rfl⟩
    have hb0 : Below w.heap.size w W0 := by rw [HE]; exact below_box _ _
    have hq0 : BoxI W0 w.heap.size (.slice A n c) := by rw [HE]; exact BoxI.new _ _ _
    have H0 := Lib.hid ((h.below hb0).more hb0.size)
    have HEQ := Lib.hid HE
    clear h hr HE HF hn hw hp hwx hsb
    go_enter Try.func69, Try.ntmps69
    go_wp2_with fail
    rw [← HEQ.out]
    refine (l03Is_if _ zs _ true H0.out HN0.out HWW.out HP.out).mono ?_
    rintro e w1 ⟨rfl, hb1⟩
    have B1 := Lib.hid (hb0.trans (hb1.mono hb0.size))
    clear hb1 hb0 hq0
    go_wp2_with (go_at_call 108; refine (in_no _ _ _ _ (semiB_no HSB.out)).mono ?_; rintro e w' ⟨rfl, rfl⟩)
    go_ret2
    exact AnsIC.empty (by rw [E.out.1]) (by rw [E.out.2]) B1.out
  · have HSB := Lib.hid hsb
    have hx := semiB_yes hsb
    obtain ⟨m, rfl⟩ : ∃ m : Nat, x = (m : Int) := ⟨x.toNat, by omega⟩
    have E := Lib.hid (vu_yes hp hsb)
    obtain ⟨n, A, c, rfl, hr, HL, _, hnc, HF, hcm⟩ := h.split2
    obtain ⟨W0, HE⟩ : ∃ W, W = w.alloc (.cells #[.slice A n c] 26) := ⟨_, rfl⟩
    have hb0 : Below w.heap.size w W0 := by rw [HE]; exact below_box _ _
    have hq0 : BoxI W0 w.heap.size (.slice A n c) := by rw [HE]; exact BoxI.new _ _ _
    have H0 := Lib.hid ((h.below hb0).more hb0.size)
    have HEQ := Lib.hid HE
    clear h hr HE HF hn hw hp hwx hsb
    go_enter Try.func69, Try.ntmps69
    go_wp2_with fail
    rw [← HEQ.out]
    refine (l03Is_if _ zs _ true H0.out HN0.out HWW.out HP.out).mono ?_
    rintro e w1 ⟨rfl, hb1⟩
    have cb1 : w1.cell? ⟨w.heap.size, 0, none⟩ = some (.slice A n c) := by rw [hb1.cell (p := ⟨w.heap.size, 0, none⟩) hq0.2]; exact hq0.1
    have H1 := Lib.hid ((H0.out.below hb1).more hb1.size)
    have B1 := Lib.hid (hb0.trans (hb1.mono hb0.size))
    have hw1 : w.heap.size < w1.heap.size := by have := hq0.2; have := hb1.size; omega
    clear hb1 hb0 HEQ hq0
    go_wp2_with (go_at_call 108; refine (in_yes _ _ _ _ hx.1 hx.2).mono ?_; rintro e w' ⟨rfl, rfl⟩)
    refine (l05Values_any _ zs m w1 H1.out HN0.out HP.out (by omega)).mono ?_
    rintro e w2 ⟨g2, rfl, hg1, hg2, hrow, hb2⟩
    obtain ⟨i0, hi0, hz0, hz1, hz2⟩ := info_parts int_info
    have hs2 := hb2.size
    have HO0 : Hid (Own (w2.alloc (.cells #[] 2)) w2.heap.size (.slice (some ⟨w2.heap.size, 0, none⟩) 0 0) 0 (([] : List Int).map (.int .i64))) := Lib.hid (World.ownsRow_lit w2 #[] 0 (Nat.le_refl _) (by simp [maxLen]) rfl)
    have hB0 : Below w2.heap.size w2 (w2.alloc (.cells #[] 2)) := below_box2 _ _
    have HROW := Lib.hid (hrow.alloc (.cells #[] 2))
    have BW := Lib.hid (B1.out.trans ((hb2.trans (hB0.mono hs2)).mono B1.out.size))
    obtain ⟨B, hB⟩ : ∃ B, w2.heap.size = B := ⟨_, rfl⟩
    have hgB : g2 < B := by omega
    have hwB : w.heap.size ≤ B := by have := B1.out.size; omega
    have HO : Hid (Own (w2.alloc (.cells #[] 2)) B (.slice (some ⟨B, 0, none⟩) 0 0) 0 (([] : List Int).map (.int .i64))) := Lib.hid (by have := HO0.out; rwa [hB] at this)
    have hsW : (w2.alloc (.cells #[] 2)).heap.size = B + 1 := by rw [← hB]; simp
    clear hrow hb2 hB0 HO0
    go_wp2_with fail
    generalize w2.alloc (.cells #[] 2) = WS at *
    have HB : Hid (Below B WS WS) := Lib.hid (Below.refl _ _)
    go_loopw [7, 8] (fun vo vk wr => ∃ (k j : Nat) (A : Option Addr) (c : Nat), k ≤ m + 1 ∧ vk = .int .i64 (k : Int) ∧ vo = .slice A j c ∧ Hid ((vlL zs true k).length = j) ∧ Hid (Own wr B (.slice A j c) j ((vlL zs true k).map (.int .i64))) ∧ Hid (Below B WS wr)) (fun _ vk _ => m + 1 - (intOf vk).toNat)
    case atStart => exact ⟨0, 0, _, _, Nat.zero_le _, rfl, rfl, Lib.hid rfl, HO, HB⟩
    case round =>
      clear HO HB
      obtain ⟨k, j, A', c', hk, rfl, rfl, hj, ho, hb⟩ := hrel
      have hsz := hb.out.size
      by_cases hlt : k < m + 1
      · have hki : (k : Int) < (m : Int) + 1 := by omega
        have hjk := vlL_len zs true k
        rw [hj.out] at hjk
        have hck := (hb.out.cell (p := ⟨g2, k, none⟩) hgB).trans (HROW.out.cell hlt)
        rcases bool_fs (reB zs (k : Int)) with hre | hre
        · have HVL := Lib.hid (vlL_no (b := true) (by rw [hre]; decide))
          have HJ2 : Hid ((vlL zs true (k + 1)).length = j) := Lib.hid (by rw [HVL.out, hj.out])
          rw [hre] at hck
          clear hre
          go_wp2_with fail
          go_roundw
          case rel => exact ⟨k + 1, j, A', c', by omega, by go_num, rfl, HJ2, Lib.hid (by rw [HVL.out]; exact ho.out), hb⟩
          case measure => first | (simp [intOf]; done) | (simp [intOf]; omega)
        · have HVL := Lib.hid (vlL_yes hre)
          have HJ2 : Hid ((vlL zs true (k + 1)).length = j + 1) := Lib.hid (by rw [HVL.out, List.length_append, hj.out]; rfl)
          rw [hre] at hck
          clear hre
          go_wp2_with (at_builtin; refine wpList_append_own _ rfl _ _ 24 rfl B 2 i0 (.int .i64 0) 1 8 Try.underlying24 hi0 hz0 hz1 hz2 rfl ?_ _ j ((vlL zs true k).map (.int .i64)) rfl (World.ownsRow.alloc ho.out _) ⟨wr.heap.size, 0, none⟩ 1 1 [.int .i64 (k : Int)] rfl rfl ?_ ?_ ?_ ?_ ?_ ?_; (decide); (exact World.news_of_block (cs := #[.int .i64 (k : Int)]) (t := 2) (fr := (0, 0)) (heap_alloc_new wr _)); (simp [Value.oneCell']); (simp [maxLen]; omega); (omega); (simp; omega); intro v1 w5 hown1 hgrow _; obtain ⟨A1, c1, rfl⟩ := own_form (n := j + 1) hown1; have HO1 : Hid (Own w5 B (.slice A1 (j + 1) c1) (j + 1) ((vlL zs true (k + 1)).map (.int .i64))) := Lib.hid (by rw [HVL.out, List.map_append]; exact hown1); have hbn : Hid (Below B WS w5) := Lib.hid ((hb.out.alloc (by omega) _).grown hgrow (by simp; omega) (fun k hk => (Own.lt ho.out k hk).1)); clear hown1 hgrow)
          go_roundw
          case rel => exact ⟨k + 1, j + 1, A1, c1, by omega, by go_num, rfl, HJ2, HO1, hbn⟩
          case measure => first | (simp [intOf]; done) | (simp [intOf]; omega)
      · obtain rfl : k = m + 1 := by omega
        have hki : ¬ (((m + 1 : Nat) : Nat) : Int) < (m : Int) + 1 := by omega
        have HOO := Lib.hid (own_lessB (OwnI.mk' (lo := B) ho.out) (show w.heap.size ≤ B by omega))
        go_wp2_with fail
        go_ret2
        exact AnsIC.mk' (by rw [E.out.1]) (by rw [E.out.2]) HOO.out (BW.out.trans (hb.out.mono (by omega)))


set_option maxRecDepth 100000 in
set_option maxHeartbeats 2000000 in
theorem implValuesUpTo_any (v : Value) (zs : List Int) (x : Int) (w : World) (h : ReadI w w.heap.size v zs) (hn : zs.length ≤ 1048576) (hw : ∀ z ∈ zs, (Lit.int .i64 z).wf = true) (hwx : (Lit.int .i64 x).wf = true) :
    Calls Try.prog 55 #[.agg #[v], .int .i64 x] w (AnsIC w (vuA zs x) (ivC zs x)) := by
  have HWW := Lib.hid hw
  have HN0 := Lib.hid hn
  rcases bool_fs (brB zs) with hp | hp
  · have E := Lib.hid (vu_no (v := x) hp)
    have HP := Lib.hid hp
    obtain ⟨n, A, c, rfl, hr, HL, _, hnc, HF, hcm⟩ := h.split2
    obtain ⟨W0, HE⟩ : ∃ W, W = w.alloc (.cells #[.slice A n c] 26) := ⟨_, rfl⟩
    have hb0 : Below w.heap.size w W0 := by rw [HE]; exact below_box _ _
    have hq0 : BoxI W0 w.heap.size (.slice A n c) := by rw [HE]; exact BoxI.new _ _ _
    have H0 := Lib.hid ((h.below hb0).more hb0.size)
    have HEQ := Lib.hid HE
    clear h hr HE HF hn hw hp hwx
    go_enter Try.func55, Try.ntmps55
    go_wp2_with fail
    rw [← HEQ.out]
    refine (implIsBranch_if _ zs _ false H0.out HN0.out HWW.out HP.out).mono ?_
    rintro e w1 ⟨rfl, hb1⟩
    go_wp2_with fail
    go_ret2
    exact AnsIC.empty (by rw [E.out.1]) (by rw [E.out.2]) (hb0.trans (hb1.mono hb0.size))
  have HP := Lib.hid hp
  rcases bool_fs (semiB x) with hsb | hsb
  · have E := Lib.hid (vu_out hp hsb)
    have HSB := Lib.hid hsb
    obtain ⟨n, A, c, rfl, hr, HL, _, hnc, HF, hcm⟩ := h.split2
    obtain ⟨W0, HE⟩ : ∃ W, W = w.alloc (.cells #[.slice A n c] 26) := ⟨_, rfl⟩
    have hb0 : Below w.heap.size w W0 := by rw [HE]; exact below_box _ _
    have hq0 : BoxI W0 w.heap.size (.slice A n c) := by rw [HE]; exact BoxI.new _ _ _
    have H0 := Lib.hid ((h.below hb0).more hb0.size)
    have HEQ := Lib.hid HE
    clear h hr HE HF hn hw hp hwx hsb
    go_enter Try.func55, Try.ntmps55
    go_wp2_with fail
    rw [← HEQ.out]
    refine (implIsBranch_if _ zs _ true H0.out HN0.out HWW.out HP.out).mono ?_
    rintro e w1 ⟨rfl, hb1⟩
    have B1 := Lib.hid (hb0.trans (hb1.mono hb0.size))
    clear hb1 hb0 hq0
    go_wp2_with fail
    refine (semi_if x false w1 HSB.out).mono ?_
    rintro e w' ⟨rfl, rfl⟩
    go_wp2_with fail
    go_ret2
    exact AnsIC.empty (by rw [E.out.1]) (by rw [E.out.2]) B1.out
  · have HSB := Lib.hid hsb
    have hx := semiB_yes hsb
    obtain ⟨m, rfl⟩ : ∃ m : Nat, x = (m : Int) := ⟨x.toNat, by omega⟩
    have E := Lib.hid (vu_yes hp hsb)
    obtain ⟨n, A, c, rfl, hr, HL, _, hnc, HF, hcm⟩ := h.split2
    obtain ⟨W0, HE⟩ : ∃ W, W = w.alloc (.cells #[.slice A n c] 26) := ⟨_, rfl⟩
    have hb0 : Below w.heap.size w W0 := by rw [HE]; exact below_box _ _
    have hq0 : BoxI W0 w.heap.size (.slice A n c) := by rw [HE]; exact BoxI.new _ _ _
    have H0 := Lib.hid ((h.below hb0).more hb0.size)
    have HEQ := Lib.hid HE
    clear h hr HE HF hn hw hp hwx hsb
    go_enter Try.func55, Try.ntmps55
    go_wp2_with fail
    rw [← HEQ.out]
    refine (implIsBranch_if _ zs _ true H0.out HN0.out HWW.out HP.out).mono ?_
    rintro e w1 ⟨rfl, hb1⟩
    have cb1 : w1.cell? ⟨w.heap.size, 0, none⟩ = some (.slice A n c) := by rw [hb1.cell (p := ⟨w.heap.size, 0, none⟩) hq0.2]; exact hq0.1
    have H1 := Lib.hid ((H0.out.below hb1).more hb1.size)
    have B1 := Lib.hid (hb0.trans (hb1.mono hb0.size))
    have hw1 : w.heap.size < w1.heap.size := by have := hq0.2; have := hb1.size; omega
    clear hb1 hb0 HEQ hq0
    have pm : IntKind.i64.wrap ((m : Int) + 1) = (m : Int) + 1 := IntWalk.i64_in _ (by omega)
    go_wp2_with fail
    refine (semi_if (m : Int) true w1 HSB.out).mono ?_
    rintro e w' ⟨rfl, rfl⟩
    go_wp2_with fail
    refine (valueTest_any _ zs w1 H1.out HN0.out HP.out).mono ?_
    rintro e w2 ⟨p3, p4, rfl, hvt, hb2⟩
    have B2 := Lib.hid (B1.out.trans (hb2.mono B1.out.size))
    have HVT := Lib.hid hvt
    clear hb2 hvt
    go_wp2_with fail
    refine (below_values2 zs (m + 1) _ _ p3 p4 w2 HP.out HVT.out (Nat.le_refl _) (by omega) ((m : Int) + 1) (by omega)).mono ?_
    rintro e w3 ⟨v3, rfl, ho3, hb3⟩
    obtain ⟨A3, c3, rfl⟩ := own_form ho3.1
    have HO3 := Lib.hid (own_lessB ho3 (lo' := w.heap.size) B2.out.size)
    have B3 := Lib.hid (B2.out.trans (hb3.mono B2.out.size))
    clear ho3 hb3
    go_wp2_with fail
    go_ret2
    exact AnsIC.mk' (by rw [E.out.1]) (by rw [E.out.2]) HO3.out B3.out


set_option maxRecDepth 100000 in
set_option maxHeartbeats 2000000 in
theorem specGapsOf_any (v : Value) (zs : List Int) (w : World) (h : ReadI w w.heap.size v zs) (hn : zs.length ≤ 1048576) (hw : ∀ z ∈ zs, (Lit.int .i64 z).wf = true) :
    Calls Try.prog 41 #[.agg #[v]] w (AnsIC w (gpA zs) (gpC zs)) := by
  have HWW := Lib.hid hw
  have HN0 := Lib.hid hn
  rcases bool_fs (brB zs) with hp | hp
  · have E := Lib.hid (gp_no hp)
    have HP := Lib.hid hp
    obtain ⟨n, A, c, rfl, hr, HL, _, hnc, HF, hcm⟩ := h.split2
    obtain ⟨W0, HE⟩ : ∃ W, W = w.alloc (.cells #[.slice A n c] 26) := ⟨_, rfl⟩
    have hb0 : Below w.heap.size w W0 := by rw [HE]; exact below_box _ _
    have hq0 : BoxI W0 w.heap.size (.slice A n c) := by rw [HE]; exact BoxI.new _ _ _
    have H0 := Lib.hid ((h.below hb0).more hb0.size)
    have HEQ := Lib.hid HE
    clear h hr HE HF hn hw hp
    go_enter Try.func41, Try.ntmps41
    go_wp2_with fail
    rw [← HEQ.out]
    refine (l03Is_if _ zs _ false H0.out HN0.out HWW.out HP.out).mono ?_
    rintro e w1 ⟨rfl, hb1⟩
    go_wp2_with fail
    go_ret2
    exact AnsIC.empty (by rw [E.out.1]) (by rw [E.out.2]) (hb0.trans (hb1.mono hb0.size))
  have HP := Lib.hid hp
  have hc0 := cdB_nonneg hp
  by_cases hlim : cdB zs ≤ 20000
  · obtain ⟨m, hm⟩ : ∃ m : Nat, cdB zs = (m : Int) := ⟨(cdB zs).toNat, by omega⟩
    have E := Lib.hid (gp_yes hp hlim hm)
    have HMC := Lib.hid hm
    rw [hm] at hlim hc0
    clear hm
    obtain ⟨n, A, c, rfl, hr, HL, _, hnc, HF, hcm⟩ := h.split2
    obtain ⟨W0, HE⟩ : ∃ W, W = w.alloc (.cells #[.slice A n c] 26) := ⟨_, rfl⟩
    have hb0 : Below w.heap.size w W0 := by rw [HE]; exact below_box _ _
    have hq0 : BoxI W0 w.heap.size (.slice A n c) := by rw [HE]; exact BoxI.new _ _ _
    have H0 := Lib.hid ((h.below hb0).more hb0.size)
    have HEQ := Lib.hid HE
    clear h hr HE HF hn hw hp
    go_enter Try.func41, Try.ntmps41
    go_wp2_with fail
    rw [← HEQ.out]
    refine (l03Is_if _ zs _ true H0.out HN0.out HWW.out HP.out).mono ?_
    rintro e w1 ⟨rfl, hb1⟩
    have cb1 : w1.cell? ⟨w.heap.size, 0, none⟩ = some (.slice A n c) := by rw [hb1.cell (p := ⟨w.heap.size, 0, none⟩) hq0.2]; exact hq0.1
    have H1 := Lib.hid ((H0.out.below hb1).more hb1.size)
    have B1 := Lib.hid (hb0.trans (hb1.mono hb0.size))
    have hw1 : w.heap.size < w1.heap.size := by have := hq0.2; have := hb1.size; omega
    clear hb1 hb0 HEQ hq0
    go_wp2_with fail
    refine (l05Conductor_any _ zs w1 H1.out HN0.out HP.out).mono ?_
    rintro e w1' ⟨rfl, hb1'⟩
    rw [HMC.out]
    have cb2 := (hb1'.cell (p := ⟨w.heap.size, 0, none⟩) hw1).trans cb1
    have H2 := Lib.hid ((H1.out.below hb1').more hb1'.size)
    have B2 := Lib.hid (B1.out.trans (hb1'.mono B1.out.size))
    have hw11 : w1.heap.size ≤ w1'.heap.size := hb1'.size
    clear hb1' cb1
    go_wp2_with fail
    refine (l05Values_any _ zs m w1' H2.out HN0.out HP.out (by omega)).mono ?_
    rintro e w2 ⟨g2, rfl, hg1, hg2, hrow, hb2⟩
    obtain ⟨i0, hi0, hz0, hz1, hz2⟩ := info_parts int_info
    have hs2 := hb2.size
    have HO0 : Hid (Own (w2.alloc (.cells #[] 2)) w2.heap.size (.slice (some ⟨w2.heap.size, 0, none⟩) 0 0) 0 (([] : List Int).map (.int .i64))) := Lib.hid (World.ownsRow_lit w2 #[] 0 (Nat.le_refl _) (by simp [maxLen]) rfl)
    have hB0 : Below w2.heap.size w2 (w2.alloc (.cells #[] 2)) := below_box2 _ _
    have HROW := Lib.hid (hrow.alloc (.cells #[] 2))
    have BW := Lib.hid (B2.out.trans ((hb2.trans (hB0.mono hs2)).mono B2.out.size))
    obtain ⟨B, hB⟩ : ∃ B, w2.heap.size = B := ⟨_, rfl⟩
    have hgB : g2 < B := by omega
    have hwB : w.heap.size ≤ B := by have := B2.out.size; omega
    have HO : Hid (Own (w2.alloc (.cells #[] 2)) B (.slice (some ⟨B, 0, none⟩) 0 0) 0 (([] : List Int).map (.int .i64))) := Lib.hid (by have := HO0.out; rwa [hB] at this)
    have hsW : (w2.alloc (.cells #[] 2)).heap.size = B + 1 := by rw [← hB]; simp
    clear hrow hb2 hB0 HO0
    go_wp2_with fail
    generalize w2.alloc (.cells #[] 2) = WS at *
    have HB : Hid (Below B WS WS) := Lib.hid (Below.refl _ _)
    go_loopw [6, 7] (fun vo vk wr => ∃ (k j : Nat) (A : Option Addr) (c : Nat), k ≤ m + 1 ∧ vk = .int .i64 (k : Int) ∧ vo = .slice A j c ∧ Hid ((vlL zs false k).length = j) ∧ Hid (Own wr B (.slice A j c) j ((vlL zs false k).map (.int .i64))) ∧ Hid (Below B WS wr)) (fun _ vk _ => m + 1 - (intOf vk).toNat)
    case atStart => exact ⟨0, 0, _, _, Nat.zero_le _, rfl, rfl, Lib.hid rfl, HO, HB⟩
    case round =>
      clear HO HB
      obtain ⟨k, j, A', c', hk, rfl, rfl, hj, ho, hb⟩ := hrel
      have hsz := hb.out.size
      by_cases hlt : k < m + 1
      · have hki : (k : Int) < (m : Int) + 1 := by omega
        have hjk := vlL_len zs false k
        rw [hj.out] at hjk
        have hck := (hb.out.cell (p := ⟨g2, k, none⟩) hgB).trans (HROW.out.cell hlt)
        rcases bool_fs (reB zs (k : Int)) with hre | hre
        · have HVL := Lib.hid (vlL_yes hre)
          have HJ2 : Hid ((vlL zs false (k + 1)).length = j + 1) := Lib.hid (by rw [HVL.out, List.length_append, hj.out]; rfl)
          rw [hre] at hck
          clear hre
          go_wp2_with (at_builtin; refine wpList_append_own _ rfl _ _ 24 rfl B 2 i0 (.int .i64 0) 1 8 Try.underlying24 hi0 hz0 hz1 hz2 rfl ?_ _ j ((vlL zs false k).map (.int .i64)) rfl (World.ownsRow.alloc ho.out _) ⟨wr.heap.size, 0, none⟩ 1 1 [.int .i64 (k : Int)] rfl rfl ?_ ?_ ?_ ?_ ?_ ?_; (decide); (exact World.news_of_block (cs := #[.int .i64 (k : Int)]) (t := 2) (fr := (0, 0)) (heap_alloc_new wr _)); (simp [Value.oneCell']); (simp [maxLen]; omega); (omega); (simp; omega); intro v1 w5 hown1 hgrow _; obtain ⟨A1, c1, rfl⟩ := own_form (n := j + 1) hown1; have HO1 : Hid (Own w5 B (.slice A1 (j + 1) c1) (j + 1) ((vlL zs false (k + 1)).map (.int .i64))) := Lib.hid (by rw [HVL.out, List.map_append]; exact hown1); have hbn : Hid (Below B WS w5) := Lib.hid ((hb.out.alloc (by omega) _).grown hgrow (by simp; omega) (fun k hk => (Own.lt ho.out k hk).1)); clear hown1 hgrow)
          go_roundw
          case rel => exact ⟨k + 1, j + 1, A1, c1, by omega, by go_num, rfl, HJ2, HO1, hbn⟩
          case measure => first | (simp [intOf]; done) | (simp [intOf]; omega)
        · have HVL := Lib.hid (vlL_no (b := false) (by rw [hre]; decide))
          have HJ2 : Hid ((vlL zs false (k + 1)).length = j) := Lib.hid (by rw [HVL.out, hj.out])
          rw [hre] at hck
          clear hre
          go_wp2_with fail
          go_roundw
          case rel => exact ⟨k + 1, j, A', c', by omega, by go_num, rfl, HJ2, Lib.hid (by rw [HVL.out]; exact ho.out), hb⟩
          case measure => first | (simp [intOf]; done) | (simp [intOf]; omega)
      · obtain rfl : k = m + 1 := by omega
        have hki : ¬ (((m + 1 : Nat) : Nat) : Int) < (m : Int) + 1 := by omega
        have HOO := Lib.hid (own_lessB (OwnI.mk' (lo := B) ho.out) (show w.heap.size ≤ B by omega))
        go_wp2_with fail
        go_ret2
        exact AnsIC.mk' (by rw [E.out.1, vlL_cond HP.out HMC.out.symm]) (by rw [E.out.2]) HOO.out (BW.out.trans (hb.out.mono (by omega)))

  · have E := Lib.hid (gp_out hp hlim)
    have hgt : (20000 : Int) < cdB zs := by omega
    clear hc0
    obtain ⟨n, A, c, rfl, hr, HL, _, hnc, HF, hcm⟩ := h.split2
    obtain ⟨W0, HE⟩ : ∃ W, W = w.alloc (.cells #[.slice A n c] 26) := ⟨_, rfl⟩
    have hb0 : Below w.heap.size w W0 := by rw [HE]; exact below_box _ _
    have hq0 : BoxI W0 w.heap.size (.slice A n c) := by rw [HE]; exact BoxI.new _ _ _
    have H0 := Lib.hid ((h.below hb0).more hb0.size)
    have HEQ := Lib.hid HE
    clear h hr HE HF hn hw hp
    go_enter Try.func41, Try.ntmps41
    go_wp2_with fail
    rw [← HEQ.out]
    refine (l03Is_if _ zs _ true H0.out HN0.out HWW.out HP.out).mono ?_
    rintro e w1 ⟨rfl, hb1⟩
    have cb1 : w1.cell? ⟨w.heap.size, 0, none⟩ = some (.slice A n c) := by rw [hb1.cell (p := ⟨w.heap.size, 0, none⟩) hq0.2]; exact hq0.1
    have H1 := Lib.hid ((H0.out.below hb1).more hb1.size)
    have B1 := Lib.hid (hb0.trans (hb1.mono hb0.size))
    have hw1 : w.heap.size < w1.heap.size := by have := hq0.2; have := hb1.size; omega
    clear hb1 hb0 HEQ hq0
    go_wp2_with fail
    refine (l05Conductor_any _ zs w1 H1.out HN0.out HP.out).mono ?_
    rintro e w1' ⟨rfl, hb1'⟩
    have B2 := Lib.hid (B1.out.trans (hb1'.mono B1.out.size))
    clear hb1' cb1 hlim
    generalize cdB zs = cc at *
    go_wp2_with fail
    go_ret2
    exact AnsIC.empty (by rw [E.out.1]) (by rw [E.out.2]) B2.out

set_option maxRecDepth 100000 in
set_option maxHeartbeats 2000000 in
theorem implGapsOf_any (v : Value) (zs : List Int) (w : World) (h : ReadI w w.heap.size v zs) (hn : zs.length ≤ 1048576) (hw : ∀ z ∈ zs, (Lit.int .i64 z).wf = true) :
    Calls Try.prog 40 #[.agg #[v]] w (AnsIC w (gpA zs) (gpC zs)) := by
  have HWW := Lib.hid hw
  have HN0 := Lib.hid hn
  rcases bool_fs (brB zs) with hp | hp
  · have E := Lib.hid (gp_no hp)
    have HP := Lib.hid hp
    obtain ⟨n, A, c, rfl, hr, HL, _, hnc, HF, hcm⟩ := h.split2
    obtain ⟨W0, HE⟩ : ∃ W, W = w.alloc (.cells #[.slice A n c] 26) := ⟨_, rfl⟩
    have hb0 : Below w.heap.size w W0 := by rw [HE]; exact below_box _ _
    have hq0 : BoxI W0 w.heap.size (.slice A n c) := by rw [HE]; exact BoxI.new _ _ _
    have H0 := Lib.hid ((h.below hb0).more hb0.size)
    have HEQ := Lib.hid HE
    clear h hr HE HF hn hw hp
    go_enter Try.func40, Try.ntmps40
    go_wp2_with fail
    rw [← HEQ.out]
    refine (implIsBranch_if _ zs _ false H0.out HN0.out HWW.out HP.out).mono ?_
    rintro e w1 ⟨rfl, hb1⟩
    go_wp2_with fail
    go_ret2
    exact AnsIC.empty (by rw [E.out.1]) (by rw [E.out.2]) (hb0.trans (hb1.mono hb0.size))
  have HP := Lib.hid hp
  have hc0 := cdB_nonneg hp
  by_cases hlim : cdB zs ≤ 20000
  · obtain ⟨m, hm⟩ : ∃ m : Nat, cdB zs = (m : Int) := ⟨(cdB zs).toNat, by omega⟩
    have E := Lib.hid (gp_yes hp hlim hm)
    have HMC := Lib.hid hm
    rw [hm] at hlim hc0
    clear hm
    obtain ⟨n, A, c, rfl, hr, HL, _, hnc, HF, hcm⟩ := h.split2
    obtain ⟨W0, HE⟩ : ∃ W, W = w.alloc (.cells #[.slice A n c] 26) := ⟨_, rfl⟩
    have hb0 : Below w.heap.size w W0 := by rw [HE]; exact below_box _ _
    have hq0 : BoxI W0 w.heap.size (.slice A n c) := by rw [HE]; exact BoxI.new _ _ _
    have H0 := Lib.hid ((h.below hb0).more hb0.size)
    have HEQ := Lib.hid HE
    clear h hr HE HF hn hw hp
    go_enter Try.func40, Try.ntmps40
    go_wp2_with fail
    rw [← HEQ.out]
    refine (implIsBranch_if _ zs _ true H0.out HN0.out HWW.out HP.out).mono ?_
    rintro e w1 ⟨rfl, hb1⟩
    have cb1 : w1.cell? ⟨w.heap.size, 0, none⟩ = some (.slice A n c) := by rw [hb1.cell (p := ⟨w.heap.size, 0, none⟩) hq0.2]; exact hq0.1
    have H1 := Lib.hid ((H0.out.below hb1).more hb1.size)
    have B1 := Lib.hid (hb0.trans (hb1.mono hb0.size))
    have hw1 : w.heap.size < w1.heap.size := by have := hq0.2; have := hb1.size; omega
    clear hb1 hb0 HEQ hq0
    go_wp2_with fail
    refine (conductor_any _ zs w1 H1.out HN0.out HP.out).mono ?_
    rintro e w1' ⟨rfl, hb1'⟩
    rw [HMC.out]
    have cb2 := (hb1'.cell (p := ⟨w.heap.size, 0, none⟩) hw1).trans cb1
    have H2 := Lib.hid ((H1.out.below hb1').more hb1'.size)
    have B2 := Lib.hid (B1.out.trans (hb1'.mono B1.out.size))
    have hw11 : w1.heap.size ≤ w1'.heap.size := hb1'.size
    clear hb1' cb1
    have hmf : ∀ (fn : Fn) (first cap : Array Value) (w : World), (Instr.makeFunc fn first cap).run Try.prog w = .ok (.func fn first cap) w := fun _ _ _ _ => rfl
    go_wp2_with fail
    refine (valueTest_any _ zs w1' H2.out HN0.out HP.out).mono ?_
    rintro e w2 ⟨p3, p4, rfl, hvt, hb2⟩
    have B3 := Lib.hid (B2.out.trans (hb2.mono B2.out.size))
    have HVT := Lib.hid hvt
    have hs2 := hb2.size
    clear hb2 hvt
    go_wp2_with fail
    clear hmf
    obtain ⟨W3, HW3⟩ : ∃ W, W = w2.alloc (.cells #[.func (.func 123) #[] #[.pointer (some ⟨p3, 0, none⟩), .pointer (some ⟨p4, 0, none⟩)]] 84) := ⟨_, rfl⟩
    have hb3 : Below w2.heap.size w2 W3 := by rw [HW3]; exact below_box2 _ _
    have hq3 : W3.cell? ⟨w2.heap.size, 0, none⟩ = some (.func (.func 123) #[] #[.pointer (some ⟨p3, 0, none⟩), .pointer (some ⟨p4, 0, none⟩)]) := by rw [HW3]; exact (BoxI.new _ _ _).1
    have hs3 : W3.heap.size = w2.heap.size + 1 := by rw [HW3]; simp
    have HGT : Hid (GT W3 w1'.heap.size W3.heap.size zs w2.heap.size) := Lib.hid ⟨⟨by omega, by omega⟩, p3, p4, hq3, (HVT.out.kept (Kept.of_below hb3 (Nat.le_refl _))).wide (Nat.le_refl _) (by omega)⟩
    have B4 := Lib.hid (B3.out.trans (hb3.mono B3.out.size))
    rw [← HW3]
    clear HW3 hb3 hq3
    refine (below_gaps zs m _ _ w2.heap.size W3 HP.out HGT.out (Nat.le_refl _) (by omega)).mono ?_
    rintro e w4 ⟨v4, rfl, ho4, hb4⟩
    obtain ⟨A4, c4, rfl⟩ := own_form ho4.1
    have HO4 := Lib.hid (own_lessB ho4 (lo' := w.heap.size) B4.out.size)
    have B5 := Lib.hid (B4.out.trans (hb4.mono B4.out.size))
    clear ho4 hb4
    go_wp2_with fail
    go_ret2
    exact AnsIC.mk' (by rw [E.out.1]) (by rw [E.out.2]) HO4.out B5.out

  · have E := Lib.hid (gp_out hp hlim)
    have hgt : (20000 : Int) < cdB zs := by omega
    clear hc0
    obtain ⟨n, A, c, rfl, hr, HL, _, hnc, HF, hcm⟩ := h.split2
    obtain ⟨W0, HE⟩ : ∃ W, W = w.alloc (.cells #[.slice A n c] 26) := ⟨_, rfl⟩
    have hb0 : Below w.heap.size w W0 := by rw [HE]; exact below_box _ _
    have hq0 : BoxI W0 w.heap.size (.slice A n c) := by rw [HE]; exact BoxI.new _ _ _
    have H0 := Lib.hid ((h.below hb0).more hb0.size)
    have HEQ := Lib.hid HE
    clear h hr HE HF hn hw hp
    go_enter Try.func40, Try.ntmps40
    go_wp2_with fail
    rw [← HEQ.out]
    refine (implIsBranch_if _ zs _ true H0.out HN0.out HWW.out HP.out).mono ?_
    rintro e w1 ⟨rfl, hb1⟩
    have cb1 : w1.cell? ⟨w.heap.size, 0, none⟩ = some (.slice A n c) := by rw [hb1.cell (p := ⟨w.heap.size, 0, none⟩) hq0.2]; exact hq0.1
    have H1 := Lib.hid ((H0.out.below hb1).more hb1.size)
    have B1 := Lib.hid (hb0.trans (hb1.mono hb0.size))
    have hw1 : w.heap.size < w1.heap.size := by have := hq0.2; have := hb1.size; omega
    clear hb1 hb0 HEQ hq0
    go_wp2_with fail
    refine (conductor_any _ zs w1 H1.out HN0.out HP.out).mono ?_
    rintro e w1' ⟨rfl, hb1'⟩
    have B2 := Lib.hid (B1.out.trans (hb1'.mono B1.out.size))
    clear hb1' cb1 hlim
    generalize cdB zs = cc at *
    go_wp2_with fail
    go_ret2
    exact AnsIC.empty (by rw [E.out.1]) (by rw [E.out.2]) B2.out
end Go.Proofs.Ytjgidalmgoifgaa
