/- Unloading, plain mathematics: rises, by searching through a tree. Conditions: stated at each theorem. -/
import Derived.Test.YtohbgfmjnanlkaaUtM
namespace Go.Proofs.Ytohbgfmjnanlkaa
set_option linter.unusedVariables false
set_option linter.unusedSimpArgs false

/-- A rise with that of a point behind it taken in: top, bottom and rest. -/
def acR (r o : Int × Int × Int) : Int × Int × Int := (r.1 * o.2.1 + o.1 * r.2.2, r.2.1 * o.2.1 - o.2.2 * r.2.2, r.2.2 * o.2.1)
theorem ac_comm (r a b : Int × Int × Int) : acR (acR r a) b = acR (acR r b) a := by
  unfold acR
  ext <;> simp only <;> grind
def rfN (M : Nat → Nat → Int) (J : Nat → Bool) (o : Nat → Int × Int × Int) (v : Nat) (f : Int) (r0 : Int × Int × Int) : Nat → Int × Int × Int
  | 0 => r0
  | m + 1 => if M v m = 1 ∧ (m : Int) ≠ f ∧ J m = true then acR (rfN M J o v f r0 m) (o m) else rfN M J o v f r0 m
theorem rfN_yes {M : Nat → Nat → Int} {J : Nat → Bool} {o : Nat → Int × Int × Int} {v : Nat} {f : Int} {r0 : Int × Int × Int} {m : Nat} (h : M v m = 1 ∧ (m : Int) ≠ f ∧ J m = true) : rfN M J o v f r0 (m + 1) = acR (rfN M J o v f r0 m) (o m) := if_pos h
theorem rfN_no {M : Nat → Nat → Int} {J : Nat → Bool} {o : Nat → Int × Int × Int} {v : Nat} {f : Int} {r0 : Int × Int × Int} {m : Nat} (h : ¬ (M v m = 1 ∧ (m : Int) ≠ f ∧ J m = true)) : rfN M J o v f r0 (m + 1) = rfN M J o v f r0 m := if_neg h
theorem rfN_congr {M : Nat → Nat → Int} {J J' : Nat → Bool} {o o' : Nat → Int × Int × Int} {v : Nat} {f : Int} {r0 : Int × Int × Int} : ∀ {m : Nat}, (∀ c, c < m → M v c = 1 → (c : Int) ≠ f → J c = J' c ∧ (J c = true → o c = o' c)) → rfN M J o v f r0 m = rfN M J' o' v f r0 m
  | 0, _ => rfl
  | m + 1, h => by
    have ih := rfN_congr (o := o) (o' := o') (r0 := r0) (m := m) (fun c hc => h c (by omega))
    by_cases hc : M v m = 1 ∧ (m : Int) ≠ f
    · have h1 := h m (by omega) hc.1 hc.2
      by_cases hj : J m = true
      · rw [rfN_yes ⟨hc.1, hc.2, hj⟩, rfN_yes ⟨hc.1, hc.2, by rw [← h1.1]; exact hj⟩, ih, h1.2 hj]
      · rw [rfN_no (fun h2 => hj h2.2.2), rfN_no (fun h2 => hj (by rw [h1.1]; exact h2.2.2)), ih]
    · rw [rfN_no (fun h2 => hc ⟨h2.1, h2.2.1⟩), rfN_no (fun h2 => hc ⟨h2.1, h2.2.1⟩), ih]
def riF (M : Nat → Nat → Int) (e : Nat → Int) (J : Nat → Bool) (n : Nat) : Nat → Nat → Int → Int × Int × Int
  | 0, v, _ => (-(e v), -(M v v), 1)
  | k + 1, v, f => rfN M J (fun x => riF M e J n k x (v : Int)) v f (-(e v), -(M v v), 1) n
/-- What the matrix is to be. -/
structure MX (n : Nat) (M : Nat → Nat → Int) (A : Nat → Nat → Prop) (z : Nat → Int) : Prop where
  yes : ∀ u v, u < n → v < n → A u v → M u v = 1
  no : ∀ u v, u < n → v < n → u ≠ v → ¬ A u v → M u v = 0
  sym : ∀ u v, u < n → v < n → A u v → A v u
  neg : ∀ v, v < n → M v v ≤ -1
  zp : ∀ v, v < n → 1 ≤ z v
  zx : ∀ v, v < n → 1 ≤ -sgC (fun k => M v k * z k) n
theorem MX.iff {n : Nat} {M : Nat → Nat → Int} {A : Nat → Nat → Prop} {z : Nat → Int} (h : MX n M A z) {u v : Nat} (hu : u < n) (hv : v < n) (h1 : M u v = 1) : A u v := by
  apply Classical.byContradiction
  intro ha
  by_cases e : u = v
  · subst e; have := h.neg u hu; omega
  · have := h.no u v hu hv e ha; omega
variable {n : Nat} {M : Nat → Nat → Int} {A : Nat → Nat → Prop} {z : Nat → Int} {sd : Nat → Int → Nat → Bool} {mu : Nat → Int → Nat} {K : Nat}
theorem ri_stable (hM : MX n M A z) (hT : TB n A sd mu K) (e : Nat → Int) (J : Nat → Bool) : ∀ k v f, v < n → Vf n A v f → mu v f ≤ k → riF M e J n (k + 1) v f = riF M e J n k v f
  | 0, v, f, hv, hf, hm => by
    show rfN _ _ _ _ _ _ n = _
    have H : ∀ m, m ≤ n → rfN M J (fun x => riF M e J n 0 x (v : Int)) v f (-(e v), -(M v v), 1) m = (-(e v), -(M v v), 1) := by
      intro m
      induction m with
      | zero => intro _; rfl
      | succ m ih =>
        intro hmn
        rw [rfN_no, ih (by omega)]
        rintro ⟨h1, h2, _⟩
        have := hT.less v f m hv hf (by omega) (hM.iff hv (by omega) h1) h2
        omega
    exact H n (Nat.le_refl n)
  | k + 1, v, f, hv, hf, hm => by
    show rfN _ _ _ _ _ _ n = rfN _ _ _ _ _ _ n
    refine rfN_congr fun c hc h1 h2 => ⟨rfl, fun _ => ?_⟩
    have ha := hM.iff hv hc h1
    have hl := hT.less v f c hv hf hc ha h2
    exact ri_stable hM hT e J k c v hc (.inr ⟨v, rfl, hv, ha⟩) (by omega)
/-- The rise of a point, seen from f. -/
def riR (M : Nat → Nat → Int) (e : Nat → Int) (J : Nat → Bool) (n K : Nat) (v : Nat) (f : Int) : Int × Int × Int := riF M e J n K v f
theorem ri_eq (hM : MX n M A z) (hT : TB n A sd mu K) (e : Nat → Int) (J : Nat → Bool) {v : Nat} {f : Int} (hv : v < n) (hf : Vf n A v f) : riR M e J n K v f = rfN M J (fun x => riR M e J n K x (v : Int)) v f (-(e v), -(M v v), 1) n := by
  unfold riR
  rw [← ri_stable hM hT e J K v f hv hf (hT.top v f hv)]
  rfl
/-- The sum over the points that meet v. -/
theorem nb_sum (hM : MX n M A z) (y : Nat → Int) {v : Nat} (hv : v < n) : sgC (fun c => if M v c = 1 then y c else 0) n = sgC (fun c => M v c * y c) n + -(M v v) * y v := by
  have h1 : sgC (fun c => if M v c = 1 then y c else 0) n = sgC (fun c => M v c * y c + (if v = c then 1 else 0) * (-(M v v) * y c)) n := sgC_congr fun c hc => by
    by_cases e : v = c
    · subst e
      have := hM.neg v hv
      rw [if_neg (by omega), if_pos rfl, Int.one_mul, Int.neg_mul]; omega
    · rw [if_neg e, Int.zero_mul, Int.add_zero]
      by_cases ha : A v c
      · rw [hM.yes v c hv hc ha]; simp
      · rw [hM.no v c hv hc e ha]; simp
  rw [h1, sgC_add, sgC_if_succ (fun c => -(M v v) * y c) v n hv]
/-- A lower bound, step by step. -/
theorem rf_low {o : Nat → Int × Int × Int} {J : Nat → Bool} {v : Nat} {f e d q : Int} {y : Nat → Int} : ∀ {m : Nat}, (∀ c, c < m → M v c = 1 ∧ (c : Int) ≠ f ∧ J c = true → 0 < (o c).2.1 ∧ 0 < (o c).2.2 ∧ q * (o c).1 + (o c).2.2 * y v ≤ (o c).2.1 * y c) →
    0 < (rfN M J o v f (-e, d, 1) m).2.2 ∧ (rfN M J o v f (-e, d, 1) m).2.2 * (d * y v - sgC (fun c => if M v c = 1 ∧ (c : Int) ≠ f ∧ J c = true then y c else 0) m + q * e) ≤ (rfN M J o v f (-e, d, 1) m).2.1 * y v - q * (rfN M J o v f (-e, d, 1) m).1
  | 0, _ => by
    refine ⟨by show (0 : Int) < 1; decide, ?_⟩
    show 1 * (d * y v - 0 + q * e) ≤ d * y v - q * -e
    rw [Int.mul_neg]; omega
  | m + 1, h => by
    have ih := rf_low (y := y) (q := q) (e := e) (d := d) (m := m) (fun c hc => h c (by omega))
    by_cases hc : M v m = 1 ∧ (m : Int) ≠ f ∧ J m = true
    · obtain ⟨h1, h2, h3⟩ := h m (by omega) hc
      rw [rfN_yes hc]
      obtain ⟨i1, i2⟩ := ih
      generalize rfN M J o v f (-e, d, 1) m = r at *
      obtain ⟨t, b, s⟩ := r
      rcases hO : o m with ⟨t', b', s'⟩
      rw [hO] at h1 h2 h3
      simp only [acR] at *
      refine ⟨Int.mul_pos i1 h1, ?_⟩
      show s * b' * (d * y v - (sgC _ m + (if M v m = 1 ∧ (m : Int) ≠ f ∧ J m = true then y m else 0)) + q * e) ≤ _
      rw [if_pos hc]
      generalize sgC _ m = X at *
      have e1 := Int.mul_le_mul_of_nonneg_right i2 (Int.le_of_lt h1)
      have e2 := Int.mul_le_mul_of_nonneg_right h3 (Int.le_of_lt i1)
      grind
    · rw [rfN_no hc]
      refine ⟨ih.1, ?_⟩
      show _ * (d * y v - (sgC _ m + (if M v m = 1 ∧ (m : Int) ≠ f ∧ J m = true then y m else 0)) + q * e) ≤ _
      rw [if_neg hc, Int.add_zero]
      exact ih.2
/-- The joined points that meet v, but f, are not more than all. -/
theorem nb_le (hM : MX n M A z) (J : Nat → Bool) {v : Nat} {f : Int} (hv : v < n) (hf : Vf n A v f) {y : Nat → Int} (hy : ∀ c, c < n → M v c = 1 → J c = false → 0 ≤ y c) :
    sgC (fun c => if M v c = 1 ∧ (c : Int) ≠ f ∧ J c = true then y c else 0) n + (if f = -1 then 0 else y f.toNat) ≤ sgC (fun c => if M v c = 1 then y c else 0) n := by
  rcases hf with rfl | ⟨u, rfl, hu, ha⟩
  · rw [if_pos rfl, Int.add_zero]
    refine sgC_mono fun c hc => ?_
    by_cases h1 : M v c = 1
    · rw [if_pos h1]
      by_cases h2 : J c = true
      · rw [if_pos ⟨h1, by omega, h2⟩]; exact Int.le_refl _
      · rw [if_neg (fun h => h2 h.2.2)]; exact hy c hc h1 (by simpa using h2)
    · rw [if_neg (fun h => h1 h.1), if_neg h1]; exact Int.le_refl _
  · rw [if_neg (by omega), Int.toNat_natCast]
    have h0 := sgC_if_succ y u n hu
    rw [← h0, ← sgC_add]
    refine sgC_mono fun c hc => ?_
    by_cases e : u = c
    · subst e
      rw [if_neg (fun h => h.2.1 rfl), if_pos rfl]
      rw [if_pos (hM.yes v u hv hu (hM.sym u v hu hv ha))]; omega
    · rw [if_neg e, Int.zero_mul, Int.add_zero]
      by_cases h1 : M v c = 1
      · rw [if_pos h1]
        by_cases h2 : J c = true
        · rw [if_pos ⟨h1, by omega, h2⟩]; exact Int.le_refl _
        · rw [if_neg (fun h => h2 h.2.2)]; exact hy c hc h1 (by simpa using h2)
      · rw [if_neg (fun h => h1 h.1), if_neg h1]; exact Int.le_refl _
theorem sgC_more {F : Nat → Int} {m : Nat} : ∀ {n : Nat}, m ≤ n → (∀ i, i < n → 0 ≤ F i) → sgC F m ≤ sgC F n
  | 0, h, _ => by
    obtain rfl : m = 0 := by omega
    exact Int.le_refl _
  | n + 1, h, hF => by
    by_cases e : m = n + 1
    · subst e; exact Int.le_refl _
    · have h1 := sgC_more (F := F) (m := m) (n := n) (by omega) (fun i hi => hF i (by omega))
      have h2 := hF n (by omega)
      show sgC F m ≤ sgC F n + F n
      omega
/-- Bottoms and rests are positive, on the way, too. -/
theorem ri_pos (hM : MX n M A z) (hT : TB n A sd mu K) (e : Nat → Int) (J : Nat → Bool) : ∀ N v f, v < n → Vf n A v f → mu v f < N →
    (∀ m, m ≤ n → 0 < (rfN M J (fun x => riR M e J n K x (v : Int)) v f (-(e v), -(M v v), 1) m).2.1 ∧ 0 < (rfN M J (fun x => riR M e J n K x (v : Int)) v f (-(e v), -(M v v), 1) m).2.2) ∧
    0 < (riR M e J n K v f).2.1 ∧ 0 < (riR M e J n K v f).2.2 ∧ ∀ u : Nat, f = (u : Int) → (riR M e J n K v f).2.2 * (z u + 1) ≤ (riR M e J n K v f).2.1 * z v
  | 0, v, f, _, _, h => by omega
  | N + 1, v, f, hv, hf, hN => by
    have hz0 := hM.zp v hv
    have hzs := nb_sum hM z hv
    have hzx := hM.zx v hv
    have hnb := nb_le hM J hv hf (y := z) (fun c hc _ _ => by have := hM.zp c hc; omega)
    have key : ∀ m, m ≤ n → 0 < (rfN M J (fun x => riR M e J n K x (v : Int)) v f (-(e v), -(M v v), 1) m).2.2 ∧ (rfN M J (fun x => riR M e J n K x (v : Int)) v f (-(e v), -(M v v), 1) m).2.2 * (1 + (if f = -1 then 0 else z f.toNat)) ≤ (rfN M J (fun x => riR M e J n K x (v : Int)) v f (-(e v), -(M v v), 1) m).2.1 * z v := by
      intro m hm
      have h1 := rf_low (M := M) (J := J) (o := fun x => riR M e J n K x (v : Int)) (v := v) (f := f) (e := e v) (d := -(M v v)) (q := 0) (y := z) (m := m) (fun c hc h => by
        have ha := hM.iff hv (by omega) h.1
        have hl := hT.less v f c hv hf (by omega) ha h.2.1
        have ih := ri_pos hM hT e J N c (v : Int) (by omega) (.inr ⟨v, rfl, hv, ha⟩) (by omega)
        refine ⟨ih.2.1, ih.2.2.1, ?_⟩
        have h2 := ih.2.2.2 v rfl
        have h3 := ih.2.2.1
        rw [Int.mul_add, Int.mul_one] at h2
        simp only [Int.zero_mul]
        omega)
      refine ⟨h1.1, ?_⟩
      have hmore := sgC_more (F := fun c => if M v c = 1 ∧ (c : Int) ≠ f ∧ J c = true then z c else 0) hm (fun i hi => by
        have := hM.zp i hi
        show 0 ≤ if _ then z i else 0
        split <;> omega)
      obtain ⟨h2, h3⟩ := h1
      generalize (rfN M J (fun x => riR M e J n K x (v : Int)) v f (-(e v), -(M v v), 1) m) = r at *
      simp only [Int.zero_mul, Int.add_zero, Int.sub_zero] at h3
      have h4 : r.2.2 * (1 + (if f = -1 then 0 else z f.toNat)) ≤ r.2.2 * (-(M v v) * z v - sgC (fun c => if M v c = 1 ∧ (c : Int) ≠ f ∧ J c = true then z c else 0) m) := Int.mul_le_mul_of_nonneg_left (by omega) (by omega)
      omega
    have pos : ∀ r : Int × Int × Int, 0 < r.2.2 → r.2.2 * (1 + (if f = -1 then 0 else z f.toNat)) ≤ r.2.1 * z v → 0 < r.2.1 := by
      intro r h1 h2
      have hzf : 0 ≤ (if f = -1 then 0 else z f.toNat) := by
        rcases hf with rfl | ⟨u, rfl, hu, _⟩
        · simp
        · rw [if_neg (by omega), Int.toNat_natCast]; have := hM.zp u hu; omega
      generalize (if f = -1 then 0 else z f.toNat) = g at *
      have h3 : 0 < r.2.2 * (1 + g) := Int.mul_pos h1 (by omega)
      apply Classical.byContradiction
      intro h4
      have h5 : r.2.1 * z v ≤ 0 * z v := Int.mul_le_mul_of_nonneg_right (by omega) (by omega)
      omega
    refine ⟨fun m hm => ⟨pos _ (key m hm).1 (key m hm).2, (key m hm).1⟩, ?_⟩
    have kn := key n (Nat.le_refl n)
    rw [← ri_eq hM hT e J hv hf] at kn
    refine ⟨pos _ kn.1 kn.2, kn.1, fun u hu => ?_⟩
    subst hu
    have := kn.2
    rw [if_neg (by omega), Int.toNat_natCast] at this
    rw [Int.add_comm]; exact this
/-- Whatever leaves no excess of joined points negative is not less than the rises. -/
theorem ri_low (hM : MX n M A z) (hT : TB n A sd mu K) (e : Nat → Int) (J : Nat → Bool) (y : Nat → Int) (q : Int) (hy : ∀ c, c < n → J c = false → 0 ≤ y c) (hJ : ∀ v, v < n → J v = true → 0 ≤ q * e v - sgC (fun k => M v k * y k) n) :
    ∀ N v f, v < n → Vf n A v f → mu v f < N → 0 ≤ q * e v - sgC (fun k => M v k * y k) n → q * (riR M e J n K v f).1 + (riR M e J n K v f).2.2 * (if f = -1 then 0 else y f.toNat) ≤ (riR M e J n K v f).2.1 * y v
  | 0, v, f, _, _, h, _ => by omega
  | N + 1, v, f, hv, hf, hN, he => by
    have hys := nb_sum hM y hv
    have hnb := nb_le hM J hv hf (y := y) (fun c hc _ hj => hy c hc hj)
    have h1 := rf_low (M := M) (J := J) (o := fun x => riR M e J n K x (v : Int)) (v := v) (f := f) (e := e v) (d := -(M v v)) (q := q) (y := y) (m := n) (fun c hc h => by
      have ha := hM.iff hv hc h.1
      have hl := hT.less v f c hv hf hc ha h.2.1
      have hp := ri_pos hM hT e J N c (v : Int) hc (.inr ⟨v, rfl, hv, ha⟩) (by omega)
      have ih := ri_low hM hT e J y q hy hJ N c (v : Int) hc (.inr ⟨v, rfl, hv, ha⟩) (by omega) (hJ c hc h.2.2)
      rw [if_neg (by omega), Int.toNat_natCast] at ih
      exact ⟨hp.2.1, hp.2.2.1, ih⟩)
    rw [← ri_eq hM hT e J hv hf] at h1
    obtain ⟨h2, h3⟩ := h1
    generalize riR M e J n K v f = r at *
    generalize (if f = -1 then 0 else y f.toNat) = g at *
    have h4 : r.2.2 * g ≤ r.2.2 * (-(M v v) * y v - sgC (fun c => if M v c = 1 ∧ (c : Int) ≠ f ∧ J c = true then y c else 0) n + q * e v) := Int.mul_le_mul_of_nonneg_left (by omega) (by omega)
    omega
/-- A rise reads of the joined points those on its side alone. -/
theorem ri_loc (hM : MX n M A z) (hT : TB n A sd mu K) (e : Nat → Int) (J J' : Nat → Bool) : ∀ N v f, v < n → Vf n A v f → mu v f < N → (∀ x, x < n → x ≠ v → sd v f x = true → J x = J' x) → riR M e J n K v f = riR M e J' n K v f
  | 0, v, f, _, _, h, _ => by omega
  | N + 1, v, f, hv, hf, hN, hx => by
    rw [ri_eq hM hT e J hv hf, ri_eq hM hT e J' hv hf]
    refine rfN_congr fun c hc h1 h2 => ?_
    have ha := hM.iff hv hc h1
    have hl := hT.less v f c hv hf hc ha h2
    have hcv : c ≠ v := fun e => by subst e; exact hT.irr c hc ha
    have hvf : Vf n A c (v : Int) := .inr ⟨v, rfl, hv, ha⟩
    refine ⟨hx c hc hcv (hT.sub v f c hv hf hc ha h2 c (hT.self c v hc hvf)), fun _ => ?_⟩
    refine ri_loc hM hT e J J' N c (v : Int) hc hvf (by omega) fun x hxn hxc hxs => ?_
    have hxv : x ≠ v := fun e => by subst e; rw [hT.off x c hv hc ha] at hxs; cases hxs
    exact hx x hxn hxv (hT.sub v f c hv hf hc ha h2 x hxs)
theorem rf_out {J : Nat → Bool} {o : Nat → Int × Int × Int} {v u : Nat} {r0 : Int × Int × Int} (h1 : M v u = 1) (h2 : J u = true) : ∀ m, (m ≤ u → rfN M J o v (-1) r0 m = rfN M J o v (u : Int) r0 m) ∧ (u < m → rfN M J o v (-1) r0 m = acR (rfN M J o v (u : Int) r0 m) (o u))
  | 0 => ⟨fun _ => rfl, fun h => by omega⟩
  | m + 1 => by
    have ih := rf_out (J := J) (o := o) (r0 := r0) h1 h2 m
    by_cases e : m = u
    · subst e
      refine ⟨fun h => by omega, fun _ => ?_⟩
      rw [rfN_yes ⟨h1, by omega, h2⟩, rfN_no (fun h => h.2.1 rfl), ih.1 (Nat.le_refl m)]
    · by_cases hc : M v m = 1 ∧ J m = true
      · rw [rfN_yes ⟨hc.1, by omega, hc.2⟩, rfN_yes ⟨hc.1, by omega, hc.2⟩]
        refine ⟨fun h => by rw [ih.1 (by omega)], fun h => ?_⟩
        rw [ih.2 (by omega), ac_comm]
      · rw [rfN_no (fun h => hc ⟨h.1, h.2.2⟩), rfN_no (fun h => hc ⟨h.1, h.2.2⟩)]
        exact ⟨fun h => ih.1 (by omega), fun h => ih.2 (by omega)⟩
theorem ri_root (hM : MX n M A z) (hT : TB n A sd mu K) (e : Nat → Int) {J : Nat → Bool} {v u : Nat} (hv : v < n) (hu : u < n) (ha : A v u) (hJ : J u = true) : riR M e J n K v (-1) = acR (riR M e J n K v (u : Int)) (riR M e J n K u (v : Int)) := by
  rw [ri_eq hM hT e J hv (.inl rfl), ri_eq hM hT e J hv (.inr ⟨u, rfl, hu, hT.sym v u hv hu ha⟩)]
  exact (rf_out (hM.yes v u hv hu ha) hJ n).2 hu
/-- Points that meet and are joined: one bottom; and what the top of one is by that of the other. -/
theorem ri_two (hM : MX n M A z) (hT : TB n A sd mu K) (e : Nat → Int) {J : Nat → Bool} {v u : Nat} (hv : v < n) (hu : u < n) (ha : A v u) (hJv : J v = true) (hJu : J u = true) :
    (riR M e J n K u (-1)).2.1 = (riR M e J n K v (-1)).2.1 ∧ (riR M e J n K u (v : Int)).2.1 * (riR M e J n K u (-1)).1 = (riR M e J n K v (-1)).2.1 * (riR M e J n K u (v : Int)).1 + (riR M e J n K u (v : Int)).2.2 * (riR M e J n K v (-1)).1 := by
  have h1 := ri_root hM hT e (J := J) hv hu ha hJu
  have h2 := ri_root hM hT e (J := J) hu hv (hT.sym v u hv hu ha) hJv
  rw [h1, h2]
  generalize riR M e J n K v (u : Int) = a
  generalize riR M e J n K u (v : Int) = b
  unfold acR
  simp only
  constructor <;> grind
theorem rf_sum {o : Nat → Int × Int × Int} {J : Nat → Bool} {v : Nat} {e d T B : Int} {t : Nat → Int} : ∀ {m : Nat}, (∀ c, c < m → M v c = 1 ∧ (c : Int) ≠ -1 ∧ J c = true → (o c).2.1 * t c = B * (o c).1 + (o c).2.2 * T) →
    (rfN M J o v (-1) (-e, d, 1) m).2.2 * sgC (fun c => if M v c = 1 ∧ (c : Int) ≠ -1 ∧ J c = true then t c else 0) m = ((rfN M J o v (-1) (-e, d, 1) m).2.2 * d - (rfN M J o v (-1) (-e, d, 1) m).2.1) * T + ((rfN M J o v (-1) (-e, d, 1) m).1 + (rfN M J o v (-1) (-e, d, 1) m).2.2 * e) * B
  | 0, _ => by
    show 1 * 0 = (1 * d - d) * T + (-e + 1 * e) * B
    rw [Int.one_mul, Int.one_mul, Int.sub_self, Int.one_mul, Int.add_left_neg]; simp
  | m + 1, h => by
    have ih := rf_sum (m := m) (T := T) (B := B) (e := e) (d := d) (t := t) (fun c hc => h c (by omega))
    by_cases hc : M v m = 1 ∧ (m : Int) ≠ -1 ∧ J m = true
    · have h1 := h m (by omega) hc
      rw [rfN_yes hc]
      show _ * (sgC _ m + (if M v m = 1 ∧ (m : Int) ≠ -1 ∧ J m = true then t m else 0)) = _
      rw [if_pos hc]
      generalize rfN M J o v (-1) (-e, d, 1) m = r at *
      generalize sgC _ m = X at *
      rcases hO : o m with ⟨t', b', s'⟩
      obtain ⟨tt, b, s⟩ := r
      rw [hO] at h1
      simp only [acR] at *
      grind
    · rw [rfN_no hc]
      show _ * (sgC _ m + (if M v m = 1 ∧ (m : Int) ≠ -1 ∧ J m = true then t m else 0)) = _
      rw [if_neg hc, Int.add_zero]
      exact ih
/-- The rises of joined points bring the excess of each of them to 0. -/
theorem ri_exact (hM : MX n M A z) (hT : TB n A sd mu K) (e : Nat → Int) {J : Nat → Bool} {v : Nat} (hv : v < n) (hJv : J v = true) :
    sgC (fun c => if M v c = 1 ∧ (c : Int) ≠ -1 ∧ J c = true then (riR M e J n K c (-1)).1 else 0) n = -(M v v) * (riR M e J n K v (-1)).1 + e v * (riR M e J n K v (-1)).2.1 := by
  have h1 := rf_sum (M := M) (J := J) (o := fun x => riR M e J n K x (v : Int)) (v := v) (e := e v) (d := -(M v v)) (T := (riR M e J n K v (-1)).1) (B := (riR M e J n K v (-1)).2.1) (t := fun c => (riR M e J n K c (-1)).1) (m := n) (fun c hc h => by
    have ha := hM.iff hv hc h.1
    exact (ri_two hM hT e hv hc ha hJv h.2.2).2)
  rw [← ri_eq hM hT e J hv (.inl rfl)] at h1
  have hp := ri_pos hM hT e J (mu v (-1) + 1) v (-1) hv (.inl rfl) (by omega)
  generalize riR M e J n K v (-1) = r at *
  generalize sgC _ n = X at *
  have h2 : r.2.2 * (X - (-(M v v) * r.1 + e v * r.2.1)) = 0 := by grind
  have h3 := Int.mul_eq_zero.1 h2
  have := hp.2.2.1
  omega
end Go.Proofs.Ytohbgfmjnanlkaa
