/- Unloading, plain mathematics: bounds of tops, bottoms and rests. Conditions: stated at each theorem. -/
import Derived.Test.YtohbgfmjnanlkaaUrM
namespace Go.Proofs.Ytohbgfmjnanlkaa
set_option linter.unusedVariables false
set_option linter.unusedSimpArgs false

/-- The product of F over the numbers less than n. -/
def pdC (F : Nat → Int) : Nat → Int
  | 0 => 1
  | n + 1 => pdC F n * F n
theorem pdC_congr {F G : Nat → Int} : ∀ {n : Nat}, (∀ i, i < n → F i = G i) → pdC F n = pdC G n
  | 0, _ => rfl
  | n + 1, h => by
    show pdC F n * F n = pdC G n * G n
    rw [pdC_congr (n := n) (fun i hi => h i (by omega)), h n (by omega)]
theorem pdC_mul (F G : Nat → Int) : ∀ n, pdC (fun i => F i * G i) n = pdC F n * pdC G n
  | 0 => rfl
  | n + 1 => by
    show pdC _ n * (F n * G n) = (pdC F n * F n) * (pdC G n * G n)
    rw [pdC_mul F G n]; grind
theorem pdC_pos {F : Nat → Int} : ∀ {n : Nat}, (∀ i, i < n → 1 ≤ F i) → 1 ≤ pdC F n
  | 0, _ => by show (1 : Int) ≤ 1; omega
  | n + 1, h => by
    have h1 := pdC_pos (F := F) (n := n) (fun i hi => h i (by omega))
    have h2 := h n (by omega)
    show 1 ≤ pdC F n * F n
    have : 1 * 1 ≤ pdC F n * F n := Int.mul_le_mul h1 h2 (by omega) (by omega)
    omega
theorem pdC_mono {F G : Nat → Int} : ∀ {n : Nat}, (∀ i, i < n → 1 ≤ F i ∧ F i ≤ G i) → pdC F n ≤ pdC G n
  | 0, _ => Int.le_refl _
  | n + 1, h => by
    have h1 := pdC_mono (F := F) (G := G) (n := n) (fun i hi => h i (by omega))
    have h2 := h n (by omega)
    have h3 := pdC_pos (F := F) (n := n) (fun i hi => (h i (by omega)).1)
    show pdC F n * F n ≤ pdC G n * G n
    exact Int.mul_le_mul h1 h2.2 (by omega) (by omega)
/-- The product and the sum over a set. -/
def pdS (d : Nat → Int) (n : Nat) (B : Nat → Bool) : Int := pdC (fun x => if B x = true then d x else 1) n
def sgS (E : Nat → Int) (n : Nat) (B : Nat → Bool) : Int := sgC (fun x => if B x = true then E x else 0) n
theorem pdS_or {d : Nat → Int} {n : Nat} {B C : Nat → Bool} (h : ∀ x, C x = true → B x = false) : pdS d n (fun x => B x || C x) = pdS d n B * pdS d n C := by
  unfold pdS
  rw [← pdC_mul]
  refine pdC_congr fun x _ => ?_
  show (if (B x || C x) = true then d x else 1) = (if B x = true then d x else 1) * (if C x = true then d x else 1)
  have hx := h x
  generalize B x = b at *
  generalize C x = c at *
  cases b <;> cases c <;> simp at hx ⊢
theorem sgS_or {E : Nat → Int} {n : Nat} {B C : Nat → Bool} (h : ∀ x, C x = true → B x = false) : sgS E n (fun x => B x || C x) = sgS E n B + sgS E n C := by
  unfold sgS
  rw [← sgC_add]
  refine sgC_congr fun x _ => ?_
  show (if (B x || C x) = true then E x else 0) = (if B x = true then E x else 0) + (if C x = true then E x else 0)
  have hx := h x
  generalize B x = b at *
  generalize C x = c at *
  cases b <;> cases c <;> simp at hx ⊢
theorem pdS_pos {d : Nat → Int} {n : Nat} (hd : ∀ x, x < n → 1 ≤ d x) (B : Nat → Bool) : 1 ≤ pdS d n B := pdC_pos fun i hi => by
  have := hd i hi
  split <;> omega
theorem pdS_le {d : Nat → Int} {n : Nat} (hd : ∀ x, x < n → 1 ≤ d x) {B C : Nat → Bool} (h : ∀ x, B x = true → C x = true) : pdS d n B ≤ pdS d n C := pdC_mono fun i hi => by
  have := hd i hi
  have hx := h i
  generalize B i = b at *
  generalize C i = c at *
  cases b <;> cases c <;> simp at hx ⊢ <;> omega
theorem pdS_all {d : Nat → Int} {n : Nat} (hd : ∀ x, x < n → 1 ≤ d x) (B : Nat → Bool) : pdS d n B ≤ pdC d n := pdC_mono fun i hi => by
  have := hd i hi
  split <;> omega
theorem sgS_nn {E : Nat → Int} {n : Nat} (hE : ∀ x, x < n → 0 ≤ E x) (B : Nat → Bool) : 0 ≤ sgS E n B := sgC_nn fun i hi => by
  have := hE i hi
  split <;> omega
theorem sgS_le {E : Nat → Int} {n : Nat} (hE : ∀ x, x < n → 0 ≤ E x) {B C : Nat → Bool} (h : ∀ x, B x = true → C x = true) : sgS E n B ≤ sgS E n C := sgC_mono fun i hi => by
  have := hE i hi
  have hx := h i
  generalize B i = b at *
  generalize C i = c at *
  cases b <;> cases c <;> simp at hx ⊢ <;> omega
theorem sgS_all {E : Nat → Int} {n : Nat} (hE : ∀ x, x < n → 0 ≤ E x) (B : Nat → Bool) : sgS E n B ≤ sgC E n := sgC_mono fun i hi => by
  have := hE i hi
  split <;> omega
/-- A rise within the bounds of a set. -/
structure RB (d E : Nat → Int) (n : Nat) (B : Nat → Bool) (r : Int × Int × Int) : Prop where
  b : 0 < r.2.1 ∧ r.2.1 ≤ pdS d n B
  s : 0 < r.2.2 ∧ r.2.2 ≤ pdS d n B
  t : -(sgS E n B * pdS d n B) ≤ r.1 ∧ r.1 ≤ sgS E n B * pdS d n B
theorem mul_in {a b X Y : Int} (ha : -X ≤ a ∧ a ≤ X) (hb : 0 < b ∧ b ≤ Y) (hX : 0 ≤ X) : -(X * Y) ≤ a * b ∧ a * b ≤ X * Y := by
  have h1 := Int.mul_le_mul_of_nonneg_right ha.2 (Int.le_of_lt hb.1)
  have h2 := Int.mul_le_mul_of_nonneg_right ha.1 (Int.le_of_lt hb.1)
  have h3 := Int.mul_le_mul_of_nonneg_left hb.2 hX
  rw [Int.neg_mul] at h2
  omega
theorem mul_inp {a b X Y : Int} (ha : 0 < a ∧ a ≤ X) (hb : 0 < b ∧ b ≤ Y) : 0 < a * b ∧ a * b ≤ X * Y :=
  ⟨Int.mul_pos ha.1 hb.1, Int.mul_le_mul ha.2 hb.2 (Int.le_of_lt hb.1) (by omega)⟩
/-- The products that are computed on the way. -/
structure RW (C D : Int) (r o : Int × Int × Int) : Prop where
  tb : -C ≤ r.1 * o.2.1 ∧ r.1 * o.2.1 ≤ C
  ts : -C ≤ o.1 * r.2.2 ∧ o.1 * r.2.2 ≤ C
  t : -C ≤ r.1 * o.2.1 + o.1 * r.2.2 ∧ r.1 * o.2.1 + o.1 * r.2.2 ≤ C
  bb : 0 < r.2.1 * o.2.1 ∧ r.2.1 * o.2.1 ≤ D
  ss : 0 < o.2.2 * r.2.2 ∧ o.2.2 * r.2.2 ≤ D
  sb : 0 < r.2.2 * o.2.1 ∧ r.2.2 * o.2.1 ≤ D
theorem RB.act {d E : Nat → Int} {n : Nat} {B C : Nat → Bool} {r o : Int × Int × Int} (hd : ∀ x, x < n → 1 ≤ d x) (hE : ∀ x, x < n → 0 ≤ E x) (h : ∀ x, C x = true → B x = false) (hr : RB d E n B r) (ho : RB d E n C o) (hpos : 0 < (acR r o).2.1) :
    RB d E n (fun x => B x || C x) (acR r o) ∧ RW (sgC E n * pdC d n) (pdC d n) r o := by
  have hp := pdS_or (d := d) (n := n) h
  have hs := sgS_or (E := E) (n := n) h
  have p1 := pdS_pos hd B
  have p2 := pdS_pos hd C
  have q1 := sgS_nn hE B
  have q2 := sgS_nn hE C
  have pa := pdS_all hd (fun x => B x || C x)
  have qa := sgS_all hE (fun x => B x || C x)
  obtain ⟨⟨b1, b2⟩, ⟨s1, s2⟩, t1, t2⟩ := hr
  obtain ⟨⟨c1, c2⟩, ⟨u1, u2⟩, v1, v2⟩ := ho
  have m1 := mul_in (X := sgS E n B * pdS d n B) ⟨t1, t2⟩ ⟨c1, c2⟩ (Int.mul_nonneg q1 (by omega))
  have m2 := mul_in (X := sgS E n C * pdS d n C) ⟨v1, v2⟩ ⟨s1, s2⟩ (Int.mul_nonneg q2 (by omega))
  have m3 := mul_inp ⟨b1, b2⟩ ⟨c1, c2⟩
  have m4 := mul_inp ⟨u1, u2⟩ ⟨s1, s2⟩
  have m5 := mul_inp ⟨s1, s2⟩ ⟨c1, c2⟩
  unfold acR at hpos ⊢
  simp only at hpos ⊢
  rw [hp] at pa
  rw [hs] at qa
  have e1 : sgS E n B * pdS d n B * pdS d n C = sgS E n B * (pdS d n B * pdS d n C) := Int.mul_assoc _ _ _
  have e2 : sgS E n C * pdS d n C * pdS d n B = sgS E n C * (pdS d n B * pdS d n C) := by rw [Int.mul_assoc, Int.mul_comm (pdS d n C)]
  have e3 : pdS d n C * pdS d n B = pdS d n B * pdS d n C := Int.mul_comm _ _
  rw [e1] at m1; rw [e2] at m2; rw [e3] at m4
  have hPP : 1 ≤ pdS d n B * pdS d n C := by rw [← hp]; exact pdS_pos hd _
  have k1 : 0 ≤ sgS E n B * (pdS d n B * pdS d n C) := Int.mul_nonneg q1 (by omega)
  have k2 : 0 ≤ sgS E n C * (pdS d n B * pdS d n C) := Int.mul_nonneg q2 (by omega)
  have k3 : (sgS E n B + sgS E n C) * (pdS d n B * pdS d n C) = sgS E n B * (pdS d n B * pdS d n C) + sgS E n C * (pdS d n B * pdS d n C) := Int.add_mul _ _ _
  have k4 : (sgS E n B + sgS E n C) * (pdS d n B * pdS d n C) ≤ sgC E n * pdC d n := Int.mul_le_mul qa pa (by omega) (by omega)
  refine ⟨⟨⟨hpos, by rw [hp]; show r.2.1 * o.2.1 - o.2.2 * r.2.2 ≤ _; omega⟩, ⟨m5.1, by rw [hp]; exact m5.2⟩, ?_⟩, ⟨by omega, by omega, by omega, ⟨m3.1, by omega⟩, ⟨m4.1, by omega⟩, ⟨m5.1, by omega⟩⟩⟩
  rw [hp, hs, k3]
  show _ ≤ r.1 * o.2.1 + o.1 * r.2.2 ∧ r.1 * o.2.1 + o.1 * r.2.2 ≤ _
  omega
variable {n : Nat} {M : Nat → Nat → Int} {A : Nat → Nat → Prop} {z : Nat → Int} {sd : Nat → Int → Nat → Bool} {mu : Nat → Int → Nat} {K : Nat}
theorem ri_bnd (hM : MX n M A z) (hT : TB n A sd mu K) {e E : Nat → Int} (he : ∀ x, x < n → -(E x) ≤ e x ∧ e x ≤ E x) (J : Nat → Bool) : ∀ N v f, v < n → Vf n A v f → mu v f < N →
    (∀ m, m ≤ n → ∃ B : Nat → Bool, (∀ x, B x = true → x < n → sd v f x = true) ∧ (∀ c, m ≤ c → c < n → M v c = 1 → (c : Int) ≠ f → ∀ x, x < n → sd c (v : Int) x = true → B x = false) ∧ RB (fun x => -(M x x)) E n B (rfN M J (fun x => riR M e J n K x (v : Int)) v f (-(e v), -(M v v), 1) m)) ∧
    RB (fun x => -(M x x)) E n (fun x => decide (x < n) && sd v f x) (riR M e J n K v f) ∧
    ∀ m, m < n → M v m = 1 ∧ (m : Int) ≠ f ∧ J m = true → RW (sgC E n * pdC (fun x => -(M x x)) n) (pdC (fun x => -(M x x)) n) (rfN M J (fun x => riR M e J n K x (v : Int)) v f (-(e v), -(M v v), 1) m) (riR M e J n K m (v : Int))
  | 0, v, f, _, _, h => by omega
  | N + 1, v, f, hv, hf, hN => by
    have hd : ∀ x, x < n → 1 ≤ -(M x x) := fun x hx => by have := hM.neg x hx; omega
    have hE : ∀ x, x < n → 0 ≤ E x := fun x hx => by have := he x hx; omega
    have hp := (ri_pos hM hT e J (N + 1) v f hv hf hN).1
    have key : ∀ m, m ≤ n → (∃ B : Nat → Bool, (∀ x, B x = true → x < n ∧ sd v f x = true) ∧ (∀ c, m ≤ c → c < n → M v c = 1 → (c : Int) ≠ f → ∀ x, x < n → sd c (v : Int) x = true → B x = false) ∧ RB (fun x => -(M x x)) E n B (rfN M J (fun x => riR M e J n K x (v : Int)) v f (-(e v), -(M v v), 1) m)) := by
      intro m
      induction m with
      | zero =>
        intro _
        refine ⟨fun x => decide (x = v), fun x hx => ?_, fun c _ hc h1 h2 x hx hs => ?_, ?_⟩
        · obtain rfl : x = v := by simpa using hx
          exact ⟨hv, hT.self x f hv hf⟩
        · have ha := hM.iff hv hc h1
          have := hT.off v c hv hc ha
          by_cases e : x = v
          · subst e; rw [this] at hs; cases hs
          · simp [e]
        · have e1 : pdS (fun x => -(M x x)) n (fun x => decide (x = v)) = -(M v v) := by
            unfold pdS
            have : ∀ k, k ≤ n → pdC (fun x => if decide (x = v) = true then -(M x x) else 1) k = if v < k then -(M v v) else 1 := by
              intro k
              induction k with
              | zero => intro _; rfl
              | succ k ih =>
                intro hk
                show pdC _ k * (if decide (k = v) = true then -(M k k) else 1) = _
                rw [ih (by omega)]
                by_cases e : k = v
                · subst e; simp
                · by_cases h : v < k
                  · rw [if_pos h, if_pos (show v < k + 1 by omega)]; simp [e]
                  · rw [if_neg h, if_neg (show ¬ v < k + 1 by omega)]; simp [e]
            rw [this n (Nat.le_refl n), if_pos hv]
          have e2 : sgS E n (fun x => decide (x = v)) = E v := by
            unfold sgS
            rw [sgC_one hv (fun i _ hi => by simp [hi])]; simp
          have h1 := hd v hv
          have h2 := he v hv
          have h3 := hE v hv
          have h4 : E v * 1 ≤ E v * -(M v v) := Int.mul_le_mul_of_nonneg_left h1 h3
          refine ⟨?_, ?_, ?_⟩
          · rw [e1]; show 0 < -(M v v) ∧ -(M v v) ≤ -(M v v); omega
          · rw [e1]; show (0 : Int) < 1 ∧ 1 ≤ -(M v v); omega
          · rw [e1, e2]; show _ ≤ -(e v) ∧ -(e v) ≤ _; omega
      | succ m ih =>
        intro hm
        obtain ⟨B, h1, h2, h3⟩ := ih (by omega)
        by_cases hc : M v m = 1 ∧ (m : Int) ≠ f ∧ J m = true
        · have ha := hM.iff hv (by omega) hc.1
          have hvf : Vf n A m (v : Int) := .inr ⟨v, rfl, hv, ha⟩
          have hl := hT.less v f m hv hf (by omega) ha hc.2.1
          have ihc := (ri_bnd hM hT he J N m (v : Int) (by omega) hvf (by omega)).2.1
          have hpos := (hp (m + 1) hm).1
          rw [rfN_yes hc] at hpos ⊢
          have hdis : ∀ x, (decide (x < n) && sd m (v : Int) x) = true → B x = false := fun x hx => by
            simp only [Bool.and_eq_true, decide_eq_true_eq] at hx
            exact h2 m (Nat.le_refl m) (by omega) hc.1 hc.2.1 x hx.1 hx.2
          have hact := (RB.act hd hE hdis h3 ihc hpos).1
          refine ⟨_, fun x hx => ?_, fun c hmc hcn h4 h5 x hxn hxs => ?_, hact⟩
          · simp only [Bool.or_eq_true, Bool.and_eq_true, decide_eq_true_eq] at hx
            rcases hx with hx | hx
            · exact h1 x hx
            · exact ⟨hx.1, hT.sub v f m hv hf (by omega) ha hc.2.1 x hx.2⟩
          · have h6 := h2 c (by omega) hcn h4 h5 x hxn hxs
            have h7 : sd m (v : Int) x = false := hT.apart v c m hv hcn (by omega) (hM.iff hv hcn h4) ha (by omega) x hxs
            rw [h6, h7]; simp
        · rw [rfN_no hc]
          exact ⟨B, h1, fun c hmc => h2 c (by omega), h3⟩
    refine ⟨fun m hm => by
      obtain ⟨B, h1, h2, h3⟩ := key m hm
      exact ⟨B, fun x hx _ => (h1 x hx).2, h2, h3⟩, ?_, ?_⟩
    · obtain ⟨B, h1, h2, h3⟩ := key n (Nat.le_refl n)
      rw [← ri_eq hM hT e J hv hf] at h3
      have hsub : ∀ x, B x = true → (decide (x < n) && sd v f x) = true := fun x hx => by
        simp only [Bool.and_eq_true, decide_eq_true_eq]; exact h1 x hx
      have k1 := pdS_le (d := fun x => -(M x x)) hd hsub
      have k2 := sgS_le hE hsub
      have k3 := sgS_nn hE B
      have k4 := pdS_pos (d := fun x => -(M x x)) hd B
      have k5 : sgS E n B * pdS (fun x => -(M x x)) n B ≤ sgS E n (fun x => decide (x < n) && sd v f x) * pdS (fun x => -(M x x)) n (fun x => decide (x < n) && sd v f x) := Int.mul_le_mul k2 k1 (by omega) (by omega)
      obtain ⟨b, s, t⟩ := h3
      exact ⟨by omega, by omega, by omega⟩
    · intro m hm hc
      obtain ⟨B, h1, h2, h3⟩ := key m (by omega)
      have ha := hM.iff hv hm hc.1
      have hvf : Vf n A m (v : Int) := .inr ⟨v, rfl, hv, ha⟩
      have hl := hT.less v f m hv hf hm ha hc.2.1
      have ihc := (ri_bnd hM hT he J N m (v : Int) hm hvf (by omega)).2.1
      have hpos := (hp (m + 1) (by omega)).1
      rw [rfN_yes hc] at hpos
      exact (RB.act hd hE (fun x hx => by
        simp only [Bool.and_eq_true, decide_eq_true_eq] at hx
        exact h2 m (Nat.le_refl m) hm hc.1 hc.2.1 x hx.1 hx.2) h3 ihc hpos).2
/-- What a rise itself comes to, on the way, too. -/
theorem ri_rng (hM : MX n M A z) (hT : TB n A sd mu K) {e E : Nat → Int} (he : ∀ x, x < n → -(E x) ≤ e x ∧ e x ≤ E x) (J : Nat → Bool) {v : Nat} {f : Int} (hv : v < n) (hf : Vf n A v f) {m : Nat} (hm : m ≤ n) {r : Int × Int × Int} (hr : rfN M J (fun x => riR M e J n K x (v : Int)) v f (-(e v), -(M v v), 1) m = r) :
    (-(sgC E n * pdC (fun x => -(M x x)) n) ≤ r.1 ∧ r.1 ≤ sgC E n * pdC (fun x => -(M x x)) n) ∧ (0 < r.2.1 ∧ r.2.1 ≤ pdC (fun x => -(M x x)) n) ∧ (0 < r.2.2 ∧ r.2.2 ≤ pdC (fun x => -(M x x)) n) := by
  have hd : ∀ x, x < n → 1 ≤ -(M x x) := fun x hx => by have := hM.neg x hx; omega
  have hE : ∀ x, x < n → 0 ≤ E x := fun x hx => by have := he x hx; omega
  obtain ⟨B, _, _, h3⟩ := (ri_bnd hM hT he J (mu v f + 1) v f hv hf (by omega)).1 m hm
  rw [hr] at h3
  obtain ⟨b, s, t⟩ := h3
  have k1 := pdS_all (d := fun x => -(M x x)) hd B
  have k2 := sgS_all hE B
  have k3 := sgS_nn hE B
  have k4 := pdS_pos (d := fun x => -(M x x)) hd B
  have k5 : sgS E n B * pdS (fun x => -(M x x)) n B ≤ sgC E n * pdC (fun x => -(M x x)) n := Int.mul_le_mul k2 k1 (by omega) (by omega)
  exact ⟨by omega, by omega, by omega⟩
/-- A product of naturals of which the sum is told. -/
theorem cube_le (d : Nat) : 1 ≤ d → d * d * d ≤ 3 ^ d := by
  intro h
  match d, h with
  | 1, _ => decide
  | 2, _ => decide
  | 3, _ => decide
  | k + 4, _ =>
    have ih := cube_le (k + 3) (by omega)
    have e : 3 ^ (k + 4) = 3 * 3 ^ (k + 3) := by rw [Nat.pow_succ, Nat.mul_comm]
    rw [e]
    have h2 : (k + 4) * (k + 4) * (k + 4) ≤ 3 * ((k + 3) * (k + 3) * (k + 3)) := by
      have : (k + 4) * (k + 4) * (k + 4) = k * k * k + 12 * (k * k) + 48 * k + 64 := by grind
      have : 3 * ((k + 3) * (k + 3) * (k + 3)) = 3 * (k * k * k) + 27 * (k * k) + 81 * k + 81 := by grind
      omega
    omega
theorem pd_cube {F : Nat → Int} : ∀ {n : Nat}, (∀ i, i < n → 1 ≤ F i) → pdC F n * pdC F n * pdC F n ≤ ((3 ^ (sgC F n).toNat : Nat) : Int)
  | 0, _ => by show (1 : Int) * 1 * 1 ≤ ((3 ^ 0 : Nat) : Int); decide
  | n + 1, h => by
    have ih := pd_cube (F := F) (n := n) (fun i hi => h i (by omega))
    have h1 := h n (by omega)
    have hs : 0 ≤ sgC F n := sgC_nn fun i hi => by have := h i (by omega); omega
    obtain ⟨a, ha⟩ : ∃ a : Nat, F n = (a : Int) := ⟨(F n).toNat, by omega⟩
    have hc := cube_le a (by omega)
    have e1 : (sgC F (n + 1)).toNat = (sgC F n).toNat + a := by show (sgC F n + F n).toNat = _; omega
    rw [e1, Nat.pow_add]
    show (pdC F n * F n) * (pdC F n * F n) * (pdC F n * F n) ≤ _
    rw [ha]
    have e2 : pdC F n * (a : Int) * (pdC F n * a) * (pdC F n * a) = (pdC F n * pdC F n * pdC F n) * ((a * a * a : Nat) : Int) := by push_cast; grind
    rw [e2, Int.natCast_mul]
    have hp := pdC_pos (F := F) (n := n) (fun i hi => h i (by omega))
    exact Int.mul_le_mul ih (Int.ofNat_le.2 hc) (Int.natCast_nonneg _) (Int.natCast_nonneg _)
theorem pd_72 {F : Nat → Int} {n : Nat} (h : ∀ i, i < n → 1 ≤ F i) (hs : sgC F n ≤ 72) : pdC F n ≤ 282429536481 := by
  have h1 := pd_cube h
  have h2 : 3 ^ (sgC F n).toNat ≤ 3 ^ 72 := Nat.pow_le_pow_right (by omega) (by omega)
  have h3 : ((3 ^ (sgC F n).toNat : Nat) : Int) ≤ ((3 ^ 72 : Nat) : Int) := by omega
  have h4 : ((3 ^ 72 : Nat) : Int) = 282429536481 * 282429536481 * 282429536481 := by decide +kernel
  have hp := pdC_pos h
  apply Classical.byContradiction
  intro hc
  have h5 : (282429536482 : Int) ≤ pdC F n := by omega
  have h6 : (282429536482 : Int) * 282429536482 ≤ pdC F n * pdC F n := Int.mul_le_mul h5 h5 (by omega) (by omega)
  have h7 : (282429536482 : Int) * 282429536482 * 282429536482 ≤ pdC F n * pdC F n * pdC F n := Int.mul_le_mul h6 h5 (by omega) (by omega)
  omega
end Go.Proofs.Ytohbgfmjnanlkaa
