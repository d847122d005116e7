/- Unloading, the program's: the rise of a point with joined points. Conditions: stated at each theorem. -/
import Derived.Test.YtohbgfmjnanlkaaUn10
import Derived.Test.YtohbgfmjnanlkaaUlM
namespace Go.Proofs.Ytohbgfmjnanlkaa
open Go.ChangeShapes Go.WideShapes Go.ChangeAt Go.RowKit Go.Deep
set_option linter.unusedVariables false
set_option linter.unusedSimpArgs false

/-- What the rise of a point reads. -/
structure RX (w : World) (ub mo be bj n cm c4 : Nat) (P S : List Int) (e : Nat → Int) (J : Nat → Bool) : Prop where
  lu : ub < w.heap.size
  lm : mo < w.heap.size
  le : be < w.heap.size
  lj : bj < w.heap.size
  c2 : w.cell? ⟨ub, 2, none⟩ = some (.slice (some ⟨mo, 0, none⟩) n cm)
  c4 : w.cell? ⟨ub, 4, none⟩ = some (.slice (some ⟨be, 0, none⟩) n c4)
  c6 : w.cell? ⟨ub, 6, none⟩ = some (.slice (some ⟨bj, 0, none⟩) n n)
  ex : ∀ i, i < n → w.cell? ⟨be, i, none⟩ = some (.int .i64 (e i))
  jo : ∀ i, i < n → w.cell? ⟨bj, i, none⟩ = some (.bool (J i))
  mat : ∀ i, i < n → ∃ ri ci, w.cell? ⟨mo, i, none⟩ = some (.slice (some ⟨ri, 0, none⟩) n ci) ∧ ri < w.heap.size ∧ ∀ j, j < n → w.cell? ⟨ri, j, none⟩ = some (.int .i64 (meE P S n i j))
theorem RX.below {w w' : World} {ub mo be bj n cm c4 : Nat} {P S : List Int} {e : Nat → Int} {J : Nat → Bool} (h : RX w ub mo be bj n cm c4 P S e J) {k : Nat} (hb : Below k w w') (hk : w.heap.size ≤ k) : RX w' ub mo be bj n cm c4 P S e J := by
  have hb := hb.mono hk
  have hs := hb.size
  have h1 := h.lu; have h2 := h.lm; have h3 := h.le; have h4 := h.lj
  refine ⟨by omega, by omega, by omega, by omega, (hb.cell (p := ⟨ub, 2, none⟩) h1).trans h.c2, (hb.cell (p := ⟨ub, 4, none⟩) h1).trans h.c4, (hb.cell (p := ⟨ub, 6, none⟩) h1).trans h.c6, fun i hi => (hb.cell (p := ⟨be, i, none⟩) h3).trans (h.ex i hi), fun i hi => (hb.cell (p := ⟨bj, i, none⟩) h4).trans (h.jo i hi), fun i hi => ?_⟩
  obtain ⟨ri, ci, m1, m2, m3⟩ := h.mat i hi
  exact ⟨ri, ci, (hb.cell (p := ⟨mo, i, none⟩) h2).trans m1, by omega, fun j hj => (hb.cell (p := ⟨ri, j, none⟩) m2).trans (m3 j hj)⟩
/-- A rise as a value. -/
def rvR (r : Int × Int × Int) : Value := .agg #[.int .i64 r.1, .int .i64 r.2.1, .int .i64 r.2.2]
def riF0 (P S : List Int) (n : Nat) (e : Nat → Int) (J : Nat → Bool) (K v : Nat) (f : Int) (m : Nat) : Int × Int × Int := rfN (meE P S n) J (fun x => riR (meE P S n) e J n K x (v : Int)) v f (-(e v), -(meE P S n v v), 1) m
theorem riF0_yes {P S : List Int} {n : Nat} {e : Nat → Int} {J : Nat → Bool} {K v m : Nat} {f : Int} (h : meE P S n v m = 1 ∧ (m : Int) ≠ f ∧ J m = true) : riF0 P S n e J K v f (m + 1) = acR (riF0 P S n e J K v f m) (riR (meE P S n) e J n K m (v : Int)) := rfN_yes h
theorem riF0_no {P S : List Int} {n : Nat} {e : Nat → Int} {J : Nat → Bool} {K v m : Nat} {f : Int} (h : ¬ (meE P S n v m = 1 ∧ (m : Int) ≠ f ∧ J m = true)) : riF0 P S n e J K v f (m + 1) = riF0 P S n e J K v f m := rfN_no h
theorem me_rng2 {P S : List Int} {n u v : Nat} (h : okAll P S n = true) (hn : n ≤ 24) (hu : u < n) (hv : v < n) : -72 ≤ meE P S n u v ∧ meE P S n u v ≤ 1 := by
  have hM := mx_cluster h hn
  by_cases e : u = v
  · subst e
    have h1 := hM.neg u hu
    have h2 := sgC_more (F := fun x => -(meE P S n x x)) (m := u + 1) (n := n) hu (fun i hi => by have := hM.neg i hi; omega)
    have h3 : 0 ≤ sgC (fun x => -(meE P S n x x)) u := sgC_nn fun i hi => by have := hM.neg i (by omega); omega
    have h4 := diag_72 h hn
    have h5 : sgC (fun x => -(meE P S n x x)) (u + 1) = sgC (fun x => -(meE P S n x x)) u + -(meE P S n u u) := rfl
    omega
  · by_cases a : adjB P S n u v
    · rw [hM.yes u v hu hv a]; omega
    · rw [hM.no u v hu hv e a]; omega

theorem CBox.oth3 {V : World} {g h : Nat} {a b c : Value} (k : CBox V h a b c) (hne : h ≠ g) (x y z : Value) : CBox (((V.setCell ⟨g, 0, none⟩ x).setCell ⟨g, 1, none⟩ y).setCell ⟨g, 2, none⟩ z) h a b c := ((k.other hne _).other hne _).other hne _

set_option maxRecDepth 100000 in
set_option maxHeartbeats 4000000 in
theorem rise_any {ub mo be bj n cm c4 K : Nat} {P S : List Int} {e : Nat → Int} {J : Nat → Bool} {sd : Nat → Int → Nat → Bool} {mu : Nat → Int → Nat} (hT : TB n (adjB P S n) sd mu K) (hO : okAll P S n = true) (hn : n ≤ 24) (he : ∀ x, x < n → -(bdE P S n x) ≤ e x ∧ e x ≤ bdE P S n x) :
    ∀ N v f (w : World), v < n → Vf n (adjB P S n) v f → mu v f < N → RX w ub mo be bj n cm c4 P S e J →
    Calls Try.prog 179 #[.pointer (some ⟨ub, 0, none⟩), .int .i64 v, .int .i64 f] w fun en w' => en = .returned (rvR (riR (meE P S n) e J n K v f)) ∧ Below w.heap.size w w' := by
  intro N
  induction N with
  | zero => intro v f w _ _ h _; omega
  | succ N ih =>
    intro v f w hv hf hN hX
    have hM := mx_cluster hO hn
    have hbd := rise_bd hO hn
    have HEQ : Hid (riR (meE P S n) e J n K v f = riF0 P S n e J K v f n) := Lib.hid (ri_eq hM hT e J hv hf)
    have HR : Hid (∀ m, m ≤ n → ∀ r, riF0 P S n e J K v f m = r → (-2100000000000000000 ≤ r.1 ∧ r.1 ≤ 2100000000000000000) ∧ (0 < r.2.1 ∧ r.2.1 ≤ 282429536481) ∧ (0 < r.2.2 ∧ r.2.2 ≤ 282429536481)) := Lib.hid (fun m hm r hr => by
      have h := ri_rng hM hT he J hv hf hm hr
      have := hbd.2.2; have := hbd.1
      omega)
    have HP : Hid (∀ m, m < n → meE P S n v m = 1 ∧ (m : Int) ≠ f ∧ J m = true → RW 2100000000000000000 282429536481 (riF0 P S n e J K v f m) (riR (meE P S n) e J n K m (v : Int))) := Lib.hid (fun m hm h => by
      have h := (ri_bnd hM hT he J (N + 1) v f hv hf hN).2.2 m hm h
      have g1 := hbd.2.2; have g2 := hbd.1
      obtain ⟨a1, a2, a3, a4, a5, a6⟩ := h
      unfold riF0
      exact ⟨by omega, by omega, by omega, by omega, by omega, by omega⟩)
    have HIH : Hid (∀ m (w2 : World), m < n → meE P S n v m = 1 → (m : Int) ≠ f → RX w2 ub mo be bj n cm c4 P S e J → Calls Try.prog 179 #[.pointer (some ⟨ub, 0, none⟩), .int .i64 m, .int .i64 v] w2 fun en w' => en = .returned (rvR (riR (meE P S n) e J n K m (v : Int))) ∧ Below w2.heap.size w2 w') := Lib.hid (fun m w2 hm h1 h2 hx => by
      have ha := hM.iff hv hm h1
      exact ih m (v : Int) w2 hm (.inr ⟨v, rfl, hv, ha⟩) (by have := hT.less v f m hv hf hm ha h2; omega) hx)
    have hfr : -1 ≤ f ∧ f < n := by rcases hf with rfl | ⟨u, rfl, hu, _⟩ <;> omega
    have hF0 : riF0 P S n e J K v f 0 = (-(e v), -(meE P S n v v), 1) := rfl
    have hev := he v hv
    have hev2 : -10000000000 ≤ e v ∧ e v ≤ 10000000000 := by have := me_rng2 hO hn hv hv; unfold bdE at hev; omega
    have hmv := me_rng2 hO hn hv hv
    have HMR : Hid (∀ j, j < n → -72 ≤ meE P S n v j ∧ meE P S n v j ≤ 1) := Lib.hid fun j hj => me_rng2 hO hn hv hj
    have HX := Lib.hid hX
    clear hM hbd he hN hev hT hO
    obtain ⟨ri, ci, hm1, hm2, hm3⟩ := hX.mat v hv
    have HROW := Lib.hid hm3
    have hl1 := hX.lu; have hl2 := hX.lm; have hl3 := hX.le; have hl4 := hX.lj
    have hs0 : w.heap.size ≤ (w.alloc (.cells #[.int .i64 0, .int .i64 0, .int .i64 0] 181)).heap.size := by simp
    have hs1 : (w.alloc (.cells #[.int .i64 0, .int .i64 0, .int .i64 0] 181)).heap.size = w.heap.size + 1 := by simp
    have hb0 : Below w.heap.size w (w.alloc (.cells #[.int .i64 0, .int .i64 0, .int .i64 0] 181)) := below_box2 _ _
    have hx0 : CBox (w.alloc (.cells #[.int .i64 0, .int .i64 0, .int .i64 0] 181)) w.heap.size (.int .i64 0) (.int .i64 0) (.int .i64 0) := CBox.new _ _ _ _ _
    have u2 := (hb0.cell (p := ⟨ub, 2, none⟩) hl1).trans hX.c2
    have u4 := (hb0.cell (p := ⟨ub, 4, none⟩) hl1).trans hX.c4
    have d1 := (hb0.cell (p := ⟨be, v, none⟩) hl3).trans (hX.ex v hv)
    have d2 := (hb0.cell (p := ⟨mo, v, none⟩) hl2).trans hm1
    have d3 := (hb0.cell (p := ⟨ri, v, none⟩) hm2).trans (hm3 v hv)
    obtain ⟨ev, hev⟩ : ∃ z, e v = z := ⟨_, rfl⟩
    obtain ⟨mv, hmvv⟩ : ∃ z, meE P S n v v = z := ⟨_, rfl⟩
    rw [hev] at d1 hev2 hF0
    rw [hmvv] at d3 hmv hF0
    have HF0 := Lib.hid hF0
    have p1 : IntKind.i64.wrap (-ev) = -ev := IntWalk.i64_in _ (by omega)
    have p2 : IntKind.i64.wrap (-mv) = -mv := IntWalk.i64_in _ (by omega)
    have hv2 : (v : Int) < (n : Int) := by omega
    clear hX hm1 hm3 hev hmvv hF0 hf
    go_enter Try.func179, Try.ntmps179
    go_wp2_with fail
    refine wp_region_held_drew (S := fun w' => w'.cell? ⟨ub, 2, none⟩ = some (.slice (some ⟨mo, 0, none⟩) n cm) ∧ w'.cell? ⟨ub, 4, none⟩ = some (.slice (some ⟨be, 0, none⟩) n c4) ∧ w'.cell? ⟨be, v, none⟩ = some (.int .i64 ev) ∧ w'.cell? ⟨mo, v, none⟩ = some (.slice (some ⟨ri, 0, none⟩) n ci) ∧ w'.cell? ⟨ri, v, none⟩ = some (.int .i64 mv)) (by kernel_rfl) ⟨u2, u4, d1, d2, d3⟩ (fun hHeld => ?_)
    refine takeY 0 _ (v := ?_) rfl rfl (by kernel_rfl) (by kernel_rfl) (by kernel_rfl) (fun _ _ _ h => h) (by kernel_rfl) ?_ (by assumption) ?_
    rotate_left 1
    · intro w hSw; (try dsimp only at hSw); go_simp; (try with_reducible rfl)
    try simp only [Act.put, List.setIfInBounds_toArray, List.set_cons_zero, List.set_cons_succ]
    refine takeY 1 _ (v := ?_) rfl rfl (by kernel_rfl) (by kernel_rfl) (by kernel_rfl) (fun _ _ _ h => h) (by kernel_rfl) ?_ (by assumption) ?_
    rotate_left 1
    · intro w hSw; (try dsimp only at hSw); go_simp; (try with_reducible rfl)
    try simp only [Act.put, List.setIfInBounds_toArray, List.set_cons_zero, List.set_cons_succ]
    refine takeY 2 _ (v := ?_) rfl rfl (by kernel_rfl) (by kernel_rfl) (by kernel_rfl) (fun _ _ _ h => h) (by kernel_rfl) ?_ (by assumption) ?_
    rotate_left 1
    · intro w hSw; (try dsimp only at hSw); go_simp; (try with_reducible rfl)
    try simp only [Act.put, List.setIfInBounds_toArray, List.set_cons_zero, List.set_cons_succ]
    refine takeY 3 _ (v := ?_) rfl rfl (by kernel_rfl) (by kernel_rfl) (by kernel_rfl) (fun _ _ _ h => h) (by kernel_rfl) ?_ (by assumption) ?_
    rotate_left 1
    · intro w hSw; (try dsimp only at hSw); go_simp; (try with_reducible rfl)
    try simp only [Act.put, List.setIfInBounds_toArray, List.set_cons_zero, List.set_cons_succ]
    refine takeY 4 _ (v := ?_) rfl rfl (by kernel_rfl) (by kernel_rfl) (by kernel_rfl) (fun _ _ _ h => h) (by kernel_rfl) ?_ (by assumption) ?_
    rotate_left 1
    · intro w hSw; (try dsimp only at hSw); go_simp; (try with_reducible rfl)
    try simp only [Act.put, List.setIfInBounds_toArray, List.set_cons_zero, List.set_cons_succ]
    refine takeY 5 _ (v := ?_) rfl rfl (by kernel_rfl) (by kernel_rfl) (by kernel_rfl) (fun _ _ _ h => h) (by kernel_rfl) ?_ (by assumption) ?_
    rotate_left 1
    · intro w hSw; (try dsimp only at hSw); go_simp; (try with_reducible rfl)
    try simp only [Act.put, List.setIfInBounds_toArray, List.set_cons_zero, List.set_cons_succ]
    refine takeY 6 _ (v := ?_) rfl rfl (by kernel_rfl) (by kernel_rfl) (by kernel_rfl) (fun _ _ _ h => h) (by kernel_rfl) ?_ (by assumption) ?_
    rotate_left 1
    · intro w hSw; (try dsimp only at hSw); go_simp; (try with_reducible rfl)
    try simp only [Act.put, List.setIfInBounds_toArray, List.set_cons_zero, List.set_cons_succ]
    refine takeY 7 _ (v := ?_) rfl rfl (by kernel_rfl) (by kernel_rfl) (by kernel_rfl) (fun _ _ _ h => h) (by kernel_rfl) ?_ (by assumption) ?_
    rotate_left 1
    · intro w hSw; (try dsimp only at hSw); go_simp; (try with_reducible rfl)
    try simp only [Act.put, List.setIfInBounds_toArray, List.set_cons_zero, List.set_cons_succ]
    refine takeY 8 _ (v := ?_) rfl rfl (by kernel_rfl) (by kernel_rfl) (by kernel_rfl) (fun _ _ _ h => h) (by kernel_rfl) ?_ (by assumption) ?_
    rotate_left 1
    · intro w hSw; (try dsimp only at hSw); go_simp; (try with_reducible rfl)
    try simp only [Act.put, List.setIfInBounds_toArray, List.set_cons_zero, List.set_cons_succ]
    refine takeY 9 _ (v := ?_) rfl rfl (by kernel_rfl) (by kernel_rfl) (by kernel_rfl) (fun _ _ _ h => h) (by kernel_rfl) ?_ (by assumption) ?_
    rotate_left 1
    · intro w hSw; (try dsimp only at hSw); go_simp; (try with_reducible rfl)
    try simp only [Act.put, List.setIfInBounds_toArray, List.set_cons_zero, List.set_cons_succ]
    refine takeY 10 _ (v := ?_) rfl rfl (by kernel_rfl) (by kernel_rfl) (by kernel_rfl) (fun _ _ _ h => h) (by kernel_rfl) ?_ (by assumption) ?_
    rotate_left 1
    · intro w hSw; (try dsimp only at hSw); go_simp; (try with_reducible rfl)
    try simp only [Act.put, List.setIfInBounds_toArray, List.set_cons_zero, List.set_cons_succ]
    refine takeY 11 _ (v := ?_) rfl rfl (by kernel_rfl) (by kernel_rfl) (by kernel_rfl) (fun _ _ _ h => h) (by kernel_rfl) ?_ (by assumption) ?_
    rotate_left 1
    · intro w hSw; (try dsimp only at hSw); go_simp; (try with_reducible rfl)
    try simp only [Act.put, List.setIfInBounds_toArray, List.set_cons_zero, List.set_cons_succ]
    refine takeY 12 _ (v := ?_) rfl rfl (by kernel_rfl) (by kernel_rfl) (by kernel_rfl) (fun _ _ _ h => h) (by kernel_rfl) ?_ (by assumption) ?_
    rotate_left 1
    · intro w hSw; (try dsimp only at hSw); go_simp; (try with_reducible rfl)
    try simp only [Act.put, List.setIfInBounds_toArray, List.set_cons_zero, List.set_cons_succ]
    refine takeY 13 _ (v := ?_) rfl rfl (by kernel_rfl) (by kernel_rfl) (by kernel_rfl) (fun _ _ _ h => h) (by kernel_rfl) ?_ (by assumption) ?_
    rotate_left 1
    · intro w hSw; (try dsimp only at hSw); go_simp; (try with_reducible rfl)
    try simp only [Act.put, List.setIfInBounds_toArray, List.set_cons_zero, List.set_cons_succ]
    refine takeY 14 _ (v := ?_) rfl rfl (by kernel_rfl) (by kernel_rfl) (by kernel_rfl) (fun _ _ _ h => h) (by kernel_rfl) ?_ (by assumption) ?_
    rotate_left 1
    · intro w hSw; (try dsimp only at hSw); go_simp; (try with_reducible rfl)
    try simp only [Act.put, List.setIfInBounds_toArray, List.set_cons_zero, List.set_cons_succ]
    refine takeY 15 _ (v := ?_) rfl rfl (by kernel_rfl) (by kernel_rfl) (by kernel_rfl) (fun _ _ _ h => h) (by kernel_rfl) ?_ (by assumption) ?_
    rotate_left 1
    · intro w hSw; (try dsimp only at hSw); go_simp; (try with_reducible rfl)
    try simp only [Act.put, List.setIfInBounds_toArray, List.set_cons_zero, List.set_cons_succ]
    refine takeY 16 _ (v := ?_) rfl rfl (by kernel_rfl) (by kernel_rfl) (by kernel_rfl) (fun _ _ _ h => h) (by kernel_rfl) ?_ (by assumption) ?_
    rotate_left 1
    · intro w hSw; (try dsimp only at hSw); go_simp; (try with_reducible rfl)
    try simp only [Act.put, List.setIfInBounds_toArray, List.set_cons_zero, List.set_cons_succ]
    refine takeY 17 _ (v := ?_) rfl rfl (by kernel_rfl) (by kernel_rfl) (by kernel_rfl) (fun _ _ _ h => h) (by kernel_rfl) ?_ (by assumption) ?_
    rotate_left 1
    · intro w hSw; (try dsimp only at hSw); go_simp; (try with_reducible rfl)
    try simp only [Act.put, List.setIfInBounds_toArray, List.set_cons_zero, List.set_cons_succ]
    refine takeY 18 _ (v := ?_) rfl rfl (by kernel_rfl) (by kernel_rfl) (by kernel_rfl) (fun _ _ _ h => h) (by kernel_rfl) ?_ (by assumption) ?_
    rotate_left 1
    · intro w hSw; (try dsimp only at hSw); go_simp; (try with_reducible rfl)
    try simp only [Act.put, List.setIfInBounds_toArray, List.set_cons_zero, List.set_cons_succ]
    refine takeY 19 _ (v := ?_) rfl rfl (by kernel_rfl) (by kernel_rfl) (by kernel_rfl) (fun _ _ _ h => h) (by kernel_rfl) ?_ (by assumption) ?_
    rotate_left 1
    · intro w hSw; (try dsimp only at hSw); go_simp; (try with_reducible rfl)
    try simp only [Act.put, List.setIfInBounds_toArray, List.set_cons_zero, List.set_cons_succ]
    refine wpAnyH_ready (rs := [20]) (by kernel_rfl) (by simp) ?_
    refine AllReadyH.cons rfl (fun K hK => ?_) AllReadyH.nil
    go_simp
    obtain ⟨w2, HE2⟩ : ∃ V, V = ((w.alloc (.cells #[.int .i64 0, .int .i64 0, .int .i64 0] 181)).alloc (.cells #[.int .i64 0, .int .i64 0, .int .i64 0] 181)).drew := ⟨_, rfl⟩
    rw [← HE2]
    have hb2 : Below (w.alloc (.cells #[.int .i64 0, .int .i64 0, .int .i64 0] 181)).heap.size (w.alloc (.cells #[.int .i64 0, .int .i64 0, .int .i64 0] 181)) w2 := by rw [HE2]; exact (below_box2 _ _).drew
    have hx2 : CBox w2 (w.heap.size + 1) (.int .i64 0) (.int .i64 0) (.int .i64 0) := by rw [HE2]; have h := CBox.new (w.alloc (.cells #[.int .i64 0, .int .i64 0, .int .i64 0] 181)) (.int .i64 0) (.int .i64 0) (.int .i64 0) 181; rw [World.size_alloc] at h; exact h.of_block rfl (Nat.le_refl _)
    have HB2 := Lib.hid (hb0.trans (hb2.mono hs0))
    have HX2 := Lib.hid hx2
    have HY2 := Lib.hid (hx0.below hb2)
    clear HE2 hx2
    refine hK.out _ (w2) ⟨(hb2.cell (p := ⟨ub, 2, none⟩) (by show ub < _; omega)).trans u2, (hb2.cell (p := ⟨ub, 4, none⟩) (by show ub < _; omega)).trans u4, (hb2.cell (p := ⟨be, v, none⟩) (by show be < _; omega)).trans d1, (hb2.cell (p := ⟨mo, v, none⟩) (by show mo < _; omega)).trans d2, (hb2.cell (p := ⟨ri, v, none⟩) (by show ri < _; omega)).trans d3⟩ (fun hHeld => ?_)
    clear hK K
    try simp only [Act.put, List.setIfInBounds_toArray, List.set_cons_zero, List.set_cons_succ]
    refine wpAnyH_ready (rs := [21]) (by kernel_rfl) (by simp) ?_
    refine AllReadyH.cons rfl (fun K hK => ?_) AllReadyH.nil
    have q0 := HX2.out.f0
    have r0 := HX2.out.c0
    have r1 := HX2.out.c1
    have r2 := HX2.out.c2
    have q1 := HX2.out.f1
    have q2 := HX2.out.f2
    have ql := HX2.out.lt
    go_simp
    obtain ⟨w3, HE3⟩ : ∃ V, V = ((w2.setCell ⟨w.heap.size + 1, 0, none⟩ (.int .i64 (-ev))).setCell ⟨w.heap.size + 1, 1, none⟩ (.int .i64 (-mv))).setCell ⟨w.heap.size + 1, 2, none⟩ (.int .i64 1) := ⟨_, rfl⟩
    rw [← HE3]
    have hb3 : Below (w.alloc (.cells #[.int .i64 0, .int .i64 0, .int .i64 0] 181)).heap.size (w.alloc (.cells #[.int .i64 0, .int .i64 0, .int .i64 0] 181)) w3 := by rw [HE3]; exact Below.set3 hb2 (by omega) _ _ _
    have hx3 : CBox w3 (w.heap.size + 1) (.int .i64 (-ev)) (.int .i64 (-mv)) (.int .i64 1) := by rw [HE3]; exact CBox.set3 HX2.out _ _ _
    have HX3 := Lib.hid hx3
    have HY3 := Lib.hid (hx0.below hb3)
    have HB3 := Lib.hid (hb0.trans (hb3.mono hs0))
    clear HE3 hx3 q0 q1 q2 r0 r1 r2
    refine hK.out _ (w3) ⟨(hb3.cell (p := ⟨ub, 2, none⟩) (by show ub < _; omega)).trans u2, (hb3.cell (p := ⟨ub, 4, none⟩) (by show ub < _; omega)).trans u4, (hb3.cell (p := ⟨be, v, none⟩) (by show be < _; omega)).trans d1, (hb3.cell (p := ⟨mo, v, none⟩) (by show mo < _; omega)).trans d2, (hb3.cell (p := ⟨ri, v, none⟩) (by show ri < _; omega)).trans d3⟩ (fun hHeld => ?_)
    clear hK K hb2 hb3 HX2 HY2
    try simp only [Act.put, List.setIfInBounds_toArray, List.set_cons_zero, List.set_cons_succ]
    refine wpAnyH_done (by kernel_rfl) ?_ _
    go_wp2_with fail
    go_loopw [39] (fun vi wr => ∃ (m : Nat), m ≤ n ∧ vi = .int .i64 m ∧ Hid (CBox wr w.heap.size (.int .i64 0) (.int .i64 0) (.int .i64 0)) ∧ Hid (CBox wr (w.heap.size + 1) (.int .i64 (riF0 P S n e J K v f m).1) (.int .i64 (riF0 P S n e J K v f m).2.1) (.int .i64 (riF0 P S n e J K v f m).2.2)) ∧ Hid (Below w.heap.size w wr)) (fun vi _ => n - (intOf vi).toNat)
    case atStart => exact ⟨0, by omega, rfl, HY3, Lib.hid (by rw [HF0.out]; exact HX3.out), HB3⟩
    case round =>
      obtain ⟨m, hm, rfl, hc0, hc1, hb⟩ := hrel
      by_cases hmn : m < n
      · have hmn2 : (m : Int) < (n : Int) := by omega
        have hx := HX.out.below hb.out (Nat.le_refl _)
        have HXW := Lib.hid hx
        have u6 := hx.c6
        have d4 := (hb.out.cell (p := ⟨ri, m, none⟩) hm2).trans (HROW.out m hmn)
        have d5 := hx.jo m hmn
        obtain ⟨a, ha⟩ : ∃ a, meE P S n v m = a := ⟨_, rfl⟩
        obtain ⟨jm, hj⟩ : ∃ j, J m = j := ⟨_, rfl⟩
        have HA := Lib.hid ha; have HJ := Lib.hid hj
        rw [ha] at d4; rw [hj] at d5
        clear hx ha hj
        by_cases h0 : a = 1 ∧ (m : Int) ≠ f ∧ jm = true
        · obtain ⟨rfl, h2, rfl⟩ := h0
          have hyes : meE P S n v m = 1 ∧ (m : Int) ≠ f ∧ J m = true := ⟨HA.out, h2, HJ.out⟩
          have hrw := HP.out m hmn hyes
          have hn1 := HR.out (m + 1) hmn _ rfl
          have hst := riF0_yes (K := K) (e := e) hyes
          rw [hst] at hn1
          have hcl := HIH.out m wr hmn HA.out h2 HXW.out
          obtain ⟨⟨t, b, s⟩, hr⟩ : ∃ r, riF0 P S n e J K v f m = r := ⟨_, rfl⟩
          obtain ⟨⟨ot, ob, os⟩, hor⟩ : ∃ r, riR (meE P S n) e J n K m (v : Int) = r := ⟨_, rfl⟩
          rw [hr, hor] at hrw hst hn1
          rw [hor] at hcl
          rw [hr] at hc1
          have HST : Hid (riF0 P S n e J K v f (m + 1) = (t * ob + ot * s, b * ob - os * s, s * ob)) := Lib.hid hst
          have HCL : Hid (Calls Try.prog 179 #[.pointer (some ⟨ub, 0, none⟩), .int .i64 m, .int .i64 v] wr fun en w' => en = .returned (.agg #[.int .i64 ot, .int .i64 ob, .int .i64 os]) ∧ Below wr.heap.size wr w') := Lib.hid hcl
          obtain ⟨a1, a2, a3, a4, a5, a6⟩ := hrw
          simp only [acR] at hn1 a1 a2 a3 a4 a5 a6
          obtain ⟨_, ⟨b1, b2⟩, _⟩ := hn1
          have s1 : IntKind.i64.wrap (t * ob) = t * ob := IntWalk.i64_in _ (by omega)
          have s2 : IntKind.i64.wrap (ot * s) = ot * s := IntWalk.i64_in _ (by omega)
          have s3 : IntKind.i64.wrap (t * ob + ot * s) = t * ob + ot * s := IntWalk.i64_in _ (by omega)
          have s4 : IntKind.i64.wrap (b * ob) = b * ob := IntWalk.i64_in _ (by omega)
          have s5 : IntKind.i64.wrap (os * s) = os * s := IntWalk.i64_in _ (by omega)
          have s6 : IntKind.i64.wrap (b * ob - os * s) = b * ob - os * s := IntWalk.i64_in _ (by omega)
          have s7 : IntKind.i64.wrap (s * ob) = s * ob := IntWalk.i64_in _ (by omega)
          have hmf : ((m : Int) == f) = false := by simpa using h2
          clear hst hcl hr hor a1 a2 a3 a4 a5 a6 b1 b2 hyes
          go_wp2_with (go_at_call 179; refine HCL.out.mono ?_; rintro en w5 ⟨rfl, hb5⟩; have hk0 := hc0.out.below hb5; have hk1 := hc1.out.below hb5; have HK0 := Lib.hid hk0; have HK1 := Lib.hid hk1; have HB5 := Lib.hid hb5; have k0 := hk1.c0; have k1 := hk1.c1; have k2 := hk1.c2; have f0 := hk1.f0; have f1 := hk1.f1; have f2 := hk1.f2; have hl5 := hk1.lt; clear hb5 hk0 hk1)
          go_roundw
          case rel =>
            have hs5 := HB5.out.size
            have hs6 := hc1.out.lt
            refine ⟨m + 1, by omega, by go_num, Lib.hid ?_, Lib.hid ?_, Lib.hid ?_⟩
            · exact (CBox.oth3 HK0.out (by omega) _ _ _).alloc _
            · rw [HST.out]; exact (CBox.set3 HK1.out _ _ _).alloc _
            · exact (Below.set3 (hb.out.trans (HB5.out.mono hb.out.size)) (by omega) _ _ _).alloc (by rw [size_set3]; omega) _
          case measure => simp [intOf]; omega
        · have HNO : Hid (riF0 P S n e J K v f (m + 1) = riF0 P S n e J K v f m) := Lib.hid (riF0_no (by rw [HA.out, HJ.out]; exact h0))
          by_cases h1 : a = 1
          · subst h1
            by_cases h2 : (m : Int) = f
            · have hmf : ((m : Int) == f) = true := by simpa using h2
              clear h2 h0
              go_wp2_with fail
              go_roundw
              case rel => exact ⟨m + 1, by omega, by go_num, hc0, Lib.hid (by rw [HNO.out]; exact hc1.out), hb⟩
              case measure => simp [intOf]; omega
            · obtain rfl : jm = false := by
                cases jm
                · rfl
                · exact absurd ⟨rfl, h2, rfl⟩ h0
              have hmf : ((m : Int) == f) = false := by simpa using h2
              go_wp2_with fail
              go_roundw
              case rel => exact ⟨m + 1, by omega, by go_num, hc0, Lib.hid (by rw [HNO.out]; exact hc1.out), hb⟩
              case measure => simp [intOf]; omega
          · have ha1 : (a == 1) = false := by simpa using h1
            go_wp2_with fail
            go_roundw
            case rel => exact ⟨m + 1, by omega, by go_num, hc0, Lib.hid (by rw [HNO.out]; exact hc1.out), hb⟩
            case measure => simp [intOf]; omega
      · obtain rfl : m = n := by omega
        have hy := hc1.out; have hz := hc0.out
        have y0 := hy.c0; have y1 := hy.c1; have y2 := hy.c2
        have z0 := hz.c0; have z1 := hz.c1; have z2 := hz.c2; have g0 := hz.f0; have g1 := hz.f1; have g2 := hz.f2
        obtain ⟨⟨t, b, s⟩, hr⟩ : ∃ r, riF0 P S m e J K v f m = r := ⟨_, rfl⟩
        have HRR := Lib.hid hr
        rw [hr] at y0 y1 y2
        clear hy hz hr
        go_wp2_with fail
        have cr := CBox.set3 hc0.out (.int .i64 t) (.int .i64 b) (.int .i64 s)
        have cr0 := cr.c0; have cr1 := cr.c1; have cr2 := cr.c2
        refine bodyPost_ret (v := .agg #[.int .i64 t, .int .i64 b, .int .i64 s]) (by simp [results, Try.results179, go_sem, cr0, cr1, cr2]) rfl ?_
        refine ⟨by rw [HEQ.out, HRR.out]; rfl, Below.set3 hb.out (Nat.le_refl _) _ _ _⟩

end Go.Proofs.Ytohbgfmjnanlkaa
