/- ZF: GnM GnI GnS GnO GnC RpM RpI RpS VaM VaI VaS. Conditions: stated at each theorem. -/
import Derived.Test.YtjgidalmgoifgaaZB
import Derived.Test.YtjgidalmgoifgaaZC
import Derived.Deep.DeepCutAuto
import Derived.Test.YtjgidalmgoifgaaZA
/- Generators of semigroups: plain mathematics of chapter 5. Conditions: stated at each theorem. -/
namespace Go.Proofs.Ytjgidalmgoifgaa
set_option linter.unusedVariables false

/-- The generators behind the divisor e and the shift s. -/
def gnL (e s : Int) : List Int → List Int
  | [] => []
  | z :: zs => (z + s) :: gnL (Int.gcd e z : Int) (e.tdiv (Int.gcd e z : Int) * (z + s) - z) zs
/-- The generators of a branch. -/
def gnB (zs : List Int) : List Int := gnL (zs[0]?.getD 0) 0 zs
theorem gnL_len (e s : Int) (zs : List Int) : (gnL e s zs).length = zs.length := by
  induction zs generalizing e s with
  | nil => rfl
  | cons z zs ih => simp [gnL, ih]
theorem gnB_len (zs : List Int) : (gnB zs).length = zs.length := gnL_len _ _ _

/-- What is known of the divisor e, the shift s and the last number p (n: the first number). -/
structure GSt (n e s p : Int) : Prop where
  e1 : 1 ≤ e
  en : e ≤ n
  n64 : n ≤ 64
  s0 : 0 ≤ s
  p0 : 0 ≤ p
  bd : e * (s + p) ≤ n * p
  dv : e ∣ s
theorem GSt.start {n : Int} (h1 : 1 ≤ n) (h2 : n ≤ 64) : GSt n n 0 0 := ⟨h1, Int.le_refl _, h2, by omega, by omega, by simp, ⟨0, by simp⟩⟩
theorem tdiv_mul_of_dvd {a b : Int} (h : b ∣ a) : a.tdiv b * b = a := by
  obtain ⟨k, rfl⟩ := h
  by_cases hb : b = 0
  · subst hb; simp
  · rw [Int.mul_tdiv_cancel_left _ hb, Int.mul_comm]
theorem gcd_shift {e s z : Int} (h : e ∣ s) : (Int.gcd e (z + s) : Int) = (Int.gcd e z : Int) := by
  obtain ⟨k, rfl⟩ := h
  rw [Int.gcd_add_mul_left_right]
theorem GSt.step {n e s p z : Int} (h : GSt n e s p) (hz : p ≤ z) (hz1 : 1 ≤ z) : GSt n (Int.gcd e z : Int) (e.tdiv (Int.gcd e z : Int) * (z + s) - z) z := by
  obtain ⟨e1, en, n64, s0, p0, bd, dv⟩ := h
  have hg := gcd_le_left (e := e) (z := z) e1
  have hd1 : (Int.gcd e z : Int) ∣ e := Int.gcd_dvd_left _ _
  have hd2 : (Int.gcd e z : Int) ∣ z := Int.gcd_dvd_right _ _
  have hm := tdiv_mul_of_dvd hd1
  generalize (Int.gcd e z : Int) = g at *
  generalize e.tdiv g = q at *
  have hq : 1 ≤ q := by
    by_cases h : 1 ≤ q
    · exact h
    · have h1 : q ≤ 0 := by omega
      have : q * g ≤ 0 * g := Int.mul_le_mul_of_nonneg_right h1 (by omega)
      omega
  have hv : 0 ≤ z + s := by omega
  refine ⟨hg.1, by omega, n64, ?_, by omega, ?_, ?_⟩
  · have : 1 * (z + s) ≤ q * (z + s) := Int.mul_le_mul_of_nonneg_right hq hv
    omega
  · have e0 : g * (q * (z + s) - z + z) = e * (z + s) := by
      rw [Int.sub_add_cancel, ← Int.mul_assoc, Int.mul_comm g q, hm]
    rw [e0]
    have h1 : e * (z - p) ≤ n * (z - p) := Int.mul_le_mul_of_nonneg_right en (by omega)
    have h2 : e * (z + s) = e * (s + p) + e * (z - p) := by rw [← Int.mul_add]; congr 1; omega
    have h3 : n * z = n * p + n * (z - p) := by rw [← Int.mul_add]; congr 1; omega
    omega
  · refine Int.dvd_sub (Int.dvd_trans ?_ (Int.dvd_mul_left _ _)) hd2
    exact Int.dvd_add hd2 (Int.dvd_trans hd1 dv)
/-- Bounds of the next generator and of its shift. -/
theorem GSt.bounds {n e s p z : Int} (h : GSt n e s p) (hz : p ≤ z) (hz1 : 1 ≤ z) (hz2 : z ≤ 2000) :
    (1 ≤ z + s ∧ z + s ≤ 128000) ∧ (1 ≤ e.tdiv (Int.gcd e z : Int) ∧ e.tdiv (Int.gcd e z : Int) ≤ 64) ∧ (0 ≤ e.tdiv (Int.gcd e z : Int) * (z + s) ∧ e.tdiv (Int.gcd e z : Int) * (z + s) ≤ 128000) ∧ 0 ≤ s ∧ s ≤ 128000 := by
  have h' := h.step hz hz1
  obtain ⟨e1, en, n64, s0, p0, bd, dv⟩ := h
  have hg := gcd_le_left (e := e) (z := z) e1
  have hd1 : (Int.gcd e z : Int) ∣ e := Int.gcd_dvd_left _ _
  have hm := tdiv_mul_of_dvd hd1
  obtain ⟨g1, gn, _, t0, _, bd', _⟩ := h'
  have hnz : n * z ≤ 64 * 2000 := by
    have h1 : n * z ≤ 64 * z := Int.mul_le_mul_of_nonneg_right n64 (by omega)
    omega
  generalize (Int.gcd e z : Int) = g at *
  have hv : 0 ≤ z + s := by omega
  generalize hq : e.tdiv g = q at *
  have h0 : g * (q * (z + s) - z + z) = g * (q * (z + s)) := by rw [Int.sub_add_cancel]
  rw [h0] at bd'
  have hqv : 0 ≤ q * (z + s) := by omega
  have h2 : 1 * (q * (z + s)) ≤ g * (q * (z + s)) := Int.mul_le_mul_of_nonneg_right hg.1 hqv
  have hq1 : 1 ≤ q := by
    by_cases h : 1 ≤ q
    · exact h
    · have h1 : q ≤ 0 := by omega
      have : q * g ≤ 0 * g := Int.mul_le_mul_of_nonneg_right h1 (by omega)
      omega
  have h3 : 1 * (z + s) ≤ q * (z + s) := Int.mul_le_mul_of_nonneg_right hq1 hv
  have h4 : q * 1 ≤ q * g := Int.mul_le_mul_of_nonneg_left hg.1 (by omega)
  omega

/-- The list of generators, a round further. -/
theorem gn_step {zs L : List Int} {n k : Nat} {e s : Int} (hl : zs.length = n) (hk : k < n) (h : gnB zs = L ++ gnL e s (zs.drop k)) :
    gnB zs = (L ++ [(zs[k]?.getD 0) + s]) ++ gnL (Int.gcd e (zs[k]?.getD 0) : Int) (e.tdiv (Int.gcd e (zs[k]?.getD 0) : Int) * ((zs[k]?.getD 0) + s) - (zs[k]?.getD 0)) (zs.drop (k + 1)) := by
  rw [h, drop_at hl hk]; simp [gnL]
theorem gn_end {zs L : List Int} {n : Nat} {e s : Int} (hl : zs.length = n) (h : gnB zs = L ++ gnL e s (zs.drop n)) : L = gnB zs := by
  rw [h, drop_end hl (Nat.le_refl _)]; simp [gnL]
/-- The numbers of a branch ascend. -/
theorem isB_asc {p e : Int} {zs : List Int} (h : isB p e zs = true) : ascB p zs = true := by
  rw [isB_split] at h; simp only [Bool.and_eq_true] at h; exact h.1
theorem asc_next : ∀ {p : Int} {zs : List Int} {i : Nat}, ascB p zs = true → i < zs.length → (if i = 0 then p else zs[i - 1]?.getD 0) < zs[i]?.getD (0 : Int) := by
  intro p zs
  induction zs generalizing p with
  | nil => intro i _ h; simp at h
  | cons z zs ih =>
    intro i h hi
    simp only [ascB, Bool.and_eq_true, decide_eq_true_eq] at h
    cases i with
    | zero => simpa using h.1.1
    | succ j =>
      have h2 := ih h.2 (i := j) (by simpa using hi)
      cases j with
      | zero => simpa using h2
      | succ l => simpa using h2
theorem br_next {zs : List Int} (hp : brB zs = true) {k : Nat} (h : k < zs.length) (hk : 1 ≤ k) : zs[k - 1]?.getD (0 : Int) < zs[k]?.getD (0 : Int) := by
  cases zs with
  | nil => cases hp
  | cons n r =>
    simp only [brB, Bool.and_eq_true] at hp
    obtain ⟨j, rfl⟩ : ∃ j, k = j + 1 := ⟨k - 1, by omega⟩
    have := asc_next (isB_asc hp.2) (i := j) (by simpa using h)
    cases j with
    | zero => simpa using this
    | succ l => simpa using this
theorem br_first {zs : List Int} (hp : brB zs = true) : (1 : Int) ≤ zs[0]?.getD 0 ∧ zs[0]?.getD 0 ≤ 64 := by
  cases zs with
  | nil => cases hp
  | cons n r =>
    simp only [brB, Bool.and_eq_true] at hp
    exact mulB_true.1 hp.1
/-- A prefix of the list of generators is in bounds. -/
theorem gn_all {n e s p : Int} : ∀ {zs : List Int}, GSt n e s p → (∀ z ∈ zs, 1 ≤ z ∧ z ≤ 2000) → ascB p zs = true → ∀ x ∈ gnL e s zs, 1 ≤ x ∧ x ≤ 128000 := by
  intro zs
  induction zs generalizing e s p with
  | nil => intro _ _ _ x hx; cases hx
  | cons z zs ih =>
    intro h hz ha x hx
    simp only [ascB, Bool.and_eq_true, decide_eq_true_eq] at ha
    have h1 := hz z (List.mem_cons_self ..)
    rcases List.mem_cons.1 hx with rfl | hx
    · exact (h.bounds (by omega) h1.1 h1.2).1
    · exact ih (h.step (by omega) h1.1) (fun y hy => hz y (List.mem_cons_of_mem _ hy)) ha.2 x hx
theorem gnB_all {zs : List Int} (hp : brB zs = true) : ∀ x ∈ gnB zs, 1 ≤ x ∧ x ≤ 128000 := by
  cases zs with
  | nil => cases hp
  | cons n r =>
    have hd := brB_dcB hp
    simp only [brB, Bool.and_eq_true] at hp
    have hm := mulB_true.1 hp.1
    refine gn_all (n := n) (p := 0) (zs := n :: r) (GSt.start hm.1 hm.2) (dcB_range hd) ?_
    have := isB_asc hp.2
    simp only [ascB, Bool.and_eq_true, decide_eq_true_eq]
    exact ⟨by omega, this⟩
theorem pre_of {A : Type} {G L T : List A} {d : A} (h : G = L ++ T) {i : Nat} (hi : i < L.length) : L[i]?.getD d = G[i]?.getD d := by
  rw [h, List.getElem?_append_left hi]
theorem all_at {L : List Int} {P : Int → Prop} (h : ∀ x ∈ L, P x) {i : Nat} (hi : i < L.length) : P (L[i]?.getD 0) := by
  have := h L[i] (List.getElem_mem _); simpa [hi] using this
/-- The divisors of a branch and the list of generators, index by index. -/
theorem dv_at {e : Int} : ∀ {zs : List Int} {i : Nat}, i < zs.length → (dvL e zs)[i]?.getD 0 = (Int.gcd (if i = 0 then e else (dvL e zs)[i - 1]?.getD 0) (zs[i]?.getD 0) : Int) := by
  intro zs
  induction zs generalizing e with
  | nil => intro i h; simp at h
  | cons z zs ih =>
    intro i h
    cases i with
    | zero => simp [dvL]
    | succ j =>
      have h2 := ih (e := (Int.gcd e z : Int)) (i := j) (by simpa using h)
      cases j with
      | zero => simpa [dvL] using h2
      | succ l => simpa [dvL] using h2
end Go.Proofs.Ytjgidalmgoifgaa
/- Generators of a branch, the program's: contracts of the function that is told generators and terms, and of (impl.Branch).generators. Conditions: stated at each theorem. -/
namespace Go.Proofs.Ytjgidalmgoifgaa
open Go.ChangeShapes Go.WideShapes Go.ChangeAt Go.RowKit
set_option linter.unusedVariables false
set_option linter.unusedSimpArgs false

theorem shifts_any (n : Int) (w : World) :
    Calls Try.prog 103 #[.int .i64 n] w fun e w' => e = .returned (.func (.func 124) #[] #[.pointer (some ⟨w.heap.size, 0, none⟩)]) ∧ w' = w.alloc (.cells #[.int .i64 n] 2) := by
  have hmf : ∀ (fn : Fn) (first cap : Array Value) (w : World), (Instr.makeFunc fn first cap).run Try.prog w = .ok (.func fn first cap) w := fun _ _ _ _ => rfl
  go_enter Try.func103, Try.ntmps103
  go_wp2
  go_ret
  exact ⟨rfl, rfl⟩

theorem tdiv_le {z e B : Int} (hz : 0 ≤ z ∧ z ≤ B) (he : 1 ≤ e) : 0 ≤ z.tdiv e ∧ z.tdiv e ≤ B := by
  rw [Int.tdiv_eq_ediv_of_nonneg (by omega)]
  exact ⟨Int.ediv_nonneg (by omega) (by omega), Int.le_trans (Int.ediv_le_self _ (by omega)) hz.2⟩
theorem drewN_heap (w : World) (m : Nat) : (w.drewN m).heap = w.heap := rfl
theorem rowIs_other {w w' : World} {g n b : Nat} {t : TypeId} {f : Nat → Value} (h : w.rowIs g t n f) (hw : w'.heap = w.heap) (hne : b ≠ g) (u : Value) : (w'.setCell ⟨b, 0, none⟩ u).rowIs g t n f :=
  World.rowIs.of_block h (by rw [Below.heap_setCell w' ⟨b, 0, none⟩ u g (fun e => hne e.symm), hw])
theorem mul_range {a b A B : Int} (h1 : 0 ≤ a ∧ a ≤ A) (h2 : 0 ≤ b ∧ b ≤ B) : 0 ≤ a * b ∧ a * b ≤ A * B :=
  ⟨Int.mul_nonneg h1.1 h2.1, Int.mul_le_mul h1.2 h2.2 h2.1 (by omega)⟩
theorem shift1_any (g t e : Int) (b : Nat) (w : World) (hc : w.cell? ⟨b, 0, none⟩ = some (.int .i64 e)) (hf : w.frozen? ⟨b, 0, none⟩ = false) (he : 1 ≤ e ∧ e ≤ 1000000) (hg : 1 ≤ g ∧ g ≤ 1000000) (ht : -1000000000000000 ≤ t ∧ t ≤ 1000000000000000) :
    Calls Try.prog 124 #[.int .i64 g, .int .i64 t, .pointer (some ⟨b, 0, none⟩)] w fun r w' => r = .returned (.int .i64 (e.tdiv (Int.gcd e g : Int) * g - t)) ∧ ∃ n, w' = (w.drewN n).setCell ⟨b, 0, none⟩ (.int .i64 (Int.gcd e g : Int)) := by
  have hgl := gcd_le (e := e) (z := g) hg.1
  have hq := tdiv_le (z := e) (e := (Int.gcd e g : Int)) (B := 1000000) (by omega) hgl.1
  have hq2 := mul_range (A := 1000000) (B := 1000000) (a := e.tdiv (Int.gcd e g : Int)) (b := g) (by omega) (by omega)
  have HC : Hid (∀ n, (w.drewN n).cell? ⟨b, 0, none⟩ = some (.int .i64 e) ∧ (w.drewN n).frozen? ⟨b, 0, none⟩ = false) := Lib.hid (fun n => ⟨hc, hf⟩)
  obtain ⟨d, hd⟩ : ∃ d, (Int.gcd e g : Int) = d := ⟨_, rfl⟩
  have HG : Hid ((Int.gcd e g : Int) = d) := Lib.hid hd
  rw [hd] at hgl hq hq2 ⊢
  have hdz : (d == 0) = false := by simp; omega
  have hdz2 : ¬ d = 0 := by omega
  have p2 : IntKind.i64.wrap (e.tdiv d) = e.tdiv d := IntWalk.i64_in _ (by omega)
  have p3 : IntKind.i64.wrap (e.tdiv d * g) = e.tdiv d * g := IntWalk.i64_in _ (by omega)
  have p4 : IntKind.i64.wrap (e.tdiv d * g - t) = e.tdiv d * g - t := IntWalk.i64_in _ (by omega)
  clear hd
  go_enter Try.func124, Try.ntmps124
  go_wp2_with (go_at_call 125; refine (greatest_any _ _ _ (by omega) (by omega) (by omega) (by omega)).mono ?_; rintro e' w' ⟨rfl, nd, rfl⟩; rw [HG.out]; obtain ⟨hc2, hf2⟩ := HC.out nd)
  go_ret
  exact ⟨rfl, nd, rfl⟩

set_option maxRecDepth 100000 in
set_option maxHeartbeats 1000000 in
theorem generators_any (v : Value) (zs : List Int) (w : World) (h : ReadI w w.heap.size v zs) (hn : zs.length ≤ 1048576) (hp : brB zs = true) :
    Calls Try.prog 101 #[.agg #[v]] w fun e w' => ∃ v', e = .returned v' ∧ v' = .slice (some ⟨w.heap.size + 1, 0, none⟩) zs.length zs.length ∧ OwnI w' w.heap.size w'.heap.size v' (gnB zs) ∧ Below w.heap.size w w' := by
  have hn0 := brB_pos hp
  have HZ := Lib.hid (dcB_range (brB_dcB hp))
  have HF1 := Lib.hid (br_first hp)
  have HNX := Lib.hid (fun k (h1 : k < zs.length) (h2 : 1 ≤ k) => br_next hp h1 h2)
  obtain ⟨n, A, c, rfl, hr, HL, HN, hnc, HF, hcm⟩ := h.split2
  rw [HL.out] at hn hn0
  obtain ⟨a, rfl, hlt, hc0⟩ := hr.2 0 hn0
  obtain ⟨g, o, rfl⟩ := HF.out a rfl
  have hgw : g < w.heap.size := hlt
  have hcw : w.cell? ⟨g, o, none⟩ = some (.int .i64 (zs[0]?.getD 0)) := by
    have h2 : (⟨g, o, none⟩ : Addr).add 0 = ⟨g, o, none⟩ := by rw [add_lit]; rfl
    rw [h2] at hc0; simpa using hc0
  have H0 := Lib.hid hr
  have hmk := fun (W : World) => run_make_row' (P := Try.prog) 24 2 (.int .i64 0) 8 Try.underlying24 int_info rfl .i64 .i64 n (by omega) (by omega) W
  have HST : Hid (GSt (zs[0]?.getD 0) (zs[0]?.getD 0) 0 0) := Lib.hid (GSt.start HF1.out.1 HF1.out.2)
  have hz0 := HF1.out
  have HEQ : Hid (gnB zs = [] ++ gnL (zs[0]?.getD 0) 0 (zs.drop 0)) := Lib.hid (by simp [gnB])
  obtain ⟨z0, hz00⟩ : ∃ z, zs[0]?.getD 0 = z := ⟨_, rfl⟩
  have HZ0 := Lib.hid hz00
  rw [hz00] at hcw HST hz0 HEQ
  clear hz00 h hr hc0 hlt hp
  go_enter Try.func101, Try.ntmps101
  go_wp2_with (go_at_call 103; refine (shifts_any _ _).mono ?_; rintro e' w' ⟨rfl, rfl⟩)
  clear hmk
  have hb1 : Below w.heap.size w (((w.alloc (.cells #[.slice (some ⟨g, o, none⟩) n c] 26)).alloc (.cells (madeCells #[.int .i64 0] n) 2)).alloc (.cells #[.int .i64 z0] 2)) := (((Below.refl _ _).alloc (Nat.le_refl _) _).alloc (by simp) _).alloc (by simp; omega) _
  have hrow1 : World.rowIs (((w.alloc (.cells #[.slice (some ⟨g, o, none⟩) n c] 26)).alloc (.cells (madeCells #[.int .i64 0] n) 2)).alloc (.cells #[.int .i64 z0] 2)) (w.alloc (.cells #[.slice (some ⟨g, o, none⟩) n c] 26)).heap.size 2 n (fun x => if x < 0 then .int .i64 ((gnB zs).getD x 0) else .int .i64 0) := ((World.rowIs_made _ _ n _).alloc _).congr (fun i hi => by simp)
  rw [World.size_alloc] at hrow1
  have hc1 : World.cell? (((w.alloc (.cells #[.slice (some ⟨g, o, none⟩) n c] 26)).alloc (.cells (madeCells #[.int .i64 0] n) 2)).alloc (.cells #[.int .i64 z0] 2)) ⟨w.heap.size + 1 + 1, 0, none⟩ = some (.int .i64 z0) ∧ World.frozen? (((w.alloc (.cells #[.slice (some ⟨g, o, none⟩) n c] 26)).alloc (.cells (madeCells #[.int .i64 0] n) 2)).alloc (.cells #[.int .i64 z0] 2)) ⟨w.heap.size + 1 + 1, 0, none⟩ = false := by constructor <;> go_simp
  have hs1 : Array.size (World.heap (((w.alloc (.cells #[.slice (some ⟨g, o, none⟩) n c] 26)).alloc (.cells (madeCells #[.int .i64 0] n) 2)).alloc (.cells #[.int .i64 z0] 2))) = w.heap.size + 3 := by simp
  generalize ((w.alloc (.cells #[.slice (some ⟨g, o, none⟩) n c] 26)).alloc (.cells (madeCells #[.int .i64 0] n) 2)).alloc (.cells #[.int .i64 z0] 2) = W1 at *
  go_loopw [5, 20] (fun vs vi wr => ∃ (k : Nat) (e s p : Int) (L : List Int), k ≤ n ∧ GSt z0 e s p ∧ vs = .int .i64 s ∧ vi = .int .i64 k ∧ Hid (p = if k = 0 then 0 else zs[k - 1]?.getD 0) ∧ Hid (L.length = k) ∧ Hid (gnB zs = L ++ gnL e s (zs.drop k)) ∧ Hid (wr.rowIs (w.heap.size + 1) 2 n (fun x => if x < k then .int .i64 ((gnB zs).getD x 0) else .int .i64 0)) ∧ (wr.cell? ⟨w.heap.size + 1 + 1, 0, none⟩ = some (.int .i64 e) ∧ wr.frozen? ⟨w.heap.size + 1 + 1, 0, none⟩ = false) ∧ w.heap.size + 3 ≤ wr.heap.size ∧ Hid (Below w.heap.size w wr)) (fun _ vi _ => n - (intOf vi).toNat)
  case atStart => exact ⟨0, z0, 0, 0, [], by omega, HST.out, rfl, rfl, Lib.hid rfl, Lib.hid rfl, HEQ, Lib.hid hrow1, hc1, by omega, Lib.hid hb1⟩
  case round =>
    obtain ⟨k, e, s, p, L, hk, hst, rfl, rfl, hp, hL, hg, hrow, ⟨hcc, hcf⟩, hsz, hb⟩ := hrel
    by_cases hlt : k < n
    · obtain ⟨a, e1, hab, hcell0⟩ := H0.out.2 k hlt
      cases e1
      rw [add_lit] at hcell0
      have hcell1 : wr.cell? ⟨g, o + k, none⟩ = some (.int .i64 (zs[k]?.getD 0)) := by rw [hb.out.cell (p := ⟨g, o + k, none⟩) hgw]; simpa using hcell0
      have hzk := HZ.out (zs[k]?.getD 0) (by have := HL.out; simp [show k < zs.length by omega])
      have hpz : p ≤ zs[k]?.getD 0 := by
        rw [hp.out]
        by_cases h0 : k = 0
        · rw [if_pos h0]; omega
        · rw [if_neg h0]; have := HNX.out k (by rw [HL.out]; exact hlt) (by omega); omega
      have HG := Lib.hid (gn_step HL.out hlt hg.out)
      obtain ⟨z, hzz⟩ : ∃ z, zs[k]?.getD 0 = z := ⟨_, rfl⟩
      have HZZ := Lib.hid hzz
      rw [hzz] at hcell1 hzk hpz HG
      clear hzz hcell0 hg
      have hbd := hst.bounds hpz hzk.1 hzk.2
      have hst' := Lib.hid (hst.step hpz hzk.1)
      have he := hst.e1
      have hen := hst.en
      have hz64 := hst.n64
      have HGS : Hid ((Int.gcd e (z + s) : Int) = (Int.gcd e z : Int)) := Lib.hid (gcd_shift hst.dv)
      have HD : Hid ((gnB zs).getD k 0 = z + s) := Lib.hid (by have := hL.out; subst this; rw [HG.out]; simp)
      have hdst := hrow.out.cell hlt
      simp only [Nat.lt_irrefl, if_false] at hdst
      have hfz := hrow.out.frozen k
      have p1 : IntKind.i64.wrap (z + s) = z + s := IntWalk.i64_in _ (by omega)
      have h5 : (k : Int) < (n : Int) := by omega
      have h6 : (0 : Int) ≤ (k : Int) := by omega
      have hne : w.heap.size + 1 + 1 ≠ w.heap.size + 1 := by omega
      clear hst hp
      go_wp2_with (go_at_call 124; refine (shift1_any (z + s) z e (w.heap.size + 1 + 1) _ (by go_simp) (by go_simp) (by omega) (by omega) (by omega)).mono ?_; rintro e' w' ⟨rfl, nd, rfl⟩; rw [HGS.out])
      go_roundw
      case rel =>
        have hb2 := Lib.hid (((below_drewN hb.out nd).setCell (p := ⟨w.heap.size + 1, k, none⟩) (Nat.le_succ _) (.int .i64 (z + s))).setCell (p := ⟨w.heap.size + 1 + 1, 0, none⟩) (show w.heap.size ≤ w.heap.size + 1 + 1 by omega) (.int .i64 (Int.gcd e z : Int)))
        have hrow2 : World.rowIs (wr.setCell ⟨w.heap.size + 1, k, none⟩ (.int .i64 (z + s))) (w.heap.size + 1) 2 n (fun x => if x < k + 1 then .int .i64 ((gnB zs).getD x 0) else .int .i64 0) := (hrow.out.set k _).congr fun j hj => by
          by_cases h1 : j = k
          · subst h1; simp only [if_true, show j < j + 1 by omega]; rw [HD.out]
          · by_cases h2 : j < k
            · simp only [h1, h2, if_false, if_true, show j < k + 1 by omega]
            · simp only [h1, h2, if_false, show ¬ j < k + 1 by omega]
        have hrow3 := Lib.hid (rowIs_other hrow2 (drewN_heap (wr.setCell ⟨w.heap.size + 1, k, none⟩ (.int .i64 (z + s))) nd) hne (.int .i64 (Int.gcd e z : Int)))
        refine ⟨k + 1, _, _, z, L ++ [z + s], by omega, hst'.out, rfl, by go_num, Lib.hid (by rw [if_neg (by omega)]; simpa using HZZ.out.symm), Lib.hid (by simp [hL.out]), HG, hrow3, ⟨by go_simp, by go_simp⟩, by simp [World.setCell]; omega, hb2⟩
      case measure => simp [intOf]; omega
    · obtain rfl : k = n := by omega
      have HNL : Hid ((gnB zs).length = k) := Lib.hid (by rw [gnB_len, HL.out])
      go_wp2
      go_ret
      exact ⟨_, rfl, by rw [HL.out]; rfl, by have := row_ownB hrow.out HNL.out (Nat.le_succ _) (by omega); exact this, hb.out⟩
end Go.Proofs.Ytjgidalmgoifgaa
/- Generators of a branch, the model's: contract of spec.l05Generators. Conditions: stated at the theorem. -/
namespace Go.Proofs.Ytjgidalmgoifgaa
open Go.ChangeShapes Go.WideShapes Go.ChangeAt Go.RowKit Go.Deep
set_option linter.unusedVariables false
set_option linter.unusedSimpArgs false

theorem kept_grown {w a w2 : World} {lo hi : Nat} {row : Option Nat} (h : Kept lo hi w a) (hg : a.drew.grownBy w2 row) (hs : hi ≤ a.heap.size) (hn : ∀ b, lo ≤ b → b < hi → some b ≠ row) : Kept lo hi w w2 :=
  h.trans ⟨hg.size, fun b h1 h2 => hg.block b (Nat.lt_of_lt_of_le h2 hs) (hn b h1 h2)⟩
theorem kept_one {d : Nat} {row : Option Nat} (h : some d ≠ row) : ∀ b, d ≤ b → b < d + 1 → some b ≠ row := fun b h1 h2 => by
  obtain rfl : b = d := by omega
  exact h
theorem kept_grown2 {w a w2 : World} {lo hi : Nat} {row : Option Nat} (h : Kept lo hi w a) (hg : a.grownBy w2 row) (hs : hi ≤ a.heap.size) (hn : ∀ b, lo ≤ b → b < hi → some b ≠ row) : Kept lo hi w w2 :=
  h.trans ⟨hg.size, fun b h1 h2 => hg.block b (Nat.lt_of_lt_of_le h2 hs) (hn b h1 h2)⟩
/-- What the first statement leaves: the divisors in a block of their own, the first number in another one. -/
def GnCut (W0 : World) (zs : List Int) (n : Nat) (z0 : Int) (wc : World) (s3 s4 : Value) : Prop :=
  ∃ d c1 g4, s3 = .slice (some ⟨d, 0, none⟩) n c1 ∧ s4 = .slice (some ⟨g4, 0, none⟩) 1 1 ∧ OwnI wc d (d + 1) (.slice (some ⟨d, 0, none⟩) n c1) (dvL 0 zs) ∧ OwnI wc W0.heap.size wc.heap.size (.slice (some ⟨g4, 0, none⟩) 1 1) [z0] ∧ g4 ≠ d ∧ d < wc.heap.size ∧ Below W0.heap.size W0 wc
theorem own_tight {w : World} {lo hi n c d : Nat} {zs : List Int} (h : OwnI w lo hi (.slice (some ⟨d, 0, none⟩) n c) zs) (hd : d < w.heap.size) : OwnI w d (d + 1) (.slice (some ⟨d, 0, none⟩) n c) zs := by
  obtain ⟨⟨h0, h1⟩, h2, h3⟩ := h
  refine ⟨⟨h0, ?_⟩, fun k hk => by (simp [Value.ownBlock] at hk; omega), by omega⟩
  rcases h1 with ⟨e, _⟩ | ⟨g, cap, cur, e, hb, rest⟩
  · cases e
  · simp only [Value.slice.injEq, Option.some.injEq, Addr.mk.injEq] at e
    obtain ⟨⟨rfl, _⟩, rfl, rfl⟩ := e
    exact .inr ⟨d, c, cur, rfl, Nat.le_refl _, rest⟩
theorem one_lit (w : World) (lo : Nat) (z0 : Int) (hlo : lo ≤ w.heap.size) : OwnI (w.alloc (.cells #[.int .i64 z0] 2)) lo (w.alloc (.cells #[.int .i64 z0] 2)).heap.size (.slice (some ⟨w.heap.size, 0, none⟩) 1 1) [z0] :=
  OwnI.mk' (n := 1) (World.ownsRow_lit w #[.int .i64 z0] 1 hlo (by simp [maxLen]) rfl)
theorem gnCut_a (W0 W1 : World) {zs : List Int} {n d c1 : Nat} {z0 : Int} (ho : OwnI W1 W0.drew.heap.size W1.heap.size (.slice (some ⟨d, 0, none⟩) n c1) (dvL 0 zs)) (h1 : W0.drew.heap.size ≤ d) (h2 : d < W1.heap.size) (hl : (dvL 0 zs).length = n) (hb : Below W0.drew.heap.size W0.drew W1) :
    GnCut W0 zs n z0 (W1.alloc (.cells #[.int .i64 z0] 2)) (.slice (some ⟨d, 0, none⟩) n c1) (.slice (some ⟨W1.heap.size, 0, none⟩) 1 1) := by
  have hs : W0.heap.size ≤ W1.heap.size := hb.size
  refine ⟨d, c1, W1.heap.size, rfl, rfl, (own_tight ho h2).kept (kept_box _ _ _ _ (by omega)), one_lit W1 _ z0 hs, by omega, by simp; omega, ?_⟩
  have hb' : Below W0.heap.size W0 W1 := ⟨hb.os, hb.tape, hb.output, hb.size, hb.block⟩
  exact hb'.alloc hs _
theorem gnCut_b (W0 W1 : World) {zs : List Int} {n d c1 lo hi : Nat} {z0 : Int} (ho : OwnI W1 lo hi (.slice (some ⟨d, 0, none⟩) n c1) (dvL 0 zs)) (h1 : W0.heap.size + 1 ≤ d) (h2 : d < W1.heap.size) (hl : (dvL 0 zs).length = n) (hb : Below (W0.heap.size + 1) (W0.alloc (.cells #[.int .i64 z0] 2)).drew W1) :
    GnCut W0 zs n z0 W1 (.slice (some ⟨d, 0, none⟩) n c1) (.slice (some ⟨W0.heap.size, 0, none⟩) 1 1) := by
  have hb' : Below (W0.heap.size + 1) (W0.alloc (.cells #[.int .i64 z0] 2)) W1 := ⟨hb.os, hb.tape, hb.output, hb.size, hb.block⟩
  have hs : (W0.alloc (.cells #[.int .i64 z0] 2)).heap.size = W0.heap.size + 1 := by simp
  have o4 := one_lit W0 W0.heap.size z0 (Nat.le_refl _)
  rw [hs] at o4
  have o5 := o4.kept (Kept.of_below (lo := W0.heap.size) hb' (Nat.le_refl _))
  refine ⟨d, c1, W0.heap.size, rfl, rfl, own_tight ho h2, ?_, by omega, h2, ((below_box W0 _).trans (hb'.mono (by omega)))⟩
  exact OwnI.mk' (n := 1) o5.1

set_option maxRecDepth 100000 in
set_option maxHeartbeats 4000000 in
theorem l05Generators_any (v : Value) (zs : List Int) (w : World) (h : ReadI w w.heap.size v zs) (hn : zs.length ≤ 1048576) (hp : brB zs = true) :
    Calls Try.prog 106 #[.agg #[v]] w fun e w' => ∃ v', e = .returned v' ∧ OwnI w' w.heap.size w'.heap.size v' (gnB zs) ∧ Below w.heap.size w w' := by
  have hn0 := brB_pos hp
  have HP := Lib.hid hp
  have HZ := Lib.hid (dcB_range (brB_dcB hp))
  have HF1 := Lib.hid (br_first hp)
  have HNX := Lib.hid (fun k (h1 : k < zs.length) (h2 : 1 ≤ k) => br_next hp h1 h2)
  obtain ⟨n, A, c, rfl, hr, HL, HN, hnc, HF, hcm⟩ := h.split2
  rw [HL.out] at hn hn0
  obtain ⟨a, rfl, hlt, hc0⟩ := hr.2 0 hn0
  obtain ⟨g, o, rfl⟩ := HF.out a rfl
  have hgw : g < w.heap.size := hlt
  obtain ⟨W0, HE⟩ : ∃ W, W = w.alloc (.cells #[.slice (some ⟨g, o, none⟩) n c] 26) := ⟨_, rfl⟩
  have hb0 : Below w.heap.size w W0 := by rw [HE]; exact below_box2 _ _
  have hq0 : BoxI W0 w.heap.size (.slice (some ⟨g, o, none⟩) n c) := by rw [HE]; exact BoxI.new _ _ _
  have hs0 : w.heap.size < W0.heap.size := hq0.2
  have hgW : g < W0.heap.size := by omega
  have H0 := Lib.hid (hr.below hb0)
  have HR := Lib.hid ((h.below hb0).more hb0.size)
  have B0 := Lib.hid hb0
  have HEQ := Lib.hid HE
  have HLD : Hid ((dvL 0 zs).length = n) := Lib.hid (by rw [dvL_len, HL.out])
  have q0 := hq0.1
  have Q0 := Lib.hid q0
  have cz : W0.cell? ⟨g, o, none⟩ = some (.int .i64 (zs[0]?.getD 0)) := by
    have h2 : (⟨g, o, none⟩ : Addr).add 0 = ⟨g, o, none⟩ := by rw [add_lit]; rfl
    rw [h2] at hc0
    rw [hb0.cell (p := ⟨g, o, none⟩) hgw]; simpa using hc0
  have HDV := Lib.hid (fun i (hi : i < zs.length) => dv_at (e := 0) (zs := zs) (i := i) hi)
  have HST0 := GSt.start HF1.out.1 HF1.out.2
  have HST1 := Lib.hid (HST0.step (z := zs[0]?.getD 0) (by have := HF1.out; omega) HF1.out.1)
  have HG0 : Hid (gnB zs = [] ++ gnL (zs[0]?.getD 0) 0 (zs.drop 0)) := Lib.hid (by simp [gnB])
  have HG1 := Lib.hid (gn_step HL.out hn0 HG0.out)
  have HE1 : Hid ((Int.gcd (zs[0]?.getD 0) (zs[0]?.getD 0) : Int) = zs[0]?.getD 0) := Lib.hid (by have := HF1.out; rw [Int.gcd_self]; omega)
  have HE2 : Hid ((zs[0]?.getD 0).tdiv (Int.gcd (zs[0]?.getD 0) (zs[0]?.getD 0) : Int) * (zs[0]?.getD 0 + 0) - zs[0]?.getD 0 = 0) := Lib.hid (by rw [HE1.out, Int.tdiv_self (by have := HF1.out; omega)]; omega)
  have hzf := HF1.out
  obtain ⟨z0, hz00⟩ : ∃ z, zs[0]?.getD 0 = z := ⟨_, rfl⟩
  have HZ0 := Lib.hid hz00
  rw [HE2.out, HE1.out] at HST1 HG1
  rw [hz00] at cz hzf HST1 HG1
  clear h hr hp hb0 hq0 HE hc0 hlt hz00 HST0 HE1 HE2
  obtain ⟨i0, hi0, hy0, hy1, hy2⟩ := info_parts int_info
  go_enter Try.func106, Try.ntmps106
  go_upto_region 1 with fail
  rw [← HEQ.out]
  go_cut [3, 4] (fun s3 s4 wx => Hid (GnCut W0 zs n z0 wx s3 s4))
  case first =>
    refine wp_region_held_drew (S := fun w' => w'.cell? ⟨w.heap.size, 0, none⟩ = some (.slice (some ⟨g, o, none⟩) n c) ∧ w'.cell? ⟨g, o, none⟩ = some (.int .i64 z0)) (by kernel_rfl) ⟨q0, cz⟩ (fun hHeld => ?_)
    refine takeY 0 _ (v := ?_) rfl rfl (by kernel_rfl) (by kernel_rfl) (by kernel_rfl) (fun _ _ _ h => h) (by kernel_rfl) ?_ (by assumption) ?_
    rotate_left 1
    · intro w hSw; (try dsimp only at hSw); go_simp; (try with_reducible rfl)
    try simp only [Act.put, List.setIfInBounds_toArray, List.set_cons_zero, List.set_cons_succ]
    refine takeY 2 _ (v := ?_) rfl rfl (by kernel_rfl) (by kernel_rfl) (by kernel_rfl) (fun _ _ _ h => h) (by kernel_rfl) ?_ (by assumption) ?_
    rotate_left 1
    · intro w hSw; (try dsimp only at hSw); go_simp; (try with_reducible rfl)
    try simp only [Act.put, List.setIfInBounds_toArray, List.set_cons_zero, List.set_cons_succ]
    refine takeY 3 _ (v := ?_) rfl rfl (by kernel_rfl) (by kernel_rfl) (by kernel_rfl) (fun _ _ _ h => h) (by kernel_rfl) ?_ (by assumption) ?_
    rotate_left 1
    · intro w hSw; (try dsimp only at hSw); go_simp; (try with_reducible rfl)
    try simp only [Act.put, List.setIfInBounds_toArray, List.set_cons_zero, List.set_cons_succ]
    refine takeY 4 _ (v := ?_) rfl rfl (by kernel_rfl) (by kernel_rfl) (by kernel_rfl) (fun _ _ _ h => h) (by kernel_rfl) ?_ (by assumption) ?_
    rotate_left 1
    · intro w hSw; (try dsimp only at hSw); go_simp; (try with_reducible rfl)
    try simp only [Act.put, List.setIfInBounds_toArray, List.set_cons_zero, List.set_cons_succ]
    refine takeY 5 _ (v := ?_) rfl rfl (by kernel_rfl) (by kernel_rfl) (by kernel_rfl) (fun _ _ _ h => h) (by kernel_rfl) ?_ (by assumption) ?_
    rotate_left 1
    · intro w hSw; (try dsimp only at hSw); go_simp; (try with_reducible rfl)
    try simp only [Act.put, List.setIfInBounds_toArray, List.set_cons_zero, List.set_cons_succ]
    refine wpAnyH_ready (rs := [1, 6]) (by kernel_rfl) (by simp) ?_
    refine AllReadyH.cons rfl (fun K hK => ?_) (AllReadyH.cons rfl (fun K hK => ?_) AllReadyH.nil)
    · go_simp
      refine (l03Divisors_any _ zs W0.drew HR.out (by rw [HL.out]; exact hn) HP.out).mono ?_
      rintro e W1 ⟨v1, rfl, ho1, hb1⟩
      obtain ⟨A1, c1, rfl⟩ := ho1.form HLD.out
      obtain ⟨d, e1, hd1, hd2, _, _⟩ := own_at ho1 HLD.out hn0
      cases e1
      have hs1 : W0.heap.size ≤ W1.heap.size := hb1.size
      have q1 := (hb1.cell (p := ⟨w.heap.size, 0, none⟩) hs0).trans q0
      have cz1 := (hb1.cell (p := ⟨g, o, none⟩) hgW).trans cz
      refine hK.out _ (W1) ⟨q1, cz1⟩ (fun hHeld => ?_)
      clear hK K
      try simp only [Act.put, List.setIfInBounds_toArray, List.set_cons_zero, List.set_cons_succ]
      refine takeY 7 _ (v := ?_) rfl rfl (by kernel_rfl) (by kernel_rfl) (by kernel_rfl) (fun _ _ _ h => h) (by kernel_rfl) ?_ (by assumption) ?_
      rotate_left 1
      · intro w hSw; (try dsimp only at hSw); go_simp; (try with_reducible rfl)
      try simp only [Act.put, List.setIfInBounds_toArray, List.set_cons_zero, List.set_cons_succ]
      refine wpAnyH_ready (rs := [6]) (by kernel_rfl) (by simp) ?_
      refine AllReadyH.cons rfl (fun K hK => ?_) AllReadyH.nil
      go_simp
      have hw1 : w.heap.size < W1.heap.size := by omega
      have hg1 : g < W1.heap.size := by omega
      refine hK.out _ (_) ⟨((below_box W1 (.cells #[.int .i64 z0] 2)).cell (p := ⟨w.heap.size, 0, none⟩) hw1).trans q1, ((below_box W1 (.cells #[.int .i64 z0] 2)).cell (p := ⟨g, o, none⟩) hg1).trans cz1⟩ (fun hHeld => ?_)
      clear hK K
      try simp only [Act.put, List.setIfInBounds_toArray, List.set_cons_zero, List.set_cons_succ]
      refine takeY 8 _ (v := ?_) rfl rfl (by kernel_rfl) (by kernel_rfl) (by kernel_rfl) (fun _ _ _ h => h) (by kernel_rfl) ?_ (by assumption) ?_
      rotate_left 1
      · intro w hSw; (try dsimp only at hSw); go_simp; (try with_reducible rfl)
      try simp only [Act.put, List.setIfInBounds_toArray, List.set_cons_zero, List.set_cons_succ]
      refine wpAnyH_done (by kernel_rfl) ?_ _
      go_wp2_with fail
      go_meet
      exact Lib.hid (gnCut_a W0 W1 ho1 hd1 hd2 HLD.out hb1)
    · go_simp
      have hs2 : (W0.alloc (.cells #[.int .i64 z0] 2)).heap.size = W0.heap.size + 1 := by simp
      have q2 := ((below_box W0 (.cells #[.int .i64 z0] 2)).cell (p := ⟨w.heap.size, 0, none⟩) hs0).trans q0
      have cz2 := ((below_box W0 (.cells #[.int .i64 z0] 2)).cell (p := ⟨g, o, none⟩) hgW).trans cz
      refine hK.out _ (_) ⟨q2, cz2⟩ (fun hHeld => ?_)
      clear hK K
      try simp only [Act.put, List.setIfInBounds_toArray, List.set_cons_zero, List.set_cons_succ]
      refine wpAnyH_ready (rs := [1]) (by kernel_rfl) (by simp) ?_
      refine AllReadyH.cons rfl (fun K hK => ?_) AllReadyH.nil
      go_simp
      refine (l03Divisors_any _ zs ((W0.alloc (.cells #[.int .i64 z0] 2)).drew) ((HR.out.below (below_box W0 (.cells #[.int .i64 z0] 2))).more (by rw [show ((W0.alloc (.cells #[.int .i64 z0] 2)).drew).heap.size = W0.heap.size + 1 from hs2]; omega)) (by rw [HL.out]; exact hn) HP.out).mono ?_
      rintro e W1 ⟨v1, rfl, ho1, hb1⟩
      obtain ⟨A1, c1, rfl⟩ := ho1.form HLD.out
      obtain ⟨d, e1, hd1, hd2, _, _⟩ := own_at ho1 HLD.out hn0
      cases e1
      rw [show ((W0.alloc (.cells #[.int .i64 z0] 2)).drew).heap.size = W0.heap.size + 1 from hs2] at hd1 hb1
      have q3 := (hb1.cell (p := ⟨w.heap.size, 0, none⟩) (by show w.heap.size < _; omega)).trans q2
      have cz3 := (hb1.cell (p := ⟨g, o, none⟩) (by show g < _; omega)).trans cz2
      refine hK.out _ (W1) ⟨q3, cz3⟩ (fun hHeld => ?_)
      clear hK K
      try simp only [Act.put, List.setIfInBounds_toArray, List.set_cons_zero, List.set_cons_succ]
      refine takeY 7 _ (v := ?_) rfl rfl (by kernel_rfl) (by kernel_rfl) (by kernel_rfl) (fun _ _ _ h => h) (by kernel_rfl) ?_ (by assumption) ?_
      rotate_left 1
      · intro w hSw; (try dsimp only at hSw); go_simp; (try with_reducible rfl)
      try simp only [Act.put, List.setIfInBounds_toArray, List.set_cons_zero, List.set_cons_succ]
      refine takeY 8 _ (v := ?_) rfl rfl (by kernel_rfl) (by kernel_rfl) (by kernel_rfl) (fun _ _ _ h => h) (by kernel_rfl) ?_ (by assumption) ?_
      rotate_left 1
      · intro w hSw; (try dsimp only at hSw); go_simp; (try with_reducible rfl)
      try simp only [Act.put, List.setIfInBounds_toArray, List.set_cons_zero, List.set_cons_succ]
      refine wpAnyH_done (by kernel_rfl) ?_ _
      go_wp2_with fail
      go_meet
      exact Lib.hid (gnCut_b W0 W1 ho1 hd1 hd2 HLD.out hb1)
  case rest =>
    obtain ⟨d, c1, g4, rfl, rfl, hod0, hol0, hgd0, hdw0, hbw0⟩ := hcut.out
    have OD0 := Lib.hid hod0
    have OL0 := Lib.hid hol0
    have BW0 := Lib.hid hbw0
    clear hod0 hol0 hbw0 hcut q0 cz
    go_wp2_with fail
    go_loopw [4, 5] (fun vo vi wr => ∃ (i : Nat) (s e : Int) (L : List Int) (A' : Option Addr) (g1 c' : Nat), (1 ≤ i ∧ i ≤ n) ∧ GSt z0 e s (zs[i - 1]?.getD 0) ∧ A' = some ⟨g1, 0, none⟩ ∧ vo = .slice A' i c' ∧ vi = .int .i64 i ∧ Hid (e = (dvL 0 zs)[i - 1]?.getD 0 ∧ (if i = 1 then s = 0 else s = ((dvL 0 zs)[i - 2]?.getD 0).tdiv ((dvL 0 zs)[i - 1]?.getD 0) * (L[i - 1]?.getD 0) - zs[i - 1]?.getD 0)) ∧ Hid (L.length = i) ∧ Hid (gnB zs = L ++ gnL e s (zs.drop i)) ∧ Hid (OwnI wr W0.heap.size wr.heap.size (.slice A' i c') L) ∧ g1 ≠ d ∧ Hid (OwnI wr d (d + 1) (.slice (some ⟨d, 0, none⟩) n c1) (dvL 0 zs)) ∧ Hid (Below W0.heap.size W0 wr)) (fun _ vi _ => n - (intOf vi).toNat)
    case atStart => exact ⟨1, 0, z0, [z0], _, g4, 1, by omega, by have := HST1.out; rw [← HZ0.out] at this ⊢; exact this, rfl, rfl, rfl, Lib.hid ⟨by have h1 := HDV.out 0 (by rw [HL.out]; exact hn0); simp only [if_true] at h1; rw [← HZ0.out, Nat.sub_self, h1]; have := HF1.out; simp; omega, rfl⟩, Lib.hid rfl, Lib.hid (by simpa using HG1.out), OL0, hgd0, OD0, BW0⟩
    case round =>
      obtain ⟨i, s, e, L, A', g1, c', hi, hst, rfl, rfl, rfl, hes, hL, hg, ho, hgd, hod, hb⟩ := hrel
      have hszw := hb.out.size
      by_cases hlt : i < n
      rotate_left
      · obtain rfl : i = n := by omega
        have HX : Hid (L = gnB zs) := Lib.hid (gn_end HL.out hg.out)
        go_wp2
        go_ret
        exact ⟨_, rfl, by rw [← HX.out]; exact own_lessB ho.out (by omega), B0.out.trans (hb.out.mono (by omega))⟩
      have qr : wr.cell? ⟨w.heap.size, 0, none⟩ = some (.slice (some ⟨g, o, none⟩) n c) := (hb.out.cell (p := ⟨w.heap.size, 0, none⟩) hs0).trans Q0.out
      have czf : ∀ j, j < n → wr.cell? ⟨g, o + j, none⟩ = some (.int .i64 (zs[j]?.getD 0)) := fun j hj => by
        obtain ⟨a, e1, _, hcell0⟩ := H0.out.2 j hj
        cases e1
        rw [add_lit] at hcell0
        rw [hb.out.cell (p := ⟨g, o + j, none⟩) hgW]; simpa using hcell0
      have hzi := HZ.out (zs[i]?.getD 0) (by have := HL.out; simp [show i < zs.length by omega])
      have hzy := HZ.out (zs[i - 1]?.getD 0) (by have := HL.out; simp [show i - 1 < zs.length by omega])
      have hyz := HNX.out i (by rw [HL.out]; exact hlt) hi.1
      have HG2 := Lib.hid (gn_step HL.out hlt hg.out)
      have hbd := hst.bounds (z := zs[i]?.getD 0) (by omega) hzi.1 hzi.2
      have HST2 := Lib.hid (hst.step (z := zs[i]?.getD 0) (by omega) hzi.1)
      have HDI : Hid ((Int.gcd e (zs[i]?.getD 0) : Int) = (dvL 0 zs)[i]?.getD 0) := Lib.hid (by have h1 := HDV.out i (by rw [HL.out]; exact hlt); rw [if_neg (by omega)] at h1; rw [hes.out.1, h1])
      have HP2 : Hid ((Int.gcd e (zs[i]?.getD 0) : Int) = (dvL 0 zs)[i + 1 - 1]?.getD 0 ∧ (if i + 1 = 1 then e.tdiv (Int.gcd e (zs[i]?.getD 0) : Int) * ((zs[i]?.getD 0) + s) - (zs[i]?.getD 0) = 0 else e.tdiv (Int.gcd e (zs[i]?.getD 0) : Int) * ((zs[i]?.getD 0) + s) - (zs[i]?.getD 0) = ((dvL 0 zs)[i + 1 - 2]?.getD 0).tdiv ((dvL 0 zs)[i + 1 - 1]?.getD 0) * ((L ++ [(zs[i]?.getD 0) + s])[i + 1 - 1]?.getD 0) - zs[i + 1 - 1]?.getD 0)) := Lib.hid (by
        have h1 := hL.out
        have h2 : (L ++ [(zs[i]?.getD 0) + s])[i]?.getD 0 = (zs[i]?.getD 0) + s := by subst h1; simp
        refine ⟨by rw [Nat.add_sub_cancel, HDI.out], ?_⟩
        rw [if_neg (by omega), Nat.add_sub_cancel, h2, show i + 1 - 2 = i - 1 by omega, ← HDI.out, ← hes.out.1])
      obtain ⟨g1', e1, hg1lo, hg1hi, hxc, _⟩ := own_at ho.out hL.out (show i - 1 < i by omega)
      cases e1
      obtain ⟨d', e1, hdlo, _, hcd1, _⟩ := own_at hod.out HLD.out (show i - 1 < n by omega)
      cases e1
      have hdlt : d < wr.heap.size := by have := hod.out.2.2; omega
      have h5 : (i : Int) < (n : Int) := by omega
      have h6 : (0 : Int) ≤ (i : Int) := by omega
      have hlgw : w.heap.size < wr.heap.size := by omega
      have hlgg : g < wr.heap.size := by omega
      have hlgd := hdlt
      by_cases h1 : i = 1
      · have hs : s = 0 := by have := hes.out.2; rw [if_pos h1] at this; exact this
        have hi1 : (i : Int) = 1 := by omega
        have cz1 := czf 1 (by omega)
        have HI1 := Lib.hid h1
        have hzz : zs[1]?.getD 0 = zs[i]?.getD 0 := by rw [h1]
        rw [hzz] at cz1
        have hn1 : (1 : Int) < (n : Int) := by omega
        have hn2 : 1 < n := by omega
        subst hs
        simp only [Int.add_zero] at HG2 HST2 HP2 hbd
        obtain ⟨z, hzz1⟩ : ∃ z, zs[i]?.getD 0 = z := ⟨_, rfl⟩
        have HPZ := Lib.hid hzz1
        rw [hzz1] at cz1 hzi HG2 HST2 HP2 hbd hyz
        clear hzz hzz1 czf hes hst hg h1 HDI
        go_wp2_with (at_builtin; (refine wpList_append_lies _ rfl (.tmp 21) (.tmp 26) 24 rfl W0.heap.size 2 i0 (.int .i64 0) 1 8 Try.underlying24 hi0 hy0 hy1 hy2 rfl (by decide) (.slice (some ⟨g1, 0, none⟩) i c') i (L.map (.int .i64)) rfl ?ga4 ⟨wr.heap.size, 0, none⟩ 1 1 [.int .i64 z] rfl rfl ?ga6 ?ga7 (by decide) ?ga8 ?ga9 ?ga10 _ rfl ?ga11; (have h3 := ho.out.1; rw [hL.out] at h3; exact World.ownsRow.alloc h3 _); (exact World.news_of_block (cs := #[.int .i64 z]) (t := 2) (fr := (0, 0)) (heap_alloc_new wr _)); (simp [Value.oneCell']); (simp only [maxLen]; omega); (omega); (show W0.heap.size ≤ (World.alloc wr _).heap.size; simp; omega); intro g2 cap2 w2 hown2 hgrow hg2 _; (have hgb : Below W0.heap.size (wr.alloc (.cells #[.int .i64 z] 2)) w2 := Below.grown (Below.refl _ _) hgrow (by (show W0.heap.size ≤ (wr.alloc _).heap.size); simp; omega) (fun k hk => (Own.lt ho.out.1 k hk).1)); (have HBX := Lib.hid (((Below.refl W0.heap.size wr).alloc (by omega) _).trans hgb)); (have hdn : some d ≠ (Value.slice (some ⟨g1, 0, none⟩) i c').ownBlock := by (simp [Value.ownBlock]; omega)); (have HO2 : Hid (OwnI w2 W0.heap.size w2.heap.size (.slice (some ⟨g2, 0, none⟩) (i + 1) cap2) (L ++ [z])) := Lib.hid (OwnI.mk' (n := i + 1) (by (rw [List.map_append]; exact hown2)))); (have HD2 : Hid (OwnI w2 d (d + 1) (.slice (some ⟨d, 0, none⟩) n c1) (dvL 0 zs)) := Lib.hid (hod.out.kept (kept_grown2 (kept_box wr (.cells #[.int .i64 z] 2) d (d + 1) (by omega)) hgrow (by (simp; omega)) (kept_one hdn)))); (have hg2d : g2 ≠ d := by (rcases hg2 with h | h; (simp [Value.ownBlock] at h; omega); (have h9 : g2 = wr.heap.size + 1 := (by simpa using h)); omega)); (have HB2 := Lib.hid (hb.out.trans HBX.out)); clear hown2 hgrow hg2 hgb))
        go_roundw
        case rel => exact ⟨i + 1, _, _, _, some ⟨g2, 0, none⟩, g2, cap2, by omega, by rw [Nat.add_sub_cancel, HPZ.out]; exact HST2.out, rfl, rfl, by go_num, HP2, Lib.hid (by simp [hL.out]), HG2, HO2, hg2d, HD2, HB2⟩
        case measure => simp [intOf]; omega
      · have hes2 : s = ((dvL 0 zs)[i - 2]?.getD 0).tdiv ((dvL 0 zs)[i - 1]?.getD 0) * (L[i - 1]?.getD 0) - zs[i - 1]?.getD 0 := by have := hes.out.2; rw [if_neg h1] at this; exact this
        have cz1 := czf i hlt
        have cz0 := czf (i - 1) (by omega)
        obtain ⟨d', e1, _, _, hcd2, _⟩ := own_at hod.out HLD.out (show i - 2 < n by omega)
        cases e1
        have hee := hes.out.1
        have hst1 := hst.e1
        have hDR := Lib.hid (dvL_range (dcB_range (brB_dcB HP.out)))
        have hrd2 := range_of hDR.out (i - 2)
        have hst64 := hst.n64
        have hen := hst.en
        obtain ⟨z, hzz1⟩ : ∃ z, zs[i]?.getD 0 = z := ⟨_, rfl⟩
        have HPZ := Lib.hid hzz1
        rw [hzz1] at cz1 hzi HG2 HST2 HP2 hbd hyz
        obtain ⟨y, hyy⟩ : ∃ y, zs[i - 1]?.getD 0 = y := ⟨_, rfl⟩
        rw [hyy] at cz0 hzy hyz hes2
        obtain ⟨d2, hdd2⟩ : ∃ y, (dvL 0 zs)[i - 2]?.getD 0 = y := ⟨_, rfl⟩
        rw [hdd2] at hcd2 hes2 hrd2
        obtain ⟨d1, hdd1⟩ : ∃ y, (dvL 0 zs)[i - 1]?.getD 0 = y := ⟨_, rfl⟩
        rw [hdd1] at hcd1 hes2 hee
        obtain ⟨x, hxx⟩ : ∃ y, L[i - 1]?.getD 0 = y := ⟨_, rfl⟩
        rw [hxx] at hxc hes2
        have hd1p : 1 ≤ d1 := by omega
        have hq := tdiv_le hrd2 hd1p
        have HGB : Hid (1 ≤ L[i - 1]?.getD 0 ∧ L[i - 1]?.getD 0 ≤ 128000) := Lib.hid (by rw [pre_of hg.out (by rw [hL.out]; omega)]; exact all_at (gnB_all HP.out) (by rw [gnB_len, HL.out]; omega))
        have hxb := HGB.out
        rw [hxx] at hxb
        have hmul := mul_range (a := d2.tdiv d1) (b := x) hq (by omega : 0 ≤ x ∧ x ≤ 128000)
        have HXE : Hid (z + s = d2.tdiv d1 * x + z - y) := Lib.hid (by omega)
        rw [HXE.out] at HG2 HST2 HP2
        have p1 : IntKind.i64.wrap ((i : Int) - 2) = (i : Int) - 2 := IntWalk.i64_in _ (by omega)
        have p2 : IntKind.i64.wrap ((i : Int) - 1) = (i : Int) - 1 := IntWalk.i64_in _ (by omega)
        have p3 : IntKind.i64.wrap (d2.tdiv d1) = d2.tdiv d1 := IntWalk.i64_in _ (by omega)
        have p4 : IntKind.i64.wrap (d2.tdiv d1 * x) = d2.tdiv d1 * x := IntWalk.i64_in _ (by omega)
        have p5 : IntKind.i64.wrap (d2.tdiv d1 * x + z) = d2.tdiv d1 * x + z := IntWalk.i64_in _ (by omega)
        have p6 : IntKind.i64.wrap (d2.tdiv d1 * x + z - y) = d2.tdiv d1 * x + z - y := IntWalk.i64_in _ (by omega)
        have h7 : ((i : Int) - 1).toNat = i - 1 := by omega
        have h8 : (i : Int) - 1 < (n : Int) := by omega
        have h9 : (0 : Int) ≤ (i : Int) - 1 := by omega
        have h71 : ((i : Int) - 2).toNat = i - 2 := by omega
        have h81 : (i : Int) - 2 < (n : Int) := by omega
        have h91 : (0 : Int) ≤ (i : Int) - 2 := by omega
        have h10 : (i : Int) - 1 < (i : Int) := by omega
        have h11 : i - 1 < n := by omega
        have h12 : i - 2 < n := by omega
        have h13 : i - 1 < i := by omega
        have h14 : (2 : Int) ≤ (i : Int) := by omega
        have h15 : (1 : Int) ≤ (i : Int) := by omega
        have hi1 : ((i : Int) == 1) = false := by simp; omega
        have hi2 : ¬ (i : Int) = 1 := by omega
        have hdz : (d1 == 0) = false := by simp; omega
        have hdz2 : ¬ d1 = 0 := by omega
        clear czf hes hst hg HDI hzz1 hyy hdd2 hdd1 hxx hes2 hee h1
        go_wp2_with fail
        refine wp_region_held_drew (S := fun w' => w'.cell? ⟨w.heap.size, 0, none⟩ = some (.slice (some ⟨g, o, none⟩) n c) ∧ w'.cell? ⟨g, o + i, none⟩ = some (.int .i64 z) ∧ w'.cell? ⟨g, o + (i - 1), none⟩ = some (.int .i64 y) ∧ w'.cell? ⟨d, i - 2, none⟩ = some (.int .i64 d2) ∧ w'.cell? ⟨d, i - 1, none⟩ = some (.int .i64 d1)) (by kernel_rfl) ⟨qr, cz1, cz0, hcd2, hcd1⟩ (fun hHeld => ?_)
        refine takeY 0 _ (v := ?_) rfl rfl (by kernel_rfl) (by kernel_rfl) (by kernel_rfl) (fun _ _ _ h => h) (by kernel_rfl) ?_ (by assumption) ?_
        rotate_left 1
        · intro w hSw; (try dsimp only at hSw); go_simp; (try with_reducible rfl)
        try simp only [Act.put, List.setIfInBounds_toArray, List.set_cons_zero, List.set_cons_succ]
        refine takeY 1 _ (v := ?_) rfl rfl (by kernel_rfl) (by kernel_rfl) (by kernel_rfl) (fun _ _ _ h => h) (by kernel_rfl) ?_ (by assumption) ?_
        rotate_left 1
        · intro w hSw; (try dsimp only at hSw); go_simp; (try with_reducible rfl)
        try simp only [Act.put, List.setIfInBounds_toArray, List.set_cons_zero, List.set_cons_succ]
        refine takeY 2 _ (v := ?_) rfl rfl (by kernel_rfl) (by kernel_rfl) (by kernel_rfl) (fun _ _ _ h => h) (by kernel_rfl) ?_ (by assumption) ?_
        rotate_left 1
        · intro w hSw; (try dsimp only at hSw); go_simp; (try with_reducible rfl)
        try simp only [Act.put, List.setIfInBounds_toArray, List.set_cons_zero, List.set_cons_succ]
        refine takeY 3 _ (v := ?_) rfl rfl (by kernel_rfl) (by kernel_rfl) (by kernel_rfl) (fun _ _ _ h => h) (by kernel_rfl) ?_ (by assumption) ?_
        rotate_left 1
        · intro w hSw; (try dsimp only at hSw); go_simp; (try with_reducible rfl)
        try simp only [Act.put, List.setIfInBounds_toArray, List.set_cons_zero, List.set_cons_succ]
        refine takeY 4 _ (v := ?_) rfl rfl (by kernel_rfl) (by kernel_rfl) (by kernel_rfl) (fun _ _ _ h => h) (by kernel_rfl) ?_ (by assumption) ?_
        rotate_left 1
        · intro w hSw; (try dsimp only at hSw); go_simp; (try with_reducible rfl)
        try simp only [Act.put, List.setIfInBounds_toArray, List.set_cons_zero, List.set_cons_succ]
        refine takeY 5 _ (v := ?_) rfl rfl (by kernel_rfl) (by kernel_rfl) (by kernel_rfl) (fun _ _ _ h => h) (by kernel_rfl) ?_ (by assumption) ?_
        rotate_left 1
        · intro w hSw; (try dsimp only at hSw); go_simp; (try with_reducible rfl)
        try simp only [Act.put, List.setIfInBounds_toArray, List.set_cons_zero, List.set_cons_succ]
        refine takeY 6 _ (v := ?_) rfl rfl (by kernel_rfl) (by kernel_rfl) (by kernel_rfl) (fun _ _ _ h => h) (by kernel_rfl) ?_ (by assumption) ?_
        rotate_left 1
        · intro w hSw; (try dsimp only at hSw); go_simp; (try with_reducible rfl)
        try simp only [Act.put, List.setIfInBounds_toArray, List.set_cons_zero, List.set_cons_succ]
        refine takeY 7 _ (v := ?_) rfl rfl (by kernel_rfl) (by kernel_rfl) (by kernel_rfl) (fun _ _ _ h => h) (by kernel_rfl) ?_ (by assumption) ?_
        rotate_left 1
        · intro w hSw; (try dsimp only at hSw); go_simp; (try with_reducible rfl)
        try simp only [Act.put, List.setIfInBounds_toArray, List.set_cons_zero, List.set_cons_succ]
        refine takeY 8 _ (v := ?_) rfl rfl (by kernel_rfl) (by kernel_rfl) (by kernel_rfl) (fun _ _ _ h => h) (by kernel_rfl) ?_ (by assumption) ?_
        rotate_left 1
        · intro w hSw; (try dsimp only at hSw); go_simp; (try with_reducible rfl)
        try simp only [Act.put, List.setIfInBounds_toArray, List.set_cons_zero, List.set_cons_succ]
        refine takeY 9 _ (v := ?_) rfl rfl (by kernel_rfl) (by kernel_rfl) (by kernel_rfl) (fun _ _ _ h => h) (by kernel_rfl) ?_ (by assumption) ?_
        rotate_left 1
        · intro w hSw; (try dsimp only at hSw); go_simp; (try with_reducible rfl)
        try simp only [Act.put, List.setIfInBounds_toArray, List.set_cons_zero, List.set_cons_succ]
        refine takeY 10 _ (v := ?_) rfl rfl (by kernel_rfl) (by kernel_rfl) (by kernel_rfl) (fun _ _ _ h => h) (by kernel_rfl) ?_ (by assumption) ?_
        rotate_left 1
        · intro w hSw; (try dsimp only at hSw); go_simp; (try with_reducible rfl)
        try simp only [Act.put, List.setIfInBounds_toArray, List.set_cons_zero, List.set_cons_succ]
        refine takeY 11 _ (v := ?_) rfl rfl (by kernel_rfl) (by kernel_rfl) (by kernel_rfl) (fun _ _ _ h => h) (by kernel_rfl) ?_ (by assumption) ?_
        rotate_left 1
        · intro w hSw; (try dsimp only at hSw); go_simp; (try with_reducible rfl)
        try simp only [Act.put, List.setIfInBounds_toArray, List.set_cons_zero, List.set_cons_succ]
        refine takeY 12 _ (v := ?_) rfl rfl (by kernel_rfl) (by kernel_rfl) (by kernel_rfl) (fun _ _ _ h => h) (by kernel_rfl) ?_ (by assumption) ?_
        rotate_left 1
        · intro w hSw; (try dsimp only at hSw); go_simp; (try with_reducible rfl)
        try simp only [Act.put, List.setIfInBounds_toArray, List.set_cons_zero, List.set_cons_succ]
        refine takeY 13 _ (v := ?_) rfl rfl (by kernel_rfl) (by kernel_rfl) (by kernel_rfl) (fun _ _ _ h => h) (by kernel_rfl) ?_ (by assumption) ?_
        rotate_left 1
        · intro w hSw; (try dsimp only at hSw); go_simp; (try with_reducible rfl)
        try simp only [Act.put, List.setIfInBounds_toArray, List.set_cons_zero, List.set_cons_succ]
        refine takeY 14 _ (v := ?_) rfl rfl (by kernel_rfl) (by kernel_rfl) (by kernel_rfl) (fun _ _ _ h => h) (by kernel_rfl) ?_ (by assumption) ?_
        rotate_left 1
        · intro w hSw; (try dsimp only at hSw); go_simp; (try with_reducible rfl)
        try simp only [Act.put, List.setIfInBounds_toArray, List.set_cons_zero, List.set_cons_succ]
        refine takeY 15 _ (v := ?_) rfl rfl (by kernel_rfl) (by kernel_rfl) (by kernel_rfl) (fun _ _ _ h => h) (by kernel_rfl) ?_ (by assumption) ?_
        rotate_left 1
        · intro w hSw; (try dsimp only at hSw); go_simp; (try with_reducible rfl)
        try simp only [Act.put, List.setIfInBounds_toArray, List.set_cons_zero, List.set_cons_succ]
        refine takeY 18 _ (v := ?_) rfl rfl (by kernel_rfl) (by kernel_rfl) (by kernel_rfl) (fun _ _ _ h => h) (by kernel_rfl) ?_ (by assumption) ?_
        rotate_left 1
        · intro w hSw; (try dsimp only at hSw); go_simp; (try with_reducible rfl)
        try simp only [Act.put, List.setIfInBounds_toArray, List.set_cons_zero, List.set_cons_succ]
        refine takeY 19 _ (v := ?_) rfl rfl (by kernel_rfl) (by kernel_rfl) (by kernel_rfl) (fun _ _ _ h => h) (by kernel_rfl) ?_ (by assumption) ?_
        rotate_left 1
        · intro w hSw; (try dsimp only at hSw); go_simp; (try with_reducible rfl)
        try simp only [Act.put, List.setIfInBounds_toArray, List.set_cons_zero, List.set_cons_succ]
        refine takeY 20 _ (v := ?_) rfl rfl (by kernel_rfl) (by kernel_rfl) (by kernel_rfl) (fun _ _ _ h => h) (by kernel_rfl) ?_ (by assumption) ?_
        rotate_left 1
        · intro w hSw; (try dsimp only at hSw); go_simp; (try with_reducible rfl)
        try simp only [Act.put, List.setIfInBounds_toArray, List.set_cons_zero, List.set_cons_succ]
        refine takeY 21 _ (v := ?_) rfl rfl (by kernel_rfl) (by kernel_rfl) (by kernel_rfl) (fun _ _ _ h => h) (by kernel_rfl) ?_ (by assumption) ?_
        rotate_left 1
        · intro w hSw; (try dsimp only at hSw); go_simp; (try with_reducible rfl)
        try simp only [Act.put, List.setIfInBounds_toArray, List.set_cons_zero, List.set_cons_succ]
        refine takeY 22 _ (v := ?_) rfl rfl (by kernel_rfl) (by kernel_rfl) (by kernel_rfl) (fun _ _ _ h => h) (by kernel_rfl) ?_ (by assumption) ?_
        rotate_left 1
        · intro w hSw; (try dsimp only at hSw); go_simp; (try with_reducible rfl)
        try simp only [Act.put, List.setIfInBounds_toArray, List.set_cons_zero, List.set_cons_succ]
        refine takeY 24 _ (v := ?_) rfl rfl (by kernel_rfl) (by kernel_rfl) (by kernel_rfl) (fun _ _ _ h => h) (by kernel_rfl) ?_ (by assumption) ?_
        rotate_left 1
        · intro w hSw; (try dsimp only at hSw); go_simp; (try with_reducible rfl)
        try simp only [Act.put, List.setIfInBounds_toArray, List.set_cons_zero, List.set_cons_succ]
        refine takeY 25 _ (v := ?_) rfl rfl (by kernel_rfl) (by kernel_rfl) (by kernel_rfl) (fun _ _ _ h => h) (by kernel_rfl) ?_ (by assumption) ?_
        rotate_left 1
        · intro w hSw; (try dsimp only at hSw); go_simp; (try with_reducible rfl)
        try simp only [Act.put, List.setIfInBounds_toArray, List.set_cons_zero, List.set_cons_succ]
        refine takeY 26 _ (v := ?_) rfl rfl (by kernel_rfl) (by kernel_rfl) (by kernel_rfl) (fun _ _ _ h => h) (by kernel_rfl) ?_ (by assumption) ?_
        rotate_left 1
        · intro w hSw; (try dsimp only at hSw); go_simp; (try with_reducible rfl)
        try simp only [Act.put, List.setIfInBounds_toArray, List.set_cons_zero, List.set_cons_succ]
        refine takeY 27 _ (v := ?_) rfl rfl (by kernel_rfl) (by kernel_rfl) (by kernel_rfl) (fun _ _ _ h => h) (by kernel_rfl) ?_ (by assumption) ?_
        rotate_left 1
        · intro w hSw; (try dsimp only at hSw); go_simp; (try with_reducible rfl)
        try simp only [Act.put, List.setIfInBounds_toArray, List.set_cons_zero, List.set_cons_succ]
        refine takeY 28 _ (v := ?_) rfl rfl (by kernel_rfl) (by kernel_rfl) (by kernel_rfl) (fun _ _ _ h => h) (by kernel_rfl) ?_ (by assumption) ?_
        rotate_left 1
        · intro w hSw; (try dsimp only at hSw); go_simp; (try with_reducible rfl)
        try simp only [Act.put, List.setIfInBounds_toArray, List.set_cons_zero, List.set_cons_succ]
        refine takeY 29 _ (v := ?_) rfl rfl (by kernel_rfl) (by kernel_rfl) (by kernel_rfl) (fun _ _ _ h => h) (by kernel_rfl) ?_ (by assumption) ?_
        rotate_left 1
        · intro w hSw; (try dsimp only at hSw); go_simp; (try with_reducible rfl)
        try simp only [Act.put, List.setIfInBounds_toArray, List.set_cons_zero, List.set_cons_succ]
        refine wpAnyH_ready (rs := [16]) (by kernel_rfl) (by simp) ?_
        refine AllReadyH.cons rfl (fun K hK => ?_) AllReadyH.nil
        go_simp
        refine hK.out _ (wr.drew) ⟨qr, cz1, cz0, hcd2, hcd1⟩ (fun hHeld => ?_)
        clear hK K
        try simp only [Act.put, List.setIfInBounds_toArray, List.set_cons_zero, List.set_cons_succ]
        refine takeY 17 _ (v := ?_) rfl rfl (by kernel_rfl) (by kernel_rfl) (by kernel_rfl) (fun _ _ _ h => h) (by kernel_rfl) ?_ (by assumption) ?_
        rotate_left 1
        · intro w hSw; (try dsimp only at hSw); go_simp; (try with_reducible rfl)
        try simp only [Act.put, List.setIfInBounds_toArray, List.set_cons_zero, List.set_cons_succ]
        refine takeY 23 _ (v := ?_) rfl rfl (by kernel_rfl) (by kernel_rfl) (by kernel_rfl) (fun _ _ _ h => h) (by kernel_rfl) ?_ (by assumption) ?_
        rotate_left 1
        · intro w hSw; (try dsimp only at hSw); go_simp; (try with_reducible rfl)
        try simp only [Act.put, List.setIfInBounds_toArray, List.set_cons_zero, List.set_cons_succ]
        refine takeY 30 _ (v := ?_) rfl rfl (by kernel_rfl) (by kernel_rfl) (by kernel_rfl) (fun _ _ _ h => h) (by kernel_rfl) ?_ (by assumption) ?_
        rotate_left 1
        · intro w hSw; (try dsimp only at hSw); go_simp; (try with_reducible rfl)
        try simp only [Act.put, List.setIfInBounds_toArray, List.set_cons_zero, List.set_cons_succ]
        refine wpAnyH_ready (rs := [31]) (by kernel_rfl) (by simp) ?_
        refine AllReadyH.cons rfl (fun K hK => ?_) AllReadyH.nil
        go_simp
        refine hK.out _ (_) ⟨((below_box wr (.cells #[.int .i64 (d2.tdiv d1 * x + z - y)] 2)).cell (p := ⟨w.heap.size, 0, none⟩) hlgw).trans qr, ((below_box wr (.cells #[.int .i64 (d2.tdiv d1 * x + z - y)] 2)).cell (p := ⟨g, o + i, none⟩) hlgg).trans cz1, ((below_box wr (.cells #[.int .i64 (d2.tdiv d1 * x + z - y)] 2)).cell (p := ⟨g, o + (i - 1), none⟩) hlgg).trans cz0, ((below_box wr (.cells #[.int .i64 (d2.tdiv d1 * x + z - y)] 2)).cell (p := ⟨d, i - 2, none⟩) hlgd).trans hcd2, ((below_box wr (.cells #[.int .i64 (d2.tdiv d1 * x + z - y)] 2)).cell (p := ⟨d, i - 1, none⟩) hlgd).trans hcd1⟩ (fun hHeld => ?_)
        clear hK K
        try simp only [Act.put, List.setIfInBounds_toArray, List.set_cons_zero, List.set_cons_succ]
        refine wpAnyH_ready (rs := [32]) (by kernel_rfl) (by simp) ?_
        refine AllReadyH.cons rfl (fun K hK => ?_) AllReadyH.nil
        try simp only [List.getElem_toArray, List.getElem_cons_succ, List.getElem_cons_zero]
        rw [if_pos (by kernel_rfl)]
        refine wp_append_lies _ (.tmp 28) (.tmp 59) 24 ?gb2 (W0.heap.size) 2 i0 (.int .i64 0) 1 8 Try.underlying24 hi0 hy0 hy1 hy2 rfl (by decide) (.slice (some ⟨g1, 0, none⟩) i c') i (L.map (.int .i64)) ?gb3 ?gb4 ⟨wr.heap.size, 0, none⟩ 1 1 [.int .i64 (d2.tdiv d1 * x + z - y)] ?gb5 rfl ?gb6 ?gb7 (by decide) ?gb8 ?gb9 ?gb10 _ rfl ?gb11
        case gb2 => rfl
        case gb3 => rfl
        case gb5 => rfl
        case gb4 => have h3 := ho.out.1; rw [hL.out] at h3; exact World.ownsRow.alloc h3 _
        case gb6 => exact World.news_of_block (cs := #[.int .i64 (d2.tdiv d1 * x + z - y)]) (t := 2) (fr := (0, 0)) (heap_alloc_new wr _)
        case gb7 => simp [Value.oneCell']
        case gb8 => simp only [maxLen]; omega
        case gb9 => omega
        case gb10 => show W0.heap.size ≤ (World.alloc wr _).heap.size; simp; omega
        intro g2 cap2 w2 hown2 hgrow hg2 _
        have hgb : Below W0.heap.size (wr.alloc (.cells #[.int .i64 (d2.tdiv d1 * x + z - y)] 2)).drew w2 := Below.grown (Below.refl _ _) hgrow (by show W0.heap.size ≤ (wr.alloc _).heap.size; simp; omega) (fun k hk => (Own.lt ho.out.1 k hk).1)
        have hbx : Below W0.heap.size wr w2 := (below_drewN ((Below.refl _ _).alloc (by omega) _) 1).trans hgb
        have HBX := Lib.hid hbx
        have hdn : some d ≠ (Value.slice (some ⟨g1, 0, none⟩) i c').ownBlock := by simp [Value.ownBlock]; omega
        have HO2 : Hid (OwnI w2 W0.heap.size w2.heap.size (.slice (some ⟨g2, 0, none⟩) (i + 1) cap2) (L ++ [(d2.tdiv d1 * x + z - y)])) := Lib.hid (OwnI.mk' (n := i + 1) (by rw [List.map_append]; exact hown2))
        have HD2 : Hid (OwnI w2 d (d + 1) (.slice (some ⟨d, 0, none⟩) n c1) (dvL 0 zs)) := Lib.hid (hod.out.kept (kept_grown (kept_box wr (.cells #[.int .i64 (d2.tdiv d1 * x + z - y)] 2) d (d + 1) (by omega)) hgrow (by simp; omega) (kept_one hdn)))
        have hg2d : g2 ≠ d := by rcases hg2 with h | h; (simp [Value.ownBlock] at h; omega); (have h9 : g2 = wr.heap.size + 1 := (by simpa using h)); omega
        have HB2 := Lib.hid (hb.out.trans HBX.out)
        have s0 : w2.cell? ⟨w.heap.size, 0, none⟩ = some (.slice (some ⟨g, o, none⟩) n c) := (HBX.out.cell (p := ⟨w.heap.size, 0, none⟩) (by show w.heap.size < _; omega)).trans qr
        have s1 : w2.cell? ⟨g, o + i, none⟩ = some (.int .i64 z) := (HBX.out.cell (p := ⟨g, o + i, none⟩) (by show g < _; omega)).trans cz1
        have s2 : w2.cell? ⟨g, o + (i - 1), none⟩ = some (.int .i64 y) := (HBX.out.cell (p := ⟨g, o + (i - 1), none⟩) (by show g < _; omega)).trans cz0
        have s3 : w2.cell? ⟨d, i - 2, none⟩ = some (.int .i64 d2) := (hgrow.cell_far ⟨d, i - 2, none⟩ (by show d < _; simp; omega) hdn).trans (((below_box wr _).cell (p := ⟨d, i - 2, none⟩) hlgd).trans hcd2)
        have s4 : w2.cell? ⟨d, i - 1, none⟩ = some (.int .i64 d1) := (hgrow.cell_far ⟨d, i - 1, none⟩ (by show d < _; simp; omega) hdn).trans (((below_box wr _).cell (p := ⟨d, i - 1, none⟩) hlgd).trans hcd1)
        refine hK.out _ (_) ⟨s0, s1, s2, s3, s4⟩ (fun hHeld => ?_)
        clear hK K hgrow hgb
        try simp only [Act.put, List.setIfInBounds_toArray, List.set_cons_zero, List.set_cons_succ]
        refine takeY 33 _ (v := ?_) rfl rfl (by kernel_rfl) (by kernel_rfl) (by kernel_rfl) (fun _ _ _ h => h) (by kernel_rfl) ?_ (by assumption) ?_
        rotate_left 1
        · intro w hSw; (try dsimp only at hSw); go_simp; (try with_reducible rfl)
        try simp only [Act.put, List.setIfInBounds_toArray, List.set_cons_zero, List.set_cons_succ]
        refine wpAnyH_done (by kernel_rfl) ?_ _
        go_wp2_with fail
        go_roundw
        case rel => exact ⟨i + 1, _, _, _, some ⟨g2, 0, none⟩, g2, cap2, by omega, by rw [Nat.add_sub_cancel, HPZ.out]; exact HST2.out, rfl, rfl, by go_num, HP2, Lib.hid (by simp [hL.out]), HG2, HO2, hg2d, HD2, HB2⟩
        case measure => simp [intOf]; omega
end Go.Proofs.Ytjgidalmgoifgaa
/- GeneratorsOf, the model's and the program's: contracts. Conditions: stated at each theorem. -/
namespace Go.Proofs.Ytjgidalmgoifgaa
open Go.ChangeShapes Go.WideShapes Go.ChangeAt Go.RowKit
set_option linter.unusedVariables false
set_option linter.unusedSimpArgs false

def goA (zs : List Int) : List Int := if brB zs then gnB zs else []
def goC (zs : List Int) : Int := if brB zs then 0 else 1
theorem goA_len (zs : List Int) (h : zs.length ≤ 1048576) : (goA zs).length ≤ 1099511627776 := by
  unfold goA
  split
  · rw [gnB_len]; omega
  · simp

set_option maxHeartbeats 1000000 in
theorem implGeneratorsOf_any (v : Value) (zs : List Int) (w : World) (h : ReadI w w.heap.size v zs) (hn : zs.length ≤ 1048576) (hw : ∀ z ∈ zs, (Lit.int .i64 z).wf = true) :
    Calls Try.prog 42 #[.agg #[v]] w (AnsIC w (goA zs) (goC zs)) := by
  obtain ⟨n, A, c, rfl, hr, HL, _, hnc, HF, hcm⟩ := h.split2
  obtain ⟨W0, HE⟩ : ∃ W, W = w.alloc (.cells #[.slice A n c] 26) := ⟨_, rfl⟩
  have hb0 : Below w.heap.size w W0 := by rw [HE]; exact below_box _ _
  have hq0 : BoxI W0 w.heap.size (.slice A n c) := by rw [HE]; exact BoxI.new _ _ _
  have H0 := Lib.hid ((h.below hb0).more hb0.size)
  have HNN := Lib.hid hn
  have HWW := Lib.hid hw
  have HEQ := Lib.hid HE
  clear h hr HE HF hn hw
  rcases bool_fs (brB zs) with hp | hp
  · have HP := Lib.hid hp
    clear hp
    go_enter Try.func42, Try.ntmps42
    go_wp2_with fail
    rw [← HEQ.out]
    refine (implIsBranch_if _ zs _ false H0.out HNN.out HWW.out HP.out).mono ?_
    rintro e w1 ⟨rfl, hb1⟩
    go_wp2
    go_ret2
    exact AnsIC.empty (by rw [goA, HP.out]; rfl) (by rw [goC, HP.out]; rfl) (hb0.trans (hb1.mono hb0.size))
  · have HP := Lib.hid hp
    clear hp
    go_enter Try.func42, Try.ntmps42
    go_wp2_with fail
    rw [← HEQ.out]
    refine (implIsBranch_if _ zs _ true H0.out HNN.out HWW.out HP.out).mono ?_
    rintro e w1 ⟨rfl, hb1⟩
    have cb1 : w1.cell? ⟨w.heap.size, 0, none⟩ = some (.slice A n c) := by rw [hb1.cell (p := ⟨w.heap.size, 0, none⟩) hq0.2]; exact hq0.1
    have H1 := Lib.hid ((H0.out.below hb1).more hb1.size)
    have B1 := Lib.hid (hb0.trans (hb1.mono hb0.size))
    clear hb1 hb0 HEQ
    go_wp2_with fail
    refine (generators_any _ zs w1 H1.out HNN.out HP.out).mono ?_
    rintro e w2 ⟨v1, rfl, hv1, ho1, hb2⟩
    clear hv1
    obtain ⟨A1, c1, rfl⟩ := own_form ho1.1
    have HO1 := Lib.hid (own_lessB ho1 (lo' := w.heap.size) B1.out.size)
    have B2 := Lib.hid (B1.out.trans (hb2.mono B1.out.size))
    clear ho1 hb2
    go_wp2_with fail
    go_ret2
    exact AnsIC.mk' (by rw [goA, HP.out]; rfl) (by rw [goC, HP.out]; rfl) HO1.out B2.out
end Go.Proofs.Ytjgidalmgoifgaa
/- Conductors, the model's and the program's: contracts. Conditions: stated at each theorem. -/
namespace Go.Proofs.Ytjgidalmgoifgaa
open Go.ChangeShapes Go.WideShapes Go.ChangeAt Go.RowKit Go.Deep
set_option linter.unusedVariables false
set_option linter.unusedSimpArgs false

/-- The conductor, summed over the first k pairs. -/
def cdS (zs : List Int) : Nat → Int
  | 0 => 1 - zs[0]?.getD 0
  | k + 1 => cdS zs k + (((dvL 0 zs)[k]?.getD 0).tdiv ((dvL 0 zs)[k + 1]?.getD 0) - 1) * ((gnB zs)[k + 1]?.getD 0)
def cdB (zs : List Int) : Int := cdS zs (zs.length - 1)
theorem cd_term {zs : List Int} (hp : brB zs = true) {k : Nat} (hk : k + 1 < zs.length) :
    (1 ≤ (dvL 0 zs)[k + 1]?.getD 0 ∧ (dvL 0 zs)[k + 1]?.getD 0 ≤ 2000) ∧ (0 ≤ (dvL 0 zs)[k]?.getD 0 ∧ (dvL 0 zs)[k]?.getD 0 ≤ 2000) ∧ (0 ≤ ((dvL 0 zs)[k]?.getD 0).tdiv ((dvL 0 zs)[k + 1]?.getD 0) ∧ ((dvL 0 zs)[k]?.getD 0).tdiv ((dvL 0 zs)[k + 1]?.getD 0) ≤ 2000) ∧ (1 ≤ (gnB zs)[k + 1]?.getD 0 ∧ (gnB zs)[k + 1]?.getD 0 ≤ 128000) ∧
      (-128000 ≤ (((dvL 0 zs)[k]?.getD 0).tdiv ((dvL 0 zs)[k + 1]?.getD 0) - 1) * ((gnB zs)[k + 1]?.getD 0) ∧ (((dvL 0 zs)[k]?.getD 0).tdiv ((dvL 0 zs)[k + 1]?.getD 0) - 1) * ((gnB zs)[k + 1]?.getD 0) ≤ 256000000) := by
  have h1 := all_at (dvL_pos (dcB_range (brB_dcB hp)) (e := 0)) (i := k + 1) (by rw [dvL_len]; exact hk)
  have h2 := range_of (dvL_range (dcB_range (brB_dcB hp))) k
  have h3 := tdiv_le h2 h1.1
  have h4 := all_at (gnB_all hp) (i := k + 1) (by rw [gnB_len]; exact hk)
  have h5 := mul_range (A := 2000) (B := 128000) h3 (show 0 ≤ (gnB zs)[k + 1]?.getD 0 ∧ (gnB zs)[k + 1]?.getD 0 ≤ 128000 by omega)
  refine ⟨h1, h2, h3, h4, ?_⟩
  rw [Int.sub_mul]
  omega
theorem cdS_bound {zs : List Int} (hp : brB zs = true) {k : Nat} (hk : k < zs.length) : -(64 + 128000 * (k : Int)) ≤ cdS zs k ∧ cdS zs k ≤ 1 + 256000000 * (k : Int) := by
  induction k with
  | zero => have := br_first hp; simp only [cdS]; omega
  | succ k ih =>
    have h1 := ih (by omega)
    have h2 := (cd_term hp hk).2.2.2.2
    simp only [cdS]
    omega
theorem cdS_step (zs : List Int) (k : Nat) : cdS zs (k + 1) = cdS zs k + (((dvL 0 zs)[k]?.getD 0).tdiv ((dvL 0 zs)[k + 1]?.getD 0) - 1) * ((gnB zs)[k + 1]?.getD 0) := rfl

set_option maxRecDepth 100000 in
set_option maxHeartbeats 2000000 in
theorem conductor_any (v : Value) (zs : List Int) (w : World) (h : ReadI w w.heap.size v zs) (hn : zs.length ≤ 1048576) (hp : brB zs = true) :
    Calls Try.prog 95 #[.agg #[v]] w fun e w' => e = .returned (.int .i64 (cdB zs)) ∧ Below w.heap.size w w' := by
  have hn0 := brB_pos hp
  have HP := Lib.hid hp
  have HZF := Lib.hid (br_first hp)
  obtain ⟨n, A, c, rfl, hr, HL, HN, hnc, HF, hcm⟩ := h.split2
  rw [HL.out] at hn hn0
  obtain ⟨m, rfl⟩ : ∃ m, n = m + 1 := ⟨n - 1, by omega⟩
  obtain ⟨a, rfl, hlt, hc0⟩ := hr.2 0 hn0
  obtain ⟨g, o, rfl⟩ := HF.out a rfl
  have hgw : g < w.heap.size := hlt
  obtain ⟨W0, HE⟩ : ∃ W, W = w.alloc (.cells #[.slice (some ⟨g, o, none⟩) (m + 1) c] 26) := ⟨_, rfl⟩
  have hb0 : Below w.heap.size w W0 := by rw [HE]; exact below_box2 _ _
  have hq0 : BoxI W0 w.heap.size (.slice (some ⟨g, o, none⟩) (m + 1) c) := by rw [HE]; exact BoxI.new _ _ _
  have hs0 : w.heap.size < W0.heap.size := hq0.2
  have HR := Lib.hid ((h.below hb0).more hb0.size)
  have B0 := Lib.hid hb0
  have HEQ := Lib.hid HE
  have Q0 := Lib.hid hq0.1
  have CZ : Hid (w.cell? ⟨g, o, none⟩ = some (.int .i64 (zs[0]?.getD 0))) := Lib.hid (by
    have h2 : (⟨g, o, none⟩ : Addr).add 0 = ⟨g, o, none⟩ := by rw [add_lit]; rfl
    rw [h2] at hc0; simpa using hc0)
  have HLG : Hid ((gnB zs).length = m + 1) := Lib.hid (by rw [gnB_len, HL.out])
  have hLm : zs.length - 1 = m := by have := HL.out; omega
  have HCB : Hid (cdB zs = cdS zs m) := Lib.hid (by rw [cdB, hLm])
  clear h hr hp hb0 hq0 HE hc0 hlt
  go_enter Try.func95, Try.ntmps95
  go_wp2_with fail
  rw [← HEQ.out]
  refine (generators_any _ zs W0 HR.out (by rw [HL.out]; exact hn) HP.out).mono ?_
  rintro e W1 ⟨v1, rfl, hv1, ho1, hb1⟩
  clear hv1
  obtain ⟨A1, c1, rfl⟩ := ho1.form HLG.out
  obtain ⟨gg, e1, hg1, hg2, _, _⟩ := own_at ho1 HLG.out hn0
  subst e1
  have hs1 := hb1.size
  have q1 := (hb1.cell (p := ⟨w.heap.size, 0, none⟩) hs0).trans Q0.out
  have cz1 : W1.cell? ⟨g, o, none⟩ = some (.int .i64 (zs[0]?.getD 0)) := (hb1.cell (p := ⟨g, o, none⟩) (by show g < _; omega)).trans ((B0.out.cell (p := ⟨g, o, none⟩) hgw).trans CZ.out)
  have HR1 := Lib.hid ((HR.out.below hb1).more hs1)
  have OG1 := Lib.hid (own_tight ho1 hg2)
  have B1 := Lib.hid (B0.out.trans (hb1.mono (by omega)))
  have hzf := HZF.out
  have HS0 : Hid (1 - zs[0]?.getD 0 = cdS zs 0) := Lib.hid rfl
  obtain ⟨z0, hz00⟩ : ∃ z, zs[0]?.getD 0 = z := ⟨_, rfl⟩
  rw [hz00] at cz1 hzf HS0
  have p0 : IntKind.i64.wrap (1 - z0) = 1 - z0 := IntWalk.i64_in _ (by omega)
  clear ho1 hb1 hz00
  go_wp2_with fail
  refine (puiseux_any _ zs W1 HR1.out (by rw [HL.out]; exact hn) HP.out).mono ?_
  rw [hLm]
  rintro e W2 ⟨gp, rfl, hgp, hpr, hb2⟩
  have hs2 := hb2.size
  have hgpl : gp < W2.heap.size := World.rowIs.lt hpr
  have PR := Lib.hid hpr
  have OG2 := Lib.hid (OG1.out.kept (Kept.of_below hb2 (by omega)))
  have B2 := Lib.hid (B1.out.trans (hb2.mono (by omega)))
  clear hpr hb2
  go_wp2_with fail
  go_loopw [4, 17] (fun vc vi wr => ∃ (i : Nat) (s : Int), i ≤ m ∧ vi = .int .i64 i ∧ vc = .int .i64 s ∧ Hid (s = cdS zs i) ∧ Hid (Below W2.heap.size W2 wr)) (fun _ vi _ => m - (intOf vi).toNat)
  case atStart => exact ⟨0, 1 - z0, by omega, rfl, rfl, HS0, Lib.hid (Below.refl _ _)⟩
  case round =>
    obtain ⟨i, s, hi, rfl, rfl, hs, hb⟩ := hrel
    have hszw := hb.out.size
    by_cases hlt : i < m
    · obtain ⟨q1, q2, q3, q4⟩ := PR.out.cells hlt
      have e1 : wr.cell? ⟨gp, i * 2, none⟩ = some (.int .i64 (ppF zs i).1) := (hb.out.cell (p := ⟨gp, i * 2, none⟩) hgpl).trans q1
      have e2 : wr.cell? ⟨gp, i * 2 + 1, none⟩ = some (.int .i64 (ppF zs i).2) := (hb.out.cell (p := ⟨gp, i * 2 + 1, none⟩) hgpl).trans q2
      obtain ⟨gg', e3, _, hg3, hx, _⟩ := own_at OG2.out HLG.out (show i + 1 < m + 1 by omega)
      cases e3
      have hxr : wr.cell? ⟨gg, i + 1, none⟩ = some (.int .i64 ((gnB zs)[i + 1]?.getD 0)) := (hb.out.cell (p := ⟨gg, i + 1, none⟩) (by show gg < _; omega)).trans hx
      have htm := cd_term HP.out (k := i) (by rw [HL.out]; omega)
      have hsb := cdS_bound HP.out (k := i) (by rw [HL.out]; omega)
      have HST := Lib.hid (cdS_step zs i)
      have hP2 : (ppF zs i).2 = ((dvL 0 zs)[i]?.getD 0).tdiv ((dvL 0 zs)[i + 1]?.getD 0) := rfl
      rw [← hP2] at htm HST
      rw [← hs.out] at hsb HST
      obtain ⟨a, ha⟩ : ∃ a, (ppF zs i).1 = a := ⟨_, rfl⟩
      obtain ⟨b, hbb⟩ : ∃ a, (ppF zs i).2 = a := ⟨_, rfl⟩
      obtain ⟨x, hxx⟩ : ∃ a, (gnB zs)[i + 1]?.getD 0 = a := ⟨_, rfl⟩
      rw [ha] at e1
      rw [hbb] at e2 htm HST
      rw [hxx] at hxr htm HST
      have hin : (i : Int) < (m : Int) := by omega
      have h6 : (0 : Int) ≤ (i : Int) := by omega
      have h7 : ((i : Int) + 1).toNat = i + 1 := by omega
      have h8 : (i : Int) + 1 < (m : Int) + 1 := by omega
      have h9 : (0 : Int) ≤ (i : Int) + 1 := by omega
      have h12 : i + 1 < m + 1 := by omega
      have p1 : IntKind.i64.wrap ((i : Int) + 1) = (i : Int) + 1 := IntWalk.i64_in _ (by omega)
      have p2 : IntKind.i64.wrap (b - 1) = b - 1 := IntWalk.i64_in _ (by omega)
      have p3 : IntKind.i64.wrap ((b - 1) * x) = (b - 1) * x := IntWalk.i64_in _ (by omega)
      have p4 : IntKind.i64.wrap (s + (b - 1) * x) = s + (b - 1) * x := IntWalk.i64_in _ (by omega)
      have cb : (wr.alloc (.cells #[.int .i64 a, .int .i64 b] 108)).cell? ⟨wr.heap.size, 1, none⟩ = some (.int .i64 b) := by go_simp
      have cx : (wr.alloc (.cells #[.int .i64 a, .int .i64 b] 108)).cell? ⟨gg, i + 1, none⟩ = some (.int .i64 x) := ((below_box wr _).cell (p := ⟨gg, i + 1, none⟩) (by show gg < _; omega)).trans hxr
      clear q1 q2 q3 q4 hx ha hbb hxx htm hsb hP2
      go_wp2_with fail
      refine wp_region_held_drew (S := fun w' => w'.cell? ⟨wr.heap.size, 1, none⟩ = some (.int .i64 b) ∧ w'.cell? ⟨gg, i + 1, none⟩ = some (.int .i64 x)) (by kernel_rfl) ⟨cb, cx⟩ (fun hHeld => ?_)
      refine takeY 0 _ (v := ?_) rfl rfl (by kernel_rfl) (by kernel_rfl) (by kernel_rfl) (fun _ _ _ h => h) (by kernel_rfl) ?_ (by assumption) ?_
      rotate_left 1
      · intro w hSw; (try dsimp only at hSw); go_simp; (try with_reducible rfl)
      try simp only [Act.put, List.setIfInBounds_toArray, List.set_cons_zero, List.set_cons_succ]
      refine takeY 1 _ (v := ?_) rfl rfl (by kernel_rfl) (by kernel_rfl) (by kernel_rfl) (fun _ _ _ h => h) (by kernel_rfl) ?_ (by assumption) ?_
      rotate_left 1
      · intro w hSw; (try dsimp only at hSw); go_simp; (try with_reducible rfl)
      try simp only [Act.put, List.setIfInBounds_toArray, List.set_cons_zero, List.set_cons_succ]
      refine takeY 2 _ (v := ?_) rfl rfl (by kernel_rfl) (by kernel_rfl) (by kernel_rfl) (fun _ _ _ h => h) (by kernel_rfl) ?_ (by assumption) ?_
      rotate_left 1
      · intro w hSw; (try dsimp only at hSw); go_simp; (try with_reducible rfl)
      try simp only [Act.put, List.setIfInBounds_toArray, List.set_cons_zero, List.set_cons_succ]
      refine takeY 3 _ (v := ?_) rfl rfl (by kernel_rfl) (by kernel_rfl) (by kernel_rfl) (fun _ _ _ h => h) (by kernel_rfl) ?_ (by assumption) ?_
      rotate_left 1
      · intro w hSw; (try dsimp only at hSw); go_simp; (try with_reducible rfl)
      try simp only [Act.put, List.setIfInBounds_toArray, List.set_cons_zero, List.set_cons_succ]
      refine takeY 4 _ (v := ?_) rfl rfl (by kernel_rfl) (by kernel_rfl) (by kernel_rfl) (fun _ _ _ h => h) (by kernel_rfl) ?_ (by assumption) ?_
      rotate_left 1
      · intro w hSw; (try dsimp only at hSw); go_simp; (try with_reducible rfl)
      try simp only [Act.put, List.setIfInBounds_toArray, List.set_cons_zero, List.set_cons_succ]
      refine takeY 5 _ (v := ?_) rfl rfl (by kernel_rfl) (by kernel_rfl) (by kernel_rfl) (fun _ _ _ h => h) (by kernel_rfl) ?_ (by assumption) ?_
      rotate_left 1
      · intro w hSw; (try dsimp only at hSw); go_simp; (try with_reducible rfl)
      try simp only [Act.put, List.setIfInBounds_toArray, List.set_cons_zero, List.set_cons_succ]
      refine takeY 6 _ (v := ?_) rfl rfl (by kernel_rfl) (by kernel_rfl) (by kernel_rfl) (fun _ _ _ h => h) (by kernel_rfl) ?_ (by assumption) ?_
      rotate_left 1
      · intro w hSw; (try dsimp only at hSw); go_simp; (try with_reducible rfl)
      try simp only [Act.put, List.setIfInBounds_toArray, List.set_cons_zero, List.set_cons_succ]
      refine takeY 7 _ (v := ?_) rfl rfl (by kernel_rfl) (by kernel_rfl) (by kernel_rfl) (fun _ _ _ h => h) (by kernel_rfl) ?_ (by assumption) ?_
      rotate_left 1
      · intro w hSw; (try dsimp only at hSw); go_simp; (try with_reducible rfl)
      try simp only [Act.put, List.setIfInBounds_toArray, List.set_cons_zero, List.set_cons_succ]
      refine takeY 8 _ (v := ?_) rfl rfl (by kernel_rfl) (by kernel_rfl) (by kernel_rfl) (fun _ _ _ h => h) (by kernel_rfl) ?_ (by assumption) ?_
      rotate_left 1
      · intro w hSw; (try dsimp only at hSw); go_simp; (try with_reducible rfl)
      try simp only [Act.put, List.setIfInBounds_toArray, List.set_cons_zero, List.set_cons_succ]
      refine takeY 9 _ (v := ?_) rfl rfl (by kernel_rfl) (by kernel_rfl) (by kernel_rfl) (fun _ _ _ h => h) (by kernel_rfl) ?_ (by assumption) ?_
      rotate_left 1
      · intro w hSw; (try dsimp only at hSw); go_simp; (try with_reducible rfl)
      try simp only [Act.put, List.setIfInBounds_toArray, List.set_cons_zero, List.set_cons_succ]
      refine takeY 10 _ (v := ?_) rfl rfl (by kernel_rfl) (by kernel_rfl) (by kernel_rfl) (fun _ _ _ h => h) (by kernel_rfl) ?_ (by assumption) ?_
      rotate_left 1
      · intro w hSw; (try dsimp only at hSw); go_simp; (try with_reducible rfl)
      try simp only [Act.put, List.setIfInBounds_toArray, List.set_cons_zero, List.set_cons_succ]
      refine takeY 11 _ (v := ?_) rfl rfl (by kernel_rfl) (by kernel_rfl) (by kernel_rfl) (fun _ _ _ h => h) (by kernel_rfl) ?_ (by assumption) ?_
      rotate_left 1
      · intro w hSw; (try dsimp only at hSw); go_simp; (try with_reducible rfl)
      try simp only [Act.put, List.setIfInBounds_toArray, List.set_cons_zero, List.set_cons_succ]
      refine wpAnyH_done (by kernel_rfl) ?_ _
      go_wp2_with fail
      go_roundw
      case rel => exact ⟨i + 1, s + (b - 1) * x, by omega, by go_num, rfl, Lib.hid HST.out.symm, Lib.hid (Below.drew (hb.out.alloc hszw _))⟩
      case measure => simp [intOf]; omega
    · obtain rfl : i = m := by omega
      have E : Hid (s = cdB zs) := Lib.hid (by rw [HCB.out, hs.out])
      go_wp2_with fail
      go_ret
      exact ⟨by rw [E.out]; rfl, B2.out.trans (hb.out.mono (by omega))⟩

/-- Two calls in whatever order leave two lists in blocks of their own. -/
def TwoCut (W0 : World) (X Y : List Int) (n : Nat) (wc : World) (s3 s4 : Value) : Prop :=
  ∃ d g c1 c2, s3 = .slice (some ⟨d, 0, none⟩) n c1 ∧ s4 = .slice (some ⟨g, 0, none⟩) n c2 ∧ OwnI wc d (d + 1) (.slice (some ⟨d, 0, none⟩) n c1) X ∧ OwnI wc g (g + 1) (.slice (some ⟨g, 0, none⟩) n c2) Y ∧ d ≠ g ∧ Below W0.heap.size W0 wc
theorem two_cut {W0 W1 W2 : World} {X Y : List Int} {n d g c1 c2 : Nat} (h1 : OwnI W1 d (d + 1) (.slice (some ⟨d, 0, none⟩) n c1) X) (h2 : OwnI W2 g (g + 1) (.slice (some ⟨g, 0, none⟩) n c2) Y) (hne : d ≠ g)
    (hb : Below W0.heap.size W0 W2) (h12 : Below W1.heap.size W1 W2) (hs : d < W1.heap.size) : TwoCut W0 X Y n W2 (.slice (some ⟨d, 0, none⟩) n c1) (.slice (some ⟨g, 0, none⟩) n c2) :=
  ⟨d, g, c1, c2, rfl, rfl, h1.kept (Kept.of_below h12 (by omega)), h2, hne, hb⟩

set_option maxRecDepth 100000 in
set_option maxHeartbeats 2000000 in
theorem l05Conductor_any (v : Value) (zs : List Int) (w : World) (h : ReadI w w.heap.size v zs) (hn : zs.length ≤ 1048576) (hp : brB zs = true) :
    Calls Try.prog 99 #[.agg #[v]] w fun e w' => e = .returned (.int .i64 (cdB zs)) ∧ Below w.heap.size w w' := by
  have hn0 := brB_pos hp
  have HP := Lib.hid hp
  have HZF := Lib.hid (br_first hp)
  obtain ⟨n, A, c, rfl, hr, HL, HN, hnc, HF, hcm⟩ := h.split2
  rw [HL.out] at hn hn0
  obtain ⟨a, rfl, hlt, hc0⟩ := hr.2 0 hn0
  obtain ⟨g, o, rfl⟩ := HF.out a rfl
  have hgw : g < w.heap.size := hlt
  obtain ⟨W0, HE⟩ : ∃ W, W = w.alloc (.cells #[.slice (some ⟨g, o, none⟩) n c] 26) := ⟨_, rfl⟩
  have hb0 : Below w.heap.size w W0 := by rw [HE]; exact below_box2 _ _
  have hq0 : BoxI W0 w.heap.size (.slice (some ⟨g, o, none⟩) n c) := by rw [HE]; exact BoxI.new _ _ _
  have hs0 : w.heap.size < W0.heap.size := hq0.2
  have HR := Lib.hid ((h.below hb0).more hb0.size)
  have B0 := Lib.hid hb0
  have HEQ := Lib.hid HE
  have q0 := hq0.1
  have Q0 := Lib.hid q0
  have CZ : Hid (w.cell? ⟨g, o, none⟩ = some (.int .i64 (zs[0]?.getD 0))) := Lib.hid (by
    have h2 : (⟨g, o, none⟩ : Addr).add 0 = ⟨g, o, none⟩ := by rw [add_lit]; rfl
    rw [h2] at hc0; simpa using hc0)
  have HLG : Hid ((gnB zs).length = n) := Lib.hid (by rw [gnB_len, HL.out])
  have HLD : Hid ((dvL 0 zs).length = n) := Lib.hid (by rw [dvL_len, HL.out])
  have HCB : Hid (cdB zs = cdS zs (n - 1)) := Lib.hid (by rw [cdB, HL.out])
  clear h hr hp hb0 hq0 HE hc0 hlt
  go_enter Try.func99, Try.ntmps99
  go_upto_region 1 with fail
  rw [← HEQ.out]
  go_cut [3, 4] (fun s3 s4 wx => Hid (TwoCut W0 (dvL 0 zs) (gnB zs) n wx s3 s4))
  case first =>
    refine wp_region_held_drew (S := fun w' => w'.cell? ⟨w.heap.size, 0, none⟩ = some (.slice (some ⟨g, o, none⟩) n c)) (by kernel_rfl) (q0) (fun hHeld => ?_)
    refine takeY 0 _ (v := ?_) rfl rfl (by kernel_rfl) (by kernel_rfl) (by kernel_rfl) (fun _ _ _ h => h) (by kernel_rfl) ?_ (by assumption) ?_
    rotate_left 1
    · intro w hSw; (try dsimp only at hSw); go_simp; (try with_reducible rfl)
    try simp only [Act.put, List.setIfInBounds_toArray, List.set_cons_zero, List.set_cons_succ]
    refine takeY 2 _ (v := ?_) rfl rfl (by kernel_rfl) (by kernel_rfl) (by kernel_rfl) (fun _ _ _ h => h) (by kernel_rfl) ?_ (by assumption) ?_
    rotate_left 1
    · intro w hSw; (try dsimp only at hSw); go_simp; (try with_reducible rfl)
    try simp only [Act.put, List.setIfInBounds_toArray, List.set_cons_zero, List.set_cons_succ]
    refine wpAnyH_ready (rs := [1]) (by kernel_rfl) (by simp) ?_
    refine AllReadyH.cons rfl (fun K hK => ?_) AllReadyH.nil
    go_simp
    refine (l03Divisors_any _ zs W0.drew HR.out (by rw [HL.out]; exact hn) HP.out).mono ?_
    rintro e W1 ⟨v1, rfl, ho1, hb1⟩
    obtain ⟨A1, c1, rfl⟩ := ho1.form HLD.out
    obtain ⟨d1, e1, hd1, hd2, _, _⟩ := own_at ho1 HLD.out hn0
    cases e1
    have hb1' : Below W0.heap.size W0 W1 := ⟨hb1.os, hb1.tape, hb1.output, hb1.size, hb1.block⟩
    have hs1 := hb1'.size
    have q1 := (hb1'.cell (p := ⟨w.heap.size, 0, none⟩) hs0).trans q0
    refine hK.out _ (W1) q1 (fun hHeld => ?_)
    clear hK K
    try simp only [Act.put, List.setIfInBounds_toArray, List.set_cons_zero, List.set_cons_succ]
    refine wpAnyH_ready (rs := [3]) (by kernel_rfl) (by simp) ?_
    refine AllReadyH.cons rfl (fun K hK => ?_) AllReadyH.nil
    go_simp
    refine (l05Generators_any _ zs W1 ((HR.out.below hb1').more hs1) (by rw [HL.out]; exact hn) HP.out).mono ?_
    rintro e W2 ⟨v2, rfl, ho2, hb2⟩
    obtain ⟨A2, c2, rfl⟩ := ho2.form HLG.out
    obtain ⟨d2, e2, hd3, hd4, _, _⟩ := own_at ho2 HLG.out hn0
    cases e2
    have q2 := (hb2.cell (p := ⟨w.heap.size, 0, none⟩) (by show w.heap.size < _; omega)).trans q1
    refine hK.out _ (W2) q2 (fun hHeld => ?_)
    clear hK K
    try simp only [Act.put, List.setIfInBounds_toArray, List.set_cons_zero, List.set_cons_succ]
    refine takeY 4 _ (v := ?_) rfl rfl (by kernel_rfl) (by kernel_rfl) (by kernel_rfl) (fun _ _ _ h => h) (by kernel_rfl) ?_ (by assumption) ?_
    rotate_left 1
    · intro w hSw; (try dsimp only at hSw); go_simp; (try with_reducible rfl)
    try simp only [Act.put, List.setIfInBounds_toArray, List.set_cons_zero, List.set_cons_succ]
    refine takeY 5 _ (v := ?_) rfl rfl (by kernel_rfl) (by kernel_rfl) (by kernel_rfl) (fun _ _ _ h => h) (by kernel_rfl) ?_ (by assumption) ?_
    rotate_left 1
    · intro w hSw; (try dsimp only at hSw); go_simp; (try with_reducible rfl)
    try simp only [Act.put, List.setIfInBounds_toArray, List.set_cons_zero, List.set_cons_succ]
    refine wpAnyH_done (by kernel_rfl) ?_ _
    go_wp2_with fail
    go_meet
    exact Lib.hid (two_cut (own_tight ho1 hd2) (own_tight ho2 hd4) (by omega) (hb1'.trans (hb2.mono hs1)) hb2 hd2)
  case rest =>
    obtain ⟨d, gg, c1, c2, rfl, rfl, hod, hog, hdg, hbw⟩ := hcut.out
    have OD := Lib.hid hod
    have OG := Lib.hid hog
    have hdw : d < wc.heap.size := hod.2.2
    have hggw : gg < wc.heap.size := hog.2.2
    have hsw := hbw.size
    have qc : wc.cell? ⟨w.heap.size, 0, none⟩ = some (.slice (some ⟨g, o, none⟩) n c) := (hbw.cell (p := ⟨w.heap.size, 0, none⟩) hs0).trans Q0.out
    have czc : wc.cell? ⟨g, o, none⟩ = some (.int .i64 (zs[0]?.getD 0)) := (hbw.cell (p := ⟨g, o, none⟩) (by show g < _; omega)).trans ((B0.out.cell (p := ⟨g, o, none⟩) hgw).trans CZ.out)
    have BW := Lib.hid (B0.out.trans (hbw.mono (by omega)))
    have hzf := HZF.out
    have HS0 : Hid (1 - zs[0]?.getD 0 = cdS zs 0) := Lib.hid rfl
    obtain ⟨z0, hz00⟩ : ∃ z, zs[0]?.getD 0 = z := ⟨_, rfl⟩
    rw [hz00] at czc hzf HS0
    have p0 : IntKind.i64.wrap (1 - z0) = 1 - z0 := IntWalk.i64_in _ (by omega)
    clear hod hog hbw hcut q0 hz00
    go_wp2_with fail
    go_loopw [5, 6] (fun vc vi wr => ∃ (i k : Nat) (s : Int), i = k + 1 ∧ i ≤ n ∧ vi = .int .i64 i ∧ vc = .int .i64 s ∧ Hid (s = cdS zs k) ∧ Hid (Below wc.heap.size wc wr)) (fun _ vi _ => n - (intOf vi).toNat)
    case atStart => exact ⟨1, 0, 1 - z0, rfl, by omega, rfl, rfl, HS0, Lib.hid (Below.refl _ _)⟩
    case round =>
      obtain ⟨i, k, s, hik, hi, rfl, rfl, hs, hb⟩ := hrel
      have hszw := hb.out.size
      by_cases hlt : i < n
      · obtain ⟨d', e3, _, _, hd1, _⟩ := own_at OD.out HLD.out (show k < n by omega)
        cases e3
        obtain ⟨d', e3, _, _, hd0, _⟩ := own_at OD.out HLD.out (show k + 1 < n by omega)
        cases e3
        obtain ⟨gg', e3, _, _, hx, _⟩ := own_at OG.out HLG.out (show k + 1 < n by omega)
        cases e3
        have htm := cd_term HP.out (k := k) (by rw [HL.out]; omega)
        have hsb := cdS_bound HP.out (k := k) (by rw [HL.out]; omega)
        have HST := Lib.hid (cdS_step zs k)
        rw [← hs.out] at hsb HST
        have cd1 : wr.cell? ⟨d, i - 1, none⟩ = some (.int .i64 ((dvL 0 zs)[k]?.getD 0)) := by rw [show i - 1 = k by omega]; exact (hb.out.cell (p := ⟨d, k, none⟩) hdw).trans hd1
        have cd0 : wr.cell? ⟨d, i, none⟩ = some (.int .i64 ((dvL 0 zs)[k + 1]?.getD 0)) := by rw [hik]; exact (hb.out.cell (p := ⟨d, k + 1, none⟩) hdw).trans hd0
        have cx : wr.cell? ⟨gg, i, none⟩ = some (.int .i64 ((gnB zs)[k + 1]?.getD 0)) := by rw [hik]; exact (hb.out.cell (p := ⟨gg, k + 1, none⟩) hggw).trans hx
        generalize (dvL 0 zs)[k]?.getD 0 = d1 at *
        generalize (dvL 0 zs)[k + 1]?.getD 0 = d0 at *
        generalize (gnB zs)[k + 1]?.getD 0 = x at *
        have HIK := Lib.hid hik
        have hdz : (d0 == 0) = false := by simp; omega
        have hdz2 : ¬ d0 = 0 := by omega
        have hin : (i : Int) < (n : Int) := by omega
        have h6 : (0 : Int) ≤ (i : Int) := by omega
        have h7 : ((i : Int) - 1).toNat = i - 1 := by omega
        have h8 : (i : Int) - 1 < (n : Int) := by omega
        have h9 : (0 : Int) ≤ (i : Int) - 1 := by omega
        have h10 : (1 : Int) ≤ (i : Int) := by omega
        have h12 : i - 1 < n := by omega
        have p1 : IntKind.i64.wrap ((i : Int) - 1) = (i : Int) - 1 := IntWalk.i64_in _ (by omega)
        have p5 : IntKind.i64.wrap (d1.tdiv d0) = d1.tdiv d0 := IntWalk.i64_in _ (by omega)
        have p2 : IntKind.i64.wrap (d1.tdiv d0 - 1) = d1.tdiv d0 - 1 := IntWalk.i64_in _ (by omega)
        have p3 : IntKind.i64.wrap ((d1.tdiv d0 - 1) * x) = (d1.tdiv d0 - 1) * x := IntWalk.i64_in _ (by omega)
        have p4 : IntKind.i64.wrap (s + (d1.tdiv d0 - 1) * x) = s + (d1.tdiv d0 - 1) * x := IntWalk.i64_in _ (by omega)
        clear hd1 hd0 hx htm hsb hik
        go_wp2_with fail
        refine wp_region_held_drew (S := fun w' => w'.cell? ⟨d, i - 1, none⟩ = some (.int .i64 d1) ∧ w'.cell? ⟨d, i, none⟩ = some (.int .i64 d0) ∧ w'.cell? ⟨gg, i, none⟩ = some (.int .i64 x)) (by kernel_rfl) ⟨cd1, cd0, cx⟩ (fun hHeld => ?_)
        refine takeY 0 _ (v := ?_) rfl rfl (by kernel_rfl) (by kernel_rfl) (by kernel_rfl) (fun _ _ _ h => h) (by kernel_rfl) ?_ (by assumption) ?_
        rotate_left 1
        · intro w hSw; (try dsimp only at hSw); go_simp; (try with_reducible rfl)
        try simp only [Act.put, List.setIfInBounds_toArray, List.set_cons_zero, List.set_cons_succ]
        refine takeY 1 _ (v := ?_) rfl rfl (by kernel_rfl) (by kernel_rfl) (by kernel_rfl) (fun _ _ _ h => h) (by kernel_rfl) ?_ (by assumption) ?_
        rotate_left 1
        · intro w hSw; (try dsimp only at hSw); go_simp; (try with_reducible rfl)
        try simp only [Act.put, List.setIfInBounds_toArray, List.set_cons_zero, List.set_cons_succ]
        refine takeY 2 _ (v := ?_) rfl rfl (by kernel_rfl) (by kernel_rfl) (by kernel_rfl) (fun _ _ _ h => h) (by kernel_rfl) ?_ (by assumption) ?_
        rotate_left 1
        · intro w hSw; (try dsimp only at hSw); go_simp; (try with_reducible rfl)
        try simp only [Act.put, List.setIfInBounds_toArray, List.set_cons_zero, List.set_cons_succ]
        refine takeY 3 _ (v := ?_) rfl rfl (by kernel_rfl) (by kernel_rfl) (by kernel_rfl) (fun _ _ _ h => h) (by kernel_rfl) ?_ (by assumption) ?_
        rotate_left 1
        · intro w hSw; (try dsimp only at hSw); go_simp; (try with_reducible rfl)
        try simp only [Act.put, List.setIfInBounds_toArray, List.set_cons_zero, List.set_cons_succ]
        refine takeY 4 _ (v := ?_) rfl rfl (by kernel_rfl) (by kernel_rfl) (by kernel_rfl) (fun _ _ _ h => h) (by kernel_rfl) ?_ (by assumption) ?_
        rotate_left 1
        · intro w hSw; (try dsimp only at hSw); go_simp; (try with_reducible rfl)
        try simp only [Act.put, List.setIfInBounds_toArray, List.set_cons_zero, List.set_cons_succ]
        refine takeY 5 _ (v := ?_) rfl rfl (by kernel_rfl) (by kernel_rfl) (by kernel_rfl) (fun _ _ _ h => h) (by kernel_rfl) ?_ (by assumption) ?_
        rotate_left 1
        · intro w hSw; (try dsimp only at hSw); go_simp; (try with_reducible rfl)
        try simp only [Act.put, List.setIfInBounds_toArray, List.set_cons_zero, List.set_cons_succ]
        refine takeY 6 _ (v := ?_) rfl rfl (by kernel_rfl) (by kernel_rfl) (by kernel_rfl) (fun _ _ _ h => h) (by kernel_rfl) ?_ (by assumption) ?_
        rotate_left 1
        · intro w hSw; (try dsimp only at hSw); go_simp; (try with_reducible rfl)
        try simp only [Act.put, List.setIfInBounds_toArray, List.set_cons_zero, List.set_cons_succ]
        refine takeY 7 _ (v := ?_) rfl rfl (by kernel_rfl) (by kernel_rfl) (by kernel_rfl) (fun _ _ _ h => h) (by kernel_rfl) ?_ (by assumption) ?_
        rotate_left 1
        · intro w hSw; (try dsimp only at hSw); go_simp; (try with_reducible rfl)
        try simp only [Act.put, List.setIfInBounds_toArray, List.set_cons_zero, List.set_cons_succ]
        refine takeY 8 _ (v := ?_) rfl rfl (by kernel_rfl) (by kernel_rfl) (by kernel_rfl) (fun _ _ _ h => h) (by kernel_rfl) ?_ (by assumption) ?_
        rotate_left 1
        · intro w hSw; (try dsimp only at hSw); go_simp; (try with_reducible rfl)
        try simp only [Act.put, List.setIfInBounds_toArray, List.set_cons_zero, List.set_cons_succ]
        refine takeY 9 _ (v := ?_) rfl rfl (by kernel_rfl) (by kernel_rfl) (by kernel_rfl) (fun _ _ _ h => h) (by kernel_rfl) ?_ (by assumption) ?_
        rotate_left 1
        · intro w hSw; (try dsimp only at hSw); go_simp; (try with_reducible rfl)
        try simp only [Act.put, List.setIfInBounds_toArray, List.set_cons_zero, List.set_cons_succ]
        refine takeY 10 _ (v := ?_) rfl rfl (by kernel_rfl) (by kernel_rfl) (by kernel_rfl) (fun _ _ _ h => h) (by kernel_rfl) ?_ (by assumption) ?_
        rotate_left 1
        · intro w hSw; (try dsimp only at hSw); go_simp; (try with_reducible rfl)
        try simp only [Act.put, List.setIfInBounds_toArray, List.set_cons_zero, List.set_cons_succ]
        refine takeY 11 _ (v := ?_) rfl rfl (by kernel_rfl) (by kernel_rfl) (by kernel_rfl) (fun _ _ _ h => h) (by kernel_rfl) ?_ (by assumption) ?_
        rotate_left 1
        · intro w hSw; (try dsimp only at hSw); go_simp; (try with_reducible rfl)
        try simp only [Act.put, List.setIfInBounds_toArray, List.set_cons_zero, List.set_cons_succ]
        refine takeY 12 _ (v := ?_) rfl rfl (by kernel_rfl) (by kernel_rfl) (by kernel_rfl) (fun _ _ _ h => h) (by kernel_rfl) ?_ (by assumption) ?_
        rotate_left 1
        · intro w hSw; (try dsimp only at hSw); go_simp; (try with_reducible rfl)
        try simp only [Act.put, List.setIfInBounds_toArray, List.set_cons_zero, List.set_cons_succ]
        refine takeY 13 _ (v := ?_) rfl rfl (by kernel_rfl) (by kernel_rfl) (by kernel_rfl) (fun _ _ _ h => h) (by kernel_rfl) ?_ (by assumption) ?_
        rotate_left 1
        · intro w hSw; (try dsimp only at hSw); go_simp; (try with_reducible rfl)
        try simp only [Act.put, List.setIfInBounds_toArray, List.set_cons_zero, List.set_cons_succ]
        refine takeY 14 _ (v := ?_) rfl rfl (by kernel_rfl) (by kernel_rfl) (by kernel_rfl) (fun _ _ _ h => h) (by kernel_rfl) ?_ (by assumption) ?_
        rotate_left 1
        · intro w hSw; (try dsimp only at hSw); go_simp; (try with_reducible rfl)
        try simp only [Act.put, List.setIfInBounds_toArray, List.set_cons_zero, List.set_cons_succ]
        refine takeY 15 _ (v := ?_) rfl rfl (by kernel_rfl) (by kernel_rfl) (by kernel_rfl) (fun _ _ _ h => h) (by kernel_rfl) ?_ (by assumption) ?_
        rotate_left 1
        · intro w hSw; (try dsimp only at hSw); go_simp; (try with_reducible rfl)
        try simp only [Act.put, List.setIfInBounds_toArray, List.set_cons_zero, List.set_cons_succ]
        refine takeY 16 _ (v := ?_) rfl rfl (by kernel_rfl) (by kernel_rfl) (by kernel_rfl) (fun _ _ _ h => h) (by kernel_rfl) ?_ (by assumption) ?_
        rotate_left 1
        · intro w hSw; (try dsimp only at hSw); go_simp; (try with_reducible rfl)
        try simp only [Act.put, List.setIfInBounds_toArray, List.set_cons_zero, List.set_cons_succ]
        refine takeY 17 _ (v := ?_) rfl rfl (by kernel_rfl) (by kernel_rfl) (by kernel_rfl) (fun _ _ _ h => h) (by kernel_rfl) ?_ (by assumption) ?_
        rotate_left 1
        · intro w hSw; (try dsimp only at hSw); go_simp; (try with_reducible rfl)
        try simp only [Act.put, List.setIfInBounds_toArray, List.set_cons_zero, List.set_cons_succ]
        refine takeY 18 _ (v := ?_) rfl rfl (by kernel_rfl) (by kernel_rfl) (by kernel_rfl) (fun _ _ _ h => h) (by kernel_rfl) ?_ (by assumption) ?_
        rotate_left 1
        · intro w hSw; (try dsimp only at hSw); go_simp; (try with_reducible rfl)
        try simp only [Act.put, List.setIfInBounds_toArray, List.set_cons_zero, List.set_cons_succ]
        refine wpAnyH_done (by kernel_rfl) ?_ _
        go_wp2_with fail
        go_roundw
        case rel => exact ⟨i + 1, k + 1, s + (d1.tdiv d0 - 1) * x, by have := HIK.out; omega, by omega, by go_num, rfl, Lib.hid HST.out.symm, Lib.hid (Below.drew hb.out)⟩
        case measure => simp [intOf]; omega
      · obtain rfl : i = n := by omega
        have E : Hid (s = cdB zs) := Lib.hid (by rw [HCB.out, hs.out, show i - 1 = k by omega])
        go_wp2_with fail
        go_ret
        exact ⟨by rw [E.out]; rfl, BW.out.trans (hb.out.mono (by omega))⟩
def coA (zs : List Int) : Int := if brB zs then cdB zs else 0
set_option maxHeartbeats 1000000 in
theorem implConductorOf_any (v : Value) (zs : List Int) (w : World) (h : ReadI w w.heap.size v zs) (hn : zs.length ≤ 1048576) (hw : ∀ z ∈ zs, (Lit.int .i64 z).wf = true) :
    Calls Try.prog 44 #[.agg #[v]] w (AnsII w (coA zs) (goC zs)) := by
  obtain ⟨n, A, c, rfl, hr, HL, _, hnc, HF, hcm⟩ := h.split2
  obtain ⟨W0, HE⟩ : ∃ W, W = w.alloc (.cells #[.slice A n c] 26) := ⟨_, rfl⟩
  have hb0 : Below w.heap.size w W0 := by rw [HE]; exact below_box _ _
  have hq0 : BoxI W0 w.heap.size (.slice A n c) := by rw [HE]; exact BoxI.new _ _ _
  have H0 := Lib.hid ((h.below hb0).more hb0.size)
  have HNN := Lib.hid hn
  have HWW := Lib.hid hw
  have HEQ := Lib.hid HE
  clear h hr HE HF hn hw
  rcases bool_fs (brB zs) with hp | hp
  · have HP := Lib.hid hp
    clear hp
    go_enter Try.func44, Try.ntmps44
    go_wp2_with fail
    rw [← HEQ.out]
    refine (implIsBranch_if _ zs _ false H0.out HNN.out HWW.out HP.out).mono ?_
    rintro e w1 ⟨rfl, hb1⟩
    go_wp2
    go_ret2
    exact ⟨by rw [coA, goC, HP.out]; rfl, hb0.trans (hb1.mono hb0.size)⟩
  · have HP := Lib.hid hp
    clear hp
    go_enter Try.func44, Try.ntmps44
    go_wp2_with fail
    rw [← HEQ.out]
    refine (implIsBranch_if _ zs _ true H0.out HNN.out HWW.out HP.out).mono ?_
    rintro e w1 ⟨rfl, hb1⟩
    have cb1 : w1.cell? ⟨w.heap.size, 0, none⟩ = some (.slice A n c) := by rw [hb1.cell (p := ⟨w.heap.size, 0, none⟩) hq0.2]; exact hq0.1
    have H1 := Lib.hid ((H0.out.below hb1).more hb1.size)
    have B1 := Lib.hid (hb0.trans (hb1.mono hb0.size))
    clear hb1 hb0 HEQ
    go_wp2_with fail
    refine (conductor_any _ zs w1 H1.out HNN.out HP.out).mono ?_
    rintro e w2 ⟨rfl, hb2⟩
    have B2 := Lib.hid (B1.out.trans (hb2.mono B1.out.size))
    clear hb2
    go_wp2_with fail
    go_ret2
    exact ⟨by rw [coA, goC, HP.out]; rfl, B2.out⟩
end Go.Proofs.Ytjgidalmgoifgaa
/- Representations by generators: plain mathematics of chapter 5. Conditions: stated at each theorem. -/
namespace Go.Proofs.Ytjgidalmgoifgaa
set_option linter.unusedVariables false

/-- How often g is taken away from v until e divides what is left. -/
def rcL (e g v : Int) : Nat → Nat
  | 0 => 0
  | f + 1 => if v.tmod e = 0 then 0 else rcL e g (v - g) f + 1
abbrev dvA (zs : List Int) (i : Nat) : Int := (dvL 0 zs)[i]?.getD 0
abbrev gnA (zs : List Int) (i : Nat) : Int := (gnB zs)[i]?.getD 0
def rcA (zs : List Int) (i : Nat) (v : Int) : Nat := rcL (dvA zs i) (gnA zs (i + 1)) v 64
/-- What is left behind the generators with the indices i, .., 1. -/
def rpV (zs : List Int) : Nat → Int → Int
  | 0, v => v
  | i + 1, v => rpV zs i (v - (rcA zs i v : Int) * gnA zs (i + 1))
/-- The numbers with the indices 0, .., i. -/
def rpC (zs : List Int) : Nat → Int → List Int
  | 0, v => [v.tdiv (zs[0]?.getD 0)]
  | i + 1, v => rpC zs i (v - (rcA zs i v : Int) * gnA zs (i + 1)) ++ [(rcA zs i v : Int)]
theorem rpC_len (zs : List Int) (i : Nat) (v : Int) : (rpC zs i v).length = i + 1 := by
  induction i generalizing v with
  | zero => rfl
  | succ i ih => simp [rpC, ih]

theorem tmod_zero {v e : Int} : v.tmod e = 0 ↔ e ∣ v := Int.dvd_iff_tmod_eq_zero.symm
/-- If e divides v - c g for a c below the fuel, the count is at most this c, and e divides what is left. -/
theorem rcL_end {e g : Int} : ∀ {f c : Nat} {v : Int}, c < f → e ∣ v - (c : Int) * g → rcL e g v f ≤ c ∧ e ∣ v - (rcL e g v f : Int) * g := by
  intro f
  induction f with
  | zero => intro c v h _; omega
  | succ f ih =>
    intro c v h hd
    unfold rcL
    by_cases h0 : v.tmod e = 0
    · rw [if_pos h0]
      exact ⟨by omega, by simpa using tmod_zero.1 h0⟩
    · rw [if_neg h0]
      cases c with
      | zero => exact absurd (tmod_zero.2 (by simpa using hd)) h0
      | succ c =>
        have e1 : v - g - (c : Int) * g = v - ((c + 1 : Nat) : Int) * g := by push_cast; rw [Int.add_mul]; omega
        have h2 := ih (c := c) (v := v - g) (by omega) (by rw [e1]; exact hd)
        refine ⟨by omega, ?_⟩
        have e2 : v - ((rcL e g (v - g) f + 1 : Nat) : Int) * g = v - g - (rcL e g (v - g) f : Int) * g := by push_cast; rw [Int.add_mul]; omega
        rw [e2]; exact h2.2
theorem rcL_step {e g v : Int} {f : Nat} (h : ¬ v.tmod e = 0) : rcL e g v (f + 1) = rcL e g (v - g) f + 1 := by rw [rcL, if_neg h]
theorem rcL_zero {e g v : Int} {f : Nat} (h : v.tmod e = 0) : rcL e g v f = 0 := by
  cases f with
  | zero => rfl
  | succ f => rw [rcL, if_pos h]
theorem bezN (a b : Nat) : ∃ x y : Int, (Nat.gcd a b : Int) = (a : Int) * x + (b : Int) * y := by
  induction a, b using Nat.gcd.induction with
  | H0 n => exact ⟨0, 1, by simp⟩
  | H1 m n hm ih =>
    obtain ⟨x, y, h⟩ := ih
    rw [Nat.gcd_rec]
    refine ⟨y - ((n / m : Nat) : Int) * x, x, ?_⟩
    rw [h]
    have h1 : (n : Int) = (m : Int) * ((n / m : Nat) : Int) + ((n % m : Nat) : Int) := by
      have := Nat.div_add_mod n m
      omega
    grind
theorem bezI {e g : Int} (he : 0 ≤ e) (hg : 0 ≤ g) : ∃ x y : Int, (Int.gcd e g : Int) = e * x + g * y := by
  obtain ⟨x, y, h⟩ := bezN e.natAbs g.natAbs
  refine ⟨x, y, ?_⟩
  have h1 : (e.natAbs : Int) = e := by omega
  have h2 : (g.natAbs : Int) = g := by omega
  rw [h1, h2] at h
  exact h
/-- There is such a c below e. -/
theorem rc_exists {e g v : Int} (he : 1 ≤ e ∧ e ≤ 64) (hg : 0 ≤ g) (hd : (Int.gcd e g : Int) ∣ v) : ∃ c : Nat, c < 64 ∧ (c : Int) < e ∧ e ∣ v - (c : Int) * g := by
  obtain ⟨k, rfl⟩ := hd
  obtain ⟨a, b, hb⟩ := bezI (e := e) (g := g) (by omega) hg
  have hx0 : 0 ≤ (k * b) % e := Int.emod_nonneg _ (by omega)
  have hx1 : (k * b) % e < e := Int.emod_lt_of_pos _ (by omega)
  refine ⟨((k * b) % e).toNat, by omega, by omega, ?_⟩
  have hxx : ((((k * b) % e).toNat : Nat) : Int) = (k * b) % e := by omega
  rw [hxx]
  have hm := Int.mul_ediv_add_emod (k * b) e
  generalize (k * b) / e = m at *
  generalize (k * b) % e = x at *
  rw [hb]
  refine ⟨a * k + m * g, ?_⟩
  grind
/-- The divisors and generators of a branch. -/
theorem dvA_pos {zs : List Int} (hp : brB zs = true) {i : Nat} (h : i < zs.length) : 1 ≤ dvA zs i ∧ dvA zs i ≤ 64 := by
  have h1 := all_at (dvL_pos (dcB_range (brB_dcB hp)) (e := 0)) (i := i) (by rw [dvL_len]; exact h)
  have h2 := br_first hp
  refine ⟨h1.1, ?_⟩
  induction i with
  | zero =>
    have h3 := dv_at (e := 0) (zs := zs) (i := 0) h
    simp only [if_true] at h3
    have h4 : (Int.gcd 0 (zs[0]?.getD 0) : Int) = zs[0]?.getD 0 := by simp; omega
    show (dvL 0 zs)[0]?.getD 0 ≤ 64
    omega
  | succ i ih =>
    have h3 := dv_at (e := 0) (zs := zs) (i := i + 1) h
    rw [if_neg (by omega), Nat.add_sub_cancel] at h3
    have h5 := all_at (dvL_pos (dcB_range (brB_dcB hp)) (e := 0)) (i := i) (by rw [dvL_len]; omega)
    have h4 := gcd_le_left (e := (dvL 0 zs)[i]?.getD 0) (z := zs[i + 1]?.getD 0) h5.1
    have h6 := ih (by omega) h5
    show (dvL 0 zs)[i + 1]?.getD 0 ≤ 64
    rw [h3]
    have h7 : (dvL 0 zs)[i]?.getD 0 ≤ 64 := h6
    omega
theorem gnA_pos {zs : List Int} (hp : brB zs = true) {i : Nat} (h : i < zs.length) : 1 ≤ gnA zs i ∧ gnA zs i ≤ 128000 := all_at (gnB_all hp) (by rw [gnB_len]; exact h)
/-- The list of generators index by index, with what is known of divisor and shift. -/
theorem gn_state {zs : List Int} (hp : brB zs = true) : ∀ k, k ≤ zs.length → ∃ L e s, L.length = k ∧ gnB zs = L ++ gnL e s (zs.drop k) ∧ GSt (zs[0]?.getD 0) e s (if k = 0 then 0 else zs[k - 1]?.getD 0) ∧ e = (if k = 0 then zs[0]?.getD 0 else dvA zs (k - 1)) := by
  intro k
  induction k with
  | zero => intro _; exact ⟨[], zs[0]?.getD 0, 0, rfl, by simp [gnB], GSt.start (br_first hp).1 (br_first hp).2, rfl⟩
  | succ k ih =>
    intro hk
    obtain ⟨L, e, s, h1, h2, h3, h4⟩ := ih (by omega)
    have hz := dcB_range (brB_dcB hp) (zs[k]?.getD 0) (by simp [show k < zs.length by omega])
    have hzp : (if k = 0 then 0 else zs[k - 1]?.getD 0) ≤ zs[k]?.getD 0 := by
      by_cases h0 : k = 0
      · rw [if_pos h0]; omega
      · rw [if_neg h0]; have := br_next hp (show k < zs.length by omega) (by omega); omega
    have hgc : (Int.gcd e (zs[k]?.getD 0) : Int) = dvA zs k := by
      have h5 := dv_at (e := 0) (zs := zs) (i := k) (by omega)
      by_cases h0 : k = 0
      · subst h0
        simp only [if_true] at h5
        show _ = (dvL 0 zs)[0]?.getD 0
        rw [h5]
        have h6 : e = zs[0]?.getD 0 := by simpa using h4
        have h7 := (br_first hp).1
        rw [h6, Int.gcd_self, Int.gcd_zero_left]
      · rw [if_neg h0] at h5
        show _ = (dvL 0 zs)[k]?.getD 0
        rw [h5, h4, if_neg h0]
    refine ⟨L ++ [zs[k]?.getD 0 + s], _, _, by simp [h1], gn_step rfl (by omega) h2, by rw [if_neg (by omega), Nat.add_sub_cancel]; exact h3.step hzp hz.1, by rw [if_neg (by omega), Nat.add_sub_cancel]; exact hgc⟩
/-- The divisor of a divisor and the generator behind it is the next divisor. -/
theorem gn_gcd {zs : List Int} (hp : brB zs = true) {i : Nat} (h : i + 1 < zs.length) : (Int.gcd (dvA zs i) (gnA zs (i + 1)) : Int) = dvA zs (i + 1) := by
  obtain ⟨L, e, s, h1, h2, h3, h4⟩ := gn_state hp (i + 1) (by omega)
  rw [if_neg (by omega), Nat.add_sub_cancel] at h4
  have h5 : gnA zs (i + 1) = zs[i + 1]?.getD 0 + s := by
    show (gnB zs)[i + 1]?.getD 0 = _
    rw [h2, drop_at rfl h]
    simp [gnL, ← h1]
  have h6 := dv_at (e := 0) (zs := zs) (i := i + 1) h
  rw [if_neg (by omega), Nat.add_sub_cancel] at h6
  rw [h5, ← h4, gcd_shift h3.dv, h4]
  exact h6.symm
theorem dvA_dvd {zs : List Int} (hp : brB zs = true) {i : Nat} (h : i + 1 < zs.length) : dvA zs (i + 1) ∣ dvA zs i ∧ dvA zs (i + 1) ∣ gnA zs (i + 1) := by
  rw [← gn_gcd hp h]; exact ⟨Int.gcd_dvd_left _ _, Int.gcd_dvd_right _ _⟩
theorem dvA_last {zs : List Int} (hp : brB zs = true) : dvA zs (zs.length - 1) = 1 := by
  have hd := brB_dcB hp
  cases zs with
  | nil => cases hp
  | cons n r =>
    rw [dcB_split] at hd
    simp only [Bool.and_eq_true, decide_eq_true_eq] at hd
    have h1 := last_at (L := dvL 0 (n :: r)) rfl (by rw [dvL_len]; simp)
    rw [hd.2.2.2, dvL_len] at h1
    exact (Option.some.inj h1).symm
theorem dvA_first {zs : List Int} (hp : brB zs = true) : dvA zs 0 = zs[0]?.getD 0 := by
  have h1 := dv_at (e := 0) (zs := zs) (i := 0) (brB_pos hp)
  simp only [if_true, Int.gcd_zero_left] at h1
  have := (br_first hp).1
  show (dvL 0 zs)[0]?.getD 0 = _
  omega
/-- One level. -/
theorem rc_level {zs : List Int} (hp : brB zs = true) {i : Nat} (h : i + 1 < zs.length) {v : Int} (hd : dvA zs (i + 1) ∣ v) : rcA zs i v < 64 ∧ (rcA zs i v : Int) < dvA zs i ∧ dvA zs i ∣ v - (rcA zs i v : Int) * gnA zs (i + 1) := by
  have h1 := dvA_pos hp (i := i) (by omega)
  have h2 := gnA_pos hp (i := i + 1) h
  obtain ⟨c, hc, hce, hcd⟩ := rc_exists (e := dvA zs i) (g := gnA zs (i + 1)) (v := v) h1 (by omega) (by rw [gn_gcd hp h]; exact hd)
  have h3 := rcL_end hc hcd
  show rcL _ _ _ 64 < 64 ∧ _
  exact ⟨by omega, by show (rcL _ _ _ 64 : Int) < _; omega, h3.2⟩
/-- Bounds of what is left. -/
theorem rc_range {zs : List Int} (hp : brB zs = true) {i : Nat} (h : i + 1 < zs.length) {j : Nat} (hj : j ≤ 64) : 0 ≤ (j : Int) * gnA zs (i + 1) ∧ (j : Int) * gnA zs (i + 1) ≤ 8192000 := by
  have h2 := gnA_pos hp (i := i + 1) h
  have := mul_range (A := 64) (B := 128000) (a := (j : Int)) (b := gnA zs (i + 1)) (by omega) (by omega)
  omega
theorem rc_inner {e g v : Int} {j : Nat} {c f : Nat} (h : rcL e g v 64 = c) (hf : j + rcL e g (v - (j : Int) * g) f = c) (hjf : j + f = 64) (hc : c < 64) (h0 : ¬ (v - (j : Int) * g).tmod e = 0) :
    ∃ f', f = f' + 1 ∧ (j + 1) + rcL e g (v - ((j + 1 : Nat) : Int) * g) f' = c := by
  cases f with
  | zero => omega
  | succ f' =>
    refine ⟨f', rfl, ?_⟩
    rw [rcL_step h0] at hf
    have e1 : v - ((j + 1 : Nat) : Int) * g = v - (j : Int) * g - g := by push_cast; rw [Int.add_mul]; omega
    rw [e1]; omega
def semiB (v : Int) : Bool := decide (0 ≤ v ∧ v ≤ 20000)
def reB (zs : List Int) (v : Int) : Bool := decide (0 ≤ rpV zs (zs.length - 1) v)
def reA (zs : List Int) (v : Int) : List Int := if brB zs then (if semiB v then (if reB zs v then rpC zs (zs.length - 1) v else []) else []) else []
def reC (zs : List Int) (v : Int) : Int := if brB zs then (if semiB v then (if reB zs v then 0 else 4) else 2) else 1
theorem reA_len {zs : List Int} (v : Int) (h : zs.length ≤ 1048576) : (reA zs v).length ≤ 1099511627776 := by
  unfold reA
  split
  · split
    · split
      · rw [rpC_len]; omega
      · simp
    · simp
  · simp
theorem re_no {zs : List Int} {v : Int} (h : brB zs = false) : reA zs v = [] ∧ reC zs v = 1 := by simp [reA, reC, h]
theorem re_out {zs : List Int} {v : Int} (h : brB zs = true) (h2 : semiB v = false) : reA zs v = [] ∧ reC zs v = 2 := by simp [reA, reC, h, h2]
theorem re_none {zs : List Int} {v : Int} (h : brB zs = true) (h2 : semiB v = true) (h3 : reB zs v = false) : reA zs v = [] ∧ reC zs v = 4 := by simp [reA, reC, h, h2, h3]
theorem re_yes {zs : List Int} {v : Int} (h : brB zs = true) (h2 : semiB v = true) (h3 : reB zs v = true) : reA zs v = rpC zs (zs.length - 1) v ∧ reC zs v = 0 := by simp [reA, reC, h, h2, h3]
theorem semiB_yes {v : Int} (h : semiB v = true) : 0 ≤ v ∧ v ≤ 20000 := by simpa [semiB] using h
theorem semiB_no {v : Int} (h : semiB v = false) : ¬ (0 ≤ v ∧ v ≤ 20000) := by simpa only [semiB, decide_eq_false_iff_not] using h
theorem rpC_step (zs : List Int) (i : Nat) (v : Int) : rpC zs (i + 1) v = rpC zs i (v - (rcA zs i v : Int) * gnA zs (i + 1)) ++ [(rcA zs i v : Int)] := rfl
theorem rpV_step (zs : List Int) (i : Nat) (v : Int) : rpV zs (i + 1) v = rpV zs i (v - (rcA zs i v : Int) * gnA zs (i + 1)) := rfl
end Go.Proofs.Ytjgidalmgoifgaa
/- Representations by generators, the program's: contracts. Conditions: stated at each theorem. -/
namespace Go.Proofs.Ytjgidalmgoifgaa
open Go.ChangeShapes Go.WideShapes Go.ChangeAt Go.RowKit Go.Deep
set_option linter.unusedVariables false
set_option linter.unusedSimpArgs false

theorem tdiv_abs {u z B C : Int} (hu : -B ≤ u ∧ u ≤ C) (hz : 1 ≤ z) (hB : 0 ≤ B) (hC : 0 ≤ C) : -B ≤ u.tdiv z ∧ u.tdiv z ≤ B + C := by
  have h1 : (u.tdiv z).natAbs = u.natAbs / z.natAbs := Int.natAbs_tdiv u z
  have h2 : u.natAbs / z.natAbs ≤ u.natAbs := Nat.div_le_self _ _
  by_cases h0 : 0 ≤ u
  · have h3 : 0 ≤ u.tdiv z := Int.tdiv_nonneg h0 (by omega)
    omega
  · have h3 : u.tdiv z ≤ 0 := by
      have := Int.tdiv_nonneg (a := -u) (b := z) (by omega) (by omega)
      rw [Int.neg_tdiv] at this; omega
    omega
set_option maxRecDepth 100000 in
set_option maxHeartbeats 4000000 in
theorem representation_any (v : Value) (zs : List Int) (x : Int) (w : World) (h : ReadI w w.heap.size v zs) (hn : zs.length ≤ 1048576) (hp : brB zs = true) (hx : 0 ≤ x ∧ x ≤ 20000) :
    Calls Try.prog 105 #[.agg #[v], .int .i64 x] w fun e w' => ∃ v', e = .returned (.tuple #[v', .bool (reB zs x)]) ∧ OwnI w' w.heap.size w'.heap.size v' (rpC zs (zs.length - 1) x) ∧ Below w.heap.size w w' := by
  have HP := Lib.hid hp
  obtain ⟨n, A, c, rfl, hr, HL, _, hnc, HF, hcm⟩ := h.split2
  have hn0 : 0 < n := by have := brB_pos hp; rw [HL.out] at this; exact this
  have HN1 := Lib.hid hn
  rw [HL.out] at hn
  obtain ⟨a, rfl, hlt, hc0⟩ := hr.2 0 hn0
  obtain ⟨g, o, rfl⟩ := HF.out a rfl
  have hgw : g < w.heap.size := hlt
  obtain ⟨W0, HE⟩ : ∃ W, W = w.alloc (.cells #[.slice (some ⟨g, o, none⟩) n c] 26) := ⟨_, rfl⟩
  have hb0 : Below w.heap.size w W0 := by rw [HE]; exact below_box2 _ _
  have hq0 : BoxI W0 w.heap.size (.slice (some ⟨g, o, none⟩) n c) := by rw [HE]; exact BoxI.new _ _ _
  have hs0 : w.heap.size < W0.heap.size := hq0.2
  have HR := Lib.hid ((h.below hb0).more hb0.size)
  have B0 := Lib.hid hb0
  have HEQ := Lib.hid HE
  have q0 := hq0.1
  have Q0 := Lib.hid q0
  have CZ : Hid (w.cell? ⟨g, o, none⟩ = some (.int .i64 (zs[0]?.getD 0))) := Lib.hid (by
    have h2 : (⟨g, o, none⟩ : Addr).add 0 = ⟨g, o, none⟩ := by rw [add_lit]; rfl
    rw [h2] at hc0; simpa using hc0)
  have HLG : Hid ((gnB zs).length = n) := Lib.hid (by rw [gnB_len, HL.out])
  have HLD : Hid ((dvL 0 zs).length = n) := Lib.hid (by rw [dvL_len, HL.out])
  have HZ := Lib.hid (dcB_range (brB_dcB hp))
  obtain ⟨m, rfl⟩ : ∃ m, n = m + 1 := ⟨n - 1, by omega⟩
  have HZF := Lib.hid (br_first hp)
  have HLM : Hid (zs.length - 1 = m) := Lib.hid (by have := HL.out; omega)
  have HD0 : Hid (dvA zs m ∣ x) := Lib.hid (by have := dvA_last hp; rw [HLM.out] at this; rw [this]; exact Int.one_dvd _)
  rw [HLM.out]
  clear h hr hp hb0 hq0 HE hc0 hlt
  go_enter Try.func105, Try.ntmps105
  go_upto_region 1 with fail
  rw [← HEQ.out]
  go_cut [6, 7] (fun s3 s4 wx => Hid (TwoCut W0 (gnB zs) (dvL 0 zs) (m + 1) wx s3 s4))
  case first =>
    refine wp_region_held_drew (S := fun w' => w'.cell? ⟨w.heap.size, 0, none⟩ = some (.slice (some ⟨g, o, none⟩) (m + 1) c)) (by kernel_rfl) (q0) (fun hHeld => ?_)
    refine takeY 0 _ (v := ?_) rfl rfl (by kernel_rfl) (by kernel_rfl) (by kernel_rfl) (fun _ _ _ h => h) (by kernel_rfl) ?_ (by assumption) ?_
    rotate_left 1
    · intro w hSw; (try dsimp only at hSw); go_simp; (try with_reducible rfl)
    try simp only [Act.put, List.setIfInBounds_toArray, List.set_cons_zero, List.set_cons_succ]
    refine takeY 2 _ (v := ?_) rfl rfl (by kernel_rfl) (by kernel_rfl) (by kernel_rfl) (fun _ _ _ h => h) (by kernel_rfl) ?_ (by assumption) ?_
    rotate_left 1
    · intro w hSw; (try dsimp only at hSw); go_simp; (try with_reducible rfl)
    try simp only [Act.put, List.setIfInBounds_toArray, List.set_cons_zero, List.set_cons_succ]
    refine takeY 3 _ (v := ?_) rfl rfl (by kernel_rfl) (by kernel_rfl) (by kernel_rfl) (fun _ _ _ h => h) (by kernel_rfl) ?_ (by assumption) ?_
    rotate_left 1
    · intro w hSw; (try dsimp only at hSw); go_simp; (try with_reducible rfl)
    try simp only [Act.put, List.setIfInBounds_toArray, List.set_cons_zero, List.set_cons_succ]
    refine wpAnyH_ready (rs := [1]) (by kernel_rfl) (by simp) ?_
    refine AllReadyH.cons rfl (fun K hK => ?_) AllReadyH.nil
    go_simp
    refine (generators_any _ zs W0.drew HR.out HN1.out HP.out).mono ?_
    rintro e W1 ⟨v1, rfl, hv1, ho1, hb1⟩
    clear hv1
    replace hb1 : Below W0.heap.size W0 W1 := ⟨hb1.os, hb1.tape, hb1.output, hb1.size, hb1.block⟩
    obtain ⟨A1, c1, rfl⟩ := ho1.form HLG.out
    obtain ⟨gg, e1, hd1, hd2, _, _⟩ := own_at ho1 HLG.out hn0
    cases e1
    have hs1 := hb1.size
    change W0.heap.size ≤ gg at hd1
    have q1 := (hb1.cell (p := ⟨w.heap.size, 0, none⟩) hs0).trans q0
    refine hK.out _ (W1) q1 (fun hHeld => ?_)
    clear hK K
    try simp only [Act.put, List.setIfInBounds_toArray, List.set_cons_zero, List.set_cons_succ]
    refine wpAnyH_ready (rs := [4]) (by kernel_rfl) (by simp) ?_
    refine AllReadyH.cons rfl (fun K hK => ?_) AllReadyH.nil
    go_simp
    refine (divisors_any _ zs W1 W0.heap.size (HR.out.below hb1) HN1.out hs1 HZ.out).mono ?_
    rintro e W2 ⟨v2, rfl, hv2, ho2, hb2⟩
    clear hv2
    obtain ⟨A2, c2, rfl⟩ := ho2.form HLD.out
    obtain ⟨d, e2, hd3, hd4, _, _⟩ := own_at ho2 HLD.out hn0
    cases e2
    have q2 := (hb2.cell (p := ⟨w.heap.size, 0, none⟩) (by show w.heap.size < _; omega)).trans q1
    refine hK.out _ (W2) q2 (fun hHeld => ?_)
    clear hK K
    try simp only [Act.put, List.setIfInBounds_toArray, List.set_cons_zero, List.set_cons_succ]
    refine takeY 5 _ (v := ?_) rfl rfl (by kernel_rfl) (by kernel_rfl) (by kernel_rfl) (fun _ _ _ h => h) (by kernel_rfl) ?_ (by assumption) ?_
    rotate_left 1
    · intro w hSw; (try dsimp only at hSw); go_simp; (try with_reducible rfl)
    try simp only [Act.put, List.setIfInBounds_toArray, List.set_cons_zero, List.set_cons_succ]
    refine takeY 6 _ (v := ?_) rfl rfl (by kernel_rfl) (by kernel_rfl) (by kernel_rfl) (fun _ _ _ h => h) (by kernel_rfl) ?_ (by assumption) ?_
    rotate_left 1
    · intro w hSw; (try dsimp only at hSw); go_simp; (try with_reducible rfl)
    try simp only [Act.put, List.setIfInBounds_toArray, List.set_cons_zero, List.set_cons_succ]
    refine wpAnyH_done (by kernel_rfl) ?_ _
    go_wp2_with fail
    go_meet
    exact Lib.hid (two_cut (n := m + 1) (own_tight ho1 hd2) (own_tight ho2 hd4) (by omega) (hb1.trans (hb2.mono hs1)) hb2 hd2)
  case rest =>
    obtain ⟨gg, d, c1, c2, rfl, rfl, hog, hod, hdg, hbw⟩ := hcut.out
    have hdw : d < wc.heap.size := hod.2.2
    have hggw : gg < wc.heap.size := hog.2.2
    have hsw := hbw.size
    have hmk := fun (W : World) => run_make_row' (P := Try.prog) 24 2 (.int .i64 0) 8 Try.underlying24 int_info rfl .i64 .i64 (m + 1) (by omega) (by omega) W
    simp only [Int.natCast_add, Int.cast_ofNat_Int] at hmk
    have p0 : IntKind.i64.wrap ((m : Int) + 1 - 1) = (m : Int) := by rw [IntWalk.i64_in _ (by omega)]; omega
    have hbC : Below wc.heap.size wc (wc.alloc (.cells (madeCells #[.int .i64 0] (m + 1)) 2)) := below_box2 _ _
    have hsC : (wc.alloc (.cells (madeCells #[.int .i64 0] (m + 1)) 2)).heap.size = wc.heap.size + 1 := by simp
    have ROW0 : Hid ((wc.alloc (.cells (madeCells #[.int .i64 0] (m + 1)) 2)).rowIs wc.heap.size 2 (m + 1) (fun y => if m < y then .int .i64 ((rpC zs m x).getD y 0) else .int .i64 0)) := Lib.hid ((World.rowIs_made wc _ (m + 1) _).congr (fun i hi => by rw [if_neg (by omega)]))
    go_wp2_with fail
    clear hmk
    generalize wc.alloc (.cells (madeCells #[.int .i64 0] (m + 1)) 2) = WC at *
    have OD := Lib.hid (hod.kept (Kept.of_below hbC (by omega)))
    have OG := Lib.hid (hog.kept (Kept.of_below hbC (by omega)))
    have BC := Lib.hid (B0.out.trans ((hbw.trans (hbC.mono hsw)).mono (by omega)))
    have QC := Lib.hid (((hbw.trans (hbC.mono hsw)).cell (p := ⟨w.heap.size, 0, none⟩) hs0).trans Q0.out)
    have HB0 : Hid (Below wc.heap.size WC WC) := Lib.hid (Below.refl _ _)
    have hsw2 : w.heap.size < wc.heap.size := by omega
    clear hod hog hbw hbC hcut q0
    go_loopw [1, 9] (fun vv vi wr => ∃ (i : Nat) (u : Int) (T : List Int), i ≤ m ∧ vv = .int .i64 u ∧ vi = .int .i64 i ∧ (-(8192000 * ((m : Int) - (i : Int))) ≤ u ∧ u ≤ 20000) ∧ Hid (dvA zs i ∣ u) ∧ Hid (rpV zs m x = rpV zs i u) ∧ Hid (T.length + i = m) ∧ Hid (rpC zs m x = rpC zs i u ++ T) ∧ Hid (wr.rowIs wc.heap.size 2 (m + 1) (fun y => if i < y then .int .i64 ((rpC zs m x).getD y 0) else .int .i64 0)) ∧ Hid (Below wc.heap.size WC wr)) (fun _ vi _ => (intOf vi).toNat)
    case atStart => exact ⟨m, x, [], Nat.le_refl _, rfl, rfl, by omega, HD0, Lib.hid rfl, Lib.hid (by simp), Lib.hid (by simp), ROW0, HB0⟩
    case round =>
      clear ROW0 HB0
      obtain ⟨i, u, T, hi, rfl, rfl, hub, hdv, hv, hT, hC, hrow, hb⟩ := hrel
      have hsz := hb.out.size
      cases i with
      | zero =>
        have qr : wr.cell? ⟨w.heap.size, 0, none⟩ = some (.slice (some ⟨g, o, none⟩) (m + 1) c) := (hb.out.cell (p := ⟨w.heap.size, 0, none⟩) (by show w.heap.size < _; omega)).trans QC.out
        have cz : wr.cell? ⟨g, o, none⟩ = some (.int .i64 (zs[0]?.getD 0)) := (hb.out.cell (p := ⟨g, o, none⟩) (by show g < _; omega)).trans ((BC.out.cell (p := ⟨g, o, none⟩) hgw).trans CZ.out)
        have hdst := hrow.out.cell (show 0 < m + 1 by omega)
        simp only [Nat.lt_irrefl, if_false] at hdst
        have hfz := hrow.out.frozen 0
        have hzf := HZF.out
        have HC0 : Hid ((rpC zs m x).getD 0 0 = u.tdiv (zs[0]?.getD 0)) := Lib.hid (by rw [hC.out]; simp [rpC])
        obtain ⟨z0, hz00⟩ : ∃ z, zs[0]?.getD 0 = z := ⟨_, rfl⟩
        rw [hz00] at cz hzf HC0
        have hdz : (z0 == 0) = false := by simp; omega
        have hdz2 : ¬ z0 = 0 := by omega
        have hqb : -(8192000 * (m : Int)) ≤ u.tdiv z0 ∧ u.tdiv z0 ≤ 8192000 * (m : Int) + 20000 := tdiv_abs (B := 8192000 * (m : Int)) (C := 20000) (by omega) (by omega) (by omega) (by omega)
        have p4 : IntKind.i64.wrap (u.tdiv z0) = u.tdiv z0 := IntWalk.i64_in _ (by omega)
        have HR3 := Lib.hid ((hrow.out.set 0 (.int .i64 (u.tdiv z0))).congr (g := fun y => if y < m + 1 then .int .i64 ((rpC zs m x).getD y 0) else .int .i64 0) (fun y hy => by
          by_cases h1 : y = 0
          · subst h1; simp only [if_true, if_pos hy, HC0.out]
          · simp only [if_neg h1, if_pos (show 0 < y by omega), if_pos hy]))
        have HB3 := Lib.hid (hb.out.setCell (p := ⟨wc.heap.size, 0, none⟩) (Nat.le_refl _) (.int .i64 (u.tdiv z0)))
        have HLC : Hid ((rpC zs m x).length = m + 1) := Lib.hid (rpC_len _ _ _)
        have HV0 : Hid (rpV zs m x = u) := Lib.hid hv.out
        by_cases hu : 0 ≤ u
        · have HB : Hid (reB zs x = true) := Lib.hid (by unfold reB; rw [HLM.out, HV0.out]; exact decide_eq_true hu)
          clear hz00
          go_wp2_with fail
          go_ret2
          exact ⟨_, by rw [HB.out]; rfl, by have := row_ownB HR3.out HLC.out (show w.heap.size ≤ wc.heap.size by omega) (by omega); exact this, BC.out.trans (HB3.out.mono (by omega))⟩
        · have HB : Hid (reB zs x = false) := Lib.hid (by unfold reB; rw [HLM.out, HV0.out]; exact decide_eq_false hu)
          clear hz00
          go_wp2_with fail
          go_ret2
          exact ⟨_, by rw [HB.out]; rfl, by have := row_ownB HR3.out HLC.out (show w.heap.size ≤ wc.heap.size by omega) (by omega); exact this, BC.out.trans (HB3.out.mono (by omega))⟩
      | succ i =>
        have hi1 : i + 1 < zs.length := by rw [HL.out]; omega
        have HLV := Lib.hid (rc_level HP.out hi1 hdv.out)
        have hlv := HLV.out.1
        have HRA : Hid (rcL (dvA zs i) (gnA zs (i + 1)) u 64 = rcA zs i u) := Lib.hid rfl
        have HCS := Lib.hid (rpC_step zs i u)
        have HVS := Lib.hid (rpV_step zs i u)
        have HRR := Lib.hid (fun (j : Nat) (hj : j ≤ 64) => rc_range HP.out hi1 hj)
        have hdp := dvA_pos HP.out (i := i) (by omega)
        have hgp := gnA_pos HP.out (i := i + 1) hi1
        obtain ⟨d', e1, _, _, hcd, _⟩ := own_at OD.out HLD.out (show i < m + 1 by omega)
        cases e1
        obtain ⟨g', e1, _, _, hcg, _⟩ := own_at OG.out HLG.out (show i + 1 < m + 1 by omega)
        cases e1
        obtain ⟨cc, hcc⟩ : ∃ c, rcA zs i u = c := ⟨_, rfl⟩
        obtain ⟨dd, hdd⟩ : ∃ c, dvA zs i = c := ⟨_, rfl⟩
        obtain ⟨qq, hqq⟩ : ∃ c, gnA zs (i + 1) = c := ⟨_, rfl⟩
        rw [show (dvL 0 zs)[i]?.getD 0 = dd from hdd] at hcd
        rw [show (gnB zs)[i + 1]?.getD 0 = qq from hqq] at hcg
        rw [hdd, hqq, hcc] at HRA
        rw [hcc, hqq] at HCS HVS HLV
        rw [hcc] at hlv
        rw [hqq] at HRR hgp
        rw [hdd] at hdp
        have HDD := Lib.hid hdd
        have hdz : (dd == 0) = false := by simp; omega
        have hdz2 : ¬ dd = 0 := by omega
        have hin : (0 : Int) < (i : Int) + 1 := by omega
        have hin1 : (1 : Int) ≤ (i : Int) + 1 := by omega
        have h1n : i + 1 < m + 1 := by omega
        have h1ni : (i : Int) + 1 < (m : Int) + 1 := by omega
        have h0ni : (i : Int) < (m : Int) + 1 := by omega
        have h0n : i < m + 1 := by omega
        have h00 : (0 : Int) ≤ (i : Int) := by omega
        have h01 : (0 : Int) ≤ (i : Int) + 1 := by omega
        have h7 : ((i : Int) + 1).toNat = i + 1 := by omega
        have p1 : IntKind.i64.wrap ((i : Int) + 1 - 1) = (i : Int) := by rw [IntWalk.i64_in _ (by omega)]; omega
        have HROW := Lib.hid (hrow.out.congr (g := fun y => if y = i + 1 then .int .i64 ((0 : Nat) : Int) else if i + 1 < y then .int .i64 ((rpC zs m x).getD y 0) else .int .i64 0) (fun y hy => by
          by_cases h1 : y = i + 1
          · subst h1; simp
          · simp only [if_neg h1]))
        have HJ0 : Hid (0 + rcL dd qq u 64 = cc) := Lib.hid (by rw [Nat.zero_add]; exact HRA.out)
        have HY0 : Hid (u = u - ((0 : Nat) : Int) * qq) := Lib.hid (by simp)
        have HBR := hb
        have hPos := HRR.out cc (by omega)
        have HCQ : Hid (∀ j : Nat, j + 1 ≤ cc → ((j + 1 : Nat) : Int) * qq = (j : Int) * qq + qq ∧ ((j + 1 : Nat) : Int) * qq ≤ (cc : Int) * qq) := Lib.hid (fun j hj => ⟨by push_cast; rw [Int.add_mul]; omega, Int.mul_le_mul_of_nonneg_right (by omega) (by omega)⟩)
        clear hcc hdd hqq hrow hb
        go_wp2_with fail
        go_loopw [1] (fun vv wi => ∃ (j f : Nat) (y : Int), j + f = 64 ∧ j ≤ cc ∧ Hid (y = u - (j : Int) * qq) ∧ vv = .int .i64 y ∧ Hid (j + rcL dd qq y f = cc) ∧ Hid (wi.rowIs wc.heap.size 2 (m + 1) (fun y => if y = i + 1 then .int .i64 (j : Int) else if i + 1 < y then .int .i64 ((rpC zs m x).getD y 0) else .int .i64 0)) ∧ Hid (Below wc.heap.size WC wi)) (fun vv _ => (intOf vv - (u - (cc : Int) * qq)).toNat)
        case atStart => exact ⟨0, 64, u, rfl, by omega, HY0, rfl, HJ0, HROW, HBR⟩
        case round =>
          obtain ⟨j, f, y, hjf, hjc, hy, rfl, hcn, hri, hbi⟩ := hrel
          have hszi := hbi.out.size
          have hcdi : wr.cell? ⟨d, i, none⟩ = some (.int .i64 dd) := (hbi.out.cell (p := ⟨d, i, none⟩) hdw).trans hcd
          have hcgi : wr.cell? ⟨gg, i + 1, none⟩ = some (.int .i64 qq) := (hbi.out.cell (p := ⟨gg, i + 1, none⟩) hggw).trans hcg
          have hjr := HRR.out j (by omega)
          have hyr : -(8192000 * ((m : Int) - (i : Int))) ≤ y ∧ y ≤ 20000 := by have := hy.out; omega
          have hwp : IntKind.i64.wrap (y.tmod dd) = y.tmod dd := IntWalk.i64_in _ (by have h1 := Int.natAbs_tmod y dd; have h2 : y.natAbs % dd.natAbs ≤ y.natAbs := Nat.mod_le _ _; omega)
          have hdst := hri.out.cell h1n
          simp only [if_true] at hdst
          have hfz := hri.out.frozen (i + 1)
          by_cases h0 : y.tmod dd = 0
          · have hjcc : j = cc := by have := hcn.out; rw [rcL_zero h0] at this; omega
            subst hjcc
            have hb0 : (y.tmod dd != 0) = false := by simp [h0]
            have HU : Hid (u - (j : Int) * qq = y) := Lib.hid hy.out.symm
            have HT2 : Hid ((((j : Int) :: T) : List Int).length + i = m) := Lib.hid (by have := hT.out; simp; omega)
            have HC2 : Hid (rpC zs m x = rpC zs i y ++ ((j : Int) :: T)) := Lib.hid (by rw [hC.out, HCS.out, HU.out]; simp)
            have HD2 : Hid (dvA zs i ∣ y) := Lib.hid (by rw [← HU.out]; exact HLV.out.2.2)
            have HV2 : Hid (rpV zs m x = rpV zs i y) := Lib.hid (by rw [hv.out, HVS.out, HU.out])
            have HR2 := Lib.hid (hri.out.congr (g := fun y' => if i < y' then .int .i64 ((rpC zs m x).getD y' 0) else .int .i64 0) (fun y' hy' => by
              by_cases h1 : y' = i + 1
              · subst h1
                have h3 : (rpC zs m x).getD (i + 1) 0 = (j : Int) := by
                  rw [HC2.out, List.getD, List.getElem?_append_right (by rw [rpC_len]; omega), rpC_len]; simp
                simp only [if_true, show i < i + 1 by omega, h3]
              · by_cases h2 : i + 1 < y'
                · simp only [if_neg h1, if_pos h2, if_pos (show i < y' by omega)]
                · simp only [if_neg h1, if_neg h2, if_neg (show ¬ i < y' by omega)]))
            clear h0 hjr
            go_wp2_with fail
            go_roundw
            case rel => exact ⟨i, y, (j : Int) :: T, by omega, rfl, by go_num, by omega, HD2, HV2, HT2, HC2, HR2, hbi⟩
            case measure => first | (simp [intOf]; done) | (simp [intOf]; omega)
          · obtain ⟨f', rfl, hnx⟩ := rc_inner (v := u) HRA.out (by have := hcn.out; rw [hy.out] at this; exact this) hjf (by omega) (by rw [← hy.out]; exact h0)
            have hb0 : (y.tmod dd != 0) = true := by simp [h0]
            have hj1 : j + 1 ≤ cc := by omega
            have hq := HCQ.out j hj1
            have HY1 : Hid (y - qq = u - ((j + 1 : Nat) : Int) * qq) := Lib.hid (by have := hy.out; omega)
            have HN1 : Hid ((j + 1) + rcL dd qq (y - qq) f' = cc) := Lib.hid (by rw [HY1.out]; exact hnx)
            have hyy := hy.out
            have p2 : IntKind.i64.wrap (y - qq) = y - qq := IntWalk.i64_in _ (by omega)
            have p3 : IntKind.i64.wrap ((j : Int) + 1) = (j : Int) + 1 := IntWalk.i64_in _ (by omega)
            have hms : (y - qq - (u - (cc : Int) * qq)).toNat < (y - (u - (cc : Int) * qq)).toNat := by omega
            clear h0 hjr hyy hq hnx
            go_wp2_with fail
            go_roundw
            case rel =>
              refine ⟨j + 1, f', y - qq, by omega, hj1, HY1, rfl, HN1, Lib.hid ((hri.out.set (i + 1) (.int .i64 ((j : Int) + 1))).congr fun y' hy' => ?_), Lib.hid (hbi.out.setCell (p := ⟨wc.heap.size, i + 1, none⟩) (Nat.le_refl _) _)⟩
              by_cases h1 : y' = i + 1
              · subst h1; simp
              · simp only [if_neg h1]
            case measure => simp only [intOf]; exact hms
end Go.Proofs.Ytjgidalmgoifgaa
/- RepresentationOf, the model's and the program's: contracts. Conditions: stated at each theorem. -/
namespace Go.Proofs.Ytjgidalmgoifgaa
open Go.ChangeShapes Go.WideShapes Go.ChangeAt Go.RowKit Go.Deep
set_option linter.unusedVariables false
set_option linter.unusedSimpArgs false

theorem gnB_first0 {zs : List Int} (hp : brB zs = true) : (gnB zs)[0]?.getD 0 = zs[0]?.getD 0 := by
  cases zs with
  | nil => cases hp
  | cons n r => simp [gnB, gnL]
set_option maxRecDepth 100000 in
set_option maxHeartbeats 4000000 in
theorem specRepresentationOf_any (v : Value) (zs : List Int) (x : Int) (w : World) (h : ReadI w w.heap.size v zs) (hn : zs.length ≤ 1048576) (hw : ∀ z ∈ zs, (Lit.int .i64 z).wf = true) (hwx : (Lit.int .i64 x).wf = true) :
    Calls Try.prog 53 #[.agg #[v], .int .i64 x] w (AnsIC w (reA zs x) (reC zs x)) := by
  have HWW := Lib.hid hw
  have HN0 := Lib.hid hn
  rcases bool_fs (brB zs) with hp | hp
  · have E := Lib.hid (re_no (v := x) hp)
    have HP := Lib.hid hp
    obtain ⟨n, A, c, rfl, hr, HL, _, hnc, HF, hcm⟩ := h.split2
    obtain ⟨W0, HE⟩ : ∃ W, W = w.alloc (.cells #[.slice A n c] 26) := ⟨_, rfl⟩
    have hb0 : Below w.heap.size w W0 := by rw [HE]; exact below_box _ _
    have H0 := Lib.hid ((h.below hb0).more hb0.size)
    have HEQ := Lib.hid HE
    clear h hr HE HF hn hw hp hwx
    go_enter Try.func53, Try.ntmps53
    go_wp2_with fail
    rw [← HEQ.out]
    refine (l03Is_if _ zs _ false H0.out HN0.out HWW.out HP.out).mono ?_
    rintro e w1 ⟨rfl, hb1⟩
    go_wp2_with fail
    go_ret2
    exact AnsIC.empty (by rw [E.out.1]) (by rw [E.out.2]) (hb0.trans (hb1.mono hb0.size))
  have HP := Lib.hid hp
  rcases bool_fs (semiB x) with hsb | hsb
  · have E := Lib.hid (re_out hp hsb)
    have HSB := Lib.hid hsb
    obtain ⟨n, A, c, rfl, hr, HL, _, hnc, HF, hcm⟩ := h.split2
    obtain ⟨W0, HE⟩ : ∃ W, W = w.alloc (.cells #[.slice A n c] 26) := ⟨_, rfl⟩
    have hb0 : Below w.heap.size w W0 := by rw [HE]; exact below_box _ _
    have H0 := Lib.hid ((h.below hb0).more hb0.size)
    have HEQ := Lib.hid HE
    clear h hr HE HF hn hw hp hwx hsb
    go_enter Try.func53, Try.ntmps53
    go_wp2_with fail
    rw [← HEQ.out]
    refine (l03Is_if _ zs _ true H0.out HN0.out HWW.out HP.out).mono ?_
    rintro e w1 ⟨rfl, hb1⟩
    have B1 := Lib.hid (hb0.trans (hb1.mono hb0.size))
    clear hb1 hb0
    go_wp2_with (go_at_call 108; refine (in_no _ _ _ _ (semiB_no HSB.out)).mono ?_; rintro e w' ⟨rfl, rfl⟩)
    go_ret2
    exact AnsIC.empty (by rw [E.out.1]) (by rw [E.out.2]) B1.out
  have hx := semiB_yes hsb
  have HSB := Lib.hid hsb
  obtain ⟨n, A, c, rfl, hr, HL, _, hnc, HF, hcm⟩ := h.split2
  have hn0 : 0 < n := by have := brB_pos hp; rw [HL.out] at this; exact this
  have HN1 := Lib.hid hn
  rw [HL.out] at hn
  obtain ⟨a, rfl, hlt, hc0⟩ := hr.2 0 hn0
  obtain ⟨g, o, rfl⟩ := HF.out a rfl
  have hgw : g < w.heap.size := hlt
  obtain ⟨W0, HE⟩ : ∃ W, W = w.alloc (.cells #[.slice (some ⟨g, o, none⟩) n c] 26) := ⟨_, rfl⟩
  have hb0 : Below w.heap.size w W0 := by rw [HE]; exact below_box2 _ _
  have hq0 : BoxI W0 w.heap.size (.slice (some ⟨g, o, none⟩) n c) := by rw [HE]; exact BoxI.new _ _ _
  have hs0 : w.heap.size < W0.heap.size := hq0.2
  have HR := Lib.hid ((h.below hb0).more hb0.size)
  have B0 := Lib.hid hb0
  have HEQ := Lib.hid HE
  have q0 := hq0.1
  have Q0 := Lib.hid q0
  have CZ : Hid (w.cell? ⟨g, o, none⟩ = some (.int .i64 (zs[0]?.getD 0))) := Lib.hid (by
    have h2 : (⟨g, o, none⟩ : Addr).add 0 = ⟨g, o, none⟩ := by rw [add_lit]; rfl
    rw [h2] at hc0; simpa using hc0)
  have HLG : Hid ((gnB zs).length = n) := Lib.hid (by rw [gnB_len, HL.out])
  have HLD : Hid ((dvL 0 zs).length = n) := Lib.hid (by rw [dvL_len, HL.out])
  have HZ := Lib.hid (dcB_range (brB_dcB hp))
  obtain ⟨m, rfl⟩ : ∃ m, n = m + 1 := ⟨n - 1, by omega⟩
  have HZF := Lib.hid (br_first hp)
  have HG0 := Lib.hid (gnB_first0 hp)
  have HLM : Hid (zs.length - 1 = m) := Lib.hid (by have := HL.out; omega)
  have HD0 : Hid (dvA zs m ∣ x) := Lib.hid (by have := dvA_last hp; rw [HLM.out] at this; rw [this]; exact Int.one_dvd _)
  clear h hr hp hb0 hq0 HE hc0 hlt hw hwx
  go_enter Try.func53, Try.ntmps53
  go_wp2_with fail
  rw [← HEQ.out]
  refine (l03Is_if _ zs _ true HR.out HN1.out HWW.out HP.out).mono ?_
  rintro e W1 ⟨rfl, hb1⟩
  have hs1 := hb1.size
  have q1 := (hb1.cell (p := ⟨w.heap.size, 0, none⟩) hs0).trans Q0.out
  have Q1 := Lib.hid q1
  have HR1 := Lib.hid ((HR.out.below hb1).more hs1)
  have B1 := Lib.hid (B0.out.trans (hb1.mono (by omega)))
  have hw1 : w.heap.size < W1.heap.size := by omega
  clear hb1 q0
  go_upto_region 5 with (go_at_call 108; refine (in_yes _ _ _ _ hx.1 hx.2).mono ?_; rintro e w' ⟨rfl, rfl⟩)
  go_cut [6, 7] (fun s3 s4 wx => Hid (TwoCut W1 (dvL 0 zs) (gnB zs) (m + 1) wx s3 s4))
  case first =>
    refine wp_region_held_drew (S := fun w' => w'.cell? ⟨w.heap.size, 0, none⟩ = some (.slice (some ⟨g, o, none⟩) (m + 1) c)) (by kernel_rfl) (q1) (fun hHeld => ?_)
    refine takeY 0 _ (v := ?_) rfl rfl (by kernel_rfl) (by kernel_rfl) (by kernel_rfl) (fun _ _ _ h => h) (by kernel_rfl) ?_ (by assumption) ?_
    rotate_left 1
    · intro w hSw; (try dsimp only at hSw); go_simp; (try with_reducible rfl)
    try simp only [Act.put, List.setIfInBounds_toArray, List.set_cons_zero, List.set_cons_succ]
    refine takeY 2 _ (v := ?_) rfl rfl (by kernel_rfl) (by kernel_rfl) (by kernel_rfl) (fun _ _ _ h => h) (by kernel_rfl) ?_ (by assumption) ?_
    rotate_left 1
    · intro w hSw; (try dsimp only at hSw); go_simp; (try with_reducible rfl)
    try simp only [Act.put, List.setIfInBounds_toArray, List.set_cons_zero, List.set_cons_succ]
    refine wpAnyH_ready (rs := [1]) (by kernel_rfl) (by simp) ?_
    refine AllReadyH.cons rfl (fun K hK => ?_) AllReadyH.nil
    go_simp
    refine (l03Divisors_any _ zs W1.drew HR1.out HN1.out HP.out).mono ?_
    rintro e W2 ⟨v1, rfl, ho1, hb2⟩
    replace hb2 : Below W1.heap.size W1 W2 := ⟨hb2.os, hb2.tape, hb2.output, hb2.size, hb2.block⟩
    obtain ⟨A1, c1, rfl⟩ := ho1.form HLD.out
    obtain ⟨d, e1, hd1, hd2, _, _⟩ := own_at ho1 HLD.out hn0
    cases e1
    have hs2 := hb2.size
    change W1.heap.size ≤ d at hd1
    have q2 := (hb2.cell (p := ⟨w.heap.size, 0, none⟩) hw1).trans q1
    refine hK.out _ (W2) q2 (fun hHeld => ?_)
    clear hK K
    try simp only [Act.put, List.setIfInBounds_toArray, List.set_cons_zero, List.set_cons_succ]
    refine wpAnyH_ready (rs := [3]) (by kernel_rfl) (by simp) ?_
    refine AllReadyH.cons rfl (fun K hK => ?_) AllReadyH.nil
    go_simp
    refine (l05Generators_any _ zs W2 ((HR1.out.below hb2).more hs2) HN1.out HP.out).mono ?_
    rintro e W3 ⟨v2, rfl, ho2, hb3⟩
    obtain ⟨A2, c2, rfl⟩ := ho2.form HLG.out
    obtain ⟨gg, e2, hd3, hd4, _, _⟩ := own_at ho2 HLG.out hn0
    cases e2
    have q3 := (hb3.cell (p := ⟨w.heap.size, 0, none⟩) (by show w.heap.size < _; omega)).trans q2
    refine hK.out _ (W3) q3 (fun hHeld => ?_)
    clear hK K
    try simp only [Act.put, List.setIfInBounds_toArray, List.set_cons_zero, List.set_cons_succ]
    refine takeY 4 _ (v := ?_) rfl rfl (by kernel_rfl) (by kernel_rfl) (by kernel_rfl) (fun _ _ _ h => h) (by kernel_rfl) ?_ (by assumption) ?_
    rotate_left 1
    · intro w hSw; (try dsimp only at hSw); go_simp; (try with_reducible rfl)
    try simp only [Act.put, List.setIfInBounds_toArray, List.set_cons_zero, List.set_cons_succ]
    refine takeY 5 _ (v := ?_) rfl rfl (by kernel_rfl) (by kernel_rfl) (by kernel_rfl) (fun _ _ _ h => h) (by kernel_rfl) ?_ (by assumption) ?_
    rotate_left 1
    · intro w hSw; (try dsimp only at hSw); go_simp; (try with_reducible rfl)
    try simp only [Act.put, List.setIfInBounds_toArray, List.set_cons_zero, List.set_cons_succ]
    refine wpAnyH_done (by kernel_rfl) ?_ _
    go_wp2_with fail
    go_meet
    exact Lib.hid (two_cut (n := m + 1) (own_tight ho1 hd2) (own_tight ho2 hd4) (by omega) (hb2.trans (hb3.mono hs2)) hb3 hd2)
  case rest =>
    obtain ⟨d, gg, c1, c2, rfl, rfl, hod, hog, hdg, hbw⟩ := hcut.out
    have hdw : d < wc.heap.size := hod.2.2
    have hggw : gg < wc.heap.size := hog.2.2
    have hsw := hbw.size
    have hmk := fun (W : World) => run_make_row' (P := Try.prog) 24 2 (.int .i64 0) 8 Try.underlying24 int_info rfl .i64 .i64 (m + 1) (by omega) (by omega) W
    simp only [Int.natCast_add, Int.cast_ofNat_Int] at hmk
    have p0 : IntKind.i64.wrap ((m : Int) + 1 - 1) = (m : Int) := by rw [IntWalk.i64_in _ (by omega)]; omega
    have hbC : Below wc.heap.size wc (wc.alloc (.cells (madeCells #[.int .i64 0] (m + 1)) 2)) := below_box2 _ _
    have hsC : (wc.alloc (.cells (madeCells #[.int .i64 0] (m + 1)) 2)).heap.size = wc.heap.size + 1 := by simp
    have ROW0 : Hid ((wc.alloc (.cells (madeCells #[.int .i64 0] (m + 1)) 2)).rowIs wc.heap.size 2 (m + 1) (fun y => if m < y then .int .i64 ((rpC zs m x).getD y 0) else .int .i64 0)) := Lib.hid ((World.rowIs_made wc _ (m + 1) _).congr (fun i hi => by rw [if_neg (by omega)]))
    go_wp2_with fail
    clear hmk
    generalize wc.alloc (.cells (madeCells #[.int .i64 0] (m + 1)) 2) = WC at *
    have OD := Lib.hid (hod.kept (Kept.of_below hbC (by omega)))
    have OG := Lib.hid (hog.kept (Kept.of_below hbC (by omega)))
    have BC := Lib.hid (B1.out.trans ((hbw.trans (hbC.mono hsw)).mono (by omega)))
    have HB0 : Hid (Below wc.heap.size WC WC) := Lib.hid (Below.refl _ _)
    have hsw2 : w.heap.size < wc.heap.size := by omega
    clear hod hog hbw hbC hcut q1
    go_loopw [1, 9] (fun vv vi wr => ∃ (i : Nat) (u : Int) (T : List Int), i ≤ m ∧ vv = .int .i64 u ∧ vi = .int .i64 i ∧ (-(8192000 * ((m : Int) - (i : Int))) ≤ u ∧ u ≤ 20000) ∧ Hid (dvA zs i ∣ u) ∧ Hid (rpV zs m x = rpV zs i u) ∧ Hid (T.length + i = m) ∧ Hid (rpC zs m x = rpC zs i u ++ T) ∧ Hid (wr.rowIs wc.heap.size 2 (m + 1) (fun y => if i < y then .int .i64 ((rpC zs m x).getD y 0) else .int .i64 0)) ∧ Hid (Below wc.heap.size WC wr)) (fun _ vi _ => (intOf vi).toNat)
    case atStart => exact ⟨m, x, [], Nat.le_refl _, rfl, rfl, by omega, HD0, Lib.hid rfl, Lib.hid (by simp), Lib.hid (by simp), ROW0, HB0⟩
    case round =>
      clear ROW0 HB0
      obtain ⟨i, u, T, hi, rfl, rfl, hub, hdv, hv, hT, hC, hrow, hb⟩ := hrel
      have hsz := hb.out.size
      cases i with
      | zero =>
        have hdst := hrow.out.cell (show 0 < m + 1 by omega)
        simp only [Nat.lt_irrefl, if_false] at hdst
        have hfz := hrow.out.frozen 0
        obtain ⟨g', e1, _, _, hcg, _⟩ := own_at OG.out HLG.out (show 0 < m + 1 by omega)
        cases e1
        rw [HG0.out] at hcg
        have cz : wr.cell? ⟨gg, 0, none⟩ = some (.int .i64 (zs[0]?.getD 0)) := (hb.out.cell (p := ⟨gg, 0, none⟩) hggw).trans hcg
        have hzf := HZF.out
        have HC0 : Hid ((rpC zs m x).getD 0 0 = u.tdiv (zs[0]?.getD 0)) := Lib.hid (by rw [hC.out]; simp [rpC])
        obtain ⟨z0, hz00⟩ : ∃ z, zs[0]?.getD 0 = z := ⟨_, rfl⟩
        rw [hz00] at cz hzf HC0
        have hdz : (z0 == 0) = false := by simp; omega
        have hdz2 : ¬ z0 = 0 := by omega
        have hqb : -(8192000 * (m : Int)) ≤ u.tdiv z0 ∧ u.tdiv z0 ≤ 8192000 * (m : Int) + 20000 := tdiv_abs (B := 8192000 * (m : Int)) (C := 20000) (by omega) (by omega) (by omega) (by omega)
        have p4 : IntKind.i64.wrap (u.tdiv z0) = u.tdiv z0 := IntWalk.i64_in _ (by omega)
        have HR3 := Lib.hid ((hrow.out.set 0 (.int .i64 (u.tdiv z0))).congr (g := fun y => if y < m + 1 then .int .i64 ((rpC zs m x).getD y 0) else .int .i64 0) (fun y hy => by
          by_cases h1 : y = 0
          · subst h1; simp only [if_true, if_pos hy, HC0.out]
          · simp only [if_neg h1, if_pos (show 0 < y by omega), if_pos hy]))
        have HB3 := Lib.hid (hb.out.setCell (p := ⟨wc.heap.size, 0, none⟩) (Nat.le_refl _) (.int .i64 (u.tdiv z0)))
        have HLC : Hid ((rpC zs m x).length = m + 1) := Lib.hid (rpC_len _ _ _)
        have HV0 : Hid (rpV zs m x = u) := Lib.hid hv.out
        by_cases hu : u < 0
        · have E := Lib.hid (re_none HP.out HSB.out (by unfold reB; rw [HLM.out, HV0.out]; exact decide_eq_false (by omega)))
          have HBB := hb
          clear hz00
          go_wp2_with fail
          go_ret2
          exact AnsIC.empty (by rw [E.out.1]) (by rw [E.out.2]) (BC.out.trans (HBB.out.mono (by omega)))
        · have E := Lib.hid (re_yes HP.out HSB.out (by unfold reB; rw [HLM.out, HV0.out]; exact decide_eq_true (by omega)))
          clear hz00
          go_wp2_with fail
          go_ret2
          have hro := row_ownB HR3.out HLC.out (show w.heap.size ≤ wc.heap.size by omega) (by omega)
          exact AnsIC.mk' (by rw [E.out.1, HLM.out]) (by rw [E.out.2]) hro (BC.out.trans (HB3.out.mono (by omega)))
      | succ i =>
        have hi1 : i + 1 < zs.length := by rw [HL.out]; omega
        have HLV := Lib.hid (rc_level HP.out hi1 hdv.out)
        have hlv := HLV.out.1
        have HRA : Hid (rcL (dvA zs i) (gnA zs (i + 1)) u 64 = rcA zs i u) := Lib.hid rfl
        have HCS := Lib.hid (rpC_step zs i u)
        have HVS := Lib.hid (rpV_step zs i u)
        have HRR := Lib.hid (fun (j : Nat) (hj : j ≤ 64) => rc_range HP.out hi1 hj)
        have hdp := dvA_pos HP.out (i := i) (by omega)
        have hgp := gnA_pos HP.out (i := i + 1) hi1
        obtain ⟨d', e1, _, _, hcd, _⟩ := own_at OD.out HLD.out (show i < m + 1 by omega)
        cases e1
        obtain ⟨g', e1, _, _, hcg, _⟩ := own_at OG.out HLG.out (show i + 1 < m + 1 by omega)
        cases e1
        obtain ⟨cc, hcc⟩ : ∃ c, rcA zs i u = c := ⟨_, rfl⟩
        obtain ⟨dd, hdd⟩ : ∃ c, dvA zs i = c := ⟨_, rfl⟩
        obtain ⟨qq, hqq⟩ : ∃ c, gnA zs (i + 1) = c := ⟨_, rfl⟩
        rw [show (dvL 0 zs)[i]?.getD 0 = dd from hdd] at hcd
        rw [show (gnB zs)[i + 1]?.getD 0 = qq from hqq] at hcg
        rw [hdd, hqq, hcc] at HRA
        rw [hcc, hqq] at HCS HVS HLV
        rw [hcc] at hlv
        rw [hqq] at HRR hgp
        rw [hdd] at hdp
        have HDD := Lib.hid hdd
        have hdz : (dd == 0) = false := by simp; omega
        have hdz2 : ¬ dd = 0 := by omega
        have hin : (0 : Int) < (i : Int) + 1 := by omega
        have hin1 : (1 : Int) ≤ (i : Int) + 1 := by omega
        have h1n : i + 1 < m + 1 := by omega
        have h1ni : (i : Int) + 1 < (m : Int) + 1 := by omega
        have h0ni : (i : Int) < (m : Int) + 1 := by omega
        have h0n : i < m + 1 := by omega
        have h00 : (0 : Int) ≤ (i : Int) := by omega
        have h01 : (0 : Int) ≤ (i : Int) + 1 := by omega
        have h7 : ((i : Int) + 1).toNat = i + 1 := by omega
        have p1 : IntKind.i64.wrap ((i : Int) + 1 - 1) = (i : Int) := by rw [IntWalk.i64_in _ (by omega)]; omega
        have HROW := Lib.hid (hrow.out.congr (g := fun y => if y = i + 1 then .int .i64 ((0 : Nat) : Int) else if i + 1 < y then .int .i64 ((rpC zs m x).getD y 0) else .int .i64 0) (fun y hy => by
          by_cases h1 : y = i + 1
          · subst h1; simp
          · simp only [if_neg h1]))
        have HJ0 : Hid (0 + rcL dd qq u 64 = cc) := Lib.hid (by rw [Nat.zero_add]; exact HRA.out)
        have HY0 : Hid (u = u - ((0 : Nat) : Int) * qq) := Lib.hid (by simp)
        have HBR := hb
        have hPos := HRR.out cc (by omega)
        have HCQ : Hid (∀ j : Nat, j + 1 ≤ cc → ((j + 1 : Nat) : Int) * qq = (j : Int) * qq + qq ∧ ((j + 1 : Nat) : Int) * qq ≤ (cc : Int) * qq) := Lib.hid (fun j hj => ⟨by push_cast; rw [Int.add_mul]; omega, Int.mul_le_mul_of_nonneg_right (by omega) (by omega)⟩)
        clear hcc hdd hqq hrow hb
        go_wp2_with fail
        go_loopw [1] (fun vv wi => ∃ (j f : Nat) (y : Int), j + f = 64 ∧ j ≤ cc ∧ Hid (y = u - (j : Int) * qq) ∧ vv = .int .i64 y ∧ Hid (j + rcL dd qq y f = cc) ∧ Hid (wi.rowIs wc.heap.size 2 (m + 1) (fun y => if y = i + 1 then .int .i64 (j : Int) else if i + 1 < y then .int .i64 ((rpC zs m x).getD y 0) else .int .i64 0)) ∧ Hid (Below wc.heap.size WC wi)) (fun vv _ => (intOf vv - (u - (cc : Int) * qq)).toNat)
        case atStart => exact ⟨0, 64, u, rfl, by omega, HY0, rfl, HJ0, HROW, HBR⟩
        case round =>
          obtain ⟨j, f, y, hjf, hjc, hy, rfl, hcn, hri, hbi⟩ := hrel
          have hszi := hbi.out.size
          have hcdi : wr.cell? ⟨d, i, none⟩ = some (.int .i64 dd) := (hbi.out.cell (p := ⟨d, i, none⟩) hdw).trans hcd
          have hcgi : wr.cell? ⟨gg, i + 1, none⟩ = some (.int .i64 qq) := (hbi.out.cell (p := ⟨gg, i + 1, none⟩) hggw).trans hcg
          have hjr := HRR.out j (by omega)
          have hyr : -(8192000 * ((m : Int) - (i : Int))) ≤ y ∧ y ≤ 20000 := by have := hy.out; omega
          have hwp : IntKind.i64.wrap (y.tmod dd) = y.tmod dd := IntWalk.i64_in _ (by have h1 := Int.natAbs_tmod y dd; have h2 : y.natAbs % dd.natAbs ≤ y.natAbs := Nat.mod_le _ _; omega)
          have hdst := hri.out.cell h1n
          simp only [if_true] at hdst
          have hfz := hri.out.frozen (i + 1)
          by_cases h0 : y.tmod dd = 0
          · have hjcc : j = cc := by have := hcn.out; rw [rcL_zero h0] at this; omega
            subst hjcc
            have hb0 : (y.tmod dd != 0) = false := by simp [h0]
            have HU : Hid (u - (j : Int) * qq = y) := Lib.hid hy.out.symm
            have HT2 : Hid ((((j : Int) :: T) : List Int).length + i = m) := Lib.hid (by have := hT.out; simp; omega)
            have HC2 : Hid (rpC zs m x = rpC zs i y ++ ((j : Int) :: T)) := Lib.hid (by rw [hC.out, HCS.out, HU.out]; simp)
            have HD2 : Hid (dvA zs i ∣ y) := Lib.hid (by rw [← HU.out]; exact HLV.out.2.2)
            have HV2 : Hid (rpV zs m x = rpV zs i y) := Lib.hid (by rw [hv.out, HVS.out, HU.out])
            have HR2 := Lib.hid (hri.out.congr (g := fun y' => if i < y' then .int .i64 ((rpC zs m x).getD y' 0) else .int .i64 0) (fun y' hy' => by
              by_cases h1 : y' = i + 1
              · subst h1
                have h3 : (rpC zs m x).getD (i + 1) 0 = (j : Int) := by
                  rw [HC2.out, List.getD, List.getElem?_append_right (by rw [rpC_len]; omega), rpC_len]; simp
                simp only [if_true, show i < i + 1 by omega, h3]
              · by_cases h2 : i + 1 < y'
                · simp only [if_neg h1, if_pos h2, if_pos (show i < y' by omega)]
                · simp only [if_neg h1, if_neg h2, if_neg (show ¬ i < y' by omega)]))
            clear h0 hjr
            go_wp2_with fail
            go_roundw
            case rel => exact ⟨i, y, (j : Int) :: T, by omega, rfl, by go_num, by omega, HD2, HV2, HT2, HC2, HR2, hbi⟩
            case measure => first | (simp [intOf]; done) | (simp [intOf]; omega)
          · obtain ⟨f', rfl, hnx⟩ := rc_inner (v := u) HRA.out (by have := hcn.out; rw [hy.out] at this; exact this) hjf (by omega) (by rw [← hy.out]; exact h0)
            have hb0 : (y.tmod dd != 0) = true := by simp [h0]
            have hj1 : j + 1 ≤ cc := by omega
            have hq := HCQ.out j hj1
            have HY1 : Hid (y - qq = u - ((j + 1 : Nat) : Int) * qq) := Lib.hid (by have := hy.out; omega)
            have HN1 : Hid ((j + 1) + rcL dd qq (y - qq) f' = cc) := Lib.hid (by rw [HY1.out]; exact hnx)
            have hyy := hy.out
            have p2 : IntKind.i64.wrap (y - qq) = y - qq := IntWalk.i64_in _ (by omega)
            have p3 : IntKind.i64.wrap ((j : Int) + 1) = (j : Int) + 1 := IntWalk.i64_in _ (by omega)
            have hms : (y - qq - (u - (cc : Int) * qq)).toNat < (y - (u - (cc : Int) * qq)).toNat := by omega
            clear h0 hjr hyy hq hnx
            go_wp2_with fail
            go_roundw
            case rel =>
              refine ⟨j + 1, f', y - qq, by omega, hj1, HY1, rfl, HN1, Lib.hid ((hri.out.set (i + 1) (.int .i64 ((j : Int) + 1))).congr fun y' hy' => ?_), Lib.hid (hbi.out.setCell (p := ⟨wc.heap.size, i + 1, none⟩) (Nat.le_refl _) _)⟩
              by_cases h1 : y' = i + 1
              · subst h1; simp
              · simp only [if_neg h1]
            case measure => simp only [intOf]; exact hms

theorem semi_if (x : Int) (b : Bool) (w : World) (hb : semiB x = b) :
    Calls Try.prog 104 #[.int .i64 x] w fun e w' => e = .returned (.bool b) ∧ w = w' := by
  subst hb
  unfold semiB
  by_cases h0 : 0 ≤ x
  · by_cases h1 : x ≤ 20000
    · have e : decide (0 ≤ x ∧ x ≤ 20000) = true := decide_eq_true ⟨h0, h1⟩
      rw [e]
      go_enter Try.func104, Try.ntmps104
      go_wp2
      go_ret
      exact ⟨rfl, rfl⟩
    · have e : decide (0 ≤ x ∧ x ≤ 20000) = false := decide_eq_false (by omega)
      rw [e]
      go_enter Try.func104, Try.ntmps104
      go_wp2
      go_ret
      exact ⟨rfl, rfl⟩
  · have e : decide (0 ≤ x ∧ x ≤ 20000) = false := decide_eq_false (by omega)
    rw [e]
    go_enter Try.func104, Try.ntmps104
    go_wp2
    go_ret
    exact ⟨rfl, rfl⟩

set_option maxRecDepth 100000 in
set_option maxHeartbeats 2000000 in
theorem implRepresentationOf_any (v : Value) (zs : List Int) (x : Int) (w : World) (h : ReadI w w.heap.size v zs) (hn : zs.length ≤ 1048576) (hw : ∀ z ∈ zs, (Lit.int .i64 z).wf = true) (hwx : (Lit.int .i64 x).wf = true) :
    Calls Try.prog 52 #[.agg #[v], .int .i64 x] w (AnsIC w (reA zs x) (reC zs x)) := by
  have HWW := Lib.hid hw
  have HN0 := Lib.hid hn
  rcases bool_fs (brB zs) with hp | hp
  · have E := Lib.hid (re_no (v := x) hp)
    have HP := Lib.hid hp
    obtain ⟨n, A, c, rfl, hr, HL, _, hnc, HF, hcm⟩ := h.split2
    obtain ⟨W0, HE⟩ : ∃ W, W = w.alloc (.cells #[.slice A n c] 26) := ⟨_, rfl⟩
    have hb0 : Below w.heap.size w W0 := by rw [HE]; exact below_box _ _
    have H0 := Lib.hid ((h.below hb0).more hb0.size)
    have HEQ := Lib.hid HE
    clear h hr HE HF hn hw hp hwx
    go_enter Try.func52, Try.ntmps52
    go_wp2_with fail
    rw [← HEQ.out]
    refine (implIsBranch_if _ zs _ false H0.out HN0.out HWW.out HP.out).mono ?_
    rintro e w1 ⟨rfl, hb1⟩
    go_wp2_with fail
    go_ret2
    exact AnsIC.empty (by rw [E.out.1]) (by rw [E.out.2]) (hb0.trans (hb1.mono hb0.size))
  have HP := Lib.hid hp
  rcases bool_fs (semiB x) with hsb | hsb
  · have E := Lib.hid (re_out hp hsb)
    have HSB := Lib.hid hsb
    obtain ⟨n, A, c, rfl, hr, HL, _, hnc, HF, hcm⟩ := h.split2
    obtain ⟨W0, HE⟩ : ∃ W, W = w.alloc (.cells #[.slice A n c] 26) := ⟨_, rfl⟩
    have hb0 : Below w.heap.size w W0 := by rw [HE]; exact below_box _ _
    have H0 := Lib.hid ((h.below hb0).more hb0.size)
    have HEQ := Lib.hid HE
    clear h hr HE HF hn hw hp hwx hsb
    go_enter Try.func52, Try.ntmps52
    go_wp2_with fail
    rw [← HEQ.out]
    refine (implIsBranch_if _ zs _ true H0.out HN0.out HWW.out HP.out).mono ?_
    rintro e w1 ⟨rfl, hb1⟩
    have B1 := Lib.hid (hb0.trans (hb1.mono hb0.size))
    clear hb1 hb0
    go_wp2_with fail
    refine (semi_if x false w1 HSB.out).mono ?_
    rintro e w' ⟨rfl, rfl⟩
    go_wp2_with fail
    go_ret2
    exact AnsIC.empty (by rw [E.out.1]) (by rw [E.out.2]) B1.out
  have HSB := Lib.hid hsb
  have hx := semiB_yes hsb
  have HPP := Lib.hid hp
  obtain ⟨n, A, c, rfl, hr, HL, _, hnc, HF, hcm⟩ := h.split2
  obtain ⟨W0, HE⟩ : ∃ W, W = w.alloc (.cells #[.slice A n c] 26) := ⟨_, rfl⟩
  have hb0 : Below w.heap.size w W0 := by rw [HE]; exact below_box _ _
  have hq0 : BoxI W0 w.heap.size (.slice A n c) := by rw [HE]; exact BoxI.new _ _ _
  have H0 := Lib.hid ((h.below hb0).more hb0.size)
  have HNN := Lib.hid hn
  have HWW2 := Lib.hid hw
  have HEQ := Lib.hid HE
  clear h hr HE HF hn hw hp hwx
  go_enter Try.func52, Try.ntmps52
  go_wp2_with fail
  rw [← HEQ.out]
  refine (implIsBranch_if _ zs _ true H0.out HNN.out HWW2.out HPP.out).mono ?_
  rintro e w1 ⟨rfl, hb1⟩
  have cb1 : w1.cell? ⟨w.heap.size, 0, none⟩ = some (.slice A n c) := by rw [hb1.cell (p := ⟨w.heap.size, 0, none⟩) hq0.2]; exact hq0.1
  have H1 := Lib.hid ((H0.out.below hb1).more hb1.size)
  have B1 := Lib.hid (hb0.trans (hb1.mono hb0.size))
  clear hb1 hb0 HEQ
  go_wp2_with fail
  refine (semi_if x true w1 HSB.out).mono ?_
  rintro e w' ⟨rfl, rfl⟩
  go_wp2_with fail
  refine (representation_any _ zs x w1 H1.out HNN.out HPP.out hx).mono ?_
  rintro e w2 ⟨v2, rfl, ho2, hb2⟩
  obtain ⟨A2, c2, rfl⟩ := own_form ho2.1
  have HO2 := Lib.hid (own_lessB ho2 (lo' := w.heap.size) B1.out.size)
  have B2 := Lib.hid (B1.out.trans (hb2.mono B1.out.size))
  clear ho2 hb2
  rcases bool_fs (reB zs x) with hre | hre
  · have E := Lib.hid (re_none HPP.out HSB.out hre)
    rw [hre]
    clear hre
    go_wp2_with fail
    go_ret2
    exact AnsIC.empty (by rw [E.out.1]) (by rw [E.out.2]) B2.out
  · have E := Lib.hid (re_yes HPP.out HSB.out hre)
    rw [hre]
    clear hre
    go_wp2_with fail
    go_ret2
    exact AnsIC.mk' (by rw [E.out.1]) (by rw [E.out.2]) HO2.out B2.out
end Go.Proofs.Ytjgidalmgoifgaa
/- Values of semigroups: plain mathematics of chapter 5. Conditions: stated at each theorem. -/
namespace Go.Proofs.Ytjgidalmgoifgaa
set_option linter.unusedVariables false

/-- The number n(i + 1). -/
def nnA (zs : List Int) (i : Nat) : Int := (dvA zs i).tdiv (dvA zs (i + 1))
theorem nnA_mul {zs : List Int} (hp : brB zs = true) {i : Nat} (h : i + 1 < zs.length) : nnA zs i * dvA zs (i + 1) = dvA zs i := tdiv_mul_of_dvd (dvA_dvd hp h).1
theorem nnA_pos {zs : List Int} (hp : brB zs = true) {i : Nat} (h : i + 1 < zs.length) : 1 ≤ nnA zs i ∧ nnA zs i ≤ 64 := by
  have h1 := nnA_mul hp h
  have h2 := dvA_pos hp (i := i) (by omega)
  have h3 := dvA_pos hp h
  generalize nnA zs i = q at *
  generalize dvA zs i = e at *
  generalize dvA zs (i + 1) = d at *
  have hq : 1 ≤ q := by
    by_cases h : 1 ≤ q
    · exact h
    · have : q * d ≤ 0 * d := Int.mul_le_mul_of_nonneg_right (by omega) (by omega)
      omega
  have : q * 1 ≤ q * d := Int.mul_le_mul_of_nonneg_left h3.1 (by omega)
  omega
/-- Generators grow by more than the factors. -/
theorem gn_grow {zs : List Int} (hp : brB zs = true) {i : Nat} (h : i + 2 < zs.length) : nnA zs i * gnA zs (i + 1) < gnA zs (i + 2) := by
  obtain ⟨L, e, s, h1, h2, h3, h4⟩ := gn_state hp (i + 1) (by omega)
  rw [if_neg (by omega), Nat.add_sub_cancel] at h4
  have h5 : gnA zs (i + 1) = zs[i + 1]?.getD 0 + s := by
    show (gnB zs)[i + 1]?.getD 0 = _
    rw [h2, drop_at rfl (show i + 1 < zs.length by omega)]
    simp [gnL, ← h1]
  have h7 := gn_step rfl (show i + 1 < zs.length by omega) h2
  have h8 : gnA zs (i + 2) = zs[i + 2]?.getD 0 + (e.tdiv (Int.gcd e (zs[i + 1]?.getD 0) : Int) * (zs[i + 1]?.getD 0 + s) - zs[i + 1]?.getD 0) := by
    show (gnB zs)[i + 2]?.getD 0 = _
    rw [h7, drop_at rfl h]
    simp only [gnL]
    rw [List.getElem?_append_right (by simp [h1])]
    simp [h1]
  have h9 : (Int.gcd e (zs[i + 1]?.getD 0) : Int) = dvA zs (i + 1) := by
    have h6 := dv_at (e := 0) (zs := zs) (i := i + 1) (by omega)
    rw [if_neg (by omega), Nat.add_sub_cancel] at h6
    rw [h4]; exact h6.symm
  have h10 := br_next hp h (by omega)
  rw [show i + 2 - 1 = i + 1 by omega] at h10
  rw [h9, ← h5, h4] at h8
  rw [h8]
  show nnA zs i * gnA zs (i + 1) < _
  unfold nnA
  omega
/-- v is a sum of the generators 0, .., i with the numbers bounded as they are in representations. -/
def SmT (zs : List Int) : Nat → Int → Prop
  | 0, v => dvA zs 0 ∣ v ∧ 0 ≤ v
  | i + 1, v => ∃ c : Nat, (c : Int) < nnA zs i ∧ SmT zs i (v - (c : Int) * gnA zs (i + 1))
theorem SmT.le {zs : List Int} (hp : brB zs = true) : ∀ {i : Nat} {v : Int}, i < zs.length → SmT zs i v → dvA zs i ∣ v ∧ 0 ≤ v
  | 0, v, _, h => h
  | i + 1, v, hi, ⟨c, hc, h⟩ => by
    have h1 := SmT.le hp (by omega) h
    have h2 := gnA_pos hp hi
    have h3 := dvA_dvd hp hi
    have h4 : 0 ≤ (c : Int) * gnA zs (i + 1) := Int.mul_nonneg (by omega) (by omega)
    refine ⟨?_, by omega⟩
    have h5 : dvA zs (i + 1) ∣ (v - (c : Int) * gnA zs (i + 1)) + (c : Int) * gnA zs (i + 1) := Int.dvd_add (Int.dvd_trans h3.1 h1.1) (Int.dvd_trans h3.2 (Int.dvd_mul_left _ _))
    rwa [Int.sub_add_cancel] at h5
/-- The least count is the count that is less than n(i + 1). -/
theorem rcA_lt {zs : List Int} (hp : brB zs = true) {i : Nat} (h : i + 1 < zs.length) {v : Int} (hd : dvA zs (i + 1) ∣ v) : (rcA zs i v : Int) < nnA zs i := by
  have h1 := dvA_pos hp (i := i) (by omega)
  have h2 := gnA_pos hp (i := i + 1) h
  have hn := nnA_pos hp h
  have hm := nnA_mul hp h
  obtain ⟨c, hc, hce, hcd⟩ := rc_exists (e := dvA zs i) (g := gnA zs (i + 1)) (v := v) h1 (by omega) (by rw [gn_gcd hp h]; exact hd)
  have hx0 : 0 ≤ (c : Int) % nnA zs i := Int.emod_nonneg _ (by omega)
  have hx1 : (c : Int) % nnA zs i < nnA zs i := Int.emod_lt_of_pos _ (by omega)
  have hxx : ((((c : Int) % nnA zs i).toNat : Nat) : Int) = (c : Int) % nnA zs i := by omega
  have h3 : dvA zs i ∣ v - ((((c : Int) % nnA zs i).toNat : Nat) : Int) * gnA zs (i + 1) := by
    rw [hxx]
    have he := Int.mul_ediv_add_emod (c : Int) (nnA zs i)
    obtain ⟨k, hk⟩ := (dvA_dvd hp h).2
    obtain ⟨m, hm2⟩ := hcd
    refine ⟨m + (c : Int) / nnA zs i * k, ?_⟩
    generalize (c : Int) / nnA zs i = q at *
    generalize (c : Int) % nnA zs i = x at *
    generalize nnA zs i = n at *
    generalize gnA zs (i + 1) = g at *
    generalize dvA zs i = e at *
    generalize dvA zs (i + 1) = d at *
    grind
  have h4 := rcL_end (f := 64) (by omega) h3
  show (rcL _ _ _ 64 : Int) < _
  omega
theorem rcA_is {zs : List Int} (hp : brB zs = true) {i : Nat} (h : i + 1 < zs.length) {v : Int} {c : Nat} (hc : (c : Int) < nnA zs i) (hd : dvA zs i ∣ v - (c : Int) * gnA zs (i + 1)) : rcA zs i v = c := by
  have h1 := dvA_pos hp (i := i) (by omega)
  have hd1 := dvA_pos hp h
  have h2 := gnA_pos hp (i := i + 1) h
  have hn := nnA_pos hp h
  have hm := nnA_mul hp h
  have h4 := rcL_end (f := 64) (by omega) hd
  have h5 : rcL (dvA zs i) (gnA zs (i + 1)) v 64 = rcA zs i v := rfl
  rw [h5] at h4
  obtain ⟨h4, h6⟩ := h4
  obtain ⟨k, hk⟩ : dvA zs i ∣ ((c : Int) - (rcA zs i v : Int)) * gnA zs (i + 1) := by
    have h7 := Int.dvd_sub h6 hd
    have e1 : v - (rcA zs i v : Int) * gnA zs (i + 1) - (v - (c : Int) * gnA zs (i + 1)) = ((c : Int) - (rcA zs i v : Int)) * gnA zs (i + 1) := by rw [Int.sub_mul]; omega
    rwa [e1] at h7
  obtain ⟨a, b, hb⟩ := bezI (e := dvA zs i) (g := gnA zs (i + 1)) (by omega) (by omega)
  rw [gn_gcd hp h] at hb
  have h8 : nnA zs i ∣ (c : Int) - (rcA zs i v : Int) := by
    refine Int.dvd_of_mul_dvd_mul_right (a := dvA zs (i + 1)) (by omega) ?_
    rw [hm, hb]
    generalize (c : Int) - (rcA zs i v : Int) = x at *
    refine ⟨x * a + k * b, ?_⟩
    grind
  have h9 : (c : Int) - (rcA zs i v : Int) = 0 := by
    by_cases h0 : (c : Int) - (rcA zs i v : Int) = 0
    · exact h0
    · have := Int.le_of_dvd (by omega) h8
      omega
  omega
/-- Representations by counts are representations as such. -/
theorem SmT_iff {zs : List Int} (hp : brB zs = true) : ∀ {i : Nat} {v : Int}, i < zs.length → dvA zs i ∣ v → (SmT zs i v ↔ 0 ≤ rpV zs i v)
  | 0, v, _, hd => by simp [SmT, rpV, hd]
  | i + 1, v, hi, hd => by
    rw [rpV_step]
    have hl := rc_level hp hi hd
    have ih := SmT_iff hp (i := i) (v := v - (rcA zs i v : Int) * gnA zs (i + 1)) (by omega) hl.2.2
    constructor
    · rintro ⟨c, hc, h⟩
      have h1 := (SmT.le hp (by omega) h).1
      have h2 := rcA_is hp hi hc h1
      rw [← h2] at h
      exact ih.1 h
    · intro h
      exact ⟨rcA zs i v, rcA_lt hp hi hd, ih.2 h⟩
/-- What is taken away is less than the next generator. -/
theorem rpV_low {zs : List Int} (hp : brB zs = true) : ∀ {i : Nat} {v : Int}, i + 1 < zs.length → dvA zs i ∣ v → v - gnA zs (i + 1) ≤ rpV zs i v
  | 0, v, hi, _ => by have := gnA_pos hp hi; show _ ≤ v; omega
  | i + 1, v, hi, hd => by
    rw [rpV_step]
    have hl := rc_level hp (i := i) (by omega) hd
    have h1 := rpV_low hp (i := i) (v := v - (rcA zs i v : Int) * gnA zs (i + 1)) (by omega) hl.2.2
    have h2 := rcA_lt hp (i := i) (by omega) hd
    have h3 : nnA zs i * gnA zs (i + 1) < gnA zs (i + 1 + 1) := gn_grow hp hi
    have h4 := gnA_pos hp (i := i + 1) (by omega)
    have h5 : ((rcA zs i v : Int) + 1) * gnA zs (i + 1) ≤ nnA zs i * gnA zs (i + 1) := Int.mul_le_mul_of_nonneg_right (by omega) (by omega)
    rw [Int.add_mul] at h5
    omega
/-- Closed under adding. -/
theorem SmT_mul {zs : List Int} (hp : brB zs = true) {i : Nat} (hi : i + 1 < zs.length) : SmT zs i (nnA zs i * gnA zs (i + 1)) := by
  have h1 : dvA zs i ∣ nnA zs i * gnA zs (i + 1) := by
    rw [← nnA_mul hp hi]
    exact Int.mul_dvd_mul (Int.dvd_refl _) (dvA_dvd hp hi).2
  refine (SmT_iff hp (by omega) h1).2 ?_
  have h2 := rpV_low hp hi h1
  have h3 := gnA_pos hp hi
  have h4 : 1 * gnA zs (i + 1) ≤ nnA zs i * gnA zs (i + 1) := Int.mul_le_mul_of_nonneg_right (nnA_pos hp hi).1 (by omega)
  omega
theorem SmT_sum {zs : List Int} (hp : brB zs = true) {i : Nat} (hi : i < zs.length) (hc : ∀ j, j ≤ i → ∀ u, SmT zs i u → SmT zs i (u + gnA zs j)) :
    ∀ {k : Nat} {a : Int}, k ≤ i → SmT zs k a → ∀ u, SmT zs i u → SmT zs i (u + a)
  | 0, a, _, ha, u, hu => by
    obtain ⟨⟨m, rfl⟩, h0⟩ := ha
    have h1 := dvA_pos hp (i := 0) (by omega)
    have hm : 0 ≤ m := by
      by_cases h : 0 ≤ m
      · exact h
      · have : dvA zs 0 * m ≤ dvA zs 0 * (-1) := Int.mul_le_mul_of_nonneg_left (by omega) (by omega)
        omega
    have hg : gnA zs 0 = dvA zs 0 := by
      rw [dvA_first hp]
      show (gnB zs)[0]?.getD 0 = _
      cases zs with
      | nil => simp at hi
      | cons z r => simp [gnB, gnL]
    obtain ⟨t, rfl⟩ : ∃ t : Nat, m = (t : Int) := ⟨m.toNat, by omega⟩
    clear h0 hm
    induction t with
    | zero => simpa using hu
    | succ t ih =>
      have h2 := hc 0 (by omega) _ ih
      rw [hg] at h2
      have e1 : u + dvA zs 0 * ((t + 1 : Nat) : Int) = u + dvA zs 0 * (t : Int) + dvA zs 0 := by push_cast; rw [Int.mul_add]; omega
      rw [e1]; exact h2
  | k + 1, a, hk, ⟨c, _, ha⟩, u, hu => by
    have h1 := SmT_sum hp hi hc (by omega) ha u hu
    have h2 : ∀ t : Nat, SmT zs i (u + (a - (c : Int) * gnA zs (k + 1)) + (t : Int) * gnA zs (k + 1)) := by
      intro t
      induction t with
      | zero => simpa using h1
      | succ t ih =>
        have h3 := hc (k + 1) hk _ ih
        have e1 : u + (a - (c : Int) * gnA zs (k + 1)) + ((t + 1 : Nat) : Int) * gnA zs (k + 1) = u + (a - (c : Int) * gnA zs (k + 1)) + (t : Int) * gnA zs (k + 1) + gnA zs (k + 1) := by push_cast; rw [Int.add_mul]; omega
        rw [e1]; exact h3
    have h4 := h2 c
    have e2 : u + (a - (c : Int) * gnA zs (k + 1)) + (c : Int) * gnA zs (k + 1) = u + a := by omega
    rwa [e2] at h4
theorem SmT_add {zs : List Int} (hp : brB zs = true) : ∀ {i : Nat}, i < zs.length → ∀ j, j ≤ i → ∀ u, SmT zs i u → SmT zs i (u + gnA zs j)
  | 0, hi, j, hj, u, hu => by
    obtain rfl : j = 0 := by omega
    have hg : gnA zs 0 = dvA zs 0 := by
      rw [dvA_first hp]
      show (gnB zs)[0]?.getD 0 = _
      cases zs with
      | nil => simp at hi
      | cons z r => simp [gnB, gnL]
    have h1 := dvA_pos hp hi
    exact ⟨by rw [hg]; exact Int.dvd_add hu.1 (Int.dvd_refl _), by have := hu.2; omega⟩
  | i + 1, hi, j, hj, u, ⟨c, hc, hu⟩ => by
    have ih := SmT_add hp (i := i) (by omega)
    by_cases hji : j ≤ i
    · refine ⟨c, hc, ?_⟩
      have e1 : u + gnA zs j - (c : Int) * gnA zs (i + 1) = u - (c : Int) * gnA zs (i + 1) + gnA zs j := by omega
      rw [e1]; exact ih j hji _ hu
    · obtain rfl : j = i + 1 := by omega
      by_cases hcn : ((c + 1 : Nat) : Int) < nnA zs i
      · refine ⟨c + 1, hcn, ?_⟩
        have e1 : u + gnA zs (i + 1) - ((c + 1 : Nat) : Int) * gnA zs (i + 1) = u - (c : Int) * gnA zs (i + 1) := by push_cast; rw [Int.add_mul]; omega
        rw [e1]; exact hu
      · have hn := nnA_pos hp hi
        refine ⟨0, by push_cast; omega, ?_⟩
        have h1 := SmT_sum hp (by omega) ih (Nat.le_refl i) (SmT_mul hp hi) _ hu
        have e0 : nnA zs i = (c : Int) + 1 := by push_cast at hcn; omega
        have e1 : u - (c : Int) * gnA zs (i + 1) + nnA zs i * gnA zs (i + 1) = u + gnA zs (i + 1) - ((0 : Nat) : Int) * gnA zs (i + 1) := by rw [e0, Int.add_mul]; simp; omega
        rwa [e1] at h1
/-- A value that is not 0 is that of a generator more than another one. -/
theorem SmT_sub {zs : List Int} (hp : brB zs = true) : ∀ {i : Nat} {v : Int}, i < zs.length → 1 ≤ v → SmT zs i v → ∃ j, j ≤ i ∧ SmT zs i (v - gnA zs j)
  | 0, v, hi, hv, ⟨hd, h0⟩ => by
    have hg : gnA zs 0 = dvA zs 0 := by
      rw [dvA_first hp]
      show (gnB zs)[0]?.getD 0 = _
      cases zs with
      | nil => simp at hi
      | cons z r => simp [gnB, gnL]
    have h1 := Int.le_of_dvd (by omega) hd
    exact ⟨0, by omega, by rw [hg]; exact ⟨Int.dvd_sub hd (Int.dvd_refl _), by omega⟩⟩
  | i + 1, v, hi, hv, ⟨c, hc, hu⟩ => by
    cases c with
    | zero =>
      have e0 : v - ((0 : Nat) : Int) * gnA zs (i + 1) = v := by simp
      rw [e0] at hu
      obtain ⟨j, hj, h⟩ := SmT_sub hp (by omega) hv hu
      refine ⟨j, by omega, 0, hc, ?_⟩
      have e1 : v - gnA zs j - ((0 : Nat) : Int) * gnA zs (i + 1) = v - gnA zs j := by simp
      rw [e1]; exact h
    | succ c =>
      refine ⟨i + 1, by omega, c, by push_cast at hc; omega, ?_⟩
      have e1 : v - gnA zs (i + 1) - (c : Int) * gnA zs (i + 1) = v - ((c + 1 : Nat) : Int) * gnA zs (i + 1) := by push_cast; rw [Int.add_mul]; omega
      rw [e1]; exact hu
/-- Representable numbers. -/
theorem reB_iff {zs : List Int} (hp : brB zs = true) (v : Int) : reB zs v = true ↔ SmT zs (zs.length - 1) v := by
  have h0 := brB_pos hp
  have h1 : dvA zs (zs.length - 1) ∣ v := by rw [dvA_last hp]; exact Int.one_dvd v
  rw [SmT_iff hp (by omega) h1]
  simp [reB]
theorem reB_zero {zs : List Int} (hp : brB zs = true) : reB zs 0 = true := by
  rw [reB_iff hp]
  have : ∀ i, i < zs.length → SmT zs i 0 := by
    intro i
    induction i with
    | zero => intro _; exact ⟨Int.dvd_zero _, by omega⟩
    | succ i ih => intro hi; exact ⟨0, by have := nnA_pos hp hi; push_cast; omega, by simpa using ih (by omega)⟩
  exact this _ (by have := brB_pos hp; omega)
theorem reB_neg {zs : List Int} (hp : brB zs = true) {v : Int} (h : v < 0) : reB zs v = false := by
  cases hb : reB zs v
  · rfl
  · rw [reB_iff hp] at hb
    have := SmT.le hp (by have := brB_pos hp; omega) hb
    omega
/-- The values are 0 and the values with a generator more. -/
theorem reB_step {zs : List Int} (hp : brB zs = true) {v : Int} (hv : 1 ≤ v) : reB zs v = true ↔ ∃ i, i < zs.length ∧ gnA zs i ≤ v ∧ reB zs (v - gnA zs i) = true := by
  have h0 := brB_pos hp
  constructor
  · intro h
    rw [reB_iff hp] at h
    obtain ⟨j, hj, h⟩ := SmT_sub hp (by omega) hv h
    have := SmT.le hp (by omega) h
    exact ⟨j, by omega, by omega, (reB_iff hp _).2 h⟩
  · rintro ⟨i, hi, _, h⟩
    rw [reB_iff hp] at h ⊢
    have := SmT_add hp (by omega) i (by omega) _ h
    rwa [Int.sub_add_cancel] at this
/-- Whether one of the first k generators leads to v. -/
def vaO (zs : List Int) (v : Int) : Nat → Bool
  | 0 => false
  | k + 1 => vaO zs v k || (decide (gnA zs k ≤ v) && reB zs (v - gnA zs k))
theorem vaO_iff {zs : List Int} {v : Int} {k : Nat} : vaO zs v k = true ↔ ∃ i, i < k ∧ gnA zs i ≤ v ∧ reB zs (v - gnA zs i) = true := by
  induction k with
  | zero => simp [vaO]
  | succ k ih =>
    simp only [vaO, Bool.or_eq_true, ih, Bool.and_eq_true, decide_eq_true_eq]
    constructor
    · rintro (⟨i, h1, h2⟩ | h)
      · exact ⟨i, by omega, h2⟩
      · exact ⟨k, by omega, h⟩
    · rintro ⟨i, h1, h2⟩
      by_cases hi : i = k
      · subst hi; exact .inr h2
      · exact .inl ⟨i, by omega, h2⟩
theorem vaO_end {zs : List Int} (hp : brB zs = true) {v : Int} (hv : 1 ≤ v) : vaO zs v zs.length = reB zs v := by
  have h1 := reB_step hp hv
  have h2 := vaO_iff (zs := zs) (v := v) (k := zs.length)
  cases h : reB zs v
  · cases h3 : vaO zs v zs.length
    · rfl
    · rw [h2, ← h1] at h3; rw [h3] at h; cases h
  · rw [h1] at h; exact h2.2 h
end Go.Proofs.Ytjgidalmgoifgaa
/- The list of values of the model: contract of spec.l05Values. Conditions: stated at each theorem. -/
namespace Go.Proofs.Ytjgidalmgoifgaa
open Go.ChangeShapes Go.WideShapes Go.ChangeAt Go.RowKit Go.Deep
set_option linter.unusedVariables false
set_option linter.unusedSimpArgs false

theorem bool_info : (Try.prog.info? 4).map (fun i => (i.zero, i.size, i.bytes)) = some (some (.bool false), 1, 1) := by kernel_rfl
theorem keptS2 {lo hi : Nat} (w : World) {p : Addr} (h : ¬ (lo ≤ p.block ∧ p.block < hi)) (u : Value) : Kept lo hi w (w.setCell p u) :=
  ⟨by simp [World.setCell], fun b h1 h2 => Below.heap_setCell w p u b (fun e => h ⟨by omega, by omega⟩)⟩
/-- What the first statement leaves: the generators, and a list of false. -/
def VaCut (W0 : World) (zs : List Int) (n m : Nat) (wc : World) (s5 s6 : Value) : Prop :=
  ∃ gg cg go, s5 = .slice (some ⟨gg, 0, none⟩) n cg ∧ s6 = .slice (some ⟨go, 0, none⟩) (m + 1) (m + 1) ∧ OwnI wc gg (gg + 1) (.slice (some ⟨gg, 0, none⟩) n cg) (gnB zs) ∧ wc.rowIs go 4 (m + 1) (fun _ => .bool false) ∧
    (gg ≠ go ∧ W0.heap.size ≤ gg ∧ W0.heap.size ≤ go ∧ go < wc.heap.size ∧ gg < wc.heap.size) ∧ Below W0.heap.size W0 wc
theorem va_cut1 {W0 W1 : World} {zs : List Int} {n m gg cg : Nat} (ho : OwnI W1 W0.heap.size W1.heap.size (.slice (some ⟨gg, 0, none⟩) n cg) (gnB zs)) (h1 : W0.heap.size ≤ gg) (h2 : gg < W1.heap.size) (hb : Below W0.heap.size W0 W1) :
    VaCut W0 zs n m (W1.alloc (.cells (madeCells #[.bool false] (m + 1)) 4)) (.slice (some ⟨gg, 0, none⟩) n cg) (.slice (some ⟨W1.heap.size, 0, none⟩) (m + 1) (m + 1)) := by
  refine ⟨gg, cg, W1.heap.size, rfl, rfl, ?_, World.rowIs_made W1 _ (m + 1) _, ⟨by omega, h1, hb.size, by simp, by simp; omega⟩, hb.trans ((below_box2 _ _).mono hb.size)⟩
  exact (own_tight ho h2).kept (Kept.of_below (below_box2 _ _) (by omega))
theorem va_cut2 {W0 W1 : World} {zs : List Int} {n m gg cg : Nat} (ho : OwnI W1 (W0.heap.size + 1) W1.heap.size (.slice (some ⟨gg, 0, none⟩) n cg) (gnB zs)) (h1 : W0.heap.size + 1 ≤ gg) (h2 : gg < W1.heap.size) (hb : Below (W0.heap.size + 1) (W0.alloc (.cells (madeCells #[.bool false] (m + 1)) 4)) W1) :
    VaCut W0 zs n m W1 (.slice (some ⟨gg, 0, none⟩) n cg) (.slice (some ⟨W0.heap.size, 0, none⟩) (m + 1) (m + 1)) := by
  have hs := hb.size
  have e1 : (W0.alloc (.cells (madeCells #[.bool false] (m + 1)) 4)).heap.size = W0.heap.size + 1 := by simp
  refine ⟨gg, cg, W0.heap.size, rfl, rfl, own_tight ho h2, ?_, ⟨by omega, by omega, Nat.le_refl _, by omega, h2⟩, (below_box2 _ _).trans (hb.mono (by omega))⟩
  obtain ⟨c, hc, hh⟩ := World.rowIs_made W0 (.bool false) (m + 1) 4
  exact ⟨c, (hb.block _ (by omega)).trans hc, hh⟩
/-- What l05Values leaves. -/
def VaAns (w : World) (zs : List Int) (m : Nat) (e : Ending) (w' : World) : Prop :=
  ∃ g, e = .returned (.slice (some ⟨g, 0, none⟩) (m + 1) (m + 1)) ∧ w.heap.size ≤ g ∧ g < w'.heap.size ∧ w'.rowIs g 4 (m + 1) (fun y => .bool (reB zs (y : Int))) ∧ Below w.heap.size w w'

set_option maxRecDepth 100000 in
set_option maxHeartbeats 4000000 in
theorem l05Values_any (v : Value) (zs : List Int) (m : Nat) (w : World) (h : ReadI w w.heap.size v zs) (hn : zs.length ≤ 1048576) (hp : brB zs = true) (hm : m ≤ 1000000) :
    Calls Try.prog 100 #[.agg #[v], .int .i64 (m : Int)] w (VaAns w zs m) := by
  have HP := Lib.hid hp
  obtain ⟨n, A, c, rfl, hr, HL, _, hnc, HF, hcm⟩ := h.split2
  have hn0 : 0 < n := by have := brB_pos hp; rw [HL.out] at this; exact this
  have HN1 := Lib.hid hn
  rw [HL.out] at hn
  obtain ⟨a, rfl, hlt, hc0⟩ := hr.2 0 hn0
  obtain ⟨g, o, rfl⟩ := HF.out a rfl
  have hgw : g < w.heap.size := hlt
  obtain ⟨W0, HE⟩ : ∃ W, W = w.alloc (.cells #[.slice (some ⟨g, o, none⟩) n c] 26) := ⟨_, rfl⟩
  have hb0 : Below w.heap.size w W0 := by rw [HE]; exact below_box2 _ _
  have hq0 : BoxI W0 w.heap.size (.slice (some ⟨g, o, none⟩) n c) := by rw [HE]; exact BoxI.new _ _ _
  have hs0 : w.heap.size < W0.heap.size := hq0.2
  have HR : Hid (ReadI W0.drew W0.drew.heap.size (.slice (some ⟨g, o, none⟩) n c) zs) := Lib.hid ((h.below hb0).more hb0.size)
  have B0 := Lib.hid hb0
  have HEQ := Lib.hid HE
  have q0 := hq0.1
  have HLG : Hid ((gnB zs).length = n) := Lib.hid (by rw [gnB_len, HL.out])
  have HGA := Lib.hid (fun i (hi : i < zs.length) => gnA_pos hp hi)
  have HZ0 := Lib.hid (reB_zero hp)
  clear h hr hp hb0 hq0 HE hc0 hlt
  go_enter Try.func100, Try.ntmps100
  go_upto_region 1 with fail
  rw [← HEQ.out]
  have pm : IntKind.i64.wrap ((m : Int) + 1) = (m : Int) + 1 := IntWalk.i64_in _ (by omega)
  have hmk := fun (W : World) => run_make_row' (P := Try.prog) 87 4 (.bool false) 1 Try.underlying87 bool_info rfl .i64 .i64 (m + 1) (by omega) (by omega) W
  simp only [Int.natCast_add, Int.cast_ofNat_Int] at hmk
  go_cut [5, 6] (fun s5 s6 wx => Hid (VaCut W0 zs n m wx s5 s6))
  case first =>
    refine wp_region_held_drew (S := fun w' => w'.cell? ⟨w.heap.size, 0, none⟩ = some (.slice (some ⟨g, o, none⟩) n c)) (by kernel_rfl) (q0) (fun hHeld => ?_)
    refine takeY 0 _ (v := ?_) rfl rfl (by kernel_rfl) (by kernel_rfl) (by kernel_rfl) (fun _ _ _ h => h) (by kernel_rfl) ?_ (by assumption) ?_
    rotate_left 1
    · intro w hSw; (try dsimp only at hSw); go_simp; (try with_reducible rfl)
    try simp only [Act.put, List.setIfInBounds_toArray, List.set_cons_zero, List.set_cons_succ]
    refine takeY 2 _ (v := ?_) rfl rfl (by kernel_rfl) (by kernel_rfl) (by kernel_rfl) (fun _ _ _ h => h) (by kernel_rfl) ?_ (by assumption) ?_
    rotate_left 1
    · intro w hSw; (try dsimp only at hSw); go_simp; (try with_reducible rfl)
    try simp only [Act.put, List.setIfInBounds_toArray, List.set_cons_zero, List.set_cons_succ]
    refine takeY 3 _ (v := ?_) rfl rfl (by kernel_rfl) (by kernel_rfl) (by kernel_rfl) (fun _ _ _ h => h) (by kernel_rfl) ?_ (by assumption) ?_
    rotate_left 1
    · intro w hSw; (try dsimp only at hSw); go_simp; (try with_reducible rfl)
    try simp only [Act.put, List.setIfInBounds_toArray, List.set_cons_zero, List.set_cons_succ]
    refine wpAnyH_ready (rs := [1, 4]) (by kernel_rfl) (by simp) ?_
    refine AllReadyH.cons rfl (fun K hK => ?_) (AllReadyH.cons rfl (fun K hK => ?_) AllReadyH.nil)
    · go_simp
      refine (l05Generators_any _ zs W0.drew HR.out HN1.out HP.out).mono ?_
      rintro e W1 ⟨v1, rfl, ho1, hb1⟩
      replace hb1 : Below W0.heap.size W0 W1 := ⟨hb1.os, hb1.tape, hb1.output, hb1.size, hb1.block⟩
      obtain ⟨A1, c1, rfl⟩ := ho1.form HLG.out
      obtain ⟨d, e1, hd1, hd2, _, _⟩ := own_at ho1 HLG.out hn0
      cases e1
      have q1 := (hb1.cell (p := ⟨w.heap.size, 0, none⟩) hs0).trans q0
      have q2 := ((below_box2 W1 (.cells (madeCells #[.bool false] (m + 1)) 4)).cell (p := ⟨w.heap.size, 0, none⟩) (by show w.heap.size < _; have := hb1.size; omega)).trans q1
      refine hK.out _ (W1) q1 (fun hHeld => ?_)
      clear hK K
      try simp only [Act.put, List.setIfInBounds_toArray, List.set_cons_zero, List.set_cons_succ]
      refine takeY 5 _ (v := ?_) rfl rfl (by kernel_rfl) (by kernel_rfl) (by kernel_rfl) (fun _ _ _ h => h) (by kernel_rfl) ?_ (by assumption) ?_
      rotate_left 1
      · intro w hSw; (try dsimp only at hSw); go_simp; (try with_reducible rfl)
      try simp only [Act.put, List.setIfInBounds_toArray, List.set_cons_zero, List.set_cons_succ]
      refine wpAnyH_ready (rs := [4]) (by kernel_rfl) (by simp) ?_
      refine AllReadyH.cons rfl (fun K hK => ?_) AllReadyH.nil
      go_simp
      refine hK.out _ (_) q2 (fun hHeld => ?_)
      clear hK K
      try simp only [Act.put, List.setIfInBounds_toArray, List.set_cons_zero, List.set_cons_succ]
      refine takeY 6 _ (v := ?_) rfl rfl (by kernel_rfl) (by kernel_rfl) (by kernel_rfl) (fun _ _ _ h => h) (by kernel_rfl) ?_ (by assumption) ?_
      rotate_left 1
      · intro w hSw; (try dsimp only at hSw); go_simp; (try with_reducible rfl)
      try simp only [Act.put, List.setIfInBounds_toArray, List.set_cons_zero, List.set_cons_succ]
      refine wpAnyH_done (by kernel_rfl) ?_ _
      go_wp2_with fail
      go_meet
      exact Lib.hid (va_cut1 ho1 hd1 hd2 hb1)
    · go_simp
      have q1 := ((below_box2 W0 (.cells (madeCells #[.bool false] (m + 1)) 4)).cell (p := ⟨w.heap.size, 0, none⟩) hs0).trans q0
      refine hK.out _ (_) q1 (fun hHeld => ?_)
      clear hK K
      try simp only [Act.put, List.setIfInBounds_toArray, List.set_cons_zero, List.set_cons_succ]
      refine wpAnyH_ready (rs := [1]) (by kernel_rfl) (by simp) ?_
      refine AllReadyH.cons rfl (fun K hK => ?_) AllReadyH.nil
      go_simp
      refine (l05Generators_any _ zs (World.alloc W0.drew (.cells (madeCells #[.bool false] (m + 1)) 4)) ((HR.out.below (below_box2 _ _)).more (by simp)) HN1.out HP.out).mono ?_
      rintro e W1 ⟨v1, rfl, ho1, hb1⟩
      have hz1 : (World.alloc W0.drew (.cells (madeCells #[.bool false] (m + 1)) 4)).heap.size = W0.heap.size + 1 := by show (World.alloc W0.drew _).heap.size = W0.drew.heap.size + 1; simp
      rw [hz1] at ho1 hb1
      obtain ⟨A1, c1, rfl⟩ := ho1.form HLG.out
      obtain ⟨d, e1, hd1, hd2, _, _⟩ := own_at ho1 HLG.out hn0
      cases e1
      have q2 := (hb1.cell (p := ⟨w.heap.size, 0, none⟩) (by show w.heap.size < _; omega)).trans q1
      refine hK.out _ (W1) q2 (fun hHeld => ?_)
      clear hK K
      try simp only [Act.put, List.setIfInBounds_toArray, List.set_cons_zero, List.set_cons_succ]
      refine takeY 5 _ (v := ?_) rfl rfl (by kernel_rfl) (by kernel_rfl) (by kernel_rfl) (fun _ _ _ h => h) (by kernel_rfl) ?_ (by assumption) ?_
      rotate_left 1
      · intro w hSw; (try dsimp only at hSw); go_simp; (try with_reducible rfl)
      try simp only [Act.put, List.setIfInBounds_toArray, List.set_cons_zero, List.set_cons_succ]
      refine takeY 6 _ (v := ?_) rfl rfl (by kernel_rfl) (by kernel_rfl) (by kernel_rfl) (fun _ _ _ h => h) (by kernel_rfl) ?_ (by assumption) ?_
      rotate_left 1
      · intro w hSw; (try dsimp only at hSw); go_simp; (try with_reducible rfl)
      try simp only [Act.put, List.setIfInBounds_toArray, List.set_cons_zero, List.set_cons_succ]
      refine wpAnyH_done (by kernel_rfl) ?_ _
      go_wp2_with fail
      go_meet
      exact Lib.hid (va_cut2 ho1 hd1 hd2 ⟨hb1.os, hb1.tape, hb1.output, hb1.size, hb1.block⟩)
  case rest =>
    clear hmk q0
    obtain ⟨gg, cg, go, rfl, rfl, hog, hrow, hne, hbc⟩ := hcut.out
    obtain ⟨hn1, hn2, hn3, hn4, hn5⟩ := hne
    have hd0 := hrow.cell (show 0 < m + 1 by omega)
    have hf0 := hrow.frozen 0
    have ROW0 := Lib.hid ((hrow.set 0 (.bool true)).congr (g := (fun y => .bool (decide (y < 1) && reB zs (y : Int)))) (fun y hy => by
      by_cases h1 : y = 0
      · subst h1
        simp only [if_true]
        rw [show ((0 : Nat) : Int) = 0 from rfl, HZ0.out]; rfl
      · rw [if_neg h1, decide_eq_false (show ¬ y < 1 by omega)]; rfl))
    have OG := Lib.hid hog
    have HB0 := Lib.hid ((B0.out.trans (hbc.mono (by omega))).setCell (p := ⟨go, 0, none⟩) (by show w.heap.size ≤ go; omega) (.bool true))
    have hsz0 : (wc.setCell ⟨go, 0, none⟩ (.bool true)).heap.size = wc.heap.size := by simp [World.setCell]
    have OG2 := Lib.hid (hog.kept (keptS2 wc (p := ⟨go, 0, none⟩) (show ¬ (gg ≤ go ∧ go < gg + 1) by omega) (.bool true)))
    clear hrow hog hbc hcut
    have hgo : w.heap.size ≤ go := by omega
    go_upto_region 3 with fail
    clear hd0 hf0 OG
    generalize wc.setCell ⟨go, 0, none⟩ (.bool true) = WC at *
    rw [← hsz0] at hn4 hn5
    clear hsz0
    have HBC : Hid (Below WC.heap.size WC WC) := Lib.hid (Below.refl _ _)
    have HKP : Hid (Kept gg (gg + 1) WC WC) := Lib.hid (Kept.refl _ _ _)
    go_wp2_with fail
    go_loopw [7] (fun vv wr => ∃ k : Nat, 1 ≤ k ∧ k ≤ m + 1 ∧ vv = .int .i64 k ∧ Hid (wr.rowIs go 4 (m + 1) (fun y => .bool (decide (y < k) && reB zs (y : Int)))) ∧ Hid (Below w.heap.size w wr) ∧ Hid (Kept gg (gg + 1) WC wr) ∧ WC.heap.size = wr.heap.size) (fun vv _ => m + 1 - (intOf vv).toNat)
    case atStart => exact ⟨1, by omega, by omega, rfl, ROW0, HB0, HKP, rfl⟩
    case round =>
      clear ROW0 HB0 HBC HKP
      obtain ⟨k, hk1, hkm, rfl, hrow, hb, hkp, hsz⟩ := hrel
      by_cases hlt : k ≤ m
      · have hki : (k : Int) ≤ (m : Int) := by omega
        have HROW := Lib.hid (hrow.out.congr (g := fun y => .bool (if y = k then vaO zs (k : Int) 0 else decide (y < k) && reB zs (y : Int))) (fun y hy => by
          by_cases h1 : y = k
          · subst h1; simp [vaO]
          · rw [if_neg h1]))
        have HB1 := hb
        have HK1 := hkp
        have HVE := Lib.hid (vaO_end HP.out (show (1 : Int) ≤ (k : Int) by omega))
        have HRS := Lib.hid (reB_step HP.out (show (1 : Int) ≤ (k : Int) by omega))
        clear hrow hb hkp
        go_wp2_with fail
        go_loopw [8] (fun vi wi => ∃ i : Nat, i ≤ n ∧ vi = .int .i64 i ∧ Hid (wi.rowIs go 4 (m + 1) (fun y => .bool (if y = k then vaO zs (k : Int) i else decide (y < k) && reB zs (y : Int)))) ∧ Hid (Below w.heap.size w wi) ∧ Hid (Kept gg (gg + 1) WC wi) ∧ WC.heap.size = wi.heap.size) (fun vi _ => n - (intOf vi).toNat)
        case atStart => exact ⟨0, by omega, rfl, HROW, HB1, HK1, hsz⟩
        case round =>
          clear HROW HB1 HK1 hsz
          obtain ⟨i, hi, rfl, hri, hbi, hki2, hszi⟩ := hrel
          have hck := hri.out.cell (show k < m + 1 by omega)
          simp only [if_true] at hck
          have hfk := hri.out.frozen k
          have hkm1 : k < m + 1 := by omega
          obtain ⟨bo, hbo⟩ : ∃ b, vaO zs (k : Int) i = b := ⟨_, rfl⟩
          rw [hbo] at hck
          by_cases hin : i < n
          · have hini : (i : Int) < (n : Int) := by omega
            cases bo with
            | true =>
              have HKR : Hid (reB zs (k : Int) = true) := Lib.hid (by
                rw [HRS.out]
                obtain ⟨i', h1, h2⟩ := vaO_iff.1 hbo
                exact ⟨i', by have := HL.out; omega, h2⟩)
              have HR2 := Lib.hid (hri.out.congr (g := fun y => .bool (decide (y < k + 1) && reB zs (y : Int))) (fun y hy => by
                by_cases h1 : y = k
                · subst h1; rw [if_pos rfl, hbo, decide_eq_true (show y < y + 1 by omega), HKR.out]; rfl
                · rw [if_neg h1]
                  by_cases h2 : y < k
                  · rw [decide_eq_true h2, decide_eq_true (show y < k + 1 by omega)]
                  · rw [decide_eq_false h2, decide_eq_false (show ¬ y < k + 1 by omega)]))
              clear hbo
              go_wp2_with fail
              go_roundw
              case rel => exact ⟨k + 1, by omega, by omega, by go_num, HR2, hbi, hki2, hszi⟩
              case measure => first | (simp [intOf]; done) | (simp [intOf]; omega)
            | false =>
              have hog1 := OG2.out.kept hki2.out
              obtain ⟨g', e1, _, _, hcg, _⟩ := own_at hog1 HLG.out hin
              cases e1
              obtain ⟨qq, hqq⟩ : ∃ c, gnA zs i = c := ⟨_, rfl⟩
              rw [show (gnB zs)[i]?.getD 0 = qq from hqq] at hcg
              have hqp := HGA.out i (by have := HL.out; omega)
              rw [hqq] at hqp
              by_cases hge : qq ≤ (k : Int)
              · obtain ⟨j, hj⟩ : ∃ j : Nat, (k : Int) - qq = (j : Int) := ⟨((k : Int) - qq).toNat, by omega⟩
                have hjk : j < k := by omega
                have hcj := hri.out.cell (show j < m + 1 by omega)
                rw [if_neg (show ¬ j = k by omega), decide_eq_true hjk, Bool.true_and] at hcj
                have HVS : Hid (vaO zs (k : Int) (i + 1) = reB zs (j : Int)) := Lib.hid (by rw [vaO, hbo, hqq, decide_eq_true hge, hj]; simp)
                obtain ⟨rb, hrb⟩ : ∃ c, reB zs (j : Int) = c := ⟨_, rfl⟩
                rw [hrb] at hcj HVS
                have hjm : j < m + 1 := by omega
                have p1 : IntKind.i64.wrap ((k : Int) - qq) = (j : Int) := by rw [IntWalk.i64_in _ (by omega)]; exact hj
                have HR2 := Lib.hid ((hri.out.set k (.bool rb)).congr (g := fun y => .bool (if y = k then vaO zs (k : Int) (i + 1) else decide (y < k) && reB zs (y : Int))) (fun y hy => by
                  by_cases h1 : y = k
                  · rw [if_pos h1, if_pos h1, HVS.out]
                  · rw [if_neg h1, if_neg h1, if_neg h1]))
                clear hbo hqq hrb hj
                go_wp2_with fail
                go_roundw
                case rel => exact ⟨i + 1, by omega, by go_num, HR2, Lib.hid (hbi.out.setCell (p := ⟨go, k, none⟩) hgo (.bool rb)), Lib.hid (hki2.out.trans (keptS2 _ (p := ⟨go, k, none⟩) (show ¬ (gg ≤ go ∧ go < gg + 1) by omega) (.bool rb))), by rw [hszi]; simp [World.setCell]⟩
                case measure => first | (simp [intOf]; done) | (simp [intOf]; omega)
              · have HVS : Hid (vaO zs (k : Int) (i + 1) = false) := Lib.hid (by rw [vaO, hbo, hqq, decide_eq_false hge]; rfl)
                have HR2 := Lib.hid ((hri.out.set k (.bool false)).congr (g := fun y => .bool (if y = k then vaO zs (k : Int) (i + 1) else decide (y < k) && reB zs (y : Int))) (fun y hy => by
                  by_cases h1 : y = k
                  · rw [if_pos h1, if_pos h1, HVS.out]
                  · rw [if_neg h1, if_neg h1, if_neg h1]))
                clear hbo hqq
                go_wp2_with fail
                go_roundw
                case rel => exact ⟨i + 1, by omega, by go_num, HR2, Lib.hid (hbi.out.setCell (p := ⟨go, k, none⟩) hgo (.bool false)), Lib.hid (hki2.out.trans (keptS2 _ (p := ⟨go, k, none⟩) (show ¬ (gg ≤ go ∧ go < gg + 1) by omega) (.bool false))), by rw [hszi]; simp [World.setCell]⟩
                case measure => first | (simp [intOf]; done) | (simp [intOf]; omega)
          · obtain rfl : i = n := by omega
            have HR2 := Lib.hid (hri.out.congr (g := fun y => .bool (decide (y < k + 1) && reB zs (y : Int))) (fun y hy => by
              by_cases h1 : y = k
              · subst h1; rw [if_pos rfl, decide_eq_true (show y < y + 1 by omega), ← HL.out, HVE.out]; rfl
              · rw [if_neg h1]
                by_cases h2 : y < k
                · rw [decide_eq_true h2, decide_eq_true (show y < k + 1 by omega)]
                · rw [decide_eq_false h2, decide_eq_false (show ¬ y < k + 1 by omega)]))
            clear hbo
            go_wp2_with fail
            go_roundw
            case rel => exact ⟨k + 1, by omega, by omega, by go_num, HR2, hbi, hki2, hszi⟩
            case measure => first | (simp [intOf]; done) | (simp [intOf]; omega)
      · obtain rfl : k = m + 1 := by omega
        have hki : ¬ (((m + 1 : Nat) : Nat) : Int) ≤ (m : Int) := by omega
        have HR2 := Lib.hid (hrow.out.congr (g := fun y => .bool (reB zs (y : Int))) (fun y hy => by rw [decide_eq_true hy]; rfl))
        clear hrow
        go_wp2_with fail
        go_ret
        exact ⟨go, rfl, hgo, by omega, HR2.out, hb.out⟩
end Go.Proofs.Ytjgidalmgoifgaa
/- IsValue, the model's and the program's: contracts. Conditions: stated at each theorem. -/
namespace Go.Proofs.Ytjgidalmgoifgaa
open Go.ChangeShapes Go.WideShapes Go.ChangeAt Go.RowKit Go.Deep
set_option linter.unusedVariables false
set_option linter.unusedSimpArgs false

def ivA (zs : List Int) (v : Int) : Bool := if brB zs then (if semiB v then reB zs v else false) else false
def ivC (zs : List Int) (v : Int) : Int := if brB zs then (if semiB v then 0 else 2) else 1
theorem iv_no {zs : List Int} {v : Int} (h : brB zs = false) : ivA zs v = false ∧ ivC zs v = 1 := by simp [ivA, ivC, h]
theorem iv_out {zs : List Int} {v : Int} (h : brB zs = true) (h2 : semiB v = false) : ivA zs v = false ∧ ivC zs v = 2 := by simp [ivA, ivC, h, h2]
theorem iv_yes {zs : List Int} {v : Int} (h : brB zs = true) (h2 : semiB v = true) : ivA zs v = reB zs v ∧ ivC zs v = 0 := by simp [ivA, ivC, h, h2]
theorem AnsBI.mk' {w w' : World} {b b' : Bool} {c c' : Int} (h1 : b' = b) (h2 : c' = c) (h : Below w.heap.size w w') : AnsBI w b c (.returned (.tuple #[.bool b', .int .i64 c'])) w' := by
  subst h1; subst h2; exact ⟨rfl, h⟩

set_option maxRecDepth 100000 in
set_option maxHeartbeats 2000000 in
theorem specIsValue_any (v : Value) (zs : List Int) (x : Int) (w : World) (h : ReadI w w.heap.size v zs) (hn : zs.length ≤ 1048576) (hw : ∀ z ∈ zs, (Lit.int .i64 z).wf = true) (hwx : (Lit.int .i64 x).wf = true) :
    Calls Try.prog 54 #[.agg #[v], .int .i64 x] w (AnsBI w (ivA zs x) (ivC zs x)) := by
  have HWW := Lib.hid hw
  have HN0 := Lib.hid hn
  rcases bool_fs (brB zs) with hp | hp
  · have E := Lib.hid (iv_no (v := x) hp)
    have HP := Lib.hid hp
    obtain ⟨n, A, c, rfl, hr, HL, _, hnc, HF, hcm⟩ := h.split2
    obtain ⟨W0, HE⟩ : ∃ W, W = w.alloc (.cells #[.slice A n c] 26) := ⟨_, rfl⟩
    have hb0 : Below w.heap.size w W0 := by rw [HE]; exact below_box _ _
    have hq0 : BoxI W0 w.heap.size (.slice A n c) := by rw [HE]; exact BoxI.new _ _ _
    have H0 := Lib.hid ((h.below hb0).more hb0.size)
    have HEQ := Lib.hid HE
    clear h hr HE HF hn hw hp hwx
    go_enter Try.func54, Try.ntmps54
    go_wp2_with fail
    rw [← HEQ.out]
    refine (l03Is_if _ zs _ false H0.out HN0.out HWW.out HP.out).mono ?_
    rintro e w1 ⟨rfl, hb1⟩
    go_wp2_with fail
    go_ret2
    exact AnsBI.mk' (by rw [E.out.1]) (by rw [E.out.2]) (hb0.trans (hb1.mono hb0.size))
  have HP := Lib.hid hp
  rcases bool_fs (semiB x) with hsb | hsb
  · have E := Lib.hid (iv_out hp hsb)
    have HSB := Lib.hid hsb
    obtain ⟨n, A, c, rfl, hr, HL, _, hnc, HF, hcm⟩ := h.split2
    obtain ⟨W0, HE⟩ : ∃ W, W = w.alloc (.cells #[.slice A n c] 26) := ⟨_, rfl⟩
    have hb0 : Below w.heap.size w W0 := by rw [HE]; exact below_box _ _
    have hq0 : BoxI W0 w.heap.size (.slice A n c) := by rw [HE]; exact BoxI.new _ _ _
    have H0 := Lib.hid ((h.below hb0).more hb0.size)
    have HEQ := Lib.hid HE
    clear h hr HE HF hn hw hp hwx hsb
    go_enter Try.func54, Try.ntmps54
    go_wp2_with fail
    rw [← HEQ.out]
    refine (l03Is_if _ zs _ true H0.out HN0.out HWW.out HP.out).mono ?_
    rintro e w1 ⟨rfl, hb1⟩
    have B1 := Lib.hid (hb0.trans (hb1.mono hb0.size))
    clear hb1 hb0 hq0
    go_wp2_with (go_at_call 108; refine (in_no _ _ _ _ (semiB_no HSB.out)).mono ?_; rintro e w' ⟨rfl, rfl⟩)
    go_ret2
    exact AnsBI.mk' (by rw [E.out.1]) (by rw [E.out.2]) B1.out
  · have HSB := Lib.hid hsb
    have hx := semiB_yes hsb
    have E := Lib.hid (iv_yes hp hsb)
    obtain ⟨n, A, c, rfl, hr, HL, _, hnc, HF, hcm⟩ := h.split2
    obtain ⟨W0, HE⟩ : ∃ W, W = w.alloc (.cells #[.slice A n c] 26) := ⟨_, rfl⟩
    have hb0 : Below w.heap.size w W0 := by rw [HE]; exact below_box _ _
    have hq0 : BoxI W0 w.heap.size (.slice A n c) := by rw [HE]; exact BoxI.new _ _ _
    have H0 := Lib.hid ((h.below hb0).more hb0.size)
    have HEQ := Lib.hid HE
    clear h hr HE HF hn hw hp hwx hsb
    go_enter Try.func54, Try.ntmps54
    go_wp2_with fail
    rw [← HEQ.out]
    refine (l03Is_if _ zs _ true H0.out HN0.out HWW.out HP.out).mono ?_
    rintro e w1 ⟨rfl, hb1⟩
    have cb1 : w1.cell? ⟨w.heap.size, 0, none⟩ = some (.slice A n c) := by rw [hb1.cell (p := ⟨w.heap.size, 0, none⟩) hq0.2]; exact hq0.1
    have H1 := Lib.hid ((H0.out.below hb1).more hb1.size)
    have B1 := Lib.hid (hb0.trans (hb1.mono hb0.size))
    clear hb1 hb0 HEQ hq0
    obtain ⟨m, rfl⟩ : ∃ m : Nat, x = (m : Int) := ⟨x.toNat, by omega⟩
    go_wp2_with (go_at_call 108; refine (in_yes _ _ _ _ hx.1 hx.2).mono ?_; rintro e w' ⟨rfl, rfl⟩)
    refine (l05Values_any _ zs m w1 H1.out HN0.out HP.out (by omega)).mono ?_
    rintro e w2 ⟨g2, rfl, hg1, hg2, hrow, hb2⟩
    have hc2 := hrow.cell (show m < m + 1 by omega)
    have B2 := Lib.hid (B1.out.trans (hb2.mono B1.out.size))
    clear hrow hb2 cb1
    have hm1 : (m : Int) < (m : Int) + 1 := by omega
    have hm2 : m < m + 1 := by omega
    generalize reB zs (m : Int) = bo at *
    go_wp2_with fail
    go_ret2
    exact AnsBI.mk' (by rw [E.out.1]) (by rw [E.out.2]) B2.out

set_option maxRecDepth 100000 in
set_option maxHeartbeats 2000000 in
theorem implIsValue_any (v : Value) (zs : List Int) (x : Int) (w : World) (h : ReadI w w.heap.size v zs) (hn : zs.length ≤ 1048576) (hw : ∀ z ∈ zs, (Lit.int .i64 z).wf = true) (hwx : (Lit.int .i64 x).wf = true) :
    Calls Try.prog 47 #[.agg #[v], .int .i64 x] w (AnsBI w (ivA zs x) (ivC zs x)) := by
  have HWW := Lib.hid hw
  have HN0 := Lib.hid hn
  rcases bool_fs (brB zs) with hp | hp
  · have E := Lib.hid (iv_no (v := x) hp)
    have HP := Lib.hid hp
    obtain ⟨n, A, c, rfl, hr, HL, _, hnc, HF, hcm⟩ := h.split2
    obtain ⟨W0, HE⟩ : ∃ W, W = w.alloc (.cells #[.slice A n c] 26) := ⟨_, rfl⟩
    have hb0 : Below w.heap.size w W0 := by rw [HE]; exact below_box _ _
    have hq0 : BoxI W0 w.heap.size (.slice A n c) := by rw [HE]; exact BoxI.new _ _ _
    have H0 := Lib.hid ((h.below hb0).more hb0.size)
    have HEQ := Lib.hid HE
    clear h hr HE HF hn hw hp hwx
    go_enter Try.func47, Try.ntmps47
    go_wp2_with fail
    rw [← HEQ.out]
    refine (implIsBranch_if _ zs _ false H0.out HN0.out HWW.out HP.out).mono ?_
    rintro e w1 ⟨rfl, hb1⟩
    go_wp2_with fail
    go_ret2
    exact AnsBI.mk' (by rw [E.out.1]) (by rw [E.out.2]) (hb0.trans (hb1.mono hb0.size))
  have HP := Lib.hid hp
  rcases bool_fs (semiB x) with hsb | hsb
  · have E := Lib.hid (iv_out hp hsb)
    have HSB := Lib.hid hsb
    obtain ⟨n, A, c, rfl, hr, HL, _, hnc, HF, hcm⟩ := h.split2
    obtain ⟨W0, HE⟩ : ∃ W, W = w.alloc (.cells #[.slice A n c] 26) := ⟨_, rfl⟩
    have hb0 : Below w.heap.size w W0 := by rw [HE]; exact below_box _ _
    have hq0 : BoxI W0 w.heap.size (.slice A n c) := by rw [HE]; exact BoxI.new _ _ _
    have H0 := Lib.hid ((h.below hb0).more hb0.size)
    have HEQ := Lib.hid HE
    clear h hr HE HF hn hw hp hwx hsb
    go_enter Try.func47, Try.ntmps47
    go_wp2_with fail
    rw [← HEQ.out]
    refine (implIsBranch_if _ zs _ true H0.out HN0.out HWW.out HP.out).mono ?_
    rintro e w1 ⟨rfl, hb1⟩
    have B1 := Lib.hid (hb0.trans (hb1.mono hb0.size))
    clear hb1 hb0 hq0
    go_wp2_with fail
    refine (semi_if x false w1 HSB.out).mono ?_
    rintro e w' ⟨rfl, rfl⟩
    go_wp2_with fail
    go_ret2
    exact AnsBI.mk' (by rw [E.out.1]) (by rw [E.out.2]) B1.out
  · have HSB := Lib.hid hsb
    have hx := semiB_yes hsb
    have E := Lib.hid (iv_yes hp hsb)
    obtain ⟨n, A, c, rfl, hr, HL, _, hnc, HF, hcm⟩ := h.split2
    obtain ⟨W0, HE⟩ : ∃ W, W = w.alloc (.cells #[.slice A n c] 26) := ⟨_, rfl⟩
    have hb0 : Below w.heap.size w W0 := by rw [HE]; exact below_box _ _
    have hq0 : BoxI W0 w.heap.size (.slice A n c) := by rw [HE]; exact BoxI.new _ _ _
    have H0 := Lib.hid ((h.below hb0).more hb0.size)
    have HEQ := Lib.hid HE
    clear h hr HE HF hn hw hp hwx hsb
    go_enter Try.func47, Try.ntmps47
    go_wp2_with fail
    rw [← HEQ.out]
    refine (implIsBranch_if _ zs _ true H0.out HN0.out HWW.out HP.out).mono ?_
    rintro e w1 ⟨rfl, hb1⟩
    have cb1 : w1.cell? ⟨w.heap.size, 0, none⟩ = some (.slice A n c) := by rw [hb1.cell (p := ⟨w.heap.size, 0, none⟩) hq0.2]; exact hq0.1
    have H1 := Lib.hid ((H0.out.below hb1).more hb1.size)
    have B1 := Lib.hid (hb0.trans (hb1.mono hb0.size))
    clear hb1 hb0 HEQ hq0
    go_wp2_with fail
    refine (semi_if x true w1 HSB.out).mono ?_
    rintro e w' ⟨rfl, rfl⟩
    go_wp2_with fail
    refine (representation_any _ zs x w1 H1.out HN0.out HP.out hx).mono ?_
    rintro e w2 ⟨v2, rfl, ho2, hb2⟩
    obtain ⟨A2, c2, rfl⟩ := own_form ho2.1
    have B2 := Lib.hid (B1.out.trans (hb2.mono B1.out.size))
    clear ho2 hb2
    generalize reB zs x = bo at *
    go_wp2_with fail
    go_ret2
    exact AnsBI.mk' (by rw [E.out.1]) (by rw [E.out.2]) B2.out
end Go.Proofs.Ytjgidalmgoifgaa
