/- Unloading, the program's: steps, raising, the first negative number. Conditions: stated at each theorem. -/
import Derived.Test.YtjobfjgphcaoeaaUn7
namespace Go.Proofs.Ytjobfjgphcaoeaa
open Go.ChangeShapes Go.WideShapes Go.ChangeAt Go.RowKit Go.Deep
set_option linter.unusedVariables false
set_option linter.unusedSimpArgs false

/-- The first index with a negative number, or -1. -/
def lsI (e : Nat → Int) : Nat → Int
  | 0 => -1
  | k + 1 => if 0 ≤ lsI e k then lsI e k else if e k < 0 then (k : Int) else -1
theorem lsI_no {e : Nat → Int} : ∀ {k : Nat}, (∀ i, i < k → 0 ≤ e i) → lsI e k = -1
  | 0, _ => rfl
  | k + 1, h => by
    show (if 0 ≤ lsI e k then lsI e k else if e k < 0 then (k : Int) else -1) = -1
    rw [lsI_no (k := k) (fun i hi => h i (by omega)), if_neg (by omega), if_neg (by have := h k (by omega); omega)]
theorem lsI_at {e : Nat → Int} {p : Nat} (hp : e p < 0) (h : ∀ i, i < p → 0 ≤ e i) : ∀ {n : Nat}, p < n → lsI e n = (p : Int)
  | 0, h0 => by omega
  | n + 1, h0 => by
    show (if 0 ≤ lsI e n then lsI e n else if e n < 0 then (n : Int) else -1) = _
    by_cases hn : p < n
    · rw [lsI_at hp h hn, if_pos (by omega)]
    · obtain rfl : p = n := by omega
      rw [lsI_no h, if_neg (by omega), if_pos hp]
theorem lsI_cases (e : Nat → Int) (n : Nat) : (lsI e n = -1 ∧ ∀ i, i < n → 0 ≤ e i) ∨ ∃ p : Nat, p < n ∧ lsI e n = (p : Int) ∧ e p < 0 ∧ ∀ i, i < p → 0 ≤ e i := by
  induction n with
  | zero => exact .inl ⟨rfl, fun i h => by omega⟩
  | succ n ih =>
    rcases ih with ⟨h1, h2⟩ | ⟨p, hp, h1, h2, h3⟩
    · by_cases h : e n < 0
      · exact .inr ⟨n, by omega, lsI_at h h2 (by omega), h, h2⟩
      · have h4 : ∀ i, i < n + 1 → 0 ≤ e i := fun i hi => by
          by_cases e' : i = n
          · subst e'; omega
          · exact h2 i (by omega)
        exact .inl ⟨lsI_no h4, h4⟩
    · exact .inr ⟨p, by omega, lsI_at h2 h3 (by omega), h2, h3⟩
/-- The least integer that is not less than a / b. -/
def qtI (a b : Int) : Int := (a + b - 1) / b
/-- Numbers added at points, one after the other. -/
def raF (O st : Nat → Int) (L : List Nat) : Nat → Int := L.foldl (fun F p => updF F p (st p)) O
theorem raF_next {O st : Nat → Int} {L : List Nat} {t p : Nat} (h : L[t]? = some p) : raF O st (L.take (t + 1)) = updF (raF O st (L.take t)) p (st p) := by
  unfold raF; rw [List.take_add_one, h]; simp
theorem raF_zero (O st : Nat → Int) (L : List Nat) : raF O st (L.take 0) = O := rfl

set_option maxRecDepth 100000 in
set_option maxHeartbeats 4000000 in
theorem quot_any (a b : Int) (w : World) (hb : 0 < b ∧ b ≤ 1000000000000000000) (ha : -1000000000000000000 < a ∧ a ≤ 3000000000000000000) (hab : 0 ≤ a + b - 1) :
    Calls Try.prog 125 #[.int .i64 a, .int .i64 b] w fun e w' => e = .returned (.int .i64 (qtI a b)) ∧ w = w' := by
  have p1 : IntKind.i64.wrap (a + b) = a + b := IntWalk.i64_in _ (by omega)
  have p2 : IntKind.i64.wrap (a + b - 1) = a + b - 1 := IntWalk.i64_in _ (by omega)
  have hb0 : b ≠ 0 := by omega
  have hb1 : ¬ b = 0 := hb0
  have hbb : (b == 0) = false := by simpa using hb0
  have hq : Int.tdiv (a + b - 1) b = qtI a b := Int.tdiv_eq_ediv_of_nonneg hab
  have hr := Int.ediv_le_self b hab
  have hr0 : 0 ≤ (a + b - 1) / b := Int.ediv_nonneg hab (Int.le_of_lt hb.1)
  have hqq : qtI a b = (a + b - 1) / b := rfl
  have p3 : IntKind.i64.wrap (qtI a b) = qtI a b := IntWalk.i64_in _ (by omega)
  have p4 : IntKind.i64.wrap (Int.tdiv (a + b - 1) b) = qtI a b := by rw [hq]; exact p3
  clear hr hr0 hqq
  go_enter Try.func125, Try.ntmps125
  go_wp2_with fail
  go_ret
  exact ⟨by simp [hq, p3, p4], rfl⟩

set_option maxRecDepth 100000 in
set_option maxHeartbeats 4000000 in
theorem neg_any (z : Int) (w : World) : Calls Try.prog 86 #[.int .i64 z] w fun e w' => e = .returned (.bool (decide (z < 0))) ∧ w = w' := by
  go_enter Try.func86, Try.ntmps86
  go_wp2_with fail
  go_ret
  exact ⟨rfl, rfl⟩

theorem index_any (A : Option Addr) (n c : Nat) (E : List Int) (w : World) (hr : ReadI w w.heap.size (.slice A n c) E) (hl : E.length = n) (hn : 1 ≤ n ∧ n ≤ 24) :
    Calls Try.prog 85 #[.slice A n c, .func (.func 86) #[] #[]] w fun e w' => e = .returned (.int .i64 (lsI (fun x => E[x]?.getD 0) n)) ∧ w = w' := by
  obtain ⟨g, o, rfl, HC, hg⟩ := cells_of hr hl hn.1
  have HA0 : Hid (∀ i, i < 0 → 0 ≤ E[i]?.getD 0) := Lib.hid fun i h => by omega
  clear hr
  go_enter Try.func85, Try.ntmps85
  go_wp2_with fail
  go_loop [8] (fun vi => ∃ (k : Nat), k ≤ n ∧ vi = .int .i64 k ∧ Hid (∀ i, i < k → 0 ≤ E[i]?.getD 0)) (fun vi => n - (intOf vi).toNat)
  case atStart => exact ⟨0, by omega, rfl, HA0⟩
  case round =>
    obtain ⟨k, hk, rfl, HA⟩ := hrel
    by_cases hkn : k < n
    · have hkn2 : (k : Int) < (n : Int) := by omega
      have d1 := HC.out k hkn
      obtain ⟨z, hz⟩ : ∃ z, E[k]?.getD 0 = z := ⟨_, rfl⟩
      have HZ := Lib.hid hz
      rw [hz] at d1
      clear hz
      by_cases hzn : z < 0
      · have HF : Hid (lsI (fun x => E[x]?.getD 0) n = (k : Int)) := Lib.hid (lsI_at (by show E[k]?.getD 0 < 0; rw [HZ.out]; exact hzn) (fun i hi => HA.out i hi) hkn)
        have hdz : decide (z < 0) = true := by simpa using hzn
        go_wp2_with (go_at_call 86; refine (neg_any z _).mono ?_; rintro e w' ⟨rfl, rfl⟩)
        go_ret
        exact ⟨by rw [HF.out]; rfl, rfl⟩
      · have HA1 : Hid (∀ i, i < k + 1 → 0 ≤ E[i]?.getD 0) := Lib.hid fun i hi => by
          by_cases e : i = k
          · subst e; rw [HZ.out]; omega
          · exact HA.out i (by omega)
        have hdz : decide (z < 0) = false := by simpa using hzn
        go_wp2_with (go_at_call 86; refine (neg_any z _).mono ?_; rintro e w' ⟨rfl, rfl⟩)
        go_round
        case rel => exact ⟨k + 1, by omega, by go_num, HA1⟩
        case measure => simp [intOf]; omega
    · obtain rfl : k = n := by omega
      have HF : Hid (lsI (fun x => E[x]?.getD 0) k = -1) := Lib.hid (lsI_no fun i hi => HA.out i hi)
      go_wp2_with fail
      go_ret
      exact ⟨by rw [HF.out]; rfl, rfl⟩

set_option maxRecDepth 100000 in
set_option maxHeartbeats 4000000 in
theorem single_any (ub be mo ri n i c4 cm ci : Nat) (z m : Int) (w : World) (u4 : w.cell? ⟨ub, 4, none⟩ = some (.slice (some ⟨be, 0, none⟩) n c4)) (d1 : w.cell? ⟨be, i, none⟩ = some (.int .i64 z)) (u2 : w.cell? ⟨ub, 2, none⟩ = some (.slice (some ⟨mo, 0, none⟩) n cm)) (d2 : w.cell? ⟨mo, i, none⟩ = some (.slice (some ⟨ri, 0, none⟩) n ci)) (d3 : w.cell? ⟨ri, i, none⟩ = some (.int .i64 m))
    (hi : i < n) (hz : -1000000000 ≤ z ∧ z < 0) (hm : -100 ≤ m ∧ m ≤ -1) :
    Calls Try.prog 88 #[.pointer (some ⟨ub, 0, none⟩), .int .i64 i] w fun e w' => e = .returned (.int .i64 (qtI (-z) (-m))) ∧ w' = w.drew := by
  have hi2 : (i : Int) < (n : Int) := by omega
  have p1 : IntKind.i64.wrap (-z) = -z := IntWalk.i64_in _ (by omega)
  have p2 : IntKind.i64.wrap (-m) = -m := IntWalk.i64_in _ (by omega)
  go_enter Try.func88, Try.ntmps88
  go_wp2_with fail
  refine wp_region_held_drew (S := fun w' => w'.cell? ⟨ub, 4, none⟩ = some (.slice (some ⟨be, 0, none⟩) n c4) ∧ w'.cell? ⟨be, i, none⟩ = some (.int .i64 z) ∧ w'.cell? ⟨ub, 2, none⟩ = some (.slice (some ⟨mo, 0, none⟩) n cm) ∧ w'.cell? ⟨mo, i, none⟩ = some (.slice (some ⟨ri, 0, none⟩) n ci) ∧ w'.cell? ⟨ri, i, none⟩ = some (.int .i64 m)) (by kernel_rfl) ⟨u4, d1, u2, d2, d3⟩ (fun hHeld => ?_)
  refine takeY 0 _ (v := ?_) rfl rfl (by kernel_rfl) (by kernel_rfl) (by kernel_rfl) (fun _ _ _ h => h) (by kernel_rfl) ?_ (by assumption) ?_
  rotate_left 1
  · intro w hSw; (try dsimp only at hSw); go_simp; (try with_reducible rfl)
  try simp only [Act.put, List.setIfInBounds_toArray, List.set_cons_zero, List.set_cons_succ]
  refine takeY 1 _ (v := ?_) rfl rfl (by kernel_rfl) (by kernel_rfl) (by kernel_rfl) (fun _ _ _ h => h) (by kernel_rfl) ?_ (by assumption) ?_
  rotate_left 1
  · intro w hSw; (try dsimp only at hSw); go_simp; (try with_reducible rfl)
  try simp only [Act.put, List.setIfInBounds_toArray, List.set_cons_zero, List.set_cons_succ]
  refine takeY 2 _ (v := ?_) rfl rfl (by kernel_rfl) (by kernel_rfl) (by kernel_rfl) (fun _ _ _ h => h) (by kernel_rfl) ?_ (by assumption) ?_
  rotate_left 1
  · intro w hSw; (try dsimp only at hSw); go_simp; (try with_reducible rfl)
  try simp only [Act.put, List.setIfInBounds_toArray, List.set_cons_zero, List.set_cons_succ]
  refine takeY 3 _ (v := ?_) rfl rfl (by kernel_rfl) (by kernel_rfl) (by kernel_rfl) (fun _ _ _ h => h) (by kernel_rfl) ?_ (by assumption) ?_
  rotate_left 1
  · intro w hSw; (try dsimp only at hSw); go_simp; (try with_reducible rfl)
  try simp only [Act.put, List.setIfInBounds_toArray, List.set_cons_zero, List.set_cons_succ]
  refine takeY 4 _ (v := ?_) rfl rfl (by kernel_rfl) (by kernel_rfl) (by kernel_rfl) (fun _ _ _ h => h) (by kernel_rfl) ?_ (by assumption) ?_
  rotate_left 1
  · intro w hSw; (try dsimp only at hSw); go_simp; (try with_reducible rfl)
  try simp only [Act.put, List.setIfInBounds_toArray, List.set_cons_zero, List.set_cons_succ]
  refine takeY 5 _ (v := ?_) rfl rfl (by kernel_rfl) (by kernel_rfl) (by kernel_rfl) (fun _ _ _ h => h) (by kernel_rfl) ?_ (by assumption) ?_
  rotate_left 1
  · intro w hSw; (try dsimp only at hSw); go_simp; (try with_reducible rfl)
  try simp only [Act.put, List.setIfInBounds_toArray, List.set_cons_zero, List.set_cons_succ]
  refine takeY 6 _ (v := ?_) rfl rfl (by kernel_rfl) (by kernel_rfl) (by kernel_rfl) (fun _ _ _ h => h) (by kernel_rfl) ?_ (by assumption) ?_
  rotate_left 1
  · intro w hSw; (try dsimp only at hSw); go_simp; (try with_reducible rfl)
  try simp only [Act.put, List.setIfInBounds_toArray, List.set_cons_zero, List.set_cons_succ]
  refine takeY 7 _ (v := ?_) rfl rfl (by kernel_rfl) (by kernel_rfl) (by kernel_rfl) (fun _ _ _ h => h) (by kernel_rfl) ?_ (by assumption) ?_
  rotate_left 1
  · intro w hSw; (try dsimp only at hSw); go_simp; (try with_reducible rfl)
  try simp only [Act.put, List.setIfInBounds_toArray, List.set_cons_zero, List.set_cons_succ]
  refine takeY 8 _ (v := ?_) rfl rfl (by kernel_rfl) (by kernel_rfl) (by kernel_rfl) (fun _ _ _ h => h) (by kernel_rfl) ?_ (by assumption) ?_
  rotate_left 1
  · intro w hSw; (try dsimp only at hSw); go_simp; (try with_reducible rfl)
  try simp only [Act.put, List.setIfInBounds_toArray, List.set_cons_zero, List.set_cons_succ]
  refine takeY 9 _ (v := ?_) rfl rfl (by kernel_rfl) (by kernel_rfl) (by kernel_rfl) (fun _ _ _ h => h) (by kernel_rfl) ?_ (by assumption) ?_
  rotate_left 1
  · intro w hSw; (try dsimp only at hSw); go_simp; (try with_reducible rfl)
  try simp only [Act.put, List.setIfInBounds_toArray, List.set_cons_zero, List.set_cons_succ]
  refine takeY 10 _ (v := ?_) rfl rfl (by kernel_rfl) (by kernel_rfl) (by kernel_rfl) (fun _ _ _ h => h) (by kernel_rfl) ?_ (by assumption) ?_
  rotate_left 1
  · intro w hSw; (try dsimp only at hSw); go_simp; (try with_reducible rfl)
  try simp only [Act.put, List.setIfInBounds_toArray, List.set_cons_zero, List.set_cons_succ]
  refine takeY 11 _ (v := ?_) rfl rfl (by kernel_rfl) (by kernel_rfl) (by kernel_rfl) (fun _ _ _ h => h) (by kernel_rfl) ?_ (by assumption) ?_
  rotate_left 1
  · intro w hSw; (try dsimp only at hSw); go_simp; (try with_reducible rfl)
  try simp only [Act.put, List.setIfInBounds_toArray, List.set_cons_zero, List.set_cons_succ]
  refine takeY 12 _ (v := ?_) rfl rfl (by kernel_rfl) (by kernel_rfl) (by kernel_rfl) (fun _ _ _ h => h) (by kernel_rfl) ?_ (by assumption) ?_
  rotate_left 1
  · intro w hSw; (try dsimp only at hSw); go_simp; (try with_reducible rfl)
  try simp only [Act.put, List.setIfInBounds_toArray, List.set_cons_zero, List.set_cons_succ]
  refine takeY 13 _ (v := ?_) rfl rfl (by kernel_rfl) (by kernel_rfl) (by kernel_rfl) (fun _ _ _ h => h) (by kernel_rfl) ?_ (by assumption) ?_
  rotate_left 1
  · intro w hSw; (try dsimp only at hSw); go_simp; (try with_reducible rfl)
  try simp only [Act.put, List.setIfInBounds_toArray, List.set_cons_zero, List.set_cons_succ]
  refine takeY 14 _ (v := ?_) rfl rfl (by kernel_rfl) (by kernel_rfl) (by kernel_rfl) (fun _ _ _ h => h) (by kernel_rfl) ?_ (by assumption) ?_
  rotate_left 1
  · intro w hSw; (try dsimp only at hSw); go_simp; (try with_reducible rfl)
  try simp only [Act.put, List.setIfInBounds_toArray, List.set_cons_zero, List.set_cons_succ]
  refine takeY 15 _ (v := ?_) rfl rfl (by kernel_rfl) (by kernel_rfl) (by kernel_rfl) (fun _ _ _ h => h) (by kernel_rfl) ?_ (by assumption) ?_
  rotate_left 1
  · intro w hSw; (try dsimp only at hSw); go_simp; (try with_reducible rfl)
  try simp only [Act.put, List.setIfInBounds_toArray, List.set_cons_zero, List.set_cons_succ]
  refine takeY 16 _ (v := ?_) rfl rfl (by kernel_rfl) (by kernel_rfl) (by kernel_rfl) (fun _ _ _ h => h) (by kernel_rfl) ?_ (by assumption) ?_
  rotate_left 1
  · intro w hSw; (try dsimp only at hSw); go_simp; (try with_reducible rfl)
  try simp only [Act.put, List.setIfInBounds_toArray, List.set_cons_zero, List.set_cons_succ]
  refine takeY 17 _ (v := ?_) rfl rfl (by kernel_rfl) (by kernel_rfl) (by kernel_rfl) (fun _ _ _ h => h) (by kernel_rfl) ?_ (by assumption) ?_
  rotate_left 1
  · intro w hSw; (try dsimp only at hSw); go_simp; (try with_reducible rfl)
  try simp only [Act.put, List.setIfInBounds_toArray, List.set_cons_zero, List.set_cons_succ]
  refine takeY 18 _ (v := ?_) rfl rfl (by kernel_rfl) (by kernel_rfl) (by kernel_rfl) (fun _ _ _ h => h) (by kernel_rfl) ?_ (by assumption) ?_
  rotate_left 1
  · intro w hSw; (try dsimp only at hSw); go_simp; (try with_reducible rfl)
  try simp only [Act.put, List.setIfInBounds_toArray, List.set_cons_zero, List.set_cons_succ]
  refine wpAnyH_ready (rs := [19]) (by kernel_rfl) (by simp) ?_
  refine AllReadyH.cons rfl (fun K hK => ?_) AllReadyH.nil
  go_simp
  refine (quot_any (-z) (-m) w.drew (by omega) (by omega) (by omega)).mono ?_
  rintro e w' ⟨rfl, rfl⟩
  refine hK.out _ (w.drew) ⟨u4, d1, u2, d2, d3⟩ (fun hHeld => ?_)
  clear hK K
  try simp only [Act.put, List.setIfInBounds_toArray, List.set_cons_zero, List.set_cons_succ]
  refine takeY 20 _ (v := ?_) rfl rfl (by kernel_rfl) (by kernel_rfl) (by kernel_rfl) (fun _ _ _ h => h) (by kernel_rfl) ?_ (by assumption) ?_
  rotate_left 1
  · intro w hSw; (try dsimp only at hSw); go_simp; (try with_reducible rfl)
  try simp only [Act.put, List.setIfInBounds_toArray, List.set_cons_zero, List.set_cons_succ]
  refine wpAnyH_done (by kernel_rfl) ?_ _
  go_wp2_with fail
  go_ret
  exact ⟨rfl, rfl⟩

set_option maxRecDepth 100000 in
set_option maxHeartbeats 4000000 in
theorem raise1_any (lo ub bo bj g n mo bn co cm cn bp N cp : Nat) (P S : List Int) (O st : Nat → Int) (J : Nat → Bool) (L : List Nat) (w : World) (hU : US w lo ub bo bj g n mo bn co cm cn P S O J) (hC : ClP P S n) (hL : L.length = N)
    (hp : ∀ t p, L[t]? = some p → p < n ∧ w.cell? ⟨bp, t, none⟩ = some (.int .i64 (p : Int))) (hpf : Far w lo ub bo bj bp) (hB : ∀ t x, x < n → -50000000000000000 ≤ raF O st (L.take t) x ∧ raF O st (L.take t) x ≤ 50000000000000000)
    (hst : ∀ p, (∃ t : Nat, L[t]? = some p) → (-1000000000 ≤ exN P S (fun x => (woL P S (fnL O n) n)[x]?.getD 0) n p ∧ exN P S (fun x => (woL P S (fnL O n) n)[x]?.getD 0) n p < 0) ∧ (-100 ≤ meE P S n p p ∧ meE P S n p p ≤ -1) ∧ st p = qtI (-(exN P S (fun x => (woL P S (fnL O n) n)[x]?.getD 0) n p)) (-(meE P S n p p))) (hN : N ≤ 1000000) :
    Calls Try.prog 87 #[.pointer (some ⟨ub, 0, none⟩), .slice (some ⟨bp, 0, none⟩) N cp, .func (.func 88) #[.pointer (some ⟨ub, 0, none⟩)] #[]] w fun e w' => e = .returned (.tuple #[]) ∧ US w' lo ub bo bj g n mo bn co cm cn P S (raF O st L) J ∧ U3 ub bo bj w w' := by
  obtain ⟨hsta, ⟨A1, c1, A4, c4, l1, h1, l4, h4, hux, ho1, ho4, hl1, hl4⟩, hord, hjoi⟩ := hU
  have HST := Lib.hid hst
  have HS := Lib.hid hsta; have HUX := Lib.hid hux; have HO1 := Lib.hid ho1; have HO4 := Lib.hid ho4; have HOR := Lib.hid hord; have HJ := Lib.hid hjoi; have HLL := Lib.hid (And.intro hl1 hl4)
  have HP := Lib.hid hp; have HPF := Lib.hid hpf; have HB := Lib.hid hB; have HC := Lib.hid hC
  have HLN := Lib.hid hL
  have HOW0 : Hid (OwnI w bo (bo + 1) (.slice (some ⟨bo, 0, none⟩) n co) (fnL (raF O st (L.take 0)) n)) := Lib.hid (by rw [raF_zero]; exact hord)
  have HK0 : Hid (Only bo (bo + 1) w w) := Lib.hid (Only.refl _ _ _)
  have hbl := hsta.olo.2
  have hbu : ub ≠ bo := hsta.d1
  clear hsta hux ho1 ho4 hl1 hl4 hord hjoi hp hpf hB hst hC hL
  go_enter Try.func87, Try.ntmps87
  go_wp2_with fail
  go_loopw [10] (fun vi wr => ∃ (t : Nat), t ≤ N ∧ vi = .int .i64 t ∧ Hid (OwnI wr bo (bo + 1) (.slice (some ⟨bo, 0, none⟩) n co) (fnL (raF O st (L.take t)) n)) ∧ Hid (Only bo (bo + 1) w wr)) (fun vi _ => N - (intOf vi).toNat)
  case atStart => exact ⟨0, by omega, rfl, HOW0, HK0⟩
  case round =>
    obtain ⟨t, ht, rfl, how, hk⟩ := hrel
    by_cases htN : t < N
    · have htN2 : (t : Int) < (N : Int) := by omega
      obtain ⟨p, hLp⟩ : ∃ p, L[t]? = some p := ⟨L[t]'(by rw [HLN.out]; exact htN), List.getElem?_eq_getElem _⟩
      obtain ⟨hpn, hpc⟩ := HP.out t p hLp
      have d0 := (only_cell hk.out HPF.out.2.1 (by have := HPF.out.2.2.2.1; omega)).trans hpc
      have hx := HUX.out.of_block (hk.out.block ub HUX.out.lt (by omega)) hk.out.size
      have u2 := hx.c2; have u3 := hx.c3; have u4 := hx.c4
      have hpn2 : (p : Int) < (n : Int) := by omega
      obtain ⟨d, e1, hd1, hd2, hcd, hfd⟩ := own_at how.out (fnL_len _ _) hpn
      simp only [Option.some.injEq, Addr.mk.injEq, and_true] at e1
      subst e1
      rw [fnL_at hpn] at hcd
      have hb1 := HB.out t p hpn
      have hb2 := HB.out (t + 1) p hpn
      rw [raF_next hLp] at hb2
      have hup : updF (raF O st (L.take t)) p (st p) p = raF O st (L.take t) p + st p := by unfold updF; rw [if_pos rfl]
      rw [hup] at hb2
      obtain ⟨y, hy⟩ : ∃ y, raF O st (L.take t) p = y := ⟨_, rfl⟩
      obtain ⟨s, hs⟩ : ∃ s, st p = s := ⟨_, rfl⟩
      rw [hy] at hcd hb1 hb2
      rw [hs] at hb2
      have p1 : IntKind.i64.wrap (y + s) = y + s := IntWalk.i64_in _ (by omega)
      obtain ⟨be, e4, hbe1, hbe2, hce, _⟩ := own_at (HO4.out.kept (hk.out.kept (by have := HLL.out.2.2.1; omega) HO4.out.2.2)) (ecL_len _ _ _ _) hpn
      subst e4
      obtain ⟨ri, ci, hm1, hm2, hm3⟩ := HS.out.mat p hpn
      have d2 := (only_cell hk.out HS.out.mof.2.1 (by have := HS.out.mof.2.2.2.1; omega)).trans hm1
      have d3 := (only_cell hk.out hm2.2.1 (by have := hm2.2.2.2.1; omega)).trans (hm3 p hpn)
      have hsp := HST.out p ⟨t, hLp⟩
      rw [ecL_at hpn] at hce
      obtain ⟨z, hz⟩ : ∃ z, exN P S (fun x => (woL P S (fnL O n) n)[x]?.getD 0) n p = z := ⟨_, rfl⟩
      rw [hz] at hce hsp
      obtain ⟨mm, hmm⟩ : ∃ m, meE P S n p p = m := ⟨_, rfl⟩
      rw [hmm] at d3 hsp
      have HCL : Hid (Calls Try.prog 88 #[.pointer (some ⟨ub, 0, none⟩), .int .i64 p] wr.drew fun e w' => e = .returned (.int .i64 s) ∧ w' = wr.drew.drew) := Lib.hid (by
        have h7 := single_any ub be mo ri n p c4 cm ci z mm wr.drew u4 hce u2 d2 d3 hpn hsp.1 hsp.2.1
        rw [← hs, hsp.2.2]; exact h7)
      clear hce d2 d3 hm1 hm2 hm3 hz hmm hsp u2 u4
      have HNW : Hid (OwnI ((wr.drew.drew).setCell ⟨bo, p, none⟩ (.int .i64 (y + s))) bo (bo + 1) (.slice (some ⟨bo, 0, none⟩) n co) (fnL (raF O st (L.take (t + 1))) n)) := Lib.hid (by
        have h6 := own_store (w := wr.drew.drew) (j := p) how.out (fnL_len _ n) (y + s)
        rw [← hy, ← hs, fnL_set (st p) hpn, ← raF_next hLp] at h6
        rw [← hy, ← hs]; exact h6)
      have HKW : Hid (Only bo (bo + 1) w ((wr.drew.drew).setCell ⟨bo, p, none⟩ (.int .i64 (y + s)))) := Lib.hid (((hk.out.trans (only_drew _ _ wr)).trans (only_drew _ _ wr.drew)).trans (only_setU bo p _))
      clear hx hy hs how hk hup HB
      go_wp2_with fail
      refine wp_region_held_drew (S := fun w' => w'.cell? ⟨ub, 3, none⟩ = some (.slice (some ⟨bo, 0, none⟩) n co)) (by kernel_rfl) (u3) (fun hHeld => ?_)
      refine takeY 0 _ (v := ?_) rfl rfl (by kernel_rfl) (by kernel_rfl) (by kernel_rfl) (fun _ _ _ h => h) (by kernel_rfl) ?_ (by assumption) ?_
      rotate_left 1
      · intro w hSw; (try dsimp only at hSw); go_simp; (try with_reducible rfl)
      try simp only [Act.put, List.setIfInBounds_toArray, List.set_cons_zero, List.set_cons_succ]
      refine takeY 1 _ (v := ?_) rfl rfl (by kernel_rfl) (by kernel_rfl) (by kernel_rfl) (fun _ _ _ h => h) (by kernel_rfl) ?_ (by assumption) ?_
      rotate_left 1
      · intro w hSw; (try dsimp only at hSw); go_simp; (try with_reducible rfl)
      try simp only [Act.put, List.setIfInBounds_toArray, List.set_cons_zero, List.set_cons_succ]
      refine takeY 2 _ (v := ?_) rfl rfl (by kernel_rfl) (by kernel_rfl) (by kernel_rfl) (fun _ _ _ h => h) (by kernel_rfl) ?_ (by assumption) ?_
      rotate_left 1
      · intro w hSw; (try dsimp only at hSw); go_simp; (try with_reducible rfl)
      try simp only [Act.put, List.setIfInBounds_toArray, List.set_cons_zero, List.set_cons_succ]
      refine takeY 3 _ (v := ?_) rfl rfl (by kernel_rfl) (by kernel_rfl) (by kernel_rfl) (fun _ _ _ h => h) (by kernel_rfl) ?_ (by assumption) ?_
      rotate_left 1
      · intro w hSw; (try dsimp only at hSw); go_simp; (try with_reducible rfl)
      try simp only [Act.put, List.setIfInBounds_toArray, List.set_cons_zero, List.set_cons_succ]
      refine takeY 4 _ (v := ?_) rfl rfl (by kernel_rfl) (by kernel_rfl) (by kernel_rfl) (fun _ _ _ h => h) (by kernel_rfl) ?_ (by assumption) ?_
      rotate_left 1
      · intro w hSw; (try dsimp only at hSw); go_simp; (try with_reducible rfl)
      try simp only [Act.put, List.setIfInBounds_toArray, List.set_cons_zero, List.set_cons_succ]
      refine takeY 5 _ (v := ?_) rfl rfl (by kernel_rfl) (by kernel_rfl) (by kernel_rfl) (fun _ _ _ h => h) (by kernel_rfl) ?_ (by assumption) ?_
      rotate_left 1
      · intro w hSw; (try dsimp only at hSw); go_simp; (try with_reducible rfl)
      try simp only [Act.put, List.setIfInBounds_toArray, List.set_cons_zero, List.set_cons_succ]
      refine takeY 7 _ (v := ?_) rfl rfl (by kernel_rfl) (by kernel_rfl) (by kernel_rfl) (fun _ _ _ h => h) (by kernel_rfl) ?_ (by assumption) ?_
      rotate_left 1
      · intro w hSw; (try dsimp only at hSw); go_simp; (try with_reducible rfl)
      try simp only [Act.put, List.setIfInBounds_toArray, List.set_cons_zero, List.set_cons_succ]
      refine takeY 8 _ (v := ?_) rfl rfl (by kernel_rfl) (by kernel_rfl) (by kernel_rfl) (fun _ _ _ h => h) (by kernel_rfl) ?_ (by assumption) ?_
      rotate_left 1
      · intro w hSw; (try dsimp only at hSw); go_simp; (try with_reducible rfl)
      try simp only [Act.put, List.setIfInBounds_toArray, List.set_cons_zero, List.set_cons_succ]
      refine wpAnyH_ready (rs := [6, 9]) (by kernel_rfl) (by simp) ?_
      refine AllReadyH.cons rfl (fun K hK => ?_) (AllReadyH.cons rfl (fun K hK => ?_) AllReadyH.nil)
      · go_simp
        refine hK.out _ (wr.drew) u3 (fun hHeld => ?_)
        clear hK K
        try simp only [Act.put, List.setIfInBounds_toArray, List.set_cons_zero, List.set_cons_succ]
        refine wpAnyH_ready (rs := [9]) (by kernel_rfl) (by simp) ?_
        refine AllReadyH.cons rfl (fun K hK => ?_) AllReadyH.nil
        go_simp
        refine HCL.out.mono ?_
        rintro e w' ⟨rfl, rfl⟩
        refine hK.out _ (wr.drew.drew) u3 (fun hHeld => ?_)
        clear hK K
        try simp only [Act.put, List.setIfInBounds_toArray, List.set_cons_zero, List.set_cons_succ]
        refine takeY 10 _ (v := ?_) rfl rfl (by kernel_rfl) (by kernel_rfl) (by kernel_rfl) (fun _ _ _ h => h) (by kernel_rfl) ?_ (by assumption) ?_
        rotate_left 1
        · intro w hSw; (try dsimp only at hSw); go_simp; (try with_reducible rfl)
        try simp only [Act.put, List.setIfInBounds_toArray, List.set_cons_zero, List.set_cons_succ]
        refine takeY 11 _ (v := ?_) rfl rfl (by kernel_rfl) (by kernel_rfl) (by kernel_rfl) (fun _ _ _ h => h) (by kernel_rfl) ?_ (by assumption) ?_
        rotate_left 1
        · intro w hSw; (try dsimp only at hSw); go_simp; (try with_reducible rfl)
        try simp only [Act.put, List.setIfInBounds_toArray, List.set_cons_zero, List.set_cons_succ]
        refine wpAnyH_ready (rs := [12]) (by kernel_rfl) (by simp) ?_
        refine AllReadyH.cons rfl (fun K hK => ?_) AllReadyH.nil
        go_simp
        refine hK.out _ ((wr.drew.drew).setCell ⟨bo, p, none⟩ (.int .i64 (y + s))) (by go_simp) (fun hHeld => ?_)
        clear hK K
        try simp only [Act.put, List.setIfInBounds_toArray, List.set_cons_zero, List.set_cons_succ]
        refine wpAnyH_done (by kernel_rfl) ?_ _
        go_wp2_with fail
        go_roundw
        case rel => exact ⟨t + 1, by omega, by go_num, HNW, HKW⟩
        case measure => simp [intOf]; omega
      · go_simp
        refine HCL.out.mono ?_
        rintro e w' ⟨rfl, rfl⟩
        refine hK.out _ (wr.drew.drew) u3 (fun hHeld => ?_)
        clear hK K
        try simp only [Act.put, List.setIfInBounds_toArray, List.set_cons_zero, List.set_cons_succ]
        refine wpAnyH_ready (rs := [6]) (by kernel_rfl) (by simp) ?_
        refine AllReadyH.cons rfl (fun K hK => ?_) AllReadyH.nil
        go_simp
        refine hK.out _ (wr.drew.drew) u3 (fun hHeld => ?_)
        clear hK K
        try simp only [Act.put, List.setIfInBounds_toArray, List.set_cons_zero, List.set_cons_succ]
        refine takeY 10 _ (v := ?_) rfl rfl (by kernel_rfl) (by kernel_rfl) (by kernel_rfl) (fun _ _ _ h => h) (by kernel_rfl) ?_ (by assumption) ?_
        rotate_left 1
        · intro w hSw; (try dsimp only at hSw); go_simp; (try with_reducible rfl)
        try simp only [Act.put, List.setIfInBounds_toArray, List.set_cons_zero, List.set_cons_succ]
        refine takeY 11 _ (v := ?_) rfl rfl (by kernel_rfl) (by kernel_rfl) (by kernel_rfl) (fun _ _ _ h => h) (by kernel_rfl) ?_ (by assumption) ?_
        rotate_left 1
        · intro w hSw; (try dsimp only at hSw); go_simp; (try with_reducible rfl)
        try simp only [Act.put, List.setIfInBounds_toArray, List.set_cons_zero, List.set_cons_succ]
        refine wpAnyH_ready (rs := [12]) (by kernel_rfl) (by simp) ?_
        refine AllReadyH.cons rfl (fun K hK => ?_) AllReadyH.nil
        go_simp
        refine hK.out _ ((wr.drew.drew).setCell ⟨bo, p, none⟩ (.int .i64 (y + s))) (by go_simp) (fun hHeld => ?_)
        clear hK K
        try simp only [Act.put, List.setIfInBounds_toArray, List.set_cons_zero, List.set_cons_succ]
        refine wpAnyH_done (by kernel_rfl) ?_ _
        go_wp2_with fail
        go_roundw
        case rel => exact ⟨t + 1, by omega, by go_num, HNW, HKW⟩
        case measure => simp [intOf]; omega
    · obtain rfl : t = N := by omega
      have HOE : Hid (OwnI wr bo (bo + 1) (.slice (some ⟨bo, 0, none⟩) n co) (fnL (raF O st L) n)) := Lib.hid (by
        have h6 := how.out
        rw [List.take_of_length_le (by rw [HLN.out]; exact Nat.le_refl _)] at h6
        exact h6)
      have HKE := Lib.hid hk.out
      have HU0 : Hid (U3 ub bo bj w wr) := Lib.hid ⟨hk.out.os, hk.out.tape, hk.out.output, hk.out.size, fun b hb _ h2 _ => hk.out.block b hb (by omega)⟩
      have HSR : Hid (UA wr lo ub bo bj g n mo bn P S) := Lib.hid (HS.out.keep HU0.out)
      have HXR := Lib.hid (HUX.out.of_block (hk.out.block ub HUX.out.lt (by omega)) hk.out.size)
      have hgr : g < wr.heap.size := by have := HSR.out.glo; have := HSR.out.ulo; omega
      have hgu : g ≠ ub := by have := HSR.out.glo; have := HSR.out.ulo; omega
      clear how hk
      go_wp2_with fail
      refine (update_any ub g n bo co bo (bo + 1) P S (raF O st L) _ _ _ _ _ wr HXR.out HSR.out.pts hgr hgu HC.out HOE.out (fun x hx => by
        have := HB.out t x hx
        rw [List.take_of_length_le (by rw [HLN.out]; exact Nat.le_refl _)] at this; exact this)).mono ?_
      rintro e w' ⟨B1, d1, B4, d4, m, rfl, hux2, hq1, hq4, hon, hm1, hm2⟩
      have HX2 := Lib.hid hux2; have HQ1 := Lib.hid hq1; have HQ4 := Lib.hid hq4; have HON := Lib.hid hon; have HMM := Lib.hid (And.intro hm1 hm2)
      clear hux2 hq1 hq4 hon hm1 hm2
      go_wp2_with fail
      go_end0
      have hmm := HMM.out
      have HT : U3 ub bo bj w w' := HU0.out.trans (U3.ofOnly HON.out)
      have ha := HSR.out
      have h1 := ha.ulo; have h2 := ha.olo; have h3 := ha.jlo
      refine ⟨rfl, ⟨HS.out.keep HT, ⟨B1, d1, B4, d4, wr.heap.size, m, m, w'.heap.size, HX2.out, HQ1.out, HQ4.out, ⟨by omega, by omega, by omega, by omega⟩, ⟨by omega, by omega, by omega⟩⟩, ?_, ?_⟩, HT⟩
      · exact HOE.out.kept (HON.out.kept (by omega) (by omega))
      · have hjb : w'.heap[bj]? = w.heap[bj]? := by
          rw [HON.out.block bj (by omega) (by have := ha.d2; omega), HKE.out.block bj (HS.out.jlo.2) (by have := ha.d3; omega)]
        exact HJ.out.of_block hjb

end Go.Proofs.Ytjobfjgphcaoeaa
