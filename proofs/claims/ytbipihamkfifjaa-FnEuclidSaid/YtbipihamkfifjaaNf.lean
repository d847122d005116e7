/- Negative continued fractions, the model's and the program's: contracts. Conditions: stated at each theorem. -/
import Derived.Test.YtbipihamkfifjaaOwn
import Derived.Test.YtbipihamkfifjaaGcd
import Derived.OwnWalk
import Derived.Maps.AppendAt
import Derived.Deep.AppendLies
namespace Go.Proofs.Ytbipihamkfifjaa
open Go.ChangeShapes Go.WideShapes Go.ChangeAt Go.RowKit
set_option linter.unusedVariables false

theorem bool_ff (b : Bool) : b = false ∨ b = true := by cases b <;> simp
theorem Own.form {w : World} {base n : Nat} {v : Value} {xs : List Value} (h : Own w base v n xs) : ∃ A c, v = .slice A n c := by
  rcases h.2 with ⟨rfl, rfl⟩ | ⟨g, cap, cur, rfl, _⟩
  · exact ⟨none, 0, rfl⟩
  · exact ⟨_, _, rfl⟩
/-- A list of integers and a code come back; the list is new, and nothing that was there has changed. -/
def ListCode (w : World) (zs : List Int) (C : Int) (e : Ending) (w' : World) : Prop :=
  ∃ A c, e = .returned (.tuple #[.slice A zs.length c, .int .i64 C]) ∧ Own w' w.heap.size (.slice A zs.length c) zs.length (zs.map (.int .i64)) ∧ Below w.heap.size w w'
theorem ListCode.mk' {w w' : World} {L zs : List Int} {C D : Int} {A : Option Addr} {n c : Nat} (h1 : L = zs) (h2 : D = C) (h3 : zs.length = n) (h4 : Own w' w.heap.size (.slice A n c) n (zs.map (.int .i64))) (h5 : Below w.heap.size w w') :
    ListCode w L D (.returned (.tuple #[.slice A n c, .int .i64 C])) w' := by
  subst h1; subst h2; subst h3
  exact ⟨A, c, rfl, h4, h5⟩
theorem ListCode.empty {w w' : World} (C : Int) (hb : Below w.heap.size w w') : ListCode w [] C (.returned (.tuple #[.slice none 0 0, .int .i64 C])) w' :=
  ⟨none, 0, rfl, Own.nil _ _, hb⟩

/-- The negative continued fraction of a / b, none if it has more than k numbers. -/
def nfL : Nat → Int → Int → Option (List Int)
  | 0, _, b => if b ≤ 0 then some [] else none
  | k + 1, a, b => if b ≤ 0 then some [] else (nfL k b ((a + b - 1) / b * b - a)).map fun l => (a + b - 1) / b :: l
def nfA (a b : Int) : List Int := if natB a && natB b && decide (b < a) then (if Int.gcd a b = 1 then (nfL 1000 a b).getD [] else []) else []
def nfC (a b : Int) : Int := if natB a && natB b && decide (b < a) then (if Int.gcd a b = 1 then (if (nfL 1000 a b).isSome then 0 else 3) else 5) else 2
theorem nfL_len : ∀ (k : Nat) (a b : Int) (l : List Int), nfL k a b = some l → l.length ≤ k
  | 0, a, b, l, h => by
    unfold nfL at h; split at h
    · cases h; simp
    · cases h
  | k + 1, a, b, l, h => by
    unfold nfL at h
    split at h
    · cases h; simp
    · cases hx : nfL k b ((a + b - 1) / b * b - a) with
      | none => rw [hx] at h; cases h
      | some l' =>
        rw [hx] at h
        cases h
        have := nfL_len k _ _ _ hx
        simp; omega
theorem nfA_len (a b : Int) : (nfA a b).length ≤ 1000 := by
  unfold nfA
  split
  · split
    · cases h : nfL 1000 a b with
      | none => simp
      | some l => exact nfL_len _ _ _ _ h
    · simp
  · simp
theorem ceil_in {a b : Int} (ha : 1 ≤ a) (hb : 1 ≤ b) : 1 ≤ (a + b - 1) / b ∧ a ≤ (a + b - 1) / b * b ∧ (a + b - 1) / b * b ≤ a + b - 1 ∧ (a + b - 1) / b ≤ a + b - 1 := by
  have h1 := Int.ediv_mul_le (a + b - 1) (show b ≠ 0 by omega)
  have h2 := Int.lt_ediv_add_one_mul_self (a + b - 1) (show 0 < b by omega)
  have h3 : ((a + b - 1) / b + 1) * b = (a + b - 1) / b * b + b := by rw [Int.add_mul]; omega
  have h4 : 1 ≤ (a + b - 1) / b := by
    have := Int.le_ediv_of_mul_le (c := b) (a := 1) (b := a + b - 1) (by omega) (by omega)
    omega
  have h5 : (a + b - 1) / b ≤ a + b - 1 := Int.ediv_le_self _ (by omega)
  omega

set_option maxRecDepth 100000 in
theorem specNegativeFraction_any (a b : Int) (w : World) :
    Calls Try.prog 22 #[.int .i64 a, .int .i64 b] w (ListCode w (nfA a b) (nfC a b)) := by
  rcases bool_ff (natB a) with ha | ha
  · have e1 : nfA a b = [] := by simp [nfA, *]
    have e2 : nfC a b = 2 := by simp [nfC, *]
    rw [e1, e2]
    clear e1 e2
    have Ha := Lib.hid ha; clear ha
    go_enter Try.func22, Try.ntmps22
    go_wp2_with (go_at_call 63; (first | (with_reducible refine (natural_no a _ Ha.out).mono ?_)); rintro e w' ⟨rfl, rfl⟩)
    go_ret2
    exact ListCode.empty 2 (by repeat (first | exact Below.refl _ _ | apply below_drewN | apply Below.drew | (refine Below.setCell ?_ (by first | (simp; done) | (simp; omega) | omega) _) | (refine Below.alloc ?_ (by first | exact Nat.le_refl _ | (simp; done) | (simp; omega) | omega) _)))
  rcases bool_ff (natB b) with hb | hb
  · have e1 : nfA a b = [] := by simp [nfA, *]
    have e2 : nfC a b = 2 := by simp [nfC, *]
    rw [e1, e2]
    clear e1 e2
    have Ha := Lib.hid ha; clear ha
    have Hb := Lib.hid hb; clear hb
    go_enter Try.func22, Try.ntmps22
    go_wp2_with (go_at_call 63; (first | (with_reducible refine (natural_yes a _ Ha.out).mono ?_) | (with_reducible refine (natural_no b _ Hb.out).mono ?_)); rintro e w' ⟨rfl, rfl⟩)
    go_ret2
    exact ListCode.empty 2 (by repeat (first | exact Below.refl _ _ | apply below_drewN | apply Below.drew | (refine Below.setCell ?_ (by first | (simp; done) | (simp; omega) | omega) _) | (refine Below.alloc ?_ (by first | exact Nat.le_refl _ | (simp; done) | (simp; omega) | omega) _)))
  have ia := natB_true.1 ha
  have ib := natB_true.1 hb
  by_cases hab : b < a
  rotate_left
  · have e1 : nfA a b = [] := by simp [nfA, *]
    have e2 : nfC a b = 2 := by simp [nfC, *]
    rw [e1, e2]
    clear e1 e2
    have Ha := Lib.hid ha; clear ha
    have Hb := Lib.hid hb; clear hb
    go_enter Try.func22, Try.ntmps22
    go_wp2_with (go_at_call 63; (first | (with_reducible refine (natural_yes a _ Ha.out).mono ?_) | (with_reducible refine (natural_yes b _ Hb.out).mono ?_)); rintro e w' ⟨rfl, rfl⟩)
    go_ret2
    exact ListCode.empty 2 (by repeat (first | exact Below.refl _ _ | apply below_drewN | apply Below.drew | (refine Below.setCell ?_ (by first | (simp; done) | (simp; omega) | omega) _) | (refine Below.alloc ?_ (by first | exact Nat.le_refl _ | (simp; done) | (simp; omega) | omega) _)))
  by_cases hg : Int.gcd a b = 1
  rotate_left
  · have TT : ((Int.gcd a b : Int) == 1) = false := by simp; omega
    have TU : ((Int.gcd a b : Int) != 1) = true := by simp; omega
    have e1 : nfA a b = [] := by simp [nfA, *]
    have e2 : nfC a b = 5 := by simp [nfC, *]
    rw [e1, e2]
    clear e1 e2
    have Ha := Lib.hid ha; clear ha
    have Hb := Lib.hid hb; clear hb
    clear hg
    go_enter Try.func22, Try.ntmps22
    go_wp2_with (first | (go_at_call 63; (first | (with_reducible refine (natural_yes a _ Ha.out).mono ?_) | (with_reducible refine (natural_yes b _ Hb.out).mono ?_)); rintro e w' ⟨rfl, rfl⟩) | (go_at_call 70; refine (l01Gcd_any a b _ (by omega) (by omega) (by omega) (by omega)).mono ?_; rintro e w' ⟨rfl, rfl⟩))
    go_ret2
    exact ListCode.empty 5 (by repeat (first | exact Below.refl _ _ | apply below_drewN | apply Below.drew | (refine Below.setCell ?_ (by first | (simp; done) | (simp; omega) | omega) _) | (refine Below.alloc ?_ (by first | exact Nat.le_refl _ | (simp; done) | (simp; omega) | omega) _)))
  have E1 : Hid (nfA a b = (nfL 1000 a b).getD []) := Lib.hid (by simp [nfA, *])
  have E2 : Hid (nfC a b = if (nfL 1000 a b).isSome then 0 else 3) := Lib.hid (by simp [nfC, *])
  have TT : ((Int.gcd a b : Int) == 1) = true := by simp; omega
  have TU : ((Int.gcd a b : Int) != 1) = false := by simp; omega
  have Ha := Lib.hid ha; clear ha
  have Hb := Lib.hid hb; clear hb
  clear hg
  obtain ⟨i0, hi0, hz0, hz1, hz2⟩ := info_parts int_info
  go_enter Try.func22, Try.ntmps22
  go_wp2_with (first | (go_at_call 63; (first | (with_reducible refine (natural_yes a _ Ha.out).mono ?_) | (with_reducible refine (natural_yes b _ Hb.out).mono ?_)); rintro e w' ⟨rfl, rfl⟩) | (go_at_call 70; refine (l01Gcd_any a b _ (by omega) (by omega) (by omega) (by omega)).mono ?_; rintro e w' ⟨rfl, rfl⟩))
  clear TT TU
  have HO : Hid (Own (w.alloc (.cells #[] 2)) w.heap.size (.slice (some ⟨w.heap.size, 0, none⟩) 0 0) 0 (([] : List Int).map (.int .i64))) := Lib.hid (World.ownsRow_lit w #[] 0 (Nat.le_refl _) (by simp [maxLen]) rfl)
  have hB0 : Below w.heap.size w (w.alloc (.cells #[] 2)) := (Below.refl _ _).alloc (Nat.le_refl _) _
  go_loopw [0, 1, 6] (fun vx vy vo wr => ∃ (x y : Int) (j : Nat) (zs : List Int) (A : Option Addr) (c : Nat), (1 ≤ x ∧ x ≤ 1000000000) ∧ (0 ≤ y ∧ y ≤ 1000000000) ∧ j ≤ 1000 ∧ Hid (zs.length = j) ∧ Hid (nfL 1000 a b = (nfL (1000 - j) x y).map fun l => zs ++ l) ∧ vx = .int .i64 x ∧ vy = .int .i64 y ∧ vo = .slice A j c ∧ Hid (Own wr w.heap.size (.slice A j c) j (zs.map (.int .i64))) ∧ Below w.heap.size w wr) (fun _ vy _ _ => (intOf vy).toNat)
  case atStart => exact ⟨a, b, 0, [], _, _, by omega, by omega, by omega, Lib.hid rfl, Lib.hid (by simp), rfl, rfl, rfl, HO, hB0⟩
  case round =>
    obtain ⟨x, y, j, zs, A, c, hx, hy, hj, hl, hg, rfl, rfl, rfl, ho, hb⟩ := hrel
    by_cases hy0 : 0 < y
    rotate_left
    · obtain rfl : y = 0 := by omega
      have Z : nfL 1000 a b = some zs := by
        rw [hg.out]; cases (1000 - j) <;> simp [nfL]
      have R1 : Hid (nfA a b = zs) := Lib.hid (by rw [E1.out, Z]; rfl)
      have R2 : Hid (nfC a b = 0) := Lib.hid (by rw [E2.out, Z]; rfl)
      clear Z hg
      go_wp2
      go_ret2
      exact ListCode.mk' R1.out R2.out hl.out ho.out hb
    have hc := ceil_in hx.1 (show 1 ≤ y by omega)
    by_cases hj2 : j < 1000
    rotate_left
    · have hj3 : 1000 ≤ (j : Int) := by omega
      have hjeq : ((j : Int) == 1000) = true := by simp; omega
      have Z : nfL 1000 a b = none := by
        rw [hg.out, show 1000 - j = 0 by omega]; unfold nfL; rw [if_neg (by omega)]; rfl
      have R1 : Hid (nfA a b = []) := Lib.hid (by rw [E1.out, Z]; rfl)
      have R2 : Hid (nfC a b = 3) := Lib.hid (by rw [E2.out, Z]; rfl)
      clear Z hg
      go_wp2_with (at_builtin; refine wpList_append_own _ rfl _ _ 29 rfl w.heap.size 2 i0 (.int .i64 0) 1 8 Try.underlying29 hi0 hz0 hz1 hz2 rfl ?_ _ j (zs.map (.int .i64)) rfl (World.ownsRow.alloc ho.out _) ⟨wr.heap.size, 0, none⟩ 1 1 [.int .i64 ((x + y - 1) / y)] rfl rfl ?_ ?_ ?_ ?_ ?_ ?_; (decide); (exact World.news_of_block (cs := #[.int .i64 ((x + y - 1) / y)]) (t := 2) (fr := (0, 0)) (heap_alloc_new wr _)); (simp [Value.oneCell']); (simp [maxLen]; omega); (omega); (have := hb.size; simp; omega); intro v1 w1 hown1 hgrow _; obtain ⟨A1, c1, rfl⟩ := Own.form hown1; have HO1 : Hid (Own w1 w.heap.size (.slice A1 (j + 1) c1) (j + 1) ((zs ++ [(x + y - 1) / y]).map (.int .i64))) := Lib.hid (by rw [List.map_append]; exact hown1); have hb1 : Below w.heap.size w w1 := (hb.alloc hb.size _).grown hgrow (by have := hb.size; simp; omega) (fun k hk => (Own.lt ho.out k hk).1); clear hown1 hgrow)
      go_ret2
      exact ListCode.mk' (zs := []) R1.out R2.out rfl (Own.nil _ _) hb1
    have HG : Hid (nfL 1000 a b = (nfL (1000 - (j + 1)) y ((x + y - 1) / y * y - x)).map fun l => (zs ++ [(x + y - 1) / y]) ++ l) := Lib.hid (by
      rw [hg.out, show 1000 - j = (1000 - (j + 1)) + 1 by omega]
      conv => lhs; unfold nfL
      rw [if_neg (by omega), Option.map_map]
      congr 1; funext l; simp)
    have hjne : ((j : Int) == 1000) = false := by simp; omega
    have hjlt : (j : Int) + 1 ≤ 1000 := by omega
    clear hg
    go_wp2_with (at_builtin; refine wpList_append_own _ rfl _ _ 29 rfl w.heap.size 2 i0 (.int .i64 0) 1 8 Try.underlying29 hi0 hz0 hz1 hz2 rfl ?_ _ j (zs.map (.int .i64)) rfl (World.ownsRow.alloc ho.out _) ⟨wr.heap.size, 0, none⟩ 1 1 [.int .i64 ((x + y - 1) / y)] rfl rfl ?_ ?_ ?_ ?_ ?_ ?_; (decide); (exact World.news_of_block (cs := #[.int .i64 ((x + y - 1) / y)]) (t := 2) (fr := (0, 0)) (heap_alloc_new wr _)); (simp [Value.oneCell']); (simp [maxLen]; omega); (omega); (have := hb.size; simp; omega); intro v1 w1 hown1 hgrow _; obtain ⟨A1, c1, rfl⟩ := Own.form hown1; have HO1 : Hid (Own w1 w.heap.size (.slice A1 (j + 1) c1) (j + 1) ((zs ++ [(x + y - 1) / y]).map (.int .i64))) := Lib.hid (by rw [List.map_append]; exact hown1); have hb1 : Below w.heap.size w w1 := (hb.alloc hb.size _).grown hgrow (by have := hb.size; simp; omega) (fun k hk => (Own.lt ho.out k hk).1); clear hown1 hgrow)
    go_roundw
    case rel => exact ⟨y, (x + y - 1) / y * y - x, j + 1, zs ++ [(x + y - 1) / y], A1, c1, by omega, by omega, by omega, Lib.hid (by simp [hl.out]), HG, rfl, rfl, rfl, HO1, hb1⟩
    case measure => simp [intOf]; omega

set_option maxRecDepth 100000 in
theorem implNegativeFraction_any (a b : Int) (w : World) :
    Calls Try.prog 21 #[.int .i64 a, .int .i64 b] w (ListCode w (nfA a b) (nfC a b)) := by
  rcases bool_ff (natB a) with ha | ha
  · have e1 : nfA a b = [] := by simp [nfA, *]
    have e2 : nfC a b = 2 := by simp [nfC, *]
    rw [e1, e2]
    clear e1 e2
    have Ha := Lib.hid ha; clear ha
    go_enter Try.func21, Try.ntmps21
    go_wp2_with (go_at_call 62; (first | (with_reducible refine (isNatural_no a _ Ha.out).mono ?_)); rintro e w' ⟨rfl, rfl⟩)
    go_ret2
    exact ListCode.empty 2 (by repeat (first | exact Below.refl _ _ | apply below_drewN | apply Below.drew | (refine Below.setCell ?_ (by first | (simp; done) | (simp; omega) | omega) _) | (refine Below.alloc ?_ (by first | exact Nat.le_refl _ | (simp; done) | (simp; omega) | omega) _)))
  rcases bool_ff (natB b) with hb | hb
  · have e1 : nfA a b = [] := by simp [nfA, *]
    have e2 : nfC a b = 2 := by simp [nfC, *]
    rw [e1, e2]
    clear e1 e2
    have Ha := Lib.hid ha; clear ha
    have Hb := Lib.hid hb; clear hb
    go_enter Try.func21, Try.ntmps21
    go_wp2_with (go_at_call 62; (first | (with_reducible refine (isNatural_yes a _ Ha.out).mono ?_) | (with_reducible refine (isNatural_no b _ Hb.out).mono ?_)); rintro e w' ⟨rfl, rfl⟩)
    go_ret2
    exact ListCode.empty 2 (by repeat (first | exact Below.refl _ _ | apply below_drewN | apply Below.drew | (refine Below.setCell ?_ (by first | (simp; done) | (simp; omega) | omega) _) | (refine Below.alloc ?_ (by first | exact Nat.le_refl _ | (simp; done) | (simp; omega) | omega) _)))
  have ia := natB_true.1 ha
  have ib := natB_true.1 hb
  by_cases hab : b < a
  rotate_left
  · have e1 : nfA a b = [] := by simp [nfA, *]
    have e2 : nfC a b = 2 := by simp [nfC, *]
    rw [e1, e2]
    clear e1 e2
    have Ha := Lib.hid ha; clear ha
    have Hb := Lib.hid hb; clear hb
    go_enter Try.func21, Try.ntmps21
    go_wp2_with (go_at_call 62; (first | (with_reducible refine (isNatural_yes a _ Ha.out).mono ?_) | (with_reducible refine (isNatural_yes b _ Hb.out).mono ?_)); rintro e w' ⟨rfl, rfl⟩)
    go_ret2
    exact ListCode.empty 2 (by repeat (first | exact Below.refl _ _ | apply below_drewN | apply Below.drew | (refine Below.setCell ?_ (by first | (simp; done) | (simp; omega) | omega) _) | (refine Below.alloc ?_ (by first | exact Nat.le_refl _ | (simp; done) | (simp; omega) | omega) _)))
  by_cases hg : Int.gcd a b = 1
  rotate_left
  · have TT : ((Int.gcd a b : Int) == 1) = false := by simp; omega
    have TU : ((Int.gcd a b : Int) != 1) = true := by simp; omega
    have e1 : nfA a b = [] := by simp [nfA, *]
    have e2 : nfC a b = 5 := by simp [nfC, *]
    rw [e1, e2]
    clear e1 e2
    have Ha := Lib.hid ha; clear ha
    have Hb := Lib.hid hb; clear hb
    clear hg
    go_enter Try.func21, Try.ntmps21
    go_wp2_with (first | (go_at_call 62; (first | (with_reducible refine (isNatural_yes a _ Ha.out).mono ?_) | (with_reducible refine (isNatural_yes b _ Hb.out).mono ?_)); rintro e w' ⟨rfl, rfl⟩) | (go_at_call 66; refine (greatest_any a b _ (by omega) (by omega) (by omega) (by omega)).mono ?_; rintro e w' ⟨rfl, nd, rfl⟩))
    go_ret2
    exact ListCode.empty 5 (by repeat (first | exact Below.refl _ _ | apply below_drewN | apply Below.drew | (refine Below.setCell ?_ (by first | (simp; done) | (simp; omega) | omega) _) | (refine Below.alloc ?_ (by first | exact Nat.le_refl _ | (simp; done) | (simp; omega) | omega) _)))
  have E1 : Hid (nfA a b = (nfL 1000 a b).getD []) := Lib.hid (by simp [nfA, *])
  have E2 : Hid (nfC a b = if (nfL 1000 a b).isSome then 0 else 3) := Lib.hid (by simp [nfC, *])
  have TT : ((Int.gcd a b : Int) == 1) = true := by simp; omega
  have TU : ((Int.gcd a b : Int) != 1) = false := by simp; omega
  have Ha := Lib.hid ha; clear ha
  have Hb := Lib.hid hb; clear hb
  clear hg
  obtain ⟨i0, hi0, hz0, hz1, hz2⟩ := info_parts int_info
  go_enter Try.func21, Try.ntmps21
  go_wp2_with (first | (go_at_call 62; (first | (with_reducible refine (isNatural_yes a _ Ha.out).mono ?_) | (with_reducible refine (isNatural_yes b _ Hb.out).mono ?_)); rintro e w' ⟨rfl, rfl⟩) | (go_at_call 66; refine (greatest_any a b _ (by omega) (by omega) (by omega) (by omega)).mono ?_; rintro e w' ⟨rfl, nd, rfl⟩))
  clear TT TU
  have HO : Hid (Own (w.drewN nd) w.heap.size (.slice none 0 0) 0 (([] : List Int).map (.int .i64))) := Lib.hid (Own.nil _ _)
  have hB0 : Below w.heap.size w (w.drewN nd) := below_drewN (Below.refl _ _) _
  go_loopw [0, 1, 6] (fun vx vy vo wr => ∃ (x y : Int) (j : Nat) (zs : List Int) (A : Option Addr) (c : Nat), (1 ≤ x ∧ x ≤ 1000000000) ∧ (0 ≤ y ∧ y ≤ 1000000000) ∧ j ≤ 1000 ∧ Hid (zs.length = j) ∧ Hid (nfL 1000 a b = (nfL (1000 - j) x y).map fun l => zs ++ l) ∧ vx = .int .i64 x ∧ vy = .int .i64 y ∧ vo = .slice A j c ∧ Hid (Own wr w.heap.size (.slice A j c) j (zs.map (.int .i64))) ∧ Below w.heap.size w wr) (fun _ vy _ _ => (intOf vy).toNat)
  case atStart => exact ⟨a, b, 0, [], _, _, by omega, by omega, by omega, Lib.hid rfl, Lib.hid (by simp), rfl, rfl, rfl, HO, hB0⟩
  case round =>
    obtain ⟨x, y, j, zs, A, c, hx, hy, hj, hl, hg, rfl, rfl, rfl, ho, hb⟩ := hrel
    by_cases hy0 : 0 < y
    rotate_left
    · obtain rfl : y = 0 := by omega
      have Z : nfL 1000 a b = some zs := by
        rw [hg.out]; cases (1000 - j) <;> simp [nfL]
      have R1 : Hid (nfA a b = zs) := Lib.hid (by rw [E1.out, Z]; rfl)
      have R2 : Hid (nfC a b = 0) := Lib.hid (by rw [E2.out, Z]; rfl)
      clear Z hg
      go_wp2
      go_ret2
      exact ListCode.mk' R1.out R2.out hl.out ho.out hb
    have hc := ceil_in hx.1 (show 1 ≤ y by omega)
    by_cases hj2 : j < 1000
    rotate_left
    · have hj3 : 1000 ≤ (j : Int) := by omega
      have hjeq : ((j : Int) == 1000) = true := by simp; omega
      have Z : nfL 1000 a b = none := by
        rw [hg.out, show 1000 - j = 0 by omega]; unfold nfL; rw [if_neg (by omega)]; rfl
      have R1 : Hid (nfA a b = []) := Lib.hid (by rw [E1.out, Z]; rfl)
      have R2 : Hid (nfC a b = 3) := Lib.hid (by rw [E2.out, Z]; rfl)
      clear Z hg
      go_wp2
      go_ret2
      exact ListCode.mk' (zs := []) R1.out R2.out rfl (Own.nil _ _) hb
    have HG : Hid (nfL 1000 a b = (nfL (1000 - (j + 1)) y ((x + y - 1) / y * y - x)).map fun l => (zs ++ [(x + y - 1) / y]) ++ l) := Lib.hid (by
      rw [hg.out, show 1000 - j = (1000 - (j + 1)) + 1 by omega]
      conv => lhs; unfold nfL
      rw [if_neg (by omega), Option.map_map]
      congr 1; funext l; simp)
    have hjne : ((j : Int) == 1000) = false := by simp; omega
    have hjlt : (j : Int) + 1 ≤ 1000 := by omega
    clear hg
    go_wp2_with (at_builtin; refine wpList_append_own _ rfl _ _ 29 rfl w.heap.size 2 i0 (.int .i64 0) 1 8 Try.underlying29 hi0 hz0 hz1 hz2 rfl ?_ _ j (zs.map (.int .i64)) rfl (World.ownsRow.alloc ho.out _) ⟨wr.heap.size, 0, none⟩ 1 1 [.int .i64 ((x + y - 1) / y)] rfl rfl ?_ ?_ ?_ ?_ ?_ ?_; (decide); (exact World.news_of_block (cs := #[.int .i64 ((x + y - 1) / y)]) (t := 2) (fr := (0, 0)) (heap_alloc_new wr _)); (simp [Value.oneCell']); (simp [maxLen]; omega); (omega); (have := hb.size; simp; omega); intro v1 w1 hown1 hgrow _; obtain ⟨A1, c1, rfl⟩ := Own.form hown1; have HO1 : Hid (Own w1 w.heap.size (.slice A1 (j + 1) c1) (j + 1) ((zs ++ [(x + y - 1) / y]).map (.int .i64))) := Lib.hid (by rw [List.map_append]; exact hown1); have hb1 : Below w.heap.size w w1 := (hb.alloc hb.size _).grown hgrow (by have := hb.size; simp; omega) (fun k hk => (Own.lt ho.out k hk).1); clear hown1 hgrow)
    go_roundw
    case rel => exact ⟨y, (x + y - 1) / y * y - x, j + 1, zs ++ [(x + y - 1) / y], A1, c1, by omega, by omega, by omega, Lib.hid (by simp [hl.out]), HG, rfl, rfl, rfl, HO1, hb1⟩
    case measure => simp [intOf]; omega
end Go.Proofs.Ytbipihamkfifjaa
