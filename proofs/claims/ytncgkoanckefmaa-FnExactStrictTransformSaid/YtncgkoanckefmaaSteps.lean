/- The steps of two natural numbers, the model's and the program's: contracts. Conditions: stated at each theorem. -/
import Derived.Test.YtncgkoanckefmaaOwnSS
import Derived.Test.YtncgkoanckefmaaGcd
import Derived.Maps.AppendAt
import Derived.Deep.AppendLies
namespace Go.Proofs.Ytncgkoanckefmaa
open Go.ChangeShapes Go.WideShapes Go.ChangeAt Go.RowKit
set_option linter.unusedVariables false

theorem bool_fs (b : Bool) : b = false ∨ b = true := by cases b <;> simp
theorem ints_info : (Try.prog.info? 22).map (fun i => (i.zero, i.size, i.bytes)) = some (some (.slice none 0 0), 1, 24) := by kernel_rfl
/-- The steps of a and b, with more fuel than b. -/
def stL : Nat → Int → Int → List (Int × Int)
  | 0, _, _ => []
  | f + 1, a, b => if b ≤ 0 then [] else (a / b, b) :: stL f b (a % b)
def steps (a b : Int) : List (Int × Int) := stL (b.toNat + 1) a b
theorem stL_len : ∀ (f : Nat) (a b : Int), (stL f a b).length ≤ f
  | 0, _, _ => by simp [stL]
  | f + 1, a, b => by
    unfold stL; split
    · simp
    · have := stL_len f b (a % b); simp; omega
/-- The lists {q, r} of steps. -/
def stF (L : List (Int × Int)) (i : Nat) : List Int := [(L[i]?.getD (0, 0)).1, (L[i]?.getD (0, 0)).2]
theorem stF_len (L : List (Int × Int)) (i : Nat) : (stF L i).length = 2 := rfl
def two (_ : Nat) : Nat := 2
theorem off_two (n : Nat) : off two n = 2 * n := by
  induction n with
  | zero => rfl
  | succ n ih => show off two n + 2 = _; omega

theorem Own.form29 {w : World} {base n : Nat} {v : Value} {xs : List Value} {t : TypeId} (h : w.ownsRow base t 1 v n xs) : ∃ A c, v = .slice A n c := by
  rcases h.2 with ⟨rfl, rfl⟩ | ⟨g, cap, cur, rfl, _⟩
  · exact ⟨none, 0, rfl⟩
  · exact ⟨_, _, rfl⟩
theorem range_snoc (vf : Nat → Value) (v : Value) (n : Nat) : (List.range n).map vf ++ [v] = (List.range (n + 1)).map fun i => if i = n then v else vf i := by
  rw [List.range_succ, List.map_append]
  congr 1
  · apply List.map_congr_left
    intro i hi
    have : i < n := by simpa using hi
    rw [if_neg (by omega)]
  · simp
/-- One more slice of two numbers, behind an append. -/
theorem OwnSS.push2 {w w1 : World} {base n c : Nat} {A : Option Addr} {vf : Nat → Value} {xf : Nat → List Value} (h : OwnSS w base A n c vf two xf) (x y : Value) (hb : base ≤ w.heap.size) {A1 : Option Addr} {c1 : Nat} {o : Obj}
    (h1 : w1.ownsRow base 22 1 (.slice A1 (n + 1) c1) (n + 1) ((List.range n).map vf ++ [.slice (some ⟨w.heap.size, 0, none⟩) 2 2]))
    (hg : ((w.alloc (.cells #[x, y] 2)).alloc o).grownBy w1 (Value.slice A n c).ownBlock) :
    OwnSS w1 base A1 (n + 1) c1 (fun i => if i = n then .slice (some ⟨w.heap.size, 0, none⟩) 2 2 else vf i) two (fun i => if i = n then [x, y] else xf i) := by
  have hlt : ∀ i, i < n → ∀ k, (vf i).ownBlock = some k → k < w.heap.size := fun i hi k hk => ((h.inner i hi).lt k hk).2
  have hold : ∀ i, i < n → Own w1 base (vf i) 2 (xf i) := fun i hi =>
    (((h.inner i hi).kept (World.grownBy_alloc w _ none) (by cases (vf i).ownBlock <;> simp)).kept (World.grownBy_alloc _ _ none) (by cases (vf i).ownBlock <;> simp)).kept hg (block_type (h.inner i hi) h.outer (by decide))
  have hnew : Own w1 base (.slice (some ⟨w.heap.size, 0, none⟩) 2 2) 2 [x, y] := by
    have e : Own (w.alloc (.cells #[x, y] 2)) base (.slice (some ⟨w.heap.size, 0, none⟩) 2 2) 2 [x, y] := World.ownsRow_lit w #[x, y] 2 hb (by simp [maxLen]) rfl
    refine (e.kept (World.grownBy_alloc _ o none) (by simp [Value.ownBlock])).kept hg (.inr fun e' => ?_)
    have := World.ownsRow.lt h.outer w.heap.size e'.symm
    omega
  refine ⟨?_, ?_, ?_, ?_⟩
  · rw [← range_snoc]; exact h1
  · intro i hi
    by_cases e : i = n
    · exact ⟨_, _, if_pos e⟩
    · simp only [if_neg e]; exact h.form i (by omega)
  · intro i hi
    by_cases e : i = n
    · simp only [if_pos e]; exact hnew
    · simp only [if_neg e]; exact hold i (by omega)
  · intro i j hi hj hij
    by_cases e : i = n
    · have e2 : j ≠ n := by omega
      simp only [if_pos e, if_neg e2]
      refine .inr fun e' => ?_
      have := hlt j (by omega) w.heap.size e'.symm
      omega
    · by_cases e2 : j = n
      · simp only [if_neg e, if_pos e2]
        cases ek : (vf i).ownBlock with
        | none => exact .inl rfl
        | some k =>
          refine .inr fun e' => ?_
          have := hlt i (by omega) k ek
          simp only [Value.ownBlock, Option.some.injEq] at e'
          omega
      · simp only [if_neg e, if_neg e2]; exact h.apart i j (by omega) (by omega) hij

def StepsPost (w : World) (L : List (Int × Int)) (e : Ending) (w' : World) : Prop :=
  ∃ A c vf, e = .returned (.slice A L.length c) ∧ OwnSS w' w.heap.size A L.length c vf two (fun i => (stF L i).map (.int .i64)) ∧ Below w.heap.size w w'
theorem StepsPost.mk' {w w' : World} {L M : List (Int × Int)} {A : Option Addr} {n c : Nat} {vf : Nat → Value} (h1 : L = M) (h2 : M.length = n) (h3 : OwnSS w' w.heap.size A n c vf two (fun i => (stF M i).map (.int .i64))) (h4 : Below w.heap.size w w') : StepsPost w L (.returned (.slice A n c)) w' := by
  subst h1; subst h2; exact ⟨A, c, vf, rfl, h3, h4⟩
theorem l01Steps_any (a b : Int) (w : World) (ha : 1 ≤ a ∧ a ≤ 1000000000) (hb : 1 ≤ b ∧ b ≤ 1000000000) :
    Calls Try.prog 123 #[.int .i64 a, .int .i64 b] w (StepsPost w (steps a b)) := by
  go_enter Try.func123, Try.ntmps123
  go_wp2
  have HO : Hid (OwnSS (w.alloc (.cells #[] 22)) w.heap.size (some ⟨w.heap.size, 0, none⟩) 0 0 (fun _ => .slice none 0 0) two fun i => (stF [] i).map (.int .i64)) := Lib.hid ⟨World.ownsRow_lit w #[] 0 (Nat.le_refl _) (by simp [maxLen]) rfl, fun i h => by omega, fun i h => by omega, fun i j h => by omega⟩
  have hB0 : Below w.heap.size w (w.alloc (.cells #[] 22)) := (Below.refl _ _).alloc (Nat.le_refl _) _

  go_loopw [0, 1, 5] (fun vx vy vo wr => ∃ (x y : Int) (j f : Nat) (L : List (Int × Int)) (A : Option Addr) (c : Nat) (vf : Nat → Value), (1 ≤ x ∧ x ≤ 1000000000) ∧ (0 ≤ y ∧ y ≤ 1000000000) ∧ (y.toNat < f ∧ j + f ≤ 1000000001) ∧ Hid (L.length = j) ∧ Hid (steps a b = L ++ stL f x y) ∧ vx = .int .i64 x ∧ vy = .int .i64 y ∧ vo = .slice A j c ∧ Hid (OwnSS wr w.heap.size A j c vf two fun i => (stF L i).map (.int .i64)) ∧ Below w.heap.size w wr) (fun _ vy _ _ => (intOf vy).toNat)
  case atStart => exact ⟨a, b, 0, b.toNat + 1, [], _, _, fun _ => .slice none 0 0, by omega, by omega, by omega, Lib.hid rfl, Lib.hid rfl, rfl, rfl, rfl, HO, hB0⟩
  case round =>
    obtain ⟨x, y, j, f, L, A, c, vf, hx, hy, hf, hl, hg, rfl, rfl, rfl, ho, hb⟩ := hrel
    obtain ⟨f, rfl⟩ : ∃ k, f = k + 1 := ⟨f - 1, by omega⟩
    by_cases hy0 : 0 < y
    rotate_left
    · obtain rfl : y = 0 := by omega
      have Z : Hid (steps a b = L) := Lib.hid (by rw [hg.out]; simp [stL])
      clear hg
      go_wp2
      go_ret
      exact StepsPost.mk' Z.out hl.out ho.out hb
    · have hm : 0 ≤ x % y ∧ x % y < y := ⟨Int.emod_nonneg _ (by omega), Int.emod_lt_of_pos _ hy0⟩
      have hq : 0 ≤ x / y ∧ x / y ≤ x := ⟨Int.ediv_nonneg (by omega) (by omega), Int.ediv_le_self _ (by omega)⟩
      have HG : Hid (steps a b = (L ++ [(x / y, y)]) ++ stL f y (x % y)) := Lib.hid (by
        rw [hg.out]; conv => lhs; unfold stL
        rw [if_neg (by omega)]; simp)
      clear hg
      obtain ⟨i0, hi0, hz0, hz1, hz2⟩ := info_parts ints_info
      go_wp2_with (at_builtin; refine wpList_append_own _ rfl _ _ 51 rfl w.heap.size 22 i0 (.slice none 0 0) 1 24 Try.underlying51 hi0 hz0 hz1 hz2 rfl ?_ _ j ((List.range j).map vf) rfl (World.ownsRow.alloc (World.ownsRow.alloc ho.out.outer _) _) ⟨wr.heap.size + 1, 0, none⟩ 1 1 [.slice (some ⟨wr.heap.size, 0, none⟩) 2 2] rfl rfl ?_ ?_ ?_ ?_ ?_ ?_; (decide); (exact World.news_of_block (cs := #[.slice (some ⟨wr.heap.size, 0, none⟩) 2 2]) (t := 22) (fr := (0, 0)) (heap_alloc2_new wr _ _)); (simp [Value.oneCell']); (simp only [maxLen]; omega); (omega); (have := hb.size; simp; omega); intro v1 w1 hown1 hgrow _; obtain ⟨A1, c1, rfl⟩ := Own.form29 hown1; have HO1 := Lib.hid (ho.out.push2 (.int .i64 (x / y)) (.int .i64 y) hb.size hown1 hgrow); have hb1 : Below w.heap.size w w1 := ((hb.alloc hb.size _).alloc (by have := hb.size; simp; omega) _).grown hgrow (by have := hb.size; simp; omega) (fun k hk => (World.ownsRow.lt ho.out.outer k hk).1); clear hown1 hgrow)
      go_roundw
      case rel =>
        refine ⟨y, x % y, j + 1, f, L ++ [(x / y, y)], A1, c1, (fun i => if i = j then .slice (some ⟨wr.heap.size, 0, none⟩) 2 2 else vf i), by omega, by omega, by omega, Lib.hid (by simp [hl.out]), HG, rfl, rfl, rfl, Lib.hid ?_, hb1⟩
        have e : (fun i => (stF (L ++ [(x / y, y)]) i).map (Value.int .i64)) = fun i => if i = j then [.int .i64 (x / y), .int .i64 y] else (stF L i).map (.int .i64) := by
          funext i
          have hlj := hl.out
          by_cases e : i = j
          · subst e; rw [if_pos rfl]; simp [stF, ← hlj]
          · rw [if_neg e]
            by_cases e2 : i < j
            · simp [stF, List.getElem?_append_left (show i < L.length by omega)]
            · have e3 : (L ++ [(x / y, y)])[i]? = none := List.getElem?_eq_none (by simp; omega)
              have e4 : L[i]? = none := List.getElem?_eq_none (by omega)
              simp [stF, e3, e4]
        rw [e]
        exact HO1.out
      case measure => simp [intOf]; omega

/-- Steps and a code come back. -/
def StepsCode (w : World) (L : List (Int × Int)) (C : Int) (e : Ending) (w' : World) : Prop :=
  ∃ A c vf, e = .returned (.tuple #[.slice A L.length c, .int .i64 C]) ∧ OwnSS w' w.heap.size A L.length c vf two (fun i => (stF L i).map (.int .i64)) ∧ Below w.heap.size w w'
theorem StepsCode.mk' {w w' : World} {L M : List (Int × Int)} {C D : Int} {A : Option Addr} {n c : Nat} {vf : Nat → Value} (h1 : L = M) (h0 : D = C) (h2 : M.length = n) (h3 : OwnSS w' w.heap.size A n c vf two (fun i => (stF M i).map (.int .i64))) (h4 : Below w.heap.size w w') : StepsCode w L D (.returned (.tuple #[.slice A n c, .int .i64 C])) w' := by
  subst h1; subst h2; subst h0; exact ⟨A, c, vf, rfl, h3, h4⟩
theorem StepsCode.empty {w w' : World} {L : List (Int × Int)} {D : Int} (C : Int) (h1 : L = []) (h0 : D = C) (hb : Below w.heap.size w w') : StepsCode w L D (.returned (.tuple #[.slice none 0 0, .int .i64 C])) w' :=
  StepsCode.mk' (M := []) (vf := fun _ => .slice none 0 0) h1 h0 rfl (OwnSS.nil _ _ _ _ _) hb
def esA (a b : Int) : List (Int × Int) := if natB a && natB b then steps a b else []
def esC (a b : Int) : Int := if natB a && natB b then 0 else 2
theorem esA_len (a b : Int) : (esA a b).length ≤ 1000000001 := by
  unfold esA
  by_cases h : (natB a && natB b) = true
  · rw [if_pos h]
    simp only [Bool.and_eq_true] at h
    have := natB_true.1 h.2
    have := stL_len (b.toNat + 1) a b
    unfold steps; omega
  · rw [if_neg h]; simp

theorem implEuclidSteps_any (a b : Int) (w : World) :
    Calls Try.prog 119 #[.int .i64 a, .int .i64 b] w (StepsCode w (esA a b) (esC a b)) := by
  rcases bool_fs (natB a) with ha0 | ha0
  · have e1 : Hid (esA a b = []) := Lib.hid (by simp [esA, *])
    have e2 : Hid (esC a b = 2) := Lib.hid (by simp [esC, *])
    have Ha := Lib.hid ha0
    clear ha0
    go_enter Try.func119, Try.ntmps119
    go_wp2_with (go_at_call 128; (first | (with_reducible refine (isNatural_no a _ Ha.out).mono ?_)); rintro e w' ⟨rfl, rfl⟩)
    go_ret2
    exact StepsCode.empty 2 e1.out e2.out (Below.refl _ _)
  rcases bool_fs (natB b) with hb0 | hb0
  · have e1 : Hid (esA a b = []) := Lib.hid (by simp [esA, *])
    have e2 : Hid (esC a b = 2) := Lib.hid (by simp [esC, *])
    have Ha := Lib.hid ha0
    have Hb := Lib.hid hb0
    clear ha0 hb0
    go_enter Try.func119, Try.ntmps119
    go_wp2_with (go_at_call 128; (first | (with_reducible refine (isNatural_yes a _ Ha.out).mono ?_) | (with_reducible refine (isNatural_no b _ Hb.out).mono ?_)); rintro e w' ⟨rfl, rfl⟩)
    go_ret2
    exact StepsCode.empty 2 e1.out e2.out (Below.refl _ _)
  have E1 : Hid (esA a b = steps a b) := Lib.hid (by simp [esA, *])
  have E2 : Hid (esC a b = 0) := Lib.hid (by simp [esC, *])
  have ha := natB_true.1 ha0
  have hb := natB_true.1 hb0
  have Ha := Lib.hid ha0
  have Hb := Lib.hid hb0
  clear ha0 hb0
  go_enter Try.func119, Try.ntmps119
  go_wp2_with (go_at_call 128; (first | (with_reducible refine (isNatural_yes a _ Ha.out).mono ?_) | (with_reducible refine (isNatural_yes b _ Hb.out).mono ?_)); rintro e w' ⟨rfl, rfl⟩)
  have HO : Hid (OwnSS w w.heap.size none 0 0 (fun _ => .slice none 0 0) two fun i => (stF [] i).map (.int .i64)) := Lib.hid (OwnSS.nil _ _ _ _ _)
  have hB0 : Below w.heap.size w w := Below.refl _ _

  go_loopw [0, 1, 6] (fun vx vy vo wr => ∃ (x y : Int) (j f : Nat) (L : List (Int × Int)) (A : Option Addr) (c : Nat) (vf : Nat → Value), (1 ≤ x ∧ x ≤ 1000000000) ∧ (0 ≤ y ∧ y ≤ 1000000000) ∧ (y.toNat < f ∧ j + f ≤ 1000000001) ∧ Hid (L.length = j) ∧ Hid (steps a b = L ++ stL f x y) ∧ vx = .int .i64 x ∧ vy = .int .i64 y ∧ vo = .slice A j c ∧ Hid (OwnSS wr w.heap.size A j c vf two fun i => (stF L i).map (.int .i64)) ∧ Below w.heap.size w wr) (fun _ vy _ _ => (intOf vy).toNat)
  case atStart => exact ⟨a, b, 0, b.toNat + 1, [], _, _, fun _ => .slice none 0 0, by omega, by omega, by omega, Lib.hid rfl, Lib.hid rfl, rfl, rfl, rfl, HO, hB0⟩
  case round =>
    obtain ⟨x, y, j, f, L, A, c, vf, hx, hy, hf, hl, hg, rfl, rfl, rfl, ho, hb⟩ := hrel
    obtain ⟨f, rfl⟩ : ∃ k, f = k + 1 := ⟨f - 1, by omega⟩
    by_cases hy0 : 0 < y
    rotate_left
    · obtain rfl : y = 0 := by omega
      have Z : Hid (steps a b = L) := Lib.hid (by rw [hg.out]; simp [stL])
      clear hg
      go_wp2
      go_ret2
      exact StepsCode.mk' (E1.out.trans Z.out) E2.out hl.out ho.out hb
    · have hm : 0 ≤ x % y ∧ x % y < y := ⟨Int.emod_nonneg _ (by omega), Int.emod_lt_of_pos _ hy0⟩
      have hq : 0 ≤ x / y ∧ x / y ≤ x := ⟨Int.ediv_nonneg (by omega) (by omega), Int.ediv_le_self _ (by omega)⟩
      have HG : Hid (steps a b = (L ++ [(x / y, y)]) ++ stL f y (x % y)) := Lib.hid (by
        rw [hg.out]; conv => lhs; unfold stL
        rw [if_neg (by omega)]; simp)
      clear hg
      obtain ⟨i0, hi0, hz0, hz1, hz2⟩ := info_parts ints_info
      go_wp2_with (at_builtin; refine wpList_append_own _ rfl _ _ 51 rfl w.heap.size 22 i0 (.slice none 0 0) 1 24 Try.underlying51 hi0 hz0 hz1 hz2 rfl ?_ _ j ((List.range j).map vf) rfl (World.ownsRow.alloc (World.ownsRow.alloc ho.out.outer _) _) ⟨wr.heap.size + 1, 0, none⟩ 1 1 [.slice (some ⟨wr.heap.size, 0, none⟩) 2 2] rfl rfl ?_ ?_ ?_ ?_ ?_ ?_; (decide); (exact World.news_of_block (cs := #[.slice (some ⟨wr.heap.size, 0, none⟩) 2 2]) (t := 22) (fr := (0, 0)) (heap_alloc2_new wr _ _)); (simp [Value.oneCell']); (simp only [maxLen]; omega); (omega); (have := hb.size; simp; omega); intro v1 w1 hown1 hgrow _; obtain ⟨A1, c1, rfl⟩ := Own.form29 hown1; have HO1 := Lib.hid (ho.out.push2 (.int .i64 (x / y)) (.int .i64 y) hb.size hown1 hgrow); have hb1 : Below w.heap.size w w1 := ((hb.alloc hb.size _).alloc (by have := hb.size; simp; omega) _).grown hgrow (by have := hb.size; simp; omega) (fun k hk => (World.ownsRow.lt ho.out.outer k hk).1); clear hown1 hgrow)
      go_quiet (fail)
      go_roundw
      case rel =>
        (repeat apply Exists.intro)
        refine ⟨⟨y, x % y, j + 1, f, L ++ [(x / y, y)], A1, c1, (fun i => if i = j then .slice (some ⟨wr.heap.size, 0, none⟩) 2 2 else vf i), by omega, by omega, by omega, Lib.hid (by simp [hl.out]), HG, rfl, rfl, rfl, Lib.hid ?_, below_drewN hb1 _⟩, rfl⟩
        have e : (fun i => (stF (L ++ [(x / y, y)]) i).map (Value.int .i64)) = fun i => if i = j then [.int .i64 (x / y), .int .i64 y] else (stF L i).map (.int .i64) := by
          funext i
          have hlj := hl.out
          by_cases e : i = j
          · subst e; rw [if_pos rfl]; simp [stF, ← hlj]
          · rw [if_neg e]
            by_cases e2 : i < j
            · simp [stF, List.getElem?_append_left (show i < L.length by omega)]
            · have e3 : (L ++ [(x / y, y)])[i]? = none := List.getElem?_eq_none (by simp; omega)
              have e4 : L[i]? = none := List.getElem?_eq_none (by omega)
              simp [stF, e3, e4]
        rw [e]
        exact HO1.out.drewN _
      case measure => simp [intOf]; omega
end Go.Proofs.Ytncgkoanckefmaa
