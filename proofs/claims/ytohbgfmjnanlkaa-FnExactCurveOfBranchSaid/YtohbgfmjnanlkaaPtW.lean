/- Points to which points are proximate, codes, satellites: contracts of ProximatesOf, CodeOf, CountSatellites, the model's and the program's. Conditions: stated at each theorem. -/
import Derived.Test.YtohbgfmjnanlkaaPtQ
namespace Go.Proofs.Ytohbgfmjnanlkaa
open Go.ChangeShapes Go.WideShapes Go.ChangeAt Go.RowKit Go.Deep
set_option linter.unusedVariables false
set_option linter.unusedSimpArgs false

def prA (zs : List Int) (k : Int) : List (List Int) := if ptC zs k = 0 then prQ (mqL zs k.toNat) k.toNat else []
theorem prA_yes {zs : List Int} {m : Nat} (h : ptC zs (m : Int) = 0) : prA zs (m : Int) = prQ (mqL zs m) m := by unfold prA; rw [if_pos h]; simp
theorem prA_no {zs : List Int} {k C : Int} (h : ptC zs k = C) (hC : C ≠ 0) : prA zs k = [] := by unfold prA; rw [if_neg (by omega)]
theorem sumTo_pr {ms : Nat → Nat} (h : ∀ i, ms i ≤ 400) : ∀ n, sumTo ms n ≤ 400 * n
  | 0 => Nat.le_refl _
  | n + 1 => by
    have := sumTo_pr h n
    have := h n
    show sumTo ms n + ms n ≤ _
    omega
theorem prA_len (zs : List Int) (k : Int) : szTot (prA zs k) ≤ 549755813888 := by
  unfold prA
  split
  · rename_i h
    have hk := (pt_parts h).2
    obtain ⟨m, rfl⟩ : ∃ m : Nat, k = (m : Int) := ⟨k.toNat, by omega⟩
    rw [Int.toNat_natCast]
    unfold szTot
    rw [prQ_len]
    have h1 : ∀ i, lens (prQ (mqL zs m) m) i ≤ 400 := fun i => by
      unfold lens
      by_cases hi : i < m
      · rw [prQ_at hi]
        have := prx_len (m := mqL zs m) m i
        omega
      · have : (prQ (mqL zs m) m).getD i [] = [] := by simp [List.getD, List.getElem?_eq_none (show (prQ (mqL zs m) m).length ≤ i by rw [prQ_len]; omega)]
        rw [this]; simp
    have := sumTo_pr h1 m
    omega
  · decide
/-- How many points behind the first a + 1 ones are satellites. -/
def satN (m : List Int) (n : Nat) : Nat → Int
  | 0 => 0
  | a + 1 => satN m n a + (if cdI m n (a + 1) = 0 then 0 else 1)
theorem satN_le (m : List Int) (n : Nat) : ∀ a, 0 ≤ satN m n a ∧ satN m n a ≤ (a : Int)
  | 0 => by simp [satN]
  | a + 1 => by
    have := satN_le m n a
    show 0 ≤ satN m n a + (if cdI m n (a + 1) = 0 then 0 else 1) ∧ satN m n a + (if cdI m n (a + 1) = 0 then 0 else 1) ≤ _
    split <;> omega
def satA (zs : List Int) (k : Int) : Int := if ptC zs k = 0 then satN (mqL zs k.toNat) k.toNat (k.toNat - 1) else 0
theorem satA_yes {zs : List Int} {m : Nat} (h : ptC zs (m : Int) = 0) : satA zs (m : Int) = satN (mqL zs m) m (m - 1) := by unfold satA; rw [if_pos h]; simp
theorem satA_no {zs : List Int} {k C : Int} (h : ptC zs k = C) (hC : C ≠ 0) : satA zs k = 0 := by unfold satA; rw [if_neg (by omega)]

/-- The program's calls, by their cases. -/
def NoneC (w : World) (C : Int) (e : Ending) (w' : World) : Prop := e = .returned (.tuple #[.slice none 0 0, .int .i64 C]) ∧ Below w.heap.size w w'
theorem none_form {w : World} {lo : Nat} {v : Value} {n : Nat} {xs : List Value} (h : Own w lo v n xs) : True := trivial

set_option maxRecDepth 100000 in
set_option maxHeartbeats 1000000 in
theorem implMultiplicitiesAt_no (v : Value) (zs : List Int) (k C : Int) (w : World) (h : ReadI w w.heap.size v zs) (hn : zs.length ≤ 1048576) (hw : ∀ z ∈ zs, (Lit.int .i64 z).wf = true) (hk : (Lit.int .i64 k).wf = true) (hC : ptC zs k = C) (hC0 : C ≠ 0) :
    Calls Try.prog 64 #[.agg #[v], .int .i64 k] w (AnsIC w [] C) := by
  rw [← mqA_no hC hC0, ← hC]
  exact implMultiplicitiesAt_any v zs k w h hn hw hk
theorem implMultiplicitiesAt_yes (v : Value) (zs : List Int) (m : Nat) (w : World) (h : ReadI w w.heap.size v zs) (hn : zs.length ≤ 1048576) (hw : ∀ z ∈ zs, (Lit.int .i64 z).wf = true) (hk : (Lit.int .i64 (m : Int)).wf = true) (hC : ptC zs (m : Int) = 0) :
    Calls Try.prog 64 #[.agg #[v], .int .i64 m] w fun e w' => ∃ A c, e = .returned (.tuple #[.slice A m c, .int .i64 0]) ∧ OwnI w' w.heap.size w'.heap.size (.slice A m c) (mqL zs m) ∧ Below w.heap.size w w' := by
  refine (implMultiplicitiesAt_any v zs (m : Int) w h hn hw hk).mono ?_
  rw [hC, mqA_yes hC]
  rintro e w' ⟨v1, rfl, ho, hb⟩
  obtain ⟨A, c, rfl⟩ := ho.form (mq_len zs m)
  exact ⟨A, c, rfl, ho, hb⟩

theorem near_first {w : World} {B k : Nat} {v : Value} {mm : List Int} (h : ReadQ w B v (prQ mm k)) (hk : 0 < k) : ∃ g o c, v = .slice (some ⟨g, o, none⟩) k c ∧ g < B ∧ ∃ A3 c3, w.cell? ⟨g, o, none⟩ = some (.slice A3 0 c3) := by
  obtain ⟨A, c, rfl, hrow, _, _, hA, _⟩ := h
  rw [prQ_len]
  obtain ⟨a, u, e1, hab, hcell, hri⟩ := hrow 0 (by rw [prQ_len]; exact hk)
  obtain ⟨g, o, rfl⟩ := hA a e1
  subst e1
  rw [prQ_at hk] at hri
  have hz : prx mm k 0 = [] := by
    have : ∀ i, prx mm i 0 = [] := fun i => by
      induction i with
      | zero => rfl
      | succ i ih => rw [prx_miss (pr_out (by omega)), ih]
    exact this k
  rw [hz] at hri
  obtain ⟨A3, c3, rfl, _⟩ := hri
  rw [add_lit] at hcell
  exact ⟨g, o, c, rfl, hab, A3, c3, hcell⟩
theorem nearL_zero (c : Int) : nearL c 0 = [] := rfl
theorem nearL_one {j : Nat} (h : 0 < j) : nearL 0 j = [(j : Int) - 1] := by unfold nearL; rw [if_neg (by omega), if_pos rfl]
theorem nearL_two {c : Int} {j : Nat} (h : 0 < j) (hc : c ≠ 0) : nearL c j = [(j : Int) - c, (j : Int) - 1] := by unfold nearL; rw [if_neg (by omega), if_neg hc]
theorem nearL_len (c : Int) (j : Nat) : (nearL c j).length ≤ 2 := by
  unfold nearL; split
  · simp
  · split <;> simp
def NearAns (w : World) (L : List Int) (e : Ending) (w' : World) : Prop := ∃ A c, e = .returned (.slice A L.length c) ∧ OwnI w' w.heap.size w'.heap.size (.slice A L.length c) L ∧ Below w.heap.size w w'
set_option maxRecDepth 100000 in
set_option maxHeartbeats 1000000 in
theorem l06Near_any (v : Value) (L : List Int) (j : Nat) (c : Int) (w : World) (B : Nat) (h : ReadI w B v L) (hj : j ≤ L.length) (hn : L.length ≤ 1048576) (hcv : 0 < j → L[j - 1]?.getD 0 = c) (hc : c = 0 ∨ (2 ≤ c ∧ c ≤ (j : Int))) :
    Calls Try.prog 119 #[v, .int .i64 j] w (NearAns w (nearL c j)) := by
  obtain ⟨n, A, cc, rfl, hr, HL, _, hnc, HF, hcm⟩ := h.split2
  rw [HL.out] at hj hn
  have H0 := Lib.hid hr
  clear h hr
  by_cases h0 : j = 0
  · subst h0
    clear hcv hc
    go_enter Try.func119, Try.ntmps119
    go_wp2
    go_ret
    exact ⟨_, _, rfl, OwnI.mk' (n := 0) (World.ownsRow_lit w #[] 0 (Nat.le_refl _) (by simp [maxLen]) rfl), below_box2 _ _⟩
  have hj0 : 0 < j := by omega
  obtain ⟨a, rfl, hal, hcell0⟩ := H0.out.2 (j - 1) (by omega)
  obtain ⟨g, o, rfl⟩ := HF.out a rfl
  rw [add_lit] at hcell0
  have hcell : w.cell? ⟨g, o + (j - 1), none⟩ = some (.int .i64 c) := by rw [← hcv hj0]; simpa using hcell0
  have hjb : ((j : Int) == 0) = false := by simpa using h0
  have hji : ¬ (j : Int) = 0 := by omega
  have p1 : IntKind.i64.wrap ((j : Int) - 1) = (j : Int) - 1 := IntWalk.i64_in _ (by omega)
  have p2 : ((j : Int) - 1).toNat = j - 1 := by omega
  have p3 : (0 : Int) ≤ (j : Int) - 1 := by omega
  have p4 : (j : Int) - 1 < (n : Int) := by omega
  have p5 : (1 : Int) ≤ (j : Int) := by omega
  clear hcell0 hcv h0 hal
  by_cases hz : c = 0
  · subst hz
    have HE : Hid (nearL 0 j = [(j : Int) - 1]) := Lib.hid (nearL_one hj0)
    clear hc
    go_enter Try.func119, Try.ntmps119
    go_wp2
    go_ret
    exact ⟨_, _, by rw [HE.out]; rfl, by rw [HE.out]; exact OwnI.mk' (n := 1) (World.ownsRow_lit w #[.int .i64 ((j : Int) - 1)] 1 (Nat.le_refl _) (by simp [maxLen]) rfl), below_box2 _ _⟩
  · have HE : Hid (nearL c j = [(j : Int) - c, (j : Int) - 1]) := Lib.hid (nearL_two hj0 hz)
    have hzb : (c == 0) = false := by simpa using hz
    have q1 : IntKind.i64.wrap ((j : Int) - c) = (j : Int) - c := IntWalk.i64_in _ (by omega)
    go_enter Try.func119, Try.ntmps119
    go_wp2
    go_ret
    exact ⟨_, _, by rw [HE.out]; rfl, by rw [HE.out]; exact list2R (Nat.le_refl _) _ _, below_box2 _ _⟩

/-- The first j rows. -/
def prT (m : List Int) (n j : Nat) : List (List Int) := (List.range j).map fun x => prx m n x
theorem prT_len (m : List Int) (n j : Nat) : (prT m n j).length = j := by simp [prT]
theorem prT_succ (m : List Int) (n j : Nat) : prT m n (j + 1) = prT m n j ++ [prx m n j] := by simp [prT, List.range_succ]
end Go.Proofs.Ytohbgfmjnanlkaa
