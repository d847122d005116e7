/- The value of a continued fraction and of a negative one, the model's and the program's: contracts. Conditions: stated at each theorem. -/
import Derived.Test.YtbipihamkfifjaaSlice
import Derived.Test.YtbipihamkfifjaaGcd
import Derived.RegionTactic
import Derived.BigRegion
import Derived.Laws.Small
namespace Go.Proofs.Ytbipihamkfifjaa
open Go.ChangeShapes Go.WideShapes Go.ChangeAt Go.RowKit
set_option linter.unusedVariables false

theorem vint {a b : Int} (h : a = b) : Value.int .i64 a = Value.int .i64 b := by rw [h]
theorem tup3 {a b c a' b' c' : Int} (h : a = a') (k : b = b') (l : c = c') : Ending.returned (.tuple #[.agg #[.int .i64 a, .int .i64 b], .int .i64 c]) = .returned (.tuple #[.agg #[.int .i64 a', .int .i64 b'], .int .i64 c']) := by rw [h, k, l]

/-- A list whose first number is at least l and whose others are at least o, all at most 1000000000. -/
def okL : Int → Int → List Int → Bool
  | _, _, [] => true
  | l, o, z :: zs => decide (l ≤ z ∧ z ≤ 1000000000) && okL o o zs
/-- The value of the last k numbers turned inside out: top and bottom, none beyond the limit. -/
def nvS (s : Int) (zs : List Int) : Nat → Int → Int → Option (Int × Int)
  | 0, t, b => some (t, b)
  | k + 1, t, b => if 1000000000 < zs[k]?.getD 0 * t + s * b then none else nvS s zs k (zs[k]?.getD 0 * t + s * b) t
def nvR (l o s : Int) (zs : List Int) : Int × Int × Int :=
  if zs.length = 0 ∨ 64 < zs.length then (0, 0, 2) else if okL l o zs then (match nvS s zs zs.length 1 0 with | some (t, b) => (t, b, 0) | none => (0, 0, 3)) else (0, 0, 2)
theorem okL_get : ∀ (zs : List Int) (l o : Int), okL l o zs = true → ∀ k, k < zs.length → (if k = 0 then l else o) ≤ zs[k]?.getD 0 ∧ zs[k]?.getD 0 ≤ 1000000000
  | [], _, _, _, k, hk => by simp at hk
  | z :: zs, l, o, h, 0, _ => by simp [okL] at h; simpa using h.1
  | z :: zs, l, o, h, k + 1, hk => by
    simp only [okL, Bool.and_eq_true] at h
    have := okL_get zs o o h.2 k (by simpa using hk)
    simpa using this
theorem drop_cons' (zs : List Int) (k : Nat) (h : k < zs.length) : zs.drop k = zs[k]?.getD 0 :: zs.drop (k + 1) := by
  rw [List.drop_eq_getElem_cons h]; simp [h]
theorem wf_getD' {zs : List Int} (h : ∀ z ∈ zs, (Lit.int .i64 z).wf = true) (k : Nat) : -9223372036854775808 ≤ zs[k]?.getD 0 ∧ zs[k]?.getD 0 ≤ 9223372036854775807 := range_i64 h k
theorem mul_in {z t : Int} (hz : 0 ≤ z ∧ z ≤ 1000000000) (ht : 0 ≤ t ∧ t ≤ 1000000000) : 0 ≤ z * t ∧ z * t ≤ 1000000000000000000 := by
  refine ⟨Int.mul_nonneg hz.1 ht.1, ?_⟩
  have : z * t ≤ 1000000000 * 1000000000 := Int.mul_le_mul hz.2 ht.2 ht.1 (by omega)
  omega
theorem mul_two {z t : Int} (hz : 2 ≤ z) (ht : 0 ≤ t) : 2 * t ≤ z * t := Int.mul_le_mul_of_nonneg_right hz ht

/-- The first two cells of a block hold x and y, and can be written. -/
def Two (w : World) (g : Nat) (x y : Int) : Prop := w.rowIs g 35 2 fun i => if i = 0 then .int .i64 x else .int .i64 y
theorem Two.c0 {w : World} {g : Nat} {x y : Int} (h : Two w g x y) : w.cell? ⟨g, 0, none⟩ = some (.int .i64 x) := by simpa using h.cell (i := 0) (by omega)
theorem Two.c1 {w : World} {g : Nat} {x y : Int} (h : Two w g x y) : w.cell? ⟨g, 1, none⟩ = some (.int .i64 y) := by simpa using h.cell (i := 1) (by omega)
theorem Two.fz {w : World} {g : Nat} {x y : Int} (h : Two w g x y) (i : Nat) : w.frozen? ⟨g, i, none⟩ = false := h.frozen i
theorem Two.new (w : World) (x y : Int) : Two (w.alloc (.cells #[.int .i64 x, .int .i64 y] 35)) w.heap.size x y :=
  World.rowIs_alloc w #[.int .i64 x, .int .i64 y] _ _ (fun i hi => by
    have : i = 0 ∨ i = 1 := by simp at hi; omega
    rcases this with rfl | rfl <;> rfl)
theorem Two.alloc {w : World} {g : Nat} {x y : Int} (h : Two w g x y) (o : Obj) : Two (w.alloc o) g x y := World.rowIs.alloc h o
theorem Two.drewN {w : World} {g : Nat} {x y : Int} (h : Two w g x y) (n : Nat) : Two (w.drewN n) g x y := h
theorem Two.set2 {w : World} {g : Nat} {x y : Int} (h : Two w g x y) (x' y' : Int) : Two ((w.setCell ⟨g, 0, none⟩ (.int .i64 x')).setCell ⟨g, 1, none⟩ (.int .i64 y')) g x' y' :=
  ((World.rowIs.set h 0 (.int .i64 x')).set 1 (.int .i64 y')).congr fun i hi => by
    have : i = 0 ∨ i = 1 := by omega
    rcases this with rfl | rfl <;> rfl
theorem Two.other {w : World} {g : Nat} {x y : Int} (h : Two w g x y) {a b : Addr} (ha : g ≠ a.block) (hb : g ≠ b.block) (u v : Value) : Two ((w.setCell a u).setCell b v) g x y :=
  World.rowIs.setOther (World.rowIs.setOther h ha u) hb v

theorem specFractionValue_any (A : Option Addr) (n c : Nat) (zs : List Int) (w : World) (hr : RI w w.heap.size A n zs) (hn : n ≤ 9223372036854775807) (hwf : ∀ z ∈ zs, (Lit.int .i64 z).wf = true) :
    Calls Try.prog 28 #[.slice A n c] w fun e w' => e = .returned (.tuple #[.agg #[.int .i64 (nvR 0 1 (1) zs).1, .int .i64 (nvR 0 1 (1) zs).2.1], .int .i64 (nvR 0 1 (1) zs).2.2]) ∧ Below w.heap.size w w' := by
  have hl := hr.1
  by_cases h0 : n = 0 ∨ 64 < n
  · have E1 : Hid (0 = (nvR 0 1 (1) zs).1) := Lib.hid (by simp [nvR, hl, h0])
    have E2 : Hid (0 = (nvR 0 1 (1) zs).2.1) := Lib.hid (by simp [nvR, hl, h0])
    have E3 : Hid (2 = (nvR 0 1 (1) zs).2.2) := Lib.hid (by simp [nvR, hl, h0])
    clear hl hr hwf
    rcases h0 with h0 | h0
    · subst h0
      go_enter Try.func28, Try.ntmps28
      go_wp2
      exact bodyPost_ret (v := .tuple #[.agg #[.int .i64 (0), .int .i64 (0)], .int .i64 (2)]) (by simp [results, Try.results28, go_sem, *]) rfl ⟨tup3 E1.out E2.out E3.out, (by repeat (first | exact Below.refl _ _ | apply below_drewN | apply Below.drew | (refine Below.setCell ?_ (by first | (simp; done) | (simp; omega) | omega) _) | (refine Below.alloc ?_ (by first | exact Nat.le_refl _ | (simp; done) | (simp; omega) | omega) _)))⟩
    · go_enter Try.func28, Try.ntmps28
      go_wp2
      exact bodyPost_ret (v := .tuple #[.agg #[.int .i64 (0), .int .i64 (0)], .int .i64 (2)]) (by simp [results, Try.results28, go_sem, *]) rfl ⟨tup3 E1.out E2.out E3.out, (by repeat (first | exact Below.refl _ _ | apply below_drewN | apply Below.drew | (refine Below.setCell ?_ (by first | (simp; done) | (simp; omega) | omega) _) | (refine Below.alloc ?_ (by first | exact Nat.le_refl _ | (simp; done) | (simp; omega) | omega) _)))⟩
  · obtain ⟨q, rfl⟩ : ∃ q, n = q + 1 := ⟨n - 1, by omega⟩
    have h64 : q + 1 ≤ 64 := by omega
    have ER : Hid (nvR 0 1 (1) zs = if okL 0 1 zs then (match nvS (1) zs (q + 1) 1 0 with | some (t, b) => ((t, b, 0) : Int × Int × Int) | none => (0, 0, 3)) else (0, 0, 2)) := Lib.hid (by unfold nvR; rw [if_neg (by omega), hl])
    have HL := Lib.hid hl
    have HW := Lib.hid hwf
    have HR := Lib.hid hr
    clear hl hr hwf h0
    go_enter Try.func28, Try.ntmps28
    go_wp2
    have hT : Two (w.alloc (.cells #[.int .i64 0, .int .i64 0] 35)) w.heap.size 0 0 := Two.new w 0 0
    have hB : Below w.heap.size w (w.alloc (.cells #[.int .i64 0, .int .i64 0] 35)) := (Below.refl _ _).alloc (Nat.le_refl _) _
    have HR1 := Lib.hid (HR.out.below hB)
    clear HR
    generalize w.alloc (.cells #[.int .i64 0, .int .i64 0] 35) = w1 at *
    have c0 := hT.c0
    have c1 := hT.c1
    have fz0 := hT.fz 0
    have fz1 := hT.fz 1
    clear hT
    go_loopw [4] (fun vi wr => ∃ (k : Nat), k ≤ q + 1 ∧ Hid (okL 0 1 zs = okL (if k = 0 then 0 else 1) 1 (zs.drop k)) ∧ vi = .int .i64 k ∧ wr = w1) (fun vi _ => q + 1 - (intOf vi).toNat)
    case atStart => exact ⟨0, by omega, Lib.hid rfl, rfl, rfl⟩
    case round =>
      obtain ⟨k, hk, hg, rfl, rfl⟩ := hrel
      by_cases hlt : k < q + 1
      · obtain ⟨a, rfl, _, hcell⟩ := HR1.out.2 k hlt
        have hk0 : (0 : Int) ≤ (k : Int) := Int.natCast_nonneg _
        have hk1 : (k : Int) < ((q + 1 : Nat) : Int) := by omega
        have hz := wf_getD' HW.out k
        have HD : Hid (zs.drop k = zs[k]?.getD 0 :: zs.drop (k + 1)) := Lib.hid (drop_cons' zs k (by rw [HL.out]; exact hlt))
        have hcell' : wr.cell? (a.add k) = some (.int .i64 (zs[k]?.getD 0)) := by simpa using hcell
        clear hcell
        have hin0 : ((if k = 0 then 0 else 1) : Int) = min 1 (k : Int) := by split <;> omega
        by_cases hin : (if k = 0 then 0 else 1) ≤ zs[k]?.getD 0 ∧ zs[k]?.getD 0 ≤ 1000000000
        · have HG : Hid (okL 0 1 zs = okL 1 1 (zs.drop (k + 1))) := Lib.hid (by rw [hg.out, HD.out]; simp only [okL]; rw [decide_eq_true hin, Bool.true_and])
          have HG' : Hid (okL 0 1 zs = okL (if k + 1 = 0 then 0 else 1) 1 (zs.drop (k + 1))) := Lib.hid (by rw [HG.out]; simp)
          have hin2 : min 1 (k : Int) ≤ zs[k]?.getD 0 ∧ zs[k]?.getD 0 ≤ 1000000000 := by rw [← hin0]; exact hin
          clear hg HG hin0 hin
          rcases (show (k : Int) < 1 ∨ 1 ≤ (k : Int) by omega) with hk2 | hk2
          all_goals
            go_wp2_with (go_at_call 72; refine (in_yes _ _ _ _ (by omega) (by omega)).mono ?_; rintro e w' ⟨rfl, rfl⟩)
            go_roundw
            case rel => exact ⟨_, by omega, HG', by go_num, by first | rfl | trivial⟩
            case measure => simp [intOf]; omega
        · have hF : okL 0 1 zs = false := by rw [hg.out, HD.out]; simp only [okL]; rw [decide_eq_false hin, Bool.false_and]
          have RR : nvR 0 1 (1) zs = (0, 0, 2) := by rw [ER.out, hF]; rfl
          have E1 : Hid (0 = (nvR 0 1 (1) zs).1) := Lib.hid (by rw [RR])
          have E2 : Hid (0 = (nvR 0 1 (1) zs).2.1) := Lib.hid (by rw [RR])
          have E3 : Hid (2 = (nvR 0 1 (1) zs).2.2) := Lib.hid (by rw [RR])
          have hin2 : ¬ (min 1 (k : Int) ≤ zs[k]?.getD 0 ∧ zs[k]?.getD 0 ≤ 1000000000) := by rw [← hin0]; exact hin
          clear RR hF hg hin0 hin
          rcases (show (k : Int) < 1 ∨ 1 ≤ (k : Int) by omega) with hk2 | hk2
          all_goals
            go_wp2_with (go_at_call 72; refine (in_no _ _ _ _ (by omega)).mono ?_; rintro e w' ⟨rfl, rfl⟩)
            exact bodyPost_ret (v := .tuple #[.agg #[.int .i64 (0), .int .i64 (0)], .int .i64 (2)]) (by simp [results, Try.results28, go_sem, *]) rfl ⟨tup3 E1.out E2.out E3.out, (by repeat (first | exact Below.refl _ _ | apply below_drewN | apply Below.drew | (refine Below.setCell ?_ (by first | (simp; done) | (simp; omega) | omega) _) | (refine Below.alloc ?_ (by first | exact Nat.le_refl _ | (simp; done) | (simp; omega) | omega) _) | (refine Below.trans ?_ (hB.mono (by first | exact Nat.le_refl _ | (simp; done) | (simp; omega) | omega)))))⟩
      · obtain rfl : k = q + 1 := by omega
        have hok : okL 0 1 zs = true := by rw [hg.out, List.drop_of_length_le (by rw [HL.out]; omega)]; rfl
        have hget := okL_get zs _ _ hok
        have ER' : Hid (nvR 0 1 (1) zs = match nvS (1) zs (q + 1) 1 0 with | some (t, b) => ((t, b, 0) : Int × Int × Int) | none => (0, 0, 3)) := Lib.hid (by rw [ER.out, hok]; rfl)
        have hq : zs[q]?.getD 0 ≤ 1000000000 := (hget q (by rw [HL.out]; omega)).2
        have hq' : 0 ≤ zs[q]?.getD 0 := by have := (hget q (by rw [HL.out]; omega)).1; split at this <;> omega
        have ES : Hid (nvS (1) zs (q + 1) 1 0 = nvS (1) zs q (zs[q]?.getD 0) 1) := Lib.hid (by
          conv => lhs; unfold nvS
          rw [if_neg (by omega), show zs[q]?.getD 0 * 1 + (1) * 0 = zs[q]?.getD 0 by omega])
        have HGET := Lib.hid hget
        obtain ⟨a, rfl, _, hcell⟩ := HR1.out.2 q (by omega)
        have hcell' : wr.cell? (a.add q) = some (.int .i64 (zs[q]?.getD 0)) := by simpa using hcell
        clear hcell hget hok hg
        have hq1 : (0 : Int) ≤ (q : Int) := Int.natCast_nonneg _
        go_wp2
        go_loopw [5, 6, 7] (fun vt vb vi wx => ∃ (t b i : Int) (k : Nat), k ≤ q ∧ (i ≤ (k : Int) - 1 ∧ (k : Int) - 1 ≤ i) ∧ ((0 ≤ t ∧ t ≤ 1000000000) ∧ (0 ≤ b ∧ b ≤ 1000000000)) ∧ Hid (nvS (1) zs (q + 1) 1 0 = nvS (1) zs k t b) ∧ vt = .int .i64 t ∧ vb = .int .i64 b ∧ vi = .int .i64 i ∧ wx = wr) (fun _ _ vi _ => (intOf vi + 1).toNat)
        case atStart => exact ⟨_, _, _, q, by omega, by omega, by omega, ES, rfl, rfl, rfl, rfl⟩
        case round =>
          obtain ⟨t, b, i, k, hk, hik, hinv, hg, rfl, rfl, rfl, rfl⟩ := hrel
          rcases k with _ | j
          · obtain rfl : i = -1 := by omega
            have RR : nvR 0 1 (1) zs = (t, b, 0) := by rw [ER'.out, hg.out]; rfl
            have E1 : Hid (t = (nvR 0 1 (1) zs).1) := Lib.hid (by rw [RR])
            have E2 : Hid (b = (nvR 0 1 (1) zs).2.1) := Lib.hid (by rw [RR])
            have E3 : Hid (0 = (nvR 0 1 (1) zs).2.2) := Lib.hid (by rw [RR])
            clear RR hg
            go_wp2
            exact bodyPost_ret (v := .tuple #[.agg #[.int .i64 (t), .int .i64 (b)], .int .i64 (0)]) (by simp [results, Try.results28, go_sem, *]) rfl ⟨tup3 E1.out E2.out E3.out, (by repeat (first | exact Below.refl _ _ | apply below_drewN | apply Below.drew | (refine Below.setCell ?_ (by first | (simp; done) | (simp; omega) | omega) _) | (refine Below.alloc ?_ (by first | exact Nat.le_refl _ | (simp; done) | (simp; omega) | omega) _) | (refine Below.trans ?_ (hB.mono (by first | exact Nat.le_refl _ | (simp; done) | (simp; omega) | omega)))))⟩
          · obtain rfl : i = (j : Int) := by omega
            have hj0 : (0 : Int) ≤ (j : Int) := Int.natCast_nonneg _
            have hj1 : (j : Int) < ((q + 1 : Nat) : Int) := by omega
            have hz := HGET.out j (by rw [HL.out]; omega)
            have hz' : 0 ≤ zs[j]?.getD 0 ∧ zs[j]?.getD 0 ≤ 1000000000 := by have := hz; split at this <;> omega
            clear hz
            have hm1 := mul_in (show 0 ≤ zs[j]?.getD 0 ∧ zs[j]?.getD 0 ≤ 1000000000 by omega) (show 0 ≤ t ∧ t ≤ 1000000000 by omega)
            skip
            obtain ⟨a', e', _, hcell⟩ := HR1.out.2 j (by omega)
            cases e'
            have hcell' : wr.cell? (a.add j) = some (.int .i64 (zs[j]?.getD 0)) := by simpa using hcell
            clear hcell
            by_cases hm : 1000000000 < zs[j]?.getD 0 * t + b
            · have hn : nvS (1) zs (j + 1) t b = none := by unfold nvS; rw [if_pos (by omega)]
              have RR : nvR 0 1 (1) zs = (0, 0, 3) := by rw [ER'.out, hg.out, hn]
              have E1 : Hid (0 = (nvR 0 1 (1) zs).1) := Lib.hid (by rw [RR])
              have E2 : Hid (0 = (nvR 0 1 (1) zs).2.1) := Lib.hid (by rw [RR])
              have E3 : Hid (3 = (nvR 0 1 (1) zs).2.2) := Lib.hid (by rw [RR])
              clear RR hg hn
              go_wp2
              exact bodyPost_ret (v := .tuple #[.agg #[.int .i64 (0), .int .i64 (0)], .int .i64 (3)]) (by simp [results, Try.results28, go_sem, *]) rfl ⟨tup3 E1.out E2.out E3.out, (by repeat (first | exact Below.refl _ _ | apply below_drewN | apply Below.drew | (refine Below.setCell ?_ (by first | (simp; done) | (simp; omega) | omega) _) | (refine Below.alloc ?_ (by first | exact Nat.le_refl _ | (simp; done) | (simp; omega) | omega) _) | (refine Below.trans ?_ (hB.mono (by first | exact Nat.le_refl _ | (simp; done) | (simp; omega) | omega)))))⟩
            · have hn : nvS (1) zs (j + 1) t b = nvS (1) zs j (zs[j]?.getD 0 * t + b) t := by
                have e : zs[j]?.getD 0 * t + b = zs[j]?.getD 0 * t + (1) * b := by omega
                rw [e]; conv => lhs; unfold nvS
                rw [if_neg (by omega)]
              have HG : Hid (nvS (1) zs (q + 1) 1 0 = nvS (1) zs j (zs[j]?.getD 0 * t + b) t) := Lib.hid (hg.out.trans hn)
              clear hg hn
              go_wp2
              go_roundw
              case rel => exact ⟨_, _, _, j, by omega, by omega, by omega, HG, rfl, rfl, rfl, by first | rfl | trivial⟩
              case measure => simp [intOf] <;> omega

theorem specNegativeValue_any (A : Option Addr) (n c : Nat) (zs : List Int) (w : World) (hr : RI w w.heap.size A n zs) (hn : n ≤ 9223372036854775807) (hwf : ∀ z ∈ zs, (Lit.int .i64 z).wf = true) :
    Calls Try.prog 26 #[.slice A n c] w fun e w' => e = .returned (.tuple #[.agg #[.int .i64 (nvR 2 2 (-1) zs).1, .int .i64 (nvR 2 2 (-1) zs).2.1], .int .i64 (nvR 2 2 (-1) zs).2.2]) ∧ Below w.heap.size w w' := by
  have hl := hr.1
  by_cases h0 : n = 0 ∨ 64 < n
  · have E1 : Hid (0 = (nvR 2 2 (-1) zs).1) := Lib.hid (by simp [nvR, hl, h0])
    have E2 : Hid (0 = (nvR 2 2 (-1) zs).2.1) := Lib.hid (by simp [nvR, hl, h0])
    have E3 : Hid (2 = (nvR 2 2 (-1) zs).2.2) := Lib.hid (by simp [nvR, hl, h0])
    clear hl hr hwf
    rcases h0 with h0 | h0
    · subst h0
      go_enter Try.func26, Try.ntmps26
      go_wp2
      exact bodyPost_ret (v := .tuple #[.agg #[.int .i64 (0), .int .i64 (0)], .int .i64 (2)]) (by simp [results, Try.results26, go_sem, *]) rfl ⟨tup3 E1.out E2.out E3.out, (by repeat (first | exact Below.refl _ _ | apply below_drewN | apply Below.drew | (refine Below.setCell ?_ (by first | (simp; done) | (simp; omega) | omega) _) | (refine Below.alloc ?_ (by first | exact Nat.le_refl _ | (simp; done) | (simp; omega) | omega) _)))⟩
    · go_enter Try.func26, Try.ntmps26
      go_wp2
      exact bodyPost_ret (v := .tuple #[.agg #[.int .i64 (0), .int .i64 (0)], .int .i64 (2)]) (by simp [results, Try.results26, go_sem, *]) rfl ⟨tup3 E1.out E2.out E3.out, (by repeat (first | exact Below.refl _ _ | apply below_drewN | apply Below.drew | (refine Below.setCell ?_ (by first | (simp; done) | (simp; omega) | omega) _) | (refine Below.alloc ?_ (by first | exact Nat.le_refl _ | (simp; done) | (simp; omega) | omega) _)))⟩
  · obtain ⟨q, rfl⟩ : ∃ q, n = q + 1 := ⟨n - 1, by omega⟩
    have h64 : q + 1 ≤ 64 := by omega
    have ER : Hid (nvR 2 2 (-1) zs = if okL 2 2 zs then (match nvS (-1) zs (q + 1) 1 0 with | some (t, b) => ((t, b, 0) : Int × Int × Int) | none => (0, 0, 3)) else (0, 0, 2)) := Lib.hid (by unfold nvR; rw [if_neg (by omega), hl])
    have HL := Lib.hid hl
    have HW := Lib.hid hwf
    have HR := Lib.hid hr
    clear hl hr hwf h0
    go_enter Try.func26, Try.ntmps26
    go_wp2
    have hT : Two (w.alloc (.cells #[.int .i64 0, .int .i64 0] 35)) w.heap.size 0 0 := Two.new w 0 0
    have hB : Below w.heap.size w (w.alloc (.cells #[.int .i64 0, .int .i64 0] 35)) := (Below.refl _ _).alloc (Nat.le_refl _) _
    have HR1 := Lib.hid (HR.out.below hB)
    clear HR
    generalize w.alloc (.cells #[.int .i64 0, .int .i64 0] 35) = w1 at *
    have c0 := hT.c0
    have c1 := hT.c1
    have fz0 := hT.fz 0
    have fz1 := hT.fz 1
    clear hT
    go_loopw [4] (fun vi wr => ∃ (k : Nat), k ≤ q + 1 ∧ Hid (okL 2 2 zs = okL 2 2 (zs.drop k)) ∧ vi = .int .i64 k ∧ wr = w1) (fun vi _ => q + 1 - (intOf vi).toNat)
    case atStart => exact ⟨0, by omega, Lib.hid rfl, rfl, rfl⟩
    case round =>
      obtain ⟨k, hk, hg, rfl, rfl⟩ := hrel
      by_cases hlt : k < q + 1
      · obtain ⟨a, rfl, _, hcell⟩ := HR1.out.2 k hlt
        have hk0 : (0 : Int) ≤ (k : Int) := Int.natCast_nonneg _
        have hk1 : (k : Int) < ((q + 1 : Nat) : Int) := by omega
        have hz := wf_getD' HW.out k
        have HD : Hid (zs.drop k = zs[k]?.getD 0 :: zs.drop (k + 1)) := Lib.hid (drop_cons' zs k (by rw [HL.out]; exact hlt))
        have hcell' : wr.cell? (a.add k) = some (.int .i64 (zs[k]?.getD 0)) := by simpa using hcell
        clear hcell
        have hin0 : (2 : Int) = 2 := by rfl
        by_cases hin : 2 ≤ zs[k]?.getD 0 ∧ zs[k]?.getD 0 ≤ 1000000000
        · have HG : Hid (okL 2 2 zs = okL 2 2 (zs.drop (k + 1))) := Lib.hid (by rw [hg.out, HD.out]; simp only [okL]; rw [decide_eq_true hin, Bool.true_and])
          have HG' : Hid (okL 2 2 zs = okL 2 2 (zs.drop (k + 1))) := Lib.hid (by rw [HG.out]; skip)
          have hin2 : 2 ≤ zs[k]?.getD 0 ∧ zs[k]?.getD 0 ≤ 1000000000 := by rw [← hin0]; exact hin
          clear hg HG hin0 hin
          rcases (show (k : Int) < 1 ∨ 1 ≤ (k : Int) by omega) with hk2 | hk2
          all_goals
            go_wp2_with (go_at_call 72; refine (in_yes _ _ _ _ (by omega) (by omega)).mono ?_; rintro e w' ⟨rfl, rfl⟩)
            go_roundw
            case rel => exact ⟨_, by omega, HG', by go_num, by first | rfl | trivial⟩
            case measure => simp [intOf]; omega
        · have hF : okL 2 2 zs = false := by rw [hg.out, HD.out]; simp only [okL]; rw [decide_eq_false hin, Bool.false_and]
          have RR : nvR 2 2 (-1) zs = (0, 0, 2) := by rw [ER.out, hF]; rfl
          have E1 : Hid (0 = (nvR 2 2 (-1) zs).1) := Lib.hid (by rw [RR])
          have E2 : Hid (0 = (nvR 2 2 (-1) zs).2.1) := Lib.hid (by rw [RR])
          have E3 : Hid (2 = (nvR 2 2 (-1) zs).2.2) := Lib.hid (by rw [RR])
          have hin2 : ¬ (2 ≤ zs[k]?.getD 0 ∧ zs[k]?.getD 0 ≤ 1000000000) := by rw [← hin0]; exact hin
          clear RR hF hg hin0 hin
          rcases (show (k : Int) < 1 ∨ 1 ≤ (k : Int) by omega) with hk2 | hk2
          all_goals
            go_wp2_with (go_at_call 72; refine (in_no _ _ _ _ (by omega)).mono ?_; rintro e w' ⟨rfl, rfl⟩)
            exact bodyPost_ret (v := .tuple #[.agg #[.int .i64 (0), .int .i64 (0)], .int .i64 (2)]) (by simp [results, Try.results26, go_sem, *]) rfl ⟨tup3 E1.out E2.out E3.out, (by repeat (first | exact Below.refl _ _ | apply below_drewN | apply Below.drew | (refine Below.setCell ?_ (by first | (simp; done) | (simp; omega) | omega) _) | (refine Below.alloc ?_ (by first | exact Nat.le_refl _ | (simp; done) | (simp; omega) | omega) _) | (refine Below.trans ?_ (hB.mono (by first | exact Nat.le_refl _ | (simp; done) | (simp; omega) | omega)))))⟩
      · obtain rfl : k = q + 1 := by omega
        have hok : okL 2 2 zs = true := by rw [hg.out, List.drop_of_length_le (by rw [HL.out]; omega)]; rfl
        have hget := okL_get zs _ _ hok
        have ER' : Hid (nvR 2 2 (-1) zs = match nvS (-1) zs (q + 1) 1 0 with | some (t, b) => ((t, b, 0) : Int × Int × Int) | none => (0, 0, 3)) := Lib.hid (by rw [ER.out, hok]; rfl)
        have hq : zs[q]?.getD 0 ≤ 1000000000 := (hget q (by rw [HL.out]; omega)).2
        have hq' : 2 ≤ zs[q]?.getD 0 := by have := (hget q (by rw [HL.out]; omega)).1; split at this <;> omega
        have ES : Hid (nvS (-1) zs (q + 1) 1 0 = nvS (-1) zs q (zs[q]?.getD 0) 1) := Lib.hid (by
          conv => lhs; unfold nvS
          rw [if_neg (by omega), show zs[q]?.getD 0 * 1 + (-1) * 0 = zs[q]?.getD 0 by omega])
        have HGET := Lib.hid hget
        obtain ⟨a, rfl, _, hcell⟩ := HR1.out.2 q (by omega)
        have hcell' : wr.cell? (a.add q) = some (.int .i64 (zs[q]?.getD 0)) := by simpa using hcell
        clear hcell hget hok hg
        have hq1 : (0 : Int) ≤ (q : Int) := Int.natCast_nonneg _
        go_wp2
        go_loopw [5, 6, 7] (fun vt vb vi wx => ∃ (t b i : Int) (k : Nat), k ≤ q ∧ (i ≤ (k : Int) - 1 ∧ (k : Int) - 1 ≤ i) ∧ ((1 ≤ t ∧ t ≤ 1000000000) ∧ (0 ≤ b ∧ b ≤ t)) ∧ Hid (nvS (-1) zs (q + 1) 1 0 = nvS (-1) zs k t b) ∧ vt = .int .i64 t ∧ vb = .int .i64 b ∧ vi = .int .i64 i ∧ wx = wr) (fun _ _ vi _ => (intOf vi + 1).toNat)
        case atStart => exact ⟨_, _, _, q, by omega, by omega, by omega, ES, rfl, rfl, rfl, rfl⟩
        case round =>
          obtain ⟨t, b, i, k, hk, hik, hinv, hg, rfl, rfl, rfl, rfl⟩ := hrel
          rcases k with _ | j
          · obtain rfl : i = -1 := by omega
            have RR : nvR 2 2 (-1) zs = (t, b, 0) := by rw [ER'.out, hg.out]; rfl
            have E1 : Hid (t = (nvR 2 2 (-1) zs).1) := Lib.hid (by rw [RR])
            have E2 : Hid (b = (nvR 2 2 (-1) zs).2.1) := Lib.hid (by rw [RR])
            have E3 : Hid (0 = (nvR 2 2 (-1) zs).2.2) := Lib.hid (by rw [RR])
            clear RR hg
            go_wp2
            exact bodyPost_ret (v := .tuple #[.agg #[.int .i64 (t), .int .i64 (b)], .int .i64 (0)]) (by simp [results, Try.results26, go_sem, *]) rfl ⟨tup3 E1.out E2.out E3.out, (by repeat (first | exact Below.refl _ _ | apply below_drewN | apply Below.drew | (refine Below.setCell ?_ (by first | (simp; done) | (simp; omega) | omega) _) | (refine Below.alloc ?_ (by first | exact Nat.le_refl _ | (simp; done) | (simp; omega) | omega) _) | (refine Below.trans ?_ (hB.mono (by first | exact Nat.le_refl _ | (simp; done) | (simp; omega) | omega)))))⟩
          · obtain rfl : i = (j : Int) := by omega
            have hj0 : (0 : Int) ≤ (j : Int) := Int.natCast_nonneg _
            have hj1 : (j : Int) < ((q + 1 : Nat) : Int) := by omega
            have hz := HGET.out j (by rw [HL.out]; omega)
            have hz' : 2 ≤ zs[j]?.getD 0 ∧ zs[j]?.getD 0 ≤ 1000000000 := by have := hz; split at this <;> omega
            clear hz
            have hm1 := mul_in (show 0 ≤ zs[j]?.getD 0 ∧ zs[j]?.getD 0 ≤ 1000000000 by omega) (show 0 ≤ t ∧ t ≤ 1000000000 by omega)
            have hm2 := mul_two (show 2 ≤ zs[j]?.getD 0 by omega) (show 0 ≤ t by omega)
            obtain ⟨a', e', _, hcell⟩ := HR1.out.2 j (by omega)
            cases e'
            have hcell' : wr.cell? (a.add j) = some (.int .i64 (zs[j]?.getD 0)) := by simpa using hcell
            clear hcell
            by_cases hm : 1000000000 < zs[j]?.getD 0 * t - b
            · have hn : nvS (-1) zs (j + 1) t b = none := by unfold nvS; rw [if_pos (by omega)]
              have RR : nvR 2 2 (-1) zs = (0, 0, 3) := by rw [ER'.out, hg.out, hn]
              have E1 : Hid (0 = (nvR 2 2 (-1) zs).1) := Lib.hid (by rw [RR])
              have E2 : Hid (0 = (nvR 2 2 (-1) zs).2.1) := Lib.hid (by rw [RR])
              have E3 : Hid (3 = (nvR 2 2 (-1) zs).2.2) := Lib.hid (by rw [RR])
              clear RR hg hn
              go_wp2
              exact bodyPost_ret (v := .tuple #[.agg #[.int .i64 (0), .int .i64 (0)], .int .i64 (3)]) (by simp [results, Try.results26, go_sem, *]) rfl ⟨tup3 E1.out E2.out E3.out, (by repeat (first | exact Below.refl _ _ | apply below_drewN | apply Below.drew | (refine Below.setCell ?_ (by first | (simp; done) | (simp; omega) | omega) _) | (refine Below.alloc ?_ (by first | exact Nat.le_refl _ | (simp; done) | (simp; omega) | omega) _) | (refine Below.trans ?_ (hB.mono (by first | exact Nat.le_refl _ | (simp; done) | (simp; omega) | omega)))))⟩
            · have hn : nvS (-1) zs (j + 1) t b = nvS (-1) zs j (zs[j]?.getD 0 * t - b) t := by
                have e : zs[j]?.getD 0 * t - b = zs[j]?.getD 0 * t + (-1) * b := by omega
                rw [e]; conv => lhs; unfold nvS
                rw [if_neg (by omega)]
              have HG : Hid (nvS (-1) zs (q + 1) 1 0 = nvS (-1) zs j (zs[j]?.getD 0 * t - b) t) := Lib.hid (hg.out.trans hn)
              clear hg hn
              go_wp2
              go_roundw
              case rel => exact ⟨_, _, _, j, by omega, by omega, by omega, HG, rfl, rfl, rfl, by first | rfl | trivial⟩
              case measure => simp [intOf] <;> omega

set_option maxHeartbeats 1600000 in
theorem nestedValue_plus (A : Option Addr) (n c : Nat) (zs : List Int) (w : World) (hr : RI w w.heap.size A n zs) (hn : n ≤ 9223372036854775807) (hwf : ∀ z ∈ zs, (Lit.int .i64 z).wf = true) :
    Calls Try.prog 67 #[.slice A n c, .int .i64 (0), .int .i64 (1), .int .i64 (1)] w fun e w' => e = .returned (.tuple #[.agg #[.int .i64 (nvR 0 1 (1) zs).1, .int .i64 (nvR 0 1 (1) zs).2.1], .int .i64 (nvR 0 1 (1) zs).2.2]) ∧ Below w.heap.size w w' := by
  have hl := hr.1
  by_cases h0 : n = 0 ∨ 64 < n
  · have E1 : Hid (0 = (nvR 0 1 (1) zs).1) := Lib.hid (by simp [nvR, hl, h0])
    have E2 : Hid (0 = (nvR 0 1 (1) zs).2.1) := Lib.hid (by simp [nvR, hl, h0])
    have E3 : Hid (2 = (nvR 0 1 (1) zs).2.2) := Lib.hid (by simp [nvR, hl, h0])
    clear hl hr hwf
    rcases h0 with h0 | h0
    · subst h0
      go_enter Try.func67, Try.ntmps67
      go_wp2
      exact bodyPost_ret (v := .tuple #[.agg #[.int .i64 (0), .int .i64 (0)], .int .i64 (2)]) (by simp [results, Try.results67, go_sem, *]) rfl ⟨tup3 E1.out E2.out E3.out, (by repeat (first | exact Below.refl _ _ | apply below_drewN | apply Below.drew | (refine Below.setCell ?_ (by first | (simp; done) | (simp; omega) | omega) _) | (refine Below.alloc ?_ (by first | exact Nat.le_refl _ | (simp; done) | (simp; omega) | omega) _)))⟩
    · have hne : ((n : Int) == 0) = false := by simp; omega
      go_enter Try.func67, Try.ntmps67
      go_wp2
      exact bodyPost_ret (v := .tuple #[.agg #[.int .i64 (0), .int .i64 (0)], .int .i64 (2)]) (by simp [results, Try.results67, go_sem, *]) rfl ⟨tup3 E1.out E2.out E3.out, (by repeat (first | exact Below.refl _ _ | apply below_drewN | apply Below.drew | (refine Below.setCell ?_ (by first | (simp; done) | (simp; omega) | omega) _) | (refine Below.alloc ?_ (by first | exact Nat.le_refl _ | (simp; done) | (simp; omega) | omega) _)))⟩
  · obtain ⟨q, rfl⟩ : ∃ q, n = q + 1 := ⟨n - 1, by omega⟩
    have h64 : q + 1 ≤ 64 := by omega
    have ER : Hid (nvR 0 1 (1) zs = if okL 0 1 zs then (match nvS (1) zs (q + 1) 1 0 with | some (t, b) => ((t, b, 0) : Int × Int × Int) | none => (0, 0, 3)) else (0, 0, 2)) := Lib.hid (by unfold nvR; rw [if_neg (by omega), hl])
    have HL := Lib.hid hl
    have HW := Lib.hid hwf
    have HR := Lib.hid hr
    clear hl hr hwf h0
    have hne : (((q : Int) + 1) == 0) = false := by simp; omega
    go_enter Try.func67, Try.ntmps67
    go_wp2
    clear hne
    have hT : Hid (Two (w.alloc (.cells #[.int .i64 0, .int .i64 0] 35)) w.heap.size 0 0) := Lib.hid (Two.new w 0 0)
    have hB : Below w.heap.size w (w.alloc (.cells #[.int .i64 0, .int .i64 0] 35)) := (Below.refl _ _).alloc (Nat.le_refl _) _
    generalize w.alloc (.cells #[.int .i64 0, .int .i64 0] 35) = w1 at *
    have c0 := hT.out.c0
    have c1 := hT.out.c1
    have fz0 := hT.out.fz 0
    have fz1 := hT.out.fz 1
    go_loopw [10, 27] (fun vl vi wr => ∃ (k : Nat) (lv : Int), k ≤ q + 1 ∧ (0 ≤ lv ∧ lv ≤ 2) ∧ Hid (okL 0 1 zs = okL lv 1 (zs.drop k)) ∧ vl = .int .i64 lv ∧ vi = .int .i64 k ∧ wr = w1) (fun _ vi _ => q + 1 - (intOf vi).toNat)
    case atStart => exact ⟨0, 0, by omega, by omega, Lib.hid rfl, rfl, rfl, rfl⟩
    case round =>
      obtain ⟨k, lv, hk, hlv, hg, rfl, rfl, rfl⟩ := hrel
      by_cases hlt : k < q + 1
      · obtain ⟨a, rfl, _, hcell⟩ := (HR.out.below hB).2 k hlt
        have hk0 : (0 : Int) ≤ (k : Int) := Int.natCast_nonneg _
        have hk1 : (k : Int) < ((q + 1 : Nat) : Int) := by omega
        have hz := wf_getD' HW.out k
        have HD : Hid (zs.drop k = zs[k]?.getD 0 :: zs.drop (k + 1)) := Lib.hid (drop_cons' zs k (by rw [HL.out]; exact hlt))
        have hcell' : wr.cell? (a.add k) = some (.int .i64 (zs[k]?.getD 0)) := by simpa using hcell
        clear hcell
        by_cases hin : lv ≤ zs[k]?.getD 0 ∧ zs[k]?.getD 0 ≤ 1000000000
        · have HG : Hid (okL 0 1 zs = okL 1 1 (zs.drop (k + 1))) := Lib.hid (by rw [hg.out, HD.out]; simp only [okL]; rw [decide_eq_true hin, Bool.true_and])
          clear hg
          obtain ⟨hin1, hin2⟩ := hin
          go_wp2
          go_roundw
          case rel => exact ⟨_, _, by omega, by omega, HG, rfl, by go_num, by first | rfl | trivial⟩
          case measure => simp [intOf] <;> omega
        · have hF : okL 0 1 zs = false := by rw [hg.out, HD.out]; simp only [okL]; rw [decide_eq_false hin, Bool.false_and]
          have RR : nvR 0 1 (1) zs = (0, 0, 2) := by rw [ER.out, hF]; rfl
          have E1 : Hid (0 = (nvR 0 1 (1) zs).1) := Lib.hid (by rw [RR])
          have E2 : Hid (0 = (nvR 0 1 (1) zs).2.1) := Lib.hid (by rw [RR])
          have E3 : Hid (2 = (nvR 0 1 (1) zs).2.2) := Lib.hid (by rw [RR])
          clear RR hF hg
          rcases (show zs[k]?.getD 0 < lv ∨ (lv ≤ zs[k]?.getD 0 ∧ 1000000000 < zs[k]?.getD 0) by omega) with hx | ⟨hx, hy⟩
          all_goals
            clear hin
            go_wp2
            exact bodyPost_ret (v := .tuple #[.agg #[.int .i64 (0), .int .i64 (0)], .int .i64 (2)]) (by simp [results, Try.results67, go_sem, *]) rfl ⟨tup3 E1.out E2.out E3.out, (by repeat (first | exact Below.refl _ _ | apply below_drewN | apply Below.drew | (refine Below.setCell ?_ (by first | (simp; done) | (simp; omega) | omega) _) | (refine Below.alloc ?_ (by first | exact Nat.le_refl _ | (simp; done) | (simp; omega) | omega) _) | (refine Below.trans ?_ (hB.mono (by first | exact Nat.le_refl _ | (simp; done) | (simp; omega) | omega)))))⟩
      · obtain rfl : k = q + 1 := by omega
        have hok : okL 0 1 zs = true := by rw [hg.out, List.drop_of_length_le (by rw [HL.out]; omega)]; rfl
        have HGET := Lib.hid (okL_get zs _ _ hok)
        have ER' : Hid (nvR 0 1 (1) zs = match nvS (1) zs (q + 1) 1 0 with | some (t, b) => ((t, b, 0) : Int × Int × Int) | none => (0, 0, 3)) := Lib.hid (by rw [ER.out, hok]; rfl)
        clear hok hg
        go_wp2
        obtain ⟨wo, rfl⟩ : ∃ wo : World, wo = wr := ⟨_, rfl⟩
        have hlw := hT.out.lt
        have h2 : Hid (Two (wo.alloc (.cells #[.int .i64 1, .int .i64 0] 35)) wo.heap.size 1 0) := Lib.hid (Two.new wo 1 0)
        have h3 : Hid (Two (wo.alloc (.cells #[.int .i64 1, .int .i64 0] 35)) w.heap.size 0 0) := Lib.hid (hT.out.alloc _)
        have h4 : Below w.heap.size w (wo.alloc (.cells #[.int .i64 1, .int .i64 0] 35)) := hB.alloc hB.size _
        clear c0 c1 fz0 fz1
        generalize wo.alloc (.cells #[.int .i64 1, .int .i64 0] 35) = w2 at *
        go_loopw [14] (fun vi wr => ∃ (t b i : Int) (k : Nat), k ≤ q + 1 ∧ (i ≤ (k : Int) - 1 ∧ (k : Int) - 1 ≤ i) ∧ ((0 ≤ t ∧ t ≤ 1000000000) ∧ (0 ≤ b ∧ b ≤ 1000000000)) ∧ Hid (nvS (1) zs (q + 1) 1 0 = nvS (1) zs k t b) ∧ vi = .int .i64 i ∧ Hid (Two wr wo.heap.size t b) ∧ Hid (Two wr w.heap.size 0 0) ∧ Below w.heap.size w wr) (fun vi _ => (intOf vi + 1).toNat)
        case atStart => exact ⟨1, 0, _, q + 1, by omega, by omega, by omega, Lib.hid rfl, rfl, h2, h3, h4⟩
        case round =>
          obtain ⟨t, b, i, k, hk, hik, hinv, hg, rfl, hTf, hTr, hB⟩ := hrel
          have c0 := hTf.out.c0
          have c1 := hTf.out.c1
          have fz0 := hTf.out.fz 0
          have fz1 := hTf.out.fz 1
          have d0 := hTr.out.c0
          have d1 := hTr.out.c1
          have gz0 := hTr.out.fz 0
          have gz1 := hTr.out.fz 1
          rcases k with _ | j
          · obtain rfl : i = -1 := by omega
            have RR : nvR 0 1 (1) zs = (t, b, 0) := by rw [ER'.out, hg.out]; rfl
            have E1 : Hid (t = (nvR 0 1 (1) zs).1) := Lib.hid (by rw [RR])
            have E2 : Hid (b = (nvR 0 1 (1) zs).2.1) := Lib.hid (by rw [RR])
            have E3 : Hid (0 = (nvR 0 1 (1) zs).2.2) := Lib.hid (by rw [RR])
            clear RR hg
            go_wp2
            exact bodyPost_ret (v := .tuple #[.agg #[.int .i64 (t), .int .i64 (b)], .int .i64 (0)]) (by simp [results, Try.results67, go_sem, *]) rfl ⟨tup3 E1.out E2.out E3.out, (by repeat (first | exact Below.refl _ _ | apply below_drewN | apply Below.drew | (refine Below.setCell ?_ (by first | (simp; done) | (simp; omega) | omega) _) | (refine Below.alloc ?_ (by first | exact Nat.le_refl _ | (simp; done) | (simp; omega) | omega) _) | (refine Below.trans ?_ (hB.mono (by first | exact Nat.le_refl _ | (simp; done) | (simp; omega) | omega)))))⟩
          · obtain rfl : i = (j : Int) := by omega
            have hj0 : (0 : Int) ≤ (j : Int) := Int.natCast_nonneg _
            have hj1 : (j : Int) < ((q + 1 : Nat) : Int) := by omega
            have hz := HGET.out j (by rw [HL.out]; omega)
            have hz' : 0 ≤ zs[j]?.getD 0 ∧ zs[j]?.getD 0 ≤ 1000000000 := by have := hz; split at this <;> omega
            clear hz
            have hm1 := mul_in (show 0 ≤ zs[j]?.getD 0 ∧ zs[j]?.getD 0 ≤ 1000000000 by omega) (show 0 ≤ t ∧ t ≤ 1000000000 by omega)
            skip
            obtain ⟨a', e', _, hcell⟩ := (HR.out.below hB).2 j (by omega)
            cases e'
            have hcell' : wr.cell? (a'.add j) = some (.int .i64 (zs[j]?.getD 0)) := by simpa using hcell
            clear hcell
            by_cases hm : 1000000000 < zs[j]?.getD 0 * t + b
            · have hn : nvS (1) zs (j + 1) t b = none := by unfold nvS; rw [if_pos (by omega)]
              have RR : nvR 0 1 (1) zs = (0, 0, 3) := by rw [ER'.out, hg.out, hn]
              have E1 : Hid (0 = (nvR 0 1 (1) zs).1) := Lib.hid (by rw [RR])
              have E2 : Hid (0 = (nvR 0 1 (1) zs).2.1) := Lib.hid (by rw [RR])
              have E3 : Hid (3 = (nvR 0 1 (1) zs).2.2) := Lib.hid (by rw [RR])
              clear RR hg hn
              go_wp2
              go_region
              all_goals go_wp2
              all_goals exact bodyPost_ret (v := .tuple #[.agg #[.int .i64 (0), .int .i64 (0)], .int .i64 (3)]) (by simp [results, Try.results67, go_sem, *]) rfl ⟨tup3 E1.out E2.out E3.out, (by repeat (first | exact Below.refl _ _ | apply below_drewN | apply Below.drew | (refine Below.setCell ?_ (by first | (simp; done) | (simp; omega) | omega) _) | (refine Below.alloc ?_ (by first | exact Nat.le_refl _ | (simp; done) | (simp; omega) | omega) _) | (refine Below.trans ?_ (hB.mono (by first | exact Nat.le_refl _ | (simp; done) | (simp; omega) | omega)))))⟩
            · have hn : nvS (1) zs (j + 1) t b = nvS (1) zs j (zs[j]?.getD 0 * t + b) t := by
                have e : zs[j]?.getD 0 * t + b = zs[j]?.getD 0 * t + (1) * b := by omega
                rw [e]; conv => lhs; unfold nvS
                rw [if_neg (by omega)]
              have HG : Hid (nvS (1) zs (q + 1) 1 0 = nvS (1) zs j (zs[j]?.getD 0 * t + b) t) := Lib.hid (hg.out.trans hn)
              clear hg hn
              go_wp2
              go_region
              all_goals go_wp2
              all_goals go_roundw
              case rel => ((repeat apply Exists.intro); exact ⟨⟨zs[j]?.getD 0 * t + b, t, _, j, by omega, by omega, by omega, HG, rfl, Lib.hid (Two.set2 (w := wr.drew) hTf.out _ _), Lib.hid (Two.other (w := wr.drew) hTr.out (by simp; omega) (by simp; omega) _ _), ((hB.drew).setCell (by simp; omega) _).setCell (by simp; omega) _⟩, rfl⟩)
              case measure => simp [intOf] <;> omega

set_option maxHeartbeats 1600000 in
theorem nestedValue_minus (A : Option Addr) (n c : Nat) (zs : List Int) (w : World) (hr : RI w w.heap.size A n zs) (hn : n ≤ 9223372036854775807) (hwf : ∀ z ∈ zs, (Lit.int .i64 z).wf = true) :
    Calls Try.prog 67 #[.slice A n c, .int .i64 (2), .int .i64 (2), .int .i64 (-1)] w fun e w' => e = .returned (.tuple #[.agg #[.int .i64 (nvR 2 2 (-1) zs).1, .int .i64 (nvR 2 2 (-1) zs).2.1], .int .i64 (nvR 2 2 (-1) zs).2.2]) ∧ Below w.heap.size w w' := by
  have hl := hr.1
  by_cases h0 : n = 0 ∨ 64 < n
  · have E1 : Hid (0 = (nvR 2 2 (-1) zs).1) := Lib.hid (by simp [nvR, hl, h0])
    have E2 : Hid (0 = (nvR 2 2 (-1) zs).2.1) := Lib.hid (by simp [nvR, hl, h0])
    have E3 : Hid (2 = (nvR 2 2 (-1) zs).2.2) := Lib.hid (by simp [nvR, hl, h0])
    clear hl hr hwf
    rcases h0 with h0 | h0
    · subst h0
      go_enter Try.func67, Try.ntmps67
      go_wp2
      exact bodyPost_ret (v := .tuple #[.agg #[.int .i64 (0), .int .i64 (0)], .int .i64 (2)]) (by simp [results, Try.results67, go_sem, *]) rfl ⟨tup3 E1.out E2.out E3.out, (by repeat (first | exact Below.refl _ _ | apply below_drewN | apply Below.drew | (refine Below.setCell ?_ (by first | (simp; done) | (simp; omega) | omega) _) | (refine Below.alloc ?_ (by first | exact Nat.le_refl _ | (simp; done) | (simp; omega) | omega) _)))⟩
    · have hne : ((n : Int) == 0) = false := by simp; omega
      go_enter Try.func67, Try.ntmps67
      go_wp2
      exact bodyPost_ret (v := .tuple #[.agg #[.int .i64 (0), .int .i64 (0)], .int .i64 (2)]) (by simp [results, Try.results67, go_sem, *]) rfl ⟨tup3 E1.out E2.out E3.out, (by repeat (first | exact Below.refl _ _ | apply below_drewN | apply Below.drew | (refine Below.setCell ?_ (by first | (simp; done) | (simp; omega) | omega) _) | (refine Below.alloc ?_ (by first | exact Nat.le_refl _ | (simp; done) | (simp; omega) | omega) _)))⟩
  · obtain ⟨q, rfl⟩ : ∃ q, n = q + 1 := ⟨n - 1, by omega⟩
    have h64 : q + 1 ≤ 64 := by omega
    have ER : Hid (nvR 2 2 (-1) zs = if okL 2 2 zs then (match nvS (-1) zs (q + 1) 1 0 with | some (t, b) => ((t, b, 0) : Int × Int × Int) | none => (0, 0, 3)) else (0, 0, 2)) := Lib.hid (by unfold nvR; rw [if_neg (by omega), hl])
    have HL := Lib.hid hl
    have HW := Lib.hid hwf
    have HR := Lib.hid hr
    clear hl hr hwf h0
    have hne : (((q : Int) + 1) == 0) = false := by simp; omega
    go_enter Try.func67, Try.ntmps67
    go_wp2
    clear hne
    have hT : Hid (Two (w.alloc (.cells #[.int .i64 0, .int .i64 0] 35)) w.heap.size 0 0) := Lib.hid (Two.new w 0 0)
    have hB : Below w.heap.size w (w.alloc (.cells #[.int .i64 0, .int .i64 0] 35)) := (Below.refl _ _).alloc (Nat.le_refl _) _
    generalize w.alloc (.cells #[.int .i64 0, .int .i64 0] 35) = w1 at *
    have c0 := hT.out.c0
    have c1 := hT.out.c1
    have fz0 := hT.out.fz 0
    have fz1 := hT.out.fz 1
    go_loopw [10, 27] (fun vl vi wr => ∃ (k : Nat) (lv : Int), k ≤ q + 1 ∧ (2 ≤ lv ∧ lv ≤ 2) ∧ Hid (okL 2 2 zs = okL lv 2 (zs.drop k)) ∧ vl = .int .i64 lv ∧ vi = .int .i64 k ∧ wr = w1) (fun _ vi _ => q + 1 - (intOf vi).toNat)
    case atStart => exact ⟨0, 2, by omega, by omega, Lib.hid rfl, rfl, rfl, rfl⟩
    case round =>
      obtain ⟨k, lv, hk, hlv, hg, rfl, rfl, rfl⟩ := hrel
      by_cases hlt : k < q + 1
      · obtain ⟨a, rfl, _, hcell⟩ := (HR.out.below hB).2 k hlt
        have hk0 : (0 : Int) ≤ (k : Int) := Int.natCast_nonneg _
        have hk1 : (k : Int) < ((q + 1 : Nat) : Int) := by omega
        have hz := wf_getD' HW.out k
        have HD : Hid (zs.drop k = zs[k]?.getD 0 :: zs.drop (k + 1)) := Lib.hid (drop_cons' zs k (by rw [HL.out]; exact hlt))
        have hcell' : wr.cell? (a.add k) = some (.int .i64 (zs[k]?.getD 0)) := by simpa using hcell
        clear hcell
        by_cases hin : lv ≤ zs[k]?.getD 0 ∧ zs[k]?.getD 0 ≤ 1000000000
        · have HG : Hid (okL 2 2 zs = okL 2 2 (zs.drop (k + 1))) := Lib.hid (by rw [hg.out, HD.out]; simp only [okL]; rw [decide_eq_true hin, Bool.true_and])
          clear hg
          obtain ⟨hin1, hin2⟩ := hin
          go_wp2
          go_roundw
          case rel => exact ⟨_, _, by omega, by omega, HG, rfl, by go_num, by first | rfl | trivial⟩
          case measure => simp [intOf] <;> omega
        · have hF : okL 2 2 zs = false := by rw [hg.out, HD.out]; simp only [okL]; rw [decide_eq_false hin, Bool.false_and]
          have RR : nvR 2 2 (-1) zs = (0, 0, 2) := by rw [ER.out, hF]; rfl
          have E1 : Hid (0 = (nvR 2 2 (-1) zs).1) := Lib.hid (by rw [RR])
          have E2 : Hid (0 = (nvR 2 2 (-1) zs).2.1) := Lib.hid (by rw [RR])
          have E3 : Hid (2 = (nvR 2 2 (-1) zs).2.2) := Lib.hid (by rw [RR])
          clear RR hF hg
          rcases (show zs[k]?.getD 0 < lv ∨ (lv ≤ zs[k]?.getD 0 ∧ 1000000000 < zs[k]?.getD 0) by omega) with hx | ⟨hx, hy⟩
          all_goals
            clear hin
            go_wp2
            exact bodyPost_ret (v := .tuple #[.agg #[.int .i64 (0), .int .i64 (0)], .int .i64 (2)]) (by simp [results, Try.results67, go_sem, *]) rfl ⟨tup3 E1.out E2.out E3.out, (by repeat (first | exact Below.refl _ _ | apply below_drewN | apply Below.drew | (refine Below.setCell ?_ (by first | (simp; done) | (simp; omega) | omega) _) | (refine Below.alloc ?_ (by first | exact Nat.le_refl _ | (simp; done) | (simp; omega) | omega) _) | (refine Below.trans ?_ (hB.mono (by first | exact Nat.le_refl _ | (simp; done) | (simp; omega) | omega)))))⟩
      · obtain rfl : k = q + 1 := by omega
        have hok : okL 2 2 zs = true := by rw [hg.out, List.drop_of_length_le (by rw [HL.out]; omega)]; rfl
        have HGET := Lib.hid (okL_get zs _ _ hok)
        have ER' : Hid (nvR 2 2 (-1) zs = match nvS (-1) zs (q + 1) 1 0 with | some (t, b) => ((t, b, 0) : Int × Int × Int) | none => (0, 0, 3)) := Lib.hid (by rw [ER.out, hok]; rfl)
        clear hok hg
        go_wp2
        obtain ⟨wo, rfl⟩ : ∃ wo : World, wo = wr := ⟨_, rfl⟩
        have hlw := hT.out.lt
        have h2 : Hid (Two (wo.alloc (.cells #[.int .i64 1, .int .i64 0] 35)) wo.heap.size 1 0) := Lib.hid (Two.new wo 1 0)
        have h3 : Hid (Two (wo.alloc (.cells #[.int .i64 1, .int .i64 0] 35)) w.heap.size 0 0) := Lib.hid (hT.out.alloc _)
        have h4 : Below w.heap.size w (wo.alloc (.cells #[.int .i64 1, .int .i64 0] 35)) := hB.alloc hB.size _
        clear c0 c1 fz0 fz1
        generalize wo.alloc (.cells #[.int .i64 1, .int .i64 0] 35) = w2 at *
        go_loopw [14] (fun vi wr => ∃ (t b i : Int) (k : Nat), k ≤ q + 1 ∧ (i ≤ (k : Int) - 1 ∧ (k : Int) - 1 ≤ i) ∧ ((1 ≤ t ∧ t ≤ 1000000000) ∧ (0 ≤ b ∧ b ≤ t)) ∧ Hid (nvS (-1) zs (q + 1) 1 0 = nvS (-1) zs k t b) ∧ vi = .int .i64 i ∧ Hid (Two wr wo.heap.size t b) ∧ Hid (Two wr w.heap.size 0 0) ∧ Below w.heap.size w wr) (fun vi _ => (intOf vi + 1).toNat)
        case atStart => exact ⟨1, 0, _, q + 1, by omega, by omega, by omega, Lib.hid rfl, rfl, h2, h3, h4⟩
        case round =>
          obtain ⟨t, b, i, k, hk, hik, hinv, hg, rfl, hTf, hTr, hB⟩ := hrel
          have c0 := hTf.out.c0
          have c1 := hTf.out.c1
          have fz0 := hTf.out.fz 0
          have fz1 := hTf.out.fz 1
          have d0 := hTr.out.c0
          have d1 := hTr.out.c1
          have gz0 := hTr.out.fz 0
          have gz1 := hTr.out.fz 1
          rcases k with _ | j
          · obtain rfl : i = -1 := by omega
            have RR : nvR 2 2 (-1) zs = (t, b, 0) := by rw [ER'.out, hg.out]; rfl
            have E1 : Hid (t = (nvR 2 2 (-1) zs).1) := Lib.hid (by rw [RR])
            have E2 : Hid (b = (nvR 2 2 (-1) zs).2.1) := Lib.hid (by rw [RR])
            have E3 : Hid (0 = (nvR 2 2 (-1) zs).2.2) := Lib.hid (by rw [RR])
            clear RR hg
            go_wp2
            exact bodyPost_ret (v := .tuple #[.agg #[.int .i64 (t), .int .i64 (b)], .int .i64 (0)]) (by simp [results, Try.results67, go_sem, *]) rfl ⟨tup3 E1.out E2.out E3.out, (by repeat (first | exact Below.refl _ _ | apply below_drewN | apply Below.drew | (refine Below.setCell ?_ (by first | (simp; done) | (simp; omega) | omega) _) | (refine Below.alloc ?_ (by first | exact Nat.le_refl _ | (simp; done) | (simp; omega) | omega) _) | (refine Below.trans ?_ (hB.mono (by first | exact Nat.le_refl _ | (simp; done) | (simp; omega) | omega)))))⟩
          · obtain rfl : i = (j : Int) := by omega
            have hj0 : (0 : Int) ≤ (j : Int) := Int.natCast_nonneg _
            have hj1 : (j : Int) < ((q + 1 : Nat) : Int) := by omega
            have hz := HGET.out j (by rw [HL.out]; omega)
            have hz' : 2 ≤ zs[j]?.getD 0 ∧ zs[j]?.getD 0 ≤ 1000000000 := by have := hz; split at this <;> omega
            clear hz
            have hm1 := mul_in (show 0 ≤ zs[j]?.getD 0 ∧ zs[j]?.getD 0 ≤ 1000000000 by omega) (show 0 ≤ t ∧ t ≤ 1000000000 by omega)
            have hm2 := mul_two (show 2 ≤ zs[j]?.getD 0 by omega) (show 0 ≤ t by omega)
            obtain ⟨a', e', _, hcell⟩ := (HR.out.below hB).2 j (by omega)
            cases e'
            have hcell' : wr.cell? (a'.add j) = some (.int .i64 (zs[j]?.getD 0)) := by simpa using hcell
            clear hcell
            by_cases hm : 1000000000 < zs[j]?.getD 0 * t - b
            · have hn : nvS (-1) zs (j + 1) t b = none := by unfold nvS; rw [if_pos (by omega)]
              have RR : nvR 2 2 (-1) zs = (0, 0, 3) := by rw [ER'.out, hg.out, hn]
              have E1 : Hid (0 = (nvR 2 2 (-1) zs).1) := Lib.hid (by rw [RR])
              have E2 : Hid (0 = (nvR 2 2 (-1) zs).2.1) := Lib.hid (by rw [RR])
              have E3 : Hid (3 = (nvR 2 2 (-1) zs).2.2) := Lib.hid (by rw [RR])
              clear RR hg hn
              go_wp2
              go_region
              all_goals go_wp2
              all_goals exact bodyPost_ret (v := .tuple #[.agg #[.int .i64 (0), .int .i64 (0)], .int .i64 (3)]) (by simp [results, Try.results67, go_sem, *]) rfl ⟨tup3 E1.out E2.out E3.out, (by repeat (first | exact Below.refl _ _ | apply below_drewN | apply Below.drew | (refine Below.setCell ?_ (by first | (simp; done) | (simp; omega) | omega) _) | (refine Below.alloc ?_ (by first | exact Nat.le_refl _ | (simp; done) | (simp; omega) | omega) _) | (refine Below.trans ?_ (hB.mono (by first | exact Nat.le_refl _ | (simp; done) | (simp; omega) | omega)))))⟩
            · have hn : nvS (-1) zs (j + 1) t b = nvS (-1) zs j (zs[j]?.getD 0 * t - b) t := by
                have e : zs[j]?.getD 0 * t - b = zs[j]?.getD 0 * t + (-1) * b := by omega
                rw [e]; conv => lhs; unfold nvS
                rw [if_neg (by omega)]
              have HG : Hid (nvS (-1) zs (q + 1) 1 0 = nvS (-1) zs j (zs[j]?.getD 0 * t - b) t) := Lib.hid (hg.out.trans hn)
              clear hg hn
              go_wp2
              go_region
              all_goals go_wp2
              all_goals go_roundw
              case rel => ((repeat apply Exists.intro); exact ⟨⟨zs[j]?.getD 0 * t - b, t, _, j, by omega, by omega, by omega, HG, rfl, Lib.hid (Two.set2 (w := wr.drew) hTf.out _ _), Lib.hid (Two.other (w := wr.drew) hTr.out (by simp; omega) (by simp; omega) _ _), ((hB.drew).setCell (by simp; omega) _).setCell (by simp; omega) _⟩, rfl⟩)
              case measure => simp [intOf] <;> omega

theorem bcellS {W w1 : World} (hb : Below W.heap.size W w1) : (∀ b o, b < W.heap.size → w1.cell? ⟨b, o, none⟩ = W.cell? ⟨b, o, none⟩) ∧ (∀ b o, b < W.heap.size → w1.frozen? ⟨b, o, none⟩ = W.frozen? ⟨b, o, none⟩) :=
  ⟨fun b o h => hb.cell (p := ⟨b, o, none⟩) h, fun b o h => hb.frozen (p := ⟨b, o, none⟩) h⟩

theorem implFractionValue_any (A : Option Addr) (n c : Nat) (zs : List Int) (w : World) (hr : RI w w.heap.size A n zs) (hn : n ≤ 9223372036854775807) (hwf : ∀ z ∈ zs, (Lit.int .i64 z).wf = true) :
    Calls Try.prog 19 #[.slice A n c] w fun e w' => e = .returned (.tuple #[.agg #[.int .i64 (nvR 0 1 (1) zs).1, .int .i64 (nvR 0 1 (1) zs).2.1], .int .i64 (nvR 0 1 (1) zs).2.2]) ∧ Below w.heap.size w w' := by
  have HR := Lib.hid hr
  have HW := Lib.hid hwf
  clear hr hwf
  go_enter Try.func19, Try.ntmps19
  go_wp2_with (go_at_call 67; refine (nestedValue_plus _ n c zs _ ?_ hn HW.out).mono ?_; (exact (HR.out.below ((Below.refl _ _).alloc (Nat.le_refl _) _)).more (by simp)); rintro e w1 ⟨rfl, hb1⟩; obtain ⟨hc1, hf1⟩ := bcellS hb1; have hz1 := hb1.size; (try simp at hz1); have hk1 : w.heap.size < w1.heap.size := by omega)
  exact bodyPost_ret (v := .tuple #[.agg #[.int .i64 (nvR 0 1 (1) zs).1, .int .i64 (nvR 0 1 (1) zs).2.1], .int .i64 (nvR 0 1 (1) zs).2.2]) (by simp [results, Try.results19, go_sem, *]) rfl ⟨rfl, (by repeat (first | exact Below.refl _ _ | apply below_drewN | apply Below.drew | (refine Below.setCell ?_ (by first | (simp; done) | (simp; omega) | omega) _) | (refine Below.alloc ?_ (by first | exact Nat.le_refl _ | (simp; done) | (simp; omega) | omega) _) | (refine Below.trans ?_ (hb1.mono (by first | exact Nat.le_refl _ | (simp; done) | (simp; omega) | omega)))))⟩

theorem implNegativeValue_any (A : Option Addr) (n c : Nat) (zs : List Int) (w : World) (hr : RI w w.heap.size A n zs) (hn : n ≤ 9223372036854775807) (hwf : ∀ z ∈ zs, (Lit.int .i64 z).wf = true) :
    Calls Try.prog 24 #[.slice A n c] w fun e w' => e = .returned (.tuple #[.agg #[.int .i64 (nvR 2 2 (-1) zs).1, .int .i64 (nvR 2 2 (-1) zs).2.1], .int .i64 (nvR 2 2 (-1) zs).2.2]) ∧ Below w.heap.size w w' := by
  have HR := Lib.hid hr
  have HW := Lib.hid hwf
  clear hr hwf
  go_enter Try.func24, Try.ntmps24
  go_wp2_with (go_at_call 67; refine (nestedValue_minus _ n c zs _ ?_ hn HW.out).mono ?_; (exact (HR.out.below ((Below.refl _ _).alloc (Nat.le_refl _) _)).more (by simp)); rintro e w1 ⟨rfl, hb1⟩; obtain ⟨hc1, hf1⟩ := bcellS hb1; have hz1 := hb1.size; (try simp at hz1); have hk1 : w.heap.size < w1.heap.size := by omega)
  exact bodyPost_ret (v := .tuple #[.agg #[.int .i64 (nvR 2 2 (-1) zs).1, .int .i64 (nvR 2 2 (-1) zs).2.1], .int .i64 (nvR 2 2 (-1) zs).2.2]) (by simp [results, Try.results24, go_sem, *]) rfl ⟨rfl, (by repeat (first | exact Below.refl _ _ | apply below_drewN | apply Below.drew | (refine Below.setCell ?_ (by first | (simp; done) | (simp; omega) | omega) _) | (refine Below.alloc ?_ (by first | exact Nat.le_refl _ | (simp; done) | (simp; omega) | omega) _) | (refine Below.trans ?_ (hb1.mono (by first | exact Nat.le_refl _ | (simp; done) | (simp; omega) | omega)))))⟩
end Go.Proofs.Ytbipihamkfifjaa
