/- Continued fractions, the model's and the program's: contracts. Conditions: stated at each theorem. -/
import Derived.Test.YtbipihamkfifjaaSteps
import Derived.Test.YtbipihamkfifjaaNf
import Derived.Test.YtbipihamkfifjaaMarksSS
namespace Go.Proofs.Ytbipihamkfifjaa.Cf
open Go.ChangeShapes Go.WideShapes Go.ChangeAt Go.RowKit
set_option linter.unusedVariables false

def cfA (a b : Int) : List Int := (esA a b).map (·.1)
theorem cfA_len (a b : Int) : (cfA a b).length ≤ 1000000001 := by unfold cfA; rw [List.length_map]; exact esA_len a b
theorem weaken {w : World} {base base' n : Nat} {v : Value} {xs : List Value} (h : Own w base v n xs) (hb : base' ≤ base) : Own w base' v n xs := by
  refine ⟨h.1, ?_⟩
  rcases h.2 with hn | ⟨g, cap, cur, e, hg, r⟩
  · exact .inl hn
  · exact .inr ⟨g, cap, cur, e, by omega, r⟩
theorem take_snoc (L : List (Int × Int)) (k : Nat) (h : k < L.length) : ((L.take (k + 1)).map (·.1)).map (Value.int .i64) = ((L.take k).map (·.1)).map (Value.int .i64) ++ [.int .i64 (L[k]?.getD (0, 0)).1] := by
  rw [List.take_succ_eq_append_getElem h, List.map_append, List.map_append]; simp [h]

set_option maxRecDepth 100000 in
theorem implContinuedFraction_any (a b : Int) (w : World) :
    Calls Try.prog 16 #[.int .i64 a, .int .i64 b] w (ListCode w (cfA a b) (esC a b)) := by
  by_cases hab : (natB a && natB b) = true
  rotate_left
  · have e0 : esA a b = [] := by simp only [esA, if_neg hab]
    have e3 : esC a b = 2 := by simp only [esC, if_neg hab]
    have e1 : Hid (cfA a b = []) := Lib.hid (by rw [cfA, e0]; rfl)
    have e2 : Hid (esC a b = 2) := Lib.hid e3
    have HC := fun W => implEuclidSteps_any a b W
    rw [e0, e3] at HC
    have HD := fun W => hideS (HC W)
    clear HC e0 e3 hab
    go_enter Try.func16, Try.ntmps16
    go_wp2_with (go_at_call 14; refine (unhideS (HD _)).mono ?_; rintro e w1 ⟨A, c, vf, rfl, ho, hb1⟩; have B1 := Lib.hid hb1; clear ho hb1)
    go_ret2
    exact ListCode.mk' (zs := []) e1.out e2.out rfl (Own.nil _ _) B1.out
  have e0 : esA a b = steps a b := by simp only [esA, if_pos hab]
  have e3 : esC a b = 0 := by simp only [esC, if_pos hab]
  have E1 : Hid (cfA a b = (steps a b).map (·.1)) := Lib.hid (by rw [cfA, e0])
  have E2 : Hid (esC a b = 0) := Lib.hid e3
  have hlen := esA_len a b
  have HC0 := fun W => implEuclidSteps_any a b W
  rw [e0, e3] at HC0
  rw [e0] at hlen
  have HC := fun W => hideS (HC0 W)
  clear HC0 e0 e3 hab
  generalize steps a b = L at *
  obtain ⟨j0, hj0, hy0, hy1, hy2⟩ := info_parts int_info
  have hmk := fun (W : World) => run_make (P := Try.prog) W 29 2 j0 (.int .i64 0) Try.underlying29 hj0 hy0 .i64 .i64 0 (L.length : Int) (by omega) (by omega) (by rw [hy2]; omega) (by omega)
  simp only [Int.toNat_zero, Int.toNat_natCast, hy1, Nat.mul_one] at hmk
  clear hj0 hy0 hy1 hy2
  go_enter Try.func16, Try.ntmps16
  go_wp2_with (go_at_call 14; refine (unhideS (HC _)).mono ?_; rintro e w1 ⟨A, c, vf, rfl, ho, hb1⟩; have RS := Lib.hid ho.reads; have B1 := Lib.hid hb1; clear ho hb1)
  clear hmk
  have HO : Hid (Own (w1.alloc (.cells (madeCells (Value.cells (.int .i64 0)) L.length) 2)) w1.heap.size (.slice (some ⟨w1.heap.size, 0, none⟩) 0 L.length) 0 (((L.take 0).map (·.1)).map (.int .i64))) := Lib.hid (World.ownsRow_made w1 _ L.length (Nat.le_refl _) (by simp only [maxLen]; omega) (by rw [size_madeCells, Nat.mul_one]))
  have hB0 : Below w1.heap.size w1 (w1.alloc (.cells (madeCells (Value.cells (.int .i64 0)) L.length) 2)) := (Below.refl _ _).alloc (Nat.le_refl _) _
  obtain ⟨i0, hi0, hz0, hz1, hz2⟩ := info_parts int_info
  go_loopw [8, 25] (fun vo vi wr => ∃ (k : Nat) (A' : Option Addr) (c' : Nat), k ≤ L.length ∧ vo = .slice A' k c' ∧ vi = .int .i64 k ∧ Hid (Own wr w1.heap.size (.slice A' k c') k (((L.take k).map (·.1)).map (.int .i64))) ∧ Below w1.heap.size w1 wr) (fun _ vi _ => L.length - (intOf vi).toNat)
  case atStart => exact ⟨0, _, _, by omega, rfl, rfl, HO, hB0⟩
  case round =>
    obtain ⟨k, A', c', hk, rfl, rfl, ho, hb⟩ := hrel
    by_cases hlt : k < L.length
    · obtain ⟨a1, A1, c1, rfl, _, hcell, hri⟩ := (RS.out.below hb) k hlt
      obtain ⟨a2, rfl, _, hcell2⟩ := hri.2 0 (by simp [stF])
      have hkL := Lib.hid hlt
      have hcell' : wr.cell? (a1.add k) = some (.slice (some a2) 2 c1) := hcell
      have hcell30 : wr.cell? a2 = some (.int .i64 (L[k]?.getD (0, 0)).1) := by simpa [stF, Addr.add] using hcell2
      obtain ⟨q, hq0⟩ : ∃ q : Int, q = (L[k]?.getD (0, 0)).1 := ⟨_, rfl⟩
      have hq := Lib.hid hq0
      have hcell3 : wr.cell? a2 = some (.int .i64 q) := by rw [hcell30, hq0]
      clear hcell30 hq0
      clear hcell hcell2 hri
      go_wp2_with (at_builtin; refine wpList_append_own _ rfl _ _ 29 rfl w1.heap.size 2 i0 (.int .i64 0) 1 8 Try.underlying29 hi0 hz0 hz1 hz2 rfl ?_ _ k (((L.take k).map (·.1)).map (.int .i64)) rfl (World.ownsRow.alloc ho.out _) ⟨wr.heap.size, 0, none⟩ 1 1 [.int .i64 q] rfl rfl ?_ ?_ ?_ ?_ ?_ ?_; (decide); (exact World.news_of_block (cs := #[.int .i64 q]) (t := 2) (fr := (0, 0)) (heap_alloc_new wr _)); (simp [Value.oneCell']); (simp only [maxLen]; omega); (omega); (have := hb.size; simp; omega); intro v1 w2 hown1 hgrow _; obtain ⟨A2, c2, rfl⟩ := Own.form hown1; have HO1 : Hid (Own w2 w1.heap.size (.slice A2 (k + 1) c2) (k + 1) (((L.take (k + 1)).map (·.1)).map (.int .i64))) := Lib.hid (by rw [take_snoc L k hkL.out, ← hq.out]; exact hown1); have hb1 : Below w1.heap.size w1 w2 := (hb.alloc hb.size _).grown hgrow (by have := hb.size; simp; omega) (fun k hk => (Own.lt ho.out k hk).1); clear hown1 hgrow)
      go_roundw
      case rel => exact ⟨k + 1, A2, c2, by omega, rfl, by go_num, HO1, hb1⟩
      case measure => simp [intOf]; omega
    · obtain rfl : k = L.length := by omega
      go_wp2
      go_ret2
      refine ListCode.mk' (zs := L.map (·.1)) E1.out E2.out (by simp) ?_ (B1.out.trans (hb.mono B1.out.size))
      have := weaken ho.out B1.out.size
      rwa [List.take_length] at this
end Go.Proofs.Ytbipihamkfifjaa.Cf
