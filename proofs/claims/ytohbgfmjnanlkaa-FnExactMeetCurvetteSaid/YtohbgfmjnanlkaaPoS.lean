/- Orders and discrepancies, the model's: contracts of spec.l06Sums, spec.l06Ones. Conditions: stated at each theorem. -/
import Derived.Test.YtohbgfmjnanlkaaPtW
import Derived.Test.YtohbgfmjnanlkaaPoM
import Derived.Test.YtohbgfmjnanlkaaGw
namespace Go.Proofs.Ytohbgfmjnanlkaa
open Go.ChangeShapes Go.WideShapes Go.ChangeAt Go.RowKit Go.Deep
set_option linter.unusedVariables false
set_option linter.unusedSimpArgs false

/-- The sum of a point's own number and of the first t results that it wants. -/
def psO (m : List Int) (n : Nat) (f : Nat → Int) (j t : Nat) : Int := f j + (((prx m n j).take t).map fun i => oD m n f i.toNat).sum
theorem psO_zero (m : List Int) (n : Nat) (f : Nat → Int) (j : Nat) : psO m n f j 0 = f j := by simp [psO]
theorem psO_end {m : List Int} {n j N : Nat} {f : Nat → Int} (h : MQ m n) (hj : j < n) (hN : (prx m n j).length = N) : psO m n f j N = oD m n f j := by
  unfold psO; rw [oD_eq h hj, List.take_of_length_le (by omega)]
theorem psO_next {m : List Int} {n j t i : Nat} {f : Nat → Int} (hi : (prx m n j)[t]? = some (i : Int)) : psO m n f j (t + 1) = psO m n f j t + oD m n f i := by
  unfold psO
  rw [List.take_add_one, hi]
  simp [Int.add_assoc]
theorem take_sum_nn : ∀ {L : List Int}, (∀ x ∈ L, 0 ≤ x) → ∀ t, 0 ≤ (L.take t).sum ∧ (L.take t).sum ≤ L.sum
  | [], _, t => by simp
  | x :: L, h, 0 => by
    have h1 := h x (by simp)
    have h2 := (take_sum_nn (L := L) (fun y hy => h y (by simp [hy])) L.length).1
    rw [List.take_length] at h2
    simp; omega
  | x :: L, h, t + 1 => by
    have h1 := h x (by simp)
    have h2 := take_sum_nn (L := L) (fun y hy => h y (by simp [hy])) t
    simp; omega
theorem psO_range {m : List Int} {n j t : Nat} {f : Nat → Int} (h : MQ m n) (hj : j < n) (hf : 1 ≤ f j) (hp : ∀ j, j < n → 1 ≤ oD m n f j) : 1 ≤ psO m n f j t ∧ psO m n f j t ≤ oD m n f j := by
  have h1 : ∀ x ∈ (prx m n j).map (fun i => oD m n f i.toNat), 0 ≤ x := fun x hx => by
    obtain ⟨i, hi, rfl⟩ := List.mem_map.1 hx
    have := prx_mem h hj i hi
    have := hp i.toNat (by omega)
    omega
  have h2 := take_sum_nn h1 t
  rw [← List.map_take] at h2
  unfold psO
  rw [oD_eq h hj]
  omega
theorem odN_next {m : List Int} {n j : Nat} {f : Nat → Int} : odN m n f (j + 1) = odN m n f j ++ [oD m n f j] := by
  show odN m n f j ++ [_] = _
  congr 2
  unfold oD
  show _ = (odN m n f j ++ [_])[j]?.getD 0
  rw [List.getElem?_append_right (by rw [odN_len]; exact Nat.le_refl _), odN_len]
  simp
theorem odN_at {m : List Int} {n j i : Nat} {f : Nat → Int} (h : i < j) : (odN m n f j)[i]?.getD 0 = oD m n f i := by unfold oD; rw [odN_get m n f h]

set_option maxRecDepth 100000 in
set_option maxHeartbeats 1000000 in
theorem l06Ones_any (k : Nat) (w : World) (hk : k ≤ 1000) :
    Calls Try.prog 132 #[.int .i64 k] w fun e w' => ∃ A c, e = .returned (.slice A k c) ∧ OwnI w' w.heap.size w'.heap.size (.slice A k c) (List.replicate k 1) ∧ Below w.heap.size w w' := by
  have HOW0 : Hid (OwnI (w.alloc (.cells #[] 2)) w.heap.size (w.alloc (.cells #[] 2)).heap.size (.slice (some ⟨w.heap.size, 0, none⟩) 0 0) (List.replicate 0 1)) := Lib.hid (OwnI.mk' (n := 0) (World.ownsRow_lit w #[] 0 (Nat.le_refl _) (by simp [maxLen]) rfl))
  have HB0 : Hid (Below w.heap.size w (w.alloc (.cells #[] 2))) := Lib.hid (below_box2 _ _)
  obtain ⟨i0, hi0, hz0, hz1, hz2⟩ := info_parts int_info
  go_enter Try.func132, Try.ntmps132
  go_wp2
  go_loopw [0, 3] (fun vk vo wr => ∃ (t : Nat) (A : Option Addr) (c' : Nat), t ≤ k ∧ vo = .slice A t c' ∧ vk = .int .i64 ((k : Int) - (t : Int)) ∧ Hid (OwnI wr w.heap.size wr.heap.size (.slice A t c') (List.replicate t 1)) ∧ Hid (Below w.heap.size w wr)) (fun vk _ _ => (intOf vk).toNat)
  case atStart => exact ⟨0, _, _, by omega, rfl, by simp, HOW0, HB0⟩
  case round =>
    obtain ⟨t, A, c', ht, rfl, rfl, how, hb⟩ := hrel
    by_cases htk : t < k
    · have hq1 : (0 : Int) < (k : Int) - (t : Int) := by omega
      have hw1 : IntKind.i64.wrap ((k : Int) - (t : Int) - 1) = (k : Int) - ((t + 1 : Nat) : Int) := by rw [IntWalk.i64_in _ (by omega)]; omega
      have HW := Lib.hid hw1
      obtain ⟨X, HXe⟩ : ∃ X, X = (List.replicate t 1).map (Value.int .i64) := ⟨_, rfl⟩
      have hown := how.out.1
      rw [List.length_replicate, ← HXe] at hown
      have HOW : Hid (Own wr w.heap.size (.slice A t c') t X) := Lib.hid hown
      have HXE := Lib.hid HXe
      have hbs3 := hb.out.size
      clear hown HXe hw1
      go_wp2_with (at_builtin; (refine wpList_append_own _ rfl _ _ 22 rfl w.heap.size 2 i0 (.int .i64 0) 1 8 Try.underlying22 hi0 hz0 hz1 hz2 rfl (by decide) _ t X rfl (World.ownsRow.alloc HOW.out _) ⟨wr.heap.size, 0, none⟩ 1 1 [.int .i64 1] rfl rfl (World.news_of_block (cs := #[.int .i64 1]) (t := 2) (fr := (0, 0)) (heap_alloc_new wr _)) (by simp [Value.oneCell']) (by simp only [maxLen]; omega) (by omega) (by simp; omega) ?_; intro v1 w4 hown1 hgrow _; obtain ⟨A4, c4, rfl⟩ := own_form hown1; have HO4 := Lib.hid hown1; have HB4 := Lib.hid ((hb.out.alloc hbs3 _).grown hgrow (by simp; omega) (fun kk hkk => (World.ownsRow.lt HOW.out kk hkk).1)); clear hown1 hgrow))
      go_roundw
      case rel => exact ⟨t + 1, A4, c4, by omega, rfl, vintS (by omega), Lib.hid (by
        have e : List.replicate (t + 1) (1 : Int) = List.replicate t 1 ++ [1] := List.replicate_succ'
        rw [e]; exact OwnI.mk' (n := t + 1) (by rw [List.map_append, ← HXE.out]; exact HO4.out)), HB4⟩
      case measure => simp [intOf]; omega
    · obtain rfl : t = k := by omega
      go_wp2
      go_ret
      exact ⟨A, c', rfl, how.out, hb.out⟩
end Go.Proofs.Ytohbgfmjnanlkaa
