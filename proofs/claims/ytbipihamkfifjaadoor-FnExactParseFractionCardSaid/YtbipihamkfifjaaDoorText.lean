/- The text of a fraction, the model's and the program's: contracts. Conditions: stated at each theorem. -/
import Derived.Test.YtbipihamkfifjaaDoorDec
import Derived.Test.YtbipihamkfifjaaDoorFracIs
import Derived.Lib.AppendIntMem
namespace Go.Proofs.YtbipihamkfifjaaDoor
open Go.ChangeShapes Go.WideShapes Go.ChangeAt Go.RowKit
set_option linter.unusedVariables false

/-- The table of powers of ten that the library reads. -/
def Tab (W : World) : Prop := Lib.TabIs Tryd.prog W "internal/strconv.uint64pow10" .u64 Lib.pow10Tab
theorem gPow : Tryd.prog.globalNamed "internal/strconv.uint64pow10" = some 1 := by kernel_rfl
theorem Tab.lt {W : World} (h : Tab W) : 1 < W.heap.size := by
  unfold Tab Lib.TabIs World.var? at h
  rw [gPow] at h
  simp only [Option.bind_some] at h
  cases hh : W.heap[1]? with
  | none => rw [hh] at h; cases h
  | some o => exact (Array.getElem?_eq_some_iff.1 hh).1
theorem Tab.below {W W' : World} (h : Tab W) (hb : Below W.heap.size W W') : Tab W' := by
  have hlt := h.lt
  unfold Tab Lib.TabIs World.var? at h ⊢
  rw [gPow] at h ⊢
  simp only [Option.bind_some] at h ⊢
  rw [hb.block _ hlt]; exact h
theorem fmt_any (n : Int) (w : World) (h1 : -4000000000000000000 ≤ n) (h2 : n ≤ 4000000000000000000) (ht : Tab w) :
    Calls Tryd.prog 85 #[.int .i64 n, .int .i64 10] w fun e w' => e = .returned (.string ⟨(Lib.itoa n).toArray⟩) ∧ Below w.heap.size w w' :=
  (Tryd.strconv_FormatInt_10 n (by omega) (by omega) w ht).mono fun e w' ⟨he, k, os, hw⟩ => ⟨he, by rw [hw]; exact Lib.below_grow _ _ (Nat.le_refl _) _ _⟩
theorem itoa_len {n : Int} (h1 : -4000000000000000000 ≤ n) (h2 : n ≤ 4000000000000000000) : (Lib.itoa n).length ≤ 20 := by
  unfold Lib.itoa
  split
  · have := dec_len20 (u := n.natAbs) (by omega); simp; omega
  · have := dec_len20 (u := n.toNat) (by omega); omega
def txt (a : Int) (u : Nat) : List UInt8 := if u = 1 then Lib.itoa a else (Lib.itoa a ++ [47]) ++ Lib.itoa u

set_option maxRecDepth 100000 in
theorem l01Text_any (a : Int) (u : Nat) (w : World) (ha : -1000000000 ≤ a ∧ a ≤ 1000000000) (hu : 1 ≤ u ∧ u ≤ 1000000000) :
    Calls Tryd.prog 59 #[.agg #[.int .i64 a, .int .i64 (u : Int)]] w fun e w' => e = .returned (.string ⟨(txt a u).toArray⟩) ∧ Below w.heap.size w w' := by
  by_cases h1 : u = 1
  · have E : Hid (Lib.itoa a = txt a u) := Lib.hid (by simp [txt, h1])
    have T1 : ((u : Int) == 1) = true := by simp; omega
    have T2 : ((u : Int) != 1) = false := by simp; omega
    clear h1
    go_enter Tryd.func59, Tryd.ntmps59
    go_wp2_with (go_at_call 88; refine (l01Signed_any a _ (by omega) (by omega)).mono ?_; rintro e w1 ⟨rfl, hb1⟩; obtain ⟨hc1, hf1⟩ := bcell hb1; have hz1 := hb1.size; (try simp at hz1); (try have hk1_0 : w.heap.size < w1.heap.size := by omega); (try have hk1_1 : w.heap.size + 1 < w1.heap.size := by omega); (try have hk1_2 : w.heap.size + 2 < w1.heap.size := by omega))
    go_ret
    exact ⟨str_eq E.out, (by repeat (first | exact Below.refl _ _ | apply below_drewN | apply Below.drew | (refine Below.setCell ?_ (by first | (simp; done) | (simp; omega) | omega) _) | (refine Below.alloc ?_ (by first | exact Nat.le_refl _ | (simp; done) | (simp; omega) | omega) _) | (refine Below.trans ?_ (hb1.mono (by first | exact Nat.le_refl _ | (simp; done) | (simp; omega) | omega)))))⟩
  · obtain ⟨s1, hs1⟩ : ∃ s1, s1 = Lib.itoa a ++ [47] := ⟨_, rfl⟩
    obtain ⟨s2, hs2⟩ : ∃ s2, s2 = s1 ++ Lib.itoa u := ⟨_, rfl⟩
    have l1 : (Lib.itoa a).length ≤ 20 := itoa_len (by omega) (by omega)
    have l2 : (Lib.itoa (u : Int)).length ≤ 20 := itoa_len (by omega) (by omega)
    have l3 : s1.length ≤ 21 := by rw [hs1]; simp; omega
    have E : Hid (s2 = txt a u) := Lib.hid (by rw [hs2, hs1, txt, if_neg h1])
    have add1 := fun W => add_strs (Lib.itoa a) [47] (by omega) (by simp) W
    rw [← hs1] at add1
    have add2 := fun W => add_strs s1 (Lib.itoa u) (by omega) (by omega) W
    rw [← hs2] at add2
    have T1 : ((u : Int) == 1) = false := by simp; omega
    have T2 : ((u : Int) != 1) = true := by simp; omega
    clear h1 hs1 hs2 l1 l2 l3
    rw [Lib.itoa_nonneg] at add2
    go_enter Tryd.func59, Tryd.ntmps59
    go_wp2_with (first | (go_at_call 88; refine (l01Signed_any a _ (by omega) (by omega)).mono ?_; rintro e w1 ⟨rfl, hb1⟩; obtain ⟨hc1, hf1⟩ := bcell hb1; have hz1 := hb1.size; (try simp at hz1); (try have hk1_0 : w.heap.size < w1.heap.size := by omega); (try have hk1_1 : w.heap.size + 1 < w1.heap.size := by omega); (try have hk1_2 : w.heap.size + 2 < w1.heap.size := by omega)) | (go_at_call 89; refine (l01Dec_any (u + 1) u _ (by omega) (by omega)).mono ?_; rintro e w2 ⟨rfl, hb2⟩; obtain ⟨hc2, hf2⟩ := bcell hb2; have hz2 := hb2.size; (try simp at hz2); (try have hk2_0 : w.heap.size < w2.heap.size := by omega); (try have hk2_1 : w.heap.size + 1 < w2.heap.size := by omega); (try have hk2_2 : w.heap.size + 2 < w2.heap.size := by omega)))
    go_ret
    exact ⟨str_eq E.out, (by repeat (first | exact Below.refl _ _ | apply below_drewN | apply Below.drew | (refine Below.setCell ?_ (by first | (simp; done) | (simp; omega) | omega) _) | (refine Below.alloc ?_ (by first | exact Nat.le_refl _ | (simp; done) | (simp; omega) | omega) _) | (refine Below.trans ?_ (hb2.mono (by first | exact Nat.le_refl _ | (simp; done) | (simp; omega) | omega))) | (refine Below.trans ?_ (hb1.mono (by first | exact Nat.le_refl _ | (simp; done) | (simp; omega) | omega)))))⟩

set_option maxRecDepth 100000 in
theorem text_any (a : Int) (u : Nat) (w : World) (ha : -1000000000 ≤ a ∧ a ≤ 1000000000) (hu : 1 ≤ u ∧ u ≤ 1000000000) (ht : Tab w) :
    Calls Tryd.prog 51 #[.agg #[.int .i64 a, .int .i64 (u : Int)]] w fun e w' => e = .returned (.string ⟨(txt a u).toArray⟩) ∧ Below w.heap.size w w' := by
  have HT := Lib.hid ht
  clear ht
  have tok : True := trivial
  by_cases h1 : u = 1
  · have E : Hid (Lib.itoa a = txt a u) := Lib.hid (by simp [txt, h1])
    have T1 : ((u : Int) == 1) = true := by simp; omega
    have T2 : ((u : Int) != 1) = false := by simp; omega
    clear h1
    go_enter Tryd.func51, Tryd.ntmps51
    go_wp2_with (go_at_call 85; have _t := tok; refine (fmt_any a _ (by omega) (by omega) ?_).mono ?_; (refine HT.out.below ?_; exact (by repeat (first | exact Below.refl _ _ | apply below_drewN | apply Below.drew | (refine Below.setCell ?_ (by first | (simp; done) | (simp; omega) | omega) _) | (refine Below.alloc ?_ (by first | exact Nat.le_refl _ | (simp; done) | (simp; omega) | omega) _)))); clear tok _t; rintro e w1 ⟨rfl, hb1⟩; obtain ⟨hc1, hf1⟩ := bcell hb1; have hz1 := hb1.size; (try simp at hz1); (try have hk1_0 : w.heap.size < w1.heap.size := by omega); (try have hk1_1 : w.heap.size + 1 < w1.heap.size := by omega); (try have hk1_2 : w.heap.size + 2 < w1.heap.size := by omega))
    go_ret
    exact ⟨str_eq E.out, (by repeat (first | exact Below.refl _ _ | apply below_drewN | apply Below.drew | (refine Below.setCell ?_ (by first | (simp; done) | (simp; omega) | omega) _) | (refine Below.alloc ?_ (by first | exact Nat.le_refl _ | (simp; done) | (simp; omega) | omega) _) | (refine Below.trans ?_ (hb1.mono (by first | exact Nat.le_refl _ | (simp; done) | (simp; omega) | omega)))))⟩
  · obtain ⟨s1, hs1⟩ : ∃ s1, s1 = Lib.itoa a ++ [47] := ⟨_, rfl⟩
    obtain ⟨s2, hs2⟩ : ∃ s2, s2 = s1 ++ Lib.itoa u := ⟨_, rfl⟩
    have l1 : (Lib.itoa a).length ≤ 20 := itoa_len (by omega) (by omega)
    have l2 : (Lib.itoa (u : Int)).length ≤ 20 := itoa_len (by omega) (by omega)
    have l3 : s1.length ≤ 21 := by rw [hs1]; simp; omega
    have E : Hid (s2 = txt a u) := Lib.hid (by rw [hs2, hs1, txt, if_neg h1])
    have add1 := fun W => add_strs (Lib.itoa a) [47] (by omega) (by simp) W
    rw [← hs1] at add1
    have add2 := fun W => add_strs s1 (Lib.itoa u) (by omega) (by omega) W
    rw [← hs2] at add2
    have T1 : ((u : Int) == 1) = false := by simp; omega
    have T2 : ((u : Int) != 1) = true := by simp; omega
    clear h1 hs1 hs2 l1 l2 l3
    go_enter Tryd.func51, Tryd.ntmps51
    go_wp2_with (first | (go_at_call 85; have _t := tok; refine (fmt_any a _ (by omega) (by omega) ?_).mono ?_; (refine HT.out.below ?_; exact (by repeat (first | exact Below.refl _ _ | apply below_drewN | apply Below.drew | (refine Below.setCell ?_ (by first | (simp; done) | (simp; omega) | omega) _) | (refine Below.alloc ?_ (by first | exact Nat.le_refl _ | (simp; done) | (simp; omega) | omega) _)))); clear tok _t; rintro e w1 ⟨rfl, hb1⟩; obtain ⟨hc1, hf1⟩ := bcell hb1; have hz1 := hb1.size; (try simp at hz1); (try have hk1_0 : w.heap.size < w1.heap.size := by omega); (try have hk1_1 : w.heap.size + 1 < w1.heap.size := by omega); (try have hk1_2 : w.heap.size + 2 < w1.heap.size := by omega)) | (go_at_call 85; refine (fmt_any u _ (by omega) (by omega) ?_).mono ?_; (refine HT.out.below ?_; exact (by repeat (first | exact Below.refl _ _ | apply below_drewN | apply Below.drew | (refine Below.setCell ?_ (by first | (simp; done) | (simp; omega) | omega) _) | (refine Below.alloc ?_ (by first | exact Nat.le_refl _ | (simp; done) | (simp; omega) | omega) _) | (refine Below.trans ?_ (hb1.mono (by first | exact Nat.le_refl _ | (simp; done) | (simp; omega) | omega)))))); rintro e w2 ⟨rfl, hb2⟩; obtain ⟨hc2, hf2⟩ := bcell hb2; have hz2 := hb2.size; (try simp at hz2); (try have hk2_0 : w.heap.size < w2.heap.size := by omega); (try have hk2_1 : w.heap.size + 1 < w2.heap.size := by omega); (try have hk2_2 : w.heap.size + 2 < w2.heap.size := by omega)))
    go_ret
    exact ⟨str_eq E.out, (by repeat (first | exact Below.refl _ _ | apply below_drewN | apply Below.drew | (refine Below.setCell ?_ (by first | (simp; done) | (simp; omega) | omega) _) | (refine Below.alloc ?_ (by first | exact Nat.le_refl _ | (simp; done) | (simp; omega) | omega) _) | (refine Below.trans ?_ (hb2.mono (by first | exact Nat.le_refl _ | (simp; done) | (simp; omega) | omega))) | (refine Below.trans ?_ (hb1.mono (by first | exact Nat.le_refl _ | (simp; done) | (simp; omega) | omega)))))⟩

end Go.Proofs.YtbipihamkfifjaaDoor
