/- The model's ParseFraction: contract. Conditions: stated at each theorem. -/
import Derived.Test.YtbipihamkfifjaaDoorPfI
import Derived.Test.YtbipihamkfifjaaDoorSpl
namespace Go.Proofs.YtbipihamkfifjaaDoor
open Go.ChangeShapes Go.WideShapes Go.ChangeAt Go.RowKit
set_option linter.unusedVariables false

theorem sv_yes (l : List UInt8) (h : svB l = true) (w : World) :
    Calls Tryd.prog 62 #[.string ⟨l.toArray⟩] w fun e w' => e = .returned (.int .i64 (valL 0 l : Int)) ∧ w' = w := by
  have hl : l.length ≤ 9 := by have := rd_of_sv h; unfold rdB at this; simp only [Bool.and_eq_true, decide_eq_true_eq] at this; exact this.1.2
  refine (l01Value_any ⟨l.toArray⟩ w (by show l.toArray.size ≤ 1048576; rw [List.size_toArray]; omega)).mono ?_
  rintro e w' ⟨he, hw⟩
  simp only [h, if_true] at he
  exact ⟨he, hw⟩
theorem sv_not (l : List UInt8) (hl : l.length ≤ 1048576) (h : svB l = false) (w : World) :
    Calls Tryd.prog 62 #[.string ⟨l.toArray⟩] w fun e w' => e = .returned (.int .i64 (-1)) ∧ w' = w := by
  refine (l01Value_any ⟨l.toArray⟩ w (by show l.toArray.size ≤ 1048576; rw [List.size_toArray]; exact hl)).mono ?_
  rintro e w' ⟨he, hw⟩
  simp only [h] at he
  exact ⟨by simpa using he, hw⟩
theorem sv_x (l : List UInt8) (hl : l.length ≤ 1048576) (w : World) :
    Calls Tryd.prog 62 #[.string ⟨l.toArray⟩] w fun e w' => ∃ x : Int, (-1 ≤ x ∧ x ≤ 999999999) ∧ e = .returned (.int .i64 x) ∧ w' = w := by
  cases h : svB l
  · exact (sv_not l hl h w).mono fun e w' ⟨he, hw⟩ => ⟨-1, by omega, he, hw⟩
  · have := val_rd (rd_of_sv h)
    exact (sv_yes l h w).mono fun e w' ⟨he, hw⟩ => ⟨_, by omega, he, hw⟩
theorem OwnT.cells {w : World} {base n c : Nat} {A : Option Addr} {xs : List Value} (h : OwnT w base (.slice A n c) n xs) (hn : 0 < n) :
    ∃ g, A = some ⟨g, 0, none⟩ ∧ base ≤ g ∧ g < w.heap.size ∧ ∀ i x, xs[i]? = some x → w.cell? ⟨g, i, none⟩ = some x := by
  rcases h.2 with ⟨e, e0⟩ | ⟨g, cap, cur, e, hb, hg, hnc, hcm, hcs, hcur⟩
  · omega
  · simp only [Value.slice.injEq] at e
    obtain ⟨rfl, _, rfl⟩ := e
    exact ⟨g, rfl, hb, (Array.getElem?_eq_some_iff.1 hg).1, fun i x hx => by
      have hi : i < n := by
        have h1 : xs.length = n := by have := h.1; omega
        have := (List.getElem?_eq_some_iff.1 hx).1; omega
      have h2 : w.ownsRow base 9 1 (.slice (some ⟨g, 0, none⟩) n c) n xs := h
      rw [h2.cellAt i (by omega), hx]⟩
/-- The splitting's answer: n parts, of which the first ones are known. -/
def PartsAns (w : World) (n : Nat) (P : World → Nat → Prop) : Ending → World → Prop := fun e w' => ∃ (g c : Nat), e = .returned (.slice (some ⟨g, 0, none⟩) n c) ∧ w.heap.size ≤ g ∧ g < w'.heap.size ∧ Below w.heap.size w w' ∧ P w' g
theorem sp_any (s : ByteArray) (b H : List UInt8) (L : List (List UInt8)) (hs : s.data.toList = b) (hb : b.length ≤ 1048576) (hL : spl 47 [] b = H :: L) (w : World) :
    Calls Tryd.prog 61 #[.string s, .int .u8 47] w (PartsAns w (L.length + 1) fun w' g => w'.cell? ⟨g, 0, none⟩ = some (.string ⟨H.toArray⟩) ∧ ∀ T L', L = T :: L' → w'.cell? ⟨g, 1, none⟩ = some (.string ⟨T.toArray⟩)) := by
  subst hs
  refine (l01Split_any s 47 47 rfl w (by rw [← len_str]; exact hb)).mono ?_
  rintro e w' ⟨A, c, rfl, ho, hbl⟩
  rw [hL] at ho ⊢
  obtain ⟨g, rfl, hg, hlt, hc⟩ := ho.cells (by simp)
  exact ⟨g, c, rfl, hg, hlt, hbl, hc 0 _ rfl, fun T L' e => hc 1 _ (by subst e; rfl)⟩
theorem sp_1 (s : ByteArray) (b : List UInt8) (hs : s.data.toList = b) (hb : b.length ≤ 1048576) (hL : spl 47 [] b = [b]) (w : World) :
    Calls Tryd.prog 61 #[.string s, .int .u8 47] w (PartsAns w 1 fun w' g => w'.cell? ⟨g, 0, none⟩ = some (.string ⟨b.toArray⟩)) :=
  (sp_any s b b [] hs hb hL w).mono fun e w' ⟨g, c, he, h1, h2, h3, h4, _⟩ => ⟨g, c, he, h1, h2, h3, h4⟩
theorem sp_2 (s : ByteArray) (b H T : List UInt8) (hs : s.data.toList = b) (hb : b.length ≤ 1048576) (hL : spl 47 [] b = [H, T]) (w : World) :
    Calls Tryd.prog 61 #[.string s, .int .u8 47] w (PartsAns w 2 fun w' g => w'.cell? ⟨g, 0, none⟩ = some (.string ⟨H.toArray⟩) ∧ w'.cell? ⟨g, 1, none⟩ = some (.string ⟨T.toArray⟩)) :=
  (sp_any s b H [T] hs hb hL w).mono fun e w' ⟨g, c, he, h1, h2, h3, h4, h5⟩ => ⟨g, c, he, h1, h2, h3, h4, h5 T [] rfl⟩
theorem sp_3 (s : ByteArray) (b H : List UInt8) (k : Nat) (hs : s.data.toList = b) (hb : b.length ≤ 1048576) (hL : ∃ x y L, spl 47 [] b = H :: x :: y :: L ∧ L.length = k) (w : World) :
    Calls Tryd.prog 61 #[.string s, .int .u8 47] w (PartsAns w (k + 3) fun w' g => w'.cell? ⟨g, 0, none⟩ = some (.string ⟨H.toArray⟩)) := by
  obtain ⟨x, y, L, hL, rfl⟩ := hL
  exact (sp_any s b H (x :: y :: L) hs hb hL w).mono fun e w' ⟨g, c, he, h1, h2, h3, h4, _⟩ => ⟨g, c, he, h1, h2, h3, h4⟩
set_option maxRecDepth 100000 in
theorem neg_facts (s : ByteArray) (b : List UInt8) (hn : Lib.hasPrefix s.data.toList [45] = true) (hb : Lib.trimPrefix s.data.toList [45] = b) :
    ∃ h : 0 < s.size, ((s[0].toNat : Int) == 45) = true ∧ (s.extract 1 s.size).data.toList = b := by
  have hh := head_str s
  cases hl : s.data.toList with
  | nil => rw [hl] at hn; simp [Lib.hasPrefix, List.isPrefixOf] at hn
  | cons c l =>
    have hsz : 0 < s.size := by rw [← len_str, hl]; simp
    rw [hl] at hn hb
    have hc : c = 45 := by
      have h9 := hn
      simp only [Lib.hasPrefix, List.isPrefixOf, Bool.and_true, beq_iff_eq] at h9
      exact h9.symm
    subst hc
    rw [trim_neg] at hb
    have h0 : s[0] = 45 := by have := hh hsz; rw [hl] at this; simpa using this.symm
    refine ⟨hsz, by rw [h0]; rfl, ?_⟩
    rw [Lib.extract_eq, hl, ← hb]
    simp only [List.drop_succ_cons, List.drop_zero]
    rw [List.take_of_length_le]
    have := len_str s; rw [hl] at this; simp at this; omega
set_option maxRecDepth 100000 in
theorem pos_facts (s : ByteArray) (b : List UInt8) (hn : Lib.hasPrefix s.data.toList [45] = false) (hb : Lib.trimPrefix s.data.toList [45] = b) (h : 0 < s.size) :
    ((s[0].toNat : Int) == 45) = false := by
  have hh := head_str s h
  cases hl : s.data.toList with
  | nil => rw [hl] at hh; simp at hh
  | cons c l =>
    rw [hl] at hh hn
    have h0 : s[0] = c := by simpa using hh.symm
    have hc : c ≠ 45 := by
      intro e; subst e; rw [has_neg] at hn; cases hn
    apply beq_false_of_ne
    rw [h0]; intro e; exact hc (UInt8.toNat_inj.1 (by show c.toNat = 45; omega))
theorem pos_same (l b : List UInt8) (hn : Lib.hasPrefix l [45] = false) (hb : Lib.trimPrefix l [45] = b) : l = b := by
  unfold Lib.trimPrefix at hb; rw [hn] at hb; simpa using hb
end Go.Proofs.YtbipihamkfifjaaDoor
