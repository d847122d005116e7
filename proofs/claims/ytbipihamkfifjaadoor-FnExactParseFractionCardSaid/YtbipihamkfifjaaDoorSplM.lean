/- A text between separators, in plain mathematics; no call is walked here. -/
import Derived.Test.YtbipihamkfifjaaDoorPfM
namespace Go.Proofs.YtbipihamkfifjaaDoor
set_option linter.unusedVariables false

def spl (x : UInt8) : List UInt8 → List UInt8 → List (List UInt8)
  | cur, [] => [cur]
  | cur, c :: l => if c = x then cur :: spl x [] l else spl x (cur ++ [c]) l
theorem spl_nil (x : UInt8) (cur : List UInt8) : spl x cur [] = [cur] := by rw [spl]
theorem spl_cons (x c : UInt8) (cur l : List UInt8) : spl x cur (c :: l) = if c = x then cur :: spl x [] l else spl x (cur ++ [c]) l := by rw [spl]
theorem spl_none (x : UInt8) (l : List UInt8) : ∀ cur : List UInt8, x ∉ l → spl x cur l = [cur ++ l] := by
  induction l with
  | nil => intro cur _; rw [spl_nil]; simp
  | cons c l ih =>
    intro cur h
    simp only [List.mem_cons, not_or] at h
    rw [spl_cons, if_neg (fun e => h.1 e.symm), ih _ h.2]; simp
theorem spl_at (x : UInt8) (r a : List UInt8) : ∀ cur : List UInt8, x ∉ a → spl x cur (a ++ x :: r) = (cur ++ a) :: spl x [] r := by
  induction a with
  | nil => intro cur _; rw [List.nil_append, spl_cons, if_pos rfl]; simp
  | cons c l ih =>
    intro cur h
    simp only [List.mem_cons, not_or] at h
    rw [List.cons_append, spl_cons, if_neg (fun e => h.1 e.symm), ih _ h.2]; simp
theorem spl_pos (x : UInt8) (l : List UInt8) : ∀ cur : List UInt8, 1 ≤ (spl x cur l).length := by
  induction l with
  | nil => intro cur; rw [spl_nil]; simp
  | cons c l ih => intro cur; rw [spl_cons]; split; simp; exact ih _
theorem spl_len (x : UInt8) (l : List UInt8) : ∀ cur : List UInt8, (spl x cur l).length ≤ l.length + 1 := by
  induction l with
  | nil => intro cur; rw [spl_nil]; simp
  | cons c l ih =>
    intro cur; rw [spl_cons]; split
    · have := ih []; simp; exact this
    · have := ih (cur ++ [c]); simp; omega
/-- The first place. -/
theorem first_of (x : UInt8) (l : List UInt8) (h : x ∈ l) : ∃ a b, x ∉ a ∧ l = a ++ x :: b := by
  induction l with
  | nil => cases h
  | cons c l ih =>
    by_cases hc : c = x
    · exact ⟨[], l, by simp, by simp [hc]⟩
    · obtain ⟨a, b, ha, e⟩ := ih (by simpa [Ne.symm hc] using h)
      exact ⟨c :: a, b, by simp [ha, Ne.symm hc], by rw [e]; simp⟩
theorem index_at (x : UInt8) (r d : List UInt8) : x ∉ d → Lib.index (d ++ x :: r) [x] = d.length := by
  induction d with
  | nil => intro _; simp [Lib.index]
  | cons c d ih =>
    intro h
    simp only [List.mem_cons, not_or] at h
    have hb : (x == c) = false := by simpa using h.1
    simp only [List.cons_append, Lib.index, List.isPrefixOf, hb, Bool.false_and, ih h.2, List.length_cons]
    simp
theorem index_none (x : UInt8) (d : List UInt8) : x ∉ d → Lib.index d [x] = -1 := by
  induction d with
  | nil => intro _; simp [Lib.index]
  | cons c d ih =>
    intro h
    simp only [List.mem_cons, not_or] at h
    have hb : (x == c) = false := by simpa using h.1
    simp [Lib.index, List.isPrefixOf, hb, ih h.2]
theorem cut_at (x : UInt8) (d r : List UInt8) (h : x ∉ d) : Lib.cut (d ++ x :: r) [x] = (d, r, true) := by
  unfold Lib.cut; rw [index_at x r d h, if_pos (by omega)]; simp
theorem cut_none (x : UInt8) (d : List UInt8) (h : x ∉ d) : Lib.cut d [x] = (d, [], false) := by
  unfold Lib.cut; rw [index_none x d h, if_neg (by omega)]
theorem no47 {l : List UInt8} (h : rdB l = true) (x : UInt8) (hx : x.toNat < 48) : x ∉ l := by
  intro hm
  unfold rdB at h; simp only [Bool.and_eq_true] at h
  have := List.all_eq_true.1 h.2 x hm
  simp only [isDg, decide_eq_true_eq] at this; omega
/-- One part, two parts, or more: what the cut says of them. -/
theorem spl_cases (x : UInt8) (hx : x.toNat < 48) (l : List UInt8) :
    (spl x [] l = [l] ∧ Lib.cut l [x] = (l, [], false)) ∨ (∃ a b, spl x [] l = [a, b] ∧ Lib.cut l [x] = (a, b, true)) ∨
      (∃ a b c L, spl x [] l = a :: b :: c :: L ∧ (Lib.cut l [x]).1 = a ∧ (Lib.cut l [x]).2.2 = true ∧ rdB (Lib.cut l [x]).2.1 = false) := by
  by_cases h : x ∈ l
  · obtain ⟨a, b, ha, rfl⟩ := first_of x l h
    right
    rw [spl_at x b a [] ha, cut_at x a b ha]
    by_cases hb : x ∈ b
    · right
      have hr : rdB b = false := by
        cases hr : rdB b with
        | false => rfl
        | true => exact absurd hb (no47 hr x hx)
      obtain ⟨d, e, hd, rfl⟩ := first_of x b hb
      rw [spl_at x e d [] hd]
      have hp := spl_pos x e []
      cases hs : spl x [] e with
      | nil => rw [hs] at hp; simp at hp
      | cons c L => exact ⟨a, d, c, L, by simp, rfl, rfl, hr⟩
    · left; exact ⟨a, b, by rw [spl_none x b [] hb]; simp, rfl⟩
  · left; exact ⟨by rw [spl_none x l [] h]; simp, cut_none x l h⟩
end Go.Proofs.YtbipihamkfifjaaDoor
