/- Slices of slices of int64 that a call has made: words for the exact laws, and contracts of laws.toInt64SS, laws.eqInt64SS, laws.markInt64SS, laws.heldInt64SS, laws.szInt64SS. Conditions: stated at each theorem. -/
import Derived.Test.YtncgkoanckefmaaKeep
import Derived.Deep.QuietTactic
import Derived.BigQuiet
namespace Go.Proofs.Ytncgkoanckefmaa
open Go.ChangeShapes Go.WideShapes Go.ChangeAt Go.RowKit
set_option linter.unusedVariables false

/-- A slice of n slices of the call's own: the i-th, of blocks from ls i on and below hs i, is as P says; they share no memory. -/
def Rows2 (w : World) (lo hi : Nat) (v : Value) (n : Nat) (us : List Value) (ls hs : Nat → Nat) (P : Nat → Nat → Nat → Value → Prop) : Prop :=
  w.ownsRow lo 22 1 v n us ∧ (∀ k, v.ownBlock = some k → k < hi ∧ ∀ i, i < n → (k < ls i ∨ hs i ≤ k)) ∧ hi ≤ w.heap.size ∧
  (∀ i, i < n → lo ≤ ls i ∧ hs i ≤ hi ∧ P i (ls i) (hs i) (us.getD i undef)) ∧ (∀ i j, i < j → j < n → (hs i ≤ ls j ∨ hs j ≤ ls i))
def OwnQ (w : World) (lo hi : Nat) (v : Value) (zss : List (List Int)) : Prop := ∃ us ls hs, Rows2 w lo hi v zss.length us ls hs fun i l h u => OwnI w l h u (zss.getD i [])
/-- The sum of the first j numbers of ms. -/
def sumTo (ms : Nat → Nat) : Nat → Nat
  | 0 => 0
  | j + 1 => sumTo ms j + ms j
theorem sumTo_le (ms : Nat → Nat) {i n : Nat} (h : i ≤ n) : sumTo ms i ≤ sumTo ms n := by
  induction n with
  | zero => obtain rfl : i = 0 := by omega
            exact Nat.le_refl _
  | succ n ih =>
    by_cases e : i = n + 1
    · subst e; exact Nat.le_refl _
    · have := ih (by omega); show sumTo ms i ≤ sumTo ms n + ms n; omega
def lens (zss : List (List Int)) (i : Nat) : Nat := (zss.getD i []).length
def MarkQ (w : World) (lo hi : Nat) (v : Value) (n : Nat) (ms : Nat → Nat) (k : Nat) : Prop := ∃ us ls hs, Rows2 w lo hi v n us ls hs fun i l h u => MarkI w l h u (ms i) (k + sumTo ms i)
def ReadQ (w : World) (B : Nat) (v : Value) (zss : List (List Int)) : Prop :=
  ∃ A c, v = .slice A zss.length c ∧ (∀ k, k < zss.length → ∃ a u, A = some a ∧ a.block < B ∧ w.cell? (a.add k) = some u ∧ ReadI w B u (zss.getD k [])) ∧ (A = none → c = 0) ∧ zss.length ≤ c ∧ (∀ a, A = some a → ∃ g o, a = ⟨g, o, none⟩) ∧ c ≤ 9223372036854775807
def ReadQW (w : World) (B : Nat) (v : Value) (zss : List (List Int)) : Prop :=
  ∃ A c, v = .slice A zss.length c ∧ (∀ k, k < zss.length → ∃ a u, A = some a ∧ a.block < B ∧ w.cell? (a.add k) = some u ∧ ReadW w B u (zss.getD k []))
theorem ReadQ.below {w w' : World} {B : Nat} {v : Value} {zss : List (List Int)} (h : ReadQ w B v zss) (hb : Below B w w') : ReadQ w' B v zss := by
  obtain ⟨A, c, e, h, k⟩ := h
  exact ⟨A, c, e, fun i hi => by
    obtain ⟨a, u, e1, h1, h2, h3⟩ := h i hi
    exact ⟨a, u, e1, h1, (hb.cell (by rw [add_block]; exact h1)).trans h2, h3.below hb⟩, k⟩
theorem ReadQ.more {w : World} {B B' : Nat} {v : Value} {zss : List (List Int)} (h : ReadQ w B v zss) (hB : B ≤ B') : ReadQ w B' v zss := by
  obtain ⟨A, c, e, h, k⟩ := h
  exact ⟨A, c, e, fun i hi => by
    obtain ⟨a, u, e1, h1, h2, h3⟩ := h i hi
    exact ⟨a, u, e1, by omega, h2, h3.more hB⟩, k⟩
theorem ReadQW.below {w w' : World} {B : Nat} {v : Value} {zss : List (List Int)} (h : ReadQW w B v zss) (hb : Below B w w') : ReadQW w' B v zss := by
  obtain ⟨A, c, e, h⟩ := h
  exact ⟨A, c, e, fun i hi => by
    obtain ⟨a, u, e1, h1, h2, h3⟩ := h i hi
    exact ⟨a, u, e1, h1, (hb.cell (by rw [add_block]; exact h1)).trans h2, h3.below hb⟩⟩
theorem ReadQW.more {w : World} {B B' : Nat} {v : Value} {zss : List (List Int)} (h : ReadQW w B v zss) (hB : B ≤ B') : ReadQW w B' v zss := by
  obtain ⟨A, c, e, h⟩ := h
  exact ⟨A, c, e, fun i hi => by
    obtain ⟨a, u, e1, h1, h2, h3⟩ := h i hi
    exact ⟨a, u, e1, by omega, h2, h3.more hB⟩⟩

theorem row_of_kept {w w' : World} {lo hi n : Nat} {t : TypeId} {v : Value} {xs : List Value} (h : w.ownsRow lo t 1 v n xs) (hh : ∀ k, v.ownBlock = some k → k < hi) (k : Kept lo hi w w') : w'.ownsRow lo t 1 v n xs := by
  refine ⟨h.1, ?_⟩
  rcases h.2 with hn | ⟨g, cap, cur, rfl, hb, hgg, rest⟩
  · exact .inl hn
  · refine .inr ⟨g, cap, cur, rfl, hb, ?_, rest⟩
    rw [k.block g hb (hh g rfl)]
    exact hgg
theorem Kept.inner {lo hi lo' hi' : Nat} {w w' : World} (h : Kept lo hi w w') (h1 : lo ≤ lo') (h2 : hi' ≤ hi) : Kept lo' hi' w w' :=
  ⟨h.size, fun b h3 h4 => h.block b (by omega) (by omega)⟩
theorem Rows2.kept {w w' : World} {lo hi n : Nat} {v : Value} {us : List Value} {ls hs : Nat → Nat} {P P' : Nat → Nat → Nat → Value → Prop} (h : Rows2 w lo hi v n us ls hs P) (k : Kept lo hi w w')
    (hP : ∀ i l h u, i < n → lo ≤ l → h ≤ hi → P i l h u → P' i l h u) : Rows2 w' lo hi v n us ls hs P' :=
  ⟨row_of_kept h.1 (fun b hb => (h.2.1 b hb).1) k, h.2.1, Nat.le_trans h.2.2.1 k.size, fun i hi => ⟨(h.2.2.2.1 i hi).1, (h.2.2.2.1 i hi).2.1, hP i _ _ _ hi (h.2.2.2.1 i hi).1 (h.2.2.2.1 i hi).2.1 (h.2.2.2.1 i hi).2.2⟩, h.2.2.2.2⟩
theorem OwnQ.kept {w w' : World} {lo hi : Nat} {v : Value} {zss : List (List Int)} (h : OwnQ w lo hi v zss) (k : Kept lo hi w w') : OwnQ w' lo hi v zss := by
  obtain ⟨us, ls, hs, h⟩ := h
  exact ⟨us, ls, hs, h.kept k fun i l h' u _ h1 h2 hp => OwnI.kept hp (k.inner h1 h2)⟩
theorem MarkQ.kept {w w' : World} {lo hi n k : Nat} {v : Value} {ms : Nat → Nat} (h : MarkQ w lo hi v n ms k) (kk : Kept lo hi w w') : MarkQ w' lo hi v n ms k := by
  obtain ⟨us, ls, hs, h⟩ := h
  exact ⟨us, ls, hs, h.kept kk fun i l h' u _ h1 h2 hp => MarkI.kept hp (kk.inner h1 h2)⟩
/-- The cell of the i-th slice. -/
theorem Rows2.cell {w : World} {lo hi n c : Nat} {A : Option Addr} {us : List Value} {ls hs : Nat → Nat} {P : Nat → Nat → Nat → Value → Prop} (h : Rows2 w lo hi (.slice A n c) n us ls hs P) {i : Nat} (hi' : i < n) :
    ∃ g, A = some ⟨g, 0, none⟩ ∧ lo ≤ g ∧ g < hi ∧ w.cell? ⟨g, i, none⟩ = some (us.getD i undef) ∧ w.frozen? ⟨g, i, none⟩ = false := by
  obtain ⟨h1, h2, h3, h4, h5⟩ := h
  have hl := h1.1
  rcases h1.2 with ⟨e, e0⟩ | ⟨g, cap, cur, e, hb, hg, hnc, hcm, hcs, hcur⟩
  · omega
  · simp only [Value.slice.injEq] at e
    obtain ⟨rfl, _, rfl⟩ := e
    refine ⟨g, rfl, hb, (h2 g rfl).1, ?_, World.ownsRow.frozenAt h1 i⟩
    have h6 : i < us.length := by omega
    rw [World.ownsRow.cellAt h1 i (by omega)]
    simp [List.getD, h6]
theorem row_form {w : World} {lo n : Nat} {t : TypeId} {v : Value} {xs : List Value} (h : w.ownsRow lo t 1 v n xs) : ∃ A c, v = .slice A n c ∧ (A = none → c = 0) ∧ n ≤ c ∧ (∀ a, A = some a → ∃ g o, a = ⟨g, o, none⟩) ∧ c ≤ 9223372036854775807 := by
  rcases h.2 with ⟨rfl, h0⟩ | ⟨g, cap, cur, rfl, hb, hg, hnc, hcm, hcs, hcur⟩
  · subst h0; exact ⟨none, 0, rfl, fun _ => rfl, Nat.le_refl _, (fun a h => by cases h), by omega⟩
  · unfold maxLen at hcm
    exact ⟨_, _, rfl, (fun h => by cases h), hnc, (fun a h => by cases h; exact ⟨_, _, rfl⟩), by omega⟩
theorem OwnQ.reads {w : World} {lo hi : Nat} {v : Value} {zss : List (List Int)} (h : OwnQ w lo hi v zss) : ReadQ w w.heap.size v zss := by
  obtain ⟨us, ls, hs, h⟩ := h
  obtain ⟨A, c, rfl, h1, h2, h3, h4⟩ := row_form h.1
  refine ⟨A, c, rfl, fun k hk => ?_, h1, h2, h3, h4⟩
  obtain ⟨g, rfl, hg1, hg2, hc, _⟩ := h.cell hk
  have h5 : (⟨g, 0, none⟩ : Addr).add k = ⟨g, k, none⟩ := by unfold Addr.add; split <;> simp_all
  refine ⟨_, _, rfl, Nat.lt_of_lt_of_le hg2 h.2.2.1, by rw [h5]; exact hc, (h.2.2.2.1 k hk).2.2.reads⟩
theorem OwnQ.nil (w : World) (lo : Nat) : OwnQ w lo w.heap.size (.slice none 0 0) [] :=
  ⟨[], fun _ => 0, fun _ => 0, World.ownsRow_nil w lo _ _, (fun k h => by cases h), Nat.le_refl _, (fun i h => by simp at h), (fun i j _ h => by simp at h)⟩

theorem Rows2.step2 {w w' : World} {lo hi n : Nat} {v : Value} {us : List Value} {ls hs : Nat → Nat} {P P' : Nat → Nat → Nat → Value → Prop} (h : Rows2 w lo hi v n us ls hs P) {j : Nat} (hj : j < n)
    (ho : Only (ls j) (hs j) w w') (hP : ∀ i, i < n → i ≠ j → P i (ls i) (hs i) (us.getD i undef) → Kept (ls i) (hs i) w w' → P' i (ls i) (hs i) (us.getD i undef)) (hj' : P' j (ls j) (hs j) (us.getD j undef)) :
    Rows2 w' lo hi v n us ls hs P' := by
  obtain ⟨h1, h2, h3, h4, h5⟩ := h
  refine ⟨?_, h2, Nat.le_trans h3 ho.size, ?_, h5⟩
  · refine ⟨h1.1, ?_⟩
    rcases h1.2 with hn | ⟨g, cap, cur, rfl, hb, hgg, rest⟩
    · exact .inl hn
    · refine .inr ⟨g, cap, cur, rfl, hb, ?_, rest⟩
      have h7 := (h2 g rfl).2 j hj
      rw [ho.block g (Array.getElem?_eq_some_iff.1 hgg).1 (by omega)]
      exact hgg
  · intro i hi'
    refine ⟨(h4 i hi').1, (h4 i hi').2.1, ?_⟩
    by_cases e : i = j
    · subst e; exact hj'
    · refine hP i hi' e (h4 i hi').2.2 (ho.kept ?_ (Nat.le_trans (h4 i hi').2.1 h3))
      by_cases h8 : i < j
      · have := h5 i j h8 hj; omega
      · have := h5 j i (by omega) hi'; omega
theorem Only.wider {lo hi lo' hi' : Nat} {w w' : World} (h : Only lo hi w w') (h1 : lo' ≤ lo) (h2 : hi ≤ hi') : Only lo' hi' w w' :=
  ⟨h.os, h.tape, h.output, h.size, fun b hb hn => h.block b hb (by omega)⟩
theorem OwnI.order {w : World} {lo hi : Nat} {v : Value} {zs : List Int} (h : OwnI w lo hi v zs) : lo ≤ hi ∨ v = .slice none 0 0 := by
  rcases h.1.2 with hn | ⟨g, cap, cur, rfl, hb, hgg, rest⟩
  · exact .inr hn.1
  · have := h.2.1 g rfl; exact .inl (by omega)

theorem kept_set {lo hi : Nat} (w : World) {p : Addr} (h : p.block < lo ∨ hi ≤ p.block) (u : Value) : Kept lo hi w (w.setCell p u) :=
  ⟨by simp [World.setCell], fun b h1 h2 => Below.heap_setCell _ _ _ _ (by rintro rfl; omega)⟩
theorem slice_eq {A : Option Addr} {n m c : Nat} (h : n = m) : Value.slice A n c = .slice A m c := by rw [h]
theorem slice_info : (Try.prog.info? 22).map (fun i => (i.zero, i.size, i.bytes)) = some (some (.slice none 0 0), 1, 24) := by kernel_rfl

/-- How many slices and numbers there are, as laws.szInt64SS counts. -/
def szTot (zss : List (List Int)) : Nat := zss.length + sumTo (lens zss) zss.length
theorem szTot_facts {zss : List (List Int)} {B : Nat} (h : szTot zss ≤ B) : zss.length ≤ B ∧ (∀ i, lens zss i ≤ B) ∧ sumTo (lens zss) zss.length ≤ B := by
  unfold szTot at h
  refine ⟨by omega, fun i => ?_, by omega⟩
  by_cases hi : i < zss.length
  · have h1 := sumTo_le (lens zss) (show i + 1 ≤ zss.length by omega)
    have h2 : sumTo (lens zss) (i + 1) = sumTo (lens zss) i + lens zss i := rfl
    omega
  · have : zss.getD i [] = [] := by simp [List.getD, List.getElem?_eq_none (show zss.length ≤ i by omega)]
    unfold lens; rw [this]; simp
theorem lens_all {zss : List (List Int)} {B : Nat} (h : ∀ zs ∈ zss, zs.length ≤ B) (i : Nat) : lens zss i ≤ B := by
  unfold lens
  by_cases hi : i < zss.length
  · have e : zss.getD i [] = zss[i] := by simp [List.getD, hi]
    rw [e]; exact h _ (List.getElem_mem _)
  · have : zss.getD i [] = [] := by simp [List.getD, List.getElem?_eq_none (show zss.length ≤ i by omega)]
    rw [this]; simp
/-- Answers: a list of lists and a code. -/
def AnsQC (w : World) (L : List (List Int)) (C : Int) (e : Ending) (w' : World) : Prop := ∃ v, e = .returned (.tuple #[v, .int .i64 C]) ∧ OwnQ w' w.heap.size w'.heap.size v L ∧ Below w.heap.size w w'
end Go.Proofs.Ytncgkoanckefmaa
