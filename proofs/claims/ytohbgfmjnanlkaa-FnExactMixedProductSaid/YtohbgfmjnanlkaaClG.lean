/- Simple clusters: contracts. Conditions: stated at each theorem. -/
import Derived.Test.YtohbgfmjnanlkaaClA
namespace Go.Proofs.Ytohbgfmjnanlkaa
open Go.ChangeShapes Go.WideShapes Go.ChangeAt Go.RowKit Go.Deep
set_option linter.unusedVariables false
set_option linter.unusedSimpArgs false

theorem OwnI.nilAt {w : World} {lo : Nat} (h : lo ≤ w.heap.size) : OwnI w lo lo (.slice none 0 0) [] := ⟨Own.nil _ _, fun k hk => by simp [Value.ownBlock] at hk, h⟩
theorem AnsCC.noneC {w w' : World} {P S W : List Int} {C D : Int} (h0 : P = []) (h1 : S = []) (h2 : W = []) (h3 : D = C) (hb : Below w.heap.size w w') : AnsCC w P S W C (.returned (.tuple #[.agg #[.slice none 0 0, .slice none 0 0, .slice none 0 0], .int .i64 D])) w' := by
  subst h0; subst h1; subst h2; subst h3
  have hs := hb.size
  exact ⟨_, _, _, rfl, ⟨Nat.le_refl _, w.heap.size, w.heap.size, w.heap.size, w.heap.size, w.heap.size, w.heap.size, ⟨by omega, by omega, by omega, by omega, by omega, by omega⟩, OwnI.nilAt hs, OwnI.nilAt hs, OwnI.nilAt hs⟩, hb⟩
/-- The answer's lists: the weights in memory from block l to block k, the others behind them. -/
theorem AnsCC.someC {w w' : World} {P S W P' S' W' : List Int} {C D : Int} {a b v : Value} {l k m : Nat} (h0 : P' = P) (h1 : S' = S) (h2 : W' = W) (h3 : D = C) (hl : w.heap.size ≤ l) (hlk : l ≤ k) (hkm : k ≤ m) (hm : m ≤ w'.heap.size) (oa : OwnI w' k m a P') (ob : OwnI w' m w'.heap.size b S') (ov : OwnI w' l k v W') (hb : Below w.heap.size w w') :
    AnsCC w P S W C (.returned (.tuple #[.agg #[a, b, v], .int .i64 D])) w' := by
  subst h0; subst h1; subst h2; subst h3
  exact ⟨_, _, _, rfl, ⟨Nat.le_refl _, k, m, m, w'.heap.size, l, k, ⟨by omega, by omega, by omega, by omega, by omega, by omega⟩, oa, ob, ov⟩, hb⟩
/-- Three writes into a block ahead of what is owned. -/
theorem OwnI.newC3 {V : World} {l m g : Nat} {v : Value} {L : List Int} (o : OwnI V l m v L) (hg : g < l) (x y z : Value) : OwnI (((V.setCell ⟨g, 0, none⟩ x).setCell ⟨g, 1, none⟩ y).setCell ⟨g, 2, none⟩ z) l m v L := OwnI.newC (OwnI.newC (OwnI.newC o hg _) hg _) hg _
theorem Below.set3 {n : Nat} {w V : World} {g : Nat} (h : Below n w V) (hg : n ≤ g) (x y z : Value) : Below n w (((V.setCell ⟨g, 0, none⟩ x).setCell ⟨g, 1, none⟩ y).setCell ⟨g, 2, none⟩ z) := ((h.setCell (p := ⟨g, 0, none⟩) hg _).setCell (p := ⟨g, 1, none⟩) hg _).setCell (p := ⟨g, 2, none⟩) hg _
theorem CBox.set3 {V : World} {g : Nat} {a b c : Value} (h : CBox V g a b c) (x y z : Value) : CBox (((V.setCell ⟨g, 0, none⟩ x).setCell ⟨g, 1, none⟩ y).setCell ⟨g, 2, none⟩ z) g x y z := ((h.set0 _).set1 _).set2 _
theorem size_set3 (V : World) (g : Nat) (x y z : Value) : (((V.setCell ⟨g, 0, none⟩ x).setCell ⟨g, 1, none⟩ y).setCell ⟨g, 2, none⟩ z).heap.size = V.heap.size := by rw [size_set, size_set, size_set]
def scC (P S W : List Int) (i : Int) : Int := if clB P S W then (if 0 ≤ i ∧ i < (P.length : Int) then 0 else 2) else 1
def scP (P S W : List Int) (i : Int) : List Int := if scC P S W i = 0 then P else []
def scS (P S W : List Int) (i : Int) : List Int := if scC P S W i = 0 then S else []
def scW (P S W : List Int) (i : Int) : List Int := if scC P S W i = 0 then smL P S P.length i.toNat else []
theorem sc_no {P S W : List Int} {i C : Int} (h : scC P S W i = C) (hC : C ≠ 0) : scP P S W i = [] ∧ scS P S W i = [] ∧ scW P S W i = [] := by
  subst h; exact ⟨if_neg hC, if_neg hC, if_neg hC⟩
theorem sc_yes {P S W : List Int} {n i : Nat} (h : ClOK P S W n) (hi : i < n) : scC P S W (i : Int) = 0 ∧ scP P S W (i : Int) = P ∧ scS P S W (i : Int) = S ∧ scW P S W (i : Int) = smL P S n i := by
  have h0 : scC P S W (i : Int) = 0 := by unfold scC; rw [if_pos h.b, if_pos (by rw [h.p]; omega)]
  exact ⟨h0, if_pos h0, if_pos h0, by unfold scW; rw [if_pos h0, h.p, Int.toNat_natCast]⟩
theorem sc_len (P S W : List Int) (i : Int) : (scP P S W i).length ≤ 1048576 ∧ (scS P S W i).length ≤ 1048576 ∧ (scW P S W i).length ≤ 1048576 := by
  by_cases h : scC P S W i = 0
  · have hb : clB P S W = true := by
      cases hb : clB P S W with
      | true => rfl
      | false => simp [scC, hb] at h
    obtain ⟨n, hC⟩ := clB_true hb
    have hn := hC.hi
    refine ⟨by rw [scP, if_pos h, hC.p]; omega, by rw [scS, if_pos h, hC.s]; omega, by rw [scW, if_pos h, smL_len, hC.p]; omega⟩
  · have h2 := sc_no (C := scC P S W i) rfl h
    rw [h2.1, h2.2.1, h2.2.2]; simp
theorem LAns.len {w w' : World} {L : List Int} {n : Nat} {e : Ending} (h : LAns w L e w') (hl : L.length = n) : ∃ A c, e = .returned (.slice A n c) ∧ OwnI w' w.heap.size w'.heap.size (.slice A n c) L ∧ Below w.heap.size w w' := by subst hl; exact h
theorem ls_drew {f : Nat} {args : Array Value} {w : World} {L : List Int} {n : Nat} (h : Calls Try.prog f args w.drew (LAns w.drew L)) (hl : L.length = n) : Calls Try.prog f args w.drew (fun e w' => ∃ A c, e = .returned (.slice A n c) ∧ OwnI w' w.heap.size w'.heap.size (.slice A n c) L ∧ Below w.heap.size w w') :=
  h.mono fun e w' k => by
    obtain ⟨A, c, rfl, ho, hb⟩ := k.len hl
    exact ⟨A, c, rfl, ho, below_un hb⟩
theorem sm_ok {P S : List Int} {n i : Nat} (h : okAll P S n = true) (hn : n ≤ 24) (hi : i < n) : wtOK (smL P S n i) = true := by
  rw [wtOK_iff (smL_len P S n i), List.all_eq_true]
  intro x hx
  have hx' := List.mem_range.1 hx
  rw [smL_at hx']
  have := sm_bound (x := x) h hn hi
  simp only [Bool.and_eq_true, decide_eq_true_eq]; omega

end Go.Proofs.Ytohbgfmjnanlkaa
