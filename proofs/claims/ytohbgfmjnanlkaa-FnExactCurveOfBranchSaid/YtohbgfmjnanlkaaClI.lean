/- Is it a cluster: the model's test: contracts of spec.l07Near, spec.l07Is. Conditions: stated at each theorem. -/
import Derived.Test.YtohbgfmjnanlkaaClM
import Derived.Test.YtohbgfmjnanlkaaClW
namespace Go.Proofs.Ytohbgfmjnanlkaa
open Go.ChangeShapes Go.WideShapes Go.ChangeAt Go.RowKit Go.Deep
set_option linter.unusedVariables false
set_option linter.unusedSimpArgs false

theorem cells_ofC {w : World} {B n c : Nat} {A : Option Addr} {zs : List Int} (h : ReadI w B (.slice A n c) zs) (hl : zs.length = n) (hn : 1 ≤ n) : ∃ g o, A = some ⟨g, o, none⟩ ∧ Hid (∀ k, k < n → w.cell? ⟨g, o + k, none⟩ = some (.int .i64 (zs[k]?.getD 0))) ∧ g < B := by
  subst hl
  obtain ⟨A', c', e, h1, h2, h3, h4, h5⟩ := h
  cases e
  obtain ⟨a, ea, hlt, hc0⟩ := h1.2 0 (by omega)
  obtain ⟨g, o, e2⟩ := h4 a ea
  subst e2; subst ea
  refine ⟨g, o, rfl, Lib.hid fun k hk => ?_, hlt⟩
  obtain ⟨a', e3, _, hck⟩ := h1.2 k hk
  cases e3
  rw [add_lit] at hck
  simpa using hck
theorem near_math {P S : List Int} {k q : Nat} {j : Int} (h : okAll P S k = true) (hq : q < k) (hj : 0 ≤ j) : (decide (P[q]?.getD 0 = j) || decide (S[q]?.getD 0 = j)) = (nrC P S q).contains j := by
  rw [Bool.eq_iff_iff]
  by_cases h0 : q = 0
  · obtain ⟨e1, e2, e3⟩ := nr_zero h (show 0 < k by omega)
    subst h0
    rw [e1, e2, e3]; simp; omega
  · obtain ⟨p, hp, _, hs⟩ := nr_lt h q hq (by omega)
    rcases hs with ⟨e1, e2⟩ | ⟨s, e1, _, e2⟩
    · rw [e2, e1, hp]; simp; omega
    · rw [e2, e1, hp]; simp; omega

set_option maxRecDepth 100000 in
set_option maxHeartbeats 4000000 in
theorem near_par (g0 o0 n c0 g1 o1 c1 : Nat) (p s j : Int) (i : Nat) (w : World) (hi : i < n) (hc : n ≤ c0 ∧ n ≤ c1 ∧ n ≤ 9223372036854775807) (h0 : w.cell? ⟨g0, o0 + i, none⟩ = some (.int .i64 p)) (h1 : w.cell? ⟨g1, o1 + i, none⟩ = some (.int .i64 s)) (hg0 : g0 < w.heap.size) (hg1 : g1 < w.heap.size) (A2 : Option Addr) (n2 c2 : Nat) (hj : 0 ≤ j) (hp : p = j) :
    Calls Try.prog 127 #[.agg #[.slice (some ⟨g0, o0, none⟩) n c0, .slice (some ⟨g1, o1, none⟩) n c1, .slice A2 n2 c2], .int .i64 i, .int .i64 j] w fun e w' => e = .returned (.bool true) ∧ Below w.heap.size w w' := by
  have hii : (i : Int) < (n : Int) := by omega
  have hn0 : g0 ≠ w.heap.size := by omega
  have hn1 : g1 ≠ w.heap.size := by omega
  have b1 : (p == j) = true := by simpa using hp
  clear hp
  go_enter Try.func127, Try.ntmps127
  go_wp2_with fail
  go_ret
  exact ⟨rfl, below_box2 _ _⟩

set_option maxRecDepth 100000 in
set_option maxHeartbeats 4000000 in
theorem near_sec (g0 o0 n c0 g1 o1 c1 : Nat) (p s j : Int) (i : Nat) (w : World) (hi : i < n) (hc : n ≤ c0 ∧ n ≤ c1 ∧ n ≤ 9223372036854775807) (h0 : w.cell? ⟨g0, o0 + i, none⟩ = some (.int .i64 p)) (h1 : w.cell? ⟨g1, o1 + i, none⟩ = some (.int .i64 s)) (hg0 : g0 < w.heap.size) (hg1 : g1 < w.heap.size) (A2 : Option Addr) (n2 c2 : Nat) (hj : 0 ≤ j) (hp : p ≠ j) (hs : s = j) :
    Calls Try.prog 127 #[.agg #[.slice (some ⟨g0, o0, none⟩) n c0, .slice (some ⟨g1, o1, none⟩) n c1, .slice A2 n2 c2], .int .i64 i, .int .i64 j] w fun e w' => e = .returned (.bool true) ∧ Below w.heap.size w w' := by
  have hii : (i : Int) < (n : Int) := by omega
  have hn0 : g0 ≠ w.heap.size := by omega
  have hn1 : g1 ≠ w.heap.size := by omega
  have b1 : (p == j) = false := by simpa using hp
  have b2 : (s == j) = true := by simpa using hs
  clear hp hs
  go_enter Try.func127, Try.ntmps127
  go_wp2_with fail
  go_ret
  exact ⟨rfl, below_box2 _ _⟩

set_option maxRecDepth 100000 in
set_option maxHeartbeats 4000000 in
theorem near_no (g0 o0 n c0 g1 o1 c1 : Nat) (p s j : Int) (i : Nat) (w : World) (hi : i < n) (hc : n ≤ c0 ∧ n ≤ c1 ∧ n ≤ 9223372036854775807) (h0 : w.cell? ⟨g0, o0 + i, none⟩ = some (.int .i64 p)) (h1 : w.cell? ⟨g1, o1 + i, none⟩ = some (.int .i64 s)) (hg0 : g0 < w.heap.size) (hg1 : g1 < w.heap.size) (A2 : Option Addr) (n2 c2 : Nat) (hj : 0 ≤ j) (hp : p ≠ j) (hs : s ≠ j) :
    Calls Try.prog 127 #[.agg #[.slice (some ⟨g0, o0, none⟩) n c0, .slice (some ⟨g1, o1, none⟩) n c1, .slice A2 n2 c2], .int .i64 i, .int .i64 j] w fun e w' => e = .returned (.bool false) ∧ Below w.heap.size w w' := by
  have hii : (i : Int) < (n : Int) := by omega
  have hn0 : g0 ≠ w.heap.size := by omega
  have hn1 : g1 ≠ w.heap.size := by omega
  have b1 : (p == j) = false := by simpa using hp
  have b2 : (s == j) = false := by simpa using hs
  go_enter Try.func127, Try.ntmps127
  go_wp2_with fail
  go_ret
  exact ⟨rfl, below_box2 _ _⟩

theorem near_any (g0 o0 n c0 g1 o1 c1 : Nat) (p s j : Int) (i : Nat) (w : World) (hi : i < n) (hc : n ≤ c0 ∧ n ≤ c1 ∧ n ≤ 9223372036854775807) (h0 : w.cell? ⟨g0, o0 + i, none⟩ = some (.int .i64 p)) (h1 : w.cell? ⟨g1, o1 + i, none⟩ = some (.int .i64 s)) (hg0 : g0 < w.heap.size) (hg1 : g1 < w.heap.size) (A2 : Option Addr) (n2 c2 : Nat) (b : Bool) (hj : 0 ≤ j) (hb : (decide (p = j) || decide (s = j)) = b) :
    Calls Try.prog 127 #[.agg #[.slice (some ⟨g0, o0, none⟩) n c0, .slice (some ⟨g1, o1, none⟩) n c1, .slice A2 n2 c2], .int .i64 i, .int .i64 j] w fun e w' => e = .returned (.bool b) ∧ Below w.heap.size w w' := by
  by_cases hp : p = j
  · have e : b = true := by rw [← hb]; simp [hp]
    subst e
    exact near_par g0 o0 n c0 g1 o1 c1 p s j i w hi hc h0 h1 hg0 hg1 A2 n2 c2 hj hp
  · by_cases hs : s = j
    · have e : b = true := by rw [← hb]; simp [hs]
      subst e
      exact near_sec g0 o0 n c0 g1 o1 c1 p s j i w hi hc h0 h1 hg0 hg1 A2 n2 c2 hj hp hs
    · have e : b = false := by rw [← hb]; simp [hp, hs]
      subst e
      exact near_no g0 o0 n c0 g1 o1 c1 p s j i w hi hc h0 h1 hg0 hg1 A2 n2 c2 hj hp hs

set_option maxRecDepth 100000 in
set_option maxHeartbeats 4000000 in
theorem l07Is_len (A0 A1 A2 : Option Addr) (n0 n1 n2 c0 c1 c2 : Nat) (w : World) (hm : n0 ≤ 9223372036854775807) (h : n0 < 1 ∨ 24 < n0 ∨ n1 ≠ n0 ∨ n2 ≠ n0) :
    Calls Try.prog 74 #[.agg #[.slice A0 n0 c0, .slice A1 n1 c1, .slice A2 n2 c2]] w fun e w' => e = .returned (.bool false) ∧ Below w.heap.size w w' := by
  have e3 : n1 ≠ n0 → ((n1 : Int) != (n0 : Int)) = true := fun h => by simp; omega
  have e3' : ¬ n1 ≠ n0 → ((n1 : Int) != (n0 : Int)) = false := fun h => by simp; omega
  have e4 : n2 ≠ n0 → ((n2 : Int) != (n0 : Int)) = true := fun h => by simp; omega
  by_cases h1 : n0 < 1 ∨ 24 < n0
  · have q1 : ¬ ((1 : Int) ≤ (n0 : Int) ∧ (n0 : Int) ≤ 24) := by omega
    clear h h1 e3 e3' e4
    go_enter Try.func74, Try.ntmps74; go_wp2_with (go_at_call 60; refine (inN n0 1 24 _ q1).mono ?_; rintro e w' ⟨rfl, rfl⟩); go_ret; exact ⟨rfl, below_box2 _ _⟩
  · have q1 : (1 : Int) ≤ (n0 : Int) ∧ (n0 : Int) ≤ 24 := by omega
    by_cases h3 : n1 ≠ n0
    · have q3 := e3 h3
      clear h h1 h3 e3 e3' e4
      go_enter Try.func74, Try.ntmps74; go_wp2_with (go_at_call 60; refine (inY n0 1 24 _ (by omega) (by omega)).mono ?_; rintro e w' ⟨rfl, rfl⟩); go_ret; exact ⟨rfl, below_box2 _ _⟩
    · have q3 := e3' h3
      have q4 := e4 (by omega)
      clear h h1 h3 e3 e3' e4
      go_enter Try.func74, Try.ntmps74; go_wp2_with (go_at_call 60; refine (inY n0 1 24 _ (by omega) (by omega)).mono ?_; rintro e w' ⟨rfl, rfl⟩); go_ret; exact ⟨rfl, below_box2 _ _⟩

set_option maxRecDepth 100000 in
set_option maxHeartbeats 4000000 in
theorem l07Is_first (g0 g1 g2 o0 o1 o2 n c0 c1 c2 : Nat) (P S W : List Int) (w : World) (hn : 1 ≤ n ∧ n ≤ 24) (hc : n ≤ c0 ∧ n ≤ c1 ∧ n ≤ c2) (H0 : Hid (∀ k, k < n → w.cell? ⟨g0, o0 + k, none⟩ = some (.int .i64 (P[k]?.getD 0)))) (H1 : Hid (∀ k, k < n → w.cell? ⟨g1, o1 + k, none⟩ = some (.int .i64 (S[k]?.getD 0)))) (H2 : Hid (∀ k, k < n → w.cell? ⟨g2, o2 + k, none⟩ = some (.int .i64 (W[k]?.getD 0)))) (hg : g0 < w.heap.size ∧ g1 < w.heap.size ∧ g2 < w.heap.size) (h : ¬(P[0]?.getD 0 = -1 ∧ S[0]?.getD 0 = -1)) :
    Calls Try.prog 74 #[.agg #[.slice (some ⟨g0, o0, none⟩) n c0, .slice (some ⟨g1, o1, none⟩) n c1, .slice (some ⟨g2, o2, none⟩) n c2]] w fun e w' => e = .returned (.bool false) ∧ Below w.heap.size w w' := by
  have hn0 : g0 ≠ w.heap.size := by omega
  have hn1 : g1 ≠ w.heap.size := by omega
  have hn2 : g2 ≠ w.heap.size := by omega
  have q3 : ((n : Int) != (n : Int)) = false := by simp
  have q0n : (0 : Int) < (n : Int) := by omega
  have q0m : 0 < n := by omega
  have d0 := H0.out 0 (by omega)
  have d1 := H1.out 0 (by omega)
  rw [Nat.add_zero] at d0 d1
  obtain ⟨p, hp⟩ : ∃ x, P[0]?.getD 0 = x := ⟨_, rfl⟩
  obtain ⟨s, hs⟩ : ∃ x, S[0]?.getD 0 = x := ⟨_, rfl⟩
  rw [hp] at d0 h
  rw [hs] at d1 h
  clear hp hs
  by_cases h1 : p = -1
  · have q5 : (p != -1) = false := by simpa using h1
    have q6 : (s != -1) = true := by simpa using fun e => h ⟨h1, e⟩
    clear h h1
    go_enter Try.func74, Try.ntmps74; go_wp2_with (go_at_call 60; refine (inY n 1 24 _ (by omega) (by omega)).mono ?_; rintro e w' ⟨rfl, rfl⟩); go_ret; exact ⟨rfl, below_box2 _ _⟩
  · have q5 : (p != -1) = true := by simpa using h1
    clear h h1
    go_enter Try.func74, Try.ntmps74; go_wp2_with (go_at_call 60; refine (inY n 1 24 _ (by omega) (by omega)).mono ?_; rintro e w' ⟨rfl, rfl⟩); go_ret; exact ⟨rfl, below_box2 _ _⟩

set_option maxRecDepth 100000 in
set_option maxHeartbeats 4000000 in
theorem l07Is_run (g0 g1 g2 o0 o1 o2 n c0 c1 c2 : Nat) (P S W : List Int) (w : World) (hn : 1 ≤ n ∧ n ≤ 24) (hc : n ≤ c0 ∧ n ≤ c1 ∧ n ≤ c2) (H0 : Hid (∀ k, k < n → w.cell? ⟨g0, o0 + k, none⟩ = some (.int .i64 (P[k]?.getD 0)))) (H1 : Hid (∀ k, k < n → w.cell? ⟨g1, o1 + k, none⟩ = some (.int .i64 (S[k]?.getD 0)))) (H2 : Hid (∀ k, k < n → w.cell? ⟨g2, o2 + k, none⟩ = some (.int .i64 (W[k]?.getD 0)))) (hg : g0 < w.heap.size ∧ g1 < w.heap.size ∧ g2 < w.heap.size) (b : Bool) (hf : P[0]?.getD 0 = -1 ∧ S[0]?.getD 0 = -1) (hl : W.length = n) (hb : (okAll P S n && wtOK W) = b) :
    Calls Try.prog 74 #[.agg #[.slice (some ⟨g0, o0, none⟩) n c0, .slice (some ⟨g1, o1, none⟩) n c1, .slice (some ⟨g2, o2, none⟩) n c2]] w fun e w' => e = .returned (.bool b) ∧ Below w.heap.size w w' := by
  have hn0 : g0 ≠ w.heap.size := by omega
  have hn1 : g1 ≠ w.heap.size := by omega
  have hn2 : g2 ≠ w.heap.size := by omega
  have q3 : ((n : Int) != (n : Int)) = false := by simp
  have q0n : (0 : Int) < (n : Int) := by omega
  have q0m : 0 < n := by omega
  have d0 := H0.out 0 (by omega)
  have d1 := H1.out 0 (by omega)
  rw [Nat.add_zero] at d0 d1
  have q5 : (P[0]?.getD 0 != -1) = false := by simpa using hf.1
  have q6 : (S[0]?.getD 0 != -1) = false := by simpa using hf.2
  obtain ⟨p0, hp0⟩ : ∃ x, P[0]?.getD 0 = x := ⟨_, rfl⟩
  obtain ⟨s0, hs0⟩ : ∃ x, S[0]?.getD 0 = x := ⟨_, rfl⟩
  rw [hp0] at d0 q5
  rw [hs0] at d1 q6
  have HF := Lib.hid hf
  have HL := Lib.hid hl
  have HB := Lib.hid hb
  have HX : Hid (CBox (w.alloc (.cells #[.slice (some ⟨g0, o0, none⟩) n c0, .slice (some ⟨g1, o1, none⟩) n c1, .slice (some ⟨g2, o2, none⟩) n c2] 36)) w.heap.size (.slice (some ⟨g0, o0, none⟩) n c0) (.slice (some ⟨g1, o1, none⟩) n c1) (.slice (some ⟨g2, o2, none⟩) n c2)) := Lib.hid (CBox.new _ _ _ _ _)
  have HB0 : Hid (Below w.heap.size w (w.alloc (.cells #[.slice (some ⟨g0, o0, none⟩) n c0, .slice (some ⟨g1, o1, none⟩) n c1, .slice (some ⟨g2, o2, none⟩) n c2] 36))) := Lib.hid (below_box2 _ _)
  have HOA0 : Hid (okAll P S 0 = true) := Lib.hid rfl
  have HWA0 : Hid (∀ x, x < 0 → -100000 ≤ W[x]?.getD 0 ∧ W[x]?.getD 0 ≤ 100000) := Lib.hid fun x hx => by omega
  clear hf hl hb hp0 hs0
  go_enter Try.func74, Try.ntmps74
  go_wp2_with (go_at_call 60; refine (inY n 1 24 _ (by omega) (by omega)).mono ?_; rintro e w' ⟨rfl, rfl⟩)
  clear d0 d1 q5 q6 q3
  generalize (w.alloc (.cells #[.slice (some ⟨g0, o0, none⟩) n c0, .slice (some ⟨g1, o1, none⟩) n c1, .slice (some ⟨g2, o2, none⟩) n c2] 36)) = W0 at *
  have HC0 : Hid (Below W0.heap.size W0 W0) := Lib.hid (Below.refl _ _)
  go_loopw [4] (fun vi wr => ∃ (i : Nat), i ≤ n ∧ vi = .int .i64 i ∧ Hid (okAll P S i = true) ∧ Hid (∀ x, x < i → -100000 ≤ W[x]?.getD 0 ∧ W[x]?.getD 0 ≤ 100000) ∧ Hid (Below W0.heap.size W0 wr)) (fun vi _ => n - (intOf vi).toNat)
  case atStart => exact ⟨0, by omega, rfl, HOA0, HWA0, HC0⟩
  case round =>
    obtain ⟨i, hi, rfl, HOA, HWA, HC⟩ := hrel
    have HBW : Hid (Below w.heap.size w wr) := Lib.hid (HB0.out.trans (HC.out.mono HB0.out.size))
    by_cases hin : i < n
    · have hcb : ∀ a o, a < w.heap.size → wr.cell? ⟨a, o, none⟩ = w.cell? ⟨a, o, none⟩ := fun a o h => HBW.out.cell (p := ⟨a, o, none⟩) h
      have HXW := Lib.hid (HX.out.below HC.out)
      have b0 := HXW.out.c0
      have b1 := HXW.out.c1
      have b2 := HXW.out.c2
      have hlw := HXW.out.lt
      have d0 := (hcb g0 (o0 + i) hg.1).trans (H0.out i hin)
      have d1 := (hcb g1 (o1 + i) hg.2.1).trans (H1.out i hin)
      have d2 := (hcb g2 (o2 + i) hg.2.2).trans (H2.out i hin)
      have HCB := Lib.hid hcb
      obtain ⟨p, hp⟩ : ∃ x, P[i]?.getD 0 = x := ⟨_, rfl⟩
      obtain ⟨s, hs⟩ : ∃ x, S[i]?.getD 0 = x := ⟨_, rfl⟩
      obtain ⟨z, hz⟩ : ∃ x, W[i]?.getD 0 = x := ⟨_, rfl⟩
      rw [hp] at d0
      rw [hs] at d1
      rw [hz] at d2
      have HP := Lib.hid hp
      have HS := Lib.hid hs
      have HZ := Lib.hid hz
      have hin2 : (i : Int) < (n : Int) := by omega
      clear hp hs hz hcb
      by_cases hzz : -100000 ≤ z ∧ z ≤ 100000
      rotate_left
      · have HBT : Hid (b = false) := Lib.hid (by rw [← HB.out, wtOK_bad (i := i) (by rw [HL.out]; exact hin) (by rw [HZ.out]; exact hzz)]; simp)
        go_wp2_with (go_at_call 60; refine (inN z _ _ _ hzz).mono ?_; rintro e w' ⟨rfl, rfl⟩)
        go_ret
        have hbt := HBT.out
        subst hbt
        exact ⟨rfl, HBW.out⟩
      have HWA1 : Hid (∀ x, x < i + 1 → -100000 ≤ W[x]?.getD 0 ∧ W[x]?.getD 0 ≤ 100000) := Lib.hid fun x hx => by
        by_cases e : x = i
        · subst e; rw [HZ.out]; exact hzz
        · exact HWA.out x (by omega)
      by_cases hi0 : i = 0
      · have qi : ((i : Int) == 0) = true := by simpa using hi0
        have HOA1 : Hid (okAll P S (i + 1) = true) := Lib.hid (by rw [okAll_succ, HOA.out]; subst hi0; rw [okQ_zero]; simp [HF.out])
        clear hi0
        go_wp2_with (go_at_call 60; refine (inY z _ _ _ hzz.1 hzz.2).mono ?_; rintro e w' ⟨rfl, rfl⟩)
        go_roundw
        case rel => exact ⟨i + 1, by omega, by go_num, HOA1, HWA1, HC⟩
        case measure => simp [intOf]; omega
      have qi : ((i : Int) == 0) = false := by simpa using hi0
      have hip : 0 < i := by omega
      have w1 : IntKind.i64.wrap ((i : Int) - 1) = (i : Int) - 1 := IntWalk.i64_in _ (by omega)
      have HOQ : Hid (okQ P S i = (decide (0 ≤ p) && decide (p < (i : Int)) && (decide (s = -1) || ((nrC P S p.toNat).contains s && !twinB P S i i)))) := Lib.hid (by rw [okQ_pos hip, HP.out, HS.out])
      have HBAD : Hid (okQ P S i = false → b = false) := Lib.hid fun h => by rw [← HB.out, okAll_bad h hin]; rfl
      by_cases hpp : 0 ≤ p ∧ p ≤ (i : Int) - 1
      rotate_left
      · have HBT : Hid (b = false) := Lib.hid (HBAD.out (by rw [HOQ.out]; simp; omega))
        go_wp2_with (go_at_call 60; first | ((with_reducible refine (inY z _ _ _ hzz.1 hzz.2).mono ?_); rintro e w' ⟨rfl, rfl⟩) | ((with_reducible refine (inN p _ _ _ hpp).mono ?_); rintro e w' ⟨rfl, rfl⟩))
        go_ret
        have hbt := HBT.out
        subst hbt
        exact ⟨rfl, HBW.out⟩
      obtain ⟨q, rfl⟩ : ∃ q : Nat, p = (q : Int) := ⟨p.toNat, by omega⟩
      have hqi : q < i := by omega
      by_cases hs1 : s = -1
      · have qs : (s == -1) = true := by simpa using hs1
        have HOA1 : Hid (okAll P S (i + 1) = true) := Lib.hid (by rw [okAll_succ, HOA.out, HOQ.out]; simp [hs1]; omega)
        clear hs1
        go_wp2_with (go_at_call 60; first | ((with_reducible refine (inY z _ _ _ hzz.1 hzz.2).mono ?_); rintro e w' ⟨rfl, rfl⟩) | ((with_reducible refine (inY q _ _ _ hpp.1 hpp.2).mono ?_); rintro e w' ⟨rfl, rfl⟩))
        go_roundw
        case rel => exact ⟨i + 1, by omega, by go_num, HOA1, HWA1, HC⟩
        case measure => simp [intOf]; omega
      have qs : (s == -1) = false := by simpa using hs1
      go_wp2_with (go_at_call 60; first | ((with_reducible refine (inY z _ _ _ hzz.1 hzz.2).mono ?_); rintro e w' ⟨rfl, rfl⟩) | ((with_reducible refine (inY q _ _ _ hpp.1 hpp.2).mono ?_); rintro e w' ⟨rfl, rfl⟩))
      have HIS := Lib.hid qs
      by_cases hsn : 0 ≤ s ∧ s ≤ (i : Int) - 1
      rotate_left
      · have HBT : Hid (b = false) := Lib.hid (HBAD.out (by
          have hns : (nrC P S q).contains s = false := by
            cases e : (nrC P S q).contains s with
            | false => rfl
            | true =>
              have h1 : s ∈ nrC P S q := by simpa using e
              have h2 := nr_mem HOA.out hqi s h1
              omega
          rw [HOQ.out, Int.toNat_natCast, hns]; simp [hs1]))
        refine wp_region_held_drew (S := fun w' => w'.cell? ⟨w.heap.size, 0, none⟩ = some (.slice (some ⟨g0, o0, none⟩) n c0) ∧ w'.cell? ⟨w.heap.size, 1, none⟩ = some (.slice (some ⟨g1, o1, none⟩) n c1) ∧ w'.cell? ⟨w.heap.size, 2, none⟩ = some (.slice (some ⟨g2, o2, none⟩) n c2) ∧ w'.cell? ⟨g0, o0 + i, none⟩ = some (.int .i64 q) ∧ w'.cell? ⟨g1, o1 + i, none⟩ = some (.int .i64 s)) (by kernel_rfl) ⟨b0, b1, b2, d0, d1⟩ (fun hHeld => ?_)
        refine takeY 0 _ (v := ?_) rfl rfl (by kernel_rfl) (by kernel_rfl) (by kernel_rfl) (fun _ _ _ h => h) (by kernel_rfl) ?_ (by assumption) ?_
        rotate_left 1
        · intro w hSw; (try dsimp only at hSw); go_simp; (try with_reducible rfl)
        try simp only [Act.put, List.setIfInBounds_toArray, List.set_cons_zero, List.set_cons_succ]
        refine takeY 1 _ (v := ?_) rfl rfl (by kernel_rfl) (by kernel_rfl) (by kernel_rfl) (fun _ _ _ h => h) (by kernel_rfl) ?_ (by assumption) ?_
        rotate_left 1
        · intro w hSw; (try dsimp only at hSw); go_simp; (try with_reducible rfl)
        try simp only [Act.put, List.setIfInBounds_toArray, List.set_cons_zero, List.set_cons_succ]
        refine takeY 2 _ (v := ?_) rfl rfl (by kernel_rfl) (by kernel_rfl) (by kernel_rfl) (fun _ _ _ h => h) (by kernel_rfl) ?_ (by assumption) ?_
        rotate_left 1
        · intro w hSw; (try dsimp only at hSw); go_simp; (try with_reducible rfl)
        try simp only [Act.put, List.setIfInBounds_toArray, List.set_cons_zero, List.set_cons_succ]
        refine takeY 3 _ (v := ?_) rfl rfl (by kernel_rfl) (by kernel_rfl) (by kernel_rfl) (fun _ _ _ h => h) (by kernel_rfl) ?_ (by assumption) ?_
        rotate_left 1
        · intro w hSw; (try dsimp only at hSw); go_simp; (try with_reducible rfl)
        try simp only [Act.put, List.setIfInBounds_toArray, List.set_cons_zero, List.set_cons_succ]
        refine takeY 4 _ (v := ?_) rfl rfl (by kernel_rfl) (by kernel_rfl) (by kernel_rfl) (fun _ _ _ h => h) (by kernel_rfl) ?_ (by assumption) ?_
        rotate_left 1
        · intro w hSw; (try dsimp only at hSw); go_simp; (try with_reducible rfl)
        try simp only [Act.put, List.setIfInBounds_toArray, List.set_cons_zero, List.set_cons_succ]
        refine takeY 5 _ (v := ?_) rfl rfl (by kernel_rfl) (by kernel_rfl) (by kernel_rfl) (fun _ _ _ h => h) (by kernel_rfl) ?_ (by assumption) ?_
        rotate_left 1
        · intro w hSw; (try dsimp only at hSw); go_simp; (try with_reducible rfl)
        try simp only [Act.put, List.setIfInBounds_toArray, List.set_cons_zero, List.set_cons_succ]
        refine takeY 6 _ (v := ?_) rfl rfl (by kernel_rfl) (by kernel_rfl) (by kernel_rfl) (fun _ _ _ h => h) (by kernel_rfl) ?_ (by assumption) ?_
        rotate_left 1
        · intro w hSw; (try dsimp only at hSw); go_simp; (try with_reducible rfl)
        try simp only [Act.put, List.setIfInBounds_toArray, List.set_cons_zero, List.set_cons_succ]
        refine wpAnyH_ready (rs := [7]) (by kernel_rfl) (by simp) ?_
        refine AllReadyH.cons rfl (fun K hK => ?_) AllReadyH.nil
        go_simp
        refine (inN s 0 ((i : Int) - 1) _ hsn).mono ?_
        rintro e w' ⟨rfl, rfl⟩
        refine hK.out _ (wr.drew) ⟨b0, b1, b2, d0, d1⟩ (fun hHeld => ?_)
        clear hK K
        try simp only [Act.put, List.setIfInBounds_toArray, List.set_cons_zero, List.set_cons_succ]
        refine takeY 8 _ (v := ?_) rfl rfl (by kernel_rfl) (by kernel_rfl) (by kernel_rfl) (fun _ _ _ h => h) (by kernel_rfl) ?_ (by assumption) ?_
        rotate_left 1
        · intro w hSw; (try dsimp only at hSw); go_simp; (try with_reducible rfl)
        try simp only [Act.put, List.setIfInBounds_toArray, List.set_cons_zero, List.set_cons_succ]
        refine takeY 9 _ (v := ?_) rfl rfl (by kernel_rfl) (by kernel_rfl) (by kernel_rfl) (fun _ _ _ h => h) (by kernel_rfl) ?_ (by assumption) ?_
        rotate_left 1
        · intro w hSw; (try dsimp only at hSw); go_simp; (try with_reducible rfl)
        try simp only [Act.put, List.setIfInBounds_toArray, List.set_cons_zero, List.set_cons_succ]
        refine takeN 10 _ rfl rfl (by kernel_rfl) (by kernel_rfl) (by kernel_rfl) (fun _ _ _ h => h) (by kernel_rfl) (by assumption) ?_
        try simp only [Act.put, List.setIfInBounds_toArray, List.set_cons_zero, List.set_cons_succ]
        refine takeN 11 _ rfl rfl (by kernel_rfl) (by kernel_rfl) (by kernel_rfl) (fun _ _ _ h => h) (by kernel_rfl) (by assumption) ?_
        try simp only [Act.put, List.setIfInBounds_toArray, List.set_cons_zero, List.set_cons_succ]
        refine takeN 12 _ rfl rfl (by kernel_rfl) (by kernel_rfl) (by kernel_rfl) (fun _ _ _ h => h) (by kernel_rfl) (by assumption) ?_
        try simp only [Act.put, List.setIfInBounds_toArray, List.set_cons_zero, List.set_cons_succ]
        refine takeN 13 _ rfl rfl (by kernel_rfl) (by kernel_rfl) (by kernel_rfl) (fun _ _ _ h => h) (by kernel_rfl) (by assumption) ?_
        try simp only [Act.put, List.setIfInBounds_toArray, List.set_cons_zero, List.set_cons_succ]
        refine takeN 14 _ rfl rfl (by kernel_rfl) (by kernel_rfl) (by kernel_rfl) (fun _ _ _ h => h) (by kernel_rfl) (by assumption) ?_
        try simp only [Act.put, List.setIfInBounds_toArray, List.set_cons_zero, List.set_cons_succ]
        refine takeN 15 _ rfl rfl (by kernel_rfl) (by kernel_rfl) (by kernel_rfl) (fun _ _ _ h => h) (by kernel_rfl) (by assumption) ?_
        try simp only [Act.put, List.setIfInBounds_toArray, List.set_cons_zero, List.set_cons_succ]
        refine takeN 16 _ rfl rfl (by kernel_rfl) (by kernel_rfl) (by kernel_rfl) (fun _ _ _ h => h) (by kernel_rfl) (by assumption) ?_
        try simp only [Act.put, List.setIfInBounds_toArray, List.set_cons_zero, List.set_cons_succ]
        refine takeN 17 _ rfl rfl (by kernel_rfl) (by kernel_rfl) (by kernel_rfl) (fun _ _ _ h => h) (by kernel_rfl) (by assumption) ?_
        try simp only [Act.put, List.setIfInBounds_toArray, List.set_cons_zero, List.set_cons_succ]
        refine takeN 18 _ rfl rfl (by kernel_rfl) (by kernel_rfl) (by kernel_rfl) (fun _ _ _ h => h) (by kernel_rfl) (by assumption) ?_
        try simp only [Act.put, List.setIfInBounds_toArray, List.set_cons_zero, List.set_cons_succ]
        refine takeN 19 _ rfl rfl (by kernel_rfl) (by kernel_rfl) (by kernel_rfl) (fun _ _ _ h => h) (by kernel_rfl) (by assumption) ?_
        try simp only [Act.put, List.setIfInBounds_toArray, List.set_cons_zero, List.set_cons_succ]
        refine takeN 20 _ rfl rfl (by kernel_rfl) (by kernel_rfl) (by kernel_rfl) (fun _ _ _ h => h) (by kernel_rfl) (by assumption) ?_
        try simp only [Act.put, List.setIfInBounds_toArray, List.set_cons_zero, List.set_cons_succ]
        refine takeN 21 _ rfl rfl (by kernel_rfl) (by kernel_rfl) (by kernel_rfl) (fun _ _ _ h => h) (by kernel_rfl) (by assumption) ?_
        try simp only [Act.put, List.setIfInBounds_toArray, List.set_cons_zero, List.set_cons_succ]
        refine takeN 22 _ rfl rfl (by kernel_rfl) (by kernel_rfl) (by kernel_rfl) (fun _ _ _ h => h) (by kernel_rfl) (by assumption) ?_
        try simp only [Act.put, List.setIfInBounds_toArray, List.set_cons_zero, List.set_cons_succ]
        refine takeY 23 _ (v := ?_) rfl rfl (by kernel_rfl) (by kernel_rfl) (by kernel_rfl) (fun _ _ _ h => h) (by kernel_rfl) ?_ (by assumption) ?_
        rotate_left 1
        · intro w hSw; (try dsimp only at hSw); go_simp; (try with_reducible rfl)
        try simp only [Act.put, List.setIfInBounds_toArray, List.set_cons_zero, List.set_cons_succ]
        refine wpAnyH_done (by kernel_rfl) ?_ _
        go_wp2_with fail
        go_ret
        have hbt := HBT.out
        subst hbt
        exact ⟨rfl, HBW.out.drew⟩
      obtain ⟨t, rfl⟩ : ∃ t : Nat, s = (t : Int) := ⟨s.toNat, by omega⟩
      obtain ⟨bb, hbb⟩ : ∃ x, (decide (P[q]?.getD 0 = (t : Int)) || decide (S[q]?.getD 0 = (t : Int))) = x := ⟨_, rfl⟩
      have HBB := Lib.hid hbb
      have HCT : Hid ((nrC P S q).contains (t : Int) = bb) := Lib.hid (by rw [← near_math HOA.out hqi (by omega)]; exact hbb)
      have e0 := (HCB.out g0 (o0 + q) hg.1).trans (H0.out q (by omega))
      have e1 := (HCB.out g1 (o1 + q) hg.2.1).trans (H1.out q (by omega))
      have hgw0 : g0 < wr.heap.size := by omega
      have hgw1 : g1 < wr.heap.size := by omega
      clear hbb
      refine wp_region_held_drew (S := fun w' => w'.cell? ⟨w.heap.size, 0, none⟩ = some (.slice (some ⟨g0, o0, none⟩) n c0) ∧ w'.cell? ⟨w.heap.size, 1, none⟩ = some (.slice (some ⟨g1, o1, none⟩) n c1) ∧ w'.cell? ⟨w.heap.size, 2, none⟩ = some (.slice (some ⟨g2, o2, none⟩) n c2) ∧ w'.cell? ⟨g0, o0 + i, none⟩ = some (.int .i64 q) ∧ w'.cell? ⟨g1, o1 + i, none⟩ = some (.int .i64 t)) (by kernel_rfl) ⟨b0, b1, b2, d0, d1⟩ (fun hHeld => ?_)
      refine takeY 0 _ (v := ?_) rfl rfl (by kernel_rfl) (by kernel_rfl) (by kernel_rfl) (fun _ _ _ h => h) (by kernel_rfl) ?_ (by assumption) ?_
      rotate_left 1
      · intro w hSw; (try dsimp only at hSw); go_simp; (try with_reducible rfl)
      try simp only [Act.put, List.setIfInBounds_toArray, List.set_cons_zero, List.set_cons_succ]
      refine takeY 1 _ (v := ?_) rfl rfl (by kernel_rfl) (by kernel_rfl) (by kernel_rfl) (fun _ _ _ h => h) (by kernel_rfl) ?_ (by assumption) ?_
      rotate_left 1
      · intro w hSw; (try dsimp only at hSw); go_simp; (try with_reducible rfl)
      try simp only [Act.put, List.setIfInBounds_toArray, List.set_cons_zero, List.set_cons_succ]
      refine takeY 2 _ (v := ?_) rfl rfl (by kernel_rfl) (by kernel_rfl) (by kernel_rfl) (fun _ _ _ h => h) (by kernel_rfl) ?_ (by assumption) ?_
      rotate_left 1
      · intro w hSw; (try dsimp only at hSw); go_simp; (try with_reducible rfl)
      try simp only [Act.put, List.setIfInBounds_toArray, List.set_cons_zero, List.set_cons_succ]
      refine takeY 3 _ (v := ?_) rfl rfl (by kernel_rfl) (by kernel_rfl) (by kernel_rfl) (fun _ _ _ h => h) (by kernel_rfl) ?_ (by assumption) ?_
      rotate_left 1
      · intro w hSw; (try dsimp only at hSw); go_simp; (try with_reducible rfl)
      try simp only [Act.put, List.setIfInBounds_toArray, List.set_cons_zero, List.set_cons_succ]
      refine takeY 4 _ (v := ?_) rfl rfl (by kernel_rfl) (by kernel_rfl) (by kernel_rfl) (fun _ _ _ h => h) (by kernel_rfl) ?_ (by assumption) ?_
      rotate_left 1
      · intro w hSw; (try dsimp only at hSw); go_simp; (try with_reducible rfl)
      try simp only [Act.put, List.setIfInBounds_toArray, List.set_cons_zero, List.set_cons_succ]
      refine takeY 5 _ (v := ?_) rfl rfl (by kernel_rfl) (by kernel_rfl) (by kernel_rfl) (fun _ _ _ h => h) (by kernel_rfl) ?_ (by assumption) ?_
      rotate_left 1
      · intro w hSw; (try dsimp only at hSw); go_simp; (try with_reducible rfl)
      try simp only [Act.put, List.setIfInBounds_toArray, List.set_cons_zero, List.set_cons_succ]
      refine takeY 6 _ (v := ?_) rfl rfl (by kernel_rfl) (by kernel_rfl) (by kernel_rfl) (fun _ _ _ h => h) (by kernel_rfl) ?_ (by assumption) ?_
      rotate_left 1
      · intro w hSw; (try dsimp only at hSw); go_simp; (try with_reducible rfl)
      try simp only [Act.put, List.setIfInBounds_toArray, List.set_cons_zero, List.set_cons_succ]
      refine wpAnyH_ready (rs := [7]) (by kernel_rfl) (by simp) ?_
      refine AllReadyH.cons rfl (fun K hK => ?_) AllReadyH.nil
      go_simp
      refine (inY t 0 ((i : Int) - 1) _ (by omega) (by omega)).mono ?_
      rintro e w' ⟨rfl, rfl⟩
      refine hK.out _ (wr.drew) ⟨b0, b1, b2, d0, d1⟩ (fun hHeld => ?_)
      clear hK K
      try simp only [Act.put, List.setIfInBounds_toArray, List.set_cons_zero, List.set_cons_succ]
      refine takeY 8 _ (v := ?_) rfl rfl (by kernel_rfl) (by kernel_rfl) (by kernel_rfl) (fun _ _ _ h => h) (by kernel_rfl) ?_ (by assumption) ?_
      rotate_left 1
      · intro w hSw; (try dsimp only at hSw); go_simp; (try with_reducible rfl)
      try simp only [Act.put, List.setIfInBounds_toArray, List.set_cons_zero, List.set_cons_succ]
      refine takeY 9 _ (v := ?_) rfl rfl (by kernel_rfl) (by kernel_rfl) (by kernel_rfl) (fun _ _ _ h => h) (by kernel_rfl) ?_ (by assumption) ?_
      rotate_left 1
      · intro w hSw; (try dsimp only at hSw); go_simp; (try with_reducible rfl)
      try simp only [Act.put, List.setIfInBounds_toArray, List.set_cons_zero, List.set_cons_succ]
      refine takeY 10 _ (v := ?_) rfl rfl (by kernel_rfl) (by kernel_rfl) (by kernel_rfl) (fun _ _ _ h => h) (by kernel_rfl) ?_ (by assumption) ?_
      rotate_left 1
      · intro w hSw; (try dsimp only at hSw); go_simp; (try with_reducible rfl)
      try simp only [Act.put, List.setIfInBounds_toArray, List.set_cons_zero, List.set_cons_succ]
      refine takeY 11 _ (v := ?_) rfl rfl (by kernel_rfl) (by kernel_rfl) (by kernel_rfl) (fun _ _ _ h => h) (by kernel_rfl) ?_ (by assumption) ?_
      rotate_left 1
      · intro w hSw; (try dsimp only at hSw); go_simp; (try with_reducible rfl)
      try simp only [Act.put, List.setIfInBounds_toArray, List.set_cons_zero, List.set_cons_succ]
      refine takeY 12 _ (v := ?_) rfl rfl (by kernel_rfl) (by kernel_rfl) (by kernel_rfl) (fun _ _ _ h => h) (by kernel_rfl) ?_ (by assumption) ?_
      rotate_left 1
      · intro w hSw; (try dsimp only at hSw); go_simp; (try with_reducible rfl)
      try simp only [Act.put, List.setIfInBounds_toArray, List.set_cons_zero, List.set_cons_succ]
      refine takeY 13 _ (v := ?_) rfl rfl (by kernel_rfl) (by kernel_rfl) (by kernel_rfl) (fun _ _ _ h => h) (by kernel_rfl) ?_ (by assumption) ?_
      rotate_left 1
      · intro w hSw; (try dsimp only at hSw); go_simp; (try with_reducible rfl)
      try simp only [Act.put, List.setIfInBounds_toArray, List.set_cons_zero, List.set_cons_succ]
      refine takeY 14 _ (v := ?_) rfl rfl (by kernel_rfl) (by kernel_rfl) (by kernel_rfl) (fun _ _ _ h => h) (by kernel_rfl) ?_ (by assumption) ?_
      rotate_left 1
      · intro w hSw; (try dsimp only at hSw); go_simp; (try with_reducible rfl)
      try simp only [Act.put, List.setIfInBounds_toArray, List.set_cons_zero, List.set_cons_succ]
      refine takeY 15 _ (v := ?_) rfl rfl (by kernel_rfl) (by kernel_rfl) (by kernel_rfl) (fun _ _ _ h => h) (by kernel_rfl) ?_ (by assumption) ?_
      rotate_left 1
      · intro w hSw; (try dsimp only at hSw); go_simp; (try with_reducible rfl)
      try simp only [Act.put, List.setIfInBounds_toArray, List.set_cons_zero, List.set_cons_succ]
      refine takeY 16 _ (v := ?_) rfl rfl (by kernel_rfl) (by kernel_rfl) (by kernel_rfl) (fun _ _ _ h => h) (by kernel_rfl) ?_ (by assumption) ?_
      rotate_left 1
      · intro w hSw; (try dsimp only at hSw); go_simp; (try with_reducible rfl)
      try simp only [Act.put, List.setIfInBounds_toArray, List.set_cons_zero, List.set_cons_succ]
      refine takeY 17 _ (v := ?_) rfl rfl (by kernel_rfl) (by kernel_rfl) (by kernel_rfl) (fun _ _ _ h => h) (by kernel_rfl) ?_ (by assumption) ?_
      rotate_left 1
      · intro w hSw; (try dsimp only at hSw); go_simp; (try with_reducible rfl)
      try simp only [Act.put, List.setIfInBounds_toArray, List.set_cons_zero, List.set_cons_succ]
      refine takeY 18 _ (v := ?_) rfl rfl (by kernel_rfl) (by kernel_rfl) (by kernel_rfl) (fun _ _ _ h => h) (by kernel_rfl) ?_ (by assumption) ?_
      rotate_left 1
      · intro w hSw; (try dsimp only at hSw); go_simp; (try with_reducible rfl)
      try simp only [Act.put, List.setIfInBounds_toArray, List.set_cons_zero, List.set_cons_succ]
      refine takeY 19 _ (v := ?_) rfl rfl (by kernel_rfl) (by kernel_rfl) (by kernel_rfl) (fun _ _ _ h => h) (by kernel_rfl) ?_ (by assumption) ?_
      rotate_left 1
      · intro w hSw; (try dsimp only at hSw); go_simp; (try with_reducible rfl)
      try simp only [Act.put, List.setIfInBounds_toArray, List.set_cons_zero, List.set_cons_succ]
      refine takeY 20 _ (v := ?_) rfl rfl (by kernel_rfl) (by kernel_rfl) (by kernel_rfl) (fun _ _ _ h => h) (by kernel_rfl) ?_ (by assumption) ?_
      rotate_left 1
      · intro w hSw; (try dsimp only at hSw); go_simp; (try with_reducible rfl)
      try simp only [Act.put, List.setIfInBounds_toArray, List.set_cons_zero, List.set_cons_succ]
      refine wpAnyH_ready (rs := [21]) (by kernel_rfl) (by simp) ?_
      refine AllReadyH.cons rfl (fun K hK => ?_) AllReadyH.nil
      go_simp
      refine (near_any g0 o0 n c0 g1 o1 c1 (P[q]?.getD 0) (S[q]?.getD 0) t q wr.drew (by omega) (by omega) e0 e1 (show g0 < wr.heap.size from hgw0) (show g1 < wr.heap.size from hgw1) _ n c2 bb (by omega) HBB.out).mono ?_
      rintro e w3 ⟨rfl, hb3⟩
      have hk3 : ∀ a o, a < wr.heap.size → w3.cell? ⟨a, o, none⟩ = wr.cell? ⟨a, o, none⟩ := fun a o h => hb3.cell (p := ⟨a, o, none⟩) h
      refine hK.out _ w3 ⟨by rw [hk3 _ _ (by omega)]; exact b0, by rw [hk3 _ _ (by omega)]; exact b1, by rw [hk3 _ _ (by omega)]; exact b2, by rw [hk3 _ _ (by omega)]; exact d0, by rw [hk3 _ _ (by omega)]; exact d1⟩ (fun hHeld => ?_)
      clear hK K
      try simp only [Act.put, List.setIfInBounds_toArray, List.set_cons_zero, List.set_cons_succ]
      refine takeY 22 _ (v := ?_) rfl rfl (by kernel_rfl) (by kernel_rfl) (by kernel_rfl) (fun _ _ _ h => h) (by kernel_rfl) ?_ (by assumption) ?_
      rotate_left 1
      · intro w hSw; (try dsimp only at hSw); go_simp; (try with_reducible rfl)
      try simp only [Act.put, List.setIfInBounds_toArray, List.set_cons_zero, List.set_cons_succ]
      refine takeY 23 _ (v := ?_) rfl rfl (by kernel_rfl) (by kernel_rfl) (by kernel_rfl) (fun _ _ _ h => h) (by kernel_rfl) ?_ (by assumption) ?_
      rotate_left 1
      · intro w hSw; (try dsimp only at hSw); go_simp; (try with_reducible rfl)
      try simp only [Act.put, List.setIfInBounds_toArray, List.set_cons_zero, List.set_cons_succ]
      refine wpAnyH_done (by kernel_rfl) ?_ _
      have HC3 : Hid (Below W0.heap.size W0 w3) := Lib.hid (HC.out.trans ((show Below wr.heap.size wr w3 from ⟨hb3.os, hb3.tape, hb3.output, hb3.size, hb3.block⟩).mono HC.out.size))
      have HBW3 : Hid (Below w.heap.size w w3) := Lib.hid (HB0.out.trans (HC3.out.mono HB0.out.size))
      clear hk3 hHeld hb3 b0 b1 b2 d0 d1 d2 e0 e1
      cases bb
      · have HBT : Hid (b = false) := Lib.hid (HBAD.out (by rw [HOQ.out, Int.toNat_natCast, HCT.out]; simp [hs1]))
        go_wp2_with fail
        go_ret
        have hbt := HBT.out
        subst hbt
        exact ⟨rfl, HBW3.out⟩
      have HT1 : Hid (twinB P S i 1 = false) := Lib.hid (by rw [twinB_succ, twinB_zero, HP.out, HF.out.1]; simp <;> omega)
      have HOQ2 : Hid (okQ P S i = !twinB P S i i) := Lib.hid (by
        rw [HOQ.out, Int.toNat_natCast, HCT.out]
        have : decide ((0 : Int) ≤ (q : Int)) = true := by simp
        have h2 : decide ((q : Int) < (i : Int)) = true := by simp; omega
        have h3 : decide ((t : Int) = -1) = false := by simp
        rw [this, h2, h3]; simp)
      have HJ : Hid (1 ≤ i) := Lib.hid (by omega)
      clear HCB HXW HBW hlw hgw0 hgw1
      go_wp2_with fail
      go_loopw [5] (fun vj wr => ∃ (j : Nat), (1 ≤ j ∧ j ≤ i) ∧ vj = .int .i64 j ∧ Hid (twinB P S i j = false) ∧ Hid (Below W0.heap.size W0 wr)) (fun vj _ => i - (intOf vj).toNat)
      case atStart => exact ⟨1, by omega, rfl, HT1, HC3⟩
      case round =>
        obtain ⟨j, hj, rfl, HT, HCj⟩ := hrel
        have HBWj : Hid (Below w.heap.size w wr) := Lib.hid (HB0.out.trans (HCj.out.mono HB0.out.size))
        by_cases hji : j < i
        · have hcb : ∀ a o, a < w.heap.size → wr.cell? ⟨a, o, none⟩ = w.cell? ⟨a, o, none⟩ := fun a o h => HBWj.out.cell (p := ⟨a, o, none⟩) h
          have HXj := Lib.hid (HX.out.below HCj.out)
          have b0 := HXj.out.c0
          have b1 := HXj.out.c1
          have b2 := HXj.out.c2
          have d0 := (hcb g0 (o0 + i) hg.1).trans (H0.out i hin)
          have d1 := (hcb g1 (o1 + i) hg.2.1).trans (H1.out i hin)
          have d3 := (hcb g0 (o0 + j) hg.1).trans (H0.out j (by omega))
          have d4 := (hcb g1 (o1 + j) hg.2.1).trans (H1.out j (by omega))
          rw [HP.out] at d0
          rw [HS.out] at d1
          have HTN : Hid (twinB P S i (j + 1) = (decide (P[j]?.getD 0 = (q : Int)) && decide (S[j]?.getD 0 = (t : Int)))) := Lib.hid (by rw [twinB_succ, HT.out, HP.out, HS.out]; rfl)
          obtain ⟨pj, hpj⟩ : ∃ x, P[j]?.getD 0 = x := ⟨_, rfl⟩
          obtain ⟨sj, hsj⟩ : ∃ x, S[j]?.getD 0 = x := ⟨_, rfl⟩
          rw [hpj] at d3 HTN
          rw [hsj] at d4 HTN
          have hji2 : (j : Int) < (i : Int) := by omega
          have hjn2 : (j : Int) < (n : Int) := by omega
          clear hpj hsj hcb
          by_cases ha : pj = (q : Int)
          · have qa : (pj == (q : Int)) = true := by simpa using ha
            by_cases hb' : sj = (t : Int)
            · have qb : (sj == (t : Int)) = true := by simpa using hb'
              have HBT : Hid (b = false) := Lib.hid (HBAD.out (by
                have h1 : twinB P S i (j + 1) = true := by rw [HTN.out]; simp [ha, hb']
                have h2 : twinB P S i i = true := by
                  unfold twinB at h1 ⊢
                  rw [List.any_eq_true] at h1 ⊢
                  obtain ⟨x, hx, h2⟩ := h1
                  exact ⟨x, List.mem_range.2 (by have := List.mem_range.1 hx; omega), h2⟩
                rw [HOQ2.out, h2]; rfl))
              clear ha hb'
              go_wp2_with fail
              go_quiet (fail)
              go_wp2_with fail
              go_ret
              have hbt := HBT.out
              subst hbt
              exact ⟨rfl, below_drewN HBWj.out _⟩
            · have qb : (sj == (t : Int)) = false := by simpa using hb'
              have HT2 : Hid (twinB P S i (j + 1) = false) := Lib.hid (by rw [HTN.out]; simp [hb'])
              clear ha hb'
              go_wp2_with fail
              go_quiet (fail)
              go_wp2_with fail
              go_roundw
              case rel => exact ⟨j + 1, by omega, by go_num, HT2, Lib.hid (below_drewN HCj.out _)⟩
              case measure => simp [intOf]; omega
          · have qa : (pj == (q : Int)) = false := by simpa using ha
            have HT2 : Hid (twinB P S i (j + 1) = false) := Lib.hid (by rw [HTN.out]; simp [ha])
            clear ha
            go_wp2_with fail
            go_quiet (fail)
            go_wp2_with fail
            go_roundw
            case rel => exact ⟨j + 1, by omega, by go_num, HT2, Lib.hid (below_drewN HCj.out _)⟩
            case measure => simp [intOf]; omega
        · obtain rfl : j = i := by omega
          have HOA1 : Hid (okAll P S (j + 1) = true) := Lib.hid (by rw [okAll_succ, HOA.out, HOQ2.out, HT.out]; rfl)
          have hjj : ¬ (j : Int) < (j : Int) := by omega
          go_wp2_with fail
          go_roundw
          case rel => exact ⟨j + 1, by omega, by go_num, HOA1, HWA1, HCj⟩
          case measure => simp [intOf]; omega
    · obtain rfl : i = n := by omega
      have HBT : Hid (b = true) := Lib.hid (by
        rw [← HB.out, HOA.out, wtOK_iff HL.out, Bool.true_and, List.all_eq_true]
        intro x hx
        have := HWA.out x (List.mem_range.1 hx)
        simp [this])
      go_wp2_with fail
      go_ret
      have hbt := HBT.out
      subst hbt
      exact ⟨rfl, HBW.out⟩

end Go.Proofs.Ytohbgfmjnanlkaa
