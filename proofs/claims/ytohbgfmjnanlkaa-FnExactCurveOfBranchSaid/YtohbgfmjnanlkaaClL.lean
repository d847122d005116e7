/- Points of a cluster in memory: words; membership: contracts. Conditions: stated at each theorem. -/
import Derived.Test.YtohbgfmjnanlkaaClK
namespace Go.Proofs.Ytohbgfmjnanlkaa
open Go.ChangeShapes Go.WideShapes Go.ChangeAt Go.RowKit Go.Deep
set_option linter.unusedVariables false
set_option linter.unusedSimpArgs false

/-- The place of point z in block g; none for -1. -/
def ptA (g : Nat) (z : Int) : Option Addr := if z = -1 then none else some ⟨g, z.toNat * 3, none⟩
theorem ptA_none (g : Nat) : ptA g (-1) = none := rfl
theorem ptA_nat (g p : Nat) : ptA g (p : Int) = some ⟨g, p * 3, none⟩ := by unfold ptA; rw [if_neg (by omega)]; simp
theorem ptA_block {g : Nat} {z : Int} : ∀ x, ptA g z = some x → x.block = g := by
  intro x hx
  unfold ptA at hx
  split at hx
  · cases hx
  · cases hx; rfl
theorem ptA_eq {g p : Nat} {z : Int} (hz : -1 ≤ z) : ptA g z = some ⟨g, p * 3, none⟩ ↔ z = (p : Int) := by
  constructor
  · intro h
    unfold ptA at h
    split at h
    · cases h
    · simp only [Option.some.injEq, Addr.mk.injEq, true_and, and_true] at h; omega
  · rintro rfl; exact ptA_nat g p
/-- The cells of n points, the first k of which are linked. -/
def ptV (g : Nat) (P S : List Int) (k c : Nat) : Value :=
  if c / 3 < k then (if c % 3 = 0 then .int .i64 ((c / 3 : Nat) : Int) else if c % 3 = 1 then .pointer (ptA g (P[c / 3]?.getD 0)) else .pointer (ptA g (S[c / 3]?.getD 0)))
  else (if c % 3 = 0 then .int .i64 0 else .pointer none)
def PtsAt (w : World) (g n k : Nat) (P S : List Int) : Prop := w.rowIs g 175 (n * 3) (ptV g P S k)
theorem ptV_num {g k i : Nat} {P S : List Int} (h : i < k) : ptV g P S k (i * 3) = .int .i64 i := by unfold ptV; rw [if_pos (by omega), if_pos (by omega), show i * 3 / 3 = i by omega]
theorem ptV_par {g k i : Nat} {P S : List Int} (h : i < k) : ptV g P S k (i * 3 + 1) = .pointer (ptA g (P[i]?.getD 0)) := by unfold ptV; rw [if_pos (by omega), if_neg (by omega), if_pos (by omega), show (i * 3 + 1) / 3 = i by omega]
theorem ptV_sec {g k i : Nat} {P S : List Int} (h : i < k) : ptV g P S k (i * 3 + 2) = .pointer (ptA g (S[i]?.getD 0)) := by unfold ptV; rw [if_pos (by omega), if_neg (by omega), if_neg (by omega), show (i * 3 + 2) / 3 = i by omega]
theorem ptV_z0 {g k i : Nat} {P S : List Int} (h : k ≤ i) : ptV g P S k (i * 3) = .int .i64 0 := by unfold ptV; rw [if_neg (by omega), if_pos (by omega)]
theorem ptV_z1 {g k i : Nat} {P S : List Int} (h : k ≤ i) : ptV g P S k (i * 3 + 1) = .pointer none := by unfold ptV; rw [if_neg (by omega), if_neg (by omega)]
theorem ptV_z2 {g k i : Nat} {P S : List Int} (h : k ≤ i) : ptV g P S k (i * 3 + 2) = .pointer none := by unfold ptV; rw [if_neg (by omega), if_neg (by omega)]
/-- A further point is linked by three stores. -/
theorem ptV_next {g k x : Nat} {P S : List Int} : (if x = k * 3 + 2 then .pointer (ptA g (S[k]?.getD 0)) else if x = k * 3 + 1 then .pointer (ptA g (P[k]?.getD 0)) else if x = k * 3 then .int .i64 k else ptV g P S k x) = ptV g P S (k + 1) x := by
  by_cases h2 : x = k * 3 + 2
  · subst h2; rw [if_pos rfl, ptV_sec (by omega)]
  · rw [if_neg h2]
    by_cases h1 : x = k * 3 + 1
    · subst h1; rw [if_pos rfl, ptV_par (by omega)]
    · rw [if_neg h1]
      by_cases h0 : x = k * 3
      · subst h0; rw [if_pos rfl, ptV_num (by omega)]
      · rw [if_neg h0]
        unfold ptV
        by_cases h : x / 3 < k
        · rw [if_pos h, if_pos (show x / 3 < k + 1 by omega)]
        · rw [if_neg h, if_neg (show ¬ x / 3 < k + 1 by omega)]
theorem PtsAt.made (w : World) (n : Nat) (P S : List Int) : PtsAt (w.alloc (.cells (madeCells #[.int .i64 0, .pointer none, .pointer none] (n * 3)) 175)) w.heap.size n 0 P S := by
  refine ⟨_, heap_alloc_new w _, size_madeCells _ _, fun i hi => ?_⟩
  have h : i % 3 = 0 ∨ i % 3 = 1 ∨ i % 3 = 2 := by omega
  rcases h with h | h | h <;> simp [madeCells, hi, ptV, h]
theorem run_make_points (n : Nat) (hn : n ≤ 24) (w : World) :
    (Instr.makeSlice 91 (.int .i64 (n : Int)) (.int .i64 (n : Int))).run Try.prog w = .ok (.slice (some ⟨w.heap.size, 0, none⟩) n n) (w.alloc (.cells (madeCells #[.int .i64 0, .pointer none, .pointer none] (n * 3)) 175)) := by
  obtain ⟨i, hi, hz, hs, hb⟩ := info_parts ptr_info
  have h := run_make (P := Try.prog) w 91 175 i _ Try.underlying91 hi hz .i64 .i64 (n : Int) (n : Int) (by omega) (by omega) (by rw [hb]; omega) (by omega)
  rw [hs, show (Value.agg #[.int .i64 0, .pointer none, .pointer none]).cells = #[.int .i64 0, .pointer none, .pointer none] from rfl] at h
  simpa using h

set_option maxRecDepth 100000 in
set_option maxHeartbeats 1000000 in
theorem index_yes (v : Value) (L : List Int) (x : Int) (q : Nat) (w : World) (B : Nat) (h : ReadI w B v L) (hn : L.length ≤ 1048576) (hq : q < L.length) (hx : L[q]?.getD 0 = x) :
    Calls Try.prog 192 #[v, .int .i64 x] w fun e w' => (∃ r : Nat, e = .returned (.int .i64 r)) ∧ w = w' := by
  obtain ⟨n, A, c, rfl, hr, HL, _, hnc, HF, hcm⟩ := h.split2
  rw [HL.out] at hn hq
  have HX := Lib.hid hx
  have HR := Lib.hid hr
  clear h hr hx
  go_enter Try.func192, Try.ntmps192
  go_wp2
  go_loop [8] (fun vi => ∃ (j : Nat), j ≤ q ∧ vi = .int .i64 j) (fun vi => n - (intOf vi).toNat)
  case atStart => exact ⟨0, by omega, rfl⟩
  case round =>
    obtain ⟨j, hj, rfl⟩ := hrel
    obtain ⟨a, rfl, hal, hc0⟩ := HR.out.2 j (by omega)
    have d1 : w.cell? (a.add j) = some (.int .i64 (L[j]?.getD 0)) := by simpa using hc0
    have HJ : Hid (j = q → L[j]?.getD 0 = x) := Lib.hid (fun e => by rw [e]; exact HX.out)
    obtain ⟨z, hz⟩ : ∃ z, L[j]?.getD 0 = z := ⟨_, rfl⟩
    have HZ := Lib.hid hz
    rw [hz] at d1 HJ
    have hjn2 : (j : Int) < (n : Int) := by omega
    clear hz hc0
    by_cases hzx : z = x
    · have hzb : (z == x) = true := by simpa using hzx
      have hzb2 : (x == z) = true := by simpa using hzx.symm
      clear hzx
      go_wp2
      go_ret
      exact ⟨⟨j, rfl⟩, rfl⟩
    · have hzb : (z == x) = false := by simpa using hzx
      have hzb2 : (x == z) = false := by simpa using fun e => hzx e.symm
      have hjq : j ≠ q := fun e => hzx (HJ.out e)
      go_wp2
      go_round
      case rel => exact ⟨j + 1, by omega, by go_num⟩
      case measure => simp [intOf]; omega

set_option maxRecDepth 100000 in
set_option maxHeartbeats 1000000 in
theorem index_noC (v : Value) (L : List Int) (x : Int) (w : World) (B : Nat) (h : ReadI w B v L) (hn : L.length ≤ 1048576) (hb : ∀ j, j < L.length → L[j]?.getD 0 ≠ x) :
    Calls Try.prog 192 #[v, .int .i64 x] w fun e w' => e = .returned (.int .i64 (-1)) ∧ w = w' := by
  obtain ⟨n, A, c, rfl, hr, HL, _, hnc, HF, hcm⟩ := h.split2
  have HB : Hid (∀ j, j < n → L[j]?.getD 0 ≠ x) := Lib.hid (by rw [← HL.out]; exact hb)
  rw [HL.out] at hn
  have HR := Lib.hid hr
  clear h hr hb
  go_enter Try.func192, Try.ntmps192
  go_wp2
  go_loop [8] (fun vi => ∃ (j : Nat), j ≤ n ∧ vi = .int .i64 j) (fun vi => n - (intOf vi).toNat)
  case atStart => exact ⟨0, by omega, rfl⟩
  case round =>
    obtain ⟨j, hj, rfl⟩ := hrel
    by_cases hjn : j < n
    · obtain ⟨a, rfl, hal, hc0⟩ := HR.out.2 j hjn
      have d1 : w.cell? (a.add j) = some (.int .i64 (L[j]?.getD 0)) := by simpa using hc0
      have hne := HB.out j hjn
      obtain ⟨z, hz⟩ : ∃ z, L[j]?.getD 0 = z := ⟨_, rfl⟩
      rw [hz] at d1 hne
      have hneb : (z == x) = false := by simpa using hne
      have hjn2 : (j : Int) < (n : Int) := by omega
      clear hz hc0
      go_wp2
      go_round
      case rel => exact ⟨j + 1, by omega, by go_num⟩
      case measure => simp [intOf]; omega
    · obtain rfl : j = n := by omega
      go_wp2
      go_ret
      exact ⟨rfl, rfl⟩
theorem has_noC (v : Value) (L : List Int) (x : Int) (w : World) (B : Nat) (h : ReadI w B v L) (hn : L.length ≤ 1048576) (hb : ∀ j, j < L.length → L[j]?.getD 0 ≠ x) :
    Calls Try.prog 170 #[v, .int .i64 x] w fun e w' => e = .returned (.bool false) ∧ w = w' := by
  have H0 := Lib.hid h
  have HB := Lib.hid hb
  clear h hb
  go_enter Try.func170, Try.ntmps170
  go_wp2_with fail
  refine (index_noC v L x w B H0.out hn HB.out).mono ?_
  rintro e w' ⟨rfl, rfl⟩
  go_wp2_with fail
  go_ret
  exact ⟨rfl, rfl⟩

theorem has_yesC (v : Value) (L : List Int) (x : Int) (q : Nat) (w : World) (B : Nat) (h : ReadI w B v L) (hn : L.length ≤ 1048576) (hq : q < L.length) (hx : L[q]?.getD 0 = x) :
    Calls Try.prog 170 #[v, .int .i64 x] w fun e w' => e = .returned (.bool true) ∧ w = w' := by
  have H0 := Lib.hid h
  have HX := Lib.hid hx
  clear h hx
  go_enter Try.func170, Try.ntmps170
  go_wp2_with fail
  refine (index_yes v L x q w B H0.out hn hq HX.out).mono ?_
  rintro e w' ⟨⟨r, rfl⟩, rfl⟩
  go_wp2_with fail
  go_ret
  exact ⟨rfl, rfl⟩
theorem has_anyC (v : Value) (L : List Int) (x : Int) (b : Bool) (w : World) (B : Nat) (h : ReadI w B v L) (hn : L.length ≤ 1048576) (hb : L.contains x = b) :
    Calls Try.prog 170 #[v, .int .i64 x] w fun e w' => e = .returned (.bool b) ∧ w = w' := by
  cases b
  · refine has_noC v L x w B h hn fun j hj e => ?_
    have h1 : x ∈ L := by rw [← e]; simp [hj]
    have h2 : L.contains x = true := by simpa using h1
    rw [hb] at h2; cases h2
  · have h1 : x ∈ L := by simpa using hb
    obtain ⟨q, hq, e⟩ := List.getElem_of_mem h1
    exact has_yesC v L x q w B h hn hq (by simp [hq, e])

/-- What the search for a twin of point k wants of memory: the cells of the points before it, its own pointers, the captured pointer. -/
structure TwM (w : World) (g k p s B : Nat) (P S : List Int) : Prop where
  blk : ∃ X T, w.heap[g]? = some (.cells X T (0, 0))
  lt : g < w.heap.size
  ltB : B < w.heap.size
  box : w.cell? ⟨B, 0, none⟩ = some (.pointer (some ⟨g, k * 3, none⟩))
  own1 : w.cell? ⟨g, k * 3 + 1, none⟩ = some (.pointer (some ⟨g, p * 3, none⟩))
  own2 : w.cell? ⟨g, k * 3 + 2, none⟩ = some (.pointer (some ⟨g, s * 3, none⟩))
  num : ∀ i, i < k → w.cell? ⟨g, i * 3, none⟩ = some (.int .i64 i)
  par : ∀ i, i < k → w.cell? ⟨g, i * 3 + 1, none⟩ = some (.pointer (ptA g (P[i]?.getD 0)))
  sec : ∀ i, i < k → w.cell? ⟨g, i * 3 + 2, none⟩ = some (.pointer (ptA g (S[i]?.getD 0)))
theorem TwM.below {w w' : World} {g k p s B : Nat} {P S : List Int} (h : TwM w g k p s B P S) (hb : Below w.heap.size w w') : TwM w' g k p s B P S := by
  obtain ⟨⟨X, T, h1⟩, h2, h3, h4, h5, h6, h7, h8, h9⟩ := h
  have hc : ∀ b o, b < w.heap.size → w'.cell? ⟨b, o, none⟩ = w.cell? ⟨b, o, none⟩ := fun b o h => hb.cell (p := ⟨b, o, none⟩) h
  exact ⟨⟨X, T, by rw [hb.block g h2]; exact h1⟩, Nat.lt_of_lt_of_le h2 hb.size, Nat.lt_of_lt_of_le h3 hb.size, by rw [hc _ _ h3]; exact h4, by rw [hc _ _ h2]; exact h5, by rw [hc _ _ h2]; exact h6,
    fun i hi => by rw [hc _ _ h2]; exact h7 i hi, fun i hi => by rw [hc _ _ h2]; exact h8 i hi, fun i hi => by rw [hc _ _ h2]; exact h9 i hi⟩
theorem twin_any {w : World} {g k p s B i : Nat} {P S : List Int} {b : Bool} (h : TwM w g k p s B P S) (hi : i < k) (hP : -1 ≤ P[i]?.getD 0) (hS : -1 ≤ S[i]?.getD 0) (hb : (decide (P[i]?.getD 0 = (p : Int)) && decide (S[i]?.getD 0 = (s : Int))) = b) :
    Calls Try.prog 173 #[.agg #[.int .i64 i, .pointer (ptA g (P[i]?.getD 0)), .pointer (ptA g (S[i]?.getD 0))], .pointer (some ⟨B, 0, none⟩)] w fun e w' => e = .returned (.bool b) ∧ Below w.heap.size w w' := by
  obtain ⟨⟨X, T, h1⟩, h2, h3, h4, h5, h6, h7, h8, h9⟩ := h
  by_cases e1 : P[i]?.getD 0 = (p : Int)
  · by_cases e2 : S[i]?.getD 0 = (s : Int)
    · rw [e1, e2] at hb; simp at hb; subst hb
      exact twin3_any _ _ _ _ _ _ _ _ _ _ _ h1 h4 h5 h6 h3 h2 ptA_block ptA_block ((ptA_eq hP).2 e1) ((ptA_eq hS).2 e2)
    · have e3 : b = false := by rw [← hb]; simp [e2]
      subst e3
      exact twin2_any _ _ _ _ _ _ _ _ _ _ _ h1 h4 h5 h6 h3 h2 ptA_block ptA_block ((ptA_eq hP).2 e1) (fun e => e2 ((ptA_eq hS).1 e))
  · have e3 : b = false := by rw [← hb]; simp [e1]
    subst e3
    exact twin1_any _ _ _ _ _ _ _ _ _ _ _ h1 h4 h5 h6 h3 h2 ptA_block ptA_block (fun e => e1 ((ptA_eq hP).1 e))
def IxAns (w : World) (b : Bool) (e : Ending) (w' : World) : Prop := ∃ r : Int, e = .returned (.int .i64 r) ∧ decide (0 ≤ r) = b ∧ -1 ≤ r ∧ Below w.heap.size w w'

set_option maxRecDepth 100000 in
set_option maxHeartbeats 1000000 in
theorem indexF_any (w : World) (g k p s B c : Nat) (P S : List Int) (h : TwM w g k p s B P S) (hk : k ≤ 24) (hp : P[k]?.getD 0 = (p : Int)) (hs : S[k]?.getD 0 = (s : Int)) (hP : ∀ i, i < k → -1 ≤ P[i]?.getD 0 ∧ -1 ≤ S[i]?.getD 0) :
    Calls Try.prog 193 #[.slice (some ⟨g, 0, none⟩) k c, .func (.func 173) #[] #[.pointer (some ⟨B, 0, none⟩)]] w (IxAns w (twinB P S k k)) := by
  have HM := Lib.hid h
  have HP := Lib.hid hP
  have HPK := Lib.hid hp
  have HSK := Lib.hid hs
  have HB0 : Hid (Below w.heap.size w w) := Lib.hid (Below.refl _ _)
  have HT0 : Hid (twinB P S k 0 = false) := Lib.hid rfl
  clear h hP hp hs
  go_enter Try.func193, Try.ntmps193
  go_wp2_with fail
  go_loopw [8] (fun vi wr => ∃ (t : Nat), t ≤ k ∧ vi = .int .i64 t ∧ Hid (twinB P S k t = false) ∧ Hid (Below w.heap.size w wr)) (fun vi _ => k - (intOf vi).toNat)
  case atStart => exact ⟨0, by omega, rfl, HT0, HB0⟩
  case round =>
    obtain ⟨t, ht, rfl, htw, hb⟩ := hrel
    by_cases htk : t < k
    · have HM2 := Lib.hid (HM.out.below hb.out)
      have d0 := HM2.out.num t htk
      have d1 := HM2.out.par t htk
      have d2 := HM2.out.sec t htk
      have htk2 : (t : Int) < (k : Int) := by omega
      have HS2 : Hid (twinB P S k (t + 1) = (decide (P[t]?.getD 0 = (p : Int)) && decide (S[t]?.getD 0 = (s : Int)))) := Lib.hid (by rw [twinB_succ, htw.out, HPK.out, HSK.out]; rfl)
      have HTW : ∀ b, (decide (P[t]?.getD 0 = (p : Int)) && decide (S[t]?.getD 0 = (s : Int))) = b → Calls Try.prog 173 #[.agg #[.int .i64 t, .pointer (ptA g (P[t]?.getD 0)), .pointer (ptA g (S[t]?.getD 0))], .pointer (some ⟨B, 0, none⟩)] wr fun e w' => e = .returned (.bool b) ∧ Below wr.heap.size wr w' := fun b hb => twin_any HM2.out htk (HP.out t htk).1 (HP.out t htk).2 hb
      have HTW2 := Lib.hid HTW
      clear HTW
      obtain ⟨b, hbb⟩ : ∃ b, (decide (P[t]?.getD 0 = (p : Int)) && decide (S[t]?.getD 0 = (s : Int))) = b := ⟨_, rfl⟩
      have HBB := Lib.hid hbb
      obtain ⟨pa, hpa⟩ : ∃ x, ptA g (P[t]?.getD 0) = x := ⟨_, rfl⟩
      obtain ⟨sa, hsa⟩ : ∃ x, ptA g (S[t]?.getD 0) = x := ⟨_, rfl⟩
      rw [hpa] at d1 HTW2
      rw [hsa] at d2 HTW2
      clear hbb hpa hsa
      go_wp2_with fail
      refine (HTW2.out b HBB.out).mono ?_
      rintro e w1 ⟨rfl, hb1⟩
      have HB1 : Hid (Below w.heap.size w w1) := Lib.hid (hb.out.trans (hb1.mono hb.out.size))
      clear hb1
      cases b
      · have HS3 : Hid (twinB P S k (t + 1) = false) := Lib.hid (by rw [HS2.out, HBB.out])
        go_wp2_with fail
        go_roundw
        case rel => exact ⟨t + 1, by omega, by go_num, HS3, HB1⟩
        case measure => simp [intOf]; omega
      · have HS3 : Hid (twinB P S k k = true) := Lib.hid (by
          have h1 : twinB P S k (t + 1) = true := by rw [HS2.out, HBB.out]
          unfold twinB at h1 ⊢
          rw [List.any_eq_true] at h1 ⊢
          obtain ⟨x, hx, h2⟩ := h1
          exact ⟨x, List.mem_range.2 (by have := List.mem_range.1 hx; omega), h2⟩)
        go_wp2_with fail
        go_ret
        exact ⟨t, rfl, by rw [HS3.out]; simp, by omega, HB1.out⟩
    · obtain rfl : t = k := by omega
      go_wp2_with fail
      go_ret
      exact ⟨-1, rfl, by rw [htw.out]; rfl, by omega, hb.out⟩

set_option maxRecDepth 100000 in
set_option maxHeartbeats 1000000 in
theorem containsF_any (w : World) (g k p s B c : Nat) (P S : List Int) (h : TwM w g k p s B P S) (hk : k ≤ 24) (hp : P[k]?.getD 0 = (p : Int)) (hs : S[k]?.getD 0 = (s : Int)) (hP : ∀ i, i < k → -1 ≤ P[i]?.getD 0 ∧ -1 ≤ S[i]?.getD 0) (b : Bool) (hb : twinB P S k k = b) :
    Calls Try.prog 172 #[.slice (some ⟨g, 0, none⟩) k c, .func (.func 173) #[] #[.pointer (some ⟨B, 0, none⟩)]] w fun e w' => e = .returned (.bool b) ∧ Below w.heap.size w w' := by
  have HC := Lib.hid (indexF_any w g k p s B c P S h hk hp hs hP)
  rw [hb] at HC
  clear h hp hs hP hb
  go_enter Try.func172, Try.ntmps172
  go_wp2_with fail
  refine HC.out.mono ?_
  rintro e w1 ⟨r, rfl, hr, hr1, hb1⟩
  have HB1 := Lib.hid hb1
  clear hb1
  go_wp2_with fail
  go_ret
  exact ⟨rfl, HB1.out⟩
end Go.Proofs.Ytohbgfmjnanlkaa
