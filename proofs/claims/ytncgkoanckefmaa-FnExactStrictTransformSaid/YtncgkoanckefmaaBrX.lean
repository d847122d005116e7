/- A branch of a multiplicity and terms: contract of impl.branchWith; exponents: plain mathematics. Conditions: stated at each theorem. -/
import Derived.Test.YtncgkoanckefmaaBrTi
import Derived.Maps.AppendAt
import Derived.Deep.AppendLies
import Derived.Laws.AppendOwnNone
namespace Go.Proofs.Ytncgkoanckefmaa
open Go.ChangeShapes Go.WideShapes Go.ChangeAt Go.RowKit
set_option linter.unusedVariables false
set_option linter.unusedSimpArgs false

set_option maxHeartbeats 1000000 in
theorem branchWith_any (m : Int) (v : Value) (zs : List Int) (w : World) (h : ReadI w w.heap.size v zs) (hn : zs.length ≤ 1048576) :
    Calls Try.prog 92 #[.int .i64 m, v] w fun e w' => ∃ v', e = .returned (.agg #[v']) ∧ OwnI w' w.heap.size w'.heap.size v' (m :: zs) ∧ Below w.heap.size w w' := by
  obtain ⟨n, A, c, rfl, hr, HL, HN, hnc, HF, hcm⟩ := h.split2
  rw [HL.out] at hn
  have H0 := Lib.hid hr
  clear hr h
  obtain ⟨i0, hi0, hz0, hz1, hz2⟩ := info_parts int_info
  obtain ⟨W1, HE⟩ : ∃ W, W = w.alloc (.cells #[.slice none 0 0] 28) := ⟨_, rfl⟩
  have hb1 : Below w.heap.size w W1 := by rw [HE]; exact below_box _ _
  have hq1 : BoxI W1 w.heap.size (.slice none 0 0) := by rw [HE]; exact BoxI.new _ _ _
  have hf1 : W1.frozen? ⟨w.heap.size, 0, none⟩ = false := by rw [HE]; go_simp
  have hs1 : W1.heap.size = w.heap.size + 1 := by rw [HE]; simp
  have HEQ := Lib.hid HE
  have B1 := Lib.hid hb1
  have Q1 := Lib.hid (And.intro hq1 hf1)
  clear HE hb1 hq1 hf1
  cases A with
  | none =>
    obtain rfl : c = 0 := HN.out rfl
    obtain rfl : n = 0 := by omega
    have Z : zs = [] := List.eq_nil_of_length_eq_zero HL.out
    subst Z
    go_enter Try.func92, Try.ntmps92
    go_wp2_with (at_builtin; refine wpList_append_own_none rfl _ _ 22 rfl (w.heap.size + 1) 2 i0 1 Try.underlying22 hi0 _ 1 [.int .i64 m] rfl (by rw [← HEQ.out, ← hs1]; exact World.ownsRow_lit W1 #[.int .i64 m] 1 (Nat.le_refl _) (by simp [maxLen]) rfl) rfl ?_)
    have ho1 : World.ownsRow ((w.alloc (.cells #[.slice (some ⟨w.heap.size + 1, 0, none⟩) 1 1] 28)).alloc (.cells #[.int .i64 m] 2)) w.heap.size 2 1 (.slice (some ⟨w.heap.size + 1, 0, none⟩) 1 1) 1 [.int .i64 m] := by
      have h1 := World.ownsRow_lit (base := w.heap.size) (w.alloc (.cells #[.slice (some ⟨w.heap.size + 1, 0, none⟩) 1 1] 28)) #[.int .i64 m] 1 (e := 2) (size := 1) (by simp) (by simp [maxLen]) rfl
      simpa using h1
    have cr : ((w.alloc (.cells #[.slice (some ⟨w.heap.size + 1, 0, none⟩) 1 1] 28)).alloc (.cells #[.int .i64 m] 2)).cell? ⟨w.heap.size, 0, none⟩ = some (.slice (some ⟨w.heap.size + 1, 0, none⟩) 1 1) := by go_simp
    refine bodyPost_ret (v := .agg #[.slice (some ⟨w.heap.size + 1, 0, none⟩) 1 1]) (by simp [results, Try.results92, go_sem, cr]) rfl ⟨_, rfl, OwnI.mk' (n := 1) ho1, ((Below.refl _ _).alloc (Nat.le_refl _) _).alloc (by simp) _⟩
  | some a =>
    obtain ⟨g, o, rfl⟩ := HF.out a rfl
    have hcells : ∀ (W : World), Below w.heap.size w W → ∀ j u, (zs.map (Value.int .i64))[j]? = some u → W.cell? ((⟨g, o, none⟩ : Addr).add j) = some u := fun W hW j u hu => by
      have hj : j < n := by
        have := (List.getElem?_eq_some_iff.1 hu).1
        simpa [HL.out] using this
      obtain ⟨a', e, hlt, hc⟩ := H0.out.2 j hj
      cases e
      rw [hW.cell (by rw [add_block]; exact hlt), hc]
      rw [List.getElem?_map] at hu
      have hj' : j < zs.length := by rw [HL.out]; exact hj
      simp only [List.getElem?_eq_getElem hj', Option.map_some, Option.some.injEq] at hu
      rw [← hu]; simp [List.getD, hj']
    have HCS := Lib.hid hcells
    clear hcells
    go_enter Try.func92, Try.ntmps92
    go_wp2_with (at_builtin; refine wpList_append_own _ rfl _ _ 22 rfl (w.heap.size + 1) 2 i0 (.int .i64 0) 1 8 Try.underlying22 hi0 hz0 hz1 hz2 rfl ?_ _ 1 [.int .i64 m] rfl (by rw [← HEQ.out, ← hs1]; exact World.ownsRow_lit W1 #[.int .i64 m] 1 (Nat.le_refl _) (by simp [maxLen]) rfl) ⟨g, o, none⟩ n c (zs.map (.int .i64)) rfl ?_ ?_ ?_ ?_ ?_ ?_ ?_; (decide); (simp [HL.out]); (exact HCS.out _ (((Below.refl _ _).alloc (Nat.le_refl _) _).alloc (by simp) _)); (exact ints_oneCell _ _); (simp only [maxLen]; omega); (omega); (simp); intro v1 w1 hown1 hgrow _; obtain ⟨A1, c1, rfl⟩ := own_form hown1; have hbx : Below (w.heap.size + 1) ((w.alloc (.cells #[.slice none 0 0] 28)).alloc (.cells #[.int .i64 m] 2)) w1 := Below.grown (Below.refl _ _) hgrow (by simp) (fun k hk => by cases hk; exact Nat.le_refl _); (have c3 : w1.cell? ⟨w.heap.size, 0, none⟩ = some (.slice none 0 0) := by (rw [hbx.cell (p := ⟨w.heap.size, 0, none⟩) (Nat.lt_succ_self _)]; go_simp)); (have f3 : w1.frozen? ⟨w.heap.size, 0, none⟩ = false := by (rw [hbx.frozen (p := ⟨w.heap.size, 0, none⟩) (Nat.lt_succ_self _)]; go_simp)); have HB1 := Lib.hid hbx; have HO1 := Lib.hid hown1; clear hbx hown1 hgrow)
    have cr : (w1.setCell ⟨w.heap.size, 0, none⟩ (.slice A1 (1 + n) c1)).cell? ⟨w.heap.size, 0, none⟩ = some (.slice A1 (1 + n) c1) := by go_simp
    have HO2 : Hid (OwnI w1 (w.heap.size + 1) w1.heap.size (.slice A1 (1 + n) c1) (m :: zs)) := Lib.hid (OwnI.mk' (n := 1 + n) HO1.out)
    refine bodyPost_ret (v := .agg #[.slice A1 (1 + n) c1]) (by simp [results, Try.results92, go_sem, cr]) rfl ⟨_, rfl, ?_, ?_⟩
    · have h5 := HO2.out.kept (keptS w1 (p := ⟨w.heap.size, 0, none⟩) (Nat.lt_succ_self _) (.slice A1 (1 + n) c1))
      have h6 := own_lessB h5 (lo' := w.heap.size) (by omega)
      simpa [World.setCell] using h6
    · exact ((((Below.refl _ _).alloc (Nat.le_refl _) _).alloc (by simp) _).trans (HB1.out.mono (by omega))).setCell (Nat.le_refl _) _

/-! ### Exponents -/
/-- The exponents that are no multiples of the divisor before them. -/
def exL (e : Int) : List Int → List Int
  | [] => []
  | z :: zs => if z.tmod e = 0 then exL e zs else z :: exL (Int.gcd e z : Int) zs
theorem exL_len (e : Int) (zs : List Int) : (exL e zs).length ≤ zs.length := by
  induction zs generalizing e with
  | nil => simp [exL]
  | cons z zs ih =>
    unfold exL
    split
    · have := ih e; simp; omega
    · have := ih (Int.gcd e z : Int); simp; omega
theorem exL_mem (e : Int) (zs : List Int) : ∀ z ∈ exL e zs, z ∈ zs := by
  induction zs generalizing e with
  | nil => intro z h; cases h
  | cons y ys ih =>
    intro z h
    unfold exL at h
    split at h
    · exact List.mem_cons_of_mem _ (ih _ z h)
    · rcases List.mem_cons.1 h with rfl | h
      · exact List.mem_cons_self ..
      · exact List.mem_cons_of_mem _ (ih _ z h)
def boOK (n : Int) (zs : List Int) : Bool := mulB n && (decide (zs.length ≤ 64) && ascB 0 zs)
def boA (n : Int) (zs : List Int) : List Int := if boOK n zs then (if brB (n :: exL n zs) then n :: exL n zs else []) else []
def boC (n : Int) (zs : List Int) : Int := if boOK n zs then (if brB (n :: exL n zs) then 0 else 5) else 2
theorem bo_no {n : Int} {zs : List Int} (h : boOK n zs = false) : boA n zs = [] ∧ boC n zs = 2 := by simp [boA, boC, h]
theorem bo_none {n : Int} {zs : List Int} (h : boOK n zs = true) (h2 : brB (n :: exL n zs) = false) : boA n zs = [] ∧ boC n zs = 5 := by simp [boA, boC, h, h2]
theorem bo_yes {n : Int} {zs : List Int} (h : boOK n zs = true) (h2 : brB (n :: exL n zs) = true) : boA n zs = n :: exL n zs ∧ boC n zs = 0 := by simp [boA, boC, h, h2]
theorem boA_len (n : Int) (zs : List Int) (h : zs.length ≤ 1048576) : (boA n zs).length ≤ 1099511627776 := by
  have := exL_len n zs
  unfold boA; split
  · split
    · simp; omega
    · simp
  · simp
theorem asc_step {p z : Int} {r : List Int} : ascB p (z :: r) = (decide (p < z ∧ z ≤ 2000) && ascB z r) := rfl
theorem asc_no {p z : Int} {r : List Int} (h : ¬(p < z ∧ z ≤ 2000)) : ascB p (z :: r) = false := by rw [asc_step]; simp [h]
theorem asc_yes {p z : Int} {r : List Int} (h : p < z ∧ z ≤ 2000) : ascB p (z :: r) = ascB z r := by rw [asc_step]; simp [h]
theorem ex_yes {e z : Int} {zs : List Int} (h : z.tmod e = 0) : exL e (z :: zs) = exL e zs := by rw [exL, if_pos h]
theorem ex_no {e z : Int} {zs : List Int} (h : ¬ z.tmod e = 0) : exL e (z :: zs) = z :: exL (Int.gcd e z : Int) zs := by rw [exL, if_neg h]
theorem boOK_yes {n : Int} {zs : List Int} (h : boOK n zs = true) : (1 ≤ n ∧ n ≤ 64) ∧ zs.length ≤ 64 ∧ ascB 0 zs = true := by
  simp only [boOK, Bool.and_eq_true, decide_eq_true_eq] at h; exact ⟨mulB_true.1 h.1, h.2.1, h.2.2⟩
theorem boOK_no1 {n : Int} {zs : List Int} (h : mulB n = false) : boOK n zs = false := by simp [boOK, h]
theorem boOK_no2 {n : Int} {zs : List Int} (h : ¬ zs.length ≤ 64) : boOK n zs = false := by simp only [boOK]; rw [decide_eq_false h]; simp
theorem boOK_no3 {n : Int} {zs : List Int} (h : ascB 0 zs = false) : boOK n zs = false := by simp [boOK, h]
theorem ex_range {e : Int} {zs : List Int} (h : ascB 0 zs = true) : ∀ z ∈ exL e zs, 1 ≤ z ∧ z ≤ 2000 := fun z hz => by
  have := ascB_all h z (exL_mem e zs z hz); omega
theorem i64_wf {z : Int} (h1 : -9223372036854775808 ≤ z) (h2 : z ≤ 9223372036854775807) : (Lit.int .i64 z).wf = true := by
  have e1 : IntKind.i64.min = -9223372036854775808 := by rfl
  have e2 : IntKind.i64.max = 9223372036854775807 := by rfl
  simp only [Lit.wf, e1, e2, decide_eq_true h1, decide_eq_true h2, Bool.and_self]

/-! ### Turned characteristics -/
def tuB : List Int → Bool
  | n :: b :: r => decide (b < n) && dcB (n :: b :: r)
  | _ => false
def tuL : List Int → List Int
  | n :: b :: r => b :: ((if n.tmod b = 0 then [] else [n]) ++ r.map fun z => z + n - b)
  | _ => []
def tuA (zs : List Int) : List Int := if tuB zs then (if brB (tuL zs) then tuL zs else []) else []
def tuC (zs : List Int) : Int := if tuB zs then (if brB (tuL zs) then 0 else 5) else 2
theorem tu_no {zs : List Int} (h : tuB zs = false) : tuA zs = [] ∧ tuC zs = 2 := by simp [tuA, tuC, h]
theorem tu_none {zs : List Int} (h : tuB zs = true) (h2 : brB (tuL zs) = false) : tuA zs = [] ∧ tuC zs = 5 := by simp [tuA, tuC, h, h2]
theorem tu_yes {zs : List Int} (h : tuB zs = true) (h2 : brB (tuL zs) = true) : tuA zs = tuL zs ∧ tuC zs = 0 := by simp [tuA, tuC, h, h2]
theorem tuL_len (zs : List Int) : (tuL zs).length ≤ zs.length := by
  match zs with
  | [] => simp [tuL]
  | [a] => simp [tuL]
  | n :: b :: r => simp only [tuL]; split <;> simp <;> omega
theorem tuA_len {zs : List Int} (h : zs.length ≤ 1048576) : (tuA zs).length ≤ 1099511627776 := by
  have := tuL_len zs
  unfold tuA; split
  · split
    · omega
    · simp
  · simp
/-- Of a turned characteristic with 1 ≤ b < n ≤ 64 the test is that of a branch behind b. -/
theorem tuB_isB {n b : Int} {r : List Int} (hb : 1 ≤ b) (hbn : b < n) (hn : n ≤ 64) : tuB (n :: b :: r) = isB b (Int.gcd n b : Int) r := by
  have h1 : mulB n = true := mulB_true.2 (by omega)
  have h2 := gcd_le (e := n) (z := b) hb
  have h3 : (Int.gcd n b : Int) ≠ n := by omega
  have h4 : (0 < b ∧ b ≤ 2000) := by omega
  simp only [tuB, dcB, h1, hbn, decide_true, Bool.true_and, ascB, desB, isB_split]
  simp [h3, h4]
theorem tuB_no {n b : Int} {r : List Int} (h : ¬((2 ≤ n ∧ n ≤ 64) ∧ (1 ≤ b ∧ b ≤ n - 1))) : tuB (n :: b :: r) = false := by
  by_cases h0 : b < n
  · simp only [tuB, dcB, mulB, ascB]
    have : ¬((1 ≤ n ∧ n ≤ 64) ∧ (0 < b ∧ b ≤ 2000)) := by omega
    by_cases h1 : (1 ≤ n ∧ n ≤ 64)
    · have h2 : ¬ (0 < b ∧ b ≤ 2000) := fun h => this ⟨h1, h⟩
      simp [h2]
    · simp [h1]
  · simp [tuB, h0]
theorem tuB_short {zs : List Int} (h : zs.length < 2) : tuB zs = false := by
  match zs with
  | [] => rfl
  | [a] => rfl
  | n :: b :: r => simp at h; omega
end Go.Proofs.Ytncgkoanckefmaa
