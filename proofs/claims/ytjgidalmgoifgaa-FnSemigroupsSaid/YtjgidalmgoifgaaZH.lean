/- ZH: GbM GbI GbS. Conditions: stated at each theorem. -/
import Derived.Test.YtjgidalmgoifgaaZF
import Derived.Test.YtjgidalmgoifgaaZB
import Derived.Test.YtjgidalmgoifgaaZA
import Derived.RangeFuncNested
import Derived.Deep.DeepCutAuto
/- Branches of generators: plain mathematics. Conditions: stated at each theorem. -/
namespace Go.Proofs.Ytjgidalmgoifgaa
set_option linter.unusedVariables false

/-- The terms behind the divisor e and the shift s. -/
def tgL (e s : Int) : List Int → List Int
  | [] => []
  | z :: zs => (z - s) :: tgL (Int.gcd e z : Int) (e.tdiv (Int.gcd e z : Int) * z - (z - s)) zs
def tgB (zs : List Int) : List Int := tgL (zs[0]?.getD 0) 0 zs
theorem tgL_len (e s : Int) (zs : List Int) : (tgL e s zs).length = zs.length := by
  induction zs generalizing e s with
  | nil => rfl
  | cons z zs ih => simp [tgL, ih]
theorem tgB_len (zs : List Int) : (tgB zs).length = zs.length := tgL_len _ _ _
def agL : List Int → Bool
  | [] => true
  | z :: zs => decide (1 ≤ z ∧ z ≤ 1000000) && agL zs
def ogB (zs : List Int) : Bool := decide (1 ≤ zs.length ∧ zs.length ≤ 8) && agL zs
def bgA (zs : List Int) : List Int := if ogB zs then (if brB (tgB zs) then tgB zs else []) else []
def bgC (zs : List Int) : Int := if ogB zs then (if brB (tgB zs) then 0 else 5) else 2
theorem bg_no {zs : List Int} (h : ogB zs = false) : bgA zs = [] ∧ bgC zs = 2 := by simp [bgA, bgC, h]
theorem bg_none {zs : List Int} (h : ogB zs = true) (h2 : brB (tgB zs) = false) : bgA zs = [] ∧ bgC zs = 5 := by simp [bgA, bgC, h, h2]
theorem bg_yes {zs : List Int} (h : ogB zs = true) (h2 : brB (tgB zs) = true) : bgA zs = tgB zs ∧ bgC zs = 0 := by simp [bgA, bgC, h, h2]
theorem bgA_len {zs : List Int} (h : zs.length ≤ 1048576) : (bgA zs).length ≤ 1099511627776 := by
  unfold bgA
  split
  · split
    · rw [tgB_len]; omega
    · simp
  · simp
theorem agL_all {zs : List Int} (h : agL zs = true) : ∀ z ∈ zs, 1 ≤ z ∧ z ≤ 1000000 := by
  induction zs with
  | nil => intro z hz; cases hz
  | cons y ys ih =>
    simp only [agL, Bool.and_eq_true, decide_eq_true_eq] at h
    intro z hz
    rcases List.mem_cons.1 hz with rfl | hz
    · exact h.1
    · exact ih h.2 z hz
theorem ogB_yes {zs : List Int} (h : ogB zs = true) : (1 ≤ zs.length ∧ zs.length ≤ 8) ∧ agL zs = true := by
  simpa only [ogB, Bool.and_eq_true, decide_eq_true_eq] using h
/-- What is known of the divisor and of the shift, k rounds on. -/
def TSt (e s : Int) (k : Nat) : Prop := (1 ≤ e ∧ e ≤ 1000000) ∧ -(1000000000000 * (k : Int)) ≤ s ∧ s ≤ 1000000000000 * (k : Int)
theorem TSt.step {e s z : Int} {k : Nat} (h : TSt e s k) (hz : 1 ≤ z ∧ z ≤ 1000000) : TSt (Int.gcd e z : Int) (e.tdiv (Int.gcd e z : Int) * z - (z - s)) (k + 1) ∧ (1 ≤ e.tdiv (Int.gcd e z : Int) ∧ e.tdiv (Int.gcd e z : Int) ≤ 1000000) ∧ (0 ≤ e.tdiv (Int.gcd e z : Int) * z ∧ e.tdiv (Int.gcd e z : Int) * z ≤ 1000000000000) := by
  obtain ⟨he, hs1, hs2⟩ := h
  have hg := gcd_le_left (e := e) (z := z) he.1
  have hm := tdiv_mul_of_dvd (Int.gcd_dvd_left e z)
  generalize (Int.gcd e z : Int) = g at *
  have hq := tdiv_le (z := e) (e := g) (B := 1000000) (by omega) hg.1
  generalize e.tdiv g = q at *
  have hq1 : 1 ≤ q := by
    by_cases h : 1 ≤ q
    · exact h
    · have h1 : q ≤ 0 := by omega
      have : q * g ≤ 0 * g := Int.mul_le_mul_of_nonneg_right h1 (by omega)
      omega
  have h1 := mul_range (A := 1000000) (B := 1000000) (a := q) (b := z) hq (by omega)
  have h2 : 1 * z ≤ q * z := Int.mul_le_mul_of_nonneg_right hq1 (by omega)
  refine ⟨⟨by omega, ?_, ?_⟩, by omega, by omega⟩ <;> push_cast <;> omega
theorem tg_step {zs L : List Int} {n k : Nat} {e s : Int} (hl : zs.length = n) (hk : k < n) (h : tgB zs = L ++ tgL e s (zs.drop k)) :
    tgB zs = (L ++ [(zs[k]?.getD 0) - s]) ++ tgL (Int.gcd e (zs[k]?.getD 0) : Int) (e.tdiv (Int.gcd e (zs[k]?.getD 0) : Int) * (zs[k]?.getD 0) - ((zs[k]?.getD 0) - s)) (zs.drop (k + 1)) := by
  rw [h, drop_at hl hk]; simp [tgL]
theorem tg_end {zs L : List Int} {n : Nat} {e s : Int} (hl : zs.length = n) (h : tgB zs = L ++ tgL e s (zs.drop n)) : L = tgB zs := by
  rw [h, drop_end hl (Nat.le_refl _)]; simp [tgL]
theorem tgL_all {zs : List Int} : ∀ {e s : Int} {k : Nat}, TSt e s k → agL zs = true → ∀ x ∈ tgL e s zs, -(1000000000000 * ((k : Int) + (zs.length : Int))) ≤ x ∧ x ≤ 1000000 + 1000000000000 * ((k : Int) + (zs.length : Int)) := by
  induction zs with
  | nil => intro e s k _ _ x hx; cases hx
  | cons z zs ih =>
    intro e s k h ha x hx
    simp only [agL, Bool.and_eq_true, decide_eq_true_eq] at ha
    have h1 := (h.step ha.1).1
    rw [List.length_cons]
    rcases List.mem_cons.1 hx with rfl | hx
    · have h2 := h.2.1; have h3 := h.2.2; push_cast; omega
    · have := ih h1 ha.2 x hx; push_cast at this ⊢; omega
theorem tgB_wf {zs : List Int} (h : ogB zs = true) : ∀ x ∈ tgB zs, (Lit.int .i64 x).wf = true := fun x hx => by
  have h1 := ogB_yes h
  cases zs with
  | nil => cases hx
  | cons z r =>
    have hz := agL_all h1.2 z (List.mem_cons_self ..)
    have h2 := tgL_all (e := z) (s := 0) (k := 0) ⟨hz, by omega, by omega⟩ h1.2 x (by simpa [tgB] using hx)
    have h3 := h1.1.2
    rw [List.length_cons] at h2 h3
    exact i64_wf (by push_cast at h2; omega) (by push_cast at h2; omega)
theorem ag_no {z : Int} {r : List Int} (h : ¬(1 ≤ z ∧ z ≤ 1000000)) : agL (z :: r) = false := by simp only [agL]; rw [decide_eq_false h]; rfl
theorem ag_yes {z : Int} {r : List Int} (h : 1 ≤ z ∧ z ≤ 1000000) : agL (z :: r) = agL r := by simp only [agL]; rw [decide_eq_true h]; rfl
end Go.Proofs.Ytjgidalmgoifgaa
/- BranchOfGenerators, the program's: contract. Conditions: stated at each theorem. -/
namespace Go.Proofs.Ytjgidalmgoifgaa
open Go.ChangeShapes Go.WideShapes Go.ChangeAt Go.RowKit
set_option linter.unusedVariables false
set_option linter.unusedSimpArgs false

theorem areGen_any (A : Option Addr) (n c : Nat) (zs : List Int) (w : World) (B : Nat) (hr : RI w B A n zs) (hl : zs.length = n) (hn : n ≤ 9223372036854775807) (hw : ∀ z ∈ zs, (Lit.int .i64 z).wf = true) :
    Calls Try.prog 102 #[.slice A n c] w fun e w' => e = .returned (.bool (ogB zs)) ∧ w = w' := by
  have HW := Lib.hid hw
  have H0 := Lib.hid hr
  have HL := Lib.hid hl
  clear hr hl hw
  by_cases h0 : n = 0
  · have E : Hid (ogB zs = false) := Lib.hid (by have := HL.out; simp [ogB, this, h0])
    subst h0
    go_enter Try.func102, Try.ntmps102
    go_wp2
    go_ret
    exact ⟨by rw [E.out]; rfl, rfl⟩
  by_cases h8 : 8 < n
  · have E : Hid (ogB zs = false) := Lib.hid (by have := HL.out; have h9 : ¬ (1 ≤ zs.length ∧ zs.length ≤ 8) := by omega
                                                 unfold ogB; rw [decide_eq_false h9]; rfl)
    have g1 : ((n : Int) == 0) = false := by simp; omega
    have g2 : (8 : Int) < (n : Int) := by omega
    have g3 : ¬ (n : Int) = 0 := by omega
    go_enter Try.func102, Try.ntmps102
    go_wp2
    go_ret
    exact ⟨by rw [E.out]; rfl, rfl⟩
  have E : Hid (ogB zs = agL zs) := Lib.hid (by have := HL.out; have h9 : (1 ≤ zs.length ∧ zs.length ≤ 8) := by omega
                                                unfold ogB; rw [decide_eq_true h9]; rfl)
  have g1 : ((n : Int) == 0) = false := by simp; omega
  have g2 : ¬ (8 : Int) < (n : Int) := by omega
  have g3 : ¬ (n : Int) = 0 := by omega
  go_enter Try.func102, Try.ntmps102
  go_wp2
  go_loop [15] (fun vi => ∃ k : Nat, k ≤ n ∧ vi = .int .i64 k ∧ Hid (agL zs = agL (zs.drop k))) (fun vi => n - (intOf vi).toNat)
  case atStart => exact ⟨0, by omega, rfl, Lib.hid (by simp)⟩
  case round =>
    obtain ⟨k, hk, rfl, hg⟩ := hrel
    by_cases hlt : k < n
    · obtain ⟨a, rfl, hal, hcell0⟩ := H0.out.2 k hlt
      have HD := Lib.hid (drop_at HL.out hlt)
      have hcell : w.cell? (a.add k) = some (.int .i64 (zs[k]?.getD 0)) := by simpa using hcell0
      generalize zs[k]?.getD 0 = z at *
      have hin : (k : Int) < (n : Int) := by omega
      clear hcell0
      by_cases h1 : 1 ≤ z
      · by_cases h2 : z ≤ 1000000
        · have HG : Hid (agL zs = agL (zs.drop (k + 1))) := Lib.hid (by rw [hg.out, HD.out, ag_yes ⟨h1, h2⟩])
          have t1 : ¬ z < 1 := by omega
          have t2 : ¬ 1000000 < z := by omega
          go_wp2
          go_round
          case rel => exact ⟨k + 1, by omega, by go_num, HG⟩
          case measure => simp [intOf]; omega
        · have HF : Hid (ogB zs = false) := Lib.hid (by rw [E.out, hg.out, HD.out, ag_no (by omega)])
          have t1 : ¬ z < 1 := by omega
          have t2 : 1000000 < z := by omega
          go_wp2
          go_ret
          exact ⟨by rw [HF.out]; rfl, rfl⟩
      · have HF : Hid (ogB zs = false) := Lib.hid (by rw [E.out, hg.out, HD.out, ag_no (by omega)])
        have t1 : z < 1 := by omega
        go_wp2
        go_ret
        exact ⟨by rw [HF.out]; rfl, rfl⟩
    · obtain rfl : k = n := by omega
      have HF : Hid (ogB zs = true) := Lib.hid (by rw [E.out, hg.out, drop_end HL.out (Nat.le_refl _)]; rfl)
      go_wp2
      go_ret
      exact ⟨by rw [HF.out]; rfl, rfl⟩
theorem areGen_if (A : Option Addr) (n c : Nat) (zs : List Int) (w : World) (B : Nat) (b : Bool) (hr : RI w B A n zs) (hl : zs.length = n) (hn : n ≤ 9223372036854775807) (hw : ∀ z ∈ zs, (Lit.int .i64 z).wf = true) (hb : ogB zs = b) :
    Calls Try.prog 102 #[.slice A n c] w fun e w' => e = .returned (.bool b) ∧ w = w' := by
  subst hb; exact areGen_any A n c zs w B hr hl hn hw

set_option maxRecDepth 100000 in
set_option maxHeartbeats 2000000 in
theorem implBranchOfGenerators_any (v : Value) (zs : List Int) (w : World) (h : ReadI w w.heap.size v zs) (hn : zs.length ≤ 1048576) (hw : ∀ z ∈ zs, (Lit.int .i64 z).wf = true) :
    Calls Try.prog 43 #[v] w (AnsRC w (bgA zs) (bgC zs)) := by
  obtain ⟨n, A, c, rfl, hr, HL, HN, hnc, HF, hcm⟩ := h.split2
  rw [HL.out] at hn
  obtain ⟨W0, HE⟩ : ∃ W, W = w.alloc (.cells #[.slice none 0 0] 26) := ⟨_, rfl⟩
  have hS0 : Start1 w W0 := by rw [HE]; exact Start1.new _
  have hb0 := hS0.below
  have H0 := Lib.hid (hr.below hb0)
  have S0 := Lib.hid hS0
  have HW := Lib.hid hw
  have HEQ := Lib.hid HE
  rcases bool_fs (ogB zs) with hok | hok
  · have E := Lib.hid (bg_no hok)
    have OK := Lib.hid hok
    clear h hr hb0 hS0 hw HE hok
    go_enter Try.func43, Try.ntmps43
    go_wp2_with fail
    rw [← HEQ.out]
    obtain ⟨l2, l3, l4⟩ := S0.out.later (Below.refl _ _)
    refine (areGen_if _ _ _ zs _ _ false H0.out HL.out (by omega) HW.out OK.out).mono ?_
    rintro e w1 ⟨rfl, rfl⟩
    go_wp2_with fail
    have cr : (W0.setCell ⟨w.heap.size, 0, none⟩ (.slice none 0 0)).cell? ⟨w.heap.size, 0, none⟩ = some (.slice none 0 0) := by go_simp
    refine bodyPost_ret (v := .tuple #[.agg #[.slice none 0 0], .int .i64 2]) (by simp [results, Try.results43, go_sem, cr]) rfl ?_
    exact ansR_endG _ (Nat.le_refl _) E.out.1.symm E.out.2.symm (OwnI.nil _ _) (by intro h; cases h) S0.out.below _
  have OK := Lib.hid hok
  have hog := ogB_yes hok
  have hn8 : 1 ≤ n ∧ n ≤ 8 := by have := HL.out; omega
  have HZ := Lib.hid (agL_all hog.2)
  have HWL := Lib.hid (tgB_wf hok)
  have hn0 : 0 < n := by omega
  obtain ⟨a, rfl, hlt0, hc0⟩ := hr.2 0 hn0
  obtain ⟨g, o, rfl⟩ := HF.out a rfl
  have hgw : g < w.heap.size := hlt0
  have hcw : W0.cell? ⟨g, o, none⟩ = some (.int .i64 (zs[0]?.getD 0)) := by
    have h2 : (⟨g, o, none⟩ : Addr).add 0 = ⟨g, o, none⟩ := by rw [add_lit]; rfl
    rw [h2] at hc0
    rw [hb0.cell (p := ⟨g, o, none⟩) hgw]; simpa using hc0
  have hmk := fun (W : World) => run_make_row' (P := Try.prog) 24 2 (.int .i64 0) 8 Try.underlying24 int_info rfl .i64 .i64 n (by omega) (by omega) W
  have hz0 := HZ.out (zs[0]?.getD 0) (by have := HL.out; simp [show 0 < zs.length by omega])
  have HEQ0 : Hid (tgB zs = [] ++ tgL (zs[0]?.getD 0) 0 (zs.drop 0)) := Lib.hid (by simp [tgB])
  have HT0 : Hid (TSt (zs[0]?.getD 0) 0 0) := Lib.hid ⟨hz0, by omega, by omega⟩
  obtain ⟨z0, hz00⟩ : ∃ z, zs[0]?.getD 0 = z := ⟨_, rfl⟩
  rw [hz00] at hcw hz0 HEQ0 HT0
  have HS0 := Lib.hid hS0.size
  have hs0' : w.heap.size + 1 ≤ W0.heap.size := by rw [hS0.size]; exact Nat.le_refl _
  have hgW0 : g < W0.heap.size := by omega
  clear hz00 h hr hc0 hlt0 hok hog hw HE hb0 hS0
  go_enter Try.func43, Try.ntmps43
  go_wp2_with fail
  rw [← HEQ.out]
  obtain ⟨l2, l3, l4⟩ := S0.out.later (Below.refl _ _)
  refine (areGen_if _ _ _ zs _ _ true H0.out HL.out (by omega) HW.out OK.out).mono ?_
  rintro e w1 ⟨rfl, rfl⟩
  go_wp2_with (go_at_call 103; refine (shifts_any _ _).mono ?_; rintro e' w' ⟨rfl, rfl⟩)
  clear hmk l2 l3 l4
  have hb1 : Below W0.heap.size W0 ((W0.alloc (.cells (madeCells #[.int .i64 0] n) 2)).alloc (.cells #[.int .i64 z0] 2)) := ((Below.refl _ _).alloc (Nat.le_refl _) _).alloc (by simp) _
  have hrow1 : World.rowIs ((W0.alloc (.cells (madeCells #[.int .i64 0] n) 2)).alloc (.cells #[.int .i64 z0] 2)) W0.heap.size 2 n (fun x => if x < 0 then .int .i64 ((tgB zs).getD x 0) else .int .i64 0) := ((World.rowIs_made _ _ n _).alloc _).congr (fun i hi => by simp)
  have hc1 : World.cell? ((W0.alloc (.cells (madeCells #[.int .i64 0] n) 2)).alloc (.cells #[.int .i64 z0] 2)) ⟨W0.heap.size + 1, 0, none⟩ = some (.int .i64 z0) ∧ World.frozen? ((W0.alloc (.cells (madeCells #[.int .i64 0] n) 2)).alloc (.cells #[.int .i64 z0] 2)) ⟨W0.heap.size + 1, 0, none⟩ = false := by constructor <;> go_simp
  have hs1 : Array.size (World.heap ((W0.alloc (.cells (madeCells #[.int .i64 0] n) 2)).alloc (.cells #[.int .i64 z0] 2))) = W0.heap.size + 2 := by simp
  generalize (W0.alloc (.cells (madeCells #[.int .i64 0] n) 2)).alloc (.cells #[.int .i64 z0] 2) = W1 at *
  go_loopw [6, 23] (fun vs vi wr => ∃ (k : Nat) (e s : Int) (L : List Int), k ≤ n ∧ TSt e s k ∧ vs = .int .i64 s ∧ vi = .int .i64 k ∧ Hid (L.length = k) ∧ Hid (tgB zs = L ++ tgL e s (zs.drop k)) ∧ Hid (wr.rowIs W0.heap.size 2 n (fun x => if x < k then .int .i64 ((tgB zs).getD x 0) else .int .i64 0)) ∧ (wr.cell? ⟨W0.heap.size + 1, 0, none⟩ = some (.int .i64 e) ∧ wr.frozen? ⟨W0.heap.size + 1, 0, none⟩ = false) ∧ W0.heap.size + 2 ≤ wr.heap.size ∧ Hid (Below W0.heap.size W0 wr)) (fun _ vi _ => n - (intOf vi).toNat)
  case atStart => exact ⟨0, z0, 0, [], by omega, HT0.out, rfl, rfl, Lib.hid rfl, HEQ0, Lib.hid hrow1, hc1, by omega, Lib.hid hb1⟩
  case round =>
    obtain ⟨k, e, s, L, hk, hst, rfl, rfl, hL, hg, hrow, ⟨hcc, hcf⟩, hsz, hb⟩ := hrel
    by_cases hlt : k < n
    · obtain ⟨a, e1, hab, hcell0⟩ := H0.out.2 k hlt
      cases e1
      rw [add_lit] at hcell0
      have hcell1 : wr.cell? ⟨g, o + k, none⟩ = some (.int .i64 (zs[k]?.getD 0)) := by rw [hb.out.cell (p := ⟨g, o + k, none⟩) (by show g < _; omega)]; simpa using hcell0
      have hzk := HZ.out (zs[k]?.getD 0) (by have := HL.out; simp [show k < zs.length by omega])
      have HG := Lib.hid (tg_step HL.out hlt hg.out)
      obtain ⟨z, hzz⟩ : ∃ z, zs[k]?.getD 0 = z := ⟨_, rfl⟩
      rw [hzz] at hcell1 hzk HG
      clear hzz hcell0 hg
      have hst' := hst.step hzk
      have HST := Lib.hid hst'.1
      have hs1 := hst.2.1
      have hs2 := hst.2.2
      have he := hst.1
      have HD : Hid ((tgB zs).getD k 0 = z - s) := Lib.hid (by have := hL.out; subst this; rw [HG.out]; simp)
      have hdst := hrow.out.cell hlt
      simp only [Nat.lt_irrefl, if_false] at hdst
      have hfz := hrow.out.frozen k
      have p1 : IntKind.i64.wrap (z - s) = z - s := IntWalk.i64_in _ (by omega)
      have h5 : (k : Int) < (n : Int) := by omega
      have h6 : (0 : Int) ≤ (k : Int) := by omega
      have hne : W0.heap.size + 1 ≠ W0.heap.size := by omega
      have ht1 : -1000000000000000 ≤ z - s ∧ z - s ≤ 1000000000000000 := by omega
      have hg1 : 1 ≤ z ∧ z ≤ 1000000 := hzk
      have he1 : 1 ≤ e ∧ e ≤ 1000000 := he
      have HSH := Lib.hid (fun (W : World) (hc : W.cell? ⟨W0.heap.size + 1, 0, none⟩ = some (.int .i64 e)) (hf : W.frozen? ⟨W0.heap.size + 1, 0, none⟩ = false) => shift1_any z (z - s) e (W0.heap.size + 1) W hc hf he1 hg1 ht1)
      obtain ⟨t, ht⟩ : ∃ t, z - s = t := ⟨_, rfl⟩
      rw [ht] at HG HST HD HSH
      have p1' : IntKind.i64.wrap (z - s) = t := by rw [p1, ht]
      clear p1 ht
      clear hst hst' ht1 hs1 hs2 he hzk
      go_wp2_with (go_at_call 124; go_loud (refine (HSH.out _ (by go_simp) (by go_simp)).mono ?_); rintro e' w' ⟨rfl, nd, rfl⟩)
      go_roundw
      case rel =>
        have hb2 := Lib.hid (((below_drewN hb.out nd).setCell (p := ⟨W0.heap.size, k, none⟩) (Nat.le_refl _) (.int .i64 t)).setCell (p := ⟨W0.heap.size + 1, 0, none⟩) (show W0.heap.size ≤ W0.heap.size + 1 by omega) (.int .i64 (Int.gcd e z : Int)))
        have hrow2 : World.rowIs (wr.setCell ⟨W0.heap.size, k, none⟩ (.int .i64 t)) W0.heap.size 2 n (fun x => if x < k + 1 then .int .i64 ((tgB zs).getD x 0) else .int .i64 0) := (hrow.out.set k _).congr fun j hj => by
          by_cases h1 : j = k
          · subst h1; simp only [if_true, show j < j + 1 by omega]; rw [HD.out]
          · by_cases h2 : j < k
            · simp only [h1, h2, if_false, if_true, show j < k + 1 by omega]
            · simp only [h1, h2, if_false, show ¬ j < k + 1 by omega]
        have hrow3 := Lib.hid (rowIs_other hrow2 (drewN_heap (wr.setCell ⟨W0.heap.size, k, none⟩ (.int .i64 t)) nd) hne (.int .i64 (Int.gcd e z : Int)))
        refine ⟨k + 1, _, _, L ++ [t], by omega, HST.out, rfl, by go_num, Lib.hid (by simp [hL.out]), HG, hrow3, ⟨by go_simp, by go_simp⟩, by simp [World.setCell]; omega, hb2⟩
      case measure => simp [intOf]; omega
    · obtain rfl : k = n := by omega
      have HNL : Hid ((tgB zs).length = k) := Lib.hid (by rw [tgB_len, HL.out])
      have hown := row_ownB hrow.out HNL.out (Nat.le_refl _) (by omega)
      obtain ⟨W4, HE4⟩ : ∃ W, W = wr.alloc (.cells #[.slice (some ⟨W0.heap.size, 0, none⟩) k k] 26) := ⟨_, rfl⟩
      have hb5 : Below wr.heap.size wr W4 := by rw [HE4]; exact below_box _ _
      have hq5 : BoxI W4 wr.heap.size (.slice (some ⟨W0.heap.size, 0, none⟩) k k) := by rw [HE4]; exact BoxI.new _ _ _
      have HE4' := Lib.hid HE4
      have hq50 := hq5.1
      have hlt5 := hq5.2
      have hs5 := hb5.size
      have B5 := Lib.hid (hb.out.trans (hb5.mono (by omega)))
      have hown5 := hown.kept (Kept.of_below hb5 (Nat.le_refl _))
      have O5 := Lib.hid hown5
      have R5 : Hid (ReadI W4 W4.heap.size (.slice (some ⟨W0.heap.size, 0, none⟩) k k) (tgB zs)) := Lib.hid hown5.reads
      clear hown hown5 hb5 hq5 HE4
      go_wp2_with fail
      rw [← HE4'.out]
      cases hp : brB (tgB zs)
      · have E := Lib.hid (bg_none OK.out hp)
        refine (implIsBranch_if _ (tgB zs) W4 false R5.out (by rw [HNL.out]; omega) HWL.out hp).mono ?_
        rintro e w6 ⟨rfl, hb6⟩
        obtain ⟨l2, l3, l4⟩ := S0.out.later (B5.out.trans (hb6.mono (by omega)))
        have B6 := Lib.hid (S0.out.below.trans ((B5.out.trans (hb6.mono (by omega))).mono (by omega)))
        clear hb6 hp
        go_wp2_with fail
        have cr : (w6.setCell ⟨w.heap.size, 0, none⟩ (.slice none 0 0)).cell? ⟨w.heap.size, 0, none⟩ = some (.slice none 0 0) := by go_simp
        refine bodyPost_ret (v := .tuple #[.agg #[.slice none 0 0], .int .i64 5]) (by simp [results, Try.results43, go_sem, cr]) rfl ?_
        exact ansR_endG _ (Nat.le_refl _) E.out.1.symm E.out.2.symm (OwnI.nil _ _) (by intro h; cases h) B6.out _
      · have E := Lib.hid (bg_yes OK.out hp)
        refine (implIsBranch_if _ (tgB zs) W4 true R5.out (by rw [HNL.out]; omega) HWL.out hp).mono ?_
        rintro e w6 ⟨rfl, hb6⟩
        obtain ⟨l2, l3, l4⟩ := S0.out.later (B5.out.trans (hb6.mono (by omega)))
        have B6 := Lib.hid (S0.out.below.trans ((B5.out.trans (hb6.mono (by omega))).mono (by omega)))
        have hc6 : w6.cell? ⟨wr.heap.size, 0, none⟩ = some (.slice (some ⟨W0.heap.size, 0, none⟩) k k) := by rw [hb6.cell (p := ⟨wr.heap.size, 0, none⟩) hlt5]; exact hq50
        have hs6 := hb6.size
        have O6 := Lib.hid (O5.out.kept (Kept.of_below hb6 (by omega)))
        clear hb6 hp
        go_wp2_with fail
        have cr : (w6.setCell ⟨w.heap.size, 0, none⟩ (.slice (some ⟨W0.heap.size, 0, none⟩) k k)).cell? ⟨w.heap.size, 0, none⟩ = some (.slice (some ⟨W0.heap.size, 0, none⟩) k k) := by go_simp
        refine bodyPost_ret (v := .tuple #[.agg #[.slice (some ⟨W0.heap.size, 0, none⟩) k k], .int .i64 0]) (by simp [results, Try.results43, go_sem, cr]) rfl ?_
        have hne2 : (Value.slice (some ⟨W0.heap.size, 0, none⟩) k k).ownBlock ≠ some w.heap.size := by simp [Value.ownBlock]; omega
        exact ansR_endG _ (Nat.le_refl _) (by rw [E.out.1]) E.out.2.symm ((own_lessB O6.out (by omega)).raise (by omega) (Nat.le_refl _)) hne2 B6.out _
end Go.Proofs.Ytjgidalmgoifgaa
/- BranchOfGenerators, the model's: contract. Conditions: stated at each theorem. -/
namespace Go.Proofs.Ytjgidalmgoifgaa
open Go.ChangeShapes Go.WideShapes Go.ChangeAt Go.RowKit Go.Deep
set_option linter.unusedVariables false
set_option linter.unusedSimpArgs false

def SameW (a b : World) : Prop := a = b
theorem SameW.refl (a : World) : SameW a a := rfl
theorem Boxed.newH (W : World) {H : Nat} {t : TypeId} {v : Value} (h : W.heap.size = H) : Boxed (W.alloc (.cells #[v] t)) H t v := by subst h; exact Boxed.new W t v
theorem Boxed.otherH {W : World} {B B' : Nat} {t : TypeId} {v : Value} (h : Boxed W B t v) (hne : B ≠ B') (u : Value) : Boxed (W.setCell ⟨B', 0, none⟩ u) B t v := h.other hne u
theorem cell_other {W : World} {g o b : Nat} (h : g ≠ b) (u : Value) : (W.setCell ⟨b, 0, none⟩ u).cell? ⟨g, o, none⟩ = W.cell? ⟨g, o, none⟩ := by
  unfold World.cell?
  rw [Below.heap_setCell W ⟨b, 0, none⟩ u g h]
theorem keptS' {lo hi : Nat} (w : World) {p : Addr} (h : ¬ (lo ≤ p.block ∧ p.block < hi)) (u : Value) : Kept lo hi w (w.setCell p u) :=
  ⟨by simp [World.setCell], fun b h1 h2 => Below.heap_setCell w p u b (fun e => h ⟨by omega, by omega⟩)⟩
theorem own_boxed {W : World} {b : Nat} {z : Int} (h : Boxed W b 2 (.int .i64 z)) : OwnI W b (b + 1) (.slice (some ⟨b, 0, none⟩) 1 1) [z] := by
  have hl := h.lt
  exact ⟨⟨rfl, .inr ⟨b, 1, #[.int .i64 z], rfl, Nat.le_refl _, h, Nat.le_refl _, by simp [maxLen], rfl, rfl⟩⟩, fun k hk => by simp [Value.ownBlock] at hk; omega, by omega⟩
/-- What the statement leaves: two lists of one number, and a struct that holds the first one. -/
def GbCut (W0 : World) (z0 : Int) (wc : World) (s5 s6 : Value) : Prop :=
  ∃ b0 gt ge, s5 = .pointer (some ⟨b0, 0, none⟩) ∧ s6 = .slice (some ⟨ge, 0, none⟩) 1 1 ∧ Boxed wc b0 26 (.slice (some ⟨gt, 0, none⟩) 1 1) ∧ OwnI wc gt (gt + 1) (.slice (some ⟨gt, 0, none⟩) 1 1) [z0] ∧ OwnI wc ge (ge + 1) (.slice (some ⟨ge, 0, none⟩) 1 1) [z0] ∧
    (b0 ≠ gt ∧ b0 ≠ ge ∧ gt ≠ ge ∧ W0.heap.size ≤ b0 ∧ W0.heap.size ≤ gt ∧ W0.heap.size ≤ ge) ∧ Below W0.heap.size W0 wc
theorem gbCut_mk {W0 W : World} {z0 : Int} {b0 gt ge : Nat} (ha : Boxed W gt 2 (.int .i64 z0)) (hb : Boxed W ge 2 (.int .i64 z0)) (ho : Boxed W b0 26 (.slice (some ⟨gt, 0, none⟩) 1 1)) (h1 : b0 ≠ gt) (h2 : b0 ≠ ge) (h3 : gt ≠ ge) (h4 : W0.heap.size ≤ b0) (h5 : W0.heap.size ≤ gt) (h6 : W0.heap.size ≤ ge)
    (hL : Below W0.heap.size W0 W) : GbCut W0 z0 W.drew (.pointer (some ⟨b0, 0, none⟩)) (.slice (some ⟨ge, 0, none⟩) 1 1) :=
  ⟨b0, gt, ge, rfl, rfl, ho, own_boxed ha, own_boxed hb, ⟨h1, h2, h3, h4, h5, h6⟩, below_drewN hL 1⟩

set_option maxRecDepth 100000 in
set_option maxHeartbeats 4000000 in
theorem specBranchOfGenerators_any (v : Value) (zs : List Int) (w : World) (h : ReadI w w.heap.size v zs) (hn : zs.length ≤ 1048576) (hw : ∀ z ∈ zs, (Lit.int .i64 z).wf = true) :
    Calls Try.prog 50 #[v] w (AnsRC w (bgA zs) (bgC zs)) := by
  obtain ⟨n, A, c, rfl, hr, HL, HN, hnc, HF, hcm⟩ := h.split2
  rw [HL.out] at hn
  obtain ⟨W0, HE⟩ : ∃ W, W = w.alloc (.cells #[.slice none 0 0] 26) := ⟨_, rfl⟩
  have hS0 : Start1 w W0 := by rw [HE]; exact Start1.new _
  have hb0 := hS0.below
  have H0 := Lib.hid (hr.below hb0)
  have S0 := Lib.hid hS0
  have HW := Lib.hid hw
  have HEQ := Lib.hid HE
  by_cases h0 : n < 1
  · have E := Lib.hid (bg_no (zs := zs) (by have h9 : ¬ (1 ≤ zs.length ∧ zs.length ≤ 8) := by have := HL.out; omega
                                            unfold ogB; rw [decide_eq_false h9]; rfl))
    have t1 : (n : Int) < 1 := by omega
    clear h hr hb0 hS0 hw HE h0
    go_enter Try.func50, Try.ntmps50
    go_upto_region 2 with fail
    rw [← HEQ.out]
    obtain ⟨l2, l3, l4⟩ := S0.out.later (Below.refl _ _)
    go_wp2_with fail
    have cr : (W0.setCell ⟨w.heap.size, 0, none⟩ (.slice none 0 0)).cell? ⟨w.heap.size, 0, none⟩ = some (.slice none 0 0) := by go_simp
    refine bodyPost_ret (v := .tuple #[.agg #[.slice none 0 0], .int .i64 2]) (by simp [results, Try.results50, go_sem, cr]) rfl ?_
    exact ansR_endG _ (Nat.le_refl _) E.out.1.symm E.out.2.symm (OwnI.nil _ _) (by intro h; cases h) S0.out.below _
  by_cases h8 : 8 < n
  · have E := Lib.hid (bg_no (zs := zs) (by have h9 : ¬ (1 ≤ zs.length ∧ zs.length ≤ 8) := by have := HL.out; omega
                                            unfold ogB; rw [decide_eq_false h9]; rfl))
    have t1 : ¬ (n : Int) < 1 := by omega
    have t2 : (8 : Int) < (n : Int) := by omega
    clear h hr hb0 hS0 hw HE h0
    go_enter Try.func50, Try.ntmps50
    go_upto_region 2 with fail
    rw [← HEQ.out]
    obtain ⟨l2, l3, l4⟩ := S0.out.later (Below.refl _ _)
    go_wp2_with fail
    have cr : (W0.setCell ⟨w.heap.size, 0, none⟩ (.slice none 0 0)).cell? ⟨w.heap.size, 0, none⟩ = some (.slice none 0 0) := by go_simp
    refine bodyPost_ret (v := .tuple #[.agg #[.slice none 0 0], .int .i64 2]) (by simp [results, Try.results50, go_sem, cr]) rfl ?_
    exact ansR_endG _ (Nat.le_refl _) E.out.1.symm E.out.2.symm (OwnI.nil _ _) (by intro h; cases h) S0.out.below _
  have t1 : ¬ (n : Int) < 1 := by omega
  have t2 : ¬ (8 : Int) < (n : Int) := by omega
  have E : Hid (ogB zs = agL zs) := Lib.hid (by have h9 : (1 ≤ zs.length ∧ zs.length ≤ 8) := by have := HL.out; omega
                                                unfold ogB; rw [decide_eq_true h9]; rfl)
  have hn0 : 0 < n := by omega
  have hn8 : n ≤ 8 := by omega
  obtain ⟨a, rfl, hlt0, hc0⟩ := hr.2 0 hn0
  obtain ⟨g, o, rfl⟩ := HF.out a rfl
  have hgw : g < w.heap.size := hlt0
  have CZ : Hid (W0.cell? ⟨g, o, none⟩ = some (.int .i64 (zs[0]?.getD 0))) := Lib.hid (by
    have h2 : (⟨g, o, none⟩ : Addr).add 0 = ⟨g, o, none⟩ := by rw [add_lit]; rfl
    rw [h2] at hc0
    rw [hb0.cell (p := ⟨g, o, none⟩) hgw]; simpa using hc0)
  have HS0 := Lib.hid hS0.size
  have hs0' : w.heap.size + 1 ≤ W0.heap.size := by rw [hS0.size]; exact Nat.le_refl _
  obtain ⟨i0, hi0, hy0, hy1, hy2⟩ := info_parts int_info
  clear h hr hc0 hlt0 hw HE hb0 hS0
  go_enter Try.func50, Try.ntmps50
  go_upto_region 3 with fail
  rw [← HEQ.out]
  go_wp2_with fail
  go_loopw [4] (fun vi wr => ∃ (k : Nat), k ≤ n ∧ vi = .int .i64 k ∧ Hid (agL zs = agL (zs.drop k)) ∧ SameW wr W0) (fun vi _ => n - (intOf vi).toNat)
  case atStart => exact ⟨0, by omega, rfl, Lib.hid (by simp), rfl⟩
  case round =>
    obtain ⟨k, hk, rfl, hg, hwr⟩ := hrel
    obtain rfl : wr = W0 := hwr
    by_cases hlt : k < n
    · obtain ⟨a, e1, hal, hcell0⟩ := H0.out.2 k hlt
      cases e1
      rw [add_lit] at hcell0
      have HD := Lib.hid (drop_at HL.out hlt)
      have hcell : wr.cell? ⟨g, o + k, none⟩ = some (.int .i64 (zs[k]?.getD 0)) := by simpa using hcell0
      generalize zs[k]?.getD 0 = z at *
      have hin : (k : Int) < (n : Int) := by omega
      have h6 : (0 : Int) ≤ (k : Int) := by omega
      clear hcell0
      by_cases h1 : 1 ≤ z ∧ z ≤ 1000000
      · have HG : Hid (agL zs = agL (zs.drop (k + 1))) := Lib.hid (by rw [hg.out, HD.out, ag_yes h1])
        go_wp2_with (go_at_call 108; refine (in_yes _ _ _ _ h1.1 h1.2).mono ?_; rintro e w' ⟨rfl, rfl⟩)
        go_roundw
        case rel => exact ⟨k + 1, by omega, by go_num, HG, SameW.refl _⟩
        case measure => simp [intOf]; omega
      · have HF : Hid (ogB zs = false) := Lib.hid (by rw [E.out, hg.out, HD.out, ag_no h1])
        have E2 := Lib.hid (bg_no HF.out)
        obtain ⟨l2, l3, l4⟩ := S0.out.later (Below.refl _ _)
        go_wp2_with (go_at_call 108; refine (in_no _ _ _ _ h1).mono ?_; rintro e w' ⟨rfl, rfl⟩)
        have cr : (wr.setCell ⟨w.heap.size, 0, none⟩ (.slice none 0 0)).cell? ⟨w.heap.size, 0, none⟩ = some (.slice none 0 0) := by go_simp
        refine bodyPost_ret (v := .tuple #[.agg #[.slice none 0 0], .int .i64 2]) (by simp [results, Try.results50, go_sem, cr]) rfl ?_
        exact ansR_endG _ (Nat.le_refl _) E2.out.1.symm E2.out.2.symm (OwnI.nil _ _) (by intro h; cases h) S0.out.below _
    · obtain rfl : k = n := by omega
      have HF : Hid (ogB zs = true) := Lib.hid (by rw [E.out, hg.out, drop_end HL.out (Nat.le_refl _)]; rfl)
      have hog := ogB_yes HF.out
      have HZ := Lib.hid (agL_all hog.2)
      have HWL := Lib.hid (tgB_wf HF.out)
      have hz0 := HZ.out (zs[0]?.getD 0) (by have := HL.out; simp [show 0 < zs.length by omega])
      have HEQ0 : Hid (tgB zs = [] ++ tgL (zs[0]?.getD 0) 0 (zs.drop 0)) := Lib.hid (by simp [tgB])
      have HEQ1 := Lib.hid (tg_step HL.out hn0 HEQ0.out)
      have HGG : Hid ((Int.gcd (zs[0]?.getD 0) (zs[0]?.getD 0) : Int) = zs[0]?.getD 0) := Lib.hid (by rw [Int.gcd_self]; omega)
      have HQ1 : Hid ((zs[0]?.getD 0).tdiv (zs[0]?.getD 0) * (zs[0]?.getD 0) - (zs[0]?.getD 0 - 0) = 0) := Lib.hid (by rw [Int.tdiv_self (by omega)]; omega)
      rw [HGG.out, HQ1.out, Int.sub_zero] at HEQ1
      have HT1 : Hid (TSt (zs[0]?.getD 0) 0 1) := Lib.hid ⟨hz0, by omega, by omega⟩
      have cz := CZ.out
      obtain ⟨z0, hz00⟩ : ∃ z, zs[0]?.getD 0 = z := ⟨_, rfl⟩
      have HZ0 := Lib.hid hz00
      rw [hz00] at cz hz0 HEQ1 HT1
      have hgW0 : g < wr.heap.size := by omega
      obtain ⟨W0, hW0⟩ : ∃ W, W = wr := ⟨_, rfl⟩
      subst hW0
      clear hz00 hog HQ1 HGG HEQ0 E hg
      go_upto_region 8 with fail
      go_cut [5, 6] (fun s5 s6 wx => Hid (GbCut W0 z0 wx s5 s6))
      case first =>
        refine wp_region_held_drew (S := fun w' => w'.cell? ⟨g, o, none⟩ = some (.int .i64 z0)) (by kernel_rfl) (cz) (fun hHeld => ?_)
        refine takeY 0 _ (v := ?_) rfl rfl (by kernel_rfl) (by kernel_rfl) (by kernel_rfl) (fun _ _ _ h => h) (by kernel_rfl) ?_ (by assumption) ?_
        rotate_left 1
        · intro w hSw; (try dsimp only at hSw); go_simp; (try with_reducible rfl)
        try simp only [Act.put, List.setIfInBounds_toArray, List.set_cons_zero, List.set_cons_succ]
        refine takeY 1 _ (v := ?_) rfl rfl (by kernel_rfl) (by kernel_rfl) (by kernel_rfl) (fun _ _ _ h => h) (by kernel_rfl) ?_ (by assumption) ?_
        rotate_left 1
        · intro w hSw; (try dsimp only at hSw); go_simp; (try with_reducible rfl)
        try simp only [Act.put, List.setIfInBounds_toArray, List.set_cons_zero, List.set_cons_succ]
        refine takeY 2 _ (v := ?_) rfl rfl (by kernel_rfl) (by kernel_rfl) (by kernel_rfl) (fun _ _ _ h => h) (by kernel_rfl) ?_ (by assumption) ?_
        rotate_left 1
        · intro w hSw; (try dsimp only at hSw); go_simp; (try with_reducible rfl)
        try simp only [Act.put, List.setIfInBounds_toArray, List.set_cons_zero, List.set_cons_succ]
        refine takeY 5 _ (v := ?_) rfl rfl (by kernel_rfl) (by kernel_rfl) (by kernel_rfl) (fun _ _ _ h => h) (by kernel_rfl) ?_ (by assumption) ?_
        rotate_left 1
        · intro w hSw; (try dsimp only at hSw); go_simp; (try with_reducible rfl)
        try simp only [Act.put, List.setIfInBounds_toArray, List.set_cons_zero, List.set_cons_succ]
        refine takeY 6 _ (v := ?_) rfl rfl (by kernel_rfl) (by kernel_rfl) (by kernel_rfl) (fun _ _ _ h => h) (by kernel_rfl) ?_ (by assumption) ?_
        rotate_left 1
        · intro w hSw; (try dsimp only at hSw); go_simp; (try with_reducible rfl)
        try simp only [Act.put, List.setIfInBounds_toArray, List.set_cons_zero, List.set_cons_succ]
        refine takeY 7 _ (v := ?_) rfl rfl (by kernel_rfl) (by kernel_rfl) (by kernel_rfl) (fun _ _ _ h => h) (by kernel_rfl) ?_ (by assumption) ?_
        rotate_left 1
        · intro w hSw; (try dsimp only at hSw); go_simp; (try with_reducible rfl)
        try simp only [Act.put, List.setIfInBounds_toArray, List.set_cons_zero, List.set_cons_succ]
        refine wpAnyH_ready (rs := [3, 8, 9]) (by kernel_rfl) (by simp) ?_
        refine AllReadyH.cons rfl (fun K hK => ?_) (AllReadyH.cons rfl (fun K hK => ?_) (AllReadyH.cons rfl (fun K hK => ?_) (AllReadyH.nil)))
        · go_simp
          have xl1 : Below W0.heap.size W0 (World.alloc W0 (.cells #[.int .i64 z0] 2)) := ((Below.refl W0.heap.size W0).alloc (by simp) (.cells #[.int .i64 z0] 2))
          have xz1 := (xl1.cell (p := ⟨g, o, none⟩) hgW0).trans cz
          refine hK.out _ (_) xz1 (fun hHeld => ?_)
          clear hK K
          try simp only [Act.put, List.setIfInBounds_toArray, List.set_cons_zero, List.set_cons_succ]
          refine takeY 4 _ (v := ?_) rfl rfl (by kernel_rfl) (by kernel_rfl) (by kernel_rfl) (fun _ _ _ h => h) (by kernel_rfl) ?_ (by assumption) ?_
          rotate_left 1
          · intro w hSw; (try dsimp only at hSw); go_simp; (try with_reducible rfl)
          try simp only [Act.put, List.setIfInBounds_toArray, List.set_cons_zero, List.set_cons_succ]
          refine wpAnyH_ready (rs := [8, 9]) (by kernel_rfl) (by simp) ?_
          refine AllReadyH.cons rfl (fun K hK => ?_) (AllReadyH.cons rfl (fun K hK => ?_) (AllReadyH.nil))
          · go_simp
            have xl2 : Below W0.heap.size W0 (World.alloc (World.alloc W0 (.cells #[.int .i64 z0] 2)) (.cells #[.int .i64 z0] 2)) := (((Below.refl W0.heap.size W0).alloc (by simp) (.cells #[.int .i64 z0] 2)).alloc (by simp) (.cells #[.int .i64 z0] 2))
            have xz2 := (xl2.cell (p := ⟨g, o, none⟩) hgW0).trans cz
            refine hK.out _ (_) xz2 (fun hHeld => ?_)
            clear hK K
            try simp only [Act.put, List.setIfInBounds_toArray, List.set_cons_zero, List.set_cons_succ]
            refine wpAnyH_ready (rs := [9]) (by kernel_rfl) (by simp) ?_
            refine AllReadyH.cons rfl (fun K hK => ?_) (AllReadyH.nil)
            go_simp
            have xl3 : Below W0.heap.size W0 (World.alloc (World.alloc (World.alloc W0 (.cells #[.int .i64 z0] 2)) (.cells #[.int .i64 z0] 2)) (.cells #[.slice none 0 0] 26)) := ((((Below.refl W0.heap.size W0).alloc (by simp) (.cells #[.int .i64 z0] 2)).alloc (by simp) (.cells #[.int .i64 z0] 2)).alloc (by simp; omega) (.cells #[.slice none 0 0] 26))
            have xz3 := (xl3.cell (p := ⟨g, o, none⟩) hgW0).trans cz
            refine hK.out _ (_) xz3 (fun hHeld => ?_)
            clear hK K
            try simp only [Act.put, List.setIfInBounds_toArray, List.set_cons_zero, List.set_cons_succ]
            refine wpAnyH_ready (rs := [10]) (by kernel_rfl) (by simp) ?_
            refine AllReadyH.cons rfl (fun K hK => ?_) (AllReadyH.nil)
            go_simp
            have xl4 : Below W0.heap.size W0 (World.alloc (World.alloc (World.alloc W0 (.cells #[.int .i64 z0] 2)) (.cells #[.int .i64 z0] 2)) (.cells #[.slice (some ⟨W0.heap.size, 0, none⟩) 1 1] 26)) := ((((Below.refl W0.heap.size W0).alloc (by simp) (.cells #[.int .i64 z0] 2)).alloc (by simp) (.cells #[.int .i64 z0] 2)).alloc (by simp; omega) (.cells #[.slice (some ⟨W0.heap.size, 0, none⟩) 1 1] 26))
            have xz4 := (xl4.cell (p := ⟨g, o, none⟩) hgW0).trans cz
            refine hK.out _ (_) xz4 (fun hHeld => ?_)
            clear hK K
            try simp only [Act.put, List.setIfInBounds_toArray, List.set_cons_zero, List.set_cons_succ]
            refine takeY 11 _ (v := ?_) rfl rfl (by kernel_rfl) (by kernel_rfl) (by kernel_rfl) (fun _ _ _ h => h) (by kernel_rfl) ?_ (by assumption) ?_
            rotate_left 1
            · intro w hSw; (try dsimp only at hSw); go_simp; (try with_reducible rfl)
            try simp only [Act.put, List.setIfInBounds_toArray, List.set_cons_zero, List.set_cons_succ]
            refine wpAnyH_done (by kernel_rfl) ?_ _
            go_wp2_with fail
            go_meet
            exact Lib.hid (gbCut_mk (W0 := W0) (W := (World.alloc (World.alloc (World.alloc W0 (.cells #[.int .i64 z0] 2)) (.cells #[.int .i64 z0] 2)) (.cells #[.slice (some ⟨W0.heap.size, 0, none⟩) 1 1] 26))) (Boxed.alloc (Boxed.alloc (Boxed.newH W0 (by simp) : Boxed _ (W0.heap.size) _ _) (.cells #[.int .i64 z0] 2)) (.cells #[.slice (some ⟨W0.heap.size, 0, none⟩) 1 1] 26)) (Boxed.alloc (Boxed.newH (World.alloc W0 (.cells #[.int .i64 z0] 2)) (by simp) : Boxed _ (W0.heap.size + 1) _ _) (.cells #[.slice (some ⟨W0.heap.size, 0, none⟩) 1 1] 26)) (Boxed.newH (World.alloc (World.alloc W0 (.cells #[.int .i64 z0] 2)) (.cells #[.int .i64 z0] 2)) (by simp) : Boxed _ (W0.heap.size + 1 + 1) _ _) (by omega) (by omega) (by omega) (by omega) (by omega) (by omega) ((((Below.refl W0.heap.size W0).alloc (by simp) (.cells #[.int .i64 z0] 2)).alloc (by simp) (.cells #[.int .i64 z0] 2)).alloc (by simp; omega) (.cells #[.slice (some ⟨W0.heap.size, 0, none⟩) 1 1] 26)))
          · go_simp
            have xl5 : Below W0.heap.size W0 (World.alloc (World.alloc W0 (.cells #[.int .i64 z0] 2)) (.cells #[.slice none 0 0] 26)) := (((Below.refl W0.heap.size W0).alloc (by simp) (.cells #[.int .i64 z0] 2)).alloc (by simp) (.cells #[.slice none 0 0] 26))
            have xz5 := (xl5.cell (p := ⟨g, o, none⟩) hgW0).trans cz
            refine hK.out _ (_) xz5 (fun hHeld => ?_)
            clear hK K
            try simp only [Act.put, List.setIfInBounds_toArray, List.set_cons_zero, List.set_cons_succ]
            refine wpAnyH_ready (rs := [8, 10]) (by kernel_rfl) (by simp) ?_
            refine AllReadyH.cons rfl (fun K hK => ?_) (AllReadyH.cons rfl (fun K hK => ?_) (AllReadyH.nil))
            · go_simp
              have xl6 : Below W0.heap.size W0 (World.alloc (World.alloc (World.alloc W0 (.cells #[.int .i64 z0] 2)) (.cells #[.slice none 0 0] 26)) (.cells #[.int .i64 z0] 2)) := ((((Below.refl W0.heap.size W0).alloc (by simp) (.cells #[.int .i64 z0] 2)).alloc (by simp) (.cells #[.slice none 0 0] 26)).alloc (by simp; omega) (.cells #[.int .i64 z0] 2))
              have xz6 := (xl6.cell (p := ⟨g, o, none⟩) hgW0).trans cz
              refine hK.out _ (_) xz6 (fun hHeld => ?_)
              clear hK K
              try simp only [Act.put, List.setIfInBounds_toArray, List.set_cons_zero, List.set_cons_succ]
              refine wpAnyH_ready (rs := [10]) (by kernel_rfl) (by simp) ?_
              refine AllReadyH.cons rfl (fun K hK => ?_) (AllReadyH.nil)
              go_simp
              have xl7 : Below W0.heap.size W0 (World.alloc (World.alloc (World.alloc W0 (.cells #[.int .i64 z0] 2)) (.cells #[.slice (some ⟨W0.heap.size, 0, none⟩) 1 1] 26)) (.cells #[.int .i64 z0] 2)) := ((((Below.refl W0.heap.size W0).alloc (by simp) (.cells #[.int .i64 z0] 2)).alloc (by simp) (.cells #[.slice (some ⟨W0.heap.size, 0, none⟩) 1 1] 26)).alloc (by simp; omega) (.cells #[.int .i64 z0] 2))
              have xz7 := (xl7.cell (p := ⟨g, o, none⟩) hgW0).trans cz
              refine hK.out _ (_) xz7 (fun hHeld => ?_)
              clear hK K
              try simp only [Act.put, List.setIfInBounds_toArray, List.set_cons_zero, List.set_cons_succ]
              refine takeY 11 _ (v := ?_) rfl rfl (by kernel_rfl) (by kernel_rfl) (by kernel_rfl) (fun _ _ _ h => h) (by kernel_rfl) ?_ (by assumption) ?_
              rotate_left 1
              · intro w hSw; (try dsimp only at hSw); go_simp; (try with_reducible rfl)
              try simp only [Act.put, List.setIfInBounds_toArray, List.set_cons_zero, List.set_cons_succ]
              refine wpAnyH_done (by kernel_rfl) ?_ _
              go_wp2_with fail
              go_meet
              exact Lib.hid (gbCut_mk (W0 := W0) (W := (World.alloc (World.alloc (World.alloc W0 (.cells #[.int .i64 z0] 2)) (.cells #[.slice (some ⟨W0.heap.size, 0, none⟩) 1 1] 26)) (.cells #[.int .i64 z0] 2))) (Boxed.alloc (Boxed.alloc (Boxed.newH W0 (by simp) : Boxed _ (W0.heap.size) _ _) (.cells #[.slice (some ⟨W0.heap.size, 0, none⟩) 1 1] 26)) (.cells #[.int .i64 z0] 2)) (Boxed.newH (World.alloc (World.alloc W0 (.cells #[.int .i64 z0] 2)) (.cells #[.slice (some ⟨W0.heap.size, 0, none⟩) 1 1] 26)) (by simp) : Boxed _ (W0.heap.size + 1 + 1) _ _) (Boxed.alloc (Boxed.newH (World.alloc W0 (.cells #[.int .i64 z0] 2)) (by simp) : Boxed _ (W0.heap.size + 1) _ _) (.cells #[.int .i64 z0] 2)) (by omega) (by omega) (by omega) (by omega) (by omega) (by omega) ((((Below.refl W0.heap.size W0).alloc (by simp) (.cells #[.int .i64 z0] 2)).alloc (by simp) (.cells #[.slice (some ⟨W0.heap.size, 0, none⟩) 1 1] 26)).alloc (by simp; omega) (.cells #[.int .i64 z0] 2)))
            · go_simp
              have xl8 : Below W0.heap.size W0 (World.alloc (World.alloc W0 (.cells #[.int .i64 z0] 2)) (.cells #[.slice (some ⟨W0.heap.size, 0, none⟩) 1 1] 26)) := (((Below.refl W0.heap.size W0).alloc (by simp) (.cells #[.int .i64 z0] 2)).alloc (by simp) (.cells #[.slice (some ⟨W0.heap.size, 0, none⟩) 1 1] 26))
              have xz8 := (xl8.cell (p := ⟨g, o, none⟩) hgW0).trans cz
              refine hK.out _ (_) xz8 (fun hHeld => ?_)
              clear hK K
              try simp only [Act.put, List.setIfInBounds_toArray, List.set_cons_zero, List.set_cons_succ]
              refine wpAnyH_ready (rs := [8]) (by kernel_rfl) (by simp) ?_
              refine AllReadyH.cons rfl (fun K hK => ?_) (AllReadyH.nil)
              go_simp
              have xl9 : Below W0.heap.size W0 (World.alloc (World.alloc (World.alloc W0 (.cells #[.int .i64 z0] 2)) (.cells #[.slice (some ⟨W0.heap.size, 0, none⟩) 1 1] 26)) (.cells #[.int .i64 z0] 2)) := ((((Below.refl W0.heap.size W0).alloc (by simp) (.cells #[.int .i64 z0] 2)).alloc (by simp) (.cells #[.slice (some ⟨W0.heap.size, 0, none⟩) 1 1] 26)).alloc (by simp; omega) (.cells #[.int .i64 z0] 2))
              have xz9 := (xl9.cell (p := ⟨g, o, none⟩) hgW0).trans cz
              refine hK.out _ (_) xz9 (fun hHeld => ?_)
              clear hK K
              try simp only [Act.put, List.setIfInBounds_toArray, List.set_cons_zero, List.set_cons_succ]
              refine takeY 11 _ (v := ?_) rfl rfl (by kernel_rfl) (by kernel_rfl) (by kernel_rfl) (fun _ _ _ h => h) (by kernel_rfl) ?_ (by assumption) ?_
              rotate_left 1
              · intro w hSw; (try dsimp only at hSw); go_simp; (try with_reducible rfl)
              try simp only [Act.put, List.setIfInBounds_toArray, List.set_cons_zero, List.set_cons_succ]
              refine wpAnyH_done (by kernel_rfl) ?_ _
              go_wp2_with fail
              go_meet
              exact Lib.hid (gbCut_mk (W0 := W0) (W := (World.alloc (World.alloc (World.alloc W0 (.cells #[.int .i64 z0] 2)) (.cells #[.slice (some ⟨W0.heap.size, 0, none⟩) 1 1] 26)) (.cells #[.int .i64 z0] 2))) (Boxed.alloc (Boxed.alloc (Boxed.newH W0 (by simp) : Boxed _ (W0.heap.size) _ _) (.cells #[.slice (some ⟨W0.heap.size, 0, none⟩) 1 1] 26)) (.cells #[.int .i64 z0] 2)) (Boxed.newH (World.alloc (World.alloc W0 (.cells #[.int .i64 z0] 2)) (.cells #[.slice (some ⟨W0.heap.size, 0, none⟩) 1 1] 26)) (by simp) : Boxed _ (W0.heap.size + 1 + 1) _ _) (Boxed.alloc (Boxed.newH (World.alloc W0 (.cells #[.int .i64 z0] 2)) (by simp) : Boxed _ (W0.heap.size + 1) _ _) (.cells #[.int .i64 z0] 2)) (by omega) (by omega) (by omega) (by omega) (by omega) (by omega) ((((Below.refl W0.heap.size W0).alloc (by simp) (.cells #[.int .i64 z0] 2)).alloc (by simp) (.cells #[.slice (some ⟨W0.heap.size, 0, none⟩) 1 1] 26)).alloc (by simp; omega) (.cells #[.int .i64 z0] 2)))
        · go_simp
          have xl10 : Below W0.heap.size W0 (World.alloc W0 (.cells #[.int .i64 z0] 2)) := ((Below.refl W0.heap.size W0).alloc (by simp) (.cells #[.int .i64 z0] 2))
          have xz10 := (xl10.cell (p := ⟨g, o, none⟩) hgW0).trans cz
          refine hK.out _ (_) xz10 (fun hHeld => ?_)
          clear hK K
          try simp only [Act.put, List.setIfInBounds_toArray, List.set_cons_zero, List.set_cons_succ]
          refine wpAnyH_ready (rs := [3, 9]) (by kernel_rfl) (by simp) ?_
          refine AllReadyH.cons rfl (fun K hK => ?_) (AllReadyH.cons rfl (fun K hK => ?_) (AllReadyH.nil))
          · go_simp
            have xl11 : Below W0.heap.size W0 (World.alloc (World.alloc W0 (.cells #[.int .i64 z0] 2)) (.cells #[.int .i64 z0] 2)) := (((Below.refl W0.heap.size W0).alloc (by simp) (.cells #[.int .i64 z0] 2)).alloc (by simp) (.cells #[.int .i64 z0] 2))
            have xz11 := (xl11.cell (p := ⟨g, o, none⟩) hgW0).trans cz
            refine hK.out _ (_) xz11 (fun hHeld => ?_)
            clear hK K
            try simp only [Act.put, List.setIfInBounds_toArray, List.set_cons_zero, List.set_cons_succ]
            refine takeY 4 _ (v := ?_) rfl rfl (by kernel_rfl) (by kernel_rfl) (by kernel_rfl) (fun _ _ _ h => h) (by kernel_rfl) ?_ (by assumption) ?_
            rotate_left 1
            · intro w hSw; (try dsimp only at hSw); go_simp; (try with_reducible rfl)
            try simp only [Act.put, List.setIfInBounds_toArray, List.set_cons_zero, List.set_cons_succ]
            refine wpAnyH_ready (rs := [9]) (by kernel_rfl) (by simp) ?_
            refine AllReadyH.cons rfl (fun K hK => ?_) (AllReadyH.nil)
            go_simp
            have xl12 : Below W0.heap.size W0 (World.alloc (World.alloc (World.alloc W0 (.cells #[.int .i64 z0] 2)) (.cells #[.int .i64 z0] 2)) (.cells #[.slice none 0 0] 26)) := ((((Below.refl W0.heap.size W0).alloc (by simp) (.cells #[.int .i64 z0] 2)).alloc (by simp) (.cells #[.int .i64 z0] 2)).alloc (by simp; omega) (.cells #[.slice none 0 0] 26))
            have xz12 := (xl12.cell (p := ⟨g, o, none⟩) hgW0).trans cz
            refine hK.out _ (_) xz12 (fun hHeld => ?_)
            clear hK K
            try simp only [Act.put, List.setIfInBounds_toArray, List.set_cons_zero, List.set_cons_succ]
            refine wpAnyH_ready (rs := [10]) (by kernel_rfl) (by simp) ?_
            refine AllReadyH.cons rfl (fun K hK => ?_) (AllReadyH.nil)
            go_simp
            have xl13 : Below W0.heap.size W0 (World.alloc (World.alloc (World.alloc W0 (.cells #[.int .i64 z0] 2)) (.cells #[.int .i64 z0] 2)) (.cells #[.slice (some ⟨W0.heap.size + 1, 0, none⟩) 1 1] 26)) := ((((Below.refl W0.heap.size W0).alloc (by simp) (.cells #[.int .i64 z0] 2)).alloc (by simp) (.cells #[.int .i64 z0] 2)).alloc (by simp; omega) (.cells #[.slice (some ⟨W0.heap.size + 1, 0, none⟩) 1 1] 26))
            have xz13 := (xl13.cell (p := ⟨g, o, none⟩) hgW0).trans cz
            refine hK.out _ (_) xz13 (fun hHeld => ?_)
            clear hK K
            try simp only [Act.put, List.setIfInBounds_toArray, List.set_cons_zero, List.set_cons_succ]
            refine takeY 11 _ (v := ?_) rfl rfl (by kernel_rfl) (by kernel_rfl) (by kernel_rfl) (fun _ _ _ h => h) (by kernel_rfl) ?_ (by assumption) ?_
            rotate_left 1
            · intro w hSw; (try dsimp only at hSw); go_simp; (try with_reducible rfl)
            try simp only [Act.put, List.setIfInBounds_toArray, List.set_cons_zero, List.set_cons_succ]
            refine wpAnyH_done (by kernel_rfl) ?_ _
            go_wp2_with fail
            go_meet
            exact Lib.hid (gbCut_mk (W0 := W0) (W := (World.alloc (World.alloc (World.alloc W0 (.cells #[.int .i64 z0] 2)) (.cells #[.int .i64 z0] 2)) (.cells #[.slice (some ⟨W0.heap.size + 1, 0, none⟩) 1 1] 26))) (Boxed.alloc (Boxed.newH (World.alloc W0 (.cells #[.int .i64 z0] 2)) (by simp) : Boxed _ (W0.heap.size + 1) _ _) (.cells #[.slice (some ⟨W0.heap.size + 1, 0, none⟩) 1 1] 26)) (Boxed.alloc (Boxed.alloc (Boxed.newH W0 (by simp) : Boxed _ (W0.heap.size) _ _) (.cells #[.int .i64 z0] 2)) (.cells #[.slice (some ⟨W0.heap.size + 1, 0, none⟩) 1 1] 26)) (Boxed.newH (World.alloc (World.alloc W0 (.cells #[.int .i64 z0] 2)) (.cells #[.int .i64 z0] 2)) (by simp) : Boxed _ (W0.heap.size + 1 + 1) _ _) (by omega) (by omega) (by omega) (by omega) (by omega) (by omega) ((((Below.refl W0.heap.size W0).alloc (by simp) (.cells #[.int .i64 z0] 2)).alloc (by simp) (.cells #[.int .i64 z0] 2)).alloc (by simp; omega) (.cells #[.slice (some ⟨W0.heap.size + 1, 0, none⟩) 1 1] 26)))
          · go_simp
            have xl14 : Below W0.heap.size W0 (World.alloc (World.alloc W0 (.cells #[.int .i64 z0] 2)) (.cells #[.slice none 0 0] 26)) := (((Below.refl W0.heap.size W0).alloc (by simp) (.cells #[.int .i64 z0] 2)).alloc (by simp) (.cells #[.slice none 0 0] 26))
            have xz14 := (xl14.cell (p := ⟨g, o, none⟩) hgW0).trans cz
            refine hK.out _ (_) xz14 (fun hHeld => ?_)
            clear hK K
            try simp only [Act.put, List.setIfInBounds_toArray, List.set_cons_zero, List.set_cons_succ]
            refine wpAnyH_ready (rs := [3]) (by kernel_rfl) (by simp) ?_
            refine AllReadyH.cons rfl (fun K hK => ?_) (AllReadyH.nil)
            go_simp
            have xl15 : Below W0.heap.size W0 (World.alloc (World.alloc (World.alloc W0 (.cells #[.int .i64 z0] 2)) (.cells #[.slice none 0 0] 26)) (.cells #[.int .i64 z0] 2)) := ((((Below.refl W0.heap.size W0).alloc (by simp) (.cells #[.int .i64 z0] 2)).alloc (by simp) (.cells #[.slice none 0 0] 26)).alloc (by simp; omega) (.cells #[.int .i64 z0] 2))
            have xz15 := (xl15.cell (p := ⟨g, o, none⟩) hgW0).trans cz
            refine hK.out _ (_) xz15 (fun hHeld => ?_)
            clear hK K
            try simp only [Act.put, List.setIfInBounds_toArray, List.set_cons_zero, List.set_cons_succ]
            refine takeY 4 _ (v := ?_) rfl rfl (by kernel_rfl) (by kernel_rfl) (by kernel_rfl) (fun _ _ _ h => h) (by kernel_rfl) ?_ (by assumption) ?_
            rotate_left 1
            · intro w hSw; (try dsimp only at hSw); go_simp; (try with_reducible rfl)
            try simp only [Act.put, List.setIfInBounds_toArray, List.set_cons_zero, List.set_cons_succ]
            refine wpAnyH_ready (rs := [10]) (by kernel_rfl) (by simp) ?_
            refine AllReadyH.cons rfl (fun K hK => ?_) (AllReadyH.nil)
            go_simp
            have xl16 : Below W0.heap.size W0 (World.alloc (World.alloc (World.alloc W0 (.cells #[.int .i64 z0] 2)) (.cells #[.slice (some ⟨W0.heap.size + 1 + 1, 0, none⟩) 1 1] 26)) (.cells #[.int .i64 z0] 2)) := ((((Below.refl W0.heap.size W0).alloc (by simp) (.cells #[.int .i64 z0] 2)).alloc (by simp) (.cells #[.slice (some ⟨W0.heap.size + 1 + 1, 0, none⟩) 1 1] 26)).alloc (by simp; omega) (.cells #[.int .i64 z0] 2))
            have xz16 := (xl16.cell (p := ⟨g, o, none⟩) hgW0).trans cz
            refine hK.out _ (_) xz16 (fun hHeld => ?_)
            clear hK K
            try simp only [Act.put, List.setIfInBounds_toArray, List.set_cons_zero, List.set_cons_succ]
            refine takeY 11 _ (v := ?_) rfl rfl (by kernel_rfl) (by kernel_rfl) (by kernel_rfl) (fun _ _ _ h => h) (by kernel_rfl) ?_ (by assumption) ?_
            rotate_left 1
            · intro w hSw; (try dsimp only at hSw); go_simp; (try with_reducible rfl)
            try simp only [Act.put, List.setIfInBounds_toArray, List.set_cons_zero, List.set_cons_succ]
            refine wpAnyH_done (by kernel_rfl) ?_ _
            go_wp2_with fail
            go_meet
            exact Lib.hid (gbCut_mk (W0 := W0) (W := (World.alloc (World.alloc (World.alloc W0 (.cells #[.int .i64 z0] 2)) (.cells #[.slice (some ⟨W0.heap.size + 1 + 1, 0, none⟩) 1 1] 26)) (.cells #[.int .i64 z0] 2))) (Boxed.newH (World.alloc (World.alloc W0 (.cells #[.int .i64 z0] 2)) (.cells #[.slice (some ⟨W0.heap.size + 1 + 1, 0, none⟩) 1 1] 26)) (by simp) : Boxed _ (W0.heap.size + 1 + 1) _ _) (Boxed.alloc (Boxed.alloc (Boxed.newH W0 (by simp) : Boxed _ (W0.heap.size) _ _) (.cells #[.slice (some ⟨W0.heap.size + 1 + 1, 0, none⟩) 1 1] 26)) (.cells #[.int .i64 z0] 2)) (Boxed.alloc (Boxed.newH (World.alloc W0 (.cells #[.int .i64 z0] 2)) (by simp) : Boxed _ (W0.heap.size + 1) _ _) (.cells #[.int .i64 z0] 2)) (by omega) (by omega) (by omega) (by omega) (by omega) (by omega) ((((Below.refl W0.heap.size W0).alloc (by simp) (.cells #[.int .i64 z0] 2)).alloc (by simp) (.cells #[.slice (some ⟨W0.heap.size + 1 + 1, 0, none⟩) 1 1] 26)).alloc (by simp; omega) (.cells #[.int .i64 z0] 2)))
        · go_simp
          have xl17 : Below W0.heap.size W0 (World.alloc W0 (.cells #[.slice none 0 0] 26)) := ((Below.refl W0.heap.size W0).alloc (by simp) (.cells #[.slice none 0 0] 26))
          have xz17 := (xl17.cell (p := ⟨g, o, none⟩) hgW0).trans cz
          refine hK.out _ (_) xz17 (fun hHeld => ?_)
          clear hK K
          try simp only [Act.put, List.setIfInBounds_toArray, List.set_cons_zero, List.set_cons_succ]
          refine wpAnyH_ready (rs := [3, 8]) (by kernel_rfl) (by simp) ?_
          refine AllReadyH.cons rfl (fun K hK => ?_) (AllReadyH.cons rfl (fun K hK => ?_) (AllReadyH.nil))
          · go_simp
            have xl18 : Below W0.heap.size W0 (World.alloc (World.alloc W0 (.cells #[.slice none 0 0] 26)) (.cells #[.int .i64 z0] 2)) := (((Below.refl W0.heap.size W0).alloc (by simp) (.cells #[.slice none 0 0] 26)).alloc (by simp) (.cells #[.int .i64 z0] 2))
            have xz18 := (xl18.cell (p := ⟨g, o, none⟩) hgW0).trans cz
            refine hK.out _ (_) xz18 (fun hHeld => ?_)
            clear hK K
            try simp only [Act.put, List.setIfInBounds_toArray, List.set_cons_zero, List.set_cons_succ]
            refine takeY 4 _ (v := ?_) rfl rfl (by kernel_rfl) (by kernel_rfl) (by kernel_rfl) (fun _ _ _ h => h) (by kernel_rfl) ?_ (by assumption) ?_
            rotate_left 1
            · intro w hSw; (try dsimp only at hSw); go_simp; (try with_reducible rfl)
            try simp only [Act.put, List.setIfInBounds_toArray, List.set_cons_zero, List.set_cons_succ]
            refine wpAnyH_ready (rs := [8, 10]) (by kernel_rfl) (by simp) ?_
            refine AllReadyH.cons rfl (fun K hK => ?_) (AllReadyH.cons rfl (fun K hK => ?_) (AllReadyH.nil))
            · go_simp
              have xl19 : Below W0.heap.size W0 (World.alloc (World.alloc (World.alloc W0 (.cells #[.slice none 0 0] 26)) (.cells #[.int .i64 z0] 2)) (.cells #[.int .i64 z0] 2)) := ((((Below.refl W0.heap.size W0).alloc (by simp) (.cells #[.slice none 0 0] 26)).alloc (by simp) (.cells #[.int .i64 z0] 2)).alloc (by simp; omega) (.cells #[.int .i64 z0] 2))
              have xz19 := (xl19.cell (p := ⟨g, o, none⟩) hgW0).trans cz
              refine hK.out _ (_) xz19 (fun hHeld => ?_)
              clear hK K
              try simp only [Act.put, List.setIfInBounds_toArray, List.set_cons_zero, List.set_cons_succ]
              refine wpAnyH_ready (rs := [10]) (by kernel_rfl) (by simp) ?_
              refine AllReadyH.cons rfl (fun K hK => ?_) (AllReadyH.nil)
              go_simp
              have xl20 : Below W0.heap.size W0 (World.alloc (World.alloc (World.alloc W0 (.cells #[.slice (some ⟨W0.heap.size + 1, 0, none⟩) 1 1] 26)) (.cells #[.int .i64 z0] 2)) (.cells #[.int .i64 z0] 2)) := ((((Below.refl W0.heap.size W0).alloc (by simp) (.cells #[.slice (some ⟨W0.heap.size + 1, 0, none⟩) 1 1] 26)).alloc (by simp) (.cells #[.int .i64 z0] 2)).alloc (by simp; omega) (.cells #[.int .i64 z0] 2))
              have xz20 := (xl20.cell (p := ⟨g, o, none⟩) hgW0).trans cz
              refine hK.out _ (_) xz20 (fun hHeld => ?_)
              clear hK K
              try simp only [Act.put, List.setIfInBounds_toArray, List.set_cons_zero, List.set_cons_succ]
              refine takeY 11 _ (v := ?_) rfl rfl (by kernel_rfl) (by kernel_rfl) (by kernel_rfl) (fun _ _ _ h => h) (by kernel_rfl) ?_ (by assumption) ?_
              rotate_left 1
              · intro w hSw; (try dsimp only at hSw); go_simp; (try with_reducible rfl)
              try simp only [Act.put, List.setIfInBounds_toArray, List.set_cons_zero, List.set_cons_succ]
              refine wpAnyH_done (by kernel_rfl) ?_ _
              go_wp2_with fail
              go_meet
              exact Lib.hid (gbCut_mk (W0 := W0) (W := (World.alloc (World.alloc (World.alloc W0 (.cells #[.slice (some ⟨W0.heap.size + 1, 0, none⟩) 1 1] 26)) (.cells #[.int .i64 z0] 2)) (.cells #[.int .i64 z0] 2))) (Boxed.alloc (Boxed.newH (World.alloc W0 (.cells #[.slice (some ⟨W0.heap.size + 1, 0, none⟩) 1 1] 26)) (by simp) : Boxed _ (W0.heap.size + 1) _ _) (.cells #[.int .i64 z0] 2)) (Boxed.newH (World.alloc (World.alloc W0 (.cells #[.slice (some ⟨W0.heap.size + 1, 0, none⟩) 1 1] 26)) (.cells #[.int .i64 z0] 2)) (by simp) : Boxed _ (W0.heap.size + 1 + 1) _ _) (Boxed.alloc (Boxed.alloc (Boxed.newH W0 (by simp) : Boxed _ (W0.heap.size) _ _) (.cells #[.int .i64 z0] 2)) (.cells #[.int .i64 z0] 2)) (by omega) (by omega) (by omega) (by omega) (by omega) (by omega) ((((Below.refl W0.heap.size W0).alloc (by simp) (.cells #[.slice (some ⟨W0.heap.size + 1, 0, none⟩) 1 1] 26)).alloc (by simp) (.cells #[.int .i64 z0] 2)).alloc (by simp; omega) (.cells #[.int .i64 z0] 2)))
            · go_simp
              have xl21 : Below W0.heap.size W0 (World.alloc (World.alloc W0 (.cells #[.slice (some ⟨W0.heap.size + 1, 0, none⟩) 1 1] 26)) (.cells #[.int .i64 z0] 2)) := (((Below.refl W0.heap.size W0).alloc (by simp) (.cells #[.slice (some ⟨W0.heap.size + 1, 0, none⟩) 1 1] 26)).alloc (by simp) (.cells #[.int .i64 z0] 2))
              have xz21 := (xl21.cell (p := ⟨g, o, none⟩) hgW0).trans cz
              refine hK.out _ (_) xz21 (fun hHeld => ?_)
              clear hK K
              try simp only [Act.put, List.setIfInBounds_toArray, List.set_cons_zero, List.set_cons_succ]
              refine wpAnyH_ready (rs := [8]) (by kernel_rfl) (by simp) ?_
              refine AllReadyH.cons rfl (fun K hK => ?_) (AllReadyH.nil)
              go_simp
              have xl22 : Below W0.heap.size W0 (World.alloc (World.alloc (World.alloc W0 (.cells #[.slice (some ⟨W0.heap.size + 1, 0, none⟩) 1 1] 26)) (.cells #[.int .i64 z0] 2)) (.cells #[.int .i64 z0] 2)) := ((((Below.refl W0.heap.size W0).alloc (by simp) (.cells #[.slice (some ⟨W0.heap.size + 1, 0, none⟩) 1 1] 26)).alloc (by simp) (.cells #[.int .i64 z0] 2)).alloc (by simp; omega) (.cells #[.int .i64 z0] 2))
              have xz22 := (xl22.cell (p := ⟨g, o, none⟩) hgW0).trans cz
              refine hK.out _ (_) xz22 (fun hHeld => ?_)
              clear hK K
              try simp only [Act.put, List.setIfInBounds_toArray, List.set_cons_zero, List.set_cons_succ]
              refine takeY 11 _ (v := ?_) rfl rfl (by kernel_rfl) (by kernel_rfl) (by kernel_rfl) (fun _ _ _ h => h) (by kernel_rfl) ?_ (by assumption) ?_
              rotate_left 1
              · intro w hSw; (try dsimp only at hSw); go_simp; (try with_reducible rfl)
              try simp only [Act.put, List.setIfInBounds_toArray, List.set_cons_zero, List.set_cons_succ]
              refine wpAnyH_done (by kernel_rfl) ?_ _
              go_wp2_with fail
              go_meet
              exact Lib.hid (gbCut_mk (W0 := W0) (W := (World.alloc (World.alloc (World.alloc W0 (.cells #[.slice (some ⟨W0.heap.size + 1, 0, none⟩) 1 1] 26)) (.cells #[.int .i64 z0] 2)) (.cells #[.int .i64 z0] 2))) (Boxed.alloc (Boxed.newH (World.alloc W0 (.cells #[.slice (some ⟨W0.heap.size + 1, 0, none⟩) 1 1] 26)) (by simp) : Boxed _ (W0.heap.size + 1) _ _) (.cells #[.int .i64 z0] 2)) (Boxed.newH (World.alloc (World.alloc W0 (.cells #[.slice (some ⟨W0.heap.size + 1, 0, none⟩) 1 1] 26)) (.cells #[.int .i64 z0] 2)) (by simp) : Boxed _ (W0.heap.size + 1 + 1) _ _) (Boxed.alloc (Boxed.alloc (Boxed.newH W0 (by simp) : Boxed _ (W0.heap.size) _ _) (.cells #[.int .i64 z0] 2)) (.cells #[.int .i64 z0] 2)) (by omega) (by omega) (by omega) (by omega) (by omega) (by omega) ((((Below.refl W0.heap.size W0).alloc (by simp) (.cells #[.slice (some ⟨W0.heap.size + 1, 0, none⟩) 1 1] 26)).alloc (by simp) (.cells #[.int .i64 z0] 2)).alloc (by simp; omega) (.cells #[.int .i64 z0] 2)))
          · go_simp
            have xl23 : Below W0.heap.size W0 (World.alloc (World.alloc W0 (.cells #[.slice none 0 0] 26)) (.cells #[.int .i64 z0] 2)) := (((Below.refl W0.heap.size W0).alloc (by simp) (.cells #[.slice none 0 0] 26)).alloc (by simp) (.cells #[.int .i64 z0] 2))
            have xz23 := (xl23.cell (p := ⟨g, o, none⟩) hgW0).trans cz
            refine hK.out _ (_) xz23 (fun hHeld => ?_)
            clear hK K
            try simp only [Act.put, List.setIfInBounds_toArray, List.set_cons_zero, List.set_cons_succ]
            refine wpAnyH_ready (rs := [3]) (by kernel_rfl) (by simp) ?_
            refine AllReadyH.cons rfl (fun K hK => ?_) (AllReadyH.nil)
            go_simp
            have xl24 : Below W0.heap.size W0 (World.alloc (World.alloc (World.alloc W0 (.cells #[.slice none 0 0] 26)) (.cells #[.int .i64 z0] 2)) (.cells #[.int .i64 z0] 2)) := ((((Below.refl W0.heap.size W0).alloc (by simp) (.cells #[.slice none 0 0] 26)).alloc (by simp) (.cells #[.int .i64 z0] 2)).alloc (by simp; omega) (.cells #[.int .i64 z0] 2))
            have xz24 := (xl24.cell (p := ⟨g, o, none⟩) hgW0).trans cz
            refine hK.out _ (_) xz24 (fun hHeld => ?_)
            clear hK K
            try simp only [Act.put, List.setIfInBounds_toArray, List.set_cons_zero, List.set_cons_succ]
            refine takeY 4 _ (v := ?_) rfl rfl (by kernel_rfl) (by kernel_rfl) (by kernel_rfl) (fun _ _ _ h => h) (by kernel_rfl) ?_ (by assumption) ?_
            rotate_left 1
            · intro w hSw; (try dsimp only at hSw); go_simp; (try with_reducible rfl)
            try simp only [Act.put, List.setIfInBounds_toArray, List.set_cons_zero, List.set_cons_succ]
            refine wpAnyH_ready (rs := [10]) (by kernel_rfl) (by simp) ?_
            refine AllReadyH.cons rfl (fun K hK => ?_) (AllReadyH.nil)
            go_simp
            have xl25 : Below W0.heap.size W0 (World.alloc (World.alloc (World.alloc W0 (.cells #[.slice (some ⟨W0.heap.size + 1 + 1, 0, none⟩) 1 1] 26)) (.cells #[.int .i64 z0] 2)) (.cells #[.int .i64 z0] 2)) := ((((Below.refl W0.heap.size W0).alloc (by simp) (.cells #[.slice (some ⟨W0.heap.size + 1 + 1, 0, none⟩) 1 1] 26)).alloc (by simp) (.cells #[.int .i64 z0] 2)).alloc (by simp; omega) (.cells #[.int .i64 z0] 2))
            have xz25 := (xl25.cell (p := ⟨g, o, none⟩) hgW0).trans cz
            refine hK.out _ (_) xz25 (fun hHeld => ?_)
            clear hK K
            try simp only [Act.put, List.setIfInBounds_toArray, List.set_cons_zero, List.set_cons_succ]
            refine takeY 11 _ (v := ?_) rfl rfl (by kernel_rfl) (by kernel_rfl) (by kernel_rfl) (fun _ _ _ h => h) (by kernel_rfl) ?_ (by assumption) ?_
            rotate_left 1
            · intro w hSw; (try dsimp only at hSw); go_simp; (try with_reducible rfl)
            try simp only [Act.put, List.setIfInBounds_toArray, List.set_cons_zero, List.set_cons_succ]
            refine wpAnyH_done (by kernel_rfl) ?_ _
            go_wp2_with fail
            go_meet
            exact Lib.hid (gbCut_mk (W0 := W0) (W := (World.alloc (World.alloc (World.alloc W0 (.cells #[.slice (some ⟨W0.heap.size + 1 + 1, 0, none⟩) 1 1] 26)) (.cells #[.int .i64 z0] 2)) (.cells #[.int .i64 z0] 2))) (Boxed.newH (World.alloc (World.alloc W0 (.cells #[.slice (some ⟨W0.heap.size + 1 + 1, 0, none⟩) 1 1] 26)) (.cells #[.int .i64 z0] 2)) (by simp) : Boxed _ (W0.heap.size + 1 + 1) _ _) (Boxed.alloc (Boxed.newH (World.alloc W0 (.cells #[.slice (some ⟨W0.heap.size + 1 + 1, 0, none⟩) 1 1] 26)) (by simp) : Boxed _ (W0.heap.size + 1) _ _) (.cells #[.int .i64 z0] 2)) (Boxed.alloc (Boxed.alloc (Boxed.newH W0 (by simp) : Boxed _ (W0.heap.size) _ _) (.cells #[.int .i64 z0] 2)) (.cells #[.int .i64 z0] 2)) (by omega) (by omega) (by omega) (by omega) (by omega) (by omega) ((((Below.refl W0.heap.size W0).alloc (by simp) (.cells #[.slice (some ⟨W0.heap.size + 1 + 1, 0, none⟩) 1 1] 26)).alloc (by simp) (.cells #[.int .i64 z0] 2)).alloc (by simp; omega) (.cells #[.int .i64 z0] 2)))
      case rest =>
        obtain ⟨b0, gt0, ge0, rfl, rfl, hx0, ht0, he0, ⟨hn1, hn2, hn3, hn4, hn5, hn6⟩, hbw0⟩ := hcut.out
        have HX0 := Lib.hid hx0
        have HTT0 := Lib.hid ht0
        have HEE0 := Lib.hid he0
        have BW0 := Lib.hid hbw0
        have hswc : W0.heap.size ≤ wc.heap.size := hbw0.size
        have HEB1 : Hid (∀ j, j < 1 → 1 ≤ [z0][j]?.getD 0 ∧ [z0][j]?.getD 0 ≤ 1000000) := Lib.hid (fun j hj => by
          have h9 : j = 0 := by omega
          subst h9; exact hz0)
        clear hx0 ht0 he0 hbw0 hcut cz
        go_wp2_with fail
        go_loopw [6, 7] (fun ve vi wr => ∃ (i : Nat) (e s : Int) (E T : List Int) (A' : Option Addr) (ge ce gt ct : Nat), (1 ≤ i ∧ i ≤ k) ∧ TSt e s i ∧ A' = some ⟨ge, 0, none⟩ ∧ ve = .slice A' i ce ∧ vi = .int .i64 i ∧ Hid (E.length = i) ∧ Hid (∀ j, j < i → 1 ≤ E[j]?.getD 0 ∧ E[j]?.getD 0 ≤ 1000000) ∧ Hid (T.length = i) ∧ Hid (e = E[i - 1]?.getD 0 ∧ (if i = 1 then s = 0 else s = (E[i - 2]?.getD 0).tdiv (E[i - 1]?.getD 0) * (zs[i - 1]?.getD 0) - T[i - 1]?.getD 0)) ∧ Hid (tgB zs = T ++ tgL e s (zs.drop i)) ∧ Hid (OwnI wr ge (ge + 1) (.slice A' i ce) E) ∧ Hid (OwnI wr gt (gt + 1) (.slice (some ⟨gt, 0, none⟩) i ct) T) ∧ Hid (Boxed wr b0 26 (.slice (some ⟨gt, 0, none⟩) i ct)) ∧ (b0 ≠ gt ∧ b0 ≠ ge ∧ gt ≠ ge ∧ W0.heap.size ≤ gt ∧ W0.heap.size ≤ ge) ∧ W0.heap.size ≤ wr.heap.size ∧ Hid (Below W0.heap.size W0 wr)) (fun _ vi _ => k - (intOf vi).toNat)
        case atStart => exact ⟨1, z0, 0, [z0], [z0], _, ge0, 1, gt0, 1, by omega, HT1.out, rfl, rfl, rfl, Lib.hid rfl, HEB1, Lib.hid rfl, Lib.hid ⟨rfl, rfl⟩, Lib.hid (by simpa using HEQ1.out), HEE0, HTT0, HX0, ⟨hn1, hn2, hn3, hn5, hn6⟩, hswc, BW0⟩
        case round =>
          clear HX0 HTT0 HEE0
          obtain ⟨i, e, s, E, T, A', ge, ce, gt, ct, hi, hst, rfl, rfl, rfl, hE, hEb, hT, hes, hg, hoe, hot, hbx, ⟨n1, n2, n3, n4, n5⟩, hsz, hb⟩ := hrel
          by_cases hlt : i < k
          rotate_left
          · obtain rfl : i = k := by omega
            have HX : Hid (T = tgB zs) := Lib.hid (tg_end HL.out hg.out)
            have q1 := hbx.out.cell
            have hrd := hot.out.reads
            have hrd2 : ReadI wr wr.heap.size (.slice (some ⟨gt, 0, none⟩) i ct) (tgB zs) := by rw [← HX.out]; exact hrd
            have R5 := Lib.hid hrd2
            have O5 : Hid (OwnI wr gt (gt + 1) (.slice (some ⟨gt, 0, none⟩) i ct) (tgB zs)) := Lib.hid (by rw [← HX.out]; exact hot.out)
            have HNL : Hid ((tgB zs).length = i) := Lib.hid (by rw [tgB_len, HL.out])
            have X5 := Lib.hid hbx.out
            have hlb := hbx.out.lt
            clear hrd hrd2
            go_wp2_with fail
            cases hp : brB (tgB zs)
            · have E2 := Lib.hid (bg_none HF.out hp)
              refine (l03Is_if _ (tgB zs) wr false R5.out (by rw [HNL.out]; omega) HWL.out hp).mono ?_
              rintro e' w6 ⟨rfl, hb6⟩
              obtain ⟨l2, l3, l4⟩ := S0.out.later (hb.out.trans (hb6.mono (by omega)))
              have B6 := Lib.hid (S0.out.below.trans ((hb.out.trans (hb6.mono (by omega))).mono (by omega)))
              clear hb6 hp
              go_wp2_with fail
              have cr : (w6.setCell ⟨w.heap.size, 0, none⟩ (.slice none 0 0)).cell? ⟨w.heap.size, 0, none⟩ = some (.slice none 0 0) := by go_simp
              refine bodyPost_ret (v := .tuple #[.agg #[.slice none 0 0], .int .i64 5]) (by simp [results, Try.results50, go_sem, cr]) rfl ?_
              exact ansR_endG _ (Nat.le_refl _) E2.out.1.symm E2.out.2.symm (OwnI.nil _ _) (by intro h; cases h) B6.out _
            · have E2 := Lib.hid (bg_yes HF.out hp)
              refine (l03Is_if _ (tgB zs) wr true R5.out (by rw [HNL.out]; omega) HWL.out hp).mono ?_
              rintro e' w6 ⟨rfl, hb6⟩
              obtain ⟨l2, l3, l4⟩ := S0.out.later (hb.out.trans (hb6.mono (by omega)))
              have B6 := Lib.hid (S0.out.below.trans ((hb.out.trans (hb6.mono (by omega))).mono (by omega)))
              have hc6 : w6.cell? ⟨b0, 0, none⟩ = some (.slice (some ⟨gt, 0, none⟩) i ct) := by rw [hb6.cell (p := ⟨b0, 0, none⟩) hlb]; exact q1
              have hgl : gt + 1 ≤ wr.heap.size := O5.out.2.2
              have O6 := Lib.hid (O5.out.kept (Kept.of_below hb6 hgl))
              have hs6 := hb6.size
              clear hb6 hp
              go_wp2_with fail
              have cr : (w6.setCell ⟨w.heap.size, 0, none⟩ (.slice (some ⟨gt, 0, none⟩) i ct)).cell? ⟨w.heap.size, 0, none⟩ = some (.slice (some ⟨gt, 0, none⟩) i ct) := by go_simp
              refine bodyPost_ret (v := .tuple #[.agg #[.slice (some ⟨gt, 0, none⟩) i ct], .int .i64 0]) (by simp [results, Try.results50, go_sem, cr]) rfl ?_
              have hne2 : (Value.slice (some ⟨gt, 0, none⟩) i ct).ownBlock ≠ some w.heap.size := by simp [Value.ownBlock]; omega
              exact ansR_endG _ (Nat.le_refl _) (by rw [E2.out.1]) E2.out.2.symm ((own_lessB O6.out (by omega)).raise (by omega) (Nat.le_refl _)) hne2 B6.out _
          have czf : ∀ j, j < k → wr.cell? ⟨g, o + j, none⟩ = some (.int .i64 (zs[j]?.getD 0)) := fun j hj => by
            obtain ⟨a, e1, _, hcell0⟩ := H0.out.2 j hj
            cases e1
            rw [add_lit] at hcell0
            rw [hb.out.cell (p := ⟨g, o + j, none⟩) hgW0]; simpa using hcell0
          have hzi := HZ.out (zs[i]?.getD 0) (by have := HL.out; simp [show i < zs.length by omega])
          have hzy := HZ.out (zs[i - 1]?.getD 0) (by have := HL.out; simp [show i - 1 < zs.length by omega])
          have HG2 := Lib.hid (tg_step HL.out hlt hg.out)
          have hstz := hst.step hzi
          have HST2 := Lib.hid hstz.1
          have hs1 := hst.2.1
          have hs2 := hst.2.2
          have he := hst.1
          have HP2 : Hid ((Int.gcd e (zs[i]?.getD 0) : Int) = (E ++ [(Int.gcd e (zs[i]?.getD 0) : Int)])[i + 1 - 1]?.getD 0 ∧ (if i + 1 = 1 then e.tdiv (Int.gcd e (zs[i]?.getD 0) : Int) * (zs[i]?.getD 0) - ((zs[i]?.getD 0) - s) = 0 else e.tdiv (Int.gcd e (zs[i]?.getD 0) : Int) * (zs[i]?.getD 0) - ((zs[i]?.getD 0) - s) = ((E ++ [(Int.gcd e (zs[i]?.getD 0) : Int)])[i + 1 - 2]?.getD 0).tdiv ((E ++ [(Int.gcd e (zs[i]?.getD 0) : Int)])[i + 1 - 1]?.getD 0) * (zs[i + 1 - 1]?.getD 0) - (T ++ [(zs[i]?.getD 0) - s])[i + 1 - 1]?.getD 0)) := Lib.hid (by
            have h1 := hE.out
            have h2 := hT.out
            have h3 : (E ++ [(Int.gcd e (zs[i]?.getD 0) : Int)])[i]?.getD 0 = (Int.gcd e (zs[i]?.getD 0) : Int) := by subst h1; simp
            have h4 : (T ++ [(zs[i]?.getD 0) - s])[i]?.getD 0 = (zs[i]?.getD 0) - s := by rw [← h2]; simp
            have h5 : (E ++ [(Int.gcd e (zs[i]?.getD 0) : Int)])[i - 1]?.getD 0 = e := by rw [List.getElem?_append_left (by omega)]; exact hes.out.1.symm
            refine ⟨by rw [Nat.add_sub_cancel, h3], ?_⟩
            rw [if_neg (by omega), Nat.add_sub_cancel, show i + 1 - 2 = i - 1 by omega, h3, h4, h5])
          have HEB2 : Hid (∀ j, j < i + 1 → 1 ≤ (E ++ [(Int.gcd e (zs[i]?.getD 0) : Int)])[j]?.getD 0 ∧ (E ++ [(Int.gcd e (zs[i]?.getD 0) : Int)])[j]?.getD 0 ≤ 1000000) := Lib.hid (fun j hj => by
            have h1 := hE.out
            by_cases h2 : j < i
            · rw [List.getElem?_append_left (by omega)]; exact hEb.out j h2
            · obtain rfl : j = E.length := by omega
              have h3 := gcd_le_left (e := e) (z := zs[i]?.getD 0) he.1
              simp; omega)
          obtain ⟨g', e1, _, _, cde, _⟩ := own_at hoe.out hE.out (show i - 1 < i by omega)
          cases e1
          rw [← hes.out.1] at cde
          have hlge : ge < wr.heap.size := hoe.out.2.2
          have hlgt : gt < wr.heap.size := hot.out.2.2
          have hlgb : b0 < wr.heap.size := hbx.out.lt
          have hlgg : g < wr.heap.size := by omega
          have cb := hbx.out.cell
          have cz1 := czf i hlt
          have cy0 := czf (i - 1) (by omega)
          have hge := gcd_le_left (e := e) (z := zs[i]?.getD 0) he.1
          obtain ⟨z, hzz⟩ : ∃ z, zs[i]?.getD 0 = z := ⟨_, rfl⟩
          have HPZ := Lib.hid hzz
          rw [hzz] at hzi HG2 HST2 HP2 cz1 hge HEB2
          have h5 : (i : Int) < (k : Int) := by omega
          have h6 : (0 : Int) ≤ (i : Int) := by omega
          have h7 : ((i : Int) - 1).toNat = i - 1 := by omega
          have h8 : (i : Int) - 1 < (k : Int) := by omega
          have h9 : (0 : Int) ≤ (i : Int) - 1 := by omega
          have h10 : (i : Int) - 1 < (i : Int) := by omega
          have h13 : i - 1 < i := by omega
          have h14 : i - 1 < k := by omega
          have h15 : (1 : Int) ≤ (i : Int) := by omega
          have p1 : IntKind.i64.wrap ((i : Int) - 1) = (i : Int) - 1 := IntWalk.i64_in _ (by omega)
          clear czf hg hzz hstz
          go_wp2_with fail
          refine wp_region_held_drew (S := fun w' => w'.cell? ⟨g, o + i, none⟩ = some (.int .i64 z) ∧ w'.cell? ⟨b0, 0, none⟩ = some (.slice (some ⟨gt, 0, none⟩) i ct)) (by kernel_rfl) ⟨cz1, cb⟩ (fun hHeld => ?_)
          refine takeY 0 _ (v := ?_) rfl rfl (by kernel_rfl) (by kernel_rfl) (by kernel_rfl) (fun _ _ _ h => h) (by kernel_rfl) ?_ (by assumption) ?_
          rotate_left 1
          · intro w hSw; (try dsimp only at hSw); go_simp; (try with_reducible rfl)
          try simp only [Act.put, List.setIfInBounds_toArray, List.set_cons_zero, List.set_cons_succ]
          refine takeY 1 _ (v := ?_) rfl rfl (by kernel_rfl) (by kernel_rfl) (by kernel_rfl) (fun _ _ _ h => h) (by kernel_rfl) ?_ (by assumption) ?_
          rotate_left 1
          · intro w hSw; (try dsimp only at hSw); go_simp; (try with_reducible rfl)
          try simp only [Act.put, List.setIfInBounds_toArray, List.set_cons_zero, List.set_cons_succ]
          refine takeY 2 _ (v := ?_) rfl rfl (by kernel_rfl) (by kernel_rfl) (by kernel_rfl) (fun _ _ _ h => h) (by kernel_rfl) ?_ (by assumption) ?_
          rotate_left 1
          · intro w hSw; (try dsimp only at hSw); go_simp; (try with_reducible rfl)
          try simp only [Act.put, List.setIfInBounds_toArray, List.set_cons_zero, List.set_cons_succ]
          refine takeY 3 _ (v := ?_) rfl rfl (by kernel_rfl) (by kernel_rfl) (by kernel_rfl) (fun _ _ _ h => h) (by kernel_rfl) ?_ (by assumption) ?_
          rotate_left 1
          · intro w hSw; (try dsimp only at hSw); go_simp; (try with_reducible rfl)
          try simp only [Act.put, List.setIfInBounds_toArray, List.set_cons_zero, List.set_cons_succ]
          refine takeY 4 _ (v := ?_) rfl rfl (by kernel_rfl) (by kernel_rfl) (by kernel_rfl) (fun _ _ _ h => h) (by kernel_rfl) ?_ (by assumption) ?_
          rotate_left 1
          · intro w hSw; (try dsimp only at hSw); go_simp; (try with_reducible rfl)
          try simp only [Act.put, List.setIfInBounds_toArray, List.set_cons_zero, List.set_cons_succ]
          refine takeY 6 _ (v := ?_) rfl rfl (by kernel_rfl) (by kernel_rfl) (by kernel_rfl) (fun _ _ _ h => h) (by kernel_rfl) ?_ (by assumption) ?_
          rotate_left 1
          · intro w hSw; (try dsimp only at hSw); go_simp; (try with_reducible rfl)
          try simp only [Act.put, List.setIfInBounds_toArray, List.set_cons_zero, List.set_cons_succ]
          refine takeY 7 _ (v := ?_) rfl rfl (by kernel_rfl) (by kernel_rfl) (by kernel_rfl) (fun _ _ _ h => h) (by kernel_rfl) ?_ (by assumption) ?_
          rotate_left 1
          · intro w hSw; (try dsimp only at hSw); go_simp; (try with_reducible rfl)
          try simp only [Act.put, List.setIfInBounds_toArray, List.set_cons_zero, List.set_cons_succ]
          refine takeY 8 _ (v := ?_) rfl rfl (by kernel_rfl) (by kernel_rfl) (by kernel_rfl) (fun _ _ _ h => h) (by kernel_rfl) ?_ (by assumption) ?_
          rotate_left 1
          · intro w hSw; (try dsimp only at hSw); go_simp; (try with_reducible rfl)
          try simp only [Act.put, List.setIfInBounds_toArray, List.set_cons_zero, List.set_cons_succ]
          refine takeY 9 _ (v := ?_) rfl rfl (by kernel_rfl) (by kernel_rfl) (by kernel_rfl) (fun _ _ _ h => h) (by kernel_rfl) ?_ (by assumption) ?_
          rotate_left 1
          · intro w hSw; (try dsimp only at hSw); go_simp; (try with_reducible rfl)
          try simp only [Act.put, List.setIfInBounds_toArray, List.set_cons_zero, List.set_cons_succ]
          refine wpAnyH_ready (rs := [5]) (by kernel_rfl) (by simp) ?_
          refine AllReadyH.cons rfl (fun K hK => ?_) AllReadyH.nil
          go_simp
          refine hK.out _ (wr.drew) ⟨cz1, cb⟩ (fun hHeld => ?_)
          clear hK K
          try simp only [Act.put, List.setIfInBounds_toArray, List.set_cons_zero, List.set_cons_succ]
          refine wpAnyH_ready (rs := [10]) (by kernel_rfl) (by simp) ?_
          refine AllReadyH.cons rfl (fun K hK => ?_) AllReadyH.nil
          go_simp
          refine (l01Gcd_any _ _ _ (by omega) (by omega) (by omega) (by omega)).mono ?_
          rintro e' w' ⟨rfl, rfl⟩
          refine hK.out _ (wr.drew) ⟨cz1, cb⟩ (fun hHeld => ?_)
          clear hK K
          try simp only [Act.put, List.setIfInBounds_toArray, List.set_cons_zero, List.set_cons_succ]
          refine wpAnyH_ready (rs := [11]) (by kernel_rfl) (by simp) ?_
          refine AllReadyH.cons rfl (fun K hK => ?_) AllReadyH.nil
          go_simp
          refine hK.out _ (_) ⟨((below_box wr (.cells #[.int .i64 (Int.gcd e z : Int)] 2)).cell (p := ⟨g, o + i, none⟩) hlgg).trans cz1, ((below_box wr (.cells #[.int .i64 (Int.gcd e z : Int)] 2)).cell (p := ⟨b0, 0, none⟩) hlgb).trans cb⟩ (fun hHeld => ?_)
          clear hK K
          try simp only [Act.put, List.setIfInBounds_toArray, List.set_cons_zero, List.set_cons_succ]
          refine wpAnyH_ready (rs := [12]) (by kernel_rfl) (by simp) ?_
          refine AllReadyH.cons rfl (fun K hK => ?_) AllReadyH.nil
          try simp only [List.getElem_toArray, List.getElem_cons_succ, List.getElem_cons_zero]
          rw [if_pos (by kernel_rfl)]
          refine wp_append_lies _ (.tmp 46) (.tmp 57) 24 ?gb2 (ge) 2 i0 (.int .i64 0) 1 8 Try.underlying24 hi0 hy0 hy1 hy2 rfl (by decide) (.slice (some ⟨ge, 0, none⟩) i ce) i (E.map (.int .i64)) ?gb3 ?gb4 ⟨wr.heap.size, 0, none⟩ 1 1 [.int .i64 (Int.gcd e z : Int)] ?gb5 rfl ?gb6 ?gb7 (by decide) ?gb8 ?gb9 ?gb10 _ rfl ?gb11
          case gb2 => rfl
          case gb3 => rfl
          case gb5 => rfl
          case gb4 => have h3 := hoe.out.1; rw [hE.out] at h3; exact World.ownsRow.alloc h3 _
          case gb6 => exact World.news_of_block (cs := #[.int .i64 (Int.gcd e z : Int)]) (t := 2) (fr := (0, 0)) (heap_alloc_new wr _)
          case gb7 => simp [Value.oneCell']
          case gb8 => simp only [maxLen]; omega
          case gb9 => omega
          case gb10 => show ge ≤ (World.alloc wr _).heap.size; simp; omega
          intro g2 cap2 w2 hown2 hgrow hg2 _
          have hgr : (wr.alloc (.cells #[.int .i64 (Int.gcd e z : Int)] 2)).grownBy w2 (Value.slice (some ⟨ge, 0, none⟩) i ce).ownBlock := ⟨hgrow.os, hgrow.tape, hgrow.output, hgrow.size, hgrow.block⟩
          have hz1 : (wr.alloc (.cells #[.int .i64 (Int.gcd e z : Int)] 2)).heap.size = wr.heap.size + 1 := by simp
          have hgb : Below W0.heap.size (wr.alloc (.cells #[.int .i64 (Int.gcd e z : Int)] 2)) w2 := Below.grown (Below.refl _ _) hgr (by rw [hz1]; omega) (fun k hk => by simp [Value.ownBlock] at hk; omega)
          have HB2 := Lib.hid ((hb.out.alloc (by omega) _).trans hgb)
          have hlt2 : g2 < w2.heap.size := by rcases hg2 with h | h; (simp [Value.ownBlock] at h; have := hgr.size; omega); (exact (Own.lt (show Own w2 ge (.slice (some ⟨g2, 0, none⟩) (i + 1) cap2) (i + 1) _ from hown2) g2 rfl).2)
          have HE2 : Hid (OwnI w2 g2 (g2 + 1) (.slice (some ⟨g2, 0, none⟩) (i + 1) cap2) (E ++ [(Int.gcd e z : Int)])) := Lib.hid (own_tight (OwnI.mk' (lo := ge) (n := i + 1) (by rw [List.map_append]; exact hown2)) hlt2)
          have HT2 := Lib.hid (hot.out.kept (kept_grown2 (kept_box wr (.cells #[.int .i64 (Int.gcd e z : Int)] 2) gt (gt + 1) (by omega)) hgr (by rw [hz1]; omega) (kept_one (show some gt ≠ (Value.slice (some ⟨ge, 0, none⟩) i ce).ownBlock by simp [Value.ownBlock]; omega))))
          have HX2 := Lib.hid ((hbx.out.alloc (.cells #[.int .i64 (Int.gcd e z : Int)] 2)).kept hgr (show some b0 ≠ (Value.slice (some ⟨ge, 0, none⟩) i ce).ownBlock by simp [Value.ownBlock]; omega))
          have hg2n : g2 ≠ gt ∧ g2 ≠ b0 ∧ W0.heap.size ≤ g2 := by rcases hg2 with h | h; (simp [Value.ownBlock] at h; omega); (have h9 : g2 = wr.heap.size + 1 := h.trans hz1); omega
          have s0 : w2.cell? ⟨g, o + i, none⟩ = some (.int .i64 z) := (hgb.cell (p := ⟨g, o + i, none⟩) (by show g < _; omega)).trans (((below_box wr _).cell (p := ⟨g, o + i, none⟩) hlgg).trans cz1)
          have s1 := HX2.out.cell
          have hsz2 : wr.heap.size ≤ w2.heap.size := by have := hgr.size; omega
          refine hK.out _ _ ⟨s0, s1⟩ (fun hHeld => ?_)
          clear hK K hown2 hgrow hg2 hgb hgr hz1
          try simp only [Act.put, List.setIfInBounds_toArray, List.set_cons_zero, List.set_cons_succ]
          refine takeY 13 _ (v := ?_) rfl rfl (by kernel_rfl) (by kernel_rfl) (by kernel_rfl) (fun _ _ _ h => h) (by kernel_rfl) ?_ (by assumption) ?_
          rotate_left 1
          · intro w hSw; (try dsimp only at hSw); go_simp; (try with_reducible rfl)
          try simp only [Act.put, List.setIfInBounds_toArray, List.set_cons_zero, List.set_cons_succ]
          refine wpAnyH_done (by kernel_rfl) ?_ _
          obtain ⟨t, ht⟩ : ∃ t, z - s = t := ⟨_, rfl⟩
          have HTS := Lib.hid ht
          rw [ht] at HG2 HST2 HP2
          by_cases h1 : i = 1
          · have hsz0 : s = 0 := by have := hes.out.2; rw [if_pos h1] at this; exact this
            have htz : z = t := by omega
            subst htz
            have hi1 : ¬ (1 : Int) < (i : Int) := by omega
            clear hes hst cy0 h1 ht hsz0
            go_wp2_with (at_builtin; go_loud (refine Go.wpList_append_lies _ rfl _ _ 24 rfl gt 2 i0 (.int .i64 0) 1 8 Try.underlying24 hi0 hy0 hy1 hy2 rfl (by decide) (.slice (some ⟨gt, 0, none⟩) i ct) i (T.map (.int .i64)) rfl (by (have h3 := HT2.out.1; rw [hT.out] at h3; exact World.ownsRow.alloc h3 _)) ⟨w2.heap.size, 0, none⟩ 1 1 [.int .i64 z] rfl rfl (World.news_of_block (cs := #[.int .i64 z]) (t := 2) (fr := (0, 0)) (heap_alloc_new w2 _)) (by simp [Value.oneCell']) (by decide) (by simp only [maxLen]; omega) (by omega) (by (show gt ≤ (w2.alloc _).heap.size; simp; omega)) _ rfl ?_; intro g3 cap3 w3 hown3 hgrow4 hg3 hlt3; (have hgrow3 : (w2.alloc (.cells #[.int .i64 z] 2)).grownBy w3 (Value.slice (some ⟨gt, 0, none⟩) i ct).ownBlock := ⟨hgrow4.os, hgrow4.tape, hgrow4.output, hgrow4.size, hgrow4.block⟩); (have hz2 : (w2.alloc (.cells #[.int .i64 z] 2)).heap.size = w2.heap.size + 1 := by simp); (have hgb3 : Below W0.heap.size (w2.alloc (.cells #[.int .i64 z] 2)) w3 := Below.grown (Below.refl _ _) hgrow3 (by (rw [hz2]; omega)) (fun k hk => by (simp [Value.ownBlock] at hk; omega))); (have HB3 := Lib.hid ((HB2.out.alloc (by omega) _).trans hgb3)); (have HT3 : Hid (OwnI w3 g3 (g3 + 1) (.slice (some ⟨g3, 0, none⟩) (i + 1) cap3) (T ++ [z])) := Lib.hid (own_tight (OwnI.mk' (lo := gt) (n := i + 1) (by (rw [List.map_append]; exact hown3))) hlt3)); (have HE3 := Lib.hid (HE2.out.kept (kept_grown2 (kept_box w2 (.cells #[.int .i64 z] 2) g2 (g2 + 1) (by (have := HE2.out.2.2; omega))) hgrow3 (by (rw [hz2]; have := HE2.out.2.2; omega)) (kept_one (show some g2 ≠ (Value.slice (some ⟨gt, 0, none⟩) i ct).ownBlock by (simp [Value.ownBlock]; omega)))))); (have HX3 := Lib.hid ((HX2.out.alloc (.cells #[.int .i64 z] 2)).kept hgrow3 (show some b0 ≠ (Value.slice (some ⟨gt, 0, none⟩) i ct).ownBlock by (simp [Value.ownBlock]; omega)))); (have hg3n : g3 ≠ g2 ∧ g3 ≠ b0 ∧ W0.heap.size ≤ g3 := by (rcases hg3 with h | h; (simp [Value.ownBlock] at h; omega); (have h9 : g3 = w2.heap.size + 1 := h.trans hz2); (have := HE2.out.2.2); omega)); (have x3 := HX3.out.cell); (have f3 := HX3.out.frozen); (have hsz3 : w2.heap.size ≤ w3.heap.size := by (have := hgrow3.size; omega)); clear hown3 hgrow3 hgrow4 hg3 hgb3 hz2))
            go_roundw
            case rel =>
              have HX4 := Lib.hid (HX3.out.set (.slice (some ⟨g3, 0, none⟩) (i + 1) cap3))
              have HT4 := Lib.hid (HT3.out.kept (keptS' w3 (p := ⟨b0, 0, none⟩) (show ¬ (g3 ≤ b0 ∧ b0 < g3 + 1) by omega) (.slice (some ⟨g3, 0, none⟩) (i + 1) cap3)))
              have HE4 := Lib.hid (HE3.out.kept (keptS' w3 (p := ⟨b0, 0, none⟩) (show ¬ (g2 ≤ b0 ∧ b0 < g2 + 1) by omega) (.slice (some ⟨g3, 0, none⟩) (i + 1) cap3)))
              have HB4 := Lib.hid (HB3.out.setCell (p := ⟨b0, 0, none⟩) (show W0.heap.size ≤ b0 by omega) (.slice (some ⟨g3, 0, none⟩) (i + 1) cap3))
              exact ⟨i + 1, _, _, _, _, some ⟨g2, 0, none⟩, g2, cap2, g3, cap3, by omega, HST2.out, rfl, rfl, by go_num, Lib.hid (by rw [List.length_append, hE.out]; rfl), HEB2, Lib.hid (by rw [List.length_append, hT.out]; rfl), HP2, HG2, HE4, HT4, HX4, by omega, by simp [World.setCell]; omega, HB4⟩
            case measure => simp [intOf]; omega
          · have hes2 : s = (E[i - 2]?.getD 0).tdiv (E[i - 1]?.getD 0) * (zs[i - 1]?.getD 0) - T[i - 1]?.getD 0 := by have := hes.out.2; rw [if_neg h1] at this; exact this
            rw [← hes.out.1] at hes2
            have hE2l : (E ++ [(Int.gcd e z : Int)]).length = i + 1 := by rw [List.length_append, hE.out]; rfl
            obtain ⟨g', e1, _, _, cd2, _⟩ := own_at HE2.out hE2l (show i - 2 < i + 1 by omega)
            cases e1
            rw [List.getElem?_append_left (by have := hE.out; omega)] at cd2
            obtain ⟨g', e1, _, _, cd1, _⟩ := own_at HE2.out hE2l (show i - 1 < i + 1 by omega)
            cases e1
            rw [List.getElem?_append_left (by have := hE.out; omega), ← hes.out.1] at cd1
            obtain ⟨g', e1, _, _, cx, _⟩ := own_at HT2.out hT.out (show i - 1 < i by omega)
            cases e1
            have cy : w2.cell? ⟨g, o + (i - 1), none⟩ = some (.int .i64 (zs[i - 1]?.getD 0)) := (HB2.out.cell (p := ⟨g, o + (i - 1), none⟩) hgW0).trans ((hb.out.cell (p := ⟨g, o + (i - 1), none⟩) hgW0).symm.trans cy0)
            have hEB := hEb.out (i - 2) (by omega)
            obtain ⟨d2, hd2⟩ : ∃ a, E[i - 2]?.getD 0 = a := ⟨_, rfl⟩
            obtain ⟨y, hy⟩ : ∃ a, zs[i - 1]?.getD 0 = a := ⟨_, rfl⟩
            obtain ⟨x, hx⟩ : ∃ a, T[i - 1]?.getD 0 = a := ⟨_, rfl⟩
            rw [hd2] at hes2 cd2 hEB
            rw [hy] at hes2 cy hzy
            rw [hx] at hes2 cx
            have hq := tdiv_le (z := d2) (e := e) (B := 1000000) (by omega) he.1
            have hmu := mul_range (A := 1000000) (B := 1000000) (a := d2.tdiv e) (b := y) hq (by omega)
            have hxr : x = d2.tdiv e * y - s := by omega
            have p2 : IntKind.i64.wrap ((i : Int) - 2) = (i : Int) - 2 := IntWalk.i64_in _ (by omega)
            have p3 : IntKind.i64.wrap (d2.tdiv e) = d2.tdiv e := IntWalk.i64_in _ (by omega)
            have p4 : IntKind.i64.wrap (d2.tdiv e * y) = d2.tdiv e * y := IntWalk.i64_in _ (by omega)
            have p5 : IntKind.i64.wrap (z - d2.tdiv e * y) = z - d2.tdiv e * y := IntWalk.i64_in _ (by omega)
            have p6 : IntKind.i64.wrap (z - d2.tdiv e * y + x) = t := by rw [IntWalk.i64_in _ (by omega)]; omega
            have h71 : ((i : Int) - 2).toNat = i - 2 := by omega
            have h81 : (i : Int) - 2 < (i : Int) + 1 := by omega
            have h82 : (i : Int) - 1 < (i : Int) + 1 := by omega
            have h91 : (0 : Int) ≤ (i : Int) - 2 := by omega
            have h12 : i - 2 < i + 1 := by omega
            have h16 : i - 1 < i + 1 := by omega
            have h17 : (2 : Int) ≤ (i : Int) := by omega
            have hi1 : (1 : Int) < (i : Int) := by omega
            have hdz : (e == 0) = false := by simp; omega
            have hdz2 : ¬ e = 0 := by omega
            have d1e : ∃ d1, d1 = e := ⟨_, rfl⟩
            clear hes hst cy0 h1 ht hd2 hy hx hes2 hxr
            go_wp2_with fail
            refine wp_region_held_drew (S := fun w' => w'.cell? ⟨g, o + i, none⟩ = some (.int .i64 z) ∧ w'.cell? ⟨g, o + (i - 1), none⟩ = some (.int .i64 y) ∧ w'.cell? ⟨b0, 0, none⟩ = some (.slice (some ⟨gt, 0, none⟩) i ct) ∧ w'.cell? ⟨g2, i - 2, none⟩ = some (.int .i64 d2) ∧ w'.cell? ⟨g2, i - 1, none⟩ = some (.int .i64 e) ∧ w'.cell? ⟨gt, i - 1, none⟩ = some (.int .i64 x)) (by kernel_rfl) ⟨s0, cy, s1, cd2, cd1, cx⟩ (fun hHeld => ?_)
            refine takeY 0 _ (v := ?_) rfl rfl (by kernel_rfl) (by kernel_rfl) (by kernel_rfl) (fun _ _ _ h => h) (by kernel_rfl) ?_ (by assumption) ?_
            rotate_left 1
            · intro w hSw; (try dsimp only at hSw); go_simp; (try with_reducible rfl)
            try simp only [Act.put, List.setIfInBounds_toArray, List.set_cons_zero, List.set_cons_succ]
            refine takeY 1 _ (v := ?_) rfl rfl (by kernel_rfl) (by kernel_rfl) (by kernel_rfl) (fun _ _ _ h => h) (by kernel_rfl) ?_ (by assumption) ?_
            rotate_left 1
            · intro w hSw; (try dsimp only at hSw); go_simp; (try with_reducible rfl)
            try simp only [Act.put, List.setIfInBounds_toArray, List.set_cons_zero, List.set_cons_succ]
            refine takeY 2 _ (v := ?_) rfl rfl (by kernel_rfl) (by kernel_rfl) (by kernel_rfl) (fun _ _ _ h => h) (by kernel_rfl) ?_ (by assumption) ?_
            rotate_left 1
            · intro w hSw; (try dsimp only at hSw); go_simp; (try with_reducible rfl)
            try simp only [Act.put, List.setIfInBounds_toArray, List.set_cons_zero, List.set_cons_succ]
            refine takeY 3 _ (v := ?_) rfl rfl (by kernel_rfl) (by kernel_rfl) (by kernel_rfl) (fun _ _ _ h => h) (by kernel_rfl) ?_ (by assumption) ?_
            rotate_left 1
            · intro w hSw; (try dsimp only at hSw); go_simp; (try with_reducible rfl)
            try simp only [Act.put, List.setIfInBounds_toArray, List.set_cons_zero, List.set_cons_succ]
            refine takeY 4 _ (v := ?_) rfl rfl (by kernel_rfl) (by kernel_rfl) (by kernel_rfl) (fun _ _ _ h => h) (by kernel_rfl) ?_ (by assumption) ?_
            rotate_left 1
            · intro w hSw; (try dsimp only at hSw); go_simp; (try with_reducible rfl)
            try simp only [Act.put, List.setIfInBounds_toArray, List.set_cons_zero, List.set_cons_succ]
            refine takeY 5 _ (v := ?_) rfl rfl (by kernel_rfl) (by kernel_rfl) (by kernel_rfl) (fun _ _ _ h => h) (by kernel_rfl) ?_ (by assumption) ?_
            rotate_left 1
            · intro w hSw; (try dsimp only at hSw); go_simp; (try with_reducible rfl)
            try simp only [Act.put, List.setIfInBounds_toArray, List.set_cons_zero, List.set_cons_succ]
            refine takeY 6 _ (v := ?_) rfl rfl (by kernel_rfl) (by kernel_rfl) (by kernel_rfl) (fun _ _ _ h => h) (by kernel_rfl) ?_ (by assumption) ?_
            rotate_left 1
            · intro w hSw; (try dsimp only at hSw); go_simp; (try with_reducible rfl)
            try simp only [Act.put, List.setIfInBounds_toArray, List.set_cons_zero, List.set_cons_succ]
            refine takeY 7 _ (v := ?_) rfl rfl (by kernel_rfl) (by kernel_rfl) (by kernel_rfl) (fun _ _ _ h => h) (by kernel_rfl) ?_ (by assumption) ?_
            rotate_left 1
            · intro w hSw; (try dsimp only at hSw); go_simp; (try with_reducible rfl)
            try simp only [Act.put, List.setIfInBounds_toArray, List.set_cons_zero, List.set_cons_succ]
            refine takeY 8 _ (v := ?_) rfl rfl (by kernel_rfl) (by kernel_rfl) (by kernel_rfl) (fun _ _ _ h => h) (by kernel_rfl) ?_ (by assumption) ?_
            rotate_left 1
            · intro w hSw; (try dsimp only at hSw); go_simp; (try with_reducible rfl)
            try simp only [Act.put, List.setIfInBounds_toArray, List.set_cons_zero, List.set_cons_succ]
            refine takeY 9 _ (v := ?_) rfl rfl (by kernel_rfl) (by kernel_rfl) (by kernel_rfl) (fun _ _ _ h => h) (by kernel_rfl) ?_ (by assumption) ?_
            rotate_left 1
            · intro w hSw; (try dsimp only at hSw); go_simp; (try with_reducible rfl)
            try simp only [Act.put, List.setIfInBounds_toArray, List.set_cons_zero, List.set_cons_succ]
            refine takeY 10 _ (v := ?_) rfl rfl (by kernel_rfl) (by kernel_rfl) (by kernel_rfl) (fun _ _ _ h => h) (by kernel_rfl) ?_ (by assumption) ?_
            rotate_left 1
            · intro w hSw; (try dsimp only at hSw); go_simp; (try with_reducible rfl)
            try simp only [Act.put, List.setIfInBounds_toArray, List.set_cons_zero, List.set_cons_succ]
            refine takeY 11 _ (v := ?_) rfl rfl (by kernel_rfl) (by kernel_rfl) (by kernel_rfl) (fun _ _ _ h => h) (by kernel_rfl) ?_ (by assumption) ?_
            rotate_left 1
            · intro w hSw; (try dsimp only at hSw); go_simp; (try with_reducible rfl)
            try simp only [Act.put, List.setIfInBounds_toArray, List.set_cons_zero, List.set_cons_succ]
            refine takeY 12 _ (v := ?_) rfl rfl (by kernel_rfl) (by kernel_rfl) (by kernel_rfl) (fun _ _ _ h => h) (by kernel_rfl) ?_ (by assumption) ?_
            rotate_left 1
            · intro w hSw; (try dsimp only at hSw); go_simp; (try with_reducible rfl)
            try simp only [Act.put, List.setIfInBounds_toArray, List.set_cons_zero, List.set_cons_succ]
            refine takeY 13 _ (v := ?_) rfl rfl (by kernel_rfl) (by kernel_rfl) (by kernel_rfl) (fun _ _ _ h => h) (by kernel_rfl) ?_ (by assumption) ?_
            rotate_left 1
            · intro w hSw; (try dsimp only at hSw); go_simp; (try with_reducible rfl)
            try simp only [Act.put, List.setIfInBounds_toArray, List.set_cons_zero, List.set_cons_succ]
            refine takeY 14 _ (v := ?_) rfl rfl (by kernel_rfl) (by kernel_rfl) (by kernel_rfl) (fun _ _ _ h => h) (by kernel_rfl) ?_ (by assumption) ?_
            rotate_left 1
            · intro w hSw; (try dsimp only at hSw); go_simp; (try with_reducible rfl)
            try simp only [Act.put, List.setIfInBounds_toArray, List.set_cons_zero, List.set_cons_succ]
            refine takeY 15 _ (v := ?_) rfl rfl (by kernel_rfl) (by kernel_rfl) (by kernel_rfl) (fun _ _ _ h => h) (by kernel_rfl) ?_ (by assumption) ?_
            rotate_left 1
            · intro w hSw; (try dsimp only at hSw); go_simp; (try with_reducible rfl)
            try simp only [Act.put, List.setIfInBounds_toArray, List.set_cons_zero, List.set_cons_succ]
            refine takeY 16 _ (v := ?_) rfl rfl (by kernel_rfl) (by kernel_rfl) (by kernel_rfl) (fun _ _ _ h => h) (by kernel_rfl) ?_ (by assumption) ?_
            rotate_left 1
            · intro w hSw; (try dsimp only at hSw); go_simp; (try with_reducible rfl)
            try simp only [Act.put, List.setIfInBounds_toArray, List.set_cons_zero, List.set_cons_succ]
            refine takeY 17 _ (v := ?_) rfl rfl (by kernel_rfl) (by kernel_rfl) (by kernel_rfl) (fun _ _ _ h => h) (by kernel_rfl) ?_ (by assumption) ?_
            rotate_left 1
            · intro w hSw; (try dsimp only at hSw); go_simp; (try with_reducible rfl)
            try simp only [Act.put, List.setIfInBounds_toArray, List.set_cons_zero, List.set_cons_succ]
            refine takeY 18 _ (v := ?_) rfl rfl (by kernel_rfl) (by kernel_rfl) (by kernel_rfl) (fun _ _ _ h => h) (by kernel_rfl) ?_ (by assumption) ?_
            rotate_left 1
            · intro w hSw; (try dsimp only at hSw); go_simp; (try with_reducible rfl)
            try simp only [Act.put, List.setIfInBounds_toArray, List.set_cons_zero, List.set_cons_succ]
            refine takeY 19 _ (v := ?_) rfl rfl (by kernel_rfl) (by kernel_rfl) (by kernel_rfl) (fun _ _ _ h => h) (by kernel_rfl) ?_ (by assumption) ?_
            rotate_left 1
            · intro w hSw; (try dsimp only at hSw); go_simp; (try with_reducible rfl)
            try simp only [Act.put, List.setIfInBounds_toArray, List.set_cons_zero, List.set_cons_succ]
            refine takeY 20 _ (v := ?_) rfl rfl (by kernel_rfl) (by kernel_rfl) (by kernel_rfl) (fun _ _ _ h => h) (by kernel_rfl) ?_ (by assumption) ?_
            rotate_left 1
            · intro w hSw; (try dsimp only at hSw); go_simp; (try with_reducible rfl)
            try simp only [Act.put, List.setIfInBounds_toArray, List.set_cons_zero, List.set_cons_succ]
            refine takeY 21 _ (v := ?_) rfl rfl (by kernel_rfl) (by kernel_rfl) (by kernel_rfl) (fun _ _ _ h => h) (by kernel_rfl) ?_ (by assumption) ?_
            rotate_left 1
            · intro w hSw; (try dsimp only at hSw); go_simp; (try with_reducible rfl)
            try simp only [Act.put, List.setIfInBounds_toArray, List.set_cons_zero, List.set_cons_succ]
            refine takeY 22 _ (v := ?_) rfl rfl (by kernel_rfl) (by kernel_rfl) (by kernel_rfl) (fun _ _ _ h => h) (by kernel_rfl) ?_ (by assumption) ?_
            rotate_left 1
            · intro w hSw; (try dsimp only at hSw); go_simp; (try with_reducible rfl)
            try simp only [Act.put, List.setIfInBounds_toArray, List.set_cons_zero, List.set_cons_succ]
            refine takeY 23 _ (v := ?_) rfl rfl (by kernel_rfl) (by kernel_rfl) (by kernel_rfl) (fun _ _ _ h => h) (by kernel_rfl) ?_ (by assumption) ?_
            rotate_left 1
            · intro w hSw; (try dsimp only at hSw); go_simp; (try with_reducible rfl)
            try simp only [Act.put, List.setIfInBounds_toArray, List.set_cons_zero, List.set_cons_succ]
            refine takeY 24 _ (v := ?_) rfl rfl (by kernel_rfl) (by kernel_rfl) (by kernel_rfl) (fun _ _ _ h => h) (by kernel_rfl) ?_ (by assumption) ?_
            rotate_left 1
            · intro w hSw; (try dsimp only at hSw); go_simp; (try with_reducible rfl)
            try simp only [Act.put, List.setIfInBounds_toArray, List.set_cons_zero, List.set_cons_succ]
            refine takeY 25 _ (v := ?_) rfl rfl (by kernel_rfl) (by kernel_rfl) (by kernel_rfl) (fun _ _ _ h => h) (by kernel_rfl) ?_ (by assumption) ?_
            rotate_left 1
            · intro w hSw; (try dsimp only at hSw); go_simp; (try with_reducible rfl)
            try simp only [Act.put, List.setIfInBounds_toArray, List.set_cons_zero, List.set_cons_succ]
            refine takeY 26 _ (v := ?_) rfl rfl (by kernel_rfl) (by kernel_rfl) (by kernel_rfl) (fun _ _ _ h => h) (by kernel_rfl) ?_ (by assumption) ?_
            rotate_left 1
            · intro w hSw; (try dsimp only at hSw); go_simp; (try with_reducible rfl)
            try simp only [Act.put, List.setIfInBounds_toArray, List.set_cons_zero, List.set_cons_succ]
            refine takeY 27 _ (v := ?_) rfl rfl (by kernel_rfl) (by kernel_rfl) (by kernel_rfl) (fun _ _ _ h => h) (by kernel_rfl) ?_ (by assumption) ?_
            rotate_left 1
            · intro w hSw; (try dsimp only at hSw); go_simp; (try with_reducible rfl)
            try simp only [Act.put, List.setIfInBounds_toArray, List.set_cons_zero, List.set_cons_succ]
            refine takeY 28 _ (v := ?_) rfl rfl (by kernel_rfl) (by kernel_rfl) (by kernel_rfl) (fun _ _ _ h => h) (by kernel_rfl) ?_ (by assumption) ?_
            rotate_left 1
            · intro w hSw; (try dsimp only at hSw); go_simp; (try with_reducible rfl)
            try simp only [Act.put, List.setIfInBounds_toArray, List.set_cons_zero, List.set_cons_succ]
            refine takeY 29 _ (v := ?_) rfl rfl (by kernel_rfl) (by kernel_rfl) (by kernel_rfl) (fun _ _ _ h => h) (by kernel_rfl) ?_ (by assumption) ?_
            rotate_left 1
            · intro w hSw; (try dsimp only at hSw); go_simp; (try with_reducible rfl)
            try simp only [Act.put, List.setIfInBounds_toArray, List.set_cons_zero, List.set_cons_succ]
            refine wpAnyH_done (by kernel_rfl) ?_ _
            go_wp2_with (at_builtin; go_loud (refine Go.wpList_append_lies _ rfl _ _ 24 rfl gt 2 i0 (.int .i64 0) 1 8 Try.underlying24 hi0 hy0 hy1 hy2 rfl (by decide) (.slice (some ⟨gt, 0, none⟩) i ct) i (T.map (.int .i64)) rfl (by (have h3 := HT2.out.1; rw [hT.out] at h3; exact World.ownsRow.alloc h3 _)) ⟨w2.heap.size, 0, none⟩ 1 1 [.int .i64 t] rfl rfl (World.news_of_block (cs := #[.int .i64 t]) (t := 2) (fr := (0, 0)) (heap_alloc_new w2 _)) (by simp [Value.oneCell']) (by decide) (by simp only [maxLen]; omega) (by omega) (by (show gt ≤ (w2.alloc _).heap.size; simp; omega)) _ rfl ?_; intro g3 cap3 w3 hown3 hgrow4 hg3 hlt3; (have hgrow3 : (w2.alloc (.cells #[.int .i64 t] 2)).grownBy w3 (Value.slice (some ⟨gt, 0, none⟩) i ct).ownBlock := ⟨hgrow4.os, hgrow4.tape, hgrow4.output, hgrow4.size, hgrow4.block⟩); (have hz2 : (w2.alloc (.cells #[.int .i64 t] 2)).heap.size = w2.heap.size + 1 := by simp); (have hgb3 : Below W0.heap.size (w2.alloc (.cells #[.int .i64 t] 2)) w3 := Below.grown (Below.refl _ _) hgrow3 (by (rw [hz2]; omega)) (fun k hk => by (simp [Value.ownBlock] at hk; omega))); (have HB3 := Lib.hid ((HB2.out.alloc (by omega) _).trans hgb3)); (have HT3 : Hid (OwnI w3 g3 (g3 + 1) (.slice (some ⟨g3, 0, none⟩) (i + 1) cap3) (T ++ [t])) := Lib.hid (own_tight (OwnI.mk' (lo := gt) (n := i + 1) (by (rw [List.map_append]; exact hown3))) hlt3)); (have HE3 := Lib.hid (HE2.out.kept (kept_grown2 (kept_box w2 (.cells #[.int .i64 t] 2) g2 (g2 + 1) (by (have := HE2.out.2.2; omega))) hgrow3 (by (rw [hz2]; have := HE2.out.2.2; omega)) (kept_one (show some g2 ≠ (Value.slice (some ⟨gt, 0, none⟩) i ct).ownBlock by (simp [Value.ownBlock]; omega)))))); (have HX3 := Lib.hid ((HX2.out.alloc (.cells #[.int .i64 t] 2)).kept hgrow3 (show some b0 ≠ (Value.slice (some ⟨gt, 0, none⟩) i ct).ownBlock by (simp [Value.ownBlock]; omega)))); (have hg3n : g3 ≠ g2 ∧ g3 ≠ b0 ∧ W0.heap.size ≤ g3 := by (rcases hg3 with h | h; (simp [Value.ownBlock] at h; omega); (have h9 : g3 = w2.heap.size + 1 := h.trans hz2); (have := HE2.out.2.2); omega)); (have x3 := HX3.out.cell); (have f3 := HX3.out.frozen); (have hsz3 : w2.heap.size ≤ w3.heap.size := by (have := hgrow3.size; omega)); clear hown3 hgrow3 hgrow4 hg3 hgb3 hz2))
            go_roundw
            case rel =>
              have HX4 := Lib.hid (HX3.out.set (.slice (some ⟨g3, 0, none⟩) (i + 1) cap3))
              have HT4 := Lib.hid (HT3.out.kept (keptS' w3 (p := ⟨b0, 0, none⟩) (show ¬ (g3 ≤ b0 ∧ b0 < g3 + 1) by omega) (.slice (some ⟨g3, 0, none⟩) (i + 1) cap3)))
              have HE4 := Lib.hid (HE3.out.kept (keptS' w3 (p := ⟨b0, 0, none⟩) (show ¬ (g2 ≤ b0 ∧ b0 < g2 + 1) by omega) (.slice (some ⟨g3, 0, none⟩) (i + 1) cap3)))
              have HB4 := Lib.hid (HB3.out.setCell (p := ⟨b0, 0, none⟩) (show W0.heap.size ≤ b0 by omega) (.slice (some ⟨g3, 0, none⟩) (i + 1) cap3))
              exact ⟨i + 1, _, _, _, _, some ⟨g2, 0, none⟩, g2, cap2, g3, cap3, by omega, HST2.out, rfl, rfl, by go_num, Lib.hid (by rw [List.length_append, hE.out]; rfl), HEB2, Lib.hid (by rw [List.length_append, hT.out]; rfl), HP2, HG2, HE4, HT4, HX4, by omega, by simp [World.setCell]; omega, HB4⟩
            case measure => simp [intOf]; omega
end Go.Proofs.Ytjgidalmgoifgaa
