/- ZI: RdM RdI RdS RdB RdT RdU StS. Conditions: stated at each theorem. -/
import Derived.Test.YtoebbhicffgdgaaZD
import Derived.Test.YtoebbhicffgdgaaZB
import Derived.Test.YtoebbhicffgdgaaZA
import Derived.Test.YtoebbhicffgdgaaZC
import Derived.WalkMore
import Derived.RangeFuncNested
import Derived.Deep.DeepCutAuto
import Derived.Test.YtoebbhicffgdgaaZR
/- Reading a branch from its sequence: plain mathematics of chapter 4. Conditions: stated at each theorem. -/
namespace Go.Proofs.Ytoebbhicffgdgaa
set_option linter.unusedVariables false

/-- Steps are read from the beginning of a list: the last divisor, and what is left. -/
def eat : List (Int × Int) → Int → List Int → Option (Int × List Int)
  | [], e, R => some (e, R)
  | (q, r) :: S, _, R => if (lead r R : Int) < q then none else eat S r (R.drop q.toNat)
/-- The first number of a run. -/
def kk (e : Int) (R : List Int) : Int := (lead e R : Int) * e + R[lead e R]?.getD 0
/-- Runs are read: the terms, and what is left. -/
def rd : Nat → Int → Int → List Int → Option (List Int × List Int)
  | 0, _, _, _ => none
  | f + 1, e, t, R =>
    if e ≤ 1 then some ([], R)
    else if lead e R = R.length then none
    else match eat (steps (kk e R) e) e R with
      | none => none
      | some p => match rd f p.1 (t + kk e R) p.2 with
        | none => none
        | some x => some ((t + kk e R) :: x.1, x.2)
def rdC (T : List Int) : Option (List Int × List Int) → Option (List Int × List Int)
  | none => none
  | some p => some (T ++ p.1, p.2)
theorem rdC_nil (o : Option (List Int × List Int)) : rdC [] o = o := by cases o <;> rfl
theorem rd_end {f : Nat} {e t : Int} {R : List Int} (h : e ≤ 1) : rd (f + 1) e t R = some ([], R) := by rw [rd, if_pos h]
theorem rd_short {f : Nat} {e t : Int} {R : List Int} (h : ¬ e ≤ 1) (h2 : lead e R = R.length) : rd (f + 1) e t R = none := by rw [rd, if_neg h, if_pos h2]
theorem rd_none {f : Nat} {e t : Int} {R : List Int} (h : ¬ e ≤ 1) (h2 : ¬ lead e R = R.length) (h3 : eat (steps (kk e R) e) e R = none) : rd (f + 1) e t R = none := by rw [rd, if_neg h, if_neg h2, h3]
theorem rd_more {f : Nat} {e t e' : Int} {R R' T : List Int} (h : ¬ e ≤ 1) (h2 : ¬ lead e R = R.length) (h3 : eat (steps (kk e R) e) e R = some (e', R')) :
    rdC T (rd (f + 1) e t R) = rdC (T ++ [t + kk e R]) (rd f e' (t + kk e R) R') := by
  rw [rd, if_neg h, if_neg h2, h3]
  cases hx : rd f e' (t + kk e R) R' with
  | none => simp only [hx]; rfl
  | some x => simp only [hx, rdC, List.append_assoc]; rfl
/-- What reading steps leaves. -/
theorem eat_stL : ∀ (f : Nat) (a b e0 : Int) (R : List Int), 0 ≤ a → 1 ≤ b → b.toNat < f → ∀ e' R', eat (stL f a b) e0 R = some (e', R') → e' = (Int.gcd a b : Int)
  | 0, _, b, _, _, _, _, h, _, _, _ => by omega
  | f + 1, a, b, e0, R, ha, hb, hf, e', R', h => by
    unfold stL at h
    rw [if_neg (by omega)] at h
    simp only [eat] at h
    split at h
    · cases h
    · have h1 : 0 ≤ a % b ∧ a % b < b := ⟨Int.emod_nonneg _ (by omega), Int.emod_lt_of_pos _ (by omega)⟩
      have hg : (Int.gcd b (a % b) : Int) = (Int.gcd a b : Int) := by
        have e1 : a % b + b * (a / b) = a := Int.emod_add_mul_ediv a b
        have e2 : Int.gcd b (a % b + b * (a / b)) = Int.gcd b (a % b) := Int.gcd_add_mul_left_right ..
        rw [e1] at e2
        rw [Int.gcd_comm a b, e2]
      by_cases h0 : a % b = 0
      · have h2 : stL f b (a % b) = [] := by
          cases f with
          | zero => rfl
          | succ f => rw [stL, if_pos (by omega)]
        rw [h2] at h
        simp only [eat, Option.some.injEq, Prod.mk.injEq] at h
        rw [← h.1, ← hg, h0, Int.gcd_zero_right]; omega
      · rw [← hg]
        exact eat_stL f b (a % b) b _ (by omega) (by omega) (by omega) e' R' h
theorem eat_gcd {k e e0 e' : Int} {R R' : List Int} (hk : 0 ≤ k) (he : 1 ≤ e) (h : eat (steps k e) e0 R = some (e', R')) : e' = (Int.gcd k e : Int) := eat_stL _ k e e0 R hk he (by omega) e' R' h
/-- A run that can be read divides the divisor. -/
theorem eat_less {e e' : Int} {R R' : List Int} (he : 1 ≤ e) (hR : ∀ x ∈ R, (1 : Int) ≤ x) (hl : lead e R < R.length) (h : eat (steps (kk e R) e) e R = some (e', R')) :
    (1 ≤ e' ∧ e' < e) ∧ (R[lead e R]?.getD 0 < e ∧ 1 ≤ R[lead e R]?.getD 0) ∧ e' = (Int.gcd e (kk e R) : Int) := by
  have hx : 1 ≤ R[lead e R]?.getD 0 := by
    have := hR R[lead e R] (List.getElem_mem _); simpa [hl] using this
  have hk0 : 0 ≤ kk e R := by
    unfold kk
    have : 0 ≤ (lead e R : Int) * e := Int.mul_nonneg (by omega) (by omega)
    omega
  have hg := eat_gcd hk0 he h
  have hq : kk e R / e ≤ (lead e R : Int) := by
    unfold steps at h
    unfold stL at h
    rw [if_neg (by omega)] at h
    simp only [eat] at h
    split at h
    · cases h
    · omega
  have hxe : R[lead e R]?.getD 0 < e := by
    by_cases h1 : R[lead e R]?.getD 0 < e
    · exact h1
    · have h2 : ((lead e R : Int) + 1) * e ≤ kk e R := by unfold kk; rw [Int.add_mul]; omega
      have h3 := (Int.le_ediv_iff_mul_le (a := (lead e R : Int) + 1) (b := kk e R) (c := e) (by omega)).2 h2
      omega
  have hd : (Int.gcd (kk e R) e : Int) ∣ R[lead e R]?.getD 0 := by
    have h1 : (Int.gcd (kk e R) e : Int) ∣ kk e R := Int.gcd_dvd_left _ _
    have h2 : (Int.gcd (kk e R) e : Int) ∣ (lead e R : Int) * e := Int.dvd_trans (Int.gcd_dvd_right _ _) (Int.dvd_mul_left _ _)
    have h3 := Int.dvd_sub h1 h2
    unfold kk at h3 ⊢
    rwa [show (lead e R : Int) * e + R[lead e R]?.getD 0 - (lead e R : Int) * e = R[lead e R]?.getD 0 by omega] at h3
  have h4 := Int.le_of_dvd (by omega) hd
  have h5 := gcd_le (e := kk e R) he
  refine ⟨⟨by omega, by omega⟩, ⟨hxe, hx⟩, by rw [hg, Int.gcd_comm]⟩
/-- The divisor of a list of terms. -/
def gcF (e : Int) : List Int → Int
  | [] => e
  | z :: r => gcF (Int.gcd e z : Int) r
theorem gcF_snoc : ∀ (T : List Int) (e z : Int), gcF e (T ++ [z]) = (Int.gcd (gcF e T) z : Int)
  | [], _, _ => rfl
  | y :: T, e, z => gcF_snoc T _ z
theorem gcF_des : ∀ (T : List Int) (e : Int), desB e T = true → gcF e T = 1
  | [], e, h => by simpa [desB, gcF] using h
  | z :: T, e, h => by
    simp only [desB, Bool.and_eq_true] at h
    exact gcF_des T _ h.2
theorem br_gcF {n : Int} {T : List Int} (h : gcF n T ≠ 1) : brB (n :: T) = false := by
  cases hb : brB (n :: T)
  · rfl
  · have h1 := brB_dcB hb
    simp only [dcB, Bool.and_eq_true] at h1
    exact absurd (gcF_des T n h1.2.2) h
/-- Lists of 1 to 400 numbers in 1..64. -/
def sqlB (L : List Int) : Bool := decide (1 ≤ L.length ∧ L.length ≤ 400) && L.all mulB
theorem sql_yes {L : List Int} (h : sqlB L = true) : (1 ≤ L.length ∧ L.length ≤ 400) ∧ ∀ x ∈ L, 1 ≤ x ∧ x ≤ 64 := by
  simp only [sqlB, Bool.and_eq_true, decide_eq_true_eq, List.all_eq_true] at h
  exact ⟨h.1, fun x hx => mulB_true.1 (h.2 x hx)⟩
def bsR (L : List Int) : Option (List Int × List Int) := rd 65 (L[0]?.getD 0) 0 L
def bsB (L : List Int) : Bool := match bsR L with
  | none => false
  | some p => brB (L[0]?.getD 0 :: p.1) && decide (lead 1 p.2 = p.2.length)
def bsT (L : List Int) : List Int := match bsR L with
  | none => []
  | some p => L[0]?.getD 0 :: p.1
def bsA (L : List Int) : List Int := if sqlB L then (if bsB L then bsT L else []) else []
def bsC (L : List Int) : Int := if sqlB L then (if bsB L then 0 else 5) else 2
theorem bs_no {L : List Int} (h : sqlB L = false) : bsA L = [] ∧ bsC L = 2 := by simp [bsA, bsC, h]
theorem bs_out {L : List Int} (h : sqlB L = true) (h2 : bsB L = false) : bsA L = [] ∧ bsC L = 5 := by simp [bsA, bsC, h, h2]
theorem bs_yes {L : List Int} (h : sqlB L = true) (h2 : bsB L = true) : bsA L = bsT L ∧ bsC L = 0 := by simp [bsA, bsC, h, h2]
theorem rd_len : ∀ (f : Nat) (e t : Int) (R : List Int) (x : List Int × List Int), rd f e t R = some x → x.1.length ≤ f
  | 0, _, _, _, _, h => by cases h
  | f + 1, e, t, R, x, h => by
    rw [rd] at h
    split at h
    · cases h; simp
    · split at h
      · cases h
      · split at h
        · cases h
        · split at h
          · cases h
          · rename_i p _ y hy
            have := rd_len f _ _ _ _ hy
            cases h
            simp; omega
theorem bsA_len (L : List Int) : (bsA L).length ≤ 1099511627776 := by
  unfold bsA
  split
  · split
    · unfold bsT
      cases h : bsR L with
      | none => simp
      | some p =>
        have := rd_len _ _ _ _ _ h
        simp; omega
    · simp
  · simp
end Go.Proofs.Ytoebbhicffgdgaa
/- Runs that are read from a list, the program's: contract of impl.readRuns. Conditions: stated at each theorem. -/
namespace Go.Proofs.Ytoebbhicffgdgaa
open Go.ChangeShapes Go.WideShapes Go.ChangeAt Go.RowKit Go.Deep
set_option linter.unusedVariables false
set_option linter.unusedSimpArgs false

theorem stL_ok2 : ∀ (f : Nat) (a b : Int), (0 ≤ a ∧ a ≤ 1000000) → (0 ≤ b ∧ b ≤ 64) → ∀ p ∈ stL f a b, (0 ≤ p.1 ∧ p.1 ≤ 1000000) ∧ 1 ≤ p.2 ∧ p.2 ≤ 64
  | 0, _, _, _, _ => by simp [stL]
  | f + 1, a, b, ha, hb => by
    unfold stL
    split
    · simp
    · intro p hp
      rcases List.mem_cons.1 hp with rfl | hp
      · have h1 : 0 ≤ a / b ∧ a / b ≤ a := ⟨Int.ediv_nonneg (by omega) (by omega), Int.ediv_le_self _ (by omega)⟩
        exact ⟨by dsimp; omega, by dsimp; omega⟩
      · have h2 : 0 ≤ a % b ∧ a % b < b := ⟨Int.emod_nonneg _ (by omega), Int.emod_lt_of_pos _ (by omega)⟩
        exact stL_ok2 f b (a % b) (by omega) (by omega) p hp
theorem steps_mem2 {base : Nat} {w2 : World} {L : List (Int × Int)} {A : Option Addr} {c : Nat} {vf : Nat → Value}
    (ho : OwnSS w2 base A L.length c vf two (fun i => (stF L i).map (.int .i64))) : ∀ i, i < L.length →
    ∃ go gi ci, A = some ⟨go, 0, none⟩ ∧ go < w2.heap.size ∧ gi < w2.heap.size ∧ w2.cell? ⟨go, i, none⟩ = some (.slice (some ⟨gi, 0, none⟩) 2 ci) ∧ w2.cell? ⟨gi, 0, none⟩ = some (.int .i64 (L[i]?.getD (0, 0)).1) ∧ w2.cell? ⟨gi, 1, none⟩ = some (.int .i64 (L[i]?.getD (0, 0)).2) := by
  intro i hi
  obtain ⟨go, rfl, hgo, hc⟩ := ho.cell hi
  have hin := ho.inner i hi
  rcases hin.2 with ⟨_, e0⟩ | ⟨gi, ci, cur, e, hbi, hgi, _⟩
  · cases e0
  · have hlt := (World.ownsRow.lt hin gi (by rw [e]; rfl)).2
    rw [e] at hc hin
    have hi2 : two i = 2 := rfl
    rw [hi2] at hc hin
    exact ⟨go, gi, ci, rfl, hgo, hlt, hc, World.ownsRow.cellAt hin 0 (by omega), World.ownsRow.cellAt hin 1 (by omega)⟩
theorem ri_at {w W : World} {g o n M x : Nat} {zs R : List Int} (hC : ∀ k, k < n → w.cell? ⟨g, o + k, none⟩ = some (.int .i64 (zs[k]?.getD 0))) (hg : g < w.heap.size) (hb : Below w.heap.size w W) (hL : zs.length = n) (hM : M ≤ n) (hx : M = 0 ∨ x = o + (n - M)) (hR : zs.drop (n - M) = R) :
    RI W w.heap.size (some ⟨g, x, none⟩) M R := by
  subst hR
  refine ⟨by rw [List.length_drop, hL]; omega, fun k hk => ⟨_, rfl, hg, ?_⟩⟩
  rcases hx with h0 | h0
  · omega
  · rw [add_lit, h0, hb.cell (p := ⟨g, o + (n - M) + k, none⟩) hg, Nat.add_assoc, hC (n - M + k) (by omega)]
    simp [List.getD]
theorem mul_range2 {a b A B : Int} (h1 : 0 ≤ a ∧ a ≤ A) (h2 : 0 ≤ b ∧ b ≤ B) : 0 ≤ a * b ∧ a * b ≤ A * B :=
  ⟨Int.mul_nonneg h1.1 h2.1, Int.mul_le_mul h1.2 h2.2 h2.1 (by omega)⟩
/-- What reading runs leaves. -/
def RdAns (w : World) (zs : List Int) (e : Ending) (w' : World) : Prop :=
  ∃ vT T R A' M c', e = .returned (.tuple #[vT, .slice A' M c']) ∧ OwnI w' w.heap.size w'.heap.size vT T ∧ (RI w' w.heap.size A' M R ∧ M ≤ c' ∧ c' ≤ 9223372036854775807 ∧ ∀ x ∈ R, 1 ≤ x ∧ x ≤ 64) ∧ (T.length ≤ 64 ∧ (∀ z ∈ T, 0 ≤ z ∧ z ≤ 1642496) ∧ (bsR zs = some (T, R) ∨ (bsR zs = none ∧ gcF (zs[0]?.getD 0) T ≠ 1)) ∧ Below w.heap.size w w')

set_option maxRecDepth 100000 in
set_option maxHeartbeats 1500000 in
theorem readRuns_any (v : Value) (zs : List Int) (w : World) (h : ReadI w w.heap.size v zs) (hs : sqlB zs = true) :
    Calls Try.prog 103 #[v] w (RdAns w zs) := by
  obtain ⟨⟨hn1, hn2⟩, hz⟩ := sql_yes hs
  obtain ⟨n, A, c, rfl, hr, HL, _, hnc, HF, hcm⟩ := h.split2
  rw [HL.out] at hn1 hn2
  obtain ⟨a, rfl, hlt, hc0⟩ := hr.2 0 hn1
  obtain ⟨g, o, rfl⟩ := HF.out a rfl
  have hgw : g < w.heap.size := hlt
  have HC : Hid (∀ k, k < n → w.cell? ⟨g, o + k, none⟩ = some (.int .i64 (zs[k]?.getD 0))) := Lib.hid fun k hk => by
    obtain ⟨a', e1, _, h3⟩ := hr.2 k hk
    cases e1
    have h2 : (⟨g, o, none⟩ : Addr).add k = ⟨g, o + k, none⟩ := by rw [add_lit]
    rw [h2] at h3; rw [h3]; rfl
  have HZ := Lib.hid hz
  have hz0 : (1 : Int) ≤ zs[0]?.getD 0 ∧ zs[0]?.getD 0 ≤ 64 := by
    have h9 : 0 < zs.length := by rw [HL.out]; omega
    have := hz zs[0] (List.getElem_mem h9); simpa [h9] using this
  have hc0 := HC.out 0 hn1
  rw [Nat.add_zero] at hc0
  have HB0 : Hid (bsR zs = rdC [] (rd 65 (zs[0]?.getD 0) 0 (zs.drop (n - n)))) := Lib.hid (by rw [rdC_nil, Nat.sub_self]; rfl)
  have HWF : Hid (∀ (i : Nat), ∀ z ∈ zs.drop i, (Lit.int .i64 z).wf = true) := Lib.hid (fun i z hz' => by have := HZ.out z (List.mem_of_mem_drop hz'); exact WalkArith.wf_i64 (by omega))
  have HG0 : Hid (gcF (zs[0]?.getD 0) [] = zs[0]?.getD 0) := Lib.hid rfl
  obtain ⟨z0, hz00⟩ : ∃ z, zs[0]?.getD 0 = z := ⟨_, rfl⟩
  have HZ0 := Lib.hid hz00
  rw [hz00] at hz0 hc0 HB0 HG0
  have HC00 := Lib.hid hc0
  clear h hr hlt hz hz00
  obtain ⟨i0, hi0, hz0', hz1, hz2⟩ := info_parts int_info
  have HO0 : Hid (Own w w.heap.size (.slice none 0 0) 0 (([] : List Int).map (.int .i64))) := Lib.hid (Own.nil _ _)
  have HBB : Hid (Below w.heap.size w w) := Lib.hid (Below.refl _ _)
  go_enter Try.func103, Try.ntmps103
  go_wp2_with fail
  go_step3
  go_wp2_with fail
  go_step3
  go_wp2_with fail
  clear hc0
  go_loopw [2, 3, 4, 5] (fun v2 v3 v4 v5 wr => ∃ (T : List Int) (A2 : Option Addr) (c2 j M x c' : Nat) (t e : Int) (f : Nat), v2 = .slice A2 j c2 ∧ v3 = .slice (some ⟨g, x, none⟩) M c' ∧ v4 = .int .i64 t ∧ v5 = .int .i64 e ∧ (M ≤ n ∧ M ≤ c' ∧ c' ≤ 9223372036854775807) ∧ Hid (M = 0 ∨ x = o + (n - M)) ∧ (1 ≤ e ∧ e ≤ 64) ∧ e.toNat < f ∧ (0 ≤ t ∧ t ≤ (64 - e) * 25664) ∧ Hid (e ∣ t) ∧ Hid (gcF z0 T = e) ∧ Hid (T.length = j) ∧ Hid (∀ z ∈ T, 0 ≤ z ∧ z ≤ 1642496) ∧ (j : Int) + e ≤ 64 ∧ Hid (bsR zs = rdC T (rd f e t (zs.drop (n - M)))) ∧ Hid (Own wr w.heap.size (.slice A2 j c2) j (T.map (.int .i64))) ∧ Hid (Below w.heap.size w wr)) (fun _ _ _ v5 _ => (intOf v5).toNat)
  case atStart => exact ⟨[], none, 0, 0, n, o, c, 0, z0, 65, rfl, rfl, rfl, rfl, by omega, Lib.hid (.inr (by omega)), hz0, by omega, by omega, Lib.hid (Int.dvd_zero _), HG0, Lib.hid rfl, Lib.hid (fun z h => by cases h), by omega, HB0, HO0, HBB⟩
  case round =>
    clear HO0 HBB HB0 HG0
    obtain ⟨T, A2, c2, j, M, x, c', t, e, f, rfl, rfl, rfl, rfl, hM, hx, he, hf, ht, hdv, hg, hT, hTB, hje, hbs, ho, hb⟩ := hrel
    have hsz := hb.out.size
    obtain ⟨R, hR⟩ : ∃ R, zs.drop (n - M) = R := ⟨_, rfl⟩
    have HRL : Hid (R.length = M) := Lib.hid (by rw [← hR, List.length_drop, HL.out]; omega)
    have HR1 : Hid (∀ z ∈ R, (Lit.int .i64 z).wf = true) := Lib.hid (by rw [← hR]; exact HWF.out _)
    have HR64 : Hid (∀ y ∈ R, (1 : Int) ≤ y ∧ y ≤ 64) := Lib.hid (fun y hy => by rw [← hR] at hy; exact HZ.out y (List.mem_of_mem_drop hy))
    have HRI : Hid (RI wr w.heap.size (some ⟨g, x, none⟩) M R) := Lib.hid (ri_at HC.out hgw hb.out HL.out hM.1 hx.out hR)
    rw [hR] at hbs
    have HRR := Lib.hid hR
    clear hR
    have HOT : Hid (OwnI wr w.heap.size wr.heap.size (.slice A2 j c2) T) := Lib.hid (OwnI.mk' ho.out)
    have hTj := hT.out
    obtain ⟨f, rfl⟩ : ∃ f', f = f' + 1 := ⟨f - 1, by omega⟩
    by_cases he1 : e ≤ 1
    · have hei : ¬ (1 : Int) < e := by omega
      have HE : Hid (bsR zs = some (T, R)) := Lib.hid (by rw [hbs.out, rd_end he1]; simp [rdC])
      clear he1
      go_wp2_with fail
      go_ret2
      exact ⟨_, T, R, _, M, c', rfl, HOT.out, ⟨HRI.out, hM.2.1, hM.2.2, HR64.out⟩, by omega, hTB.out, .inl HE.out, hb.out⟩
    · have hei : (1 : Int) < e := by omega
      have HCL := fun W (h : RI W w.heap.size (some ⟨g, x, none⟩) M R) (h2 : w.heap.size ≤ W.heap.size) => hid_in (countLeading_any (some ⟨g, x, none⟩) M c' R e W w.heap.size h h2 (by omega) HR1.out)
      have hlk := lead_le e R
      rw [HRL.out] at hlk
      have HGNE : Hid (gcF z0 T ≠ 1) := Lib.hid (by rw [hg.out]; omega)
      have HKK : Hid (kk e R = (lead e R : Int) * e + R[lead e R]?.getD 0) := Lib.hid rfl
      obtain ⟨k, hk⟩ : ∃ k, lead e R = k := ⟨_, rfl⟩
      rw [hk] at hlk HCL HKK
      have HLK := Lib.hid hk
      have HE1 := Lib.hid he1
      clear hk he1
      go_wp2_with fail
      refine (HCL wr HRI.out hsz).out.mono ?_
      rintro e9 w1 ⟨rfl, hb1⟩
      have HB1 := Lib.hid (hb.out.trans (hb1.mono hsz))
      have HO1' := Lib.hid (Own.below ho.out hb1)
      have hsz1 := HB1.out.size
      have HRI1 : Hid (RI w1 w.heap.size (some ⟨g, x, none⟩) M R) := Lib.hid (ri_at HC.out hgw HB1.out HL.out hM.1 hx.out HRR.out)
      clear HCL hb1
      by_cases hkM : k = M
      · have hki : (k : Int) = (M : Int) := by omega
        have HE : Hid (bsR zs = none) := Lib.hid (by rw [hbs.out, rd_short (by have := HE1.out; omega) (by rw [HLK.out, HRL.out, hkM])]; rfl)
        have HOT1 : Hid (OwnI w1 w.heap.size w1.heap.size (.slice A2 j c2) T) := Lib.hid (OwnI.mk' HO1'.out)
        subst hkM
        clear hki
        go_wp2_with fail
        go_ret2
        exact ⟨_, T, R, _, k, c', rfl, HOT1.out, ⟨HRI1.out, hM.2.1, hM.2.2, HR64.out⟩, by omega, hTB.out, .inr ⟨HE.out, by rw [HZ0.out]; exact HGNE.out⟩, HB1.out⟩
      · have hkM2 : k < M := by omega
        have hki : ¬ (k : Int) = (M : Int) := by omega
        have hkMi : (k : Int) < (M : Int) := by omega
        have hxe : x = o + (n - M) := by
          rcases hx.out with h0 | h0
          · omega
          · exact h0
        subst hxe
        obtain ⟨a', e1, _, hck0⟩ := HRI1.out.2 k hkM2
        cases e1
        rw [add_lit] at hck0
        have hck : w1.cell? ⟨g, o + (n - M) + k, none⟩ = some (.int .i64 (R[k]?.getD 0)) := by simpa [List.getD] using hck0
        clear hck0
        have hy64 : (1 : Int) ≤ R[k]?.getD 0 ∧ R[k]?.getD 0 ≤ 64 := by
          have h9 : k < R.length := by rw [HRL.out]; exact hkM2
          have := HR64.out R[k] (List.getElem_mem h9); simpa [h9] using this
        have HLT : Hid (lead e R < R.length) := Lib.hid (by rw [HLK.out, HRL.out]; exact hkM2)
        obtain ⟨y, hy⟩ : ∃ y, R[k]?.getD 0 = y := ⟨_, rfl⟩
        rw [hy] at hck hy64 HKK
        have hke := mul_range2 (A := 400) (B := 64) (a := (k : Int)) (b := e) (by omega) (by omega)
        obtain ⟨K, hK⟩ : ∃ K, (k : Int) * e + y = K := ⟨_, rfl⟩
        have p1 : IntKind.i64.wrap ((k : Int) * e) = (k : Int) * e := IntWalk.i64_in _ (by omega)
        have p2 : IntKind.i64.wrap ((k : Int) * e + y) = K := by rw [hK]; exact IntWalk.i64_in _ (by omega)
        have hKb : 1 ≤ K ∧ K ≤ 25664 := by omega
        have E1 : Hid (esA K e = steps K e) := Lib.hid (by simp [esA, natB_true.2 (show 1 ≤ K ∧ K ≤ 1000000000 by omega), natB_true.2 (show 1 ≤ e ∧ e ≤ 1000000000 by omega)])
        rw [hK] at HKK
        have HYY := Lib.hid hy
        clear hy hK
        have HES := fun W => hid_in (implEuclidSteps_any K e W)
        simp only [E1.out] at HES
        have HSO := Lib.hid (stL_ok2 (e.toNat + 1) K e (by omega) (by omega))
        change Hid (∀ p ∈ steps K e, _) at HSO
        have hq660 := stL_len (e.toNat + 1) K e
        change (steps K e).length ≤ _ at hq660
        obtain ⟨L2, HL2⟩ : ∃ L2, steps K e = L2 := ⟨_, rfl⟩
        have HL2' := Lib.hid HL2
        simp only [HL2] at HES HSO hq660
        generalize esC K e = C9 at HES
        clear HL2 E1
        go_wp2_with fail
        refine (HES w1).out.mono ?_
        rintro e9 w2 ⟨A, cS, vf, rfl, hos, hb2⟩
        clear HES
        have HM := Lib.hid (steps_mem2 hos)
        have hq66 : L2.length ≤ 66 := by omega
        clear hq660
        obtain ⟨q, HQ⟩ : ∃ q, L2.length = q := ⟨_, rfl⟩
        rw [HQ] at HM hq66 ⊢
        have HQ' := Lib.hid HQ
        have HB2 := Lib.hid (HB1.out.trans (hb2.mono hsz1))
        have HO2' := Lib.hid (Own.below HO1'.out hb2)
        have hsz2 := hb2.size
        have HE0 : Hid (eat L2 e R = eat (L2.drop 0) e (zs.drop (n - M))) := Lib.hid (by rw [HRR.out]; rfl)
        clear HQ hos hb2 hck
        go_wp2_with fail
        go_loopw [3, 5, 43] (fun v3 v5 v43 wr2 => ∃ (i M2 x2 c3 : Nat) (e2 : Int), i ≤ q ∧ v43 = .int .i64 i ∧ v3 = .slice (some ⟨g, x2, none⟩) M2 c3 ∧ v5 = .int .i64 e2 ∧ (M2 ≤ n ∧ M2 ≤ c3 ∧ c3 ≤ 9223372036854775807) ∧ Hid (M2 = 0 ∨ x2 = o + (n - M2)) ∧ Hid (eat L2 e R = eat (L2.drop i) e2 (zs.drop (n - M2))) ∧ Hid (Below w2.heap.size w2 wr2)) (fun _ _ v43 _ => q - (intOf v43).toNat)
        case atStart => exact ⟨0, M, _, c', e, Nat.zero_le _, rfl, rfl, rfl, hM, Lib.hid (.inr rfl), HE0, Lib.hid (Below.refl _ _)⟩
        case round =>
          clear HE0 hM hx HRI HRI1
          obtain ⟨i, M, x, c', e2, hi, rfl, rfl, rfl, hM, hx, hea, hb3⟩ := hrel
          have hsz3 := hb3.out.size
          by_cases hiq : i < q
          · obtain ⟨go, gi, ci, rfl, s1, s2, d1, d2, d3⟩ := HM.out i hiq
            replace d1 := (hb3.out.cell (p := ⟨go, i, none⟩) s1).trans d1
            replace d2 := (hb3.out.cell (p := ⟨gi, 0, none⟩) s2).trans d2
            replace d3 := (hb3.out.cell (p := ⟨gi, 1, none⟩) s2).trans d3
            have HD : Hid (L2.drop i = (L2[i]?.getD (0, 0)) :: L2.drop (i + 1)) := Lib.hid (by
              have h6 : i < L2.length := by rw [HQ'.out]; exact hiq
              rw [List.drop_eq_getElem_cons h6]; simp [h6])
            have hpo := HSO.out (L2[i]?.getD (0, 0)) (by (have h6 : i < L2.length := (by rw [HQ'.out]; exact hiq)); simp [h6])
            obtain ⟨q1, r, hqr⟩ : ∃ q1 r, L2[i]?.getD (0, 0) = (q1, r) := ⟨_, _, rfl⟩
            rw [hqr] at d2 d3 HD hpo
            dsimp only at d2 d3 hpo
            obtain ⟨qn, rfl⟩ : ∃ qn : Nat, q1 = (qn : Int) := ⟨q1.toNat, by omega⟩
            have hiqi : (i : Int) < (q : Int) := by omega
            obtain ⟨R2, hR2⟩ : ∃ R2, zs.drop (n - M) = R2 := ⟨_, rfl⟩
            have HRL2 : Hid (R2.length = M) := Lib.hid (by rw [← hR2, List.length_drop, HL.out]; omega)
            have HRW2 : Hid (∀ z ∈ R2, (Lit.int .i64 z).wf = true) := Lib.hid (by rw [← hR2]; exact HWF.out _)
            have HR642 : Hid (∀ y ∈ R2, (1 : Int) ≤ y ∧ y ≤ 64) := Lib.hid (fun y hy => by rw [← hR2] at hy; exact HZ.out y (List.mem_of_mem_drop hy))
            have HRI2 : Hid (RI wr w.heap.size (some ⟨g, x, none⟩) M R2) := Lib.hid (ri_at HC.out hgw (HB2.out.trans (hb3.out.mono (by omega))) HL.out hM.1 hx.out hR2)
            have HCL := fun W (h : RI W w.heap.size (some ⟨g, x, none⟩) M R2) (h2 : w.heap.size ≤ W.heap.size) => hid_in (countLeading_any (some ⟨g, x, none⟩) M c' R2 r W w.heap.size h h2 (by omega) HRW2.out)
            have hlk2 := lead_le r R2
            rw [HRL2.out] at hlk2
            obtain ⟨k2, hk2⟩ : ∃ k, lead r R2 = k := ⟨_, rfl⟩
            rw [hk2] at hlk2 HCL
            have HLK2 := Lib.hid hk2
            rw [hR2, HD.out] at hea
            have HRR2 := Lib.hid hR2
            clear hk2 hR2 hqr
            go_wp2_with fail
            refine wp_region_held_drew (S := fun w' => w'.cell? ⟨gi, 0, none⟩ = some (.int .i64 (qn : Int)) ∧ w'.cell? ⟨gi, 1, none⟩ = some (.int .i64 r)) (by kernel_rfl) ⟨d2, d3⟩ (fun hHeld => ?_)
            refine takeY 0 _ (v := ?_) rfl rfl (by kernel_rfl) (by kernel_rfl) (by kernel_rfl) (fun _ _ _ h => h) (by kernel_rfl) ?_ (by assumption) ?_
            rotate_left 1
            · intro w hSw; (try dsimp only at hSw); go_simp; (try with_reducible rfl)
            try simp only [Act.put, List.setIfInBounds_toArray, List.set_cons_zero, List.set_cons_succ]
            refine takeY 1 _ (v := ?_) rfl rfl (by kernel_rfl) (by kernel_rfl) (by kernel_rfl) (fun _ _ _ h => h) (by kernel_rfl) ?_ (by assumption) ?_
            rotate_left 1
            · intro w hSw; (try dsimp only at hSw); go_simp; (try with_reducible rfl)
            try simp only [Act.put, List.setIfInBounds_toArray, List.set_cons_zero, List.set_cons_succ]
            refine takeY 2 _ (v := ?_) rfl rfl (by kernel_rfl) (by kernel_rfl) (by kernel_rfl) (fun _ _ _ h => h) (by kernel_rfl) ?_ (by assumption) ?_
            rotate_left 1
            · intro w hSw; (try dsimp only at hSw); go_simp; (try with_reducible rfl)
            try simp only [Act.put, List.setIfInBounds_toArray, List.set_cons_zero, List.set_cons_succ]
            refine takeY 3 _ (v := ?_) rfl rfl (by kernel_rfl) (by kernel_rfl) (by kernel_rfl) (fun _ _ _ h => h) (by kernel_rfl) ?_ (by assumption) ?_
            rotate_left 1
            · intro w hSw; (try dsimp only at hSw); go_simp; (try with_reducible rfl)
            try simp only [Act.put, List.setIfInBounds_toArray, List.set_cons_zero, List.set_cons_succ]
            refine takeY 4 _ (v := ?_) rfl rfl (by kernel_rfl) (by kernel_rfl) (by kernel_rfl) (fun _ _ _ h => h) (by kernel_rfl) ?_ (by assumption) ?_
            rotate_left 1
            · intro w hSw; (try dsimp only at hSw); go_simp; (try with_reducible rfl)
            try simp only [Act.put, List.setIfInBounds_toArray, List.set_cons_zero, List.set_cons_succ]
            refine takeY 5 _ (v := ?_) rfl rfl (by kernel_rfl) (by kernel_rfl) (by kernel_rfl) (fun _ _ _ h => h) (by kernel_rfl) ?_ (by assumption) ?_
            rotate_left 1
            · intro w hSw; (try dsimp only at hSw); go_simp; (try with_reducible rfl)
            try simp only [Act.put, List.setIfInBounds_toArray, List.set_cons_zero, List.set_cons_succ]
            refine takeY 6 _ (v := ?_) rfl rfl (by kernel_rfl) (by kernel_rfl) (by kernel_rfl) (fun _ _ _ h => h) (by kernel_rfl) ?_ (by assumption) ?_
            rotate_left 1
            · intro w hSw; (try dsimp only at hSw); go_simp; (try with_reducible rfl)
            try simp only [Act.put, List.setIfInBounds_toArray, List.set_cons_zero, List.set_cons_succ]
            refine takeY 7 _ (v := ?_) rfl rfl (by kernel_rfl) (by kernel_rfl) (by kernel_rfl) (fun _ _ _ h => h) (by kernel_rfl) ?_ (by assumption) ?_
            rotate_left 1
            · intro w hSw; (try dsimp only at hSw); go_simp; (try with_reducible rfl)
            try simp only [Act.put, List.setIfInBounds_toArray, List.set_cons_zero, List.set_cons_succ]
            refine wpAnyH_done (by kernel_rfl) ?_ _
            go_wp2_with fail
            refine (HCL wr.drew HRI2.out (by show w.heap.size ≤ wr.heap.size; omega)).out.mono ?_
            rintro e9 w4 ⟨rfl, hb4⟩
            replace hb4 : Below wr.heap.size wr w4 := ⟨hb4.os, hb4.tape, hb4.output, hb4.size, hb4.block⟩
            have HB4 := Lib.hid (hb3.out.trans (hb4.mono hsz3))
            have hsz4 := HB4.out.size
            clear HCL hb4 d1 d2 d3
            by_cases hkq : (k2 : Int) < (qn : Int)
            · have HE : Hid (bsR zs = none) := Lib.hid (by
                rw [hbs.out, rd_none (by have := HE1.out; omega) (by have := HLT.out; omega) (by rw [HKK.out, HL2'.out, hea.out]; simp only [eat]; rw [if_pos (by rw [HLK2.out]; exact hkq)])]; rfl)
              have HBW := Lib.hid (HB2.out.trans (HB4.out.mono (by omega)))
              have HOT2 : Hid (OwnI w4 w.heap.size w4.heap.size (.slice A2 j c2) T) := Lib.hid (OwnI.mk' (Own.below HO2'.out HB4.out))
              have HRI4 : Hid (RI w4 w.heap.size (some ⟨g, x, none⟩) M R2) := Lib.hid (ri_at HC.out hgw HBW.out HL.out hM.1 hx.out HRR2.out)
              go_wp2_with fail
              go_ret2
              exact ⟨_, T, R2, _, M, c', rfl, HOT2.out, ⟨HRI4.out, hM.2.1, hM.2.2, HR642.out⟩, by omega, hTB.out, .inr ⟨HE.out, by rw [HZ0.out]; exact HGNE.out⟩, HBW.out⟩
            · have HEA : Hid (eat L2 e R = eat (L2.drop (i + 1)) r (zs.drop (n - (M - qn)))) := Lib.hid (by
                rw [hea.out]
                simp only [eat]
                rw [if_neg (by rw [HLK2.out]; exact hkq), ← HRR2.out, List.drop_drop]
                congr 2
                omega)
              have hqM : (qn : Int) ≤ (M : Int) := by omega
              have hq0 : (0 : Int) ≤ (qn : Int) := by omega
              have hqm : qn ≤ M := by omega
              have hrr : (1 : Int) ≤ r ∧ r ≤ 64 := hpo.2
              have cz4 := ((HB2.out.trans (HB4.out.mono (by omega))).cell (p := ⟨g, o, none⟩) hgw).trans HC00.out
              by_cases hck : c' = qn
              · go_wp2_with fail
                refine wp_region_held_drew (S := fun w' => w'.cell? ⟨g, o, none⟩ = some (.int .i64 z0)) (by kernel_rfl) (cz4) (fun hHeld => ?_)
                refine takeY 0 _ (v := ?_) rfl rfl (by kernel_rfl) (by kernel_rfl) (by kernel_rfl) (fun _ _ _ h => h) (by kernel_rfl) ?_ (by assumption) ?_
                rotate_left 1
                · intro w hSw; (try dsimp only at hSw); go_simp; (try with_reducible rfl)
                try simp only [Act.put, List.setIfInBounds_toArray, List.set_cons_zero, List.set_cons_succ]
                refine takeY 1 _ (v := ?_) rfl rfl (by kernel_rfl) (by kernel_rfl) (by kernel_rfl) (fun _ _ _ h => h) (by kernel_rfl) ?_ (by assumption) ?_
                rotate_left 1
                · intro w hSw; (try dsimp only at hSw); go_simp; (try with_reducible rfl)
                try simp only [Act.put, List.setIfInBounds_toArray, List.set_cons_zero, List.set_cons_succ]
                refine takeY 2 _ (v := ?_) rfl rfl (by kernel_rfl) (by kernel_rfl) (by kernel_rfl) (fun _ _ _ h => h) (by kernel_rfl) ?_ (by assumption) ?_
                rotate_left 1
                · intro w hSw; (try dsimp only at hSw); go_simp; (try with_reducible rfl)
                try simp only [Act.put, List.setIfInBounds_toArray, List.set_cons_zero, List.set_cons_succ]
                refine takeY 3 _ (v := ?_) rfl rfl (by kernel_rfl) (by kernel_rfl) (by kernel_rfl) (fun _ _ _ h => h) (by kernel_rfl) ?_ (by assumption) ?_
                rotate_left 1
                · intro w hSw; (try dsimp only at hSw); go_simp; (try with_reducible rfl)
                try simp only [Act.put, List.setIfInBounds_toArray, List.set_cons_zero, List.set_cons_succ]
                refine takeY 4 _ (v := ?_) rfl rfl (by kernel_rfl) (by kernel_rfl) (by kernel_rfl) (fun _ _ _ h => h) (by kernel_rfl) ?_ (by assumption) ?_
                rotate_left 1
                · intro w hSw; (try dsimp only at hSw); go_simp; (try with_reducible rfl)
                try simp only [Act.put, List.setIfInBounds_toArray, List.set_cons_zero, List.set_cons_succ]
                refine takeY 5 _ (v := ?_) rfl rfl (by kernel_rfl) (by kernel_rfl) (by kernel_rfl) (fun _ _ _ h => h) (by kernel_rfl) ?_ (by assumption) ?_
                rotate_left 1
                · intro w hSw; (try dsimp only at hSw); go_simp; (try with_reducible rfl)
                try simp only [Act.put, List.setIfInBounds_toArray, List.set_cons_zero, List.set_cons_succ]
                refine wpAnyH_done (by kernel_rfl) ?_ _
                go_wp2_with fail
                go_roundw
                case rel => exact ⟨i + 1, M - qn, x, 0, r, by omega, by go_num, rfl, rfl, by omega, Lib.hid (.inl (by omega)), HEA, Lib.hid (Below.drew HB4.out)⟩
                case measure => first | (simp [intOf]; done) | (simp [intOf]; omega)
              · go_wp2_with fail
                refine wp_region_held_drew (S := fun w' => w'.cell? ⟨g, o, none⟩ = some (.int .i64 z0)) (by kernel_rfl) (cz4) (fun hHeld => ?_)
                refine takeY 0 _ (v := ?_) rfl rfl (by kernel_rfl) (by kernel_rfl) (by kernel_rfl) (fun _ _ _ h => h) (by kernel_rfl) ?_ (by assumption) ?_
                rotate_left 1
                · intro w hSw; (try dsimp only at hSw); go_simp; (try with_reducible rfl)
                try simp only [Act.put, List.setIfInBounds_toArray, List.set_cons_zero, List.set_cons_succ]
                refine takeY 1 _ (v := ?_) rfl rfl (by kernel_rfl) (by kernel_rfl) (by kernel_rfl) (fun _ _ _ h => h) (by kernel_rfl) ?_ (by assumption) ?_
                rotate_left 1
                · intro w hSw; (try dsimp only at hSw); go_simp; (try with_reducible rfl)
                try simp only [Act.put, List.setIfInBounds_toArray, List.set_cons_zero, List.set_cons_succ]
                refine takeY 2 _ (v := ?_) rfl rfl (by kernel_rfl) (by kernel_rfl) (by kernel_rfl) (fun _ _ _ h => h) (by kernel_rfl) ?_ (by assumption) ?_
                rotate_left 1
                · intro w hSw; (try dsimp only at hSw); go_simp; (try with_reducible rfl)
                try simp only [Act.put, List.setIfInBounds_toArray, List.set_cons_zero, List.set_cons_succ]
                refine takeY 3 _ (v := ?_) rfl rfl (by kernel_rfl) (by kernel_rfl) (by kernel_rfl) (fun _ _ _ h => h) (by kernel_rfl) ?_ (by assumption) ?_
                rotate_left 1
                · intro w hSw; (try dsimp only at hSw); go_simp; (try with_reducible rfl)
                try simp only [Act.put, List.setIfInBounds_toArray, List.set_cons_zero, List.set_cons_succ]
                refine takeY 4 _ (v := ?_) rfl rfl (by kernel_rfl) (by kernel_rfl) (by kernel_rfl) (fun _ _ _ h => h) (by kernel_rfl) ?_ (by assumption) ?_
                rotate_left 1
                · intro w hSw; (try dsimp only at hSw); go_simp; (try with_reducible rfl)
                try simp only [Act.put, List.setIfInBounds_toArray, List.set_cons_zero, List.set_cons_succ]
                refine takeY 5 _ (v := ?_) rfl rfl (by kernel_rfl) (by kernel_rfl) (by kernel_rfl) (fun _ _ _ h => h) (by kernel_rfl) ?_ (by assumption) ?_
                rotate_left 1
                · intro w hSw; (try dsimp only at hSw); go_simp; (try with_reducible rfl)
                try simp only [Act.put, List.setIfInBounds_toArray, List.set_cons_zero, List.set_cons_succ]
                refine wpAnyH_done (by kernel_rfl) ?_ _
                go_wp2_with fail
                go_roundw
                case rel => exact ⟨i + 1, M - qn, x + qn, c' - qn, r, by omega, by go_num, rfl, rfl, by omega, Lib.hid (by rcases hx.out with h0 | h0; exact .inl (by omega); exact .inr (by omega)), HEA, Lib.hid (Below.drew HB4.out)⟩
                case measure => first | (simp [intOf]; done) | (simp [intOf]; omega)
          · obtain rfl : q = i := by omega
            have HEA : Hid (eat (steps (kk e R) e) e R = some (e2, zs.drop (n - M))) := Lib.hid (by
              rw [HKK.out, HL2'.out, hea.out, List.drop_eq_nil_of_le (by rw [HQ'.out]; omega)]; rfl)
            have hless := eat_less he.1 (fun y hy => (HR64.out y hy).1) HLT.out HEA.out
            have HB2' := Lib.hid (HB2.out.trans (hb3.out.mono (by omega)))
            have HO2 := Lib.hid (Own.below HO2'.out hb3.out)
            have hswr := HB2'.out.size
            have HGK : Hid (e2 = (Int.gcd e K : Int)) := Lib.hid (by rw [hless.2.2, HKK.out])
            have HDK : Hid ((Int.gcd e (t + K) : Int) = (Int.gcd e K : Int)) := Lib.hid (by
              obtain ⟨s, hs⟩ := hdv.out
              rw [hs, Int.add_comm (e * s) K, Int.gcd_add_mul_left_right])
            have HD2 : Hid (e2 ∣ t + K) := Lib.hid (by rw [HGK.out, ← HDK.out]; exact Int.gcd_dvd_right _ _)
            have HG2 : Hid (gcF z0 (T ++ [t + K]) = e2) := Lib.hid (by rw [gcF_snoc, hg.out, HDK.out, HGK.out])
            have HT2 : Hid ((T ++ [t + K]).length = j + 1) := Lib.hid (by rw [List.length_append, hT.out]; rfl)
            have HBS2 : Hid (bsR zs = rdC (T ++ [t + K]) (rd f e2 (t + K) (zs.drop (n - M)))) := Lib.hid (by
              rw [hbs.out, rd_more (by have := HE1.out; omega) (by have := HLT.out; omega) HEA.out, HKK.out])
            have he2 := hless.1
            have HTB2 : Hid (∀ z ∈ T ++ [t + K], 0 ≤ z ∧ z ≤ 1642496) := Lib.hid (fun z hz => by
              rcases List.mem_append.1 hz with h5 | h5
              · exact hTB.out z h5
              · have h6 : z = t + K := by simpa using h5
                omega)
            have p3 : IntKind.i64.wrap (t + K) = t + K := IntWalk.i64_in _ (by omega)
            have ht2 : 0 ≤ t + K ∧ t + K ≤ (64 - e2) * 25664 := by omega
            have hef2 : e2.toNat < f := by omega
            have hje2 : ((j + 1 : Nat) : Int) + e2 ≤ 64 := by omega
            have he264 : 1 ≤ e2 ∧ e2 ≤ 64 := by omega
            have hmee : e2.toNat < e.toNat := by omega
            clear hless HEA hea
            go_wp2_with (at_builtin; refine wpList_append_own _ rfl _ _ 24 rfl w.heap.size 2 i0 (.int .i64 0) 1 8 Try.underlying24 hi0 hz0' hz1 hz2 rfl ?_ _ j (T.map (.int .i64)) rfl (World.ownsRow.alloc HO2.out _) ⟨wr.heap.size, 0, none⟩ 1 1 [.int .i64 (t + K)] rfl rfl ?_ ?_ ?_ ?_ ?_ ?_; (decide); (exact World.news_of_block (cs := #[.int .i64 (t + K)]) (t := 2) (fr := (0, 0)) (heap_alloc_new wr _)); (simp [Value.oneCell']); (simp [maxLen]; omega); (omega); (simp; omega); intro v1 w5 hown1 hgrow _; obtain ⟨A1, c1, rfl⟩ := own_form (n := j + 1) hown1; have HO1 : Hid (Own w5 w.heap.size (.slice A1 (j + 1) c1) (j + 1) ((T ++ [t + K]).map (.int .i64))) := Lib.hid (by rw [List.map_append]; exact hown1); have hbn : Hid (Below w.heap.size w w5) := Lib.hid ((HB2'.out.alloc HB2'.out.size _).grown hgrow (by simp; omega) (fun k hk => (Own.lt HO2.out k hk).1)); clear hown1 hgrow)
            go_roundw
            case rel => exact ⟨T ++ [t + K], A1, c1, j + 1, M, x, c', t + K, e2, f, rfl, rfl, rfl, rfl, hM, hx, he264, hef2, ht2, HD2, HG2, HT2, HTB2, hje2, HBS2, HO1, hbn⟩
            case measure => simp only [intOf]; exact hmee
end Go.Proofs.Ytoebbhicffgdgaa
/- BranchOfSequence, the program's: contract. Conditions: stated at each theorem. -/
namespace Go.Proofs.Ytoebbhicffgdgaa
open Go.ChangeShapes Go.WideShapes Go.ChangeAt Go.RowKit Go.Deep
set_option linter.unusedVariables false
set_option linter.unusedSimpArgs false

theorem sq_no1 {L : List Int} (h : ¬ (1 ≤ L.length ∧ L.length ≤ 400)) : sqlB L = false := by unfold sqlB; rw [decide_eq_false h]; rfl
theorem sq_all {L : List Int} (h : 1 ≤ L.length ∧ L.length ≤ 400) : sqlB L = L.all mulB := by unfold sqlB; rw [decide_eq_true h]; rfl
theorem areMul_any (A : Option Addr) (n c : Nat) (zs : List Int) (w : World) (B : Nat) (hr : RI w B A n zs) (hl : zs.length = n) (hn : n ≤ 9223372036854775807) :
    Calls Try.prog 102 #[.slice A n c] w fun e w' => e = .returned (.bool (sqlB zs)) ∧ w = w' := by
  have H0 := Lib.hid hr
  have HL := Lib.hid hl
  clear hr hl
  by_cases h0 : n = 0
  · have E : Hid (sqlB zs = false) := Lib.hid (sq_no1 (by have := HL.out; omega))
    subst h0
    go_enter Try.func102, Try.ntmps102
    go_wp2
    go_ret
    exact ⟨by rw [E.out]; rfl, rfl⟩
  by_cases h8 : 400 < n
  · have E : Hid (sqlB zs = false) := Lib.hid (sq_no1 (by have := HL.out; omega))
    have g1 : ((n : Int) == 0) = false := by simp; omega
    have g2 : (400 : Int) < (n : Int) := by omega
    have g3 : ¬ (n : Int) = 0 := by omega
    go_enter Try.func102, Try.ntmps102
    go_wp2
    go_ret
    exact ⟨by rw [E.out]; rfl, rfl⟩
  have E : Hid (sqlB zs = zs.all mulB) := Lib.hid (sq_all (by have := HL.out; omega))
  have g1 : ((n : Int) == 0) = false := by simp; omega
  have g2 : ¬ (400 : Int) < (n : Int) := by omega
  have g3 : ¬ (n : Int) = 0 := by omega
  go_enter Try.func102, Try.ntmps102
  go_wp2
  go_loop [15] (fun vi => ∃ k : Nat, k ≤ n ∧ vi = .int .i64 k ∧ Hid (zs.all mulB = (zs.drop k).all mulB)) (fun vi => n - (intOf vi).toNat)
  case atStart => exact ⟨0, by omega, rfl, Lib.hid (by simp)⟩
  case round =>
    obtain ⟨k, hk, rfl, hg⟩ := hrel
    by_cases hlt : k < n
    · obtain ⟨a, rfl, hal, hcell0⟩ := H0.out.2 k hlt
      have HD := Lib.hid (drop_at HL.out hlt)
      have hcell : w.cell? (a.add k) = some (.int .i64 (zs[k]?.getD 0)) := by simpa using hcell0
      generalize zs[k]?.getD 0 = z at *
      have hin : (k : Int) < (n : Int) := by omega
      clear hcell0
      rcases bool_fs (mulB z) with hm | hm
      · have HF : Hid (zs.all mulB = false) := Lib.hid (by rw [hg.out, HD.out, List.all_cons, hm]; rfl)
        have HM := Lib.hid hm
        clear hm
        go_wp2_with (go_at_call 112; refine (isMul_no z w HM.out).mono ?_; rintro e w' ⟨rfl, rfl⟩)
        go_ret
        exact ⟨by rw [E.out, HF.out]; rfl, rfl⟩
      · have HG : Hid (zs.all mulB = (zs.drop (k + 1)).all mulB) := Lib.hid (by rw [hg.out, HD.out, List.all_cons, hm]; rfl)
        have HM := Lib.hid hm
        clear hm
        go_wp2_with (go_at_call 112; refine (isMul_yes z w HM.out).mono ?_; rintro e w' ⟨rfl, rfl⟩)
        go_round
        case rel => exact ⟨k + 1, by omega, by go_num, HG⟩
        case measure => simp [intOf]; omega
    · obtain rfl : k = n := by omega
      have HT : Hid (zs.all mulB = true) := Lib.hid (by rw [hg.out, drop_end HL.out (Nat.le_refl _)]; rfl)
      go_wp2
      go_ret
      exact ⟨by rw [E.out, HT.out]; rfl, rfl⟩
theorem areMul_if (A : Option Addr) (n c : Nat) (zs : List Int) (w : World) (B : Nat) (b : Bool) (hr : RI w B A n zs) (hl : zs.length = n) (hn : n ≤ 9223372036854775807) (hb : sqlB zs = b) :
    Calls Try.prog 102 #[.slice A n c] w fun e w' => e = .returned (.bool b) ∧ w = w' := by
  subst hb; exact areMul_any A n c zs w B hr hl hn

set_option maxRecDepth 100000 in
set_option maxHeartbeats 2000000 in
theorem implBranchOfSequence_any (v : Value) (zs : List Int) (w : World) (h : ReadI w w.heap.size v zs) (hn : zs.length ≤ 1048576) (hw : ∀ z ∈ zs, (Lit.int .i64 z).wf = true) :
    Calls Try.prog 80 #[v] w (AnsRC w (bsA zs) (bsC zs)) := by
  obtain ⟨n, A, c, rfl, hr, HL, HN, hnc, HF, hcm⟩ := h.split2
  rw [HL.out] at hn
  obtain ⟨W0, HE⟩ : ∃ W, W = w.alloc (.cells #[.slice none 0 0] 26) := ⟨_, rfl⟩
  have hS0 : Start1 w W0 := by rw [HE]; exact Start1.new _
  have hb0 := hS0.below
  have H0 := Lib.hid (hr.below hb0)
  have HRD := Lib.hid ((h.below hb0).more hb0.size)
  have S0 := Lib.hid hS0
  have HEQ := Lib.hid HE
  rcases bool_fs (sqlB zs) with hok | hok
  · have E := Lib.hid (bs_no hok)
    have OK := Lib.hid hok
    clear h hr hb0 hS0 hw HE hok
    go_enter Try.func80, Try.ntmps80
    go_wp2_with fail
    rw [← HEQ.out]
    obtain ⟨l2, l3, l4⟩ := S0.out.later (Below.refl _ _)
    refine (areMul_if _ _ _ zs _ _ false H0.out HL.out (by omega) OK.out).mono ?_
    rintro e w1 ⟨rfl, rfl⟩
    go_wp2_with fail
    have cr : (W0.setCell ⟨w.heap.size, 0, none⟩ (.slice none 0 0)).cell? ⟨w.heap.size, 0, none⟩ = some (.slice none 0 0) := by go_simp
    refine bodyPost_ret (v := .tuple #[.agg #[.slice none 0 0], .int .i64 2]) (by simp [results, Try.results80, go_sem, cr]) rfl ?_
    exact ansR_endG _ (Nat.le_refl _) E.out.1.symm E.out.2.symm (OwnI.nil _ _) (by intro h; cases h) S0.out.below _
  have OK := Lib.hid hok
  obtain ⟨⟨hn1, hn2⟩, hz⟩ := sql_yes hok
  rw [HL.out] at hn1 hn2
  obtain ⟨a, rfl, hlt0, hc0⟩ := hr.2 0 hn1
  obtain ⟨g, o, rfl⟩ := HF.out a rfl
  have hgw : g < w.heap.size := hlt0
  have HC0 : Hid (w.cell? ⟨g, o, none⟩ = some (.int .i64 (zs[0]?.getD 0))) := Lib.hid (by
    have h2 : (⟨g, o, none⟩ : Addr).add 0 = ⟨g, o, none⟩ := by rw [add_lit]; rfl
    rw [h2] at hc0; simpa using hc0)
  have hz0 : (1 : Int) ≤ zs[0]?.getD 0 ∧ zs[0]?.getD 0 ≤ 64 := by
    have h9 : 0 < zs.length := by rw [HL.out]; omega
    have := hz zs[0] (List.getElem_mem h9); simpa [h9] using this
  have hsS := hS0.size
  have hgW0 : g < W0.heap.size := by omega
  clear h hr hb0 hS0 hw HE hok hc0 hlt0 hz
  go_enter Try.func80, Try.ntmps80
  go_wp2_with fail
  rw [← HEQ.out]
  refine (areMul_if _ _ _ zs _ _ true H0.out HL.out (by omega) OK.out).mono ?_
  rintro e w1 ⟨rfl, rfl⟩
  go_wp2_with fail
  refine (readRuns_any _ zs W0 HRD.out OK.out).mono ?_
  rintro e W1 ⟨vT, T, R, A', M, c', rfl, hoT, ⟨hRI, hMc, hcm', hR64⟩, hTl, hTB, hbs, hb1⟩
  obtain ⟨AT, cT, rfl⟩ := own_form hoT.1
  have hs1 := hb1.size
  have cg : W1.cell? ⟨g, o, none⟩ = some (.int .i64 (zs[0]?.getD 0)) := by rw [hb1.cell (p := ⟨g, o, none⟩) hgW0, S0.out.below.cell (p := ⟨g, o, none⟩) hgw]; exact HC0.out
  have HRT := Lib.hid hoT.reads
  have HRI := Lib.hid hRI
  have HB1 := Lib.hid hb1
  have HBS := Lib.hid hbs
  have HTB : Hid (∀ z ∈ zs[0]?.getD 0 :: T, (Lit.int .i64 z).wf = true) := Lib.hid (fun z hz => by
    rcases List.mem_cons.1 hz with h5 | h5
    · exact WalkArith.wf_i64 (by omega)
    · have := hTB z h5; exact WalkArith.wf_i64 (by omega))
  have HRW : Hid (∀ z ∈ R, (Lit.int .i64 z).wf = true) := Lib.hid (fun z hz => by have := hR64 z hz; exact WalkArith.wf_i64 (by omega))
  obtain ⟨z0, hz00⟩ : ∃ z, zs[0]?.getD 0 = z := ⟨_, rfl⟩
  have HZ0 := Lib.hid hz00
  rw [hz00] at cg HTB HBS
  clear hoT hRI hb1 hbs hR64 hTB hz00
  go_wp2_with fail
  clear cg
  refine (branchWith_any z0 _ T W1 HRT.out (by omega)).mono ?_
  rintro e W2 ⟨vb, rfl, hob, hb2⟩
  obtain ⟨Ab, cb, rfl⟩ := own_form hob.1
  have hs2 := hb2.size
  have HB2 := Lib.hid (HB1.out.trans (hb2.mono hs1))
  have hzTl : (z0 :: T).length = T.length + 1 := rfl
  obtain ⟨nb, hnb⟩ : ∃ nb, (z0 :: T).length = nb := ⟨_, rfl⟩
  rw [hnb] at hob ⊢
  obtain ⟨W3, HE3⟩ : ∃ W, W = W2.alloc (.cells #[.slice Ab nb cb] 26) := ⟨_, rfl⟩
  have hb3 : Below W2.heap.size W2 W3 := by rw [HE3]; exact below_box _ _
  have hq3 : BoxI W3 W2.heap.size (.slice Ab nb cb) := by rw [HE3]; exact BoxI.new _ _ _
  have HE3' := Lib.hid HE3
  have hq30 := hq3.1
  have hlt3 := hq3.2
  have hs3 := hb3.size
  have HB3 := Lib.hid (HB2.out.trans (hb3.mono (by omega)))
  have hob3 := hob.kept (Kept.of_below hb3 (Nat.le_refl _))
  have O3 := Lib.hid hob3
  have R3 : Hid (ReadI W3 W3.heap.size (.slice Ab nb cb) (z0 :: T)) := Lib.hid (hob3.raise (hi' := W3.heap.size) hs3 (Nat.le_refl _)).reads
  have HRI3 : Hid (RI W3 W0.heap.size A' M R) := Lib.hid ⟨HRI.out.1, fun k hk => by
    obtain ⟨a', e1, h2, h3⟩ := HRI.out.2 k hk
    have hbl : (a'.add k).block = a'.block := add_block _ _
    exact ⟨a', e1, h2, (hb3.cell (by rw [hbl]; omega)).trans ((hb2.cell (by rw [hbl]; omega)).trans h3)⟩⟩
  clear hob hob3 hb2 hb3 hq3 HE3
  go_wp2_with fail
  rw [← HE3'.out]
  cases hp : brB (z0 :: T)
  · have HBB : Hid (bsB zs = false) := Lib.hid (by
      rcases HBS.out with h5 | h5
      · simp only [bsB, h5, HZ0.out, hp]; rfl
      · simp only [bsB, h5.1])
    have E := Lib.hid (bs_out OK.out HBB.out)
    refine (implIsBranch_if _ (z0 :: T) W3 false R3.out (by rw [hnb]; omega) HTB.out hp).mono ?_
    rintro e w6 ⟨rfl, hb6⟩
    obtain ⟨l2, l3, l4⟩ := S0.out.later (HB3.out.trans (hb6.mono (by omega)))
    have B6 := Lib.hid (S0.out.below.trans ((HB3.out.trans (hb6.mono (by omega))).mono (by omega)))
    clear hb6 hp
    go_wp2_with fail
    have cr : (w6.setCell ⟨w.heap.size, 0, none⟩ (.slice none 0 0)).cell? ⟨w.heap.size, 0, none⟩ = some (.slice none 0 0) := by go_simp
    refine bodyPost_ret (v := .tuple #[.agg #[.slice none 0 0], .int .i64 5]) (by simp [results, Try.results80, go_sem, cr]) rfl ?_
    exact ansR_endG _ (Nat.le_refl _) E.out.1.symm E.out.2.symm (OwnI.nil _ _) (by intro h; cases h) B6.out _
  · have HSR : Hid (bsR zs = some (T, R)) := Lib.hid (by
      rcases HBS.out with h5 | h5
      · exact h5
      · have h6 := br_gcF (n := z0) (T := T) h5.2
        rw [hp] at h6; cases h6)
    have HP := Lib.hid hp
    refine (implIsBranch_if _ (z0 :: T) W3 true R3.out (by rw [hnb]; omega) HTB.out hp).mono ?_
    rintro e w6 ⟨rfl, hb6⟩
    have hs6 := hb6.size
    have hq6 := (hb6.cell (p := ⟨W2.heap.size, 0, none⟩) hlt3).trans hq30
    have HB6 := Lib.hid (HB3.out.trans (hb6.mono (by omega)))
    have O6 := Lib.hid (O3.out.kept (Kept.of_below hb6 (by omega)))
    have HRI6 : Hid (RI w6 W0.heap.size A' M R) := Lib.hid ⟨HRI3.out.1, fun k hk => by
      obtain ⟨a', e1, h2, h3⟩ := HRI3.out.2 k hk
      have hbl : (a'.add k).block = a'.block := add_block _ _
      exact ⟨a', e1, h2, (hb6.cell (by rw [hbl]; omega)).trans h3⟩⟩
    have hRl := HRI.out.1
    have hlk := lead_le 1 R
    clear hb6 hp hq30
    have HCL := fun W (h : RI W W0.heap.size A' M R) (h2 : W0.heap.size ≤ W.heap.size) => hid_in (countLeading_any A' M c' R 1 W W0.heap.size h h2 (by omega) HRW.out)
    have HLM : Hid (lead 1 R = M → bsB zs = true) := Lib.hid (fun h5 => by simp only [bsB, HSR.out, HZ0.out, HP.out, Bool.true_and, decide_eq_true_eq]; rw [h5, hRl])
    have HLN : Hid (¬ lead 1 R = M → bsB zs = false) := Lib.hid (fun h5 => by simp only [bsB, HSR.out, HZ0.out, HP.out, Bool.true_and, decide_eq_false_iff_not]; rw [hRl]; exact h5)
    have HBT : Hid (bsT zs = z0 :: T) := Lib.hid (by simp only [bsT, HSR.out, HZ0.out])
    generalize lead 1 R = k at *
    go_wp2_with fail
    refine (HCL w6 HRI6.out (by omega)).out.mono ?_
    rintro e w7 ⟨rfl, hb7⟩
    have hs7 := hb7.size
    have hq7 := (hb7.cell (p := ⟨W2.heap.size, 0, none⟩) (show W2.heap.size < w6.heap.size by omega)).trans hq6
    have O7 := Lib.hid (O6.out.kept (Kept.of_below hb7 (by omega)))
    obtain ⟨l2, l3, l4⟩ := S0.out.later (HB6.out.trans (hb7.mono (by omega)))
    have B7 := Lib.hid (S0.out.below.trans ((HB6.out.trans (hb7.mono (by omega))).mono (by omega)))
    clear hb7 HCL hq6
    by_cases hkM : k = M
    · have hki : ¬ (k : Int) < (M : Int) := by omega
      have E := Lib.hid (bs_yes OK.out (HLM.out hkM))
      clear hkM
      go_wp2_with fail
      have cr : (w7.setCell ⟨w.heap.size, 0, none⟩ (.slice Ab nb cb)).cell? ⟨w.heap.size, 0, none⟩ = some (.slice Ab nb cb) := by go_simp
      refine bodyPost_ret (v := .tuple #[.agg #[.slice Ab nb cb], .int .i64 0]) (by simp [results, Try.results80, go_sem, cr]) rfl ?_
      have hne : (Value.slice Ab nb cb).ownBlock ≠ some w.heap.size := fun h5 => by
        have := (O7.out.1 : Own w7 W1.heap.size _ _ _).lt w.heap.size h5
        omega
      exact ansR_endG _ (Nat.le_refl _) (by rw [E.out.1, HBT.out]) E.out.2.symm ((own_lessB O7.out (by omega)).raise (by omega) (Nat.le_refl _)) hne B7.out _
    · have hki : (k : Int) < (M : Int) := by omega
      have E := Lib.hid (bs_out OK.out (HLN.out hkM))
      clear hkM
      go_wp2_with fail
      have cr : (w7.setCell ⟨w.heap.size, 0, none⟩ (.slice none 0 0)).cell? ⟨w.heap.size, 0, none⟩ = some (.slice none 0 0) := by go_simp
      refine bodyPost_ret (v := .tuple #[.agg #[.slice none 0 0], .int .i64 5]) (by simp [results, Try.results80, go_sem, cr]) rfl ?_
      exact ansR_endG _ (Nat.le_refl _) E.out.1.symm E.out.2.symm (OwnI.nil _ _) (by intro h; cases h) B7.out _
end Go.Proofs.Ytoebbhicffgdgaa
/- Reading a branch from the blocks of its sequence: plain mathematics of chapter 4. Conditions: stated at each theorem. -/
namespace Go.Proofs.Ytoebbhicffgdgaa
set_option linter.unusedVariables false

/-- The list of some blocks. -/
def flB (D : List (Int × Int)) : List Int := D.flatMap fun p => List.replicate p.2.toNat p.1
theorem flB_cons (p : Int × Int) (D : List (Int × Int)) : flB (p :: D) = List.replicate p.2.toNat p.1 ++ flB D := by simp [flB]
/-- Blocks of strictly descending numbers; the first one may be empty. -/
def wfB : List (Int × Int) → Prop
  | [] => True
  | [p] => 1 ≤ p.1 ∧ 0 ≤ p.2
  | p :: q :: r => q.1 < p.1 ∧ 0 ≤ p.2 ∧ 1 ≤ q.2 ∧ wfB (q :: r)
theorem wfB_tail {p : Int × Int} {D : List (Int × Int)} (h : wfB (p :: D)) : wfB D := by
  cases D with
  | nil => trivial
  | cons q r => exact h.2.2.2
theorem wfB_pos {p : Int × Int} {D : List (Int × Int)} (h : wfB (p :: D)) : 1 ≤ p.1 ∧ 0 ≤ p.2 := by
  induction D generalizing p with
  | nil => exact h
  | cons q r ih =>
    have := ih h.2.2.2
    exact ⟨by have := h.1; omega, h.2.1⟩
theorem wfB_set {p : Int × Int} {D : List (Int × Int)} {c : Int} (h : wfB (p :: D)) (hc : 0 ≤ c) : wfB ((p.1, c) :: D) := by
  cases D with
  | nil => exact ⟨h.1, hc⟩
  | cons q r => exact ⟨h.1, hc, h.2.2.1, h.2.2.2⟩
theorem lead_rep (x : Int) : ∀ (c : Nat) (R : List Int), lead x (List.replicate c x ++ R) = c + lead x R
  | 0, R => by simp
  | c + 1, R => by
    rw [List.replicate_succ, List.cons_append, lead, if_pos rfl, lead_rep x c R]; omega
theorem lead_flB {p : Int × Int} {D : List (Int × Int)} (h : wfB (p :: D)) : lead p.1 (flB (p :: D)) = p.2.toNat := by
  rw [flB_cons, lead_rep]
  cases D with
  | nil => rfl
  | cons q r =>
    have h1 := h.1
    have h2 := h.2.2.1
    obtain ⟨k, hk⟩ : ∃ k, q.2.toNat = k + 1 := ⟨q.2.toNat - 1, by omega⟩
    rw [flB_cons, hk, List.replicate_succ, List.cons_append, lead, if_neg (by omega)]; rfl
/-- Another number than the first one does not stand at the beginning. -/
theorem lead_not {x y : Int} {D : List (Int × Int)} {c : Int} (hc : 1 ≤ c) (h : y ≠ x) : lead x (flB ((y, c) :: D)) = 0 := by
  obtain ⟨k, hk⟩ : ∃ k, c.toNat = k + 1 := ⟨c.toNat - 1, by omega⟩
  rw [flB_cons]
  show lead x (List.replicate c.toNat y ++ _) = 0
  rw [hk, List.replicate_succ, List.cons_append, lead, if_neg h]
theorem drop_flB {v c : Int} {D : List (Int × Int)} {q : Nat} (h : (q : Int) ≤ c) : (flB ((v, c) :: D)).drop q = flB ((v, c - q) :: D) := by
  rw [flB_cons, flB_cons]
  show (List.replicate c.toNat v ++ flB D).drop q = List.replicate (c - (q : Int)).toNat v ++ flB D
  rw [List.drop_append_of_le_length (by simp; omega), List.drop_replicate]
  congr 2
  omega
theorem flB_zero (v : Int) (D : List (Int × Int)) : flB ((v, 0) :: D) = flB D := by simp [flB_cons]
theorem flB_get {v c x c1 : Int} {D : List (Int × Int)} (hc : 0 ≤ c) (h1 : 1 ≤ c1) : (flB ((v, c) :: (x, c1) :: D))[c.toNat]?.getD 0 = x := by
  obtain ⟨k, hk⟩ : ∃ k, c1.toNat = k + 1 := ⟨c1.toNat - 1, by omega⟩
  rw [flB_cons, List.getElem?_append_right (by simp)]
  simp only [List.length_replicate, Nat.sub_self]
  rw [flB_cons]
  show (List.replicate c1.toNat x ++ _)[0]?.getD 0 = x
  rw [hk, List.replicate_succ]; rfl
/-- The first step of a run over blocks. -/
theorem eat_first {e c x c1 : Int} {D : List (Int × Int)} (h : wfB ((e, c) :: (x, c1) :: D)) :
    kk e (flB ((e, c) :: (x, c1) :: D)) = c * e + x ∧ eat (steps (c * e + x) e) e (flB ((e, c) :: (x, c1) :: D)) = eat (stL (e.toNat) e x) e (flB ((x, c1) :: D)) := by
  have hx := wfB_pos (wfB_tail h)
  have hc := h.2.1
  have hlt := h.1
  have h1 := h.2.2.1
  dsimp only at hx hc hlt h1
  have hl := lead_flB h
  dsimp only at hl
  have hg := flB_get (v := e) (x := x) (D := D) hc h1
  refine ⟨?_, ?_⟩
  · unfold kk
    rw [hl, hg]
    congr 2
    omega
  · have hq : (c * e + x) / e = c := by
      rw [Int.add_comm, Int.add_mul_ediv_right _ _ (by omega), Int.ediv_eq_zero_of_lt (by omega) hlt]; omega
    have hm : (c * e + x) % e = x := by
      rw [Int.add_comm, Int.add_mul_emod_self_right, Int.emod_eq_of_lt (by omega) hlt]
    unfold steps
    rw [stL, if_neg (by omega), hq, hm]
    simp only [eat]
    rw [if_neg (by rw [hl]; omega), drop_flB (q := c.toNat) (by omega)]
    rw [show c - (c.toNat : Int) = 0 by omega, flB_zero]
theorem stL_cons {f : Nat} {a b : Int} (hb : 1 ≤ b) : stL (f + 1) a b = (a / b, b) :: stL f b (a % b) := by rw [stL, if_neg (by omega)]
theorem stL_zero (f : Nat) (a : Int) : stL f a 0 = [] := by
  cases f with
  | zero => rfl
  | succ f => rw [stL, if_pos (Int.le_refl 0)]
theorem eat_cons (q r e : Int) (S : List (Int × Int)) (R : List Int) : eat ((q, r) :: S) e R = if (lead r R : Int) < q then none else eat S r (R.drop q.toNat) := rfl
/-- A step in between that can't be read. -/
theorem eat_mid_no {f : Nat} {e x c1 : Int} {D : List (Int × Int)} (hf : x.toNat < f + 1) (h : wfB ((x, c1) :: D)) (hx : x < e) (hm : ¬ e % x = 0) (hbad : c1 ≠ e / x ∨ D = [] ∨ ∃ y c2 D2, D = (y, c2) :: D2 ∧ y ≠ e % x) :
    eat (stL (f + 1) e x) e (flB ((x, c1) :: D)) = none := by
  have hp := wfB_pos h
  dsimp only at hp
  have h1 : 0 ≤ e % x := Int.emod_nonneg _ (by omega)
  have h2 : e % x < x := Int.emod_lt_of_pos _ (by omega)
  have hq0 : 0 ≤ e / x := Int.ediv_nonneg (by omega) (by omega)
  have hq2 : 1 ≤ x / (e % x) := by
    have := (Int.le_ediv_iff_mul_le (a := (1 : Int)) (b := x) (c := e % x) (by omega)).2 (by omega)
    exact this
  have hl := lead_flB h
  dsimp only at hl
  rw [stL_cons (by omega), eat_cons]
  by_cases hlt : (lead x (flB ((x, c1) :: D)) : Int) < e / x
  · rw [if_pos hlt]
  · rw [if_neg hlt]
    rw [hl] at hlt
    obtain ⟨f, rfl⟩ : ∃ f', f = f' + 1 := ⟨f - 1, by omega⟩
    rw [stL_cons (by omega), eat_cons, drop_flB (by omega)]
    have hz : lead (e % x) (flB ((x, c1 - ((e / x).toNat : Int)) :: D)) = 0 := by
      by_cases hc : c1 - ((e / x).toNat : Int) = 0
      · rw [hc, flB_zero]
        rcases hbad with hb | rfl | ⟨y, c2, D2, rfl, hy⟩
        · omega
        · rfl
        · exact lead_not (by have := h.2.2.1; exact this) hy
      · exact lead_not (by omega) (by omega)
    rw [if_pos (by rw [hz]; omega)]
/-- A step in between. -/
theorem eat_mid {f : Nat} {e x c1 c2 : Int} {D : List (Int × Int)} (h : wfB ((x, c1) :: (e % x, c2) :: D)) (hx : x < e) (hm : ¬ e % x = 0) (hc : c1 = e / x) :
    eat (stL (f + 1) e x) e (flB ((x, c1) :: (e % x, c2) :: D)) = eat (stL f x (e % x)) x (flB ((e % x, c2) :: D)) := by
  have hp := wfB_pos h
  dsimp only at hp
  have hl := lead_flB h
  dsimp only at hl
  have hq0 : 0 ≤ e / x := Int.ediv_nonneg (by omega) (by omega)
  rw [stL_cons (by omega), eat_cons, if_neg (by rw [hl, hc]; omega), drop_flB (by omega)]
  rw [hc, show e / x - ((e / x).toNat : Int) = 0 by omega, flB_zero]
/-- The last step. -/
theorem eat_last {f : Nat} {e x c1 : Int} {D : List (Int × Int)} (h : wfB ((x, c1) :: D)) (hx : x < e) (hm : e % x = 0) :
    eat (stL (f + 1) e x) e (flB ((x, c1) :: D)) = if c1 < e / x then none else some (x, flB ((x, c1 - e / x) :: D)) := by
  have hp := wfB_pos h
  dsimp only at hp
  have hl := lead_flB h
  dsimp only at hl
  have hq0 : 0 ≤ e / x := Int.ediv_nonneg (by omega) (by omega)
  rw [stL_cons (by omega), eat_cons, hm, stL_zero, hl]
  by_cases hlt : c1 < e / x
  · rw [if_pos hlt, if_pos (by omega)]
  · rw [if_neg hlt, if_neg (by omega), drop_flB (by omega)]
    show some (x, _) = some (x, _)
    rw [show ((e / x).toNat : Int) = e / x by omega]
/-- No number is greater than the one before it; the first one is at most e. -/
def dsc (e : Int) : List Int → Prop
  | [] => True
  | x :: r => x ≤ e ∧ dsc x r
theorem dsc_more {e e' : Int} {R : List Int} (h : dsc e R) (he : e ≤ e') : dsc e' R := by
  cases R with
  | nil => trivial
  | cons x r => exact ⟨by have := h.1; omega, h.2⟩
theorem dsc_rep {x : Int} : ∀ (c : Nat) {R : List Int}, dsc x R → dsc x (List.replicate c x ++ R)
  | 0, R, h => by simpa using h
  | c + 1, R, h => by
    rw [List.replicate_succ, List.cons_append]
    exact ⟨Int.le_refl _, dsc_rep c h⟩
theorem lead_take {x : Int} : ∀ {R : List Int} {q : Nat}, q ≤ lead x R → R = List.replicate q x ++ R.drop q
  | R, 0, _ => by simp
  | [], q + 1, h => by simp [lead] at h
  | y :: r, q + 1, h => by
    unfold lead at h
    split at h
    · rename_i hy
      subst hy
      have := lead_take (x := y) (R := r) (q := q) (by omega)
      rw [List.replicate_succ, List.cons_append, List.drop_succ_cons, ← this]
    · omega
theorem eat_dsc : ∀ (f : Nat) (a b e0 : Int) (R : List Int), 0 ≤ a → 1 ≤ b → b.toNat < f → ∀ e' R', eat (stL f a b) e0 R = some (e', R') → dsc e' R' → dsc b R
  | 0, _, b, _, _, _, _, h, _, _, _, _ => by omega
  | f + 1, a, b, e0, R, ha, hb, hf, e', R', h, hd => by
    rw [stL_cons hb, eat_cons] at h
    split at h
    · cases h
    · rename_i hl
      have hq0 : 0 ≤ a / b := Int.ediv_nonneg ha (by omega)
      have h1 : 0 ≤ a % b ∧ a % b < b := ⟨Int.emod_nonneg _ (by omega), Int.emod_lt_of_pos _ (by omega)⟩
      have hR := lead_take (x := b) (R := R) (q := (a / b).toNat) (by omega)
      rw [hR]
      refine dsc_rep _ ?_
      by_cases h0 : a % b = 0
      · rw [h0, stL_zero] at h
        simp only [eat, Option.some.injEq, Prod.mk.injEq] at h
        rw [← h.1, ← h.2] at hd; exact hd
      · exact dsc_more (eat_dsc f b (a % b) b _ (by omega) (by omega) (by omega) e' R' h hd) (by omega)
theorem ones_dsc : ∀ {R : List Int}, lead 1 R = R.length → dsc 1 R
  | [], _ => trivial
  | x :: r, h => by
    unfold lead at h
    split at h
    · rename_i hx
      exact ⟨by omega, by rw [hx]; exact ones_dsc (by simpa using h)⟩
    · simp at h
/-- What can be read descends. -/
theorem rd_dsc : ∀ (f : Nat) (e t : Int) (R : List Int), 1 ≤ e → (∀ x ∈ R, (1 : Int) ≤ x) → ∀ T R', rd f e t R = some (T, R') → lead 1 R' = R'.length → dsc e R
  | 0, _, _, _, _, _, _, _, h, _ => by cases h
  | f + 1, e, t, R, he, hR, T, R', h, h1 => by
    rw [rd] at h
    split at h
    · rename_i hle
      simp only [Option.some.injEq, Prod.mk.injEq] at h
      rw [← h.2] at h1
      have : e = 1 := by omega
      subst this
      exact ones_dsc h1
    · split at h
      · cases h
      · rename_i hlen
        split at h
        · cases h
        · rename_i p hp
          split at h
          · cases h
          · rename_i y hy
            obtain ⟨e', R2⟩ := p
            obtain ⟨T2, R3⟩ := y
            simp only [Option.some.injEq, Prod.mk.injEq] at h
            have hl : lead e R < R.length := by have := lead_le e R; omega
            have hless := eat_less he hR hl hp
            have hk0 : 0 ≤ kk e R := by
              unfold kk
              have h5 : 0 ≤ (lead e R : Int) * e := Int.mul_nonneg (by omega) (by omega)
              have := hless.2.1
              omega
            have hsub : ∀ x ∈ R2, (1 : Int) ≤ x := by
              have : ∀ (S : List (Int × Int)) (e0 : Int) (R0 : List Int) (e1 : Int) (R1 : List Int), eat S e0 R0 = some (e1, R1) → ∀ x ∈ R1, x ∈ R0 := by
                intro S
                induction S with
                | nil => intro e0 R0 e1 R1 h x hx; simp only [eat, Option.some.injEq, Prod.mk.injEq] at h; rw [h.2]; exact hx
                | cons q S ih =>
                  intro e0 R0 e1 R1 h x hx
                  obtain ⟨q1, r1⟩ := q
                  rw [eat_cons] at h
                  split at h
                  · cases h
                  · exact List.mem_of_mem_drop (ih _ _ _ _ h x hx)
              exact fun x hx => hR x (this _ _ _ _ _ hp x hx)
            have ih := rd_dsc f e' (t + kk e R) R2 hless.1.1 hsub T2 R3 hy (by rw [h.2]; exact h1)
            exact eat_dsc (e.toNat + 1) (kk e R) e e R hk0 he (by omega) e' R2 hp ih
theorem bs_dsc {L : List Int} (h : sqlB L = true) (hb : bsB L = true) : dsc (L[0]?.getD 0) L := by
  obtain ⟨⟨h1, h2⟩, h3⟩ := sql_yes h
  unfold bsB at hb
  split at hb
  · cases hb
  · rename_i p hp
    simp only [Bool.and_eq_true, decide_eq_true_eq] at hb
    have h0 : (1 : Int) ≤ L[0]?.getD 0 := by
      have := (h3 L[0] (List.getElem_mem (by omega))).1
      simpa [show 0 < L.length by omega] using this
    exact rd_dsc 65 _ 0 L h0 (fun x hx => (h3 x hx).1) p.1 p.2 hp hb.2
theorem dsc_at : ∀ {e : Int} {L : List Int} {i : Nat}, dsc e L → i + 1 < L.length → L[i + 1]?.getD 0 ≤ L[i]?.getD 0
  | e, [], i, _, hi => by simp at hi
  | e, x :: r, 0, h, hi => by
    cases r with
    | nil => simp at hi
    | cons y s => simpa using h.2.1
  | e, x :: r, i + 1, h, hi => by
    have := dsc_at (e := x) (L := r) (i := i) h.2 (by simpa using hi)
    simpa using this
theorem dsc_of : ∀ {L : List Int} {e : Int}, (0 < L.length → L[0]?.getD 0 ≤ e) → (∀ i, i + 1 < L.length → L[i + 1]?.getD 0 ≤ L[i]?.getD 0) → dsc e L
  | [], _, _, _ => trivial
  | x :: r, e, h0, h => by
    refine ⟨by simpa using h0 (by simp), dsc_of (fun hr => by simpa using h 0 (by simpa using hr)) (fun i hi => by simpa using h (i + 1) (by simpa using hi))⟩
/-- The blocks of a list make it up, and they descend if it does. -/
theorem flB_bk : ∀ (L : List Int), flB (bkL L) = L
  | [] => rfl
  | x :: r => by
    have ih := flB_bk r
    cases h : bkL r with
    | nil =>
      rw [bk_none h]
      rw [h] at ih
      have : r = [] := ih.symm
      subst this; rfl
    | cons p q =>
      obtain ⟨y, k⟩ := p
      have hk := (bk_bound r).2 (y, k) (by rw [h]; simp)
      rw [h] at ih
      by_cases hy : y = x
      · subst hy
        rw [bk_same h]
        conv => rhs; rw [← ih]
        rw [flB_cons, flB_cons]
        show List.replicate (k + 1).toNat y ++ _ = y :: (List.replicate k.toNat y ++ _)
        rw [show (k + 1).toNat = k.toNat + 1 by dsimp only at hk; omega, List.replicate_succ]; rfl
      · rw [bk_other h hy]
        conv => rhs; rw [← ih]
        rw [flB_cons]; rfl
theorem wfB_bk : ∀ {L : List Int} {e : Int}, dsc e L → (∀ x ∈ L, (1 : Int) ≤ x) → wfB (bkL L)
  | [], _, _, _ => trivial
  | x :: r, e, h, h1 => by
    have ih := wfB_bk (L := r) h.2 (fun y hy => h1 y (List.mem_cons_of_mem _ hy))
    have hx := h1 x (List.mem_cons_self ..)
    cases hb : bkL r with
    | nil => rw [bk_none hb]; exact ⟨hx, by show (0 : Int) ≤ 1; decide⟩
    | cons p q =>
      obtain ⟨y, k⟩ := p
      have hk := (bk_bound r).2 (y, k) (by rw [hb]; simp)
      rw [hb] at ih
      dsimp only at hk
      by_cases hy : y = x
      · subst hy
        rw [bk_same hb]
        exact wfB_set ih (by omega)
      · rw [bk_other hb hy]
        refine ⟨?_, by show (0 : Int) ≤ 1; decide, hk.1, ih⟩
        have hyx : y ≤ x := by
          cases r with
          | nil => simp [bkL] at hb
          | cons z s =>
            have e1 := bk_lead s z
            rw [hb] at e1
            have e2 : y = z := by
              have := (List.cons.inj e1).1
              simpa using congrArg Prod.fst this
            rw [e2]; exact h.2.1
        show y < x
        omega
theorem bk_first {x : Int} {r : List Int} : ∃ k q, bkL (x :: r) = (x, k) :: q ∧ 1 ≤ k := ⟨_, _, bk_lead r x, by omega⟩
end Go.Proofs.Ytoebbhicffgdgaa
/- The model's reading of a branch from a sequence: contract of spec.l04Branch. Conditions: stated at each theorem. -/
namespace Go.Proofs.Ytoebbhicffgdgaa
open Go.ChangeShapes Go.WideShapes Go.ChangeAt Go.RowKit Go.Deep
set_option linter.unusedVariables false
set_option linter.unusedSimpArgs false

theorem Boxed.newR (W : World) {H : Nat} {t : TypeId} {v : Value} (h : W.heap.size = H) : Boxed (W.alloc (.cells #[v] t)) H t v := by subst h; exact Boxed.new W t v
theorem keptR' {lo hi : Nat} (w : World) {p : Addr} (h : ¬ (lo ≤ p.block ∧ p.block < hi)) (u : Value) : Kept lo hi w (w.setCell p u) :=
  ⟨by simp [World.setCell], fun b h1 h2 => Below.heap_setCell w p u b (fun e => h ⟨by omega, by omega⟩)⟩
theorem own_boxedR {W : World} {b : Nat} {z : Int} (h : Boxed W b 2 (.int .i64 z)) : OwnI W b (b + 1) (.slice (some ⟨b, 0, none⟩) 1 1) [z] := by
  have hl := h.lt
  exact ⟨⟨rfl, .inr ⟨b, 1, #[.int .i64 z], rfl, Nat.le_refl _, h, Nat.le_refl _, by simp [maxLen], rfl, rfl⟩⟩, fun k hk => by simp [Value.ownBlock] at hk; omega, by omega⟩
theorem kept_grownR {w a w2 : World} {lo hi : Nat} {row : Option Nat} (h : Kept lo hi w a) (hg : a.grownBy w2 row) (hs : hi ≤ a.heap.size) (hn : ∀ b, lo ≤ b → b < hi → some b ≠ row) : Kept lo hi w w2 :=
  h.trans ⟨hg.size, fun b h1 h2 => hg.block b (Nat.lt_of_lt_of_le h2 hs) (hn b h1 h2)⟩
theorem own_tightR {w : World} {lo hi n c d : Nat} {zs : List Int} (h : OwnI w lo hi (.slice (some ⟨d, 0, none⟩) n c) zs) (hd : d < w.heap.size) : OwnI w d (d + 1) (.slice (some ⟨d, 0, none⟩) n c) zs := by
  obtain ⟨⟨h0, h1⟩, h2, h3⟩ := h
  refine ⟨⟨h0, ?_⟩, fun k hk => by (simp [Value.ownBlock] at hk; omega), by omega⟩
  rcases h1 with ⟨e, _⟩ | ⟨g, cap, cur, e, hb, rest⟩
  · cases e
  · simp only [Value.slice.injEq, Option.some.injEq, Addr.mk.injEq] at e
    obtain ⟨⟨rfl, _, _⟩, rfl, rfl⟩ := e
    exact .inr ⟨d, _, cur, rfl, Nat.le_refl _, rest⟩
/-- A branch and whether there is one. -/
def BrAns (w : World) (L : List Int) (b : Bool) (e : Ending) (w' : World) : Prop := ∃ v, e = .returned (.tuple #[.agg #[v], .bool b]) ∧ OwnI w' w.heap.size w'.heap.size v L ∧ Below w.heap.size w w'
theorem ansB_end {w w1 : World} {v : Value} {zs L : List Int} {b b' : Bool} (p : Nat) (hp : w.heap.size ≤ p) (h1 : zs = L) (h2 : b' = b) (ho : OwnI w1 w.heap.size w1.heap.size v zs) (hne : v.ownBlock ≠ some p) (hb : Below w.heap.size w w1) (u : Value) :
    BrAns w L b (.returned (.tuple #[.agg #[v], .bool b'])) (w1.setCell ⟨p, 0, none⟩ u) := by
  obtain ⟨v', e, h5, h6⟩ := ansR_endG (C := 0) (D := 0) p hp h1 rfl ho hne hb u
  subst h2
  cases e
  exact ⟨v, rfl, h5, h6⟩
def bsL (L : List Int) : List Int := if bsB L then bsT L else []
theorem bsL_no {L : List Int} (h : bsB L = false) : [] = bsL L := by rw [bsL, h]; rfl
theorem bsL_yes {L : List Int} (h : bsB L = true) : bsT L = bsL L := by rw [bsL, h]; rfl
theorem bsB_none {L : List Int} (h : bsR L = none) : bsB L = false := by simp only [bsB, h]
theorem bkQ_map (L : List Int) : bkQ L = (bkL L).map fun p => [p.1, p.2] := rfl
theorem map_getD {Bs : List (Int × Int)} {i : Nat} {p : Int × Int} {D : List (Int × Int)} (h : Bs.drop i = p :: D) : (Bs.map fun p => [p.1, p.2]).getD i [] = [p.1, p.2] ∧ i < Bs.length ∧ p ∈ Bs ∧ Bs.drop (i + 1) = D := by
  have hi : i < Bs.length := by
    by_cases hi : i < Bs.length
    · exact hi
    · rw [List.drop_eq_nil_of_le (by omega)] at h; cases h
  rw [List.drop_eq_getElem_cons hi] at h
  have h1 := (List.cons.inj h).1
  refine ⟨by simp [List.getD, hi, h1], hi, by rw [← h1]; exact List.getElem_mem hi, (List.cons.inj h).2⟩
theorem drop_set0 {Bs : List (Int × Int)} {i : Nat} {p p' : Int × Int} {D : List (Int × Int)} (h : Bs.drop i = p :: D) : (Bs.set i p').drop i = p' :: D := by
  obtain ⟨_, hi, _, h2⟩ := map_getD h
  rw [List.drop_set, if_neg (by omega), Nat.sub_self, h]; rfl
theorem map_set {Bs : List (Int × Int)} {i : Nat} {e c c' : Int} {D : List (Int × Int)} (h : Bs.drop i = (e, c) :: D) : (Bs.map fun p => [p.1, p.2]).set i (((Bs.map fun p => [p.1, p.2]).getD i []).set 1 c') = (Bs.set i (e, c')).map fun p => [p.1, p.2] := by
  rw [(map_getD h).1, List.map_set]; rfl
theorem pow_six {j : Nat} (h : 2 * 2 ^ j ≤ 64) : j ≤ 5 := by
  by_cases hj : j ≤ 5
  · exact hj
  · have := Nat.pow_le_pow_right (n := 2) (by omega) (show 6 ≤ j by omega)
    omega
theorem pow_step {e e' : Int} {j : Nat} (h : e.toNat * 2 ^ j ≤ 64) (h1 : 1 ≤ e') (h2 : e' * 2 ≤ e) : e'.toNat * 2 ^ (j + 1) ≤ 64 := by
  have h3 : e'.toNat * 2 ≤ e.toNat := by omega
  have h4 : e'.toNat * 2 * 2 ^ j ≤ e.toNat * 2 ^ j := Nat.mul_le_mul_right _ h3
  rw [Nat.pow_succ, Nat.mul_comm (2 ^ j) 2, ← Nat.mul_assoc]; omega

theorem rows_two {w : World} {lo hi n c i : Nat} {A : Option Addr} {L : List (List Int)} {a b : Int} (h : OwnQ w lo hi (.slice A n c) L) (hL : L.length = n) (hi' : i < n) (he : L.getD i [] = [a, b]) :
    ∃ go gi ci, A = some ⟨go, 0, none⟩ ∧ (lo ≤ go ∧ go < hi) ∧ (lo ≤ gi ∧ gi < hi) ∧ w.cell? ⟨go, i, none⟩ = some (.slice (some ⟨gi, 0, none⟩) 2 ci) ∧ w.cell? ⟨gi, 0, none⟩ = some (.int .i64 a) ∧ w.cell? ⟨gi, 1, none⟩ = some (.int .i64 b) ∧ w.frozen? ⟨gi, 1, none⟩ = false := by
  obtain ⟨go, gi, ci, rfl, h1, h2, h3, h4, h5, h6, _⟩ := rows_at h hL hi' (j := 0) (by rw [he]; simp)
  obtain ⟨go', gi', ci', e1, _, _, k3, _, _, k6, k7⟩ := rows_at h hL hi' (j := 1) (by rw [he]; simp)
  cases e1
  rw [h3] at k3
  simp only [Option.some.injEq, Value.slice.injEq, Addr.mk.injEq] at k3
  obtain ⟨⟨rfl, _, _⟩, _, _⟩ := k3
  rw [he] at h3 h6 k6
  exact ⟨go, gi, ci, rfl, ⟨h1, h2⟩, ⟨h4, h5⟩, h3, h6, k6, k7⟩
theorem flB_pos : ∀ {D : List (Int × Int)}, wfB D → ∀ y ∈ flB D, (1 : Int) ≤ y
  | [], _, y, hy => by cases hy
  | p :: D, h, y, hy => by
    rw [flB_cons] at hy
    rcases List.mem_append.1 hy with h5 | h5
    · have := (List.mem_replicate.1 h5).2
      rw [this]; exact (wfB_pos h).1
    · exact flB_pos (wfB_tail h) y h5
theorem lead_lt {e c x c1 : Int} {D : List (Int × Int)} (h : wfB ((e, c) :: (x, c1) :: D)) : lead e (flB ((e, c) :: (x, c1) :: D)) < (flB ((e, c) :: (x, c1) :: D)).length := by
  have h1 := h.2.2.1
  dsimp only at h1
  rw [show lead e (flB ((e, c) :: (x, c1) :: D)) = c.toNat from lead_flB h, flB_cons, flB_cons]
  simp; omega
theorem grown_cell (w : World) (p : Addr) (u : Value) : w.grownBy (w.setCell p u) (some p.block) := grown_setCell (World.grownBy.refl w _) rfl u
theorem dvd_half {a e : Int} (h : a ∣ e) (h1 : 1 ≤ a) (h2 : a < e) : a * 2 ≤ e := by
  obtain ⟨k, rfl⟩ := h
  have h3 : a * 1 < a * k := by omega
  have h4 : 1 < k := Int.lt_of_mul_lt_mul_left h3 (by omega)
  exact Int.mul_le_mul_of_nonneg_left (by omega) (by omega)

set_option maxRecDepth 100000 in
set_option maxHeartbeats 3000000 in
theorem l04Branch_any (v : Value) (zs : List Int) (w : World) (h : ReadI w w.heap.size v zs) (hs : sqlB zs = true) :
    Calls Try.prog 82 #[v] w (BrAns w (bsL zs) (bsB zs)) := by
  have HS := Lib.hid hs
  obtain ⟨⟨hn1, hn2⟩, hz⟩ := sql_yes hs
  obtain ⟨n, A, c, rfl, hr, HL, _, hnc, HF, hcm⟩ := h.split2
  rw [HL.out] at hn1 hn2
  obtain ⟨a, rfl, hlt, hc0⟩ := hr.2 0 hn1
  obtain ⟨g, o, rfl⟩ := HF.out a rfl
  have hgw : g < w.heap.size := hlt
  obtain ⟨W0, HE⟩ : ∃ W, W = w.alloc (.cells #[.slice none 0 0] 26) := ⟨_, rfl⟩
  have hS0 : Start1 w W0 := by rw [HE]; exact Start1.new _
  have hb0 := hS0.below
  have HC : Hid (∀ k, k < n → W0.cell? ⟨g, o + k, none⟩ = some (.int .i64 (zs[k]?.getD 0))) := Lib.hid fun k hk => by
    obtain ⟨a', e1, _, h3⟩ := hr.2 k hk
    cases e1
    rw [add_lit] at h3
    rw [hb0.cell (p := ⟨g, o + k, none⟩) hgw, h3]; rfl
  have HRD := Lib.hid ((h.below hb0).more hb0.size)
  have S0 := Lib.hid hS0
  have HEQ := Lib.hid HE
  have HZ := Lib.hid hz
  have hsS := hS0.size
  have hgW0 : g < W0.heap.size := by omega
  have hz0 : (1 : Int) ≤ zs[0]?.getD 0 ∧ zs[0]?.getD 0 ≤ 64 := by
    have h9 : 0 < zs.length := by rw [HL.out]; omega
    have := hz zs[0] (List.getElem_mem h9); simpa [h9] using this
  clear h hr hlt hz hs hc0 hS0 hb0 HE
  go_enter Try.func82, Try.ntmps82
  go_wp2_with fail
  rw [← HEQ.out]
  go_loopw [4] (fun vi wr => ∃ i : Nat, (1 ≤ i ∧ i ≤ n) ∧ vi = .int .i64 i ∧ Hid (∀ j : Nat, j + 1 < i → zs[j + 1]?.getD (0 : Int) ≤ zs[j]?.getD (0 : Int)) ∧ Hid (Below W0.heap.size W0 wr)) (fun vi _ => n - (intOf vi).toNat)
  case atStart => exact ⟨1, by omega, rfl, Lib.hid (fun j hj => by omega), Lib.hid (Below.refl _ _)⟩
  case round =>
    obtain ⟨i, hi, rfl, hdsc, hb⟩ := hrel
    have hsz := hb.out.size
    by_cases hin : i < n
    · have hini : (i : Int) < (n : Int) := by omega
      have ca := (hb.out.cell (p := ⟨g, o + i, none⟩) hgW0).trans (HC.out i hin)
      have cb := (hb.out.cell (p := ⟨g, o + (i - 1), none⟩) hgW0).trans (HC.out (i - 1) (by omega))
      obtain ⟨a, ha⟩ : ∃ a, zs[i]?.getD 0 = a := ⟨_, rfl⟩
      obtain ⟨b, hb'⟩ : ∃ a, zs[i - 1]?.getD 0 = a := ⟨_, rfl⟩
      rw [ha] at ca
      rw [hb'] at cb
      have HA := Lib.hid ha
      have HBv := Lib.hid hb'
      have q0 : (0 : Int) ≤ (i : Int) - 1 := by omega
      have q1 : ((i : Int) - 1).toNat = i - 1 := by omega
      have q2 : (i : Int) - 1 < (n : Int) := by omega
      have q3 : (1 : Int) ≤ (i : Int) := by omega
      have q4 : i - 1 < n := by omega
      have p1 : IntKind.i64.wrap ((i : Int) - 1) = (i : Int) - 1 := IntWalk.i64_in _ (by omega)
      clear ha hb'
      by_cases hab : b < a
      · go_wp2_with fail
        refine wp_region_held_drew (S := fun w' => w'.cell? ⟨g, o + i, none⟩ = some (.int .i64 a) ∧ w'.cell? ⟨g, o + (i - 1), none⟩ = some (.int .i64 b)) (by kernel_rfl) ⟨ca, cb⟩ (fun hHeld => ?_)
        refine takeY 0 _ (v := ?_) rfl rfl (by kernel_rfl) (by kernel_rfl) (by kernel_rfl) (fun _ _ _ h => h) (by kernel_rfl) ?_ (by assumption) ?_
        rotate_left 1
        · intro w hSw; (try dsimp only at hSw); go_simp; (try with_reducible rfl)
        try simp only [Act.put, List.setIfInBounds_toArray, List.set_cons_zero, List.set_cons_succ]
        refine takeY 1 _ (v := ?_) rfl rfl (by kernel_rfl) (by kernel_rfl) (by kernel_rfl) (fun _ _ _ h => h) (by kernel_rfl) ?_ (by assumption) ?_
        rotate_left 1
        · intro w hSw; (try dsimp only at hSw); go_simp; (try with_reducible rfl)
        try simp only [Act.put, List.setIfInBounds_toArray, List.set_cons_zero, List.set_cons_succ]
        refine takeY 2 _ (v := ?_) rfl rfl (by kernel_rfl) (by kernel_rfl) (by kernel_rfl) (fun _ _ _ h => h) (by kernel_rfl) ?_ (by assumption) ?_
        rotate_left 1
        · intro w hSw; (try dsimp only at hSw); go_simp; (try with_reducible rfl)
        try simp only [Act.put, List.setIfInBounds_toArray, List.set_cons_zero, List.set_cons_succ]
        refine takeY 3 _ (v := ?_) rfl rfl (by kernel_rfl) (by kernel_rfl) (by kernel_rfl) (fun _ _ _ h => h) (by kernel_rfl) ?_ (by assumption) ?_
        rotate_left 1
        · intro w hSw; (try dsimp only at hSw); go_simp; (try with_reducible rfl)
        try simp only [Act.put, List.setIfInBounds_toArray, List.set_cons_zero, List.set_cons_succ]
        refine takeY 4 _ (v := ?_) rfl rfl (by kernel_rfl) (by kernel_rfl) (by kernel_rfl) (fun _ _ _ h => h) (by kernel_rfl) ?_ (by assumption) ?_
        rotate_left 1
        · intro w hSw; (try dsimp only at hSw); go_simp; (try with_reducible rfl)
        try simp only [Act.put, List.setIfInBounds_toArray, List.set_cons_zero, List.set_cons_succ]
        refine takeY 5 _ (v := ?_) rfl rfl (by kernel_rfl) (by kernel_rfl) (by kernel_rfl) (fun _ _ _ h => h) (by kernel_rfl) ?_ (by assumption) ?_
        rotate_left 1
        · intro w hSw; (try dsimp only at hSw); go_simp; (try with_reducible rfl)
        try simp only [Act.put, List.setIfInBounds_toArray, List.set_cons_zero, List.set_cons_succ]
        refine takeY 6 _ (v := ?_) rfl rfl (by kernel_rfl) (by kernel_rfl) (by kernel_rfl) (fun _ _ _ h => h) (by kernel_rfl) ?_ (by assumption) ?_
        rotate_left 1
        · intro w hSw; (try dsimp only at hSw); go_simp; (try with_reducible rfl)
        try simp only [Act.put, List.setIfInBounds_toArray, List.set_cons_zero, List.set_cons_succ]
        refine takeY 7 _ (v := ?_) rfl rfl (by kernel_rfl) (by kernel_rfl) (by kernel_rfl) (fun _ _ _ h => h) (by kernel_rfl) ?_ (by assumption) ?_
        rotate_left 1
        · intro w hSw; (try dsimp only at hSw); go_simp; (try with_reducible rfl)
        try simp only [Act.put, List.setIfInBounds_toArray, List.set_cons_zero, List.set_cons_succ]
        refine takeY 8 _ (v := ?_) rfl rfl (by kernel_rfl) (by kernel_rfl) (by kernel_rfl) (fun _ _ _ h => h) (by kernel_rfl) ?_ (by assumption) ?_
        rotate_left 1
        · intro w hSw; (try dsimp only at hSw); go_simp; (try with_reducible rfl)
        try simp only [Act.put, List.setIfInBounds_toArray, List.set_cons_zero, List.set_cons_succ]
        refine takeY 9 _ (v := ?_) rfl rfl (by kernel_rfl) (by kernel_rfl) (by kernel_rfl) (fun _ _ _ h => h) (by kernel_rfl) ?_ (by assumption) ?_
        rotate_left 1
        · intro w hSw; (try dsimp only at hSw); go_simp; (try with_reducible rfl)
        try simp only [Act.put, List.setIfInBounds_toArray, List.set_cons_zero, List.set_cons_succ]
        refine wpAnyH_done (by kernel_rfl) ?_ _
        obtain ⟨l2, l3, l4⟩ := S0.out.later (hb.out)
        have HBF : Hid (bsB zs = false) := Lib.hid (by
          cases hbb : bsB zs
          · rfl
          · have h5 := dsc_at (i := i - 1) (bs_dsc HS.out hbb) (by rw [HL.out]; omega)
            rw [show i - 1 + 1 = i by omega, HA.out, HBv.out] at h5
            omega)
        have HBW := Lib.hid (S0.out.below.trans ((Below.drew hb.out).mono (by omega)))
        go_wp2_with fail
        have cr : (World.setCell wr ⟨w.heap.size, 0, none⟩ (.slice none 0 0)).cell? ⟨w.heap.size, 0, none⟩ = some (.slice none 0 0) := by go_simp
        refine bodyPost_ret (v := .tuple #[.agg #[.slice none 0 0], .bool false]) (by simp [results, Try.results82, go_sem, cr]) rfl ?_
        exact ansB_end _ (Nat.le_refl _) (bsL_no HBF.out) HBF.out.symm (OwnI.nil _ _) (by intro h; cases h) HBW.out _
      · have HD2 : Hid (∀ j : Nat, j + 1 < i + 1 → zs[j + 1]?.getD (0 : Int) ≤ zs[j]?.getD (0 : Int)) := Lib.hid (fun j hj => by
          by_cases h5 : j + 1 < i
          · exact hdsc.out j h5
          · obtain rfl : i = j + 1 := by omega
            have h6 := HA.out
            have h7 := HBv.out
            rw [Nat.add_sub_cancel] at h7
            rw [h6, h7]; omega)
        go_wp2_with fail
        refine wp_region_held_drew (S := fun w' => w'.cell? ⟨g, o + i, none⟩ = some (.int .i64 a) ∧ w'.cell? ⟨g, o + (i - 1), none⟩ = some (.int .i64 b)) (by kernel_rfl) ⟨ca, cb⟩ (fun hHeld => ?_)
        refine takeY 0 _ (v := ?_) rfl rfl (by kernel_rfl) (by kernel_rfl) (by kernel_rfl) (fun _ _ _ h => h) (by kernel_rfl) ?_ (by assumption) ?_
        rotate_left 1
        · intro w hSw; (try dsimp only at hSw); go_simp; (try with_reducible rfl)
        try simp only [Act.put, List.setIfInBounds_toArray, List.set_cons_zero, List.set_cons_succ]
        refine takeY 1 _ (v := ?_) rfl rfl (by kernel_rfl) (by kernel_rfl) (by kernel_rfl) (fun _ _ _ h => h) (by kernel_rfl) ?_ (by assumption) ?_
        rotate_left 1
        · intro w hSw; (try dsimp only at hSw); go_simp; (try with_reducible rfl)
        try simp only [Act.put, List.setIfInBounds_toArray, List.set_cons_zero, List.set_cons_succ]
        refine takeY 2 _ (v := ?_) rfl rfl (by kernel_rfl) (by kernel_rfl) (by kernel_rfl) (fun _ _ _ h => h) (by kernel_rfl) ?_ (by assumption) ?_
        rotate_left 1
        · intro w hSw; (try dsimp only at hSw); go_simp; (try with_reducible rfl)
        try simp only [Act.put, List.setIfInBounds_toArray, List.set_cons_zero, List.set_cons_succ]
        refine takeY 3 _ (v := ?_) rfl rfl (by kernel_rfl) (by kernel_rfl) (by kernel_rfl) (fun _ _ _ h => h) (by kernel_rfl) ?_ (by assumption) ?_
        rotate_left 1
        · intro w hSw; (try dsimp only at hSw); go_simp; (try with_reducible rfl)
        try simp only [Act.put, List.setIfInBounds_toArray, List.set_cons_zero, List.set_cons_succ]
        refine takeY 4 _ (v := ?_) rfl rfl (by kernel_rfl) (by kernel_rfl) (by kernel_rfl) (fun _ _ _ h => h) (by kernel_rfl) ?_ (by assumption) ?_
        rotate_left 1
        · intro w hSw; (try dsimp only at hSw); go_simp; (try with_reducible rfl)
        try simp only [Act.put, List.setIfInBounds_toArray, List.set_cons_zero, List.set_cons_succ]
        refine takeY 5 _ (v := ?_) rfl rfl (by kernel_rfl) (by kernel_rfl) (by kernel_rfl) (fun _ _ _ h => h) (by kernel_rfl) ?_ (by assumption) ?_
        rotate_left 1
        · intro w hSw; (try dsimp only at hSw); go_simp; (try with_reducible rfl)
        try simp only [Act.put, List.setIfInBounds_toArray, List.set_cons_zero, List.set_cons_succ]
        refine takeY 6 _ (v := ?_) rfl rfl (by kernel_rfl) (by kernel_rfl) (by kernel_rfl) (fun _ _ _ h => h) (by kernel_rfl) ?_ (by assumption) ?_
        rotate_left 1
        · intro w hSw; (try dsimp only at hSw); go_simp; (try with_reducible rfl)
        try simp only [Act.put, List.setIfInBounds_toArray, List.set_cons_zero, List.set_cons_succ]
        refine takeY 7 _ (v := ?_) rfl rfl (by kernel_rfl) (by kernel_rfl) (by kernel_rfl) (fun _ _ _ h => h) (by kernel_rfl) ?_ (by assumption) ?_
        rotate_left 1
        · intro w hSw; (try dsimp only at hSw); go_simp; (try with_reducible rfl)
        try simp only [Act.put, List.setIfInBounds_toArray, List.set_cons_zero, List.set_cons_succ]
        refine takeY 8 _ (v := ?_) rfl rfl (by kernel_rfl) (by kernel_rfl) (by kernel_rfl) (fun _ _ _ h => h) (by kernel_rfl) ?_ (by assumption) ?_
        rotate_left 1
        · intro w hSw; (try dsimp only at hSw); go_simp; (try with_reducible rfl)
        try simp only [Act.put, List.setIfInBounds_toArray, List.set_cons_zero, List.set_cons_succ]
        refine takeY 9 _ (v := ?_) rfl rfl (by kernel_rfl) (by kernel_rfl) (by kernel_rfl) (fun _ _ _ h => h) (by kernel_rfl) ?_ (by assumption) ?_
        rotate_left 1
        · intro w hSw; (try dsimp only at hSw); go_simp; (try with_reducible rfl)
        try simp only [Act.put, List.setIfInBounds_toArray, List.set_cons_zero, List.set_cons_succ]
        refine wpAnyH_done (by kernel_rfl) ?_ _
        go_wp2_with fail
        go_roundw
        case rel => exact ⟨i + 1, by omega, by go_num, HD2, Lib.hid (Below.drew hb.out)⟩
        case measure => first | (simp [intOf]; done) | (simp [intOf]; omega)
    · obtain rfl : n = i := by omega
      have hini : ¬ (n : Int) < (n : Int) := by omega
      have hdd : dsc (zs[0]?.getD 0) zs := dsc_of (fun _ => Int.le_refl _) (fun j hj => hdsc.out j (by rw [HL.out] at hj; exact hj))
      have hwf := wfB_bk hdd (fun x hx => (HZ.out x hx).1)
      have HRW := Lib.hid ((HRD.out.below hb.out).more hb.out.size)
      have cz := (hb.out.cell (p := ⟨g, o + 0, none⟩) hgW0).trans (HC.out 0 hn1)
      rw [Nat.add_zero] at cz
      obtain ⟨z0, hz00⟩ : ∃ z, zs[0]?.getD 0 = z := ⟨_, rfl⟩
      have HZ0 := Lib.hid hz00
      rw [hz00] at cz hz0
      have HBD := Lib.hid (bk_bound zs)
      have HBM : Hid (∀ p ∈ bkL zs, (0 ≤ p.2 ∧ p.2 ≤ 400) ∧ 1 ≤ p.1 ∧ p.1 ≤ 64) := Lib.hid (fun p hp => by
        have h5 := HBD.out.2 p hp
        rw [HL.out] at h5
        have h6 : p.1 ∈ zs := by
          rw [← flB_bk zs]
          exact List.mem_flatMap.2 ⟨p, hp, List.mem_replicate.2 ⟨by omega, rfl⟩⟩
        exact ⟨by omega, HZ.out _ h6⟩)
      obtain ⟨k0, D0, hbk, hk0⟩ : ∃ k q, bkL zs = (z0, k) :: q ∧ 1 ≤ k := by
        obtain ⟨x, r, hxr⟩ : ∃ x r, zs = x :: r := by
          cases zs with
          | nil => have := HL.out; simp at this; omega
          | cons x r => exact ⟨x, r, rfl⟩
        have h5 : x = z0 := by have := HZ0.out; rw [hxr] at this; simpa using this
        rw [hxr, ← h5]; exact bk_first
      have HBS0 : Hid (bsR zs = rdC [] (rd 65 z0 0 (flB ((z0, k0) :: D0)))) := Lib.hid (by rw [rdC_nil, ← hbk, flB_bk]; show rd 65 (zs[0]?.getD 0) 0 zs = _; rw [HZ0.out])
      have HWF0 : Hid (wfB ((z0, k0) :: D0)) := Lib.hid (by rw [← hbk]; exact hwf)
      have HDR0 : Hid ((bkL zs).drop 0 = (z0, k0) :: D0) := Lib.hid hbk
      have hNB0 : 0 < (bkL zs).length := by rw [hbk]; simp
      have hNB4 : (bkL zs).length ≤ 400 := by have := HBD.out.1; rw [HL.out] at this; omega
      have hbl : (bkQ zs).length = (bkL zs).length := by rw [bkQ_map, List.length_map]
      clear hdd hwf hz00 hbk hdsc
      go_wp2_with fail
      refine (l04Blocks_any _ zs wr HRW.out (by rw [HL.out]; omega)).mono ?_
      rintro e9 w1 ⟨AQ, cQ, rfl, hoq, hb1⟩
      rw [hbl] at hoq ⊢
      rw [bkQ_map] at hoq
      have cz1 := (hb1.cell (p := ⟨g, o, none⟩) (by show g < _; omega)).trans cz
      have hs1 := hb1.size
      have HB1 := Lib.hid (hb.out.trans (hb1.mono hsz))
      generalize hBs : bkL zs = Bs0 at *
      obtain ⟨NB, hNB⟩ : ∃ NB, Bs0.length = NB := ⟨_, rfl⟩
      have HNB := Lib.hid hNB
      rw [hNB] at hoq hNB0 hNB4 ⊢
      obtain ⟨loQ, hlo⟩ : ∃ lo, wr.heap.size = lo := ⟨_, rfl⟩
      obtain ⟨hiQ, hhi⟩ : ∃ hi, w1.heap.size = hi := ⟨_, rfl⟩
      rw [hlo, hhi] at hoq
      have hloQ : W0.heap.size ≤ loQ := by omega
      have HQ0 := Lib.hid hoq
      have HHI := Lib.hid hhi
      clear hoq hb1 hb cz hNB hbl hlo
      obtain ⟨WA, HWA⟩ : ∃ W, W = w1.alloc (.cells #[.int .i64 z0] 2) := ⟨_, rfl⟩
      have hsA : WA.heap.size = hiQ + 1 := by rw [HWA]; simp [hhi]
      have hBA : Boxed WA hiQ 2 (.int .i64 z0) := by rw [HWA]; exact Boxed.newR _ hhi
      have hbA : Below w1.heap.size w1 WA := by rw [HWA]; exact below_box2 _ _
      have HWA' := Lib.hid HWA
      obtain ⟨WB, HWB⟩ : ∃ W, W = WA.alloc (.cells #[.slice (some ⟨hiQ, 0, none⟩) 1 1] 26) := ⟨_, rfl⟩
      have hsB : WB.heap.size = hiQ + 2 := by rw [HWB]; simp [hsA]
      have hBB : Boxed WB (hiQ + 1) 26 (.slice (some ⟨hiQ, 0, none⟩) 1 1) := by rw [HWB]; exact Boxed.newR _ hsA
      have hbB : Below WA.heap.size WA WB := by rw [HWB]; exact below_box2 _ _
      have HWB' := Lib.hid HWB
      have hbAB : Below w1.heap.size w1 WB := hbA.trans (hbB.mono hbA.size)
      have HOT := Lib.hid ((own_boxedR hBA).kept (Kept.of_below hbB (by omega)))
      have HBX := Lib.hid hBB
      have HQB := Lib.hid (HQ0.out.kept (Kept.of_below hbAB (by omega)))
      have HBL := Lib.hid (HB1.out.trans (hbAB.mono (by omega)))
      have czB := (hbAB.cell (p := ⟨g, o, none⟩) (by show g < _; omega)).trans cz1
      have czC : World.cell? ((w1.alloc (.cells #[.int .i64 z0] 2)).alloc (.cells #[.slice (some ⟨hiQ, 0, none⟩) 1 1] 26)) ⟨g, o, none⟩ = some (.int .i64 z0) := by rw [← HWA, ← HWB]; exact czB
      clear hbA hbB hbAB hBA hBB HWA HWB
      go_wp2_with fail
      rw [← HWA'.out, ← HWB'.out]
      obtain ⟨b0, hb0e⟩ : ∃ b, hiQ + 1 = b := ⟨_, rfl⟩
      rw [hb0e] at HBX ⊢
      have hhiW : hiQ ≤ WB.heap.size := by omega
      have hloW : W0.heap.size ≤ hiQ := by omega
      clear czC czB cz1 hhi HWA' HWB' HRW HBD hhiW
      go_loopw [7, 8, 9] (fun v7 v8 v9 wr => ∃ (Bs D : List (Int × Int)) (T : List Int) (at' j f gt ct : Nat) (t e c : Int), v7 = .int .i64 t ∧ v8 = .int .i64 at' ∧ v9 = .int .i64 e ∧ at' < NB ∧ Hid (Bs.length = NB) ∧ Hid (Bs.drop at' = (e, c) :: D) ∧ Hid (wfB ((e, c) :: D)) ∧ (1 ≤ e ∧ e ≤ 64) ∧ e.toNat < f ∧ (0 ≤ t ∧ t ≤ (64 - e) * 25664) ∧ Hid (∀ p ∈ Bs, (0 ≤ p.2 ∧ p.2 ≤ 400) ∧ 1 ≤ p.1 ∧ p.1 ≤ 64) ∧ Hid (T.length = j) ∧ Hid (∀ z ∈ T, 0 ≤ z ∧ z ≤ 1642496) ∧ e.toNat * 2 ^ j ≤ 64 ∧ Hid (bsR zs = rdC T (rd f e t (flB ((e, c) :: D)))) ∧ Hid (OwnQ wr loQ hiQ (.slice AQ NB cQ) (Bs.map fun p => [p.1, p.2])) ∧ Hid (OwnI wr gt (gt + 1) (.slice (some ⟨gt, 0, none⟩) (j + 1) ct) (z0 :: T)) ∧ Hid (Boxed wr b0 26 (.slice (some ⟨gt, 0, none⟩) (j + 1) ct)) ∧ (hiQ ≤ gt ∧ gt ≠ b0 ∧ b0 < wr.heap.size ∧ gt < wr.heap.size) ∧ Hid (Below W0.heap.size W0 wr)) (fun _ _ v9 _ => (intOf v9).toNat)
      case atStart => exact ⟨Bs0, D0, [], 0, 0, 65, hiQ, 1, 0, z0, k0, rfl, rfl, rfl, hNB0, HNB, HDR0, HWF0, hz0, by omega, by omega, HBM, Lib.hid rfl, Lib.hid (fun z h => by cases h), by simp; omega, HBS0, HQB, HOT, HBX, by omega, HBL⟩
      case round =>
        clear HDR0 HWF0 HBM HBS0 HQB HOT HBX HBL HQ0 HB1
        obtain ⟨Bs, D, T, at', j, f, gt, ct, t, e, c, rfl, rfl, rfl, hat, hNBs, hdr, hwf, he, hf, ht, hBM, hT, hTB, hpw, hbs, hq, hot, hbx, hgg, hb⟩ := hrel
        have hsz := hb.out.size
        obtain ⟨f, rfl⟩ : ∃ f', f = f' + 1 := ⟨f - 1, by omega⟩
        have hcx := hbx.out.cell
        have hfx := hbx.out.frozen
        by_cases he1 : e ≤ 1
        · have hei : ¬ (1 : Int) < e := by omega
          obtain rfl : e = 1 := by omega
          have hDn : D = [] := by
            cases D with
            | nil => rfl
            | cons p D =>
              have h5 := hwf.out
              have h6 := h5.1
              have h7 := wfB_pos (wfB_tail h5)
              dsimp only at h6
              omega
          subst hDn
          have HSR : Hid (bsR zs = some (T, flB [(1, c)])) := Lib.hid (by rw [hbs.out, rd_end (by omega)]; simp [rdC])
          have HON : Hid (lead 1 (flB [(1, c)]) = (flB [((1 : Int), c)]).length) := Lib.hid (by rw [show (1 : Int) = ((1 : Int), c).1 from rfl, lead_flB hwf.out]; simp [flB])
          have HBB : Hid (bsB zs = brB (z0 :: T)) := Lib.hid (by simp only [bsB, HSR.out, HZ0.out]; rw [decide_eq_true HON.out, Bool.and_true])
          have HBT : Hid (bsT zs = z0 :: T) := Lib.hid (by simp only [bsT, HSR.out, HZ0.out])
          have hlen : (z0 :: T).length = j + 1 := by simp [hT.out]
          have HRT : Hid (ReadI wr wr.heap.size (.slice (some ⟨gt, 0, none⟩) (j + 1) ct) (z0 :: T)) := Lib.hid (hot.out.raise (hi' := wr.heap.size) (by omega) (Nat.le_refl _)).reads
          have HWT : Hid (∀ z ∈ z0 :: T, (Lit.int .i64 z).wf = true) := Lib.hid (fun z hz => by
            rcases List.mem_cons.1 hz with h5 | h5
            · exact WalkArith.wf_i64 (by omega)
            · have := hTB.out z h5; exact WalkArith.wf_i64 (by omega))
          have hj1 : j ≤ 1000 := by
            have h5 := @Nat.lt_two_pow_self j
            have h6 : (1 : Int).toNat = 1 := rfl
            rw [h6] at hpw
            omega
          clear he1 hbs
          go_wp2_with fail
          cases hp : brB (z0 :: T)
          · refine (l03Is_if _ (z0 :: T) wr false HRT.out (by omega) HWT.out hp).mono ?_
            rintro e9 w6 ⟨rfl, hb6⟩
            have HP := Lib.hid hp
            have HB6 := Lib.hid (hb.out.trans (hb6.mono hsz))
            have hs6 := HB6.out.size
            clear hb6 hp
            obtain ⟨l2, l3, l4⟩ := S0.out.later (HB6.out)
            have HBF : Hid (bsB zs = false) := Lib.hid (HBB.out.trans HP.out)
            have HBW := Lib.hid (S0.out.below.trans ((HB6.out).mono (by omega)))
            go_wp2_with fail
            have cr : (World.setCell w6 ⟨w.heap.size, 0, none⟩ (.slice none 0 0)).cell? ⟨w.heap.size, 0, none⟩ = some (.slice none 0 0) := by go_simp
            refine bodyPost_ret (v := .tuple #[.agg #[.slice none 0 0], .bool false]) (by simp [results, Try.results82, go_sem, cr]) rfl ?_
            exact ansB_end _ (Nat.le_refl _) (bsL_no HBF.out) HBF.out.symm (OwnI.nil _ _) (by intro h; cases h) HBW.out _
          · refine (l03Is_if _ (z0 :: T) wr true HRT.out (by omega) HWT.out hp).mono ?_
            rintro e9 w6 ⟨rfl, hb6⟩
            have HP := Lib.hid hp
            have HB6 := Lib.hid (hb.out.trans (hb6.mono hsz))
            have hs6 := HB6.out.size
            have hc6 := (hb6.cell (p := ⟨b0, 0, none⟩) (by show b0 < _; omega)).trans hcx
            have O6 := Lib.hid (hot.out.kept (Kept.of_below hb6 (by omega)))
            obtain ⟨l2, l3, l4⟩ := S0.out.later HB6.out
            have B6 := Lib.hid (S0.out.below.trans (HB6.out.mono (by omega)))
            have hs7 := hb6.size
            clear hb6 hp
            go_wp2_with fail
            have cr : (w6.setCell ⟨w.heap.size, 0, none⟩ (.slice (some ⟨gt, 0, none⟩) (j + 1) ct)).cell? ⟨w.heap.size, 0, none⟩ = some (.slice (some ⟨gt, 0, none⟩) (j + 1) ct) := by go_simp
            refine bodyPost_ret (v := .tuple #[.agg #[.slice (some ⟨gt, 0, none⟩) (j + 1) ct], .bool true]) (by simp [results, Try.results82, go_sem, cr]) rfl ?_
            have hne : (Value.slice (some ⟨gt, 0, none⟩) (j + 1) ct).ownBlock ≠ some w.heap.size := by simp [Value.ownBlock]; omega
            exact ansB_end _ (Nat.le_refl _) (by rw [← bsL_yes (HBB.out.trans HP.out), HBT.out]) (HBB.out.trans HP.out).symm ((own_lessB O6.out (by omega)).raise (by omega) (Nat.le_refl _)) hne B6.out _
        · have hei : (1 : Int) < e := by omega
          cases D with
          | nil =>
            have hl1 : NB = at' + 1 := by
              have h5 := congrArg List.length hdr.out
              rw [List.length_drop, hNBs.out] at h5
              simp at h5; omega
            have HN : Hid (bsR zs = none) := Lib.hid (by
              rw [hbs.out, rd_short he1 (by rw [show lead e (flB [(e, c)]) = c.toNat from lead_flB hwf.out]; simp [flB])]; rfl)
            have hge : (NB : Int) ≤ (at' : Int) + 1 := by omega
            clear he1 hbs
            obtain ⟨l2, l3, l4⟩ := S0.out.later (hb.out)
            have HBF : Hid (bsB zs = false) := Lib.hid (bsB_none HN.out)
            have HBW := Lib.hid (S0.out.below.trans ((hb.out).mono (by omega)))
            go_wp2_with fail
            have cr : (World.setCell wr ⟨w.heap.size, 0, none⟩ (.slice none 0 0)).cell? ⟨w.heap.size, 0, none⟩ = some (.slice none 0 0) := by go_simp
            refine bodyPost_ret (v := .tuple #[.agg #[.slice none 0 0], .bool false]) (by simp [results, Try.results82, go_sem, cr]) rfl ?_
            exact ansB_end _ (Nat.le_refl _) (bsL_no HBF.out) HBF.out.symm (OwnI.nil _ _) (by intro h; cases h) HBW.out _
          | cons p D2 =>
            obtain ⟨x, c1⟩ := p
            obtain ⟨hxe, hcc0, hcc1, hwf2⟩ := hwf.out
            dsimp only at hxe hcc0 hcc1
            have hx1 := (wfB_pos hwf2).1
            dsimp only at hx1
            have hm0 := map_getD hdr.out
            have hdr2 := hm0.2.2.2
            have hm1 := map_getD hdr2
            have hat1 : at' + 1 < NB := by rw [← hNBs.out]; exact hm1.2.1
            have hcB := hBM.out _ hm0.2.2.1
            have hxB := hBM.out _ hm1.2.2.1
            dsimp only at hcB hxB
            have hlenQ : (Bs.map fun p => [p.1, p.2]).length = NB := by rw [List.length_map, hNBs.out]
            have HLQ := Lib.hid hlenQ
            obtain ⟨go, gi, ci, rfl, s1, s2, r1, r2, r3, _⟩ := rows_two hq.out hlenQ hat hm0.1
            obtain ⟨go', gi2, ci2, e1, s3, s4, r4, r5, r6, _⟩ := rows_two hq.out hlenQ hat1 hm1.1
            cases e1
            have hce := mul_range2 (A := 400) (B := 64) (a := c) (b := e) (by omega) (by omega)
            have HEF := Lib.hid (eat_first hwf.out)
            have HRB : Hid (∀ y ∈ flB ((e, c) :: (x, c1) :: D2), (1 : Int) ≤ y) := Lib.hid (flB_pos hwf.out)
            have HLT : Hid (lead e (flB ((e, c) :: (x, c1) :: D2)) < (flB ((e, c) :: (x, c1) :: D2)).length) := Lib.hid (lead_lt hwf.out)
            obtain ⟨K, hK⟩ : ∃ K, t + c * e + x = K := ⟨_, rfl⟩
            have HKT : Hid (t + (c * e + x) = K) := Lib.hid (by omega)
            have p1 : IntKind.i64.wrap (c * e) = c * e := IntWalk.i64_in _ (by omega)
            have p2 : IntKind.i64.wrap (t + c * e) = t + c * e := IntWalk.i64_in _ (by omega)
            have p3 : IntKind.i64.wrap (t + c * e + x) = K := by rw [hK]; exact IntWalk.i64_in _ (by omega)
            have hKb : 0 ≤ K ∧ K ≤ t + 25664 := by omega
            have hj5 : j ≤ 5 := pow_six (by
              have h5 : 2 * 2 ^ j ≤ e.toNat * 2 ^ j := Nat.mul_le_mul_right _ (by omega)
              omega)
            have p4 : IntKind.i64.wrap ((at' : Int) + 1) = (at' : Int) + 1 := IntWalk.i64_in _ (by omega)
            have q1 : ((at' : Int) + 1).toNat = at' + 1 := by omega
            have q2 : (0 : Int) ≤ (at' : Int) + 1 := by omega
            have q3 : (at' : Int) + 1 < (NB : Int) := by omega
            have q4 : (at' : Int) < (NB : Int) := by omega
            have q5 : ¬ (NB : Int) ≤ (at' : Int) + 1 := by omega
            have q6 : ¬ (8 : Int) < (j : Int) + 1 + 1 := by omega
            have q7 : (0 : Int) ≤ (at' : Int) := by omega
            have HE1 := Lib.hid he1
            have HLZ : Hid ((z0 :: T).length = j + 1) := Lib.hid (by simp [hT.out])
            have HDR2 := Lib.hid hdr2
            have HWF2 := Lib.hid hwf2
            obtain ⟨i0, hi0, hy0, hy1, hy2⟩ := info_parts int_info
            clear he1 hK hm0 hm1 hdr2 hwf2 hlenQ
            go_wp2_with (at_builtin; (refine Go.wpList_append_lies _ rfl _ _ 24 rfl gt 2 i0 (.int .i64 0) 1 8 Try.underlying24 hi0 hy0 hy1 hy2 rfl (by decide) (.slice (some ⟨gt, 0, none⟩) (j + 1) ct) (j + 1) ((z0 :: T).map (.int .i64)) rfl (by (have h3 := hot.out.1; rw [HLZ.out] at h3; exact World.ownsRow.alloc h3 _)) ⟨wr.heap.size, 0, none⟩ 1 1 [.int .i64 K] rfl rfl (World.news_of_block (cs := #[.int .i64 K]) (t := 2) (fr := (0, 0)) (heap_alloc_new wr _)) (by simp [Value.oneCell']) (by decide) (by simp only [maxLen]; omega) (by omega) (by (show gt ≤ (wr.alloc _).heap.size; simp; omega)) _ rfl ?_; intro g3 cap3 w3 hown3 hgrow4 hg3 hlt3; (have hgrow3 : (wr.alloc (.cells #[.int .i64 K] 2)).grownBy w3 (Value.slice (some ⟨gt, 0, none⟩) (j + 1) ct).ownBlock := ⟨hgrow4.os, hgrow4.tape, hgrow4.output, hgrow4.size, hgrow4.block⟩); (have hz2 : (wr.alloc (.cells #[.int .i64 K] 2)).heap.size = wr.heap.size + 1 := by simp); (have hgb3 : Below W0.heap.size (wr.alloc (.cells #[.int .i64 K] 2)) w3 := Below.grown (Below.refl _ _) hgrow3 (by (rw [hz2]; omega)) (fun k hk => by (simp [Value.ownBlock] at hk; omega))); (have HB3 := Lib.hid ((hb.out.alloc (by omega) _).trans hgb3)); (have HT3 : Hid (OwnI w3 g3 (g3 + 1) (.slice (some ⟨g3, 0, none⟩) (j + 1 + 1) cap3) ((z0 :: T) ++ [K])) := Lib.hid (own_tightR (OwnI.mk' (lo := gt) (n := j + 1 + 1) (by (rw [List.map_append]; exact hown3))) hlt3)); (have HQ3 := Lib.hid (hq.out.kept (kept_grownR (kept_boxR wr (.cells #[.int .i64 K] 2) loQ hiQ (by omega)) hgrow3 (by (rw [hz2]; omega)) (fun b hb1 hb2 => (show some b ≠ (Value.slice (some ⟨gt, 0, none⟩) (j + 1) ct).ownBlock by (simp [Value.ownBlock]; omega)))))); (have HX3 := Lib.hid ((hbx.out.alloc (.cells #[.int .i64 K] 2)).kept hgrow3 (show some b0 ≠ (Value.slice (some ⟨gt, 0, none⟩) (j + 1) ct).ownBlock by (simp [Value.ownBlock]; omega)))); (have hg3n : g3 ≠ b0 ∧ hiQ ≤ g3 := by (rcases hg3 with h | h; (simp [Value.ownBlock] at h; omega); (have h9 : g3 = wr.heap.size + 1 := h.trans hz2); omega)); (have x3 := HX3.out.cell); (have f3 := HX3.out.frozen); (have hsz3 : wr.heap.size ≤ w3.heap.size := by (have := hgrow3.size; omega)); clear hown3 hgrow3 hgrow4 hg3 hgb3 hz2))
            have HX4 := Lib.hid (HX3.out.set (.slice (some ⟨g3, 0, none⟩) (j + 1 + 1) cap3))
            have HT4 := Lib.hid (HT3.out.kept (keptR' w3 (p := ⟨b0, 0, none⟩) (show ¬ (g3 ≤ b0 ∧ b0 < g3 + 1) by omega) (.slice (some ⟨g3, 0, none⟩) (j + 1 + 1) cap3)))
            have HQ4 := Lib.hid (HQ3.out.kept (keptR' w3 (p := ⟨b0, 0, none⟩) (show ¬ (loQ ≤ b0 ∧ b0 < hiQ) by omega) (.slice (some ⟨g3, 0, none⟩) (j + 1 + 1) cap3)))
            have HB4 := Lib.hid (HB3.out.setCell (p := ⟨b0, 0, none⟩) (show W0.heap.size ≤ b0 by omega) (.slice (some ⟨g3, 0, none⟩) (j + 1 + 1) cap3))
            have hs4 : (w3.setCell ⟨b0, 0, none⟩ (.slice (some ⟨g3, 0, none⟩) (j + 1 + 1) cap3)).heap.size = w3.heap.size := by simp [World.setCell]
            have hg3s := HT3.out.2.2
            clear HX3 HT3 HQ3 HB3 r1 r2 r3 r4 r5 r6 hcx hfx x3 f3
            generalize w3.setCell ⟨b0, 0, none⟩ (.slice (some ⟨g3, 0, none⟩) (j + 1 + 1) cap3) = wX at *
            have HEA0 : Hid (eat (steps (kk e (flB ((e, c) :: (x, c1) :: D2))) e) e (flB ((e, c) :: (x, c1) :: D2)) = eat (stL e.toNat e x) e (flB ((x, c1) :: D2))) := Lib.hid (by rw [HEF.out.1]; exact HEF.out.2)
            have hxX : hiQ ≤ wX.heap.size := by omega
            go_loopw [8, 9, 10] (fun v8 v9 v10 wi => ∃ (at2 : Nat) (e2 x2 c2 : Int) (D3 : List (Int × Int)) (f2 : Nat), v8 = .int .i64 at2 ∧ v9 = .int .i64 e2 ∧ v10 = .int .i64 x2 ∧ at2 < NB ∧ Hid (Bs.drop at2 = (x2, c2) :: D3) ∧ Hid (wfB ((x2, c2) :: D3)) ∧ (1 ≤ x2 ∧ x2 < e2 ∧ e2 ≤ 64) ∧ x2.toNat < f2 ∧ Hid (eat (steps (kk e (flB ((e, c) :: (x, c1) :: D2))) e) e (flB ((e, c) :: (x, c1) :: D2)) = eat (stL f2 e2 x2) e2 (flB ((x2, c2) :: D3))) ∧ Hid (Below wX.heap.size wX wi)) (fun _ _ v10 _ => (intOf v10).toNat)
            case atStart => exact ⟨at' + 1, e, x, c1, D2, e.toNat, by go_num, rfl, rfl, hat1, HDR2, HWF2, by omega, by omega, HEA0, Lib.hid (Below.refl _ _)⟩
            case round =>
              clear HEA0 HDR2 HWF2
              obtain ⟨at2, e2, x2, c2, D3, f2, rfl, rfl, rfl, hat2, hdr3, hwf3, hx2, hf2, hea, hbi⟩ := hrel
              have hszi := hbi.out.size
              have HQi := Lib.hid (HQ4.out.kept (Kept.of_below hbi.out hxX))
              have hm2 := map_getD hdr3.out
              obtain ⟨go', gi3, ci3, e1, s5, s6, r1, r2, r3, r4⟩ := rows_two HQi.out HLQ.out hat2 hm2.1
              cases e1
              have hc2B := hBM.out _ hm2.2.2.1
              dsimp only at hc2B
              obtain ⟨f2, rfl⟩ : ∃ f', f2 = f' + 1 := ⟨f2 - 1, by omega⟩
              have htm : e2.tmod x2 = e2 % x2 := Int.tmod_eq_emod_of_nonneg (by omega)
              have htd : e2.tdiv x2 = e2 / x2 := Int.tdiv_eq_ediv_of_nonneg (by omega)
              have hmb : 0 ≤ e2 % x2 ∧ e2 % x2 < x2 := ⟨Int.emod_nonneg _ (by omega), Int.emod_lt_of_pos _ (by omega)⟩
              have hdb : 0 ≤ e2 / x2 ∧ e2 / x2 ≤ e2 := ⟨Int.ediv_nonneg (by omega) (by omega), Int.ediv_le_self _ (by omega)⟩
              have xz : (x2 == 0) = false := by simp; omega
              have xz2 : ¬ x2 = 0 := by omega
              have p5 : IntKind.i64.wrap ((at2 : Int) + 1) = (at2 : Int) + 1 := IntWalk.i64_in _ (by omega)
              have u1 : ((at2 : Int) + 1).toNat = at2 + 1 := by omega
              have u2 : (0 : Int) ≤ (at2 : Int) + 1 := by omega
              have u4 : (at2 : Int) < (NB : Int) := by omega
              have u7 : (0 : Int) ≤ (at2 : Int) := by omega
              by_cases hm : e2 % x2 = 0
              · have HEL := Lib.hid (hea.out.trans (eat_last (f := f2) hwf3.out hx2.2.1 hm))
                rw [hm] at htm
                obtain ⟨Q, hQ⟩ : ∃ Q, e2 / x2 = Q := ⟨_, rfl⟩
                rw [hQ] at htd hdb HEL
                have p6 : IntKind.i64.wrap (0 : Int) = 0 := IntWalk.i64_in _ (by omega)
                have p7 : IntKind.i64.wrap Q = Q := IntWalk.i64_in _ (by omega)
                have p8 : IntKind.i64.wrap (c2 - Q) = c2 - Q := IntWalk.i64_in _ (by omega)
                have hgiw : ¬ gi3 = w.heap.size := by omega
                clear hQ hm hea
                by_cases hlt : c2 < Q
                · have hltn : c2 - Q < 0 := by omega
                  have HN : Hid (bsR zs = none) := Lib.hid (by rw [hbs.out, rd_none (by have := HE1.out; omega) (by have := HLT.out; omega) (by rw [HEL.out, if_pos hlt])]; rfl)
                  have HBi := Lib.hid (HB4.out.trans (hbi.out.mono (by omega)))
                  obtain ⟨l2, l3, l4⟩ := S0.out.later HBi.out
                  go_wp2_with fail
                  go_region
                  all_goals
                    go_wp2_with fail
                    have cr : World.cell? (World.setCell (World.setCell wr ⟨gi3, 1, none⟩ (.int .i64 (c2 - Q))) ⟨w.heap.size, 0, none⟩ (.slice none 0 0)) ⟨w.heap.size, 0, none⟩ = some (.slice none 0 0) := by go_simp
                    have HBF : Hid (bsB zs = false) := Lib.hid (bsB_none HN.out)
                    have HBW := Lib.hid (S0.out.below.trans (((Below.drew HBi.out).setCell (p := ⟨gi3, 1, none⟩) (show W0.heap.size ≤ gi3 by omega) (.int .i64 (c2 - Q))).mono (by omega)))
                    refine bodyPost_ret (v := .tuple #[.agg #[.slice none 0 0], .bool false]) (by simp [results, Try.results82, go_sem, cr]) rfl ?_
                    exact ansB_end _ (Nat.le_refl _) (bsL_no HBF.out) HBF.out.symm (OwnI.nil _ _) (by intro h; cases h) HBW.out _
                · have hltn : ¬ c2 - Q < 0 := by omega
                  have HES : Hid (eat (steps (kk e (flB ((e, c) :: (x, c1) :: D2))) e) e (flB ((e, c) :: (x, c1) :: D2)) = some (x2, flB ((x2, c2 - Q) :: D3))) := Lib.hid (HEL.out.trans (if_neg hlt))
                  have hless := eat_less he.1 HRB.out HLT.out HES.out
                  have hhalf : x2 * 2 ≤ e := dvd_half (by rw [hless.2.2]; exact Int.gcd_dvd_left _ _) hx2.1 hless.1.2
                  have HBS2 : Hid (bsR zs = rdC (T ++ [K]) (rd f x2 K (flB ((x2, c2 - Q) :: D3)))) := Lib.hid (by
                    rw [hbs.out, rd_more (by have := HE1.out; omega) (by have := HLT.out; omega) HES.out, HEF.out.1, HKT.out])
                  have HWFn := Lib.hid (wfB_set (c := c2 - Q) hwf3.out (by omega))
                  have HDRn := Lib.hid (drop_set0 (p' := (x2, c2 - Q)) hdr3.out)
                  have HNBn : Hid ((Bs.set at2 (x2, c2 - Q)).length = NB) := Lib.hid (by rw [List.length_set, hNBs.out])
                  have HBMn : Hid (∀ p ∈ Bs.set at2 (x2, c2 - Q), (0 ≤ p.2 ∧ p.2 ≤ 400) ∧ 1 ≤ p.1 ∧ p.1 ≤ 64) := Lib.hid (fun p hp => by
                    rcases List.mem_or_eq_of_mem_set hp with h5 | h5
                    · exact hBM.out p h5
                    · subst h5; exact ⟨by dsimp only; omega, by dsimp only; omega⟩)
                  have HTn : Hid ((T ++ [K]).length = j + 1) := Lib.hid (by rw [List.length_append, hT.out]; rfl)
                  have HTBn : Hid (∀ z ∈ T ++ [K], 0 ≤ z ∧ z ≤ 1642496) := Lib.hid (fun z hz => by
                    rcases List.mem_append.1 hz with h5 | h5
                    · exact hTB.out z h5
                    · have h6 : z = K := by simpa using h5
                      omega)
                  have hpwn := pow_step hpw hx2.1 hhalf
                  have hxe2 := hless.1.2
                  have hfn : x2.toNat < f := by omega
                  have hmee : x2.toNat < e.toNat := by omega
                  have hKn : 0 ≤ K ∧ K ≤ (64 - x2) * 25664 := by omega
                  have hx264 : 1 ≤ x2 ∧ x2 ≤ 64 := by omega
                  have HBi := Lib.hid (HB4.out.trans (hbi.out.mono (by omega)))
                  have HQn : Hid (OwnQ (World.setCell wr ⟨gi3, 1, none⟩ (.int .i64 (c2 - Q))) loQ hiQ (.slice (some ⟨go, 0, none⟩) NB cQ) ((Bs.set at2 (x2, c2 - Q)).map fun p => [p.1, p.2])) := Lib.hid (by
                    have h5 := rows_set (j := 1) (gi := gi3) (ci := ci3) HQi.out HLQ.out hat2 (fun go' h6 => by cases h6; rw [hm2.1]; exact r1) (c2 - Q)
                    rwa [map_set hdr3.out] at h5)
                  have HOn : Hid (OwnI (World.setCell wr ⟨gi3, 1, none⟩ (.int .i64 (c2 - Q))) g3 (g3 + 1) (.slice (some ⟨g3, 0, none⟩) (j + 1 + 1) cap3) (z0 :: (T ++ [K]))) := Lib.hid (HT4.out.kept ((Kept.of_below hbi.out (by omega)).trans (keptR' wr (p := ⟨gi3, 1, none⟩) (show ¬ (g3 ≤ gi3 ∧ gi3 < g3 + 1) by omega) (.int .i64 (c2 - Q)))))
                  have HXi : Boxed wr b0 26 (.slice (some ⟨g3, 0, none⟩) (j + 1 + 1) cap3) := (hbi.out.block b0 (by omega)).trans HX4.out
                  have HXn : Hid (Boxed (World.setCell wr ⟨gi3, 1, none⟩ (.int .i64 (c2 - Q))) b0 26 (.slice (some ⟨g3, 0, none⟩) (j + 1 + 1) cap3)) := Lib.hid (HXi.kept (grown_cell wr ⟨gi3, 1, none⟩ (.int .i64 (c2 - Q))) (fun h5 => by have h6 : b0 = gi3 := Option.some.inj h5; omega))
                  have HBn := Lib.hid (HBi.out.setCell (p := ⟨gi3, 1, none⟩) (show W0.heap.size ≤ gi3 by omega) (.int .i64 (c2 - Q)))
                  have hszn : (World.setCell wr ⟨gi3, 1, none⟩ (.int .i64 (c2 - Q))).heap.size = wr.heap.size := by simp [World.setCell]
                  clear hless hhalf HES HXi
                  go_wp2_with fail
                  go_region
                  all_goals
                    go_wp2_with fail
                    go_roundw
                    case rel => exact ⟨Bs.set at2 (x2, c2 - Q), D3, T ++ [K], at2, j + 1, f, g3, cap3, K, x2, c2 - Q, rfl, rfl, rfl, hat2, HNBn, HDRn, HWFn, hx264, hfn, hKn, HBMn, HTn, HTBn, hpwn, HBS2, HQn, HOn, HXn, ⟨by omega, by omega, by (show b0 < (World.setCell wr ⟨gi3, 1, none⟩ (.int .i64 (c2 - Q))).heap.size); omega, by (show g3 < (World.setCell wr ⟨gi3, 1, none⟩ (.int .i64 (c2 - Q))).heap.size); omega⟩, Lib.hid (Below.drew HBn.out)⟩
                    case measure => simp only [intOf]; exact hmee
              · obtain ⟨Q, hQ⟩ : ∃ Q, e2 / x2 = Q := ⟨_, rfl⟩
                obtain ⟨M, hM⟩ : ∃ M, e2 % x2 = M := ⟨_, rfl⟩
                have HMQ : Hid (e2 / x2 = Q ∧ e2 % x2 = M) := Lib.hid ⟨hQ, hM⟩
                have HNO := Lib.hid (fun hbad => eat_mid_no (f := f2) (D := D3) hf2 hwf3.out hx2.2.1 hm hbad)
                have HM0 := Lib.hid hm
                rw [hM] at htm hmb hm
                rw [hQ] at htd hdb
                have p6 : IntKind.i64.wrap M = M := IntWalk.i64_in _ (by omega)
                have p7 : IntKind.i64.wrap Q = Q := IntWalk.i64_in _ (by omega)
                have hm0 : (M != 0) = true := by simp; omega
                have HBi := Lib.hid (HB4.out.trans (hbi.out.mono (by omega)))
                clear hQ hM
                by_cases hcq : c2 = Q
                · have g1 : (c2 != Q) = false := by simp [hcq]
                  cases D3 with
                  | nil =>
                    have hl1 : NB = at2 + 1 := by
                      have h5 := congrArg List.length hdr3.out
                      rw [List.length_drop, hNBs.out] at h5
                      simp at h5; omega
                    have hge : (NB : Int) ≤ (at2 : Int) + 1 := by omega
                    have HN : Hid (bsR zs = none) := Lib.hid (by rw [hbs.out, rd_none (by have := HE1.out; omega) (by have := HLT.out; omega) (hea.out.trans (HNO.out (.inr (.inl rfl))))]; rfl)
                    subst hcq
                    clear g1 hl1
                    obtain ⟨l2, l3, l4⟩ := S0.out.later HBi.out
                    have g1 : (c2 != c2) = false := by simp
                    go_wp2_with fail
                    go_quiet (fail)
                    go_wp2_with fail
                    have cr : World.cell? (World.setCell (World.drewN wr nq) ⟨w.heap.size, 0, none⟩ (.slice none 0 0)) ⟨w.heap.size, 0, none⟩ = some (.slice none 0 0) := by go_simp
                    have HBF : Hid (bsB zs = false) := Lib.hid (bsB_none HN.out)
                    have HBW := Lib.hid (S0.out.below.trans ((below_drewN HBi.out nq).mono (by omega)))
                    refine bodyPost_ret (v := .tuple #[.agg #[.slice none 0 0], .bool false]) (by simp [results, Try.results82, go_sem, cr]) rfl ?_
                    exact ansB_end _ (Nat.le_refl _) (bsL_no HBF.out) HBF.out.symm (OwnI.nil _ _) (by intro h; cases h) HBW.out _
                  | cons p D4 =>
                    obtain ⟨y, c3⟩ := p
                    have hdr4 := hm2.2.2.2
                    have hm4 := map_getD hdr4
                    have hat3 : at2 + 1 < NB := by rw [← hNBs.out]; exact hm4.2.1
                    obtain ⟨go', gi4, ci4, e1, _, _, r5, r6, _, _⟩ := rows_two HQi.out HLQ.out hat3 hm4.1
                    cases e1
                    have v1 : ¬ (NB : Int) ≤ (at2 : Int) + 1 := by omega
                    have v2 : (at2 : Int) + 1 < (NB : Int) := by omega
                    by_cases hym : y = M
                    · have HEM : Hid (eat (stL (f2 + 1) e2 x2) e2 (flB ((x2, c2) :: (y, c3) :: D4)) = eat (stL f2 x2 y) x2 (flB ((y, c3) :: D4))) := Lib.hid (by
                        have h5 : y = e2 % x2 := by rw [HMQ.out.2]; exact hym
                        subst h5
                        exact eat_mid hwf3.out hx2.2.1 HM0.out (by rw [HMQ.out.1]; exact hcq))
                      have HEAn := Lib.hid (hea.out.trans HEM.out)
                      have HDRn := Lib.hid hdr4
                      have HWFn := Lib.hid (wfB_tail hwf3.out)
                      subst hcq
                      subst hym
                      have hyp : 1 ≤ y ∧ y < x2 := by have := (wfB_pos HWFn.out).1; dsimp only at this; omega
                      have hff : y.toNat < f2 := by omega
                      have hmee : y.toNat < x2.toNat := by omega
                      have hx264 : x2 ≤ 64 := by omega
                      have g1 : (c2 != c2) = false := by simp
                      have g2 : (y != y) = false := by simp
                      clear hea HEM hdr4 hm4
                      go_wp2_with fail
                      go_quiet (fail)
                      go_wp2_with fail
                      go_roundw
                      case rel => exact ⟨at2 + 1, x2, y, c3, D4, f2, by go_num, rfl, rfl, hat3, HDRn, HWFn, ⟨hyp.1, hyp.2, hx264⟩, hff, HEAn, Lib.hid (below_drewN hbi.out _)⟩
                      case measure => simp only [intOf]; exact hmee
                    · have HN : Hid (bsR zs = none) := Lib.hid (by rw [hbs.out, rd_none (by have := HE1.out; omega) (by have := HLT.out; omega) (hea.out.trans (HNO.out (.inr (.inr ⟨y, c3, D4, rfl, by rw [HMQ.out.2]; exact hym⟩))))]; rfl)
                      have g2 : (y != M) = true := by simp [hym]
                      subst hcq
                      have g1 : (c2 != c2) = false := by simp
                      obtain ⟨l2, l3, l4⟩ := S0.out.later HBi.out
                      clear hdr4 hm4
                      go_wp2_with fail
                      go_quiet (fail)
                      go_wp2_with fail
                      have cr : World.cell? (World.setCell (World.drewN wr nq) ⟨w.heap.size, 0, none⟩ (.slice none 0 0)) ⟨w.heap.size, 0, none⟩ = some (.slice none 0 0) := by go_simp
                      have HBF : Hid (bsB zs = false) := Lib.hid (bsB_none HN.out)
                      have HBW := Lib.hid (S0.out.below.trans ((below_drewN HBi.out nq).mono (by omega)))
                      refine bodyPost_ret (v := .tuple #[.agg #[.slice none 0 0], .bool false]) (by simp [results, Try.results82, go_sem, cr]) rfl ?_
                      exact ansB_end _ (Nat.le_refl _) (bsL_no HBF.out) HBF.out.symm (OwnI.nil _ _) (by intro h; cases h) HBW.out _
                · have HN : Hid (bsR zs = none) := Lib.hid (by rw [hbs.out, rd_none (by have := HE1.out; omega) (by have := HLT.out; omega) (hea.out.trans (HNO.out (.inl (by rw [HMQ.out.1]; exact hcq))))]; rfl)
                  have g1 : (c2 != Q) = true := by simp [hcq]
                  obtain ⟨l2, l3, l4⟩ := S0.out.later HBi.out
                  go_wp2_with fail
                  go_quiet (fail)
                  go_wp2_with fail
                  have cr : World.cell? (World.setCell (World.drewN wr nq) ⟨w.heap.size, 0, none⟩ (.slice none 0 0)) ⟨w.heap.size, 0, none⟩ = some (.slice none 0 0) := by go_simp
                  have HBF : Hid (bsB zs = false) := Lib.hid (bsB_none HN.out)
                  have HBW := Lib.hid (S0.out.below.trans ((below_drewN HBi.out nq).mono (by omega)))
                  refine bodyPost_ret (v := .tuple #[.agg #[.slice none 0 0], .bool false]) (by simp [results, Try.results82, go_sem, cr]) rfl ?_
                  exact ansB_end _ (Nat.le_refl _) (bsL_no HBF.out) HBF.out.symm (OwnI.nil _ _) (by intro h; cases h) HBW.out _
end Go.Proofs.Ytoebbhicffgdgaa
/- BranchOfSequence, the model's, and IsSequence, the model's and the program's: contracts. Conditions: stated at each theorem. -/
namespace Go.Proofs.Ytoebbhicffgdgaa
open Go.ChangeShapes Go.WideShapes Go.ChangeAt Go.RowKit Go.Deep
set_option linter.unusedVariables false
set_option linter.unusedSimpArgs false

def isqB (zs : List Int) : Bool := sqlB zs && bsB zs
end Go.Proofs.Ytoebbhicffgdgaa
/- StrictTransform, the model's and the program's: contracts. Conditions: stated at each theorem. -/
namespace Go.Proofs.Ytoebbhicffgdgaa
open Go.ChangeShapes Go.WideShapes Go.ChangeAt Go.RowKit Go.Deep
set_option linter.unusedVariables false
set_option linter.unusedSimpArgs false

theorem flL_cons (p : Int × Int) (S : List (Int × Int)) : flL (p :: S) = List.replicate p.1.toNat p.2 ++ flL S := by simp [flL]
theorem lead_more (x : Int) (c : Nat) (R : List Int) : c ≤ lead x (List.replicate c x ++ R) := by rw [lead_rep]; omega
/-- Steps are read from their own list. -/
theorem eat_full : ∀ (S : List (Int × Int)) (e : Int) (Y : List Int), (∀ p ∈ S, (0 : Int) ≤ p.1) → ∃ e', eat S e (flL S ++ Y) = some (e', Y)
  | [], e, Y, _ => ⟨e, rfl⟩
  | (q, r) :: S, e, Y, h => by
    have hq := h (q, r) (List.mem_cons_self ..)
    dsimp only at hq
    obtain ⟨e', he⟩ := eat_full S r Y (fun p hp => h p (List.mem_cons_of_mem _ hp))
    refine ⟨e', ?_⟩
    rw [eat_cons, flL_cons, List.append_assoc]
    have h1 := lead_more r q.toNat (flL S ++ Y)
    show (if (lead r (List.replicate q.toNat r ++ (flL S ++ Y)) : Int) < q then none else eat S r ((List.replicate q.toNat r ++ (flL S ++ Y)).drop q.toNat)) = _
    rw [if_neg (by omega), List.drop_append_of_le_length (by simp), List.drop_eq_nil_of_le (by simp), List.nil_append]
    exact he
theorem stL_nonneg : ∀ (f : Nat) (a b : Int), 0 ≤ a → ∀ p ∈ stL f a b, (0 : Int) ≤ p.1
  | 0, _, _, _, p, hp => by cases hp
  | f + 1, a, b, ha, p, hp => by
    unfold stL at hp
    split at hp
    · cases hp
    · rcases List.mem_cons.1 hp with rfl | hp
      · exact Int.ediv_nonneg ha (by omega)
      · exact stL_nonneg f b (a % b) (by omega) p hp
theorem stL_fuel : ∀ (f f' : Nat) (a b : Int), b.toNat < f → b.toNat < f' → stL f a b = stL f' a b
  | 0, _, _, _, h, _ => by omega
  | _, 0, _, _, _, h => by omega
  | f + 1, f' + 1, a, b, h, h' => by
    unfold stL
    by_cases hb : b ≤ 0
    · rw [if_pos hb, if_pos hb]
    · rw [if_neg hb, if_neg hb]
      have h1 : a % b < b := Int.emod_lt_of_pos _ (by omega)
      rw [stL_fuel f f' b (a % b) (by omega) (by omega)]
theorem steps_cons {k e : Int} (he : 1 ≤ e) : steps k e = (k / e, e) :: stL e.toNat e (k % e) := by unfold steps; exact stL_cons he
/-- The first numbers of a run. -/
theorem run_first {k e : Int} {Y : List Int} (hk : 0 ≤ k) (he : 1 ≤ e) (hd : ¬ e ∣ k) :
    lead e (flL (steps k e) ++ Y) = (k / e).toNat ∧ kk e (flL (steps k e) ++ Y) = k ∧ lead e (flL (steps k e) ++ Y) < (flL (steps k e) ++ Y).length := by
  have hm0 : 0 ≤ k % e := Int.emod_nonneg _ (by omega)
  have hm1 : k % e < e := Int.emod_lt_of_pos _ (by omega)
  have hm2 : k % e ≠ 0 := fun h => hd (Int.dvd_of_emod_eq_zero h)
  have hq0 : 0 ≤ k / e := Int.ediv_nonneg hk (by omega)
  have hqq : 1 ≤ e / (k % e) := (Int.le_ediv_iff_mul_le (a := (1 : Int)) (b := e) (c := k % e) (by omega)).2 (by omega)
  obtain ⟨f, hf⟩ : ∃ f, e.toNat = f + 1 := ⟨e.toNat - 1, by omega⟩
  obtain ⟨j, hj⟩ : ∃ j, (e / (k % e)).toNat = j + 1 := ⟨(e / (k % e)).toNat - 1, by omega⟩
  have hR : flL (steps k e) ++ Y = List.replicate (k / e).toNat e ++ ((k % e) :: (List.replicate j (k % e) ++ (flL (stL f (k % e) (e % (k % e))) ++ Y))) := by
    rw [steps_cons he, flL_cons, hf, stL_cons (by omega), flL_cons]
    show (List.replicate (k / e).toNat e ++ (List.replicate (e / (k % e)).toNat (k % e) ++ _)) ++ Y = _
    rw [hj, List.replicate_succ]
    simp only [List.append_assoc, List.cons_append]
  have hl : lead e (flL (steps k e) ++ Y) = (k / e).toNat := by
    rw [hR, lead_rep, lead, if_neg (by omega)]; omega
  refine ⟨hl, ?_, ?_⟩
  · unfold kk
    rw [hl, hR, List.getElem?_append_right (by simp)]
    simp only [List.length_replicate, Nat.sub_self, List.getElem?_cons_zero, Option.getD_some]
    have := Int.mul_ediv_add_emod k e
    rw [show ((k / e).toNat : Int) = k / e by omega, Int.mul_comm]
    exact this
  · rw [hl, hR]
    simp
/-- The runs of a branch are read back. -/
theorem rd_full : ∀ (r : List Int) (f : Nat) (e p : Int) (X : List Int), 1 ≤ e → e.toNat < f → e ∣ p → 0 ≤ p → ascB p r = true → desB e r = true → rd f e p (flL (rnL p e r) ++ X) = some (r, X)
  | [], f, e, p, X, he, hf, _, _, _, hdes => by
    have h1 : e = 1 := by simpa [desB] using hdes
    obtain ⟨f, rfl⟩ : ∃ f', f = f' + 1 := ⟨f - 1, by omega⟩
    rw [rd_end (by omega)]; rfl
  | z :: r, f, e, p, X, he, hf, hep, hp0, hasc, hdes => by
    simp only [ascB, Bool.and_eq_true, decide_eq_true_eq] at hasc
    simp only [desB, Bool.and_eq_true, decide_eq_true_eq] at hdes
    obtain ⟨f, rfl⟩ : ∃ f', f = f' + 1 := ⟨f - 1, by omega⟩
    have hgz : (Int.gcd e (z - p) : Int) = (Int.gcd e z : Int) := by
      obtain ⟨s, hs⟩ := hep
      rw [hs, show z - e * s = z + e * (-s) by rw [Int.mul_neg]; omega, Int.gcd_add_mul_left_right]
    have hg := gcd_le_left (e := e) (z := z) he
    have hnd : ¬ e ∣ z - p := fun hd => by
      have h5 : (e : Int) ∣ (Int.gcd e (z - p) : Int) := Int.dvd_coe_gcd (Int.dvd_refl _) hd
      rw [hgz] at h5
      have := Int.le_of_dvd (by omega) h5
      exact hdes.1 (by omega)
    have hgne := hdes.1
    have he2 : ¬ e ≤ 1 := by omega
    have hR : flL (rnL p e (z :: r)) ++ X = flL (steps (z - p) e) ++ (flL (rnL z (Int.gcd e z : Int) r) ++ X) := by
      show flL (steps (z - p) e ++ rnL z (Int.gcd e z : Int) r) ++ X = _
      rw [flL_append, List.append_assoc]
    rw [hR]
    obtain ⟨h1, h2, h3⟩ := run_first (k := z - p) (Y := flL (rnL z (Int.gcd e z : Int) r) ++ X) (by omega) he hnd
    obtain ⟨e', he'⟩ := eat_full (steps (z - p) e) e (flL (rnL z (Int.gcd e z : Int) r) ++ X) (stL_nonneg _ _ _ (by omega))
    have hee := eat_gcd (by omega) he he'
    have hee2 : e' = (Int.gcd e z : Int) := by rw [hee, Int.gcd_comm, hgz]
    rw [hee2] at he'
    rw [rd, if_neg he2, if_neg (by omega), h2, he']
    have ih := rd_full r f (Int.gcd e z : Int) z X hg.1 (by omega) (Int.gcd_dvd_right _ _) (by omega) hasc.2 hdes.2
    simp only [show p + (z - p) = z by omega, ih]
/-- Runs with all terms less by a multiple of the divisor. -/
theorem rn_shift : ∀ (r : List Int) (p e m : Int), e ∣ m → rnL (p - m) e (r.map fun z => z - m) = rnL p e r
  | [], _, _, _, _ => rfl
  | z :: r, p, e, m, h => by
    obtain ⟨s, hs⟩ := h
    have hg : (Int.gcd e (z - m) : Int) = (Int.gcd e z : Int) := by
      rw [hs, show z - e * s = z + e * (-s) by rw [Int.mul_neg]; omega, Int.gcd_add_mul_left_right]
    show steps (z - m - (p - m)) e ++ rnL (z - m) (Int.gcd e (z - m) : Int) (r.map fun z => z - m) = steps (z - p) e ++ rnL z (Int.gcd e z : Int) r
    rw [hg, rn_shift r z (Int.gcd e z : Int) m (Int.dvd_trans (Int.gcd_dvd_left _ _) ⟨s, hs⟩), show z - m - (p - m) = z - p by omega]
theorem asc_shift : ∀ (r : List Int) (p m : Int), 0 ≤ m → ascB p r = true → ascB (p - m) (r.map fun z => z - m) = true
  | [], _, _, _, _ => rfl
  | z :: r, p, m, hm, h => by
    simp only [ascB, Bool.and_eq_true, decide_eq_true_eq] at h
    simp only [List.map_cons, ascB, Bool.and_eq_true, decide_eq_true_eq]
    exact ⟨by omega, asc_shift r z m hm h.2⟩
theorem des_shift : ∀ (r : List Int) (e m : Int), e ∣ m → desB e r = true → desB e (r.map fun z => z - m) = true
  | [], _, _, _, h => h
  | z :: r, e, m, h, hd => by
    simp only [desB, Bool.and_eq_true, decide_eq_true_eq] at hd
    obtain ⟨s, hs⟩ := h
    have hg : (Int.gcd e (z - m) : Int) = (Int.gcd e z : Int) := by
      rw [hs, show z - e * s = z + e * (-s) by rw [Int.mul_neg]; omega, Int.gcd_add_mul_left_right]
    simp only [List.map_cons, desB, Bool.and_eq_true, decide_eq_true_eq, hg]
    exact ⟨hd.1, des_shift r (Int.gcd e z : Int) m (Int.dvd_trans (Int.gcd_dvd_left _ _) ⟨s, hs⟩) hd.2⟩
/-- What is read back is a sequence. -/
theorem bs_full {n z : Int} {r : List Int} (hn : 1 ≤ n ∧ n ≤ 64) (hnz : n < z) (hasc : ascB 0 (z :: r) = true) (hdes : desB n (z :: r) = true) {L : List Int} (hL : L = flL (rnL 0 n (z :: r)) ++ [1]) (h0 : L[0]?.getD 0 = n) : bsB L = true := by
  have h1 := rd_full (z :: r) 65 n 0 [1] hn.1 (by omega) (Int.dvd_zero _) (Int.le_refl _) hasc hdes
  have h2 : bsR L = some (z :: r, [1]) := by unfold bsR; rw [h0, hL]; exact h1
  have h3 : brB (n :: z :: r) = true := by
    rw [brB_more]
    simp only [dcB, Bool.and_eq_true, decide_eq_true_eq]
    exact ⟨⟨mulB_true.2 hn, hasc, hdes⟩, hnz⟩
  simp only [bsB, h2, h0, h3, Bool.true_and]
  simp [lead]
/-- The strict transform of a branch has a sequence. -/
theorem strict_seq {zs : List Int} (hp : brB zs = true) : bsB ((seqL zs ++ [1]).drop 1) = true := by
  cases zs with
  | nil => cases hp
  | cons n r =>
    cases r with
    | nil =>
      have h1 : n = 1 := by
        rw [brB_one] at hp
        simp only [dcB, desB, Bool.and_eq_true, beq_iff_eq] at hp
        exact hp.2.2
      subst h1
      decide
    | cons z r =>
      have hp2 := hp
      rw [brB_more] at hp2
      simp only [dcB, Bool.and_eq_true, decide_eq_true_eq] at hp2
      obtain ⟨⟨hm, hasc, hdes⟩, hnz⟩ := hp2
      have hn := mulB_true.1 hm
      have hasc' := hasc
      have hdes' := hdes
      simp only [ascB, Bool.and_eq_true, decide_eq_true_eq] at hasc'
      simp only [desB, Bool.and_eq_true, decide_eq_true_eq] at hdes'
      have hgd := gcd_le_left (e := n) (z := z) hn.1
      obtain ⟨q, hq⟩ : ∃ q, z / n = q := ⟨_, rfl⟩
      obtain ⟨x, hx⟩ : ∃ x, z % n = x := ⟨_, rfl⟩
      have hx0 : 0 ≤ x ∧ x < n := by rw [← hx]; exact ⟨Int.emod_nonneg _ (by omega), Int.emod_lt_of_pos _ (by omega)⟩
      have hzq : n * q + x = z := by rw [← hq, ← hx]; exact Int.mul_ediv_add_emod z n
      have hq1 : 1 ≤ q := by rw [← hq]; exact (Int.le_ediv_iff_mul_le (by omega)).2 (by omega)
      have hgx : (Int.gcd n z : Int) = (Int.gcd n x : Int) := by rw [← hzq, Int.add_comm, Int.gcd_add_mul_left_right]
      have hx1 : 1 ≤ x := by
        by_cases h0 : x = 0
        · have h5 := hdes'.1
          rw [hgx, h0, Int.gcd_zero_right] at h5
          omega
        · omega
      have hnx : 1 ≤ n / x := (Int.le_ediv_iff_mul_le (by omega)).2 (by omega)
      have hs : seqL (n :: z :: r) = List.replicate q.toNat n ++ (flL (stL n.toNat n x) ++ flL (rnL z (Int.gcd n z : Int) r)) := by
        show flL (rsI (n :: z :: r)) = _
        rw [rsI_more]
        show flL (steps (z - 0) n ++ rnL z (Int.gcd n z : Int) r) = _
        rw [flL_append, Int.sub_zero, steps_cons hn.1, flL_cons, hq, hx, List.append_assoc]
      obtain ⟨q', hq'⟩ : ∃ q', q.toNat = q' + 1 := ⟨q.toNat - 1, by omega⟩
      have hL : (seqL (n :: z :: r) ++ [1]).drop 1 = List.replicate q' n ++ (flL (stL n.toNat n x) ++ (flL (rnL z (Int.gcd n z : Int) r) ++ [1])) := by
        rw [hs, hq', List.replicate_succ]
        simp [List.append_assoc]
      rw [hL]
      by_cases hq2 : 2 ≤ q
      · -- a number n less in front
        have hd : ((z - n) / n).toNat = q' := by
          rw [← hzq, show n * q + x - n = x + n * (q - 1) by rw [Int.mul_sub]; omega, Int.add_mul_ediv_left _ _ (by omega), Int.ediv_eq_zero_of_lt hx0.1 hx0.2]; omega
        have hmd : (z - n) % n = x := by
          rw [← hzq, show n * q + x - n = x + n * (q - 1) by rw [Int.mul_sub]; omega, Int.add_mul_emod_self_left, Int.emod_eq_of_lt hx0.1 hx0.2]
        have hg2 : (Int.gcd n (z - n) : Int) = (Int.gcd n z : Int) := by
          rw [show z - n = z + n * (-1) by omega, Int.gcd_add_mul_left_right]
        have hz2 : 2 * n < z := by
          have : n * 2 ≤ n * q := Int.mul_le_mul_of_nonneg_left hq2 (by omega)
          omega
        refine bs_full (n := n) (z := z - n) (r := r.map fun y => y - n) hn (by omega) ?_ ?_ ?_ ?_
        · simp only [ascB, Bool.and_eq_true, decide_eq_true_eq]
          exact ⟨by omega, asc_shift r z n (by omega) hasc'.2⟩
        · simp only [desB, Bool.and_eq_true, decide_eq_true_eq, hg2]
          exact ⟨hdes'.1, des_shift r _ n (Int.gcd_dvd_left _ _) hdes'.2⟩
        · show _ = flL (steps (z - n - 0) n ++ rnL (z - n) (Int.gcd n (z - n) : Int) (r.map fun y => y - n)) ++ [1]
          rw [hg2, rn_shift r z _ n (Int.gcd_dvd_left _ _), flL_append, Int.sub_zero, steps_cons hn.1, flL_cons, hmd]
          show _ = (List.replicate ((z - n) / n).toNat n ++ _) ++ _ ++ _
          rw [hd]
          simp [List.append_assoc]
        · obtain ⟨q'', hq''⟩ : ∃ k, q' = k + 1 := ⟨q' - 1, by omega⟩
          rw [hq'', List.replicate_succ]; rfl
      · -- the first number is the remainder
        obtain rfl : q = 1 := by omega
        obtain rfl : q' = 0 := by
          have : (1 : Int).toNat = 1 := rfl
          omega
        rw [List.replicate_zero, List.nil_append]
        obtain ⟨f, hf⟩ : ∃ f, n.toNat = f + 1 := ⟨n.toNat - 1, by omega⟩
        obtain ⟨j, hj⟩ : ∃ j, (n / x).toNat = j + 1 := ⟨(n / x).toNat - 1, by omega⟩
        have hst : stL n.toNat n x = (n / x, x) :: stL f x (n % x) := by rw [hf, stL_cons hx1]
        have h0 : (flL (stL n.toNat n x) ++ (flL (rnL z (Int.gcd n z : Int) r) ++ [1]))[0]?.getD 0 = x := by
          rw [hst, flL_cons]
          show ((List.replicate (n / x).toNat x ++ _) ++ _)[0]?.getD 0 = x
          rw [hj, List.replicate_succ]; rfl
        have hzx : z = n + x := by omega
        by_cases hxn : x ∣ n
        · -- a run less
          have hgxx : (Int.gcd n z : Int) = x := by
            rw [hgx]
            have h5 : x ∣ (Int.gcd n x : Int) := Int.dvd_coe_gcd hxn (Int.dvd_refl _)
            have h6 := Int.le_of_dvd (by have := gcd_le (e := n) hx1; omega) h5
            have h7 := gcd_le (e := n) hx1
            omega
          rw [hgxx] at hdes' ⊢
          rw [hgxx] at h0
          have hmx : n % x = 0 := Int.emod_eq_zero_of_dvd hxn
          rw [hmx, stL_zero] at hst
          rw [hst] at h0 ⊢
          cases r with
          | nil =>
            have h1 : x = 1 := by simpa [desB] using hdes'.2
            subst h1
            have hR : bsR (flL [(n / 1, 1)] ++ (flL (rnL z 1 []) ++ [1])) = some ([], flL [(n / 1, 1)] ++ (flL (rnL z 1 []) ++ [1])) := by
              unfold bsR; rw [h0]; exact rd_end (by omega)
            simp only [bsB, hR, h0]
            have hE : flL [(n / 1, (1 : Int))] ++ (flL (rnL z 1 []) ++ [1]) = List.replicate (n / 1).toNat 1 ++ [1] := by simp [flL, rnL]
            rw [hE, lead_rep]
            simp [lead, brB, mulB, isB]
          | cons y r =>
            have hasc2 := hasc'.2
            simp only [ascB, Bool.and_eq_true, decide_eq_true_eq] at hasc2
            have hdes2 := hdes'.2
            simp only [desB, Bool.and_eq_true, decide_eq_true_eq] at hdes2
            have hg2 : (Int.gcd x (y - x) : Int) = (Int.gcd x y : Int) := by
              rw [show y - x = y + x * (-1) by omega, Int.gcd_add_mul_left_right]
            obtain ⟨k, hk⟩ := hxn
            have hnk : n / x = k := by rw [hk, Int.mul_ediv_cancel_left _ (by omega)]
            have hyz : (y - x) / x = k + (y - z) / x := by
              rw [show y - x = (y - z) + x * k by omega, Int.add_mul_ediv_left _ _ (by omega)]; omega
            have hym : (y - x) % x = (y - z) % x := by
              rw [show y - x = (y - z) + x * k by omega, Int.add_mul_emod_self_left]
            have hyq : 0 ≤ (y - z) / x := Int.ediv_nonneg (by omega) (by omega)
            have hxx : x < n := hx0.2
            refine bs_full (n := x) (z := y - x) (r := r.map fun w => w - x) (by omega) (by omega) ?_ ?_ ?_ h0
            · simp only [ascB, Bool.and_eq_true, decide_eq_true_eq]
              exact ⟨by omega, asc_shift r y x (by omega) hasc2.2⟩
            · simp only [desB, Bool.and_eq_true, decide_eq_true_eq, hg2]
              exact ⟨hdes2.1, des_shift r _ x (Int.gcd_dvd_left _ _) hdes2.2⟩
            · show _ = flL (steps (y - x - 0) x ++ rnL (y - x) (Int.gcd x (y - x) : Int) (r.map fun w => w - x)) ++ [1]
              show flL [(n / x, x)] ++ (flL (steps (y - z) x ++ rnL y (Int.gcd x y : Int) r) ++ [1]) = _
              rw [hg2, rn_shift r y _ x (Int.gcd_dvd_left _ _), flL_append, flL_append, Int.sub_zero, steps_cons hx1, steps_cons hx1, flL_cons, flL_cons, flL_cons, hym]
              show (List.replicate (n / x).toNat x ++ flL []) ++ ((List.replicate ((y - z) / x).toNat x ++ _) ++ _ ++ _) = (List.replicate ((y - x) / x).toNat x ++ _) ++ _ ++ _
              rw [hyz, hnk, show (k + (y - z) / x).toNat = k.toNat + ((y - z) / x).toNat by omega, ← List.replicate_append_replicate]
              simp [flL, List.append_assoc, -List.replicate_append_replicate]
        · -- as many runs
          have hx2 : 2 ≤ x := by
            by_cases h5 : x = 1
            · exact absurd (h5 ▸ Int.one_dvd n) hxn
            · omega
          have hgn : (Int.gcd x n : Int) = (Int.gcd n z : Int) := by rw [Int.gcd_comm, hgx]
          have hgx2 : (Int.gcd n z : Int) ∣ x := by rw [hgx]; exact Int.gcd_dvd_right _ _
          refine bs_full (n := x) (z := n) (r := r.map fun y => y - x) (by omega) hx0.2 ?_ ?_ ?_ h0
          · simp only [ascB, Bool.and_eq_true, decide_eq_true_eq]
            have h5 := asc_shift r z x (by omega) hasc'.2
            rw [show z - x = n by omega] at h5
            exact ⟨by omega, h5⟩
          · simp only [desB, Bool.and_eq_true, decide_eq_true_eq, hgn]
            refine ⟨fun h5 => hxn ?_, des_shift r _ x hgx2 hdes'.2⟩
            rw [← h5]; exact Int.gcd_dvd_left _ _
          · show _ = flL (steps (n - 0) x ++ rnL n (Int.gcd x n : Int) (r.map fun y => y - x)) ++ [1]
            have h5 := rn_shift r z (Int.gcd n z : Int) x hgx2
            rw [show z - x = n by omega] at h5
            rw [hgn, h5, flL_append, Int.sub_zero]
            unfold steps
            rw [stL_fuel n.toNat (x.toNat + 1) n x (by omega) (by omega)]
            simp [List.append_assoc]
def stA (zs : List Int) : List Int := if lqC zs 1 = 0 then bsT ((seqL zs ++ [1]).drop 1) else []
theorem lq_br {zs : List Int} (h0 : lqC zs 1 = 0) : brB zs = true := by
  rcases bool_fs (brB zs) with hp | hp
  · rw [(lq_no hp).1] at h0; cases h0
  · exact hp
theorem lq_cnt {zs : List Int} (h0 : lqC zs 1 = 0) : cntL (rsI zs) + 1 ≤ 400 := by
  have hp := lq_br h0
  by_cases h3 : 400 < cntL (rsI zs) + 1
  · rw [(lq_big hp (by omega) h3).1] at h0; cases h0
  · omega
theorem st_len {zs : List Int} (h0 : lqC zs 1 = 0) : 2 ≤ (seqL zs ++ [1]).length ∧ (seqL zs ++ [1]).length ≤ 400 := by
  have hp := lq_br h0
  have h1 := (seq_len hp).1
  have h2 := lq_cnt h0
  have h3 := cnt_eq hp
  rw [List.length_append]
  simp only [List.length_cons, List.length_nil]
  omega
theorem st_sql {zs : List Int} (h0 : lqC zs 1 = 0) : sqlB ((seqL zs ++ [1]).drop 1) = true := by
  have hp := lq_br h0
  have h1 := st_len h0
  unfold sqlB
  rw [decide_eq_true (by rw [List.length_drop]; omega), Bool.true_and, List.all_eq_true]
  intro z hz
  have hz2 := List.mem_of_mem_drop hz
  refine mulB_true.2 ?_
  rcases List.mem_append.1 hz2 with h5 | h5
  · obtain ⟨p, hp1, hp2⟩ := List.mem_flatMap.1 h5
    have h6 := (rsI_ok hp).1 p hp1
    have h7 := (List.mem_replicate.1 hp2).2
    rw [h7]
    exact h6.2
  · have : z = 1 := by simpa using h5
    omega
theorem stA_len (zs : List Int) : (stA zs).length ≤ 1099511627776 := by
  unfold stA
  split
  · rename_i h0
    have h1 := bsA_len ((seqL zs ++ [1]).drop 1)
    rwa [(bs_yes (st_sql h0) (strict_seq (lq_br h0))).1] at h1
  · simp

end Go.Proofs.Ytoebbhicffgdgaa
