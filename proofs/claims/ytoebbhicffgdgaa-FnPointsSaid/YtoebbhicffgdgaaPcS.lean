/- Whether a list is a code, the model's and the program's: contracts. Conditions: stated at each theorem. -/
import Derived.Test.YtoebbhicffgdgaaZB
namespace Go.Proofs.Ytoebbhicffgdgaa
open Go.ChangeShapes Go.WideShapes Go.ChangeAt Go.RowKit Go.Deep
set_option linter.unusedVariables false
set_option linter.unusedSimpArgs false

/-- The numbers are those of a code, behind a number b; or at its beginning. -/
def cdOK (b : Int) (first : Bool) : List Int → Bool
  | [] => true
  | c :: r => (decide (c = 0) || (!first && (decide (c = 2) || decide (b ≠ 0 ∧ c = b + 1)))) && cdOK c false r
def isC (zs : List Int) : Bool := cdOK 0 true zs && decide (zs.length ≤ 399)
theorem isC_len {zs : List Int} (h : isC zs = true) : zs.length ≤ 399 := by unfold isC at h; simp at h; exact h.2
theorem isC_long {zs : List Int} (h : ¬ zs.length ≤ 399) : isC zs = false := by unfold isC; simp; omega

set_option maxRecDepth 100000 in
set_option maxHeartbeats 1000000 in
theorem isCode_any (A : Option Addr) (n c : Nat) (zs : List Int) (w : World) (B : Nat) (hr : RI w B A n zs) (hl : zs.length = n) (hn : n ≤ 1048576) :
    Calls Try.prog 31 #[.slice A n c] w fun e w' => e = .returned (.bool (isC zs)) ∧ w = w' := by
  have H0 := Lib.hid hr
  have HL := Lib.hid hl
  clear hr hl
  by_cases hlong : 399 < n
  · have HF : Hid (isC zs = false) := Lib.hid (isC_long (by rw [HL.out]; omega))
    have hlong2 : (399 : Int) < (n : Int) := by omega
    go_enter Try.func31, Try.ntmps31
    go_wp2
    go_ret
    exact ⟨by rw [HF.out]; rfl, rfl⟩
  have hlong2 : ¬ (399 : Int) < (n : Int) := by omega
  go_enter Try.func31, Try.ntmps31
  go_wp2
  go_loop [3, 12] (fun vb vi => ∃ (k : Nat) (b : Int), k ≤ n ∧ (0 ≤ b ∧ b ≤ (k : Int) + 1) ∧ vb = .int .i64 b ∧ vi = .int .i64 k ∧ Hid (cdOK 0 true zs = cdOK b (decide (k = 0)) (zs.drop k))) (fun _ vi => n - (intOf vi).toNat)
  case atStart => exact ⟨0, 0, by omega, by omega, rfl, rfl, Lib.hid (by simp)⟩
  case round =>
    obtain ⟨k, b, hk, hb, rfl, rfl, hg⟩ := hrel
    by_cases hlt : k < n
    · obtain ⟨a, rfl, hal, hcell0⟩ := H0.out.2 k hlt
      have HD := Lib.hid (drop_at HL.out hlt)
      have hcell : w.cell? (a.add k) = some (.int .i64 (zs[k]?.getD 0)) := by simpa using hcell0
      generalize zs[k]?.getD 0 = c at *
      have hin : (k : Int) < (n : Int) := by omega
      clear hcell0
      by_cases c0 : c = 0
      · subst c0
        have HG : Hid (cdOK 0 true zs = cdOK 0 (decide (k + 1 = 0)) (zs.drop (k + 1))) := Lib.hid (by rw [hg.out, HD.out]; simp [cdOK])
        go_wp2
        all_goals
          go_round
          case rel => exact ⟨k + 1, 0, by omega, by omega, rfl, by go_num, HG⟩
          case measure => simp [intOf]; omega
      have c0b : (c == 0) = false := by simpa using c0
      have c0n : (c != 0) = true := by simpa using c0
      by_cases k0 : k = 0
      · have HF : Hid (isC zs = false) := Lib.hid (by unfold isC; rw [hg.out, HD.out]; simp [cdOK, c0, k0])
        have k0b : ((k : Int) == 0) = true := by simpa using k0
        clear k0
        go_wp2
        all_goals
          go_ret
          exact ⟨by rw [HF.out]; rfl, rfl⟩
      have k1 : 0 < k := by omega
      have k0i : ¬ (k : Int) = 0 := by omega
      have k0b : ((k : Int) == 0) = false := by simpa using k0i
      by_cases c2 : c = 2
      · subst c2
        have HG : Hid (cdOK 0 true zs = cdOK 2 (decide (k + 1 = 0)) (zs.drop (k + 1))) := Lib.hid (by rw [hg.out, HD.out]; simp [cdOK, k0])
        clear c0 c0b c0n
        go_wp2
        all_goals
          go_round
          case rel => exact ⟨k + 1, 2, by omega, by omega, rfl, by go_num, HG⟩
          case measure => simp [intOf]; omega
      have c2b : (c == 2) = false := by simpa using c2
      have c2n : (c != 2) = true := by simpa using c2
      by_cases b0 : b = 0
      · subst b0
        have HF : Hid (isC zs = false) := Lib.hid (by unfold isC; rw [hg.out, HD.out]; simp [cdOK, c0, c2])
        go_wp2
        all_goals
          go_ret
          exact ⟨by rw [HF.out]; rfl, rfl⟩
      have b0b : (b == 0) = false := by simpa using b0
      have b0n : (b != 0) = true := by simpa using b0
      by_cases cb : c = b + 1
      · have HG : Hid (cdOK 0 true zs = cdOK (b + 1) (decide (k + 1 = 0)) (zs.drop (k + 1))) := Lib.hid (by rw [hg.out, HD.out]; simp [cdOK, k0, b0, cb])
        subst cb
        go_wp2
        all_goals
          go_round
          case rel => exact ⟨k + 1, (b + 1), by omega, by omega, rfl, by go_num, HG⟩
          case measure => simp [intOf]; omega
      · have HF : Hid (isC zs = false) := Lib.hid (by unfold isC; rw [hg.out, HD.out]; simp [cdOK, c0, c2, cb])
        have cbb : (c == b + 1) = false := by simpa using cb
        go_wp2
        all_goals
          go_ret
          exact ⟨by rw [HF.out]; rfl, rfl⟩
    · obtain rfl : k = n := by omega
      have HT : Hid (isC zs = true) := Lib.hid (by unfold isC; rw [hg.out, drop_end HL.out (Nat.le_refl _), HL.out]; simp [cdOK]; omega)
      go_wp2
      go_ret
      exact ⟨by rw [HT.out]; rfl, rfl⟩

set_option maxRecDepth 100000 in
set_option maxHeartbeats 1000000 in
theorem l06Is_any (v : Value) (zs : List Int) (w : World) (B : Nat) (h : ReadI w B v zs) (hn : zs.length ≤ 1048576) :
    Calls Try.prog 81 #[v] w fun e w' => e = .returned (.bool (isC zs)) ∧ ∃ m, w' = w.drewN m := by
  obtain ⟨n, A, c, rfl, hr, HL, _, hnc, HFF, hcm⟩ := h.split2
  rw [HL.out] at hn
  have H0 := Lib.hid hr
  clear h hr
  go_enter Try.func81, Try.ntmps81
  go_wp2
  go_loopw [3] (fun vi wr => ∃ (k d : Nat) (b : Int), k ≤ n ∧ (0 ≤ b ∧ b ≤ (k : Int) + 1) ∧ vi = .int .i64 k ∧ wr = w.drewN d ∧ Hid (b = if k = 0 then 0 else zs[k - 1]?.getD 0) ∧ Hid (cdOK 0 true zs = cdOK b (decide (k = 0)) (zs.drop k))) (fun vi _ => n - (intOf vi).toNat)
  case atStart => exact ⟨0, 0, 0, by omega, by omega, rfl, rfl, Lib.hid rfl, Lib.hid (by simp)⟩
  case round =>
    obtain ⟨k, d, b, hk, hb, rfl, rfl, hp, hg⟩ := hrel
    by_cases hlt : k < n
    · obtain ⟨a, rfl, hal, hcell0⟩ := H0.out.2 k hlt
      obtain ⟨ga, oa, rfl⟩ := HFF.out a rfl
      rw [add_lit] at hcell0
      have HD := Lib.hid (drop_at HL.out hlt)
      have hcell0' : w.cell? ⟨ga, oa + k, none⟩ = some (.int .i64 (zs[k]?.getD 0)) := by simpa using hcell0
      have hcell : w.cell? ⟨ga, oa + k, none⟩ = some (.int .i64 (zs[k]?.getD 0)) := hcell0' 
      have HPV : Hid (0 < k → w.cell? ⟨ga, oa + (k - 1), none⟩ = some (.int .i64 b)) := Lib.hid fun h0 => by
        obtain ⟨a', e', _, hc'⟩ := H0.out.2 (k - 1) (by omega)
        cases e'
        rw [add_lit] at hc'
        rw [hp.out, if_neg (by omega)]; exact (by simpa using hc' : w.cell? ⟨ga, oa + (k - 1), none⟩ = _)
      have HC2 : Hid (zs[k]?.getD 0 = zs[k]?.getD 0) := Lib.hid rfl
      obtain ⟨c, hcc⟩ : ∃ c, zs[k]?.getD 0 = c := ⟨_, rfl⟩
      have HCC := Lib.hid hcc
      rw [hcc] at HD hcell
      have hin : (k : Int) < (n : Int) := by omega
      clear hcell0 hcell0' hp hcc HC2
      by_cases c0 : c = 0
      · subst c0
        have HG : Hid (cdOK 0 true zs = cdOK 0 (decide (k + 1 = 0)) (zs.drop (k + 1))) := Lib.hid (by rw [hg.out, HD.out]; simp [cdOK])
        go_wp2
        go_roundw
        case rel => exact ⟨k + 1, _, 0, by omega, by omega, by go_num, rfl, Lib.hid (by rw [if_neg (by omega)]; exact HCC.out.symm), HG⟩
        case measure => simp [intOf]; omega
      have c0b : (c == 0) = false := by simpa using c0
      have c0n : (c != 0) = true := by simpa using c0
      by_cases k0 : k = 0
      · have HF : Hid (isC zs = false) := Lib.hid (by unfold isC; rw [hg.out, HD.out]; simp [cdOK, c0, k0])
        have k0b : ((k : Int) == 0) = true := by simpa using k0
        clear k0
        go_wp2
        go_ret
        exact ⟨by rw [HF.out]; rfl, _, rfl⟩
      have k1 : 0 < k := by omega
      have k0i : ¬ (k : Int) = 0 := by omega
      have k0b : ((k : Int) == 0) = false := by simpa using k0i
      have p1 : IntKind.i64.wrap ((k : Int) - 1) = (k : Int) - 1 := IntWalk.i64_in _ (by omega)
      have p2 : ((k : Int) - 1).toNat = k - 1 := by omega
      have p3 : (0 : Int) ≤ (k : Int) - 1 := by omega
      have p4 : (k : Int) - 1 < (n : Int) := by omega
      have p5 : (1 : Int) ≤ (k : Int) := by omega
      have p7 : (k : Int) ≤ (n : Int) := by omega
      have p8 : (0 : Int) < (k : Int) := by omega
      by_cases c2 : c = 2
      · subst c2
        have HG : Hid (cdOK 0 true zs = cdOK 2 (decide (k + 1 = 0)) (zs.drop (k + 1))) := Lib.hid (by rw [hg.out, HD.out]; simp [cdOK, k0])
        clear c0 c0b c0n
        go_wp2
        go_roundw
        case rel => exact ⟨k + 1, _, 2, by omega, by omega, by go_num, rfl, Lib.hid (by rw [if_neg (by omega)]; exact HCC.out.symm), HG⟩
        case measure => simp [intOf]; omega
      have c2b : (c == 2) = false := by simpa using c2
      have c2n : (c != 2) = true := by simpa using c2
      by_cases b0 : b = 0
      · subst b0
        have HF : Hid (isC zs = false) := Lib.hid (by unfold isC; rw [hg.out, HD.out]; simp [cdOK, c0, c2])
        have hpv := HPV.out (by omega)
        go_wp2_with fail
        go_quiet (fail)
        try simp only [World.drewN_drewN]
        go_wp2_with fail
        go_ret
        exact ⟨by rw [HF.out]; rfl, _, rfl⟩
      have b0b : (b == 0) = false := by simpa using b0
      have b0n : (b != 0) = true := by simpa using b0
      by_cases cb : c = b + 1
      · have HG : Hid (cdOK 0 true zs = cdOK (b + 1) (decide (k + 1 = 0)) (zs.drop (k + 1))) := Lib.hid (by rw [hg.out, HD.out]; simp [cdOK, k0, b0, cb])
        subst cb
        have hpv := HPV.out (by omega)
        go_wp2_with fail
        go_quiet (fail)
        try simp only [World.drewN_drewN]
        go_wp2_with fail
        go_roundw
        case rel => exact ⟨k + 1, _, (b + 1), by omega, by omega, by go_num, rfl, Lib.hid (by rw [if_neg (by omega)]; exact HCC.out.symm), HG⟩
        case measure => simp [intOf]; omega
      · have HF : Hid (isC zs = false) := Lib.hid (by unfold isC; rw [hg.out, HD.out]; simp [cdOK, c0, c2, cb])
        have cbb : (c == b + 1) = false := by simpa using cb
        have hpv := HPV.out (by omega)
        go_wp2_with fail
        go_quiet (fail)
        try simp only [World.drewN_drewN]
        go_wp2_with fail
        go_ret
        exact ⟨by rw [HF.out]; rfl, _, rfl⟩
    · obtain rfl : k = n := by omega
      by_cases hlong : k < 400
      · have HT : Hid (isC zs = true) := Lib.hid (by unfold isC; rw [hg.out, drop_end HL.out (Nat.le_refl _), HL.out]; simp [cdOK]; omega)
        have hl2 : (k : Int) < 400 := by omega
        go_wp2
        go_ret
        exact ⟨by rw [HT.out]; rfl, _, rfl⟩
      · have HF : Hid (isC zs = false) := Lib.hid (isC_long (by rw [HL.out]; omega))
        have hl2 : ¬ (k : Int) < 400 := by omega
        go_wp2
        go_ret
        exact ⟨by rw [HF.out]; rfl, _, rfl⟩

theorem isCode_if (A : Option Addr) (n c : Nat) (zs : List Int) (w : World) (B : Nat) (b : Bool) (hr : RI w B A n zs) (hl : zs.length = n) (hn : n ≤ 1048576) (hb : isC zs = b) :
    Calls Try.prog 31 #[.slice A n c] w fun e w' => e = .returned (.bool b) ∧ w = w' := by
  subst hb; exact isCode_any A n c zs w B hr hl hn
theorem l06Is_if (v : Value) (zs : List Int) (w : World) (B : Nat) (b : Bool) (h : ReadI w B v zs) (hn : zs.length ≤ 1048576) (hb : isC zs = b) :
    Calls Try.prog 81 #[v] w fun e w' => e = .returned (.bool b) ∧ ∃ m, w' = w.drewN m := by
  subst hb; exact l06Is_any v zs w B h hn
theorem implIsCode_any (v : Value) (zs : List Int) (w : World) (h : ReadI w w.heap.size v zs) (hn : zs.length ≤ 1048576) (hw : ∀ z ∈ zs, (Lit.int .i64 z).wf = true) :
    Calls Try.prog 31 #[v] w (AnsB w (isC zs)) := by
  obtain ⟨n, A, c, rfl, hr, HL, _, hnc, HF, hcm⟩ := h.split2
  rw [HL.out] at hn
  refine (isCode_any A n c zs w _ hr HL.out hn).mono ?_
  rintro e w' ⟨rfl, rfl⟩
  exact ⟨rfl, Below.refl _ _⟩
theorem specIsCode_any (v : Value) (zs : List Int) (w : World) (h : ReadI w w.heap.size v zs) (hn : zs.length ≤ 1048576) (hw : ∀ z ∈ zs, (Lit.int .i64 z).wf = true) :
    Calls Try.prog 41 #[v] w (AnsB w (isC zs)) := by
  have H0 := Lib.hid h
  clear h
  go_enter Try.func41, Try.ntmps41
  go_wp2_with fail
  refine (l06Is_any v zs w _ H0.out hn).mono ?_
  rintro e w' ⟨rfl, m, rfl⟩
  go_wp2_with fail
  go_ret
  exact ⟨rfl, drewN_below _ _⟩
end Go.Proofs.Ytoebbhicffgdgaa
