/- Generators of a branch, the program's: contracts of the function that is told generators and terms, and of (impl.Branch).generators. Conditions: stated at each theorem. -/
import Derived.Test.YtncgkoanckefmaaGnM
import Derived.Test.YtncgkoanckefmaaBrTi
namespace Go.Proofs.Ytncgkoanckefmaa
open Go.ChangeShapes Go.WideShapes Go.ChangeAt Go.RowKit
set_option linter.unusedVariables false
set_option linter.unusedSimpArgs false

theorem shifts_any (n : Int) (w : World) :
    Calls Try.prog 110 #[.int .i64 n] w fun e w' => e = .returned (.func (.func 124) #[] #[.pointer (some ⟨w.heap.size, 0, none⟩)]) ∧ w' = w.alloc (.cells #[.int .i64 n] 2) := by
  have hmf : ∀ (fn : Fn) (first cap : Array Value) (w : World), (Instr.makeFunc fn first cap).run Try.prog w = .ok (.func fn first cap) w := fun _ _ _ _ => rfl
  go_enter Try.func110, Try.ntmps110
  go_wp2
  go_ret
  exact ⟨rfl, rfl⟩

theorem tdiv_le {z e B : Int} (hz : 0 ≤ z ∧ z ≤ B) (he : 1 ≤ e) : 0 ≤ z.tdiv e ∧ z.tdiv e ≤ B := by
  rw [Int.tdiv_eq_ediv_of_nonneg (by omega)]
  exact ⟨Int.ediv_nonneg (by omega) (by omega), Int.le_trans (Int.ediv_le_self _ (by omega)) hz.2⟩
theorem drewN_heap (w : World) (m : Nat) : (w.drewN m).heap = w.heap := rfl
theorem rowIs_other {w w' : World} {g n b : Nat} {t : TypeId} {f : Nat → Value} (h : w.rowIs g t n f) (hw : w'.heap = w.heap) (hne : b ≠ g) (u : Value) : (w'.setCell ⟨b, 0, none⟩ u).rowIs g t n f :=
  World.rowIs.of_block h (by rw [Below.heap_setCell w' ⟨b, 0, none⟩ u g (fun e => hne e.symm), hw])
theorem mul_range {a b A B : Int} (h1 : 0 ≤ a ∧ a ≤ A) (h2 : 0 ≤ b ∧ b ≤ B) : 0 ≤ a * b ∧ a * b ≤ A * B :=
  ⟨Int.mul_nonneg h1.1 h2.1, Int.mul_le_mul h1.2 h2.2 h2.1 (by omega)⟩
theorem shift1_any (g t e : Int) (b : Nat) (w : World) (hc : w.cell? ⟨b, 0, none⟩ = some (.int .i64 e)) (hf : w.frozen? ⟨b, 0, none⟩ = false) (he : 1 ≤ e ∧ e ≤ 1000000) (hg : 1 ≤ g ∧ g ≤ 1000000) (ht : -1000000000000000 ≤ t ∧ t ≤ 1000000000000000) :
    Calls Try.prog 124 #[.int .i64 g, .int .i64 t, .pointer (some ⟨b, 0, none⟩)] w fun r w' => r = .returned (.int .i64 (e.tdiv (Int.gcd e g : Int) * g - t)) ∧ ∃ n, w' = (w.drewN n).setCell ⟨b, 0, none⟩ (.int .i64 (Int.gcd e g : Int)) := by
  have hgl := gcd_le (e := e) (z := g) hg.1
  have hq := tdiv_le (z := e) (e := (Int.gcd e g : Int)) (B := 1000000) (by omega) hgl.1
  have hq2 := mul_range (A := 1000000) (B := 1000000) (a := e.tdiv (Int.gcd e g : Int)) (b := g) (by omega) (by omega)
  have HC : Hid (∀ n, (w.drewN n).cell? ⟨b, 0, none⟩ = some (.int .i64 e) ∧ (w.drewN n).frozen? ⟨b, 0, none⟩ = false) := Lib.hid (fun n => ⟨hc, hf⟩)
  obtain ⟨d, hd⟩ : ∃ d, (Int.gcd e g : Int) = d := ⟨_, rfl⟩
  have HG : Hid ((Int.gcd e g : Int) = d) := Lib.hid hd
  rw [hd] at hgl hq hq2 ⊢
  have hdz : (d == 0) = false := by simp; omega
  have hdz2 : ¬ d = 0 := by omega
  have p2 : IntKind.i64.wrap (e.tdiv d) = e.tdiv d := IntWalk.i64_in _ (by omega)
  have p3 : IntKind.i64.wrap (e.tdiv d * g) = e.tdiv d * g := IntWalk.i64_in _ (by omega)
  have p4 : IntKind.i64.wrap (e.tdiv d * g - t) = e.tdiv d * g - t := IntWalk.i64_in _ (by omega)
  clear hd
  go_enter Try.func124, Try.ntmps124
  go_wp2_with (go_at_call 125; refine (greatest_any _ _ _ (by omega) (by omega) (by omega) (by omega)).mono ?_; rintro e' w' ⟨rfl, nd, rfl⟩; rw [HG.out]; obtain ⟨hc2, hf2⟩ := HC.out nd)
  go_ret
  exact ⟨rfl, nd, rfl⟩

set_option maxRecDepth 100000 in
set_option maxHeartbeats 1000000 in
theorem generators_any (v : Value) (zs : List Int) (w : World) (h : ReadI w w.heap.size v zs) (hn : zs.length ≤ 1048576) (hp : brB zs = true) :
    Calls Try.prog 108 #[.agg #[v]] w fun e w' => ∃ v', e = .returned v' ∧ v' = .slice (some ⟨w.heap.size + 1, 0, none⟩) zs.length zs.length ∧ OwnI w' w.heap.size w'.heap.size v' (gnB zs) ∧ Below w.heap.size w w' := by
  have hn0 := brB_pos hp
  have HZ := Lib.hid (dcB_range (brB_dcB hp))
  have HF1 := Lib.hid (br_first hp)
  have HNX := Lib.hid (fun k (h1 : k < zs.length) (h2 : 1 ≤ k) => br_next hp h1 h2)
  obtain ⟨n, A, c, rfl, hr, HL, HN, hnc, HF, hcm⟩ := h.split2
  rw [HL.out] at hn hn0
  obtain ⟨a, rfl, hlt, hc0⟩ := hr.2 0 hn0
  obtain ⟨g, o, rfl⟩ := HF.out a rfl
  have hgw : g < w.heap.size := hlt
  have hcw : w.cell? ⟨g, o, none⟩ = some (.int .i64 (zs[0]?.getD 0)) := by
    have h2 : (⟨g, o, none⟩ : Addr).add 0 = ⟨g, o, none⟩ := by rw [add_lit]; rfl
    rw [h2] at hc0; simpa using hc0
  have H0 := Lib.hid hr
  have hmk := fun (W : World) => run_make_row' (P := Try.prog) 22 2 (.int .i64 0) 8 Try.underlying22 int_info rfl .i64 .i64 n (by omega) (by omega) W
  have HST : Hid (GSt (zs[0]?.getD 0) (zs[0]?.getD 0) 0 0) := Lib.hid (GSt.start HF1.out.1 HF1.out.2)
  have hz0 := HF1.out
  have HEQ : Hid (gnB zs = [] ++ gnL (zs[0]?.getD 0) 0 (zs.drop 0)) := Lib.hid (by simp [gnB])
  obtain ⟨z0, hz00⟩ : ∃ z, zs[0]?.getD 0 = z := ⟨_, rfl⟩
  have HZ0 := Lib.hid hz00
  rw [hz00] at hcw HST hz0 HEQ
  clear hz00 h hr hc0 hlt hp
  go_enter Try.func108, Try.ntmps108
  go_wp2_with (go_at_call 110; refine (shifts_any _ _).mono ?_; rintro e' w' ⟨rfl, rfl⟩)
  clear hmk
  have hb1 : Below w.heap.size w (((w.alloc (.cells #[.slice (some ⟨g, o, none⟩) n c] 28)).alloc (.cells (madeCells #[.int .i64 0] n) 2)).alloc (.cells #[.int .i64 z0] 2)) := (((Below.refl _ _).alloc (Nat.le_refl _) _).alloc (by simp) _).alloc (by simp; omega) _
  have hrow1 : World.rowIs (((w.alloc (.cells #[.slice (some ⟨g, o, none⟩) n c] 28)).alloc (.cells (madeCells #[.int .i64 0] n) 2)).alloc (.cells #[.int .i64 z0] 2)) (w.alloc (.cells #[.slice (some ⟨g, o, none⟩) n c] 28)).heap.size 2 n (fun x => if x < 0 then .int .i64 ((gnB zs).getD x 0) else .int .i64 0) := ((World.rowIs_made _ _ n _).alloc _).congr (fun i hi => by simp)
  rw [World.size_alloc] at hrow1
  have hc1 : World.cell? (((w.alloc (.cells #[.slice (some ⟨g, o, none⟩) n c] 28)).alloc (.cells (madeCells #[.int .i64 0] n) 2)).alloc (.cells #[.int .i64 z0] 2)) ⟨w.heap.size + 1 + 1, 0, none⟩ = some (.int .i64 z0) ∧ World.frozen? (((w.alloc (.cells #[.slice (some ⟨g, o, none⟩) n c] 28)).alloc (.cells (madeCells #[.int .i64 0] n) 2)).alloc (.cells #[.int .i64 z0] 2)) ⟨w.heap.size + 1 + 1, 0, none⟩ = false := by constructor <;> go_simp
  have hs1 : Array.size (World.heap (((w.alloc (.cells #[.slice (some ⟨g, o, none⟩) n c] 28)).alloc (.cells (madeCells #[.int .i64 0] n) 2)).alloc (.cells #[.int .i64 z0] 2))) = w.heap.size + 3 := by simp
  generalize ((w.alloc (.cells #[.slice (some ⟨g, o, none⟩) n c] 28)).alloc (.cells (madeCells #[.int .i64 0] n) 2)).alloc (.cells #[.int .i64 z0] 2) = W1 at *
  go_loopw [5, 20] (fun vs vi wr => ∃ (k : Nat) (e s p : Int) (L : List Int), k ≤ n ∧ GSt z0 e s p ∧ vs = .int .i64 s ∧ vi = .int .i64 k ∧ Hid (p = if k = 0 then 0 else zs[k - 1]?.getD 0) ∧ Hid (L.length = k) ∧ Hid (gnB zs = L ++ gnL e s (zs.drop k)) ∧ Hid (wr.rowIs (w.heap.size + 1) 2 n (fun x => if x < k then .int .i64 ((gnB zs).getD x 0) else .int .i64 0)) ∧ (wr.cell? ⟨w.heap.size + 1 + 1, 0, none⟩ = some (.int .i64 e) ∧ wr.frozen? ⟨w.heap.size + 1 + 1, 0, none⟩ = false) ∧ w.heap.size + 3 ≤ wr.heap.size ∧ Hid (Below w.heap.size w wr)) (fun _ vi _ => n - (intOf vi).toNat)
  case atStart => exact ⟨0, z0, 0, 0, [], by omega, HST.out, rfl, rfl, Lib.hid rfl, Lib.hid rfl, HEQ, Lib.hid hrow1, hc1, by omega, Lib.hid hb1⟩
  case round =>
    obtain ⟨k, e, s, p, L, hk, hst, rfl, rfl, hp, hL, hg, hrow, ⟨hcc, hcf⟩, hsz, hb⟩ := hrel
    by_cases hlt : k < n
    · obtain ⟨a, e1, hab, hcell0⟩ := H0.out.2 k hlt
      cases e1
      rw [add_lit] at hcell0
      have hcell1 : wr.cell? ⟨g, o + k, none⟩ = some (.int .i64 (zs[k]?.getD 0)) := by rw [hb.out.cell (p := ⟨g, o + k, none⟩) hgw]; simpa using hcell0
      have hzk := HZ.out (zs[k]?.getD 0) (by have := HL.out; simp [show k < zs.length by omega])
      have hpz : p ≤ zs[k]?.getD 0 := by
        rw [hp.out]
        by_cases h0 : k = 0
        · rw [if_pos h0]; omega
        · rw [if_neg h0]; have := HNX.out k (by rw [HL.out]; exact hlt) (by omega); omega
      have HG := Lib.hid (gn_step HL.out hlt hg.out)
      obtain ⟨z, hzz⟩ : ∃ z, zs[k]?.getD 0 = z := ⟨_, rfl⟩
      have HZZ := Lib.hid hzz
      rw [hzz] at hcell1 hzk hpz HG
      clear hzz hcell0 hg
      have hbd := hst.bounds hpz hzk.1 hzk.2
      have hst' := Lib.hid (hst.step hpz hzk.1)
      have he := hst.e1
      have hen := hst.en
      have hz64 := hst.n64
      have HGS : Hid ((Int.gcd e (z + s) : Int) = (Int.gcd e z : Int)) := Lib.hid (gcd_shift hst.dv)
      have HD : Hid ((gnB zs).getD k 0 = z + s) := Lib.hid (by have := hL.out; subst this; rw [HG.out]; simp)
      have hdst := hrow.out.cell hlt
      simp only [Nat.lt_irrefl, if_false] at hdst
      have hfz := hrow.out.frozen k
      have p1 : IntKind.i64.wrap (z + s) = z + s := IntWalk.i64_in _ (by omega)
      have h5 : (k : Int) < (n : Int) := by omega
      have h6 : (0 : Int) ≤ (k : Int) := by omega
      have hne : w.heap.size + 1 + 1 ≠ w.heap.size + 1 := by omega
      clear hst hp
      go_wp2_with (go_at_call 124; refine (shift1_any (z + s) z e (w.heap.size + 1 + 1) _ (by go_simp) (by go_simp) (by omega) (by omega) (by omega)).mono ?_; rintro e' w' ⟨rfl, nd, rfl⟩; rw [HGS.out])
      go_roundw
      case rel =>
        have hb2 := Lib.hid (((below_drewN hb.out nd).setCell (p := ⟨w.heap.size + 1, k, none⟩) (Nat.le_succ _) (.int .i64 (z + s))).setCell (p := ⟨w.heap.size + 1 + 1, 0, none⟩) (show w.heap.size ≤ w.heap.size + 1 + 1 by omega) (.int .i64 (Int.gcd e z : Int)))
        have hrow2 : World.rowIs (wr.setCell ⟨w.heap.size + 1, k, none⟩ (.int .i64 (z + s))) (w.heap.size + 1) 2 n (fun x => if x < k + 1 then .int .i64 ((gnB zs).getD x 0) else .int .i64 0) := (hrow.out.set k _).congr fun j hj => by
          by_cases h1 : j = k
          · subst h1; simp only [if_true, show j < j + 1 by omega]; rw [HD.out]
          · by_cases h2 : j < k
            · simp only [h1, h2, if_false, if_true, show j < k + 1 by omega]
            · simp only [h1, h2, if_false, show ¬ j < k + 1 by omega]
        have hrow3 := Lib.hid (rowIs_other hrow2 (drewN_heap (wr.setCell ⟨w.heap.size + 1, k, none⟩ (.int .i64 (z + s))) nd) hne (.int .i64 (Int.gcd e z : Int)))
        refine ⟨k + 1, _, _, z, L ++ [z + s], by omega, hst'.out, rfl, by go_num, Lib.hid (by rw [if_neg (by omega)]; simpa using HZZ.out.symm), Lib.hid (by simp [hL.out]), HG, hrow3, ⟨by go_simp, by go_simp⟩, by simp [World.setCell]; omega, hb2⟩
      case measure => simp [intOf]; omega
    · obtain rfl : k = n := by omega
      have HNL : Hid ((gnB zs).length = k) := Lib.hid (by rw [gnB_len, HL.out])
      go_wp2
      go_ret
      exact ⟨_, rfl, by rw [HL.out]; rfl, by have := row_ownB hrow.out HNL.out (Nat.le_succ _) (by omega); exact this, hb.out⟩
end Go.Proofs.Ytncgkoanckefmaa
