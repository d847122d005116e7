/- The model's text of a branch: contract of spec.l03Text. Conditions: stated at the theorem. -/
import Derived.Test.YtlidleaigjemnaaDoorBtM
import Derived.Test.YtlidleaigjemnaaDoorBrW
import Derived.Test.YtlidleaigjemnaaDoorBrA
namespace Go.Proofs.YtlidleaigjemnaaDoor
open Go.ChangeShapes Go.WideShapes Go.ChangeAt Go.RowKit
set_option linter.unusedVariables false

theorem str_b {T : ByteArray} {l m : List UInt8} (h : T = ⟨l.toArray⟩) (e : l = m) : Ending.returned (.string T) = .returned (.string ⟨m.toArray⟩) := by subst h; subst e; rfl
theorem dec_i (z : Int) (d : ByteArray) (hd : d = ⟨(Lib.itoa z).toArray⟩) (w : World) (h : 0 ≤ z ∧ z ≤ 2000) :
    Calls Tryd.prog 85 #[.int .i64 z] w fun e w' => e = .returned (.string d) ∧ Below w.heap.size w w' := by
  obtain ⟨u, rfl⟩ : ∃ u : Nat, z = (u : Int) := ⟨z.toNat, by omega⟩
  exact dec_v u d (by rw [hd, Lib.itoa_nonneg]) w (by omega)

set_option maxHeartbeats 2000000 in
set_option maxRecDepth 100000 in
theorem l03Text_any (v : Value) (zs : List Int) (w : World) (h : ReadI w w.heap.size v zs) (hp : brB zs = true) :
    Calls Tryd.prog 71 #[.agg #[v]] w fun e w' => e = .returned (.string ⟨(brT zs).toArray⟩) ∧ Below w.heap.size w w' := by
  have hn := brB_len hp
  have hn0 := brB_pos hp
  have HZ := Lib.hid (dcB_range (brB_dcB hp))
  have HBL := Lib.hid (btP_len HZ.out)
  obtain ⟨n, A, c, rfl, hr, HL, HN, hnc, HF, hcm⟩ := h.split2
  rw [HL.out] at hn hn0
  obtain ⟨a, rfl, hal, hc0⟩ := hr.2 0 hn0
  obtain ⟨g, o, rfl⟩ := HF.out a rfl
  have hgw : g < w.heap.size := hal
  obtain ⟨W0, HE⟩ : ∃ W, W = w.alloc (.cells #[.slice (some ⟨g, o, none⟩) n c] 51) := ⟨_, rfl⟩
  have hb0 : Below w.heap.size w W0 := by rw [HE]; exact below_box2 _ _
  have hq0 : BoxI W0 w.heap.size (.slice (some ⟨g, o, none⟩) n c) := by rw [HE]; exact BoxI.new _ _ _
  have H0 := Lib.hid (hr.below hb0)
  have B0 := Lib.hid hb0
  have Q0 := Lib.hid hq0
  have HEQ := Lib.hid HE
  have hs0 : w.heap.size < W0.heap.size := hq0.2
  have E : Hid (brT zs = btP zs n ++ [41]) := Lib.hid (by unfold brT; rw [HL.out])
  have hz0 := HZ.out (zs[0]?.getD 0) (by have := HL.out; simp [show 0 < zs.length by omega])
  have HS0 : Hid (btP zs 1 = [40] ++ Lib.itoa (zs[0]?.getD 0)) := Lib.hid (by rw [btP_succ, btP_zero]; rfl)
  have hce0 : W0.cell? ⟨g, o, none⟩ = some (.int .i64 (zs[0]?.getD 0)) := by
    rw [hb0.cell (p := ⟨g, o, none⟩) hgw]
    have h2 : (⟨g, o, none⟩ : Addr).add 0 = ⟨g, o, none⟩ := by unfold Addr.add; split <;> simp_all
    rw [h2] at hc0; simpa using hc0
  have hcw : w.cell? ⟨g, o, none⟩ = some (.int .i64 (zs[0]?.getD 0)) := by rw [← hb0.cell (p := ⟨g, o, none⟩) hgw]; exact hce0
  have hil := itoa_len (n := zs[0]?.getD 0) (by omega) (by omega)
  generalize zs[0]?.getD 0 = z0 at *
  obtain ⟨td, htd⟩ : ∃ td : ByteArray, td = ⟨(Lib.itoa z0).toArray⟩ := ⟨_, rfl⟩
  obtain ⟨T1, hT1⟩ : ∃ T : ByteArray, T = ⟨([40] ++ Lib.itoa z0).toArray⟩ := ⟨_, rfl⟩
  have a0 := fun W => addV ⟨#[40]⟩ td T1 [40] (Lib.itoa z0) rfl htd hT1 (by simp) (by omega) W
  have HT1 : Hid (T1 = ⟨(btP zs 1).toArray⟩) := Lib.hid (by rw [HS0.out]; exact hT1)
  have HTD := Lib.hid htd
  have q0 := hq0.1
  clear h hr hp hb0 hq0 HE hc0 htd hT1
  go_enter Tryd.func71, Tryd.ntmps71
  go_wp2_with fail
  rw [← HEQ.out]
  refine (dec_i z0 td HTD.out W0 (by omega)).mono ?_
  rintro e W1 ⟨rfl, hb1⟩
  have B1 := Lib.hid (B0.out.trans (hb1.mono (by omega)))
  have q1 := (hb1.cell (p := ⟨w.heap.size, 0, none⟩) hs0).trans q0
  have hs1 := hb1.size
  have Q1 := Lib.hid q1
  clear hb1
  go_wp2_with fail
  go_loopw [3, 4] (fun vs vi wr => ∃ (k : Nat) (T : ByteArray), (1 ≤ k ∧ k ≤ n) ∧ vs = .string T ∧ vi = .int .i64 k ∧ Hid (T = ⟨(btP zs k).toArray⟩) ∧ Hid (Below W1.heap.size W1 wr)) (fun _ vi _ => n - (intOf vi).toNat)
  case atStart => exact ⟨1, T1, by omega, rfl, rfl, HT1, Lib.hid (Below.refl _ _)⟩
  case round =>
    obtain ⟨k, T, hk, rfl, rfl, hT, hb⟩ := hrel
    have hbl := HBL.out k
    have hcb : wr.cell? ⟨w.heap.size, 0, none⟩ = some (.slice (some ⟨g, o, none⟩) n c) := (hb.out.cell (p := ⟨w.heap.size, 0, none⟩) (by show w.heap.size < _; omega)).trans Q1.out
    have hszw := hb.out.size
    clear q0 q1 a0 hce0
    by_cases hlt : k < n
    · obtain ⟨a, e1, _, hcell0⟩ := H0.out.2 k hlt
      cases e1
      have hz := HZ.out (zs[k]?.getD 0) (by have := HL.out; simp [show k < zs.length by omega])
      have hce : wr.cell? ⟨g, o + k, none⟩ = some (.int .i64 (zs[k]?.getD 0)) := by
        have h3 : (⟨g, o, none⟩ : Addr).add k = ⟨g, o + k, none⟩ := by unfold Addr.add; split <;> simp_all
        rw [h3] at hcell0
        rw [(B1.out.trans (hb.out.mono (by omega))).cell (p := ⟨g, o + k, none⟩) hgw, ← (B0.out).cell (p := ⟨g, o + k, none⟩) hgw]; simpa using hcell0
      have HS := Lib.hid (btP_succ zs k)
      have hil2 := itoa_len (n := zs[k]?.getD 0) (by omega) (by omega)
      generalize zs[k]?.getD 0 = z at *
      have hkn : (k : Int) < (n : Int) := by omega
      have hk9 : (0 : Int) ≤ (k : Int) := by omega
      obtain ⟨tz, htz⟩ : ∃ td : ByteArray, td = ⟨(Lib.itoa z).toArray⟩ := ⟨_, rfl⟩
      obtain ⟨T2, hT2⟩ : ∃ T : ByteArray, T = ⟨(btP zs k ++ [sepB k]).toArray⟩ := ⟨_, rfl⟩
      obtain ⟨T3, hT3⟩ : ∃ T : ByteArray, T = ⟨((btP zs k ++ [sepB k]) ++ Lib.itoa z).toArray⟩ := ⟨_, rfl⟩
      have a2 := fun W => addV T2 tz T3 (btP zs k ++ [sepB k]) (Lib.itoa z) hT2 htz hT3 (by simp; omega) (by omega) W
      have HT3 : Hid (T3 = ⟨(btP zs (k + 1)).toArray⟩) := Lib.hid (by rw [HS.out, hT3]; simp)
      have HT2 := Lib.hid hT2
      have HTZ := Lib.hid htz
      clear hcell0 htz hT2 hT3
      by_cases hk1 : k = 1
      · have hki : ((k : Int) == 1) = true := by rw [hk1]; rfl
        have a1 := fun W => addV T ⟨#[59]⟩ T2 (btP zs k) [59] hT.out rfl (by rw [HT2.out, hk1]; rfl) (by omega) (by simp) W
        have hk8 := Lib.hid hk1
        clear hk1
        go_wp2_with fail
        refine (dec_i z tz HTZ.out wr (by omega)).mono ?_
        rintro e w2 ⟨rfl, hb2⟩
        have B2 := Lib.hid (hb.out.trans (hb2.mono hb.out.size))
        clear hb2
        go_wp2
        go_roundw
        case rel => exact ⟨k + 1, T3, by omega, rfl, by go_num, HT3, B2⟩
        case measure => simp [intOf]; omega
      · have hki : ((k : Int) == 1) = false := by simp; omega
        have a1 := fun W => addV T ⟨#[44]⟩ T2 (btP zs k) [44] hT.out rfl (by rw [HT2.out, sep_many (by omega)]) (by omega) (by simp) W
        go_wp2_with fail
        refine (dec_i z tz HTZ.out wr (by omega)).mono ?_
        rintro e w2 ⟨rfl, hb2⟩
        have B2 := Lib.hid (hb.out.trans (hb2.mono hb.out.size))
        clear hb2
        go_wp2
        go_roundw
        case rel => exact ⟨k + 1, T3, by omega, rfl, by go_num, HT3, B2⟩
        case measure => simp [intOf]; omega
    · obtain rfl : k = n := by omega
      obtain ⟨T4, hT4⟩ : ∃ T : ByteArray, T = ⟨(btP zs k ++ [41]).toArray⟩ := ⟨_, rfl⟩
      have a4 := fun W => addV T ⟨#[41]⟩ T4 (btP zs k) [41] hT.out rfl hT4 (by omega) (by simp) W
      have HT4 := Lib.hid hT4
      clear hT4
      go_wp2_with fail
      go_ret
      exact ⟨str_b HT4.out E.out.symm, B1.out.trans (hb.out.mono (by omega))⟩
end Go.Proofs.YtlidleaigjemnaaDoor
