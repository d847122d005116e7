/- The program's text of a branch: contract of (impl.Branch).text. Conditions: stated at the theorem. -/
import Derived.Test.YtlidleaigjemnaaDoorBtM
import Derived.Test.YtlidleaigjemnaaDoorBrW
import Derived.Test.YtlidleaigjemnaaDoorBrA
namespace Go.Proofs.YtlidleaigjemnaaDoor
open Go.ChangeShapes Go.WideShapes Go.ChangeAt Go.RowKit
set_option linter.unusedVariables false

set_option maxHeartbeats 2000000 in
set_option maxRecDepth 100000 in
theorem textOfBranch_any (v : Value) (zs : List Int) (w : World) (h : ReadI w w.heap.size v zs) (hp : brB zs = true) (ht : Tab w) :
    Calls Tryd.prog 74 #[.agg #[v]] w fun e w' => e = .returned (.string ⟨(brT zs).toArray⟩) ∧ Below w.heap.size w w' := by
  have hn := brB_len hp
  have HZ := Lib.hid (dcB_range (brB_dcB hp))
  have HBL := Lib.hid (btP_len HZ.out)
  obtain ⟨n, A, c, rfl, hr, HL, HN, hnc, HF, hcm⟩ := h.split2
  rw [HL.out] at hn
  have HR := Lib.hid hr
  have HT := Lib.hid ht
  have E : Hid (brT zs = btP zs n ++ [41]) := Lib.hid (by unfold brT; rw [HL.out])
  have HB0 : Hid (Bld (w.heap.size + 1) (w.heap.size + 1) (btP zs 0) ((w.alloc (.cells #[.slice A n c] 51)).alloc (.cells #[.pointer none, .slice none 0 0] 107))) := Lib.hid (by
    have h := Bld.new (w.alloc (.cells #[.slice A n c] 51))
    rw [World.size_alloc] at h
    rw [btP_zero]; exact h)
  have hB0 : Below w.heap.size w ((w.alloc (.cells #[.slice A n c] 51)).alloc (.cells #[.pointer none, .slice none 0 0] 107)) := ((Below.refl _ _).alloc (Nat.le_refl _) _).alloc (by simp) _
  clear h hr hp ht
  go_enter Tryd.func74, Tryd.ntmps74
  go_wp2
  go_loopw [4, 10] (fun vs vi wr => ∃ (k : Nat) (y : Int), k ≤ n ∧ vs = .int .u8 y ∧ vi = .int .i64 k ∧ Hid (y = ((sepB k).toNat : Int)) ∧ Hid (Bld (w.heap.size + 1) (w.heap.size + 1) (btP zs k) wr) ∧ Hid (Below w.heap.size w wr) ∧ w.heap.size + 1 ≤ wr.heap.size) (fun _ vi _ => n - (intOf vi).toNat)
  case atStart => exact ⟨0, 40, by omega, rfl, rfl, Lib.hid rfl, HB0, Lib.hid hB0, by simp⟩
  case round =>
    clear HB0 hB0
    obtain ⟨k, y, hk, rfl, rfl, hy, hbd, hb, hszr⟩ := hrel
    have hbl := HBL.out k
    by_cases hlt : k < n
    · obtain ⟨a, rfl, hal, hcell0⟩ := HR.out.2 k hlt
      have hz := HZ.out (zs[k]?.getD 0) (by have := HL.out; simp [show k < zs.length by omega])
      have hcell : wr.cell? (a.add k) = some (.int .i64 (zs[k]?.getD 0)) := by rw [hb.out.cell (by rw [add_block]; omega)]; simpa using hcell0
      have HS := Lib.hid (btP_succ zs k)
      have hil := itoa_len (n := zs[k]?.getD 0) (by omega) (by omega)
      generalize zs[k]?.getD 0 = z at *
      have hkn : (k : Int) < (n : Int) := by omega
      clear hcell0
      by_cases hk0 : k = 0
      · have hk9 : Hid (k = 0) := Lib.hid hk0
        have hki : ((k : Int) == 0) = true := by rw [hk0]; rfl
        clear hk0
        go_wp2_with fail
        refine (bByte _ _ (btP zs k) (sepB k) y hy.out wr hbd.out (by omega) (by omega)).mono ?_
        rintro e w1 ⟨rfl, hbd1, hb1⟩
        have hs1 := hb1.size
        have BD1 := Lib.hid hbd1
        have B1 := Lib.hid (hb.out.trans (hb1.mono (by omega)))
        clear hbd1 hb1
        go_wp2_with fail
        refine (fmt_any z w1 (by omega) (by omega) (HT.out.below B1.out)).mono ?_
        rintro e w2 ⟨rfl, hb2⟩
        have hs2 := hb2.size
        have BD2 := Lib.hid (BD1.out.below hb2)
        have B2 := Lib.hid (B1.out.trans (hb2.mono (by omega)))
        clear hb2
        go_wp2_with fail
        refine (bStr _ _ (btP zs k ++ [sepB k]) (Lib.itoa z) w2 BD2.out (by simp; omega) (by omega) (by omega)).mono ?_
        rintro e w3 ⟨⟨nn, rfl⟩, hbd3, hb3⟩
        have hs3 := hb3.size
        have BD3 : Hid (Bld (w.heap.size + 1) (w.heap.size + 1) (btP zs (k + 1)) w3) := Lib.hid (by rw [HS.out]; simpa using hbd3)
        have B3 := Lib.hid (B2.out.trans (hb3.mono (by omega)))
        clear hbd3 hb3
        go_wp2
        go_roundw
        case rel => exact ⟨k + 1, 59, by omega, rfl, by go_num, Lib.hid (by rw [hk9.out]; rfl), BD3, B3, by omega⟩
        case measure => simp [intOf]; omega
      · have hkp : 0 < k := by omega
        have hki : ((k : Int) == 0) = false := by simp; omega
        go_wp2_with fail
        refine (bByte _ _ (btP zs k) (sepB k) y hy.out wr hbd.out (by omega) (by omega)).mono ?_
        rintro e w1 ⟨rfl, hbd1, hb1⟩
        have hs1 := hb1.size
        have BD1 := Lib.hid hbd1
        have B1 := Lib.hid (hb.out.trans (hb1.mono (by omega)))
        clear hbd1 hb1
        go_wp2_with fail
        refine (fmt_any z w1 (by omega) (by omega) (HT.out.below B1.out)).mono ?_
        rintro e w2 ⟨rfl, hb2⟩
        have hs2 := hb2.size
        have BD2 := Lib.hid (BD1.out.below hb2)
        have B2 := Lib.hid (B1.out.trans (hb2.mono (by omega)))
        clear hb2
        go_wp2_with fail
        refine (bStr _ _ (btP zs k ++ [sepB k]) (Lib.itoa z) w2 BD2.out (by simp; omega) (by omega) (by omega)).mono ?_
        rintro e w3 ⟨⟨nn, rfl⟩, hbd3, hb3⟩
        have hs3 := hb3.size
        have BD3 : Hid (Bld (w.heap.size + 1) (w.heap.size + 1) (btP zs (k + 1)) w3) := Lib.hid (by rw [HS.out]; simpa using hbd3)
        have B3 := Lib.hid (B2.out.trans (hb3.mono (by omega)))
        clear hbd3 hb3
        go_wp2
        go_roundw
        case rel => exact ⟨k + 1, 44, by omega, rfl, by go_num, Lib.hid (by rw [sep_more hkp]; rfl), BD3, B3, by omega⟩
        case measure => simp [intOf]; omega
    · obtain rfl : k = n := by omega
      go_wp2_with fail
      refine (bByte _ _ (btP zs k) 41 41 rfl wr hbd.out (by omega) (by omega)).mono ?_
      rintro e w1 ⟨rfl, hbd1, hb1⟩
      have hs1 := hb1.size
      go_wp2_with fail
      refine (bString _ _ _ w1 hbd1 (by omega)).mono ?_
      rintro e w2 ⟨rfl, hb2⟩
      have hs2 := hb2.size
      go_wp2_with fail
      go_ret
      exact ⟨str_ne E.out.symm, (hb.out.trans (hb1.mono (by omega))).trans (hb2.mono (by omega))⟩
end Go.Proofs.YtlidleaigjemnaaDoor
