/- The unloaded cluster, the model's: its steps. Conditions: stated at each theorem. -/
import Derived.Test.YtohbgfmjnanlkaaUn15
namespace Go.Proofs.Ytohbgfmjnanlkaa
open Go.ChangeShapes Go.WideShapes Go.ChangeAt Go.RowKit Go.Deep
set_option linter.unusedVariables false
set_option linter.unusedSimpArgs false

theorem bt_top {P S : List Int} {n : Nat} {O0 O : Nat → Int} (h : Btw P S n O0 O) (hO : okAll P S n = true) (hn : n ≤ 24) (h0 : ∀ x, x < n → -13000000000 ≤ O0 x ∧ O0 x ≤ 13000000000) (he : ∀ v, v < n → -2500000 ≤ xsF P S n O0 v) : ∀ x, x < n → -13000000000 ≤ O x ∧ O x ≤ O0 x + 2500000 * zU P S n x ∧ O x ≤ 40000000000000000 := fun x hx => by
  have h1 := h.top hO hn (by omega) he x hx
  have h2 := h.ge x hx
  have h3 := h0 x hx
  have h4 := zU_rng hO hn hx
  omega
theorem bt_fuel {P S : List Int} {n : Nat} {O0 O O1 : Nat → Int} {p : Nat} (h : Btw P S n O0 O1) (hO : okAll P S n = true) (hn : n ≤ 24) (h0 : ∀ x, x < n → -13000000000 ≤ O0 x ∧ O0 x ≤ 13000000000) (he : ∀ v, v < n → -2500000 ≤ xsF P S n O0 v)
    (hge : ∀ x, x < n → O x ≤ O1 x) (hp : p < n) (hp1 : O p + 1 ≤ O1 p) : fuU P S n O0 O1 < fuU P S n O0 O := by
  have h1 := sgC_inc (F := fun x => O0 x + 2500000 * zU P S n x - O1 x) (G := fun x => O0 x + 2500000 * zU P S n x - O x) hp (fun x hx => by have := hge x hx; omega) (by omega)
  have h2 : 0 ≤ sgC (fun x => O0 x + 2500000 * zU P S n x - O1 x) n := sgC_nn fun x hx => by have := (bt_top h hO hn h0 he x hx).2.1; omega
  unfold fuU
  omega
/-- The weights of orders. -/
def wvL (P S : List Int) (n : Nat) (O : Nat → Int) : List Int := fnL (woF P S O) n
theorem wvL_len (P S : List Int) (n : Nat) (O : Nat → Int) : (wvL P S n O).length = n := fnL_len _ _
theorem wv_ex {P S : List Int} {n v : Nat} (h : okAll P S n = true) (hv : v < n) (O : Nat → Int) : exN P S (fun x => (wvL P S n O)[x]?.getD 0) n v = xsF P S n O v := by
  rw [← exU_xs h hv]
  unfold exU wvL; rw [woL_fn h]
theorem wv_step {P S : List Int} {n p : Nat} (h : okAll P S n = true) (hp : p < n) (O : Nat → Int) : usL P S (wvL P S n O) n p = wvL P S n (fun x => O x + (if x = p then usS P S (wvL P S n O) n p else 0)) := by
  unfold usL
  refine fnL_congr fun x hx => ?_
  rw [wo_add, wo_un h hx hp]
  unfold wvL
  rw [fnL_at hx]
theorem bt_one {P S : List Int} {n p : Nat} {O0 O : Nat → Int} (k : Btw P S n O0 O) (h : okAll P S n = true) (hn : n ≤ 24) (hp : p < n) (hneg : xsF P S n O p < 0) : Btw P S n O0 (fun x => O x + (if x = p then usS P S (wvL P S n O) n p else 0)) ∧ 1 ≤ usS P S (wvL P S n O) n p := by
  have hM := mx_cluster h hn
  have hd := hM.neg p hp
  have hs : usS P S (wvL P S n O) n p = (-(xsF P S n O p) + -(meE P S n p p) - 1) / -(meE P S n p p) := by
    unfold usS qtI; rw [wv_ex h hp]
  have h1 : 1 ≤ usS P S (wvL P S n O) n p := by
    have h9 := qt_rng (t := -(xsF P S n O p)) (b := -(meE P S n p p)) (by omega)
    rw [← hs] at h9
    by_cases hq : 1 ≤ usS P S (wvL P S n O) n p
    · exact hq
    · have h8 : usS P S (wvL P S n O) n p * -(meE P S n p p) ≤ 0 := by
        have := Int.mul_le_mul_of_nonneg_right (show usS P S (wvL P S n O) n p ≤ 0 by omega) (show 0 ≤ -(meE P S n p p) by omega)
        omega
      omega
  refine ⟨k.step _ (fun v hv => by split <;> omega) (fun y hy hc v hv => ?_), h1⟩
  by_cases e : v = p
  · subst e
    rw [if_pos rfl, hs]
    refine qt_low (by omega) ?_
    have h2 := hc v hv
    have h3 := nb_sum hM y hv
    have h4 : 0 ≤ sgC (fun c => if meE P S n v c = 1 then y c else 0) n := sgC_nn fun i hi => by
      have := hy i hi
      split <;> omega
    omega
  · rw [if_neg e]; exact hy v hv

set_option maxRecDepth 100000 in
set_option maxHeartbeats 4000000 in
theorem l08Unload_any (a b c : Value) (P S U : List Int) (n : Nat) (O0 : Nat → Int) (A0 : Option Addr) (c0 : Nat) (w : World) (h : ReadC w w.heap.size a b c P S U) (hv : ReadI w w.heap.size (.slice A0 n c0) (wvL P S n O0)) (hC : ClP P S n)
    (h0 : ∀ x, x < n → -13000000000 ≤ O0 x ∧ O0 x ≤ 13000000000) (he : ∀ v, v < n → -2500000 ≤ xsF P S n O0 v) :
    Calls Try.prog 124 #[.agg #[a, b, c], .slice A0 n c0] w fun e w' => ∃ Q A c1, e = .returned (.slice A n c1) ∧ Lst P S n O0 Q ∧ ReadI w' w'.heap.size (.slice A n c1) (wvL P S n Q) ∧ Below w.heap.size w w' := by
  have hn := hC.hi
  have hn1 := hC.lo
  obtain ⟨W0, HE⟩ : ∃ X, X = w.alloc (.cells #[a, b, c] 36) := ⟨_, rfl⟩
  have hb0 : Below w.heap.size w W0 := by rw [HE]; exact below_box2 _ _
  have hx : CBox W0 w.heap.size a b c := by rw [HE]; exact CBox.new _ _ _ _ _
  have HX := Lib.hid hx; have HB0 := Lib.hid hb0; have HEQ := Lib.hid HE
  have HR := Lib.hid ((h.below hb0).more hb0.size)
  have HV := Lib.hid ((hv.below hb0).more hb0.size)
  have HC := Lib.hid hC; have H0 := Lib.hid h0; have HEX := Lib.hid he
  have HBT0 : Hid (Btw P S n O0 O0) := Lib.hid (Btw.refl _ _ _ _)
  have HK0 : Hid (Below W0.heap.size W0 W0) := Lib.hid (Below.refl _ _)
  clear h hv hC h0 he hx hb0 HE
  go_enter Try.func124, Try.ntmps124
  go_wp2_with fail
  rw [← HEQ.out]
  go_loopg [1] (fuU P S n O0 O0) (fun k v1 wr => ∃ (O : Nat → Int) (A : Option Addr) (c1 : Nat), v1 = .slice A n c1 ∧ Hid (ReadI wr wr.heap.size (.slice A n c1) (wvL P S n O)) ∧ Hid (Btw P S n O0 O) ∧ Hid (Below W0.heap.size W0 wr) ∧ Hid (fuU P S n O0 O ≤ k))
  case atStart => exact ⟨O0, A0, c0, rfl, HV, HBT0, HK0, Lib.hid (Nat.le_refl _)⟩
  case round =>
    clear HV HBT0 HK0
    obtain ⟨O, A, c1, rfl, HV, HBT, HK, HFU⟩ := hrel
    have hx := HX.out.below HK.out
    have x0 := hx.c0; have x1 := hx.c1; have x2 := hx.c2
    have HRW := Lib.hid ((HR.out.below HK.out).more HK.out.size)
    have htop := bt_top HBT.out HC.out.ok hn H0.out HEX.out
    have hbw : BW (wvL P S n O) := by
      have h9 := wo_bd (P := P) (S := S) (O := O) (n := n) (fun x hx => by have := htop x hx; omega)
      rw [woL_fn HC.out.ok] at h9; exact h9
    have HBW := Lib.hid hbw
    have HLE := Lib.hid (l08Least_any a b c (.slice A n c1) P S U (wvL P S n O) n wr HRW.out HV.out HC.out (wvL_len _ _ _ _) hbw)
    clear hx hbw
    rcases lsI_cases (fun x => (ecL P S (wvL P S n O) n)[x]?.getD 0) n with ⟨hl, hall⟩ | ⟨p, hpn, hl, hneg, hfst⟩
    · have hup : usP P S (wvL P S n O) n = -1 := hl
      rw [hup] at HLE
      have HLST : Hid (Lst P S n O0 O) := Lib.hid (HBT.out.lst fun v hv => by
        have h9 := hall v hv
        simp only [ec_at_ex hv, wv_ex HC.out.ok hv] at h9
        exact h9)
      clear hl hall hup htop
      go_wp2_with (go_at_call 168; refine HLE.out.mono ?_; rintro e w5 ⟨rfl, hb5⟩; have HB5 := Lib.hid hb5; clear hb5)
      go_ret
      exact ⟨O, A, c1, rfl, HLST.out, (HV.out.below HB5.out).more HB5.out.size, HB0.out.trans ((HK.out.trans (HB5.out.mono HK.out.size)).mono HB0.out.size)⟩
    · have hup : usP P S (wvL P S n O) n = (p : Int) := hl
      rw [hup] at HLE
      have hneg2 : exN P S (fun x => (wvL P S n O)[x]?.getD 0) n p < 0 := by
        have h9 := hneg
        simp only [ec_at_ex hpn] at h9
        exact h9
      have h9 := hneg2
      rw [wv_ex HC.out.ok hpn] at h9
      have hone := bt_one HBT.out HC.out.ok hn hpn h9
      have HONE := Lib.hid hone
      have htop1 := bt_top hone.1 HC.out.ok hn H0.out HEX.out p hpn
      rw [if_pos rfl] at htop1
      have hss : 0 ≤ usS P S (wvL P S n O) n p ∧ usS P S (wvL P S n O) n p ≤ 1000000000000000000 := by
        have h8 := htop p hpn; have h7 := hone.2; omega
      have HSTP := Lib.hid (fun (V : World) (hR : ReadC V V.heap.size a b c P S U) (hV : ReadI V V.heap.size (.slice A n c1) (wvL P S n O)) => l08Step_any a b c (.slice A n c1) P S U (wvL P S n O) n V hR hV HC.out (wvL_len _ _ _ _) HBW.out p hpn hss hneg2)
      have hpp : ¬ (p : Int) < 0 := by omega
      clear hl hup hneg hneg2 h9 hone htop1 hss htop hfst
      go_wp2_with (first
        | (go_at_call 168; refine HLE.out.mono ?_; rintro e w5 ⟨rfl, hb5⟩; have HB5 := Lib.hid hb5; have hx5 := (HX.out.below (HK.out.trans (hb5.mono HK.out.size))); have x0 := hx5.c0; have x1 := hx5.c1; have x2 := hx5.c2; clear hb5 hx5)
        | (go_at_call 169; refine (HSTP.out w5 ((HRW.out.below HB5.out).more HB5.out.size) ((HV.out.below HB5.out).more HB5.out.size)).mono ?_; rintro e w6 kk; obtain ⟨A6, c6, rfl, ho6, hb6⟩ := kk.len (usL_len _ _ _ _ _); have HO6 := Lib.hid ho6; have HB6 := Lib.hid hb6; clear ho6 hb6 kk))
      go_roundg (fuU P S n O0 (fun x => O x + (if x = p then usS P S (wvL P S n O) n p else 0)))
      case measure =>
        refine Nat.lt_of_lt_of_le (bt_fuel (O := O) (p := p) HONE.out.1 HC.out.ok hn H0.out HEX.out (fun x hx => ?_) hpn ?_) HFU.out
        · have := HONE.out.2; split <;> omega
        · have := HONE.out.2; rw [if_pos rfl]; omega
      case rel =>
        exact ⟨_, A6, c6, rfl, Lib.hid (by rw [← wv_step HC.out.ok hpn]; exact HO6.out.reads), Lib.hid HONE.out.1, Lib.hid ((HK.out.trans (HB5.out.mono HK.out.size)).trans (HB6.out.mono (Nat.le_trans HK.out.size HB5.out.size))), Lib.hid (Nat.le_refl _)⟩

end Go.Proofs.Ytohbgfmjnanlkaa
