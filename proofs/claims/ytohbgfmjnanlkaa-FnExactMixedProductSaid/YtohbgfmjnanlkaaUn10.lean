/- A single step of unloading, the model's. Conditions: stated at each theorem. -/
import Derived.Test.YtohbgfmjnanlkaaUn9
import Derived.Deep.DeepCutAuto
namespace Go.Proofs.Ytohbgfmjnanlkaa
open Go.ChangeShapes Go.WideShapes Go.ChangeAt Go.RowKit Go.Deep
set_option linter.unusedVariables false
set_option linter.unusedSimpArgs false

set_option maxRecDepth 100000 in
set_option maxHeartbeats 4000000 in
theorem l07ExcessB_any (a b c v : Value) (P S U V : List Int) (n : Nat) (w : World) (h : ReadC w w.heap.size a b c P S U) (hv : ReadI w w.heap.size v V) (hC : ClP P S n) (hV : V.length = n) (hW : BW V) :
    Calls Try.prog 130 #[.agg #[a, b, c], v] w (LAns w (ecL P S V n)) := by
  have hn1 := hC.lo
  have hn := hC.hi
  have HO := Lib.hid hC.ok
  have HWT := Lib.hid hW
  obtain ⟨h0, h1, h2⟩ := h
  obtain ⟨A0, c0, rfl, _, _, hc0, _, hm0⟩ := id h0
  obtain ⟨A1, c1, rfl, _, _, hc1, _, hm1⟩ := id h1
  obtain ⟨A2, c2, rfl, _⟩ := id h2
  obtain ⟨A3, c3, rfl, _, _, hc3, _, hm3⟩ := id hv
  have HV := Lib.hid hv
  have hVl := hV
  rw [hC.p] at h0 hc0 ⊢
  rw [hC.s] at h1 hc1 ⊢
  rw [hV] at hc3 ⊢
  obtain ⟨n2, hn2⟩ : ∃ x, U.length = x := ⟨_, rfl⟩
  rw [hn2]
  obtain ⟨g0, o0, rfl, H0, hg0⟩ := cells_ofC h0 hC.p hn1
  obtain ⟨g1, o1, rfl, H1, hg1⟩ := cells_ofC h1 hC.s hn1
  obtain ⟨g3, o3, rfl, H3, hg3⟩ := cells_ofC (by rw [hV] at hv; exact hv) hV hn1
  have HX : Hid (CBox (w.alloc (.cells #[.slice (some ⟨g0, o0, none⟩) n c0, .slice (some ⟨g1, o1, none⟩) n c1, .slice A2 n2 c2] 36)) w.heap.size (.slice (some ⟨g0, o0, none⟩) n c0) (.slice (some ⟨g1, o1, none⟩) n c1) (.slice A2 n2 c2)) := Lib.hid (CBox.new _ _ _ _ _)
  have HB0 : Hid (Below w.heap.size w (w.alloc (.cells #[.slice (some ⟨g0, o0, none⟩) n c0, .slice (some ⟨g1, o1, none⟩) n c1, .slice A2 n2 c2] 36))) := Lib.hid (below_box2 _ _)
  have HZ0 : Hid ((w.alloc (.cells #[.slice (some ⟨g0, o0, none⟩) n c0, .slice (some ⟨g1, o1, none⟩) n c1, .slice A2 n2 c2] 36)).heap.size = w.heap.size + 1) := Lib.hid (by simp)
  rw [hV] at HV
  clear h0 h1 h2 hv hC hW hn2 hV
  go_enter Try.func130, Try.ntmps130
  go_wp2_with fail
  generalize (w.alloc (.cells #[.slice (some ⟨g0, o0, none⟩) n c0, .slice (some ⟨g1, o1, none⟩) n c1, .slice A2 n2 c2] 36)) = W0 at *
  have hz0 := HZ0.out
  have hg0' : g0 < W0.heap.size := by omega
  refine (l01Own_any _ V W0 w.heap.size (HV.out.below HB0.out) (by omega) (by omega)).mono ?_
  rintro e w1 ⟨v1, rfl, ho1, hb1⟩
  obtain ⟨A4, c4, rfl⟩ := ho1.form hVl
  have HW1 : Hid (OwnI w1 W0.heap.size w1.heap.size (.slice A4 n c4) (fnL (exN P S (fun x => V[x]?.getD 0) 1) n)) := Lib.hid (by
    rw [exN_one HO.out (by omega), fnL_self hVl]; exact ho1)
  have HB1 := Lib.hid hb1
  have hsz0 : w.heap.size + 1 ≤ W0.heap.size := by omega
  clear ho1 hb1 HZ0 hz0
  go_wp2_with fail
  go_loopw [6] (fun vi wr => ∃ (k : Nat), (1 ≤ k ∧ k ≤ n) ∧ vi = .int .i64 k ∧ Hid (OwnI wr W0.heap.size w1.heap.size (.slice A4 n c4) (fnL (exN P S (fun x => V[x]?.getD 0) k) n)) ∧ Hid (Below W0.heap.size W0 wr)) (fun vi _ => n - (intOf vi).toNat)
  case atStart => exact ⟨1, by omega, rfl, HW1, HB1⟩
  case round =>
    obtain ⟨k, hk, rfl, how, hb⟩ := hrel
    by_cases hkn : k < n
    · have hkn2 : (k : Int) < (n : Int) := by omega
      have HBW : Hid (Below w.heap.size w wr) := Lib.hid (HB0.out.trans (hb.out.mono HB0.out.size))
      have hX := HX.out.below hb.out
      have x0 := hX.c0; have x1 := hX.c1; have hxl := hX.lt
      have d0 := (HBW.out.cell (p := ⟨g0, o0 + k, none⟩) hg0).trans (H0.out k hkn)
      have d1 := (HBW.out.cell (p := ⟨g1, o1 + k, none⟩) hg1).trans (H1.out k hkn)
      have d3 := (HBW.out.cell (p := ⟨g3, o3 + k, none⟩) hg3).trans (H3.out k hkn)
      obtain ⟨p, hp, hpk, hs⟩ := nr_lt HO.out k hkn (by omega)
      have hsc := sec_lt HO.out hkn
      rw [hp] at d0
      have hwk := HWT.out k
      have HXR := Lib.hid (fun x => exB_rng (P := P) (S := S) HWT.out (show k ≤ 24 by omega) x)
      obtain ⟨X, hXe⟩ : ∃ X, exN P S (fun x => V[x]?.getD 0) k = X := ⟨_, rfl⟩
      have HXE := Lib.hid hXe
      rw [hXe] at how HXR
      obtain ⟨z, hz⟩ : ∃ z, V[k]?.getD 0 = z := ⟨_, rfl⟩
      have HZ := Lib.hid hz
      rw [hz] at d3 hwk
      obtain ⟨d, rfl, hd1, hd2, hcd, hfd⟩ := own_at how.out (fnL_len _ _) (show p < n by omega)
      rw [fnL_at (show p < n by omega)] at hcd
      have hxp := HXR.out p
      obtain ⟨y, hy⟩ : ∃ y, X p = y := ⟨_, rfl⟩
      rw [hy] at hcd hxp
      have hpn2 : (p : Int) < (n : Int) := by omega
      have p1 : IntKind.i64.wrap (y - z) = y - z := IntWalk.i64_in _ (by omega)
      have HNW : Hid (OwnI ((wr.setCell ⟨d, p, none⟩ (.int .i64 (y - z))).drew) W0.heap.size w1.heap.size (.slice (some ⟨d, 0, none⟩) n c4) (fnL (updF X p (-z)) n)) := Lib.hid (by
        have h6 := own_store (w := wr) (j := p) how.out (fnL_len X n) (y - z)
        rw [show y - z = X p + -z by rw [hy]; omega] at h6 ⊢
        rw [fnL_set (-z) (by omega)] at h6
        exact h6)
      have HBN : Hid (Below W0.heap.size W0 ((wr.setCell ⟨d, p, none⟩ (.int .i64 (y - z))).drew)) := Lib.hid ((hb.out.setCell (p := ⟨d, p, none⟩) hd1 _).drew)
      have HXU := Lib.hid (fun x => upd_rng (M := 8400000000000000000) (D := 170000000000000000) (d := -z) HXR.out (by omega) p x)
      have hgd0 : d ≠ g0 := by omega
      have hgd1 : d ≠ g1 := by omega
      have hgd3 : d ≠ g3 := by omega
      have hxd : w.heap.size ≠ d := by omega
      obtain ⟨wo, rfl⟩ : ∃ wo : World, wo = wr := ⟨_, rfl⟩
      clear hXe hy hz hX how
      rcases hsc with hs1 | ⟨_, p', s, hp', _, hs1, hsp, hnr⟩
      · have HNR : Hid (exN P S (fun x => V[x]?.getD 0) (k + 1) = updF X p (-z)) := Lib.hid (by
          rcases hs with ⟨_, h7⟩ | ⟨s, h7, _⟩
          · show stQ (exN P S (fun x => V[x]?.getD 0) k) (nrC P S k) (-(V[k]?.getD 0)) = _
            rw [h7, HXE.out, HZ.out]; rfl
          · omega)
        rw [hs1] at d1
        clear hs hs1 hp
        go_wp2_with fail
        go_still_tail 20, (by kernel_rfl)
        go_wp2_with fail
        go_roundw
        case rel => exact ⟨k + 1, by omega, by go_num, Lib.hid (by rw [HNR.out]; exact HNW.out), HBN⟩
        case measure => simp [intOf]; omega
      · have HNR : Hid (exN P S (fun x => V[x]?.getD 0) (k + 1) = updF (updF X p (-z)) s (-z)) := Lib.hid (by
          show stQ (exN P S (fun x => V[x]?.getD 0) k) (nrC P S k) (-(V[k]?.getD 0)) = _
          rw [hnr, HXE.out, HZ.out]
          have e : p' = p := by omega
          subst e
          rw [← stQ_swap, Int.toNat_natCast, Int.toNat_natCast])
        have HS1 := Lib.hid hs1
        rw [hs1] at d1
        have hsk : s < k := by omega
        have hsn2 : (s : Int) < (n : Int) := by omega
        have hs0 : (0 : Int) ≤ (s : Int) := by omega
        have HSP : Hid (s < n ∧ s ≠ p) := Lib.hid (by omega)
        clear hs hs1 hp hp'
        go_wp2_with fail
        go_still_tail 20, (by kernel_rfl)
        · go_wp2_with fail
          generalize (wo.setCell ⟨d, p, none⟩ (.int .i64 (y - z))).drew = W3 at *
          have HBW3 : Hid (Below w.heap.size w W3) := Lib.hid (HB0.out.trans (HBN.out.mono HB0.out.size))
          have hX3 := HX.out.below HBN.out
          have x13 := hX3.c1; have hxl3 := hX3.lt
          have d13 := (HBW3.out.cell (p := ⟨g1, o1 + k, none⟩) hg1).trans (H1.out k hkn)
          have d33 := (HBW3.out.cell (p := ⟨g3, o3 + k, none⟩) hg3).trans (H3.out k hkn)
          rw [HS1.out] at d13
          rw [HZ.out] at d33
          obtain ⟨d', e', _, _, hcd3, hfd3⟩ := own_at HNW.out (fnL_len _ _) HSP.out.1
          simp only [Option.some.injEq, Addr.mk.injEq, and_true] at e'
          subst e'
          rw [fnL_at HSP.out.1] at hcd3
          have hxs := HXU.out s
          have HSX : Hid (updF X p (-z) s = updF X p (-z) s) := Lib.hid rfl
          obtain ⟨y2, hy2⟩ : ∃ y, updF X p (-z) s = y := ⟨_, rfl⟩
          rw [hy2] at hcd3 hxs
          have p2 : IntKind.i64.wrap (y2 - z) = y2 - z := IntWalk.i64_in _ (by omega)
          have HNW2 : Hid (OwnI ((W3.setCell ⟨d, s, none⟩ (.int .i64 (y2 - z))).drew) W0.heap.size w1.heap.size (.slice (some ⟨d, 0, none⟩) n c4) (fnL (updF (updF X p (-z)) s (-z)) n)) := Lib.hid (by
            have h6 := own_store (w := W3) (j := s) HNW.out (fnL_len _ n) (y2 - z)
            rw [show y2 - z = updF X p (-z) s + -z by rw [hy2]; omega] at h6 ⊢
            rw [fnL_set (-z) HSP.out.1] at h6
            exact h6)
          have HBN2 : Hid (Below W0.heap.size W0 ((W3.setCell ⟨d, s, none⟩ (.int .i64 (y2 - z))).drew)) := Lib.hid ((HBN.out.setCell (p := ⟨d, s, none⟩) hd1 _).drew)
          clear hX3 hy2 x0 x1 d0 d1 d3 hcd hfd
          go_still_tail 20, (by kernel_rfl)
          · go_wp2_with fail
            go_roundw
            case rel => exact ⟨k + 1, by omega, by go_num, Lib.hid (by rw [HNR.out]; exact HNW2.out), HBN2⟩
            case measure => simp [intOf]; omega
    · obtain rfl : k = n := by omega
      go_wp2_with fail
      go_ret
      exact LAns.of (ecL_len _ _ _ _) (own_less (how.out.raise (by have := hb.out.size; have := own_size how.out; omega) (Nat.le_refl _)) HB0.out.size) (HB0.out.trans (hb.out.mono HB0.out.size))

set_option maxRecDepth 100000 in
set_option maxHeartbeats 4000000 in
theorem l08Least_any (a b c v : Value) (P S U V : List Int) (n : Nat) (w : World) (h : ReadC w w.heap.size a b c P S U) (hv : ReadI w w.heap.size v V) (hC : ClP P S n) (hV : V.length = n) (hW : BW V) :
    Calls Try.prog 168 #[.agg #[a, b, c], v] w fun e w' => e = .returned (.int .i64 (usP P S V n)) ∧ Below w.heap.size w w' := by
  have hn := hC.hi
  have hn1 := hC.lo
  obtain ⟨W0, HE⟩ : ∃ X, X = w.alloc (.cells #[a, b, c] 36) := ⟨_, rfl⟩
  have hb0 : Below w.heap.size w W0 := by rw [HE]; exact below_box2 _ _
  have hx : CBox W0 w.heap.size a b c := by rw [HE]; exact CBox.new _ _ _ _ _
  have HR := Lib.hid ((h.below hb0).more hb0.size)
  have HV := Lib.hid ((hv.below hb0).more hb0.size)
  have HB := Lib.hid hb0
  have HEQ := Lib.hid HE
  have HC := Lib.hid hC
  have HBW := Lib.hid hW
  have hVl := hV
  have x0 := hx.c0; have x1 := hx.c1; have x2 := hx.c2
  clear h hv hb0 hx HE hC hV hW
  go_enter Try.func168, Try.ntmps168
  go_wp2_with fail
  rw [← HEQ.out]
  refine (l07ExcessB_any a b c v P S U V n W0 HR.out HV.out HC.out hVl HBW.out).mono ?_
  rintro e w1 ⟨A1, c1, rfl, ho1, hb1⟩
  have HB1 := Lib.hid (HB.out.trans (hb1.mono HB.out.size))
  rw [ecL_len] at ho1 ⊢
  have HO1 := Lib.hid ho1
  have HL : Hid ((ecL P S V n).length = n) := Lib.hid (ecL_len _ _ _ _)
  have HUP : Hid (usP P S V n = lsI (fun x => (ecL P S V n)[x]?.getD 0) n) := Lib.hid rfl
  obtain ⟨E, hE⟩ : ∃ E, ecL P S V n = E := ⟨_, rfl⟩
  rw [hE] at HO1 HL HUP
  have HA0 : Hid (∀ i, i < 0 → 0 ≤ E[i]?.getD 0) := Lib.hid fun i hi => by omega
  clear ho1 hb1 x0 x1 x2 HEQ hE
  go_wp2_with fail
  go_loop [6] (fun vi => ∃ (k : Nat), k ≤ n ∧ vi = .int .i64 k ∧ Hid (∀ i, i < k → 0 ≤ E[i]?.getD 0)) (fun vi => n - (intOf vi).toNat)
  case atStart => exact ⟨0, by omega, rfl, HA0⟩
  case round =>
    obtain ⟨k, hk, rfl, HA⟩ := hrel
    by_cases hkn : k < n
    · have hkn2 : (k : Int) < (n : Int) := by omega
      obtain ⟨d, rfl, _, _, hcd, _⟩ := own_at HO1.out HL.out hkn
      obtain ⟨z, hz⟩ : ∃ z, E[k]?.getD 0 = z := ⟨_, rfl⟩
      have HZ := Lib.hid hz
      rw [hz] at hcd
      clear hz
      by_cases hzn : z < 0
      · have HF : Hid (usP P S V n = (k : Int)) := Lib.hid (by rw [HUP.out]; exact lsI_at (by show E[k]?.getD 0 < 0; rw [HZ.out]; exact hzn) (fun i hi => HA.out i hi) hkn)
        go_wp2_with fail
        go_ret
        exact ⟨by rw [HF.out]; rfl, HB1.out⟩
      · have HA1 : Hid (∀ i, i < k + 1 → 0 ≤ E[i]?.getD 0) := Lib.hid fun i hi => by
          by_cases e : i = k
          · subst e; rw [HZ.out]; omega
          · exact HA.out i (by omega)
        go_wp2_with fail
        go_round
        case rel => exact ⟨k + 1, by omega, by go_num, HA1⟩
        case measure => simp [intOf]; omega
    · obtain rfl : k = n := by omega
      have HF : Hid (usP P S V k = -1) := Lib.hid (by rw [HUP.out]; exact lsI_no fun i hi => HA.out i hi)
      go_wp2_with fail
      go_ret
      exact ⟨by rw [HF.out]; rfl, HB1.out⟩

/-- The weights on the way: with s more at p, and s less at the points before k that are proximate to p. -/
def uJ (P S : List Int) (V : Nat → Int) (p : Nat) (s : Int) (k x : Nat) : Int := V x + (if x = p then s else 0) - (if x < k then cnQ (nrC P S x) p * s else 0)
theorem uJ_yes {P S : List Int} {V : Nat → Int} {p k : Nat} {s : Int} (h : cnQ (nrC P S k) p = 1) : (fun x => if x = k then uJ P S V p s k k - s else uJ P S V p s k x) = uJ P S V p s (k + 1) := by
  funext x; unfold uJ
  by_cases e : x = k
  · subst e; rw [if_pos rfl, if_neg (Nat.lt_irrefl _), if_pos (show x < x + 1 by omega), h]; omega
  · rw [if_neg e]
    by_cases h2 : x < k
    · rw [if_pos h2, if_pos (show x < k + 1 by omega)]
    · rw [if_neg h2, if_neg (show ¬ x < k + 1 by omega)]
theorem uJ_no {P S : List Int} {V : Nat → Int} {p k : Nat} {s : Int} (h : cnQ (nrC P S k) p = 0) : uJ P S V p s k = uJ P S V p s (k + 1) := by
  funext x; unfold uJ
  by_cases e : x = k
  · subst e; rw [if_neg (Nat.lt_irrefl _), if_pos (show x < x + 1 by omega), h]; omega
  · by_cases h2 : x < k
    · rw [if_pos h2, if_pos (show x < k + 1 by omega)]
    · rw [if_neg h2, if_neg (show ¬ x < k + 1 by omega)]
theorem uJ_zero (P S : List Int) (V : Nat → Int) (p : Nat) (s : Int) : uJ P S V p s 0 = updF V p s := by
  funext x; unfold uJ updF
  by_cases e : x = p
  · rw [if_pos e, if_pos e]; simp
  · rw [if_neg e, if_neg e]; simp
theorem uJ_end {P S V : List Int} {n p : Nat} (hp : p < n) : fnL (uJ P S (fun x => V[x]?.getD 0) p (usS P S V n p) n) n = usL P S V n p := fnL_congr fun x hx => by
  unfold uJ pfE
  dsimp only
  rw [if_pos hx]
  by_cases e : x = p
  · rw [if_pos e, if_pos e, Int.sub_mul]; omega
  · rw [if_neg e, if_neg e, Int.sub_mul]; omega
theorem uJ_rng {P S : List Int} {V : Nat → Int} {n p k x : Nat} {s : Int} (h : okAll P S n = true) (hx : x < n) (hV : -170000000000000000 ≤ V x ∧ V x ≤ 170000000000000000) (hs : 0 ≤ s ∧ s ≤ 1000000000000000000) : -1500000000000000000 ≤ uJ P S V p s k x ∧ uJ P S V p s k x ≤ 1500000000000000000 := by
  unfold uJ
  rw [cn_le h hx]
  split <;> split <;> (try split) <;> omega
def hcN (P S : List Int) (p k : Nat) : Int := sgC (fun j => cnQ (nrC P S j) p) k
theorem hcN_next (P S : List Int) (p k : Nat) : hcN P S p (k + 1) = hcN P S p k + cnQ (nrC P S k) p := rfl
theorem hcN_rng {P S : List Int} {n p k : Nat} (h : okAll P S n = true) (hk : k ≤ n) : 0 ≤ hcN P S p k ∧ hcN P S p k ≤ k := by
  refine ⟨sgC_nn fun i _ => cnQ_nn _ _, ?_⟩
  have := (sgC_le (b := 1) (n := k) (F := fun j => cnQ (nrC P S j) p) (fun i hi => by
    rw [cn_le h (by omega)]; split <;> omega)).2
  unfold hcN; omega

set_option maxRecDepth 100000 in
set_option maxHeartbeats 4000000 in
theorem l08Step_any (a b c v : Value) (P S U V : List Int) (n : Nat) (w : World) (h : ReadC w w.heap.size a b c P S U) (hv : ReadI w w.heap.size v V) (hC : ClP P S n) (hV : V.length = n) (hW : BW V) (p : Nat) (hp : p < n) (hs : 0 ≤ usS P S V n p ∧ usS P S V n p ≤ 1000000000000000000) (he : exN P S (fun x => V[x]?.getD 0) n p < 0) :
    Calls Try.prog 169 #[.agg #[a, b, c], v, .int .i64 p] w (LAns w (usL P S V n p)) := by
  have hn := hC.hi
  have hn1 := hC.lo
  obtain ⟨h0, h1, h2⟩ := id h
  obtain ⟨A0, c0, rfl, _, _, hc0, _, hm0⟩ := id h0
  obtain ⟨A1, c1, rfl, _, _, hc1, _, hm1⟩ := id h1
  obtain ⟨A2, c2, rfl, _⟩ := id h2
  rw [hC.p] at h0 hc0
  rw [hC.s] at h1 hc1
  obtain ⟨n2, hn2⟩ : ∃ x, U.length = x := ⟨_, rfl⟩
  obtain ⟨g0, o0, rfl, H0, hg0⟩ := cells_ofC h0 hC.p hn1
  obtain ⟨g1, o1, rfl, H1, hg1⟩ := cells_ofC h1 hC.s hn1
  rw [hC.p, hC.s, hn2] at h ⊢
  obtain ⟨W0, HE⟩ : ∃ X, X = w.alloc (.cells #[.slice (some ⟨g0, o0, none⟩) n c0, .slice (some ⟨g1, o1, none⟩) n c1, .slice A2 n2 c2] 36) := ⟨_, rfl⟩
  have hb0 : Below w.heap.size w W0 := by rw [HE]; exact below_box2 _ _
  have hx : CBox W0 w.heap.size (.slice (some ⟨g0, o0, none⟩) n c0) (.slice (some ⟨g1, o1, none⟩) n c1) (.slice A2 n2 c2) := by rw [HE]; exact CBox.new _ _ _ _ _
  have HR := Lib.hid ((h.below hb0).more hb0.size)
  have HV := Lib.hid ((hv.below hb0).more hb0.size)
  have HB := Lib.hid hb0
  have HZ0 : Hid (W0.heap.size = w.heap.size + 1) := Lib.hid (by rw [HE]; simp)
  have HEQ := Lib.hid HE
  have HC := Lib.hid hC
  have HBW := Lib.hid hW
  have HX := Lib.hid hx
  have HSS := Lib.hid hs
  have HME := Lib.hid (me_self hC.ok hp)
  have HUS : Hid (usS P S V n p = qtI (-(exN P S (fun x => V[x]?.getD 0) n p)) (1 + hcN P S p n)) := Lib.hid (by unfold usS; rw [me_self hC.ok hp]; rfl)
  have hex := exB_rng (P := P) (S := S) hW hn p
  have hVl := hV
  obtain ⟨nv, Av, cv, rfl, _⟩ := hv.split2
  have hnv : nv = n := by
    obtain ⟨A', c', e', _⟩ := id hv
    cases e'; exact hVl
  subst hnv
  have hpn2 : (p : Int) < (nv : Int) := by omega
  have hxl := hx.lt
  clear h hv hb0 hx HE hC hV hW h0 h1 h2 hn2 hs
  go_enter Try.func169, Try.ntmps169
  go_wp2_with fail
  rw [← HEQ.out]
  refine (l01Own_any _ V W0 W0.heap.size HV.out (by omega) (Nat.le_refl _)).mono ?_
  rintro e w1 ⟨v1, rfl, ho1, hb1⟩
  obtain ⟨A4, c4, rfl⟩ := ho1.form hVl
  have HO1 := Lib.hid ho1
  have HB1 := Lib.hid hb1
  have HR1 := Lib.hid ((HR.out.below hb1).more hb1.size)
  have HV1 := Lib.hid ((HV.out.below hb1).more hb1.size)
  have hX1 := HX.out.below hb1
  have y0 := hX1.c0; have y1 := hX1.c1; have y2 := hX1.c2
  have HX1 := Lib.hid hX1
  clear ho1 hb1 hX1 HEQ
  go_wp2_with fail
  refine (l07ExcessB_any _ _ _ _ P S U V nv w1 HR1.out HV1.out HC.out hVl HBW.out).mono ?_
  rintro e w2 ⟨A5, c5, rfl, ho2, hb2⟩
  rw [ecL_len] at ho2 ⊢
  obtain ⟨d5, rfl, hd51, hd52, hce, _⟩ := own_at ho2 (ecL_len _ _ _ _) hp
  rw [ecL_at hp] at hce
  have HB2 := Lib.hid (HB1.out.trans (hb2.mono HB1.out.size))
  have HO2 := Lib.hid (HO1.out.stay hb2)
  have HX2 := Lib.hid (HX1.out.below hb2)
  obtain ⟨ee, hee⟩ : ∃ x, exN P S (fun x => V[x]?.getD 0) nv p = x := ⟨_, rfl⟩
  rw [hee] at hce he hex HUS
  have hpc : (0 : Int) ≤ (p : Int) := by omega
  have HH0 : Hid (hcN P S p 0 = 0) := Lib.hid rfl
  have HBR : Hid (Below w2.heap.size w2 w2) := Lib.hid (Below.refl _ _)
  clear ho2 hb2 hee y0 y1 y2
  go_wp2_with fail
  go_loopw [8, 10] (fun vh vj wr => ∃ (j : Nat), j ≤ nv ∧ vh = .int .i64 (hcN P S p j) ∧ vj = .int .i64 j ∧ Hid (Below w2.heap.size w2 wr)) (fun _ vj _ => nv - (intOf vj).toNat)
  case atStart => exact ⟨0, by omega, by rw [HH0.out], rfl, HBR⟩
  case round =>
    obtain ⟨j, hj, rfl, rfl, hb⟩ := hrel
    have HBW2 : Hid (Below W0.heap.size W0 wr) := Lib.hid (HB2.out.trans (hb.out.mono HB2.out.size))
    have hX := HX2.out.below hb.out
    have u0 := hX.c0; have u1 := hX.c1; have u2 := hX.c2
    have hhr := hcN_rng (p := p) HC.out.ok hj
    by_cases hjn : j < nv
    · have hjn2 : (j : Int) < (nv : Int) := by omega
      have e0 := (HBW2.out.cell (p := ⟨g0, o0 + j, none⟩) (by show g0 < _; have := HZ0.out; omega)).trans ((HB.out.cell (p := ⟨g0, o0 + j, none⟩) hg0).trans (H0.out j hjn))
      have e1 := (HBW2.out.cell (p := ⟨g1, o1 + j, none⟩) (by show g1 < _; have := HZ0.out; omega)).trans ((HB.out.cell (p := ⟨g1, o1 + j, none⟩) hg1).trans (H1.out j hjn))
      have hws := HBW2.out.size
      have hz0 := HZ0.out
      have hgw0 : g0 < wr.heap.size := by omega
      have hgw1 : g1 < wr.heap.size := by omega
      have hnm := near_math HC.out.ok hjn (show (0 : Int) ≤ (p : Int) by omega)
      have hcn := cn_le (k := p) HC.out.ok hjn
      obtain ⟨bb, hbb⟩ : ∃ x, (nrC P S j).contains (p : Int) = x := ⟨_, rfl⟩
      rw [hbb] at hnm hcn
      have HNX := Lib.hid (hcN_next P S p j)
      have HNM := Lib.hid hnm
      rw [hcn] at HNX
      obtain ⟨hh, hhe⟩ : ∃ x, hcN P S p j = x := ⟨_, rfl⟩
      rw [hhe] at hhr HNX ⊢
      clear hbb hnm hcn hX hz0 hws hhe
      go_wp2_with fail
      refine (near_any g0 o0 nv c0 g1 o1 c1 (P[j]?.getD 0) (S[j]?.getD 0) p j wr hjn (by omega) e0 e1 hgw0 hgw1 A2 n2 c2 bb (by omega) HNM.out).mono ?_
      rintro e w3 ⟨rfl, hb3⟩
      have HB3 : Hid (Below w2.heap.size w2 w3) := Lib.hid (hb.out.trans (hb3.mono hb.out.size))
      clear hb3 e0 e1 u0 u1 u2
      cases bb
      · go_wp2_with fail
        go_roundw
        case rel => exact ⟨j + 1, by omega, by rw [HNX.out]; simp, by go_num, HB3⟩
        case measure => simp [intOf]; omega
      · have p1 : IntKind.i64.wrap (hh + 1) = hh + 1 := IntWalk.i64_in _ (by omega)
        go_wp2_with fail
        go_roundw
        case rel => exact ⟨j + 1, by omega, by rw [HNX.out]; simp, by go_num, HB3⟩
        case measure => simp [intOf]; omega
    · obtain rfl : j = nv := by omega
      have hjj : ¬ (j : Int) < (j : Int) := by omega
      obtain ⟨hh, hhe⟩ : ∃ x, hcN P S p j = x := ⟨_, rfl⟩
      rw [hhe] at hhr HUS ⊢
      have hss := HSS.out
      rw [HUS.out] at hss
      have p1 : IntKind.i64.wrap (-ee) = -ee := IntWalk.i64_in _ (by omega)
      have p2 : IntKind.i64.wrap (-ee + hh) = -ee + hh := IntWalk.i64_in _ (by omega)
      have p3 : IntKind.i64.wrap (1 + hh) = 1 + hh := IntWalk.i64_in _ (by omega)
      have hq : Int.tdiv (-ee + hh) (1 + hh) = qtI (-ee) (1 + hh) := by
        rw [Int.tdiv_eq_ediv_of_nonneg (by omega)]
        unfold qtI
        congr 1; omega
      have hz : ¬ (1 + hh) = 0 := by omega
      have hzb : ((1 + hh) == 0) = false := by simpa using hz
      have p4 : IntKind.i64.wrap (Int.tdiv (-ee + hh) (1 + hh)) = qtI (-ee) (1 + hh) := by rw [hq]; exact IntWalk.i64_in _ (by omega)
      obtain ⟨s, hse⟩ : ∃ x, qtI (-ee) (1 + hh) = x := ⟨_, rfl⟩
      rw [hse] at hss HUS p4 hq
      have HOW : Hid (OwnI wr W0.heap.size w1.heap.size (.slice A4 j c4) V) := Lib.hid (HO2.out.stay hb.out)
      obtain ⟨d, rfl, hd1, hd2, hcd, hfd⟩ := own_at HOW.out hVl hp
      have hvp := HBW.out p
      obtain ⟨y, hy⟩ : ∃ y, V[p]?.getD 0 = y := ⟨_, rfl⟩
      rw [hy] at hcd hvp
      have p5 : IntKind.i64.wrap (y + s) = y + s := IntWalk.i64_in _ (by omega)
      obtain ⟨W3, hW3⟩ : ∃ X, X = (wr.setCell ⟨d, p, none⟩ (.int .i64 (y + s))) := ⟨_, rfl⟩
      have HW3 : Hid (OwnI W3 W0.heap.size w1.heap.size (.slice (some ⟨d, 0, none⟩) j c4) (fnL (uJ P S (fun x => V[x]?.getD 0) p s 0) j)) := Lib.hid (by
        have h6 := own_store (w := wr) (j := p) HOW.out hVl (y + s)
        rw [uJ_zero, hW3]
        have h7 : V.set p (y + s) = fnL (updF (fun x => V[x]?.getD 0) p s) j := by
          rw [← fnL_set s hp, fnL_self hVl, hy]
        rw [h7] at h6
        exact h6)
      have HK3 : Hid (Below W0.heap.size W0 W3) := Lib.hid (by rw [hW3]; exact HBW2.out.setCell (p := ⟨d, p, none⟩) hd1 _)
      have HX3 : Hid (CBox W3 w.heap.size (.slice (some ⟨g0, o0, none⟩) j c0) (.slice (some ⟨g1, o1, none⟩) j c1) (.slice A2 n2 c2)) := Lib.hid (HX.out.below HK3.out)
      have HEQ3 := Lib.hid hW3
      have hpj2 : (p : Int) < (j : Int) := by omega
      clear hX hhe hse hy u0 u1 u2 hW3 HB2 HO2
      go_wp2_with fail
      rw [← HEQ3.out]
      go_loopw [12] (fun vj wr => ∃ (k : Nat), k ≤ j ∧ vj = .int .i64 k ∧ Hid (OwnI wr W0.heap.size w1.heap.size (.slice (some ⟨d, 0, none⟩) j c4) (fnL (uJ P S (fun x => V[x]?.getD 0) p s k) j)) ∧ Hid (Below W0.heap.size W0 wr)) (fun vj _ => j - (intOf vj).toNat)
      case atStart => exact ⟨0, by omega, rfl, HW3, HK3⟩
      case round =>
        obtain ⟨k, hk, rfl, how, hb⟩ := hrel
        by_cases hkn : k < j
        · have hkn2 : (k : Int) < (j : Int) := by omega
          have hX := HX.out.below hb.out
          have u0 := hX.c0; have u1 := hX.c1; have u2 := hX.c2
          have e0 := (hb.out.cell (p := ⟨g0, o0 + k, none⟩) (by show g0 < _; have := HZ0.out; omega)).trans ((HB.out.cell (p := ⟨g0, o0 + k, none⟩) hg0).trans (H0.out k hkn))
          have e1 := (hb.out.cell (p := ⟨g1, o1 + k, none⟩) (by show g1 < _; have := HZ0.out; omega)).trans ((HB.out.cell (p := ⟨g1, o1 + k, none⟩) hg1).trans (H1.out k hkn))
          have hws := hb.out.size
          have hz0 := HZ0.out
          have hgw0 : g0 < wr.heap.size := by omega
          have hgw1 : g1 < wr.heap.size := by omega
          have hnm := near_math HC.out.ok hkn (show (0 : Int) ≤ (p : Int) by omega)
          have hcn := cn_le (k := p) HC.out.ok hkn
          obtain ⟨bb, hbb⟩ : ∃ x, (nrC P S k).contains (p : Int) = x := ⟨_, rfl⟩
          rw [hbb] at hnm hcn
          have HNM := Lib.hid hnm
          have HCN := Lib.hid hcn
          have HOS := Lib.hid (own_size how.out)
          clear hbb hnm hcn hX hz0
          go_wp2_with fail
          refine (near_any g0 o0 j c0 g1 o1 c1 (P[k]?.getD 0) (S[k]?.getD 0) p k wr hkn (by omega) e0 e1 hgw0 hgw1 A2 n2 c2 bb (by omega) HNM.out).mono ?_
          rintro e w3 ⟨rfl, hb3⟩
          have HB3 : Hid (Below W0.heap.size W0 w3) := Lib.hid (hb.out.trans (hb3.mono hws))
          have HO3 : Hid (OwnI w3 W0.heap.size w1.heap.size (.slice (some ⟨d, 0, none⟩) j c4) (fnL (uJ P S (fun x => V[x]?.getD 0) p s k) j)) := Lib.hid (how.out.stay hb3)
          clear hb3 e0 e1 u0 u1 u2 how hb
          cases bb
          · have HN2 := Lib.hid (uJ_no (V := fun x => V[x]?.getD 0) (s := s) (show cnQ (nrC P S k) p = 0 by rw [HCN.out]; rfl))
            go_wp2_with fail
            go_roundw
            case rel => exact ⟨k + 1, by omega, by go_num, Lib.hid (by rw [← HN2.out]; exact HO3.out), HB3⟩
            case measure => simp [intOf]; omega
          · have HN2 := Lib.hid (uJ_yes (V := fun x => V[x]?.getD 0) (s := s) (show cnQ (nrC P S k) p = 1 by rw [HCN.out]; rfl))
            obtain ⟨d', e', hq1, hq2, hcd2, hfd2⟩ := own_at HO3.out (fnL_len _ _) hkn
            simp only [Option.some.injEq, Addr.mk.injEq, and_true] at e'
            subst e'
            rw [fnL_at hkn] at hcd2
            have hur := uJ_rng (V := fun x => V[x]?.getD 0) (p := p) (k := k) HC.out.ok hkn (HBW.out k) hss
            obtain ⟨y2, hy2⟩ : ∃ y, uJ P S (fun x => V[x]?.getD 0) p s k k = y := ⟨_, rfl⟩
            rw [hy2] at hcd2 hur HN2
            have p6 : IntKind.i64.wrap (y2 - s) = y2 - s := IntWalk.i64_in _ (by omega)
            have HNW : Hid (OwnI (w3.setCell ⟨d, k, none⟩ (.int .i64 (y2 - s))) W0.heap.size w1.heap.size (.slice (some ⟨d, 0, none⟩) j c4) (fnL (uJ P S (fun x => V[x]?.getD 0) p s (k + 1)) j)) := Lib.hid (by
              have h6 := own_store (w := w3) (j := k) HO3.out (fnL_len _ j) (y2 - s)
              rw [fnL_put, HN2.out] at h6
              exact h6)
            have HBN : Hid (Below W0.heap.size W0 (w3.setCell ⟨d, k, none⟩ (.int .i64 (y2 - s)))) := Lib.hid (HB3.out.setCell (p := ⟨d, k, none⟩) hq1 _)
            clear hy2 hcd hfd
            go_wp2_with fail
            go_roundw
            case rel => exact ⟨k + 1, by omega, by go_num, HNW, HBN⟩
            case measure => simp [intOf]; omega
        · obtain rfl : k = j := by omega
          go_wp2_with fail
          go_ret
          have h6 := how.out
          rw [← HUS.out, uJ_end hp] at h6
          exact LAns.of (usL_len _ _ _ _ _) (own_less (h6.raise (own_size h6) (Nat.le_refl _)) HB.out.size) (HB.out.trans (hb.out.mono HB.out.size))

end Go.Proofs.Ytohbgfmjnanlkaa
