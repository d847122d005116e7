/- Generators of a branch, the model's: contract of spec.l05Generators. Conditions: stated at the theorem. -/
import Derived.Test.YtncgkoanckefmaaGnI
import Derived.Test.YtncgkoanckefmaaBrV
import Derived.Test.YtncgkoanckefmaaPrL
import Derived.Deep.DeepCutAuto
namespace Go.Proofs.Ytncgkoanckefmaa
open Go.ChangeShapes Go.WideShapes Go.ChangeAt Go.RowKit Go.Deep
set_option linter.unusedVariables false
set_option linter.unusedSimpArgs false

theorem kept_grown {w a w2 : World} {lo hi : Nat} {row : Option Nat} (h : Kept lo hi w a) (hg : a.drew.grownBy w2 row) (hs : hi ≤ a.heap.size) (hn : ∀ b, lo ≤ b → b < hi → some b ≠ row) : Kept lo hi w w2 :=
  h.trans ⟨hg.size, fun b h1 h2 => hg.block b (Nat.lt_of_lt_of_le h2 hs) (hn b h1 h2)⟩
theorem kept_one {d : Nat} {row : Option Nat} (h : some d ≠ row) : ∀ b, d ≤ b → b < d + 1 → some b ≠ row := fun b h1 h2 => by
  obtain rfl : b = d := by omega
  exact h
theorem kept_grown2 {w a w2 : World} {lo hi : Nat} {row : Option Nat} (h : Kept lo hi w a) (hg : a.grownBy w2 row) (hs : hi ≤ a.heap.size) (hn : ∀ b, lo ≤ b → b < hi → some b ≠ row) : Kept lo hi w w2 :=
  h.trans ⟨hg.size, fun b h1 h2 => hg.block b (Nat.lt_of_lt_of_le h2 hs) (hn b h1 h2)⟩
/-- What the first statement leaves: the divisors in a block of their own, the first number in another one. -/
def GnCut (W0 : World) (zs : List Int) (n : Nat) (z0 : Int) (wc : World) (s3 s4 : Value) : Prop :=
  ∃ d c1 g4, s3 = .slice (some ⟨d, 0, none⟩) n c1 ∧ s4 = .slice (some ⟨g4, 0, none⟩) 1 1 ∧ OwnI wc d (d + 1) (.slice (some ⟨d, 0, none⟩) n c1) (dvL 0 zs) ∧ OwnI wc W0.heap.size wc.heap.size (.slice (some ⟨g4, 0, none⟩) 1 1) [z0] ∧ g4 ≠ d ∧ d < wc.heap.size ∧ Below W0.heap.size W0 wc
theorem own_tight {w : World} {lo hi n c d : Nat} {zs : List Int} (h : OwnI w lo hi (.slice (some ⟨d, 0, none⟩) n c) zs) (hd : d < w.heap.size) : OwnI w d (d + 1) (.slice (some ⟨d, 0, none⟩) n c) zs := by
  obtain ⟨⟨h0, h1⟩, h2, h3⟩ := h
  refine ⟨⟨h0, ?_⟩, fun k hk => by (simp [Value.ownBlock] at hk; omega), by omega⟩
  rcases h1 with ⟨e, _⟩ | ⟨g, cap, cur, e, hb, rest⟩
  · cases e
  · simp only [Value.slice.injEq, Option.some.injEq, Addr.mk.injEq] at e
    obtain ⟨⟨rfl, _⟩, rfl, rfl⟩ := e
    exact .inr ⟨d, c, cur, rfl, Nat.le_refl _, rest⟩
theorem one_lit (w : World) (lo : Nat) (z0 : Int) (hlo : lo ≤ w.heap.size) : OwnI (w.alloc (.cells #[.int .i64 z0] 2)) lo (w.alloc (.cells #[.int .i64 z0] 2)).heap.size (.slice (some ⟨w.heap.size, 0, none⟩) 1 1) [z0] :=
  OwnI.mk' (n := 1) (World.ownsRow_lit w #[.int .i64 z0] 1 hlo (by simp [maxLen]) rfl)
theorem gnCut_a (W0 W1 : World) {zs : List Int} {n d c1 : Nat} {z0 : Int} (ho : OwnI W1 W0.drew.heap.size W1.heap.size (.slice (some ⟨d, 0, none⟩) n c1) (dvL 0 zs)) (h1 : W0.drew.heap.size ≤ d) (h2 : d < W1.heap.size) (hl : (dvL 0 zs).length = n) (hb : Below W0.drew.heap.size W0.drew W1) :
    GnCut W0 zs n z0 (W1.alloc (.cells #[.int .i64 z0] 2)) (.slice (some ⟨d, 0, none⟩) n c1) (.slice (some ⟨W1.heap.size, 0, none⟩) 1 1) := by
  have hs : W0.heap.size ≤ W1.heap.size := hb.size
  refine ⟨d, c1, W1.heap.size, rfl, rfl, (own_tight ho h2).kept (kept_box _ _ _ _ (by omega)), one_lit W1 _ z0 hs, by omega, by simp; omega, ?_⟩
  have hb' : Below W0.heap.size W0 W1 := ⟨hb.os, hb.tape, hb.output, hb.size, hb.block⟩
  exact hb'.alloc hs _
theorem gnCut_b (W0 W1 : World) {zs : List Int} {n d c1 lo hi : Nat} {z0 : Int} (ho : OwnI W1 lo hi (.slice (some ⟨d, 0, none⟩) n c1) (dvL 0 zs)) (h1 : W0.heap.size + 1 ≤ d) (h2 : d < W1.heap.size) (hl : (dvL 0 zs).length = n) (hb : Below (W0.heap.size + 1) (W0.alloc (.cells #[.int .i64 z0] 2)).drew W1) :
    GnCut W0 zs n z0 W1 (.slice (some ⟨d, 0, none⟩) n c1) (.slice (some ⟨W0.heap.size, 0, none⟩) 1 1) := by
  have hb' : Below (W0.heap.size + 1) (W0.alloc (.cells #[.int .i64 z0] 2)) W1 := ⟨hb.os, hb.tape, hb.output, hb.size, hb.block⟩
  have hs : (W0.alloc (.cells #[.int .i64 z0] 2)).heap.size = W0.heap.size + 1 := by simp
  have o4 := one_lit W0 W0.heap.size z0 (Nat.le_refl _)
  rw [hs] at o4
  have o5 := o4.kept (Kept.of_below (lo := W0.heap.size) hb' (Nat.le_refl _))
  refine ⟨d, c1, W0.heap.size, rfl, rfl, own_tight ho h2, ?_, by omega, h2, ((below_box W0 _).trans (hb'.mono (by omega)))⟩
  exact OwnI.mk' (n := 1) o5.1

set_option maxRecDepth 100000 in
set_option maxHeartbeats 4000000 in
theorem l05Generators_any (v : Value) (zs : List Int) (w : World) (h : ReadI w w.heap.size v zs) (hn : zs.length ≤ 1048576) (hp : brB zs = true) :
    Calls Try.prog 86 #[.agg #[v]] w fun e w' => ∃ v', e = .returned v' ∧ OwnI w' w.heap.size w'.heap.size v' (gnB zs) ∧ Below w.heap.size w w' := by
  have hn0 := brB_pos hp
  have HP := Lib.hid hp
  have HZ := Lib.hid (dcB_range (brB_dcB hp))
  have HF1 := Lib.hid (br_first hp)
  have HNX := Lib.hid (fun k (h1 : k < zs.length) (h2 : 1 ≤ k) => br_next hp h1 h2)
  obtain ⟨n, A, c, rfl, hr, HL, HN, hnc, HF, hcm⟩ := h.split2
  rw [HL.out] at hn hn0
  obtain ⟨a, rfl, hlt, hc0⟩ := hr.2 0 hn0
  obtain ⟨g, o, rfl⟩ := HF.out a rfl
  have hgw : g < w.heap.size := hlt
  obtain ⟨W0, HE⟩ : ∃ W, W = w.alloc (.cells #[.slice (some ⟨g, o, none⟩) n c] 28) := ⟨_, rfl⟩
  have hb0 : Below w.heap.size w W0 := by rw [HE]; exact below_box2 _ _
  have hq0 : BoxI W0 w.heap.size (.slice (some ⟨g, o, none⟩) n c) := by rw [HE]; exact BoxI.new _ _ _
  have hs0 : w.heap.size < W0.heap.size := hq0.2
  have hgW : g < W0.heap.size := by omega
  have H0 := Lib.hid (hr.below hb0)
  have HR := Lib.hid ((h.below hb0).more hb0.size)
  have B0 := Lib.hid hb0
  have HEQ := Lib.hid HE
  have HLD : Hid ((dvL 0 zs).length = n) := Lib.hid (by rw [dvL_len, HL.out])
  have q0 := hq0.1
  have Q0 := Lib.hid q0
  have cz : W0.cell? ⟨g, o, none⟩ = some (.int .i64 (zs[0]?.getD 0)) := by
    have h2 : (⟨g, o, none⟩ : Addr).add 0 = ⟨g, o, none⟩ := by rw [add_lit]; rfl
    rw [h2] at hc0
    rw [hb0.cell (p := ⟨g, o, none⟩) hgw]; simpa using hc0
  have HDV := Lib.hid (fun i (hi : i < zs.length) => dv_at (e := 0) (zs := zs) (i := i) hi)
  have HST0 := GSt.start HF1.out.1 HF1.out.2
  have HST1 := Lib.hid (HST0.step (z := zs[0]?.getD 0) (by have := HF1.out; omega) HF1.out.1)
  have HG0 : Hid (gnB zs = [] ++ gnL (zs[0]?.getD 0) 0 (zs.drop 0)) := Lib.hid (by simp [gnB])
  have HG1 := Lib.hid (gn_step HL.out hn0 HG0.out)
  have HE1 : Hid ((Int.gcd (zs[0]?.getD 0) (zs[0]?.getD 0) : Int) = zs[0]?.getD 0) := Lib.hid (by have := HF1.out; rw [Int.gcd_self]; omega)
  have HE2 : Hid ((zs[0]?.getD 0).tdiv (Int.gcd (zs[0]?.getD 0) (zs[0]?.getD 0) : Int) * (zs[0]?.getD 0 + 0) - zs[0]?.getD 0 = 0) := Lib.hid (by rw [HE1.out, Int.tdiv_self (by have := HF1.out; omega)]; omega)
  have hzf := HF1.out
  obtain ⟨z0, hz00⟩ : ∃ z, zs[0]?.getD 0 = z := ⟨_, rfl⟩
  have HZ0 := Lib.hid hz00
  rw [HE2.out, HE1.out] at HST1 HG1
  rw [hz00] at cz hzf HST1 HG1
  clear h hr hp hb0 hq0 HE hc0 hlt hz00 HST0 HE1 HE2
  obtain ⟨i0, hi0, hy0, hy1, hy2⟩ := info_parts int_info
  go_enter Try.func86, Try.ntmps86
  go_upto_region 1 with fail
  rw [← HEQ.out]
  go_cut [3, 4] (fun s3 s4 wx => Hid (GnCut W0 zs n z0 wx s3 s4))
  case first =>
    refine wp_region_held_drew (S := fun w' => w'.cell? ⟨w.heap.size, 0, none⟩ = some (.slice (some ⟨g, o, none⟩) n c) ∧ w'.cell? ⟨g, o, none⟩ = some (.int .i64 z0)) (by kernel_rfl) ⟨q0, cz⟩ (fun hHeld => ?_)
    refine takeY 0 _ (v := ?_) rfl rfl (by kernel_rfl) (by kernel_rfl) (by kernel_rfl) (fun _ _ _ h => h) (by kernel_rfl) ?_ (by assumption) ?_
    rotate_left 1
    · intro w hSw; (try dsimp only at hSw); go_simp; (try with_reducible rfl)
    try simp only [Act.put, List.setIfInBounds_toArray, List.set_cons_zero, List.set_cons_succ]
    refine takeY 2 _ (v := ?_) rfl rfl (by kernel_rfl) (by kernel_rfl) (by kernel_rfl) (fun _ _ _ h => h) (by kernel_rfl) ?_ (by assumption) ?_
    rotate_left 1
    · intro w hSw; (try dsimp only at hSw); go_simp; (try with_reducible rfl)
    try simp only [Act.put, List.setIfInBounds_toArray, List.set_cons_zero, List.set_cons_succ]
    refine takeY 3 _ (v := ?_) rfl rfl (by kernel_rfl) (by kernel_rfl) (by kernel_rfl) (fun _ _ _ h => h) (by kernel_rfl) ?_ (by assumption) ?_
    rotate_left 1
    · intro w hSw; (try dsimp only at hSw); go_simp; (try with_reducible rfl)
    try simp only [Act.put, List.setIfInBounds_toArray, List.set_cons_zero, List.set_cons_succ]
    refine takeY 4 _ (v := ?_) rfl rfl (by kernel_rfl) (by kernel_rfl) (by kernel_rfl) (fun _ _ _ h => h) (by kernel_rfl) ?_ (by assumption) ?_
    rotate_left 1
    · intro w hSw; (try dsimp only at hSw); go_simp; (try with_reducible rfl)
    try simp only [Act.put, List.setIfInBounds_toArray, List.set_cons_zero, List.set_cons_succ]
    refine takeY 5 _ (v := ?_) rfl rfl (by kernel_rfl) (by kernel_rfl) (by kernel_rfl) (fun _ _ _ h => h) (by kernel_rfl) ?_ (by assumption) ?_
    rotate_left 1
    · intro w hSw; (try dsimp only at hSw); go_simp; (try with_reducible rfl)
    try simp only [Act.put, List.setIfInBounds_toArray, List.set_cons_zero, List.set_cons_succ]
    refine wpAnyH_ready (rs := [1, 6]) (by kernel_rfl) (by simp) ?_
    refine AllReadyH.cons rfl (fun K hK => ?_) (AllReadyH.cons rfl (fun K hK => ?_) AllReadyH.nil)
    · go_simp
      refine (l03Divisors_any _ zs W0.drew HR.out (by rw [HL.out]; exact hn) HP.out).mono ?_
      rintro e W1 ⟨v1, rfl, ho1, hb1⟩
      obtain ⟨A1, c1, rfl⟩ := ho1.form HLD.out
      obtain ⟨d, e1, hd1, hd2, _, _⟩ := own_at ho1 HLD.out hn0
      cases e1
      have hs1 : W0.heap.size ≤ W1.heap.size := hb1.size
      have q1 := (hb1.cell (p := ⟨w.heap.size, 0, none⟩) hs0).trans q0
      have cz1 := (hb1.cell (p := ⟨g, o, none⟩) hgW).trans cz
      refine hK.out _ (W1) ⟨q1, cz1⟩ (fun hHeld => ?_)
      clear hK K
      try simp only [Act.put, List.setIfInBounds_toArray, List.set_cons_zero, List.set_cons_succ]
      refine takeY 7 _ (v := ?_) rfl rfl (by kernel_rfl) (by kernel_rfl) (by kernel_rfl) (fun _ _ _ h => h) (by kernel_rfl) ?_ (by assumption) ?_
      rotate_left 1
      · intro w hSw; (try dsimp only at hSw); go_simp; (try with_reducible rfl)
      try simp only [Act.put, List.setIfInBounds_toArray, List.set_cons_zero, List.set_cons_succ]
      refine wpAnyH_ready (rs := [6]) (by kernel_rfl) (by simp) ?_
      refine AllReadyH.cons rfl (fun K hK => ?_) AllReadyH.nil
      go_simp
      have hw1 : w.heap.size < W1.heap.size := by omega
      have hg1 : g < W1.heap.size := by omega
      refine hK.out _ (_) ⟨((below_box W1 (.cells #[.int .i64 z0] 2)).cell (p := ⟨w.heap.size, 0, none⟩) hw1).trans q1, ((below_box W1 (.cells #[.int .i64 z0] 2)).cell (p := ⟨g, o, none⟩) hg1).trans cz1⟩ (fun hHeld => ?_)
      clear hK K
      try simp only [Act.put, List.setIfInBounds_toArray, List.set_cons_zero, List.set_cons_succ]
      refine takeY 8 _ (v := ?_) rfl rfl (by kernel_rfl) (by kernel_rfl) (by kernel_rfl) (fun _ _ _ h => h) (by kernel_rfl) ?_ (by assumption) ?_
      rotate_left 1
      · intro w hSw; (try dsimp only at hSw); go_simp; (try with_reducible rfl)
      try simp only [Act.put, List.setIfInBounds_toArray, List.set_cons_zero, List.set_cons_succ]
      refine wpAnyH_done (by kernel_rfl) ?_ _
      go_wp2_with fail
      go_meet
      exact Lib.hid (gnCut_a W0 W1 ho1 hd1 hd2 HLD.out hb1)
    · go_simp
      have hs2 : (W0.alloc (.cells #[.int .i64 z0] 2)).heap.size = W0.heap.size + 1 := by simp
      have q2 := ((below_box W0 (.cells #[.int .i64 z0] 2)).cell (p := ⟨w.heap.size, 0, none⟩) hs0).trans q0
      have cz2 := ((below_box W0 (.cells #[.int .i64 z0] 2)).cell (p := ⟨g, o, none⟩) hgW).trans cz
      refine hK.out _ (_) ⟨q2, cz2⟩ (fun hHeld => ?_)
      clear hK K
      try simp only [Act.put, List.setIfInBounds_toArray, List.set_cons_zero, List.set_cons_succ]
      refine wpAnyH_ready (rs := [1]) (by kernel_rfl) (by simp) ?_
      refine AllReadyH.cons rfl (fun K hK => ?_) AllReadyH.nil
      go_simp
      refine (l03Divisors_any _ zs ((W0.alloc (.cells #[.int .i64 z0] 2)).drew) ((HR.out.below (below_box W0 (.cells #[.int .i64 z0] 2))).more (by rw [show ((W0.alloc (.cells #[.int .i64 z0] 2)).drew).heap.size = W0.heap.size + 1 from hs2]; omega)) (by rw [HL.out]; exact hn) HP.out).mono ?_
      rintro e W1 ⟨v1, rfl, ho1, hb1⟩
      obtain ⟨A1, c1, rfl⟩ := ho1.form HLD.out
      obtain ⟨d, e1, hd1, hd2, _, _⟩ := own_at ho1 HLD.out hn0
      cases e1
      rw [show ((W0.alloc (.cells #[.int .i64 z0] 2)).drew).heap.size = W0.heap.size + 1 from hs2] at hd1 hb1
      have q3 := (hb1.cell (p := ⟨w.heap.size, 0, none⟩) (by show w.heap.size < _; omega)).trans q2
      have cz3 := (hb1.cell (p := ⟨g, o, none⟩) (by show g < _; omega)).trans cz2
      refine hK.out _ (W1) ⟨q3, cz3⟩ (fun hHeld => ?_)
      clear hK K
      try simp only [Act.put, List.setIfInBounds_toArray, List.set_cons_zero, List.set_cons_succ]
      refine takeY 7 _ (v := ?_) rfl rfl (by kernel_rfl) (by kernel_rfl) (by kernel_rfl) (fun _ _ _ h => h) (by kernel_rfl) ?_ (by assumption) ?_
      rotate_left 1
      · intro w hSw; (try dsimp only at hSw); go_simp; (try with_reducible rfl)
      try simp only [Act.put, List.setIfInBounds_toArray, List.set_cons_zero, List.set_cons_succ]
      refine takeY 8 _ (v := ?_) rfl rfl (by kernel_rfl) (by kernel_rfl) (by kernel_rfl) (fun _ _ _ h => h) (by kernel_rfl) ?_ (by assumption) ?_
      rotate_left 1
      · intro w hSw; (try dsimp only at hSw); go_simp; (try with_reducible rfl)
      try simp only [Act.put, List.setIfInBounds_toArray, List.set_cons_zero, List.set_cons_succ]
      refine wpAnyH_done (by kernel_rfl) ?_ _
      go_wp2_with fail
      go_meet
      exact Lib.hid (gnCut_b W0 W1 ho1 hd1 hd2 HLD.out hb1)
  case rest =>
    obtain ⟨d, c1, g4, rfl, rfl, hod0, hol0, hgd0, hdw0, hbw0⟩ := hcut.out
    have OD0 := Lib.hid hod0
    have OL0 := Lib.hid hol0
    have BW0 := Lib.hid hbw0
    clear hod0 hol0 hbw0 hcut q0 cz
    go_wp2_with fail
    go_loopw [4, 5] (fun vo vi wr => ∃ (i : Nat) (s e : Int) (L : List Int) (A' : Option Addr) (g1 c' : Nat), (1 ≤ i ∧ i ≤ n) ∧ GSt z0 e s (zs[i - 1]?.getD 0) ∧ A' = some ⟨g1, 0, none⟩ ∧ vo = .slice A' i c' ∧ vi = .int .i64 i ∧ Hid (e = (dvL 0 zs)[i - 1]?.getD 0 ∧ (if i = 1 then s = 0 else s = ((dvL 0 zs)[i - 2]?.getD 0).tdiv ((dvL 0 zs)[i - 1]?.getD 0) * (L[i - 1]?.getD 0) - zs[i - 1]?.getD 0)) ∧ Hid (L.length = i) ∧ Hid (gnB zs = L ++ gnL e s (zs.drop i)) ∧ Hid (OwnI wr W0.heap.size wr.heap.size (.slice A' i c') L) ∧ g1 ≠ d ∧ Hid (OwnI wr d (d + 1) (.slice (some ⟨d, 0, none⟩) n c1) (dvL 0 zs)) ∧ Hid (Below W0.heap.size W0 wr)) (fun _ vi _ => n - (intOf vi).toNat)
    case atStart => exact ⟨1, 0, z0, [z0], _, g4, 1, by omega, by have := HST1.out; rw [← HZ0.out] at this ⊢; exact this, rfl, rfl, rfl, Lib.hid ⟨by have h1 := HDV.out 0 (by rw [HL.out]; exact hn0); simp only [if_true] at h1; rw [← HZ0.out, Nat.sub_self, h1]; have := HF1.out; simp; omega, rfl⟩, Lib.hid rfl, Lib.hid (by simpa using HG1.out), OL0, hgd0, OD0, BW0⟩
    case round =>
      obtain ⟨i, s, e, L, A', g1, c', hi, hst, rfl, rfl, rfl, hes, hL, hg, ho, hgd, hod, hb⟩ := hrel
      have hszw := hb.out.size
      by_cases hlt : i < n
      rotate_left
      · obtain rfl : i = n := by omega
        have HX : Hid (L = gnB zs) := Lib.hid (gn_end HL.out hg.out)
        go_wp2
        go_ret
        exact ⟨_, rfl, by rw [← HX.out]; exact own_lessB ho.out (by omega), B0.out.trans (hb.out.mono (by omega))⟩
      have qr : wr.cell? ⟨w.heap.size, 0, none⟩ = some (.slice (some ⟨g, o, none⟩) n c) := (hb.out.cell (p := ⟨w.heap.size, 0, none⟩) hs0).trans Q0.out
      have czf : ∀ j, j < n → wr.cell? ⟨g, o + j, none⟩ = some (.int .i64 (zs[j]?.getD 0)) := fun j hj => by
        obtain ⟨a, e1, _, hcell0⟩ := H0.out.2 j hj
        cases e1
        rw [add_lit] at hcell0
        rw [hb.out.cell (p := ⟨g, o + j, none⟩) hgW]; simpa using hcell0
      have hzi := HZ.out (zs[i]?.getD 0) (by have := HL.out; simp [show i < zs.length by omega])
      have hzy := HZ.out (zs[i - 1]?.getD 0) (by have := HL.out; simp [show i - 1 < zs.length by omega])
      have hyz := HNX.out i (by rw [HL.out]; exact hlt) hi.1
      have HG2 := Lib.hid (gn_step HL.out hlt hg.out)
      have hbd := hst.bounds (z := zs[i]?.getD 0) (by omega) hzi.1 hzi.2
      have HST2 := Lib.hid (hst.step (z := zs[i]?.getD 0) (by omega) hzi.1)
      have HDI : Hid ((Int.gcd e (zs[i]?.getD 0) : Int) = (dvL 0 zs)[i]?.getD 0) := Lib.hid (by have h1 := HDV.out i (by rw [HL.out]; exact hlt); rw [if_neg (by omega)] at h1; rw [hes.out.1, h1])
      have HP2 : Hid ((Int.gcd e (zs[i]?.getD 0) : Int) = (dvL 0 zs)[i + 1 - 1]?.getD 0 ∧ (if i + 1 = 1 then e.tdiv (Int.gcd e (zs[i]?.getD 0) : Int) * ((zs[i]?.getD 0) + s) - (zs[i]?.getD 0) = 0 else e.tdiv (Int.gcd e (zs[i]?.getD 0) : Int) * ((zs[i]?.getD 0) + s) - (zs[i]?.getD 0) = ((dvL 0 zs)[i + 1 - 2]?.getD 0).tdiv ((dvL 0 zs)[i + 1 - 1]?.getD 0) * ((L ++ [(zs[i]?.getD 0) + s])[i + 1 - 1]?.getD 0) - zs[i + 1 - 1]?.getD 0)) := Lib.hid (by
        have h1 := hL.out
        have h2 : (L ++ [(zs[i]?.getD 0) + s])[i]?.getD 0 = (zs[i]?.getD 0) + s := by subst h1; simp
        refine ⟨by rw [Nat.add_sub_cancel, HDI.out], ?_⟩
        rw [if_neg (by omega), Nat.add_sub_cancel, h2, show i + 1 - 2 = i - 1 by omega, ← HDI.out, ← hes.out.1])
      obtain ⟨g1', e1, hg1lo, hg1hi, hxc, _⟩ := own_at ho.out hL.out (show i - 1 < i by omega)
      cases e1
      obtain ⟨d', e1, hdlo, _, hcd1, _⟩ := own_at hod.out HLD.out (show i - 1 < n by omega)
      cases e1
      have hdlt : d < wr.heap.size := by have := hod.out.2.2; omega
      have h5 : (i : Int) < (n : Int) := by omega
      have h6 : (0 : Int) ≤ (i : Int) := by omega
      have hlgw : w.heap.size < wr.heap.size := by omega
      have hlgg : g < wr.heap.size := by omega
      have hlgd := hdlt
      by_cases h1 : i = 1
      · have hs : s = 0 := by have := hes.out.2; rw [if_pos h1] at this; exact this
        have hi1 : (i : Int) = 1 := by omega
        have cz1 := czf 1 (by omega)
        have HI1 := Lib.hid h1
        have hzz : zs[1]?.getD 0 = zs[i]?.getD 0 := by rw [h1]
        rw [hzz] at cz1
        have hn1 : (1 : Int) < (n : Int) := by omega
        have hn2 : 1 < n := by omega
        subst hs
        simp only [Int.add_zero] at HG2 HST2 HP2 hbd
        obtain ⟨z, hzz1⟩ : ∃ z, zs[i]?.getD 0 = z := ⟨_, rfl⟩
        have HPZ := Lib.hid hzz1
        rw [hzz1] at cz1 hzi HG2 HST2 HP2 hbd hyz
        clear hzz hzz1 czf hes hst hg h1 HDI
        go_wp2_with (at_builtin; (refine wpList_append_lies _ rfl (.tmp 21) (.tmp 26) 22 rfl W0.heap.size 2 i0 (.int .i64 0) 1 8 Try.underlying22 hi0 hy0 hy1 hy2 rfl (by decide) (.slice (some ⟨g1, 0, none⟩) i c') i (L.map (.int .i64)) rfl ?ga4 ⟨wr.heap.size, 0, none⟩ 1 1 [.int .i64 z] rfl rfl ?ga6 ?ga7 (by decide) ?ga8 ?ga9 ?ga10 _ rfl ?ga11; (have h3 := ho.out.1; rw [hL.out] at h3; exact World.ownsRow.alloc h3 _); (exact World.news_of_block (cs := #[.int .i64 z]) (t := 2) (fr := (0, 0)) (heap_alloc_new wr _)); (simp [Value.oneCell']); (simp only [maxLen]; omega); (omega); (show W0.heap.size ≤ (World.alloc wr _).heap.size; simp; omega); intro g2 cap2 w2 hown2 hgrow hg2 _; (have hgb : Below W0.heap.size (wr.alloc (.cells #[.int .i64 z] 2)) w2 := Below.grown (Below.refl _ _) hgrow (by (show W0.heap.size ≤ (wr.alloc _).heap.size); simp; omega) (fun k hk => (Own.lt ho.out.1 k hk).1)); (have HBX := Lib.hid (((Below.refl W0.heap.size wr).alloc (by omega) _).trans hgb)); (have hdn : some d ≠ (Value.slice (some ⟨g1, 0, none⟩) i c').ownBlock := by (simp [Value.ownBlock]; omega)); (have HO2 : Hid (OwnI w2 W0.heap.size w2.heap.size (.slice (some ⟨g2, 0, none⟩) (i + 1) cap2) (L ++ [z])) := Lib.hid (OwnI.mk' (n := i + 1) (by (rw [List.map_append]; exact hown2)))); (have HD2 : Hid (OwnI w2 d (d + 1) (.slice (some ⟨d, 0, none⟩) n c1) (dvL 0 zs)) := Lib.hid (hod.out.kept (kept_grown2 (kept_box wr (.cells #[.int .i64 z] 2) d (d + 1) (by omega)) hgrow (by (simp; omega)) (kept_one hdn)))); (have hg2d : g2 ≠ d := by (rcases hg2 with h | h; (simp [Value.ownBlock] at h; omega); (have h9 : g2 = wr.heap.size + 1 := (by simpa using h)); omega)); (have HB2 := Lib.hid (hb.out.trans HBX.out)); clear hown2 hgrow hg2 hgb))
        go_roundw
        case rel => exact ⟨i + 1, _, _, _, some ⟨g2, 0, none⟩, g2, cap2, by omega, by rw [Nat.add_sub_cancel, HPZ.out]; exact HST2.out, rfl, rfl, by go_num, HP2, Lib.hid (by simp [hL.out]), HG2, HO2, hg2d, HD2, HB2⟩
        case measure => simp [intOf]; omega
      · have hes2 : s = ((dvL 0 zs)[i - 2]?.getD 0).tdiv ((dvL 0 zs)[i - 1]?.getD 0) * (L[i - 1]?.getD 0) - zs[i - 1]?.getD 0 := by have := hes.out.2; rw [if_neg h1] at this; exact this
        have cz1 := czf i hlt
        have cz0 := czf (i - 1) (by omega)
        obtain ⟨d', e1, _, _, hcd2, _⟩ := own_at hod.out HLD.out (show i - 2 < n by omega)
        cases e1
        have hee := hes.out.1
        have hst1 := hst.e1
        have hDR := Lib.hid (dvL_range (dcB_range (brB_dcB HP.out)))
        have hrd2 := range_of hDR.out (i - 2)
        have hst64 := hst.n64
        have hen := hst.en
        obtain ⟨z, hzz1⟩ : ∃ z, zs[i]?.getD 0 = z := ⟨_, rfl⟩
        have HPZ := Lib.hid hzz1
        rw [hzz1] at cz1 hzi HG2 HST2 HP2 hbd hyz
        obtain ⟨y, hyy⟩ : ∃ y, zs[i - 1]?.getD 0 = y := ⟨_, rfl⟩
        rw [hyy] at cz0 hzy hyz hes2
        obtain ⟨d2, hdd2⟩ : ∃ y, (dvL 0 zs)[i - 2]?.getD 0 = y := ⟨_, rfl⟩
        rw [hdd2] at hcd2 hes2 hrd2
        obtain ⟨d1, hdd1⟩ : ∃ y, (dvL 0 zs)[i - 1]?.getD 0 = y := ⟨_, rfl⟩
        rw [hdd1] at hcd1 hes2 hee
        obtain ⟨x, hxx⟩ : ∃ y, L[i - 1]?.getD 0 = y := ⟨_, rfl⟩
        rw [hxx] at hxc hes2
        have hd1p : 1 ≤ d1 := by omega
        have hq := tdiv_le hrd2 hd1p
        have HGB : Hid (1 ≤ L[i - 1]?.getD 0 ∧ L[i - 1]?.getD 0 ≤ 128000) := Lib.hid (by rw [pre_of hg.out (by rw [hL.out]; omega)]; exact all_at (gnB_all HP.out) (by rw [gnB_len, HL.out]; omega))
        have hxb := HGB.out
        rw [hxx] at hxb
        have hmul := mul_range (a := d2.tdiv d1) (b := x) hq (by omega : 0 ≤ x ∧ x ≤ 128000)
        have HXE : Hid (z + s = d2.tdiv d1 * x + z - y) := Lib.hid (by omega)
        rw [HXE.out] at HG2 HST2 HP2
        have p1 : IntKind.i64.wrap ((i : Int) - 2) = (i : Int) - 2 := IntWalk.i64_in _ (by omega)
        have p2 : IntKind.i64.wrap ((i : Int) - 1) = (i : Int) - 1 := IntWalk.i64_in _ (by omega)
        have p3 : IntKind.i64.wrap (d2.tdiv d1) = d2.tdiv d1 := IntWalk.i64_in _ (by omega)
        have p4 : IntKind.i64.wrap (d2.tdiv d1 * x) = d2.tdiv d1 * x := IntWalk.i64_in _ (by omega)
        have p5 : IntKind.i64.wrap (d2.tdiv d1 * x + z) = d2.tdiv d1 * x + z := IntWalk.i64_in _ (by omega)
        have p6 : IntKind.i64.wrap (d2.tdiv d1 * x + z - y) = d2.tdiv d1 * x + z - y := IntWalk.i64_in _ (by omega)
        have h7 : ((i : Int) - 1).toNat = i - 1 := by omega
        have h8 : (i : Int) - 1 < (n : Int) := by omega
        have h9 : (0 : Int) ≤ (i : Int) - 1 := by omega
        have h71 : ((i : Int) - 2).toNat = i - 2 := by omega
        have h81 : (i : Int) - 2 < (n : Int) := by omega
        have h91 : (0 : Int) ≤ (i : Int) - 2 := by omega
        have h10 : (i : Int) - 1 < (i : Int) := by omega
        have h11 : i - 1 < n := by omega
        have h12 : i - 2 < n := by omega
        have h13 : i - 1 < i := by omega
        have h14 : (2 : Int) ≤ (i : Int) := by omega
        have h15 : (1 : Int) ≤ (i : Int) := by omega
        have hi1 : ((i : Int) == 1) = false := by simp; omega
        have hi2 : ¬ (i : Int) = 1 := by omega
        have hdz : (d1 == 0) = false := by simp; omega
        have hdz2 : ¬ d1 = 0 := by omega
        clear czf hes hst hg HDI hzz1 hyy hdd2 hdd1 hxx hes2 hee h1
        go_wp2_with fail
        refine wp_region_held_drew (S := fun w' => w'.cell? ⟨w.heap.size, 0, none⟩ = some (.slice (some ⟨g, o, none⟩) n c) ∧ w'.cell? ⟨g, o + i, none⟩ = some (.int .i64 z) ∧ w'.cell? ⟨g, o + (i - 1), none⟩ = some (.int .i64 y) ∧ w'.cell? ⟨d, i - 2, none⟩ = some (.int .i64 d2) ∧ w'.cell? ⟨d, i - 1, none⟩ = some (.int .i64 d1)) (by kernel_rfl) ⟨qr, cz1, cz0, hcd2, hcd1⟩ (fun hHeld => ?_)
        refine takeY 0 _ (v := ?_) rfl rfl (by kernel_rfl) (by kernel_rfl) (by kernel_rfl) (fun _ _ _ h => h) (by kernel_rfl) ?_ (by assumption) ?_
        rotate_left 1
        · intro w hSw; (try dsimp only at hSw); go_simp; (try with_reducible rfl)
        try simp only [Act.put, List.setIfInBounds_toArray, List.set_cons_zero, List.set_cons_succ]
        refine takeY 1 _ (v := ?_) rfl rfl (by kernel_rfl) (by kernel_rfl) (by kernel_rfl) (fun _ _ _ h => h) (by kernel_rfl) ?_ (by assumption) ?_
        rotate_left 1
        · intro w hSw; (try dsimp only at hSw); go_simp; (try with_reducible rfl)
        try simp only [Act.put, List.setIfInBounds_toArray, List.set_cons_zero, List.set_cons_succ]
        refine takeY 2 _ (v := ?_) rfl rfl (by kernel_rfl) (by kernel_rfl) (by kernel_rfl) (fun _ _ _ h => h) (by kernel_rfl) ?_ (by assumption) ?_
        rotate_left 1
        · intro w hSw; (try dsimp only at hSw); go_simp; (try with_reducible rfl)
        try simp only [Act.put, List.setIfInBounds_toArray, List.set_cons_zero, List.set_cons_succ]
        refine takeY 3 _ (v := ?_) rfl rfl (by kernel_rfl) (by kernel_rfl) (by kernel_rfl) (fun _ _ _ h => h) (by kernel_rfl) ?_ (by assumption) ?_
        rotate_left 1
        · intro w hSw; (try dsimp only at hSw); go_simp; (try with_reducible rfl)
        try simp only [Act.put, List.setIfInBounds_toArray, List.set_cons_zero, List.set_cons_succ]
        refine takeY 4 _ (v := ?_) rfl rfl (by kernel_rfl) (by kernel_rfl) (by kernel_rfl) (fun _ _ _ h => h) (by kernel_rfl) ?_ (by assumption) ?_
        rotate_left 1
        · intro w hSw; (try dsimp only at hSw); go_simp; (try with_reducible rfl)
        try simp only [Act.put, List.setIfInBounds_toArray, List.set_cons_zero, List.set_cons_succ]
        refine takeY 5 _ (v := ?_) rfl rfl (by kernel_rfl) (by kernel_rfl) (by kernel_rfl) (fun _ _ _ h => h) (by kernel_rfl) ?_ (by assumption) ?_
        rotate_left 1
        · intro w hSw; (try dsimp only at hSw); go_simp; (try with_reducible rfl)
        try simp only [Act.put, List.setIfInBounds_toArray, List.set_cons_zero, List.set_cons_succ]
        refine takeY 6 _ (v := ?_) rfl rfl (by kernel_rfl) (by kernel_rfl) (by kernel_rfl) (fun _ _ _ h => h) (by kernel_rfl) ?_ (by assumption) ?_
        rotate_left 1
        · intro w hSw; (try dsimp only at hSw); go_simp; (try with_reducible rfl)
        try simp only [Act.put, List.setIfInBounds_toArray, List.set_cons_zero, List.set_cons_succ]
        refine takeY 7 _ (v := ?_) rfl rfl (by kernel_rfl) (by kernel_rfl) (by kernel_rfl) (fun _ _ _ h => h) (by kernel_rfl) ?_ (by assumption) ?_
        rotate_left 1
        · intro w hSw; (try dsimp only at hSw); go_simp; (try with_reducible rfl)
        try simp only [Act.put, List.setIfInBounds_toArray, List.set_cons_zero, List.set_cons_succ]
        refine takeY 8 _ (v := ?_) rfl rfl (by kernel_rfl) (by kernel_rfl) (by kernel_rfl) (fun _ _ _ h => h) (by kernel_rfl) ?_ (by assumption) ?_
        rotate_left 1
        · intro w hSw; (try dsimp only at hSw); go_simp; (try with_reducible rfl)
        try simp only [Act.put, List.setIfInBounds_toArray, List.set_cons_zero, List.set_cons_succ]
        refine takeY 9 _ (v := ?_) rfl rfl (by kernel_rfl) (by kernel_rfl) (by kernel_rfl) (fun _ _ _ h => h) (by kernel_rfl) ?_ (by assumption) ?_
        rotate_left 1
        · intro w hSw; (try dsimp only at hSw); go_simp; (try with_reducible rfl)
        try simp only [Act.put, List.setIfInBounds_toArray, List.set_cons_zero, List.set_cons_succ]
        refine takeY 10 _ (v := ?_) rfl rfl (by kernel_rfl) (by kernel_rfl) (by kernel_rfl) (fun _ _ _ h => h) (by kernel_rfl) ?_ (by assumption) ?_
        rotate_left 1
        · intro w hSw; (try dsimp only at hSw); go_simp; (try with_reducible rfl)
        try simp only [Act.put, List.setIfInBounds_toArray, List.set_cons_zero, List.set_cons_succ]
        refine takeY 11 _ (v := ?_) rfl rfl (by kernel_rfl) (by kernel_rfl) (by kernel_rfl) (fun _ _ _ h => h) (by kernel_rfl) ?_ (by assumption) ?_
        rotate_left 1
        · intro w hSw; (try dsimp only at hSw); go_simp; (try with_reducible rfl)
        try simp only [Act.put, List.setIfInBounds_toArray, List.set_cons_zero, List.set_cons_succ]
        refine takeY 12 _ (v := ?_) rfl rfl (by kernel_rfl) (by kernel_rfl) (by kernel_rfl) (fun _ _ _ h => h) (by kernel_rfl) ?_ (by assumption) ?_
        rotate_left 1
        · intro w hSw; (try dsimp only at hSw); go_simp; (try with_reducible rfl)
        try simp only [Act.put, List.setIfInBounds_toArray, List.set_cons_zero, List.set_cons_succ]
        refine takeY 13 _ (v := ?_) rfl rfl (by kernel_rfl) (by kernel_rfl) (by kernel_rfl) (fun _ _ _ h => h) (by kernel_rfl) ?_ (by assumption) ?_
        rotate_left 1
        · intro w hSw; (try dsimp only at hSw); go_simp; (try with_reducible rfl)
        try simp only [Act.put, List.setIfInBounds_toArray, List.set_cons_zero, List.set_cons_succ]
        refine takeY 14 _ (v := ?_) rfl rfl (by kernel_rfl) (by kernel_rfl) (by kernel_rfl) (fun _ _ _ h => h) (by kernel_rfl) ?_ (by assumption) ?_
        rotate_left 1
        · intro w hSw; (try dsimp only at hSw); go_simp; (try with_reducible rfl)
        try simp only [Act.put, List.setIfInBounds_toArray, List.set_cons_zero, List.set_cons_succ]
        refine takeY 15 _ (v := ?_) rfl rfl (by kernel_rfl) (by kernel_rfl) (by kernel_rfl) (fun _ _ _ h => h) (by kernel_rfl) ?_ (by assumption) ?_
        rotate_left 1
        · intro w hSw; (try dsimp only at hSw); go_simp; (try with_reducible rfl)
        try simp only [Act.put, List.setIfInBounds_toArray, List.set_cons_zero, List.set_cons_succ]
        refine takeY 18 _ (v := ?_) rfl rfl (by kernel_rfl) (by kernel_rfl) (by kernel_rfl) (fun _ _ _ h => h) (by kernel_rfl) ?_ (by assumption) ?_
        rotate_left 1
        · intro w hSw; (try dsimp only at hSw); go_simp; (try with_reducible rfl)
        try simp only [Act.put, List.setIfInBounds_toArray, List.set_cons_zero, List.set_cons_succ]
        refine takeY 19 _ (v := ?_) rfl rfl (by kernel_rfl) (by kernel_rfl) (by kernel_rfl) (fun _ _ _ h => h) (by kernel_rfl) ?_ (by assumption) ?_
        rotate_left 1
        · intro w hSw; (try dsimp only at hSw); go_simp; (try with_reducible rfl)
        try simp only [Act.put, List.setIfInBounds_toArray, List.set_cons_zero, List.set_cons_succ]
        refine takeY 20 _ (v := ?_) rfl rfl (by kernel_rfl) (by kernel_rfl) (by kernel_rfl) (fun _ _ _ h => h) (by kernel_rfl) ?_ (by assumption) ?_
        rotate_left 1
        · intro w hSw; (try dsimp only at hSw); go_simp; (try with_reducible rfl)
        try simp only [Act.put, List.setIfInBounds_toArray, List.set_cons_zero, List.set_cons_succ]
        refine takeY 21 _ (v := ?_) rfl rfl (by kernel_rfl) (by kernel_rfl) (by kernel_rfl) (fun _ _ _ h => h) (by kernel_rfl) ?_ (by assumption) ?_
        rotate_left 1
        · intro w hSw; (try dsimp only at hSw); go_simp; (try with_reducible rfl)
        try simp only [Act.put, List.setIfInBounds_toArray, List.set_cons_zero, List.set_cons_succ]
        refine takeY 22 _ (v := ?_) rfl rfl (by kernel_rfl) (by kernel_rfl) (by kernel_rfl) (fun _ _ _ h => h) (by kernel_rfl) ?_ (by assumption) ?_
        rotate_left 1
        · intro w hSw; (try dsimp only at hSw); go_simp; (try with_reducible rfl)
        try simp only [Act.put, List.setIfInBounds_toArray, List.set_cons_zero, List.set_cons_succ]
        refine takeY 24 _ (v := ?_) rfl rfl (by kernel_rfl) (by kernel_rfl) (by kernel_rfl) (fun _ _ _ h => h) (by kernel_rfl) ?_ (by assumption) ?_
        rotate_left 1
        · intro w hSw; (try dsimp only at hSw); go_simp; (try with_reducible rfl)
        try simp only [Act.put, List.setIfInBounds_toArray, List.set_cons_zero, List.set_cons_succ]
        refine takeY 25 _ (v := ?_) rfl rfl (by kernel_rfl) (by kernel_rfl) (by kernel_rfl) (fun _ _ _ h => h) (by kernel_rfl) ?_ (by assumption) ?_
        rotate_left 1
        · intro w hSw; (try dsimp only at hSw); go_simp; (try with_reducible rfl)
        try simp only [Act.put, List.setIfInBounds_toArray, List.set_cons_zero, List.set_cons_succ]
        refine takeY 26 _ (v := ?_) rfl rfl (by kernel_rfl) (by kernel_rfl) (by kernel_rfl) (fun _ _ _ h => h) (by kernel_rfl) ?_ (by assumption) ?_
        rotate_left 1
        · intro w hSw; (try dsimp only at hSw); go_simp; (try with_reducible rfl)
        try simp only [Act.put, List.setIfInBounds_toArray, List.set_cons_zero, List.set_cons_succ]
        refine takeY 27 _ (v := ?_) rfl rfl (by kernel_rfl) (by kernel_rfl) (by kernel_rfl) (fun _ _ _ h => h) (by kernel_rfl) ?_ (by assumption) ?_
        rotate_left 1
        · intro w hSw; (try dsimp only at hSw); go_simp; (try with_reducible rfl)
        try simp only [Act.put, List.setIfInBounds_toArray, List.set_cons_zero, List.set_cons_succ]
        refine takeY 28 _ (v := ?_) rfl rfl (by kernel_rfl) (by kernel_rfl) (by kernel_rfl) (fun _ _ _ h => h) (by kernel_rfl) ?_ (by assumption) ?_
        rotate_left 1
        · intro w hSw; (try dsimp only at hSw); go_simp; (try with_reducible rfl)
        try simp only [Act.put, List.setIfInBounds_toArray, List.set_cons_zero, List.set_cons_succ]
        refine takeY 29 _ (v := ?_) rfl rfl (by kernel_rfl) (by kernel_rfl) (by kernel_rfl) (fun _ _ _ h => h) (by kernel_rfl) ?_ (by assumption) ?_
        rotate_left 1
        · intro w hSw; (try dsimp only at hSw); go_simp; (try with_reducible rfl)
        try simp only [Act.put, List.setIfInBounds_toArray, List.set_cons_zero, List.set_cons_succ]
        refine wpAnyH_ready (rs := [16]) (by kernel_rfl) (by simp) ?_
        refine AllReadyH.cons rfl (fun K hK => ?_) AllReadyH.nil
        go_simp
        refine hK.out _ (wr.drew) ⟨qr, cz1, cz0, hcd2, hcd1⟩ (fun hHeld => ?_)
        clear hK K
        try simp only [Act.put, List.setIfInBounds_toArray, List.set_cons_zero, List.set_cons_succ]
        refine takeY 17 _ (v := ?_) rfl rfl (by kernel_rfl) (by kernel_rfl) (by kernel_rfl) (fun _ _ _ h => h) (by kernel_rfl) ?_ (by assumption) ?_
        rotate_left 1
        · intro w hSw; (try dsimp only at hSw); go_simp; (try with_reducible rfl)
        try simp only [Act.put, List.setIfInBounds_toArray, List.set_cons_zero, List.set_cons_succ]
        refine takeY 23 _ (v := ?_) rfl rfl (by kernel_rfl) (by kernel_rfl) (by kernel_rfl) (fun _ _ _ h => h) (by kernel_rfl) ?_ (by assumption) ?_
        rotate_left 1
        · intro w hSw; (try dsimp only at hSw); go_simp; (try with_reducible rfl)
        try simp only [Act.put, List.setIfInBounds_toArray, List.set_cons_zero, List.set_cons_succ]
        refine takeY 30 _ (v := ?_) rfl rfl (by kernel_rfl) (by kernel_rfl) (by kernel_rfl) (fun _ _ _ h => h) (by kernel_rfl) ?_ (by assumption) ?_
        rotate_left 1
        · intro w hSw; (try dsimp only at hSw); go_simp; (try with_reducible rfl)
        try simp only [Act.put, List.setIfInBounds_toArray, List.set_cons_zero, List.set_cons_succ]
        refine wpAnyH_ready (rs := [31]) (by kernel_rfl) (by simp) ?_
        refine AllReadyH.cons rfl (fun K hK => ?_) AllReadyH.nil
        go_simp
        refine hK.out _ (_) ⟨((below_box wr (.cells #[.int .i64 (d2.tdiv d1 * x + z - y)] 2)).cell (p := ⟨w.heap.size, 0, none⟩) hlgw).trans qr, ((below_box wr (.cells #[.int .i64 (d2.tdiv d1 * x + z - y)] 2)).cell (p := ⟨g, o + i, none⟩) hlgg).trans cz1, ((below_box wr (.cells #[.int .i64 (d2.tdiv d1 * x + z - y)] 2)).cell (p := ⟨g, o + (i - 1), none⟩) hlgg).trans cz0, ((below_box wr (.cells #[.int .i64 (d2.tdiv d1 * x + z - y)] 2)).cell (p := ⟨d, i - 2, none⟩) hlgd).trans hcd2, ((below_box wr (.cells #[.int .i64 (d2.tdiv d1 * x + z - y)] 2)).cell (p := ⟨d, i - 1, none⟩) hlgd).trans hcd1⟩ (fun hHeld => ?_)
        clear hK K
        try simp only [Act.put, List.setIfInBounds_toArray, List.set_cons_zero, List.set_cons_succ]
        refine wpAnyH_ready (rs := [32]) (by kernel_rfl) (by simp) ?_
        refine AllReadyH.cons rfl (fun K hK => ?_) AllReadyH.nil
        try simp only [List.getElem_toArray, List.getElem_cons_succ, List.getElem_cons_zero]
        rw [if_pos (by kernel_rfl)]
        refine wp_append_lies _ (.tmp 28) (.tmp 59) 22 ?gb2 (W0.heap.size) 2 i0 (.int .i64 0) 1 8 Try.underlying22 hi0 hy0 hy1 hy2 rfl (by decide) (.slice (some ⟨g1, 0, none⟩) i c') i (L.map (.int .i64)) ?gb3 ?gb4 ⟨wr.heap.size, 0, none⟩ 1 1 [.int .i64 (d2.tdiv d1 * x + z - y)] ?gb5 rfl ?gb6 ?gb7 (by decide) ?gb8 ?gb9 ?gb10 _ rfl ?gb11
        case gb2 => rfl
        case gb3 => rfl
        case gb5 => rfl
        case gb4 => have h3 := ho.out.1; rw [hL.out] at h3; exact World.ownsRow.alloc h3 _
        case gb6 => exact World.news_of_block (cs := #[.int .i64 (d2.tdiv d1 * x + z - y)]) (t := 2) (fr := (0, 0)) (heap_alloc_new wr _)
        case gb7 => simp [Value.oneCell']
        case gb8 => simp only [maxLen]; omega
        case gb9 => omega
        case gb10 => show W0.heap.size ≤ (World.alloc wr _).heap.size; simp; omega
        intro g2 cap2 w2 hown2 hgrow hg2 _
        have hgb : Below W0.heap.size (wr.alloc (.cells #[.int .i64 (d2.tdiv d1 * x + z - y)] 2)).drew w2 := Below.grown (Below.refl _ _) hgrow (by show W0.heap.size ≤ (wr.alloc _).heap.size; simp; omega) (fun k hk => (Own.lt ho.out.1 k hk).1)
        have hbx : Below W0.heap.size wr w2 := (below_drewN ((Below.refl _ _).alloc (by omega) _) 1).trans hgb
        have HBX := Lib.hid hbx
        have hdn : some d ≠ (Value.slice (some ⟨g1, 0, none⟩) i c').ownBlock := by simp [Value.ownBlock]; omega
        have HO2 : Hid (OwnI w2 W0.heap.size w2.heap.size (.slice (some ⟨g2, 0, none⟩) (i + 1) cap2) (L ++ [(d2.tdiv d1 * x + z - y)])) := Lib.hid (OwnI.mk' (n := i + 1) (by rw [List.map_append]; exact hown2))
        have HD2 : Hid (OwnI w2 d (d + 1) (.slice (some ⟨d, 0, none⟩) n c1) (dvL 0 zs)) := Lib.hid (hod.out.kept (kept_grown (kept_box wr (.cells #[.int .i64 (d2.tdiv d1 * x + z - y)] 2) d (d + 1) (by omega)) hgrow (by simp; omega) (kept_one hdn)))
        have hg2d : g2 ≠ d := by rcases hg2 with h | h; (simp [Value.ownBlock] at h; omega); (have h9 : g2 = wr.heap.size + 1 := (by simpa using h)); omega
        have HB2 := Lib.hid (hb.out.trans HBX.out)
        have s0 : w2.cell? ⟨w.heap.size, 0, none⟩ = some (.slice (some ⟨g, o, none⟩) n c) := (HBX.out.cell (p := ⟨w.heap.size, 0, none⟩) (by show w.heap.size < _; omega)).trans qr
        have s1 : w2.cell? ⟨g, o + i, none⟩ = some (.int .i64 z) := (HBX.out.cell (p := ⟨g, o + i, none⟩) (by show g < _; omega)).trans cz1
        have s2 : w2.cell? ⟨g, o + (i - 1), none⟩ = some (.int .i64 y) := (HBX.out.cell (p := ⟨g, o + (i - 1), none⟩) (by show g < _; omega)).trans cz0
        have s3 : w2.cell? ⟨d, i - 2, none⟩ = some (.int .i64 d2) := (hgrow.cell_far ⟨d, i - 2, none⟩ (by show d < _; simp; omega) hdn).trans (((below_box wr _).cell (p := ⟨d, i - 2, none⟩) hlgd).trans hcd2)
        have s4 : w2.cell? ⟨d, i - 1, none⟩ = some (.int .i64 d1) := (hgrow.cell_far ⟨d, i - 1, none⟩ (by show d < _; simp; omega) hdn).trans (((below_box wr _).cell (p := ⟨d, i - 1, none⟩) hlgd).trans hcd1)
        refine hK.out _ (_) ⟨s0, s1, s2, s3, s4⟩ (fun hHeld => ?_)
        clear hK K hgrow hgb
        try simp only [Act.put, List.setIfInBounds_toArray, List.set_cons_zero, List.set_cons_succ]
        refine takeY 33 _ (v := ?_) rfl rfl (by kernel_rfl) (by kernel_rfl) (by kernel_rfl) (fun _ _ _ h => h) (by kernel_rfl) ?_ (by assumption) ?_
        rotate_left 1
        · intro w hSw; (try dsimp only at hSw); go_simp; (try with_reducible rfl)
        try simp only [Act.put, List.setIfInBounds_toArray, List.set_cons_zero, List.set_cons_succ]
        refine wpAnyH_done (by kernel_rfl) ?_ _
        go_wp2_with fail
        go_roundw
        case rel => exact ⟨i + 1, _, _, _, some ⟨g2, 0, none⟩, g2, cap2, by omega, by rw [Nat.add_sub_cancel, HPZ.out]; exact HST2.out, rfl, rfl, by go_num, HP2, Lib.hid (by simp [hL.out]), HG2, HO2, hg2d, HD2, HB2⟩
        case measure => simp [intOf]; omega
end Go.Proofs.Ytncgkoanckefmaa
