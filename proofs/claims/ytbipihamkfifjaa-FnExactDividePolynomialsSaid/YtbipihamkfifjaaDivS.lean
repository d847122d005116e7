/- The division as the model does it: a contract of spec.l02Divide. Conditions: stated at each theorem. -/
import Derived.Test.YtbipihamkfifjaaDivide
import Derived.Deep.RegionWith
import Derived.Deep.DeepCutAuto
import Derived.IntWalk
namespace Go.Proofs.Ytbipihamkfifjaa
open Go.ChangeShapes Go.WideShapes Go.ChangeAt Go.RowKit
set_option linter.unusedVariables false

def DivCut (w wx : World) (n N : Nat) (p : List Int) (s6 s7 : Value) : Prop :=
  ∃ A c g lo hi, s6 = .slice A n c ∧ s7 = .slice (some ⟨g, 0, none⟩) N N ∧ OwnI wx lo hi (.slice A n c) p ∧ OwnI wx g (g + 1) (.slice (some ⟨g, 0, none⟩) N N) (List.replicate N 0) ∧ (hi ≤ g ∨ g + 1 ≤ lo) ∧ w.heap.size ≤ lo ∧ w.heap.size ≤ g ∧ Below w.heap.size w wx
theorem own_zeros (w : World) (N : Nat) (hN : N ≤ 9223372036854775807) : OwnI (w.alloc (.cells (madeCells #[.int .i64 0] N) 2)) w.heap.size (w.heap.size + 1) (.slice (some ⟨w.heap.size, 0, none⟩) N N) (List.replicate N 0) := by
  have := own_of_row (lo := w.heap.size) (zs := List.replicate N 0) (World.rowIs_made w (.int .i64 0) N 2) (by simp) (fun i hi => by simp [List.getD, hi]) (Nat.le_refl _) hN
  simpa using this
theorem OwnI.drew {w : World} {lo hi : Nat} {v : Value} {zs : List Int} (h : OwnI w lo hi v zs) : OwnI w.drew lo hi v zs := h
theorem OwnI.undrew {w : World} {lo hi : Nat} {v : Value} {zs : List Int} (h : OwnI w.drew lo hi v zs) : OwnI w lo hi v zs := h

theorem div_cut_a {w w1 : World} {n N c : Nat} {A : Option Addr} {p : List Int} (ho : OwnI w1 w.heap.size w1.heap.size (.slice A n c) p) (hb : Below w.heap.size w w1) (hN : N ≤ 9223372036854775807) :
    DivCut w (w1.alloc (.cells (madeCells #[.int .i64 0] N) 2)) n N p (.slice A n c) (.slice (some ⟨w1.heap.size, 0, none⟩) N N) :=
  ⟨A, c, w1.heap.size, w.heap.size, w1.heap.size, rfl, rfl, ho.kept (Kept.of_below ((Below.refl _ _).alloc (Nat.le_refl w1.heap.size) _) (Nat.le_refl _)), own_zeros w1 N hN, Or.inl (Nat.le_refl _), Nat.le_refl _, hb.size, hb.alloc hb.size _⟩
theorem div_cut_b {w w1 : World} {n N c : Nat} {A : Option Addr} {p : List Int} (ho : OwnI w1 (w.alloc (.cells (madeCells #[.int .i64 0] N) 2)).heap.size w1.heap.size (.slice A n c) p)
    (hb : Below (w.alloc (.cells (madeCells #[.int .i64 0] N) 2)).heap.size (w.alloc (.cells (madeCells #[.int .i64 0] N) 2)).drew w1) (hN : N ≤ 9223372036854775807) :
    DivCut w w1 n N p (.slice A n c) (.slice (some ⟨w.heap.size, 0, none⟩) N N) := by
  have hs : (w.alloc (.cells (madeCells #[.int .i64 0] N) 2)).heap.size = w.heap.size + 1 := by simp
  rw [hs] at ho hb
  have hz : OwnI (w.alloc (.cells (madeCells #[.int .i64 0] N) 2)).drew w.heap.size (w.heap.size + 1) (.slice (some ⟨w.heap.size, 0, none⟩) N N) (List.replicate N 0) := own_zeros w N hN
  exact ⟨A, c, w.heap.size, w.heap.size + 1, w1.heap.size, rfl, rfl, ho, hz.kept (Kept.of_below hb (Nat.le_refl _)), Or.inr (Nat.le_refl _), by omega, Nat.le_refl _, ((Below.refl _ _).alloc (Nat.le_refl _) _).drew.trans (hb.mono (by omega))⟩

theorem rep_zero (N i : Nat) : (List.replicate N (0 : Int)).getD i 0 = 0 := by
  rw [getD_opt, List.getElem?_replicate]; split <;> rfl

theorem div_split {M : Int} {q r o : List Int} {m j : Nat} (hq : q.length = m) (h : (r[j + (m - 1)]?.getD 0).tmod (q[m - 1]?.getD 0) = 0) :
    divStep M q j (r, o) = if r[j + (m - 1)]?.getD 0 = 0 then .ok (r, o) else match addR M j (q.map (mulE (-((r[j + (m - 1)]?.getD 0).tdiv (q[m - 1]?.getD 0))) M)) r with | none => .error 3 | some r' => .ok (r', o.set j ((r[j + (m - 1)]?.getD 0).tdiv (q[m - 1]?.getD 0))) := by
  by_cases h0 : r[j + (m - 1)]?.getD 0 = 0
  · rw [divStep_zero hq h0, if_pos h0]
  · rw [if_neg h0]
    cases ha : addR M j (q.map (mulE (-((r[j + (m - 1)]?.getD 0).tdiv (q[m - 1]?.getD 0))) M)) r with
    | none => exact divStep_lim hq h h0 ha
    | some r' => exact divStep_go hq h h0 ha
theorem big_iff {t z M : Int} (ht : ¬ t = 0) (hM : 0 ≤ M) : (0 < (z.natAbs : Int) ∧ 2 * M / (z.natAbs : Int) < (t.natAbs : Int)) ↔ ¬(-(2 * M / (t.natAbs : Int)) ≤ z ∧ z ≤ 2 * M / (t.natAbs : Int)) := by
  have h1 : 0 < (t.natAbs : Int) := by omega
  have h2 : ¬(-(2 * M / (t.natAbs : Int)) ≤ z ∧ z ≤ 2 * M / (t.natAbs : Int)) ↔ 2 * M / (t.natAbs : Int) < (z.natAbs : Int) := by omega
  rw [h2, Int.ediv_lt_iff_lt_mul h1]
  constructor
  · rintro ⟨h3, h4⟩
    rw [Int.ediv_lt_iff_lt_mul h3] at h4
    rw [Int.mul_comm (z.natAbs : Int)]; exact h4
  · intro h4
    have h3 : 0 < (z.natAbs : Int) := by
      by_cases e : (z.natAbs : Int) = 0
      · rw [e] at h4; omega
      · omega
    refine ⟨h3, ?_⟩
    rw [Int.ediv_lt_iff_lt_mul h3, Int.mul_comm (t.natAbs : Int)]; exact h4
theorem abs_neg' (t : Int) : ((-t).natAbs : Int) = (t.natAbs : Int) := by omega
theorem add_big {M t z : Int} {q R : List Int} {j i m : Nat} (hq : q.length = m) (hi : i < m) (hz : z = q[i]?.getD 0) (ht : ¬ t = 0) (hM : 0 ≤ M) (hR : InM M R) (hbig : 0 < (z.natAbs : Int) ∧ 2 * M / (z.natAbs : Int) < (t.natAbs : Int)) :
    addStep M j (q.map (mulE (-t) M)) i R = none := by
  have h := (big_iff ht hM).1 hbig
  unfold addStep
  have e : (q.map (mulE (-t) M)).getD i 0 = 2 * M + 1 := by
    have : (q.map (mulE (-t) M)).getD i 0 = mulE (-t) M (q.getD i 0) := by simp [List.getD, show i < q.length by omega]
    rw [this, getD_opt, ← hz]; unfold mulE; rw [if_neg (by omega), abs_neg', if_neg h]
  have hr := hR (j + i)
  rw [e, if_neg (by omega)]
theorem add_small {M t z : Int} {q R : List Int} {j i m : Nat} (hq : q.length = m) (hi : i < m) (hz : z = q[i]?.getD 0) (ht : ¬ t = 0) (hM : 0 ≤ M) (hbig : ¬(0 < (z.natAbs : Int) ∧ 2 * M / (z.natAbs : Int) < (t.natAbs : Int))) :
    (-(2 * M) ≤ t * z ∧ t * z ≤ 2 * M) ∧ addStep M j (q.map (mulE (-t) M)) i R = if -M ≤ R[j + i]?.getD 0 - t * z ∧ R[j + i]?.getD 0 - t * z ≤ M then some (R.set (j + i) (R[j + i]?.getD 0 - t * z)) else none := by
  have h : -(2 * M / (t.natAbs : Int)) ≤ z ∧ z ≤ 2 * M / (t.natAbs : Int) := by
    have := mt (big_iff (z := z) ht hM).2 hbig
    omega
  have hb := mul_bound (c := t) hM ht h
  rw [Int.mul_comm z t] at hb
  refine ⟨hb, ?_⟩
  unfold addStep
  have e : (q.map (mulE (-t) M)).getD i 0 = -(t * z) := by
    have : (q.map (mulE (-t) M)).getD i 0 = mulE (-t) M (q.getD i 0) := by simp [List.getD, show i < q.length by omega]
    rw [this, getD_opt, ← hz]; unfold mulE; rw [if_neg (by omega), abs_neg', if_pos h, Int.mul_neg, Int.mul_comm]
  rw [e, getD_opt, Int.add_neg_eq_sub]
theorem zero_of {x y : Int} (h : x.tmod y = 0) (h2 : x.tdiv y = 0) : x = 0 := by
  have := Int.tmod_add_mul_tdiv x y
  rw [h, h2] at this; omega
theorem set_same {o : List Int} {j : Nat} (h : o.getD j 0 = 0) : o.set j 0 = o := by
  apply List.ext_getElem
  · simp
  · intro i h1 h2
    rw [List.getElem_set]
    split
    · subst_vars; simp [List.getD, h2] at h; exact h.symm
    · rfl
theorem trim_all {r : List Int} : ∀ {n : Nat}, (∀ x, x < n → r.getD x 0 = 0) → trimN r n = 0
  | 0, _ => rfl
  | n + 1, h => by rw [trimN_zero (h n (by omega))]; exact trim_all (fun x hx => h x (by omega))
theorem trim_pos {r : List Int} {x : Nat} (hx : ¬ r[x]?.getD 0 = 0) : ∀ {n : Nat}, x < n → 0 < trimN r n
  | 0, h => by omega
  | n + 1, h => by
    by_cases e : r.getD n 0 = 0
    · rw [trimN_zero e]
      by_cases e2 : x = n
      · subst e2; rw [getD_opt] at e; exact absurd e hx
      · exact trim_pos hx (by omega)
    · rw [trimN_stop e]; omega

set_option maxRecDepth 100000 in
set_option maxHeartbeats 4000000 in
theorem l02Divide_any (v u : Value) (p q : List Int) (w : World) (h0 : ReadI w w.heap.size v p) (hn0 : p.length ≤ 1048576) (hw0 : ∀ z ∈ p, (Lit.int .i64 z).wf = true) (h1 : ReadI w w.heap.size u q) (hn1 : q.length ≤ 1048576) (hw1 : ∀ z ∈ q, (Lit.int .i64 z).wf = true)
    (hin : InM 1000000000000 p) (he : endB q = true) (hq0 : 0 < q.length) (hqin : InM 1000000000000 q) :
    Calls Try.prog 84 #[v, u] w (AnsIC w (divL 1000000000000 p q).1 (divL 1000000000000 p q).2) := by
  obtain ⟨n, A, c, rfl, hr, HL⟩ := h0.split
  obtain ⟨m, A1, c1, rfl, hr1, HL1⟩ := h1.split
  have H0 := Lib.hid h0
  have H1 := Lib.hid h1
  have W0 := Lib.hid hw0
  have W1 := Lib.hid hw1
  have HI := Lib.hid hin
  have HQ := Lib.hid hqin
  have HE := Lib.hid he
  have HR1 := Lib.hid hr1
  rw [HL.out] at hn0
  rw [HL1.out] at hn1 hq0
  clear h0 h1 hw0 hw1 hin he hr hr1 hqin
  have hm1 : (1 : Int) ≤ (m : Int) := by omega
  by_cases hn : n = 0
  · subst hn
    have E : Hid (divL 1000000000000 p q = ([], 0)) := Lib.hid (divL_zero (by rw [HL1.out]; exact hq0) HL.out)
    go_enter Try.func84, Try.ntmps84
    go_wp2
    go_ret2
    exact AnsIC.mk' (zs := []) (by rw [E.out]) (by rw [E.out]) (OwnI.mk' (n := 0) (World.ownsRow_made w #[] 0 (Nat.le_refl _) (by unfold maxLen; omega) rfl)) ((Below.refl _ _).alloc (Nat.le_refl _) _)
  have hn1' : 0 < n := by omega
  have TN : ((n : Int) == 0) = false := by simp; omega
  clear hn
  by_cases hlt : n < m
  · have E : Hid (divL 1000000000000 p q = ([], 5)) := Lib.hid (divL_first (Or.inr (by rw [HL.out, HL1.out]; omega)))
    go_enter Try.func84, Try.ntmps84
    go_wp2
    go_ret2
    exact AnsIC.empty (by rw [E.out]) (by rw [E.out]) (Below.refl _ _)
  have hnm : m ≤ n := by omega
  obtain ⟨N, hN⟩ : ∃ N, N = n - (m - 1) := ⟨_, rfl⟩
  have E : Hid (divL 1000000000000 p q = divEnd (divIter 1000000000000 q N (p, List.replicate N 0) N)) := Lib.hid (divL_main (by rw [HL1.out]; exact hq0) (by rw [HL1.out, HL.out]; exact hnm) (by rw [HL1.out, HL.out]; exact hN))
  have HN := Lib.hid hN
  have hNi : (N : Int) = (n : Int) - (m : Int) + 1 := by omega
  have hmk := fun (W : World) => run_make_row' (P := Try.prog) 29 2 (.int .i64 0) 8 Try.underlying29 int_info rfl .i64 .i64 N (by omega) (by omega) W
  have hN1 : 1 ≤ N ∧ N ≤ n := by omega
  have hwr1 : IntKind.i64.wrap ((n : Int) - (m : Int)) = (n : Int) - (m : Int) := IntWalk.i64_in _ (by omega)
  have hwr2 : IntKind.i64.wrap ((n : Int) - (m : Int) + 1) = (N : Int) := by rw [IntWalk.i64_in _ (by omega), hNi]
  have HNI := Lib.hid hNi
  have hNm : N ≤ 9223372036854775807 := by omega
  clear hN hNi
  go_enter Try.func84, Try.ntmps84
  go_upto_region 5 with fail
  go_cut [6, 7] (fun s6 s7 wx => Hid (DivCut w wx n N p s6 s7))
  case first =>
    go_region_with (go_at_call 106; refine (l01Own_any _ p _ w.heap.size ?_ (by rw [HL.out]; omega) ?_).mono ?_; (exact H0.out.below (by repeat (first | exact Below.refl _ _ | apply Below.drew | (refine Below.alloc ?_ (by first | exact Nat.le_refl _ | simp) _)))); (simp); rintro e w1 ⟨v1, rfl, ho, hb⟩; obtain ⟨A2, c2, rfl⟩ := ho.form HL.out; have O1 := Lib.hid ho; have B1 := Lib.hid hb; clear ho hb)
    all_goals (go_wp2_with fail; go_meet; first | exact Lib.hid (div_cut_a (N := N) O1.out ((Below.refl _ w).drew.trans B1.out) hNm) | exact Lib.hid (div_cut_b (N := N) O1.out B1.out hNm))
  case rest =>
    clear hmk hwr1 hwr2
    obtain ⟨A2, c2, g, lo, hi, rfl, rfl, hor0, hoq0, hdis, hlo, hg, hB0⟩ := hcut.out
    have OR := Lib.hid hor0
    have OQ := Lib.hid hoq0
    have BC := Lib.hid hB0
    have HD := Lib.hid hdis
    have HLO := Lib.hid hlo
    have HG := Lib.hid hg
    clear hcut hor0 hoq0 hdis hlo hg hB0
    obtain ⟨a, rfl, hab, hcl⟩ := HR1.out.2 (m - 1) (by omega)
    rw [getD_opt] at hcl
    have hcl' : wc.cell? (a.add (m - 1)) = some (.int .i64 (q[m - 1]?.getD 0)) := by rw [BC.out.cell (by rw [add_block]; exact hab)]; exact hcl
    have h5 : (0 : Int) ≤ (m : Int) - 1 := by omega
    clear hcl
    have hld := lead_ne HL1.out hq0 HE.out
    have hldw := wf_at W1.out (m - 1)
    have hcap : n ≤ c2 ∧ c2 ≤ 9223372036854775807 := by
      obtain ⟨A', c', e, _, _, h1, _, h2⟩ := OR.out.reads
      simp only [Value.slice.injEq] at e
      have := HL.out; omega
    have HC := Lib.hid hcap
    clear hcap
    go_wp2_with fail
    go_loopw [9] (fun vi wr => ∃ (k : Nat) (y : Int) (r o : List Int), k ≤ N ∧ vi = .int .i64 y ∧ Hid (y = (k : Int) - 1) ∧ (-1 ≤ y ∧ y ≤ N) ∧ Hid (divIter 1000000000000 q N (p, List.replicate N 0) (N - k) = .ok (r, o)) ∧ Hid (OwnI wr lo hi (.slice A2 n c2) r) ∧ Hid (OwnI wr g (g + 1) (.slice (some ⟨g, 0, none⟩) N N) o) ∧ Hid (∀ i, i < k → o.getD i 0 = 0) ∧ Hid (Below w.heap.size w wr)) (fun vi _ => (intOf vi + 1).toNat)
    case atStart => exact ⟨N, (N : Int) - 1, p, List.replicate N 0, by omega, rfl, Lib.hid rfl, by omega, Lib.hid (by rw [Nat.sub_self]; rfl), OR, OQ, Lib.hid (fun i _ => rep_zero N i), BC⟩
    case round =>
      obtain ⟨k, y, r, o, hk, rfl, hy, hyb, hit, hor, hoq, hza, hb⟩ := hrel
      by_cases hk0 : 0 ≤ y
      rotate_left
      · obtain rfl : k = 0 := by have := hy.out; omega
        have hrl : r.length = n := by have := (divIter_ok hit.out).1; rw [HL.out] at this; exact this
        have HRL := Lib.hid hrl
        have hrin : InM 1000000000000 r := (divIter_ok hit.out).2.2 HI.out
        have HEE : Hid (divL 1000000000000 p q = if trimN r n = 0 then (o, 0) else ([], 5)) := Lib.hid (by
          rw [E.out]; have h := hit.out; rw [Nat.sub_zero] at h; rw [h, divEnd_ok, hrl])
        have HRIN := Lib.hid hrin
        clear hrl hrin
        obtain ⟨wo, rfl⟩ : ∃ wo : World, wo = wr := ⟨_, rfl⟩
        go_wp2_with fail
        go_loop [14] (fun vi => ∃ i : Nat, i ≤ n ∧ vi = .int .i64 i ∧ Hid (∀ x, x < i → r.getD x 0 = 0)) (fun vi => n - (intOf vi).toNat)
        case atStart => exact ⟨0, by omega, rfl, Lib.hid (fun x hx => by omega)⟩
        case round =>
          obtain ⟨i, hi, rfl, hz⟩ := hrel
          by_cases hlt2 : i < n
          · obtain ⟨g1, rfl, _, _, hct, _⟩ := own_at (j := i) hor.out HRL.out hlt2
            have hri := HRIN.out.at i
            by_cases hne : r[i]?.getD 0 = 0
            · have T : ((r[i]?.getD 0 : Int) != 0) = false := by simp [hne]
              have HZ : Hid (∀ x, x < i + 1 → r.getD x 0 = 0) := Lib.hid (fun x hx => by
                by_cases e : x = i
                · subst e; rw [getD_opt]; exact hne
                · exact hz.out x (by omega))
              clear hne
              go_wp2_with fail
              go_round
              case rel => exact ⟨i + 1, by omega, by go_num, HZ⟩
              case measure => simp [intOf]; omega
            · have T : ((r[i]?.getD 0 : Int) != 0) = true := by simp [hne]
              have htp := trim_pos hne hlt2
              rw [if_neg (by omega)] at HEE
              clear hne htp
              go_wp2_with fail
              go_ret2
              exact AnsIC.empty (by rw [HEE.out]) (by rw [HEE.out]) hb.out
          · obtain rfl : i = n := by omega
            rw [if_pos (trim_all hz.out)] at HEE
            go_wp2_with fail
            go_ret2
            exact AnsIC.mk' (by rw [HEE.out]) (by rw [HEE.out]) ((own_less hoq.out HG.out).raise hoq.out.2.2 (Nat.le_refl _)) hb.out
      obtain ⟨j, rfl⟩ : ∃ j : Nat, y = (j : Int) := ⟨y.toNat, by omega⟩
      have hkj : k = j + 1 := by have := hy.out; omega
      have HKJ := Lib.hid hkj
      have hjN : j < N := by omega
      have hjn : j + (m - 1) < n := by have := HN.out; omega
      clear hkj hyb hk0
      have hrl : r.length = n := by have := (divIter_ok hit.out).1; rw [HL.out] at this; exact this
      have hol : o.length = N := by have := (divIter_ok hit.out).2.1; simpa using this
      have hrin : InM 1000000000000 r := (divIter_ok hit.out).2.2 HI.out
      have hst := divIter_step hit.out
      rw [show N - k + 1 = N - j by have := HKJ.out; omega, show N - 1 - (N - k) = j by have := HKJ.out; omega] at hst
      have HST := Lib.hid hst
      obtain ⟨g1, rfl, hg1, hg2, hct, hft⟩ := own_at (j := j + (m - 1)) hor.out hrl hjn
      obtain ⟨g2, e2, hq1, hq2, hcq, hfq⟩ := own_at (j := j) hoq.out hol hjN
      simp only [Option.some.injEq, Addr.mk.injEq, and_true] at e2
      subst e2
      have hclr : wr.cell? (a.add (m - 1)) = some (.int .i64 (q[m - 1]?.getD 0)) := by
        obtain ⟨_, e, _, h⟩ := HR1.out.2 (m - 1) (by omega)
        cases e
        rw [hb.out.cell (by rw [add_block]; exact hab), h, getD_opt]
      have htop := hrin.at (j + (m - 1))
      have htd := tdiv_in (y := q[m - 1]?.getD 0) htop
      have h6 : (0 : Int) ≤ (j : Int) + (m : Int) - 1 := by omega
      have h7 : (j : Int) + (m : Int) - 1 < n := by omega
      have h8 : ((j : Int) + (m : Int) - 1).toNat = j + (m - 1) := by omega
      have HRL := Lib.hid hrl
      have HOL := Lib.hid hol
      have HRIN := Lib.hid hrin
      clear hst hrl hol hrin
      by_cases hmod : (r[j + (m - 1)]?.getD 0).tmod (q[m - 1]?.getD 0) = 0
      rotate_left
      · have TT : (((r[j + (m - 1)]?.getD 0).tmod (q[m - 1]?.getD 0) : Int) != 0) = true := by simp [hmod]
        have HS := HST.out
        rw [divStep_mod HL1.out hmod] at HS
        have HE5 : Hid (divL 1000000000000 p q = ([], 5)) := Lib.hid (by rw [E.out, divIter_error HS (by omega)]; rfl)
        clear HS hmod
        go_wp2_with fail
        go_ret2
        exact AnsIC.empty (by rw [HE5.out]) (by rw [HE5.out]) hb.out
      have TT : (((r[j + (m - 1)]?.getD 0).tmod (q[m - 1]?.getD 0) : Int) != 0) = false := by simp [hmod]
      have HM := Lib.hid hmod
      clear hmod
      have HOS := Lib.hid (own_store (j := j) hoq.out HOL.out ((r[j + (m - 1)]?.getD 0).tdiv (q[m - 1]?.getD 0)))
      have HB1 : Hid (Below w.heap.size w (wr.setCell ⟨g, j, none⟩ (.int .i64 ((r[j + (m - 1)]?.getD 0).tdiv (q[m - 1]?.getD 0))))) := Lib.hid (hb.out.setCell (p := ⟨g, j, none⟩) HG.out _)
      have HRS := Lib.hid (hor.out.kept (kept_setCell (lo := lo) (hi := hi) wr (p := ⟨g, j, none⟩) (by have := HD.out; show g < lo ∨ hi ≤ g; omega) (.int .i64 ((r[j + (m - 1)]?.getD 0).tdiv (q[m - 1]?.getD 0)))))
      have HDG : Hid (divStep 1000000000000 q j (r, o) = if r[j + (m - 1)]?.getD 0 = 0 then .ok (r, o) else match addR 1000000000000 j (q.map (mulE (-((r[j + (m - 1)]?.getD 0).tdiv (q[m - 1]?.getD 0))) 1000000000000)) r with | none => .error 3 | some r' => .ok (r', o.set j ((r[j + (m - 1)]?.getD 0).tdiv (q[m - 1]?.getD 0)))) := Lib.hid (div_split HL1.out HM.out)
      have HZE : Hid ((r[j + (m - 1)]?.getD 0).tdiv (q[m - 1]?.getD 0) = 0 ↔ r[j + (m - 1)]?.getD 0 = 0) := Lib.hid ⟨fun h => zero_of HM.out h, fun h => by rw [h]; exact Int.zero_tdiv _⟩
      obtain ⟨wo, rfl⟩ : ∃ wo : World, wo = wr := ⟨_, rfl⟩
      go_wp2_with fail
      obtain ⟨t, ht⟩ : ∃ t, t = (r[j + (m - 1)]?.getD 0).tdiv (q[m - 1]?.getD 0) := ⟨_, rfl⟩
      rw [← ht] at HOS HB1 HRS HDG HZE htd
      simp only [← ht]
      have HT := Lib.hid ht
      clear ht hct hft hcq hfq hclr TT
      have hset : (o.set j t)[j]?.getD 0 = t := by have := HOL.out; simp [show j < o.length by omega]
      have HSET := Lib.hid hset
      clear hset
      by_cases ht0 : t = 0
      · have HSAME : Hid (o.set j t = o) := Lib.hid (by rw [ht0]; exact set_same (hza.out j (by have := HKJ.out; omega)))
        have HGO : Hid (divIter 1000000000000 q N (p, List.replicate N 0) (N - j) = .ok (r, o)) := Lib.hid (by rw [HST.out, HDG.out, if_pos (HZE.out.1 ht0)])
        have T0 : (t != 0) = false := by simp [ht0]
        clear ht0
        go_loopw [11] (fun vi wr => vi = .int .i64 0 ∧ Hid (OwnI wr lo hi (.slice (some ⟨g1, 0, none⟩) n c2) r) ∧ Hid (OwnI wr g (g + 1) (.slice (some ⟨g, 0, none⟩) N N) (o.set j t)) ∧ Hid (Below w.heap.size w wr)) (fun _ _ => 0)
        case atStart => exact ⟨rfl, HRS, HOS, HB1⟩
        case round =>
          obtain ⟨rfl, hoR, hoO, hbR⟩ := hrel
          obtain ⟨_, e3, _, _, hco, hfo⟩ := own_at (j := j) hoO.out (by rw [List.length_set]; exact HOL.out) hjN
          cases e3
          rw [HSET.out] at hco
          go_wp2_with fail
          go_roundw
          case rel => exact ⟨j, (j : Int) - 1, r, o, by omega, rfl, Lib.hid rfl, by omega, HGO, hoR, Lib.hid (HSAME.out ▸ hoO.out), Lib.hid (fun i hi => hza.out i (by have := HKJ.out; omega)), hbR⟩
          case measure => simp [intOf] <;> omega
      have T0 : (t != 0) = true := by simp [ht0]
      have HT0 := Lib.hid ht0
      clear ht0
      go_loopw [11] (fun vi wr => ∃ (i : Nat) (R : List Int), i ≤ m ∧ vi = .int .i64 i ∧ Hid (iterO (addStep 1000000000000 j (q.map (mulE (-t) 1000000000000))) i r = some R) ∧ Hid (OwnI wr lo hi (.slice (some ⟨g1, 0, none⟩) n c2) R) ∧ Hid (OwnI wr g (g + 1) (.slice (some ⟨g, 0, none⟩) N N) (o.set j t)) ∧ Hid (Below w.heap.size w wr)) (fun vi _ => m - (intOf vi).toNat)
      case atStart => exact ⟨0, r, by omega, rfl, Lib.hid rfl, HRS, HOS, HB1⟩
      case round =>
        obtain ⟨i, R, hil, rfl, hiR, hoR, hoO, hbR⟩ := hrel
        by_cases him : i < m
        rotate_left
        · obtain rfl : i = m := by omega
          have HADD : Hid (addR 1000000000000 j (q.map (mulE (-t) 1000000000000)) r = some R) := Lib.hid (by unfold addR; rw [List.length_map, HL1.out]; exact hiR.out)
          have HGO : Hid (divIter 1000000000000 q N (p, List.replicate N 0) (N - j) = .ok (R, o.set j t)) := Lib.hid (by rw [HST.out, HDG.out, if_neg (fun h => HT0.out (HZE.out.2 h)), HADD.out])
          have hzz : ∀ i, i < j → (o.set j t).getD i 0 = 0 := fun i hi => by
            rw [getD_opt, List.getElem?_set, if_neg (by omega), ← getD_opt]; exact hza.out i (by have := HKJ.out; omega)
          have HZZ := Lib.hid hzz
          clear hzz
          go_wp2_with fail
          go_roundw
          case rel => exact ⟨j, (j : Int) - 1, R, o.set j t, by omega, rfl, Lib.hid rfl, by omega, HGO, hoR, hoO, HZZ, hbR⟩
          case measure => simp [intOf] <;> omega
        have hRlen : R.length = n := by have := iterO_inv (P := fun x => x.length = r.length) rfl (fun k x y hx hy => (addStep_len hy).trans hx) hiR.out; rw [this]; exact HRL.out
        have hRin : InM 1000000000000 R := iterO_inv (P := InM 1000000000000) HRIN.out (fun k x y hx hy => addStep_in hx hy) hiR.out
        obtain ⟨_, e3, _, _, hco, hfo⟩ := own_at (j := j) hoO.out (by rw [List.length_set]; exact HOL.out) hjN
        cases e3
        rw [HSET.out] at hco
        obtain ⟨_, e4, hr1, hr2, hcr, hfr⟩ := own_at (j := j + i) hoR.out hRlen (by omega)
        cases e4
        obtain ⟨_, e5, _, hcz⟩ := HR1.out.2 i him
        cases e5
        rw [getD_opt] at hcz
        have hczr : wr.cell? (a.add i) = some (.int .i64 (q[i]?.getD 0)) := by rw [hbR.out.cell (by rw [add_block]; exact hab)]; exact hcz
        have hzb := HQ.out.at i
        have hRb := hRin.at (j + i)
        have HRL2 := Lib.hid hRlen
        have HRI2 := Lib.hid hRin
        have hmt : (if t < -t then -t else t) = (t.natAbs : Int) := by split <;> omega
        have hmz : (if q[i]?.getD 0 < -(q[i]?.getD 0) then -(q[i]?.getD 0) else q[i]?.getD 0) = ((q[i]?.getD 0).natAbs : Int) := by split <;> omega
        have ha1 : 0 ≤ (t.natAbs : Int) ∧ (t.natAbs : Int) ≤ 1000000000000 := by omega
        have ha2 : 0 ≤ ((q[i]?.getD 0).natAbs : Int) ∧ ((q[i]?.getD 0).natAbs : Int) ≤ 1000000000000 := by omega
        clear hcz hRlen hRin
        by_cases hbig : 0 < ((q[i]?.getD 0).natAbs : Int) ∧ 2 * 1000000000000 / ((q[i]?.getD 0).natAbs : Int) < (t.natAbs : Int)
        · have HN1 : Hid (divL 1000000000000 p q = ([], 3)) := Lib.hid (by
            have e1 := add_big (R := R) (j := j) HL1.out him rfl HT0.out (show (0 : Int) ≤ 1000000000000 by omega) HRI2.out hbig
            have e2 : addR 1000000000000 j (q.map (mulE (-t) 1000000000000)) r = none := iterO_none (by rw [iterO_step hiR.out]; exact e1) (by rw [List.length_map, HL1.out]; omega)
            have e3 := HST.out
            rw [HDG.out, if_neg (fun h => HT0.out (HZE.out.2 h)), e2] at e3
            rw [E.out, divIter_error e3 (by omega)]; rfl)
          obtain ⟨hb1, hb2⟩ := hbig
          rw [show (2 : Int) * 1000000000000 = 2000000000000 from rfl] at hb2
          go_wp2_with fail
          go_quiet (fail)
          go_wp2_with fail
          go_ret2
          exact AnsIC.empty (by rw [HN1.out]) (by rw [HN1.out]) (below_drewN hbR.out _)
        obtain ⟨hpb, hst2⟩ := add_small (R := R) (j := j) HL1.out him rfl HT0.out (show (0 : Int) ≤ 1000000000000 by omega) hbig
        have hpb2 : -2000000000000 ≤ t * q[i]?.getD 0 ∧ t * q[i]?.getD 0 ≤ 2000000000000 := by omega
        have HST2 := Lib.hid hst2
        have hbig2 : ((q[i]?.getD 0).natAbs : Int) ≤ 0 ∨ (0 < ((q[i]?.getD 0).natAbs : Int) ∧ (t.natAbs : Int) ≤ 2000000000000 / ((q[i]?.getD 0).natAbs : Int)) := by
          rw [show (2 : Int) * 1000000000000 = 2000000000000 from rfl] at hbig
          by_cases e : 0 < ((q[i]?.getD 0).natAbs : Int)
          · refine Or.inr ⟨e, ?_⟩
            exact Int.not_lt.1 (fun h => hbig ⟨e, h⟩)
          · exact Or.inl (by omega)
        have hji : (0 : Int) ≤ (j : Int) + (i : Int) ∧ (j : Int) + (i : Int) < n := by omega
        have hg1lo : w.heap.size ≤ g1 := by have := HLO.out; omega
        clear hbig hpb hst2
        by_cases hw : -1000000000000 ≤ R[j + i]?.getD 0 - t * q[i]?.getD 0 ∧ R[j + i]?.getD 0 - t * q[i]?.getD 0 ≤ 1000000000000
        · have HN1 : Hid (iterO (addStep 1000000000000 j (q.map (mulE (-t) 1000000000000))) (i + 1) r = some (R.set (j + i) (R[j + i]?.getD 0 - t * q[i]?.getD 0))) := Lib.hid (by rw [iterO_step hiR.out, HST2.out, if_pos hw])
          rcases hbig2 with hB | ⟨hB, hB2⟩
          all_goals
            go_wp2_with fail
            go_quiet (fail)
            go_wp2_with fail
            go_region
            all_goals
              go_wp2_with (go_at_call 72; refine (inY _ _ _ _ (by omega) (by omega)).mono ?_; rintro e w' ⟨rfl, rfl⟩)
              go_roundw
              case rel => exact ⟨i + 1, _, by omega, by go_num, HN1, Lib.hid (own_store hoR.out HRL2.out _), Lib.hid (hoO.out.kept (Kept.trans (Kept.drewN _ _ _ _) (kept_setCell _ (p := ⟨g1, j + i, none⟩) (by have := HD.out; show g1 < g ∨ g + 1 ≤ g1; omega) _))), Lib.hid ((below_drewN hbR.out _).setCell (p := ⟨g1, j + i, none⟩) hg1lo _)⟩
              case measure => simp [intOf]; omega
        · have HN1 : Hid (divL 1000000000000 p q = ([], 3)) := Lib.hid (by
            have e1 := HST2.out
            rw [if_neg hw] at e1
            have e2 : addR 1000000000000 j (q.map (mulE (-t) 1000000000000)) r = none := iterO_none (by rw [iterO_step hiR.out]; exact e1) (by rw [List.length_map, HL1.out]; omega)
            have e3 := HST.out
            rw [HDG.out, if_neg (fun h => HT0.out (HZE.out.2 h)), e2] at e3
            rw [E.out, divIter_error e3 (by omega)]; rfl)
          have HW := Lib.hid hw
          clear hw
          rcases hbig2 with hB | ⟨hB, hB2⟩
          all_goals
            go_wp2_with fail
            go_quiet (fail)
            go_wp2_with fail
            go_region
            all_goals
              go_wp2_with (go_at_call 72; refine (inN _ _ _ _ (by have := HW.out; omega)).mono ?_; rintro e w' ⟨rfl, rfl⟩)
              go_ret2
              exact AnsIC.empty (by rw [HN1.out]) (by rw [HN1.out]) ((below_drewN hbR.out _).setCell (p := ⟨g1, j + i, none⟩) hg1lo _)
end Go.Proofs.Ytbipihamkfifjaa
