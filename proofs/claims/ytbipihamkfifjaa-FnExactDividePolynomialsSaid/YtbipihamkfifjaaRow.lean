/- Multiples of lists and rows added to lists, as the program does it: contracts of impl.absolute, impl.multipleOf, impl.addRow. Conditions: stated at each theorem. -/
import Derived.Test.YtbipihamkfifjaaPlus
namespace Go.Proofs.Ytbipihamkfifjaa
open Go.ChangeShapes Go.WideShapes Go.ChangeAt Go.RowKit
set_option linter.unusedVariables false

theorem absolute_any (n : Int) (w : World) (h1 : -9223372036854775807 ≤ n) (h2 : n ≤ 9223372036854775807) :
    Calls Try.prog 91 #[.int .i64 n] w fun e w' => e = .returned (.int .i64 (n.natAbs : Int)) ∧ w = w' := by
  by_cases h : n < 0
  · have e : (n.natAbs : Int) = -n := by omega
    rw [e]
    go_enter Try.func91, Try.ntmps91
    go_wp2
    go_ret
    exact ⟨rfl, rfl⟩
  · have e : (n.natAbs : Int) = n := by omega
    rw [e]
    go_enter Try.func91, Try.ntmps91
    go_wp2
    go_ret
    exact ⟨rfl, rfl⟩

/-- c times n, or a number beyond the limit where this is more than twice the limit. -/
def mulE (c M n : Int) : Int := if c = 0 then 0 else if -(2 * M / (c.natAbs : Int)) ≤ n ∧ n ≤ 2 * M / (c.natAbs : Int) then n * c else 2 * M + 1
theorem mul_bound {c M n : Int} (hM : 0 ≤ M) (hc : c ≠ 0) (h : -(2 * M / (c.natAbs : Int)) ≤ n ∧ n ≤ 2 * M / (c.natAbs : Int)) : -(2 * M) ≤ n * c ∧ n * c ≤ 2 * M := by
  have h1 : (n.natAbs : Int) ≤ 2 * M / (c.natAbs : Int) := by omega
  have h2 : (n.natAbs : Int) * (c.natAbs : Int) ≤ 2 * M / (c.natAbs : Int) * (c.natAbs : Int) := Int.mul_le_mul_of_nonneg_right h1 (by omega)
  have h3 := Int.ediv_mul_le (2 * M) (show (c.natAbs : Int) ≠ 0 by omega)
  have h4 : ((n * c).natAbs : Int) = (n.natAbs : Int) * (c.natAbs : Int) := by rw [Int.natAbs_mul]; exact Int.natCast_mul _ _
  omega
theorem mulE_bound {c M n : Int} (hM : 0 ≤ M) : -(2 * M + 1) ≤ mulE c M n ∧ mulE c M n ≤ 2 * M + 1 := by
  unfold mulE
  split
  · omega
  · split
    · have := mul_bound hM ‹_› ‹_›; omega
    · omega
theorem quot_in {c M : Int} (hM : 0 ≤ M) : 0 ≤ 2 * M / (c.natAbs : Int) ∧ 2 * M / (c.natAbs : Int) ≤ 2 * M :=
  ⟨Int.ediv_nonneg (by omega) (by omega), Int.ediv_le_self _ (by omega)⟩
theorem own_of_row {w : World} {g n lo : Nat} {f : Nat → Value} {zs : List Int} (h : w.rowIs g 2 n f) (hl : zs.length = n) (hf : ∀ i, i < n → f i = .int .i64 (zs.getD i 0)) (hlo : lo ≤ g) (hn : n ≤ 9223372036854775807) :
    OwnI w lo w.heap.size (.slice (some ⟨g, 0, none⟩) n n) zs := by
  obtain ⟨cs, h1, h2, h3⟩ := h
  refine OwnI.mk' (n := n) ⟨by simp [hl], .inr ⟨g, n, cs, rfl, hlo, h1, Nat.le_refl _, by unfold maxLen; omega, by omega, ?_⟩⟩
  apply List.ext_getElem?
  intro i
  by_cases hi : i < n
  · have := h3 i hi
    simp only [Nat.mul_one, List.getElem?_take, hi, if_true, Array.getElem?_toList, this, hf i hi]
    simp [hl, hi]
  · rw [List.getElem?_eq_none (by simp; omega), List.getElem?_eq_none (by simp; omega)]

set_option maxRecDepth 100000 in
theorem multipleOf_any (v : Value) (q : List Int) (s M : Int) (w : World) (B : Nat) (h : ReadI w B v q) (hn : q.length ≤ 1048576) (hB : B ≤ w.heap.size) (hw : ∀ z ∈ q, (Lit.int .i64 z).wf = true)
    (hs1 : -9223372036854775807 ≤ s) (hs2 : s ≤ 9223372036854775807) (hM1 : 1 ≤ M) (hM2 : M ≤ 4503599627370496) :
    Calls Try.prog 102 #[v, .int .i64 s, .int .i64 M] w fun e w' => ∃ v', e = .returned v' ∧ OwnI w' w.heap.size w'.heap.size v' (q.map (mulE s M)) ∧ Below w.heap.size w w' := by
  obtain ⟨n, A, c, rfl, hr, HL⟩ := h.split
  rw [HL.out] at hn
  have H0 := Lib.hid hr
  have HW := Lib.hid hw
  have S0 := Lib.hid hB
  clear hr h hw hB
  have hmk := fun (W : World) => run_make_row' (P := Try.prog) 29 2 (.int .i64 0) 8 Try.underlying29 int_info rfl .i64 .i64 n (by omega) (by omega) W
  by_cases hs : s = 0
  · subst hs
    go_enter Try.func102, Try.ntmps102
    go_wp2
    go_ret
    exact ⟨_, rfl, own_of_row (World.rowIs_made w _ n _) (by simp [HL.out]) (fun i hi => by simp [mulE, HL.out, hi]) (Nat.le_refl _) (by omega), (Below.refl _ _).alloc (Nat.le_refl _) _⟩
  · have T : (s == 0) = false := by simp [hs]
    have hq := quot_in (c := s) (show 0 ≤ M by omega)
    have hq1 : (1 : Int) ≤ (s.natAbs : Int) := by omega
    have HS := Lib.hid hs
    clear hs
    go_enter Try.func102, Try.ntmps102
    go_wp2_with (go_at_call 91; refine (absolute_any s _ hs1 hs2).mono ?_; rintro e w' ⟨rfl, rfl⟩)
    clear hmk
    go_loopw [24] (fun vi wr => ∃ k : Nat, k ≤ n ∧ vi = .int .i64 k ∧ Hid (wr.rowIs w.heap.size 2 n (fun j => if j < k then .int .i64 (mulE s M (q.getD j 0)) else .int .i64 0)) ∧ Hid (Below w.heap.size w wr)) (fun vi _ => n - (intOf vi).toNat)
    case atStart => exact ⟨0, by omega, rfl, Lib.hid ((World.rowIs_made w _ n _).congr (fun i hi => by simp)), Lib.hid ((Below.refl _ _).alloc (Nat.le_refl _) _)⟩
    case round =>
      obtain ⟨k, hk, rfl, hrow, hb⟩ := hrel
      by_cases hlt : k < n
      · obtain ⟨a, rfl, hab, hcell⟩ := H0.out.2 k hlt
        have hcell' : wr.cell? (a.add k) = some (.int .i64 (q[k]?.getD 0)) := by rw [hb.out.cell (by rw [add_block]; have := S0.out; omega)]; simpa using hcell
        have hz := wf_at HW.out k
        have hdst := hrow.out.cell hlt
        simp only [Nat.lt_irrefl, if_false] at hdst
        have hfz := hrow.out.frozen k
        clear hcell
        by_cases hwi : -(2 * M / (s.natAbs : Int)) ≤ q[k]?.getD 0 ∧ q[k]?.getD 0 ≤ 2 * M / (s.natAbs : Int)
        · have hmb := mul_bound (show 0 ≤ M by omega) HS.out hwi
          have HE : Hid (mulE s M (q[k]?.getD 0) = q[k]?.getD 0 * s) := Lib.hid (by unfold mulE; rw [if_neg HS.out, if_pos hwi])
          have HI := Lib.hid hwi
          clear hwi
          go_wp2_with (go_at_call 79; refine (withinY _ _ _ HI.out.1 HI.out.2 (by omega) (by omega)).mono ?_; rintro e w' ⟨rfl, rfl⟩)
          go_roundw
          case rel =>
            refine ⟨k + 1, by omega, by go_num, Lib.hid (((hrow.out.set k _).set k _).congr fun j hj => ?_), Lib.hid ((hb.out.setCell (Nat.le_refl _) _).setCell (Nat.le_refl _) _)⟩
            by_cases h1 : j = k
            · subst h1; simp [HE.out]
            · by_cases h2 : j < k
              · simp [h1, h2, show j < k + 1 by omega]
              · simp [h1, h2, show ¬ j < k + 1 by omega]
          case measure => simp [intOf]; omega
        · have HE : Hid (mulE s M (q[k]?.getD 0) = 2 * M + 1) := Lib.hid (by unfold mulE; rw [if_neg HS.out, if_neg hwi])
          have HI := Lib.hid hwi
          clear hwi
          go_wp2_with (go_at_call 79; refine (withinN _ _ _ HI.out (by omega) (by omega)).mono ?_; rintro e w' ⟨rfl, rfl⟩)
          go_roundw
          case rel =>
            refine ⟨k + 1, by omega, by go_num, Lib.hid ((hrow.out.set k _).congr fun j hj => ?_), Lib.hid (hb.out.setCell (Nat.le_refl _) _)⟩
            by_cases h1 : j = k
            · subst h1; simp [HE.out]
            · by_cases h2 : j < k
              · simp [h1, h2, show j < k + 1 by omega]
              · simp [h1, h2, show ¬ j < k + 1 by omega]
          case measure => simp [intOf]; omega
      · obtain rfl : k = n := by omega
        go_wp2
        go_ret
        exact ⟨_, rfl, own_of_row hrow.out (by simp [HL.out]) (fun i hi => by simp [HL.out, hi, List.getD]) (Nat.le_refl _) (by omega), hb.out⟩

/-- The sum of the numbers from a place on and of a row, none if one leaves the limit. -/
def addStep (M : Int) (place : Nat) (ns : List Int) (i : Nat) (l : List Int) : Option (List Int) :=
  if -M ≤ l.getD (place + i) 0 + ns.getD i 0 ∧ l.getD (place + i) 0 + ns.getD i 0 ≤ M then some (l.set (place + i) (l.getD (place + i) 0 + ns.getD i 0)) else none
def addR (M : Int) (place : Nat) (ns l : List Int) : Option (List Int) := iterO (addStep M place ns) ns.length l
def InM (M : Int) (l : List Int) : Prop := ∀ i, -M ≤ l.getD i 0 ∧ l.getD i 0 ≤ M
theorem InM.set {M : Int} {l : List Int} (h : InM M l) {z : Int} (hz : -M ≤ z ∧ z ≤ M) (j : Nat) : InM M (l.set j z) := by
  intro i
  rw [getD_opt, List.getElem?_set]
  have hi := h i
  rw [getD_opt] at hi
  by_cases e : j = i
  · subst e
    by_cases h2 : j < l.length
    · simp [h2]; exact hz
    · rw [if_pos rfl, if_neg h2]
      rw [List.getElem?_eq_none (by omega)] at hi
      exact hi
  · rw [if_neg e]; exact hi
theorem addStep_len {M : Int} {place : Nat} {ns l l' : List Int} {i : Nat} (h : addStep M place ns i l = some l') : l'.length = l.length := by
  unfold addStep at h; split at h
  · cases h; simp
  · cases h
theorem addStep_in {M : Int} {place : Nat} {ns l l' : List Int} {i : Nat} (hl : InM M l) (h : addStep M place ns i l = some l') : InM M l' := by
  unfold addStep at h; split at h
  · cases h; exact hl.set ‹_› _
  · cases h
theorem addR_len {M : Int} {place : Nat} {ns l l' : List Int} (h : addR M place ns l = some l') : l'.length = l.length :=
  iterO_inv (P := fun x => x.length = l.length) rfl (fun k x y hx hy => (addStep_len hy).trans hx) h
theorem addR_in {M : Int} {place : Nat} {ns l l' : List Int} (hl : InM M l) (h : addR M place ns l = some l') : InM M l' :=
  iterO_inv (P := InM M) hl (fun k x y hx hy => addStep_in hx hy) h

/-- What addRow leaves. -/
def AddPost (w : World) (lo hi : Nat) (v : Value) (r : Option (List Int)) (e : Ending) (w' : World) : Prop :=
  e = .returned (.bool r.isSome) ∧ (∀ l', r = some l' → OwnI w' lo hi v l') ∧ Only lo hi w w'

set_option maxRecDepth 100000 in
theorem addRow_any (A : Option Addr) (n c : Nat) (l : List Int) (u : Value) (ns : List Int) (place : Nat) (M : Int) (lo hi B : Nat) (w : World) (hown : OwnI w lo hi (.slice A n c) l) (hl : l.length = n) (hnc : n ≤ c) (hcm : c ≤ 9223372036854775807)
    (hu : ∀ W, Only lo hi w W → ReadI W W.heap.size u ns) (hfit : place + ns.length ≤ n) (hn : n ≤ 1048576) (hM1 : 1 ≤ M) (hM2 : M ≤ 4503599627370496) (hin : InM M l) (hns : ∀ i, -(2 * M + 1) ≤ ns.getD i 0 ∧ ns.getD i 0 ≤ 2 * M + 1) :
    Calls Try.prog 74 #[.slice A n c, .agg #[.int .i64 place, u], .int .i64 M] w (AddPost w lo hi (.slice A n c) (addR M place ns l)) := by
  obtain ⟨m, A1, c1, rfl, _, HL⟩ := (hu w (Only.refl _ _ _)).split
  have HU := Lib.hid hu
  have HI := Lib.hid hin
  have HN := Lib.hid hns
  have HO := Lib.hid hown
  have HLL := Lib.hid hl
  have hS := hown.2.2
  rw [HL.out] at hfit
  clear hu hin hns hown hl
  by_cases hm0 : m = 0
  · subst hm0
    have hpc : place ≤ c := by omega
    have R : Hid (addR M place ns l = some l) := Lib.hid (by unfold addR; rw [HL.out]; rfl)
    go_enter Try.func74, Try.ntmps74
    go_wp2
    all_goals
      go_loopw [17] (fun vi wr => vi = .int .i64 0 ∧ Hid (Only lo hi w wr ∧ OwnI wr lo hi (.slice A n c) l)) (fun _ _ => 0)
      case atStart => exact ⟨rfl, Lib.hid ⟨only_alloc w _ _ _, HO.out.kept (Kept.of_below ((Below.refl _ _).alloc (Nat.le_refl w.heap.size) _) hS)⟩⟩
      case round =>
        obtain ⟨rfl, ho⟩ := hrel
        go_wp2
        go_ret
        exact ⟨by rw [R.out]; rfl, (fun l' h => by rw [R.out] at h; cases h; exact ho.out.2), ho.out.1⟩
  · obtain ⟨g, rfl, hg1, hg2, hx1, hx2⟩ := own_cell (j := place) HO.out HLL.out (by omega) (List.getElem?_eq_getElem (by rw [HLL.out]; omega))
    have hcp : ¬ c = place := by omega
    have hpc : place ≤ c := by omega
    clear hx1 hx2 hm0
    go_enter Try.func74, Try.ntmps74
    go_wp2
    go_loopw [17] (fun vi wr => ∃ (k : Nat) (l' : List Int), k ≤ m ∧ vi = .int .i64 k ∧ Hid (iterO (addStep M place ns) k l = some l') ∧ Hid (Only lo hi w wr ∧ OwnI wr lo hi (.slice (some ⟨g, 0, none⟩) n c) l')) (fun vi _ => m - (intOf vi).toNat)
    case atStart => exact ⟨0, l, by omega, rfl, Lib.hid rfl, Lib.hid ⟨only_alloc w _ _ _, HO.out.kept (Kept.of_below ((Below.refl _ _).alloc (Nat.le_refl w.heap.size) _) hS)⟩⟩
    case round =>
      obtain ⟨k, l', hk, rfl, hit, ho⟩ := hrel
      by_cases hlt : k < m
      · have hl' : l'.length = n := by rw [iterO_inv (P := fun x => x.length = l.length) rfl (fun k x y hx hy => (addStep_len hy).trans hx) hit.out, HLL.out]
        have hin' : InM M l' := iterO_inv (P := InM M) HI.out (fun k x y hx hy => addStep_in hx hy) hit.out
        obtain ⟨g', e, _, _, hcs, hfz⟩ := own_cell (j := place + k) ho.out.2 hl' (by omega) (List.getElem?_eq_getElem (by omega))
        simp only [Option.some.injEq, Addr.mk.injEq, and_true] at e
        subst e
        obtain ⟨a, rfl, hab, hcell⟩ := (HU.out wr ho.out.1).ri.2 k hlt
        have e1 : l'[place + k]'(by omega) = l'[place + k]?.getD 0 := by simp [show place + k < l'.length by omega]
        rw [e1] at hcs
        rw [getD_opt] at hcell
        have b1 := hin' (place + k)
        have b2 := HN.out k
        rw [getD_opt] at b1 b2
        have HL' := Lib.hid hl'
        clear hl' hin' e1
        by_cases hw : -M ≤ l'[place + k]?.getD 0 + ns[k]?.getD 0 ∧ l'[place + k]?.getD 0 + ns[k]?.getD 0 ≤ M
        · have HN1 : Hid (iterO (addStep M place ns) (k + 1) l = some (l'.set (place + k) (l'[place + k]?.getD 0 + ns[k]?.getD 0))) := Lib.hid (by
            rw [iterO_step hit.out]; unfold addStep; rw [getD_opt, getD_opt, if_pos hw])
          go_wp2_with (go_at_call 79; refine (withinY _ _ _ (by omega) (by omega) (by omega) (by omega)).mono ?_; rintro e w' ⟨rfl, rfl⟩)
          go_roundw
          case rel => exact ⟨k + 1, _, by omega, by go_num, HN1, Lib.hid ⟨ho.out.1.setCell (p := ⟨g, place + k, none⟩) hg1 hg2 _, own_store ho.out.2 HL'.out _⟩⟩
          case measure => simp [intOf]; omega
        · have R : Hid (addR M place ns l = none) := Lib.hid (by
            have e : iterO (addStep M place ns) (k + 1) l = none := by
              rw [iterO_step hit.out]; unfold addStep; rw [getD_opt, getD_opt, if_neg hw]
            exact iterO_none e (by rw [HL.out]; omega))
          have hw' := Lib.hid hw
          clear hw
          go_wp2_with (go_at_call 79; refine (withinN _ _ _ hw'.out (by omega) (by omega)).mono ?_; rintro e w' ⟨rfl, rfl⟩)
          go_ret
          exact ⟨by rw [R.out]; rfl, (fun l' h => by rw [R.out] at h; cases h), ho.out.1.setCell (p := ⟨g, place + k, none⟩) hg1 hg2 _⟩
      · obtain rfl : k = m := by omega
        have R : Hid (addR M place ns l = some l') := Lib.hid (by unfold addR; rw [HL.out]; exact hit.out)
        go_wp2
        go_ret
        exact ⟨by rw [R.out]; rfl, (fun l' h => by rw [R.out] at h; cases h; exact ho.out.2), ho.out.1⟩
end Go.Proofs.Ytbipihamkfifjaa
