/- Drawn sequences: contracts of spec.l04Some and spec.DrawBranchOfSequence. Conditions: stated at each theorem. -/
import Derived.Test.YtjgidalmgoifgaaDrG
import Derived.Test.YtjgidalmgoifgaaZR
namespace Go.Proofs.Ytjgidalmgoifgaa
open Go.ChangeShapes Go.WideShapes Go.ChangeAt Go.RowKit Go.Deep
set_option linter.unusedVariables false
set_option linter.unusedSimpArgs false

def SmOK (L : List Int) : Prop := L.length ≤ 1000 ∧ ∀ z ∈ L, -1 ≤ z ∧ z ≤ 1099511627776
theorem SmOK.wf {L : List Int} (h : SmOK L) : ∀ z ∈ L, (Lit.int .i64 z).wf = true := fun z hz => i64_wf (by have := h.2 z hz; omega) (by have := h.2 z hz; omega)
theorem SmOK.set {L : List Int} (h : SmOK L) (i : Nat) {x : Int} (hx : -1 ≤ x ∧ x ≤ 1099511627776) : SmOK (L.set i x) := ⟨by rw [List.length_set]; exact h.1, fun z hz => by
  rcases List.mem_or_eq_of_mem_set hz with h1 | h1
  · exact h.2 z h1
  · rw [h1]; exact hx⟩
theorem SmOK.drop {L : List Int} (h : SmOK L) (i : Nat) : SmOK (L.drop i) := ⟨by rw [List.length_drop]; have := h.1; omega, fun z hz => h.2 z (List.mem_of_mem_drop hz)⟩
theorem SmOK.take {L : List Int} (h : SmOK L) (i : Nat) : SmOK (L.take i) := ⟨by rw [List.length_take]; have := h.1; omega, fun z hz => h.2 z (List.mem_of_mem_take hz)⟩
theorem SmOK.cons {L : List Int} (h : SmOK L) (hl : L.length ≤ 400) {x : Int} (hx : -1 ≤ x ∧ x ≤ 1099511627776) : SmOK (x :: L) := ⟨by simp; omega, fun z hz => by
  rcases List.mem_cons.1 hz with h1 | h1
  · rw [h1]; exact hx
  · exact h.2 z h1⟩
/-- A drawn list of any kind. -/
def DrSPost (w : World) (e : Ending) (w' : World) : Prop := ∃ A m c L, e = .returned (.slice A m c) ∧ ReadI w' w'.heap.size (.slice A m c) L ∧ SmOK L ∧ Below w.heap.size w w'
theorem own_take {w : World} {lo go nb cb k : Nat} {L : List Int} (h : OwnI w lo w.heap.size (.slice (some ⟨go, 0, none⟩) nb cb) L) (hl : L.length = nb) (hk : k ≤ nb) : ReadI w w.heap.size (.slice (some ⟨go, 0, none⟩) k cb) (L.take k) := by
  have hd : (L.take k).length = k := by rw [List.length_take]; omega
  obtain ⟨A', c', e7, h6, _, h5, _, h8⟩ := h.reads
  rw [hl] at e7 h5 h6
  cases e7
  refine ⟨some ⟨go, 0, none⟩, cb, by rw [hd], ⟨rfl, fun j hj => ?_⟩, (by intro h; cases h), by omega, fun a ha => by cases ha; exact ⟨_, _, rfl⟩, by omega⟩
  rw [hd] at hj
  obtain ⟨a, e1, h9, h10⟩ := h6.2 j (by omega)
  cases e1
  refine ⟨_, rfl, h9, ?_⟩
  rw [h10]
  simp [List.getD, List.getElem?_take, hj]
theorem DG.sfin {w0 w : World} {b0 g n m c : Nat} {A : Option Addr} {L : List Int} (h : DG w0 b0 g n (.slice A m c) L w) (hL : SmOK L) : DrSPost w0 (.returned (.slice A m c)) w := ⟨A, m, c, L, rfl, h.own.reads, hL, h.below⟩
theorem two_branch : brB [2, 3] = true := by decide
theorem seq_sm {L : List Int} (hp : brB L = true) (hc : cntL (rsI L) ≤ 390) {k : Nat} (hk : k ≤ 4) : SmOK (seqL L ++ List.replicate k 1) ∧ (seqL L ++ List.replicate k 1).length ≤ 400 ∧ 1 ≤ (seqL L ++ List.replicate k 1).length ∧ ∀ z ∈ seqL L ++ List.replicate k 1, 1 ≤ z ∧ z ≤ 64 := by
  have h1 := (seq_len hp).1
  have h0 : 0 < (seqL L).length := by
    have h3 := h1
    rw [cnt_eq hp] at h3
    omega
  have ha : ∀ z ∈ seqL L ++ List.replicate k 1, 1 ≤ z ∧ z ≤ 64 := fun z hz => by
    rcases List.mem_append.1 hz with hz | hz
    · obtain ⟨p, hp1, hp2⟩ := List.mem_flatMap.1 hz
      have h5 := (rsI_ok hp).1 p hp1
      have h6 := (List.mem_replicate.1 hp2).2
      subst h6
      exact h5.2
    · rw [(List.mem_replicate.1 hz).2]; omega
  have hl : (seqL L ++ List.replicate k 1).length = (seqL L).length + k := by simp
  exact ⟨⟨by omega, fun z hz => by have := ha z hz; omega⟩, by omega, by omega, ha⟩

set_option maxRecDepth 100000 in
set_option maxHeartbeats 8000000 in
theorem l04Some_any (A : Option Addr) (n c : Nat) (w : World) (hr : RB w w.heap.size A n) (hn : n ≤ 9223372036854775807) :
    Calls Try.prog 88 #[.slice A n c] w (DrSPost w) := by
  have HR := Lib.hid hr
  clear hr
  go_enter Try.func88, Try.ntmps88
  go_wp2_with fail
  refine (l01From_any A n c w HR.out hn).mono ?_
  rintro e w1 ⟨g, rfl, hs1, hb1⟩
  have HS1 := Lib.hid hs1
  have HB1 := Lib.hid hb1
  clear hs1 hb1
  go_wp2_with fail
  refine (l03Draw_any w.heap.size g n w1 HS1.out).mono ?_
  rintro e w2 ⟨vb, L0, rfl, ho2, hbr, hlen, hs2, hg2⟩
  obtain ⟨nb0, hnb0⟩ : ∃ nb, L0.length = nb := ⟨_, rfl⟩
  obtain ⟨Ab, cb, rfl⟩ := ho2.form hnb0
  have hgn : w.heap.size ≤ g := HS1.out.new
  have HB2 := Lib.hid ((below_grown HB1.out hg2 hgn HB1.out.size).alloc (below_grown HB1.out hg2 hgn HB1.out.size).size (.cells #[.slice Ab nb0 cb] 26))
  have HR2 : Hid (ReadI (w2.alloc (.cells #[.slice Ab nb0 cb] 26)) (w2.alloc (.cells #[.slice Ab nb0 cb] 26)).heap.size (.slice Ab nb0 cb) L0) := Lib.hid (ho2.reads.next (box_below _ _))
  have HS2 : Hid (SrcOK (w2.alloc (.cells #[.slice Ab nb0 cb] 26)) w.heap.size g n) := Lib.hid (hs2.alloc _)
  have HBR := Lib.hid hbr
  have HLN : Hid (L0.length ≤ 1048576) := Lib.hid (by omega)
  have HK : Hid (KpC w2.heap.size (.slice Ab nb0 cb) (w2.alloc (.cells #[.slice Ab nb0 cb] 26))) := Lib.hid (KpC.new _ _ _)
  have c2 := HK.out.cell
  have f2 : (w2.alloc (.cells #[.slice Ab nb0 cb] 26)).frozen? ⟨w2.heap.size, 0, none⟩ = false := by go_simp
  have hgl : g < w2.heap.size := hs2.lt
  have hbw : w.heap.size < w2.heap.size := by omega
  have hwb : w2.heap.size < (w2.alloc (.cells #[.slice Ab nb0 cb] 26)).heap.size := by simp
  have HGA : Hid (∀ a, Ab = some a → a.block ≠ g) := Lib.hid (fun a ha => by have := (Own.lt ho2.1 a.block (by rw [ha]; rfl)).1; have := HS1.out.lt; omega)
  clear ho2 hbr hlen hs2 hg2 hnb0
  go_wp2_with fail
  generalize w2.alloc (.cells #[.slice Ab nb0 cb] 26) = W2 at *
  generalize w2.heap.size = bx at *
  refine (l04Count_any (.slice Ab nb0 cb) L0 W2 HR2.out HLN.out HBR.out).mono ?_
  rintro e W3 ⟨rfl, hb⟩
  replace HS2 := Lib.hid (HS2.out.far hb)
  replace HB2 := Lib.hid (below_next HB2.out HB2.out.size hb)
  replace HR2 := Lib.hid (HR2.out.next hb)
  have f3 : W3.frozen? ⟨bx, 0, none⟩ = false := (hb.frozen (p := ⟨bx, 0, none⟩) HK.out.lt).trans f2
  replace HK := Lib.hid (HK.out.next hb)
  replace c2 := HK.out.cell
  have hbx3 : bx < W3.heap.size := HK.out.lt
  clear hb f2 hwb
  by_cases hbig : 390 < cntL (rsI L0)
  · have hbb : decide (390 < cntL (rsI L0)) = true := by simpa using hbig
    have HP := Lib.hid two_branch
    have HC : Hid (cntL (rsI [2, 3]) ≤ 390) := Lib.hid (by decide)
    have HLN2 : Hid (([2, 3] : List Int).length ≤ 1048576) := Lib.hid (by simp)
    have hz : (W3.setCell ⟨bx, 0, none⟩ (Value.slice (some ⟨W3.heap.size, 0, none⟩) 2 2)).heap.size = W3.heap.size := setCell_size _ _ _
    have HO4 : Hid (ReadI ((W3.setCell ⟨bx, 0, none⟩ (.slice (some ⟨W3.heap.size, 0, none⟩) 2 2)).alloc (.cells #[.int .i64 2, .int .i64 3] 2)) ((W3.setCell ⟨bx, 0, none⟩ (.slice (some ⟨W3.heap.size, 0, none⟩) 2 2)).alloc (.cells #[.int .i64 2, .int .i64 3] 2)).heap.size (Value.slice (some ⟨W3.heap.size, 0, none⟩) 2 2) [2, 3]) := Lib.hid (by
      have h := (list2R (lo := W3.heap.size) (w := W3.setCell ⟨bx, 0, none⟩ (Value.slice (some ⟨W3.heap.size, 0, none⟩) 2 2)) (by rw [hz]; exact Nat.le_refl _) 2 3).reads
      rw [hz] at h
      exact h)
    have B5 : Below bx W3 ((W3.setCell ⟨bx, 0, none⟩ (.slice (some ⟨W3.heap.size, 0, none⟩) 2 2)).alloc (.cells #[.int .i64 2, .int .i64 3] 2)) := ((Below.refl _ _).setCell (p := ⟨bx, 0, none⟩) (Nat.le_refl _) _).alloc (by show bx ≤ (W3.setCell _ _).heap.size; rw [hz]; omega) _
    replace HS2 : Hid (SrcOK ((W3.setCell ⟨bx, 0, none⟩ (.slice (some ⟨W3.heap.size, 0, none⟩) 2 2)).alloc (.cells #[.int .i64 2, .int .i64 3] 2)) w.heap.size g n) := Lib.hid (HS2.out.above B5 hgl)
    replace HB2 : Hid (Below w.heap.size w ((W3.setCell ⟨bx, 0, none⟩ (.slice (some ⟨W3.heap.size, 0, none⟩) 2 2)).alloc (.cells #[.int .i64 2, .int .i64 3] 2))) := Lib.hid (HB2.out.trans (B5.mono (by omega)))
    have c5 : ((W3.setCell ⟨bx, 0, none⟩ (.slice (some ⟨W3.heap.size, 0, none⟩) 2 2)).alloc (.cells #[.int .i64 2, .int .i64 3] 2)).cell? ⟨bx, 0, none⟩ = some (Value.slice (some ⟨W3.heap.size, 0, none⟩) 2 2) := by go_simp
    have hbx5 : bx < ((W3.setCell ⟨bx, 0, none⟩ (.slice (some ⟨W3.heap.size, 0, none⟩) 2 2)).alloc (.cells #[.int .i64 2, .int .i64 3] 2)).heap.size := by have := B5.size; omega
    have HNG : Hid (∀ a, (some ⟨W3.heap.size, 0, none⟩ : Option Addr) = some a → a.block ≠ g) := Lib.hid (fun a ha => by cases ha; show ¬ W3.heap.size = g; omega)
    clear HR2 hz B5
    replace HR2 := HO4
    go_wp2_with fail
    clear c2 hbx3 f3 HK HO4
    replace c2 := c5
    replace hbx3 := hbx5
    clear c5 hbx5
    generalize ((W3.setCell ⟨bx, 0, none⟩ (.slice (some ⟨W3.heap.size, 0, none⟩) 2 2)).alloc (.cells #[.int .i64 2, .int .i64 3] 2)) = W4 at *
    generalize W3.heap.size = bz at *
    refine wp_region_held_drew (S := fun w' => w'.cell? ⟨bx, 0, none⟩ = some ((Value.slice (some ⟨bz, 0, none⟩) 2 2))) (by kernel_rfl) c2 (fun hHeld => ?_)
    refine takeY 0 _ (v := ?_) rfl rfl (by kernel_rfl) (by kernel_rfl) (by kernel_rfl) (fun _ _ _ h => h) (by kernel_rfl) ?_ (by assumption) ?_
    rotate_left 1
    · intro w hSw; (try dsimp only at hSw); go_simp; (try with_reducible rfl)
    try simp only [Act.put, List.setIfInBounds_toArray, List.set_cons_zero, List.set_cons_succ]
    refine takeY 1 _ (v := ?_) rfl rfl (by kernel_rfl) (by kernel_rfl) (by kernel_rfl) (fun _ _ _ h => h) (by kernel_rfl) ?_ (by assumption) ?_
    rotate_left 1
    · intro w hSw; (try dsimp only at hSw); go_simp; (try with_reducible rfl)
    try simp only [Act.put, List.setIfInBounds_toArray, List.set_cons_zero, List.set_cons_succ]
    refine wpAnyH_ready (rs := [2]) (by kernel_rfl) (by simp) ?_
    refine AllReadyH.cons rfl (fun K hK => ?_) AllReadyH.nil
    go_simp
    refine (l01Next_any _ g n 5 W4.drew (show SrcOK W4.drew w.heap.size g n from HS2.out) (by omega)).mono ?_
    rintro e V1 ⟨k, rfl, hka, hkb, hs, hg0⟩
    have hg : W4.grownBy V1 (some g) := ⟨hg0.os, hg0.tape, hg0.output, hg0.size, hg0.block⟩
    replace HB2 := Lib.hid (below_grown HB2.out hg hgn HB2.out.size)
    replace HS2 := Lib.hid hs
    have HR3 : Hid (ReadI V1 V1.heap.size ((Value.slice (some ⟨bz, 0, none⟩) 2 2)) ([2, 3])) := Lib.hid ((read_src HR2.out hg (Nat.le_refl _) HNG.out).more hg.size)
    have d2 := (grown_cellD hg (p := ⟨bx, 0, none⟩) (by show ¬ bx = g; omega) hbx3).trans c2
    have hbx4 : bx < V1.heap.size := Nat.lt_of_lt_of_le hbx3 hg.size
    clear hs hg hg0
    obtain ⟨j, rfl⟩ : ∃ j : Nat, k = (j : Int) := ⟨k.toNat, by omega⟩
    refine hK.out _ V1 d2 (fun hHeld => ?_)
    clear hK K
    try simp only [Act.put, List.setIfInBounds_toArray, List.set_cons_zero, List.set_cons_succ]
    refine wpAnyH_ready (rs := [3]) (by kernel_rfl) (by simp) ?_
    refine AllReadyH.cons rfl (fun K hK => ?_) AllReadyH.nil
    go_simp
    refine (l04Full_any ((Value.slice (some ⟨bz, 0, none⟩) 2 2)) ([2, 3]) j V1 HR3.out HLN2.out HP.out (by omega)).mono ?_
    rintro e V2 ⟨A5, c5, rfl, ho, hb⟩
    have HSM := Lib.hid (seq_sm HP.out HC.out (k := j) (by omega))
    have hge : g < V1.heap.size := HS2.out.lt
    replace HS2 := Lib.hid (HS2.out.far hb)
    replace HB2 := Lib.hid (below_next HB2.out HB2.out.size hb)
    have d3 := (hb.cell (p := ⟨bx, 0, none⟩) hbx4).trans d2
    obtain ⟨nb, hnb⟩ : ∃ nb, (seqL ([2, 3]) ++ List.replicate j 1).length = nb := ⟨_, rfl⟩
    have HNB := Lib.hid hnb
    rw [hnb] at ho ⊢
    have hnb8 : 1 ≤ nb ∧ nb ≤ 400 := by have := HSM.out.2.1; have := HSM.out.2.2.1; omega
    obtain ⟨go, e1, hgo1, hgo2, _, _⟩ := own_at ho hnb (show 0 < nb by omega)
    cases e1
    have HD : Hid (DG w V1.heap.size g n (.slice (some ⟨go, 0, none⟩) nb c5) (seqL ([2, 3]) ++ List.replicate j 1) V2) := Lib.hid ⟨HS2.out, OwnI.mk' ho.1, HB2.out, hge, hb.size⟩
    have HSP := Lib.hid HSM.out.1
    have HAL := Lib.hid HSM.out.2.2.2
    clear ho hb hnb HSM HS2 HB2 HR3 HR2 d2 hgo2
    refine hK.out _ V2 d3 (fun hHeld => ?_)
    clear hK K
    try simp only [Act.put, List.setIfInBounds_toArray, List.set_cons_zero, List.set_cons_succ]
    refine takeY 4 _ (v := ?_) rfl rfl (by kernel_rfl) (by kernel_rfl) (by kernel_rfl) (fun _ _ _ h => h) (by kernel_rfl) ?_ (by assumption) ?_
    rotate_left 1
    · intro w hSw; (try dsimp only at hSw); go_simp; (try with_reducible rfl)
    try simp only [Act.put, List.setIfInBounds_toArray, List.set_cons_zero, List.set_cons_succ]
    refine wpAnyH_done (by kernel_rfl) ?_ _
    generalize seqL ([2, 3]) ++ List.replicate j 1 = L at *
    generalize V1.heap.size = b0 at *
    clear d3 hbx4 c2
    go_wp2_with fail
    refine (l01Next_any _ g n 10 V2 HD.out.src (by omega)).mono ?_
    rintro e W2 ⟨y, rfl, hq0, hq1, hs, hg⟩
    replace HD := Lib.hid (HD.out.step hs hg)
    clear hs hg
    by_cases h0 : y = 0
    · have e0 : (y == 0) = true := by simpa using h0
      have HY := Lib.hid h0
      clear h0
      go_wp2_with fail
      refine (l01Next_any _ g n (nb : Int) W2 HD.out.src (by omega)).mono ?_
      rintro e W5 ⟨q, rfl, hqa, hqb, hs, hg⟩
      replace HD := Lib.hid (HD.out.step hs hg)
      clear hs hg
      obtain ⟨i, rfl⟩ : ∃ i : Nat, q = (i : Int) := ⟨q.toNat, by omega⟩
      have hj1 : (i : Int) < (nb : Int) := by omega
      have hj0 : (0 : Int) ≤ (i : Int) := by omega
      have HA := Lib.hid (newRI W5 [1, 2, 3, 0, 65] (by simp))
      have hglp : g < W5.heap.size := HD.out.src.lt
      go_wp2_with fail
      refine (l01Pick_any _ g n _ 5 5 [1, 2, 3, 0, 65] (W5.alloc (.cells #[.int .i64 1, .int .i64 2, .int .i64 3, .int .i64 0, .int .i64 65] 2)) (HD.out.alloc _).src HA.out ?_ (by omega)).mono ?_
      · intro a ha; cases ha; show ¬ W5.heap.size = g; omega
      rintro e W6 ⟨x, rfl, hx, hs, hg⟩
      have hx2 : 0 ≤ x ∧ x ≤ 65 := by simp at hx; omega
      replace HD := Lib.hid ((HD.out.alloc _).step hs hg)
      clear hs hg hx HA hglp
      obtain ⟨d3, k3⟩ := HD.out.cell HNB.out (j := i) (by omega)
      have HF := Lib.hid (HD.out.store HNB.out (j := i) (by omega) x)
      go_wp2_with fail
      go_ret
      exact HF.out.sfin (HSP.out.set _ (by omega))
    by_cases h1 : y = 1
    · have e0 : (y == 0) = false := by simpa using h0
      have e1 : (y == 1) = true := by simpa using h1
      have HY := Lib.hid h1
      clear h1
      go_wp2_with fail
      refine (l01Next_any _ g n (nb : Int) W2 HD.out.src (by omega)).mono ?_
      rintro e W5 ⟨q, rfl, hqa, hqb, hs, hg⟩
      replace HD := Lib.hid (HD.out.step hs hg)
      clear hs hg
      obtain ⟨i, rfl⟩ : ∃ i : Nat, q = (i : Int) := ⟨q.toNat, by omega⟩
      have hj1 : (i : Int) < (nb : Int) := by omega
      have hj0 : (0 : Int) ≤ (i : Int) := by omega
      have hcb : nb ≤ c5 ∧ c5 ≤ 9223372036854775807 := by
        obtain ⟨A', c', e7, _, _, h5, _, h6⟩ := HD.out.own.reads
        rw [HNB.out] at e7 h5
        cases e7; exact ⟨h5, h6⟩
      have p1 : IntKind.i64.wrap (1 + (i : Int)) = 1 + (i : Int) := IntWalk.i64_in _ (by omega)
      have hu1 : (0 : Int) ≤ 1 + (i : Int) := by omega
      have hu2 : 1 + (i : Int) ≤ (c5 : Int) := by omega
      have hu3 : (1 + (i : Int)).toNat = i + 1 := by omega
      go_wp2_with fail
      go_ret
      first | exact ⟨_, _, _, _, rfl, own_take HD.out.own HNB.out (by omega), HSP.out.take _, HD.out.below⟩ | (simp only [hu3]; exact ⟨_, _, _, _, rfl, own_take HD.out.own HNB.out (k := i + 1) (by omega), HSP.out.take _, HD.out.below⟩)
    by_cases h2 : y = 2
    · have e0 : (y == 0) = false := by simpa using h0
      have e1 : (y == 1) = false := by simpa using h1
      have e2 : (y == 2) = true := by simpa using h2
      have HY := Lib.hid h2
      clear h2
      have hcb : nb ≤ c5 ∧ c5 ≤ 9223372036854775807 := by
        obtain ⟨A', c', e7, _, _, h5, _, h6⟩ := HD.out.own.reads
        rw [HNB.out] at e7 h5
        cases e7; exact ⟨h5, h6⟩
      by_cases hC : c5 = 1
      · obtain rfl : c5 = 1 := hC
        obtain rfl : nb = 1 := by omega
        go_wp2_with fail
        go_ret
        have hd : L.drop 1 = [] := List.drop_eq_nil_of_le (by rw [HNB.out]; exact Nat.le_refl _)
        exact ⟨_, _, _, [], rfl, ⟨some ⟨go, 0, none⟩, 0, rfl, ⟨rfl, fun k hk => absurd hk (by simp)⟩, (by intro h; cases h), Nat.le_refl _, fun a ha => by cases ha; exact ⟨_, _, rfl⟩, by omega⟩, by rw [← hd]; exact HSP.out.drop 1, HD.out.below⟩
      obtain ⟨C, rfl⟩ : ∃ C, c5 = C + 1 := ⟨c5 - 1, by omega⟩
      obtain ⟨M, rfl⟩ : ∃ M, nb = M + 1 := ⟨nb - 1, by omega⟩
      have hC0 : ¬ C = 0 := by omega
      have h1M : (1 : Int) ≤ (M : Int) + 1 := by omega
      clear hC
      go_wp2_with fail
      go_ret
      exact ⟨_, _, _, _, rfl, own_tail HD.out.own HNB.out, HSP.out.drop 1, HD.out.below⟩
    by_cases h3 : y = 3
    · have e0 : (y == 0) = false := by simpa using h0
      have e1 : (y == 1) = false := by simpa using h1
      have e2 : (y == 2) = false := by simpa using h2
      have e3 : (y == 3) = true := by simpa using h3
      have HY := Lib.hid h3
      clear h3
      go_wp2_with fail
      refine (l01Next_any _ g n 8 W2 HD.out.src (by omega)).mono ?_
      rintro e W5 ⟨q, rfl, hqa, hqb, hs, hg⟩
      replace HD := Lib.hid (HD.out.step hs hg)
      clear hs hg
      have p1 : IntKind.i64.wrap (1 + q) = 1 + q := IntWalk.i64_in _ (by omega)
      obtain ⟨i0, hi0, hy0, hy1, hy2⟩ := info_parts int_info
      have hw0 : w.heap.size ≤ W5.heap.size := HD.out.below.size
      have hgoW : go < W5.heap.size := by obtain ⟨g9, e9, _, h9, _, _⟩ := own_at HD.out.own HNB.out (show 0 < nb by omega); cases e9; exact h9
      have HNW : Hid (∀ (j : Nat) (u : Value), (L.map (.int .i64))[j]? = some u → (W5.alloc (.cells #[.int .i64 (1 + q)] 2)).cell? ((⟨go, 0, none⟩ : Addr).add j) = some u) := Lib.hid (fun j u hj => by
        have hjl : j < nb := by
          by_cases h5 : j < nb
          · exact h5
          · rw [List.getElem?_eq_none (by rw [List.length_map, HNB.out]; omega)] at hj; cases hj
        have h7 := (HD.out.cell HNB.out hjl).1
        rw [add_lit, Nat.zero_add, (below_box W5 (.cells #[.int .i64 (1 + q)] 2)).cell (p := ⟨go, j, none⟩) hgoW, h7]
        have hjl2 : j < L.length := by rw [HNB.out]; exact hjl
        rw [List.getElem?_map, List.getElem?_eq_getElem hjl2] at hj
        rw [List.getElem?_eq_getElem hjl2]
        exact hj)
      go_wp2_with (at_builtin; go_loud (refine wpList_append_lies _ rfl (.tmp 52) (.tmp 53) 24 rfl W5.heap.size 2 i0 (.int .i64 0) 1 8 Try.underlying24 hi0 hy0 hy1 hy2 rfl (by decide) (.slice (some ⟨W5.heap.size, 0, none⟩) 1 1) 1 [.int .i64 (1 + q)] rfl ?gb4 ⟨go, 0, none⟩ nb c5 (L.map (.int .i64)) rfl ?gb5 HNW.out ?gb7 ?gb12 ?gb8 ?gb9 ?gb10 _ rfl ?gb11; (exact World.ownsRow_lit (base := W5.heap.size) W5 #[.int .i64 (1 + q)] 1 (e := 2) (size := 1) (Nat.le_refl _) (by simp [maxLen]) rfl); (rw [List.length_map, HNB.out, Nat.mul_one]); (intro u hu; obtain ⟨z, _, rfl⟩ := List.mem_map.1 hu; rfl); (omega); (simp only [maxLen]; omega); (omega); (simp); intro g2 cap2 w4 hown2 hgrow hg2 hlt2; (have B4 : Below W5.heap.size W5 w4 := Below.grown (w := (W5.alloc (.cells #[.int .i64 (1 + q)] 2))) ((Below.refl _ _).alloc (Nat.le_refl _) _) ⟨hgrow.os, hgrow.tape, hgrow.output, hgrow.size, hgrow.block⟩ (by simp) (fun k hk => by simp [Value.ownBlock] at hk; omega)); (have HF : Hid (OwnI w4 W5.heap.size w4.heap.size (.slice (some ⟨g2, 0, none⟩) (1 + nb) cap2) ((1 + q) :: L)) := Lib.hid (OwnI.mk' (n := 1 + nb) hown2)); (have HFB : Hid (Below w.heap.size w w4) := Lib.hid (HD.out.below.trans (B4.mono hw0))); clear hown2 hgrow hg2 B4))
      go_ret
      exact ⟨_, _, _, _, rfl, HF.out.reads, HSP.out.cons (by rw [HNB.out]; omega) (by omega), HFB.out⟩
    by_cases h4 : y = 4
    · have e0 : (y == 0) = false := by simpa using h0
      have e1 : (y == 1) = false := by simpa using h1
      have e2 : (y == 2) = false := by simpa using h2
      have e3 : (y == 3) = false := by simpa using h3
      have e4 : (y == 4) = true := by simpa using h4
      have HY := Lib.hid h4
      clear h4
      have HD0 := HD
      have hb4 : nb ≤ 400 := hnb8.2
      go_wp2_with fail
      go_loopw [6, 7] (fun vt vi wr => ∃ (i : Nat) (t : Int), i ≤ nb ∧ (0 ≤ t ∧ t ≤ 64 * (i : Int)) ∧ vt = .int .i64 t ∧ vi = .int .i64 i ∧ Hid (DG w b0 g n (Value.slice (some ⟨go, 0, none⟩) nb c5) L wr)) (fun _ vi _ => nb - (intOf vi).toNat)
      case atStart => exact ⟨0, 0, by omega, by omega, rfl, rfl, HD0⟩
      case round =>
        clear HD HD0
        obtain ⟨i, t, hi, ht, rfl, rfl, HD⟩ := hrel
        go_wp2_with fail
        refine (l01Next_any _ g n 4 wr HD.out.src (by omega)).mono ?_
        rintro e W6 ⟨q, rfl, hqa, hqb, hs, hg⟩
        replace HD := Lib.hid (HD.out.step hs hg)
        clear hs hg
        have hi0 : (0 : Int) ≤ (i : Int) := by omega
        by_cases hiq : (i : Int) ≤ q ∧ i < nb
        · obtain ⟨hq1', hlt⟩ := hiq
          have b1 : decide ((i : Int) ≤ q) = true := by simpa using hq1'
          have hi1 : (i : Int) < (nb : Int) := by omega
          obtain ⟨d3, k3⟩ := HD.out.cell HNB.out (j := i) hlt
          have hzr : 1 ≤ L[i]?.getD 0 ∧ L[i]?.getD 0 ≤ 64 := HAL.out _ (by have := HNB.out; simp [show i < L.length by omega])
          generalize (L[i]?.getD 0 : Int) = z at *
          have p1 : IntKind.i64.wrap (t + z) = t + z := IntWalk.i64_in _ (by omega)
          have p2 : IntKind.i64.wrap ((i : Int) + 1) = (i : Int) + 1 := IntWalk.i64_in _ (by omega)
          go_wp2_with fail
          go_roundw
          case rel => exact ⟨i + 1, t + z, by omega, by omega, by go_num, by go_num, HD⟩
          case measure => simp [intOf]; omega
        by_cases ht1 : t < 1
        · obtain rfl : t = 0 := by omega
          by_cases hiq1 : (i : Int) ≤ q
          · have b1 : decide ((i : Int) ≤ q) = true := by simpa using hiq1
            have hlt : ¬ (i : Int) < (nb : Int) := fun h => hiq ⟨hiq1, by omega⟩
            have b2 : decide ((i : Int) < (nb : Int)) = false := by simpa using hlt
            clear hiq
            obtain ⟨i0, hi0, hy0, hy1, hy2⟩ := info_parts int_info
            have hw0 : w.heap.size ≤ W6.heap.size := HD.out.below.size
            have hgoW : go < W6.heap.size := by obtain ⟨g9, e9, _, h9, _, _⟩ := own_at HD.out.own HNB.out (show 0 < nb by omega); cases e9; exact h9
            have HNW : Hid (∀ (j : Nat) (u : Value), (L.map (.int .i64))[j]? = some u → (W6.alloc (.cells #[.int .i64 (1)] 2)).cell? ((⟨go, 0, none⟩ : Addr).add j) = some u) := Lib.hid (fun j u hj => by
              have hjl : j < nb := by
                by_cases h5 : j < nb
                · exact h5
                · rw [List.getElem?_eq_none (by rw [List.length_map, HNB.out]; omega)] at hj; cases hj
              have h7 := (HD.out.cell HNB.out hjl).1
              rw [add_lit, Nat.zero_add, (below_box W6 (.cells #[.int .i64 (1)] 2)).cell (p := ⟨go, j, none⟩) hgoW, h7]
              have hjl2 : j < L.length := by rw [HNB.out]; exact hjl
              rw [List.getElem?_map, List.getElem?_eq_getElem hjl2] at hj
              rw [List.getElem?_eq_getElem hjl2]
              exact hj)
            go_wp2_with (at_builtin; go_loud (refine wpList_append_lies _ rfl (.tmp 77) (.tmp 78) 24 rfl W6.heap.size 2 i0 (.int .i64 0) 1 8 Try.underlying24 hi0 hy0 hy1 hy2 rfl (by decide) (.slice (some ⟨W6.heap.size, 0, none⟩) 1 1) 1 [.int .i64 (1)] rfl ?gc4 ⟨go, 0, none⟩ nb c5 (L.map (.int .i64)) rfl ?gc5 HNW.out ?gc7 ?gc12 ?gc8 ?gc9 ?gc10 _ rfl ?gc11; (exact World.ownsRow_lit (base := W6.heap.size) W6 #[.int .i64 (1)] 1 (e := 2) (size := 1) (Nat.le_refl _) (by simp [maxLen]) rfl); (rw [List.length_map, HNB.out, Nat.mul_one]); (intro u hu; obtain ⟨z, _, rfl⟩ := List.mem_map.1 hu; rfl); (omega); (simp only [maxLen]; omega); (omega); (simp); intro g2 cap2 w4 hown2 hgrow hg2 hlt2; (have B4 : Below W6.heap.size W6 w4 := Below.grown (w := (W6.alloc (.cells #[.int .i64 (1)] 2))) ((Below.refl _ _).alloc (Nat.le_refl _) _) ⟨hgrow.os, hgrow.tape, hgrow.output, hgrow.size, hgrow.block⟩ (by simp) (fun k hk => by simp [Value.ownBlock] at hk; omega)); (have HF : Hid (OwnI w4 W6.heap.size w4.heap.size (.slice (some ⟨g2, 0, none⟩) (1 + nb) cap2) ((1) :: L)) := Lib.hid (OwnI.mk' (n := 1 + nb) hown2)); (have HFB : Hid (Below w.heap.size w w4) := Lib.hid (HD.out.below.trans (B4.mono hw0))); clear hown2 hgrow hg2 B4))
            go_ret
            exact ⟨_, _, _, _, rfl, HF.out.reads, HSP.out.cons (by rw [HNB.out]; omega) (by omega), HFB.out⟩
          · have b1 : decide ((i : Int) ≤ q) = false := by simpa using hiq1
            clear hiq
            obtain ⟨i0, hi0, hy0, hy1, hy2⟩ := info_parts int_info
            have hw0 : w.heap.size ≤ W6.heap.size := HD.out.below.size
            have hgoW : go < W6.heap.size := by obtain ⟨g9, e9, _, h9, _, _⟩ := own_at HD.out.own HNB.out (show 0 < nb by omega); cases e9; exact h9
            have HNW : Hid (∀ (j : Nat) (u : Value), (L.map (.int .i64))[j]? = some u → (W6.alloc (.cells #[.int .i64 (1)] 2)).cell? ((⟨go, 0, none⟩ : Addr).add j) = some u) := Lib.hid (fun j u hj => by
              have hjl : j < nb := by
                by_cases h5 : j < nb
                · exact h5
                · rw [List.getElem?_eq_none (by rw [List.length_map, HNB.out]; omega)] at hj; cases hj
              have h7 := (HD.out.cell HNB.out hjl).1
              rw [add_lit, Nat.zero_add, (below_box W6 (.cells #[.int .i64 (1)] 2)).cell (p := ⟨go, j, none⟩) hgoW, h7]
              have hjl2 : j < L.length := by rw [HNB.out]; exact hjl
              rw [List.getElem?_map, List.getElem?_eq_getElem hjl2] at hj
              rw [List.getElem?_eq_getElem hjl2]
              exact hj)
            go_wp2_with (at_builtin; go_loud (refine wpList_append_lies _ rfl (.tmp 77) (.tmp 78) 24 rfl W6.heap.size 2 i0 (.int .i64 0) 1 8 Try.underlying24 hi0 hy0 hy1 hy2 rfl (by decide) (.slice (some ⟨W6.heap.size, 0, none⟩) 1 1) 1 [.int .i64 (1)] rfl ?gd4 ⟨go, 0, none⟩ nb c5 (L.map (.int .i64)) rfl ?gd5 HNW.out ?gd7 ?gd12 ?gd8 ?gd9 ?gd10 _ rfl ?gd11; (exact World.ownsRow_lit (base := W6.heap.size) W6 #[.int .i64 (1)] 1 (e := 2) (size := 1) (Nat.le_refl _) (by simp [maxLen]) rfl); (rw [List.length_map, HNB.out, Nat.mul_one]); (intro u hu; obtain ⟨z, _, rfl⟩ := List.mem_map.1 hu; rfl); (omega); (simp only [maxLen]; omega); (omega); (simp); intro g2 cap2 w4 hown2 hgrow hg2 hlt2; (have B4 : Below W6.heap.size W6 w4 := Below.grown (w := (W6.alloc (.cells #[.int .i64 (1)] 2))) ((Below.refl _ _).alloc (Nat.le_refl _) _) ⟨hgrow.os, hgrow.tape, hgrow.output, hgrow.size, hgrow.block⟩ (by simp) (fun k hk => by simp [Value.ownBlock] at hk; omega)); (have HF : Hid (OwnI w4 W6.heap.size w4.heap.size (.slice (some ⟨g2, 0, none⟩) (1 + nb) cap2) ((1) :: L)) := Lib.hid (OwnI.mk' (n := 1 + nb) hown2)); (have HFB : Hid (Below w.heap.size w w4) := Lib.hid (HD.out.below.trans (B4.mono hw0))); clear hown2 hgrow hg2 B4))
            go_ret
            exact ⟨_, _, _, _, rfl, HF.out.reads, HSP.out.cons (by rw [HNB.out]; omega) (by omega), HFB.out⟩
        · have ht2 : decide (t < 1) = false := by simpa using ht1
          by_cases hiq1 : (i : Int) ≤ q
          · have b1 : decide ((i : Int) ≤ q) = true := by simpa using hiq1
            have hlt : ¬ (i : Int) < (nb : Int) := fun h => hiq ⟨hiq1, by omega⟩
            have b2 : decide ((i : Int) < (nb : Int)) = false := by simpa using hlt
            clear hiq
            obtain ⟨i0, hi0, hy0, hy1, hy2⟩ := info_parts int_info
            have hw0 : w.heap.size ≤ W6.heap.size := HD.out.below.size
            have hgoW : go < W6.heap.size := by obtain ⟨g9, e9, _, h9, _, _⟩ := own_at HD.out.own HNB.out (show 0 < nb by omega); cases e9; exact h9
            have HNW : Hid (∀ (j : Nat) (u : Value), (L.map (.int .i64))[j]? = some u → (W6.alloc (.cells #[.int .i64 (t)] 2)).cell? ((⟨go, 0, none⟩ : Addr).add j) = some u) := Lib.hid (fun j u hj => by
              have hjl : j < nb := by
                by_cases h5 : j < nb
                · exact h5
                · rw [List.getElem?_eq_none (by rw [List.length_map, HNB.out]; omega)] at hj; cases hj
              have h7 := (HD.out.cell HNB.out hjl).1
              rw [add_lit, Nat.zero_add, (below_box W6 (.cells #[.int .i64 (t)] 2)).cell (p := ⟨go, j, none⟩) hgoW, h7]
              have hjl2 : j < L.length := by rw [HNB.out]; exact hjl
              rw [List.getElem?_map, List.getElem?_eq_getElem hjl2] at hj
              rw [List.getElem?_eq_getElem hjl2]
              exact hj)
            go_wp2_with (at_builtin; go_loud (refine wpList_append_lies _ rfl (.tmp 77) (.tmp 78) 24 rfl W6.heap.size 2 i0 (.int .i64 0) 1 8 Try.underlying24 hi0 hy0 hy1 hy2 rfl (by decide) (.slice (some ⟨W6.heap.size, 0, none⟩) 1 1) 1 [.int .i64 (t)] rfl ?ge4 ⟨go, 0, none⟩ nb c5 (L.map (.int .i64)) rfl ?ge5 HNW.out ?ge7 ?ge12 ?ge8 ?ge9 ?ge10 _ rfl ?ge11; (exact World.ownsRow_lit (base := W6.heap.size) W6 #[.int .i64 (t)] 1 (e := 2) (size := 1) (Nat.le_refl _) (by simp [maxLen]) rfl); (rw [List.length_map, HNB.out, Nat.mul_one]); (intro u hu; obtain ⟨z, _, rfl⟩ := List.mem_map.1 hu; rfl); (omega); (simp only [maxLen]; omega); (omega); (simp); intro g2 cap2 w4 hown2 hgrow hg2 hlt2; (have B4 : Below W6.heap.size W6 w4 := Below.grown (w := (W6.alloc (.cells #[.int .i64 (t)] 2))) ((Below.refl _ _).alloc (Nat.le_refl _) _) ⟨hgrow.os, hgrow.tape, hgrow.output, hgrow.size, hgrow.block⟩ (by simp) (fun k hk => by simp [Value.ownBlock] at hk; omega)); (have HF : Hid (OwnI w4 W6.heap.size w4.heap.size (.slice (some ⟨g2, 0, none⟩) (1 + nb) cap2) ((t) :: L)) := Lib.hid (OwnI.mk' (n := 1 + nb) hown2)); (have HFB : Hid (Below w.heap.size w w4) := Lib.hid (HD.out.below.trans (B4.mono hw0))); clear hown2 hgrow hg2 B4))
            go_ret
            exact ⟨_, _, _, _, rfl, HF.out.reads, HSP.out.cons (by rw [HNB.out]; omega) (by omega), HFB.out⟩
          · have b1 : decide ((i : Int) ≤ q) = false := by simpa using hiq1
            clear hiq
            obtain ⟨i0, hi0, hy0, hy1, hy2⟩ := info_parts int_info
            have hw0 : w.heap.size ≤ W6.heap.size := HD.out.below.size
            have hgoW : go < W6.heap.size := by obtain ⟨g9, e9, _, h9, _, _⟩ := own_at HD.out.own HNB.out (show 0 < nb by omega); cases e9; exact h9
            have HNW : Hid (∀ (j : Nat) (u : Value), (L.map (.int .i64))[j]? = some u → (W6.alloc (.cells #[.int .i64 (t)] 2)).cell? ((⟨go, 0, none⟩ : Addr).add j) = some u) := Lib.hid (fun j u hj => by
              have hjl : j < nb := by
                by_cases h5 : j < nb
                · exact h5
                · rw [List.getElem?_eq_none (by rw [List.length_map, HNB.out]; omega)] at hj; cases hj
              have h7 := (HD.out.cell HNB.out hjl).1
              rw [add_lit, Nat.zero_add, (below_box W6 (.cells #[.int .i64 (t)] 2)).cell (p := ⟨go, j, none⟩) hgoW, h7]
              have hjl2 : j < L.length := by rw [HNB.out]; exact hjl
              rw [List.getElem?_map, List.getElem?_eq_getElem hjl2] at hj
              rw [List.getElem?_eq_getElem hjl2]
              exact hj)
            go_wp2_with (at_builtin; go_loud (refine wpList_append_lies _ rfl (.tmp 77) (.tmp 78) 24 rfl W6.heap.size 2 i0 (.int .i64 0) 1 8 Try.underlying24 hi0 hy0 hy1 hy2 rfl (by decide) (.slice (some ⟨W6.heap.size, 0, none⟩) 1 1) 1 [.int .i64 (t)] rfl ?gf4 ⟨go, 0, none⟩ nb c5 (L.map (.int .i64)) rfl ?gf5 HNW.out ?gf7 ?gf12 ?gf8 ?gf9 ?gf10 _ rfl ?gf11; (exact World.ownsRow_lit (base := W6.heap.size) W6 #[.int .i64 (t)] 1 (e := 2) (size := 1) (Nat.le_refl _) (by simp [maxLen]) rfl); (rw [List.length_map, HNB.out, Nat.mul_one]); (intro u hu; obtain ⟨z, _, rfl⟩ := List.mem_map.1 hu; rfl); (omega); (simp only [maxLen]; omega); (omega); (simp); intro g2 cap2 w4 hown2 hgrow hg2 hlt2; (have B4 : Below W6.heap.size W6 w4 := Below.grown (w := (W6.alloc (.cells #[.int .i64 (t)] 2))) ((Below.refl _ _).alloc (Nat.le_refl _) _) ⟨hgrow.os, hgrow.tape, hgrow.output, hgrow.size, hgrow.block⟩ (by simp) (fun k hk => by simp [Value.ownBlock] at hk; omega)); (have HF : Hid (OwnI w4 W6.heap.size w4.heap.size (.slice (some ⟨g2, 0, none⟩) (1 + nb) cap2) ((t) :: L)) := Lib.hid (OwnI.mk' (n := 1 + nb) hown2)); (have HFB : Hid (Below w.heap.size w w4) := Lib.hid (HD.out.below.trans (B4.mono hw0))); clear hown2 hgrow hg2 B4))
            go_ret
            exact ⟨_, _, _, _, rfl, HF.out.reads, HSP.out.cons (by rw [HNB.out]; omega) (by omega), HFB.out⟩
    have e0 : (y == 0) = false := by simpa using h0
    have e1 : (y == 1) = false := by simpa using h1
    have e2 : (y == 2) = false := by simpa using h2
    have e3 : (y == 3) = false := by simpa using h3
    have e4 : (y == 4) = false := by simpa using h4
    go_wp2_with fail
    go_ret
    exact HD.out.sfin HSP.out
  have hbb : decide (390 < cntL (rsI L0)) = false := by simpa using hbig
  have HP := HBR
  have HC : Hid (cntL (rsI L0) ≤ 390) := Lib.hid (by omega)
  have HLN2 := HLN
  have HNG : Hid (∀ a, Ab = some a → a.block ≠ g) := Lib.hid (fun a ha => HGA.out a ha)
  go_wp2_with fail
  refine wp_region_held_drew (S := fun w' => w'.cell? ⟨bx, 0, none⟩ = some (Value.slice Ab nb0 cb)) (by kernel_rfl) c2 (fun hHeld => ?_)
  refine takeY 0 _ (v := ?_) rfl rfl (by kernel_rfl) (by kernel_rfl) (by kernel_rfl) (fun _ _ _ h => h) (by kernel_rfl) ?_ (by assumption) ?_
  rotate_left 1
  · intro w hSw; (try dsimp only at hSw); go_simp; (try with_reducible rfl)
  try simp only [Act.put, List.setIfInBounds_toArray, List.set_cons_zero, List.set_cons_succ]
  refine takeY 1 _ (v := ?_) rfl rfl (by kernel_rfl) (by kernel_rfl) (by kernel_rfl) (fun _ _ _ h => h) (by kernel_rfl) ?_ (by assumption) ?_
  rotate_left 1
  · intro w hSw; (try dsimp only at hSw); go_simp; (try with_reducible rfl)
  try simp only [Act.put, List.setIfInBounds_toArray, List.set_cons_zero, List.set_cons_succ]
  refine wpAnyH_ready (rs := [2]) (by kernel_rfl) (by simp) ?_
  refine AllReadyH.cons rfl (fun K hK => ?_) AllReadyH.nil
  go_simp
  refine (l01Next_any _ g n 5 W3.drew (show SrcOK W3.drew w.heap.size g n from HS2.out) (by omega)).mono ?_
  rintro e V1 ⟨k, rfl, hka, hkb, hs, hg0⟩
  have hg : W3.grownBy V1 (some g) := ⟨hg0.os, hg0.tape, hg0.output, hg0.size, hg0.block⟩
  replace HB2 := Lib.hid (below_grown HB2.out hg hgn HB2.out.size)
  replace HS2 := Lib.hid hs
  have HR3 : Hid (ReadI V1 V1.heap.size (Value.slice Ab nb0 cb) (L0)) := Lib.hid ((read_src HR2.out hg (Nat.le_refl _) HNG.out).more hg.size)
  have d2 := (grown_cellD hg (p := ⟨bx, 0, none⟩) (by show ¬ bx = g; omega) hbx3).trans c2
  have hbx4 : bx < V1.heap.size := Nat.lt_of_lt_of_le hbx3 hg.size
  clear hs hg hg0
  obtain ⟨j, rfl⟩ : ∃ j : Nat, k = (j : Int) := ⟨k.toNat, by omega⟩
  refine hK.out _ V1 d2 (fun hHeld => ?_)
  clear hK K
  try simp only [Act.put, List.setIfInBounds_toArray, List.set_cons_zero, List.set_cons_succ]
  refine wpAnyH_ready (rs := [3]) (by kernel_rfl) (by simp) ?_
  refine AllReadyH.cons rfl (fun K hK => ?_) AllReadyH.nil
  go_simp
  refine (l04Full_any (Value.slice Ab nb0 cb) (L0) j V1 HR3.out HLN2.out HP.out (by omega)).mono ?_
  rintro e V2 ⟨A5, c5, rfl, ho, hb⟩
  have HSM := Lib.hid (seq_sm HP.out HC.out (k := j) (by omega))
  have hge : g < V1.heap.size := HS2.out.lt
  replace HS2 := Lib.hid (HS2.out.far hb)
  replace HB2 := Lib.hid (below_next HB2.out HB2.out.size hb)
  have d3 := (hb.cell (p := ⟨bx, 0, none⟩) hbx4).trans d2
  obtain ⟨nb, hnb⟩ : ∃ nb, (seqL (L0) ++ List.replicate j 1).length = nb := ⟨_, rfl⟩
  have HNB := Lib.hid hnb
  rw [hnb] at ho ⊢
  have hnb8 : 1 ≤ nb ∧ nb ≤ 400 := by have := HSM.out.2.1; have := HSM.out.2.2.1; omega
  obtain ⟨go, e1, hgo1, hgo2, _, _⟩ := own_at ho hnb (show 0 < nb by omega)
  cases e1
  have HD : Hid (DG w V1.heap.size g n (.slice (some ⟨go, 0, none⟩) nb c5) (seqL (L0) ++ List.replicate j 1) V2) := Lib.hid ⟨HS2.out, OwnI.mk' ho.1, HB2.out, hge, hb.size⟩
  have HSP := Lib.hid HSM.out.1
  have HAL := Lib.hid HSM.out.2.2.2
  clear ho hb hnb HSM HS2 HB2 HR3 HR2 d2 hgo2
  refine hK.out _ V2 d3 (fun hHeld => ?_)
  clear hK K
  try simp only [Act.put, List.setIfInBounds_toArray, List.set_cons_zero, List.set_cons_succ]
  refine takeY 4 _ (v := ?_) rfl rfl (by kernel_rfl) (by kernel_rfl) (by kernel_rfl) (fun _ _ _ h => h) (by kernel_rfl) ?_ (by assumption) ?_
  rotate_left 1
  · intro w hSw; (try dsimp only at hSw); go_simp; (try with_reducible rfl)
  try simp only [Act.put, List.setIfInBounds_toArray, List.set_cons_zero, List.set_cons_succ]
  refine wpAnyH_done (by kernel_rfl) ?_ _
  generalize seqL (L0) ++ List.replicate j 1 = L at *
  generalize V1.heap.size = b0 at *
  clear d3 hbx4 c2
  go_wp2_with fail
  refine (l01Next_any _ g n 10 V2 HD.out.src (by omega)).mono ?_
  rintro e W2 ⟨y, rfl, hq0, hq1, hs, hg⟩
  replace HD := Lib.hid (HD.out.step hs hg)
  clear hs hg
  by_cases h0 : y = 0
  · have e0 : (y == 0) = true := by simpa using h0
    have HY := Lib.hid h0
    clear h0
    go_wp2_with fail
    refine (l01Next_any _ g n (nb : Int) W2 HD.out.src (by omega)).mono ?_
    rintro e W5 ⟨q, rfl, hqa, hqb, hs, hg⟩
    replace HD := Lib.hid (HD.out.step hs hg)
    clear hs hg
    obtain ⟨i, rfl⟩ : ∃ i : Nat, q = (i : Int) := ⟨q.toNat, by omega⟩
    have hj1 : (i : Int) < (nb : Int) := by omega
    have hj0 : (0 : Int) ≤ (i : Int) := by omega
    have HA := Lib.hid (newRI W5 [1, 2, 3, 0, 65] (by simp))
    have hglp : g < W5.heap.size := HD.out.src.lt
    go_wp2_with fail
    refine (l01Pick_any _ g n _ 5 5 [1, 2, 3, 0, 65] (W5.alloc (.cells #[.int .i64 1, .int .i64 2, .int .i64 3, .int .i64 0, .int .i64 65] 2)) (HD.out.alloc _).src HA.out ?_ (by omega)).mono ?_
    · intro a ha; cases ha; show ¬ W5.heap.size = g; omega
    rintro e W6 ⟨x, rfl, hx, hs, hg⟩
    have hx2 : 0 ≤ x ∧ x ≤ 65 := by simp at hx; omega
    replace HD := Lib.hid ((HD.out.alloc _).step hs hg)
    clear hs hg hx HA hglp
    obtain ⟨d3, k3⟩ := HD.out.cell HNB.out (j := i) (by omega)
    have HF := Lib.hid (HD.out.store HNB.out (j := i) (by omega) x)
    go_wp2_with fail
    go_ret
    exact HF.out.sfin (HSP.out.set _ (by omega))
  by_cases h1 : y = 1
  · have e0 : (y == 0) = false := by simpa using h0
    have e1 : (y == 1) = true := by simpa using h1
    have HY := Lib.hid h1
    clear h1
    go_wp2_with fail
    refine (l01Next_any _ g n (nb : Int) W2 HD.out.src (by omega)).mono ?_
    rintro e W5 ⟨q, rfl, hqa, hqb, hs, hg⟩
    replace HD := Lib.hid (HD.out.step hs hg)
    clear hs hg
    obtain ⟨i, rfl⟩ : ∃ i : Nat, q = (i : Int) := ⟨q.toNat, by omega⟩
    have hj1 : (i : Int) < (nb : Int) := by omega
    have hj0 : (0 : Int) ≤ (i : Int) := by omega
    have hcb : nb ≤ c5 ∧ c5 ≤ 9223372036854775807 := by
      obtain ⟨A', c', e7, _, _, h5, _, h6⟩ := HD.out.own.reads
      rw [HNB.out] at e7 h5
      cases e7; exact ⟨h5, h6⟩
    have p1 : IntKind.i64.wrap (1 + (i : Int)) = 1 + (i : Int) := IntWalk.i64_in _ (by omega)
    have hu1 : (0 : Int) ≤ 1 + (i : Int) := by omega
    have hu2 : 1 + (i : Int) ≤ (c5 : Int) := by omega
    have hu3 : (1 + (i : Int)).toNat = i + 1 := by omega
    go_wp2_with fail
    go_ret
    first | exact ⟨_, _, _, _, rfl, own_take HD.out.own HNB.out (by omega), HSP.out.take _, HD.out.below⟩ | (simp only [hu3]; exact ⟨_, _, _, _, rfl, own_take HD.out.own HNB.out (k := i + 1) (by omega), HSP.out.take _, HD.out.below⟩)
  by_cases h2 : y = 2
  · have e0 : (y == 0) = false := by simpa using h0
    have e1 : (y == 1) = false := by simpa using h1
    have e2 : (y == 2) = true := by simpa using h2
    have HY := Lib.hid h2
    clear h2
    have hcb : nb ≤ c5 ∧ c5 ≤ 9223372036854775807 := by
      obtain ⟨A', c', e7, _, _, h5, _, h6⟩ := HD.out.own.reads
      rw [HNB.out] at e7 h5
      cases e7; exact ⟨h5, h6⟩
    by_cases hC : c5 = 1
    · obtain rfl : c5 = 1 := hC
      obtain rfl : nb = 1 := by omega
      go_wp2_with fail
      go_ret
      have hd : L.drop 1 = [] := List.drop_eq_nil_of_le (by rw [HNB.out]; exact Nat.le_refl _)
      exact ⟨_, _, _, [], rfl, ⟨some ⟨go, 0, none⟩, 0, rfl, ⟨rfl, fun k hk => absurd hk (by simp)⟩, (by intro h; cases h), Nat.le_refl _, fun a ha => by cases ha; exact ⟨_, _, rfl⟩, by omega⟩, by rw [← hd]; exact HSP.out.drop 1, HD.out.below⟩
    obtain ⟨C, rfl⟩ : ∃ C, c5 = C + 1 := ⟨c5 - 1, by omega⟩
    obtain ⟨M, rfl⟩ : ∃ M, nb = M + 1 := ⟨nb - 1, by omega⟩
    have hC0 : ¬ C = 0 := by omega
    have h1M : (1 : Int) ≤ (M : Int) + 1 := by omega
    clear hC
    go_wp2_with fail
    go_ret
    exact ⟨_, _, _, _, rfl, own_tail HD.out.own HNB.out, HSP.out.drop 1, HD.out.below⟩
  by_cases h3 : y = 3
  · have e0 : (y == 0) = false := by simpa using h0
    have e1 : (y == 1) = false := by simpa using h1
    have e2 : (y == 2) = false := by simpa using h2
    have e3 : (y == 3) = true := by simpa using h3
    have HY := Lib.hid h3
    clear h3
    go_wp2_with fail
    refine (l01Next_any _ g n 8 W2 HD.out.src (by omega)).mono ?_
    rintro e W5 ⟨q, rfl, hqa, hqb, hs, hg⟩
    replace HD := Lib.hid (HD.out.step hs hg)
    clear hs hg
    have p1 : IntKind.i64.wrap (1 + q) = 1 + q := IntWalk.i64_in _ (by omega)
    obtain ⟨i0, hi0, hy0, hy1, hy2⟩ := info_parts int_info
    have hw0 : w.heap.size ≤ W5.heap.size := HD.out.below.size
    have hgoW : go < W5.heap.size := by obtain ⟨g9, e9, _, h9, _, _⟩ := own_at HD.out.own HNB.out (show 0 < nb by omega); cases e9; exact h9
    have HNW : Hid (∀ (j : Nat) (u : Value), (L.map (.int .i64))[j]? = some u → (W5.alloc (.cells #[.int .i64 (1 + q)] 2)).cell? ((⟨go, 0, none⟩ : Addr).add j) = some u) := Lib.hid (fun j u hj => by
      have hjl : j < nb := by
        by_cases h5 : j < nb
        · exact h5
        · rw [List.getElem?_eq_none (by rw [List.length_map, HNB.out]; omega)] at hj; cases hj
      have h7 := (HD.out.cell HNB.out hjl).1
      rw [add_lit, Nat.zero_add, (below_box W5 (.cells #[.int .i64 (1 + q)] 2)).cell (p := ⟨go, j, none⟩) hgoW, h7]
      have hjl2 : j < L.length := by rw [HNB.out]; exact hjl
      rw [List.getElem?_map, List.getElem?_eq_getElem hjl2] at hj
      rw [List.getElem?_eq_getElem hjl2]
      exact hj)
    go_wp2_with (at_builtin; go_loud (refine wpList_append_lies _ rfl (.tmp 52) (.tmp 53) 24 rfl W5.heap.size 2 i0 (.int .i64 0) 1 8 Try.underlying24 hi0 hy0 hy1 hy2 rfl (by decide) (.slice (some ⟨W5.heap.size, 0, none⟩) 1 1) 1 [.int .i64 (1 + q)] rfl ?gg4 ⟨go, 0, none⟩ nb c5 (L.map (.int .i64)) rfl ?gg5 HNW.out ?gg7 ?gg12 ?gg8 ?gg9 ?gg10 _ rfl ?gg11; (exact World.ownsRow_lit (base := W5.heap.size) W5 #[.int .i64 (1 + q)] 1 (e := 2) (size := 1) (Nat.le_refl _) (by simp [maxLen]) rfl); (rw [List.length_map, HNB.out, Nat.mul_one]); (intro u hu; obtain ⟨z, _, rfl⟩ := List.mem_map.1 hu; rfl); (omega); (simp only [maxLen]; omega); (omega); (simp); intro g2 cap2 w4 hown2 hgrow hg2 hlt2; (have B4 : Below W5.heap.size W5 w4 := Below.grown (w := (W5.alloc (.cells #[.int .i64 (1 + q)] 2))) ((Below.refl _ _).alloc (Nat.le_refl _) _) ⟨hgrow.os, hgrow.tape, hgrow.output, hgrow.size, hgrow.block⟩ (by simp) (fun k hk => by simp [Value.ownBlock] at hk; omega)); (have HF : Hid (OwnI w4 W5.heap.size w4.heap.size (.slice (some ⟨g2, 0, none⟩) (1 + nb) cap2) ((1 + q) :: L)) := Lib.hid (OwnI.mk' (n := 1 + nb) hown2)); (have HFB : Hid (Below w.heap.size w w4) := Lib.hid (HD.out.below.trans (B4.mono hw0))); clear hown2 hgrow hg2 B4))
    go_ret
    exact ⟨_, _, _, _, rfl, HF.out.reads, HSP.out.cons (by rw [HNB.out]; omega) (by omega), HFB.out⟩
  by_cases h4 : y = 4
  · have e0 : (y == 0) = false := by simpa using h0
    have e1 : (y == 1) = false := by simpa using h1
    have e2 : (y == 2) = false := by simpa using h2
    have e3 : (y == 3) = false := by simpa using h3
    have e4 : (y == 4) = true := by simpa using h4
    have HY := Lib.hid h4
    clear h4
    have HD0 := HD
    have hb4 : nb ≤ 400 := hnb8.2
    go_wp2_with fail
    go_loopw [6, 7] (fun vt vi wr => ∃ (i : Nat) (t : Int), i ≤ nb ∧ (0 ≤ t ∧ t ≤ 64 * (i : Int)) ∧ vt = .int .i64 t ∧ vi = .int .i64 i ∧ Hid (DG w b0 g n (Value.slice (some ⟨go, 0, none⟩) nb c5) L wr)) (fun _ vi _ => nb - (intOf vi).toNat)
    case atStart => exact ⟨0, 0, by omega, by omega, rfl, rfl, HD0⟩
    case round =>
      clear HD HD0
      obtain ⟨i, t, hi, ht, rfl, rfl, HD⟩ := hrel
      go_wp2_with fail
      refine (l01Next_any _ g n 4 wr HD.out.src (by omega)).mono ?_
      rintro e W6 ⟨q, rfl, hqa, hqb, hs, hg⟩
      replace HD := Lib.hid (HD.out.step hs hg)
      clear hs hg
      have hi0 : (0 : Int) ≤ (i : Int) := by omega
      by_cases hiq : (i : Int) ≤ q ∧ i < nb
      · obtain ⟨hq1', hlt⟩ := hiq
        have b1 : decide ((i : Int) ≤ q) = true := by simpa using hq1'
        have hi1 : (i : Int) < (nb : Int) := by omega
        obtain ⟨d3, k3⟩ := HD.out.cell HNB.out (j := i) hlt
        have hzr : 1 ≤ L[i]?.getD 0 ∧ L[i]?.getD 0 ≤ 64 := HAL.out _ (by have := HNB.out; simp [show i < L.length by omega])
        generalize (L[i]?.getD 0 : Int) = z at *
        have p1 : IntKind.i64.wrap (t + z) = t + z := IntWalk.i64_in _ (by omega)
        have p2 : IntKind.i64.wrap ((i : Int) + 1) = (i : Int) + 1 := IntWalk.i64_in _ (by omega)
        go_wp2_with fail
        go_roundw
        case rel => exact ⟨i + 1, t + z, by omega, by omega, by go_num, by go_num, HD⟩
        case measure => simp [intOf]; omega
      by_cases ht1 : t < 1
      · obtain rfl : t = 0 := by omega
        by_cases hiq1 : (i : Int) ≤ q
        · have b1 : decide ((i : Int) ≤ q) = true := by simpa using hiq1
          have hlt : ¬ (i : Int) < (nb : Int) := fun h => hiq ⟨hiq1, by omega⟩
          have b2 : decide ((i : Int) < (nb : Int)) = false := by simpa using hlt
          clear hiq
          obtain ⟨i0, hi0, hy0, hy1, hy2⟩ := info_parts int_info
          have hw0 : w.heap.size ≤ W6.heap.size := HD.out.below.size
          have hgoW : go < W6.heap.size := by obtain ⟨g9, e9, _, h9, _, _⟩ := own_at HD.out.own HNB.out (show 0 < nb by omega); cases e9; exact h9
          have HNW : Hid (∀ (j : Nat) (u : Value), (L.map (.int .i64))[j]? = some u → (W6.alloc (.cells #[.int .i64 (1)] 2)).cell? ((⟨go, 0, none⟩ : Addr).add j) = some u) := Lib.hid (fun j u hj => by
            have hjl : j < nb := by
              by_cases h5 : j < nb
              · exact h5
              · rw [List.getElem?_eq_none (by rw [List.length_map, HNB.out]; omega)] at hj; cases hj
            have h7 := (HD.out.cell HNB.out hjl).1
            rw [add_lit, Nat.zero_add, (below_box W6 (.cells #[.int .i64 (1)] 2)).cell (p := ⟨go, j, none⟩) hgoW, h7]
            have hjl2 : j < L.length := by rw [HNB.out]; exact hjl
            rw [List.getElem?_map, List.getElem?_eq_getElem hjl2] at hj
            rw [List.getElem?_eq_getElem hjl2]
            exact hj)
          go_wp2_with (at_builtin; go_loud (refine wpList_append_lies _ rfl (.tmp 77) (.tmp 78) 24 rfl W6.heap.size 2 i0 (.int .i64 0) 1 8 Try.underlying24 hi0 hy0 hy1 hy2 rfl (by decide) (.slice (some ⟨W6.heap.size, 0, none⟩) 1 1) 1 [.int .i64 (1)] rfl ?gh4 ⟨go, 0, none⟩ nb c5 (L.map (.int .i64)) rfl ?gh5 HNW.out ?gh7 ?gh12 ?gh8 ?gh9 ?gh10 _ rfl ?gh11; (exact World.ownsRow_lit (base := W6.heap.size) W6 #[.int .i64 (1)] 1 (e := 2) (size := 1) (Nat.le_refl _) (by simp [maxLen]) rfl); (rw [List.length_map, HNB.out, Nat.mul_one]); (intro u hu; obtain ⟨z, _, rfl⟩ := List.mem_map.1 hu; rfl); (omega); (simp only [maxLen]; omega); (omega); (simp); intro g2 cap2 w4 hown2 hgrow hg2 hlt2; (have B4 : Below W6.heap.size W6 w4 := Below.grown (w := (W6.alloc (.cells #[.int .i64 (1)] 2))) ((Below.refl _ _).alloc (Nat.le_refl _) _) ⟨hgrow.os, hgrow.tape, hgrow.output, hgrow.size, hgrow.block⟩ (by simp) (fun k hk => by simp [Value.ownBlock] at hk; omega)); (have HF : Hid (OwnI w4 W6.heap.size w4.heap.size (.slice (some ⟨g2, 0, none⟩) (1 + nb) cap2) ((1) :: L)) := Lib.hid (OwnI.mk' (n := 1 + nb) hown2)); (have HFB : Hid (Below w.heap.size w w4) := Lib.hid (HD.out.below.trans (B4.mono hw0))); clear hown2 hgrow hg2 B4))
          go_ret
          exact ⟨_, _, _, _, rfl, HF.out.reads, HSP.out.cons (by rw [HNB.out]; omega) (by omega), HFB.out⟩
        · have b1 : decide ((i : Int) ≤ q) = false := by simpa using hiq1
          clear hiq
          obtain ⟨i0, hi0, hy0, hy1, hy2⟩ := info_parts int_info
          have hw0 : w.heap.size ≤ W6.heap.size := HD.out.below.size
          have hgoW : go < W6.heap.size := by obtain ⟨g9, e9, _, h9, _, _⟩ := own_at HD.out.own HNB.out (show 0 < nb by omega); cases e9; exact h9
          have HNW : Hid (∀ (j : Nat) (u : Value), (L.map (.int .i64))[j]? = some u → (W6.alloc (.cells #[.int .i64 (1)] 2)).cell? ((⟨go, 0, none⟩ : Addr).add j) = some u) := Lib.hid (fun j u hj => by
            have hjl : j < nb := by
              by_cases h5 : j < nb
              · exact h5
              · rw [List.getElem?_eq_none (by rw [List.length_map, HNB.out]; omega)] at hj; cases hj
            have h7 := (HD.out.cell HNB.out hjl).1
            rw [add_lit, Nat.zero_add, (below_box W6 (.cells #[.int .i64 (1)] 2)).cell (p := ⟨go, j, none⟩) hgoW, h7]
            have hjl2 : j < L.length := by rw [HNB.out]; exact hjl
            rw [List.getElem?_map, List.getElem?_eq_getElem hjl2] at hj
            rw [List.getElem?_eq_getElem hjl2]
            exact hj)
          go_wp2_with (at_builtin; go_loud (refine wpList_append_lies _ rfl (.tmp 77) (.tmp 78) 24 rfl W6.heap.size 2 i0 (.int .i64 0) 1 8 Try.underlying24 hi0 hy0 hy1 hy2 rfl (by decide) (.slice (some ⟨W6.heap.size, 0, none⟩) 1 1) 1 [.int .i64 (1)] rfl ?gi4 ⟨go, 0, none⟩ nb c5 (L.map (.int .i64)) rfl ?gi5 HNW.out ?gi7 ?gi12 ?gi8 ?gi9 ?gi10 _ rfl ?gi11; (exact World.ownsRow_lit (base := W6.heap.size) W6 #[.int .i64 (1)] 1 (e := 2) (size := 1) (Nat.le_refl _) (by simp [maxLen]) rfl); (rw [List.length_map, HNB.out, Nat.mul_one]); (intro u hu; obtain ⟨z, _, rfl⟩ := List.mem_map.1 hu; rfl); (omega); (simp only [maxLen]; omega); (omega); (simp); intro g2 cap2 w4 hown2 hgrow hg2 hlt2; (have B4 : Below W6.heap.size W6 w4 := Below.grown (w := (W6.alloc (.cells #[.int .i64 (1)] 2))) ((Below.refl _ _).alloc (Nat.le_refl _) _) ⟨hgrow.os, hgrow.tape, hgrow.output, hgrow.size, hgrow.block⟩ (by simp) (fun k hk => by simp [Value.ownBlock] at hk; omega)); (have HF : Hid (OwnI w4 W6.heap.size w4.heap.size (.slice (some ⟨g2, 0, none⟩) (1 + nb) cap2) ((1) :: L)) := Lib.hid (OwnI.mk' (n := 1 + nb) hown2)); (have HFB : Hid (Below w.heap.size w w4) := Lib.hid (HD.out.below.trans (B4.mono hw0))); clear hown2 hgrow hg2 B4))
          go_ret
          exact ⟨_, _, _, _, rfl, HF.out.reads, HSP.out.cons (by rw [HNB.out]; omega) (by omega), HFB.out⟩
      · have ht2 : decide (t < 1) = false := by simpa using ht1
        by_cases hiq1 : (i : Int) ≤ q
        · have b1 : decide ((i : Int) ≤ q) = true := by simpa using hiq1
          have hlt : ¬ (i : Int) < (nb : Int) := fun h => hiq ⟨hiq1, by omega⟩
          have b2 : decide ((i : Int) < (nb : Int)) = false := by simpa using hlt
          clear hiq
          obtain ⟨i0, hi0, hy0, hy1, hy2⟩ := info_parts int_info
          have hw0 : w.heap.size ≤ W6.heap.size := HD.out.below.size
          have hgoW : go < W6.heap.size := by obtain ⟨g9, e9, _, h9, _, _⟩ := own_at HD.out.own HNB.out (show 0 < nb by omega); cases e9; exact h9
          have HNW : Hid (∀ (j : Nat) (u : Value), (L.map (.int .i64))[j]? = some u → (W6.alloc (.cells #[.int .i64 (t)] 2)).cell? ((⟨go, 0, none⟩ : Addr).add j) = some u) := Lib.hid (fun j u hj => by
            have hjl : j < nb := by
              by_cases h5 : j < nb
              · exact h5
              · rw [List.getElem?_eq_none (by rw [List.length_map, HNB.out]; omega)] at hj; cases hj
            have h7 := (HD.out.cell HNB.out hjl).1
            rw [add_lit, Nat.zero_add, (below_box W6 (.cells #[.int .i64 (t)] 2)).cell (p := ⟨go, j, none⟩) hgoW, h7]
            have hjl2 : j < L.length := by rw [HNB.out]; exact hjl
            rw [List.getElem?_map, List.getElem?_eq_getElem hjl2] at hj
            rw [List.getElem?_eq_getElem hjl2]
            exact hj)
          go_wp2_with (at_builtin; go_loud (refine wpList_append_lies _ rfl (.tmp 77) (.tmp 78) 24 rfl W6.heap.size 2 i0 (.int .i64 0) 1 8 Try.underlying24 hi0 hy0 hy1 hy2 rfl (by decide) (.slice (some ⟨W6.heap.size, 0, none⟩) 1 1) 1 [.int .i64 (t)] rfl ?gj4 ⟨go, 0, none⟩ nb c5 (L.map (.int .i64)) rfl ?gj5 HNW.out ?gj7 ?gj12 ?gj8 ?gj9 ?gj10 _ rfl ?gj11; (exact World.ownsRow_lit (base := W6.heap.size) W6 #[.int .i64 (t)] 1 (e := 2) (size := 1) (Nat.le_refl _) (by simp [maxLen]) rfl); (rw [List.length_map, HNB.out, Nat.mul_one]); (intro u hu; obtain ⟨z, _, rfl⟩ := List.mem_map.1 hu; rfl); (omega); (simp only [maxLen]; omega); (omega); (simp); intro g2 cap2 w4 hown2 hgrow hg2 hlt2; (have B4 : Below W6.heap.size W6 w4 := Below.grown (w := (W6.alloc (.cells #[.int .i64 (t)] 2))) ((Below.refl _ _).alloc (Nat.le_refl _) _) ⟨hgrow.os, hgrow.tape, hgrow.output, hgrow.size, hgrow.block⟩ (by simp) (fun k hk => by simp [Value.ownBlock] at hk; omega)); (have HF : Hid (OwnI w4 W6.heap.size w4.heap.size (.slice (some ⟨g2, 0, none⟩) (1 + nb) cap2) ((t) :: L)) := Lib.hid (OwnI.mk' (n := 1 + nb) hown2)); (have HFB : Hid (Below w.heap.size w w4) := Lib.hid (HD.out.below.trans (B4.mono hw0))); clear hown2 hgrow hg2 B4))
          go_ret
          exact ⟨_, _, _, _, rfl, HF.out.reads, HSP.out.cons (by rw [HNB.out]; omega) (by omega), HFB.out⟩
        · have b1 : decide ((i : Int) ≤ q) = false := by simpa using hiq1
          clear hiq
          obtain ⟨i0, hi0, hy0, hy1, hy2⟩ := info_parts int_info
          have hw0 : w.heap.size ≤ W6.heap.size := HD.out.below.size
          have hgoW : go < W6.heap.size := by obtain ⟨g9, e9, _, h9, _, _⟩ := own_at HD.out.own HNB.out (show 0 < nb by omega); cases e9; exact h9
          have HNW : Hid (∀ (j : Nat) (u : Value), (L.map (.int .i64))[j]? = some u → (W6.alloc (.cells #[.int .i64 (t)] 2)).cell? ((⟨go, 0, none⟩ : Addr).add j) = some u) := Lib.hid (fun j u hj => by
            have hjl : j < nb := by
              by_cases h5 : j < nb
              · exact h5
              · rw [List.getElem?_eq_none (by rw [List.length_map, HNB.out]; omega)] at hj; cases hj
            have h7 := (HD.out.cell HNB.out hjl).1
            rw [add_lit, Nat.zero_add, (below_box W6 (.cells #[.int .i64 (t)] 2)).cell (p := ⟨go, j, none⟩) hgoW, h7]
            have hjl2 : j < L.length := by rw [HNB.out]; exact hjl
            rw [List.getElem?_map, List.getElem?_eq_getElem hjl2] at hj
            rw [List.getElem?_eq_getElem hjl2]
            exact hj)
          go_wp2_with (at_builtin; go_loud (refine wpList_append_lies _ rfl (.tmp 77) (.tmp 78) 24 rfl W6.heap.size 2 i0 (.int .i64 0) 1 8 Try.underlying24 hi0 hy0 hy1 hy2 rfl (by decide) (.slice (some ⟨W6.heap.size, 0, none⟩) 1 1) 1 [.int .i64 (t)] rfl ?gk4 ⟨go, 0, none⟩ nb c5 (L.map (.int .i64)) rfl ?gk5 HNW.out ?gk7 ?gk12 ?gk8 ?gk9 ?gk10 _ rfl ?gk11; (exact World.ownsRow_lit (base := W6.heap.size) W6 #[.int .i64 (t)] 1 (e := 2) (size := 1) (Nat.le_refl _) (by simp [maxLen]) rfl); (rw [List.length_map, HNB.out, Nat.mul_one]); (intro u hu; obtain ⟨z, _, rfl⟩ := List.mem_map.1 hu; rfl); (omega); (simp only [maxLen]; omega); (omega); (simp); intro g2 cap2 w4 hown2 hgrow hg2 hlt2; (have B4 : Below W6.heap.size W6 w4 := Below.grown (w := (W6.alloc (.cells #[.int .i64 (t)] 2))) ((Below.refl _ _).alloc (Nat.le_refl _) _) ⟨hgrow.os, hgrow.tape, hgrow.output, hgrow.size, hgrow.block⟩ (by simp) (fun k hk => by simp [Value.ownBlock] at hk; omega)); (have HF : Hid (OwnI w4 W6.heap.size w4.heap.size (.slice (some ⟨g2, 0, none⟩) (1 + nb) cap2) ((t) :: L)) := Lib.hid (OwnI.mk' (n := 1 + nb) hown2)); (have HFB : Hid (Below w.heap.size w w4) := Lib.hid (HD.out.below.trans (B4.mono hw0))); clear hown2 hgrow hg2 B4))
          go_ret
          exact ⟨_, _, _, _, rfl, HF.out.reads, HSP.out.cons (by rw [HNB.out]; omega) (by omega), HFB.out⟩
  have e0 : (y == 0) = false := by simpa using h0
  have e1 : (y == 1) = false := by simpa using h1
  have e2 : (y == 2) = false := by simpa using h2
  have e3 : (y == 3) = false := by simpa using h3
  have e4 : (y == 4) = false := by simpa using h4
  go_wp2_with fail
  go_ret
  exact HD.out.sfin HSP.out
set_option maxRecDepth 100000 in
theorem DrawBranchOfSequence_any (A : Option Addr) (n c : Nat) (w : World) (hr : RB w w.heap.size A n) (hn : n ≤ 9223372036854775807) :
    Calls Try.prog 27 #[.slice A n c] w (DrSPost w) := by
  have HR := Lib.hid hr
  clear hr
  go_enter Try.func27, Try.ntmps27
  go_wp2_with fail
  refine (l04Some_any A n c w HR.out hn).mono ?_
  rintro e w1 ⟨A5, m5, c5, L, rfl, h1, h2, h3⟩
  have H1 := Lib.hid h1
  have H2 := Lib.hid h2
  have H3 := Lib.hid h3
  clear h1 h2 h3
  go_wp2_with fail
  go_ret
  exact ⟨_, _, _, _, rfl, H1.out, H2.out, H3.out⟩
end Go.Proofs.Ytjgidalmgoifgaa
