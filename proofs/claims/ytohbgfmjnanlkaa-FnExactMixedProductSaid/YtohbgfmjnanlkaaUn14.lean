/- Unloading, the program's: weights of the unloaded cluster. Conditions: stated at each theorem. -/
import Derived.Test.YtohbgfmjnanlkaaUwM
namespace Go.Proofs.Ytohbgfmjnanlkaa
open Go.ChangeShapes Go.WideShapes Go.ChangeAt Go.RowKit Go.Deep
set_option linter.unusedVariables false
set_option linter.unusedSimpArgs false

/-- What a round hands on of the joined points. -/
structure JK (w : World) (lo ub bo bj n K : Nat) (P S : List Int) (O : Nat → Int) (J : Nat → Bool) (L : List Nat) (A : Option Addr) (l c : Nat) : Prop where
  len : L.length = l
  jl : JL n J L
  own : ∃ B, w.ownsRow B 3 1 (.slice A l c) l (pL L) ∧ lo ≤ B ∧ ub < B ∧ bo < B ∧ bj < B
  tin : ∀ q, q < n → J q = true → 0 < (riR (meE P S n) (exU P S n O) J n K q (-1)).1
  tout : ∀ q, q < n → J q = false → (riR (meE P S n) (exU P S n O) J n K q (-1)).1 ≤ 0
theorem JK.cells {w : World} {lo ub bo bj n K : Nat} {P S : List Int} {O : Nat → Int} {J : Nat → Bool} {L : List Nat} {A : Option Addr} {l c : Nat} (h : JK w lo ub bo bj n K P S O J L A l c) (hl : 0 < l) :
    ∃ bp, A = some ⟨bp, 0, none⟩ ∧ Far w lo ub bo bj bp ∧ ∀ t p, L[t]? = some p → p < n ∧ w.cell? ⟨bp, t, none⟩ = some (.int .i64 (p : Int)) := by
  obtain ⟨B, ho, h1, h2, h3, h4⟩ := h.own
  have hlt := World.ownsRow.lt ho
  have hf : ∃ bp, A = some ⟨bp, 0, none⟩ := by
    rcases ho.2 with ⟨_, h9⟩ | ⟨g, cap, cur, e9, _⟩
    · omega
    · exact ⟨g, by cases e9; rfl⟩
  obtain ⟨bp, rfl⟩ := hf
  have hb := hlt bp rfl
  refine ⟨bp, rfl, ⟨by omega, hb.2, by omega, by omega, by omega⟩, fun t p ht => ?_⟩
  have hm := List.mem_of_getElem? ht
  refine ⟨((h.jl.mem p).1 hm).1, ?_⟩
  have htl : t < l := by rw [← h.len]; exact (List.getElem?_eq_some_iff.1 ht).1
  rw [World.ownsRow.cellAt ho t (by omega)]
  simp [pL, ht]

set_option maxRecDepth 100000 in
set_option maxHeartbeats 4000000 in
theorem unloadedWeights_any (g n lo bo co : Nat) (P S : List Int) (O0 : Nat → Int) (vw : Value) (w : World) (hpt : PtsAt w g n n P S) (hg : g < lo) (hlo : lo ≤ bo) (hbo : bo < w.heap.size) (hC : ClP P S n)
    (ho : OwnI w bo (bo + 1) (.slice (some ⟨bo, 0, none⟩) n co) (fnL O0 n)) (h0 : ∀ x, x < n → -13000000000 ≤ O0 x ∧ O0 x ≤ 13000000000) (hx : ∀ x, x < n → -(bdE P S n x) ≤ exU P S n O0 x ∧ exU P S n O0 x ≤ bdE P S n x) (hx2 : ∀ x, x < n → -2500000 ≤ xsF P S n O0 x) :
    Calls Try.prog 88 #[.agg #[.slice (some ⟨g, 0, none⟩) n n, vw], .slice (some ⟨bo, 0, none⟩) n co] w fun e w' => ∃ Q A c l h, e = .returned (.slice A n c) ∧ Lst P S n O0 Q ∧ OwnI w' l h (.slice A n c) (fnL (woF P S Q) n) ∧ lo ≤ l ∧ Below lo w w' := by
  have hn := hC.hi
  have hn1 := hC.lo
  obtain ⟨sd, mu, K, hT⟩ := tb_cluster hC.ok hn1
  have HT := Lib.hid hT
  have HC := Lib.hid hC
  obtain ⟨W0, HE⟩ : ∃ V, V = w.alloc (.cells #[.slice (some ⟨g, 0, none⟩) n n, vw] 93) := ⟨_, rfl⟩
  have hb0 : Below w.heap.size w W0 := by rw [HE]; exact below_box2 _ _
  have z0 : W0.cell? ⟨w.heap.size, 0, none⟩ = some (.slice (some ⟨g, 0, none⟩) n n) := by rw [HE]; go_simp
  have z1 : W0.cell? ⟨w.heap.size, 1, none⟩ = some vw := by rw [HE]; go_simp
  have hzl : w.heap.size < W0.heap.size := by rw [HE]; simp
  have hgw : g < w.heap.size := by omega
  have HEQ := Lib.hid HE
  have HUF := Lib.hid (unloadingFrom2_any g n lo bo co P S O0 vw W0 (rowIs_below hpt hgw hb0) hg hlo (by omega) hC (ho.stay hb0) (fun x hx => by have := h0 x hx; omega))
  have HB0 : Hid (Below lo w W0) := Lib.hid (hb0.mono (by omega))
  have H0 := Lib.hid h0
  have HX2 := Lib.hid hx2
  have HLL : Hid (lo ≤ W0.heap.size ∧ bo < W0.heap.size) := Lib.hid (by omega)
  have HRS0 : Hid (RS P S n O0 O0) := Lib.hid ⟨Btw.refl _ _ _ _, hx⟩
  clear hpt ho h0 hx hx2 hT hb0 HE hC
  go_enter Try.func88, Try.ntmps88
  go_wp2_with fail
  rw [← HEQ.out]
  go_wp2_with (first
    | (go_at_call 144; refine HUF.out.mono ?_; rintro e w1 ⟨ub, bj, mo, bn, cm, cn, rfl, hus, hb1, hub, hbj, hcn⟩; have HUS := Lib.hid hus; have HB1 : Hid (Below lo W0 w1) := Lib.hid (hb1.mono HLL.out.1); have HCN := Lib.hid hcn; clear hus hb1 hcn)
    | (go_at_call 145; refine (join_any lo ub bo bj g n mo bn co cm cn K P S O0 _ w1 HUS.out HT.out HC.out HCN.out HRS0.out.ex).mono ?_; rintro e w2 ⟨J, L, A, c, rfl, hus, hon, hjl, how, ht1, ht2⟩; have HUS2 := Lib.hid hus; have HON2 := Lib.hid hon; have HJK2 : Hid (JK w2 lo ub bo bj n K P S O0 J L A L.length c) := Lib.hid ⟨rfl, hjl, ⟨w1.heap.size, how, by have := HUS.out.sta.ulo; have := HUS.out.sta.olo; have := HUS.out.sta.jlo; omega⟩, ht1, ht2⟩; clear hus hon hjl how ht1 ht2))
  have HBB : Hid (Below lo W0 w2) := Lib.hid (HB1.out.trans (Only.below HON2.out (by have := HUS.out.sta.jlo; omega) (by have := HUS.out.sta.ulo; omega)))
  go_loopg [6] (fuU P S n O0 O0) (fun k v6 wr => ∃ (O : Nat → Int) (J : Nat → Bool) (L : List Nat) (l : Nat) (A : Option Addr) (c : Nat), v6 = .slice A l c ∧ Hid (US wr lo ub bo bj g n mo bn co cm cn P S O J) ∧ Hid (JK wr lo ub bo bj n K P S O J L A l c) ∧ Hid (RS P S n O0 O) ∧ Hid (Below lo W0 wr) ∧ Hid (fuU P S n O0 O ≤ k))
  case atStart => exact ⟨O0, J, L, L.length, A, c, rfl, HUS2, HJK2, HRS0, HBB, Lib.hid (Nat.le_refl _)⟩
  case round =>
    clear HUS HUS2 HON2 HJK2 HRS0 HBB HUF HB1
    obtain ⟨O, J, L, l, A, c, rfl, HUS, HJK, HRS, HBB, HFU⟩ := hrel
    by_cases hl : l = 0
    · subst hl
      obtain ⟨A1, c1, A4, c4, l1, h1, l4, h4, hux, ho1, ho4, hl1, hl4⟩ := HUS.out.dyn
      have u1 := hux.c1
      have HO1 := Lib.hid ho1
      have HL1 := Lib.hid hl1
      clear hux ho1 ho4 hl1 hl4
      go_wp2_with fail
      go_ret
      have hL : L = [] := List.eq_nil_of_length_eq_zero HJK.out.len
      refine ⟨O, A1, c1, l1, h1, rfl, HRS.out.done HT.out HC.out.ok hn (by rw [← hL]; exact HJK.out.jl) HJK.out.tout, by rw [← woL_fn HC.out.ok]; exact HO1.out, HL1.out.1, HB0.out.trans HBB.out⟩
    · have hl2 : 0 < l := by omega
      have hl3 : (0 : Int) < (l : Int) := by omega
      obtain ⟨bp, rfl, hfar, hcells⟩ := HJK.out.cells hl2
      have hnx := HRS.out.next HT.out HC.out.ok hn HJK.out.jl HJK.out.tin HJK.out.tout
      have HNX := Lib.hid hnx
      have htop := HRS.out.top HC.out.ok hn H0.out HX2.out
      have htop1 := hnx.1.top HC.out.ok hn H0.out HX2.out
      have hln : l ≤ n := by have h9 := HJK.out.jl.len; rw [HJK.out.len] at h9; exact h9
      have HRA := Lib.hid (raise2_any lo ub bo bj g n mo bn co cm cn bp l c P S O (stR P S n K O J) J L wr HUS.out HC.out HJK.out.len hcells hfar (fun t x hx => by
        have h1 := htop x hx
        have h2 := htop1 x hx
        rw [raF_mem HJK.out.jl.nd] at h2
        have h3 : (L.take t).Nodup := List.Nodup.sublist (List.take_sublist t L) HJK.out.jl.nd
        rw [raF_mem h3]
        by_cases hm : x ∈ L.take t
        · have hm2 := List.mem_of_mem_take hm
          rw [if_pos hm]
          rw [if_pos hm2] at h2
          omega
        · rw [if_neg hm]; omega) (fun p V be c4 hp hx => joint_any HT.out HC.out.ok hn HRS.out.ex p V ((HJK.out.jl.mem p).1 hp).1 hx (HJK.out.tin p ((HJK.out.jl.mem p).1 hp).1 ((HJK.out.jl.mem p).1 hp).2)) (by omega))
      clear hfar hcells hnx htop htop1
      go_wp2_with (first
        | (go_at_call 146; refine HRA.out.mono ?_; rintro e w5 ⟨rfl, hus5, hu5⟩; have HUS5 := Lib.hid hus5; have HU5 := Lib.hid hu5; clear hus5 hu5)
        | (go_at_call 145; refine (join_any lo ub bo bj g n mo bn co cm cn K P S (raF O (stR P S n K O J) L) _ w5 HUS5.out HT.out HC.out HCN.out HNX.out.1.ex).mono ?_; rintro e w6 ⟨J6, L6, A6, c6, rfl, hus, hon, hjl, how, ht1, ht2⟩; have HUS6 := Lib.hid hus; have HON6 := Lib.hid hon; have HJK6 : Hid (JK w6 lo ub bo bj n K P S (raF O (stR P S n K O J) L) J6 L6 A6 L6.length c6) := Lib.hid ⟨rfl, hjl, ⟨w5.heap.size, how, by have := HUS5.out.sta.ulo; have := HUS5.out.sta.olo; have := HUS5.out.sta.jlo; omega⟩, ht1, ht2⟩; clear hus hon hjl how ht1 ht2))
      go_roundg (fuU P S n O0 (raF O (stR P S n K O J) L))
      case measure =>
        obtain ⟨p, hp⟩ : ∃ p, p ∈ L := ⟨L[0]'(by rw [HJK.out.len]; exact hl2), List.getElem_mem _⟩
        refine Nat.lt_of_lt_of_le (HNX.out.1.fuel (O := O) (p := p) HC.out.ok hn H0.out HX2.out (fun x hx => ?_) ((HJK.out.jl.mem p).1 hp).1 ?_) HFU.out
        · rw [raF_mem HJK.out.jl.nd]
          by_cases hm : x ∈ L
          · rw [if_pos hm]; have := HNX.out.2 x hm; omega
          · rw [if_neg hm]; omega
        · rw [raF_mem HJK.out.jl.nd, if_pos hp]; have := HNX.out.2 p hp; omega
      case rel =>
        have hu := HUS.out.sta.ulo; have ho := HUS.out.sta.olo; have hj := HUS.out.sta.jlo
        have hb5 : Below lo wr w5 := HU5.out.below hu.1 ho.1 hj.1 (by omega)
        have hs5 := HU5.out.size
        exact ⟨_, J6, L6, L6.length, A6, c6, rfl, HUS6, HJK6, Lib.hid HNX.out.1, Lib.hid ((HBB.out.trans hb5).trans (Only.below HON6.out hj.1 (by omega))), Lib.hid (Nat.le_refl _)⟩

end Go.Proofs.Ytohbgfmjnanlkaa
