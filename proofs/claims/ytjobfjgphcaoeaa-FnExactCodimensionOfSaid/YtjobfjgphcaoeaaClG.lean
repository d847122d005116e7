/- Simple clusters: contracts. Conditions: stated at each theorem. -/
import Derived.Test.YtjobfjgphcaoeaaClA
namespace Go.Proofs.Ytjobfjgphcaoeaa
open Go.ChangeShapes Go.WideShapes Go.ChangeAt Go.RowKit Go.Deep
set_option linter.unusedVariables false
set_option linter.unusedSimpArgs false

theorem OwnI.nilAt {w : World} {lo : Nat} (h : lo ≤ w.heap.size) : OwnI w lo lo (.slice none 0 0) [] := ⟨Own.nil _ _, fun k hk => by simp [Value.ownBlock] at hk, h⟩
theorem AnsCC.noneC {w w' : World} {P S W : List Int} {C D : Int} (h0 : P = []) (h1 : S = []) (h2 : W = []) (h3 : D = C) (hb : Below w.heap.size w w') : AnsCC w P S W C (.returned (.tuple #[.agg #[.slice none 0 0, .slice none 0 0, .slice none 0 0], .int .i64 D])) w' := by
  subst h0; subst h1; subst h2; subst h3
  have hs := hb.size
  exact ⟨_, _, _, rfl, ⟨Nat.le_refl _, w.heap.size, w.heap.size, w.heap.size, w.heap.size, w.heap.size, w.heap.size, ⟨by omega, by omega, by omega, by omega, by omega, by omega⟩, OwnI.nilAt hs, OwnI.nilAt hs, OwnI.nilAt hs⟩, hb⟩
/-- The answer's lists: the weights in memory from block l to block k, the others behind them. -/
theorem AnsCC.someC {w w' : World} {P S W P' S' W' : List Int} {C D : Int} {a b v : Value} {l k m : Nat} (h0 : P' = P) (h1 : S' = S) (h2 : W' = W) (h3 : D = C) (hl : w.heap.size ≤ l) (hlk : l ≤ k) (hkm : k ≤ m) (hm : m ≤ w'.heap.size) (oa : OwnI w' k m a P') (ob : OwnI w' m w'.heap.size b S') (ov : OwnI w' l k v W') (hb : Below w.heap.size w w') :
    AnsCC w P S W C (.returned (.tuple #[.agg #[a, b, v], .int .i64 D])) w' := by
  subst h0; subst h1; subst h2; subst h3
  exact ⟨_, _, _, rfl, ⟨Nat.le_refl _, k, m, m, w'.heap.size, l, k, ⟨by omega, by omega, by omega, by omega, by omega, by omega⟩, oa, ob, ov⟩, hb⟩
/-- Three writes into a block ahead of what is owned. -/
theorem OwnI.newC3 {V : World} {l m g : Nat} {v : Value} {L : List Int} (o : OwnI V l m v L) (hg : g < l) (x y z : Value) : OwnI (((V.setCell ⟨g, 0, none⟩ x).setCell ⟨g, 1, none⟩ y).setCell ⟨g, 2, none⟩ z) l m v L := OwnI.newC (OwnI.newC (OwnI.newC o hg _) hg _) hg _
theorem Below.set3 {n : Nat} {w V : World} {g : Nat} (h : Below n w V) (hg : n ≤ g) (x y z : Value) : Below n w (((V.setCell ⟨g, 0, none⟩ x).setCell ⟨g, 1, none⟩ y).setCell ⟨g, 2, none⟩ z) := ((h.setCell (p := ⟨g, 0, none⟩) hg _).setCell (p := ⟨g, 1, none⟩) hg _).setCell (p := ⟨g, 2, none⟩) hg _
theorem CBox.set3 {V : World} {g : Nat} {a b c : Value} (h : CBox V g a b c) (x y z : Value) : CBox (((V.setCell ⟨g, 0, none⟩ x).setCell ⟨g, 1, none⟩ y).setCell ⟨g, 2, none⟩ z) g x y z := ((h.set0 _).set1 _).set2 _
theorem size_set3 (V : World) (g : Nat) (x y z : Value) : (((V.setCell ⟨g, 0, none⟩ x).setCell ⟨g, 1, none⟩ y).setCell ⟨g, 2, none⟩ z).heap.size = V.heap.size := by rw [size_set, size_set, size_set]
def scC (P S W : List Int) (i : Int) : Int := if clB P S W then (if 0 ≤ i ∧ i < (P.length : Int) then 0 else 2) else 1
def scP (P S W : List Int) (i : Int) : List Int := if scC P S W i = 0 then P else []
def scS (P S W : List Int) (i : Int) : List Int := if scC P S W i = 0 then S else []
def scW (P S W : List Int) (i : Int) : List Int := if scC P S W i = 0 then smL P S P.length i.toNat else []
theorem sc_no {P S W : List Int} {i C : Int} (h : scC P S W i = C) (hC : C ≠ 0) : scP P S W i = [] ∧ scS P S W i = [] ∧ scW P S W i = [] := by
  subst h; exact ⟨if_neg hC, if_neg hC, if_neg hC⟩
theorem sc_yes {P S W : List Int} {n i : Nat} (h : ClOK P S W n) (hi : i < n) : scC P S W (i : Int) = 0 ∧ scP P S W (i : Int) = P ∧ scS P S W (i : Int) = S ∧ scW P S W (i : Int) = smL P S n i := by
  have h0 : scC P S W (i : Int) = 0 := by unfold scC; rw [if_pos h.b, if_pos (by rw [h.p]; omega)]
  exact ⟨h0, if_pos h0, if_pos h0, by unfold scW; rw [if_pos h0, h.p, Int.toNat_natCast]⟩
theorem sc_len (P S W : List Int) (i : Int) : (scP P S W i).length ≤ 1048576 ∧ (scS P S W i).length ≤ 1048576 ∧ (scW P S W i).length ≤ 1048576 := by
  by_cases h : scC P S W i = 0
  · have hb : clB P S W = true := by
      cases hb : clB P S W with
      | true => rfl
      | false => simp [scC, hb] at h
    obtain ⟨n, hC⟩ := clB_true hb
    have hn := hC.hi
    refine ⟨by rw [scP, if_pos h, hC.p]; omega, by rw [scS, if_pos h, hC.s]; omega, by rw [scW, if_pos h, smL_len, hC.p]; omega⟩
  · have h2 := sc_no (C := scC P S W i) rfl h
    rw [h2.1, h2.2.1, h2.2.2]; simp
theorem LAns.len {w w' : World} {L : List Int} {n : Nat} {e : Ending} (h : LAns w L e w') (hl : L.length = n) : ∃ A c, e = .returned (.slice A n c) ∧ OwnI w' w.heap.size w'.heap.size (.slice A n c) L ∧ Below w.heap.size w w' := by subst hl; exact h
theorem ls_drew {f : Nat} {args : Array Value} {w : World} {L : List Int} {n : Nat} (h : Calls Try.prog f args w.drew (LAns w.drew L)) (hl : L.length = n) : Calls Try.prog f args w.drew (fun e w' => ∃ A c, e = .returned (.slice A n c) ∧ OwnI w' w.heap.size w'.heap.size (.slice A n c) L ∧ Below w.heap.size w w') :=
  h.mono fun e w' k => by
    obtain ⟨A, c, rfl, ho, hb⟩ := k.len hl
    exact ⟨A, c, rfl, ho, below_un hb⟩
theorem sm_ok {P S : List Int} {n i : Nat} (h : okAll P S n = true) (hn : n ≤ 24) (hi : i < n) : wtOK (smL P S n i) = true := by
  rw [wtOK_iff (smL_len P S n i), List.all_eq_true]
  intro x hx
  have hx' := List.mem_range.1 hx
  rw [smL_at hx']
  have := sm_bound (x := x) h hn hi
  simp only [Bool.and_eq_true, decide_eq_true_eq]; omega

set_option maxRecDepth 100000 in
set_option maxHeartbeats 4000000 in
theorem hasC_any (A : Option Addr) (n c : Nat) (i : Int) (w : World) (hn : n ≤ 1048576) (bb : Bool) (hb : (decide (0 ≤ i) && decide (i < (n : Int))) = bb) :
    Calls Try.prog 70 #[.slice A n c, .int .i64 i] w fun e w' => e = .returned (.bool bb) ∧ w = w' := by
  cases bb
  · rcases (show i < 0 ∨ (0 ≤ i ∧ ¬ i < (n : Int)) by simp at hb; omega) with h1 | ⟨h1, h2⟩
    · have h3 : ¬ 0 ≤ i := by omega
      clear hb
      go_enter Try.func70, Try.ntmps70
      go_wp2_with fail
      go_ret
      exact ⟨rfl, rfl⟩
    · clear hb
      go_enter Try.func70, Try.ntmps70
      go_wp2_with fail
      go_ret
      exact ⟨rfl, rfl⟩
  · have h1 : 0 ≤ i := by simp at hb; omega
    have h2 : i < (n : Int) := by simp at hb; omega
    clear hb
    go_enter Try.func70, Try.ntmps70
    go_wp2_with fail
    go_ret
    exact ⟨rfl, rfl⟩

set_option maxRecDepth 100000 in
set_option maxHeartbeats 4000000 in
theorem specSimpleCluster_any (a b c : Value) (P S W : List Int)  (i : Int) (w : World) (h : ReadC w w.heap.size a b c P S W) (hP : P.length ≤ 1048576) (hS : S.length ≤ 1048576) (hW : W.length ≤ 1048576) (hwp : ∀ z ∈ P, (Lit.int .i64 z).wf = true) (hws : ∀ z ∈ S, (Lit.int .i64 z).wf = true) (hww : ∀ z ∈ W, (Lit.int .i64 z).wf = true) (hwi : (Lit.int .i64 i).wf = true) :
    Calls Try.prog 27 #[.agg #[a, b, c], .int .i64 i] w (AnsCC w (scP P S W i) (scS P S W i) (scW P S W i) (scC P S W i)) := by
  obtain ⟨W0, HE⟩ : ∃ V, V = (w.alloc (.cells #[a, b, c] 28)).alloc (.cells #[.slice none 0 0, .slice none 0 0, .slice none 0 0] 28) := ⟨_, rfl⟩
  have hb0 : Below w.heap.size w W0 := by rw [HE]; exact (below_box2 _ _).alloc (by simp) _
  have hx : CBox W0 w.heap.size a b c := by rw [HE]; exact (CBox.new w a b c 28).alloc _
  have hy : CBox W0 (w.heap.size + 1) (.slice none 0 0) (.slice none 0 0) (.slice none 0 0) := by
    have := CBox.new (w.alloc (.cells #[a, b, c] 28)) (.slice none 0 0) (.slice none 0 0) (.slice none 0 0) 28
    rw [World.size_alloc] at this
    rw [HE]; exact this
  have HZ0 : Hid (W0.heap.size = w.heap.size + 2) := Lib.hid (by rw [HE]; simp)
  obtain ⟨A0, k0, rfl⟩ : ∃ A k, a = .slice A P.length k := by obtain ⟨A, k, e, _⟩ := h.1; exact ⟨A, k, e⟩
  obtain ⟨A1, k1, rfl⟩ : ∃ A k, b = .slice A S.length k := by obtain ⟨A, k, e, _⟩ := h.2.1; exact ⟨A, k, e⟩
  obtain ⟨A2, k2, rfl⟩ : ∃ A k, c = .slice A W.length k := by obtain ⟨A, k, e, _⟩ := h.2.2; exact ⟨A, k, e⟩
  have HR := Lib.hid ((h.below hb0).more hb0.size)
  have HB := Lib.hid hb0
  have HEQ := Lib.hid HE
  have HX := Lib.hid hx
  have HY := Lib.hid hy
  have x0 := hx.c0; have x1 := hx.c1; have x2 := hx.c2
  clear h hb0 hx hy HE hwp hws hww
  rcases bool_fs (clB P S W) with hp | hp
  · have HP := Lib.hid hp
    have hk : scC P S W i = 1 := by simp [scC, hp]
    have HK := Lib.hid hk; have HN := Lib.hid (sc_no hk (by decide)); clear hk
    clear hp
    go_enter Try.func27, Try.ntmps27
    go_wp2_with fail
    rw [← HEQ.out]
    refine (l07Is_if _ _ _ P S W W0 HR.out hP hS hW false HP.out).mono ?_
    rintro e w1 ⟨rfl, hb1⟩
    have hY1 := HY.out.below hb1
    have p0 := hY1.c0; have p1 := hY1.c1; have p2 := hY1.c2; have p3 := hY1.f0; have p4 := hY1.f1; have p5 := hY1.f2; have p6 := hY1.lt
    have HY1 := Lib.hid hY1
    have HB1 := Lib.hid (HB.out.trans (hb1.mono HB.out.size))
    clear hb1 hY1
    go_wp2_with fail
    have cr := CBox.set3 (HY1.out) (.slice none 0 0) (.slice none 0 0) (.slice none 0 0)
    have cr0 := cr.c0; have cr1 := cr.c1; have cr2 := cr.c2
    refine bodyPost_ret (v := .tuple #[.agg #[.slice none 0 0, .slice none 0 0, .slice none 0 0], .int .i64 1]) (by simp [results, Try.results27, go_sem, cr0, cr1, cr2]) rfl ?_
    exact AnsCC.noneC (HN.out.1) (HN.out.2.1) (HN.out.2.2) (HK.out.symm) (Below.set3 (HB1.out) (by omega) _ _ _)
  · obtain ⟨n, hC⟩ := clB_true hp
    have HC := Lib.hid hC
    have HP := Lib.hid hp
    have HPN := Lib.hid hC.p
    have hn : P.length ≤ 24 := by rw [hC.p]; exact hC.hi
    have hn1 : 1 ≤ P.length := by rw [hC.p]; exact hC.lo
    clear hp hC
    go_enter Try.func27, Try.ntmps27
    go_wp2_with fail
    rw [← HEQ.out]
    refine (l07Is_if _ _ _ P S W W0 HR.out hP hS hW true HP.out).mono ?_
    rintro e w1 ⟨rfl, hb1⟩
    have hX1 := HX.out.below hb1; have hY1 := HY.out.below hb1
    have y0 := hX1.c0; have y1 := hX1.c1; have y2 := hX1.c2; have y6 := hX1.lt
    have p0 := hY1.c0; have p1 := hY1.c1; have p2 := hY1.c2; have p3 := hY1.f0; have p4 := hY1.f1; have p5 := hY1.f2; have p6 := hY1.lt
    have HX1 := Lib.hid hX1
    have HY1 := Lib.hid hY1
    have HB1 := Lib.hid (HB.out.trans (hb1.mono HB.out.size))
    have HR1 := Lib.hid ((HR.out.below hb1).more hb1.size)
    have HSW : Hid (w.heap.size + 2 ≤ w1.heap.size) := Lib.hid (by rw [← HZ0.out]; exact hb1.size)
    clear hb1 hX1 hY1 x0 x1 x2
    by_cases hi : 0 ≤ i ∧ i < (P.length : Int)
    · obtain ⟨i, rfl⟩ : ∃ j : Nat, i = (j : Int) := ⟨i.toNat, by omega⟩
      have hin : i < n := by have := HPN.out; omega
      have HY4 := Lib.hid (sc_yes HC.out hin)
      have HS1 : Hid (w.heap.size + 2 ≤ w1.heap.size) := HSW
      have HC1 := Lib.hid (ls_drew (l07Simple_any (.slice A0 P.length k0) (.slice A1 S.length k1) (.slice A2 W.length k2) P S W n i w1.drew HR1.out HC.out.toClP hin) (smL_len _ _ _ _))
      have HC2 := fun (V : World) (hR : ReadC V V.heap.size (.slice A0 P.length k0) (.slice A1 S.length k1) (.slice A2 W.length k2) P S W) (A4 : Option Addr) (c4 : Nat) => hid_in (l07With_any (.slice A0 P.length k0) (.slice A1 S.length k1) (.slice A2 W.length k2) A4 n c4 P S W V hR hP hS)
      go_wp2_with (go_at_call 67; refine (inY _ _ _ _ (by omega) (by omega)).mono ?_; rintro e w' ⟨rfl, rfl⟩)
      go_region_held3 (fun w' => w'.cell? ⟨w.heap.size, 0, none⟩ = some (.slice A0 P.length k0) ∧ w'.cell? ⟨w.heap.size, 1, none⟩ = some (.slice A1 S.length k1) ∧ w'.cell? ⟨w.heap.size, 2, none⟩ = some (.slice A2 W.length k2)) (first | exact ⟨y0, y1, y2⟩ | exact ⟨z0, z1, z2⟩ | exact ⟨t0, t1, t2⟩ | (repeat' constructor) <;> go_simp)
        (first
          | (go_at_call 69; (with_reducible refine (HC1.out).mono ?_); rintro e w2 ⟨A4, c4, rfl, ho2, hb2⟩; have hX2 := HX1.out.below hb2; have hY2 := HY1.out.below hb2; have HX2 := Lib.hid hX2; have HY2 := Lib.hid hY2; have z0 := hX2.c0; have z1 := hX2.c1; have z2 := hX2.c2; have HR2 := Lib.hid ((HR1.out.below hb2).more hb2.size); have HO2 := Lib.hid ho2; have HB2 := Lib.hid hb2; clear ho2 hb2 hX2 hY2)
          | (go_at_call 68; (with_reducible refine (hid_out (HC2 w2 HR2.out A4 c4)).mono ?_); rintro e w3 ⟨a', b', rfl, hw3, hb3⟩; obtain ⟨m, hm1, hm2, oa, ob⟩ := hw3; obtain ⟨A5, c5, rfl⟩ := own_form oa.1; obtain ⟨A6, c6, rfl⟩ := own_form ob.1; have hX3 := HX2.out.below hb3; have hY3 := HY2.out.below hb3; have t0 := hX3.c0; have t1 := hX3.c1; have t2 := hX3.c2; have q0 := hY3.c0; have q1 := hY3.c1; have q2 := hY3.c2; have q3 := hY3.f0; have q4 := hY3.f1; have q5 := hY3.f2; have q6 := hY3.lt; have HM := Lib.hid (And.intro hm1 hm2); have OA := Lib.hid oa; have OB := Lib.hid ob; have HY3 := Lib.hid hY3; have HB3 := Lib.hid hb3; clear hb3 hm1 hm2 oa ob hX3 hY3))
      go_wp2_with fail
      have cr := CBox.set3 HY3.out (.slice A5 P.length c5) (.slice A6 S.length c6) (.slice A4 n c4)
      have cr0 := cr.c0; have cr1 := cr.c1; have cr2 := cr.c2
      have hs1 := HB1.out.size; have hs2 := HB2.out.size; have hs3 := HB3.out.size; have hsw := HS1.out
      refine bodyPost_ret (v := .tuple #[.agg #[.slice A5 P.length c5, .slice A6 S.length c6, .slice A4 n c4], .int .i64 0]) (by simp [results, Try.results27, go_sem, cr0, cr1, cr2]) rfl ?_
      exact AnsCC.someC (l := w1.heap.size) (k := w2.heap.size) (m := m) HY4.out.2.1.symm HY4.out.2.2.1.symm HY4.out.2.2.2.symm HY4.out.1.symm (by omega) (by omega) HM.out.1 (by rw [size_set3]; exact HM.out.2) (OwnI.newC3 OA.out (by omega) _ _ _) (by rw [size_set3]; exact OwnI.newC3 OB.out (by have := HM.out.1; omega) _ _ _) (OwnI.newC3 (HO2.out.stay HB3.out) (by omega) _ _ _) (Below.set3 ((HB1.out.trans (HB2.out.mono (by omega))).trans (HB3.out.mono (by omega))) (by omega) _ _ _)
    · have hk : scC P S W i = 2 := by unfold scC; rw [if_pos HC.out.b, if_neg hi]
      have HK := Lib.hid hk; have HN := Lib.hid (sc_no hk (by decide)); clear hk
      go_wp2_with (go_at_call 67; refine (inN _ _ _ _ (by omega)).mono ?_; rintro e w' ⟨rfl, rfl⟩)
      have cr := CBox.set3 (HY1.out) (.slice none 0 0) (.slice none 0 0) (.slice none 0 0)
      have cr0 := cr.c0; have cr1 := cr.c1; have cr2 := cr.c2
      refine bodyPost_ret (v := .tuple #[.agg #[.slice none 0 0, .slice none 0 0, .slice none 0 0], .int .i64 2]) (by simp [results, Try.results27, go_sem, cr0, cr1, cr2]) rfl ?_
      exact AnsCC.noneC (HN.out.1) (HN.out.2.1) (HN.out.2.2) (HK.out.symm) (Below.set3 (HB1.out) (by omega) _ _ _)

set_option maxRecDepth 100000 in
set_option maxHeartbeats 4000000 in
theorem implSimpleCluster_any (a b c : Value) (P S W : List Int)  (i : Int) (w : World) (h : ReadC w w.heap.size a b c P S W) (hP : P.length ≤ 1048576) (hS : S.length ≤ 1048576) (hW : W.length ≤ 1048576) (hwp : ∀ z ∈ P, (Lit.int .i64 z).wf = true) (hws : ∀ z ∈ S, (Lit.int .i64 z).wf = true) (hww : ∀ z ∈ W, (Lit.int .i64 z).wf = true) (hwi : (Lit.int .i64 i).wf = true) :
    Calls Try.prog 28 #[.agg #[a, b, c], .int .i64 i] w (AnsCC w (scP P S W i) (scS P S W i) (scW P S W i) (scC P S W i)) := by
  obtain ⟨W0, HE⟩ : ∃ V, V = (w.alloc (.cells #[a, b, c] 28)).alloc (.cells #[.slice none 0 0, .slice none 0 0, .slice none 0 0] 28) := ⟨_, rfl⟩
  have hb0 : Below w.heap.size w W0 := by rw [HE]; exact (below_box2 _ _).alloc (by simp) _
  have hx : CBox W0 w.heap.size a b c := by rw [HE]; exact (CBox.new w a b c 28).alloc _
  have hy : CBox W0 (w.heap.size + 1) (.slice none 0 0) (.slice none 0 0) (.slice none 0 0) := by
    have := CBox.new (w.alloc (.cells #[a, b, c] 28)) (.slice none 0 0) (.slice none 0 0) (.slice none 0 0) 28
    rw [World.size_alloc] at this
    rw [HE]; exact this
  have HZ0 : Hid (W0.heap.size = w.heap.size + 2) := Lib.hid (by rw [HE]; simp)
  obtain ⟨A0, k0, rfl⟩ : ∃ A k, a = .slice A P.length k := by obtain ⟨A, k, e, _⟩ := h.1; exact ⟨A, k, e⟩
  obtain ⟨A1, k1, rfl⟩ : ∃ A k, b = .slice A S.length k := by obtain ⟨A, k, e, _⟩ := h.2.1; exact ⟨A, k, e⟩
  obtain ⟨A2, k2, rfl⟩ : ∃ A k, c = .slice A W.length k := by obtain ⟨A, k, e, _⟩ := h.2.2; exact ⟨A, k, e⟩
  have HR := Lib.hid ((h.below hb0).more hb0.size)
  have HB := Lib.hid hb0
  have HEQ := Lib.hid HE
  have HX := Lib.hid hx
  have HY := Lib.hid hy
  have x0 := hx.c0; have x1 := hx.c1; have x2 := hx.c2
  clear h hb0 hx hy HE hwp hws hww
  rcases bool_fs (clB P S W) with hp | hp
  · have HP := Lib.hid hp
    have hk : scC P S W i = 1 := by simp [scC, hp]
    have HK := Lib.hid hk; have HN := Lib.hid (sc_no hk (by decide)); clear hk
    clear hp
    go_enter Try.func28, Try.ntmps28
    go_wp2_with fail
    rw [← HEQ.out]
    refine (linked_if _ _ _ P S W W0 HR.out hP hS hW false HP.out).mono ?_
    rintro e w1 ⟨g, A, na, ca, D, nd, cd, rfl, hb1, _⟩
    have hY1 := HY.out.below hb1
    have p0 := hY1.c0; have p1 := hY1.c1; have p2 := hY1.c2; have p3 := hY1.f0; have p4 := hY1.f1; have p5 := hY1.f2; have p6 := hY1.lt
    have HY1 := Lib.hid hY1
    have HB1 := Lib.hid (HB.out.trans (hb1.mono HB.out.size))
    have hbs := HB1.out.size
    clear hb1 hY1
    go_wp2_with fail
    have cr := (CBox.set3 (HY1.out) (.slice none 0 0) (.slice none 0 0) (.slice none 0 0)).alloc (.cells #[.slice A na ca, .slice D nd cd] 67)
    have cr0 := cr.c0; have cr1 := cr.c1; have cr2 := cr.c2
    refine bodyPost_ret (v := .tuple #[.agg #[.slice none 0 0, .slice none 0 0, .slice none 0 0], .int .i64 1]) (by simp [results, Try.results28, go_sem, cr0, cr1, cr2]) rfl ?_
    exact AnsCC.noneC (HN.out.1) (HN.out.2.1) (HN.out.2.2) (HK.out.symm) ((Below.set3 (HB1.out) (by omega) _ _ _).alloc (by rw [size_set3]; exact hbs) (.cells #[.slice A na ca, .slice D nd cd] 67))
  · obtain ⟨n, hC⟩ := clB_true hp
    have HPN := Lib.hid hC.p
    have hn : n ≤ 24 := hC.hi
    have hn1 : 1 ≤ n := hC.lo
    have HC := Lib.hid hC
    have HP := Lib.hid hp
    clear hp hC
    go_enter Try.func28, Try.ntmps28
    go_wp2_with fail
    rw [← HEQ.out]
    refine (linked_if _ _ _ P S W W0 HR.out hP hS hW true HP.out).mono ?_
    rintro e w1 ⟨g, A, na, ca, D, nd, cd, rfl, hb1, hyes⟩
    obtain ⟨e1, e2, hg0, hg1, hpt⟩ := hyes rfl
    rw [HPN.out] at e1 hpt
    simp only [Value.slice.injEq] at e1
    obtain ⟨rfl, e1b, e1c⟩ := e1
    replace e1b := e1b.symm
    replace e1c := e1c.symm
    subst e1b
    subst e1c
    have hX1 := HX.out.below hb1; have hY1 := HY.out.below hb1
    have y0 := hX1.c0; have y1 := hX1.c1; have y2 := hX1.c2; have y6 := hX1.lt
    have p0 := hY1.c0; have p1 := hY1.c1; have p2 := hY1.c2; have p3 := hY1.f0; have p4 := hY1.f1; have p5 := hY1.f2; have p6 := hY1.lt
    have HX1 := Lib.hid hX1
    have HY1 := Lib.hid hY1
    have HB1 := Lib.hid (HB.out.trans (hb1.mono HB.out.size))
    have HR1 := Lib.hid ((HR.out.below hb1).more hb1.size)
    have HPT := Lib.hid hpt
    have hz2 := (HB.out.trans (hb1.mono HB.out.size)).size
    have HS1 : Hid (w.heap.size + 2 ≤ w1.heap.size) := Lib.hid (by rw [← HZ0.out]; exact hb1.size)
    clear hb1 hX1 hY1 hyes hpt e2 x0 x1 x2
    by_cases hi : 0 ≤ i ∧ i < (P.length : Int)
    · obtain ⟨i, rfl⟩ : ∃ j : Nat, i = (j : Int) := ⟨i.toNat, by omega⟩
      have hin : i < n := by have := HPN.out; omega
      have HY4 := Lib.hid (sc_yes HC.out hin)
      have hi0 : ¬ (i : Int) < 0 := by omega
      have hi1 : (i : Int) < (n : Int) := by omega
      obtain ⟨W1, HE1⟩ : ∃ V, V = w1.alloc (.cells #[.slice (some ⟨g, 0, none⟩) n n, .slice D nd cd] 67) := ⟨_, rfl⟩
      have hb2 : Below w1.heap.size w1 W1 := by rw [HE1]; exact below_box2 _ _
      have e3 : W1.cell? ⟨w1.heap.size, 0, none⟩ = some (.slice (some ⟨g, 0, none⟩) n n) := by rw [HE1]; go_simp
      have hzl : w1.heap.size < W1.heap.size := by rw [HE1]; simp
      have hne1 : w1.heap.size ≠ w.heap.size + 1 := by have := HS1.out; omega
      have hne2 : w.heap.size + 1 ≠ w1.heap.size := fun e => hne1 e.symm
      have hR1 := (HR1.out.below hb2).more hb2.size
      have hX2 := HX1.out.below hb2; have hY2 := HY1.out.below hb2
      have HPT2 : Hid (PtsAt W1 g n n P S) := Lib.hid (rowIs_below HPT.out hg1 hb2)
      have hg2 : g < W1.heap.size := by omega
      have HB2' := Lib.hid (HB1.out.trans (hb2.mono HB1.out.size))
      have HS2 : Hid (w.heap.size + 2 ≤ W1.heap.size) := Lib.hid (by have := HS1.out; omega)
      have HEQ1 := Lib.hid HE1
      have HC1 := Lib.hid (ls_drew (simpleW_any g n i P S W1.drew HPT2.out hg2 HC.out.ok hin hn) (smL_len _ _ _ _))
      have HC2 := fun (V : World) (hR : ReadC V V.heap.size (.slice A0 P.length k0) (.slice A1 S.length k1) (.slice A2 W.length k2) P S W) (A4 : Option Addr) (c4 : Nat) (hv : ReadI V V.heap.size (.slice A4 n c4) (smL P S n i)) => hid_in (withW_any (.slice A0 P.length k0) (.slice A1 S.length k1) (.slice A2 W.length k2) A4 n c4 P S W (smL P S n i) V hR hv hP hS (by rw [smL_len]; omega) true (sm_ok HC.out.ok hn hin))
      clear hi HE1
      go_wp2_with fail
      have HE1 := HEQ1.out
      rw [← HEQ1.out]
      clear y0 y1 y2 y6 p0 p1 p2 p3 p4 p5 p6 HX1 HY1 HB1 HR1 HS1
      have y0 := hX2.c0; have y1 := hX2.c1; have y2 := hX2.c2; have y6 := hX2.lt; have y3 := e3
      have p0 := hY2.c0; have p1 := hY2.c1; have p2 := hY2.c2; have p3 := hY2.f0; have p4 := hY2.f1; have p5 := hY2.f2; have p6 := hY2.lt
      have HX1 := Lib.hid hX2; have HY1 := Lib.hid hY2; have HB1 := HB2'; have HR1 := Lib.hid hR1; have HS1 := HS2
      clear hX2 hY2 hR1 hb2 HE1 e3
      refine (hasC_any (some ⟨g, 0, none⟩) n n (i : Int) W1 (by omega) true (by simp; omega)).mono ?_
      rintro e w' ⟨rfl, rfl⟩
      go_wp2_with fail
      go_region_held3 (fun w' => w'.cell? ⟨w.heap.size, 0, none⟩ = some (.slice A0 P.length k0) ∧ w'.cell? ⟨w.heap.size, 1, none⟩ = some (.slice A1 S.length k1) ∧ w'.cell? ⟨w.heap.size, 2, none⟩ = some (.slice A2 W.length k2) ∧ w'.cell? ⟨w1.heap.size, 0, none⟩ = some (.slice (some ⟨g, 0, none⟩) n n)) (first | exact ⟨y0, y1, y2, y3⟩ | exact ⟨z0, z1, z2, z3⟩ | exact ⟨t0, t1, t2, t3⟩ | (repeat' constructor) <;> go_simp)
        (first
          | (go_at_call 72; (with_reducible refine (HC1.out).mono ?_); rintro e w2 ⟨A4, c4, rfl, ho2, hb2⟩; have hX2 := HX1.out.below hb2; have hY2 := HY1.out.below hb2; have HX2 := Lib.hid hX2; have HY2 := Lib.hid hY2; have z0 := hX2.c0; have z1 := hX2.c1; have z2 := hX2.c2; have z3 := (hb2.cell (p := ⟨w1.heap.size, 0, none⟩) hzl).trans y3; have hzl2 := Nat.lt_of_lt_of_le hzl hb2.size; have HR2 := Lib.hid ((HR1.out.below hb2).more hb2.size); have HO2 := Lib.hid ho2; have HB2 := Lib.hid hb2; clear ho2 hb2 hX2 hY2)
          | (go_at_call 71; (with_reducible refine (hid_out (HC2 w2 HR2.out A4 c4 HO2.out.reads)).mono ?_); rintro e w3 ⟨hyy, -, hb3⟩; obtain ⟨a', b', rfl, hw3⟩ := hyy (by first | exact rfl | trivial); obtain ⟨m, hm1, hm2, oa, ob⟩ := hw3; obtain ⟨A5, c5, rfl⟩ := own_form oa.1; obtain ⟨A6, c6, rfl⟩ := own_form ob.1; have hX3 := HX2.out.below hb3; have hY3 := HY2.out.below hb3; have t0 := hX3.c0; have t1 := hX3.c1; have t2 := hX3.c2; have t3 := (hb3.cell (p := ⟨w1.heap.size, 0, none⟩) hzl2).trans z3; have q0 := hY3.c0; have q1 := hY3.c1; have q2 := hY3.c2; have q3 := hY3.f0; have q4 := hY3.f1; have q5 := hY3.f2; have q6 := hY3.lt; have HM := Lib.hid (And.intro hm1 hm2); have OA := Lib.hid oa; have OB := Lib.hid ob; have HY3 := Lib.hid hY3; have HB3 := Lib.hid hb3; clear hb3 hm1 hm2 oa ob hX3 hY3))
      go_wp2_with fail
      have cr := CBox.set3 HY3.out (.slice A5 P.length c5) (.slice A6 S.length c6) (.slice A4 n c4)
      have cr0 := cr.c0; have cr1 := cr.c1; have cr2 := cr.c2
      have hs1 := HB1.out.size; have hs2 := HB2.out.size; have hs3 := HB3.out.size; have hsw := HS1.out
      refine bodyPost_ret (v := .tuple #[.agg #[.slice A5 P.length c5, .slice A6 S.length c6, .slice A4 n c4], .int .i64 0]) (by simp [results, Try.results28, go_sem, cr0, cr1, cr2]) rfl ?_
      exact AnsCC.someC (l := W1.heap.size) (k := w2.heap.size) (m := m) HY4.out.2.1.symm HY4.out.2.2.1.symm HY4.out.2.2.2.symm HY4.out.1.symm (by omega) (by omega) HM.out.1 (by rw [size_set3]; exact HM.out.2) (OwnI.newC3 OA.out (by omega) _ _ _) (by rw [size_set3]; exact OwnI.newC3 OB.out (by have := HM.out.1; omega) _ _ _) (OwnI.newC3 (HO2.out.stay HB3.out) (by omega) _ _ _) (Below.set3 ((HB1.out.trans (HB2.out.mono (by omega))).trans (HB3.out.mono (by omega))) (by omega) _ _ _)
    · have hk : scC P S W i = 2 := by unfold scC; rw [if_pos HC.out.b, if_neg hi]
      have HK := Lib.hid hk; have HN := Lib.hid (sc_no hk (by decide)); clear hk
      have hbs := HB1.out.size
      have hii : (decide (0 ≤ i) && decide (i < (n : Int))) = false := by have := HPN.out; simp; omega
      clear hi
      go_wp2_with fail
      refine (hasC_any (some ⟨g, 0, none⟩) n n i _ (by omega) false hii).mono ?_
      rintro e w' ⟨rfl, rfl⟩
      go_wp2_with fail
      have cr := (CBox.set3 (HY1.out) (.slice none 0 0) (.slice none 0 0) (.slice none 0 0)).alloc (.cells #[.slice (some ⟨g, 0, none⟩) n n, .slice D nd cd] 67)
      have cr0 := cr.c0; have cr1 := cr.c1; have cr2 := cr.c2
      refine bodyPost_ret (v := .tuple #[.agg #[.slice none 0 0, .slice none 0 0, .slice none 0 0], .int .i64 2]) (by simp [results, Try.results28, go_sem, cr0, cr1, cr2]) rfl ?_
      exact AnsCC.noneC (HN.out.1) (HN.out.2.1) (HN.out.2.2) (HK.out.symm) ((Below.set3 (HB1.out) (by omega) _ _ _).alloc (by rw [size_set3]; exact hbs) (.cells #[.slice (some ⟨g, 0, none⟩) n n, .slice D nd cd] 67))

end Go.Proofs.Ytjobfjgphcaoeaa
