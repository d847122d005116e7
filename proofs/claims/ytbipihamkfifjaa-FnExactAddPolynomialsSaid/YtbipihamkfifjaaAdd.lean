/- Sums and differences of polynomials, as the program makes them: contracts of impl.addMultiple, impl.AddPolynomials, impl.SubtractPolynomials. Conditions: stated at each theorem. -/
import Derived.Test.YtbipihamkfifjaaRow
import Derived.Laws.CopyOwn
namespace Go.Proofs.Ytbipihamkfifjaa
open Go.ChangeShapes Go.WideShapes Go.ChangeAt Go.RowKit
set_option linter.unusedVariables false

theorem mulE_one {s z : Int} (hs : s = 1 ∨ s = -1) (hz : -1000000000000 ≤ z ∧ z ≤ 1000000000000) : mulE s 1000000000000 z = s * z := by
  unfold mulE
  rcases hs with rfl | rfl
  · rw [if_neg (by omega), if_pos (by rw [show (((1 : Int).natAbs : Nat) : Int) = 1 from rfl]; omega)]; omega
  · rw [if_neg (by omega), if_pos (by rw [show (((-1 : Int).natAbs : Nat) : Int) = 1 from rfl]; omega)]; omega
theorem map_getD (f : Int → Int) (q : List Int) {k : Nat} (h : k < q.length) : (q.map f).getD k 0 = f (q.getD k 0) := by
  simp [List.getD, h]
theorem add_steps {p q : List Int} {s : Int} (hs : s = 1 ∨ s = -1) (hq : ∀ i, -1000000000000 ≤ q.getD i 0 ∧ q.getD i 0 ≤ 1000000000000) : ∀ (j : Nat), j ≤ q.length →
    ((∀ i, i < j → coB (p.getD i 0 + s * q.getD i 0) = true) → iterO (addStep 1000000000000 0 (q.map (mulE s 1000000000000))) j (plusAt p q s 0) = some (plusAt p q s j)) ∧
    ((∃ i, i < j ∧ coB (p.getD i 0 + s * q.getD i 0) = false) → iterO (addStep 1000000000000 0 (q.map (mulE s 1000000000000))) j (plusAt p q s 0) = none)
  | 0, _ => ⟨fun _ => rfl, fun ⟨i, hi, _⟩ => by omega⟩
  | j + 1, hj => by
    obtain ⟨h1, h2⟩ := add_steps (p := p) hs hq j (by omega)
    have hv : (plusAt p q s j).getD (0 + j) 0 = p.getD j 0 := by rw [Nat.zero_add, getD_opt, plusAt_at p q s (by omega)]; rfl
    have hn : (q.map (mulE s 1000000000000)).getD j 0 = s * q.getD j 0 := by rw [map_getD _ _ (by omega), mulE_one hs (hq j)]
    refine ⟨fun ha => ?_, fun ⟨i, hi, hc⟩ => ?_⟩
    · rw [iterO_step (h1 fun i hi => ha i (by omega))]
      have hc := coB_true.1 (ha j (by omega))
      unfold addStep
      rw [hv, hn, if_pos hc, Nat.zero_add, plusAt_set p q s (by omega)]
    · by_cases he : ∃ i, i < j ∧ coB (p.getD i 0 + s * q.getD i 0) = false
      · exact iterO_none (h2 he) (by omega)
      · have hall : ∀ i, i < j → coB (p.getD i 0 + s * q.getD i 0) = true := fun i hi => by
          cases e : coB (p.getD i 0 + s * q.getD i 0)
          · exact absurd ⟨i, hi, e⟩ he
          · rfl
        obtain rfl : i = j := by
          by_cases e : i < j
          · exact absurd ⟨i, e, hc⟩ he
          · omega
        rw [iterO_step (h1 hall)]
        unfold addStep
        rw [hv, hn, if_neg (coB_false.1 hc)]
theorem plus_all {p q : List Int} {s : Int} (hp : ∀ i, -1000000000000 ≤ p.getD i 0 ∧ p.getD i 0 ≤ 1000000000000) : (plusL p q s).all coB = true ↔ ∀ i, i < q.length → coB (p.getD i 0 + s * q.getD i 0) = true := by
  rw [List.all_eq_true]
  constructor
  · intro h i hi
    exact h _ (List.mem_map.2 ⟨i, List.mem_range.2 (by omega), rfl⟩)
  · intro h z hz
    obtain ⟨i, _, rfl⟩ := List.mem_map.1 hz
    by_cases hi : i < q.length
    · exact h i hi
    · have : q.getD i 0 = 0 := by simp [List.getD, List.getElem?_eq_none (show q.length ≤ i by omega)]
      rw [this, coB_true]
      have := hp i
      omega
/-- The program's way to a sum is the model's. -/
theorem add_row {p q : List Int} {s : Int} (hs : s = 1 ∨ s = -1) (hp : ∀ i, -1000000000000 ≤ p.getD i 0 ∧ p.getD i 0 ≤ 1000000000000) (hq : ∀ i, -1000000000000 ≤ q.getD i 0 ∧ q.getD i 0 ≤ 1000000000000) :
    addR 1000000000000 0 (q.map (mulE s 1000000000000)) (padL p (max p.length q.length)) = if (plusL p q s).all coB then some (plusL p q s) else none := by
  obtain ⟨h1, h2⟩ := add_steps (p := p) hs hq q.length (Nat.le_refl _)
  unfold addR
  rw [← plusAt_zero p q s, List.length_map]
  cases e : (plusL p q s).all coB
  · rw [if_neg (by simp)]
    apply h2
    have hn : ¬ ∀ i, i < q.length → coB (p.getD i 0 + s * q.getD i 0) = true := fun h => by rw [(plus_all hp).2 h] at e; cases e
    simp only [Classical.not_forall, Bool.not_eq_true] at hn
    obtain ⟨i, hi, hc⟩ := hn
    exact ⟨i, hi, hc⟩
  · rw [if_pos rfl, h1 ((plus_all hp).1 e), plusAt_all p q s rfl]

/-- A block of zeros with a list copied to its head is the list padded. -/
theorem own_of_block {w : World} {g lo n : Nat} {cur : List Value} {zs : List Int} (h : w.heap[g]? = some (.cells cur.toArray 2 (0, 0))) (hl : zs.length = n) (hc : cur = zs.map (.int .i64)) (hlo : lo ≤ g) (hn : n ≤ 9223372036854775807) :
    OwnI w lo w.heap.size (.slice (some ⟨g, 0, none⟩) n n) zs := by
  subst hc
  exact OwnI.mk' (n := n) ⟨by simp [hl], .inr ⟨g, n, _, rfl, hlo, h, Nat.le_refl _, by unfold maxLen; omega, by simp [hl], by rw [← hl, List.take_of_length_le (by simp)]⟩⟩
theorem splice_pad (p : List Int) (n : Nat) (h : p.length ≤ n) : splice (List.replicate n (Value.int .i64 0)) 0 (p.map (.int .i64)) = (padL p n).map (.int .i64) := by
  unfold splice padL
  simp
theorem made_list (n : Nat) : (madeCells #[Value.int .i64 0] n) = (List.replicate n (Value.int .i64 0)).toArray := by
  apply Array.ext
  · simp [madeCells]
  · intro i h1 h2
    simp [madeCells, Nat.mod_one]
theorem add_sum {p q : List Int} {s : Int} (hp : polyB p = true) (hq : polyB q = true) (h : (plusL p q s).all coB = true) : addA p q s = trimL (plusL p q s) ∧ addC p q s = 0 := by
  have h1 := polyB_len hp
  have h2 := polyB_len hq
  have e : polyB (trimL (plusL p q s)) = true := by rw [trimL_poly (by rw [plusL_len]; omega)]; exact h
  rw [(add_both hp hq).1, (add_both hp hq).2]
  exact fit_yes e
theorem add_over {p q : List Int} {s : Int} (hp : polyB p = true) (hq : polyB q = true) (h : (plusL p q s).all coB = false) : addA p q s = [] ∧ addC p q s = 3 := by
  have h1 := polyB_len hp
  have h2 := polyB_len hq
  have e : polyB (trimL (plusL p q s)) = false := by rw [trimL_poly (by rw [plusL_len]; omega)]; exact h
  rw [(add_both hp hq).1, (add_both hp hq).2]
  exact fit_no e
theorem pad_in {p : List Int} (h : ∀ i, -1000000000000 ≤ p.getD i 0 ∧ p.getD i 0 ≤ 1000000000000) (n : Nat) : InM 1000000000000 (padL p n) := fun i => by rw [padL_getD]; exact h i
theorem muls_in (q : List Int) (s : Int) (i : Nat) : -(2 * 1000000000000 + 1) ≤ (q.map (mulE s 1000000000000)).getD i 0 ∧ (q.map (mulE s 1000000000000)).getD i 0 ≤ 2 * 1000000000000 + 1 := by
  by_cases h : i < q.length
  · rw [map_getD _ _ h]; exact mulE_bound (by omega)
  · rw [getD_opt, List.getElem?_eq_none (by simp; omega)]; simp

theorem OwnI.form {w : World} {lo hi : Nat} {v : Value} {zs : List Int} (h : OwnI w lo hi v zs) {n : Nat} (hl : zs.length = n) : ∃ A c, v = .slice A n c := by
  subst hl; exact own_form h.1
theorem addRow_zero (A : Option Addr) (n c : Nat) (l : List Int) (u : Value) (ns : List Int) (lo hi : Nat) (w : World) (hown : OwnI w lo hi (.slice A n c) l) (hl : l.length = n) (hnc : n ≤ c) (hcm : c ≤ 9223372036854775807)
    (hu : ∀ W, Only lo hi w W → ReadI W W.heap.size u ns) (hfit : ns.length ≤ n) (hn : n ≤ 1048576) (hin : InM 1000000000000 l) (hns : ∀ i, -(2 * 1000000000000 + 1) ≤ ns.getD i 0 ∧ ns.getD i 0 ≤ 2 * 1000000000000 + 1) :
    Calls Try.prog 74 #[.slice A n c, .agg #[.int .i64 0, u], .int .i64 1000000000000] w (AddPost w lo hi (.slice A n c) (addR 1000000000000 0 ns l)) :=
  addRow_any A n c l u ns 0 1000000000000 lo hi 0 w hown hl hnc hcm hu (by omega) hn (by omega) (by omega) hin hns
theorem OwnI.upto {w : World} {lo hi hi' : Nat} {v : Value} {zs : List Int} (h : OwnI w lo hi v zs) (h1 : hi ≤ hi') (h2 : hi' ≤ w.heap.size) : OwnI w lo hi' v zs :=
  ⟨h.1, fun k hk => Nat.lt_of_lt_of_le (h.2.1 k hk) h1, h2⟩
theorem trim_of {L : List Int} {n : Nat} (h : L.length = n) : L.take (trimN L n) = trimL L := by subst h; rfl
theorem copy_src {w : World} {n : Nat} {A : Option Addr} {p : List Int} (h : RI w w.heap.size A n p) (hl : p.length = n) (hpos : 0 < (p.map (Value.int .i64)).length) (o : Obj) :
    ∃ ad, A = some ad ∧ ∀ j v, (p.map (Value.int .i64))[j]? = some v → (w.alloc o).cell? (ad.add j) = some v := by
  obtain ⟨a, rfl, _⟩ := h.2 0 (by simpa [hl] using hpos)
  exact ⟨a, rfl, row_cells h hl (Nat.le_refl _)⟩

set_option maxRecDepth 100000 in
theorem addMultiple_any (v u : Value) (p q : List Int) (s : Int) (w : World) (h0 : ReadI w w.heap.size v p) (hn0 : p.length ≤ 1048576) (hw0 : ∀ z ∈ p, (Lit.int .i64 z).wf = true) (h1 : ReadI w w.heap.size u q) (hn1 : q.length ≤ 1048576) (hw1 : ∀ z ∈ q, (Lit.int .i64 z).wf = true) (hs : s = 1 ∨ s = -1) :
    Calls Try.prog 81 #[v, u, .int .i64 s] w (AnsIC w (addA p q s) (addC p q s)) := by
  have H0 := Lib.hid h0
  have H1 := Lib.hid h1
  have W0 := Lib.hid hw0
  have W1 := Lib.hid hw1
  have HS := Lib.hid hs
  clear h0 h1 hw0 hw1 hs
  cases hp : polyB p
  · have E1 := Lib.hid (add_first (q := q) (s := s) hp)
    have HP := Lib.hid hp
    clear hp
    go_enter Try.func81, Try.ntmps81
    go_wp2_with (go_at_call 32; refine (implIs_no _ p _ _ H0.out hn0 W0.out HP.out).mono ?_; rintro e w' ⟨rfl, rfl⟩)
    go_ret2
    exact AnsIC.empty E1.out.1.symm E1.out.2.symm (Below.refl _ _)
  cases hq : polyB q
  · have E1 := Lib.hid (add_second (p := p) (s := s) hq)
    have HP := Lib.hid hp
    have HQ := Lib.hid hq
    clear hp hq
    go_enter Try.func81, Try.ntmps81
    go_wp2_with fail
    refine (implIs_yes _ p _ _ H0.out hn0 W0.out HP.out).mono ?_
    rintro e w' ⟨rfl, rfl⟩
    go_wp2_with fail
    refine (implIs_no _ q _ _ H1.out hn1 W1.out HQ.out).mono ?_
    rintro e w' ⟨rfl, rfl⟩
    go_wp2_with fail
    go_ret2
    exact AnsIC.empty E1.out.1.symm E1.out.2.symm (Below.refl _ _)
  have HP := Lib.hid hp
  have HQ := Lib.hid hq
  clear hp hq
  obtain ⟨N, hN⟩ : ∃ N, N = max p.length q.length := ⟨_, rfl⟩
  have HN := Lib.hid hN
  have hNle : N ≤ 2001 := by have := polyB_len HP.out; have := polyB_len HQ.out; omega
  clear hN
  have hmk := fun (W : World) => run_make_row' (P := Try.prog) 29 2 (.int .i64 0) 8 Try.underlying29 int_info rfl .i64 .i64 N (by omega) (by omega) W
  obtain ⟨n, A, c, rfl, hr, HL, HA, hnc, HF, hcm⟩ := H0.out.split2
  obtain ⟨m, A1, c1, rfl, hr1, HL1⟩ := H1.out.split
  have HR := Lib.hid hr
  clear hr hr1
  have hcase : (n < m ∧ N = m) ∨ (m ≤ n ∧ N = n) := by have := HN.out; have := HL.out; have := HL1.out; omega
  have hnN : n ≤ N := by omega
  have HNN := Lib.hid hnN
  have HNC := Lib.hid hnc
  clear hnN hnc
  rcases hcase with ⟨hlt, rfl⟩ | ⟨hlt, rfl⟩
  all_goals
    go_enter Try.func81, Try.ntmps81
    go_wp2_with fail
    refine (implIs_yes _ p _ _ H0.out hn0 W0.out HP.out).mono ?_
    rintro e w' ⟨rfl, rfl⟩
    go_wp2_with fail
    refine (implIs_yes _ q _ _ H1.out hn1 W1.out HQ.out).mono ?_
    rintro e w' ⟨rfl, rfl⟩
    go_wp2_with (with_reducible refine wpList_copy_splice rfl (.tmp 23) (.tmp 24) 29 29 rfl 2 Try.underlying29 (by kernel_rfl) (some ⟨w.heap.size, 0, none⟩) A N N _ c rfl rfl w.heap.size 0 (List.replicate N (.int .i64 0)) 2 (by rw [← made_list]; exact heap_alloc_new w _) (p.map (.int .i64)) (by have h1 := HL.out; have h2 := HNN.out; simp only [List.length_map]; show _ = min _ _; omega) (fun hpos => ⟨rfl, copy_src HR.out HL.out hpos _⟩) (by have h1 := HL.out; have h2 := HNN.out; simp; omega) (ints_oneCell _ _) w.heap.size w ((Below.refl _ _).alloc (Nat.le_refl _) _) (Nat.le_refl _) ?_; intro w1 hg1 hb1; have O1 : Hid (OwnI w1 w.heap.size w1.heap.size (.slice (some ⟨w.heap.size, 0, none⟩) N N) (padL p N)) := Lib.hid (own_of_block hg1.out (pad_len p (by have := HL.out; have := HNN.out; omega)) (splice_pad p N (by have := HL.out; have := HNN.out; omega)) (Nat.le_refl _) (by omega)); have B1 := Lib.hid hb1; clear hg1 hb1 hmk)
    go_wp2_with fail
    refine (multipleOf_any _ q s 1000000000000 w1 w.heap.size (H1.out.below B1.out) hn1 B1.out.size W1.out (by have := HS.out; omega) (by have := HS.out; omega) (by omega) (by omega)).mono ?_
    rintro e w2 ⟨u2, rfl, ho, hb⟩
    obtain ⟨A2, c2, rfl⟩ := ho.form (List.length_map _)
    have O2 := Lib.hid ho
    have B2 := Lib.hid hb
    clear ho hb
    go_wp2_with fail
    refine (addRow_zero _ N N (padL p N) _ (q.map (mulE s 1000000000000)) w.heap.size w1.heap.size w2 (O1.out.kept (Kept.of_below B2.out (Nat.le_refl _))) ?_ (Nat.le_refl _) (by omega) ?_ ?_ (by omega) (pad_in (polyB_co HP.out) N) (muls_in q s)).mono ?_
    · exact pad_len p (by have := HL.out; have := HNN.out; omega)
    · exact fun W hW => (O2.out.kept (hW.kept (Or.inr (Nat.le_refl _)) (Nat.le_refl _))).reads
    · have := HL1.out; simp; omega
    rintro e w3 ⟨rfl, ho, hb⟩
    have R := Lib.hid (add_row (p := p) (q := q) HS.out (polyB_co HP.out) (polyB_co HQ.out))
    rw [← HN.out] at R
    cases hall : (plusL p q s).all coB
    · have E1 := Lib.hid (add_over HP.out HQ.out hall)
      rw [R.out, hall]
      have B3 := Lib.hid hb
      clear ho hb hall R
      go_wp2_with fail
      go_ret2
      exact AnsIC.empty E1.out.1.symm E1.out.2.symm ((B1.out.trans (B2.out.mono B1.out.size)).trans (B3.out.below (Nat.le_refl _) (Nat.le_trans B1.out.size B2.out.size)))
    · have E1 := Lib.hid (add_sum HP.out HQ.out hall)
      rw [R.out, hall]
      have B3 := Lib.hid hb
      have O3 := Lib.hid (ho (plusL p q s) (by rw [R.out, hall]; rfl))
      clear ho hb hall R
      go_wp2_with fail
      have HLL : Hid ((plusL p q s).length = N) := Lib.hid (by rw [plusL_len, HN.out])
      refine (without_any N N _ (plusL p q s) w3 w3.heap.size O3.out.reads.ri HLL.out (by omega) (Nat.le_refl _) (by omega) (plus_wf HS.out (polyB_co HP.out) (polyB_co HQ.out))).mono ?_
      rintro e w' ⟨rfl, rfl⟩
      go_wp2_with fail
      go_ret2
      exact AnsIC.mk' ((trim_of HLL.out).trans E1.out.1.symm) E1.out.2.symm ((O3.out.cut HLL.out (trimN_le _ N)).upto (Nat.le_trans B2.out.size B3.out.size) (Nat.le_refl _)) ((B1.out.trans (B2.out.mono B1.out.size)).trans (B3.out.below (Nat.le_refl _) (Nat.le_trans B1.out.size B2.out.size)))

theorem implAddPolynomials_any (v : Value) (p : List Int) (u : Value) (q : List Int) (w : World) (h0 : ReadI w w.heap.size v p) (hn0 : p.length ≤ 1048576) (hw0 : ∀ z ∈ p, (Lit.int .i64 z).wf = true) (h1 : ReadI w w.heap.size u q) (hn1 : q.length ≤ 1048576) (hw1 : ∀ z ∈ q, (Lit.int .i64 z).wf = true) :
    Calls Try.prog 39 #[v, u] w (AnsIC w (addA p q 1) (addC p q 1)) := by
  have H := hid_in (addMultiple_any v u p q 1 w h0 hn0 hw0 h1 hn1 hw1 (Or.inl rfl))
  clear h0 h1 hw0 hw1
  generalize addA p q 1 = L at *
  generalize addC p q 1 = C at *
  go_enter Try.func39, Try.ntmps39
  go_wp2_with fail
  refine (hid_out H).mono ?_
  rintro e w1 ⟨v1, rfl, ho, hb⟩
  have O1 := Lib.hid ho
  have B1 := Lib.hid hb
  clear ho hb
  go_wp2_with fail
  go_ret2
  exact AnsIC.mk' rfl rfl O1.out B1.out
theorem implSubtractPolynomials_any (v : Value) (p : List Int) (u : Value) (q : List Int) (w : World) (h0 : ReadI w w.heap.size v p) (hn0 : p.length ≤ 1048576) (hw0 : ∀ z ∈ p, (Lit.int .i64 z).wf = true) (h1 : ReadI w w.heap.size u q) (hn1 : q.length ≤ 1048576) (hw1 : ∀ z ∈ q, (Lit.int .i64 z).wf = true) :
    Calls Try.prog 41 #[v, u] w (AnsIC w (addA p q (-1)) (addC p q (-1))) := by
  have H := hid_in (addMultiple_any v u p q (-1) w h0 hn0 hw0 h1 hn1 hw1 (Or.inr rfl))
  clear h0 h1 hw0 hw1
  generalize addA p q (-1) = L at *
  generalize addC p q (-1) = C at *
  go_enter Try.func41, Try.ntmps41
  go_wp2_with fail
  refine (hid_out H).mono ?_
  rintro e w1 ⟨v1, rfl, ho, hb⟩
  have O1 := Lib.hid ho
  have B1 := Lib.hid hb
  clear ho hb
  go_wp2_with fail
  go_ret2
  exact AnsIC.mk' rfl rfl O1.out B1.out
end Go.Proofs.Ytbipihamkfifjaa
