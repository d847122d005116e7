/- The sequence of a branch, the program's: contract. Conditions: stated at each theorem. -/
import Derived.Test.YtncgkoanckefmaaSqD
import Derived.Test.YtncgkoanckefmaaRep
import Derived.Deep.AppendLies
import Derived.Laws.OwnMore
namespace Go.Proofs.Ytncgkoanckefmaa
open Go.ChangeShapes Go.WideShapes Go.ChangeAt Go.RowKit Go.Shelf
set_option linter.unusedVariables false
set_option linter.unusedSimpArgs false
attribute [local go_sem] Oper.semAt_some

theorem run_append_emptyR {P : Program} {w : World} (base : Nat) (t ty e : TypeId) (i : TypeInfo) (size : Nat) (ht : P.underlying t = some (.slice e)) (hi : P.info? e = some i)
    (v : Value) (n : Nat) (xs : List Value) (hown : w.ownsRow base e size v n xs) (ad : Addr) (c : Nat) :
    (Builtin.append_ #[t, t] ty #[v, .slice (some ad) 0 c]).run P w = .ok v w := by
  rcases hown.2 with ⟨rfl, rfl⟩ | ⟨g, cap, cur, rfl, _, _, hnc, _⟩
  · simp [Builtin.append_, run_underlying ht, sizeOf, typeInfo, hi, Builtin.lenOf, Builtin.firstCells, loadCells, loadCellsFrom]
  · simp [Builtin.append_, run_underlying ht, sizeOf, typeInfo, hi, Builtin.lenOf, Builtin.firstCells, hnc, storeCells, loadCells, loadCellsFrom]
/-- append(s, x...) where s is the call's own and x is any slice of cells that read: the block of what comes is the old one or a new one. -/
theorem wp_append_whole {P : Program} {w : World} {o : Oper} {a : Act} {K : Act → World → Prop} {Q : Exit → Act → World → Prop} (s x : Operand) (t : TypeId)
    (ho : o.op = .call { callee := .builtin .append, args := #[s, x], argTypes := #[t, t] })
    (base : Nat) (e : TypeId) (i : TypeInfo) (z : Value) (bytes : Nat) (ht : P.underlying t = some (.slice e)) (hi : P.info? e = some i) (hz : i.zero = some z)
    (hsize : i.size = 1) (hby : i.bytes = bytes) (hzs : z.cells.size = 1)
    (v : Value) (n : Nat) (xs : List Value) (hs : a.eval s = v) (hown : w.ownsRow base e 1 v n xs)
    (ad : Addr) (m c : Nat) (news : List Value) (hx : a.eval x = .slice (some ad) m c) (hl : news.length = m) (hnews : ∀ j u, news[j]? = some u → w.cell? (ad.add j) = some u) (h1 : ∀ u ∈ news, u.oneCell' = true)
    (h63 : n + m ≤ maxLen) (hbytes : (n + m) * bytes ≤ 140737488355328) (hbase : base ≤ w.heap.size)
    (h : ∀ A cap w', w'.ownsRow base e 1 (.slice A (n + m) cap) (n + m) (xs ++ news) → w.grownBy w' v.ownBlock → (∀ k, (Value.slice A (n + m) cap).ownBlock = some k → v.ownBlock = some k ∨ k = w.heap.size) → K (a.put o.dst (.slice A (n + m) cap)) w') : o.wp P a w K Q := by
  by_cases hm : m = 0
  · subst hm
    obtain rfl : news = [] := List.eq_nil_of_length_eq_zero hl
    have hr := run_append_emptyR (P := P) (w := w) base t o.type e i 1 ht hi v n xs hown ad c
    unfold Oper.wp execOp
    simp only [ho, resolve, invoke, builtin, Sem.run_bind, Sem.run_pure, Result.andThen_ok, List.map_toArray, List.map_cons, List.map_nil, hs, hx, hr]
    obtain ⟨A, cap, rfl⟩ : ∃ A cap, v = .slice A n cap := by
      rcases hown.2 with ⟨rfl, rfl⟩ | ⟨g, cap, cur, rfl, _⟩
      · exact ⟨none, 0, rfl⟩
      · exact ⟨_, _, rfl⟩
    exact h A cap w (by rw [List.append_nil]; exact hown) ⟨rfl, rfl, rfl, Nat.le_refl _, fun _ _ _ => rfl⟩ (fun k hk => .inl hk)
  · refine wp_append_lies w s x t ho base e i z 1 bytes ht hi hz hsize hby hzs (by decide) v n xs hs hown ad m c news hx (by omega) hnews h1 (by omega) h63 hbytes hbase w.heap.size rfl ?_
    intro g cap w' h2 h3 h4 _
    exact h _ _ _ h2 h3 (fun k hk => by cases hk; exact h4)

/-- What a round of the loop has done: a call that turns nothing, an append, and the store of what came. -/
theorem seq_body {W wm w1 : World} {b0 n0 N M : Nat} {v v' : Value} {xs ys : List Value} (hbx : Boxed W b0 22 v) (hrow : W.ownsRow n0 2 1 v N xs) (hm : Below W.heap.size W wm) (hg : wm.grownBy w1 v.ownBlock)
    (hown : w1.ownsRow n0 2 1 v' M ys) (hfr : ∀ k, v'.ownBlock = some k → v.ownBlock = some k ∨ k = wm.heap.size) (hn0 : n0 ≤ W.heap.size) (hb0 : n0 ≤ b0) :
    Boxed w1 b0 22 v ∧ KeepsOthers W (w1.setCell ⟨b0, 0, none⟩ v') ∧ KpB b0 W (w1.setCell ⟨b0, 0, none⟩ v') ∧ Boxed (w1.setCell ⟨b0, 0, none⟩ v') b0 22 v' ∧ (w1.setCell ⟨b0, 0, none⟩ v').ownsRow n0 2 1 v' M ys ∧ Below n0 W (w1.setCell ⟨b0, 0, none⟩ v') := by
  have hlt := hbx.lt
  have hne : some b0 ≠ v.ownBlock := hbx.not_row (by decide) hrow
  have hbm : Boxed wm b0 22 v := (hm.block b0 hlt).trans hbx
  have hb1 : Boxed w1 b0 22 v := hbm.kept hg hne
  have hset : ∀ b, b ≠ b0 → (w1.setCell ⟨b0, 0, none⟩ v').heap[b]? = w1.heap[b]? := fun b hb => Below.heap_setCell _ _ _ _ (fun e => hb (by simpa using e))
  have hrw : ∀ k, v.ownBlock = some k → k < W.heap.size := fun k hk => (World.ownsRow.lt hrow k hk).2
  have hcell : ∀ j o, v.ownBlock = some j → W.heap[j]? = some o → o.isCells = true := fun j o hj ho => by
    rcases hrow.2 with ⟨rfl, _⟩ | ⟨g, cap, cur, rfl, _, hgb, _⟩
    · simp [Value.ownBlock] at hj
    · obtain rfl : g = j := by simpa [Value.ownBlock] using hj
      rw [hgb] at ho; cases ho; rfl
  have hkeep : ∀ b, b < W.heap.size → b ≠ b0 → v.ownBlock ≠ some b → (w1.setCell ⟨b0, 0, none⟩ v').heap[b]? = W.heap[b]? := fun b h1 h2 h3 => by
    rw [hset b h2, hg.block b (by have := hm.size; omega) (fun e => h3 e.symm), hm.block b h1]
  have hsz : W.heap.size ≤ (w1.setCell ⟨b0, 0, none⟩ v').heap.size := by
    have h1 := hm.size; have h2 := hg.size
    have h3 := (grownBy_setCell' w1 b0 v').size
    omega
  refine ⟨hb1, ⟨hsz, fun j o ho hc => ?_⟩, ⟨hsz, fun b hb => ⟨hkeep b ?_ hb.1 ?_, ?_⟩, fun hv k hk => ?_⟩, hb1.set v', hown.kept (grownBy_setCell' w1 b0 v') (.inr (hb1.not_row (by decide) hown).symm), ?_⟩
  · rw [hkeep j (Array.getElem?_eq_some_iff.1 ho).1 (fun e => by subst e; rw [show W.heap[j]? = _ from hbx] at ho; cases ho; cases hc) (fun e => by rw [hcell j o e ho] at hc; cases hc)]
    exact ho
  · obtain ⟨_, _, o, h1, _⟩ := hb; exact (Array.getElem?_eq_some_iff.1 h1).1
  · have := hb.2.1; rw [rb_boxed hbx] at this; exact this
  · rw [rb_boxed (hb1.set v')]
    intro e
    rcases hfr b e with h1 | h1
    · have := hb.2.1; rw [rb_boxed hbx] at this; exact this h1
    · obtain ⟨_, _, o, h2, _⟩ := hb
      have h3 := (Array.getElem?_eq_some_iff.1 h2).1
      have := hm.size
      omega
  · rw [rb_boxed (hb1.set v')] at hk
    have h1 := (World.ownsRow.lt hown k hk).2
    have h3 := (grownBy_setCell' w1 b0 v').size
    omega
  · refine ((hm.mono hn0).grown hg (by have := hm.size; omega) fun j ej => ?_).setCell (p := ⟨b0, 0, none⟩) hb0 v'
    exact (World.ownsRow.lt hrow j ej).1

set_option maxRecDepth 100000 in
set_option maxHeartbeats 4000000 in
theorem sequence_any (v : Value) (zs : List Int) (w : World) (h : ReadI w w.heap.size v zs) (hn : zs.length ≤ 1048576) (hp : brB zs = true) :
    Calls Try.prog 100 #[.agg #[v]] w fun e w' => ∃ A c, e = .returned (.slice A (seqL zs).length c) ∧ OwnI w' w.heap.size w'.heap.size (.slice A (seqL zs).length c) (seqL zs) ∧ Below w.heap.size w w' := by
  have HQ := Lib.hid h
  obtain ⟨n, A, c, rfl, hr, HL, HN, hnc, HF, hcm⟩ := h.split2
  have HNN := Lib.hid hn
  have hbb : Below w.heap.size w (((w.alloc (.cells #[.slice A n c] 28)).alloc (.cells #[.slice none 0 0] 22)).alloc (.cells #[.slice A n c] 28)) := (((Below.refl _ _).alloc (Nat.le_refl _) _).alloc (by simp) _).alloc (by simp; omega) _
  have bD := (Boxed.new (w.alloc (.cells #[.slice A n c] 28)) 22 (.slice none 0 0)).alloc (.cells #[.slice A n c] 28)
  have bN := Boxed.new ((w.alloc (.cells #[.slice A n c] 28)).alloc (.cells #[.slice none 0 0] 22)) 28 (.slice A n c)
  rw [World.size_alloc] at bD
  rw [World.size_alloc, World.size_alloc] at bN
  have hsW : (((w.alloc (.cells #[.slice A n c] 28)).alloc (.cells #[.slice none 0 0] 22)).alloc (.cells #[.slice A n c] 28)).heap.size = w.heap.size + 3 := by simp
  have HBB := Lib.hid hbb
  have HBD := Lib.hid bD
  have HBN := Lib.hid bN
  have HSW := Lib.hid hsW
  clear h hr HN HF hn hbb bD bN hsW
  refine (callsIn_wide (n := 9)).1 ?_
  refine callsIn_of_wp_marks Try.func100 rfl trivial ?_ rfl
  simp only [Try.ntmps100, List.size_toArray, List.length_cons, List.length_nil, Nat.reduceAdd, Nat.reduceSub, Array.replicate_succ, Array.replicate_zero, List.push_toArray, List.append_toArray, List.nil_append, List.cons_append]
  gi_wp2_with (refine ⟨trivial, ?_⟩; gi_at_call 105; refine (callsIn_wide.2 (runSteps_any _ _)).mono ?_; rintro e w' ⟨rfl, rfl⟩)
  have hl := HL.out
  have hbb := HBB.out
  have bD := HBD.out
  have bN := HBN.out
  have hsW := HSW.out
  clear HBB HBD HBN HSW
  generalize ((w.alloc (.cells #[.slice A n c] 28)).alloc (.cells #[.slice none 0 0] 22)).alloc (.cells #[.slice A n c] 28) = W4 at *
  have hrb : rb (w.heap.size + 1) W4 = none := rb_boxed bD
  obtain ⟨g, o, rfl, hnc', hcm', sG, cG⟩ := branch_mem HQ.out hp hl hbb (by omega) hrb
  have h0 : w.heap.size + 1 < W4.heap.size := by omega
  have sB : Safe (w.heap.size + 1) W4 (w.heap.size + 1 + 1) := ⟨by omega, by rw [hrb]; simp, _, bN, rfl⟩
  have hOK := rsI_ok hp
  obtain ⟨i0, hi0, hz0, hz1, hz2⟩ := info_parts int_info
  refine wpIn_rangeFunc_ownF rfl (by omega) (gf := 122) (lb := #[.pointer (some ⟨w.heap.size + 1 + 1, 0, none⟩)]) rfl trivial (enters_of Try.func122 (by kernel_rfl) rfl)
    (runIt_stops _ (w.heap.size + 1) (w.heap.size + 1 + 1) g o n c zs W4 (by omega) hp hl (fun b e => by rw [hrb] at e; cases e) h0 sB bN.cell hnc' hcm' sG cG) (fun h k => h.trans k) (kpB_b h0) (Below.refl _ _) (fun _ => rfl)
    (fun pre W => (∃ v, Boxed W (w.heap.size + 1) 22 v ∧ W.ownsRow w.heap.size 2 1 v (flL (vals pre)).length ((flL (vals pre)).map (.int .i64))) ∧ Below w.heap.size w W)
    (fun _ _ _ => False)
    (OwnFrom.and (Own.from (fun s X Y row hs hg hr => by
      obtain ⟨v, h1, h2⟩ := holdsRow_own w.heap.size (w.heap.size + 1) 22 2 1 (fun pre : List Stp => (flL (vals pre)).length) (fun pre => (flL (vals pre)).map (.int .i64)) (fun _ _ => True) s X Y row (by obtain ⟨v, h1, h2⟩ := hs; exact ⟨v, h1, h2, trivial⟩) hg hr
      exact ⟨v, h1, h2.1⟩) _) (ownFrom_below (Nat.le_refl _) (by omega)))
    (fun _ _ _ _ _ hs _ _ => hs)
    ⟨⟨_, bD, World.ownsRow_nil _ _ _ _⟩, hbb⟩
    (fun x => { tmps := #[.agg #[.slice (some ⟨g, o, none⟩) n c], .pointer (some ⟨w.heap.size, 0, none⟩), .slice none 0 0, .pointer (some ⟨w.heap.size + 1, 0, none⟩), .int .i64 x.1.1, .int .i64 x.1.2, .agg #[.slice (some ⟨g, o, none⟩) n c], .func (.func 122) #[] #[.pointer (some ⟨w.heap.size + 1 + 1, 0, none⟩)], .int .i64 x.1.1, .int .i64 x.1.2, undef, undef, undef, undef, undef, undef, undef], defers := [] }) ?assign ?body ?done ?stop
  case assign =>
    intro l x W K hK
    gi_wp2
    exact hK
  case body =>
    rintro l pre x W ⟨⟨v, hbx, hrow⟩, hB⟩ hlt
    have hc := hbx.cell
    obtain ⟨⟨q0, r⟩, hx⟩ := x
    have hok : ∀ p ∈ vals pre, StOK p := fun p hp => by obtain ⟨y, _, rfl⟩ := List.mem_map.1 hp; exact y.2
    have hlb := flL_len hok
    have hcb := cntL_bound hok
    have hvl : (vals pre).length = pre.length := by simp [vals]
    have hN : (flL (vals pre)).length ≤ 260000000 := by omega
    obtain ⟨⟨hx1, hx2⟩, hx3, hx4⟩ := hx
    dsimp only at *
    obtain ⟨q, rfl⟩ : ∃ q : Nat, q0 = (q : Int) := ⟨q0.toNat, by omega⟩
    obtain ⟨N, hNe⟩ : ∃ N, (flL (vals pre)).length = N := ⟨_, rfl⟩
    obtain ⟨xsv, hxe⟩ : ∃ X, X = (flL (vals pre)).map (Value.int .i64) := ⟨_, rfl⟩
    have HNL := Lib.hid hNe
    have HXV := Lib.hid hxe
    rw [hNe, ← hxe] at hrow
    rw [hNe] at hN
    have HROW := Lib.hid hrow
    have hfz := hbx.frozen
    clear hrow hNe hxe hlb hcb hok
    gi_wp2_with fail
    refine wpIn_region_any (by kernel_rfl) (wpAnyIn_plain ?_ ?_ _ _ _ _ ?_)
    · intro o ho c hc
      simp only [List.mem_toArray, List.mem_cons, List.not_mem_nil, or_false] at ho
      rcases ho with rfl | rfl | rfl | rfl | rfl | rfl | rfl <;> cases hc
    · rintro ⟨_, _, h⟩
      exact h
    try (change wpAny _ _ _ _ _ _ _ (World.drew _))
    refine wpAny_take (i := 1) (v := ?_) rfl (by kernel_rfl) (by kernel_rfl) (by kernel_rfl) (fun _ _ _ h => h) (Or.inl ⟨by rfl, ?_⟩) ?_
    rotate_left 1
    · intro w; go_simp; (try with_reducible rfl)
    try simp only [Act.put, List.setIfInBounds_toArray, List.set_cons_zero, List.set_cons_succ]
    refine wpAny_take (i := 3) (v := ?_) rfl (by kernel_rfl) (by kernel_rfl) (by kernel_rfl) (fun _ _ _ h => h) (Or.inl ⟨by rfl, ?_⟩) ?_
    rotate_left 1
    · intro w; go_simp; (try with_reducible rfl)
    try simp only [Act.put, List.setIfInBounds_toArray, List.set_cons_zero, List.set_cons_succ]
    refine wpAny_ready (rs := [0, 2]) (by kernel_rfl) (by simp) ?_
    refine (AllReady.cons rfl (fun K hK => ?_) (AllReady.cons rfl (fun K hK => ?_) AllReady.nil))
    · go_simp
      refine hK _ _ ?_
      clear hK K
      try simp only [Act.put, List.setIfInBounds_toArray, List.set_cons_zero, List.set_cons_succ]
      refine wpAny_ready (rs := [2]) (by kernel_rfl) (by simp) ?_
      refine (AllReady.cons rfl (fun K hK => ?_) AllReady.nil)
      go_simp
      refine hK _ _ ?_
      clear hK K
      try simp only [Act.put, List.setIfInBounds_toArray, List.set_cons_zero, List.set_cons_succ]
      obtain ⟨Wa, HWa⟩ : ∃ X, X = (W.alloc (.cells #[.int .i64 r] 2)).drew := ⟨_, rfl⟩
      rw [← HWa]
      have hBa : Below W.heap.size W Wa := by rw [HWa]; exact below_drewN ((Below.refl _ _).alloc (Nat.le_refl _) _) 1
      have hsa : W.heap.size < Wa.heap.size := by rw [HWa]; simp
      have hca : Wa.cell? ⟨w.heap.size + 1, 0, none⟩ = some v := by rw [hBa.cell (p := ⟨w.heap.size + 1, 0, none⟩) hbx.lt]; exact hc
      have hcr : Wa.cell? ⟨W.heap.size, 0, none⟩ = some (.int .i64 r) := by rw [HWa]; go_simp
      clear HWa
      refine wpAny_ready (rs := [4]) (by kernel_rfl) (by simp) ?_
      refine (AllReady.cons rfl (fun K hK => ?_) AllReady.nil)
      go_simp
      refine (repeat_any r q W.heap.size 1 Wa hcr (by omega) hsa).mono ?_
      rintro e9 wm ⟨rfl, hom, hbm⟩
      have hBm : Below W.heap.size W wm := hBa.trans (hbm.mono hBa.size)
      have hcm2 : wm.cell? ⟨w.heap.size + 1, 0, none⟩ = some v := by rw [hBm.cell (p := ⟨w.heap.size + 1, 0, none⟩) hbx.lt]; exact hc
      refine hK _ _ ?_
      clear hK K
      try simp only [Act.put, List.setIfInBounds_toArray, List.set_cons_zero, List.set_cons_succ]
      refine wpAny_ready (rs := [5]) (by kernel_rfl) (by simp) ?_
      refine (AllReady.cons rfl (fun K hK => ?_) AllReady.nil)
      try simp only [List.getElem_toArray, List.getElem_cons_succ, List.getElem_cons_zero]
      rw [if_pos (by kernel_rfl)]
      refine wp_append_whole (.tmp 10) (.tmp 14) 22 rfl w.heap.size 2 i0 (.int .i64 0) 8 Try.underlying22 hi0 hz0 hz1 hz2 rfl v N xsv rfl (HROW.out.kept (grown_of_below hBm none) (by cases v.ownBlock <;> simp)) ⟨Wa.heap.size, 0, none⟩ q q (List.replicate q (.int .i64 r)) rfl (by simp) ?_ (fun u hu => by rw [(List.mem_replicate.1 hu).2]; rfl) (by simp only [maxLen]; omega) (by omega) (by have := hBm.size; have := hB.size; omega) ?_
      · intro j u hj
        have hjl : j < q := by
          by_cases h5 : j < q
          · exact h5
          · rw [List.getElem?_eq_none (by simp; omega)] at hj; cases hj
        have h6 : u = .int .i64 r := by rw [List.getElem?_replicate] at hj; simp [hjl] at hj; exact hj.symm
        obtain ⟨g', e1, _, _, h7, _⟩ := own_at hom (by simp) hjl
        cases e1
        rw [add_lit, Nat.zero_add, h7, h6]
        simp [hjl]
      intro A1 cap1 w1 hown1 hgrow hfr
      obtain ⟨hv1, hko, hkp, hv2, hr2, hb2⟩ := seq_body hbx HROW.out hBm hgrow hown1 hfr hB.size (by omega)
      have hc1 := hv1.cell
      have hf1 := hv1.frozen
      refine hK _ _ ?_
      clear hK K
      try simp only [Act.put, List.setIfInBounds_toArray, List.set_cons_zero, List.set_cons_succ]
      refine wpAny_ready (rs := [6]) (by kernel_rfl) (by simp) ?_
      refine (AllReady.cons rfl (fun K hK => ?_) AllReady.nil)
      go_simp
      refine hK _ _ ?_
      clear hK K
      try simp only [Act.put, List.setIfInBounds_toArray, List.set_cons_zero, List.set_cons_succ]
      refine wpAny_done (by kernel_rfl) ?_ _
      refine ⟨hko, hkp, ⟨_, hv2, ?_⟩, hB.trans hb2⟩
      rw [vals_snoc, flL_snoc, List.length_append, List.length_replicate, List.map_append, List.map_replicate, Int.toNat_natCast, HNL.out, ← HXV.out]
      exact hr2
    · go_simp
      refine hK _ _ ?_
      clear hK K
      try simp only [Act.put, List.setIfInBounds_toArray, List.set_cons_zero, List.set_cons_succ]
      obtain ⟨Wa, HWa⟩ : ∃ X, X = (W.alloc (.cells #[.int .i64 r] 2)).drew := ⟨_, rfl⟩
      rw [← HWa]
      have hBa : Below W.heap.size W Wa := by rw [HWa]; exact below_drewN ((Below.refl _ _).alloc (Nat.le_refl _) _) 1
      have hsa : W.heap.size < Wa.heap.size := by rw [HWa]; simp
      have hca : Wa.cell? ⟨w.heap.size + 1, 0, none⟩ = some v := by rw [hBa.cell (p := ⟨w.heap.size + 1, 0, none⟩) hbx.lt]; exact hc
      have hcr : Wa.cell? ⟨W.heap.size, 0, none⟩ = some (.int .i64 r) := by rw [HWa]; go_simp
      clear HWa
      refine wpAny_ready (rs := [0, 4]) (by kernel_rfl) (by simp) ?_
      refine (AllReady.cons rfl (fun K hK => ?_) (AllReady.cons rfl (fun K hK => ?_) AllReady.nil))
      · go_simp
        refine hK _ _ ?_
        clear hK K
        try simp only [Act.put, List.setIfInBounds_toArray, List.set_cons_zero, List.set_cons_succ]
        refine wpAny_ready (rs := [4]) (by kernel_rfl) (by simp) ?_
        refine (AllReady.cons rfl (fun K hK => ?_) AllReady.nil)
        go_simp
        refine (repeat_any r q W.heap.size 1 Wa hcr (by omega) hsa).mono ?_
        rintro e9 wm ⟨rfl, hom, hbm⟩
        have hBm : Below W.heap.size W wm := hBa.trans (hbm.mono hBa.size)
        have hcm2 : wm.cell? ⟨w.heap.size + 1, 0, none⟩ = some v := by rw [hBm.cell (p := ⟨w.heap.size + 1, 0, none⟩) hbx.lt]; exact hc
        refine hK _ _ ?_
        clear hK K
        try simp only [Act.put, List.setIfInBounds_toArray, List.set_cons_zero, List.set_cons_succ]
        refine wpAny_ready (rs := [5]) (by kernel_rfl) (by simp) ?_
        refine (AllReady.cons rfl (fun K hK => ?_) AllReady.nil)
        try simp only [List.getElem_toArray, List.getElem_cons_succ, List.getElem_cons_zero]
        rw [if_pos (by kernel_rfl)]
        refine wp_append_whole (.tmp 10) (.tmp 14) 22 rfl w.heap.size 2 i0 (.int .i64 0) 8 Try.underlying22 hi0 hz0 hz1 hz2 rfl v N xsv rfl (HROW.out.kept (grown_of_below hBm none) (by cases v.ownBlock <;> simp)) ⟨Wa.heap.size, 0, none⟩ q q (List.replicate q (.int .i64 r)) rfl (by simp) ?_ (fun u hu => by rw [(List.mem_replicate.1 hu).2]; rfl) (by simp only [maxLen]; omega) (by omega) (by have := hBm.size; have := hB.size; omega) ?_
        · intro j u hj
          have hjl : j < q := by
            by_cases h5 : j < q
            · exact h5
            · rw [List.getElem?_eq_none (by simp; omega)] at hj; cases hj
          have h6 : u = .int .i64 r := by rw [List.getElem?_replicate] at hj; simp [hjl] at hj; exact hj.symm
          obtain ⟨g', e1, _, _, h7, _⟩ := own_at hom (by simp) hjl
          cases e1
          rw [add_lit, Nat.zero_add, h7, h6]
          simp [hjl]
        intro A1 cap1 w1 hown1 hgrow hfr
        obtain ⟨hv1, hko, hkp, hv2, hr2, hb2⟩ := seq_body hbx HROW.out hBm hgrow hown1 hfr hB.size (by omega)
        have hc1 := hv1.cell
        have hf1 := hv1.frozen
        refine hK _ _ ?_
        clear hK K
        try simp only [Act.put, List.setIfInBounds_toArray, List.set_cons_zero, List.set_cons_succ]
        refine wpAny_ready (rs := [6]) (by kernel_rfl) (by simp) ?_
        refine (AllReady.cons rfl (fun K hK => ?_) AllReady.nil)
        go_simp
        refine hK _ _ ?_
        clear hK K
        try simp only [Act.put, List.setIfInBounds_toArray, List.set_cons_zero, List.set_cons_succ]
        refine wpAny_done (by kernel_rfl) ?_ _
        refine ⟨hko, hkp, ⟨_, hv2, ?_⟩, hB.trans hb2⟩
        rw [vals_snoc, flL_snoc, List.length_append, List.length_replicate, List.map_append, List.map_replicate, Int.toNat_natCast, HNL.out, ← HXV.out]
        exact hr2
      · go_simp
        refine (repeat_any r q W.heap.size 1 Wa hcr (by omega) hsa).mono ?_
        rintro e9 wm ⟨rfl, hom, hbm⟩
        have hBm : Below W.heap.size W wm := hBa.trans (hbm.mono hBa.size)
        have hcm2 : wm.cell? ⟨w.heap.size + 1, 0, none⟩ = some v := by rw [hBm.cell (p := ⟨w.heap.size + 1, 0, none⟩) hbx.lt]; exact hc
        refine hK _ _ ?_
        clear hK K
        try simp only [Act.put, List.setIfInBounds_toArray, List.set_cons_zero, List.set_cons_succ]
        refine wpAny_ready (rs := [0]) (by kernel_rfl) (by simp) ?_
        refine (AllReady.cons rfl (fun K hK => ?_) AllReady.nil)
        go_simp
        refine hK _ _ ?_
        clear hK K
        try simp only [Act.put, List.setIfInBounds_toArray, List.set_cons_zero, List.set_cons_succ]
        refine wpAny_ready (rs := [5]) (by kernel_rfl) (by simp) ?_
        refine (AllReady.cons rfl (fun K hK => ?_) AllReady.nil)
        try simp only [List.getElem_toArray, List.getElem_cons_succ, List.getElem_cons_zero]
        rw [if_pos (by kernel_rfl)]
        refine wp_append_whole (.tmp 10) (.tmp 14) 22 rfl w.heap.size 2 i0 (.int .i64 0) 8 Try.underlying22 hi0 hz0 hz1 hz2 rfl v N xsv rfl (HROW.out.kept (grown_of_below hBm none) (by cases v.ownBlock <;> simp)) ⟨Wa.heap.size, 0, none⟩ q q (List.replicate q (.int .i64 r)) rfl (by simp) ?_ (fun u hu => by rw [(List.mem_replicate.1 hu).2]; rfl) (by simp only [maxLen]; omega) (by omega) (by have := hBm.size; have := hB.size; omega) ?_
        · intro j u hj
          have hjl : j < q := by
            by_cases h5 : j < q
            · exact h5
            · rw [List.getElem?_eq_none (by simp; omega)] at hj; cases hj
          have h6 : u = .int .i64 r := by rw [List.getElem?_replicate] at hj; simp [hjl] at hj; exact hj.symm
          obtain ⟨g', e1, _, _, h7, _⟩ := own_at hom (by simp) hjl
          cases e1
          rw [add_lit, Nat.zero_add, h7, h6]
          simp [hjl]
        intro A1 cap1 w1 hown1 hgrow hfr
        obtain ⟨hv1, hko, hkp, hv2, hr2, hb2⟩ := seq_body hbx HROW.out hBm hgrow hown1 hfr hB.size (by omega)
        have hc1 := hv1.cell
        have hf1 := hv1.frozen
        refine hK _ _ ?_
        clear hK K
        try simp only [Act.put, List.setIfInBounds_toArray, List.set_cons_zero, List.set_cons_succ]
        refine wpAny_ready (rs := [6]) (by kernel_rfl) (by simp) ?_
        refine (AllReady.cons rfl (fun K hK => ?_) AllReady.nil)
        go_simp
        refine hK _ _ ?_
        clear hK K
        try simp only [Act.put, List.setIfInBounds_toArray, List.set_cons_zero, List.set_cons_succ]
        refine wpAny_done (by kernel_rfl) ?_ _
        refine ⟨hko, hkp, ⟨_, hv2, ?_⟩, hB.trans hb2⟩
        rw [vals_snoc, flL_snoc, List.length_append, List.length_replicate, List.map_append, List.map_replicate, Int.toNat_natCast, HNL.out, ← HXV.out]
        exact hr2
  case done =>
    rintro D xs W hD hxs ⟨⟨v, hbx, hrow⟩, hB⟩ hK
    have hc := hbx.cell
    rw [hxs] at hrow
    obtain ⟨A5, c5, rfl⟩ : ∃ A c, v = .slice A (flL (rsI zs)).length c := by
      rcases hrow.2 with ⟨rfl, h1⟩ | ⟨g, cap, cur, rfl, _⟩
      · exact ⟨none, 0, by rw [h1]⟩
      · exact ⟨_, _, rfl⟩
    have HROW := Lib.hid hrow
    clear hrow
    gi_wp2
    refine ⟨by simp, .inl ⟨_, _, rfl, run_takeDeferred hK, ?_⟩⟩
    refine ⟨_, results_tmp rfl _ _ _, A5, c5, rfl, OwnI.mk' (n := (flL (rsI zs)).length) (ownsRow_putObj HROW.out _ hK rfl), hB.trans (belowK_b (w := w) (Nat.le_refl _) W D _ _ (by omega) hK rfl rfl)⟩
  case stop =>
    rintro D c pre W _ _ h _
    exact h.elim
end Go.Proofs.Ytncgkoanckefmaa
