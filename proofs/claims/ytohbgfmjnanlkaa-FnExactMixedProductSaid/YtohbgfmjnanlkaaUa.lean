/- append onto a slice that starts anywhere in its block (numbers): the law. Conditions: stated at each theorem. -/
import Derived.Test.YtohbgfmjnanlkaaUn11
import Derived.Maps.AppendAt
namespace Go.Proofs.Ytohbgfmjnanlkaa
open Go.ChangeShapes Go.WideShapes Go.ChangeAt Go.RowKit Go.Deep
set_option linter.unusedVariables false
set_option linter.unusedSimpArgs false

/-- What an append of at least one number to such a slice leaves. -/
structure QLies (w w' : World) (e : TypeId) (g n cap m : Nat) (xs : List Value) (g' o' cap' : Nat) : Prop where
  cells : ∀ j u, xs[j]? = some u → w'.cell? ⟨g', o' + j, none⟩ = some u
  le : n + m ≤ cap' ∧ cap' ≤ maxLen
  row : ∃ cur, w'.heap[g']? = some (.cells cur e (0, 0)) ∧ o' + cap' ≤ cur.size
  at_ : (g' = w.heap.size ∧ w.grownBy w' none) ∨ (cap ≠ n ∧ g' = g ∧ w.grownBy w' (some g))

theorem run_append_q {P : Program} (w : World) (t ty e : TypeId) (i : TypeInfo) (z : Value) (ht : P.underlying t = some (.slice e)) (hi : P.info? e = some i) (hz : i.zero = some z) (hsize : i.size = 1) (hby : i.bytes = 8) (hzs : z.cells.size = 1)
    (g o n cap : Nat) (xs : List Value) (hl : xs.length = n) (hc : ∀ j u, xs[j]? = some u → w.cell? ⟨g, o + j, none⟩ = some u) (hcap : n ≤ cap ∧ cap ≤ maxLen) (hg : cap = n ∨ ∃ cur, w.heap[g]? = some (.cells cur e (0, 0)) ∧ o + cap ≤ cur.size)
    (a : Addr) (m c : Nat) (news : List Value) (hm : 1 ≤ m) (hln : news.length = m) (hnews : ∀ j u, news[j]? = some u → w.cell? (a.add j) = some u) (h1 : ∀ u ∈ news, u.oneCell' = true)
    (hbig : n + m ≤ 1000000) :
    ∃ g' o' cap' w', (Builtin.append_ #[t, t] ty #[.slice (some ⟨g, o, none⟩) n cap, .slice (some a) m c]).run P w = .ok (.slice (some ⟨g', o', none⟩) (n + m) cap') w' ∧ QLies w w' e g n cap m (xs ++ news) g' o' cap' := by
  have hm63 : n + m ≤ maxLen := by simp only [maxLen]; omega
  by_cases hroom : n + m ≤ cap
  · rcases hg with rfl | ⟨cur, hgr, hcur⟩
    · omega
    · have hf := run_firstCells_some (P := P) w i.size m a m c news (by rw [hsize, hln, Nat.mul_one]) hnews
      rw [hsize] at hf
      have hst := run_storeCells_at P g (o + n) e news 0 cur w hgr (by omega) h1
      simp only [Nat.add_zero] at hst
      have hcc : ∀ j u, xs[j]? = some u → cur[o + j]? = some u := fun j u hj => by
        have h := hc j u hj
        have hjn : j < n := by rw [← hl]; exact (List.getElem?_eq_some_iff.1 hj).1
        simpa [World.cell?, hgr] using h
      refine ⟨g, o, cap, w.setRow g (cur.toList.take (o + n) ++ (news ++ cur.toList.drop (o + n + news.length))).toArray, by simp [Builtin.append_, run_underlying ht, sizeOf, typeInfo, hi, Builtin.lenOf, hroom, hf, Addr.add_lit, hsize, hst], ?_, ⟨hroom, hcap.2⟩, ⟨_, setRow_heap w g cur _ e _ hgr, ?_⟩, .inr ⟨by omega, rfl, ⟨rfl, rfl, rfl, by simp, fun k _ hk => setRow_other w g k _ (fun e => hk (by simp [e]))⟩⟩⟩
      · intro j u hj
        have hsr := setRow_heap w g cur (cur.toList.take (o + n) ++ (news ++ cur.toList.drop (o + n + news.length))).toArray e (0, 0) hgr
        have ht : (cur.toList.take (o + n)).length = o + n := by rw [List.length_take, Array.length_toList]; omega
        have key : (cur.toList.take (o + n) ++ (news ++ cur.toList.drop (o + n + news.length)))[o + j]? = some u := by
          by_cases hjn : j < n
          · rw [List.getElem?_append_left (by omega), List.getElem?_take_of_lt (by omega), Array.getElem?_toList]
            rw [List.getElem?_append_left (by omega)] at hj
            exact hcc j u hj
          · rw [List.getElem?_append_right (by omega)] at hj
            have hjl : j - xs.length < news.length := (List.getElem?_eq_some_iff.1 hj).1
            rw [List.getElem?_append_right (by omega), ht, List.getElem?_append_left (by omega)]
            rw [show o + j - (o + n) = j - xs.length by omega]
            exact hj
        simp only [World.cell?, hsr]
        simpa using key
      · simp only [List.size_toArray, List.length_append, List.length_take, List.length_drop, Array.length_toList]
        omega
  · have hr := run_append_grow (P := P) w t ty e i z ht hi hz ⟨g, o, none⟩ n cap xs (by rw [hsize, hl, Nat.mul_one]) (fun j u hj => by rw [Addr.add_lit]; exact hc j u hj) a m c news (by rw [hsize, hln, Nat.mul_one]) hnews (by omega) (by omega) (growslice_fits (by omega) (by rw [hby]; omega))
    have hge := grownCap_ge w (n + m) cap e
    have hcm : grownCap w (n + m) cap e ≤ maxLen := grownCap_le_maxLen w (n + m) cap e hm63
    refine ⟨_, 0, _, _, hr, ?_, ⟨hge, hcm⟩, ⟨_, heap_alloc_new w.drew _, ?_⟩, .inl ⟨rfl, ⟨rfl, rfl, rfl, by simp, fun k hk _ => heap_alloc_old w.drew _ hk⟩⟩⟩
    · intro j u hj
      have hn := heap_alloc_new w.drew (.cells (xs.toArray ++ news.toArray ++ Builtin.zeroCells z.cells (grownCap w (n + m) cap e - (n + m))) e)
      have hn2 : (w.drew.alloc (.cells (xs.toArray ++ news.toArray ++ Builtin.zeroCells z.cells (grownCap w (n + m) cap e - (n + m))) e)).heap[w.heap.size]? = some (.cells (xs.toArray ++ news.toArray ++ Builtin.zeroCells z.cells (grownCap w (n + m) cap e - (n + m))) e (0, 0)) := hn
      have key : (xs.toArray ++ news.toArray ++ Builtin.zeroCells z.cells (grownCap w (n + m) cap e - (n + m)))[0 + j]? = some u := by
        have hjl : j < (xs ++ news).length := (List.getElem?_eq_some_iff.1 hj).1
        rw [Nat.zero_add, Array.getElem?_append_left (by simpa using hjl)]
        simpa using hj
      simp only [World.cell?, hn2]
      simpa using key
    · simp only [Array.size_append, List.size_toArray, size_zeroCells, hzs, hl, hln]
      omega

/-- The same as an operation of a walk. -/
theorem wpList_append_q {P : Program} {w : World} {ops : Array Oper} {rest : List Oper} {op : Oper} {act : Act} {Q : Exit → Act → World → Prop} (hgd : op.guard = none) (s x : Operand) (t : TypeId)
    (ho : op.op = .call { callee := .builtin .append, args := #[s, x], argTypes := #[t, t] })
    (e : TypeId) (i : TypeInfo) (z : Value) (ht : P.underlying t = some (.slice e)) (hi : P.info? e = some i) (hz : i.zero = some z) (hsize : i.size = 1) (hby : i.bytes = 8) (hzs : z.cells.size = 1)
    (g o n cap : Nat) (xs : List Value) (hs : act.eval s = .slice (some ⟨g, o, none⟩) n cap) (hl : xs.length = n) (hc : ∀ j u, xs[j]? = some u → w.cell? ⟨g, o + j, none⟩ = some u) (hcap : n ≤ cap ∧ cap ≤ maxLen) (hg : cap = n ∨ ∃ cur, w.heap[g]? = some (.cells cur e (0, 0)) ∧ o + cap ≤ cur.size)
    (a : Addr) (m c : Nat) (news : List Value) (hx : act.eval x = .slice (some a) m c) (hm : 1 ≤ m) (hln : news.length = m) (hnews : ∀ j u, news[j]? = some u → w.cell? (a.add j) = some u) (h1 : ∀ u ∈ news, u.oneCell' = true)
    (hbig : n + m ≤ 1000000)
    (h : ∀ g' o' cap' w', QLies w w' e g n cap m (xs ++ news) g' o' cap' → wpList P ops Q rest (act.put op.dst (.slice (some ⟨g', o', none⟩) (n + m) cap')) w') : wpList P ops Q (op :: rest) act w := by
  refine wpList_plain hgd fun K hK => ?_
  obtain ⟨g', o', cap', w', hr, h2⟩ := run_append_q (P := P) w t op.type e i z ht hi hz hsize hby hzs g o n cap xs hl hc hcap hg a m c news hm hln hnews h1 hbig
  unfold Oper.wp execOp
  simp only [ho, resolve, invoke, builtin, Sem.run_bind, Sem.run_pure, Result.andThen_ok, List.map_toArray, List.map_cons, List.map_nil, hs, hx, hr]
  exact hK _ _ (h g' o' cap' w' h2)

/-- clear of a row of numbers or truth values. -/
theorem run_clear_row {P : Program} (w : World) (t ty e : TypeId) (i : TypeInfo) (z : Value) (ht : P.underlying t = some (.slice e)) (hi : P.info? e = some i) (hz : i.zero = some z) (hzc : z.cells = #[z]) (hz1 : z.oneCell' = true)
    (b n c : Nat) (f : Nat → Value) (hr : w.rowIs b e n f) (hn : 1 ≤ n) :
    ∃ w', (Builtin.clear_ #[t] ty #[.slice (some ⟨b, 0, none⟩) n c]).run P w = .ok (.tuple #[]) w' ∧ w'.rowIs b e n (fun _ => z) ∧ Only b (b + 1) w w' := by
  obtain ⟨cs, hb, hs, hf⟩ := hr
  have hzl : (Builtin.zeroCells z.cells n).toList = List.replicate n z := by
    rw [hzc]
    apply List.ext_getElem?
    intro j
    by_cases hj : j < n
    · simp [Builtin.zeroCells, Nat.mod_one, hj]
    · simp [Builtin.zeroCells, Nat.mod_one, hj]
  have hst := run_storeCells_at P b 0 e (List.replicate n z) 0 cs w hb (by simp [hs]) (fun v hv => by rw [List.eq_of_mem_replicate hv]; exact hz1)
  obtain ⟨k, rfl⟩ : ∃ k, n = k + 1 := ⟨n - 1, by omega⟩
  refine ⟨w.setRow b (List.replicate (k + 1) z).toArray, ?_, ⟨_, setRow_heap w b cs _ e _ hb, by simp, fun j hj => by simp [hj]⟩, ⟨rfl, rfl, rfl, by simp, fun g hg hne => setRow_other w b g _ (fun e => hne (by omega))⟩⟩
  have hd : (cs.toList.take (0 + 0) ++ List.replicate (k + 1) z ++ cs.toList.drop (0 + 0 + (List.replicate (k + 1) z).length)) = List.replicate (k + 1) z := by
    have : cs.toList.drop (0 + 0 + (List.replicate (k + 1) z).length) = [] := List.drop_eq_nil_of_le (by simp [hs])
    rw [this]; simp
  rw [hd] at hst
  simp [Builtin.clear_, run_underlying ht, zeroValue, typeInfo, hi, hz, hzl, hst]

/-- The same as an operation of a walk. -/
theorem wpList_clear_row {P : Program} {w : World} {ops : Array Oper} {rest : List Oper} {op : Oper} {act : Act} {Q : Exit → Act → World → Prop} (hgd : op.guard = none) (s : Operand) (t : TypeId)
    (ho : op.op = .call { callee := .builtin .clear, args := #[s], argTypes := #[t] })
    (e : TypeId) (i : TypeInfo) (z : Value) (ht : P.underlying t = some (.slice e)) (hi : P.info? e = some i) (hz : i.zero = some z) (hzc : z.cells = #[z]) (hz1 : z.oneCell' = true)
    (b n c : Nat) (f : Nat → Value) (hs : act.eval s = .slice (some ⟨b, 0, none⟩) n c) (hr : w.rowIs b e n f) (hn : 1 ≤ n)
    (h : ∀ w', w'.rowIs b e n (fun _ => z) → Only b (b + 1) w w' → wpList P ops Q rest (act.put op.dst (.tuple #[])) w') : wpList P ops Q (op :: rest) act w := by
  refine wpList_plain hgd fun K hK => ?_
  obtain ⟨w', hrun, h2, h3⟩ := run_clear_row (P := P) w t op.type e i z ht hi hz hzc hz1 b n c f hr hn
  unfold Oper.wp execOp
  simp only [ho, resolve, invoke, builtin, Sem.run_bind, Sem.run_pure, Result.andThen_ok, List.map_toArray, List.map_cons, List.map_nil, hs, hrun]
  exact hK _ _ (h w' h2 h3)
end Go.Proofs.Ytohbgfmjnanlkaa
