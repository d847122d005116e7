/- Points of a cluster in memory; the points to which one is proximate: contracts. Conditions: stated at each theorem. -/
import Derived.Test.YtohbgfmjnanlkaaClM
import Derived.Test.YtohbgfmjnanlkaaZB
import Derived.LaidEqlPtr
namespace Go.Proofs.Ytohbgfmjnanlkaa
open Go.ChangeShapes Go.WideShapes Go.ChangeAt Go.RowKit Go.Deep
set_option linter.unusedVariables false
set_option linter.unusedSimpArgs false

/-- The answer is a list of the call's own. -/
def LAns (w : World) (L : List Int) (e : Ending) (w' : World) : Prop := ∃ A c, e = .returned (.slice A L.length c) ∧ OwnI w' w.heap.size w'.heap.size (.slice A L.length c) L ∧ Below w.heap.size w w'
theorem LAns.mk' {w w' : World} {L : List Int} {A : Option Addr} {n c : Nat} (hl : L.length = n) (h : Own w' w.heap.size (.slice A n c) n (L.map (.int .i64))) (hb : Below w.heap.size w w') : LAns w L (.returned (.slice A n c)) w' := by
  subst hl; exact ⟨A, c, rfl, OwnI.mk' h, hb⟩

set_option maxRecDepth 100000 in
set_option maxHeartbeats 1000000 in
theorem prox0_any (g o : Nat) (w : World) (h1 : w.cell? ⟨g, o + 1, none⟩ = some (.pointer none)) (h2 : w.cell? ⟨g, o + 2, none⟩ = some (.pointer none)) :
    Calls Try.prog 171 #[.pointer (some ⟨g, o, none⟩)] w (LAns w []) := by
  go_enter Try.func171, Try.ntmps171
  go_wp2_with fail
  go_ret
  exact ⟨none, 0, rfl, OwnI.nil _ _, Below.refl _ _⟩

set_option maxRecDepth 100000 in
set_option maxHeartbeats 1000000 in
theorem prox1_any (g o g1 o1 : Nat) (p : Int) (w : World) (h1 : w.cell? ⟨g, o + 1, none⟩ = some (.pointer (some ⟨g1, o1, none⟩))) (h2 : w.cell? ⟨g, o + 2, none⟩ = some (.pointer none)) (h3 : w.cell? ⟨g1, o1, none⟩ = some (.int .i64 p)) :
    Calls Try.prog 171 #[.pointer (some ⟨g, o, none⟩)] w (LAns w [p]) := by
  obtain ⟨i0, hi0, hz0, hz1, hz2⟩ := info_parts int_info
  have HO : Hid (Own w w.heap.size (.slice none 0 0) 0 []) := Lib.hid (Own.nil w _)
  go_enter Try.func171, Try.ntmps171
  go_wp2_with (at_builtin; (refine wpList_append_own _ rfl _ _ 22 rfl w.heap.size 2 i0 (.int .i64 0) 1 8 Try.underlying22 hi0 hz0 hz1 hz2 rfl (by decide) (.slice none 0 0) 0 [] rfl (World.ownsRow.alloc HO.out _) ⟨w.heap.size, 0, none⟩ 1 1 [.int .i64 p] rfl rfl (World.news_of_block (cs := #[.int .i64 p]) (t := 2) (fr := (0, 0)) (heap_alloc_new w _)) (by simp [Value.oneCell']) (by simp only [maxLen]; omega) (by omega) (by simp <;> omega) ?_; intro v1 w1 hown1 hgrow1 _; obtain ⟨A1, c1, rfl⟩ := own_form hown1; have HO1 := Lib.hid hown1; have HB1 := Lib.hid (((Below.refl w.heap.size w).alloc (Nat.le_refl _) _).grown hgrow1 (by simp) (fun kk hkk => by simp [Value.ownBlock] at hkk)); clear hown1 hgrow1))
  go_ret
  exact LAns.mk' (n := 0 + 1) rfl HO1.out HB1.out

set_option maxRecDepth 100000 in
set_option maxHeartbeats 1000000 in
theorem prox2_any (g o g1 o1 g2 o2 : Nat) (p s : Int) (w : World) (h1 : w.cell? ⟨g, o + 1, none⟩ = some (.pointer (some ⟨g1, o1, none⟩))) (h2 : w.cell? ⟨g, o + 2, none⟩ = some (.pointer (some ⟨g2, o2, none⟩))) (h3 : w.cell? ⟨g1, o1, none⟩ = some (.int .i64 p)) (h4 : w.cell? ⟨g2, o2, none⟩ = some (.int .i64 s))
    (hg : g < w.heap.size) (hg1 : g1 < w.heap.size) :
    Calls Try.prog 171 #[.pointer (some ⟨g, o, none⟩)] w (LAns w [s, p]) := by
  obtain ⟨i0, hi0, hz0, hz1, hz2⟩ := info_parts int_info
  have HO : Hid (Own w w.heap.size (.slice none 0 0) 0 []) := Lib.hid (Own.nil w _)
  go_enter Try.func171, Try.ntmps171
  go_wp2_with (first | (at_builtin; (refine wpList_append_own _ rfl _ _ 22 rfl w.heap.size 2 i0 (.int .i64 0) 1 8 Try.underlying22 hi0 hz0 hz1 hz2 rfl (by decide) (.slice none 0 0) 0 [] rfl (World.ownsRow.alloc HO.out _) ⟨w.heap.size, 0, none⟩ 1 1 [.int .i64 s] rfl rfl (World.news_of_block (cs := #[.int .i64 s]) (t := 2) (fr := (0, 0)) (heap_alloc_new w _)) (by simp [Value.oneCell']) (by simp only [maxLen]; omega) (by omega) (by simp <;> omega) ?_; intro v1 w1 hown1 hgrow1 _; obtain ⟨A1, c1, rfl⟩ := own_form hown1; have HO1 := Lib.hid hown1; have hB1 := (((Below.refl w.heap.size w).alloc (Nat.le_refl _) (.cells #[.int .i64 s] 2)).grown hgrow1 (by simp) (fun kk hkk => by simp [Value.ownBlock] at hkk)); have k1 := (hB1.cell (p := ⟨g, o + 1, none⟩) hg).trans h1; have k3 := (hB1.cell (p := ⟨g1, o1, none⟩) hg1).trans h3; have HB1 := Lib.hid hB1; have hs1 := hB1.size; clear hown1 hgrow1 hB1 HO h1 h3 h2 h4)) | (at_builtin; (refine wpList_append_own _ rfl _ _ 22 rfl w.heap.size 2 i0 (.int .i64 0) 1 8 Try.underlying22 hi0 hz0 hz1 hz2 rfl (by decide) (.slice A1 (0 + 1) c1) (0 + 1) ([] ++ [.int .i64 s]) rfl (World.ownsRow.alloc HO1.out _) ⟨w1.heap.size, 0, none⟩ 1 1 [.int .i64 p] rfl rfl (World.news_of_block (cs := #[.int .i64 p]) (t := 2) (fr := (0, 0)) (heap_alloc_new w1 _)) (by simp [Value.oneCell']) (by simp only [maxLen]; omega) (by omega) (by simp <;> omega) ?_; intro v2 w2 hown2 hgrow2 _; obtain ⟨A2, c2, rfl⟩ := own_form hown2; have HO2 := Lib.hid hown2; have HB2 := Lib.hid ((HB1.out.alloc hs1 _).grown hgrow2 (by simp <;> omega) (fun kk hkk => (World.ownsRow.lt HO1.out kk hkk).1)); clear hown2 hgrow2)))
  go_ret
  exact LAns.mk' (n := 0 + 1 + 1) rfl HO2.out HB2.out

theorem ptr_info : (Try.prog.info? 175).map (fun i => (i.zero, i.size, i.bytes)) = some (some (.agg #[.int .i64 0, .pointer none, .pointer none]), 3, 24) := by kernel_rfl
theorem run_eql_ptr_left (W : World) (b : Addr) : (binOp .eql 173 (.pointer none) (.pointer (some b))).run Try.prog W = .ok (.bool false) W := by
  have h : ∀ d : Nat, (Op.equalIn (d + 1) 173 (.pointer none) (.pointer (some b))).run Try.prog W = .ok false W := fun d => by
    simp [Op.equalIn, run_underlying Try.underlying173]
  simp only [binOp]
  simp [Op.equal, Op.maxDepth, h 9999]
/-- Two pointers into one block. -/
theorem ptr_run {W : World} {g : Nat} {X : Array Value} {T : TypeId} (hX : W.heap[g]? = some (.cells X T (0, 0))) (a : Option Addr) (o : Nat) (ha : ∀ x, a = some x → x.block = g) (e : Bool) (he : decide (a = some ⟨g, o, none⟩) = e) (m : Nat) :
    (binOp .eql 173 (.pointer a) (.pointer (some ⟨g, o, none⟩))).run Try.prog (W.drewN m) = .ok (.bool e) (W.drewN m) := by
  obtain ⟨j, hj, hz, hs, hb⟩ := info_parts ptr_info
  subst he
  cases a with
  | none => simpa using run_eql_ptr_left (W.drewN m) ⟨g, o, none⟩
  | some x =>
    by_cases h : x = ⟨g, o, none⟩
    · subst h
      simpa using run_eql_ptr_same (P := Try.prog) (W.drewN m) (⟨g, o, none⟩ : Addr) Try.underlying173 hj
    · rw [show decide (some x = some (⟨g, o, none⟩ : Addr)) = false from by simpa using h]
      exact run_eql_ptr_other (P := Try.prog) (W.drewN m) Try.underlying173 hj (by omega) h (by rw [ha x rfl]; exact hX) hX
theorem drewN_belowK {B : Nat} {a w : World} (h : Below B a w) (n : Nat) : Below B a (w.drewN n) := ⟨h.os, h.tape, h.output, h.size, h.block⟩

set_option maxRecDepth 100000 in
set_option maxHeartbeats 1000000 in
theorem twin1_any (t : Int) (a b : Option Addr) (op os : Nat) (B g o : Nat) (X : Array Value) (T : TypeId) (w : World) (hX : w.heap[g]? = some (.cells X T (0, 0))) (h1 : w.cell? ⟨B, 0, none⟩ = some (.pointer (some ⟨g, o, none⟩))) (h2 : w.cell? ⟨g, o + 1, none⟩ = some (.pointer (some ⟨g, op, none⟩))) (h3 : w.cell? ⟨g, o + 2, none⟩ = some (.pointer (some ⟨g, os, none⟩)))
    (hB : B < w.heap.size) (hg : g < w.heap.size) (ha : ∀ x, a = some x → x.block = g) (hb : ∀ x, b = some x → x.block = g) (hn : a ≠ some ⟨g, op, none⟩) :
    Calls Try.prog 173 #[.agg #[.int .i64 t, .pointer a, .pointer b], .pointer (some ⟨B, 0, none⟩)] w fun e w' => e = .returned (.bool false) ∧ Below w.heap.size w w' := by
  have hX1 : (w.alloc (.cells #[.int .i64 t, .pointer a, .pointer b] 175)).heap[g]? = some (.cells X T (0, 0)) := by rw [Below.heap_alloc _ _ _ hg]; exact hX
  have r1 := ptr_run hX1 a op ha false (by simpa using hn)
  have hBn : B ≠ w.heap.size := by omega
  have hgn : g ≠ w.heap.size := by omega
  clear hX hX1 ha hb
  go_enter Try.func173, Try.ntmps173
  go_wp2_with fail
  go_quiet (fail)
  go_wp2_with fail
  go_ret
  exact ⟨rfl, drewN_belowK (below_box2 _ _) _⟩

set_option maxRecDepth 100000 in
set_option maxHeartbeats 1000000 in
theorem twin2_any (t : Int) (a b : Option Addr) (op os : Nat) (B g o : Nat) (X : Array Value) (T : TypeId) (w : World) (hX : w.heap[g]? = some (.cells X T (0, 0))) (h1 : w.cell? ⟨B, 0, none⟩ = some (.pointer (some ⟨g, o, none⟩))) (h2 : w.cell? ⟨g, o + 1, none⟩ = some (.pointer (some ⟨g, op, none⟩))) (h3 : w.cell? ⟨g, o + 2, none⟩ = some (.pointer (some ⟨g, os, none⟩)))
    (hB : B < w.heap.size) (hg : g < w.heap.size) (ha : ∀ x, a = some x → x.block = g) (hb : ∀ x, b = some x → x.block = g) (hp : a = some ⟨g, op, none⟩) (hn : b ≠ some ⟨g, os, none⟩) :
    Calls Try.prog 173 #[.agg #[.int .i64 t, .pointer a, .pointer b], .pointer (some ⟨B, 0, none⟩)] w fun e w' => e = .returned (.bool false) ∧ Below w.heap.size w w' := by
  have hX1 : (w.alloc (.cells #[.int .i64 t, .pointer a, .pointer b] 175)).heap[g]? = some (.cells X T (0, 0)) := by rw [Below.heap_alloc _ _ _ hg]; exact hX
  have r1 := ptr_run hX1 a op ha true (by simpa using hp)
  have r2 := ptr_run hX1 b os hb false (by simpa using hn)
  clear hp
  have hBn : B ≠ w.heap.size := by omega
  have hgn : g ≠ w.heap.size := by omega
  clear hX hX1 ha hb
  go_enter Try.func173, Try.ntmps173
  go_wp2_with fail
  go_quiet (fail)
  go_wp2_with fail
  go_ret
  exact ⟨rfl, drewN_belowK (below_box2 _ _) _⟩

set_option maxRecDepth 100000 in
set_option maxHeartbeats 1000000 in
theorem twin3_any (t : Int) (a b : Option Addr) (op os : Nat) (B g o : Nat) (X : Array Value) (T : TypeId) (w : World) (hX : w.heap[g]? = some (.cells X T (0, 0))) (h1 : w.cell? ⟨B, 0, none⟩ = some (.pointer (some ⟨g, o, none⟩))) (h2 : w.cell? ⟨g, o + 1, none⟩ = some (.pointer (some ⟨g, op, none⟩))) (h3 : w.cell? ⟨g, o + 2, none⟩ = some (.pointer (some ⟨g, os, none⟩)))
    (hB : B < w.heap.size) (hg : g < w.heap.size) (ha : ∀ x, a = some x → x.block = g) (hb : ∀ x, b = some x → x.block = g) (hp : a = some ⟨g, op, none⟩) (hs : b = some ⟨g, os, none⟩) :
    Calls Try.prog 173 #[.agg #[.int .i64 t, .pointer a, .pointer b], .pointer (some ⟨B, 0, none⟩)] w fun e w' => e = .returned (.bool true) ∧ Below w.heap.size w w' := by
  have hX1 : (w.alloc (.cells #[.int .i64 t, .pointer a, .pointer b] 175)).heap[g]? = some (.cells X T (0, 0)) := by rw [Below.heap_alloc _ _ _ hg]; exact hX
  have r1 := ptr_run hX1 a op ha true (by simpa using hp)
  have r2 := ptr_run hX1 b os hb true (by simpa using hs)
  clear hp hs
  have hBn : B ≠ w.heap.size := by omega
  have hgn : g ≠ w.heap.size := by omega
  clear hX hX1 ha hb
  go_enter Try.func173, Try.ntmps173
  go_wp2_with fail
  go_quiet (fail)
  go_wp2_with fail
  go_ret
  exact ⟨rfl, drewN_belowK (below_box2 _ _) _⟩

end Go.Proofs.Ytohbgfmjnanlkaa
