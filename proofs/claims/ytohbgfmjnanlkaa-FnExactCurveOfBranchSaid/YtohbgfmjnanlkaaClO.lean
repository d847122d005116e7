/- A cluster with its points linked: contracts of the method linked. Conditions: stated at each theorem. -/
import Derived.Test.YtohbgfmjnanlkaaClN
import Derived.StillTailTactics
namespace Go.Proofs.Ytohbgfmjnanlkaa
open Go.ChangeShapes Go.WideShapes Go.ChangeAt Go.RowKit Go.Deep
set_option linter.unusedVariables false
set_option linter.unusedSimpArgs false

/-- The answer when there is no cluster: some struct and false. -/
def LkNo (w : World) (e : Ending) (w' : World) : Prop := e = .returned (.tuple #[.agg #[.slice none 0 0, .slice none 0 0], .bool false]) ∧ Below w.heap.size w w'
theorem cells_of {w : World} {B n c : Nat} {A : Option Addr} {zs : List Int} (h : ReadI w B (.slice A n c) zs) (hl : zs.length = n) (hn : 1 ≤ n) : ∃ g o, A = some ⟨g, o, none⟩ ∧ Hid (∀ k, k < n → w.cell? ⟨g, o + k, none⟩ = some (.int .i64 (zs[k]?.getD 0))) ∧ g < B := by
  subst hl
  obtain ⟨A', c', e, h1, h2, h3, h4, h5⟩ := h
  cases e
  obtain ⟨a, ea, hlt, hc0⟩ := h1.2 0 (by omega)
  obtain ⟨g, o, e2⟩ := h4 a ea
  subst e2; subst ea
  refine ⟨g, o, rfl, Lib.hid fun k hk => ?_, hlt⟩
  obtain ⟨a', e3, _, hck⟩ := h1.2 k hk
  cases e3
  rw [add_lit] at hck
  simpa using hck

set_option maxRecDepth 100000 in
set_option maxHeartbeats 4000000 in
theorem linked_len (A0 A1 A2 : Option Addr) (n0 n1 n2 c0 c1 c2 : Nat) (w : World) (hm : n0 ≤ 9223372036854775807) (h : n0 < 1 ∨ 24 < n0 ∨ n1 ≠ n0 ∨ n2 ≠ n0) :
    Calls Try.prog 80 #[.agg #[.slice A0 n0 c0, .slice A1 n1 c1, .slice A2 n2 c2]] w (LkNo w) := by
  have HB : Hid (Below w.heap.size w (((w.alloc (.cells #[.slice A0 n0 c0, .slice A1 n1 c1, .slice A2 n2 c2] 36)).alloc (.cells #[.slice none 0 0, .slice none 0 0] 93)))) := Lib.hid ((below_box2 _ _).alloc (by simp) _)
  have e1 : n0 < 1 → decide ((n0 : Int) < 1) = true := fun h => by simp; omega
  have e1' : ¬ n0 < 1 → decide ((n0 : Int) < 1) = false := fun h => by simp; omega
  have e2 : 24 < n0 → decide (24 < (n0 : Int)) = true := fun h => by simp; omega
  have e2' : ¬ 24 < n0 → decide (24 < (n0 : Int)) = false := fun h => by simp; omega
  have e3 : n1 ≠ n0 → ((n1 : Int) != (n0 : Int)) = true := fun h => by simp; omega
  have e3' : ¬ n1 ≠ n0 → ((n1 : Int) != (n0 : Int)) = false := fun h => by simp; omega
  have e4 : n2 ≠ n0 → ((n2 : Int) != (n0 : Int)) = true := fun h => by simp; omega
  by_cases h1 : n0 < 1
  · have q1 := e1 h1
    clear h h1 e1 e1' e2 e2' e3 e3' e4
    go_enter Try.func80, Try.ntmps80; go_wp2_with fail; exact bodyPost_ret (v := .tuple #[.agg #[.slice none 0 0, .slice none 0 0], .bool false]) (by simp [results, Try.results80, go_sem]) rfl ⟨rfl, HB.out⟩
  · have q1 := e1' h1
    by_cases h2 : 24 < n0
    · have q2 := e2 h2
      clear h h1 h2 e1 e1' e2 e2' e3 e3' e4
      go_enter Try.func80, Try.ntmps80; go_wp2_with fail; exact bodyPost_ret (v := .tuple #[.agg #[.slice none 0 0, .slice none 0 0], .bool false]) (by simp [results, Try.results80, go_sem]) rfl ⟨rfl, HB.out⟩
    · have q2 := e2' h2
      by_cases h3 : n1 ≠ n0
      · have q3 := e3 h3
        clear h h1 h2 h3 e1 e1' e2 e2' e3 e3' e4
        go_enter Try.func80, Try.ntmps80; go_wp2_with fail; exact bodyPost_ret (v := .tuple #[.agg #[.slice none 0 0, .slice none 0 0], .bool false]) (by simp [results, Try.results80, go_sem]) rfl ⟨rfl, HB.out⟩
      · have q3 := e3' h3
        have q4 := e4 (by omega)
        clear h h1 h2 h3 e1 e1' e2 e2' e3 e3' e4
        go_enter Try.func80, Try.ntmps80; go_wp2_with fail; exact bodyPost_ret (v := .tuple #[.agg #[.slice none 0 0, .slice none 0 0], .bool false]) (by simp [results, Try.results80, go_sem]) rfl ⟨rfl, HB.out⟩
theorem rowIs_set2 {w : World} {g h n : Nat} {T : TypeId} {F : Nat → Value} (k : w.rowIs g T n F) (hne : g ≠ h) (u v : Value) : ((w.drew.setCell ⟨h, 0, none⟩ u).setCell ⟨h, 1, none⟩ v).rowIs g T n F :=
  k.of_block (by rw [Below.heap_setCell _ _ _ _ (by simpa using hne), Below.heap_setCell _ _ _ _ (by simpa using hne)]; rfl)
theorem only_cell {l h b o : Nat} {w w' : World} (k : Only l h w w') (hb : b < w.heap.size) (hn : ¬(l ≤ b ∧ b < h)) : w'.cell? ⟨b, o, none⟩ = w.cell? ⟨b, o, none⟩ := by
  have := k.block b hb hn
  simp [World.cell?, this]
theorem only_frozen {l h b o : Nat} {w w' : World} (k : Only l h w w') (hb : b < w.heap.size) (hn : ¬(l ≤ b ∧ b < h)) : w'.frozen? ⟨b, o, none⟩ = w.frozen? ⟨b, o, none⟩ := by
  have := k.block b hb hn
  simp [World.frozen?, this]
/-- The answer of linked: for a cluster its points, linked, in a new block, with the weights beside them. -/
def LkAns (w : World) (P S : List Int) (n : Nat) (vw : Value) (b : Bool) (e : Ending) (w' : World) : Prop :=
  ∃ g A na ca D nd cd, e = .returned (.tuple #[.agg #[.slice A na ca, .slice D nd cd], .bool b]) ∧ Below w.heap.size w w' ∧ (b = true → Value.slice A na ca = .slice (some ⟨g, 0, none⟩) n n ∧ Value.slice D nd cd = vw ∧ w.heap.size ≤ g ∧ g < w'.heap.size ∧ PtsAt w' g n n P S)

set_option maxRecDepth 100000 in
set_option maxHeartbeats 4000000 in
theorem linked_run (A0 A1 A2 : Option Addr) (n c0 c1 c2 : Nat) (P S W : List Int) (b : Bool) (w : World) (h0 : ReadI w w.heap.size (.slice A0 n c0) P) (h1 : ReadI w w.heap.size (.slice A1 n c1) S) (h2 : ReadI w w.heap.size (.slice A2 n c2) W) (hp : P.length = n) (hs : S.length = n) (hw : W.length = n) (hn : 1 ≤ n ∧ n ≤ 24) (hb : (okAll P S n && wtOK W) = b) :
    Calls Try.prog 80 #[.agg #[.slice A0 n c0, .slice A1 n c1, .slice A2 n c2]] w (LkAns w P S n (.slice A2 n c2) b) := by
  have HB1 : Hid (Below w.heap.size w (((w.alloc (.cells #[.slice A0 n c0, .slice A1 n c1, .slice A2 n c2] 36)).alloc (.cells #[.slice none 0 0, .slice none 0 0] 93)).alloc (.cells (madeCells #[.int .i64 0, .pointer none, .pointer none] (n * 3)) 175))) := Lib.hid (((below_box2 _ _).alloc (by simp) _).alloc (by simp; omega) _)
  have HX1 : Hid ((((w.alloc (.cells #[.slice A0 n c0, .slice A1 n c1, .slice A2 n c2] 36)).alloc (.cells #[.slice none 0 0, .slice none 0 0] 93)).alloc (.cells (madeCells #[.int .i64 0, .pointer none, .pointer none] (n * 3)) 175)).cell? ⟨w.heap.size, 0, none⟩ = some (.slice A0 n c0) ∧ (((w.alloc (.cells #[.slice A0 n c0, .slice A1 n c1, .slice A2 n c2] 36)).alloc (.cells #[.slice none 0 0, .slice none 0 0] 93)).alloc (.cells (madeCells #[.int .i64 0, .pointer none, .pointer none] (n * 3)) 175)).cell? ⟨w.heap.size, 1, none⟩ = some (.slice A1 n c1) ∧ (((w.alloc (.cells #[.slice A0 n c0, .slice A1 n c1, .slice A2 n c2] 36)).alloc (.cells #[.slice none 0 0, .slice none 0 0] 93)).alloc (.cells (madeCells #[.int .i64 0, .pointer none, .pointer none] (n * 3)) 175)).cell? ⟨w.heap.size, 2, none⟩ = some (.slice A2 n c2) ∧ (((w.alloc (.cells #[.slice A0 n c0, .slice A1 n c1, .slice A2 n c2] 36)).alloc (.cells #[.slice none 0 0, .slice none 0 0] 93)).alloc (.cells (madeCells #[.int .i64 0, .pointer none, .pointer none] (n * 3)) 175)).cell? ⟨w.heap.size + 1, 0, none⟩ = some (.slice none 0 0) ∧ (((w.alloc (.cells #[.slice A0 n c0, .slice A1 n c1, .slice A2 n c2] 36)).alloc (.cells #[.slice none 0 0, .slice none 0 0] 93)).alloc (.cells (madeCells #[.int .i64 0, .pointer none, .pointer none] (n * 3)) 175)).cell? ⟨w.heap.size + 1, 1, none⟩ = some (.slice none 0 0)) := Lib.hid ⟨by go_simp, by go_simp, by go_simp, by go_simp, by go_simp⟩
  have HF1 : Hid ((((w.alloc (.cells #[.slice A0 n c0, .slice A1 n c1, .slice A2 n c2] 36)).alloc (.cells #[.slice none 0 0, .slice none 0 0] 93)).alloc (.cells (madeCells #[.int .i64 0, .pointer none, .pointer none] (n * 3)) 175)).frozen? ⟨w.heap.size + 1, 0, none⟩ = false ∧ (((w.alloc (.cells #[.slice A0 n c0, .slice A1 n c1, .slice A2 n c2] 36)).alloc (.cells #[.slice none 0 0, .slice none 0 0] 93)).alloc (.cells (madeCells #[.int .i64 0, .pointer none, .pointer none] (n * 3)) 175)).frozen? ⟨w.heap.size + 1, 1, none⟩ = false ∧ (((w.alloc (.cells #[.slice A0 n c0, .slice A1 n c1, .slice A2 n c2] 36)).alloc (.cells #[.slice none 0 0, .slice none 0 0] 93)).alloc (.cells (madeCells #[.int .i64 0, .pointer none, .pointer none] (n * 3)) 175)).heap.size = w.heap.size + 3) := Lib.hid ⟨by go_simp, by go_simp, by simp⟩
  have HR1 : Hid (PtsAt (((w.alloc (.cells #[.slice A0 n c0, .slice A1 n c1, .slice A2 n c2] 36)).alloc (.cells #[.slice none 0 0, .slice none 0 0] 93)).alloc (.cells (madeCells #[.int .i64 0, .pointer none, .pointer none] (n * 3)) 175)) (w.heap.size + 2) n 0 P S) := Lib.hid (by
    have := PtsAt.made ((w.alloc (.cells #[.slice A0 n c0, .slice A1 n c1, .slice A2 n c2] 36)).alloc (.cells #[.slice none 0 0, .slice none 0 0] 93)) n P S
    simpa using this)
  obtain ⟨g0, o0, rfl, HC0, hg0⟩ := cells_of h0 hp hn.1
  obtain ⟨g1, o1, rfl, HC1, hg1⟩ := cells_of h1 hs hn.1
  have HC2 := Lib.hid h2
  have HW := Lib.hid hw
  have HBB := Lib.hid hb
  have hmk := run_make_points n hn.2
  have q1 : decide ((n : Int) < 1) = false := by simp; omega
  have q2 : decide (24 < (n : Int)) = false := by simp; omega
  have q3 : ((n : Int) != (n : Int)) = false := by simp
  have HOA0 : Hid (okAll P S 0 = true) := Lib.hid rfl
  clear h0 h1 h2 hp hs hw hb
  go_enter Try.func80, Try.ntmps80
  go_wp2_with fail
  clear hmk
  generalize (((w.alloc (.cells #[.slice (some ⟨g0, o0, none⟩) n c0, .slice (some ⟨g1, o1, none⟩) n c1, .slice A2 n c2] 36)).alloc (.cells #[.slice none 0 0, .slice none 0 0] 93)).alloc (.cells (madeCells #[.int .i64 0, .pointer none, .pointer none] (n * 3)) 175)) = W1 at *
  have HK1 : Hid (Only (w.heap.size + 2) (w.heap.size + 3) W1 W1) := Lib.hid (Only.refl _ _ _)
  go_loopw [35] (fun vi wr => ∃ (k : Nat), k ≤ n ∧ vi = .int .i64 k ∧ Hid (okAll P S k = true) ∧ Hid (PtsAt wr (w.heap.size + 2) n k P S) ∧ Hid (Only (w.heap.size + 2) (w.heap.size + 3) W1 wr)) (fun vi _ => n - (intOf vi).toNat)
  case atStart => exact ⟨0, by omega, rfl, HOA0, HR1, HK1⟩
  case round =>
    obtain ⟨k, hk, rfl, HOA, HPT, HK⟩ := hrel
    have hs1 := HF1.out.2.2
    have hs2 := HK.out.size
    have hgl : w.heap.size + 2 < wr.heap.size := by omega
    have hcw : ∀ a o, a < w.heap.size + 2 → wr.cell? ⟨a, o, none⟩ = W1.cell? ⟨a, o, none⟩ := fun a o h => only_cell HK.out (by omega) (by omega)
    have hcb : ∀ a o, a < w.heap.size → wr.cell? ⟨a, o, none⟩ = w.cell? ⟨a, o, none⟩ := fun a o h => (hcw a o (by omega)).trans (HB1.out.cell (p := ⟨a, o, none⟩) h)
    by_cases hkn : k < n
    · have d0 := (hcw w.heap.size 0 (by omega)).trans HX1.out.1
      have d1 := (hcw w.heap.size 1 (by omega)).trans HX1.out.2.1
      have d3 := (hcb g0 (o0 + k) hg0).trans (HC0.out k hkn)
      have d4 := (hcb g1 (o1 + k) hg1).trans (HC1.out k hkn)
      obtain ⟨p, hpk⟩ : ∃ x, P[k]?.getD 0 = x := ⟨_, rfl⟩
      obtain ⟨s, hsk⟩ : ∃ x, S[k]?.getD 0 = x := ⟨_, rfl⟩
      obtain ⟨b', hbk⟩ : ∃ x, okQ P S k = x := ⟨_, rfl⟩
      rw [hpk] at d3
      rw [hsk] at d4
      have HPK := Lib.hid hpk
      have HSK := Lib.hid hsk
      have HBK := Lib.hid hbk
      have hkn2 : (k : Int) < (n : Int) := by omega
      have HWS := Lib.hid hs1
      clear hpk hsk hbk hcw hcb hs1 hs2
      go_wp2_with fail
      refine wp_region_held_drew (S := fun w' => w'.cell? ⟨w.heap.size, 0, none⟩ = some (.slice (some ⟨g0, o0, none⟩) n c0) ∧ w'.cell? ⟨w.heap.size, 1, none⟩ = some (.slice (some ⟨g1, o1, none⟩) n c1) ∧ w'.cell? ⟨g0, o0 + k, none⟩ = some (.int .i64 p) ∧ w'.cell? ⟨g1, o1 + k, none⟩ = some (.int .i64 s)) (by kernel_rfl) ⟨d0, d1, d3, d4⟩ (fun hHeld => ?_)
      refine takeY 0 _ (v := ?_) rfl rfl (by kernel_rfl) (by kernel_rfl) (by kernel_rfl) (fun _ _ _ h => h) (by kernel_rfl) ?_ (by assumption) ?_
      rotate_left 1
      · intro w hSw; (try dsimp only at hSw); go_simp; (try with_reducible rfl)
      try simp only [Act.put, List.setIfInBounds_toArray, List.set_cons_zero, List.set_cons_succ]
      refine takeY 1 _ (v := ?_) rfl rfl (by kernel_rfl) (by kernel_rfl) (by kernel_rfl) (fun _ _ _ h => h) (by kernel_rfl) ?_ (by assumption) ?_
      rotate_left 1
      · intro w hSw; (try dsimp only at hSw); go_simp; (try with_reducible rfl)
      try simp only [Act.put, List.setIfInBounds_toArray, List.set_cons_zero, List.set_cons_succ]
      refine takeY 2 _ (v := ?_) rfl rfl (by kernel_rfl) (by kernel_rfl) (by kernel_rfl) (fun _ _ _ h => h) (by kernel_rfl) ?_ (by assumption) ?_
      rotate_left 1
      · intro w hSw; (try dsimp only at hSw); go_simp; (try with_reducible rfl)
      try simp only [Act.put, List.setIfInBounds_toArray, List.set_cons_zero, List.set_cons_succ]
      refine takeY 3 _ (v := ?_) rfl rfl (by kernel_rfl) (by kernel_rfl) (by kernel_rfl) (fun _ _ _ h => h) (by kernel_rfl) ?_ (by assumption) ?_
      rotate_left 1
      · intro w hSw; (try dsimp only at hSw); go_simp; (try with_reducible rfl)
      try simp only [Act.put, List.setIfInBounds_toArray, List.set_cons_zero, List.set_cons_succ]
      refine takeY 4 _ (v := ?_) rfl rfl (by kernel_rfl) (by kernel_rfl) (by kernel_rfl) (fun _ _ _ h => h) (by kernel_rfl) ?_ (by assumption) ?_
      rotate_left 1
      · intro w hSw; (try dsimp only at hSw); go_simp; (try with_reducible rfl)
      try simp only [Act.put, List.setIfInBounds_toArray, List.set_cons_zero, List.set_cons_succ]
      refine takeY 5 _ (v := ?_) rfl rfl (by kernel_rfl) (by kernel_rfl) (by kernel_rfl) (fun _ _ _ h => h) (by kernel_rfl) ?_ (by assumption) ?_
      rotate_left 1
      · intro w hSw; (try dsimp only at hSw); go_simp; (try with_reducible rfl)
      try simp only [Act.put, List.setIfInBounds_toArray, List.set_cons_zero, List.set_cons_succ]
      refine takeY 6 _ (v := ?_) rfl rfl (by kernel_rfl) (by kernel_rfl) (by kernel_rfl) (fun _ _ _ h => h) (by kernel_rfl) ?_ (by assumption) ?_
      rotate_left 1
      · intro w hSw; (try dsimp only at hSw); go_simp; (try with_reducible rfl)
      try simp only [Act.put, List.setIfInBounds_toArray, List.set_cons_zero, List.set_cons_succ]
      refine takeY 7 _ (v := ?_) rfl rfl (by kernel_rfl) (by kernel_rfl) (by kernel_rfl) (fun _ _ _ h => h) (by kernel_rfl) ?_ (by assumption) ?_
      rotate_left 1
      · intro w hSw; (try dsimp only at hSw); go_simp; (try with_reducible rfl)
      try simp only [Act.put, List.setIfInBounds_toArray, List.set_cons_zero, List.set_cons_succ]
      refine takeY 8 _ (v := ?_) rfl rfl (by kernel_rfl) (by kernel_rfl) (by kernel_rfl) (fun _ _ _ h => h) (by kernel_rfl) ?_ (by assumption) ?_
      rotate_left 1
      · intro w hSw; (try dsimp only at hSw); go_simp; (try with_reducible rfl)
      try simp only [Act.put, List.setIfInBounds_toArray, List.set_cons_zero, List.set_cons_succ]
      refine takeY 9 _ (v := ?_) rfl rfl (by kernel_rfl) (by kernel_rfl) (by kernel_rfl) (fun _ _ _ h => h) (by kernel_rfl) ?_ (by assumption) ?_
      rotate_left 1
      · intro w hSw; (try dsimp only at hSw); go_simp; (try with_reducible rfl)
      try simp only [Act.put, List.setIfInBounds_toArray, List.set_cons_zero, List.set_cons_succ]
      refine takeY 10 _ (v := ?_) rfl rfl (by kernel_rfl) (by kernel_rfl) (by kernel_rfl) (fun _ _ _ h => h) (by kernel_rfl) ?_ (by assumption) ?_
      rotate_left 1
      · intro w hSw; (try dsimp only at hSw); go_simp; (try with_reducible rfl)
      try simp only [Act.put, List.setIfInBounds_toArray, List.set_cons_zero, List.set_cons_succ]
      refine takeY 11 _ (v := ?_) rfl rfl (by kernel_rfl) (by kernel_rfl) (by kernel_rfl) (fun _ _ _ h => h) (by kernel_rfl) ?_ (by assumption) ?_
      rotate_left 1
      · intro w hSw; (try dsimp only at hSw); go_simp; (try with_reducible rfl)
      try simp only [Act.put, List.setIfInBounds_toArray, List.set_cons_zero, List.set_cons_succ]
      refine wpAnyH_ready (rs := [12]) (by kernel_rfl) (by simp) ?_
      refine AllReadyH.cons rfl (fun K hK => ?_) AllReadyH.nil
      go_simp
      refine (link_any wr.drew (w.heap.size + 2) n k P S p s b' HPT.out hkn (by omega) hgl HPK.out HSK.out HOA.out HBK.out).mono ?_
      rintro e w3 ⟨rfl, hp3, ho3⟩
      have hk3 : ∀ a o, a < wr.heap.size → a ≠ w.heap.size + 2 → w3.cell? ⟨a, o, none⟩ = wr.cell? ⟨a, o, none⟩ := fun a o h1 h2 => only_cell (l := w.heap.size + 2) (h := w.heap.size + 2 + 1) (w := wr.drew) (w' := w3) ho3 h1 (by omega)
      refine hK.out _ w3 ⟨by rw [hk3 _ _ (by omega) (by omega)]; exact d0, by rw [hk3 _ _ (by omega) (by omega)]; exact d1, by rw [hk3 _ _ (by omega) (by omega)]; exact d3, by rw [hk3 _ _ (by omega) (by omega)]; exact d4⟩ (fun hHeld => ?_)
      clear hK K
      try simp only [Act.put, List.setIfInBounds_toArray, List.set_cons_zero, List.set_cons_succ]
      refine takeY 13 _ (v := ?_) rfl rfl (by kernel_rfl) (by kernel_rfl) (by kernel_rfl) (fun _ _ _ h => h) (by kernel_rfl) ?_ (by assumption) ?_
      rotate_left 1
      · intro w hSw; (try dsimp only at hSw); go_simp; (try with_reducible rfl)
      try simp only [Act.put, List.setIfInBounds_toArray, List.set_cons_zero, List.set_cons_succ]
      refine wpAnyH_done (by kernel_rfl) ?_ _
      have HK3 : Hid (Only (w.heap.size + 2) (w.heap.size + 3) W1 w3) := Lib.hid (Only.trans HK.out (Only.trans (only_drew _ _ wr) ho3))
      have hs3 := HK3.out.size
      have hs1 := HWS.out
      have d5 := (only_cell (b := w.heap.size + 1) (o := 0) HK3.out (by omega) (by omega)).trans HX1.out.2.2.2.1
      have d6 := (only_cell (b := w.heap.size + 1) (o := 1) HK3.out (by omega) (by omega)).trans HX1.out.2.2.2.2
      have f5 := (only_frozen (b := w.heap.size + 1) (o := 0) HK3.out (by omega) (by omega)).trans HF1.out.1
      have f6 := (only_frozen (b := w.heap.size + 1) (o := 1) HK3.out (by omega) (by omega)).trans HF1.out.2.1
      have HP3 := Lib.hid hp3
      clear hp3 ho3 hk3 hHeld hs1
      cases b'
      · have HBF : Hid (b = false) := Lib.hid (by rw [← HBB.out, okAll_bad HBK.out hkn]; rfl)
        go_wp2_with fail
        have hbt := HBF.out
        subst hbt
        have cr0 : ((w3.setCell ⟨w.heap.size + 1, 0, none⟩ (.slice none 0 0)).setCell ⟨w.heap.size + 1, 1, none⟩ (.slice none 0 0)).cell? ⟨w.heap.size + 1, 0, none⟩ = some (.slice none 0 0) := by go_simp
        have cr1 : ((w3.setCell ⟨w.heap.size + 1, 0, none⟩ (.slice none 0 0)).setCell ⟨w.heap.size + 1, 1, none⟩ (.slice none 0 0)).cell? ⟨w.heap.size + 1, 1, none⟩ = some (.slice none 0 0) := by go_simp
        refine bodyPost_ret (v := .tuple #[.agg #[.slice none 0 0, .slice none 0 0], .bool false]) (by simp [results, Try.results80, go_sem, cr0, cr1]) rfl ⟨0, _, _, _, _, _, _, rfl, ?_, fun e => (by cases e)⟩
        exact ((HB1.out.trans (Only.below HK3.out (by omega) HB1.out.size)).setCell (p := ⟨w.heap.size + 1, 0, none⟩) (by show w.heap.size ≤ w.heap.size + 1; omega) _).setCell (p := ⟨w.heap.size + 1, 1, none⟩) (by show w.heap.size ≤ w.heap.size + 1; omega) _
      · have HOA1 : Hid (okAll P S (k + 1) = true) := Lib.hid (by rw [okAll_succ, HOA.out, HBK.out]; rfl)
        have HP4 := Lib.hid (HP3.out rfl)
        go_wp2_with fail
        go_roundw
        case rel => exact ⟨k + 1, by omega, by go_num, HOA1, HP4, HK3⟩
        case measure => simp [intOf]; omega
    · obtain rfl : k = n := by omega
      have d2 := (hcw w.heap.size 2 (by omega)).trans HX1.out.2.2.1
      have d5 := (hcw (w.heap.size + 1) 0 (by omega)).trans HX1.out.2.2.2.1
      have d6 := (hcw (w.heap.size + 1) 1 (by omega)).trans HX1.out.2.2.2.2
      have f5 := (only_frozen (b := w.heap.size + 1) (o := 0) HK.out (by omega) (by omega)).trans HF1.out.1
      have f6 := (only_frozen (b := w.heap.size + 1) (o := 1) HK.out (by omega) (by omega)).trans HF1.out.2.1
      have HBW : Hid (Below w.heap.size w wr) := Lib.hid (HB1.out.trans (Only.below HK.out (by omega) HB1.out.size))
      obtain ⟨b', hwb⟩ : ∃ x, wtOK W = x := ⟨_, rfl⟩
      have HWB := Lib.hid hwb
      have HBT : Hid (b = b') := Lib.hid (by rw [← HBB.out, HOA.out, hwb]; simp)
      clear hcw hcb hs1 hs2 hwb
      go_wp2_with fail
      refine wp_region_held_drew (S := fun w' => w'.cell? ⟨w.heap.size, 2, none⟩ = some (.slice A2 k c2)) (by kernel_rfl) (d2) (fun hHeld => ?_)
      refine takeY 0 _ (v := ?_) rfl rfl (by kernel_rfl) (by kernel_rfl) (by kernel_rfl) (fun _ _ _ h => h) (by kernel_rfl) ?_ (by assumption) ?_
      rotate_left 1
      · intro w hSw; (try dsimp only at hSw); go_simp; (try with_reducible rfl)
      try simp only [Act.put, List.setIfInBounds_toArray, List.set_cons_zero, List.set_cons_succ]
      refine takeY 1 _ (v := ?_) rfl rfl (by kernel_rfl) (by kernel_rfl) (by kernel_rfl) (fun _ _ _ h => h) (by kernel_rfl) ?_ (by assumption) ?_
      rotate_left 1
      · intro w hSw; (try dsimp only at hSw); go_simp; (try with_reducible rfl)
      try simp only [Act.put, List.setIfInBounds_toArray, List.set_cons_zero, List.set_cons_succ]
      refine takeY 2 _ (v := ?_) rfl rfl (by kernel_rfl) (by kernel_rfl) (by kernel_rfl) (fun _ _ _ h => h) (by kernel_rfl) ?_ (by assumption) ?_
      rotate_left 1
      · intro w hSw; (try dsimp only at hSw); go_simp; (try with_reducible rfl)
      try simp only [Act.put, List.setIfInBounds_toArray, List.set_cons_zero, List.set_cons_succ]
      refine takeY 3 _ (v := ?_) rfl rfl (by kernel_rfl) (by kernel_rfl) (by kernel_rfl) (fun _ _ _ h => h) (by kernel_rfl) ?_ (by assumption) ?_
      rotate_left 1
      · intro w hSw; (try dsimp only at hSw); go_simp; (try with_reducible rfl)
      try simp only [Act.put, List.setIfInBounds_toArray, List.set_cons_zero, List.set_cons_succ]
      refine takeY 4 _ (v := ?_) rfl rfl (by kernel_rfl) (by kernel_rfl) (by kernel_rfl) (fun _ _ _ h => h) (by kernel_rfl) ?_ (by assumption) ?_
      rotate_left 1
      · intro w hSw; (try dsimp only at hSw); go_simp; (try with_reducible rfl)
      try simp only [Act.put, List.setIfInBounds_toArray, List.set_cons_zero, List.set_cons_succ]
      refine takeY 5 _ (v := ?_) rfl rfl (by kernel_rfl) (by kernel_rfl) (by kernel_rfl) (fun _ _ _ h => h) (by kernel_rfl) ?_ (by assumption) ?_
      rotate_left 1
      · intro w hSw; (try dsimp only at hSw); go_simp; (try with_reducible rfl)
      try simp only [Act.put, List.setIfInBounds_toArray, List.set_cons_zero, List.set_cons_succ]
      refine wpAnyH_ready (rs := [6]) (by kernel_rfl) (by simp) ?_
      refine AllReadyH.cons rfl (fun K hK => ?_) AllReadyH.nil
      go_simp
      refine (areW_any (.slice A2 k c2) W b' wr.drew w.heap.size (HC2.out.below HBW.out.drew) (by rw [HW.out]; omega) HWB.out).mono ?_
      rintro e w' ⟨rfl, rfl⟩
      refine hK.out _ (wr.drew) d2 (fun hHeld => ?_)
      clear hK K
      try simp only [Act.put, List.setIfInBounds_toArray, List.set_cons_zero, List.set_cons_succ]
      refine wpAnyH_ready (rs := [7]) (by kernel_rfl) (by simp) ?_
      refine AllReadyH.cons rfl (fun K hK => ?_) AllReadyH.nil
      go_simp
      refine hK.out _ (((wr.drew.setCell ⟨w.heap.size + 1, 0, none⟩ (.slice (some ⟨w.heap.size + 1 + 1, 0, none⟩) k k)).setCell ⟨w.heap.size + 1, 1, none⟩ (.slice A2 k c2))) (by go_simp) (fun hHeld => ?_)
      clear hK K
      try simp only [Act.put, List.setIfInBounds_toArray, List.set_cons_zero, List.set_cons_succ]
      refine takeY 8 _ (v := ?_) rfl rfl (by kernel_rfl) (by kernel_rfl) (by kernel_rfl) (fun _ _ _ h => h) (by kernel_rfl) ?_ (by assumption) ?_
      rotate_left 1
      · intro w hSw; (try dsimp only at hSw); go_simp; (try with_reducible rfl)
      try simp only [Act.put, List.setIfInBounds_toArray, List.set_cons_zero, List.set_cons_succ]
      refine wpAnyH_done (by kernel_rfl) ?_ _
      have HPZ := Lib.hid (rowIs_set2 HPT.out (show w.heap.size + 2 ≠ w.heap.size + 1 by omega) (.slice (some ⟨w.heap.size + 1 + 1, 0, none⟩) k k) (.slice A2 k c2))
      have cr0 : (wr.setCell ⟨w.heap.size + 1, 0, none⟩ (.slice (some ⟨w.heap.size + 1 + 1, 0, none⟩) k k)).cell? ⟨w.heap.size + 1, 0, none⟩ = some (.slice (some ⟨w.heap.size + 1 + 1, 0, none⟩) k k) := by go_simp
      have cr1 : ((wr.setCell ⟨w.heap.size + 1, 0, none⟩ (.slice (some ⟨w.heap.size + 1 + 1, 0, none⟩) k k)).setCell ⟨w.heap.size + 1, 1, none⟩ (.slice A2 k c2)).cell? ⟨w.heap.size + 1, 1, none⟩ = some (.slice A2 k c2) := by go_simp
      go_wp2_with fail
      have hbt := HBT.out
      subst hbt
      refine bodyPost_ret (v := .tuple #[.agg #[.slice (some ⟨w.heap.size + 1 + 1, 0, none⟩) k k, .slice A2 k c2], .bool b]) (by simp [results, Try.results80, go_sem, cr0, cr1]) rfl ⟨w.heap.size + 2, _, _, _, _, _, _, rfl, ?_, fun e => ⟨rfl, rfl, by omega, by simpa [World.setCell] using hgl, HPZ.out⟩⟩
      exact ((HBW.out.drew).setCell (p := ⟨w.heap.size + 1, 0, none⟩) (by show w.heap.size ≤ w.heap.size + 1; omega) _).setCell (p := ⟨w.heap.size + 1, 1, none⟩) (by show w.heap.size ≤ w.heap.size + 1; omega) _

end Go.Proofs.Ytohbgfmjnanlkaa
