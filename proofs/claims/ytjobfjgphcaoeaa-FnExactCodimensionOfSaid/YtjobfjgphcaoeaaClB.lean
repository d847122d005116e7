/- Clusters, the program's: weights out of excesses, by a range that goes backwards: contracts. Conditions: stated at each theorem. -/
import Derived.Test.YtjobfjgphcaoeaaClV
import Derived.Test.YtjobfjgphcaoeaaZD
import Derived.StillTailTactics
namespace Go.Proofs.Ytjobfjgphcaoeaa
open Go.ChangeShapes Go.WideShapes Go.ChangeAt Go.RowKit Go.Shelf Go.Deep
set_option linter.unusedVariables false
set_option linter.unusedSimpArgs false
attribute [local go_sem] Oper.semAt_some

section
variable {P : Program}
/-- A region that draws, all but its tail only reading: its operations in their order. -/
theorem wpAny_tailC {Q : Exit → Act → World → Prop} {a : Act} {w : World} {l : List Oper} (n : Nat) (hB : Region.lexTailB .any l.toArray n = true)
    (h : wpStill P l.toArray w (fun a' => wpList P l.toArray Q (l.drop n) a' w) (l.take n) a) : wpAny P .any l.toArray Q l.toArray.size (Array.replicate l.toArray.size false) a w := by
  simp only [Region.lexTailB, Bool.and_eq_true, decide_eq_true_eq] at hB
  obtain ⟨⟨⟨⟨h1, h2⟩, h3⟩, h4⟩, h5⟩ := hB
  have hl : n < l.length := by simpa using h2
  have e1 : (l.take n).length = n := by simp; omega
  have e2 : (l.drop n).length = l.toArray.size - n := by simp
  have i0 : HeadInv .any l.toArray n (Array.replicate l.toArray.size false) :=
    ⟨by simp, fun j oj _ hh => (by rw [getD_replicate_false] at hh; cases hh), fun t _ ht => getD_in (by simpa using ht) (getD_replicate_false _ _)⟩
  have k := wpAny_of_head (Q' := Q) (g := l.toArray.size - n) (fun listed a' hL => by
    have k1 := wpAny_of_seq (md := .any) (Q' := Q) (l.drop n) n listed a' w (fun j => by simp [List.getElem?_drop]) (by rw [e2]; exact hL.1) hL.2
    rwa [e2] at k1) _ _ _ (wpAnyL_lex (md := .any) (g := l.toArray.size - n) h1 h3 h4 h2 (l.take n) 0 _ a (fun j hj => by
      have hj' : j < n := by rw [e1] at hj; exact hj
      simp [hj']) (by simpa using e1) i0 (by rw [e1]; exact h5) h)
  rw [e1, show n + (l.toArray.size - n) = l.toArray.size by omega] at k
  exact k
end

/-- What a list of points does to numbers, each in its turn: its own is added where it is proximate. -/
def bwF (P S : List Int) (G : Nat → Int) (L : List Nat) : Nat → Int := L.foldl (fun G i => stQ G (nrC P S i) (G i)) G
theorem bw_snoc (P S : List Int) (G : Nat → Int) (L : List Nat) (i : Nat) : bwF P S G (L ++ [i]) = stQ (bwF P S G L) (nrC P S i) (bwF P S G L i) := by simp [bwF]
theorem bw_dwn (P S : List Int) : ∀ (k : Nat) (G : Nat → Int), bwF P S G (List.range k).reverse = dwn P S k G
  | 0, _ => rfl
  | k + 1, G => by
    rw [List.range_succ, List.reverse_append]
    show bwF P S (stQ G (nrC P S k) (G k)) (List.range k).reverse = dwn P S k (stQ G (nrC P S k) (G k))
    exact bw_dwn P S k _
theorem bw_le {P S : List Int} {M : Int} (hM : 0 ≤ M) : ∀ (L : List Nat) (t : Nat) (G : Nat → Int), (∀ x, -(M * tri t) ≤ G x ∧ G x ≤ M * tri t) → ∀ x, -(M * tri (t + L.length)) ≤ bwF P S G L x ∧ bwF P S G L x ≤ M * tri (t + L.length)
  | [], _, _, h, x => h x
  | i :: L, t, G, h, x => by
    have h1 := fun x => stQ_tri (P := P) (S := S) (k := i) hM h (h i) 2 x
    have h2 := fun (x : Nat) => h1 x
    rw [List.take_of_length_le (nrC_len P S i)] at h2
    have h3 := bw_le (P := P) (S := S) hM L (t + 1) (stQ G (nrC P S i) (G i)) h2 x
    rw [show t + (i :: L).length = t + 1 + L.length by simp; omega]
    exact h3
theorem rv_take {n i k : Nat} (h : n = i + 1 + k) : (List.range n).reverse.take (k + 1) = (List.range n).reverse.take k ++ [i] := by
  subst h
  have h1 : k < (List.range (i + 1 + k)).reverse.length := by simp
  rw [List.take_succ_eq_append_getElem h1]
  congr 2
  simp only [List.getElem_reverse, List.length_range, List.getElem_range]
  omega
abbrev Bi (n : Nat) := { i : Nat // i < n }
abbrev encB {n : Nat} (uf : Nat → Value) (x : Bi n) : Array Value := #[.int .i64 x.1, uf x.1]
def vlB {n : Nat} (xs : List (Bi n)) : List Nat := xs.map (·.1)
theorem vlB_snoc {n : Nat} (xs : List (Bi n)) (x : Bi n) : vlB (xs ++ [x]) = vlB xs ++ [x.1] := by simp [vlB]
theorem cell_objC {W : World} {g o : Nat} {v : Value} (h : W.cell? ⟨g, o, none⟩ = some v) : ∃ x, W.heap[g]? = some x ∧ x.isCells = true := cell_obj h
theorem KpB.setRow {b0 d j : Nat} {A : World} (hr : rb b0 A = some d) (hne : d ≠ b0) (u : Value) : KpB b0 A (A.setCell ⟨d, j, none⟩ u) := by
  have hb : ∀ b, b ≠ d → (A.setCell ⟨d, j, none⟩ u).heap[b]? = A.heap[b]? := fun b hb => Below.heap_setCell _ _ _ _ (by simpa using hb)
  have hr2 : rb b0 (A.setCell ⟨d, j, none⟩ u) = rb b0 A := rb_same (hb b0 (fun e => hne e.symm))
  have hs : (A.setCell ⟨d, j, none⟩ u).heap.size = A.heap.size := by simp [World.setCell]
  refine ⟨by rw [hs]; exact Nat.le_refl _, fun b h => ⟨hb b (fun e => ?_), by rw [hr2]; exact h.2.1⟩, fun hv b h => ?_⟩
  · subst e; exact h.2.1 hr
  · rw [hs]; rw [hr2] at h; exact hv b h
theorem from_kept {X Y : World} {row : Option Nat} {lo hi B : Nat} (hg : X.grownBy Y row) (hr : ∀ r, row = some r → B ≤ r ∧ ∃ o : Obj, X.heap[r]? = some o ∧ o.isCells = false) (h : hi ≤ B) (hx : hi ≤ X.heap.size) : Kept lo hi X Y :=
  ⟨hg.size, fun b _ hb => hg.block b (by omega) (fun e => by have := (hr b e.symm).1; omega)⟩

theorem backward_any (A : Option Addr) (n c : Nat) (w : World) :
    Calls Try.prog 142 #[.slice A n c] w fun e w' => e = .returned (.func (.func 147) #[] #[.pointer (some ⟨w.heap.size, 0, none⟩)]) ∧ w' = w.alloc (.cells #[.slice A n c] 40) := by
  go_enter Try.func142, Try.ntmps142
  go_wp2
  go_ret
  exact ⟨rfl, rfl⟩
set_option maxRecDepth 100000 in
set_option maxHeartbeats 4000000 in
theorem backIt_stops (m b0 Bn g n : Nat) (uf : Nat → Value) (w : World) (hm : 1 ≤ m) (hn : n ≤ 24) (hv : RV b0 w) (h0 : b0 < w.heap.size) (sB : Safe b0 w Bn)
    (cB : w.cell? ⟨Bn, 0, none⟩ = some (.slice (some ⟨g, 0, none⟩) n n)) (sG : Safe b0 w g) (cG : ∀ k, k < n → w.cell? ⟨g, k, none⟩ = some (uf k)) :
    SeqStopsK Fence.wide m Try.prog 147 #[.pointer (some ⟨Bn, 0, none⟩)] (encB (n := n) uf) (KpB b0) (fun xs => vlB xs = (List.range n).reverse) (fun _ => True) n w := fun l J Jx W hW hJ hJx hY hJ0 => by
  refine callsIn_of_wp Try.func147 rfl trivial ?_ rfl
  simp only [Try.ntmps147, List.size_toArray, List.length_cons, List.length_nil, Nat.reduceAdd, Nat.reduceSub, Array.replicate_succ, Array.replicate_zero, List.push_toArray, List.append_toArray, List.nil_append, List.cons_append]
  have k0 := KpB.of_below h0 hW
  have sBW := Lib.hid (k0.keeps sB)
  have sGW := Lib.hid (k0.keeps sG)
  have cBW : W.cell? ⟨Bn, 0, none⟩ = some (.slice (some ⟨g, 0, none⟩) n n) := by rw [k0.cell sB]; exact cB
  have CG : Hid (∀ k, k < n → W.cell? ⟨g, k, none⟩ = some (uf k)) := Lib.hid fun k hk => by rw [k0.cell sG]; exact cG k hk
  have HCB := Lib.hid cBW
  have HJ0 := Lib.hid hJ0
  have p0 : IntKind.i64.wrap ((n : Int) - 1) = (n : Int) - 1 := IntWalk.i64_in _ (by omega)
  clear sB sG cB cG k0 hJ0 hv h0 hW
  gi_wp2_with fail
  gi_loopw [3] (fun v3 wr => ∃ (k : Nat) (pre : List (Bi n)), k ≤ n ∧ v3 = .int .i64 ((n : Int) - 1 - k) ∧ pre.length = k ∧ Hid (vlB pre = (List.range n).reverse.take k) ∧ Hid (J pre wr) ∧ Hid (KpB b0 W wr)) (fun v3 _ => (intOf v3 + 1).toNat)
  case atStart => exact ⟨0, [], by omega, by simp, rfl, Lib.hid rfl, HJ0, Lib.hid (KpB.refl _ _)⟩
  case round =>
    obtain ⟨k, pre, hk, rfl, hpl, HV, HJ, HK⟩ := hrel
    by_cases hkn : k < n
    · obtain ⟨i, hi⟩ : ∃ i : Nat, n = i + 1 + k := ⟨n - 1 - k, by omega⟩
      have hin : i < n := by omega
      have he : (n : Int) - 1 - k = (i : Int) := by omega
      rw [he]
      have dB := (HK.out.cell sBW.out).trans HCB.out
      have dG := (HK.out.cell sGW.out).trans (CG.out i hin)
      obtain ⟨f1, t1, a1, y1, hy1, hR1⟩ := hY pre ⟨i, hin⟩ wr HJ.out (by omega)
      dsimp only [encB] at hy1
      have hi2 : (0 : Int) ≤ (i : Int) := by omega
      have hi3 : (i : Int) < (n : Int) := by omega
      have p1 : IntKind.i64.wrap ((i : Int) - 1) = (i : Int) - 1 := IntWalk.i64_in _ (by omega)
      have HI := Lib.hid hi
      clear hi he
      gi_wp2_with fail
      refine hR1.mono ?_
      rintro e W1 (⟨rfl, hJ1, hK1⟩ | ⟨rfl, hx1⟩)
      · gi_wp2_with fail
        go_roundw
        case rel => exact ⟨k + 1, pre ++ [⟨i, hin⟩], by omega, by rw [show (n : Int) - 1 - ((k + 1 : Nat) : Int) = (i : Int) - 1 by have := HI.out; omega], by simp; omega, Lib.hid (by rw [vlB_snoc, HV.out, rv_take HI.out]), Lib.hid hJ1, Lib.hid (HK.out.trans hK1)⟩
        case measure => (simp [intOf] <;> omega)
      · gi_wp2_with fail
        refine bodyPost_ret (results_none rfl _ _ _) rfl ?_
        exact ⟨⟨_, rfl⟩, .inr ⟨_, trivial, hx1⟩⟩
    · obtain rfl : k = n := by omega
      have hlt : ¬ (0 : Int) ≤ (k : Int) - 1 - k := by omega
      gi_wp2_with fail
      go_end0
      exact ⟨⟨_, rfl⟩, .inl ⟨pre, by rw [HV.out, List.take_of_length_le (by simp)], HJ.out⟩⟩

set_option maxRecDepth 100000 in
set_option maxHeartbeats 4000000 in
theorem weightsOf_any (g n : Nat) (P S E : List Int) (v : Value) (w : World) (h : PtsAt w g n n P S) (hg : g < w.heap.size) (ho : okAll P S n = true) (hn1 : 1 ≤ n) (hn : n ≤ 24) (hl : E.length = n) (hE : ∀ x : Nat, -1000 ≤ E[x]?.getD 0 ∧ E[x]?.getD 0 ≤ 1000) (hr : ReadI w w.heap.size v E) :
    Calls Try.prog 116 #[.slice (some ⟨g, 0, none⟩) n n, v] w (LAns w (wtL P S E n)) := by
  have HP := Lib.hid h
  have HO := Lib.hid ho
  have HR := Lib.hid hr
  have HE := Lib.hid hE
  have HL := Lib.hid hl
  clear h ho hr hE
  refine (callsIn_wide (n := 9)).1 ?_
  refine callsIn_of_wp_marks Try.func116 rfl trivial ?_ rfl
  simp only [Try.ntmps116, List.size_toArray, List.length_cons, List.length_nil, Nat.reduceAdd, Nat.reduceSub, Array.replicate_succ, Array.replicate_zero, List.push_toArray, List.append_toArray, List.nil_append, List.cons_append]
  gi_wp2_with fail
  refine ⟨trivial, ?_⟩
  gi_at_call 76
  refine (callsIn_wide.2 (clone_any v E w w.heap.size HR.out (by omega) (Nat.le_refl _))).mono ?_
  rintro e w1 ⟨v1, rfl, ho1, hb1⟩
  obtain ⟨A1, c1, rfl⟩ := ho1.form hl
  obtain ⟨d, rfl, hd1, hd2, _, _⟩ := own_at ho1 hl (show 0 < n by omega)
  have HO1 := Lib.hid ho1
  have HB1 := Lib.hid hb1
  have hz1 := hb1.size
  clear ho1 hb1
  gi_wp2_with fail
  have hBa : Below w1.heap.size w1 (w1.alloc (.cells #[.slice (some ⟨d, 0, none⟩) n c1] 22)) := (Below.refl _ _).alloc (Nat.le_refl _) _
  have HX2 := Lib.hid (Boxed.new w1 22 (.slice (some ⟨d, 0, none⟩) n c1))
  have hs2 : (w1.alloc (.cells #[.slice (some ⟨d, 0, none⟩) n c1] 22)).heap.size = w1.heap.size + 1 := by simp
  generalize w1.alloc (.cells #[.slice (some ⟨d, 0, none⟩) n c1] 22) = w2 at *
  have HP2 : Hid (PtsAt w2 g n n P S) := Lib.hid (rowIs_below (rowIs_below HP.out hg HB1.out) (by omega) hBa)
  have HBA := Lib.hid hBa
  clear hBa
  refine ⟨trivial, ?_⟩
  gi_at_call 114
  refine (callsIn_wide.2 (allProx_any g n P S w2 HP2.out (by omega) HO.out hn)).mono ?_
  rintro e w3 ⟨rfl, hq, hb3⟩
  have HM : Hid (RowsM w3 w2.heap.size w2.heap.size n P S) := Lib.hid (hq.mem HO.out (Nat.le_refl _))
  obtain ⟨uf, HU⟩ : ∃ uf : Nat → Value, Hid (∀ k, k < n → w3.cell? ⟨w2.heap.size, k, none⟩ = some (uf k)) := by
    obtain ⟨uf, ls, hs, hh⟩ := hq
    exact ⟨uf, Lib.hid fun k hk => hh.row.cell hk⟩
  have hz3 := hb3.size
  have HB3 := Lib.hid hb3
  rw [hs2] at HM HU
  clear hq hb3
  gi_wp2_with fail
  refine ⟨trivial, ?_⟩
  gi_at_call 142
  refine (callsIn_wide.2 (backward_any _ _ _ _)).mono ?_
  rintro e w' ⟨rfl, rfl⟩
  gi_wp2_with fail
  have HB4 : Hid (Below w3.heap.size w3 (w3.alloc (.cells #[.slice (some ⟨w1.heap.size + 1, 0, none⟩) n n] 40))) := Lib.hid ((Below.refl _ _).alloc (Nat.le_refl _) _)
  have bN := Boxed.new w3 40 (.slice (some ⟨w1.heap.size + 1, 0, none⟩) n n)
  have hs4 : (w3.alloc (.cells #[.slice (some ⟨w1.heap.size + 1, 0, none⟩) n n] 40)).heap.size = w3.heap.size + 1 := by simp
  generalize w3.alloc (.cells #[.slice (some ⟨w1.heap.size + 1, 0, none⟩) n n] 40) = w4 at *
  have bW : Boxed w4 w1.heap.size 22 (.slice (some ⟨d, 0, none⟩) n c1) := (HB4.out.block _ (by omega)).trans ((HB3.out.block _ (by omega)).trans HX2.out)
  have hrb : rb w1.heap.size w4 = some d := rb_boxed bW
  have cG : ∀ k, k < n → w4.cell? ⟨w1.heap.size + 1, k, none⟩ = some (uf k) := fun k hk => by rw [HB4.out.cell (p := ⟨w1.heap.size + 1, k, none⟩) (show (w1.heap.size + 1) < w3.heap.size by have := HM.out.lt; omega)]; exact HU.out k hk
  have sG : Safe w1.heap.size w4 (w1.heap.size + 1) := by
    obtain ⟨x, hx, hxc⟩ := cell_objC (cG 0 (by omega))
    exact ⟨by omega, by rw [hrb]; simp; omega, x, hx, hxc⟩
  have sB : Safe w1.heap.size w4 w3.heap.size := ⟨by omega, by rw [hrb]; simp; omega, _, bN, rfl⟩
  have HM4 : Hid (RowsM w4 (w1.heap.size + 1) (w1.heap.size + 1) n P S) := Lib.hid (HM.out.kept (Kept.of_below HB4.out (Nat.le_refl _)))
  have hk4 : OwnI w4 w.heap.size w1.heap.size (.slice (some ⟨d, 0, none⟩) n c1) (fnL (bwF P S (fun x => E[x]?.getD 0) []) n) := by
    rw [show bwF P S (fun x => E[x]?.getD 0) [] = fun x => E[x]?.getD 0 from rfl, fnL_self hl]
    exact ((HO1.out.stay HBA.out).kept (Kept.of_below HB3.out (by omega))).kept (Kept.of_below HB4.out (by omega))
  have hB4 : Below w.heap.size w w4 := HB1.out.trans ((HBA.out.mono hz1).trans ((HB3.out.mono (by omega)).trans (HB4.out.mono (by omega))))
  have HML := HM.out.lt
  clear HM HU HP2 HP HR HX2
  refine wpIn_rangeFunc_ownF rfl (by omega) (gf := 147) (lb := #[.pointer (some ⟨w3.heap.size, 0, none⟩)]) rfl trivial (enters_of Try.func147 (by kernel_rfl) rfl)
    (backIt_stops _ w1.heap.size w3.heap.size (w1.heap.size + 1) n uf w4 (by omega) hn (fun b e => by rw [hrb] at e; cases e; omega) (by omega) sB bN.cell sG cG) (fun h k => h.trans k) (kpB_b (by omega)) (Below.refl _ _) (fun _ => rfl)
    (fun pre W => Boxed W w1.heap.size 22 (.slice (some ⟨d, 0, none⟩) n c1) ∧ OwnI W w.heap.size w1.heap.size (.slice (some ⟨d, 0, none⟩) n c1) (fnL (bwF P S (fun x => E[x]?.getD 0) (vlB pre)) n) ∧ Kept (w1.heap.size + 1) w4.heap.size w4 W ∧ Below w.heap.size w W)
    (fun _ _ _ => False)
    (fun s X Y row hs hgr hrr => ⟨hs.1.kept hgr (fun e => by obtain ⟨_, o1, h1, h2⟩ := hrr _ e.symm; rw [show X.heap[w1.heap.size]? = _ from hs.1] at h1; cases h1; cases h2), hs.2.1.kept (from_kept hgr hrr (by omega) hs.2.1.2.2), hs.2.2.1.trans (from_kept hgr hrr (Nat.le_refl _) hs.2.2.1.size), (ownFrom_below (β := List (Bi n)) (w₀ := w) (n₀ := w.heap.size) (B := w4.heap.size) (Nat.le_refl _) (by omega)) s X Y row hs.2.2.2 hgr hrr⟩)
    (fun _ _ _ _ _ hs _ _ => hs)
    ⟨bW, hk4, Kept.refl _ _ _, hB4⟩ ?a1 ?assign ?body ?done ?stop
  case assign =>
    intro l x W K hK
    gi_wp2
    exact hK
  case body =>
    rintro l pre x W ⟨hbx, how, hkp, hb⟩ hlt
    obtain ⟨i, hin⟩ := x
    obtain ⟨A3, c3, hc30, hrow⟩ := HM4.out.row i hin
    have hu : uf i = .slice A3 (nrC P S i).length c3 := by have := (cG i hin).symm.trans hc30; exact Option.some.inj this
    have hb3 := fun x => bw_le (P := P) (S := S) (M := 1000) (by omega) (vlB pre) 0 (fun x => E[x]?.getD 0) (fun x => by have := HE.out x; show -(1000 * 1) ≤ _ ∧ _ ≤ 1000 * 1; omega) x
    have hvl : (vlB pre).length = pre.length := by simp [vlB]
    have HRT := Lib.hid hrow
    have hNb := nrC_len P S i
    have HLT := Lib.hid (nr_mem HO.out hin)
    have HSN := Lib.hid (bw_snoc P S (fun x => E[x]?.getD 0) (vlB pre) i)
    have HVS : Hid (vlB (pre ++ [⟨i, hin⟩]) = vlB pre ++ [i]) := Lib.hid (vlB_snoc pre ⟨i, hin⟩)
    obtain ⟨G, hG⟩ : ∃ G, bwF P S (fun x => E[x]?.getD 0) (vlB pre) = G := ⟨_, rfl⟩
    rw [hG] at how HSN
    simp only [hG, Nat.zero_add, hvl] at hb3
    have HGB : Hid (∀ j x, -282429536481000 ≤ stQ G ((nrC P S i).take j) (G i) x ∧ stQ G ((nrC P S i).take j) (G i) x ≤ 282429536481000) := Lib.hid fun j x => by
      have h1 := stQ_tri (P := P) (S := S) (k := i) (M := 1000) (by omega) hb3 (hb3 i) j x
      have h2 := tri_mono (show pre.length + 1 ≤ 24 by omega)
      rw [tri_24] at h2
      omega
    obtain ⟨N, hN⟩ : ∃ N, (nrC P S i).length = N := ⟨_, rfl⟩
    have HN := Lib.hid hN
    rw [hN] at hu HRT hNb
    have HHB := Lib.hid hbx
    have HW0 : Hid (OwnI W w.heap.size w1.heap.size (.slice (some ⟨d, 0, none⟩) n c1) (fnL (stQ G ((nrC P S i).take 0) (G i)) n)) := Lib.hid (by rw [List.take_zero, stQ_nil]; exact how)
    have HKP := Lib.hid hkp
    have HBB := Lib.hid hb
    have HKO := Lib.hid (KeepsOthers.refl W)
    have HKB := Lib.hid (KpB.refl w1.heap.size W)
    clear hG hN hrow hbx how hkp hb hb3 hc30 hvl
    dsimp only
    rw [hu]
    gi_wp2_with fail
    gi_loopw [19] (fun vi wr => ∃ (t : Nat), t ≤ N ∧ vi = .int .i64 t ∧ Hid (Boxed wr w1.heap.size 22 (.slice (some ⟨d, 0, none⟩) n c1)) ∧ Hid (OwnI wr w.heap.size w1.heap.size (.slice (some ⟨d, 0, none⟩) n c1) (fnL (stQ G ((nrC P S i).take t) (G i)) n)) ∧ Hid (Kept (w1.heap.size + 1) w4.heap.size w4 wr) ∧ Hid (Below w.heap.size w wr) ∧ Hid (KeepsOthers W wr) ∧ Hid (KpB w1.heap.size W wr)) (fun vi _ => N - (intOf vi).toNat)
    case atStart => exact ⟨0, by omega, rfl, HHB, HW0, HKP, HBB, HKO, HKB⟩
    case round =>
      obtain ⟨t, ht, rfl, hbx, how, hkp, hb, hko, hkb⟩ := hrel
      by_cases htN : t < N
      · obtain ⟨g3, j, rfl, hlo3, hg3, hj, hji, hcj⟩ := HRT.out t htN
        have dj := (kept_cell (o := t) hkp.out hlo3 hg3).trans hcj
        obtain ⟨d', ed, _, _, hcd, hfd⟩ := own_at how.out (fnL_len _ _) (show j < n by omega)
        cases ed
        obtain ⟨_, ed, _, _, hci, _⟩ := own_at how.out (fnL_len _ _) hin
        cases ed
        rw [fnL_at (show j < n by omega)] at hcd
        rw [fnL_at hin, stQ_off (fun z hz => by have := HLT.out z (List.mem_of_mem_take hz); omega)] at hci
        have hxs := HGB.out t j
        have hgs := HGB.out 0 i
        rw [List.take_zero, stQ_nil] at hgs
        have HST : Hid (stQ G ((nrC P S i).take (t + 1)) (G i) = updF (stQ G ((nrC P S i).take t) (G i)) j (G i)) := Lib.hid (stQ_take hj)
        have cb := hbx.out.cell
        have hjn2 : (j : Int) < (n : Int) := by omega
        have hin2 : (i : Int) < (n : Int) := by omega
        have htN2 : (t : Int) < (N : Int) := by omega
        obtain ⟨X, hX⟩ : ∃ X, stQ G ((nrC P S i).take t) (G i) = X := ⟨_, rfl⟩
        rw [hX] at hcd hxs HST how
        obtain ⟨y, hy⟩ : ∃ y, X j = y := ⟨_, rfl⟩
        obtain ⟨z, hz⟩ : ∃ z, G i = z := ⟨_, rfl⟩
        rw [hy] at hcd hxs
        rw [hz] at HST hci hgs
        have HZ := Lib.hid hz
        have HNW : Hid (OwnI (wr.drew.setCell ⟨d, j, none⟩ (.int .i64 (y + z))) w.heap.size w1.heap.size (.slice (some ⟨d, 0, none⟩) n c1) (fnL (updF X j z) n)) := Lib.hid (by
          have h6 := own_store (w := wr.drew) (j := j) how.out (fnL_len X n) (y + z)
          rw [show y + z = X j + z by rw [hy]] at h6 ⊢
          rw [fnL_set z (by omega)] at h6
          exact h6)
        have HKW : Hid (Kept (w1.heap.size + 1) w4.heap.size w4 (wr.drew.setCell ⟨d, j, none⟩ (.int .i64 (y + z)))) := Lib.hid ((hkp.out.trans (Kept.drewN _ _ wr 1)).trans (keptS wr.drew (p := ⟨d, j, none⟩) (show d < (w1.heap.size + 1) by omega) _))
        have HBW : Hid (Below w.heap.size w (wr.drew.setCell ⟨d, j, none⟩ (.int .i64 (y + z)))) := Lib.hid (hb.out.drew.setCell (p := ⟨d, j, none⟩) hd1 _)
        have HXW : Hid (Boxed (wr.drew.setCell ⟨d, j, none⟩ (.int .i64 (y + z))) w1.heap.size 22 (.slice (some ⟨d, 0, none⟩) n c1)) := Lib.hid ((Below.heap_setCell _ _ _ _ (show w1.heap.size ≠ d by omega)).trans hbx.out)
        have HKOW : Hid (KeepsOthers W (wr.drew.setCell ⟨d, j, none⟩ (.int .i64 (y + z)))) := Lib.hid ((hko.out.trans (KeepsOthers.drew wr)).trans (KeepsOthers.setCell _ _ _))
        have HKBW : Hid (KpB w1.heap.size W (wr.drew.setCell ⟨d, j, none⟩ (.int .i64 (y + z)))) := Lib.hid ((hkb.out.trans (drew_kp _ _)).trans (KpB.setRow (show rb w1.heap.size wr.drew = some d from rb_boxed hbx.out) (by omega) _))
        have p1 : IntKind.i64.wrap (y + z) = y + z := IntWalk.i64_in _ (by omega)
        clear hX hy hz how hj hcj
        gi_wp2_with fail
        refine wpIn_region_any (by kernel_rfl) (wpAnyIn_plain ?_ ?_ _ _ _ _ (wpAny_tailC 10 (by kernel_rfl) ?_))
        · intro o ho c hc
          simp only [List.mem_toArray, List.mem_cons, List.not_mem_nil, or_false] at ho
          rcases ho with rfl | rfl | rfl | rfl | rfl | rfl | rfl | rfl | rfl | rfl | rfl <;> cases hc
        · rintro ⟨_, _, h⟩
          exact h
        simp only [List.take_succ_cons, List.take_zero, List.drop_succ_cons, List.drop_zero]
        repeat still_step
        try refine wpStill_nil ?_
        go_wp2_with fail
        gi_wp2_with fail
        go_roundw
        case rel => exact ⟨t + 1, by omega, by go_num, HXW, Lib.hid (by rw [HZ.out, HST.out]; exact HNW.out), HKW, HBW, HKOW, HKBW⟩
        case measure => (simp [intOf] <;> omega)
      · obtain rfl : t = N := by omega
        have htt : ¬ (t : Int) < (t : Int) := by omega
        have HWN : Hid (OwnI wr w.heap.size w1.heap.size (.slice (some ⟨d, 0, none⟩) n c1) (fnL (bwF P S (fun x => E[x]?.getD 0) (vlB (pre ++ [⟨i, hin⟩]))) n)) := Lib.hid (by
          have h6 := how.out
          rw [List.take_of_length_le (by rw [HN.out]; exact Nat.le_refl _)] at h6
          rw [HVS.out, HSN.out]; exact h6)
        gi_wp2_with fail
        exact ⟨hko.out, hkb.out, hbx.out, HWN.out, (by first | exact hkp.out | (rw [← hs4]; exact hkp.out)), hb.out⟩
  case done =>
    rintro D xs W hD hxs ⟨hbx, how, hkp, hb⟩ hK
    have hc := hbx.cell
    have HX : Hid (OwnI W w.heap.size w1.heap.size (.slice (some ⟨d, 0, none⟩) n c1) (wtL P S E n)) := Lib.hid (by
      rw [hxs, bw_dwn] at how; exact how)
    gi_wp2
    refine ⟨by simp, .inl ⟨_, _, rfl, run_takeDeferred hK, ?_⟩⟩
    refine ⟨.slice (some ⟨d, 0, none⟩) n c1, by simp [results, Try.f116, go_sem], ?_⟩
    have hBD := belowK_b (w := w4) (Nat.le_refl _) W D _ (.deferred none) hD hK rfl rfl
    exact LAns.of (wtL_len _ _ _ _) ((HX.out.kept (Kept.of_below hBD (by omega))).raise (by have := hkp.size; have := hBD.size; omega) (Nat.le_refl _)) (hb.trans (hBD.mono (by omega)))
  case stop =>
    rintro D c pre W _ _ h _
    exact h.elim

end Go.Proofs.Ytjobfjgphcaoeaa
