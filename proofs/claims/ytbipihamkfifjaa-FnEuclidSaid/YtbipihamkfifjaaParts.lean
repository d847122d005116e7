/- Drawn lists: contract of spec.l01Parts. Conditions: stated at each theorem. -/
import Derived.Test.YtbipihamkfifjaaDraw
import Derived.OwnWalk
import Derived.Maps.AppendAt
import Derived.Deep.AppendLies
namespace Go.Proofs.Ytbipihamkfifjaa
open Go.ChangeShapes Go.WideShapes Go.ChangeAt Go.RowKit
set_option linter.unusedVariables false

theorem ownForm {w : World} {base n : Nat} {v : Value} {xs : List Value} (h : Own w base v n xs) : ∃ A c, v = .slice A n c := by
  rcases h.2 with ⟨rfl, rfl⟩ | ⟨g, cap, cur, rfl, _⟩
  · exact ⟨none, 0, rfl⟩
  · exact ⟨_, _, rfl⟩
theorem SrcOK.kept {w w' : World} {B g n : Nat} {row : Option Nat} (h : SrcOK w B g n) (hg : w.grownBy w' row) (hr : ∀ k, row = some k → g < k) : SrcOK w' B g n := by
  have hlt := h.lt
  obtain ⟨A, c, i, y, hs, hi, hy, hb, hB, hn⟩ := h
  refine ⟨A, c, i, y, World.rowIs.of_block hs (hg.block g hlt (fun e => by have := hr g e.symm; omega)), hi, hy, hb.below ?_, hB, hn⟩
  exact ⟨hg.os, hg.tape, hg.output, hg.size, fun k hk => hg.block k (by omega) (fun e => by have := hr k e.symm; omega)⟩
theorem grown_app {w wr w1 : World} {row1 row2 : Option Nat} (h : w.grownBy wr row1) (hg : wr.grownBy w1 row2) (hr : ∀ k, row2 = some k → w.heap.size ≤ k) : w.grownBy w1 row1 :=
  ⟨hg.os.trans h.os, hg.tape.trans h.tape, hg.output.trans h.output, Nat.le_trans h.size hg.size, fun k hk hne => (hg.block k (Nat.lt_of_lt_of_le hk h.size) (fun e => by have := hr k e.symm; omega)).trans (h.block k hk hne)⟩
/-- A row of the call's own stays while only the source changes. -/
theorem own_src {w w' : World} {base m g : Nat} {v : Value} {xs : List Value} (h : Own w base v m xs) (hg : w.grownBy w' (some g)) (hlt : g < base) : Own w' base v m xs :=
  h.kept hg (by
    cases e : v.ownBlock with
    | none => exact .inl rfl
    | some k => refine .inr (fun e' => ?_); have := (h.lt k e).1; cases e'; omega)
theorem own7 {w w5 w6 w7 : World} {base m g : Nat} {v : Value} {xs : List Value} (h : Own w base v m xs) (h5 : w.grownBy w5 (some g)) (h6 : w5.grownBy w6 (some g)) {o : Obj} (h7 : (w6.alloc o).grownBy w7 (some g)) (hlt : g < base) (_ : Unit) : Own w7 base v m xs :=
  own_src ((own_src (own_src h h5 hlt) h6 hlt).kept (World.grownBy_alloc w6 o none) (by cases v.ownBlock <;> simp)) h7 hlt
def InR (zs : List Int) : Prop := ∀ z ∈ zs, -1000000000 ≤ z ∧ z ≤ 1000000001
theorem at_own {w : World} {base m c g i : Nat} {zs : List Int} (h : Own w base (.slice (some ⟨g, 0, none⟩) m c) m (zs.map (.int .i64))) (hl : zs.length = m) (hi : i < m) : w.cell? ⟨g, i, none⟩ = some (.int .i64 (zs.getD i 0)) := by
  have h1 := World.ownsRow.cellAt h i (by omega)
  rw [h1]
  have hk : i < zs.length := by omega
  simp [hk]
def PartsPost (w : World) (B g n : Nat) (e : Ending) (w' : World) : Prop :=
  ∃ A c zs, e = .returned (.slice A zs.length c) ∧ Own w' w.heap.size (.slice A zs.length c) zs.length (zs.map (.int .i64)) ∧ InR zs ∧ zs.length ≤ 65 ∧ SrcOK w' B g n ∧ w.grownBy w' (some g)
theorem PartsPost.mk' {w w' : World} {B g n m c : Nat} {A : Option Addr} {zs : List Int} (h1 : zs.length = m) (h2 : Own w' w.heap.size (.slice A m c) m (zs.map (.int .i64))) (h3 : InR zs) (h4 : m ≤ 65) (h5 : SrcOK w' B g n) (h6 : w.grownBy w' (some g)) : PartsPost w B g n (.returned (.slice A m c)) w' := by
  subst h1; exact ⟨A, c, zs, rfl, h2, h3, h4, h5, h6⟩
set_option maxRecDepth 100000 in
set_option maxHeartbeats 1600000 in
theorem l01Parts_any (B g n : Nat) (l : Int) (w : World) (hs : SrcOK w B g n) (hl : 1 ≤ l ∧ l ≤ 1000) :
    Calls Try.prog 71 #[.pointer (some ⟨g, 0, none⟩), .int .i64 l] w (PartsPost w B g n) := by
  have hgw := hs.lt
  have HS0 := Lib.hid (hs.alloc (.cells #[] 2))
  clear hs
  obtain ⟨i0, hi0, hz0, hz1, hz2⟩ := info_parts int_info
  go_enter Try.func71, Try.ntmps71
  go_wp2_with (first
    | (go_at_call 69; (with_reducible refine (l01Next_any B g n 5 _ ?_ ?_).mono ?_); (exact HS0.out); (omega); rintro e w1 ⟨y1, rfl, hx1, hy1, hs1, hg1⟩; have HS1 := Lib.hid hs1; have HG1 := Lib.hid hg1; clear hs1 hg1)
    | (go_at_call 69; (with_reducible refine (l01Next_any B g n 8 _ ?_ ?_).mono ?_); (exact HS1.out); (omega); rintro e w2 ⟨y2, rfl, hx2, hy2, hs2, hg2⟩; have HS2 := Lib.hid hs2; have HG2 := Lib.hid hg2; clear hs2 hg2)
    | (go_at_call 85; refine (l01Pick_any B g n _ 5 _ [1 + y1, 1 + y2, 64, 65, 0] _ ?_ ?_ ?_ ?_).mono ?_; (exact HS2.out.alloc _); (exact newRI w2 [1 + y1, 1 + y2, 64, 65, 0] (by simp)); (intro a ha; cases ha; have := HS2.out.lt; simp; omega); (omega); rintro e w3 ⟨x3, rfl, hm3, hs3, hg3⟩; have HS3 := Lib.hid hs3; have HG3 := Lib.hid hg3; (have hb3 : 0 ≤ x3 ∧ x3 ≤ 65 := (by simp at hm3; omega)); clear hs3 hg3 hm3))
  have HO0 : Own (w.alloc (.cells #[] 2)) w.heap.size (.slice (some ⟨w.heap.size, 0, none⟩) 0 0) 0 (([] : List Int).map (.int .i64)) := World.ownsRow_lit w #[] 0 (Nat.le_refl _) (by simp [maxLen]) rfl
  have HO3 := Lib.hid (own_src (Own.kept (own_src (own_src HO0 HG1.out hgw) HG2.out hgw) (World.grownBy_alloc w2 (.cells (List.map (Value.int .i64) [1 + y1, 1 + y2, 64, 65, 0]).toArray 2) none) (by simp [Value.ownBlock])) HG3.out hgw)
  have HG := Lib.hid (grown_trans (grown_alloc (grown_trans (grown_trans (World.grownBy_alloc w (.cells #[] 2) (some g)) HG1.out) HG2.out) (.cells (List.map (Value.int .i64) [1 + y1, 1 + y2, 64, 65, 0]).toArray 2)) HG3.out)
  clear HO0
  go_loopw [5, 6] (fun vo vk wr => ∃ (A : Option Addr) (j c : Nat) (zs : List Int) (k : Int), (0 ≤ k ∧ (j : Int) + k ≤ 65) ∧ Hid (zs.length = j) ∧ Hid (InR zs) ∧ vo = .slice A j c ∧ vk = .int .i64 k ∧ Hid (Own wr w.heap.size (.slice A j c) j (zs.map (.int .i64))) ∧ Hid (SrcOK wr B g n) ∧ Hid (w.grownBy wr (some g))) (fun _ vk _ => (intOf vk).toNat)
  case atStart => exact ⟨_, 0, 0, [], x3, by omega, Lib.hid rfl, Lib.hid (by intro z hz; cases hz), rfl, rfl, HO3, HS3, HG⟩
  case round =>
    obtain ⟨A, j, c, zs, k, hk, hlz, hin, rfl, rfl, ho, hsr, hgr⟩ := hrel
    by_cases hk0 : 0 < k
    · go_wp2_with (first
        | (go_at_call 69; (with_reducible refine (l01Next_any B g n 3 _ ?_ ?_).mono ?_); (exact hsr.out); (omega); rintro e w5 ⟨y5, rfl, hx5, hy5, hs5, hg5⟩; have HS5 := Lib.hid hs5; have HG5 := Lib.hid hg5; clear hs5 hg5)
        | (go_at_call 69; (with_reducible refine (l01Next_any B g n 12 _ ?_ ?_).mono ?_); (exact HS5.out); (omega); rintro e w6 ⟨y6, rfl, hx6, hy6, hs6, hg6⟩; have HS6 := Lib.hid hs6; have HG6 := Lib.hid hg6; clear hs6 hg6)
        | (go_at_call 85; refine (l01Pick_any B g n _ 4 _ [0, 0, y5, y6] _ ?_ ?_ ?_ ?_).mono ?_; (exact HS6.out.alloc _); (exact newRI w6 [0, 0, y5, y6] (by simp)); (intro a ha; cases ha; have := HS6.out.lt; simp; omega); (omega); rintro e w7 ⟨x7, rfl, hm7, hs7, hg7⟩; have HS7 := Lib.hid hs7; have HG7 := Lib.hid hg7; (have hb7 : 0 ≤ x7 ∧ x7 ≤ 11 := (by simp at hm7; omega)); clear hs7 hg7 hm7)
        | (at_builtin; refine wpList_append_own _ rfl _ _ 29 rfl w.heap.size 2 i0 (.int .i64 0) 1 8 Try.underlying29 hi0 hz0 hz1 hz2 rfl ?_ _ j (zs.map (.int .i64)) rfl (World.ownsRow.alloc (own7 ho.out HG5.out HG6.out HG7.out hgw ()) _) ⟨w7.heap.size, 0, none⟩ 1 1 [.int .i64 (l + x7)] rfl rfl ?_ ?_ ?_ ?_ ?_ ?_; (decide); (exact World.news_of_block (cs := #[.int .i64 (l + x7)]) (t := 2) (fr := (0, 0)) (heap_alloc_new w7 _)); (simp [Value.oneCell']); (simp [maxLen]; omega); (omega); (have h1 := hgr.out.size; have h2 := HG5.out.size; have h3 := HG6.out.size; have h4 := (grown_alloc (World.grownBy.refl w6 (some g)) (.cells (List.map (Value.int .i64) [0, 0, y5, y6]).toArray 2)).size; have h5 := HG7.out.size; simp at h4 h5 ⊢; omega); intro v8 w8 hown8 hgrow8 _; obtain ⟨A8, c8, rfl⟩ := ownForm hown8; have HO8 : Hid (Own w8 w.heap.size (.slice A8 (j + 1) c8) (j + 1) ((zs ++ [l + x7]).map (.int .i64))) := Lib.hid (by rw [List.map_append]; exact hown8); have H8 := Lib.hid hgrow8; clear hown8 hgrow8))
      have row8 : ∀ k, (Value.slice A j c).ownBlock = some k → w.heap.size ≤ k := fun k hk => (Own.lt ho.out k hk).1
      have G7 : w.grownBy w7 (some g) := grown_trans (grown_alloc (grown_trans (grown_trans hgr.out HG5.out) HG6.out) (.cells (List.map (Value.int .i64) [0, 0, y5, y6]).toArray 2)) HG7.out
      go_roundw
      case rel =>
        refine ⟨A8, j + 1, c8, zs ++ [l + x7], k - 1, by omega, Lib.hid (by simp [hlz.out]), Lib.hid ?_, rfl, rfl, HO8, Lib.hid ?_, Lib.hid ?_⟩
        · intro z hz
          rcases List.mem_append.1 hz with h | h
          · exact hin.out z h
          · have : z = l + x7 := by simpa using h
            omega
        · exact (HS7.out.alloc (.cells #[.int .i64 (l + x7)] 2)).kept H8.out (fun k hk => by have := row8 k hk; omega)
        · exact grown_app (grown_alloc G7 (.cells #[.int .i64 (l + x7)] 2)) H8.out row8
      case measure => simp [intOf]; omega
    · obtain rfl : k = 0 := by omega
      by_cases hj : 0 < j
      · obtain ⟨go, rfl⟩ : ∃ go : Nat, A = some ⟨go, 0, none⟩ := by
          rcases ho.out.2 with ⟨_, e0⟩ | ⟨go, cap, cur, e, _⟩
          · omega
          · simp only [Value.slice.injEq] at e
            exact ⟨go, e.1⟩
        have hjj : (0 : Int) < (j : Int) := by omega
        go_wp2_with (first
          | (go_at_call 69; (with_reducible refine (l01Next_any B g n 20 _ ?_ ?_).mono ?_); (exact hsr.out); (omega); rintro e w11 ⟨y11, rfl, hx11, hy11, hs11, hg11⟩; have HS11 := Lib.hid hs11; have HG11 := Lib.hid hg11; clear hs11 hg11)
          | (go_at_call 69; (with_reducible refine (l01Next_any B g n (j : Int) _ ?_ ?_).mono ?_); (exact HS11.out); (omega); rintro e w12 ⟨y12, rfl, hx12, hy12, hs12, hg12⟩; obtain ⟨i, rfl⟩ := Int.eq_ofNat_of_zero_le hx12; have HS12 := Lib.hid hs12; have HG12 := Lib.hid hg12; clear hs12 hg12)
          | (go_at_call 85; refine (l01Pick_any B g n _ 5 _ [0, -1, l - 1, 1000000000, 1000000001] _ ?_ ?_ ?_ ?_).mono ?_; (exact HS12.out.alloc _); (exact newRI w12 [0, -1, l - 1, 1000000000, 1000000001] (by simp)); (intro a ha; cases ha; have := HS12.out.lt; simp; omega); (omega); rintro e w13 ⟨x13, rfl, hm13, hs13, hg13⟩; have HS13 := Lib.hid hs13; have HG13 := Lib.hid hg13; (have hb13 : -1000000000 ≤ x13 ∧ x13 ≤ 1000000001 := (by simp at hm13; omega)); have O13 := Lib.hid (own7 ho.out HG11.out HG12.out hg13 hgw ()); (have hij : i < j := (by omega)); have hc13 := at_own O13.out hlz.out hij; have hf13 := World.ownsRow.frozenAt O13.out i; clear hs13 hg13 hm13))
        all_goals go_ret
        · refine PartsPost.mk' (zs := zs.set i x13) (by rw [List.length_set]; exact hlz.out) ?_ ?_ (by omega) ?_ ?_
          · have := (World.ownsRow.stored O13.out i (.int .i64 x13)).1
            rw [List.map_set]
            exact this
          · intro z hz
            rcases List.mem_or_eq_of_mem_set hz with h | h
            · exact hin.out z h
            · omega
          · exact HS13.out.kept (grown_setCell (World.grownBy.refl _ _) rfl _) (fun k hk => by have h1 := (Own.lt ho.out go rfl).1; have h2 : go = k := (by simpa using hk); omega)
          · exact grown_app (grown_trans (grown_alloc (grown_trans (grown_trans hgr.out HG11.out) HG12.out) (.cells (List.map (Value.int .i64) [0, -1, l - 1, 1000000000, 1000000001]).toArray 2)) HG13.out) (grown_setCell (World.grownBy.refl _ _) rfl _) (fun k hk => by cases hk; exact (Own.lt ho.out go rfl).1)
        · exact PartsPost.mk' hlz.out (own_src ho.out HG11.out hgw) hin.out (by omega) HS11.out (grown_trans hgr.out HG11.out)
      · obtain rfl : j = 0 := by omega
        go_wp2
        go_ret
        exact PartsPost.mk' hlz.out ho.out hin.out (by omega) hsr.out hgr.out
end Go.Proofs.Ytbipihamkfifjaa
