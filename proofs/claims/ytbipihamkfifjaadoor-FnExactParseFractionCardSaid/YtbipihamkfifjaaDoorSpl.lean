/- The model's splitting of a text: contract of l01Split. Conditions: stated at each theorem. -/
import Derived.Test.YtbipihamkfifjaaDoorSplM
import Derived.Test.YtbipihamkfifjaaDoorPfD
import Derived.OwnWalk
import Derived.Maps.AppendAt
import Derived.Deep.AppendLies
import Derived.Laws.AppendOwn
namespace Go.Proofs.YtbipihamkfifjaaDoor
open Go.ChangeShapes Go.WideShapes Go.ChangeAt Go.RowKit
set_option linter.unusedVariables false

/-- A []string of the call's own. -/
def OwnT (w : World) (base : Nat) (v : Value) (n : Nat) (xs : List Value) : Prop := w.ownsRow base 9 1 v n xs
theorem OwnT.form {w : World} {base n : Nat} {v : Value} {xs : List Value} (h : OwnT w base v n xs) : ∃ A c, v = .slice A n c := by
  obtain ⟨h1, h2⟩ := h
  rcases h2 with ⟨rfl, rfl, rfl⟩ | ⟨g, k, cs, rfl, _⟩
  · exact ⟨_, _, rfl⟩
  · exact ⟨_, _, rfl⟩
def strV (l : List UInt8) : Value := .string ⟨l.toArray⟩
theorem str_info : (Tryd.prog.info? 9).map (fun i => (i.zero, i.size, i.bytes)) = some (some (.string ⟨#[]⟩), 1, 16) := by kernel_rfl
theorem strV_ext (s : ByteArray) (j k : Nat) : Value.string (s.extract j k) = strV ((s.data.toList.drop j).take (k - j)) := by rw [Lib.extract_eq]; rfl
theorem cur_snoc (s : ByteArray) (j k : Nat) (hj : j ≤ k) (h : k < s.size) : (s.data.toList.drop j).take (k + 1 - j) = (s.data.toList.drop j).take (k - j) ++ [s[k]] := by
  rw [show k + 1 - j = k - j + 1 by omega, List.take_succ_eq_append_getElem (by simp; omega)]
  simp only [List.getElem_drop, List.append_cancel_left_eq, List.cons.injEq, and_true]
  rw [show s[k] = s.data.toList[k]'(by simpa using h) from rfl]
  congr 1; omega
theorem drop_at (s : ByteArray) (k : Nat) (h : k < s.size) : s.data.toList.drop k = s[k] :: s.data.toList.drop (k + 1) := by
  rw [List.drop_eq_getElem_cons (by simpa using h)]; rfl
/-- What the splitting answers. -/
def SplAns (w : World) (L : List (List UInt8)) : Ending → World → Prop := fun e w' => ∃ A c, e = .returned (.slice A L.length c) ∧ OwnT w' w.heap.size (.slice A L.length c) L.length (L.map strV) ∧ Below w.heap.size w w'
theorem SplAns.mk {w w' : World} {L M : List (List UInt8)} {n c : Nat} {A : Option Addr} (hL : L = M) (hn : M.length = n) (ho : OwnT w' w.heap.size (.slice A n c) n (M.map strV)) (hb : Below w.heap.size w w') : SplAns w L (.returned (.slice A n c)) w' := by
  subst hL; subst hn; exact ⟨A, c, rfl, ho, hb⟩

set_option maxRecDepth 100000 in
set_option maxHeartbeats 1000000 in
theorem l01Split_any (s : ByteArray) (x : UInt8) (y : Int) (hy : y = (x.toNat : Int)) (w : World) (hs : s.size ≤ 1048576) :
    Calls Tryd.prog 61 #[.string s, .int .u8 y] w (SplAns w (spl x [] s.data.toList)) := by
  subst hy
  obtain ⟨i0, hi0, hz0, hz1, hz2⟩ := info_parts str_info
  go_enter Tryd.func61, Tryd.ntmps61
  go_wp2
  have HO : Hid (OwnT (w.alloc (.cells #[] 9)) w.heap.size (.slice (some ⟨w.heap.size, 0, none⟩) 0 0) 0 (([] : List (List UInt8)).map strV)) := Lib.hid (World.ownsRow_lit w #[] 0 (Nat.le_refl _) (by simp [maxLen]) rfl)
  have hB0 : Below w.heap.size w (w.alloc (.cells #[] 9)) := (Below.refl _ _).alloc (Nat.le_refl _) _
  go_loopw [5, 6, 7] (fun vo va vi wr => ∃ (k j n : Nat) (D : List (List UInt8)) (A : Option Addr) (c : Nat), k ≤ s.size ∧ j ≤ k ∧ n ≤ k ∧ Hid (D.length = n) ∧ vo = .slice A n c ∧ va = .int .i64 j ∧ vi = .int .i64 k ∧ Hid (spl x [] s.data.toList = D ++ spl x ((s.data.toList.drop j).take (k - j)) (s.data.toList.drop k)) ∧ Hid (OwnT wr w.heap.size (.slice A n c) n (D.map strV)) ∧ Below w.heap.size w wr) (fun _ _ vi _ => s.size - (intOf vi).toNat)
  case atStart => exact ⟨0, 0, 0, [], _, _, by omega, by omega, by omega, Lib.hid rfl, rfl, rfl, rfl, Lib.hid (by simp), HO, hB0⟩
  case round =>
    obtain ⟨k, j, n, D, A, c, hk, hj, hn, hD, rfl, rfl, rfl, hg, ho, hb⟩ := hrel
    by_cases hlt : k < s.size
    · by_cases hx : s[k] = x
      · have T : ((s[k].toNat : Int) == (x.toNat : Int)) = true := by rw [hx]; simp
        have G : Hid (spl x [] s.data.toList = (D ++ [(s.data.toList.drop j).take (k - j)]) ++ spl x ((s.data.toList.drop (k + 1)).take (k + 1 - (k + 1))) (s.data.toList.drop (k + 1))) := Lib.hid (by
          rw [hg.out, drop_at s k hlt, spl_cons, if_pos hx]; simp)
        clear hx hg
        go_wp2_with (at_builtin; refine wpList_append_own _ rfl _ _ 77 rfl w.heap.size 9 i0 (.string ⟨#[]⟩) 1 16 Tryd.underlying77 hi0 hz0 hz1 hz2 rfl ?_ _ n (D.map strV) rfl (World.ownsRow.alloc ho.out _) ⟨wr.heap.size, 0, none⟩ 1 1 [.string (s.extract j k)] rfl rfl ?_ ?_ ?_ ?_ ?_ ?_; (decide); (exact World.news_of_block (cs := #[.string (s.extract j k)]) (t := 9) (fr := (0, 0)) (heap_alloc_new wr _)); (simp [Value.oneCell']); (simp [maxLen]; omega); (omega); (have := hb.size; simp; omega); intro v1 w1 hown1 hgrow _; obtain ⟨A1, c1, rfl⟩ := OwnT.form hown1; have HO1 : Hid (OwnT w1 w.heap.size (.slice A1 (n + 1) c1) (n + 1) ((D ++ [(s.data.toList.drop j).take (k - j)]).map strV)) := Lib.hid (by rw [List.map_append, List.map_cons, List.map_nil, ← strV_ext]; exact hown1); have hb1 : Below w.heap.size w w1 := (hb.alloc hb.size _).grown hgrow (by have := hb.size; simp; omega) (fun k hk => (World.ownsRow.lt ho.out k hk).1); clear hown1 hgrow)
        go_roundw
        case rel => exact ⟨k + 1, k + 1, n + 1, _, A1, c1, by omega, by omega, by omega, Lib.hid (by simp [hD.out]), rfl, by go_num, by go_num, G, HO1, hb1⟩
        case measure => simp [intOf]; omega
      · have T : ((s[k].toNat : Int) == (x.toNat : Int)) = false := by
          apply beq_false_of_ne; intro e; exact hx (UInt8.toNat_inj.1 (by omega))
        have G : Hid (spl x [] s.data.toList = D ++ spl x ((s.data.toList.drop j).take (k + 1 - j)) (s.data.toList.drop (k + 1))) := Lib.hid (by
          rw [hg.out, drop_at s k hlt, spl_cons, if_neg hx, cur_snoc s j k hj hlt])
        clear hx hg
        go_wp2
        go_roundw
        case rel => exact ⟨k + 1, j, n, D, A, c, by omega, by omega, by omega, hD, rfl, rfl, by go_num, G, ho, hb⟩
        case measure => simp [intOf]; omega
    · obtain rfl : k = s.size := by omega
      have G : Hid (spl x [] s.data.toList = D ++ [(s.data.toList.drop j).take (s.size - j)]) := Lib.hid (by
        rw [hg.out, show s.data.toList.drop s.size = [] from List.drop_of_length_le (by simp), spl_nil])
      clear hg
      go_wp2_with (at_builtin; refine wpList_append_own _ rfl _ _ 77 rfl w.heap.size 9 i0 (.string ⟨#[]⟩) 1 16 Tryd.underlying77 hi0 hz0 hz1 hz2 rfl ?_ _ n (D.map strV) rfl (World.ownsRow.alloc ho.out _) ⟨wr.heap.size, 0, none⟩ 1 1 [.string (s.extract j s.size)] rfl rfl ?_ ?_ ?_ ?_ ?_ ?_; (decide); (exact World.news_of_block (cs := #[.string (s.extract j s.size)]) (t := 9) (fr := (0, 0)) (heap_alloc_new wr _)); (simp [Value.oneCell']); (simp [maxLen]; omega); (omega); (have := hb.size; simp; omega); intro v1 w1 hown1 hgrow _; obtain ⟨A1, c1, rfl⟩ := OwnT.form hown1; have HO1 : Hid (OwnT w1 w.heap.size (.slice A1 (n + 1) c1) (n + 1) ((D ++ [(s.data.toList.drop j).take (s.size - j)]).map strV)) := Lib.hid (by rw [List.map_append, List.map_cons, List.map_nil, ← strV_ext]; exact hown1); have hb1 : Below w.heap.size w w1 := (hb.alloc hb.size _).grown hgrow (by have := hb.size; simp; omega) (fun k hk => (World.ownsRow.lt ho.out k hk).1); clear hown1 hgrow)
      go_ret
      exact SplAns.mk G.out (by simp [hD.out]) HO1.out hb1
end Go.Proofs.YtbipihamkfifjaaDoor
