/- The program's text of a polynomial: contract of impl.textOfPolynomial. Conditions: stated at the theorem. -/
import Derived.Test.YtbipihamkfifjabDoorTerm
import Derived.Test.YtbipihamkfifjabDoorBuild
import Derived.Test.YtbipihamkfifjabDoorPolyIs
namespace Go.Proofs.YtbipihamkfifjabDoor
open Go.ChangeShapes Go.WideShapes Go.ChangeAt Go.RowKit
set_option linter.unusedVariables false

/-- A builder at block b, of the call's own from B on, that holds the bytes l. -/
def Bld (B b : Nat) (l : List UInt8) (w : World) : Prop := Lib.IsBuilder 43 5 B b (Lib.byteCells l) w
theorem Bld.new (w : World) : Bld w.heap.size w.heap.size [] (w.alloc (.cells #[.pointer none, .slice none 0 0] 43)) := Lib.fresh_isBuilder _ _ w
theorem bldAt_below {B b : Nat} {p : Value} {bs : List Value} {w w' : World} (h : Lib.BuilderAt 43 5 B b p bs w) (hb : Below w.heap.size w w') : Lib.BuilderAt 43 5 B b p bs w' := by
  have hlt := h.lt
  obtain ⟨hB, v, hbk, hown, hne⟩ := h
  exact ⟨hB, v, by rw [hb.block _ hlt]; exact hbk, World.ownsRow.kept hown (grown_of_below hb none) (by cases v.ownBlock <;> simp), hne⟩
theorem Bld.below {B b : Nat} {l : List UInt8} {w w' : World} (h : Bld B b l w) (hb : Below w.heap.size w w') : Bld B b l w' := by
  rcases h with h | h
  · exact Or.inl (bldAt_below h hb)
  · exact Or.inr (bldAt_below h hb)
theorem Bld.drewN {B b : Nat} {l : List UInt8} {w : World} (h : Bld B b l w) (n : Nat) : Bld B b l (w.drewN n) := by
  exact h.below (below_drewN (Below.refl _ _) n)
theorem cells_app (l m : List UInt8) : Lib.byteCells l ++ Lib.byteCells m = Lib.byteCells (l ++ m) := by simp [Lib.byteCells]
theorem bLen (B b : Nat) (l : List UInt8) (w : World) (h : Bld B b l w) :
    Calls Tryd.prog 24 #[.pointer (some ⟨b, 0, none⟩)] w fun e w' => e = .returned (.int .i64 l.length) ∧ w' = w := by
  have := Tryd.Builder_Len B b _ w h
  rw [Lib.byteCells_length] at this; exact this
theorem bByte (B b : Nat) (l : List UInt8) (c : UInt8) (y : Int) (hy : y = (c.toNat : Int)) (w : World) (h : Bld B b l w) (hl : l.length ≤ 1000000) (hB : B ≤ w.heap.size) :
    Calls Tryd.prog 25 #[.pointer (some ⟨b, 0, none⟩), .int .u8 y] w fun e w' => e = .returned .nilIface ∧ Bld B b (l ++ [c]) w' ∧ Below B w w' := by
  subst hy
  refine (writeByte_cells B b _ (c.toNat : Int) w h (by rw [Lib.byteCells_length]; omega) hB).mono fun e w' ⟨he, h1, h2⟩ => ⟨he, Or.inr ?_, h2⟩
  rw [← cells_app]; exact h1
theorem bStr (B b : Nat) (l m : List UInt8) (w : World) (h : Bld B b l w) (hl : l.length ≤ 1000000) (hm : m.length ≤ 1000000) (hB : B ≤ w.heap.size) :
    Calls Tryd.prog 26 #[.pointer (some ⟨b, 0, none⟩), .string ⟨m.toArray⟩] w fun e w' => (∃ n : Int, e = .returned (.tuple #[.int .i64 n, .nilIface])) ∧ Bld B b (l ++ m) w' ∧ Below B w w' := by
  refine (writeString_cells B b _ ⟨m.toArray⟩ w h (by rw [Lib.byteCells_length]; show l.length + m.toArray.size ≤ _; rw [List.size_toArray]; omega) hB).mono fun e w' ⟨he, h1, h2⟩ => ⟨⟨_, he⟩, Or.inr ?_, h2⟩
  rw [← cells_app]; exact h1
theorem bString (B b : Nat) (l : List UInt8) (w : World) (h : Bld B b l w) (hB : B ≤ w.heap.size) :
    Calls Tryd.prog 28 #[.pointer (some ⟨b, 0, none⟩)] w fun e w' => e = .returned (.string ⟨l.toArray⟩) ∧ Below B w w' := Tryd.Builder_String_any B b l w h hB
theorem term_y (c y : Int) (k : Nat) (hy : y = (k : Int)) (w : World) (hc : -1000000000000 ≤ c ∧ c ≤ 1000000000000) (hk : k ≤ 2000) (ht : Tab w) :
    Calls Tryd.prog 27 #[.int .i64 c, .int .i64 y] w fun e w' => e = .returned (.string ⟨(termL c k).toArray⟩) ∧ Below w.heap.size w w' := by
  subst hy; exact textOfTerm_any c k w hc hk ht
theorem trim_ne {p : List Int} {n : Nat} (hl : p.length = n + 1) (h : polyB p = true) : p[n]?.getD 0 ≠ 0 := by
  have h1 := polyB_end h
  rw [end_some hl (by omega)] at h1
  simpa using h1
theorem str_ne {a b : List UInt8} (h : a = b) : Ending.returned (.string ⟨a.toArray⟩) = .returned (.string ⟨b.toArray⟩) := by rw [h]

set_option maxHeartbeats 4000000 in
set_option maxRecDepth 100000 in
theorem textOfPoly_any (v : Value) (p : List Int) (w : World) (h : ReadI w w.heap.size v p) (hp : polyB p = true) (ht : Tab w) :
    Calls Tryd.prog 16 #[v] w fun e w' => e = .returned (.string ⟨(polyT p).toArray⟩) ∧ Below w.heap.size w w' := by
  have hn := polyB_len hp
  obtain ⟨n, A, c, rfl, hr, HL⟩ := h.split
  rw [HL.out] at hn
  have HT := Lib.hid ht
  cases n with
  | zero =>
    have E := Lib.hid (polyT_nil HL.out)
    clear h hp hr ht
    go_enter Tryd.func16, Tryd.ntmps16
    go_wp2
    go_ret
    exact ⟨str_ne E.out.symm, Below.refl _ _⟩
  | succ m =>
    obtain ⟨hne, E0⟩ := polyT_pos HL.out (trim_ne HL.out hp)
    have E := Lib.hid E0
    have PC := Lib.hid (polyB_co hp)
    have HR := Lib.hid hr
    clear h hp hr ht hne E0
    have T0 : ((((m + 1 : Nat) : Int)) == 0) = false := by simp; omega
    go_enter Tryd.func16, Tryd.ntmps16
    go_wp2
    have HB0 : Hid (Bld w.heap.size w.heap.size [] (w.alloc (.cells #[.pointer none, .slice none 0 0] 43))) := Lib.hid (Bld.new w)
    have hB0 : Below w.heap.size w (w.alloc (.cells #[.pointer none, .slice none 0 0] 43)) := (Below.refl _ _).alloc (Nat.le_refl _) _
    go_loopw [4] (fun vi wr => ∃ (k : Nat) (t : List UInt8), k ≤ m + 1 ∧ vi = .int .i64 ((k : Int) - 1) ∧ Hid (txtL p (m + 1) [] = txtL p k t) ∧ Hid (t.length ≤ 43 * (m + 1 - k)) ∧ Hid (Bld w.heap.size w.heap.size t wr) ∧ Below w.heap.size w wr) (fun vi _ => (intOf vi + 1).toNat)
    case atStart => exact ⟨m + 1, [], by omega, by first | rfl | go_num, Lib.hid rfl, Lib.hid (by simp), HB0, hB0⟩
    case round =>
      obtain ⟨k, t, hk, rfl, hg, hlen, hbd, hb⟩ := hrel
      have hsz := hb.size
      by_cases h0 : 0 < k
      · obtain ⟨j, rfl⟩ : ∃ j, k = j + 1 := ⟨k - 1, by omega⟩
        obtain ⟨a, rfl, _, hcell⟩ := (HR.out.below hb).2 j (by omega)
        rw [getD_opt] at hcell
        have hc := PC.out j
        rw [getD_opt] at hc
        have hj1 : (((j + 1 : Nat) : Int) - 1) = (j : Int) := by omega
        have hl1 := hlen.out
        have hl2 : t.length ≤ 90000 := by omega
        rw [hj1]
        generalize hz : p[j]?.getD 0 = z at hcell hc
        have HZ := Lib.hid hz
        clear hz hj1 hl1
        by_cases hz0 : z = 0
        · have G : Hid (txtL p (m + 1) [] = txtL p j t) := Lib.hid (by rw [hg.out, txtL_succ, txtStep, HZ.out, if_pos hz0])
          have Z0 : (z == 0) = true := by simp [hz0]
          clear hz0 hg
          go_wp2
          go_roundw
          case rel => exact ⟨j, t, by omega, rfl, G, Lib.hid (by have := hlen.out; omega), hbd, hb⟩
          case measure => first | (simp [intOf]; done) | (simp [intOf]; omega)
        have Z0 : (z == 0) = false := by simp [hz0]
        have tl := termL_len hc (show j ≤ 2000 by omega)
        by_cases hzp : 0 < z
        · by_cases hte : t = []
          · have G : Hid (txtL p (m + 1) [] = txtL p j (t ++ termL z j)) := Lib.hid (by rw [hg.out, txtL_succ, txtStep, HZ.out, if_neg hz0, if_neg (fun h => h.2 hte)]; simp)
            have LT : ¬ (0 : Int) < ((t.length : Nat) : Int) := by rw [hte]; simp
            clear hz0 hg hte
            go_wp2_with fail
            refine (bLen _ _ t _ hbd.out).mono ?_
            rintro e w1 ⟨rfl, rfl⟩
            go_wp2_with fail
            refine (term_y z _ j rfl _ hc (by omega) (HT.out.below hb)).mono ?_
            rintro e w2 ⟨rfl, hb2⟩
            have hz2 := hb2.size
            go_wp2_with fail
            refine (bStr _ _ t (termL z j) _ (hbd.out.below hb2) (by omega) (by omega) (by omega)).mono ?_
            rintro e w3 ⟨⟨nn, rfl⟩, hbd3, hb3⟩
            have HB3 := Lib.hid hbd3
            clear hbd3
            go_wp2
            go_roundw
            case rel => first | exact ⟨j, _, by omega, rfl, G, Lib.hid (by have := hlen.out; simp; omega), HB3, (by repeat (first | exact Below.refl _ _ | apply below_drewN | apply Below.drew | (refine Below.setCell ?_ (by first | (simp; done) | (simp; omega) | omega) _) | (refine Below.alloc ?_ (by first | exact Nat.le_refl _ | (simp; done) | (simp; omega) | omega) _) | (refine Below.trans ?_ (hb3.mono (by first | exact Nat.le_refl _ | (simp; done) | (simp; omega) | omega))) | (refine Below.trans ?_ (hb2.mono (by first | exact Nat.le_refl _ | (simp; done) | (simp; omega) | omega))) | (refine Below.trans ?_ (hb.mono (by first | exact Nat.le_refl _ | (simp; done) | (simp; omega) | omega)))))⟩ | ((repeat apply Exists.intro); exact ⟨⟨j, _, by omega, rfl, G, Lib.hid (by have := hlen.out; simp; omega), HB3, (by repeat (first | exact Below.refl _ _ | apply below_drewN | apply Below.drew | (refine Below.setCell ?_ (by first | (simp; done) | (simp; omega) | omega) _) | (refine Below.alloc ?_ (by first | exact Nat.le_refl _ | (simp; done) | (simp; omega) | omega) _) | (refine Below.trans ?_ (hb3.mono (by first | exact Nat.le_refl _ | (simp; done) | (simp; omega) | omega))) | (refine Below.trans ?_ (hb2.mono (by first | exact Nat.le_refl _ | (simp; done) | (simp; omega) | omega))) | (refine Below.trans ?_ (hb.mono (by first | exact Nat.le_refl _ | (simp; done) | (simp; omega) | omega)))))⟩, rfl⟩)
            case measure => first | (simp [intOf]; done) | (simp [intOf]; omega)
          · have G : Hid (txtL p (m + 1) [] = txtL p j ((t ++ [43]) ++ termL z j)) := Lib.hid (by rw [hg.out, txtL_succ, txtStep, HZ.out, if_neg hz0, if_pos ⟨hzp, hte⟩])
            have LT : (0 : Int) < ((t.length : Nat) : Int) := by have := List.length_pos_iff.2 hte; omega
            clear hz0 hg hte
            go_wp2_with fail
            refine (bLen _ _ t _ hbd.out).mono ?_
            rintro e w1 ⟨rfl, rfl⟩
            go_wp2_with fail
            refine (bByte _ _ t 43 43 rfl _ hbd.out (by omega) (by omega)).mono ?_
            rintro e w1 ⟨rfl, hbd1, hb1⟩
            have hz1 := hb1.size
            have HB1 := Lib.hid hbd1
            have hb01 : Below w.heap.size w w1 := hb.trans hb1
            obtain ⟨a1, ha1, _, hcell1⟩ := (HR.out.below hb01).2 j (by omega)
            obtain rfl := Option.some.inj ha1
            rw [getD_opt, HZ.out] at hcell1
            clear hbd1 ha1
            go_wp2_with fail
            refine (term_y z _ j rfl _ hc (by omega) (HT.out.below hb01)).mono ?_
            rintro e w2 ⟨rfl, hb2⟩
            have hz2 := hb2.size
            go_wp2_with fail
            refine (bStr _ _ (t ++ [43]) (termL z j) _ (HB1.out.below hb2) (by simp; omega) (by omega) (by omega)).mono ?_
            rintro e w3 ⟨⟨nn, rfl⟩, hbd3, hb3⟩
            have HB3 := Lib.hid hbd3
            clear hbd3
            go_wp2
            go_roundw
            case rel => first | exact ⟨j, _, by omega, rfl, G, Lib.hid (by have := hlen.out; simp; omega), HB3, (by repeat (first | exact Below.refl _ _ | apply below_drewN | apply Below.drew | (refine Below.setCell ?_ (by first | (simp; done) | (simp; omega) | omega) _) | (refine Below.alloc ?_ (by first | exact Nat.le_refl _ | (simp; done) | (simp; omega) | omega) _) | (refine Below.trans ?_ (hb3.mono (by first | exact Nat.le_refl _ | (simp; done) | (simp; omega) | omega))) | (refine Below.trans ?_ (hb2.mono (by first | exact Nat.le_refl _ | (simp; done) | (simp; omega) | omega))) | (refine Below.trans ?_ (hb1.mono (by first | exact Nat.le_refl _ | (simp; done) | (simp; omega) | omega))) | (refine Below.trans ?_ (hb.mono (by first | exact Nat.le_refl _ | (simp; done) | (simp; omega) | omega)))))⟩ | ((repeat apply Exists.intro); exact ⟨⟨j, _, by omega, rfl, G, Lib.hid (by have := hlen.out; simp; omega), HB3, (by repeat (first | exact Below.refl _ _ | apply below_drewN | apply Below.drew | (refine Below.setCell ?_ (by first | (simp; done) | (simp; omega) | omega) _) | (refine Below.alloc ?_ (by first | exact Nat.le_refl _ | (simp; done) | (simp; omega) | omega) _) | (refine Below.trans ?_ (hb3.mono (by first | exact Nat.le_refl _ | (simp; done) | (simp; omega) | omega))) | (refine Below.trans ?_ (hb2.mono (by first | exact Nat.le_refl _ | (simp; done) | (simp; omega) | omega))) | (refine Below.trans ?_ (hb1.mono (by first | exact Nat.le_refl _ | (simp; done) | (simp; omega) | omega))) | (refine Below.trans ?_ (hb.mono (by first | exact Nat.le_refl _ | (simp; done) | (simp; omega) | omega)))))⟩, rfl⟩)
            case measure => first | (simp [intOf]; done) | (simp [intOf]; omega)
        · have G : Hid (txtL p (m + 1) [] = txtL p j (t ++ termL z j)) := Lib.hid (by rw [hg.out, txtL_succ, txtStep, HZ.out, if_neg hz0, if_neg (fun h => hzp h.1)]; simp)
          clear hz0 hg
          go_wp2_with fail
          refine (term_y z _ j rfl _ hc (by omega) (HT.out.below hb)).mono ?_
          rintro e w2 ⟨rfl, hb2⟩
          have hz2 := hb2.size
          go_wp2_with fail
          refine (bStr _ _ t (termL z j) _ (hbd.out.below hb2) (by omega) (by omega) (by omega)).mono ?_
          rintro e w3 ⟨⟨nn, rfl⟩, hbd3, hb3⟩
          have HB3 := Lib.hid hbd3
          clear hbd3
          go_wp2
          go_roundw
          case rel => first | exact ⟨j, _, by omega, rfl, G, Lib.hid (by have := hlen.out; simp; omega), HB3, (by repeat (first | exact Below.refl _ _ | apply below_drewN | apply Below.drew | (refine Below.setCell ?_ (by first | (simp; done) | (simp; omega) | omega) _) | (refine Below.alloc ?_ (by first | exact Nat.le_refl _ | (simp; done) | (simp; omega) | omega) _) | (refine Below.trans ?_ (hb3.mono (by first | exact Nat.le_refl _ | (simp; done) | (simp; omega) | omega))) | (refine Below.trans ?_ (hb2.mono (by first | exact Nat.le_refl _ | (simp; done) | (simp; omega) | omega))) | (refine Below.trans ?_ (hb.mono (by first | exact Nat.le_refl _ | (simp; done) | (simp; omega) | omega)))))⟩ | ((repeat apply Exists.intro); exact ⟨⟨j, _, by omega, rfl, G, Lib.hid (by have := hlen.out; simp; omega), HB3, (by repeat (first | exact Below.refl _ _ | apply below_drewN | apply Below.drew | (refine Below.setCell ?_ (by first | (simp; done) | (simp; omega) | omega) _) | (refine Below.alloc ?_ (by first | exact Nat.le_refl _ | (simp; done) | (simp; omega) | omega) _) | (refine Below.trans ?_ (hb3.mono (by first | exact Nat.le_refl _ | (simp; done) | (simp; omega) | omega))) | (refine Below.trans ?_ (hb2.mono (by first | exact Nat.le_refl _ | (simp; done) | (simp; omega) | omega))) | (refine Below.trans ?_ (hb.mono (by first | exact Nat.le_refl _ | (simp; done) | (simp; omega) | omega)))))⟩, rfl⟩)
          case measure => first | (simp [intOf]; done) | (simp [intOf]; omega)
      · obtain rfl : k = 0 := by omega
        have R : Hid (t = polyT p) := Lib.hid (by rw [E.out, hg.out, txtL_zero])
        clear hg
        go_wp2_with fail
        refine (bString _ _ t _ hbd.out (by omega)).mono ?_
        rintro e w1 ⟨rfl, hb1⟩
        go_wp2_with fail
        go_ret
        exact ⟨str_ne R.out, hb.trans hb1⟩
end Go.Proofs.YtbipihamkfifjabDoor
