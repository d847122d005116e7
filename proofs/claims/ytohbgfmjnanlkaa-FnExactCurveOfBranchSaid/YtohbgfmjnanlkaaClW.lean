/- Clusters in a law: a struct of three slices that comes in, contracts of laws.toCluster, eqCluster, markCluster, heldCluster, szCluster. Conditions: stated at each theorem. -/
import Derived.Test.YtohbgfmjnanlkaaZB
namespace Go.Proofs.Ytohbgfmjnanlkaa
open Go.ChangeShapes Go.WideShapes Go.ChangeAt Go.RowKit Go.Joins Go.Deep
set_option linter.unusedVariables false
set_option linter.unusedSimpArgs false

/-- Block h begins with the cells a, b, c, which may be written. -/
structure CBox (w : World) (h : Nat) (a b c : Value) : Prop where
  c0 : w.cell? ⟨h, 0, none⟩ = some a
  c1 : w.cell? ⟨h, 1, none⟩ = some b
  c2 : w.cell? ⟨h, 2, none⟩ = some c
  f0 : w.frozen? ⟨h, 0, none⟩ = false
  f1 : w.frozen? ⟨h, 1, none⟩ = false
  f2 : w.frozen? ⟨h, 2, none⟩ = false
  lt : h < w.heap.size
theorem CBox.of_block {w w' : World} {h : Nat} {a b c : Value} (k : CBox w h a b c) (e : w'.heap[h]? = w.heap[h]?) (hs : w.heap.size ≤ w'.heap.size) : CBox w' h a b c := by
  have hc : ∀ o, w'.cell? ⟨h, o, none⟩ = w.cell? ⟨h, o, none⟩ := fun o => by simp [World.cell?, e]
  have hf : ∀ o, w'.frozen? ⟨h, o, none⟩ = w.frozen? ⟨h, o, none⟩ := fun o => by simp [World.frozen?, e]
  exact ⟨by rw [hc]; exact k.c0, by rw [hc]; exact k.c1, by rw [hc]; exact k.c2, by rw [hf]; exact k.f0, by rw [hf]; exact k.f1, by rw [hf]; exact k.f2, Nat.lt_of_lt_of_le k.lt hs⟩
theorem CBox.below {w w' : World} {h : Nat} {a b c : Value} (k : CBox w h a b c) (hb : Below w.heap.size w w') : CBox w' h a b c := k.of_block (hb.block h k.lt) hb.size
theorem CBox.kept {w w' : World} {h : Nat} {a b c : Value} (k : CBox w h a b c) (hk : Kept h (h + 1) w w') : CBox w' h a b c := k.of_block (hk.block h (Nat.le_refl _) (Nat.lt_succ_self _)) hk.size
theorem CBox.other {w : World} {h g o : Nat} {a b c : Value} (k : CBox w h a b c) (hne : h ≠ g) (u : Value) : CBox (w.setCell ⟨g, o, none⟩ u) h a b c := k.of_block (Below.heap_setCell _ _ _ _ (by simpa using hne)) (by simp [World.setCell])
theorem CBox.set0 {w : World} {h : Nat} {a b c : Value} (k : CBox w h a b c) (u : Value) : CBox (w.setCell ⟨h, 0, none⟩ u) h u b c := by
  obtain ⟨k0, k1, k2, k3, k4, k5, k6⟩ := k
  exact ⟨by go_simp, by go_simp, by go_simp, by go_simp, by go_simp, by go_simp, by simpa [World.setCell] using k6⟩
theorem CBox.set1 {w : World} {h : Nat} {a b c : Value} (k : CBox w h a b c) (u : Value) : CBox (w.setCell ⟨h, 1, none⟩ u) h a u c := by
  obtain ⟨k0, k1, k2, k3, k4, k5, k6⟩ := k
  exact ⟨by go_simp, by go_simp, by go_simp, by go_simp, by go_simp, by go_simp, by simpa [World.setCell] using k6⟩
theorem CBox.set2 {w : World} {h : Nat} {a b c : Value} (k : CBox w h a b c) (u : Value) : CBox (w.setCell ⟨h, 2, none⟩ u) h a b u := by
  obtain ⟨k0, k1, k2, k3, k4, k5, k6⟩ := k
  exact ⟨by go_simp, by go_simp, by go_simp, by go_simp, by go_simp, by go_simp, by simpa [World.setCell] using k6⟩
theorem CBox.new (w : World) (a b c : Value) (t : TypeId) : CBox (w.alloc (.cells #[a, b, c] t)) w.heap.size a b c := ⟨by go_simp, by go_simp, by go_simp, by go_simp, by go_simp, by go_simp, by simp⟩
theorem CBox.alloc {w : World} {h : Nat} {a b c : Value} (k : CBox w h a b c) (o : Obj) : CBox (w.alloc o) h a b c := k.below (below_box2 w o)

/-- Three slices read as three lists. -/
def ReadC (w : World) (B : Nat) (a b c : Value) (P S W : List Int) : Prop := ReadI w B a P ∧ ReadI w B b S ∧ ReadI w B c W
def ReadCW (w : World) (B : Nat) (a b c : Value) (P S W : List Int) : Prop := ReadW w B a P ∧ ReadW w B b S ∧ ReadW w B c W
theorem ReadC.below {w w' : World} {B : Nat} {a b c : Value} {P S W : List Int} (h : ReadC w B a b c P S W) (hb : Below B w w') : ReadC w' B a b c P S W := ⟨h.1.below hb, h.2.1.below hb, h.2.2.below hb⟩
theorem ReadC.more {w : World} {B B' : Nat} {a b c : Value} {P S W : List Int} (h : ReadC w B a b c P S W) (hB : B ≤ B') : ReadC w B' a b c P S W := ⟨h.1.more hB, h.2.1.more hB, h.2.2.more hB⟩
theorem ReadCW.below {w w' : World} {B : Nat} {a b c : Value} {P S W : List Int} (h : ReadCW w B a b c P S W) (hb : Below B w w') : ReadCW w' B a b c P S W := ⟨h.1.below hb, h.2.1.below hb, h.2.2.below hb⟩
theorem ReadCW.more {w : World} {B B' : Nat} {a b c : Value} {P S W : List Int} (h : ReadCW w B a b c P S W) (hB : B ≤ B') : ReadCW w B' a b c P S W := ⟨h.1.more hB, h.2.1.more hB, h.2.2.more hB⟩
/-- Three intervals within one, apart from one another. -/
structure Apart3 (lo hi l0 h0 l1 h1 l2 h2 : Nat) : Prop where
  a0 : lo ≤ l0 ∧ h0 ≤ hi
  a1 : lo ≤ l1 ∧ h1 ≤ hi
  a2 : lo ≤ l2 ∧ h2 ≤ hi
  x01 : h0 ≤ l1 ∨ h1 ≤ l0
  x02 : h0 ≤ l2 ∨ h2 ≤ l0
  x12 : h1 ≤ l2 ∨ h2 ≤ l1
/-- Three slices of the call's own, apart from one another. -/
def OwnC (w : World) (lo hi : Nat) (a b c : Value) (P S W : List Int) : Prop := hi ≤ w.heap.size ∧ ∃ l0 h0 l1 h1 l2 h2, Apart3 lo hi l0 h0 l1 h1 l2 h2 ∧ OwnI w l0 h0 a P ∧ OwnI w l1 h1 b S ∧ OwnI w l2 h2 c W
def MarkC (w : World) (lo hi : Nat) (a b c : Value) (n0 n1 n2 k : Nat) : Prop := hi ≤ w.heap.size ∧ ∃ l0 h0 l1 h1 l2 h2, Apart3 lo hi l0 h0 l1 h1 l2 h2 ∧ MarkI w l0 h0 a n0 k ∧ MarkI w l1 h1 b n1 (k + n0) ∧ MarkI w l2 h2 c n2 (k + n0 + n1)
theorem Kept.sub {lo hi l h : Nat} {w w' : World} (k : Kept lo hi w w') (h1 : lo ≤ l) (h2 : h ≤ hi) : Kept l h w w' := ⟨k.size, fun b hb1 hb2 => k.block b (by omega) (by omega)⟩
theorem OwnC.kept {w w' : World} {lo hi : Nat} {a b c : Value} {P S W : List Int} (h : OwnC w lo hi a b c P S W) (k : Kept lo hi w w') : OwnC w' lo hi a b c P S W := by
  obtain ⟨hh, l0, h0, l1, h1, l2, h2, ap, o0, o1, o2⟩ := h
  exact ⟨Nat.le_trans hh k.size, l0, h0, l1, h1, l2, h2, ap, o0.kept (k.sub ap.a0.1 ap.a0.2), o1.kept (k.sub ap.a1.1 ap.a1.2), o2.kept (k.sub ap.a2.1 ap.a2.2)⟩
theorem MarkC.kept {w w' : World} {lo hi n0 n1 n2 m : Nat} {a b c : Value} (h : MarkC w lo hi a b c n0 n1 n2 m) (k : Kept lo hi w w') : MarkC w' lo hi a b c n0 n1 n2 m := by
  obtain ⟨hh, l0, h0, l1, h1, l2, h2, ap, o0, o1, o2⟩ := h
  exact ⟨Nat.le_trans hh k.size, l0, h0, l1, h1, l2, h2, ap, o0.kept (k.sub ap.a0.1 ap.a0.2), o1.kept (k.sub ap.a1.1 ap.a1.2), o2.kept (k.sub ap.a2.1 ap.a2.2)⟩
theorem OwnC.reads {w : World} {lo hi : Nat} {a b c : Value} {P S W : List Int} (h : OwnC w lo hi a b c P S W) : ReadC w w.heap.size a b c P S W := by
  obtain ⟨hh, l0, h0, l1, h1, l2, h2, ap, o0, o1, o2⟩ := h
  exact ⟨o0.reads, o1.reads, o2.reads⟩
theorem OwnC.form {w : World} {lo hi : Nat} {a b c : Value} {P S W : List Int} (h : OwnC w lo hi a b c P S W) : ∃ A0 c0 A1 c1 A2 c2, a = .slice A0 P.length c0 ∧ b = .slice A1 S.length c1 ∧ c = .slice A2 W.length c2 := by
  obtain ⟨hh, l0, h0, l1, h1, l2, h2, ap, o0, o1, o2⟩ := h
  obtain ⟨A0, c0, rfl⟩ := own_form o0.1
  obtain ⟨A1, c1, rfl⟩ := own_form o1.1
  obtain ⟨A2, c2, rfl⟩ := own_form o2.1
  exact ⟨A0, c0, A1, c1, A2, c2, rfl, rfl, rfl⟩
/-- An answer: a cluster and a code; a cluster alone. -/
def AnsCC (w : World) (P S W : List Int) (C : Int) (e : Ending) (w' : World) : Prop := ∃ a b c, e = .returned (.tuple #[.agg #[a, b, c], .int .i64 C]) ∧ OwnC w' w.heap.size w'.heap.size a b c P S W ∧ Below w.heap.size w w'

/-- Within toCluster: the boxes of the parameter, of the answer, of the variable out. -/
structure TcS (w V : World) (h : Nat) (a b c z0 z1 z2 : Value) : Prop where
  x : CBox V h a b c
  y : CBox V (h + 1) (.slice none 0 0) (.slice none 0 0) (.slice none 0 0)
  z : CBox V (h + 2) z0 z1 z2
  b : Below h w V
  s : h + 3 ≤ V.heap.size
theorem size_set (w : World) (p : Addr) (u : Value) : (w.setCell p u).heap.size = w.heap.size := by simp [World.setCell]
theorem TcS.step0 {w V V' : World} {h : Nat} {a b c z0 z1 z2 : Value} (k : TcS w V h a b c z0 z1 z2) (hb : Below V.heap.size V V') (u : Value) : TcS w (V'.setCell ⟨h + 2, 0, none⟩ u) h a b c u z1 z2 :=
  ⟨(k.x.below hb).other (by omega) u, (k.y.below hb).other (by omega) u, (k.z.below hb).set0 u, (k.b.trans (hb.mono (by have := k.s; omega))).setCell (p := ⟨h + 2, 0, none⟩) (by show h ≤ h + 2; omega) u, by rw [size_set]; have := k.s; have := hb.size; omega⟩
theorem TcS.step1 {w V V' : World} {h : Nat} {a b c z0 z1 z2 : Value} (k : TcS w V h a b c z0 z1 z2) (hb : Below V.heap.size V V') (u : Value) : TcS w (V'.setCell ⟨h + 2, 1, none⟩ u) h a b c z0 u z2 :=
  ⟨(k.x.below hb).other (by omega) u, (k.y.below hb).other (by omega) u, (k.z.below hb).set1 u, (k.b.trans (hb.mono (by have := k.s; omega))).setCell (p := ⟨h + 2, 1, none⟩) (by show h ≤ h + 2; omega) u, by rw [size_set]; have := k.s; have := hb.size; omega⟩
theorem TcS.step2 {w V V' : World} {h : Nat} {a b c z0 z1 z2 : Value} (k : TcS w V h a b c z0 z1 z2) (hb : Below V.heap.size V V') (u : Value) : TcS w (V'.setCell ⟨h + 2, 2, none⟩ u) h a b c z0 z1 u :=
  ⟨(k.x.below hb).other (by omega) u, (k.y.below hb).other (by omega) u, (k.z.below hb).set2 u, (k.b.trans (hb.mono (by have := k.s; omega))).setCell (p := ⟨h + 2, 2, none⟩) (by show h ≤ h + 2; omega) u, by rw [size_set]; have := k.s; have := hb.size; omega⟩
theorem OwnI.stepC {V V' : World} {l m g j : Nat} {v : Value} {L : List Int} (o : OwnI V l m v L) (hb : Below V.heap.size V V') (hg : g < l) (u : Value) : OwnI (V'.setCell ⟨g, j, none⟩ u) l m v L :=
  (o.kept (Kept.of_below hb o.2.2)).kept (keptS V' (p := ⟨g, j, none⟩) hg u)
theorem OwnI.newC {V' : World} {l m g j : Nat} {v : Value} {L : List Int} (o : OwnI V' l m v L) (hg : g < l) (u : Value) : OwnI (V'.setCell ⟨g, j, none⟩ u) l m v L :=
  o.kept (keptS V' (p := ⟨g, j, none⟩) hg u)

set_option maxRecDepth 100000 in
set_option maxHeartbeats 2000000 in
theorem toC (a b c : Value) (P S W : List Int) (w : World) (hr : ReadCW w w.heap.size a b c P S W) (hP : P.length ≤ 1048576) (hS : S.length ≤ 1048576) (hW : W.length ≤ 1048576) :
    Calls Try.prog 22 #[.agg #[a, b, c]] w fun e w' => ∃ x y z, e = .returned (.agg #[x, y, z]) ∧ OwnC w' w.heap.size w'.heap.size x y z P S W ∧ Below w.heap.size w w' := by
  have HR := Lib.hid hr
  have HK : Hid (TcS w (((w.alloc (.cells #[a, b, c] 33)).alloc (.cells #[.slice none 0 0, .slice none 0 0, .slice none 0 0] 36)).alloc (.cells #[.slice none 0 0, .slice none 0 0, .slice none 0 0] 36)) w.heap.size a b c (.slice none 0 0) (.slice none 0 0) (.slice none 0 0)) := Lib.hid ⟨((CBox.new w a b c 33).alloc _).alloc _,
    (by have := (CBox.new (w.alloc (.cells #[a, b, c] 33)) (.slice none 0 0) (.slice none 0 0) (.slice none 0 0) 36).alloc (.cells #[.slice none 0 0, .slice none 0 0, .slice none 0 0] 36); simpa using this),
    (by have := CBox.new ((w.alloc (.cells #[a, b, c] 33)).alloc (.cells #[.slice none 0 0, .slice none 0 0, .slice none 0 0] 36)) (.slice none 0 0) (.slice none 0 0) (.slice none 0 0) 36; simpa using this),
    ((below_box2 _ _).alloc (by simp) _).alloc (by simp; omega) _, by simp⟩
  clear hr
  go_enter Try.func22, Try.ntmps22
  go_wp2_with fail
  generalize (((w.alloc (.cells #[a, b, c] 33)).alloc (.cells #[.slice none 0 0, .slice none 0 0, .slice none 0 0] 36)).alloc (.cells #[.slice none 0 0, .slice none 0 0, .slice none 0 0] 36)) = V0 at *
  have hs0 := HK.out.s; have hbs0 := HK.out.b.size
  refine (toI _ P V0 ((HR.out.1.below HK.out.b).more hbs0) hP).mono ?_
  rintro e w1 ⟨v0, rfl, ho0, hb0⟩
  obtain ⟨A0, d0, rfl⟩ := own_form ho0.1
  have hz0 := hb0.size
  have O0 := Lib.hid (OwnI.newC (g := w.heap.size + 2) (j := 0) ho0 (by omega) (.slice A0 P.length d0))
  have hX := HK.out.x.below hb0; have hY := HK.out.y.below hb0; have hZ := HK.out.z.below hb0
  have qc0 := hX.c0; have qc1 := hX.c1; have qc2 := hX.c2; have qf0 := hX.f0; have qf1 := hX.f1; have qf2 := hX.f2
  have yc0 := hY.c0; have yc1 := hY.c1; have yc2 := hY.c2; have yf0 := hY.f0; have yf1 := hY.f1; have yf2 := hY.f2
  have zc0 := hZ.c0; have zc1 := hZ.c1; have zc2 := hZ.c2; have zf0 := hZ.f0; have zf1 := hZ.f1; have zf2 := hZ.f2
  have hw0 : w.heap.size + 2 < w1.heap.size := by omega
  replace HK := Lib.hid (HK.out.step0 hb0 (.slice A0 P.length d0))
  have HZ0 : Hid ((w1.setCell ⟨w.heap.size + 2, 0, none⟩ (.slice A0 P.length d0)).heap.size = w1.heap.size) := Lib.hid (size_set _ _ _)
  clear ho0 hb0 hX hY hZ
  go_wp2_with fail
  clear qc0 qc1 qc2 qf0 qf1 qf2 yc0 yc1 yc2 yf0 yf1 yf2 zc0 zc1 zc2 zf0 zf1 zf2
  generalize (w1.setCell ⟨w.heap.size + 2, 0, none⟩ (.slice A0 P.length d0)) = V1 at *
  have hs1 := HK.out.s; have hbs1 := HK.out.b.size
  refine (toI _ S V1 ((HR.out.2.1.below HK.out.b).more hbs1) hS).mono ?_
  rintro e w2 ⟨v1, rfl, ho1, hb1⟩
  obtain ⟨A1, d1, rfl⟩ := own_form ho1.1
  have hz1 := hb1.size
  have hy0 := HZ0.out
  replace O0 := Lib.hid (OwnI.stepC (g := w.heap.size + 2) (j := 1) O0.out hb1 (by omega) (.slice A1 S.length d1))
  have O1 := Lib.hid (OwnI.newC (g := w.heap.size + 2) (j := 1) ho1 (by omega) (.slice A1 S.length d1))
  have hX := HK.out.x.below hb1; have hY := HK.out.y.below hb1; have hZ := HK.out.z.below hb1
  have qc0 := hX.c0; have qc1 := hX.c1; have qc2 := hX.c2; have qf0 := hX.f0; have qf1 := hX.f1; have qf2 := hX.f2
  have yc0 := hY.c0; have yc1 := hY.c1; have yc2 := hY.c2; have yf0 := hY.f0; have yf1 := hY.f1; have yf2 := hY.f2
  have zc0 := hZ.c0; have zc1 := hZ.c1; have zc2 := hZ.c2; have zf0 := hZ.f0; have zf1 := hZ.f1; have zf2 := hZ.f2
  have hw1 : w.heap.size + 2 < w2.heap.size := by omega
  replace HK := Lib.hid (HK.out.step1 hb1 (.slice A1 S.length d1))
  have HZ1 : Hid ((w2.setCell ⟨w.heap.size + 2, 1, none⟩ (.slice A1 S.length d1)).heap.size = w2.heap.size) := Lib.hid (size_set _ _ _)
  clear ho1 hb1 hX hY hZ
  clear hy0
  go_wp2_with fail
  clear qc0 qc1 qc2 qf0 qf1 qf2 yc0 yc1 yc2 yf0 yf1 yf2 zc0 zc1 zc2 zf0 zf1 zf2
  generalize (w2.setCell ⟨w.heap.size + 2, 1, none⟩ (.slice A1 S.length d1)) = V2 at *
  have hs2 := HK.out.s; have hbs2 := HK.out.b.size
  refine (toI _ W V2 ((HR.out.2.2.below HK.out.b).more hbs2) hW).mono ?_
  rintro e w3 ⟨v2, rfl, ho2, hb2⟩
  obtain ⟨A2, d2, rfl⟩ := own_form ho2.1
  have hz2 := hb2.size
  have hy0 := HZ0.out
  have hy1 := HZ1.out
  replace O0 := Lib.hid (OwnI.stepC (g := w.heap.size + 2) (j := 2) O0.out hb2 (by omega) (.slice A2 W.length d2))
  replace O1 := Lib.hid (OwnI.stepC (g := w.heap.size + 2) (j := 2) O1.out hb2 (by omega) (.slice A2 W.length d2))
  have O2 := Lib.hid (OwnI.newC (g := w.heap.size + 2) (j := 2) ho2 (by omega) (.slice A2 W.length d2))
  have hX := HK.out.x.below hb2; have hY := HK.out.y.below hb2; have hZ := HK.out.z.below hb2
  have qc0 := hX.c0; have qc1 := hX.c1; have qc2 := hX.c2; have qf0 := hX.f0; have qf1 := hX.f1; have qf2 := hX.f2
  have yc0 := hY.c0; have yc1 := hY.c1; have yc2 := hY.c2; have yf0 := hY.f0; have yf1 := hY.f1; have yf2 := hY.f2
  have zc0 := hZ.c0; have zc1 := hZ.c1; have zc2 := hZ.c2; have zf0 := hZ.f0; have zf1 := hZ.f1; have zf2 := hZ.f2
  have hw2 : w.heap.size + 2 < w3.heap.size := by omega
  replace HK := Lib.hid (HK.out.step2 hb2 (.slice A2 W.length d2))
  have HZ2 : Hid ((w3.setCell ⟨w.heap.size + 2, 2, none⟩ (.slice A2 W.length d2)).heap.size = w3.heap.size) := Lib.hid (size_set _ _ _)
  clear ho2 hb2 hX hY hZ
  clear hy0
  clear hy1
  have cr : CBox ((((w3.setCell ⟨w.heap.size + 2, 2, none⟩ (.slice A2 W.length d2)).setCell ⟨w.heap.size + 1, 0, none⟩ (.slice A0 P.length d0)).setCell ⟨w.heap.size + 1, 1, none⟩ (.slice A1 S.length d1)).setCell ⟨w.heap.size + 1, 2, none⟩ (.slice A2 W.length d2)) (w.heap.size + 1) (.slice A0 P.length d0) (.slice A1 S.length d1) (.slice A2 W.length d2) := ((HK.out.y.set0 _).set1 _).set2 _
  have cr0 := cr.c0; have cr1 := cr.c1; have cr2 := cr.c2
  go_wp2_with fail
  refine bodyPost_ret (v := .agg #[.slice A0 P.length d0, .slice A1 S.length d1, .slice A2 W.length d2]) (by simp [results, Try.results22, go_sem, cr0, cr1, cr2]) rfl ⟨_, _, _, rfl, ?_, ?_⟩
  · show OwnC ((((w3.setCell ⟨w.heap.size + 2, 2, none⟩ (.slice A2 W.length d2)).setCell ⟨w.heap.size + 1, 0, none⟩ (.slice A0 P.length d0)).setCell ⟨w.heap.size + 1, 1, none⟩ (.slice A1 S.length d1)).setCell ⟨w.heap.size + 1, 2, none⟩ (.slice A2 W.length d2)) w.heap.size ((((w3.setCell ⟨w.heap.size + 2, 2, none⟩ (.slice A2 W.length d2)).setCell ⟨w.heap.size + 1, 0, none⟩ (.slice A0 P.length d0)).setCell ⟨w.heap.size + 1, 1, none⟩ (.slice A1 S.length d1)).setCell ⟨w.heap.size + 1, 2, none⟩ (.slice A2 W.length d2)).heap.size _ _ _ _ _ _
    have hsz : ((((w3.setCell ⟨w.heap.size + 2, 2, none⟩ (.slice A2 W.length d2)).setCell ⟨w.heap.size + 1, 0, none⟩ (.slice A0 P.length d0)).setCell ⟨w.heap.size + 1, 1, none⟩ (.slice A1 S.length d1)).setCell ⟨w.heap.size + 1, 2, none⟩ (.slice A2 W.length d2)).heap.size = w3.heap.size := by rw [size_set, size_set, size_set, size_set]
    have hy0 := HZ0.out; have hy1 := HZ1.out
    refine ⟨Nat.le_refl _, V0.heap.size, w1.heap.size, V1.heap.size, w2.heap.size, V2.heap.size, w3.heap.size, ⟨by omega, by omega, by omega, by omega, by omega, by omega⟩, ?_, ?_, ?_⟩
    · exact OwnI.newC (OwnI.newC (OwnI.newC O0.out (by omega) _) (by omega) _) (by omega) _
    · exact OwnI.newC (OwnI.newC (OwnI.newC O1.out (by omega) _) (by omega) _) (by omega) _
    · exact OwnI.newC (OwnI.newC (OwnI.newC O2.out (by omega) _) (by omega) _) (by omega) _
  · exact ((HK.out.b.setCell (p := ⟨w.heap.size + 1, 0, none⟩) (by show w.heap.size ≤ w.heap.size + 1; omega) _).setCell (p := ⟨w.heap.size + 1, 1, none⟩) (by show w.heap.size ≤ w.heap.size + 1; omega) _).setCell (p := ⟨w.heap.size + 1, 2, none⟩) (by show w.heap.size ≤ w.heap.size + 1; omega) _

set_option maxRecDepth 100000 in
set_option maxHeartbeats 2000000 in
theorem eqC (a b c a' b' c' : Value) (P S W : List Int) (w : World) (hr : ReadC w w.heap.size a b c P S W) (hr' : ReadC w w.heap.size a' b' c' P S W) (hP : P.length ≤ 9223372036854775807) (hS : S.length ≤ 9223372036854775807) (hW : W.length ≤ 9223372036854775807) :
    Calls Try.prog 24 #[.agg #[a, b, c], .agg #[a', b', c']] w fun e w' => e = .returned (.bool true) ∧ Below w.heap.size w w' := by
  have hB : Below w.heap.size w ((w.alloc (.cells #[a, b, c] 36)).alloc (.cells #[a', b', c'] 36)) := ((Below.refl _ _).alloc (Nat.le_refl _) _).alloc (by simp) _
  have HX : Hid (CBox ((w.alloc (.cells #[a, b, c] 36)).alloc (.cells #[a', b', c'] 36)) w.heap.size a b c) := Lib.hid ((CBox.new w a b c 36).alloc _)
  have HY : Hid (CBox ((w.alloc (.cells #[a, b, c] 36)).alloc (.cells #[a', b', c'] 36)) (w.heap.size + 1) a' b' c') := Lib.hid (by have := CBox.new (w.alloc (.cells #[a, b, c] 36)) a' b' c' 36; simpa using this)
  have HB := Lib.hid hB
  have HR := Lib.hid ((hr.below hB).more hB.size)
  have HR' := Lib.hid ((hr'.below hB).more hB.size)
  clear hr hr' hB
  go_enter Try.func24, Try.ntmps24
  go_wp2_with fail
  generalize (w.alloc (.cells #[a, b, c] 36)).alloc (.cells #[a', b', c'] 36) = V0 at *
  refine (eqI' _ _ P V0 _ HR.out.1 HR'.out.1 hP).mono ?_
  rintro e V1 ⟨rfl, hb⟩
  replace HX := Lib.hid (HX.out.below hb); replace HY := Lib.hid (HY.out.below hb)
  replace HR := Lib.hid ((HR.out.below hb).more hb.size); replace HR' := Lib.hid ((HR'.out.below hb).more hb.size)
  replace HB := Lib.hid (HB.out.trans (hb.mono HB.out.size))
  have x1 := HX.out.c1; have y1 := HY.out.c1
  clear hb
  go_wp2_with fail
  refine (eqI' _ _ S V1 _ HR.out.2.1 HR'.out.2.1 hS).mono ?_
  rintro e V2 ⟨rfl, hb⟩
  replace HX := Lib.hid (HX.out.below hb); replace HY := Lib.hid (HY.out.below hb)
  replace HR := Lib.hid ((HR.out.below hb).more hb.size); replace HR' := Lib.hid ((HR'.out.below hb).more hb.size)
  replace HB := Lib.hid (HB.out.trans (hb.mono HB.out.size))
  have x2 := HX.out.c2; have y2 := HY.out.c2
  clear hb
  go_wp2_with fail
  refine (eqI' _ _ W V2 _ HR.out.2.2 HR'.out.2.2 hW).mono ?_
  rintro e V3 ⟨rfl, hb⟩
  replace HX := Lib.hid (HX.out.below hb); replace HY := Lib.hid (HY.out.below hb)
  replace HR := Lib.hid ((HR.out.below hb).more hb.size); replace HR' := Lib.hid ((HR'.out.below hb).more hb.size)
  replace HB := Lib.hid (HB.out.trans (hb.mono HB.out.size))
  have x2 := HX.out.c2; have y2 := HY.out.c2
  clear hb
  go_wp2_with fail
  go_ret
  exact ⟨rfl, HB.out⟩

set_option maxRecDepth 100000 in
set_option maxHeartbeats 2000000 in
theorem markC (a b c : Value) (lo hi : Nat) (P S W : List Int) (k : Int) (w : World) (h : OwnC w lo hi a b c P S W) (hP : P.length ≤ 1099511627776) (hS : S.length ≤ 1099511627776) (hW : W.length ≤ 1099511627776) (hk : 0 ≤ k ∧ k + P.length + S.length + W.length ≤ 1099511627776) :
    Calls Try.prog 28 #[.agg #[a, b, c], .int .i64 k] w fun e w' => e = .returned (.int .i64 (k + (P.length + S.length + W.length : Nat))) ∧ MarkC w' lo hi a b c P.length S.length W.length k.toNat ∧ Only lo hi w w' := by
  obtain ⟨hh, l0, h0, l1, h1, l2, h2, ap, o0, o1, o2⟩ := h
  have hsz0 := hh
  have HAP := Lib.hid ap
  have HK0 := Kept.of_below (lo := lo) (below_box2 w (.cells #[a, b, c] 36)) hh
  have HO : Hid (Only lo hi w (w.alloc (.cells #[a, b, c] 36))) := Lib.hid (only_alloc _ _ _ _)
  have HX : Hid (CBox (w.alloc (.cells #[a, b, c] 36)) w.heap.size a b c) := Lib.hid (CBox.new _ _ _ _ _)
  have O0 := Lib.hid (o0.kept (HK0.sub ap.a0.1 ap.a0.2)); have O1 := Lib.hid (o1.kept (HK0.sub ap.a1.1 ap.a1.2)); have O2 := Lib.hid (o2.kept (HK0.sub ap.a2.1 ap.a2.2))
  clear ap o0 o1 o2 HK0
  go_enter Try.func28, Try.ntmps28
  go_wp2_with fail
  generalize w.alloc (.cells #[a, b, c] 36) = V0 at *
  have hsv0 := HO.out.size
  refine (markI' _ l0 h0 P k V0 O0.out hP (by omega)).mono ?_
  rintro e V1 ⟨rfl, hm, hb⟩
  have ho' : Only lo hi V0 V1 := ⟨hb.os, hb.tape, hb.output, hb.size, fun b h3 h4 => hb.block b h3 (fun h5 => h4 ⟨by have := HAP.out.a0.1; omega, by have := HAP.out.a0.2; omega⟩)⟩
  have ap := HAP.out
  have hx01 := ap.x01; have hx02 := ap.x02; have hx12 := ap.x12; have ha0 := ap.a0; have ha1 := ap.a1; have ha2 := ap.a2
  have M0 := Lib.hid hm
  replace O1 := Lib.hid (O1.out.kept (hb.kept (by omega) (by omega)))
  replace O2 := Lib.hid (O2.out.kept (hb.kept (by omega) (by omega)))
  replace HX := Lib.hid (HX.out.kept (hb.kept (by omega) (by have := HX.out.lt; omega)))
  replace HO := Lib.hid (HO.out.trans ho')
  have x1 := HX.out.c1
  clear hm hb ho' ap hx01 hx02 hx12 ha0 ha1 ha2
  go_wp2_with fail
  have hsv1 := HO.out.size
  refine (markI' _ l1 h1 S (k + (P.length : Int)) V1 O1.out hS (by omega)).mono ?_
  rintro e V2 ⟨rfl, hm, hb⟩
  have ho' : Only lo hi V1 V2 := ⟨hb.os, hb.tape, hb.output, hb.size, fun b h3 h4 => hb.block b h3 (fun h5 => h4 ⟨by have := HAP.out.a1.1; omega, by have := HAP.out.a1.2; omega⟩)⟩
  have ap := HAP.out
  have hx01 := ap.x01; have hx02 := ap.x02; have hx12 := ap.x12; have ha0 := ap.a0; have ha1 := ap.a1; have ha2 := ap.a2
  replace M0 := Lib.hid (M0.out.kept (hb.kept (by omega) (by omega)))
  have M1 := Lib.hid hm
  replace O2 := Lib.hid (O2.out.kept (hb.kept (by omega) (by omega)))
  replace HX := Lib.hid (HX.out.kept (hb.kept (by omega) (by have := HX.out.lt; omega)))
  replace HO := Lib.hid (HO.out.trans ho')
  have x2 := HX.out.c2
  clear hm hb ho' ap hx01 hx02 hx12 ha0 ha1 ha2
  go_wp2_with fail
  have hsv2 := HO.out.size
  refine (markI' _ l2 h2 W (k + (P.length : Int) + (S.length : Int)) V2 O2.out hW (by omega)).mono ?_
  rintro e V3 ⟨rfl, hm, hb⟩
  have ho' : Only lo hi V2 V3 := ⟨hb.os, hb.tape, hb.output, hb.size, fun b h3 h4 => hb.block b h3 (fun h5 => h4 ⟨by have := HAP.out.a2.1; omega, by have := HAP.out.a2.2; omega⟩)⟩
  have ap := HAP.out
  have hx01 := ap.x01; have hx02 := ap.x02; have hx12 := ap.x12; have ha0 := ap.a0; have ha1 := ap.a1; have ha2 := ap.a2
  replace M0 := Lib.hid (M0.out.kept (hb.kept (by omega) (by omega)))
  replace M1 := Lib.hid (M1.out.kept (hb.kept (by omega) (by omega)))
  have M2 := Lib.hid hm
  replace HX := Lib.hid (HX.out.kept (hb.kept (by omega) (by have := HX.out.lt; omega)))
  replace HO := Lib.hid (HO.out.trans ho')
  have x2 := HX.out.c2
  clear hm hb ho' ap hx01 hx02 hx12 ha0 ha1 ha2
  go_wp2_with fail
  go_ret
  refine ⟨congrArg (fun z => Ending.returned (Value.int .i64 z)) (by omega), ⟨Nat.le_trans hh HO.out.size, l0, h0, l1, h1, l2, h2, HAP.out, M0.out, ?_, ?_⟩, HO.out⟩
  · rw [show k.toNat + P.length = (k + (P.length : Int)).toNat by omega]; exact M1.out
  · rw [show k.toNat + P.length + S.length = (k + (P.length : Int) + (S.length : Int)).toNat by omega]; exact M2.out

set_option maxRecDepth 100000 in
set_option maxHeartbeats 2000000 in
theorem heldC (a b c : Value) (lo hi n0 n1 n2 : Nat) (k : Int) (w : World) (h : MarkC w lo hi a b c n0 n1 n2 k.toNat) (h0 : n0 ≤ 1099511627776) (h1 : n1 ≤ 1099511627776) (h2 : n2 ≤ 1099511627776) (hk : 0 ≤ k ∧ k + n0 + n1 + n2 ≤ 1099511627776) :
    Calls Try.prog 29 #[.agg #[a, b, c], .int .i64 k] w fun e w' => e = .returned (.int .i64 (k + (n0 + n1 + n2 : Nat))) ∧ Below w.heap.size w w' := by
  obtain ⟨hh, l0, g0, l1, g1, l2, g2, ap, o0, o1, o2⟩ := h.kept (Kept.of_below (below_box2 w (.cells #[a, b, c] 36)) h.1)
  have HX : Hid (CBox (w.alloc (.cells #[a, b, c] 36)) w.heap.size a b c) := Lib.hid (CBox.new _ _ _ _ _)
  have HB : Hid (Below w.heap.size w (w.alloc (.cells #[a, b, c] 36))) := Lib.hid (below_box2 _ _)
  have O0 := Lib.hid o0
  have O1 : Hid (MarkI (w.alloc (.cells #[a, b, c] 36)) l1 g1 b n1 (k + (n0 : Int)).toNat) := Lib.hid (by rw [show (k + (n0 : Int)).toNat = k.toNat + n0 by omega]; exact o1)
  have O2 : Hid (MarkI (w.alloc (.cells #[a, b, c] 36)) l2 g2 c n2 (k + (n0 : Int) + (n1 : Int)).toNat) := Lib.hid (by rw [show (k + (n0 : Int) + (n1 : Int)).toNat = k.toNat + n0 + n1 by omega]; exact o2)
  clear h hh ap o0 o1 o2
  go_enter Try.func29, Try.ntmps29
  go_wp2_with fail
  generalize w.alloc (.cells #[a, b, c] 36) = V0 at *
  have x0 := HX.out.c0; have x1 := HX.out.c1; have x2 := HX.out.c2
  refine (heldI' _ l0 g0 n0 k V0 O0.out h0 (by omega)).mono ?_
  rintro e w' ⟨rfl, rfl⟩
  go_wp2_with fail
  refine (heldI' _ l1 g1 n1 (k + (n0 : Int)) V0 O1.out h1 (by omega)).mono ?_
  rintro e w' ⟨rfl, rfl⟩
  go_wp2_with fail
  refine (heldI' _ l2 g2 n2 (k + (n0 : Int) + (n1 : Int)) V0 O2.out h2 (by omega)).mono ?_
  rintro e w' ⟨rfl, rfl⟩
  go_wp2_with fail
  go_ret
  exact ⟨congrArg (fun z => Ending.returned (Value.int .i64 z)) (by omega), HB.out⟩

set_option maxRecDepth 100000 in
set_option maxHeartbeats 2000000 in
theorem szC_yes (A0 A1 A2 : Option Addr) (n0 n1 n2 c0 c1 c2 : Nat) (left : Int) (w : World) (h : (n0 + n1 + n2 : Int) ≤ left) (hl : left ≤ 1048576) :
    Calls Try.prog 20 #[.agg #[.slice A0 n0 c0, .slice A1 n1 c1, .slice A2 n2 c2], .int .i64 left] w fun e w' => e = .returned (.int .i64 (left - n0 - n1 - n2)) ∧ Below w.heap.size w w' := by
  go_enter Try.func20, Try.ntmps20
  go_wp2_with fail
  refine (szI_yes A0 n0 c0 left _ (by omega) hl).mono ?_
  rintro e w1 ⟨rfl, rfl⟩
  have q1 : ¬ left - (n0 : Int) < 0 := by omega
  go_wp2_with fail
  refine (szI_yes A1 n1 c1 (left - (n0 : Int)) _ (by omega) (by omega)).mono ?_
  rintro e w1 ⟨rfl, rfl⟩
  have q2 : ¬ left - (n0 : Int) - (n1 : Int) < 0 := by omega
  go_wp2_with fail
  refine (szI_yes A2 n2 c2 (left - (n0 : Int) - (n1 : Int)) _ (by omega) (by omega)).mono ?_
  rintro e w1 ⟨rfl, rfl⟩
  have q3 : ¬ left - (n0 : Int) - (n1 : Int) - (n2 : Int) < 0 := by omega
  go_wp2_with fail
  go_ret
  exact ⟨rfl, below_box2 _ _⟩

set_option maxRecDepth 100000 in
set_option maxHeartbeats 2000000 in
theorem szC_no (A0 A1 A2 : Option Addr) (n0 n1 n2 c0 c1 c2 : Nat) (left : Int) (w : World) (h : left < (n0 + n1 + n2 : Int)) (hl0 : 0 ≤ left) (hl : left ≤ 1048576) (h0 : n0 ≤ 9223372036854775807) (h1 : n1 ≤ 9223372036854775807) (h2 : n2 ≤ 9223372036854775807) :
    Calls Try.prog 20 #[.agg #[.slice A0 n0 c0, .slice A1 n1 c1, .slice A2 n2 c2], .int .i64 left] w fun e w' => e = .returned (.int .i64 (-1)) ∧ Below w.heap.size w w' := by
  by_cases k0 : left < (n0 : Int)
  · go_enter Try.func20, Try.ntmps20
    go_wp2_with fail
    refine (szI_no A0 n0 c0 left _ k0 hl0 hl h0).mono ?_
    rintro e w1 ⟨rfl, rfl⟩
    go_wp2_with fail
    go_ret
    exact ⟨rfl, below_box2 _ _⟩
  · have q1 : ¬ left - (n0 : Int) < 0 := by omega
    by_cases k1 : left - (n0 : Int) < (n1 : Int)
    · go_enter Try.func20, Try.ntmps20
      go_wp2_with fail
      refine (szI_yes A0 n0 c0 left _ (by omega) hl).mono ?_
      rintro e w1 ⟨rfl, rfl⟩
      go_wp2_with fail
      refine (szI_no A1 n1 c1 (left - (n0 : Int)) _ k1 (by omega) (by omega) h1).mono ?_
      rintro e w1 ⟨rfl, rfl⟩
      go_wp2_with fail
      go_ret
      exact ⟨rfl, below_box2 _ _⟩
    · have q2 : ¬ left - (n0 : Int) - (n1 : Int) < 0 := by omega
      have k2 : left - (n0 : Int) - (n1 : Int) < (n2 : Int) := by omega
      go_enter Try.func20, Try.ntmps20
      go_wp2_with fail
      refine (szI_yes A0 n0 c0 left _ (by omega) hl).mono ?_
      rintro e w1 ⟨rfl, rfl⟩
      go_wp2_with fail
      refine (szI_yes A1 n1 c1 (left - (n0 : Int)) _ (by omega) (by omega)).mono ?_
      rintro e w1 ⟨rfl, rfl⟩
      go_wp2_with fail
      refine (szI_no A2 n2 c2 (left - (n0 : Int) - (n1 : Int)) _ k2 (by omega) (by omega) h2).mono ?_
      rintro e w1 ⟨rfl, rfl⟩
      go_wp2_with fail
      go_ret
      exact ⟨rfl, below_box2 _ _⟩

end Go.Proofs.Ytohbgfmjnanlkaa
