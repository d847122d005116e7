/- Curves in a law: a struct of branches and a matrix that comes in, contracts of laws.toCurve, eqCurve, markCurve, heldCurve, szCurve. Conditions: stated at each theorem. -/
import Derived.Test.YtohbgfmjnanlkaaCuK
namespace Go.Proofs.Ytohbgfmjnanlkaa
open Go.ChangeShapes Go.WideShapes Go.ChangeAt Go.RowKit Go.Joins Go.Deep
set_option linter.unusedVariables false
set_option linter.unusedSimpArgs false

/-- Block h begins with the cells a, b, which may be written. -/
structure UBox (w : World) (h : Nat) (a b : Value) : Prop where
  c0 : w.cell? ⟨h, 0, none⟩ = some a
  c1 : w.cell? ⟨h, 1, none⟩ = some b
  f0 : w.frozen? ⟨h, 0, none⟩ = false
  f1 : w.frozen? ⟨h, 1, none⟩ = false
  lt : h < w.heap.size
theorem UBox.of_block {w w' : World} {h : Nat} {a b : Value} (k : UBox w h a b) (e : w'.heap[h]? = w.heap[h]?) (hs : w.heap.size ≤ w'.heap.size) : UBox w' h a b := by
  have hc : ∀ o, w'.cell? ⟨h, o, none⟩ = w.cell? ⟨h, o, none⟩ := fun o => by simp [World.cell?, e]
  have hf : ∀ o, w'.frozen? ⟨h, o, none⟩ = w.frozen? ⟨h, o, none⟩ := fun o => by simp [World.frozen?, e]
  exact ⟨by rw [hc]; exact k.c0, by rw [hc]; exact k.c1, by rw [hf]; exact k.f0, by rw [hf]; exact k.f1, Nat.lt_of_lt_of_le k.lt hs⟩
theorem UBox.stay {w w' : World} {h : Nat} {a b : Value} (k : UBox w h a b) (hb : Below w.heap.size w w') : UBox w' h a b := k.of_block (hb.block h k.lt) hb.size
theorem UBox.kept {w w' : World} {h : Nat} {a b : Value} (k : UBox w h a b) (hk : Kept h (h + 1) w w') : UBox w' h a b := k.of_block (hk.block h (Nat.le_refl _) (Nat.lt_succ_self _)) hk.size
theorem UBox.other {w : World} {h g o : Nat} {a b : Value} (k : UBox w h a b) (hne : h ≠ g) (u : Value) : UBox (w.setCell ⟨g, o, none⟩ u) h a b := k.of_block (Below.heap_setCell _ _ _ _ (by simpa using hne)) (by simp [World.setCell])
theorem UBox.set0 {w : World} {h : Nat} {a b : Value} (k : UBox w h a b) (u : Value) : UBox (w.setCell ⟨h, 0, none⟩ u) h u b := by
  obtain ⟨k0, k1, k3, k4, k6⟩ := k
  exact ⟨by go_simp, by go_simp, by go_simp, by go_simp, by simpa [World.setCell] using k6⟩
theorem UBox.set1 {w : World} {h : Nat} {a b : Value} (k : UBox w h a b) (u : Value) : UBox (w.setCell ⟨h, 1, none⟩ u) h a u := by
  obtain ⟨k0, k1, k3, k4, k6⟩ := k
  exact ⟨by go_simp, by go_simp, by go_simp, by go_simp, by simpa [World.setCell] using k6⟩
theorem UBox.new (w : World) (a b : Value) (t : TypeId) : UBox (w.alloc (.cells #[a, b] t)) w.heap.size a b := ⟨by go_simp, by go_simp, by go_simp, by go_simp, by simp⟩
theorem UBox.alloc {w : World} {h : Nat} {a b : Value} (k : UBox w h a b) (o : Obj) : UBox (w.alloc o) h a b := k.stay (below_box2 w o)

theorem OwnQ.stay {w w' : World} {lo hi : Nat} {v : Value} {L : List (List Int)} (h : OwnQ w lo hi v L) (hb : Below w.heap.size w w') : OwnQ w' lo hi v L := by
  have hh : hi ≤ w.heap.size := by obtain ⟨us, ls, hs, h⟩ := h; exact h.2.2.1
  exact h.kept (Kept.of_below hb hh)
theorem OwnBs.stay {w w' : World} {lo hi : Nat} {v : Value} {L : List (List Int)} (h : OwnBs w lo hi v L) (hb : Below w.heap.size w w') : OwnBs w' lo hi v L := by
  have hh : hi ≤ w.heap.size := by obtain ⟨us, ls, hs, h⟩ := h; exact h.2.2.1
  exact h.kept (Kept.of_below hb hh)
theorem OwnQ.top {w : World} {lo hi : Nat} {v : Value} {L : List (List Int)} (h : OwnQ w lo hi v L) : hi ≤ w.heap.size := by obtain ⟨us, ls, hs, h⟩ := h; exact h.2.2.1
theorem OwnBs.top {w : World} {lo hi : Nat} {v : Value} {L : List (List Int)} (h : OwnBs w lo hi v L) : hi ≤ w.heap.size := by obtain ⟨us, ls, hs, h⟩ := h; exact h.2.2.1
theorem OwnQ.form {w : World} {lo hi : Nat} {v : Value} {L : List (List Int)} (h : OwnQ w lo hi v L) : ∃ A c, v = .slice A L.length c := by
  obtain ⟨us, ls, hs, h⟩ := h; obtain ⟨A, c, e, _⟩ := row_form h.1; exact ⟨A, c, e⟩
theorem OwnBs.form {w : World} {lo hi : Nat} {v : Value} {L : List (List Int)} (h : OwnBs w lo hi v L) : ∃ A c, v = .slice A L.length c := by
  obtain ⟨us, ls, hs, h⟩ := h; obtain ⟨A, c, e, _⟩ := row_form h.1; exact ⟨A, c, e⟩
/-- Branches and a matrix are read. -/
def ReadU (w : World) (B : Nat) (a b : Value) (Z M : List (List Int)) : Prop := ReadQ w B a Z ∧ ReadQ w B b M
def ReadUW (w : World) (B : Nat) (a b : Value) (Z M : List (List Int)) : Prop := ReadQW w B a Z ∧ ReadQW w B b M
theorem ReadU.below {w w' : World} {B : Nat} {a b : Value} {Z M : List (List Int)} (h : ReadU w B a b Z M) (hb : Below B w w') : ReadU w' B a b Z M := ⟨h.1.below hb, h.2.below hb⟩
theorem ReadU.more {w : World} {B B' : Nat} {a b : Value} {Z M : List (List Int)} (h : ReadU w B a b Z M) (hB : B ≤ B') : ReadU w B' a b Z M := ⟨h.1.more hB, h.2.more hB⟩
theorem ReadUW.below {w w' : World} {B : Nat} {a b : Value} {Z M : List (List Int)} (h : ReadUW w B a b Z M) (hb : Below B w w') : ReadUW w' B a b Z M := ⟨h.1.below hb, h.2.below hb⟩
theorem ReadUW.more {w : World} {B B' : Nat} {a b : Value} {Z M : List (List Int)} (h : ReadUW w B a b Z M) (hB : B ≤ B') : ReadUW w B' a b Z M := ⟨h.1.more hB, h.2.more hB⟩
/-- Two intervals within one, apart. -/
structure Apart2 (lo hi l0 h0 l1 h1 : Nat) : Prop where
  a0 : lo ≤ l0 ∧ h0 ≤ hi
  a1 : lo ≤ l1 ∧ h1 ≤ hi
  x : h0 ≤ l1 ∨ h1 ≤ l0
def OwnU (w : World) (lo hi : Nat) (a b : Value) (Z M : List (List Int)) : Prop := hi ≤ w.heap.size ∧ ∃ l0 h0 l1 h1, Apart2 lo hi l0 h0 l1 h1 ∧ OwnBs w l0 h0 a Z ∧ OwnQ w l1 h1 b M
def MarkU (w : World) (lo hi : Nat) (a b : Value) (n0 n1 : Nat) (m0 m1 : Nat → Nat) (k : Nat) : Prop := hi ≤ w.heap.size ∧ ∃ l0 h0 l1 h1, Apart2 lo hi l0 h0 l1 h1 ∧ MarkBs w l0 h0 a n0 m0 k ∧ MarkQ w l1 h1 b n1 m1 (k + sumTo m0 n0)
theorem OwnU.kept {w w' : World} {lo hi : Nat} {a b : Value} {Z M : List (List Int)} (h : OwnU w lo hi a b Z M) (k : Kept lo hi w w') : OwnU w' lo hi a b Z M := by
  obtain ⟨hh, l0, h0, l1, h1, ap, o0, o1⟩ := h
  exact ⟨Nat.le_trans hh k.size, l0, h0, l1, h1, ap, o0.kept (k.inner ap.a0.1 ap.a0.2), o1.kept (k.inner ap.a1.1 ap.a1.2)⟩
theorem MarkU.kept {w w' : World} {lo hi n0 n1 k : Nat} {m0 m1 : Nat → Nat} {a b : Value} (h : MarkU w lo hi a b n0 n1 m0 m1 k) (kk : Kept lo hi w w') : MarkU w' lo hi a b n0 n1 m0 m1 k := by
  obtain ⟨hh, l0, h0, l1, h1, ap, o0, o1⟩ := h
  exact ⟨Nat.le_trans hh kk.size, l0, h0, l1, h1, ap, o0.kept (kk.inner ap.a0.1 ap.a0.2), o1.kept (kk.inner ap.a1.1 ap.a1.2)⟩
theorem OwnU.stay {w w' : World} {lo hi : Nat} {a b : Value} {Z M : List (List Int)} (h : OwnU w lo hi a b Z M) (hb : Below w.heap.size w w') : OwnU w' lo hi a b Z M := h.kept (Kept.of_below hb h.1)
theorem MarkU.stay {w w' : World} {lo hi n0 n1 k : Nat} {m0 m1 : Nat → Nat} {a b : Value} (h : MarkU w lo hi a b n0 n1 m0 m1 k) (hb : Below w.heap.size w w') : MarkU w' lo hi a b n0 n1 m0 m1 k := h.kept (Kept.of_below hb h.1)
theorem OwnU.reads {w : World} {lo hi : Nat} {a b : Value} {Z M : List (List Int)} (h : OwnU w lo hi a b Z M) : ReadU w w.heap.size a b Z M := by
  obtain ⟨hh, l0, h0, l1, h1, ap, o0, o1⟩ := h
  exact ⟨o0.reads, o1.reads⟩
theorem OwnU.form {w : World} {lo hi : Nat} {a b : Value} {Z M : List (List Int)} (h : OwnU w lo hi a b Z M) : ∃ A0 c0 A1 c1, a = .slice A0 Z.length c0 ∧ b = .slice A1 M.length c1 := by
  obtain ⟨hh, l0, h0, l1, h1, ap, o0, o1⟩ := h
  obtain ⟨A0, c0, rfl⟩ := o0.form
  obtain ⟨A1, c1, rfl⟩ := o1.form
  exact ⟨A0, c0, A1, c1, rfl, rfl⟩
/-- An answer: a curve and a code. -/
def AnsUC (w : World) (Z M : List (List Int)) (C : Int) (e : Ending) (w' : World) : Prop := ∃ a b, e = .returned (.tuple #[.agg #[a, b], .int .i64 C]) ∧ OwnU w' w.heap.size w'.heap.size a b Z M ∧ Below w.heap.size w w'
theorem MarkI.stayU {w w' : World} {lo hi n m : Nat} {v : Value} (h : MarkI w lo hi v n m) (hb : Below w.heap.size w w') : MarkI w' lo hi v n m := h.kept (Kept.of_below hb h.2.2)
theorem size_setU (w : World) (p : Addr) (u : Value) : (w.setCell p u).heap.size = w.heap.size := by simp [World.setCell]

set_option maxRecDepth 100000 in
set_option maxHeartbeats 2000000 in
theorem toU (a b : Value) (Z M : List (List Int)) (w : World) (hr : ReadUW w w.heap.size a b Z M) (hZ : szTot Z ≤ 1048576) (hM : szTot M ≤ 1048576) :
    Calls Try.prog 32 #[.agg #[a, b]] w fun e w' => ∃ x y, e = .returned (.agg #[x, y]) ∧ OwnU w' w.heap.size w'.heap.size x y Z M ∧ Below w.heap.size w w' := by
  have HR := Lib.hid hr
  obtain ⟨V0, HE⟩ : ∃ V, V = ((w.alloc (.cells #[a, b] 51)).alloc (.cells #[.slice none 0 0, .slice none 0 0] 56)).alloc (.cells #[.slice none 0 0, .slice none 0 0] 56) := ⟨_, rfl⟩
  have hb0 : Below w.heap.size w V0 := by rw [HE]; exact ((below_box2 _ _).alloc (by simp) _).alloc (by simp; omega) _
  have hx : UBox V0 w.heap.size a b := by rw [HE]; exact ((UBox.new w a b _).alloc _).alloc _
  have hy : UBox V0 (w.heap.size + 1) (.slice none 0 0) (.slice none 0 0) := by
    have := (UBox.new (w.alloc (.cells #[a, b] 51)) (.slice none 0 0) (.slice none 0 0) 56).alloc (.cells #[.slice none 0 0, .slice none 0 0] 56)
    rw [HE]; simpa using this
  have hz : UBox V0 (w.heap.size + 2) (.slice none 0 0) (.slice none 0 0) := by
    have := UBox.new ((w.alloc (.cells #[a, b] 51)).alloc (.cells #[.slice none 0 0, .slice none 0 0] 56)) (.slice none 0 0) (.slice none 0 0) 56
    rw [HE]; simpa using this
  have hs0 : w.heap.size + 3 ≤ V0.heap.size := by rw [HE]; simp
  have HEQ := Lib.hid HE; have HB0 := Lib.hid hb0
  have hz1 := (szTot_facts hZ).1; have hz2 := (szTot_facts hZ).2.1; have hm1 := (szTot_facts hM).1; have hm2 := (szTot_facts hM).2.1
  have HZ2 := Lib.hid hz2; have HM2 := Lib.hid hm2
  have HX := Lib.hid hx; have HY := Lib.hid hy; have HZB := Lib.hid hz
  have x0 := hx.c0; have x1 := hx.c1; have x4 := hx.lt
  have y0 := hy.c0; have y1 := hy.c1; have y2 := hy.f0; have y3 := hy.f1; have y4 := hy.lt
  have k0 := hz.c0; have k1 := hz.c1; have k2 := hz.f0; have k3 := hz.f1; have k4 := hz.lt
  clear hr hb0 hx hy hz HE hz2 hm2
  go_enter Try.func32, Try.ntmps32
  go_wp2_with fail
  rw [← HEQ.out]
  refine (toBs a Z V0 ((HR.out.1.below HB0.out).more HB0.out.size) hz1 HZ2.out).mono ?_
  rintro e w1 ⟨v1, rfl, ho1, hb1⟩
  obtain ⟨A1, c1, rfl⟩ := ho1.form
  have hs1 := hb1.size
  clear x0 x1 x4 y0 y1 y2 y3 y4 k0 k1 k2 k3 k4
  replace HX := Lib.hid (HX.out.stay hb1); replace HY := Lib.hid (HY.out.stay hb1); replace HZB := Lib.hid (HZB.out.stay hb1)
  have x0 := HX.out.c0; have x1 := HX.out.c1; have x4 := HX.out.lt
  have y0 := HY.out.c0; have y1 := HY.out.c1; have y2 := HY.out.f0; have y3 := HY.out.f1; have y4 := HY.out.lt
  have k0 := HZB.out.c0; have k1 := HZB.out.c1; have k2 := HZB.out.f0; have k3 := HZB.out.f1; have k4 := HZB.out.lt
  have O1 := Lib.hid (ho1.kept (kept_set w1 (p := ⟨w.heap.size + 2, 0, none⟩) (Or.inl (by show w.heap.size + 2 < _; omega)) (.slice A1 Z.length c1)))
  have HB1 := Lib.hid ((HB0.out.trans (hb1.mono HB0.out.size)).setCell (p := ⟨w.heap.size + 2, 0, none⟩) (by show w.heap.size ≤ w.heap.size + 2; omega) (.slice A1 Z.length c1))
  obtain ⟨W1, HE1⟩ : ∃ V, V = w1.setCell ⟨w.heap.size + 2, 0, none⟩ (.slice A1 Z.length c1) := ⟨_, rfl⟩
  rw [← HE1] at O1 HB1
  have HZ1 : Hid (W1.heap.size = w1.heap.size) := Lib.hid (by rw [HE1, size_setU])
  have HX1 : Hid (UBox W1 w.heap.size a b) := Lib.hid (by rw [HE1]; exact HX.out.other (by omega) _)
  have HY1 : Hid (UBox W1 (w.heap.size + 1) (.slice none 0 0) (.slice none 0 0)) := Lib.hid (by rw [HE1]; exact HY.out.other (by omega) _)
  have HZ3 : Hid (UBox W1 (w.heap.size + 2) (.slice A1 Z.length c1) (.slice none 0 0)) := Lib.hid (by rw [HE1]; exact HZB.out.set0 _)
  have HEQ1 := Lib.hid HE1
  clear HE1 ho1 hb1
  go_wp2_with fail
  rw [← HEQ1.out]
  have hs2 := HZ1.out
  refine (toQ b M W1 ((HR.out.2.below HB1.out).more HB1.out.size) hm1 HM2.out).mono ?_
  rintro e w2 ⟨v2, rfl, ho2, hb2⟩
  obtain ⟨A2, c2, rfl⟩ := ho2.form
  have hs3 := hb2.size
  clear x0 x1 x4 y0 y1 y2 y3 y4 k0 k1 k2 k3 k4
  have hX := HX1.out.stay hb2; have hY := HY1.out.stay hb2; have hZ := HZ3.out.stay hb2
  have HY2 := Lib.hid hY
  have x0 := hX.c0; have x1 := hX.c1; have x4 := hX.lt
  have y0 := hY.c0; have y1 := hY.c1; have y2 := hY.f0; have y3 := hY.f1; have y4 := hY.lt
  have k0 := hZ.c0; have k1 := hZ.c1; have k2 := hZ.f0; have k3 := hZ.f1; have k4 := hZ.lt
  have cr := ((hY.other (g := w.heap.size + 2) (o := 1) (by omega) (.slice A2 M.length c2)).set0 (.slice A1 Z.length c1)).set1 (.slice A2 M.length c2)
  have cr0 := cr.c0; have cr1 := cr.c1
  have O3 := Lib.hid (O1.out.stay hb2); have O4 := Lib.hid ho2
  have HB2 := Lib.hid (HB1.out.trans (hb2.mono HB1.out.size))
  clear hX hY hZ ho2 hb2 cr
  go_wp2_with fail
  have kq : ∀ lo hi, w.heap.size + 2 < lo → Kept lo hi w2 (((w2.setCell ⟨w.heap.size + 2, 1, none⟩ (.slice A2 M.length c2)).setCell ⟨w.heap.size + 1, 0, none⟩ (.slice A1 Z.length c1)).setCell ⟨w.heap.size + 1, 1, none⟩ (.slice A2 M.length c2)) := fun lo hi h =>
    ((kept_set w2 (p := ⟨w.heap.size + 2, 1, none⟩) (Or.inl (by show w.heap.size + 2 < _; omega)) _).trans (kept_set _ (p := ⟨w.heap.size + 1, 0, none⟩) (Or.inl (by show w.heap.size + 1 < _; omega)) _)).trans (kept_set _ (p := ⟨w.heap.size + 1, 1, none⟩) (Or.inl (by show w.heap.size + 1 < _; omega)) _)
  refine bodyPost_ret (v := .agg #[.slice A1 Z.length c1, .slice A2 M.length c2]) (by simp [results, Try.results32, go_sem, cr0, cr1]) rfl ⟨_, _, rfl, ⟨Nat.le_refl _, V0.heap.size, w1.heap.size, W1.heap.size, w2.heap.size, ⟨⟨by omega, by rw [size_setU, size_setU, size_setU]; omega⟩, ⟨by omega, by rw [size_setU, size_setU, size_setU]; omega⟩, by omega⟩, O3.out.kept (kq _ _ (by omega)), O4.out.kept (kq _ _ (by omega))⟩, ?_⟩
  exact ((HB2.out.setCell (p := ⟨w.heap.size + 2, 1, none⟩) (by show w.heap.size ≤ w.heap.size + 2; omega) _).setCell (p := ⟨w.heap.size + 1, 0, none⟩) (by show w.heap.size ≤ w.heap.size + 1; omega) _).setCell (p := ⟨w.heap.size + 1, 1, none⟩) (by show w.heap.size ≤ w.heap.size + 1; omega) _
theorem toU_drew (a b : Value) (Z M : List (List Int)) (w : World) (hr : ReadUW w w.heap.size a b Z M) (hZ : szTot Z ≤ 1048576) (hM : szTot M ≤ 1048576) :
    Calls Try.prog 32 #[.agg #[a, b]] w.drew fun e w' => ∃ x y, e = .returned (.agg #[x, y]) ∧ OwnU w' w.heap.size w'.heap.size x y Z M ∧ Below w.heap.size w w' := by
  refine (toU a b Z M w.drew hr hZ hM).mono ?_
  rintro e w' ⟨x, y, rfl, h1, h2⟩
  exact ⟨x, y, rfl, h1, ⟨h2.os, h2.tape, h2.output, h2.size, h2.block⟩⟩

set_option maxRecDepth 100000 in
set_option maxHeartbeats 2000000 in
theorem eqU (a b a' b' : Value) (Z M : List (List Int)) (w : World) (hr : ReadU w w.heap.size a b Z M) (hr' : ReadU w w.heap.size a' b' Z M) (hZ1 : Z.length ≤ 1048576) (hZ2 : ∀ k, lens Z k ≤ 1048576) (hM1 : M.length ≤ 1048576) (hM2 : ∀ k, lens M k ≤ 1048576) :
    Calls Try.prog 34 #[.agg #[a, b], .agg #[a', b']] w fun e w' => e = .returned (.bool true) ∧ Below w.heap.size w w' := by
  obtain ⟨V0, HE⟩ : ∃ V, V = (w.alloc (.cells #[a, b] 56)).alloc (.cells #[a', b'] 56) := ⟨_, rfl⟩
  have hB : Below w.heap.size w V0 := by rw [HE]; exact ((Below.refl _ _).alloc (Nat.le_refl _) _).alloc (by simp) _
  have hx : UBox V0 w.heap.size a b := by rw [HE]; exact (UBox.new w a b _).alloc _
  have hy : UBox V0 (w.heap.size + 1) a' b' := by have := UBox.new (w.alloc (.cells #[a, b] 56)) a' b' 56; rw [HE]; simpa using this
  have HB := Lib.hid hB
  have HR := Lib.hid ((hr.below hB).more hB.size)
  have HR' := Lib.hid ((hr'.below hB).more hB.size)
  have x0 := hx.c0; have y0 := hy.c0; have x4 := hx.lt; have y4 := hy.lt
  have HX := Lib.hid hx; have HY := Lib.hid hy; have HEQ := Lib.hid HE
  have HZ2 := Lib.hid hZ2; have HM2 := Lib.hid hM2
  clear hr hr' hB hx hy HE hZ2 hM2
  go_enter Try.func34, Try.ntmps34
  go_wp2_with fail
  rw [← HEQ.out]
  refine (eqBs _ _ Z V0 HR.out.1 HR'.out.1 hZ1 HZ2.out).mono ?_
  rintro e V1 ⟨rfl, hb⟩
  replace HX := Lib.hid (HX.out.stay hb); replace HY := Lib.hid (HY.out.stay hb)
  replace HR := Lib.hid ((HR.out.below hb).more hb.size); replace HR' := Lib.hid ((HR'.out.below hb).more hb.size)
  replace HB := Lib.hid (HB.out.trans (hb.mono HB.out.size))
  clear x0 y0 x4 y4 hb
  have x1 := HX.out.c1; have y1 := HY.out.c1; have x4 := HX.out.lt; have y4 := HY.out.lt
  go_wp2_with fail
  refine (eqQ _ _ M V1 V1.heap.size HR.out.2 HR'.out.2 (by omega) (fun k => Nat.le_trans (HM2.out k) (by omega))).mono ?_
  rintro e V2 ⟨rfl, hb⟩
  replace HB := Lib.hid (HB.out.trans (hb.mono HB.out.size))
  clear hb x1 y1 x4 y4
  go_wp2_with fail
  go_ret
  exact ⟨rfl, HB.out⟩

theorem only_allocU (lo hi : Nat) (w : World) (o : Obj) : Only lo hi w (w.alloc o) := ⟨rfl, rfl, rfl, by simp, fun b hb _ => Below.heap_alloc _ _ _ hb⟩
set_option maxRecDepth 100000 in
set_option maxHeartbeats 2000000 in
theorem markU (a b : Value) (lo hi : Nat) (Z M : List (List Int)) (k : Int) (w : World) (h : OwnU w lo hi a b Z M) (hZ : szTot Z ≤ 1099511627) (hM : szTot M ≤ 1099511627) (hk : 0 ≤ k ∧ k ≤ 274877906944) :
    Calls Try.prog 38 #[.agg #[a, b], .int .i64 k] w fun e w' => e = .returned (.int .i64 (k + (sumTo (lens Z) Z.length + sumTo (lens M) M.length : Nat))) ∧ MarkU w' lo hi a b Z.length M.length (lens Z) (lens M) k.toNat ∧ Only lo hi w w' := by
  obtain ⟨hh, l0, h0, l1, h1, ap, o0, o1⟩ := h
  have hz1 := szTot_facts hZ; have hm1 := szTot_facts hM
  have hz3 := hz1.1; have hz4 := hz1.2.2; have hm3 := hm1.1; have hm4 := hm1.2.2
  have HAP := Lib.hid ap
  obtain ⟨V0, HE⟩ : ∃ V, V = w.alloc (.cells #[a, b] 56) := ⟨_, rfl⟩
  have HK0 : Kept lo hi w V0 := by rw [HE]; exact Kept.of_below (below_box2 _ _) hh
  have HO : Hid (Only lo hi w V0) := Lib.hid (by rw [HE]; exact only_allocU _ _ _ _)
  have hx : UBox V0 w.heap.size a b := by rw [HE]; exact UBox.new _ _ _ _
  have O0 := Lib.hid (o0.kept (HK0.inner ap.a0.1 ap.a0.2)); have O1 := Lib.hid (o1.kept (HK0.inner ap.a1.1 ap.a1.2))
  have HX := Lib.hid hx; have HEQ := Lib.hid HE
  have x0 := hx.c0; have x4 := hx.lt
  clear ap o0 o1 HK0 hz1 hm1 hx HE
  go_enter Try.func38, Try.ntmps38
  go_wp2_with fail
  rw [← HEQ.out]
  refine (markBs _ l0 h0 Z k V0 O0.out (by omega) (by omega) (by omega)).mono ?_
  rintro e V1 ⟨rfl, hm, hb⟩
  have ho' : Only lo hi V0 V1 := ⟨hb.os, hb.tape, hb.output, hb.size, fun b h3 h4 => hb.block b h3 (fun h5 => h4 ⟨by have := HAP.out.a0.1; omega, by have := HAP.out.a0.2; omega⟩)⟩
  have ap := HAP.out
  have hx01 := ap.x; have ha0 := ap.a0; have ha1 := ap.a1; have ht1 := O1.out.top
  have M0 := Lib.hid hm
  replace O1 := Lib.hid (O1.out.kept (hb.kept (by omega) (by omega)))
  replace HX := Lib.hid (HX.out.kept (hb.kept (by omega) (by have := HX.out.lt; omega)))
  replace HO := Lib.hid (HO.out.trans ho')
  clear x0 x4
  have x1 := HX.out.c1; have x4 := HX.out.lt
  have hs1 := ho'.size
  clear hm hb ho' ap hx01 ha0 ha1 ht1
  go_wp2_with fail
  refine (markQ _ l1 h1 M (k + (sumTo (lens Z) Z.length : Int)) V1 O1.out (by omega) (by omega) (by omega)).mono ?_
  rintro e V2 ⟨rfl, hm, hb⟩
  have ho' : Only lo hi V1 V2 := ⟨hb.os, hb.tape, hb.output, hb.size, fun b h3 h4 => hb.block b h3 (fun h5 => h4 ⟨by have := HAP.out.a1.1; omega, by have := HAP.out.a1.2; omega⟩)⟩
  have ap := HAP.out
  have hx01 := ap.x; have ha0 := ap.a0; have ha1 := ap.a1
  have ht0 : h0 ≤ V1.heap.size := by obtain ⟨us, ls, hs, h⟩ := M0.out; exact h.2.2.1
  replace M0 := Lib.hid (M0.out.kept (hb.kept (by omega) (by omega)))
  have M1 := Lib.hid hm
  replace HO := Lib.hid (HO.out.trans ho')
  clear hm hb ho' ap hx01 ha0 ha1 ht0 x1 x4
  go_wp2_with fail
  go_ret
  refine ⟨congrArg (fun z => Ending.returned (Value.int .i64 z)) (by omega), ⟨Nat.le_trans hh HO.out.size, l0, h0, l1, h1, HAP.out, M0.out, ?_⟩, HO.out⟩
  rw [show k.toNat + sumTo (lens Z) Z.length = (k + (sumTo (lens Z) Z.length : Int)).toNat by omega]; exact M1.out

set_option maxRecDepth 100000 in
set_option maxHeartbeats 2000000 in
theorem heldU (a b : Value) (lo hi n0 n1 : Nat) (m0 m1 : Nat → Nat) (k : Int) (w : World) (h : MarkU w lo hi a b n0 n1 m0 m1 k.toNat) (h0 : n0 ≤ 1099511627) (h1 : n1 ≤ 1099511627) (hs0 : sumTo m0 n0 ≤ 1099511627) (hs1 : sumTo m1 n1 ≤ 1099511627) (hk : 0 ≤ k ∧ k ≤ 274877906944) :
    Calls Try.prog 39 #[.agg #[a, b], .int .i64 k] w fun e w' => e = .returned (.int .i64 (k + (sumTo m0 n0 + sumTo m1 n1 : Nat))) ∧ Below w.heap.size w w' := by
  obtain ⟨V0, HE⟩ : ∃ V, V = w.alloc (.cells #[a, b] 56) := ⟨_, rfl⟩
  have hb : Below w.heap.size w V0 := by rw [HE]; exact below_box2 _ _
  have hx : UBox V0 w.heap.size a b := by rw [HE]; exact UBox.new _ _ _ _
  obtain ⟨hh, l0, g0, l1, g1, ap, o0, o1⟩ := h.stay hb
  have HB := Lib.hid hb
  have O0 := Lib.hid o0
  have O1 : Hid (MarkQ V0 l1 g1 b n1 m1 (k + (sumTo m0 n0 : Int)).toNat) := Lib.hid (by rw [show (k + (sumTo m0 n0 : Int)).toNat = k.toNat + sumTo m0 n0 by omega]; exact o1)
  have x0 := hx.c0; have x1 := hx.c1; have x4 := hx.lt
  have HEQ := Lib.hid HE
  clear h hh ap o0 o1 hx hb HE
  go_enter Try.func39, Try.ntmps39
  go_wp2_with fail
  rw [← HEQ.out]
  refine (heldBs _ l0 g0 n0 m0 k V0 O0.out (by omega) (by omega) (by omega)).mono ?_
  rintro e w' ⟨rfl, rfl⟩
  have q1 : ¬ k + (sumTo m0 n0 : Int) < 0 := by omega
  go_wp2_with fail
  refine (heldQ _ l1 g1 n1 m1 (k + (sumTo m0 n0 : Int)) V0 O1.out (by omega) (by omega) (by omega)).mono ?_
  rintro e w' ⟨rfl, rfl⟩
  have q2 : ¬ k + (sumTo m0 n0 : Int) + (sumTo m1 n1 : Int) < 0 := by omega
  go_wp2_with fail
  go_ret
  exact ⟨congrArg (fun z => Ending.returned (Value.int .i64 z)) (by omega), HB.out⟩

theorem szQl_yes (v : Value) (zss : List (List Int)) (left : Int) (w : World) (B : Nat) (hr : ReadQW w B v zss) (h : (szTot zss : Int) ≤ left) (hl : left ≤ 1048576) :
    Calls Try.prog 90 #[v, .int .i64 left] w fun e w' => e = .returned (.int .i64 (left - (szTot zss : Int))) ∧ w = w' := by
  obtain ⟨A, c, rfl, hr⟩ := hr
  have HR := Lib.hid hr
  have HT := Lib.hid h
  clear hr h
  obtain ⟨n, hL⟩ : ∃ n, zss.length = n := ⟨_, rfl⟩
  have hn1 : (n : Int) ≤ left := by have := HT.out; unfold szTot at this; omega
  have HR' : Hid (∀ k, k < n → ∃ a u, A = some a ∧ a.block < B ∧ w.cell? (a.add k) = some u ∧ ReadW w B u (zss.getD k [])) := Lib.hid (by rw [← hL]; exact HR.out)
  have HTot : Hid (szTot zss = n + sumTo (lens zss) n) := Lib.hid (by unfold szTot; rw [hL])
  rw [hL]
  clear hL HR
  go_enter Try.func90, Try.ntmps90
  go_wp2
  go_loop [1, 5] (fun vk vi => ∃ (j : Nat) (y : Int), j ≤ n ∧ vk = .int .i64 y ∧ vi = .int .i64 j ∧ Hid (y = left - (n : Int) - (sumTo (lens zss) j : Int)) ∧ (0 ≤ y ∧ y ≤ left)) (fun _ vi => n - (intOf vi).toNat)
  case atStart => exact ⟨0, _, by omega, rfl, rfl, Lib.hid (by simp [sumTo]), by omega⟩
  case round =>
    obtain ⟨j, y, hj, rfl, rfl, hy, hyb⟩ := hrel
    by_cases hlt : j < n
    · obtain ⟨a, u, rfl, hab, hcell, hrd⟩ := HR'.out j hlt
      obtain ⟨m, hm⟩ : ∃ m, (zss.getD j []).length = m := ⟨_, rfl⟩
      obtain ⟨A2, c2, rfl⟩ := hrd.form hm
      have s1 : sumTo (lens zss) (j + 1) = sumTo (lens zss) j + m := by rw [← hm]; rfl
      have s2 := sumTo_le (lens zss) (show j + 1 ≤ n by omega)
      have hmy : (m : Int) ≤ y := by have := HT.out; have := HTot.out; have := hy.out; omega
      have S1 := Lib.hid s1
      clear hrd hm s1 s2
      go_wp2_with fail
      refine (szI_yes _ m _ y w hmy (by omega)).mono ?_
      rintro e w' ⟨rfl, rfl⟩
      go_wp2_with fail
      go_round
      case rel => exact ⟨j + 1, y - m, by omega, rfl, by go_num, Lib.hid (by have := hy.out; have := S1.out; omega), by omega⟩
      case measure => simp [intOf]; omega
    · obtain rfl : j = n := by omega
      have E : Hid (y = left - (szTot zss : Int)) := Lib.hid (by have := hy.out; have := HTot.out; omega)
      go_wp2
      go_ret
      exact ⟨ret_intQ E.out, rfl⟩

theorem szQl_no (v : Value) (zss : List (List Int)) (left : Int) (w : World) (B : Nat) (hr : ReadQW w B v zss) (h : left < (szTot zss : Int)) (h0 : 0 ≤ left) (hl : left ≤ 1048576) (hn : zss.length ≤ 9223372036854775807) (hm : ∀ i, lens zss i ≤ 9223372036854775807) :
    Calls Try.prog 90 #[v, .int .i64 left] w fun e w' => e = .returned (.int .i64 (-1)) ∧ w = w' := by
  obtain ⟨A, c, rfl, hr⟩ := hr
  have HR := Lib.hid hr
  have HT := Lib.hid h
  have HM := Lib.hid hm
  clear hr h hm
  obtain ⟨n, hL⟩ : ∃ n, zss.length = n := ⟨_, rfl⟩
  rw [hL] at hn
  have HR' : Hid (∀ k, k < n → ∃ a u, A = some a ∧ a.block < B ∧ w.cell? (a.add k) = some u ∧ ReadW w B u (zss.getD k [])) := Lib.hid (by rw [← hL]; exact HR.out)
  have HTot : Hid (szTot zss = n + sumTo (lens zss) n) := Lib.hid (by unfold szTot; rw [hL])
  rw [hL]
  clear hL HR
  by_cases hbig : left < (n : Int)
  · go_enter Try.func90, Try.ntmps90
    go_wp2
    go_ret
    exact ⟨rfl, rfl⟩
  have hn1 : (n : Int) ≤ left := by omega
  clear hbig
  go_enter Try.func90, Try.ntmps90
  go_wp2
  go_loop [1, 5] (fun vk vi => ∃ (j : Nat) (y : Int), j ≤ n ∧ vk = .int .i64 y ∧ vi = .int .i64 j ∧ Hid (y = left - (n : Int) - (sumTo (lens zss) j : Int)) ∧ (0 ≤ y ∧ y ≤ left)) (fun _ vi => n - (intOf vi).toNat)
  case atStart => exact ⟨0, _, by omega, rfl, rfl, Lib.hid (by simp [sumTo]), by omega⟩
  case round =>
    obtain ⟨j, y, hj, rfl, rfl, hy, hyb⟩ := hrel
    by_cases hlt : j < n
    · obtain ⟨a, u, rfl, hab, hcell, hrd⟩ := HR'.out j hlt
      obtain ⟨m, hm⟩ : ∃ m, (zss.getD j []).length = m := ⟨_, rfl⟩
      obtain ⟨A2, c2, rfl⟩ := hrd.form hm
      have s1 : sumTo (lens zss) (j + 1) = sumTo (lens zss) j + m := by rw [← hm]; rfl
      have hm3 : m ≤ 9223372036854775807 := by rw [← hm]; exact HM.out j
      have S1 := Lib.hid s1
      clear hrd hm s1
      by_cases hmy : (m : Int) ≤ y
      · go_wp2_with fail
        refine (szI_yes _ m _ y w hmy (by omega)).mono ?_
        rintro e w' ⟨rfl, rfl⟩
        go_wp2_with fail
        go_round
        case rel => exact ⟨j + 1, y - m, by omega, rfl, by go_num, Lib.hid (by have := hy.out; have := S1.out; omega), by omega⟩
        case measure => simp [intOf]; omega
      · go_wp2_with fail
        refine (szI_no _ m _ y w (by omega) hyb.1 (by omega) hm3).mono ?_
        rintro e w' ⟨rfl, rfl⟩
        go_wp2_with fail
        go_ret
        exact ⟨rfl, rfl⟩
    · obtain rfl : j = n := by omega
      exfalso
      have h1 := hy.out
      have h2 := HTot.out
      have h3 := HT.out
      omega
theorem szBs_yes (v : Value) (zss : List (List Int)) (left : Int) (w : World) (B : Nat) (HBW : B ≤ w.heap.size) (hr : ReadQW w B v zss) (h : (szTot zss : Int) ≤ left) (hl : left ≤ 1048576) :
    Calls Try.prog 89 #[v, .int .i64 left] w fun e w' => e = .returned (.int .i64 (left - (szTot zss : Int))) ∧ Below w.heap.size w w' := by
  obtain ⟨A, c, rfl, hr⟩ := hr
  have HR := Lib.hid hr
  have HT := Lib.hid h
  clear hr h
  obtain ⟨n, hL⟩ : ∃ n, zss.length = n := ⟨_, rfl⟩
  have hn1 : (n : Int) ≤ left := by have := HT.out; unfold szTot at this; omega
  have HR' : Hid (∀ k, k < n → ∃ a u, A = some a ∧ a.block < B ∧ w.cell? (a.add k) = some u ∧ ReadW w B u (zss.getD k [])) := Lib.hid (by rw [← hL]; exact HR.out)
  have HTot : Hid (szTot zss = n + sumTo (lens zss) n) := Lib.hid (by unfold szTot; rw [hL])
  rw [hL]
  clear hL HR
  go_enter Try.func89, Try.ntmps89
  go_wp2
  go_loopw [1, 5] (fun vk vi wr => ∃ (j : Nat) (y : Int), j ≤ n ∧ vk = .int .i64 y ∧ vi = .int .i64 j ∧ Hid (y = left - (n : Int) - (sumTo (lens zss) j : Int)) ∧ (0 ≤ y ∧ y ≤ left) ∧ Hid (Below w.heap.size w wr)) (fun _ vi _ => n - (intOf vi).toNat)
  case atStart => exact ⟨0, _, by omega, rfl, rfl, Lib.hid (by simp [sumTo]), by omega, Lib.hid (Below.refl _ _)⟩
  case round =>
    obtain ⟨j, y, hj, rfl, rfl, hy, hyb, hw⟩ := hrel
    by_cases hlt : j < n
    · obtain ⟨a, u, rfl, hab, hcell, hrd⟩ := HR'.out j hlt
      have hx : wr.cell? (a.add j) = some u := by rw [hw.out.cell (by rw [add_block]; exact Nat.lt_of_lt_of_le hab HBW)]; exact hcell
      obtain ⟨m, hm⟩ : ∃ m, (zss.getD j []).length = m := ⟨_, rfl⟩
      obtain ⟨A2, c2, rfl⟩ := hrd.form hm
      have s1 : sumTo (lens zss) (j + 1) = sumTo (lens zss) j + m := by rw [← hm]; rfl
      have s2 := sumTo_le (lens zss) (show j + 1 ≤ n by omega)
      have hmy : (m : Int) ≤ y := by have := HT.out; have := HTot.out; have := hy.out; omega
      have S1 := Lib.hid s1
      clear hrd hm s1 s2
      go_wp2_with fail
      refine (szB_yes _ m _ y wr hmy (by omega)).mono ?_
      rintro e w' ⟨rfl, hb⟩
      go_wp2_with fail
      go_roundw
      case rel => exact ⟨j + 1, y - m, by omega, rfl, by go_num, Lib.hid (by have := hy.out; have := S1.out; omega), by omega, Lib.hid (hw.out.trans (hb.mono hw.out.size))⟩
      case measure => simp [intOf]; omega
    · obtain rfl : j = n := by omega
      have E : Hid (y = left - (szTot zss : Int)) := Lib.hid (by have := hy.out; have := HTot.out; omega)
      go_wp2
      go_ret
      exact ⟨ret_intQ E.out, hw.out⟩

theorem szBs_no (v : Value) (zss : List (List Int)) (left : Int) (w : World) (B : Nat) (HBW : B ≤ w.heap.size) (hr : ReadQW w B v zss) (h : left < (szTot zss : Int)) (h0 : 0 ≤ left) (hl : left ≤ 1048576) (hn : zss.length ≤ 9223372036854775807) (hm : ∀ i, lens zss i ≤ 9223372036854775807) :
    Calls Try.prog 89 #[v, .int .i64 left] w fun e w' => e = .returned (.int .i64 (-1)) ∧ Below w.heap.size w w' := by
  obtain ⟨A, c, rfl, hr⟩ := hr
  have HR := Lib.hid hr
  have HT := Lib.hid h
  have HM := Lib.hid hm
  clear hr h hm
  obtain ⟨n, hL⟩ : ∃ n, zss.length = n := ⟨_, rfl⟩
  rw [hL] at hn
  have HR' : Hid (∀ k, k < n → ∃ a u, A = some a ∧ a.block < B ∧ w.cell? (a.add k) = some u ∧ ReadW w B u (zss.getD k [])) := Lib.hid (by rw [← hL]; exact HR.out)
  have HTot : Hid (szTot zss = n + sumTo (lens zss) n) := Lib.hid (by unfold szTot; rw [hL])
  rw [hL]
  clear hL HR
  by_cases hbig : left < (n : Int)
  · go_enter Try.func89, Try.ntmps89
    go_wp2
    go_ret
    exact ⟨rfl, Below.refl _ _⟩
  have hn1 : (n : Int) ≤ left := by omega
  clear hbig
  go_enter Try.func89, Try.ntmps89
  go_wp2
  go_loopw [1, 5] (fun vk vi wr => ∃ (j : Nat) (y : Int), j ≤ n ∧ vk = .int .i64 y ∧ vi = .int .i64 j ∧ Hid (y = left - (n : Int) - (sumTo (lens zss) j : Int)) ∧ (0 ≤ y ∧ y ≤ left) ∧ Hid (Below w.heap.size w wr)) (fun _ vi _ => n - (intOf vi).toNat)
  case atStart => exact ⟨0, _, by omega, rfl, rfl, Lib.hid (by simp [sumTo]), by omega, Lib.hid (Below.refl _ _)⟩
  case round =>
    obtain ⟨j, y, hj, rfl, rfl, hy, hyb, hw⟩ := hrel
    by_cases hlt : j < n
    · obtain ⟨a, u, rfl, hab, hcell, hrd⟩ := HR'.out j hlt
      have hx : wr.cell? (a.add j) = some u := by rw [hw.out.cell (by rw [add_block]; exact Nat.lt_of_lt_of_le hab HBW)]; exact hcell
      obtain ⟨m, hm⟩ : ∃ m, (zss.getD j []).length = m := ⟨_, rfl⟩
      obtain ⟨A2, c2, rfl⟩ := hrd.form hm
      have s1 : sumTo (lens zss) (j + 1) = sumTo (lens zss) j + m := by rw [← hm]; rfl
      have hm3 : m ≤ 9223372036854775807 := by rw [← hm]; exact HM.out j
      have S1 := Lib.hid s1
      clear hrd hm s1
      by_cases hmy : (m : Int) ≤ y
      · go_wp2_with fail
        refine (szB_yes _ m _ y wr hmy (by omega)).mono ?_
        rintro e w' ⟨rfl, hb⟩
        go_wp2_with fail
        go_roundw
        case rel => exact ⟨j + 1, y - m, by omega, rfl, by go_num, Lib.hid (by have := hy.out; have := S1.out; omega), by omega, Lib.hid (hw.out.trans (hb.mono hw.out.size))⟩
        case measure => simp [intOf]; omega
      · go_wp2_with fail
        refine (szB_no _ m _ y wr (by omega) hyb.1 (by omega) hm3).mono ?_
        rintro e w' ⟨rfl, hb⟩
        go_wp2_with fail
        go_ret
        exact ⟨rfl, hw.out.trans (hb.mono hw.out.size)⟩
    · obtain rfl : j = n := by omega
      exfalso
      have h1 := hy.out
      have h2 := HTot.out
      have h3 := HT.out
      omega
set_option maxRecDepth 100000 in
set_option maxHeartbeats 2000000 in
theorem szU_yes (a b : Value) (Z M : List (List Int)) (left : Int) (w : World) (hr : ReadUW w w.heap.size a b Z M) (h : (szTot Z : Int) + (szTot M : Int) ≤ left) (hl : left ≤ 1048576) :
    Calls Try.prog 30 #[.agg #[a, b], .int .i64 left] w fun e w' => e = .returned (.int .i64 (left - (szTot Z : Int) - (szTot M : Int))) ∧ Below w.heap.size w w' := by
  obtain ⟨V0, HE⟩ : ∃ V, V = w.alloc (.cells #[a, b] 51) := ⟨_, rfl⟩
  have hb0 : Below w.heap.size w V0 := by rw [HE]; exact below_box2 _ _
  have hx : UBox V0 w.heap.size a b := by rw [HE]; exact UBox.new _ _ _ _
  have HR := Lib.hid ((hr.below hb0).more hb0.size); have HX := Lib.hid hx; have HB := Lib.hid hb0; have HEQ := Lib.hid HE
  have x0 := hx.c0; have x4 := hx.lt
  have q0 : ¬ left - (szTot Z : Int) < 0 := by omega
  have q1 : ¬ left - (szTot Z : Int) - (szTot M : Int) < 0 := by omega
  clear hr hb0 hx HE
  go_enter Try.func30, Try.ntmps30
  go_wp2_with fail
  rw [← HEQ.out]
  refine (szBs_yes _ Z left V0 V0.heap.size (Nat.le_refl _) HR.out.1 (by omega) hl).mono ?_
  rintro e w1 ⟨rfl, hb⟩
  replace HX := Lib.hid (HX.out.stay hb); replace HR := Lib.hid ((HR.out.below hb).more hb.size); replace HB := Lib.hid (HB.out.trans (hb.mono HB.out.size))
  clear hb x0 x4
  have x1 := HX.out.c1; have x4 := HX.out.lt
  go_wp2_with fail
  refine (szQl_yes _ M (left - (szTot Z : Int)) w1 w1.heap.size HR.out.2 (by omega) (by omega)).mono ?_
  rintro e w2 ⟨rfl, rfl⟩
  go_wp2_with fail
  go_ret
  exact ⟨rfl, HB.out⟩
set_option maxRecDepth 100000 in
set_option maxHeartbeats 2000000 in
theorem szU_no (a b : Value) (Z M : List (List Int)) (left : Int) (w : World) (hr : ReadUW w w.heap.size a b Z M) (h : left < (szTot Z : Int) + (szTot M : Int)) (h0 : 0 ≤ left) (hl : left ≤ 1048576)
    (hn0 : Z.length ≤ 9223372036854775807) (hm0 : ∀ i, lens Z i ≤ 9223372036854775807) (hn1 : M.length ≤ 9223372036854775807) (hm1 : ∀ i, lens M i ≤ 9223372036854775807) :
    Calls Try.prog 30 #[.agg #[a, b], .int .i64 left] w fun e w' => e = .returned (.int .i64 (-1)) ∧ Below w.heap.size w w' := by
  obtain ⟨V0, HE⟩ : ∃ V, V = w.alloc (.cells #[a, b] 51) := ⟨_, rfl⟩
  have hb0 : Below w.heap.size w V0 := by rw [HE]; exact below_box2 _ _
  have hx : UBox V0 w.heap.size a b := by rw [HE]; exact UBox.new _ _ _ _
  have HR := Lib.hid ((hr.below hb0).more hb0.size); have HX := Lib.hid hx; have HB := Lib.hid hb0; have HEQ := Lib.hid HE
  have HM0 := Lib.hid hm0; have HM1 := Lib.hid hm1
  have x0 := hx.c0; have x4 := hx.lt
  clear hr hb0 hx HE hm0 hm1
  by_cases k : left < (szTot Z : Int)
  · go_enter Try.func30, Try.ntmps30
    go_wp2_with fail
    rw [← HEQ.out]
    refine (szBs_no _ Z left V0 V0.heap.size (Nat.le_refl _) HR.out.1 k h0 hl hn0 HM0.out).mono ?_
    rintro e w1 ⟨rfl, hb⟩
    replace HB := Lib.hid (HB.out.trans (hb.mono HB.out.size))
    clear hb
    go_wp2_with fail
    go_ret
    exact ⟨rfl, HB.out⟩
  · have q0 : ¬ left - (szTot Z : Int) < 0 := by omega
    go_enter Try.func30, Try.ntmps30
    go_wp2_with fail
    rw [← HEQ.out]
    refine (szBs_yes _ Z left V0 V0.heap.size (Nat.le_refl _) HR.out.1 (by omega) hl).mono ?_
    rintro e w1 ⟨rfl, hb⟩
    replace HX := Lib.hid (HX.out.stay hb); replace HR := Lib.hid ((HR.out.below hb).more hb.size); replace HB := Lib.hid (HB.out.trans (hb.mono HB.out.size))
    clear hb x0 x4
    have x1 := HX.out.c1; have x4 := HX.out.lt
    go_wp2_with fail
    refine (szQl_no _ M (left - (szTot Z : Int)) w1 w1.heap.size HR.out.2 (by omega) (by omega) (by omega) hn1 HM1.out).mono ?_
    rintro e w2 ⟨rfl, rfl⟩
    go_wp2_with fail
    go_ret
    exact ⟨rfl, HB.out⟩

theorem open_fieldU {H : Type} {enc : TypeId × Value → H} {W : World} {B m : Nat} {c0 : Value} {y0 : DataW H × List MemPlace}
    (h1 : DataW.trod enc Try.prog W 0 (fun _ => true) true m 22 [c0] = some y0) (hlt : ∀ x ∈ y0.2, x.block < B) :
    ∃ zs : List Int, ReadW W B c0 zs ∧ zs.length ≤ 9223372036854775807 ∧ ∀ z ∈ zs, (Lit.int .i64 z).wf = true := by
  obtain ⟨d0, p0⟩ := y0
  rcases open_ints Try.underlying22 Try.underlying2 (by kernel_rfl) h1 with ⟨e, _⟩ | ⟨a, len', cap', zs, e, _, hle, hcap, hzl, hx, hcell, hwf⟩
  · simp only [List.cons.injEq, and_true] at e
    subst e
    exact ⟨[], ⟨none, 0, rfl, ⟨rfl, fun k hk => by simp at hk⟩⟩, by simp, by simp⟩
  · simp only [List.cons.injEq, and_true] at e
    subst e
    simp only [if_true] at hzl
    simp only [Prod.mk.injEq] at hx
    have hp : p0 = MemPlace.row a zs.length := hx.2
    unfold maxLen at hcap
    have e2 : (zs.take len').length = len' := by simp; omega
    refine ⟨zs.take len', ⟨some a, cap', by rw [e2], ⟨rfl, fun k hk => ⟨a, rfl, ?_, ?_⟩⟩⟩, by omega, fun z hz => hwf z (List.mem_of_mem_take hz)⟩
    · have := hlt (.cell a.block (a.off + 0)) (by show _ ∈ p0; rw [hp]; exact MemPlace.mem_row.2 ⟨0, by omega, rfl⟩)
      simpa [MemPlace.block] using this
    · rw [hcell k (by omega)]
      have hk2 : k < len' := by omega
      simp [List.getD, hk2]
set_option maxRecDepth 100000 in
theorem open_rowsU {H : Type} {enc : TypeId × Value → H} {W : World} {B m : Nat} {c0 : Value} {y0 : DataW H × List MemPlace}
    (h : DataW.trod enc Try.prog W 0 (fun _ => true) true m 49 [c0] = some y0) (hlt : ∀ x ∈ y0.2, x.block < B) :
    ∃ zss : List (List Int), ReadQW W B c0 zss ∧ zss.length ≤ 9223372036854775807 ∧ (∀ zs ∈ zss, zs.length ≤ 9223372036854775807 ∧ ∀ z ∈ zs, (Lit.int .i64 z).wf = true) := by
  rcases open_slice1 Try.underlying49 (by kernel_rfl) h with ⟨e, _⟩ | ⟨a, len, cap, mm, n, V, D, Pl, e, hb, hl, hm, hmm, hx0, hx⟩
  · simp only [List.cons.injEq, and_true] at e
    subst e
    exact ⟨[], ⟨none, 0, rfl, fun k hk => by simp at hk⟩, by simp, fun zs h => by cases h⟩
  · simp only [List.cons.injEq, and_true] at e
    subst e
    simp only [if_true] at hmm
    subst hmm
    subst hx0
    unfold maxLen at hm
    have each : ∀ r, r < mm → ∃ zs : List Int, ReadW W B (V r) zs ∧ zs.length ≤ 9223372036854775807 ∧ ∀ z ∈ zs, (Lit.int .i64 z).wf = true := fun r hr =>
      open_fieldU (hx r hr).2 (fun x hxp => hlt x (List.mem_append_right _ (List.mem_flatMap.2 ⟨r, List.mem_range.2 hr, hxp⟩)))
    obtain ⟨y, hy⟩ := choose_lt each
    have eL : ((List.range len).map y).length = len := by simp
    refine ⟨(List.range len).map y, ⟨some a, mm, by rw [eL], fun k hk => ?_⟩, by omega, fun zs hz => ?_⟩
    · rw [eL] at hk
      refine ⟨a, V k, rfl, ?_, (hx k (by omega)).1, ?_⟩
      · have := hlt (.cell a.block (a.off + 0)) (List.mem_append_left _ (MemPlace.mem_row.2 ⟨0, by omega, rfl⟩))
        simpa [MemPlace.block] using this
      · have e1 : ((List.range len).map y).getD k [] = y k := by simp [List.getD, hk]
        rw [e1]; exact (hy k (by omega)).1
    · obtain ⟨k, hk, rfl⟩ := List.mem_map.1 hz
      exact (hy k (by have := List.mem_range.1 hk; omega)).2
set_option maxRecDepth 100000 in
theorem open_branchesU {H : Type} {enc : TypeId × Value → H} {W : World} {B m : Nat} {c0 : Value} {f0 : Field} {y0 : DataW H × List MemPlace}
    (hs : Try.prog.underlying 24 = some (.struct #[f0])) (hone : oneCellFields Try.prog #[f0] = true) (hf0 : f0.type = 22)
    (h : DataW.trod enc Try.prog W 0 (fun _ => true) true m 48 [c0] = some y0) (hlt : ∀ x ∈ y0.2, x.block < B) :
    ∃ zss : List (List Int), ReadQW W B c0 zss ∧ zss.length ≤ 9223372036854775807 ∧ (∀ zs ∈ zss, zs.length ≤ 9223372036854775807 ∧ ∀ z ∈ zs, (Lit.int .i64 z).wf = true) := by
  rcases open_slice1 Try.underlying48 (by kernel_rfl) h with ⟨e, _⟩ | ⟨a, len, cap, mm, n, V, D, Pl, e, hb, hl, hm, hmm, hx0, hx⟩
  · simp only [List.cons.injEq, and_true] at e
    subst e
    exact ⟨[], ⟨none, 0, rfl, fun k hk => by simp at hk⟩, by simp, fun zs h => by cases h⟩
  · simp only [List.cons.injEq, and_true] at e
    subst e
    simp only [if_true] at hmm
    subst hmm
    subst hx0
    unfold maxLen at hm
    have each : ∀ r, r < mm → ∃ zs : List Int, ReadW W B (V r) zs ∧ zs.length ≤ 9223372036854775807 ∧ ∀ z ∈ zs, (Lit.int .i64 z).wf = true := fun r hr => by
      obtain ⟨y1, m1, hx1, _, h1⟩ := trod_struct1 hs (hx r hr).2
      obtain ⟨o0, k0⟩ := hone_of hone 0 f0 rfl
      have h2 : DataW.trod enc Try.prog W 0 (fun _ => true) true m1 22 [V r] = some y1 := by rw [← hf0]; simpa [Value.cells, o0, k0] using h1
      have hp : Pl r = y1.2 := by simp only [Prod.mk.injEq] at hx1; exact hx1.2
      exact open_fieldU h2 (fun x hxp => hlt x (List.mem_append_right _ (List.mem_flatMap.2 ⟨r, List.mem_range.2 hr, by rw [hp]; exact hxp⟩)))
    obtain ⟨y, hy⟩ := choose_lt each
    have eL : ((List.range len).map y).length = len := by simp
    refine ⟨(List.range len).map y, ⟨some a, mm, by rw [eL], fun k hk => ?_⟩, by omega, fun zs hz => ?_⟩
    · rw [eL] at hk
      refine ⟨a, V k, rfl, ?_, (hx k (by omega)).1, ?_⟩
      · have := hlt (.cell a.block (a.off + 0)) (List.mem_append_left _ (MemPlace.mem_row.2 ⟨0, by omega, rfl⟩))
        simpa [MemPlace.block] using this
      · have e1 : ((List.range len).map y).getD k [] = y k := by simp [List.getD, hk]
        rw [e1]; exact (hy k (by omega)).1
    · obtain ⟨k, hk, rfl⟩ := List.mem_map.1 hz
      exact (hy k (by have := List.mem_range.1 hk; omega)).2
set_option maxRecDepth 100000 in
theorem open_curve {H : Type} {enc : TypeId × Value → H} {W : World} {B : Nat} {r : Reach} {b0 : Nat} {f0 f1 g0 : Field} {v : Value} {d : DataW H} {p : List MemPlace}
    (hs : Try.prog.underlying 51 = some (.struct #[f0, f1])) (hone : oneCellFields Try.prog #[f0, f1] = true) (hC : Try.prog.cellsOf 51 = 2) (hf : f0.type = 48 ∧ f1.type = 49)
    (hsb : Try.prog.underlying 24 = some (.struct #[g0])) (honeb : oneCellFields Try.prog #[g0] = true) (hg : g0.type = 22)
    (hv : Value.okWide Try.prog W r b0 51 v) (h : DataW.Trod enc Try.prog W 0 (fun _ => true) true 51 v d p) (hlt : ∀ x ∈ p, x.block < B) :
    ∃ (a b : Value) (Z M : List (List Int)), v = .agg #[a, b] ∧ ReadUW W B a b Z M ∧ (Z.length ≤ 9223372036854775807 ∧ ∀ zs ∈ Z, zs.length ≤ 9223372036854775807 ∧ ∀ z ∈ zs, (Lit.int .i64 z).wf = true) ∧ (M.length ≤ 9223372036854775807 ∧ ∀ zs ∈ M, zs.length ≤ 9223372036854775807 ∧ ∀ z ∈ zs, (Lit.int .i64 z).wf = true) := by
  obtain ⟨v0, v1, y0, y1, n, rfl, _, hp, h0, h1⟩ := open_agg2 hs hone hC hv h
  rw [hf.1] at h0; rw [hf.2] at h1
  subst hp
  obtain ⟨Z, hZ, k0⟩ := open_branchesU hsb honeb hg h0 (fun x hx => hlt x (by simp [hx]))
  obtain ⟨M, hM, k1⟩ := open_rowsU h1 (fun x hx => hlt x (by simp [hx]))
  exact ⟨v0, v1, Z, M, rfl, ⟨hZ, hM⟩, k0, k1⟩

end Go.Proofs.Ytohbgfmjnanlkaa
