/- Parts of memory that a call has made and that later calls leave alone: words for the exact laws. Conditions: stated at each theorem. -/
import Derived.Test.YtncgkoanckefmaaOwn
namespace Go.Proofs.Ytncgkoanckefmaa
open Go.ChangeShapes Go.WideShapes Go.ChangeAt Go.RowKit
set_option linter.unusedVariables false

/-- The blocks from lo on and below hi are in w' as in w; no block has gone. -/
structure Kept (lo hi : Nat) (w w' : World) : Prop where
  size : w.heap.size ≤ w'.heap.size
  block : ∀ b, lo ≤ b → b < hi → w'.heap[b]? = w.heap[b]?
theorem Kept.refl (lo hi : Nat) (w : World) : Kept lo hi w w := ⟨Nat.le_refl _, fun _ _ _ => rfl⟩
theorem Kept.trans {lo hi : Nat} {a b c : World} (h : Kept lo hi a b) (k : Kept lo hi b c) : Kept lo hi a c :=
  ⟨Nat.le_trans h.size k.size, fun i h1 h2 => (k.block i h1 h2).trans (h.block i h1 h2)⟩
theorem Kept.of_below {lo hi B : Nat} {w w' : World} (h : Below B w w') (hB : hi ≤ B) : Kept lo hi w w' := ⟨h.size, fun b _ hb => h.block b (by omega)⟩
theorem Kept.drewN (lo hi : Nat) (w : World) (m : Nat) : Kept lo hi w (w.drewN m) := ⟨Nat.le_refl _, fun _ _ _ => rfl⟩

/-- From w to w' blocks from lo on and below hi may have changed, and new ones may have come. -/
structure Only (lo hi : Nat) (w w' : World) : Prop where
  os : w'.os = w.os
  tape : w'.tape = w.tape
  output : w'.output = w.output
  size : w.heap.size ≤ w'.heap.size
  block : ∀ b, b < w.heap.size → ¬(lo ≤ b ∧ b < hi) → w'.heap[b]? = w.heap[b]?
theorem Only.kept {lo hi l h : Nat} {w w' : World} (k : Only lo hi w w') (hd : h ≤ lo ∨ hi ≤ l) (hs : h ≤ w.heap.size) : Kept l h w w' :=
  ⟨k.size, fun b h1 h2 => k.block b (by omega) (by omega)⟩
theorem Only.below {lo hi B : Nat} {w w' : World} (k : Only lo hi w w') (hB : B ≤ lo) (hs : B ≤ w.heap.size) : Below B w w' :=
  ⟨k.os, k.tape, k.output, k.size, fun b hb => k.block b (by omega) (by omega)⟩
theorem Only.refl (lo hi : Nat) (w : World) : Only lo hi w w := ⟨rfl, rfl, rfl, Nat.le_refl _, fun _ _ _ => rfl⟩
theorem Only.trans {lo hi : Nat} {a b c : World} (h : Only lo hi a b) (k : Only lo hi b c) : Only lo hi a c :=
  ⟨k.os.trans h.os, k.tape.trans h.tape, k.output.trans h.output, Nat.le_trans h.size k.size, fun i h1 h2 => (k.block i (by have := h.size; omega) h2).trans (h.block i h1 h2)⟩
theorem Only.of_grown {lo hi : Nat} {w w' : World} {row : Option Nat} (h : w.grownBy w' row) (hr : ∀ k, row = some k → lo ≤ k ∧ k < hi) : Only lo hi w w' :=
  ⟨h.os, h.tape, h.output, h.size, fun b hb hn => h.block b hb (fun e => hn (hr b e.symm))⟩

/-- The slice v of the numbers zs is the call's own: its block is one from lo on and below hi. -/
def OwnI (w : World) (lo hi : Nat) (v : Value) (zs : List Int) : Prop := Own w lo v zs.length (zs.map (.int .i64)) ∧ (∀ k, v.ownBlock = some k → k < hi) ∧ hi ≤ w.heap.size
/-- The slice v of n cells is the call's own and bears the marks k, k + 1, .. -/
def MarkI (w : World) (lo hi : Nat) (v : Value) (n k : Nat) : Prop := (∃ ys, Own w lo v n ys ∧ Marked k n ys) ∧ (∀ k, v.ownBlock = some k → k < hi) ∧ hi ≤ w.heap.size
/-- The slice v, below block B, reads as the numbers zs. -/
def ReadI (w : World) (B : Nat) (v : Value) (zs : List Int) : Prop := ∃ A c, v = .slice A zs.length c ∧ RI w B A zs.length zs ∧ (A = none → c = 0) ∧ zs.length ≤ c ∧ (∀ a, A = some a → ∃ g o, a = ⟨g, o, none⟩) ∧ c ≤ 9223372036854775807
/-- The like, where nothing is known of its capacity. -/
def ReadW (w : World) (B : Nat) (v : Value) (zs : List Int) : Prop := ∃ A c, v = .slice A zs.length c ∧ RI w B A zs.length zs
theorem ReadI.weak {w : World} {B : Nat} {v : Value} {zs : List Int} (h : ReadI w B v zs) : ReadW w B v zs := by
  obtain ⟨A, c, e, h, _⟩ := h; exact ⟨A, c, e, h⟩

theorem own_of_kept {w w' : World} {lo hi n : Nat} {v : Value} {xs : List Value} (h : Own w lo v n xs) (hh : ∀ k, v.ownBlock = some k → k < hi) (k : Kept lo hi w w') : Own w' lo v n xs := by
  refine ⟨h.1, ?_⟩
  rcases h.2 with hn | ⟨g, cap, cur, rfl, hb, hgg, rest⟩
  · exact .inl hn
  · refine .inr ⟨g, cap, cur, rfl, hb, ?_, rest⟩
    rw [k.block g hb (hh g rfl)]
    exact hgg
theorem OwnI.kept {w w' : World} {lo hi : Nat} {v : Value} {zs : List Int} (h : OwnI w lo hi v zs) (k : Kept lo hi w w') : OwnI w' lo hi v zs :=
  ⟨own_of_kept h.1 h.2.1 k, h.2.1, Nat.le_trans h.2.2 k.size⟩
theorem MarkI.kept {w w' : World} {lo hi n m : Nat} {v : Value} (h : MarkI w lo hi v n m) (k : Kept lo hi w w') : MarkI w' lo hi v n m := by
  obtain ⟨⟨ys, h1, h2⟩, h3, h4⟩ := h
  exact ⟨⟨ys, own_of_kept h1 h3 k, h2⟩, h3, Nat.le_trans h4 k.size⟩
theorem OwnI.mk' {w : World} {lo : Nat} {v : Value} {n : Nat} {zs : List Int} (h : Own w lo v n (zs.map (.int .i64))) : OwnI w lo w.heap.size v zs := by
  obtain rfl : zs.length = n := by have := h.len; simpa using this
  exact ⟨h, fun k hk => (h.lt k hk).2, Nat.le_refl _⟩
theorem OwnI.nil (w : World) (lo : Nat) : OwnI w lo w.heap.size (.slice none 0 0) [] := OwnI.mk' (n := 0) (Own.nil w lo)
theorem own_form {w : World} {base n : Nat} {v : Value} {xs : List Value} (h : Own w base v n xs) : ∃ A c, v = .slice A n c := by
  rcases h.2 with ⟨rfl, rfl⟩ | ⟨g, cap, cur, rfl, _⟩
  · exact ⟨none, 0, rfl⟩
  · exact ⟨_, _, rfl⟩
theorem OwnI.form {w : World} {lo hi : Nat} {v : Value} {zs : List Int} (h : OwnI w lo hi v zs) {n : Nat} (hl : zs.length = n) : ∃ A c, v = .slice A n c := by
  subst hl; exact own_form h.1
theorem OwnI.reads {w : World} {lo hi : Nat} {v : Value} {zs : List Int} (h : OwnI w lo hi v zs) : ReadI w w.heap.size v zs := by
  obtain ⟨A, c, rfl⟩ := own_form h.1
  refine ⟨A, c, rfl, h.1.reads, ?_⟩
  rcases h.1.2 with ⟨e, e0⟩ | ⟨g, cap, cur, e, hb, hg, hnc, hcm, hcs, hcur⟩
  · simp only [Value.slice.injEq] at e
    obtain ⟨rfl, h0, rfl⟩ := e
    exact ⟨fun _ => rfl, by omega, (fun a h => by cases h), by omega⟩
  · simp only [Value.slice.injEq] at e
    obtain ⟨rfl, h0, rfl⟩ := e
    unfold maxLen at hcm
    exact ⟨(fun h => by cases h), hnc, (fun a h => by cases h; exact ⟨_, _, rfl⟩), by omega⟩
theorem ReadI.below {w w' : World} {B : Nat} {v : Value} {zs : List Int} (h : ReadI w B v zs) (hb : Below B w w') : ReadI w' B v zs := by
  obtain ⟨A, c, e, h, k⟩ := h; exact ⟨A, c, e, h.below hb, k⟩
theorem ReadI.more {w : World} {B B' : Nat} {v : Value} {zs : List Int} (h : ReadI w B v zs) (hB : B ≤ B') : ReadI w B' v zs := by
  obtain ⟨A, c, e, h, k⟩ := h; exact ⟨A, c, e, h.more hB, k⟩
theorem ReadW.below {w w' : World} {B : Nat} {v : Value} {zs : List Int} (h : ReadW w B v zs) (hb : Below B w w') : ReadW w' B v zs := by
  obtain ⟨A, c, e, h⟩ := h; exact ⟨A, c, e, h.below hb⟩
theorem ReadW.more {w : World} {B B' : Nat} {v : Value} {zs : List Int} (h : ReadW w B v zs) (hB : B ≤ B') : ReadW w B' v zs := by
  obtain ⟨A, c, e, h⟩ := h; exact ⟨A, c, e, h.more hB⟩
theorem ReadW.mk' {w : World} {B n c : Nat} {A : Option Addr} {zs : List Int} (h : RI w B A n zs) : ReadW w B (.slice A n c) zs := by
  obtain rfl := h.1; exact ⟨A, c, rfl, h⟩

theorem toI (v : Value) (zs : List Int) (w : World) (hr : ReadW w w.heap.size v zs) (hn : zs.length ≤ 1048576) :
    Calls Try.prog 33 #[v] w fun e w' => ∃ v', e = .returned v' ∧ OwnI w' w.heap.size w'.heap.size v' zs ∧ Below w.heap.size w w' := by
  obtain ⟨A, c, rfl, hr⟩ := hr
  refine (toInt64S_any A _ c zs w hr hn).mono ?_
  rintro e w' ⟨rfl, ⟨cs, h1, h2, h3⟩, hb⟩
  refine ⟨_, rfl, OwnI.mk' (n := zs.length) ⟨by simp, .inr ⟨w.heap.size, zs.length, cs, rfl, Nat.le_refl _, h1, Nat.le_refl _, by unfold maxLen; omega, by omega, ?_⟩⟩, hb⟩
  apply List.ext_getElem?
  intro i
  by_cases hi : i < zs.length
  · have := h3 i hi
    simp only [Nat.mul_one, List.getElem?_take, hi, if_true, Array.getElem?_toList, this]
    simp [hi]
  · rw [List.getElem?_eq_none (by simp; omega), List.getElem?_eq_none (by simp; omega)]

theorem eqI (v v' : Value) (zs : List Int) (w : World) (B : Nat) (hr : ReadI w B v zs) (hr' : ReadI w B v' zs) (hn : zs.length ≤ 9223372036854775807) :
    Calls Try.prog 22 #[v, v'] w fun e w' => e = .returned (.bool true) ∧ ∃ m, w' = w.drewN m := by
  obtain ⟨A, c, rfl, hr, _⟩ := hr
  obtain ⟨A', c', rfl, hr', _⟩ := hr'
  exact eqInt64S_same A A' _ c c' zs w B hr hr' hn

theorem markI (v : Value) (lo hi : Nat) (zs : List Int) (k : Nat) (w : World) (h : OwnI w lo hi v zs) (hn : zs.length ≤ 1099511627776) (hk : k ≤ 1099511627776) :
    Calls Try.prog 24 #[v, .int .i64 k] w fun e w' => e = .returned (.int .i64 ((k + zs.length : Nat) : Int)) ∧ MarkI w' lo hi v zs.length k ∧ Only lo hi w w' := by
  obtain ⟨h1, h2, h3⟩ := h
  obtain ⟨A, c, rfl⟩ := own_form h1
  refine (markInt64S_any A _ c lo k _ w h1 hn hk).mono ?_
  rintro e w' ⟨rfl, h4, h5⟩
  exact ⟨rfl, ⟨h4, h2, Nat.le_trans h3 h5.size⟩, Only.of_grown h5 fun k hk => ⟨(h1.lt k hk).1, h2 k hk⟩⟩

theorem heldI (v : Value) (lo hi n k : Nat) (w : World) (h : MarkI w lo hi v n k) (hn : n ≤ 1099511627776) (hk : k ≤ 1099511627776) :
    Calls Try.prog 25 #[v, .int .i64 k] w fun e w' => e = .returned (.int .i64 ((k + n : Nat) : Int)) ∧ w = w' := by
  obtain ⟨⟨ys, h1, hm⟩, h2, h3⟩ := h
  obtain ⟨A, c, rfl⟩ := own_form h1
  exact heldInt64S_any A n c lo k ys w h1 hm hn hk
theorem eqI' (v v' : Value) (zs : List Int) (w : World) (B : Nat) (hr : ReadI w B v zs) (hr' : ReadI w B v' zs) (hn : zs.length ≤ 9223372036854775807) :
    Calls Try.prog 22 #[v, v'] w fun e w' => e = .returned (.bool true) ∧ Below w.heap.size w w' :=
  (eqI v v' zs w B hr hr' hn).mono fun e w' ⟨h, m, hw⟩ => ⟨h, by rw [hw]; exact ⟨rfl, rfl, rfl, Nat.le_refl _, fun _ _ => rfl⟩⟩
theorem markI' (v : Value) (lo hi : Nat) (zs : List Int) (k : Int) (w : World) (h : OwnI w lo hi v zs) (hn : zs.length ≤ 1099511627776) (hk : 0 ≤ k ∧ k ≤ 1099511627776) :
    Calls Try.prog 24 #[v, .int .i64 k] w fun e w' => e = .returned (.int .i64 (k + (zs.length : Int))) ∧ MarkI w' lo hi v zs.length k.toNat ∧ Only lo hi w w' := by
  obtain ⟨j, rfl⟩ : ∃ j : Nat, k = (j : Int) := ⟨k.toNat, by omega⟩
  refine (markI v lo hi zs j w h hn (by omega)).mono ?_
  rintro e w' ⟨rfl, h1, h2⟩
  exact ⟨by rw [Int.natCast_add], by simpa using h1, h2⟩
theorem heldI' (v : Value) (lo hi n : Nat) (k : Int) (w : World) (h : MarkI w lo hi v n k.toNat) (hn : n ≤ 1099511627776) (hk : 0 ≤ k ∧ k ≤ 1099511627776) :
    Calls Try.prog 25 #[v, .int .i64 k] w fun e w' => e = .returned (.int .i64 (k + (n : Int))) ∧ w = w' := by
  obtain ⟨j, rfl⟩ : ∃ j : Nat, k = (j : Int) := ⟨k.toNat, by omega⟩
  refine (heldI v lo hi n j w (by simpa using h) hn (by omega)).mono ?_
  rintro e w' ⟨rfl, h1⟩
  exact ⟨by rw [Int.natCast_add], h1⟩
/-- Answers: a list and a code; two numbers; a bool; a bool and a code. -/
def AnsIC (w : World) (L : List Int) (C : Int) (e : Ending) (w' : World) : Prop := ∃ v, e = .returned (.tuple #[v, .int .i64 C]) ∧ OwnI w' w.heap.size w'.heap.size v L ∧ Below w.heap.size w w'
def AnsII (w : World) (a b : Int) (e : Ending) (w' : World) : Prop := e = .returned (.tuple #[.int .i64 a, .int .i64 b]) ∧ Below w.heap.size w w'
def AnsB (w : World) (b : Bool) (e : Ending) (w' : World) : Prop := e = .returned (.bool b) ∧ Below w.heap.size w w'
def AnsBI (w : World) (b : Bool) (c : Int) (e : Ending) (w' : World) : Prop := e = .returned (.tuple #[.bool b, .int .i64 c]) ∧ Below w.heap.size w w'
theorem AnsIC.empty {w w' : World} {L : List Int} {C D : Int} (h1 : [] = L) (h2 : D = C) (hb : Below w.heap.size w w') : AnsIC w L C (.returned (.tuple #[.slice none 0 0, .int .i64 D])) w' := by
  subst h1; subst h2; exact ⟨_, rfl, (OwnI.mk' (n := 0) (Own.nil _ _)), hb⟩
theorem AnsIC.mk' {w w' : World} {L zs : List Int} {C D : Int} {v : Value} (h1 : zs = L) (h2 : D = C) (ho : OwnI w' w.heap.size w'.heap.size v zs) (hb : Below w.heap.size w w') : AnsIC w L C (.returned (.tuple #[v, .int .i64 D])) w' := by
  subst h1; subst h2; exact ⟨_, rfl, ho, hb⟩
theorem hid_in {p : Prop} (h : p) : Hid p := h
theorem hid_out {p : Prop} (h : Hid p) : p := h
theorem drewN_below {B : Nat} (w : World) (m : Nat) : Below B w (w.drewN m) := ⟨rfl, rfl, rfl, Nat.le_refl _, fun _ _ => rfl⟩
end Go.Proofs.Ytncgkoanckefmaa
