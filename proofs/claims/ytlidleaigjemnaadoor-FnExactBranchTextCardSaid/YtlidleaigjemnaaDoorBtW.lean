/- Words of texts: a builder that is written, texts that are joined. Conditions: stated at each theorem. -/
import Derived.Test.YtlidleaigjemnaaDoorBuild
import Derived.Test.YtlidleaigjemnaaDoorDec
import Derived.Test.YtlidleaigjemnaaDoorTab
import Derived.Test.YtlidleaigjemnaaDoorOwn
import Derived.Laws.DeepStrings4
namespace Go.Proofs.YtlidleaigjemnaaDoor
open Go.ChangeShapes Go.WideShapes Go.ChangeAt Go.RowKit
set_option linter.unusedVariables false

/-- A builder at block b, of the call's own from B on, that holds the bytes l. -/
def Bld (B b : Nat) (l : List UInt8) (w : World) : Prop := Lib.IsBuilder 107 5 B b (Lib.byteCells l) w
theorem Bld.new (w : World) : Bld w.heap.size w.heap.size [] (w.alloc (.cells #[.pointer none, .slice none 0 0] 107)) := Lib.fresh_isBuilder _ _ w
theorem bldAt_below {B b : Nat} {p : Value} {bs : List Value} {w w' : World} (h : Lib.BuilderAt 107 5 B b p bs w) (hb : Below w.heap.size w w') : Lib.BuilderAt 107 5 B b p bs w' := by
  have hlt := h.lt
  obtain ⟨hB, v, hbk, hown, hne⟩ := h
  exact ⟨hB, v, by rw [hb.block _ hlt]; exact hbk, World.ownsRow.kept hown (grown_of_below hb none) (by cases v.ownBlock <;> simp), hne⟩
theorem Bld.below {B b : Nat} {l : List UInt8} {w w' : World} (h : Bld B b l w) (hb : Below w.heap.size w w') : Bld B b l w' := by
  rcases h with h | h
  · exact Or.inl (bldAt_below h hb)
  · exact Or.inr (bldAt_below h hb)
theorem Bld.drewN {B b : Nat} {l : List UInt8} {w : World} (h : Bld B b l w) (n : Nat) : Bld B b l (w.drewN n) := by
  exact h.below (below_drewN (Below.refl _ _) n)
theorem cells_app (l m : List UInt8) : Lib.byteCells l ++ Lib.byteCells m = Lib.byteCells (l ++ m) := by simp [Lib.byteCells]
theorem bLen (B b : Nat) (l : List UInt8) (w : World) (h : Bld B b l w) :
    Calls Tryd.prog 89 #[.pointer (some ⟨b, 0, none⟩)] w fun e w' => e = .returned (.int .i64 l.length) ∧ w' = w := by
  have := Tryd.Builder_Len B b _ w h
  rw [Lib.byteCells_length] at this; exact this
theorem bByte (B b : Nat) (l : List UInt8) (c : UInt8) (y : Int) (hy : y = (c.toNat : Int)) (w : World) (h : Bld B b l w) (hl : l.length ≤ 1000000) (hB : B ≤ w.heap.size) :
    Calls Tryd.prog 90 #[.pointer (some ⟨b, 0, none⟩), .int .u8 y] w fun e w' => e = .returned .nilIface ∧ Bld B b (l ++ [c]) w' ∧ Below B w w' := by
  subst hy
  refine (writeByte_cells B b _ (c.toNat : Int) w h (by rw [Lib.byteCells_length]; omega) hB).mono fun e w' ⟨he, h1, h2⟩ => ⟨he, Or.inr ?_, h2⟩
  rw [← cells_app]; exact h1
theorem bStr (B b : Nat) (l m : List UInt8) (w : World) (h : Bld B b l w) (hl : l.length ≤ 1000000) (hm : m.length ≤ 1000000) (hB : B ≤ w.heap.size) :
    Calls Tryd.prog 91 #[.pointer (some ⟨b, 0, none⟩), .string ⟨m.toArray⟩] w fun e w' => (∃ n : Int, e = .returned (.tuple #[.int .i64 n, .nilIface])) ∧ Bld B b (l ++ m) w' ∧ Below B w w' := by
  refine (writeString_cells B b _ ⟨m.toArray⟩ w h (by rw [Lib.byteCells_length]; show l.length + m.toArray.size ≤ _; rw [List.size_toArray]; omega) hB).mono fun e w' ⟨he, h1, h2⟩ => ⟨⟨_, he⟩, Or.inr ?_, h2⟩
  rw [← cells_app]; exact h1
theorem bString (B b : Nat) (l : List UInt8) (w : World) (h : Bld B b l w) (hB : B ≤ w.heap.size) :
    Calls Tryd.prog 93 #[.pointer (some ⟨b, 0, none⟩)] w fun e w' => e = .returned (.string ⟨l.toArray⟩) ∧ Below B w w' := Tryd.Builder_String_any B b l w h hB
theorem str_ne {a b : List UInt8} (h : a = b) : Ending.returned (.string ⟨a.toArray⟩) = .returned (.string ⟨b.toArray⟩) := by rw [h]
theorem addV (a b c : ByteArray) (x y : List UInt8) (ha : a = ⟨x.toArray⟩) (hb : b = ⟨y.toArray⟩) (hc : c = ⟨(x ++ y).toArray⟩) (hx : x.length ≤ 1000000) (hy : y.length ≤ 1000000) (W : World) :
    (Op.stringOp .add a b).run Tryd.prog W = .ok (.string c) W := by
  subst ha; subst hb; subst hc; exact add_lists x y hx hy W
theorem dec_v (u : Nat) (d : ByteArray) (hd : d = ⟨(Lib.decDigits u).toArray⟩) (w : World) (hu : u ≤ 2000) :
    Calls Tryd.prog 85 #[.int .i64 (u : Int)] w fun e w' => e = .returned (.string d) ∧ Below w.heap.size w w' := by
  subst hd; exact l01Dec_any (u + 1) u w (by omega) (by omega)
theorem dec_y (y : Int) (u : Nat) (d : ByteArray) (hd : d = ⟨(Lib.decDigits u).toArray⟩) (w : World) (hy : y = (u : Int)) (hu : u ≤ 2000) :
    Calls Tryd.prog 85 #[.int .i64 y] w fun e w' => e = .returned (.string d) ∧ Below w.heap.size w w' := by
  subst hy; exact dec_v u d hd w hu
theorem str_v {T : ByteArray} {l : List UInt8} (h : T.data.toList = l) : Ending.returned (.string T) = .returned (.string ⟨l.toArray⟩) := by subst h; rfl
theorem ba_list {T : ByteArray} {l : List UInt8} (h : T = ⟨l.toArray⟩) : T.data.toList = l := by subst h; simp
theorem ba_size {T : ByteArray} {l : List UInt8} (h : T = ⟨l.toArray⟩) : T.size = l.length := by subst h; show l.toArray.size = _; simp
end Go.Proofs.YtlidleaigjemnaaDoor
