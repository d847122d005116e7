/- Pairs as lists of two numbers: contract of impl.listsOfPairs. Conditions: stated at the theorem. -/
import Derived.Test.YtncgkoanckefmaaPrI
import Derived.Test.YtncgkoanckefmaaKeepQ
namespace Go.Proofs.Ytncgkoanckefmaa
open Go.ChangeShapes Go.WideShapes Go.ChangeAt Go.RowKit
set_option linter.unusedVariables false
set_option linter.unusedSimpArgs false

def prL (f : Nat → Int × Int) (n : Nat) : List (List Int) := (List.range n).map fun i => [(f i).1, (f i).2]
theorem prL_len (f : Nat → Int × Int) (n : Nat) : (prL f n).length = n := by simp [prL]
theorem prL_at (f : Nat → Int × Int) {n i : Nat} (h : i < n) : (prL f n).getD i [] = [(f i).1, (f i).2] := by simp [prL, List.getD, h]
theorem list2 {w : World} {lo : Nat} (hlo : lo ≤ w.heap.size) (a b : Int) : OwnI (w.alloc (.cells #[.int .i64 a, .int .i64 b] 2)) lo (w.alloc (.cells #[.int .i64 a, .int .i64 b] 2)).heap.size (.slice (some ⟨w.heap.size, 0, none⟩) 2 2) [a, b] :=
  OwnI.mk' (n := 2) (World.ownsRow_lit (base := lo) w #[.int .i64 a, .int .i64 b] 2 (e := 2) (size := 1) hlo (by simp [maxLen]) rfl)
theorem kept_box (w : World) (o : Obj) (lo hi : Nat) (h : hi ≤ w.heap.size) : Kept lo hi w (w.alloc o) := Kept.of_below (below_box2 w o) h
theorem slice_infoP : (Try.prog.info? 22).map (fun i => (i.zero, i.size, i.bytes)) = some (some (.slice none 0 0), 1, 24) := by kernel_rfl

end Go.Proofs.Ytncgkoanckefmaa
