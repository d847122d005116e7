/- Maps from int64 to bool that a call makes: laws. Conditions: stated at each theorem. -/
import Derived.Test.YtncgkoanckefmaaApM
import Derived.Test.YtncgkoanckefmaaBrW
import Derived.Maps.RangeWalk
import Derived.Maps.Ext
namespace Go.Proofs.Ytncgkoanckefmaa
open Go.ChangeShapes Go.WideShapes Go.ChangeAt Go.RowKit Go.Deep Go.Maps Go.MapKept Go.ChangeMaps
set_option linter.unusedVariables false

theorem law64 : Keyed Try.prog 2 := int_keyed Try.underlying2
theorem pb_true : (plainElem (H := Unit) Try.prog 4) (.bool true) = some (.lit (.bool true), []) := plainElem_bool Try.underlying4 true
theorem plainElem_bool_inv {H : Type} {P : Program} {e : TypeId} (he : P.underlying e = some .bool) {v : Value} {z : DataW H × List MemPlace} (h : plainElem P e v = some z) : ∃ b, v = .bool b := by
  unfold plainElem at h
  rw [he] at h
  cases v <;> simp at h
  exact ⟨_, rfl⟩
theorem wpList_insert_own {H : Type} {P : Program} (w : World) {ops : Array Oper} {rest : List Oper} {o : Oper} {a : Act} {Q : Exit → Act → World → Prop}
    (hg : o.guard = none) (m x v : Operand) (t : TypeId) (hop : o.op = Op.insert t m x v)
    (k e : TypeId) (K : Keyed P k) (ht : P.underlying t = some (.map k e)) (R : Value → Option (DataW H × List MemPlace)) (b n : Nat) (D : DataW H)
    (hm : a.eval m = .map (some b)) (hown : w.ownsMap P k R b n D) (hn : n < maxLen) (key val : Value) (kl : Lit) (hx : a.eval x = key) (hv : a.eval v = val) (hkey : keyOf P k key = some kl)
    (d : DataW H) (ps : List MemPlace) (hval : R val = some (d, ps))
    (hK : ∀ w', w'.ownsMap P k R b (n + 1) (D.put kl d) → w.grownBy w' (some b) → wpList P ops Q rest (a.put o.dst undef) w') :
    wpList P ops Q (o :: rest) a w := by
  refine wpList_plain hg fun K' hK' => ?_
  obtain ⟨w', hrun, r1, r2⟩ := hown.update K ht hn hkey hval
  unfold Oper.wp
  simp [execOp, hop, hm, hx, hv, hrun, Result.andThen]
  exact hK' _ _ (hK w' r1 r2)
theorem wpList_clear_own {H : Type} {P : Program} (w : World) {ops : Array Oper} {rest : List Oper} {o : Oper} {a : Act} {Q : Exit → Act → World → Prop}
    (hg : o.guard = none) (m : Operand) (t : TypeId) (hop : o.op = Op.call { callee := Callee.builtin Builtin.clear, args := #[m], argTypes := #[t] })
    (k e : TypeId) (ht : P.underlying t = some (.map k e)) (R : Value → Option (DataW H × List MemPlace)) (b n : Nat) (D : DataW H) (hm : a.eval m = .map (some b)) (hown : w.ownsMap P k R b n D)
    (hK : ∀ w', w'.ownsMap P k R b 0 (.map []) → w.grownBy w' (some b) → wpList P ops Q rest (a.put o.dst (.tuple #[])) w') :
    wpList P ops Q (o :: rest) a w := by
  refine wpList_plain hg fun K' hK' => ?_
  obtain ⟨es, clock, hb, F, hs, rfl⟩ := hown
  have hrun : (Builtin.clear_ #[t] o.type #[.map (some b)]).run P w = .ok (.tuple #[]) (setBlock w b (.map #[] clock)) := by
    simp [Builtin.clear_, run_underlying ht, MapKept.run_getObj_map hb, MapKept.run_setObj_map _ hb, Result.andThen, setBlock]
  unfold Oper.wp
  simp [execOp, hop, resolve, invoke, builtin, hm, hrun, Result.andThen]
  exact hK' _ _ (hK _ ⟨#[], clock, heap_setBlock_same hb _, ⟨by simp, stamped_empty clock, by simp⟩, Nat.le_refl _, rfl⟩ ⟨rfl, rfl, rfl, by simp [setBlock], fun i _ hi => heap_setBlock_other hb _ (fun e => hi (by rw [e]))⟩)
/-- The step of a range over such a map. -/
theorem wpList_next_ranges_ib {H : Type} {P : Program} (w : World) {ops : Array Oper} {rest : List Oper} {o : Oper} {a : Act} {Q : Exit → Act → World → Prop}
    (hg : o.guard = none) (it : Operand) (hop : o.op = Op.next it false) (k e : TypeId) (K : Keyed P k) (hk : P.underlying k = some (.int .i64)) (he : P.underlying e = some .bool)
    (b r n : Nat) (D : DataW H) (left : Lit → Bool) (cnt : Nat) (hit : a.eval it = .pointer (some ⟨r, 0, none⟩)) (h : w.ranges P k (plainElem P e) b r n D left cnt)
    (hDone : (∀ kl, left kl = false) → wpList P ops Q rest (a.put o.dst (.tuple #[.bool false])) w)
    (hMore : ∀ (x : Int) (cv : Value) (w' : World) (cnt' : Nat), left (.int .i64 x) = true → w'.ranges P k (plainElem P e) b r n D (fun z => left z && !z.sameKey (.int .i64 x)) cnt' → cnt' < cnt →
      w.grownBy w' (some r) → (Instr.entry (.pointer (some ⟨r, 0, none⟩))).run P w' = .ok (.tuple #[.int .i64 x, cv]) w' → wpList P ops Q rest (a.put o.dst (.tuple #[.bool true, .int .i64 x, cv])) w') :
    wpList P ops Q (o :: rest) a w :=
  wpList_next_ranges w hg it hop k K (plainElem P e) (Value.int .i64) (fun v : Value => v) (fun key kl hkey => by obtain ⟨x, rfl, _⟩ := Maps.keyOf_int_inv hk hkey; exact ⟨x, rfl⟩) (fun v y hv => ⟨v, rfl⟩)
    b r n D left cnt hit h (fun _ hl => hDone hl) (fun x c kl y w' cnt' hkey hlk hv hat hrg hlt hgr hsz hen => by
      obtain ⟨x', ex, rfl, hwx⟩ := Maps.keyOf_int_inv hk hkey
      cases ex
      exact hMore x c w' cnt' hlk hrg hlt hgr hen)
/-- The numbers that a map holds. -/
def hasI (D : DataW Unit) (x : Int) : Prop := Maps.has D (.int .i64 x) = true
theorem hasI_none {x : Int} : ¬ hasI (.map []) x := by intro h; cases h
theorem hasI_size {D : DataW Unit} {x : Int} (hm : IsMap D) (h : Maps.size D = 0) : ¬ hasI D x := by
  obtain ⟨es, rfl⟩ := hm
  intro h2
  have : es = [] := List.length_eq_zero_iff.1 h
  subst this
  cases h2
theorem hasI_put {D : DataW Unit} {s : Int} (hm : IsMap D) (x : Int) : hasI (D.put (.int .i64 s) (.lit (.bool true))) x ↔ (hasI D x ∨ x = s) := by
  unfold hasI
  by_cases e : x = s
  · subst e
    rw [has_put_same hm (show WideAt.IsKeyLit (Lit.int .i64 x) from trivial)]; simp
  · rw [has_put_other (fun h => e (by cases h; rfl))]
    simp [e]
theorem left_strike {left : Lit → Bool} {x y : Int} : (left (.int .i64 y) && !(Lit.int .i64 y).sameKey (.int .i64 x)) = true → left (.int .i64 y) = true := by simp; intro h _; exact h
theorem left_strike2 {left : Lit → Bool} {x y : Int} (h : left (.int .i64 y) = true) : (left (.int .i64 y) && !(Lit.int .i64 y).sameKey (.int .i64 x)) = true ∨ y = x := by
  cases hk : (Lit.int .i64 y).sameKey (.int .i64 x)
  · left; simp [h]
  · right; have := WideAt.sameKey_eq hk; cases this; rfl
theorem ApInv.iff {zs L : List Int} {S S' : Int → Prop} (h : ApInv zs L S) (hS : ∀ x, S' x ↔ S x) : ApInv zs L S' := by
  have : S' = S := funext fun x => propext (hS x)
  rw [this]; exact h
/-- Other blocks stay. -/
theorem kept_grown1 {a b : World} {lo hi k : Nat} (h : a.grownBy b (some k)) (hs : hi ≤ a.heap.size) (hk : ¬ (lo ≤ k ∧ k < hi)) : Kept lo hi a b :=
  ⟨h.size, fun j h1 h2 => h.block j (by omega) (fun e => by cases e; exact hk ⟨h1, h2⟩)⟩
theorem kept_grown0 {a b : World} {lo hi : Nat} (h : a.grownBy b none) (hs : hi ≤ a.heap.size) : Kept lo hi a b :=
  ⟨h.size, fun j h1 h2 => h.block j (by omega) (fun e => by cases e)⟩
theorem below_grown1 {a b : World} {B k : Nat} (h : a.grownBy b (some k)) (hs : B ≤ a.heap.size) (hk : B ≤ k) : Below B a b :=
  ⟨h.os, h.tape, h.output, h.size, fun j h1 => h.block j (by omega) (fun e => by cases e; omega)⟩
theorem below_grown0 {a b : World} {B : Nat} (h : a.grownBy b none) (hs : B ≤ a.heap.size) : Below B a b :=
  ⟨h.os, h.tape, h.output, h.size, fun j h1 => h.block j (by omega) (fun e => by cases e)⟩
theorem grown_cell1 (w : World) (p : Addr) (u : Value) : w.grownBy (w.setCell p u) (some p.block) := grown_setCell (World.grownBy.refl w _) rfl u
theorem mod_nat {x : Int} {N : Nat} (hx : 0 ≤ x) (hN : 1 ≤ N) : ∃ q : Nat, q < N ∧ x.tmod (N : Int) = (q : Int) ∧ x % (N : Int) = (q : Int) ∧ (x % (N : Int)).toNat = q := by
  have h1 : 0 ≤ x % (N : Int) := Int.emod_nonneg _ (by omega)
  have h2 : x % (N : Int) < (N : Int) := Int.emod_lt_of_pos _ (by omega)
  have h3 : x.tmod (N : Int) = x % (N : Int) := Int.tmod_eq_emod_of_nonneg hx
  exact ⟨(x % (N : Int)).toNat, by omega, by omega, by omega, rfl⟩
end Go.Proofs.Ytncgkoanckefmaa
