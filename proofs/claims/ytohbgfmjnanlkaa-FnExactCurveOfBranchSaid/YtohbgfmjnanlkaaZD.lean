/- ZD: SqM SqB SqI SqD SqE SqR SqT BkM BkI BkS. Conditions: stated at each theorem. -/
import Derived.Test.YtohbgfmjnanlkaaZA
import Derived.Test.YtohbgfmjnanlkaaZB
import Derived.RangeFuncNested
import Derived.RangeFuncBound
import Derived.RangeFuncCalls
import Derived.RangeFuncLeaves
import Derived.RangeFuncBox
import Derived.Shelf.Abstract
import Derived.Shelf.RegionOpen
import Derived.OwnWalkIn
import Derived.TacticsInMore
import Derived.LoopNIn
import Derived.LoopIn
import Derived.OrdersHeld
import Derived.Maps.AppendAt
import Derived.Deep.AppendLies
import Derived.Test.YtohbgfmjnanlkaaZC
import Derived.Deep.QuietTactic
import Derived.BigQuiet
/- The runs of a branch and its sequence: plain mathematics. Conditions: stated at each theorem. -/
namespace Go.Proofs.Ytohbgfmjnanlkaa
open Go.ChangeShapes Go.WideShapes Go.ChangeAt Go.RowKit
set_option linter.unusedVariables false

/-- The steps of the runs behind a term p, where e is the divisor there. -/
def rnL (p e : Int) : List Int → List (Int × Int)
  | [] => []
  | z :: r => steps (z - p) e ++ rnL z (Int.gcd e z : Int) r
def rsS : List Int → List (Int × Int)
  | [] => []
  | n :: r => rnL 0 n r
def rsI (zs : List Int) : List (Int × Int) := if zs.length = 1 then [(1, 1)] else rsS zs
/-- A step as they come: q numbers r. -/
def StOK (p : Int × Int) : Prop := (0 ≤ p.1 ∧ p.1 ≤ 2000) ∧ 1 ≤ p.2 ∧ p.2 ≤ 64
def cntL (L : List (Int × Int)) : Int := (L.map (·.1)).sum
def delL (L : List (Int × Int)) : Int := (L.map fun p => p.1 * (p.2 * (p.2 - 1) / 2)).sum
def upsL (L : List (Int × Int)) : Int := (L.map fun p => if 1 < p.2 then p.1 else 0).sum
def flL (L : List (Int × Int)) : List Int := L.flatMap fun p => List.replicate p.1.toNat p.2

theorem cntL_snoc (L : List (Int × Int)) (p : Int × Int) : cntL (L ++ [p]) = cntL L + p.1 := by simp [cntL]
theorem delL_snoc (L : List (Int × Int)) (p : Int × Int) : delL (L ++ [p]) = delL L + p.1 * (p.2 * (p.2 - 1) / 2) := by simp [delL]
theorem upsL_snoc (L : List (Int × Int)) (p : Int × Int) : upsL (L ++ [p]) = upsL L + (if 1 < p.2 then p.1 else 0) := by simp [upsL]
theorem flL_snoc (L : List (Int × Int)) (p : Int × Int) : flL (L ++ [p]) = flL L ++ List.replicate p.1.toNat p.2 := by simp [flL]
theorem flL_append (L M : List (Int × Int)) : flL (L ++ M) = flL L ++ flL M := by simp [flL]

theorem halfR {r : Int} (h : 1 ≤ r ∧ r ≤ 64) : 0 ≤ r * (r - 1) ∧ r * (r - 1) ≤ 4032 := by
  have h1 : 0 ≤ r * (r - 1) := Int.mul_nonneg (by omega) (by omega)
  have h2 : r * (r - 1) ≤ 64 * 63 := Int.mul_le_mul (by omega) (by omega) (by omega) (by omega)
  omega
theorem delP {p : Int × Int} (h : StOK p) : 0 ≤ p.1 * (p.2 * (p.2 - 1) / 2) ∧ p.1 * (p.2 * (p.2 - 1) / 2) ≤ 4032000 := by
  obtain ⟨h1, h2⟩ := h
  have h3 := halfR h2
  generalize p.2 * (p.2 - 1) = x at *
  have h4 : 0 ≤ x / 2 ∧ x / 2 ≤ 2016 := by omega
  generalize x / 2 = y at *
  have h5 : 0 ≤ p.1 * y := Int.mul_nonneg (by omega) (by omega)
  have h6 : p.1 * y ≤ 2000 * 2016 := Int.mul_le_mul (by omega) (by omega) (by omega) (by omega)
  omega

theorem sumL_bound {α : Type} (f : α → Int) (b : Int) : ∀ (L : List α), (∀ p ∈ L, 0 ≤ f p ∧ f p ≤ b) → 0 ≤ (L.map f).sum ∧ (L.map f).sum ≤ b * L.length
  | [], _ => by simp
  | p :: L, h => by
    have h1 := h p (by simp)
    have h2 := sumL_bound f b L (fun x hx => h x (by simp [hx]))
    have e : b * ((p :: L).length : Int) = b * (L.length : Int) + b := by simp only [List.length_cons, Int.natCast_add, Int.natCast_one, Int.mul_add, Int.mul_one]
    rw [e]; simp only [List.map_cons, List.sum_cons]; omega
theorem cntL_bound {L : List (Int × Int)} (h : ∀ p ∈ L, StOK p) : 0 ≤ cntL L ∧ cntL L ≤ 2000 * L.length := sumL_bound _ 2000 L fun p hp => (h p hp).1
theorem delL_bound {L : List (Int × Int)} (h : ∀ p ∈ L, StOK p) : 0 ≤ delL L ∧ delL L ≤ 4032000 * L.length := sumL_bound _ 4032000 L fun p hp => delP (h p hp)
theorem upsL_bound {L : List (Int × Int)} (h : ∀ p ∈ L, StOK p) : 0 ≤ upsL L ∧ upsL L ≤ 2000 * L.length := sumL_bound _ 2000 L fun p hp => by
  have := (h p hp).1; split <;> omega
theorem flL_len {L : List (Int × Int)} (h : ∀ p ∈ L, StOK p) : ((flL L).length : Int) = cntL L := by
  induction L with
  | nil => rfl
  | cons p L ih =>
    have h1 := (h p (by simp)).1
    have h2 := ih (fun x hx => h x (by simp [hx]))
    simp only [flL, cntL, List.flatMap_cons, List.length_append, List.length_replicate, List.map_cons, List.sum_cons] at *
    omega

theorem stL_ok : ∀ (f : Nat) (a b : Int), (0 ≤ a ∧ a ≤ 2000) → (0 ≤ b ∧ b ≤ 64) → ∀ p ∈ stL f a b, StOK p
  | 0, _, _, _, _ => by simp [stL]
  | f + 1, a, b, ha, hb => by
    unfold stL
    split
    · simp
    · rename_i hb0
      intro p hp
      rcases List.mem_cons.1 hp with rfl | hp
      · have h1 : 0 ≤ a / b ∧ a / b ≤ a := ⟨Int.ediv_nonneg (by omega) (by omega), Int.ediv_le_self _ (by omega)⟩
        exact ⟨by dsimp; omega, by dsimp; omega⟩
      · have h2 : 0 ≤ a % b ∧ a % b < b := ⟨Int.emod_nonneg _ (by omega), Int.emod_lt_of_pos _ (by omega)⟩
        exact stL_ok f b (a % b) (by omega) (by omega) p hp
theorem steps_ok {a b : Int} (ha : 0 ≤ a ∧ a ≤ 2000) (hb : 0 ≤ b ∧ b ≤ 64) : ∀ p ∈ steps a b, StOK p := stL_ok _ _ _ ha hb
theorem steps_len {a b : Int} (hb : 0 ≤ b ∧ b ≤ 64) : (steps a b).length ≤ 65 := by
  have := stL_len (b.toNat + 1) a b
  unfold steps; omega
theorem rnL_ok : ∀ (zs : List Int) {p e : Int}, 0 ≤ p → (1 ≤ e ∧ e ≤ 64) → ascB p zs = true → (∀ x ∈ rnL p e zs, StOK x) ∧ (rnL p e zs).length ≤ 65 * zs.length
  | [], p, e, _, _, _ => by simp [rnL]
  | z :: r, p, e, hp, he, ha => by
    have h1 := ascB_all ha z (by simp)
    have hg := gcd_le_left (e := e) (z := z) he.1
    have ha2 : ascB z r = true := by simp only [ascB, Bool.and_eq_true] at ha; exact ha.2
    obtain ⟨i1, i2⟩ := rnL_ok r (p := z) (e := (Int.gcd e z : Int)) (by omega) (by omega) ha2
    have s1 := steps_ok (a := z - p) (b := e) (by omega) (by omega)
    have s2 := steps_len (a := z - p) (b := e) (by omega)
    refine ⟨fun x hx => ?_, ?_⟩
    · simp only [rnL, List.mem_append] at hx
      rcases hx with hx | hx
      · exact s1 x hx
      · exact i1 x hx
    · simp only [rnL, List.length_append, List.length_cons]; omega
theorem asc_len : ∀ (zs : List Int) {p : Int}, ascB p zs = true → p ≤ 2000 → p + zs.length ≤ 2000
  | [], p, _, hp => by simp; omega
  | z :: r, p, h, _ => by
    have h1 := ascB_all h z (by simp)
    have h2 : ascB z r = true := by simp only [ascB, Bool.and_eq_true] at h; exact h.2
    have := asc_len r h2 (by omega)
    simp only [List.length_cons, Int.natCast_add, Int.natCast_one]; omega

theorem br_cons {zs : List Int} (h : brB zs = true) : ∃ n r, zs = n :: r ∧ (1 ≤ n ∧ n ≤ 64) ∧ ascB 0 r = true ∧ r.length ≤ 2000 := by
  obtain ⟨n, r, e, hn, ha, _⟩ := dcB_parts (brB_dcB h)
  have := asc_len r ha (by omega)
  exact ⟨n, r, e, hn, ha, by omega⟩
theorem rsS_ok {zs : List Int} (h : brB zs = true) : (∀ x ∈ rsS zs, StOK x) ∧ (rsS zs).length ≤ 130000 := by
  obtain ⟨n, r, rfl, hn, ha, hl⟩ := br_cons h
  obtain ⟨h1, h2⟩ := rnL_ok r (p := 0) (e := n) (by omega) hn ha
  exact ⟨h1, by show (rnL 0 n r).length ≤ _; omega⟩
theorem rsI_ok {zs : List Int} (h : brB zs = true) : (∀ x ∈ rsI zs, StOK x) ∧ (rsI zs).length ≤ 130000 := by
  unfold rsI
  split
  · exact ⟨by simp [StOK], by simp⟩
  · exact rsS_ok h
theorem br_more {n z : Int} {r : List Int} (h : brB (n :: z :: r) = true) : n < z := by
  rw [brB_more] at h; simp only [Bool.and_eq_true, decide_eq_true_eq] at h; exact h.2
theorem cnt_pos {n z : Int} {r : List Int} (h : brB (n :: z :: r) = true) : 1 ≤ cntL (rsS (n :: z :: r)) := by
  obtain ⟨n', r', e, hn, ha, hl⟩ := br_cons h
  cases e
  have hz := br_more h
  have h1 := ascB_all ha z (by simp)
  have hq : steps (z - 0) n = ((z - 0) / n, n) :: stL n.toNat n ((z - 0) % n) := by
    unfold steps; conv => lhs; unfold stL
    rw [if_neg (by omega)]
  have hq1 : 1 ≤ (z - 0) / n := by
    have := (Int.le_ediv_iff_mul_le (a := (1 : Int)) (b := z - 0) (c := n) (by omega)).2 (by omega)
    exact this
  have ho := (rsS_ok h).1
  have hr : rsS (n :: z :: r) = [((z - 0) / n, n)] ++ (stL n.toNat n ((z - 0) % n) ++ rnL z (Int.gcd n z : Int) r) := by
    show steps (z - 0) n ++ _ = _; rw [hq]; simp
  rw [hr] at ho ⊢
  have h2 := cntL_bound (L := stL n.toNat n ((z - 0) % n) ++ rnL z (Int.gcd n z : Int) r) (fun p hp => ho p (List.mem_append.2 (.inr hp)))
  have : ∀ A B, cntL (A ++ B) = cntL A + cntL B := by intro A B; simp [cntL]
  rw [this]
  have : cntL [((z - 0) / n, n)] = (z - 0) / n := by simp [cntL]
  omega
theorem rsI_one (n : Int) : rsI [n] = [(1, 1)] ∧ rsS [n] = [] := ⟨rfl, rfl⟩
theorem rsI_more (n z : Int) (r : List Int) : rsI (n :: z :: r) = rsS (n :: z :: r) := by simp [rsI]
theorem del_eq {zs : List Int} (h : brB zs = true) : delL (rsI zs) = delL (rsS zs) := by
  obtain ⟨n, r, rfl, _⟩ := br_cons h
  cases r with
  | nil => rfl
  | cons z r => rw [rsI_more]
theorem ups_eq {zs : List Int} (h : brB zs = true) : upsL (rsI zs) = upsL (rsS zs) := by
  obtain ⟨n, r, rfl, _⟩ := br_cons h
  cases r with
  | nil => rfl
  | cons z r => rw [rsI_more]
theorem cnt_eq {zs : List Int} (h : brB zs = true) : cntL (rsI zs) = max (cntL (rsS zs)) 1 := by
  obtain ⟨n, r, rfl, _⟩ := br_cons h
  cases r with
  | nil => rfl
  | cons z r => rw [rsI_more]; have := cnt_pos h; omega
/-- The sequence of a branch. -/
def seqL (zs : List Int) : List Int := flL (rsI zs)
theorem seq_eq {zs : List Int} (h : brB zs = true) : seqL zs = if (flL (rsS zs)).length = 0 then [1] else flL (rsS zs) := by
  obtain ⟨n, r, rfl, _⟩ := br_cons h
  cases r with
  | nil => rfl
  | cons z r =>
    have h1 := cnt_pos h
    have h2 := flL_len (rsS_ok h).1
    rw [if_neg (by omega), seqL, rsI_more]
theorem seq_len {zs : List Int} (h : brB zs = true) : ((seqL zs).length : Int) = cntL (rsI zs) ∧ (seqL zs).length ≤ 260000000 := by
  have h1 := flL_len (rsI_ok h).1
  have h2 := cntL_bound (rsI_ok h).1
  have h3 := (rsI_ok h).2
  exact ⟨h1, by unfold seqL; omega⟩
/-- The divisors, one by one. -/
theorem dvL_next : ∀ (zs : List Int) (e : Int) (k : Nat), k + 1 < zs.length → (dvL e zs)[k + 1]?.getD 0 = (Int.gcd ((dvL e zs)[k]?.getD 0) (zs[k + 1]?.getD 0) : Int)
  | [], _, k, h => by simp at h
  | z :: r, e, k, h => by
    cases k with
    | zero =>
      cases r with
      | nil => simp at h
      | cons y r => simp [dvL]
    | succ k =>
      have := dvL_next r (Int.gcd e z : Int) k (by simpa using h)
      simpa [dvL] using this
end Go.Proofs.Ytohbgfmjnanlkaa
/- Rounds of a range over a function: a region that draws its order is walked as a plain one; what a round keeps. Conditions: stated at each theorem. -/
namespace Go.Proofs.Ytohbgfmjnanlkaa
open Go.ChangeShapes Go.WideShapes Go.ChangeAt Go.RowKit
set_option linter.unusedVariables false

section
variable {P : Program} {ops : Array Oper} {Q : Exit → Act → World → Prop} {md : Region.Mode}
theorem rowsIn_wide' {n : Nat} {row : String} {args : Array Value} {w : World} {R : Value → World → Prop} (h : Rows P row args w R) : RowsIn Fence.wide n P row args w R :=
  fun c cs _ => let ⟨v, w', r, s⟩ := h c cs; ⟨v, w', r, stepsIn_wide.2 s⟩
theorem uponIn_plain {l n : Nat} {o : Oper} {a : Act} {K : Act → World → Prop} {r : Result Next} (h : o.upon P a K Q r) : o.uponIn (Fence.wide.inRound l) n P a K Q r := by
  cases r with
  | ok x w' =>
    cases x <;> simp only [Oper.upon, Oper.uponIn] at h ⊢ <;>
      first
        | exact h
        | exact h.elim
        | exact ⟨fun h0 => (by cases h0), (CallsIn.inRound l (callsIn_wide (n := n - 1).2 h)).mono fun e w'' he => by cases e <;> exact he⟩
        | exact ⟨fun h0 => (by cases h0), rowsIn_wide' h⟩
  | halt x w' => cases x <;> simp only [Oper.upon, Oper.uponIn] at h ⊢ <;> exact h
theorem opIn_plain {l n : Nat} {o : Oper} {a : Act} {w : World} {K : Act → World → Prop} (hd : ∀ c, o.op ≠ .defer c) (h : o.wp P a w K Q) : o.wpIn (Fence.wide.inRound l) n P a w K Q := by
  refine ⟨fun f _ => trivial, ?_⟩
  have e : o.semAt (Fence.wide.inRound l).round a.eval = execOp a.eval o := Oper.semAt_eq _ _ _ hd
  rw [e]
  exact uponIn_plain h
theorem wpAnyIn_plain {l n : Nat} (hd : ∀ o ∈ ops, ∀ c, o.op ≠ .defer c) (hQ : ¬ LetsOut Q) : ∀ (fuel : Nat) (listed : Array Bool) (a : Act) (w : World), wpAny P md ops Q fuel listed a w → wpAnyIn (Fence.wide.inRound l) n P md ops Q fuel listed a w
  | 0, _, _, _, h => h
  | fuel + 1, listed, a, w, h => by
    refine ⟨h.1, fun i hi => ?_⟩
    have h2 := h.2 i hi
    unfold wpOp at h2
    unfold wpOpIn
    cases ho : ops[i]? with
    | none => rw [ho] at h2; exact wpAnyIn_plain hd hQ fuel _ _ _ h2
    | some o =>
      rw [ho] at h2
      simp only at h2 ⊢
      split
      · rename_i hw
        rw [if_pos hw] at h2
        rcases h2 with h2 | h2
        · refine Oper.wpIn_mono (fun a w hk => wpAnyIn_plain hd hQ fuel _ _ _ hk) (opIn_plain (hd o (Array.mem_of_getElem? ho)) h2)
        · exact absurd h2.2 hQ
      · rename_i hw
        rw [if_neg hw] at h2
        exact ⟨fun f _ => trivial, wpAnyIn_plain hd hQ fuel _ _ _ h2⟩
/-- A region in a round that draws its order, under a word on cells that holds all along. -/
theorem wpIn_region_round {l n id : Nat} {S : World → Prop} {a : Act} {w : World} (hm : P.follows .mixedOrders = true) (hd : ∀ o ∈ ops, ∀ c, o.op ≠ .defer c) (hQ : ¬ LetsOut Q) (hS : S w.drew)
    (h : S w.drew → wpAnyH P .any ops Q S ops.size (Array.replicate ops.size false) a w.drew) : (Code.region id ops true).wpIn (Fence.wide.inRound l) n P Q a w :=
  wpIn_region_any hm (wpAnyIn_plain hd hQ _ _ _ _ (wpAny_of_held _ _ _ _ (h hS)))
end

/-- The block of the slice that the box b0 holds. -/
def rb (b0 : Nat) (W : World) : Option Nat := match W.cell? ⟨b0, 0, none⟩ with
  | some v => v.ownBlock
  | none => none
/-- Block b is one of cells, and neither the box b0 nor its slice's. -/
def Safe (b0 : Nat) (W : World) (b : Nat) : Prop := b ≠ b0 ∧ rb b0 W ≠ some b ∧ ∃ o, W.heap[b]? = some o ∧ o.isCells = true
/-- The slice in the box b0 lies in memory that is there. -/
def RV (b0 : Nat) (W : World) : Prop := ∀ b, rb b0 W = some b → b < W.heap.size
/-- What a round keeps that writes the box b0 and the slice in it: all other cells. -/
structure KpB (b0 : Nat) (A B : World) : Prop where
  size : A.heap.size ≤ B.heap.size
  safe : ∀ b, Safe b0 A b → B.heap[b]? = A.heap[b]? ∧ rb b0 B ≠ some b
  rv : RV b0 A → RV b0 B
theorem KpB.keeps {b0 b : Nat} {A B : World} (k : KpB b0 A B) (h : Safe b0 A b) : Safe b0 B b := by
  obtain ⟨h1, h2, o, h3, h4⟩ := h
  have := k.safe b ⟨h1, h2, o, h3, h4⟩
  exact ⟨h1, this.2, o, this.1.trans h3, h4⟩
theorem KpB.trans {b0 : Nat} {A B C : World} (h : KpB b0 A B) (k : KpB b0 B C) : KpB b0 A C :=
  ⟨Nat.le_trans h.size k.size, fun b hb => ⟨(k.safe b (h.keeps hb)).1.trans (h.safe b hb).1, (k.safe b (h.keeps hb)).2⟩, fun hv => k.rv (h.rv hv)⟩
theorem KpB.refl (b0 : Nat) (A : World) : KpB b0 A A := ⟨Nat.le_refl _, fun b hb => ⟨rfl, hb.2.1⟩, id⟩
theorem rb_same {b0 : Nat} {A B : World} (h : B.heap[b0]? = A.heap[b0]?) : rb b0 B = rb b0 A := by
  have : B.cell? ⟨b0, 0, none⟩ = A.cell? ⟨b0, 0, none⟩ := by simp [World.cell?, h]
  unfold rb; rw [this]
theorem kpB_b {b0 : Nat} {w : World} (hb : b0 < w.heap.size) (W : World) (l : Nat) (o o' : Obj) (hl : w.heap.size ≤ l) (h : W.heap[l]? = some o) (hc : o.isCells = false) (_ : o.isWalk = false) : KpB b0 W (W.putObj l o') := by
  have hg := grownBy_putObj' W l o'
  have hne : ∀ b, b ≠ l → (W.putObj l o').heap[b]? = W.heap[b]? := fun b hb => World.putObj_heap_other (by omega)
  have hr : rb b0 (W.putObj l o') = rb b0 W := rb_same (hne b0 (by omega))
  refine ⟨hg.size, fun b hb => ⟨hne b (fun e => ?_), by rw [hr]; exact hb.2.1⟩, fun hv b hb => ?_⟩
  · subst e
    obtain ⟨_, _, o2, h2, h3⟩ := hb
    rw [h] at h2; cases h2; rw [hc] at h3; cases h3
  · rw [hr] at hb; exact Nat.lt_of_lt_of_le (hv b hb) hg.size
/-- A call that turns nothing that was there keeps all of it, and a new block of cells is safe. -/
theorem KpB.of_below {b0 : Nat} {A B : World} (hb : b0 < A.heap.size) (h : Below A.heap.size A B) : KpB b0 A B := by
  have hr : rb b0 B = rb b0 A := rb_same (h.block b0 hb)
  refine ⟨h.size, fun b hs => ⟨h.block b ?_, by rw [hr]; exact hs.2.1⟩, fun hv b hb => ?_⟩
  · obtain ⟨_, _, o, h1, _⟩ := hs; exact (Array.getElem?_eq_some_iff.1 h1).1
  · rw [hr] at hb; exact Nat.lt_of_lt_of_le (hv b hb) h.size
theorem safe_new {b0 b : Nat} {A B : World} (hb : b0 < A.heap.size) (hv : RV b0 A) (h : Below A.heap.size A B) (hn : A.heap.size ≤ b) {o : Obj} (ho : B.heap[b]? = some o) (hc : o.isCells = true) : Safe b0 B b := by
  refine ⟨by omega, fun e => ?_, o, ho, hc⟩
  rw [rb_same (h.block b0 hb)] at e
  have := hv b e
  omega
theorem KpB.cell {b0 : Nat} {A B : World} (k : KpB b0 A B) {b o : Nat} (h : Safe b0 A b) : B.cell? ⟨b, o, none⟩ = A.cell? ⟨b, o, none⟩ := by
  have := (k.safe b h).1
  simp [World.cell?, this]
theorem rb_boxed {b0 : Nat} {A : World} {t : TypeId} {v : Value} (h : Boxed A b0 t v) : rb b0 A = v.ownBlock := by unfold rb; rw [h.cell]
/-- The box itself is written. -/
theorem KpB.setInt {b0 : Nat} {A : World} {t : TypeId} {v : Value} (h : Boxed A b0 t v) (x : Int) : KpB b0 A (A.setCell ⟨b0, 0, none⟩ (.int .i64 x)) := by
  have hg := grownBy_setCell' A b0 (.int .i64 x)
  have hr : rb b0 (A.setCell ⟨b0, 0, none⟩ (.int .i64 x)) = none := rb_boxed (h.set (.int .i64 x))
  exact ⟨hg.size, fun b hs => ⟨Below.heap_setCell _ _ _ _ (by have := hs.1; exact fun e => this (by simpa using e)), by rw [hr]; simp⟩, fun _ b e => by rw [hr] at e; cases e⟩
end Go.Proofs.Ytohbgfmjnanlkaa
/- The steps of a branch's runs as an iterator: its contract. Conditions: stated at each theorem. -/
namespace Go.Proofs.Ytohbgfmjnanlkaa
open Go.ChangeShapes Go.WideShapes Go.ChangeAt Go.RowKit Go.Shelf
set_option linter.unusedVariables false
set_option linter.unusedSimpArgs false
attribute [local go_sem] Oper.semAt_some

theorem cell_obj {W : World} {g o : Nat} {v : Value} (h : W.cell? ⟨g, o, none⟩ = some v) : ∃ x, W.heap[g]? = some x ∧ x.isCells = true := by
  unfold World.cell? at h
  cases e : W.heap[g]? with
  | none => simp [e] at h
  | some x =>
    refine ⟨x, rfl, ?_⟩
    cases x <;> simp_all [Obj.isCells]
/-- A step of a run, with its bounds. -/
abbrev Stp := { p : Int × Int // StOK p }
abbrev encStp (x : Stp) : Array Value := #[.int .i64 x.1.1, .int .i64 x.1.2]
def vals (xs : List Stp) : List (Int × Int) := xs.map (·.1)
theorem vals_snoc (xs : List Stp) (x : Stp) : vals (xs ++ [x]) = vals xs ++ [x.1] := by simp [vals]

/-- The memory of new steps. -/
theorem steps_mem {b0 : Nat} {wr w2 : World} {L : List (Int × Int)} {A : Option Addr} {c : Nat} {vf : Nat → Value} (h0 : b0 < wr.heap.size) (hv : RV b0 wr)
    (ho : OwnSS w2 wr.heap.size A L.length c vf two (fun i => (stF L i).map (.int .i64))) (hb : Below wr.heap.size wr w2) : ∀ i, i < L.length →
    ∃ go gi ci, A = some ⟨go, 0, none⟩ ∧ Safe b0 w2 go ∧ w2.cell? ⟨go, i, none⟩ = some (.slice (some ⟨gi, 0, none⟩) 2 ci) ∧ Safe b0 w2 gi ∧ w2.cell? ⟨gi, 0, none⟩ = some (.int .i64 (L[i]?.getD (0, 0)).1) ∧ w2.cell? ⟨gi, 1, none⟩ = some (.int .i64 (L[i]?.getD (0, 0)).2) := by
  intro i hi
  obtain ⟨go, rfl, _, hc⟩ := ho.cell hi
  have hgo := (World.ownsRow.lt ho.outer go rfl).1
  have hin := ho.inner i hi
  rcases hin.2 with ⟨_, e0⟩ | ⟨gi, ci, cur, e, hbi, hgi, _⟩
  · cases e0
  · rw [e] at hc hin
    have hi2 : two i = 2 := rfl
    rw [hi2] at hc hin
    have c0 := World.ownsRow.cellAt hin 0 (by omega)
    have c1 := World.ownsRow.cellAt hin 1 (by omega)
    obtain ⟨x, hx, hxc⟩ := cell_obj hc
    obtain ⟨y, hy, hyc⟩ := cell_obj c0
    exact ⟨go, gi, ci, rfl, safe_new h0 hv hb hgo hx hxc, hc, safe_new h0 hv hb hbi hy hyc, c0, c1⟩
theorem drew_kp (b0 : Nat) (w : World) : KpB b0 w w.drew := ⟨Nat.le_refl _, fun b hb => ⟨rfl, hb.2.1⟩, id⟩
theorem grown_drew (w : World) : w.grownBy w.drew none := ⟨rfl, rfl, rfl, Nat.le_refl _, fun _ _ _ => rfl⟩
theorem rnL_at {zs : List Int} {n k : Nat} (p e : Int) (hl : zs.length = n) (h : k < n) : rnL p e (zs.drop k) = steps (zs[k]?.getD 0 - p) e ++ rnL (zs[k]?.getD 0) (Int.gcd e (zs[k]?.getD 0) : Int) (zs.drop (k + 1)) := by
  rw [drop_at hl h]; rfl
theorem natB_in {x : Int} (h : 1 ≤ x ∧ x ≤ 2000) : natB x = true := natB_true.2 (by omega)

set_option maxRecDepth 100000 in
set_option maxHeartbeats 1000000 in
theorem runIt_stops (m b0 Bn g o n c : Nat) (zs : List Int) (w : World) (hm : 1 ≤ m) (hp : brB zs = true) (hl : zs.length = n) (hv : RV b0 w) (h0 : b0 < w.heap.size) (sB : Safe b0 w Bn)
    (cB : w.cell? ⟨Bn, 0, none⟩ = some (.slice (some ⟨g, o, none⟩) n c)) (hc : n ≤ c) (hcm : c ≤ 9223372036854775807) (sG : Safe b0 w g) (cG : ∀ k, k < n → w.cell? ⟨g, o + k, none⟩ = some (.int .i64 (zs[k]?.getD 0))) :
    SeqStopsK Fence.wide m Try.prog 186 #[.pointer (some ⟨Bn, 0, none⟩)] encStp (KpB b0) (fun xs => vals xs = rsI zs) (fun _ => True) (rsI zs).length w := fun l J Jx W hW hJ hJx hY hJ0 => by
  refine callsIn_of_wp Try.func186 rfl trivial ?_ rfl
  simp only [Try.ntmps186, List.size_toArray, List.length_cons, List.length_nil, Nat.reduceAdd, Nat.reduceSub, Array.replicate_succ, Array.replicate_zero, List.push_toArray, List.append_toArray, List.nil_append, List.cons_append]
  have cBW : W.cell? ⟨Bn, 0, none⟩ = some (.slice (some ⟨g, o, none⟩) n c) := by
    obtain ⟨_, _, x, hx, _⟩ := sB
    rw [hW.cell (p := ⟨Bn, 0, none⟩) (Array.getElem?_eq_some_iff.1 hx).1]; exact cB
  by_cases h1 : n = 1
  · subst h1
    have E : Hid (rsI zs = [(1, 1)]) := Lib.hid (by rw [rsI, if_pos hl])
    obtain ⟨f1, t1, a1, b1, hy1, hR1⟩ := hY [] ⟨(1, 1), by simp [StOK]⟩ W hJ0 (by rw [E.out]; simp)
    dsimp only [encStp] at hy1
    gi_wp2
    refine hR1.mono ?_
    rintro e W1 (⟨rfl, hJ1, _⟩ | ⟨rfl, hx1⟩)
    · gi_wp2
      refine bodyPost_ret (results_none rfl _ _ _) rfl ?_
      exact ⟨⟨_, rfl⟩, .inl ⟨_, by rw [E.out]; rfl, hJ1⟩⟩
    · gi_wp2
      refine bodyPost_ret (results_none rfl _ _ _) rfl ?_
      exact ⟨⟨_, rfl⟩, .inr ⟨_, trivial, hx1⟩⟩
  · have hn1 : (n : Int) ≠ 1 := by omega
    have hn2 : 2 ≤ n := by
      have := brB_pos hp; omega
    have hc2 : 1 < c := by omega
    have hlen : zs.length ≤ 1048576 := by
      obtain ⟨n', r, e, _, _, h3⟩ := br_cons hp
      rw [e]; simp only [List.length_cons]; omega
    have HZ := Lib.hid (dcB_range (brB_dcB hp))
    have hRd : ReadI W W.heap.size (.slice (some ⟨g, o, none⟩) n c) zs := by
      subst hl
      refine ⟨_, _, rfl, ⟨rfl, fun k hk => ⟨_, rfl, ?_, ?_⟩⟩, by simp, hc, fun a e => by cases e; exact ⟨_, _, rfl⟩, hcm⟩
      · obtain ⟨_, _, x, hx, _⟩ := sG
        exact Nat.lt_of_lt_of_le (Array.getElem?_eq_some_iff.1 hx).1 hW.size
      · obtain ⟨_, _, x, hx, _⟩ := sG
        rw [add_lit, hW.cell (p := ⟨g, o + k, none⟩) (Array.getElem?_eq_some_iff.1 hx).1]
        simpa using cG k hk
    have HR := Lib.hid hRd
    clear hRd
    gi_wp2_with fail
    refine ⟨trivial, ?_⟩
    gi_at_call 185
    refine (callsIn_wide.2 (divisors_any _ zs W W.heap.size HR.out hlen (Nat.le_refl _) HZ.out)).mono ?_
    rintro e W1 ⟨v1, rfl, hv1, ho1, hb1⟩
    subst hv1
    have h0W : b0 < W.heap.size := Nat.lt_of_lt_of_le h0 hW.size
    have kW : ∀ b, Safe b0 w b → Safe b0 W b := fun b hb => (KpB.of_below h0 hW).keeps hb
    have hvW : RV b0 W := (KpB.of_below h0 hW).rv hv
    have k1 := KpB.of_below h0W hb1
    have kw1 := (KpB.of_below h0 hW).trans k1
    have sB1 := Lib.hid (kw1.keeps sB)
    have sG1 := Lib.hid (kw1.keeps sG)
    have hv1 := Lib.hid (kw1.rv hv)
    have cB1 : W1.cell? ⟨Bn, 0, none⟩ = some (.slice (some ⟨g, o, none⟩) n c) := by rw [kw1.cell sB]; exact cB
    have cG1 : Hid (∀ k, k < n → W1.cell? ⟨g, o + k, none⟩ = some (.int .i64 (zs[k]?.getD 0))) := Lib.hid fun k hk => by rw [kw1.cell sG]; exact cG k hk
    have cD1 : Hid (∀ k, k < n → W1.cell? ⟨W.heap.size, k, none⟩ = some (.int .i64 ((dvL 0 zs)[k]?.getD 0))) := Lib.hid fun k hk => by
      obtain ⟨g', e1, _, _, h5, _⟩ := own_at (by have := ho1; rw [hl] at this; exact this) (by rw [dvL_len, hl]) hk
      cases e1; exact h5
    have sD1 : Hid (Safe b0 W1 W.heap.size) := Lib.hid (by
      obtain ⟨x, hx, hxc⟩ := cell_obj (cD1.out 0 (by omega))
      exact safe_new h0W hvW hb1 (Nat.le_refl _) hx hxc)
    have hs1 : W.heap.size ≤ W1.heap.size := hb1.size
    have HL := Lib.hid hl
    have J1 : Hid (J [] W1) := Lib.hid (hJ _ _ _ none hJ0 (grown_of_below hb1 none) (fun r e => by cases e))
    have hr0 : Hid (vals [] ++ rnL 0 ((dvL 0 zs)[0]?.getD 0) (zs.drop 1) = rsI zs) := Lib.hid (by
      obtain ⟨n', r, e, h3, _⟩ := br_cons hp
      have h5 := HL.out
      subst e
      rw [dvL_first h3.1, rsI, if_neg (by omega)]; rfl)
    have he0 : Hid ((1 : Int) ≤ (dvL 0 zs)[0]?.getD 0 ∧ (dvL 0 zs)[0]?.getD 0 ≤ 64) := Lib.hid (by
      obtain ⟨n', r, e, h3, _⟩ := br_cons hp
      subst e
      rw [dvL_first h3.1]; exact h3)
    have ha0 : Hid (ascB 0 (zs.drop 1) = true) := Lib.hid (by
      obtain ⟨n', r, e, h3, h4, _⟩ := br_cons hp
      subst e; exact h4)
    have HOK := Lib.hid (rsI_ok hp).1
    rw [hl]
    clear k1 kw1 kW sB cB sG cG ho1 hJ0 hvW hv cBW hW h0 HR hl hp
    gi_wp2_with fail
    gi_loopw [4, 24] (fun v4 v24 wr => ∃ (k : Nat) (p e : Int) (pre : List Stp), k ≤ n - 1 ∧ 0 ≤ p ∧ v4 = .int .i64 p ∧ v24 = .int .i64 k ∧ Hid ((dvL 0 zs)[k]?.getD 0 = e) ∧ (1 ≤ e ∧ e ≤ 64) ∧ Hid (ascB p (zs.drop (k + 1)) = true) ∧ Hid (vals pre ++ rnL p e (zs.drop (k + 1)) = rsI zs) ∧ Hid (J pre wr) ∧ Hid (KpB b0 W1 wr)) (fun _ v24 _ => n - (intOf v24).toNat)
    case atStart => exact ⟨0, 0, _, [], by omega, by omega, rfl, rfl, Lib.hid rfl, he0.out, ha0, hr0, J1, Lib.hid (KpB.refl _ _)⟩
    case round =>
      obtain ⟨k, p, e, pre, hk, hp0, rfl, rfl, HE, he, HA, HRn, HJ, HK⟩ := hrel
      by_cases hkn : k < n - 1
      · have hz := ascB_all HA.out (zs[k + 1]?.getD 0) (by rw [drop_at HL.out (by omega)]; simp)
        have HA2 : Hid (ascB (zs[k + 1]?.getD 0) (zs.drop (k + 1 + 1)) = true) := Lib.hid (by
          have := HA.out; rw [drop_at HL.out (show k + 1 < n by omega)] at this
          simp only [ascB, Bool.and_eq_true] at this; exact this.2)
        have HR2 := Lib.hid (HRn.out.symm.trans (by rw [rnL_at p e HL.out (show k + 1 < n by omega)]))
        have HE2 : Hid ((dvL 0 zs)[k + 1]?.getD 0 = (Int.gcd e (zs[k + 1]?.getD 0) : Int)) := Lib.hid (by rw [dvL_next zs 0 k (by rw [HL.out]; omega), HE.out])
        have cz : wr.cell? ⟨g, o + 1 + k, none⟩ = some (.int .i64 (zs[k + 1]?.getD 0)) := by
          have h5 := cG1.out (k + 1) (by omega)
          rw [HK.out.cell sG1.out, show o + 1 + k = o + (k + 1) by omega]; exact h5
        have ce : wr.cell? ⟨W.heap.size, k, none⟩ = some (.int .i64 e) := by
          rw [HK.out.cell sD1.out, cD1.out k (by omega), HE.out]
        generalize zs[k + 1]?.getD 0 = z at *
        have hge := gcd_le_left (e := e) (z := z) he.1
        have E1 : Hid (esA (z - p) e = steps (z - p) e) := Lib.hid (by simp [esA, natB_in (x := z - p) (by omega), natB_in (x := e) (by omega)])
        have hkn2 : (k : Int) < ((n - 1 : Nat) : Int) := by omega
        have hkn3 : (k : Int) < (n : Int) := by omega
        have hwp : IntKind.i64.wrap (z - p) = z - p := IntWalk.i64_in _ (by omega)
        have h0r : b0 < wr.heap.size := by have := HK.out.size; omega
        gi_wp2_with fail
        refine ⟨trivial, ?_⟩
        gi_at_call 187
        refine (callsIn_wide.2 (implEuclidSteps_any (z - p) e wr)).mono ?_
        rintro e9 w2 ⟨A, c2, vf, rfl, hos, hb2⟩
        rw [E1.out] at hos ⊢
        have HM := Lib.hid (steps_mem h0r (HK.out.rv hv1.out) hos hb2)
        have HK2 := Lib.hid (HK.out.trans (KpB.of_below h0r hb2))
        have HJ2 : Hid (J pre w2) := Lib.hid (hJ _ _ _ none HJ.out (grown_of_below hb2 none) (fun r e => by cases e))
        have HS2 := hb2.size
        obtain ⟨L2, HL2⟩ : ∃ L2, steps (z - p) e = L2 := ⟨_, rfl⟩
        have hq65 : L2.length ≤ 65 := by rw [← HL2]; exact steps_len (by omega)
        rw [HL2] at HM ⊢
        have HR3 : Hid (rsI zs = vals pre ++ (L2 ++ rnL z (Int.gcd e z : Int) (zs.drop (k + 1 + 1)))) := Lib.hid (by rw [← HL2]; exact HR2.out)
        obtain ⟨q, HQ⟩ : ∃ q, L2.length = q := ⟨_, rfl⟩
        rw [HQ] at HM hq65 ⊢
        have HQ' := Lib.hid HQ
        clear HQ HL2 hos hb2 HR2 HRn HJ cz ce HK HE E1
        gi_wp2_with fail
        gi_loopw [42] (fun v42 wr2 => ∃ (j : Nat) (pre2 : List Stp), j ≤ q ∧ v42 = .int .i64 j ∧ Hid (rsI zs = vals pre2 ++ (L2.drop j ++ rnL z (Int.gcd e z : Int) (zs.drop (k + 1 + 1)))) ∧ Hid (J pre2 wr2) ∧ Hid (KpB b0 w2 wr2)) (fun v42 _ => q - (intOf v42).toNat)
        case atStart => exact ⟨0, pre, by omega, rfl, HR3, HJ2, Lib.hid (KpB.refl _ _)⟩
        case round =>
          obtain ⟨j, pre2, hj, rfl, HR4, HJ4, HK4⟩ := hrel
          by_cases hjq : j < q
          · obtain ⟨go, gi, ci, rfl, s1, c1, s2, c3, c4⟩ := HM.out j hjq
            have d1 := (HK4.out.cell s1).trans c1
            have d2 := (HK4.out.cell s2).trans c3
            have d3 := (HK4.out.cell s2).trans c4
            have HX : Hid (rsI zs = vals pre2 ++ ((L2[j]?.getD (0, 0)) :: (L2.drop (j + 1) ++ rnL z (Int.gcd e z : Int) (zs.drop (k + 1 + 1))))) := Lib.hid (by
              rw [HR4.out]
              have h5 : L2.drop j = (L2[j]?.getD (0, 0)) :: L2.drop (j + 1) := by
                have h6 : j < L2.length := by rw [HQ'.out]; exact hjq
                rw [List.drop_eq_getElem_cons h6]; simp [h6]
              rw [h5]; rfl)
            generalize L2[j]?.getD (0, 0) = x at *
            have hx : StOK x := HOK.out x (by rw [HX.out]; simp)
            have hlt : pre2.length < (rsI zs).length := by rw [HX.out]; simp [vals]
            have hjq2 : (j : Int) < (q : Int) := by omega
            have HJd : J pre2 wr.drew := hJ _ _ _ none HJ4.out (grown_drew _) (fun r e => by cases e)
            obtain ⟨f1, t1, a1, y1, hy1, hR1⟩ := hY pre2 ⟨x, hx⟩ wr.drew HJd hlt
            dsimp only [encStp] at hy1
            obtain ⟨x1, x2⟩ := x
            dsimp only at *
            clear c1 c3 c4 HJd
            gi_wp2_with fail
            refine wpIn_region_any (by kernel_rfl) ?_
            try (change wpAnyIn _ _ _ _ _ _ _ _ _ (World.drew _))
            refine wpAnyIn_take (i := 0) (v := ?_) rfl rfl (by kernel_rfl) (by kernel_rfl) (by kernel_rfl) (fun _ _ _ h => h) ⟨Or.inl ⟨by rfl, ?_⟩, fun _ => rfl⟩ ?_
            rotate_left 1
            · intro w; go_simp; (try with_reducible rfl)
            try simp only [Act.put, List.setIfInBounds_toArray, List.set_cons_zero, List.set_cons_succ]
            refine wpAnyIn_take (i := 1) (v := ?_) rfl rfl (by kernel_rfl) (by kernel_rfl) (by kernel_rfl) (fun _ _ _ h => h) ⟨Or.inl ⟨by rfl, ?_⟩, fun _ => rfl⟩ ?_
            rotate_left 1
            · intro w; go_simp; (try with_reducible rfl)
            try simp only [Act.put, List.setIfInBounds_toArray, List.set_cons_zero, List.set_cons_succ]
            refine wpAnyIn_take (i := 2) (v := ?_) rfl rfl (by kernel_rfl) (by kernel_rfl) (by kernel_rfl) (fun _ _ _ h => h) ⟨Or.inl ⟨by rfl, ?_⟩, fun _ => rfl⟩ ?_
            rotate_left 1
            · intro w; go_simp; (try with_reducible rfl)
            try simp only [Act.put, List.setIfInBounds_toArray, List.set_cons_zero, List.set_cons_succ]
            refine wpAnyIn_take (i := 4) (v := ?_) rfl rfl (by kernel_rfl) (by kernel_rfl) (by kernel_rfl) (fun _ _ _ h => h) ⟨Or.inl ⟨by rfl, ?_⟩, fun _ => rfl⟩ ?_
            rotate_left 1
            · intro w; go_simp; (try with_reducible rfl)
            try simp only [Act.put, List.setIfInBounds_toArray, List.set_cons_zero, List.set_cons_succ]
            refine wpAnyIn_take (i := 5) (v := ?_) rfl rfl (by kernel_rfl) (by kernel_rfl) (by kernel_rfl) (fun _ _ _ h => h) ⟨Or.inl ⟨by rfl, ?_⟩, fun _ => rfl⟩ ?_
            rotate_left 1
            · intro w; go_simp; (try with_reducible rfl)
            try simp only [Act.put, List.setIfInBounds_toArray, List.set_cons_zero, List.set_cons_succ]
            refine wpAnyIn_ready (rs := [3, 6]) (by kernel_rfl) (by simp) ?_
            refine (AllReadyIn.cons rfl (fun K hK => ?_) (AllReadyIn.cons rfl (fun K hK => ?_) AllReadyIn.nil))
            · go_simp
              refine hK _ _ ?_
              clear hK K
              try simp only [Act.put, List.setIfInBounds_toArray, List.set_cons_zero, List.set_cons_succ]
              refine wpAnyIn_ready (rs := [6]) (by kernel_rfl) (by simp) ?_
              refine (AllReadyIn.cons rfl (fun K hK => ?_) AllReadyIn.nil)
              go_simp
              refine hK _ _ ?_
              clear hK K
              try simp only [Act.put, List.setIfInBounds_toArray, List.set_cons_zero, List.set_cons_succ]
              refine wpAnyIn_ready (rs := [7]) (by kernel_rfl) (by simp) ?_
              refine (AllReadyIn.cons rfl (fun K hK => ?_) AllReadyIn.nil)
              go_simp
              refine hR1.mono ?_
              rintro e8 W8 (⟨rfl, hJ8, hK8⟩ | ⟨rfl, hJx8⟩)
              · refine hK _ _ ?_
                clear hK K
                try simp only [Act.put, List.setIfInBounds_toArray, List.set_cons_zero, List.set_cons_succ]
                refine wpAnyIn_take (i := 8) (v := ?_) rfl rfl (by kernel_rfl) (by kernel_rfl) (by kernel_rfl) (fun _ _ _ h => h) ⟨Or.inl ⟨by rfl, ?_⟩, fun _ => rfl⟩ ?_
                rotate_left 1
                · intro w; go_simp; (try with_reducible rfl)
                try simp only [Act.put, List.setIfInBounds_toArray, List.set_cons_zero, List.set_cons_succ]
                refine wpAnyIn_done (by kernel_rfl) ?_ _
                gi_wp2_with fail
                go_roundw
                case rel => exact ⟨j + 1, pre2 ++ [⟨(x1, x2), hx⟩], by omega, by go_num, Lib.hid (by rw [HX.out, vals_snoc]; simp), Lib.hid hJ8, Lib.hid (HK4.out.trans ((drew_kp _ _).trans hK8))⟩
                case measure => simp [intOf]; omega
              · refine hK _ _ ?_
                clear hK K
                try simp only [Act.put, List.setIfInBounds_toArray, List.set_cons_zero, List.set_cons_succ]
                refine wpAnyIn_take (i := 8) (v := ?_) rfl rfl (by kernel_rfl) (by kernel_rfl) (by kernel_rfl) (fun _ _ _ h => h) ⟨Or.inl ⟨by rfl, ?_⟩, fun _ => rfl⟩ ?_
                rotate_left 1
                · intro w; go_simp; (try with_reducible rfl)
                try simp only [Act.put, List.setIfInBounds_toArray, List.set_cons_zero, List.set_cons_succ]
                refine wpAnyIn_done (by kernel_rfl) ?_ _
                gi_wp2_with fail
                refine bodyPost_ret (results_none rfl _ _ _) rfl ?_
                exact ⟨⟨_, rfl⟩, .inr ⟨_, trivial, hJx8⟩⟩
            · go_simp
              refine hK _ _ ?_
              clear hK K
              try simp only [Act.put, List.setIfInBounds_toArray, List.set_cons_zero, List.set_cons_succ]
              refine wpAnyIn_ready (rs := [3]) (by kernel_rfl) (by simp) ?_
              refine (AllReadyIn.cons rfl (fun K hK => ?_) AllReadyIn.nil)
              go_simp
              refine hK _ _ ?_
              clear hK K
              try simp only [Act.put, List.setIfInBounds_toArray, List.set_cons_zero, List.set_cons_succ]
              refine wpAnyIn_ready (rs := [7]) (by kernel_rfl) (by simp) ?_
              refine (AllReadyIn.cons rfl (fun K hK => ?_) AllReadyIn.nil)
              go_simp
              refine hR1.mono ?_
              rintro e8 W8 (⟨rfl, hJ8, hK8⟩ | ⟨rfl, hJx8⟩)
              · refine hK _ _ ?_
                clear hK K
                try simp only [Act.put, List.setIfInBounds_toArray, List.set_cons_zero, List.set_cons_succ]
                refine wpAnyIn_take (i := 8) (v := ?_) rfl rfl (by kernel_rfl) (by kernel_rfl) (by kernel_rfl) (fun _ _ _ h => h) ⟨Or.inl ⟨by rfl, ?_⟩, fun _ => rfl⟩ ?_
                rotate_left 1
                · intro w; go_simp; (try with_reducible rfl)
                try simp only [Act.put, List.setIfInBounds_toArray, List.set_cons_zero, List.set_cons_succ]
                refine wpAnyIn_done (by kernel_rfl) ?_ _
                gi_wp2_with fail
                go_roundw
                case rel => exact ⟨j + 1, pre2 ++ [⟨(x1, x2), hx⟩], by omega, by go_num, Lib.hid (by rw [HX.out, vals_snoc]; simp), Lib.hid hJ8, Lib.hid (HK4.out.trans ((drew_kp _ _).trans hK8))⟩
                case measure => simp [intOf]; omega
              · refine hK _ _ ?_
                clear hK K
                try simp only [Act.put, List.setIfInBounds_toArray, List.set_cons_zero, List.set_cons_succ]
                refine wpAnyIn_take (i := 8) (v := ?_) rfl rfl (by kernel_rfl) (by kernel_rfl) (by kernel_rfl) (fun _ _ _ h => h) ⟨Or.inl ⟨by rfl, ?_⟩, fun _ => rfl⟩ ?_
                rotate_left 1
                · intro w; go_simp; (try with_reducible rfl)
                try simp only [Act.put, List.setIfInBounds_toArray, List.set_cons_zero, List.set_cons_succ]
                refine wpAnyIn_done (by kernel_rfl) ?_ _
                gi_wp2_with fail
                refine bodyPost_ret (results_none rfl _ _ _) rfl ?_
                exact ⟨⟨_, rfl⟩, .inr ⟨_, trivial, hJx8⟩⟩
          · obtain rfl : j = q := by omega
            have HR5 : Hid (vals pre2 ++ rnL z (Int.gcd e z : Int) (zs.drop (k + 1 + 1)) = rsI zs) := Lib.hid (by
              have h6 : L2.drop j = [] := List.drop_eq_nil_of_le (by rw [HQ'.out]; exact Nat.le_refl _)
              rw [HR4.out, h6]; rfl)
            gi_wp2_with fail
            go_roundw
            case rel => exact ⟨k + 1, z, (Int.gcd e z : Int), pre2, by omega, by omega, rfl, by go_num, HE2, by omega, HA2, HR5, HJ4, Lib.hid (HK2.out.trans HK4.out)⟩
            case measure => simp [intOf]; omega
      · have hke : k = n - 1 := by omega
        subst hke
        have HX : Hid (vals pre = rsI zs) := Lib.hid (by
          have := HRn.out; rw [drop_end HL.out (by omega)] at this
          simpa [rnL] using this)
        clear HRn HA HE
        gi_wp2
        go_end0
        exact ⟨⟨_, rfl⟩, .inl ⟨pre, HX.out, HJ.out⟩⟩
end Go.Proofs.Ytohbgfmjnanlkaa
/- Delta invariants and numbers of blow-ups, the program's: contracts. Conditions: stated at each theorem. -/
namespace Go.Proofs.Ytohbgfmjnanlkaa
open Go.ChangeShapes Go.WideShapes Go.ChangeAt Go.RowKit Go.Shelf
set_option linter.unusedVariables false
set_option linter.unusedSimpArgs false
attribute [local go_sem] Oper.semAt_some

theorem runSteps_any (v : Value) (w : World) :
    Calls Try.prog 158 #[.agg #[v]] w fun e w' => e = .returned (.func (.func 186) #[] #[.pointer (some ⟨w.heap.size, 0, none⟩)]) ∧ w' = w.alloc (.cells #[v] 28) := by
  go_enter Try.func158, Try.ntmps158
  go_wp2
  go_ret
  exact ⟨rfl, rfl⟩
/-- What is said of a branch that reads, behind new blocks. -/
theorem branch_mem {w W : World} {A : Option Addr} {n c b0 : Nat} {zs : List Int} (h : ReadI w w.heap.size (.slice A n c) zs) (hp : brB zs = true) (hl : zs.length = n) (hb : Below w.heap.size w W) (hb0 : w.heap.size ≤ b0) (hr : rb b0 W = none) :
    ∃ g o, A = some ⟨g, o, none⟩ ∧ n ≤ c ∧ c ≤ 9223372036854775807 ∧ Safe b0 W g ∧ ∀ k, k < n → W.cell? ⟨g, o + k, none⟩ = some (.int .i64 (zs[k]?.getD 0)) := by
  subst hl
  obtain ⟨A', c', e, h1, h2, h3, h4, h5⟩ := h
  cases e
  have hpos := brB_pos hp
  obtain ⟨a, ea, hlt, hc0⟩ := h1.2 0 hpos
  obtain ⟨g, o, e2⟩ := h4 a ea
  subst e2; subst ea
  have hc : ∀ k, k < zs.length → W.cell? ⟨g, o + k, none⟩ = some (.int .i64 (zs[k]?.getD 0)) := fun k hk => by
    obtain ⟨a', e3, _, hck⟩ := h1.2 k hk
    cases e3
    rw [hb.cell (p := ⟨g, o + k, none⟩) hlt]
    rw [add_lit] at hck
    simpa using hck
  obtain ⟨x, hx, hxc⟩ := cell_obj (hc 0 hpos)
  exact ⟨g, o, rfl, h3, h5, ⟨by have : g < w.heap.size := hlt; omega, by rw [hr]; simp, x, hx, hxc⟩, hc⟩

def dA (zs : List Int) : Int := if brB zs then delL (rsI zs) else 0
def uA (zs : List Int) : Int := if brB zs then upsL (rsI zs) else 0
def sqC (zs : List Int) : Int := if brB zs then 0 else 1

set_option maxRecDepth 100000 in
set_option maxHeartbeats 2000000 in
theorem implDeltaInvariant_any (v : Value) (zs : List Int) (w : World) (h : ReadI w w.heap.size v zs) (hn : zs.length ≤ 1048576) (hw : ∀ z ∈ zs, (Lit.int .i64 z).wf = true) :
    Calls Try.prog 109 #[.agg #[v]] w (AnsII w (dA zs) (sqC zs)) := by
  have hq := h
  obtain ⟨n, A, c, rfl, hr, HL, HN, hnc, HF, hcm⟩ := h.split2
  obtain ⟨W0, HE⟩ : ∃ W, W = w.alloc (.cells #[.slice A n c] 28) := ⟨_, rfl⟩
  have hb0 : Below w.heap.size w W0 := by rw [HE]; exact below_box _ _
  have hq0 : BoxI W0 w.heap.size (.slice A n c) := by rw [HE]; exact BoxI.new _ _ _
  have H0 := Lib.hid ((hq.below hb0).more hb0.size)
  have HQ := Lib.hid hq
  have HNN := Lib.hid hn
  have HWW := Lib.hid hw
  have HEQ := Lib.hid HE
  clear hq h hr HE HN HF hw hn
  refine (callsIn_wide (n := 9)).1 ?_
  refine callsIn_of_wp_marks Try.func109 rfl trivial ?_ rfl
  simp only [Try.ntmps109, List.size_toArray, List.length_cons, List.length_nil, Nat.reduceAdd, Nat.reduceSub, Array.replicate_succ, Array.replicate_zero, List.push_toArray, List.append_toArray, List.nil_append, List.cons_append]
  gi_wp2_with fail
  rw [← HEQ.out]
  refine ⟨trivial, ?_⟩
  gi_at_call 98
  rcases bool_fs (brB zs) with hp | hp
  · have e1 : Hid (dA zs = 0) := Lib.hid (by simp [dA, hp])
    have e2 : Hid (sqC zs = 1) := Lib.hid (by simp [sqC, hp])
    refine (callsIn_wide.2 (implIsBranch_if _ zs _ false H0.out HNN.out HWW.out hp)).mono ?_
    rintro e w1 ⟨rfl, hb1⟩
    gi_wp2_with fail
    refine ⟨.tuple #[.int .i64 0, .int .i64 1], by simp [results, Try.f109, go_sem], ?_⟩
    exact ⟨by rw [e1.out, e2.out], hb0.trans (hb1.mono hb0.size)⟩
  · have e1 : Hid (dA zs = delL (rsI zs)) := Lib.hid (by simp [dA, hp])
    have e2 : Hid (sqC zs = 0) := Lib.hid (by simp [sqC, hp])
    refine (callsIn_wide.2 (implIsBranch_if _ zs _ true H0.out HNN.out HWW.out hp)).mono ?_
    rintro e w1 ⟨rfl, hb1⟩
    have cb1 : w1.cell? ⟨w.heap.size, 0, none⟩ = some (.slice A n c) := by rw [hb1.cell (p := ⟨w.heap.size, 0, none⟩) hq0.2]; exact hq0.1
    have hs1 : w.heap.size < w1.heap.size := Nat.lt_of_lt_of_le hq0.2 hb1.size
    have B1 : Below w.heap.size w w1 := hb0.trans (hb1.mono hb0.size)
    clear hb1 hb0 hq0 H0 HEQ
    gi_wp2_with (refine ⟨trivial, ?_⟩; gi_at_call 158; refine (callsIn_wide.2 (runSteps_any _ _)).mono ?_; rintro e w' ⟨rfl, rfl⟩)
    have hl := HL.out
    have hbb : Below w.heap.size w ((w1.alloc (.cells #[.int .i64 0] 2)).alloc (.cells #[.slice A n c] 28)) := (B1.alloc B1.size _).alloc (by have := B1.size; simp; omega) _
    have bD := (Boxed.new w1 2 (.int .i64 0)).alloc (.cells #[.slice A n c] 28)
    have bN := Boxed.new (w1.alloc (.cells #[.int .i64 0] 2)) 28 (.slice A n c)
    rw [World.size_alloc] at bN
    have hsW : ((w1.alloc (.cells #[.int .i64 0] 2)).alloc (.cells #[.slice A n c] 28)).heap.size = w1.heap.size + 2 := by simp
    generalize (w1.alloc (.cells #[.int .i64 0] 2)).alloc (.cells #[.slice A n c] 28) = W4 at *
    have hrb : rb w1.heap.size W4 = none := rb_boxed bD
    obtain ⟨g, o, rfl, hnc', hcm', sG, cG⟩ := branch_mem HQ.out hp hl hbb (by omega) hrb
    have h0 : w1.heap.size < W4.heap.size := by omega
    have sB : Safe w1.heap.size W4 (w1.heap.size + 1) := ⟨by omega, by rw [hrb]; simp, _, bN, rfl⟩
    have hOK := rsI_ok hp
    refine wpIn_rangeFunc_ownF rfl (by omega) (gf := 186) (lb := #[.pointer (some ⟨w1.heap.size + 1, 0, none⟩)]) rfl trivial (enters_of Try.func186 (by kernel_rfl) rfl)
      (runIt_stops _ w1.heap.size (w1.heap.size + 1) g o n c zs W4 (by omega) hp hl (fun b e => by rw [hrb] at e; cases e) h0 sB bN.cell hnc' hcm' sG cG) (fun h k => h.trans k) (kpB_b h0) (Below.refl _ _) (fun _ => rfl)
      (fun pre W => Boxed W w1.heap.size 2 (.int .i64 (delL (vals pre))) ∧ Below w.heap.size w W)
      (fun _ _ _ => False)
      (OwnFrom.and (fun s X Y row hs hg hr => hs.kept hg (fun e => by obtain ⟨_, o1, h1, h2⟩ := hr _ e.symm; rw [show X.heap[w1.heap.size]? = _ from hs] at h1; cases h1; cases h2)) (ownFrom_below (Nat.le_refl _) (by omega)))
      (fun _ _ _ _ _ hs _ _ => hs)
      ⟨bD, hbb⟩
      (fun x => { tmps := #[.agg #[.slice (some ⟨g, o, none⟩) n c], .pointer (some ⟨w.heap.size, 0, none⟩), .int .i64 0, .int .i64 0, .pointer (some ⟨w1.heap.size, 0, none⟩), .int .i64 x.1.1, .int .i64 x.1.2, .agg #[.slice (some ⟨g, o, none⟩) n c], .bool true, .bool false, .agg #[.slice (some ⟨g, o, none⟩) n c], .func (.func 186) #[] #[.pointer (some ⟨w1.heap.size + 1, 0, none⟩)], .int .i64 x.1.1, .int .i64 x.1.2, undef, undef, undef, undef, undef, undef, undef, undef, undef, undef], defers := [] }) ?assign ?body ?done ?stop
    case assign =>
      intro l x W K hK
      gi_wp2
      exact hK
    case body =>
      rintro l pre x W ⟨hbx, hB⟩ hlt
      have hc := hbx.cell
      have hf := hbx.frozen
      obtain ⟨⟨q, r⟩, hx⟩ := x
      have hv := delL_bound (L := vals pre) (fun p hp => by obtain ⟨y, _, rfl⟩ := List.mem_map.1 hp; exact y.2)
      have hvl : (vals pre).length = pre.length := by simp [vals]
      have hd := delP hx
      have hr := halfR hx.2
      obtain ⟨⟨hx1, hx2⟩, hx3, hx4⟩ := hx
      dsimp only at *
      gi_wp2_with fail
      exact ⟨KeepsOthers.setCell _ _ _, KpB.setInt hbx _, ⟨by rw [vals_snoc, delL_snoc]; exact hbx.set _, hB.setCell (p := ⟨w1.heap.size, 0, none⟩) (by show w.heap.size ≤ w1.heap.size; omega) _⟩⟩
    case done =>
      rintro D xs W hD hxs ⟨hbx, hB⟩ hK
      have hc := hbx.cell
      have hX : Hid (delL (vals xs) = delL (rsI zs)) := Lib.hid (by rw [hxs])
      generalize delL (vals xs) = d at *
      gi_wp2
      refine ⟨by simp, .inl ⟨_, _, rfl, run_takeDeferred hK, ?_⟩⟩
      refine ⟨.tuple #[.int .i64 d, .int .i64 0], by simp [results, Try.f109, go_sem], ?_⟩
      exact ⟨by rw [e1.out, e2.out, hX.out], hB.trans (belowK_b (w := w) (Nat.le_refl _) W D _ _ (by omega) hK rfl rfl)⟩
    case stop =>
      rintro D c pre W _ _ h _
      exact h.elim
end Go.Proofs.Ytohbgfmjnanlkaa
/- Numbers of blow-ups and Milnor numbers, the program's: contracts. Conditions: stated at each theorem. -/
namespace Go.Proofs.Ytohbgfmjnanlkaa
open Go.ChangeShapes Go.WideShapes Go.ChangeAt Go.RowKit Go.Shelf
set_option linter.unusedVariables false
set_option linter.unusedSimpArgs false
attribute [local go_sem] Oper.semAt_some

def mA (zs : List Int) : Int := 2 * dA zs
theorem dA_bound (zs : List Int) : 0 ≤ dA zs ∧ dA zs ≤ 600000000000 := by
  unfold dA
  split
  · rename_i hp
    have h1 := rsI_ok hp
    have := delL_bound h1.1
    omega
  · omega
end Go.Proofs.Ytohbgfmjnanlkaa
/- The runs of a branch, the model's: contract. Conditions: stated at each theorem. -/
namespace Go.Proofs.Ytohbgfmjnanlkaa
open Go.ChangeShapes Go.WideShapes Go.ChangeAt Go.RowKit
set_option linter.unusedVariables false
set_option linter.unusedSimpArgs false

theorem own_lessR {w : World} {lo lo' n : Nat} {v : Value} {xs : List Value} {t : TypeId} (h : w.ownsRow lo t 1 v n xs) (hl : lo' ≤ lo) : w.ownsRow lo' t 1 v n xs := by
  refine ⟨h.1, ?_⟩
  rcases h.2 with hn | ⟨g, cap, cur, e, hb, rest⟩
  · exact .inl hn
  · exact .inr ⟨g, cap, cur, e, by omega, rest⟩
/-- A list of slices behind an append of another one. -/
theorem OwnSS.join {w w1 : World} {base base2 n m c c2 : Nat} {A A2 : Option Addr} {vf vf2 : Nat → Value} {xf xf2 : Nat → List Value} (h : OwnSS w base A n c vf two xf) (h2 : OwnSS w base2 A2 m c2 vf2 two xf2)
    (hb : base ≤ base2) (hlt : ∀ i, i < n → ∀ k, (vf i).ownBlock = some k → k < base2) {A1 : Option Addr} {c1 : Nat}
    (h1 : w1.ownsRow base 22 1 (.slice A1 (n + m) c1) (n + m) ((List.range n).map vf ++ (List.range m).map vf2)) (hg : w.grownBy w1 (Value.slice A n c).ownBlock) :
    OwnSS w1 base A1 (n + m) c1 (fun i => if i < n then vf i else vf2 (i - n)) two (fun i => if i < n then xf i else xf2 (i - n)) := by
  have hold : ∀ i, i < n → Own w1 base (vf i) 2 (xf i) := fun i hi => (h.inner i hi).kept hg (block_type (h.inner i hi) h.outer (by decide))
  have hnew : ∀ i, i < m → Own w1 base (vf2 i) 2 (xf2 i) := fun i hi => Own.kept (own_lessR (h2.inner i hi) hb) hg (block_type (h2.inner i hi) h.outer (by decide))
  have hge : ∀ i, i < m → ∀ k, (vf2 i).ownBlock = some k → base2 ≤ k := fun i hi k hk => ((h2.inner i hi).lt k hk).1
  refine ⟨?_, ?_, ?_, ?_⟩
  · have e : (List.range (n + m)).map (fun i => if i < n then vf i else vf2 (i - n)) = (List.range n).map vf ++ (List.range m).map vf2 := by
      rw [List.range_add, List.map_append, List.map_map]
      congr 1
      · apply List.map_congr_left
        intro i hi
        have : i < n := by simpa using hi
        rw [if_pos this]
      · apply List.map_congr_left
        intro i hi
        show (if n + i < n then vf (n + i) else vf2 (n + i - n)) = vf2 i
        rw [if_neg (by omega), Nat.add_sub_cancel_left]
    rw [e]; exact h1
  · intro i hi
    by_cases e : i < n
    · simp only [if_pos e]; exact h.form i e
    · simp only [if_neg e]; exact h2.form (i - n) (by omega)
  · intro i hi
    by_cases e : i < n
    · simp only [if_pos e]; exact hold i e
    · simp only [if_neg e]; exact hnew (i - n) (by omega)
  · intro i j hi hj hij
    by_cases e : i < n
    · by_cases e2 : j < n
      · simp only [if_pos e, if_pos e2]; exact h.apart i j e e2 hij
      · simp only [if_pos e, if_neg e2]
        cases ek : (vf i).ownBlock with
        | none => exact .inl rfl
        | some k =>
          refine .inr fun e' => ?_
          have h3 := hlt i e k ek
          have h4 := hge (j - n) (by omega) k e'.symm
          omega
    · by_cases e2 : j < n
      · simp only [if_neg e, if_pos e2]
        cases ek : (vf2 (i - n)).ownBlock with
        | none => exact .inl rfl
        | some k =>
          refine .inr fun e' => ?_
          have h3 := hlt j e2 k e'.symm
          have h4 := hge (i - n) (by omega) k ek
          omega
      · simp only [if_neg e, if_neg e2]; exact h2.apart (i - n) (j - n) (by omega) (by omega) (by omega)
theorem stF_join (L M : List (Int × Int)) {n : Nat} (hl : L.length = n) : (fun i => (stF (L ++ M) i).map (Value.int .i64)) = fun i => if i < n then (stF L i).map (.int .i64) else (stF M (i - n)).map (.int .i64) := by
  subst hl
  funext i
  by_cases e : i < L.length
  · rw [if_pos e]; simp only [stF, List.getElem?_append_left e]
  · rw [if_neg e]; simp only [stF, List.getElem?_append_right (show L.length ≤ i by omega)]
theorem rnL_atR {zs : List Int} {n k : Nat} (p e : Int) (hl : zs.length = n) (h : k < n) : rnL p e (zs.drop k) = steps (zs[k]?.getD 0 - p) e ++ rnL (zs[k]?.getD 0) (Int.gcd e (zs[k]?.getD 0) : Int) (zs.drop (k + 1)) := by
  rw [drop_at hl h]; rfl
theorem steps_pos {a b : Int} (hb : 1 ≤ b) : 0 < (steps a b).length := by
  unfold steps; unfold stL
  rw [if_neg (by omega)]; simp
theorem below_to {w W0 w1 w' : World} (h0 : Below w.heap.size w W0) (h1 : Below W0.heap.size W0 w1) (h2 : Below w1.heap.size w1 w') : Below w.heap.size w w' :=
  (h0.trans (h1.mono h0.size)).trans (h2.mono (Nat.le_trans h0.size h1.size))

set_option maxRecDepth 100000 in
set_option maxHeartbeats 2000000 in
theorem l04Runs_any (v : Value) (zs : List Int) (w : World) (h : ReadI w w.heap.size v zs) (hn : zs.length ≤ 1048576) (hp : brB zs = true) :
    Calls Try.prog 118 #[.agg #[v]] w (StepsPost w (rsS zs)) := by
  have hrd := h
  obtain ⟨n, A, c, rfl, hr, HL, _, hnc, HF, hcm⟩ := h.split2
  have hn0 : 0 < n := by have := brB_pos hp; rw [HL.out] at this; exact this
  obtain ⟨a, rfl, hlt, _⟩ := hr.2 0 hn0
  obtain ⟨g, o, rfl⟩ := HF.out a rfl
  have hglt : g < w.heap.size := hlt
  have HC : Hid (∀ k, k < n → w.cell? ⟨g, o + k, none⟩ = some (.int .i64 (zs[k]?.getD 0))) := Lib.hid fun k hk => by
    obtain ⟨a', e3, _, hck⟩ := hr.2 k hk
    cases e3
    rw [add_lit] at hck
    simpa using hck
  obtain ⟨W0, HE⟩ : ∃ W, W = w.alloc (.cells #[.slice (some ⟨g, o, none⟩) n c] 28) := ⟨_, rfl⟩
  have hb0 : Below w.heap.size w W0 := by rw [HE]; exact below_box _ _
  have hq0 : BoxI W0 w.heap.size (.slice (some ⟨g, o, none⟩) n c) := by rw [HE]; exact BoxI.new _ _ _
  have H0 := Lib.hid ((hrd.below hb0).more hb0.size)
  have HEQ := Lib.hid HE
  have hsz0 : w.heap.size < W0.heap.size := hq0.2
  have HLN : Hid ((rsS zs).length ≤ 130000) := Lib.hid (rsS_ok hp).2
  have hr0 : Hid (rsS zs = [] ++ rnL 0 ((dvL 0 zs)[0]?.getD 0) (zs.drop 1)) := Lib.hid (by
    obtain ⟨n', r, e, h3, _⟩ := br_cons hp
    subst e
    rw [dvL_first h3.1]; rfl)
  have he0 : Hid ((1 : Int) ≤ (dvL 0 zs)[0]?.getD 0 ∧ (dvL 0 zs)[0]?.getD 0 ≤ 64) := Lib.hid (by
    obtain ⟨n', r, e, h3, _⟩ := br_cons hp
    subst e
    rw [dvL_first h3.1]; exact h3)
  have ha0 : Hid (ascB 0 (zs.drop 1) = true) := Lib.hid (by
    obtain ⟨n', r, e, h3, h4, _⟩ := br_cons hp
    subst e; exact h4)
  have HNN := Lib.hid hn
  have HP := Lib.hid hp
  clear h hrd hr HE HF hlt hn hp
  go_enter Try.func118, Try.ntmps118
  go_wp2_with fail
  rw [← HEQ.out]
  refine (l03Divisors_any _ zs _ H0.out HNN.out HP.out).mono ?_
  rintro e w1 ⟨v1, rfl, ho1, hb1⟩
  obtain ⟨A1, c1, rfl⟩ := own_form ho1.1
  have hdl : (dvL 0 zs).length = n := by rw [dvL_len, HL.out]
  obtain ⟨g1, eA, _, _, _, _⟩ := own_at (by have := ho1; rw [hdl] at this; exact this) hdl hn0
  subst eA
  have HD : Hid (∀ k, k < n → w1.cell? ⟨g1, k, none⟩ = some (.int .i64 ((dvL 0 zs)[k]?.getD 0))) := Lib.hid fun k hk => by
    obtain ⟨g', e1, _, _, h5, _⟩ := own_at (by have := ho1; rw [hdl] at this; exact this) hdl hk
    cases e1; exact h5
  have hg1 : g1 < w1.heap.size := by
    obtain ⟨g', e1, _, h5, _, _⟩ := own_at (by have := ho1; rw [hdl] at this; exact this) hdl hn0
    cases e1; exact h5
  rw [hdl]
  have hs1 := hb1.size
  have HC1 : Hid (∀ k, k < n → w1.cell? ⟨g, o + k, none⟩ = some (.int .i64 (zs[k]?.getD 0))) := Lib.hid fun k hk => by
    rw [hb1.cell (p := ⟨g, o + k, none⟩) (show g < W0.heap.size by omega), hb0.cell (p := ⟨g, o + k, none⟩) hglt]; exact HC.out k hk
  have hcb1 : w1.cell? ⟨w.heap.size, 0, none⟩ = some (.slice (some ⟨g, o, none⟩) n c) := by rw [hb1.cell (p := ⟨w.heap.size, 0, none⟩) hq0.2]; exact hq0.1
  have HB0 := Lib.hid hb0
  have HB1 := Lib.hid hb1
  clear ho1 hb0 hq0 HC H0 hb1
  have HO : Hid (OwnSS (w1.alloc (.cells #[] 22)) w1.heap.size (some ⟨w1.heap.size, 0, none⟩) 0 0 (fun _ => .slice none 0 0) two fun i => (stF [] i).map (.int .i64)) := Lib.hid ⟨World.ownsRow_lit w1 #[] 0 (Nat.le_refl _) (by simp [maxLen]) rfl, fun i h => by omega, fun i h => by omega, fun i j h => by omega⟩
  have hB2 : Hid (Below w1.heap.size w1 (w1.alloc (.cells #[] 22))) := Lib.hid ((Below.refl _ _).alloc (Nat.le_refl _) _)
  go_wp2_with fail
  go_loopw [4, 5] (fun vo vi wr => ∃ (k : Nat) (p e : Int) (N : Nat) (L : List (Int × Int)) (A : Option Addr) (c' : Nat) (vf : Nat → Value), (1 ≤ k ∧ k ≤ n) ∧ 0 ≤ p ∧ (1 ≤ e ∧ e ≤ 64) ∧ N ≤ 130000 ∧ vo = .slice A N c' ∧ vi = .int .i64 k ∧ Hid (p = if k = 1 then 0 else zs[k - 1]?.getD 0) ∧ Hid ((dvL 0 zs)[k - 1]?.getD 0 = e) ∧ Hid (ascB p (zs.drop k) = true) ∧ Hid (L.length = N) ∧ Hid (rsS zs = L ++ rnL p e (zs.drop k)) ∧ Hid (OwnSS wr w1.heap.size A N c' vf two fun i => (stF L i).map (.int .i64)) ∧ Hid (Below w1.heap.size w1 wr)) (fun _ vi _ => n - (intOf vi).toNat)
  case atStart => exact ⟨1, 0, (dvL 0 zs)[0]?.getD 0, 0, [], _, _, fun _ => .slice none 0 0, by omega, by omega, he0.out, by omega, rfl, rfl, Lib.hid rfl, Lib.hid rfl, ha0, Lib.hid rfl, hr0, HO, hB2⟩
  case round =>
    obtain ⟨k, p, e, N, L, A, c', vf, hk, hp0, he, hN, rfl, rfl, HPk, HEk, HA, HN, HG0, ho, hb⟩ := hrel
    have hcb : wr.cell? ⟨w.heap.size, 0, none⟩ = some (.slice (some ⟨g, o, none⟩) n c) := by rw [hb.out.cell (p := ⟨w.heap.size, 0, none⟩) (show w.heap.size < w1.heap.size by omega)]; exact hcb1
    by_cases hkn : k < n
    · have hz := ascB_all HA.out (zs[k]?.getD 0) (by rw [drop_at HL.out hkn]; simp)
      have HA2 : Hid (ascB (zs[k]?.getD 0) (zs.drop (k + 1)) = true) := Lib.hid (by
        have := HA.out; rw [drop_at HL.out hkn] at this
        simp only [ascB, Bool.and_eq_true] at this; exact this.2)
      have HG : Hid (rsS zs = L ++ (steps (zs[k]?.getD 0 - p) e ++ rnL (zs[k]?.getD 0) (Int.gcd e (zs[k]?.getD 0) : Int) (zs.drop (k + 1)))) := Lib.hid (by rw [HG0.out, rnL_atR p e HL.out hkn])
      have HE2 : Hid ((dvL 0 zs)[k + 1 - 1]?.getD 0 = (Int.gcd e (zs[k]?.getD 0) : Int)) := Lib.hid (by
        have h5 := dvL_next zs 0 (k - 1) (by rw [HL.out]; omega)
        rw [show k - 1 + 1 = k by omega, HEk.out] at h5
        rw [Nat.add_sub_cancel]; exact h5)
      have HZE : Hid (zs[k]?.getD 0 = zs[k + 1 - 1]?.getD 0) := Lib.hid (by rw [Nat.add_sub_cancel])
      have cz : wr.cell? ⟨g, o + k, none⟩ = some (.int .i64 (zs[k]?.getD 0)) := by
        rw [hb.out.cell (p := ⟨g, o + k, none⟩) (show g < w1.heap.size by omega)]; exact HC1.out k hkn
      have cp : k ≠ 1 → wr.cell? ⟨g, o + (k - 1), none⟩ = some (.int .i64 p) := fun h1 => by
        rw [hb.out.cell (p := ⟨g, o + (k - 1), none⟩) (show g < w1.heap.size by omega), HC1.out (k - 1) (by omega), HPk.out, if_neg h1]
      have ce : wr.cell? ⟨g1, k - 1, none⟩ = some (.int .i64 e) := by
        rw [hb.out.cell (p := ⟨g1, k - 1, none⟩) hg1, HD.out (k - 1) (by omega), HEk.out]
      have hp1 : k = 1 → p = 0 := fun h1 => by rw [HPk.out, if_pos h1]
      have HZD : Hid (zs[k]?.getD 0 = zs[k]?.getD 0) := Lib.hid rfl
      generalize hzz : zs[k]?.getD 0 = z at hz HA2 HG HE2 HZE cz
      clear hzz
      have hge := gcd_le_left (e := e) (z := z) he.1
      have h6 : (k : Int) - 1 < (n : Int) := by omega
      have h7 : ((k : Int) - 1).toNat = k - 1 := by omega
      have h8 : (k : Int) < (n : Int) := by omega
      have h9 : (0 : Int) ≤ (k : Int) - 1 := by omega
      have p1 : IntKind.i64.wrap ((k : Int) - 1) = (k : Int) - 1 := IntWalk.i64_in _ (by omega)
      obtain ⟨i0, hi0, hz0, hz1, hz2⟩ := info_parts ints_info
      clear HG0 HPk HEk HA HZD
      by_cases hk1 : k = 1
      · obtain rfl := hp1 hk1
        have hk2 : ¬ (1 : Int) < (k : Int) := by omega
        have HK1 := Lib.hid hk1
        have HG1 : Hid (rsS zs = L ++ (steps z e ++ rnL z (Int.gcd e z : Int) (zs.drop (k + 1)))) := Lib.hid (by have h5 := HG.out; rwa [Int.sub_zero] at h5)
        clear hp1 cp hk1 HG
        have HG := HG1
        clear HG1
        go_wp2_with fail
        refine (l01Steps_any (z) e _ (by omega) (by omega)).mono ?_
        rintro e9 w2 ⟨A2, c2, vf2, rfl, ho2, hb2⟩
        have hlen := steps_len (a := z) (b := e) (by omega)
        have hpos := steps_pos (a := z) (b := e) he.1
        have hg0 := HG.out
        generalize steps (z) e = S at *
        obtain ⟨q, HQ⟩ : ∃ q, S.length = q := ⟨_, rfl⟩
        have HQ' := Lib.hid HQ
        rw [HQ] at hlen hpos ho2 ⊢
        have hNq : N + q ≤ 130000 := by
          have h5 := HLN.out
          rw [hg0] at h5; simp only [List.length_append] at h5
          have h6 := HN.out; omega
        clear HQ hg0
        obtain ⟨g2, rfl, hg2, _⟩ := ho2.cell hpos
        have how := ho.out.below hb2
        have hcl : ∀ j u, ((List.range q).map vf2)[j]? = some u → w2.cell? ((⟨g2, 0, none⟩ : Addr).add j) = some u := fun j u hj => by
          have hjq : j < q := by
            by_cases hjq : j < q
            · exact hjq
            · rw [List.getElem?_eq_none (by simp; omega)] at hj; cases hj
          rw [add_lit, Nat.zero_add, World.ownsRow.cellAt ho2.outer j (by omega)]; exact hj
        have hone : ∀ u ∈ (List.range q).map vf2, u.oneCell' = true := fun u hu => by
          obtain ⟨i, hi, rfl⟩ := List.mem_map.1 hu
          obtain ⟨A', c', e'⟩ := ho2.form i (by simpa using hi)
          rw [e']; rfl
        have hltb : ∀ i, i < N → ∀ k, (vf i).ownBlock = some k → k < wr.heap.size := fun i hi k hk => ((ho.out.inner i hi).lt k hk).2
        have HCL := Lib.hid hcl
        have HON := Lib.hid hone
        have HLT := Lib.hid hltb
        have HO2 := Lib.hid ho2
        have HOW := Lib.hid how
        have hbw := hb.out.size
        have hb2s := hb2.size
        clear hcl hone hltb ho2 how ho
        obtain ⟨X, HX⟩ : ∃ X, X = (List.range q).map vf2 := ⟨_, rfl⟩
        obtain ⟨Y, HY⟩ : ∃ Y, Y = (List.range N).map vf := ⟨_, rfl⟩
        have HXl : X.length = q * 1 := by rw [HX]; simp
        have HXh := Lib.hid HX
        have HYh := Lib.hid HY
        have HOr : Hid (w2.ownsRow w1.heap.size 22 1 (.slice A N c') N Y) := Lib.hid (by rw [HY]; exact HOW.out.outer)
        have HC2 : Hid (∀ j u, X[j]? = some u → w2.cell? ((⟨g2, 0, none⟩ : Addr).add j) = some u) := Lib.hid (by rw [HX]; exact HCL.out)
        have HO1 : Hid (∀ u ∈ X, u.oneCell' = true) := Lib.hid (by rw [HX]; exact HON.out)
        clear HX HY HCL HON
        go_wp2_with (at_builtin; refine wpList_append_own _ rfl _ _ 49 rfl w1.heap.size 22 i0 (.slice none 0 0) 1 24 Try.underlying49 hi0 hz0 hz1 hz2 rfl (by decide) _ N Y rfl HOr.out ⟨g2, 0, none⟩ q c2 X rfl HXl HC2.out HO1.out (by simp only [maxLen]; omega) (by omega) (by omega) ?_; intro v1 w3 hown1 hgrow _; obtain ⟨A1, c1, rfl⟩ := Own.form29 hown1; have HJ := Lib.hid (OwnSS.join HOW.out HO2.out (by omega) HLT.out (by have := hown1; rw [HXh.out, HYh.out] at this; exact this) hgrow); have hb3 := Lib.hid ((hb.out.trans (hb2.mono hb.out.size)).grown hgrow (by omega) (fun k hk => (World.ownsRow.lt HOr.out k hk).1)); clear hown1 hgrow)
        go_roundw
        case rel =>
          refine ⟨k + 1, z, (Int.gcd e z : Int), N + q, L ++ S, A1, c1, (fun i => if i < N then vf i else vf2 (i - N)), by omega, by omega, by omega, by omega, rfl, by go_num, Lib.hid (by rw [if_neg (by omega)]; exact HZE.out), HE2, HA2, Lib.hid (by simp [HN.out, HQ'.out]), Lib.hid (by rw [HG.out]; simp), Lib.hid ?_, hb3⟩
          rw [stF_join L S HN.out]; exact HJ.out
        case measure => simp [intOf]; omega
      · have cp1 := cp hk1
        have hk2 : (1 : Int) < (k : Int) := by omega
        have q1 : IntKind.i64.wrap (z - p) = z - p := IntWalk.i64_in _ (by omega)
        clear hp1 cp
        go_wp2_with fail
        refine (l01Steps_any (z - p) e _ (by omega) (by omega)).mono ?_
        rintro e9 w2 ⟨A2, c2, vf2, rfl, ho2, hb2⟩
        have hlen := steps_len (a := z - p) (b := e) (by omega)
        have hpos := steps_pos (a := z - p) (b := e) he.1
        have hg0 := HG.out
        generalize steps (z - p) e = S at *
        obtain ⟨q, HQ⟩ : ∃ q, S.length = q := ⟨_, rfl⟩
        have HQ' := Lib.hid HQ
        rw [HQ] at hlen hpos ho2 ⊢
        have hNq : N + q ≤ 130000 := by
          have h5 := HLN.out
          rw [hg0] at h5; simp only [List.length_append] at h5
          have h6 := HN.out; omega
        clear HQ hg0
        obtain ⟨g2, rfl, hg2, _⟩ := ho2.cell hpos
        have how := ho.out.below hb2
        have hcl : ∀ j u, ((List.range q).map vf2)[j]? = some u → w2.cell? ((⟨g2, 0, none⟩ : Addr).add j) = some u := fun j u hj => by
          have hjq : j < q := by
            by_cases hjq : j < q
            · exact hjq
            · rw [List.getElem?_eq_none (by simp; omega)] at hj; cases hj
          rw [add_lit, Nat.zero_add, World.ownsRow.cellAt ho2.outer j (by omega)]; exact hj
        have hone : ∀ u ∈ (List.range q).map vf2, u.oneCell' = true := fun u hu => by
          obtain ⟨i, hi, rfl⟩ := List.mem_map.1 hu
          obtain ⟨A', c', e'⟩ := ho2.form i (by simpa using hi)
          rw [e']; rfl
        have hltb : ∀ i, i < N → ∀ k, (vf i).ownBlock = some k → k < wr.heap.size := fun i hi k hk => ((ho.out.inner i hi).lt k hk).2
        have HCL := Lib.hid hcl
        have HON := Lib.hid hone
        have HLT := Lib.hid hltb
        have HO2 := Lib.hid ho2
        have HOW := Lib.hid how
        have hbw := hb.out.size
        have hb2s := hb2.size
        clear hcl hone hltb ho2 how ho
        obtain ⟨X, HX⟩ : ∃ X, X = (List.range q).map vf2 := ⟨_, rfl⟩
        obtain ⟨Y, HY⟩ : ∃ Y, Y = (List.range N).map vf := ⟨_, rfl⟩
        have HXl : X.length = q * 1 := by rw [HX]; simp
        have HXh := Lib.hid HX
        have HYh := Lib.hid HY
        have HOr : Hid (w2.ownsRow w1.heap.size 22 1 (.slice A N c') N Y) := Lib.hid (by rw [HY]; exact HOW.out.outer)
        have HC2 : Hid (∀ j u, X[j]? = some u → w2.cell? ((⟨g2, 0, none⟩ : Addr).add j) = some u) := Lib.hid (by rw [HX]; exact HCL.out)
        have HO1 : Hid (∀ u ∈ X, u.oneCell' = true) := Lib.hid (by rw [HX]; exact HON.out)
        clear HX HY HCL HON
        go_wp2_with (at_builtin; refine wpList_append_own _ rfl _ _ 49 rfl w1.heap.size 22 i0 (.slice none 0 0) 1 24 Try.underlying49 hi0 hz0 hz1 hz2 rfl (by decide) _ N Y rfl HOr.out ⟨g2, 0, none⟩ q c2 X rfl HXl HC2.out HO1.out (by simp only [maxLen]; omega) (by omega) (by omega) ?_; intro v1 w3 hown1 hgrow _; obtain ⟨A1, c1, rfl⟩ := Own.form29 hown1; have HJ := Lib.hid (OwnSS.join HOW.out HO2.out (by omega) HLT.out (by have := hown1; rw [HXh.out, HYh.out] at this; exact this) hgrow); have hb3 := Lib.hid ((hb.out.trans (hb2.mono hb.out.size)).grown hgrow (by omega) (fun k hk => (World.ownsRow.lt HOr.out k hk).1)); clear hown1 hgrow)
        go_roundw
        case rel =>
          refine ⟨k + 1, z, (Int.gcd e z : Int), N + q, L ++ S, A1, c1, (fun i => if i < N then vf i else vf2 (i - N)), by omega, by omega, by omega, by omega, rfl, by go_num, Lib.hid (by rw [if_neg (by omega)]; exact HZE.out), HE2, HA2, Lib.hid (by simp [HN.out, HQ'.out]), Lib.hid (by rw [HG.out]; simp), Lib.hid ?_, hb3⟩
          rw [stF_join L S HN.out]; exact HJ.out
        case measure => simp [intOf]; omega
    · obtain rfl : k = n := by omega
      have E : Hid (rsS zs = L) := Lib.hid (by rw [HG0.out, drop_end HL.out (Nat.le_refl _)]; simp [rnL])
      clear HG0
      go_wp2
      go_ret
      refine StepsPost.mk' (vf := vf) E.out HN.out ?_ (below_to HB0.out HB1.out hb.out)
      have h5 := ho.out
      have h6 : w.heap.size ≤ w1.heap.size := by omega
      exact ⟨own_lessR h5.outer h6, h5.form, fun i hi => own_lessR (h5.inner i hi) h6, h5.apart⟩
end Go.Proofs.Ytohbgfmjnanlkaa
/- Delta invariants, Milnor numbers and numbers of blow-ups, the model's: contracts. Conditions: stated at each theorem. -/
namespace Go.Proofs.Ytohbgfmjnanlkaa
open Go.ChangeShapes Go.WideShapes Go.ChangeAt Go.RowKit Go.Deep
set_option linter.unusedVariables false
set_option linter.unusedSimpArgs false

theorem steps_read {base : Nat} {w2 : World} {L : List (Int × Int)} {A : Option Addr} {n c : Nat} {vf : Nat → Value} (hl : L.length = n) (ho : OwnSS w2 base A n c vf two (fun i => (stF L i).map (.int .i64))) : ∀ i, i < n →
    ∃ go gi ci, A = some ⟨go, 0, none⟩ ∧ go < w2.heap.size ∧ w2.cell? ⟨go, i, none⟩ = some (.slice (some ⟨gi, 0, none⟩) 2 ci) ∧ gi < w2.heap.size ∧ w2.cell? ⟨gi, 0, none⟩ = some (.int .i64 (L[i]?.getD (0, 0)).1) ∧ w2.cell? ⟨gi, 1, none⟩ = some (.int .i64 (L[i]?.getD (0, 0)).2) := by
  intro i hi
  subst hl
  obtain ⟨go, rfl, hlt, hc⟩ := ho.cell hi
  have hin := ho.inner i hi
  rcases hin.2 with ⟨_, e0⟩ | ⟨gi, ci, cur, e, hbi, hgi, _⟩
  · cases e0
  · rw [e] at hc hin
    have hi2 : two i = 2 := rfl
    rw [hi2] at hc hin
    have c0 := World.ownsRow.cellAt hin 0 (by omega)
    have c1 := World.ownsRow.cellAt hin 1 (by omega)
    exact ⟨go, gi, ci, rfl, hlt, hc, (Array.getElem?_eq_some_iff.1 hgi).1, c0, c1⟩
theorem take_next {L : List (Int × Int)} {n j : Nat} (hl : L.length = n) (h : j < n) : L.take (j + 1) = L.take j ++ [L[j]?.getD (0, 0)] := by
  have h6 : j < L.length := by omega
  rw [List.take_add_one]; simp [h6]
theorem take_all {L : List (Int × Int)} {n : Nat} (hl : L.length = n) : L.take n = L := by subst hl; simp
theorem take_ok {L : List (Int × Int)} (h : ∀ p ∈ L, StOK p) (j : Nat) : ∀ p ∈ L.take j, StOK p := fun p hp => h p (List.mem_of_mem_take hp)
theorem at_ok {L : List (Int × Int)} {n j : Nat} (h : ∀ p ∈ L, StOK p) (hl : L.length = n) (hj : j < n) : StOK (L[j]?.getD (0, 0)) := by
  have h6 : j < L.length := by omega
  simp only [List.getElem?_eq_getElem h6, Option.getD_some]
  exact h _ (List.getElem_mem h6)

set_option maxHeartbeats 1000000 in
theorem l04Delta_any (v : Value) (zs : List Int) (w : World) (h : ReadI w w.heap.size v zs) (hn : zs.length ≤ 1048576) (hp : brB zs = true) :
    Calls Try.prog 157 #[.agg #[v]] w fun e w' => e = .returned (.int .i64 (delL (rsS zs))) ∧ Below w.heap.size w w' := by
  obtain ⟨n, A, c, rfl, hr, HL, _, hnc, HF, hcm⟩ := h.split2
  obtain ⟨W0, HE⟩ : ∃ W, W = w.alloc (.cells #[.slice A n c] 28) := ⟨_, rfl⟩
  have hb0 : Below w.heap.size w W0 := by rw [HE]; exact below_box _ _
  have H0 := Lib.hid ((h.below hb0).more hb0.size)
  have HNN := Lib.hid hn
  have HP := Lib.hid hp
  have HEQ := Lib.hid HE
  have HOK := Lib.hid (rsS_ok hp).1
  have HLN := (rsS_ok hp).2
  clear h hr HE HF hn hp
  go_enter Try.func157, Try.ntmps157
  go_wp2_with fail
  rw [← HEQ.out]
  refine (l04Runs_any _ zs _ H0.out HNN.out HP.out).mono ?_
  rintro e w2 ⟨A2, c2, vf, rfl, ho, hb2⟩
  obtain ⟨N, HN⟩ : ∃ N, (rsS zs).length = N := ⟨_, rfl⟩
  have HQ := Lib.hid HN
  rw [HN] at ho HLN ⊢
  have HR := Lib.hid (steps_read HN ho)
  have HB := Lib.hid (hb0.trans (hb2.mono hb0.size))
  clear HN ho hb2 hb0 HEQ
  go_wp2_with fail
  go_loopw [4, 5] (fun vs vi wr => ∃ (j : Nat) (s : Int), j ≤ N ∧ vs = .int .i64 s ∧ vi = .int .i64 j ∧ Hid (delL ((rsS zs).take j) = s) ∧ Hid (Below w2.heap.size w2 wr)) (fun _ vi _ => N - (intOf vi).toNat)
  case atStart => exact ⟨0, 0, by omega, rfl, rfl, Lib.hid rfl, Lib.hid (Below.refl _ _)⟩
  case round =>
    obtain ⟨j, s, hj, rfl, rfl, HS, hb⟩ := hrel
    by_cases hjn : j < N
    · obtain ⟨go, gi, ci, rfl, h1, c1, h2, c3, c4⟩ := HR.out j hjn
      have d1 := (hb.out.cell (p := ⟨go, j, none⟩) h1).trans c1
      have d2 := (hb.out.cell (p := ⟨gi, 0, none⟩) h2).trans c3
      have d3 := (hb.out.cell (p := ⟨gi, 1, none⟩) h2).trans c4
      have hx := at_ok HOK.out HQ.out hjn
      have HS2 : Hid (delL ((rsS zs).take (j + 1)) = s + ((rsS zs)[j]?.getD (0, 0)).1 * (((rsS zs)[j]?.getD (0, 0)).2 * (((rsS zs)[j]?.getD (0, 0)).2 - 1) / 2)) := Lib.hid (by rw [take_next HQ.out hjn, delL_snoc, HS.out])
      have hsb : 0 ≤ s ∧ s ≤ 4032000 * 130000 := by
        have h5 := delL_bound (take_ok HOK.out j)
        rw [HS.out] at h5
        have h6 : ((rsS zs).take j).length ≤ 130000 := by rw [List.length_take]; omega
        omega
      generalize (rsS zs)[j]?.getD (0, 0) = x at d2 d3 hx HS2
      obtain ⟨q, r⟩ := x
      have hd := delP hx
      have hr := halfR hx.2
      obtain ⟨⟨hx1, hx2⟩, hx3, hx4⟩ := hx
      dsimp only at *
      have hjq2 : (j : Int) < (N : Int) := by omega
      clear c1 c3 c4 HS
      go_wp2_with fail
      go_quiet (fail)
      go_wp2_with fail
      go_roundw
      case rel => exact ⟨j + 1, _, by omega, rfl, by go_num, HS2, Lib.hid (below_drewN hb.out _)⟩
      case measure => simp [intOf]; omega
    · obtain rfl : j = N := by omega
      have E : Hid (delL (rsS zs) = s) := Lib.hid (by rw [← HS.out, take_all HQ.out])
      clear HS
      go_wp2
      go_ret
      exact ⟨by rw [E.out]; rfl, HB.out.trans (hb.out.mono HB.out.size)⟩

end Go.Proofs.Ytohbgfmjnanlkaa
/- Blocks of equal numbers: plain mathematics. Conditions: stated at each theorem. -/
namespace Go.Proofs.Ytohbgfmjnanlkaa
set_option linter.unusedVariables false

/-- The different numbers of a list, side by side, with how often each one stands there. -/
def bkL : List Int → List (Int × Int)
  | [] => []
  | x :: r => match bkL r with
    | [] => [(x, 1)]
    | p :: q => if p.1 = x then (x, p.2 + 1) :: q else (x, 1) :: p :: q
/-- How many numbers x stand at the beginning. -/
def lead (x : Int) : List Int → Nat
  | [] => 0
  | y :: r => if y = x then lead x r + 1 else 0
theorem lead_le (x : Int) : ∀ (r : List Int), lead x r ≤ r.length
  | [] => by simp [lead]
  | y :: r => by
    unfold lead
    split
    · have := lead_le x r; simp; omega
    · simp
theorem bk_none {x : Int} {r : List Int} (h : bkL r = []) : bkL (x :: r) = [(x, 1)] := by simp [bkL, h]
theorem bk_same {x k : Int} {r : List Int} {q : List (Int × Int)} (h : bkL r = (x, k) :: q) : bkL (x :: r) = (x, k + 1) :: q := by simp [bkL, h]
theorem bk_other {x y k : Int} {r : List Int} {q : List (Int × Int)} (h : bkL r = (y, k) :: q) (hn : y ≠ x) : bkL (x :: r) = (x, 1) :: (y, k) :: q := by simp [bkL, h, hn]
theorem bk_lead : ∀ (r : List Int) (x : Int), bkL (x :: r) = (x, ((lead x r + 1 : Nat) : Int)) :: bkL (r.drop (lead x r))
  | [], x => by rw [bk_none rfl]; rfl
  | y :: s, x => by
    have ih := bk_lead s y
    by_cases h : y = x
    · subst h
      rw [bk_same ih]
      have e : lead y (y :: s) = lead y s + 1 := by simp [lead]
      rw [e, List.drop_succ_cons]
      congr 1
    · have e : lead x (y :: s) = 0 := by simp [lead, h]
      rw [bk_other ih h, e, List.drop_zero, ← ih]
      rfl
theorem bk_cons (x : Int) (r : List Int) : ∃ k q, bkL (x :: r) = (x, k) :: q := ⟨_, _, bk_lead r x⟩
/-- One more number behind the list. -/
theorem bk_snoc : ∀ (xs : List Int) (x z : Int), xs.getLast? = some z → (z = x → ∃ D k, bkL xs = D ++ [(x, k)] ∧ bkL (xs ++ [x]) = D ++ [(x, k + 1)]) ∧ (z ≠ x → bkL (xs ++ [x]) = bkL xs ++ [(x, 1)])
  | [], _, _, h => by cases h
  | [y], x, z, h => by
    have e : y = z := by simpa using h
    subst e
    refine ⟨fun e => ?_, fun e => ?_⟩
    · subst e; exact ⟨[], 1, by simp [bkL], by simp [bkL]⟩
    · have : ¬ x = y := fun h => e h.symm
      simp [bkL, this]
  | y :: a :: r, x, z, h => by
    have h2 : (a :: r).getLast? = some z := by simpa using h
    obtain ⟨i1, i2⟩ := bk_snoc (a :: r) x z h2
    obtain ⟨k0, q0, e0⟩ := bk_cons a r
    refine ⟨fun e => ?_, fun e => ?_⟩
    · obtain ⟨D, k, h3, h4⟩ := i1 e
      cases D with
      | nil =>
        simp only [List.nil_append] at h3 h4
        by_cases hy : x = y
        · subst hy
          exact ⟨[], k + 1, bk_same h3, bk_same h4⟩
        · exact ⟨[(y, 1)], k, bk_other h3 hy, bk_other h4 hy⟩
      | cons d D =>
        obtain ⟨d1, d2⟩ := d
        by_cases hy : d1 = y
        · subst hy
          exact ⟨(d1, d2 + 1) :: D, k, bk_same h3, bk_same h4⟩
        · exact ⟨(y, 1) :: (d1, d2) :: D, k, bk_other h3 hy, bk_other h4 hy⟩
    · have h4 := i2 e
      rw [e0] at h4
      by_cases hy : a = y
      · subst hy
        show bkL (a :: ((a :: r) ++ [x])) = _
        rw [bk_same h4, bk_same e0]; rfl
      · show bkL (y :: ((a :: r) ++ [x])) = _
        rw [bk_other h4 hy, bk_other e0 hy]; rfl
theorem bk_bound : ∀ (xs : List Int), (bkL xs).length ≤ xs.length ∧ ∀ p ∈ bkL xs, 1 ≤ p.2 ∧ p.2 ≤ xs.length
  | [] => by simp [bkL]
  | x :: r => by
    obtain ⟨i1, i2⟩ := bk_bound r
    cases h : bkL r with
    | nil => rw [bk_none h]; simp; omega
    | cons p q =>
      obtain ⟨y, k⟩ := p
      rw [h] at i1 i2
      have hk := i2 (y, k) (by simp)
      by_cases hy : y = x
      · subst hy
        rw [bk_same h]
        refine ⟨by simp at i1 ⊢; omega, fun p hp => ?_⟩
        rcases List.mem_cons.1 hp with rfl | hp
        · simp at hk ⊢; omega
        · have := i2 p (by simp [hp]); simp; omega
      · rw [bk_other h hy]
        refine ⟨by simp at i1 ⊢; omega, fun p hp => ?_⟩
        rcases List.mem_cons.1 hp with rfl | hp
        · simp; omega
        · have := i2 p hp; simp; omega
/-- As lists of two numbers. -/
def bkQ (xs : List Int) : List (List Int) := (bkL xs).map fun p => [p.1, p.2]
end Go.Proofs.Ytohbgfmjnanlkaa
/- Blocks of equal numbers, the program's counting and the model's blocks: contracts. Conditions: stated at each theorem. -/
namespace Go.Proofs.Ytohbgfmjnanlkaa
open Go.ChangeShapes Go.WideShapes Go.ChangeAt Go.RowKit Go.Deep
set_option linter.unusedVariables false
set_option linter.unusedSimpArgs false

theorem lead_step {zs : List Int} {n j : Nat} (x : Int) (hl : zs.length = n) (h : j < n) : lead x (zs.drop j) = if zs[j]?.getD 0 = x then lead x (zs.drop (j + 1)) + 1 else 0 := by
  rw [drop_at hl h]; rfl
/-- A block more, or one number more in the last one. -/
theorem bk_take {zs : List Int} {n i : Nat} (hl : zs.length = n) (hi : i < n) : zs.take (i + 1) = zs.take i ++ [zs[i]?.getD 0] := by
  have h6 : i < zs.length := by omega
  rw [List.take_add_one]; simp [h6]
theorem bk_last {zs : List Int} {n i : Nat} (hl : zs.length = n) (hi : i < n) (h0 : 0 < i) : (zs.take i).getLast? = some (zs[i - 1]?.getD 0) := by
  have h7 : i - 1 < zs.length := by omega
  rw [List.getLast?_eq_getElem?, List.length_take, Nat.min_eq_left (by omega), List.getElem?_take]
  simp [show i - 1 < i by omega, h7]
theorem bkQ_first {zs : List Int} {n : Nat} (hl : zs.length = n) (hi : 0 < n) : bkQ (zs.take 1) = [] ++ [[zs[0]?.getD 0, 1]] := by
  rw [bk_take hl hi]; simp [bkQ, bkL]
theorem bkQ_new {zs : List Int} {n i : Nat} (hl : zs.length = n) (hi : i < n) (h0 : 0 < i) (h : zs[i]?.getD 0 ≠ zs[i - 1]?.getD 0) : bkQ (zs.take (i + 1)) = bkQ (zs.take i) ++ [[zs[i]?.getD 0, 1]] := by
  rw [bk_take hl hi, bkQ, (bk_snoc _ _ _ (bk_last hl hi h0)).2 (fun e => h e.symm)]
  simp [bkQ]
theorem bkQ_same {zs : List Int} {n i : Nat} (hl : zs.length = n) (hi : i < n) (h0 : 0 < i) (h : zs[i]?.getD 0 = zs[i - 1]?.getD 0) : ∃ D k, bkQ (zs.take i) = D ++ [[zs[i]?.getD 0, k]] ∧ bkQ (zs.take (i + 1)) = D ++ [[zs[i]?.getD 0, k + 1]] := by
  obtain ⟨D, k, h1, h2⟩ := (bk_snoc _ (zs[i]?.getD 0) _ (bk_last hl hi h0)).1 h.symm
  refine ⟨D.map fun p => [p.1, p.2], k, ?_, ?_⟩
  · rw [bkQ, h1]; simp
  · rw [bk_take hl hi, bkQ, h2]; simp
theorem set_last {D : List (List Int)} {a b c : Int} {n : Nat} (h : (D ++ [[a, b]]).length = n + 1) : (D ++ [[a, b]]).set n (((D ++ [[a, b]]).getD n []).set 1 c) = D ++ [[a, c]] := by
  have hn : D.length = n := by simpa using h
  subst hn
  simp [List.getD]
theorem get_last {D : List (List Int)} {a b : Int} {n : Nat} (h : (D ++ [[a, b]]).length = n + 1) : (D ++ [[a, b]]).getD n [] = [a, b] := by
  have hn : D.length = n := by simpa using h
  subst hn
  simp [List.getD]
end Go.Proofs.Ytohbgfmjnanlkaa
/- Blocks of equal numbers, the model's: contract of spec.l04Blocks. Conditions: stated at the theorem. -/
namespace Go.Proofs.Ytohbgfmjnanlkaa
open Go.ChangeShapes Go.WideShapes Go.ChangeAt Go.RowKit Go.Deep
set_option linter.unusedVariables false
set_option linter.unusedSimpArgs false

theorem rows_push2 {WR w3 : World} {lo N c g2 cap2 : Nat} {A : Option Addr} {us : List Value} {ls hs : Nat → Nat} {L : List (List Int)} (hr : Rows2 WR lo WR.heap.size (.slice A N c) N us ls hs (fun i l h u => OwnI WR l h u (L.getD i [])))
    (hL : L.length = N) (hlo : lo ≤ WR.heap.size) (x y : Int) (hown : w3.ownsRow lo 22 1 (.slice (some ⟨g2, 0, none⟩) (N + 1) cap2) (N + 1) (us ++ [.slice (some ⟨WR.heap.size, 0, none⟩) 2 2]))
    (hgrow : ((WR.alloc (.cells #[.int .i64 x, .int .i64 y] 2)).alloc (.cells #[.slice (some ⟨WR.heap.size, 0, none⟩) 2 2] 22)).grownBy w3 (Value.slice A N c).ownBlock)
    (hg : (Value.slice A N c).ownBlock = some g2 ∨ g2 = ((WR.alloc (.cells #[.int .i64 x, .int .i64 y] 2)).alloc (.cells #[.slice (some ⟨WR.heap.size, 0, none⟩) 2 2] 22)).heap.size) (hlt : g2 < w3.heap.size) :
    OwnQ w3 lo w3.heap.size (.slice (some ⟨g2, 0, none⟩) (N + 1) cap2) (L ++ [[x, y]]) := by
  have hbw : Below WR.heap.size WR ((WR.alloc (.cells #[.int .i64 x, .int .i64 y] 2)).alloc (.cells #[.slice (some ⟨WR.heap.size, 0, none⟩) 2 2] 22)) := ((Below.refl _ _).alloc (Nat.le_refl _) _).alloc (by simp) _
  have hOE := (list2R (w := WR) (lo := WR.heap.size) (Nat.le_refl _) x y).kept (kept_boxR (WR.alloc (.cells #[.int .i64 x, .int .i64 y] 2)) (.cells #[.slice (some ⟨WR.heap.size, 0, none⟩) 2 2] 22) WR.heap.size _ (Nat.le_refl _))
  exact rows_snocR hr hL hlo hbw hOE (Nat.le_refl _) (by simp) hown hgrow hg hlt
theorem rows_last {w : World} {lo hi n c : Nat} {A : Option Addr} {D : List (List Int)} {a b : Int} (h : OwnQ w lo hi (.slice A (n + 1) c) (D ++ [[a, b]])) (hl : (D ++ [[a, b]]).length = n + 1) :
    ∃ go gi ci, A = some ⟨go, 0, none⟩ ∧ w.cell? ⟨go, n, none⟩ = some (.slice (some ⟨gi, 0, none⟩) 2 ci) ∧ lo ≤ gi ∧ w.cell? ⟨gi, 1, none⟩ = some (.int .i64 b) ∧ w.frozen? ⟨gi, 1, none⟩ = false ∧ ∀ z, OwnQ (w.setCell ⟨gi, 1, none⟩ (.int .i64 z)) lo hi (.slice A (n + 1) c) (D ++ [[a, z]]) := by
  have hgl := get_last hl
  obtain ⟨go, gi, ci, e, h1, h2, h3, h4, h5, h6, h7⟩ := rows_at (i := n) (j := 1) h hl (by omega) (by rw [hgl]; simp)
  rw [hgl] at h3 h6
  refine ⟨go, gi, ci, e, h3, h4, by simpa using h6, h7, fun z => ?_⟩
  have h8 := rows_set (i := n) (j := 1) (gi := gi) (ci := ci) h hl (by omega) (fun go' e' => by rw [e] at e'; cases e'; rw [hgl]; exact h3) z
  rw [set_last hl] at h8
  exact h8
theorem below_set {w0 w : World} {B : Nat} (h : Below B w0 w) {g o : Nat} (hg : B ≤ g) (u : Value) : Below B w0 (w.setCell ⟨g, o, none⟩ u) := h.setCell (p := ⟨g, o, none⟩) hg u
theorem setCell_size (w : World) (p : Addr) (u : Value) : (w.setCell p u).heap.size = w.heap.size := by simp [World.setCell]

end Go.Proofs.Ytohbgfmjnanlkaa
