/- ZD: SqM SqB SqI SqD SqE SqR SqT BkM BkI BkS. Conditions: stated at each theorem. -/
import Derived.Test.YtjobfjgphcaoeaaZA
import Derived.Test.YtjobfjgphcaoeaaZB
import Derived.RangeFuncNested
import Derived.RangeFuncBound
import Derived.RangeFuncCalls
import Derived.RangeFuncLeaves
import Derived.RangeFuncBox
import Derived.Shelf.Abstract
import Derived.Shelf.RegionOpen
import Derived.OwnWalkIn
import Derived.TacticsInMore
import Derived.LoopNIn
import Derived.LoopIn
import Derived.OrdersHeld
import Derived.Maps.AppendAt
import Derived.Deep.AppendLies
import Derived.Test.YtjobfjgphcaoeaaZC
import Derived.Deep.QuietTactic
import Derived.BigQuiet
/- The runs of a branch and its sequence: plain mathematics. Conditions: stated at each theorem. -/
namespace Go.Proofs.Ytjobfjgphcaoeaa
open Go.ChangeShapes Go.WideShapes Go.ChangeAt Go.RowKit
set_option linter.unusedVariables false

/-- The steps of the runs behind a term p, where e is the divisor there. -/
def rnL (p e : Int) : List Int → List (Int × Int)
  | [] => []
  | z :: r => steps (z - p) e ++ rnL z (Int.gcd e z : Int) r
def rsS : List Int → List (Int × Int)
  | [] => []
  | n :: r => rnL 0 n r
def rsI (zs : List Int) : List (Int × Int) := if zs.length = 1 then [(1, 1)] else rsS zs
/-- A step as they come: q numbers r. -/
def StOK (p : Int × Int) : Prop := (0 ≤ p.1 ∧ p.1 ≤ 2000) ∧ 1 ≤ p.2 ∧ p.2 ≤ 64
def cntL (L : List (Int × Int)) : Int := (L.map (·.1)).sum
def delL (L : List (Int × Int)) : Int := (L.map fun p => p.1 * (p.2 * (p.2 - 1) / 2)).sum
def upsL (L : List (Int × Int)) : Int := (L.map fun p => if 1 < p.2 then p.1 else 0).sum
def flL (L : List (Int × Int)) : List Int := L.flatMap fun p => List.replicate p.1.toNat p.2

theorem cntL_snoc (L : List (Int × Int)) (p : Int × Int) : cntL (L ++ [p]) = cntL L + p.1 := by simp [cntL]
theorem delL_snoc (L : List (Int × Int)) (p : Int × Int) : delL (L ++ [p]) = delL L + p.1 * (p.2 * (p.2 - 1) / 2) := by simp [delL]
theorem upsL_snoc (L : List (Int × Int)) (p : Int × Int) : upsL (L ++ [p]) = upsL L + (if 1 < p.2 then p.1 else 0) := by simp [upsL]
theorem flL_snoc (L : List (Int × Int)) (p : Int × Int) : flL (L ++ [p]) = flL L ++ List.replicate p.1.toNat p.2 := by simp [flL]
theorem flL_append (L M : List (Int × Int)) : flL (L ++ M) = flL L ++ flL M := by simp [flL]

theorem halfR {r : Int} (h : 1 ≤ r ∧ r ≤ 64) : 0 ≤ r * (r - 1) ∧ r * (r - 1) ≤ 4032 := by
  have h1 : 0 ≤ r * (r - 1) := Int.mul_nonneg (by omega) (by omega)
  have h2 : r * (r - 1) ≤ 64 * 63 := Int.mul_le_mul (by omega) (by omega) (by omega) (by omega)
  omega
theorem delP {p : Int × Int} (h : StOK p) : 0 ≤ p.1 * (p.2 * (p.2 - 1) / 2) ∧ p.1 * (p.2 * (p.2 - 1) / 2) ≤ 4032000 := by
  obtain ⟨h1, h2⟩ := h
  have h3 := halfR h2
  generalize p.2 * (p.2 - 1) = x at *
  have h4 : 0 ≤ x / 2 ∧ x / 2 ≤ 2016 := by omega
  generalize x / 2 = y at *
  have h5 : 0 ≤ p.1 * y := Int.mul_nonneg (by omega) (by omega)
  have h6 : p.1 * y ≤ 2000 * 2016 := Int.mul_le_mul (by omega) (by omega) (by omega) (by omega)
  omega

theorem sumL_bound {α : Type} (f : α → Int) (b : Int) : ∀ (L : List α), (∀ p ∈ L, 0 ≤ f p ∧ f p ≤ b) → 0 ≤ (L.map f).sum ∧ (L.map f).sum ≤ b * L.length
  | [], _ => by simp
  | p :: L, h => by
    have h1 := h p (by simp)
    have h2 := sumL_bound f b L (fun x hx => h x (by simp [hx]))
    have e : b * ((p :: L).length : Int) = b * (L.length : Int) + b := by simp only [List.length_cons, Int.natCast_add, Int.natCast_one, Int.mul_add, Int.mul_one]
    rw [e]; simp only [List.map_cons, List.sum_cons]; omega
theorem cntL_bound {L : List (Int × Int)} (h : ∀ p ∈ L, StOK p) : 0 ≤ cntL L ∧ cntL L ≤ 2000 * L.length := sumL_bound _ 2000 L fun p hp => (h p hp).1
theorem delL_bound {L : List (Int × Int)} (h : ∀ p ∈ L, StOK p) : 0 ≤ delL L ∧ delL L ≤ 4032000 * L.length := sumL_bound _ 4032000 L fun p hp => delP (h p hp)
theorem upsL_bound {L : List (Int × Int)} (h : ∀ p ∈ L, StOK p) : 0 ≤ upsL L ∧ upsL L ≤ 2000 * L.length := sumL_bound _ 2000 L fun p hp => by
  have := (h p hp).1; split <;> omega
theorem flL_len {L : List (Int × Int)} (h : ∀ p ∈ L, StOK p) : ((flL L).length : Int) = cntL L := by
  induction L with
  | nil => rfl
  | cons p L ih =>
    have h1 := (h p (by simp)).1
    have h2 := ih (fun x hx => h x (by simp [hx]))
    simp only [flL, cntL, List.flatMap_cons, List.length_append, List.length_replicate, List.map_cons, List.sum_cons] at *
    omega

theorem stL_ok : ∀ (f : Nat) (a b : Int), (0 ≤ a ∧ a ≤ 2000) → (0 ≤ b ∧ b ≤ 64) → ∀ p ∈ stL f a b, StOK p
  | 0, _, _, _, _ => by simp [stL]
  | f + 1, a, b, ha, hb => by
    unfold stL
    split
    · simp
    · rename_i hb0
      intro p hp
      rcases List.mem_cons.1 hp with rfl | hp
      · have h1 : 0 ≤ a / b ∧ a / b ≤ a := ⟨Int.ediv_nonneg (by omega) (by omega), Int.ediv_le_self _ (by omega)⟩
        exact ⟨by dsimp; omega, by dsimp; omega⟩
      · have h2 : 0 ≤ a % b ∧ a % b < b := ⟨Int.emod_nonneg _ (by omega), Int.emod_lt_of_pos _ (by omega)⟩
        exact stL_ok f b (a % b) (by omega) (by omega) p hp
theorem steps_ok {a b : Int} (ha : 0 ≤ a ∧ a ≤ 2000) (hb : 0 ≤ b ∧ b ≤ 64) : ∀ p ∈ steps a b, StOK p := stL_ok _ _ _ ha hb
theorem steps_len {a b : Int} (hb : 0 ≤ b ∧ b ≤ 64) : (steps a b).length ≤ 65 := by
  have := stL_len (b.toNat + 1) a b
  unfold steps; omega
theorem rnL_ok : ∀ (zs : List Int) {p e : Int}, 0 ≤ p → (1 ≤ e ∧ e ≤ 64) → ascB p zs = true → (∀ x ∈ rnL p e zs, StOK x) ∧ (rnL p e zs).length ≤ 65 * zs.length
  | [], p, e, _, _, _ => by simp [rnL]
  | z :: r, p, e, hp, he, ha => by
    have h1 := ascB_all ha z (by simp)
    have hg := gcd_le_left (e := e) (z := z) he.1
    have ha2 : ascB z r = true := by simp only [ascB, Bool.and_eq_true] at ha; exact ha.2
    obtain ⟨i1, i2⟩ := rnL_ok r (p := z) (e := (Int.gcd e z : Int)) (by omega) (by omega) ha2
    have s1 := steps_ok (a := z - p) (b := e) (by omega) (by omega)
    have s2 := steps_len (a := z - p) (b := e) (by omega)
    refine ⟨fun x hx => ?_, ?_⟩
    · simp only [rnL, List.mem_append] at hx
      rcases hx with hx | hx
      · exact s1 x hx
      · exact i1 x hx
    · simp only [rnL, List.length_append, List.length_cons]; omega
theorem asc_len : ∀ (zs : List Int) {p : Int}, ascB p zs = true → p ≤ 2000 → p + zs.length ≤ 2000
  | [], p, _, hp => by simp; omega
  | z :: r, p, h, _ => by
    have h1 := ascB_all h z (by simp)
    have h2 : ascB z r = true := by simp only [ascB, Bool.and_eq_true] at h; exact h.2
    have := asc_len r h2 (by omega)
    simp only [List.length_cons, Int.natCast_add, Int.natCast_one]; omega

theorem br_cons {zs : List Int} (h : brB zs = true) : ∃ n r, zs = n :: r ∧ (1 ≤ n ∧ n ≤ 64) ∧ ascB 0 r = true ∧ r.length ≤ 2000 := by
  obtain ⟨n, r, e, hn, ha, _⟩ := dcB_parts (brB_dcB h)
  have := asc_len r ha (by omega)
  exact ⟨n, r, e, hn, ha, by omega⟩
theorem rsS_ok {zs : List Int} (h : brB zs = true) : (∀ x ∈ rsS zs, StOK x) ∧ (rsS zs).length ≤ 130000 := by
  obtain ⟨n, r, rfl, hn, ha, hl⟩ := br_cons h
  obtain ⟨h1, h2⟩ := rnL_ok r (p := 0) (e := n) (by omega) hn ha
  exact ⟨h1, by show (rnL 0 n r).length ≤ _; omega⟩
theorem rsI_ok {zs : List Int} (h : brB zs = true) : (∀ x ∈ rsI zs, StOK x) ∧ (rsI zs).length ≤ 130000 := by
  unfold rsI
  split
  · exact ⟨by simp [StOK], by simp⟩
  · exact rsS_ok h
theorem br_more {n z : Int} {r : List Int} (h : brB (n :: z :: r) = true) : n < z := by
  rw [brB_more] at h; simp only [Bool.and_eq_true, decide_eq_true_eq] at h; exact h.2
theorem cnt_pos {n z : Int} {r : List Int} (h : brB (n :: z :: r) = true) : 1 ≤ cntL (rsS (n :: z :: r)) := by
  obtain ⟨n', r', e, hn, ha, hl⟩ := br_cons h
  cases e
  have hz := br_more h
  have h1 := ascB_all ha z (by simp)
  have hq : steps (z - 0) n = ((z - 0) / n, n) :: stL n.toNat n ((z - 0) % n) := by
    unfold steps; conv => lhs; unfold stL
    rw [if_neg (by omega)]
  have hq1 : 1 ≤ (z - 0) / n := by
    have := (Int.le_ediv_iff_mul_le (a := (1 : Int)) (b := z - 0) (c := n) (by omega)).2 (by omega)
    exact this
  have ho := (rsS_ok h).1
  have hr : rsS (n :: z :: r) = [((z - 0) / n, n)] ++ (stL n.toNat n ((z - 0) % n) ++ rnL z (Int.gcd n z : Int) r) := by
    show steps (z - 0) n ++ _ = _; rw [hq]; simp
  rw [hr] at ho ⊢
  have h2 := cntL_bound (L := stL n.toNat n ((z - 0) % n) ++ rnL z (Int.gcd n z : Int) r) (fun p hp => ho p (List.mem_append.2 (.inr hp)))
  have : ∀ A B, cntL (A ++ B) = cntL A + cntL B := by intro A B; simp [cntL]
  rw [this]
  have : cntL [((z - 0) / n, n)] = (z - 0) / n := by simp [cntL]
  omega
theorem rsI_one (n : Int) : rsI [n] = [(1, 1)] ∧ rsS [n] = [] := ⟨rfl, rfl⟩
theorem rsI_more (n z : Int) (r : List Int) : rsI (n :: z :: r) = rsS (n :: z :: r) := by simp [rsI]
theorem del_eq {zs : List Int} (h : brB zs = true) : delL (rsI zs) = delL (rsS zs) := by
  obtain ⟨n, r, rfl, _⟩ := br_cons h
  cases r with
  | nil => rfl
  | cons z r => rw [rsI_more]
theorem ups_eq {zs : List Int} (h : brB zs = true) : upsL (rsI zs) = upsL (rsS zs) := by
  obtain ⟨n, r, rfl, _⟩ := br_cons h
  cases r with
  | nil => rfl
  | cons z r => rw [rsI_more]
theorem cnt_eq {zs : List Int} (h : brB zs = true) : cntL (rsI zs) = max (cntL (rsS zs)) 1 := by
  obtain ⟨n, r, rfl, _⟩ := br_cons h
  cases r with
  | nil => rfl
  | cons z r => rw [rsI_more]; have := cnt_pos h; omega
/-- The sequence of a branch. -/
def seqL (zs : List Int) : List Int := flL (rsI zs)
theorem seq_eq {zs : List Int} (h : brB zs = true) : seqL zs = if (flL (rsS zs)).length = 0 then [1] else flL (rsS zs) := by
  obtain ⟨n, r, rfl, _⟩ := br_cons h
  cases r with
  | nil => rfl
  | cons z r =>
    have h1 := cnt_pos h
    have h2 := flL_len (rsS_ok h).1
    rw [if_neg (by omega), seqL, rsI_more]
theorem seq_len {zs : List Int} (h : brB zs = true) : ((seqL zs).length : Int) = cntL (rsI zs) ∧ (seqL zs).length ≤ 260000000 := by
  have h1 := flL_len (rsI_ok h).1
  have h2 := cntL_bound (rsI_ok h).1
  have h3 := (rsI_ok h).2
  exact ⟨h1, by unfold seqL; omega⟩
/-- The divisors, one by one. -/
theorem dvL_next : ∀ (zs : List Int) (e : Int) (k : Nat), k + 1 < zs.length → (dvL e zs)[k + 1]?.getD 0 = (Int.gcd ((dvL e zs)[k]?.getD 0) (zs[k + 1]?.getD 0) : Int)
  | [], _, k, h => by simp at h
  | z :: r, e, k, h => by
    cases k with
    | zero =>
      cases r with
      | nil => simp at h
      | cons y r => simp [dvL]
    | succ k =>
      have := dvL_next r (Int.gcd e z : Int) k (by simpa using h)
      simpa [dvL] using this
end Go.Proofs.Ytjobfjgphcaoeaa
/- Rounds of a range over a function: a region that draws its order is walked as a plain one; what a round keeps. Conditions: stated at each theorem. -/
namespace Go.Proofs.Ytjobfjgphcaoeaa
open Go.ChangeShapes Go.WideShapes Go.ChangeAt Go.RowKit
set_option linter.unusedVariables false

section
variable {P : Program} {ops : Array Oper} {Q : Exit → Act → World → Prop} {md : Region.Mode}
theorem rowsIn_wide' {n : Nat} {row : String} {args : Array Value} {w : World} {R : Value → World → Prop} (h : Rows P row args w R) : RowsIn Fence.wide n P row args w R :=
  fun c cs _ => let ⟨v, w', r, s⟩ := h c cs; ⟨v, w', r, stepsIn_wide.2 s⟩
theorem uponIn_plain {l n : Nat} {o : Oper} {a : Act} {K : Act → World → Prop} {r : Result Next} (h : o.upon P a K Q r) : o.uponIn (Fence.wide.inRound l) n P a K Q r := by
  cases r with
  | ok x w' =>
    cases x <;> simp only [Oper.upon, Oper.uponIn] at h ⊢ <;>
      first
        | exact h
        | exact h.elim
        | exact ⟨fun h0 => (by cases h0), (CallsIn.inRound l (callsIn_wide (n := n - 1).2 h)).mono fun e w'' he => by cases e <;> exact he⟩
        | exact ⟨fun h0 => (by cases h0), rowsIn_wide' h⟩
  | halt x w' => cases x <;> simp only [Oper.upon, Oper.uponIn] at h ⊢ <;> exact h
theorem opIn_plain {l n : Nat} {o : Oper} {a : Act} {w : World} {K : Act → World → Prop} (hd : ∀ c, o.op ≠ .defer c) (h : o.wp P a w K Q) : o.wpIn (Fence.wide.inRound l) n P a w K Q := by
  refine ⟨fun f _ => trivial, ?_⟩
  have e : o.semAt (Fence.wide.inRound l).round a.eval = execOp a.eval o := Oper.semAt_eq _ _ _ hd
  rw [e]
  exact uponIn_plain h
theorem wpAnyIn_plain {l n : Nat} (hd : ∀ o ∈ ops, ∀ c, o.op ≠ .defer c) (hQ : ¬ LetsOut Q) : ∀ (fuel : Nat) (listed : Array Bool) (a : Act) (w : World), wpAny P md ops Q fuel listed a w → wpAnyIn (Fence.wide.inRound l) n P md ops Q fuel listed a w
  | 0, _, _, _, h => h
  | fuel + 1, listed, a, w, h => by
    refine ⟨h.1, fun i hi => ?_⟩
    have h2 := h.2 i hi
    unfold wpOp at h2
    unfold wpOpIn
    cases ho : ops[i]? with
    | none => rw [ho] at h2; exact wpAnyIn_plain hd hQ fuel _ _ _ h2
    | some o =>
      rw [ho] at h2
      simp only at h2 ⊢
      split
      · rename_i hw
        rw [if_pos hw] at h2
        rcases h2 with h2 | h2
        · refine Oper.wpIn_mono (fun a w hk => wpAnyIn_plain hd hQ fuel _ _ _ hk) (opIn_plain (hd o (Array.mem_of_getElem? ho)) h2)
        · exact absurd h2.2 hQ
      · rename_i hw
        rw [if_neg hw] at h2
        exact ⟨fun f _ => trivial, wpAnyIn_plain hd hQ fuel _ _ _ h2⟩
/-- A region in a round that draws its order, under a word on cells that holds all along. -/
theorem wpIn_region_round {l n id : Nat} {S : World → Prop} {a : Act} {w : World} (hm : P.follows .mixedOrders = true) (hd : ∀ o ∈ ops, ∀ c, o.op ≠ .defer c) (hQ : ¬ LetsOut Q) (hS : S w.drew)
    (h : S w.drew → wpAnyH P .any ops Q S ops.size (Array.replicate ops.size false) a w.drew) : (Code.region id ops true).wpIn (Fence.wide.inRound l) n P Q a w :=
  wpIn_region_any hm (wpAnyIn_plain hd hQ _ _ _ _ (wpAny_of_held _ _ _ _ (h hS)))
end

/-- The block of the slice that the box b0 holds. -/
def rb (b0 : Nat) (W : World) : Option Nat := match W.cell? ⟨b0, 0, none⟩ with
  | some v => v.ownBlock
  | none => none
/-- Block b is one of cells, and neither the box b0 nor its slice's. -/
def Safe (b0 : Nat) (W : World) (b : Nat) : Prop := b ≠ b0 ∧ rb b0 W ≠ some b ∧ ∃ o, W.heap[b]? = some o ∧ o.isCells = true
/-- The slice in the box b0 lies in memory that is there. -/
def RV (b0 : Nat) (W : World) : Prop := ∀ b, rb b0 W = some b → b < W.heap.size
/-- What a round keeps that writes the box b0 and the slice in it: all other cells. -/
structure KpB (b0 : Nat) (A B : World) : Prop where
  size : A.heap.size ≤ B.heap.size
  safe : ∀ b, Safe b0 A b → B.heap[b]? = A.heap[b]? ∧ rb b0 B ≠ some b
  rv : RV b0 A → RV b0 B
theorem KpB.keeps {b0 b : Nat} {A B : World} (k : KpB b0 A B) (h : Safe b0 A b) : Safe b0 B b := by
  obtain ⟨h1, h2, o, h3, h4⟩ := h
  have := k.safe b ⟨h1, h2, o, h3, h4⟩
  exact ⟨h1, this.2, o, this.1.trans h3, h4⟩
theorem KpB.trans {b0 : Nat} {A B C : World} (h : KpB b0 A B) (k : KpB b0 B C) : KpB b0 A C :=
  ⟨Nat.le_trans h.size k.size, fun b hb => ⟨(k.safe b (h.keeps hb)).1.trans (h.safe b hb).1, (k.safe b (h.keeps hb)).2⟩, fun hv => k.rv (h.rv hv)⟩
theorem KpB.refl (b0 : Nat) (A : World) : KpB b0 A A := ⟨Nat.le_refl _, fun b hb => ⟨rfl, hb.2.1⟩, id⟩
theorem rb_same {b0 : Nat} {A B : World} (h : B.heap[b0]? = A.heap[b0]?) : rb b0 B = rb b0 A := by
  have : B.cell? ⟨b0, 0, none⟩ = A.cell? ⟨b0, 0, none⟩ := by simp [World.cell?, h]
  unfold rb; rw [this]
theorem kpB_b {b0 : Nat} {w : World} (hb : b0 < w.heap.size) (W : World) (l : Nat) (o o' : Obj) (hl : w.heap.size ≤ l) (h : W.heap[l]? = some o) (hc : o.isCells = false) (_ : o.isWalk = false) : KpB b0 W (W.putObj l o') := by
  have hg := grownBy_putObj' W l o'
  have hne : ∀ b, b ≠ l → (W.putObj l o').heap[b]? = W.heap[b]? := fun b hb => World.putObj_heap_other (by omega)
  have hr : rb b0 (W.putObj l o') = rb b0 W := rb_same (hne b0 (by omega))
  refine ⟨hg.size, fun b hb => ⟨hne b (fun e => ?_), by rw [hr]; exact hb.2.1⟩, fun hv b hb => ?_⟩
  · subst e
    obtain ⟨_, _, o2, h2, h3⟩ := hb
    rw [h] at h2; cases h2; rw [hc] at h3; cases h3
  · rw [hr] at hb; exact Nat.lt_of_lt_of_le (hv b hb) hg.size
/-- A call that turns nothing that was there keeps all of it, and a new block of cells is safe. -/
theorem KpB.of_below {b0 : Nat} {A B : World} (hb : b0 < A.heap.size) (h : Below A.heap.size A B) : KpB b0 A B := by
  have hr : rb b0 B = rb b0 A := rb_same (h.block b0 hb)
  refine ⟨h.size, fun b hs => ⟨h.block b ?_, by rw [hr]; exact hs.2.1⟩, fun hv b hb => ?_⟩
  · obtain ⟨_, _, o, h1, _⟩ := hs; exact (Array.getElem?_eq_some_iff.1 h1).1
  · rw [hr] at hb; exact Nat.lt_of_lt_of_le (hv b hb) h.size
theorem safe_new {b0 b : Nat} {A B : World} (hb : b0 < A.heap.size) (hv : RV b0 A) (h : Below A.heap.size A B) (hn : A.heap.size ≤ b) {o : Obj} (ho : B.heap[b]? = some o) (hc : o.isCells = true) : Safe b0 B b := by
  refine ⟨by omega, fun e => ?_, o, ho, hc⟩
  rw [rb_same (h.block b0 hb)] at e
  have := hv b e
  omega
theorem KpB.cell {b0 : Nat} {A B : World} (k : KpB b0 A B) {b o : Nat} (h : Safe b0 A b) : B.cell? ⟨b, o, none⟩ = A.cell? ⟨b, o, none⟩ := by
  have := (k.safe b h).1
  simp [World.cell?, this]
theorem rb_boxed {b0 : Nat} {A : World} {t : TypeId} {v : Value} (h : Boxed A b0 t v) : rb b0 A = v.ownBlock := by unfold rb; rw [h.cell]
/-- The box itself is written. -/
theorem KpB.setInt {b0 : Nat} {A : World} {t : TypeId} {v : Value} (h : Boxed A b0 t v) (x : Int) : KpB b0 A (A.setCell ⟨b0, 0, none⟩ (.int .i64 x)) := by
  have hg := grownBy_setCell' A b0 (.int .i64 x)
  have hr : rb b0 (A.setCell ⟨b0, 0, none⟩ (.int .i64 x)) = none := rb_boxed (h.set (.int .i64 x))
  exact ⟨hg.size, fun b hs => ⟨Below.heap_setCell _ _ _ _ (by have := hs.1; exact fun e => this (by simpa using e)), by rw [hr]; simp⟩, fun _ b e => by rw [hr] at e; cases e⟩
end Go.Proofs.Ytjobfjgphcaoeaa
/- The steps of a branch's runs as an iterator: its contract. Conditions: stated at each theorem. -/
namespace Go.Proofs.Ytjobfjgphcaoeaa
open Go.ChangeShapes Go.WideShapes Go.ChangeAt Go.RowKit Go.Shelf
set_option linter.unusedVariables false
set_option linter.unusedSimpArgs false
attribute [local go_sem] Oper.semAt_some

theorem cell_obj {W : World} {g o : Nat} {v : Value} (h : W.cell? ⟨g, o, none⟩ = some v) : ∃ x, W.heap[g]? = some x ∧ x.isCells = true := by
  unfold World.cell? at h
  cases e : W.heap[g]? with
  | none => simp [e] at h
  | some x =>
    refine ⟨x, rfl, ?_⟩
    cases x <;> simp_all [Obj.isCells]
/-- A step of a run, with its bounds. -/
abbrev Stp := { p : Int × Int // StOK p }
abbrev encStp (x : Stp) : Array Value := #[.int .i64 x.1.1, .int .i64 x.1.2]
def vals (xs : List Stp) : List (Int × Int) := xs.map (·.1)
theorem vals_snoc (xs : List Stp) (x : Stp) : vals (xs ++ [x]) = vals xs ++ [x.1] := by simp [vals]

/-- The memory of new steps. -/
theorem steps_mem {b0 : Nat} {wr w2 : World} {L : List (Int × Int)} {A : Option Addr} {c : Nat} {vf : Nat → Value} (h0 : b0 < wr.heap.size) (hv : RV b0 wr)
    (ho : OwnSS w2 wr.heap.size A L.length c vf two (fun i => (stF L i).map (.int .i64))) (hb : Below wr.heap.size wr w2) : ∀ i, i < L.length →
    ∃ go gi ci, A = some ⟨go, 0, none⟩ ∧ Safe b0 w2 go ∧ w2.cell? ⟨go, i, none⟩ = some (.slice (some ⟨gi, 0, none⟩) 2 ci) ∧ Safe b0 w2 gi ∧ w2.cell? ⟨gi, 0, none⟩ = some (.int .i64 (L[i]?.getD (0, 0)).1) ∧ w2.cell? ⟨gi, 1, none⟩ = some (.int .i64 (L[i]?.getD (0, 0)).2) := by
  intro i hi
  obtain ⟨go, rfl, _, hc⟩ := ho.cell hi
  have hgo := (World.ownsRow.lt ho.outer go rfl).1
  have hin := ho.inner i hi
  rcases hin.2 with ⟨_, e0⟩ | ⟨gi, ci, cur, e, hbi, hgi, _⟩
  · cases e0
  · rw [e] at hc hin
    have hi2 : two i = 2 := rfl
    rw [hi2] at hc hin
    have c0 := World.ownsRow.cellAt hin 0 (by omega)
    have c1 := World.ownsRow.cellAt hin 1 (by omega)
    obtain ⟨x, hx, hxc⟩ := cell_obj hc
    obtain ⟨y, hy, hyc⟩ := cell_obj c0
    exact ⟨go, gi, ci, rfl, safe_new h0 hv hb hgo hx hxc, hc, safe_new h0 hv hb hbi hy hyc, c0, c1⟩
theorem drew_kp (b0 : Nat) (w : World) : KpB b0 w w.drew := ⟨Nat.le_refl _, fun b hb => ⟨rfl, hb.2.1⟩, id⟩
theorem grown_drew (w : World) : w.grownBy w.drew none := ⟨rfl, rfl, rfl, Nat.le_refl _, fun _ _ _ => rfl⟩
theorem rnL_at {zs : List Int} {n k : Nat} (p e : Int) (hl : zs.length = n) (h : k < n) : rnL p e (zs.drop k) = steps (zs[k]?.getD 0 - p) e ++ rnL (zs[k]?.getD 0) (Int.gcd e (zs[k]?.getD 0) : Int) (zs.drop (k + 1)) := by
  rw [drop_at hl h]; rfl
theorem natB_in {x : Int} (h : 1 ≤ x ∧ x ≤ 2000) : natB x = true := natB_true.2 (by omega)

end Go.Proofs.Ytjobfjgphcaoeaa
/- Delta invariants and numbers of blow-ups, the program's: contracts. Conditions: stated at each theorem. -/
namespace Go.Proofs.Ytjobfjgphcaoeaa
open Go.ChangeShapes Go.WideShapes Go.ChangeAt Go.RowKit Go.Shelf
set_option linter.unusedVariables false
set_option linter.unusedSimpArgs false
attribute [local go_sem] Oper.semAt_some

/-- What is said of a branch that reads, behind new blocks. -/
theorem branch_mem {w W : World} {A : Option Addr} {n c b0 : Nat} {zs : List Int} (h : ReadI w w.heap.size (.slice A n c) zs) (hp : brB zs = true) (hl : zs.length = n) (hb : Below w.heap.size w W) (hb0 : w.heap.size ≤ b0) (hr : rb b0 W = none) :
    ∃ g o, A = some ⟨g, o, none⟩ ∧ n ≤ c ∧ c ≤ 9223372036854775807 ∧ Safe b0 W g ∧ ∀ k, k < n → W.cell? ⟨g, o + k, none⟩ = some (.int .i64 (zs[k]?.getD 0)) := by
  subst hl
  obtain ⟨A', c', e, h1, h2, h3, h4, h5⟩ := h
  cases e
  have hpos := brB_pos hp
  obtain ⟨a, ea, hlt, hc0⟩ := h1.2 0 hpos
  obtain ⟨g, o, e2⟩ := h4 a ea
  subst e2; subst ea
  have hc : ∀ k, k < zs.length → W.cell? ⟨g, o + k, none⟩ = some (.int .i64 (zs[k]?.getD 0)) := fun k hk => by
    obtain ⟨a', e3, _, hck⟩ := h1.2 k hk
    cases e3
    rw [hb.cell (p := ⟨g, o + k, none⟩) hlt]
    rw [add_lit] at hck
    simpa using hck
  obtain ⟨x, hx, hxc⟩ := cell_obj (hc 0 hpos)
  exact ⟨g, o, rfl, h3, h5, ⟨by have : g < w.heap.size := hlt; omega, by rw [hr]; simp, x, hx, hxc⟩, hc⟩

def dA (zs : List Int) : Int := if brB zs then delL (rsI zs) else 0
def uA (zs : List Int) : Int := if brB zs then upsL (rsI zs) else 0
def sqC (zs : List Int) : Int := if brB zs then 0 else 1

end Go.Proofs.Ytjobfjgphcaoeaa
/- Numbers of blow-ups and Milnor numbers, the program's: contracts. Conditions: stated at each theorem. -/
namespace Go.Proofs.Ytjobfjgphcaoeaa
open Go.ChangeShapes Go.WideShapes Go.ChangeAt Go.RowKit Go.Shelf
set_option linter.unusedVariables false
set_option linter.unusedSimpArgs false
attribute [local go_sem] Oper.semAt_some

def mA (zs : List Int) : Int := 2 * dA zs
theorem dA_bound (zs : List Int) : 0 ≤ dA zs ∧ dA zs ≤ 600000000000 := by
  unfold dA
  split
  · rename_i hp
    have h1 := rsI_ok hp
    have := delL_bound h1.1
    omega
  · omega
end Go.Proofs.Ytjobfjgphcaoeaa
/- The runs of a branch, the model's: contract. Conditions: stated at each theorem. -/
namespace Go.Proofs.Ytjobfjgphcaoeaa
open Go.ChangeShapes Go.WideShapes Go.ChangeAt Go.RowKit
set_option linter.unusedVariables false
set_option linter.unusedSimpArgs false

theorem own_lessR {w : World} {lo lo' n : Nat} {v : Value} {xs : List Value} {t : TypeId} (h : w.ownsRow lo t 1 v n xs) (hl : lo' ≤ lo) : w.ownsRow lo' t 1 v n xs := by
  refine ⟨h.1, ?_⟩
  rcases h.2 with hn | ⟨g, cap, cur, e, hb, rest⟩
  · exact .inl hn
  · exact .inr ⟨g, cap, cur, e, by omega, rest⟩
/-- A list of slices behind an append of another one. -/
theorem OwnSS.join {w w1 : World} {base base2 n m c c2 : Nat} {A A2 : Option Addr} {vf vf2 : Nat → Value} {xf xf2 : Nat → List Value} (h : OwnSS w base A n c vf two xf) (h2 : OwnSS w base2 A2 m c2 vf2 two xf2)
    (hb : base ≤ base2) (hlt : ∀ i, i < n → ∀ k, (vf i).ownBlock = some k → k < base2) {A1 : Option Addr} {c1 : Nat}
    (h1 : w1.ownsRow base 22 1 (.slice A1 (n + m) c1) (n + m) ((List.range n).map vf ++ (List.range m).map vf2)) (hg : w.grownBy w1 (Value.slice A n c).ownBlock) :
    OwnSS w1 base A1 (n + m) c1 (fun i => if i < n then vf i else vf2 (i - n)) two (fun i => if i < n then xf i else xf2 (i - n)) := by
  have hold : ∀ i, i < n → Own w1 base (vf i) 2 (xf i) := fun i hi => (h.inner i hi).kept hg (block_type (h.inner i hi) h.outer (by decide))
  have hnew : ∀ i, i < m → Own w1 base (vf2 i) 2 (xf2 i) := fun i hi => Own.kept (own_lessR (h2.inner i hi) hb) hg (block_type (h2.inner i hi) h.outer (by decide))
  have hge : ∀ i, i < m → ∀ k, (vf2 i).ownBlock = some k → base2 ≤ k := fun i hi k hk => ((h2.inner i hi).lt k hk).1
  refine ⟨?_, ?_, ?_, ?_⟩
  · have e : (List.range (n + m)).map (fun i => if i < n then vf i else vf2 (i - n)) = (List.range n).map vf ++ (List.range m).map vf2 := by
      rw [List.range_add, List.map_append, List.map_map]
      congr 1
      · apply List.map_congr_left
        intro i hi
        have : i < n := by simpa using hi
        rw [if_pos this]
      · apply List.map_congr_left
        intro i hi
        show (if n + i < n then vf (n + i) else vf2 (n + i - n)) = vf2 i
        rw [if_neg (by omega), Nat.add_sub_cancel_left]
    rw [e]; exact h1
  · intro i hi
    by_cases e : i < n
    · simp only [if_pos e]; exact h.form i e
    · simp only [if_neg e]; exact h2.form (i - n) (by omega)
  · intro i hi
    by_cases e : i < n
    · simp only [if_pos e]; exact hold i e
    · simp only [if_neg e]; exact hnew (i - n) (by omega)
  · intro i j hi hj hij
    by_cases e : i < n
    · by_cases e2 : j < n
      · simp only [if_pos e, if_pos e2]; exact h.apart i j e e2 hij
      · simp only [if_pos e, if_neg e2]
        cases ek : (vf i).ownBlock with
        | none => exact .inl rfl
        | some k =>
          refine .inr fun e' => ?_
          have h3 := hlt i e k ek
          have h4 := hge (j - n) (by omega) k e'.symm
          omega
    · by_cases e2 : j < n
      · simp only [if_neg e, if_pos e2]
        cases ek : (vf2 (i - n)).ownBlock with
        | none => exact .inl rfl
        | some k =>
          refine .inr fun e' => ?_
          have h3 := hlt j e2 k e'.symm
          have h4 := hge (i - n) (by omega) k ek
          omega
      · simp only [if_neg e, if_neg e2]; exact h2.apart (i - n) (j - n) (by omega) (by omega) (by omega)
theorem stF_join (L M : List (Int × Int)) {n : Nat} (hl : L.length = n) : (fun i => (stF (L ++ M) i).map (Value.int .i64)) = fun i => if i < n then (stF L i).map (.int .i64) else (stF M (i - n)).map (.int .i64) := by
  subst hl
  funext i
  by_cases e : i < L.length
  · rw [if_pos e]; simp only [stF, List.getElem?_append_left e]
  · rw [if_neg e]; simp only [stF, List.getElem?_append_right (show L.length ≤ i by omega)]
theorem rnL_atR {zs : List Int} {n k : Nat} (p e : Int) (hl : zs.length = n) (h : k < n) : rnL p e (zs.drop k) = steps (zs[k]?.getD 0 - p) e ++ rnL (zs[k]?.getD 0) (Int.gcd e (zs[k]?.getD 0) : Int) (zs.drop (k + 1)) := by
  rw [drop_at hl h]; rfl
theorem steps_pos {a b : Int} (hb : 1 ≤ b) : 0 < (steps a b).length := by
  unfold steps; unfold stL
  rw [if_neg (by omega)]; simp
theorem below_to {w W0 w1 w' : World} (h0 : Below w.heap.size w W0) (h1 : Below W0.heap.size W0 w1) (h2 : Below w1.heap.size w1 w') : Below w.heap.size w w' :=
  (h0.trans (h1.mono h0.size)).trans (h2.mono (Nat.le_trans h0.size h1.size))

end Go.Proofs.Ytjobfjgphcaoeaa
/- Delta invariants, Milnor numbers and numbers of blow-ups, the model's: contracts. Conditions: stated at each theorem. -/
namespace Go.Proofs.Ytjobfjgphcaoeaa
open Go.ChangeShapes Go.WideShapes Go.ChangeAt Go.RowKit Go.Deep
set_option linter.unusedVariables false
set_option linter.unusedSimpArgs false

theorem steps_read {base : Nat} {w2 : World} {L : List (Int × Int)} {A : Option Addr} {n c : Nat} {vf : Nat → Value} (hl : L.length = n) (ho : OwnSS w2 base A n c vf two (fun i => (stF L i).map (.int .i64))) : ∀ i, i < n →
    ∃ go gi ci, A = some ⟨go, 0, none⟩ ∧ go < w2.heap.size ∧ w2.cell? ⟨go, i, none⟩ = some (.slice (some ⟨gi, 0, none⟩) 2 ci) ∧ gi < w2.heap.size ∧ w2.cell? ⟨gi, 0, none⟩ = some (.int .i64 (L[i]?.getD (0, 0)).1) ∧ w2.cell? ⟨gi, 1, none⟩ = some (.int .i64 (L[i]?.getD (0, 0)).2) := by
  intro i hi
  subst hl
  obtain ⟨go, rfl, hlt, hc⟩ := ho.cell hi
  have hin := ho.inner i hi
  rcases hin.2 with ⟨_, e0⟩ | ⟨gi, ci, cur, e, hbi, hgi, _⟩
  · cases e0
  · rw [e] at hc hin
    have hi2 : two i = 2 := rfl
    rw [hi2] at hc hin
    have c0 := World.ownsRow.cellAt hin 0 (by omega)
    have c1 := World.ownsRow.cellAt hin 1 (by omega)
    exact ⟨go, gi, ci, rfl, hlt, hc, (Array.getElem?_eq_some_iff.1 hgi).1, c0, c1⟩
theorem take_next {L : List (Int × Int)} {n j : Nat} (hl : L.length = n) (h : j < n) : L.take (j + 1) = L.take j ++ [L[j]?.getD (0, 0)] := by
  have h6 : j < L.length := by omega
  rw [List.take_add_one]; simp [h6]
theorem take_all {L : List (Int × Int)} {n : Nat} (hl : L.length = n) : L.take n = L := by subst hl; simp
theorem take_ok {L : List (Int × Int)} (h : ∀ p ∈ L, StOK p) (j : Nat) : ∀ p ∈ L.take j, StOK p := fun p hp => h p (List.mem_of_mem_take hp)
theorem at_ok {L : List (Int × Int)} {n j : Nat} (h : ∀ p ∈ L, StOK p) (hl : L.length = n) (hj : j < n) : StOK (L[j]?.getD (0, 0)) := by
  have h6 : j < L.length := by omega
  simp only [List.getElem?_eq_getElem h6, Option.getD_some]
  exact h _ (List.getElem_mem h6)

end Go.Proofs.Ytjobfjgphcaoeaa
/- Blocks of equal numbers: plain mathematics. Conditions: stated at each theorem. -/
namespace Go.Proofs.Ytjobfjgphcaoeaa
set_option linter.unusedVariables false

/-- The different numbers of a list, side by side, with how often each one stands there. -/
def bkL : List Int → List (Int × Int)
  | [] => []
  | x :: r => match bkL r with
    | [] => [(x, 1)]
    | p :: q => if p.1 = x then (x, p.2 + 1) :: q else (x, 1) :: p :: q
/-- How many numbers x stand at the beginning. -/
def lead (x : Int) : List Int → Nat
  | [] => 0
  | y :: r => if y = x then lead x r + 1 else 0
theorem lead_le (x : Int) : ∀ (r : List Int), lead x r ≤ r.length
  | [] => by simp [lead]
  | y :: r => by
    unfold lead
    split
    · have := lead_le x r; simp; omega
    · simp
theorem bk_none {x : Int} {r : List Int} (h : bkL r = []) : bkL (x :: r) = [(x, 1)] := by simp [bkL, h]
theorem bk_same {x k : Int} {r : List Int} {q : List (Int × Int)} (h : bkL r = (x, k) :: q) : bkL (x :: r) = (x, k + 1) :: q := by simp [bkL, h]
theorem bk_other {x y k : Int} {r : List Int} {q : List (Int × Int)} (h : bkL r = (y, k) :: q) (hn : y ≠ x) : bkL (x :: r) = (x, 1) :: (y, k) :: q := by simp [bkL, h, hn]
theorem bk_lead : ∀ (r : List Int) (x : Int), bkL (x :: r) = (x, ((lead x r + 1 : Nat) : Int)) :: bkL (r.drop (lead x r))
  | [], x => by rw [bk_none rfl]; rfl
  | y :: s, x => by
    have ih := bk_lead s y
    by_cases h : y = x
    · subst h
      rw [bk_same ih]
      have e : lead y (y :: s) = lead y s + 1 := by simp [lead]
      rw [e, List.drop_succ_cons]
      congr 1
    · have e : lead x (y :: s) = 0 := by simp [lead, h]
      rw [bk_other ih h, e, List.drop_zero, ← ih]
      rfl
theorem bk_cons (x : Int) (r : List Int) : ∃ k q, bkL (x :: r) = (x, k) :: q := ⟨_, _, bk_lead r x⟩
/-- One more number behind the list. -/
theorem bk_snoc : ∀ (xs : List Int) (x z : Int), xs.getLast? = some z → (z = x → ∃ D k, bkL xs = D ++ [(x, k)] ∧ bkL (xs ++ [x]) = D ++ [(x, k + 1)]) ∧ (z ≠ x → bkL (xs ++ [x]) = bkL xs ++ [(x, 1)])
  | [], _, _, h => by cases h
  | [y], x, z, h => by
    have e : y = z := by simpa using h
    subst e
    refine ⟨fun e => ?_, fun e => ?_⟩
    · subst e; exact ⟨[], 1, by simp [bkL], by simp [bkL]⟩
    · have : ¬ x = y := fun h => e h.symm
      simp [bkL, this]
  | y :: a :: r, x, z, h => by
    have h2 : (a :: r).getLast? = some z := by simpa using h
    obtain ⟨i1, i2⟩ := bk_snoc (a :: r) x z h2
    obtain ⟨k0, q0, e0⟩ := bk_cons a r
    refine ⟨fun e => ?_, fun e => ?_⟩
    · obtain ⟨D, k, h3, h4⟩ := i1 e
      cases D with
      | nil =>
        simp only [List.nil_append] at h3 h4
        by_cases hy : x = y
        · subst hy
          exact ⟨[], k + 1, bk_same h3, bk_same h4⟩
        · exact ⟨[(y, 1)], k, bk_other h3 hy, bk_other h4 hy⟩
      | cons d D =>
        obtain ⟨d1, d2⟩ := d
        by_cases hy : d1 = y
        · subst hy
          exact ⟨(d1, d2 + 1) :: D, k, bk_same h3, bk_same h4⟩
        · exact ⟨(y, 1) :: (d1, d2) :: D, k, bk_other h3 hy, bk_other h4 hy⟩
    · have h4 := i2 e
      rw [e0] at h4
      by_cases hy : a = y
      · subst hy
        show bkL (a :: ((a :: r) ++ [x])) = _
        rw [bk_same h4, bk_same e0]; rfl
      · show bkL (y :: ((a :: r) ++ [x])) = _
        rw [bk_other h4 hy, bk_other e0 hy]; rfl
theorem bk_bound : ∀ (xs : List Int), (bkL xs).length ≤ xs.length ∧ ∀ p ∈ bkL xs, 1 ≤ p.2 ∧ p.2 ≤ xs.length
  | [] => by simp [bkL]
  | x :: r => by
    obtain ⟨i1, i2⟩ := bk_bound r
    cases h : bkL r with
    | nil => rw [bk_none h]; simp; omega
    | cons p q =>
      obtain ⟨y, k⟩ := p
      rw [h] at i1 i2
      have hk := i2 (y, k) (by simp)
      by_cases hy : y = x
      · subst hy
        rw [bk_same h]
        refine ⟨by simp at i1 ⊢; omega, fun p hp => ?_⟩
        rcases List.mem_cons.1 hp with rfl | hp
        · simp at hk ⊢; omega
        · have := i2 p (by simp [hp]); simp; omega
      · rw [bk_other h hy]
        refine ⟨by simp at i1 ⊢; omega, fun p hp => ?_⟩
        rcases List.mem_cons.1 hp with rfl | hp
        · simp; omega
        · have := i2 p hp; simp; omega
/-- As lists of two numbers. -/
def bkQ (xs : List Int) : List (List Int) := (bkL xs).map fun p => [p.1, p.2]
end Go.Proofs.Ytjobfjgphcaoeaa
/- Blocks of equal numbers, the program's counting and the model's blocks: contracts. Conditions: stated at each theorem. -/
namespace Go.Proofs.Ytjobfjgphcaoeaa
open Go.ChangeShapes Go.WideShapes Go.ChangeAt Go.RowKit Go.Deep
set_option linter.unusedVariables false
set_option linter.unusedSimpArgs false

theorem lead_step {zs : List Int} {n j : Nat} (x : Int) (hl : zs.length = n) (h : j < n) : lead x (zs.drop j) = if zs[j]?.getD 0 = x then lead x (zs.drop (j + 1)) + 1 else 0 := by
  rw [drop_at hl h]; rfl
/-- A block more, or one number more in the last one. -/
theorem bk_take {zs : List Int} {n i : Nat} (hl : zs.length = n) (hi : i < n) : zs.take (i + 1) = zs.take i ++ [zs[i]?.getD 0] := by
  have h6 : i < zs.length := by omega
  rw [List.take_add_one]; simp [h6]
theorem bk_last {zs : List Int} {n i : Nat} (hl : zs.length = n) (hi : i < n) (h0 : 0 < i) : (zs.take i).getLast? = some (zs[i - 1]?.getD 0) := by
  have h7 : i - 1 < zs.length := by omega
  rw [List.getLast?_eq_getElem?, List.length_take, Nat.min_eq_left (by omega), List.getElem?_take]
  simp [show i - 1 < i by omega, h7]
theorem bkQ_first {zs : List Int} {n : Nat} (hl : zs.length = n) (hi : 0 < n) : bkQ (zs.take 1) = [] ++ [[zs[0]?.getD 0, 1]] := by
  rw [bk_take hl hi]; simp [bkQ, bkL]
theorem bkQ_new {zs : List Int} {n i : Nat} (hl : zs.length = n) (hi : i < n) (h0 : 0 < i) (h : zs[i]?.getD 0 ≠ zs[i - 1]?.getD 0) : bkQ (zs.take (i + 1)) = bkQ (zs.take i) ++ [[zs[i]?.getD 0, 1]] := by
  rw [bk_take hl hi, bkQ, (bk_snoc _ _ _ (bk_last hl hi h0)).2 (fun e => h e.symm)]
  simp [bkQ]
theorem bkQ_same {zs : List Int} {n i : Nat} (hl : zs.length = n) (hi : i < n) (h0 : 0 < i) (h : zs[i]?.getD 0 = zs[i - 1]?.getD 0) : ∃ D k, bkQ (zs.take i) = D ++ [[zs[i]?.getD 0, k]] ∧ bkQ (zs.take (i + 1)) = D ++ [[zs[i]?.getD 0, k + 1]] := by
  obtain ⟨D, k, h1, h2⟩ := (bk_snoc _ (zs[i]?.getD 0) _ (bk_last hl hi h0)).1 h.symm
  refine ⟨D.map fun p => [p.1, p.2], k, ?_, ?_⟩
  · rw [bkQ, h1]; simp
  · rw [bk_take hl hi, bkQ, h2]; simp
theorem set_last {D : List (List Int)} {a b c : Int} {n : Nat} (h : (D ++ [[a, b]]).length = n + 1) : (D ++ [[a, b]]).set n (((D ++ [[a, b]]).getD n []).set 1 c) = D ++ [[a, c]] := by
  have hn : D.length = n := by simpa using h
  subst hn
  simp [List.getD]
theorem get_last {D : List (List Int)} {a b : Int} {n : Nat} (h : (D ++ [[a, b]]).length = n + 1) : (D ++ [[a, b]]).getD n [] = [a, b] := by
  have hn : D.length = n := by simpa using h
  subst hn
  simp [List.getD]
end Go.Proofs.Ytjobfjgphcaoeaa
/- Blocks of equal numbers, the model's: contract of spec.l04Blocks. Conditions: stated at the theorem. -/
namespace Go.Proofs.Ytjobfjgphcaoeaa
open Go.ChangeShapes Go.WideShapes Go.ChangeAt Go.RowKit Go.Deep
set_option linter.unusedVariables false
set_option linter.unusedSimpArgs false

theorem rows_push2 {WR w3 : World} {lo N c g2 cap2 : Nat} {A : Option Addr} {us : List Value} {ls hs : Nat → Nat} {L : List (List Int)} (hr : Rows2 WR lo WR.heap.size (.slice A N c) N us ls hs (fun i l h u => OwnI WR l h u (L.getD i [])))
    (hL : L.length = N) (hlo : lo ≤ WR.heap.size) (x y : Int) (hown : w3.ownsRow lo 22 1 (.slice (some ⟨g2, 0, none⟩) (N + 1) cap2) (N + 1) (us ++ [.slice (some ⟨WR.heap.size, 0, none⟩) 2 2]))
    (hgrow : ((WR.alloc (.cells #[.int .i64 x, .int .i64 y] 2)).alloc (.cells #[.slice (some ⟨WR.heap.size, 0, none⟩) 2 2] 22)).grownBy w3 (Value.slice A N c).ownBlock)
    (hg : (Value.slice A N c).ownBlock = some g2 ∨ g2 = ((WR.alloc (.cells #[.int .i64 x, .int .i64 y] 2)).alloc (.cells #[.slice (some ⟨WR.heap.size, 0, none⟩) 2 2] 22)).heap.size) (hlt : g2 < w3.heap.size) :
    OwnQ w3 lo w3.heap.size (.slice (some ⟨g2, 0, none⟩) (N + 1) cap2) (L ++ [[x, y]]) := by
  have hbw : Below WR.heap.size WR ((WR.alloc (.cells #[.int .i64 x, .int .i64 y] 2)).alloc (.cells #[.slice (some ⟨WR.heap.size, 0, none⟩) 2 2] 22)) := ((Below.refl _ _).alloc (Nat.le_refl _) _).alloc (by simp) _
  have hOE := (list2R (w := WR) (lo := WR.heap.size) (Nat.le_refl _) x y).kept (kept_boxR (WR.alloc (.cells #[.int .i64 x, .int .i64 y] 2)) (.cells #[.slice (some ⟨WR.heap.size, 0, none⟩) 2 2] 22) WR.heap.size _ (Nat.le_refl _))
  exact rows_snocR hr hL hlo hbw hOE (Nat.le_refl _) (by simp) hown hgrow hg hlt
theorem rows_last {w : World} {lo hi n c : Nat} {A : Option Addr} {D : List (List Int)} {a b : Int} (h : OwnQ w lo hi (.slice A (n + 1) c) (D ++ [[a, b]])) (hl : (D ++ [[a, b]]).length = n + 1) :
    ∃ go gi ci, A = some ⟨go, 0, none⟩ ∧ w.cell? ⟨go, n, none⟩ = some (.slice (some ⟨gi, 0, none⟩) 2 ci) ∧ lo ≤ gi ∧ w.cell? ⟨gi, 1, none⟩ = some (.int .i64 b) ∧ w.frozen? ⟨gi, 1, none⟩ = false ∧ ∀ z, OwnQ (w.setCell ⟨gi, 1, none⟩ (.int .i64 z)) lo hi (.slice A (n + 1) c) (D ++ [[a, z]]) := by
  have hgl := get_last hl
  obtain ⟨go, gi, ci, e, h1, h2, h3, h4, h5, h6, h7⟩ := rows_at (i := n) (j := 1) h hl (by omega) (by rw [hgl]; simp)
  rw [hgl] at h3 h6
  refine ⟨go, gi, ci, e, h3, h4, by simpa using h6, h7, fun z => ?_⟩
  have h8 := rows_set (i := n) (j := 1) (gi := gi) (ci := ci) h hl (by omega) (fun go' e' => by rw [e] at e'; cases e'; rw [hgl]; exact h3) z
  rw [set_last hl] at h8
  exact h8
theorem below_set {w0 w : World} {B : Nat} (h : Below B w0 w) {g o : Nat} (hg : B ≤ g) (u : Value) : Below B w0 (w.setCell ⟨g, o, none⟩ u) := h.setCell (p := ⟨g, o, none⟩) hg u
theorem setCell_size (w : World) (p : Addr) (u : Value) : (w.setCell p u).heap.size = w.heap.size := by simp [World.setCell]

end Go.Proofs.Ytjobfjgphcaoeaa
