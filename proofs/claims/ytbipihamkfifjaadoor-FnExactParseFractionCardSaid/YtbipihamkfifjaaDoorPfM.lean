/- Numerals and texts of fractions, read back: plain mathematics; no call is walked here. -/
import Derived.Test.YtbipihamkfifjaaDoorFracIs
import Derived.Lib.ItoaMem
import Derived.Lib.IndexMore
import Derived.Lib.Strings
namespace Go.Proofs.YtbipihamkfifjaaDoor
set_option linter.unusedVariables false

def isDg (c : UInt8) : Bool := decide (48 ≤ c.toNat ∧ c.toNat ≤ 57)
@[irreducible] def stp (n : Nat) (c : UInt8) : Nat := n * 10 + (c.toNat - 48)
def valL (n : Nat) (l : List UInt8) : Nat := l.foldl stp n
theorem valL_nil (n : Nat) : valL n [] = n := by unfold valL; rw [List.foldl_nil]
theorem valL_cons (n : Nat) (c : UInt8) (l : List UInt8) : valL n (c :: l) = valL (stp n c) l := by unfold valL; rw [List.foldl_cons]
/-- One to nine digits. -/
def rdB (l : List UInt8) : Bool := decide (1 ≤ l.length ∧ l.length ≤ 9) && l.all isDg
/-- The like, without superfluous zeros. -/
def svB (l : List UInt8) : Bool := rdB l && decide (l.length = 1 ∨ l.head? ≠ some 48)
theorem rd_of_sv {l : List UInt8} (h : svB l = true) : rdB l = true := by
  unfold svB at h; simp only [Bool.and_eq_true] at h; exact h.1
theorem valL_append (l m : List UInt8) (n : Nat) : valL n (l ++ m) = valL (valL n l) m := by unfold valL; exact List.foldl_append
theorem valL_lt (l : List UInt8) : ∀ (n B : Nat), l.all isDg = true → n < B → valL n l < B * 10 ^ l.length := by
  induction l with
  | nil => intro n B _ h; simpa [valL_nil] using h
  | cons c l ih =>
    intro n B ha h
    simp only [List.all_cons, Bool.and_eq_true, isDg, decide_eq_true_eq] at ha
    have := ih (stp n c) (B * 10) ha.2 (by unfold stp; omega)
    rw [List.length_cons, Nat.pow_succ', ← Nat.mul_assoc, valL_cons]
    exact this
theorem val_rd {l : List UInt8} (h : rdB l = true) : valL 0 l ≤ 999999999 := by
  unfold rdB at h; simp only [Bool.and_eq_true, decide_eq_true_eq] at h
  have h1 := valL_lt l 0 1 h.2 (by omega)
  have h2 : (10 : Nat) ^ l.length ≤ 10 ^ 9 := Nat.pow_le_pow_right (by omega) (by omega)
  have h3 : (10 : Nat) ^ 9 = 1000000000 := by decide
  omega
theorem dg_of (d : Nat) (h : d < 10) : (UInt8.ofNat (48 + d)).toNat = 48 + d := by simp; omega
theorem decD_step {u : Nat} (h : ¬ u < 10) : Lib.decDigits u = Lib.decDigits (u / 10) ++ [UInt8.ofNat (48 + u % 10)] := by rw [Lib.decDigits, dif_neg h]
theorem decD_dig (u : Nat) : (Lib.decDigits u).all isDg = true := by
  induction u using Nat.strongRecOn with
  | ind u ih =>
    by_cases h : u < 10
    · rw [Lib.decDigits_one h]; simp [isDg]; omega
    · rw [decD_step h, List.all_append, ih (u / 10) (by omega)]; simp [isDg]; omega
theorem decD_val (u : Nat) : valL 0 (Lib.decDigits u) = u := by
  induction u using Nat.strongRecOn with
  | ind u ih =>
    by_cases h : u < 10
    · rw [Lib.decDigits_one h]; rw [valL_cons, valL_nil]; unfold stp; rw [ dg_of u h]; omega
    · rw [decD_step h, valL_append, ih (u / 10) (by omega)]; rw [valL_cons, valL_nil]; unfold stp; rw [ dg_of (u % 10) (by omega)]; omega
theorem decD_ne (u : Nat) : Lib.decDigits u ≠ [] := by
  intro h; have := Lib.decDigits_length u; rw [h] at this
  by_cases hu : u < 10
  · rw [Lib.nDigits_small hu] at this; simp at this
  · rw [Lib.nDigits_big hu] at this; simp at this
theorem decD_head (u : Nat) (h0 : u ≠ 0) : (Lib.decDigits u).head? ≠ some 48 := by
  induction u using Nat.strongRecOn with
  | ind u ih =>
    by_cases h : u < 10
    · rw [Lib.decDigits_one h]; simp only [List.head?_cons, ne_eq, Option.some.injEq]
      intro e; have := congrArg UInt8.toNat e; rw [dg_of u h] at this; simp at this; omega
    · have := ih (u / 10) (by omega) (by omega)
      rw [decD_step h]
      cases hd : Lib.decDigits (u / 10) with
      | nil => exact absurd hd (decD_ne _)
      | cons c l => rw [hd] at this; simpa using this
theorem dgs_len : ∀ (k u : Nat), u < 10 ^ (k + 1) → (Lib.decDigits u).length ≤ k + 1
  | 0, u, h => by rw [Lib.decDigits_one (by simpa using h)]; simp
  | k + 1, u, h => by
    by_cases hu : u < 10
    · rw [Lib.decDigits_one hu]; simp
    · have e : (10 : Nat) ^ (k + 1 + 1) = 10 ^ (k + 1) * 10 := Nat.pow_succ 10 (k + 1)
      have := dgs_len k (u / 10) (by omega)
      rw [decD_step hu]; simp; omega
theorem sv_dec (u : Nat) (h : u ≤ 999999999) : svB (Lib.decDigits u) = true := by
  have hl := dgs_len 8 u (by omega)
  have hn : 1 ≤ (Lib.decDigits u).length := by
    cases hd : Lib.decDigits u with
    | nil => exact absurd hd (decD_ne _)
    | cons c l => simp
  unfold svB rdB
  simp only [decD_dig, Bool.and_eq_true, decide_eq_true_eq, and_true]
  refine ⟨⟨hn, hl⟩, ?_⟩
  by_cases h0 : u = 0
  · subst h0; left; rw [Lib.decDigits_one (by omega)]; rfl
  · exact Or.inr (decD_head u h0)
theorem ne47 {c : UInt8} (h : isDg c = true) (x : UInt8) (hx : x.toNat < 48) : (x == c) = false := by
  simp only [isDg, decide_eq_true_eq] at h
  simp only [beq_eq_false_iff_ne, ne_eq]
  intro e; subst e; omega
/-- The first place of a byte that is no digit, behind digits. -/
theorem index_dig (x : UInt8) (hx : x.toNat < 48) : ∀ (d r : List UInt8), d.all isDg = true → Lib.index (d ++ x :: r) [x] = d.length
  | [], r, _ => by simp [Lib.index]
  | c :: d, r, h => by
    simp only [List.all_cons, Bool.and_eq_true] at h
    have ih := index_dig x hx d r h.2
    simp only [List.cons_append, Lib.index, List.isPrefixOf, ne47 h.1 x hx, Bool.false_and, ih, List.length_cons]
    simp
theorem index_miss (x : UInt8) (hx : x.toNat < 48) : ∀ d : List UInt8, d.all isDg = true → Lib.index d [x] = -1
  | [], _ => by simp [Lib.index]
  | c :: d, h => by
    simp only [List.all_cons, Bool.and_eq_true] at h
    have ih := index_miss x hx d h.2
    simp [Lib.index, List.isPrefixOf, ne47 h.1 x hx, ih]
theorem cut_dig (x : UInt8) (hx : x.toNat < 48) (d r : List UInt8) (h : d.all isDg = true) : Lib.cut (d ++ x :: r) [x] = (d, r, true) := by
  unfold Lib.cut
  rw [index_dig x hx d r h, if_pos (by omega)]
  simp
theorem cut_miss (x : UInt8) (hx : x.toNat < 48) (d : List UInt8) (h : d.all isDg = true) : Lib.cut d [x] = (d, [], false) := by
  unfold Lib.cut
  rw [index_miss x hx d h, if_neg (by omega)]

def txtP (a : Int) (u : Nat) : List UInt8 := if u = 1 then Lib.itoa a else (Lib.itoa a ++ [47]) ++ Lib.itoa u
/-- The fraction that the parts of a text make, if they are numerals. -/
def cand (ok : List UInt8 → Bool) (t : List UInt8) : Option (Int × Nat) :=
  if ok (Lib.cut (Lib.trimPrefix t [45]) [47]).1 && (!(Lib.cut (Lib.trimPrefix t [45]) [47]).2.2 || ok (Lib.cut (Lib.trimPrefix t [45]) [47]).2.1) then
    some (if Lib.hasPrefix t [45] then -(valL 0 (Lib.cut (Lib.trimPrefix t [45]) [47]).1 : Int) else (valL 0 (Lib.cut (Lib.trimPrefix t [45]) [47]).1 : Int),
      if (Lib.cut (Lib.trimPrefix t [45]) [47]).2.2 then valL 0 (Lib.cut (Lib.trimPrefix t [45]) [47]).2.1 else 1)
  else none
/-- The fraction with a text. -/
def pfR (ok : List UInt8 → Bool) (t : List UInt8) : Option (Int × Nat) :=
  match cand ok t with
  | none => none
  | some (a, u) => if fracB a u = true ∧ txtP a u = t then some (a, u) else none
theorem has_dec (u : Nat) (r : List UInt8) : Lib.hasPrefix (Lib.decDigits u ++ r) [45] = false := by
  have h := decD_dig u
  cases hd : Lib.decDigits u with
  | nil => exact absurd hd (decD_ne _)
  | cons c l =>
    rw [hd] at h; simp only [List.all_cons, Bool.and_eq_true] at h
    simp [Lib.hasPrefix, List.isPrefixOf, ne47 h.1 45 (by decide)]
theorem trim_dec (u : Nat) (r : List UInt8) : Lib.trimPrefix (Lib.decDigits u ++ r) [45] = Lib.decDigits u ++ r := by
  unfold Lib.trimPrefix; rw [has_dec]; simp
theorem has_neg (l : List UInt8) : Lib.hasPrefix (45 :: l) [45] = true := by simp [Lib.hasPrefix, List.isPrefixOf]
theorem trim_neg (l : List UInt8) : Lib.trimPrefix (45 :: l) [45] = l := by unfold Lib.trimPrefix; rw [has_neg]; simp
/-- A sign, digits, and what is behind. -/
theorem sign_parts (a : Int) (r : List UInt8) : Lib.trimPrefix (Lib.itoa a ++ r) [45] = Lib.decDigits a.natAbs ++ r ∧ (if Lib.hasPrefix (Lib.itoa a ++ r) [45] then -(a.natAbs : Int) else (a.natAbs : Int)) = a := by
  by_cases h : a < 0
  · unfold Lib.itoa; rw [if_pos h, List.cons_append, trim_neg, has_neg]
    exact ⟨rfl, by simp; omega⟩
  · unfold Lib.itoa; rw [if_neg h, show a.toNat = a.natAbs by omega, trim_dec, has_dec]
    exact ⟨rfl, by simp; omega⟩
theorem cand_txt (a : Int) (u : Nat) (ha : -999999999 ≤ a ∧ a ≤ 999999999) (hu : u ≤ 999999999) : cand svB (txtP a u) = some (a, u) := by
  by_cases h1 : u = 1
  · subst h1
    have e := sign_parts a []
    simp only [List.append_nil] at e
    have c := cut_miss 47 (by decide) _ (decD_dig a.natAbs)
    have s := sv_dec a.natAbs (by omega)
    unfold cand txtP
    simp only [if_true, e.1, c, s, decD_val, e.2]
    simp
  · have e := sign_parts a (47 :: Lib.decDigits u)
    have c := cut_dig 47 (by decide) (Lib.decDigits a.natAbs) (Lib.decDigits u) (decD_dig _)
    have s := sv_dec a.natAbs (by omega)
    have s2 := sv_dec u hu
    have ht : txtP a u = Lib.itoa a ++ 47 :: Lib.decDigits u := by rw [txtP, if_neg h1, Lib.itoa_nonneg]; simp
    rw [ht]
    unfold cand
    simp only [e.1, c, s, s2, decD_val, e.2]
    simp
theorem cand_le {ok : List UInt8 → Bool} {t : List UInt8} {a : Int} {u : Nat} (h : cand ok t = some (a, u)) :
    ok (Lib.cut (Lib.trimPrefix t [45]) [47]).1 = true ∧ ((Lib.cut (Lib.trimPrefix t [45]) [47]).2.2 = false ∨ ok (Lib.cut (Lib.trimPrefix t [45]) [47]).2.1 = true) ∧
      a = (if Lib.hasPrefix t [45] then -(valL 0 (Lib.cut (Lib.trimPrefix t [45]) [47]).1 : Int) else (valL 0 (Lib.cut (Lib.trimPrefix t [45]) [47]).1 : Int)) ∧
      u = (if (Lib.cut (Lib.trimPrefix t [45]) [47]).2.2 then valL 0 (Lib.cut (Lib.trimPrefix t [45]) [47]).2.1 else 1) := by
  unfold cand at h
  split at h
  · rename_i hc
    simp only [Bool.and_eq_true, Bool.or_eq_true, Bool.not_eq_true'] at hc
    simp only [Option.some.injEq, Prod.mk.injEq] at h
    exact ⟨hc.1, hc.2, h.1.symm, h.2.symm⟩
  · cases h
theorem cand_rd_of_sv {t : List UInt8} {x : Int × Nat} (h : cand svB t = some x) : cand rdB t = some x := by
  obtain ⟨a, u⟩ := x
  obtain ⟨h1, h2, h3, h4⟩ := cand_le h
  have k1 := rd_of_sv h1
  unfold cand
  rw [if_pos]
  · rw [h3, h4]
  · simp only [k1, Bool.true_and, Bool.or_eq_true, Bool.not_eq_true']
    rcases h2 with h2 | h2
    · exact Or.inl h2
    · exact Or.inr (rd_of_sv h2)
theorem cand_rd_small {t : List UInt8} {a : Int} {u : Nat} (h : cand rdB t = some (a, u)) : (-999999999 ≤ a ∧ a ≤ 999999999) ∧ u ≤ 999999999 := by
  obtain ⟨h1, h2, h3, h4⟩ := cand_le h
  have k1 := val_rd h1
  constructor
  · rw [h3]; split <;> omega
  · rw [h4]
    rcases h2 with h2 | h2
    · rw [h2]; simp
    · have := val_rd h2; split <;> omega
/-- The program, which reads superfluous zeros, and the model, which doesn't, come to one answer. -/
theorem pf_same (t : List UInt8) : pfR rdB t = pfR svB t := by
  unfold pfR
  cases hs : cand svB t with
  | some x => rw [cand_rd_of_sv hs]
  | none =>
    cases hr : cand rdB t with
    | none => rfl
    | some x =>
      obtain ⟨a, u⟩ := x
      simp only
      split
      · rename_i hc
        obtain ⟨h1, h2⟩ := cand_rd_small hr
        have := cand_txt a u h1 h2
        rw [hc.2, hs] at this; cases this
      · rfl
theorem pfR_some {ok : List UInt8 → Bool} {t : List UInt8} {a : Int} {u : Nat} (h : pfR ok t = some (a, u)) : cand ok t = some (a, u) ∧ fracB a u = true ∧ txtP a u = t := by
  unfold pfR at h
  cases hc : cand ok t with
  | none => rw [hc] at h; cases h
  | some x =>
    obtain ⟨b, v⟩ := x
    rw [hc] at h; simp only at h
    split at h
    · rename_i k; simp only [Option.some.injEq, Prod.mk.injEq] at h; obtain ⟨rfl, rfl⟩ := h; exact ⟨rfl, k⟩
    · cases h
end Go.Proofs.YtbipihamkfifjaaDoor
