/- Unloading, the program's: joining. Conditions: stated at each theorem. -/
import Derived.Test.YtohbgfmjnanlkaaUa
namespace Go.Proofs.Ytohbgfmjnanlkaa
open Go.ChangeShapes Go.WideShapes Go.ChangeAt Go.RowKit Go.Deep
set_option linter.unusedVariables false
set_option linter.unusedSimpArgs false

/-- The excesses that belong to orders. -/
def exU (P S : List Int) (n : Nat) (O : Nat → Int) (x : Nat) : Int := exN P S (fun x => (woL P S (fnL O n) n)[x]?.getD 0) n x
theorem rx_of {w : World} {lo ub bo bj g n mo bn l4 h4 c4 cm : Nat} {P S W : List Int} {J : Nat → Bool} {A4 : Option Addr} {v0 v1 v3 v5 : Value} (hs : UA w lo ub bo bj g n mo bn P S)
    (hx : UBx w ub v0 v1 (.slice (some ⟨mo, 0, none⟩) n cm) v3 (.slice A4 n c4) v5 (.slice (some ⟨bj, 0, none⟩) n n)) (ho : OwnI w l4 h4 (.slice A4 n c4) (ecL P S W n)) (hj : w.rowIs bj 4 n (fun x => .bool (J x))) (hn : 1 ≤ n) :
    ∃ be, RX w ub mo be bj n cm c4 P S (exN P S (fun x => W[x]?.getD 0) n) J := by
  obtain ⟨be, e4, h1, h2, h3, _⟩ := own_at ho (ecL_len _ _ _ _) (show 0 < n by omega)
  subst e4
  have hsz := ho.2.2
  refine ⟨be, hs.ulo.2, hs.mof.2.1, by omega, hj.lt, hx.c2, hx.c4, hx.c6, fun i hi => ?_, fun i hi => hj.cell hi, fun i hi => ?_⟩
  · obtain ⟨be', e4, g1, g2, g3, _⟩ := own_at ho (ecL_len _ _ _ _) hi
    cases e4
    rw [ecL_at hi] at g3
    exact g3
  · obtain ⟨ri, ci, m1, m2, m3⟩ := hs.mat i hi
    exact ⟨ri, ci, m1, m2.2.1, m3⟩
theorem US.rx {w : World} {lo ub bo bj g n mo bn co cm cn : Nat} {P S : List Int} {O : Nat → Int} {J : Nat → Bool} (h : US w lo ub bo bj g n mo bn co cm cn P S O J) (hn : 1 ≤ n) : ∃ be c4, RX w ub mo be bj n cm c4 P S (exU P S n O) J := by
  obtain ⟨hs, ⟨A1, c1, A4, c4, l1, h1, l4, h4, hx, ho1, ho4, _⟩, _, hj⟩ := h
  obtain ⟨be, hr⟩ := rx_of hs hx ho4 hj hn
  exact ⟨be, c4, hr⟩
theorem US.join {w w' : World} {lo ub bo bj g n mo bn co cm cn : Nat} {P S : List Int} {O : Nat → Int} {J J' : Nat → Bool} (h : US w lo ub bo bj g n mo bn co cm cn P S O J) (k : Only bj (bj + 1) w w') (hj : w'.rowIs bj 4 n (fun x => .bool (J' x))) : US w' lo ub bo bj g n mo bn co cm cn P S O J' := by
  obtain ⟨hs, ⟨A1, c1, A4, c4, l1, h1, l4, h4, hx, ho1, ho4, h5, h6⟩, hor, _⟩ := h
  have hd1 := hs.d1; have hd2 := hs.d2; have hd3 := hs.d3; have hu := hs.ulo
  have hU : U3 ub bo bj w w' := ⟨k.os, k.tape, k.output, k.size, fun b hb _ _ h3 => k.block b hb (by omega)⟩
  refine ⟨hs.keep hU, ⟨A1, c1, A4, c4, l1, h1, l4, h4, hx.of_block (k.block ub hu.2 (by omega)) k.size, ho1.kept (k.kept (by omega) ho1.2.2), ho4.kept (k.kept (by omega) ho4.2.2), h5, h6⟩, hor.kept (k.kept (by omega) hor.2.2), hj⟩
/-- Numbers of points as values. -/
def pL (L : List Nat) : List Value := L.map fun (p : Nat) => (Value.int .i64 (p : Int))
theorem pL_len (L : List Nat) : (pL L).length = L.length := by simp [pL]
theorem pL_add (L : List Nat) (p : Nat) : pL L ++ [.int .i64 (p : Int)] = pL (L ++ [p]) := by simp [pL]
theorem pL_app (L M : List Nat) : pL L ++ pL M = pL (L ++ M) := by simp [pL]
theorem pL_one {L : List Nat} : ∀ u ∈ pL L, u.oneCell' = true := by
  intro u hu
  obtain ⟨p, _, rfl⟩ := List.mem_map.1 hu
  simp [Value.oneCell']
/-- A queue: it lies in the block of the numbers or in one of its own. -/
structure QS (w : World) (base bn g o cap : Nat) (Q : List Nat) : Prop where
  cells : ∀ j u, (pL Q)[j]? = some u → w.cell? ⟨g, o + j, none⟩ = some u
  le : Q.length ≤ cap ∧ cap ≤ maxLen
  row : cap = Q.length ∨ ∃ cur, w.heap[g]? = some (.cells cur 3 (0, 0)) ∧ o + cap ≤ cur.size
  blk : (g = bn ∧ cap = Q.length) ∨ base ≤ g
  lt : g < w.heap.size
theorem QS.of_block {w w' : World} {base bn g o cap : Nat} {Q : List Nat} (h : QS w base bn g o cap Q) (e : w'.heap[g]? = w.heap[g]?) (hs : w.heap.size ≤ w'.heap.size) : QS w' base bn g o cap Q :=
  ⟨fun j u hj => (by simp [World.cell?, e] : w'.cell? ⟨g, o + j, none⟩ = w.cell? ⟨g, o + j, none⟩).trans (h.cells j u hj), h.le, by rw [e]; exact h.row, h.blk, Nat.lt_of_lt_of_le h.lt hs⟩
theorem QS.tail {w : World} {base bn g o cap p : Nat} {Q : List Nat} (h : QS w base bn g o (cap + 1) (p :: Q)) : (cap = 0 → QS w base bn g o cap Q) ∧ (cap ≠ 0 → QS w base bn g (o + 1) cap Q) := by
  obtain ⟨h1, h2, h3, h4, h5⟩ := h
  simp only [List.length_cons] at h2 h3
  simp only [List.length_cons] at h4
  refine ⟨fun h0 => ⟨fun j u hj => ?_, ⟨by omega, by omega⟩, ?_, by omega, h5⟩, fun h0 => ⟨fun j u hj => ?_, ⟨by omega, by omega⟩, ?_, by omega, h5⟩⟩
  · obtain rfl : Q = [] := List.eq_nil_of_length_eq_zero (by omega)
    simp [pL] at hj
  · rcases h3 with h3 | ⟨cur, h3, h6⟩
    · exact .inl (by omega)
    · exact .inr ⟨cur, h3, by omega⟩
  · rw [Nat.add_assoc, Nat.add_comm 1 j]
    exact h1 (j + 1) u (by simpa [pL] using hj)
  · rcases h3 with h3 | ⟨cur, h3, h6⟩
    · exact .inl (by omega)
    · exact .inr ⟨cur, h3, by omega⟩
/-- The joined points, in their order. -/
structure JL (n : Nat) (J : Nat → Bool) (L : List Nat) : Prop where
  nd : L.Nodup
  mem : ∀ x, x ∈ L ↔ x < n ∧ J x = true
theorem nodup_len : ∀ (n : Nat) (L : List Nat), L.Nodup → (∀ x ∈ L, x < n) → L.length ≤ n
  | 0, [], _, _ => Nat.le_refl _
  | 0, x :: L, _, h => by have := h x (by simp); omega
  | n + 1, L, hd, h => by
    by_cases hn : n ∈ L
    · have h1 := nodup_len n (L.erase n) (hd.erase n) (fun x hx => by
        have h2 := (List.Nodup.mem_erase_iff hd).1 hx
        have := h x h2.2; omega)
      rw [List.length_erase_of_mem hn] at h1
      have : 0 < L.length := List.length_pos_of_mem hn
      omega
    · have h1 := nodup_len n L hd (fun x hx => by
        have h2 := h x hx
        have : x ≠ n := fun e => hn (e ▸ hx)
        omega)
      omega
theorem JL.len {n : Nat} {J : Nat → Bool} {L : List Nat} (h : JL n J L) : L.length ≤ n := nodup_len n L h.nd fun x hx => ((h.mem x).1 hx).1
theorem JL.add {n p : Nat} {J : Nat → Bool} {L : List Nat} (h : JL n J L) (hp : p < n) (hj : J p = false) : JL n (fun x => J x || decide (x = p)) (L ++ [p]) := by
  have hn : p ∉ L := fun hp => by have := ((h.mem p).1 hp).2; rw [hj] at this; cases this
  refine ⟨?_, fun x => ?_⟩
  · rw [List.nodup_append]
    refine ⟨h.nd, by simp, fun a ha b hb e => ?_⟩
    simp only [List.mem_singleton] at hb
    subst e; subst hb; exact hn ha
  · simp only [List.mem_append, List.mem_singleton, Bool.or_eq_true, decide_eq_true_eq, h.mem]
    constructor
    · rintro (⟨h1, h2⟩ | rfl)
      · exact ⟨h1, .inl h2⟩
      · exact ⟨hp, .inr rfl⟩
    · rintro ⟨h1, h2 | h2⟩
      · exact .inl ⟨h1, h2⟩
      · exact .inr h2
theorem JL.less {n p : Nat} {J : Nat → Bool} {L : List Nat} (h : JL n J L) (hp : p < n) (hj : J p = false) : L.length < n := by
  have := (h.add hp hj).len
  simp at this; omega
/-- The measure of joining falls. -/
theorem jn_less {n l q : Nat} (h : l < n) : (n - (l + 1)) * (n + 1) + (q + n) < (n - l) * (n + 1) + (q + 1) := by
  obtain ⟨d, hd⟩ : ∃ d, n - l = d + 1 := ⟨n - l - 1, by omega⟩
  rw [show n - (l + 1) = d by omega, hd, Nat.succ_mul]
  omega
theorem fld_rise (x y z : Int) (w : World) : (Instr.field 181 (.agg #[.int .i64 x, .int .i64 y, .int .i64 z]) 0).run Try.prog w = .ok (.int .i64 x) w := by
  simp [Instr.field, run_underlying (P := Try.prog) Try.underlying181, part, asAgg]
def lnV : Value → Nat
  | .slice _ n _ => n
  | _ => 0

set_option maxRecDepth 100000 in
set_option maxHeartbeats 4000000 in
theorem joint_any {ub mo be bj n cm c4 K : Nat} {P S : List Int} {e : Nat → Int} {J : Nat → Bool} {sd : Nat → Int → Nat → Bool} {mu : Nat → Int → Nat} (hT : TB n (adjB P S n) sd mu K) (hO : okAll P S n = true) (hn : n ≤ 24) (he : ∀ x, x < n → -(bdE P S n x) ≤ e x ∧ e x ≤ bdE P S n x)
    (v : Nat) (w : World) (hv : v < n) (hX : RX w ub mo be bj n cm c4 P S e J) (hpos : 0 < (riR (meE P S n) e J n K v (-1)).1) :
    Calls Try.prog 147 #[.pointer (some ⟨ub, 0, none⟩), .int .i64 v] w fun en w' => en = .returned (.int .i64 (qtR (riR (meE P S n) e J n K v (-1)))) ∧ Below w.heap.size w w' := by
  have hM := mx_cluster hO hn
  have hbd := rise_bd hO hn
  have h1 := ri_rng hM hT he J hv (.inl rfl) (Nat.le_refl n) (ri_eq hM hT e J hv (.inl rfl)).symm
  have HCL := Lib.hid (rise_any hT hO hn he (K + 1) v (-1) w hv (.inl rfl) (by have := hT.top v (-1) hv; omega) hX)
  obtain ⟨⟨t, b, s⟩, hr⟩ : ∃ r, riR (meE P S n) e J n K v (-1) = r := ⟨_, rfl⟩
  rw [hr] at h1 hpos
  have HR := Lib.hid hr
  have HC2 : Hid (Calls Try.prog 179 #[.pointer (some ⟨ub, 0, none⟩), .int .i64 v, .int .i64 (-1)] w fun en w' => en = .returned (.agg #[.int .i64 t, .int .i64 b, .int .i64 s]) ∧ Below w.heap.size w w') := Lib.hid (by
    have h := HCL.out
    rw [hr] at h; exact h)
  have HQ : Hid (qtR (riR (meE P S n) e J n K v (-1)) = qtI t b) := Lib.hid (by rw [hr]; rfl)
  rw [HQ.out]
  have g1 := hbd.2.2; have g2 := hbd.1
  simp only at h1 hpos
  have ht : 0 < t ∧ t ≤ 2100000000000000000 := by omega
  have hb : 0 < b ∧ b ≤ 282429536481 := by omega
  clear hM hbd h1 HCL hr hT hO he hX g1 g2 hpos
  go_enter Try.func147, Try.ntmps147
  go_wp2_with (first | (go_at_call 179; refine HC2.out.mono ?_; rintro en w1 ⟨rfl, hb1⟩; have HB1 := Lib.hid hb1; clear hb1) | (go_at_call 180; refine (quot_any t b _ (by omega) (by omega) (by omega)).mono ?_; rintro en w2 ⟨rfl, rfl⟩))
  go_ret
  exact ⟨rfl, HB1.out.alloc (by have := HB1.out.size; omega) _⟩

set_option maxRecDepth 100000 in
set_option maxHeartbeats 4000000 in
theorem join_any (lo ub bo bj g0 n mo bn co cm cn K : Nat) (P S : List Int) (O : Nat → Int) (JJ : Nat → Bool) {sd : Nat → Int → Nat → Bool} {mu : Nat → Int → Nat} (w : World) (hU : US w lo ub bo bj g0 n mo bn co cm cn P S O JJ) (hT : TB n (adjB P S n) sd mu K) (hC : ClP P S n) (hcn1 : n ≤ cn)
    (he : ∀ x, x < n → -(bdE P S n x) ≤ exU P S n O x ∧ exU P S n O x ≤ bdE P S n x) :
    Calls Try.prog 145 #[.pointer (some ⟨ub, 0, none⟩)] w fun en w' => ∃ J L A c, en = .returned (.slice A L.length c) ∧ US w' lo ub bo bj g0 n mo bn co cm cn P S O J ∧ Only bj (bj + 1) w w' ∧ JL n J L ∧ w'.ownsRow w.heap.size 3 1 (.slice A L.length c) L.length (pL L) ∧
      (∀ q, q < n → J q = true → 0 < (riR (meE P S n) (exU P S n O) J n K q (-1)).1) ∧ (∀ q, q < n → J q = false → (riR (meE P S n) (exU P S n O) J n K q (-1)).1 ≤ 0) := by
  have hn := hC.hi
  have hn1 := hC.lo
  have hM := mx_cluster hC.ok hn
  have HRI : Hid (∀ p J (V : World) (be c4 : Nat), p < n → RX V ub mo be bj n cm c4 P S (exU P S n O) J → Calls Try.prog 179 #[.pointer (some ⟨ub, 0, none⟩), .int .i64 p, .int .i64 (-1)] V fun en w' => en = .returned (rvR (riR (meE P S n) (exU P S n O) J n K p (-1))) ∧ Below V.heap.size V w') := Lib.hid (fun p J V be c4 hp hx => rise_any hT hC.ok hn he (K + 1) p (-1) V hp (.inl rfl) (by have := hT.top p (-1) hp; omega) hx)
  have HJO : Hid (∀ p J, p < n → J p = false → 0 < (riR (meE P S n) (exU P S n O) J n K p (-1)).1 → (∀ q, q < n → J q = true → 0 < (riR (meE P S n) (exU P S n O) J n K q (-1)).1) → ∀ q, q < n → (J q || decide (q = p)) = true → 0 < (riR (meE P S n) (exU P S n O) (fun x => J x || decide (x = p)) n K q (-1)).1) := Lib.hid (fun p J hp h0 h1 h2 => ri_join hM hT (exU P S n O) hp h0 h1 h2)
  have HU := Lib.hid hU
  obtain ⟨A1, c1, A4, c4, l1, h1, l4, h4, hux, ho1, ho4, hl1, hl4⟩ := hU.dyn
  have u5 := hux.c5; have u6 := hux.c6
  have hu5 := u5
  have hrow := hU.joi
  have hbl := hU.sta.jlo.2
  have HBN : Hid (bn < w.heap.size ∧ bn ≠ bj ∧ bn ≠ ub ∧ ub ≠ bj ∧ ub < w.heap.size) := Lib.hid ⟨hU.sta.bnf.2.1, hU.sta.bnf.2.2.2.2, hU.sta.bnf.2.2.1, hU.sta.d2, hU.sta.ulo.2⟩
  have HNUM := Lib.hid hU.sta.num
  have HBJ := Lib.hid hbl
  have HNP : Hid (∀ j u, (pL (List.range n))[j]? = some u → w.cell? ⟨bn, j, none⟩ = some u) := Lib.hid (fun j u hj => by
    have hjn : j < n := by
      have := (List.getElem?_eq_some_iff.1 hj).1
      rw [pL_len, List.length_range] at this; exact this
    have hu : u = .int .i64 (j : Int) := by
      have : (pL (List.range n))[j]? = some (.int .i64 (j : Int)) := by simp [pL, hjn]
      rw [this] at hj; exact (Option.some.inj hj).symm
    subst hu
    exact HNUM.out j hjn)
  obtain ⟨i0, hi0, hy0, hy1, hy2⟩ := info_parts inti_info
  obtain ⟨i1, hi1, hx0, hx1, hx2⟩ := info_parts bool_info
  clear hU hux ho1 ho4 hl1 hl4 hT hC hM he
  go_enter Try.func145, Try.ntmps145
  go_wp2_with (refine wpList_clear_row rfl (.tmp 9) 145 rfl 4 i1 (.bool false) Try.underlying145 hi1 hx0 rfl rfl bj n n _ rfl hrow hn1 ?_; intro w1 hr1 hk1; have HR1 := Lib.hid hr1; have HK1 := Lib.hid hk1; have u5 := (only_cell hk1 (b := ub) (o := 5) HBN.out.2.2.2.2 (by have := HBN.out; omega)).trans u5; clear hr1 hk1)
  have hc1 : (n : Int) ≤ (cn : Int) := by omega
  refine wp_region_held_drew (S := fun w' => w'.cell? ⟨ub, 5, none⟩ = some (.slice (some ⟨bn, 0, none⟩) n cn)) (by kernel_rfl) (u5) (fun hHeld => ?_)
  refine takeY 0 _ (v := ?_) rfl rfl (by kernel_rfl) (by kernel_rfl) (by kernel_rfl) (fun _ _ _ h => h) (by kernel_rfl) ?_ (by assumption) ?_
  rotate_left 1
  · intro w hSw; (try dsimp only at hSw); go_simp; (try with_reducible rfl)
  try simp only [Act.put, List.setIfInBounds_toArray, List.set_cons_zero, List.set_cons_succ]
  refine takeY 1 _ (v := ?_) rfl rfl (by kernel_rfl) (by kernel_rfl) (by kernel_rfl) (fun _ _ _ h => h) (by kernel_rfl) ?_ (by assumption) ?_
  rotate_left 1
  · intro w hSw; (try dsimp only at hSw); go_simp; (try with_reducible rfl)
  try simp only [Act.put, List.setIfInBounds_toArray, List.set_cons_zero, List.set_cons_succ]
  refine takeY 2 _ (v := ?_) rfl rfl (by kernel_rfl) (by kernel_rfl) (by kernel_rfl) (fun _ _ _ h => h) (by kernel_rfl) ?_ (by assumption) ?_
  rotate_left 1
  · intro w hSw; (try dsimp only at hSw); go_simp; (try with_reducible rfl)
  try simp only [Act.put, List.setIfInBounds_toArray, List.set_cons_zero, List.set_cons_succ]
  refine takeY 3 _ (v := ?_) rfl rfl (by kernel_rfl) (by kernel_rfl) (by kernel_rfl) (fun _ _ _ h => h) (by kernel_rfl) ?_ (by assumption) ?_
  rotate_left 1
  · intro w hSw; (try dsimp only at hSw); go_simp; (try with_reducible rfl)
  try simp only [Act.put, List.setIfInBounds_toArray, List.set_cons_zero, List.set_cons_succ]
  refine takeY 4 _ (v := ?_) rfl rfl (by kernel_rfl) (by kernel_rfl) (by kernel_rfl) (fun _ _ _ h => h) (by kernel_rfl) ?_ (by assumption) ?_
  rotate_left 1
  · intro w hSw; (try dsimp only at hSw); go_simp; (try with_reducible rfl)
  try simp only [Act.put, List.setIfInBounds_toArray, List.set_cons_zero, List.set_cons_succ]
  refine takeY 5 _ (v := ?_) rfl rfl (by kernel_rfl) (by kernel_rfl) (by kernel_rfl) (fun _ _ _ h => h) (by kernel_rfl) ?_ (by assumption) ?_
  rotate_left 1
  · intro w hSw; (try dsimp only at hSw); go_simp; (try with_reducible rfl)
  try simp only [Act.put, List.setIfInBounds_toArray, List.set_cons_zero, List.set_cons_succ]
  refine takeY 6 _ (v := ?_) rfl rfl (by kernel_rfl) (by kernel_rfl) (by kernel_rfl) (fun _ _ _ h => h) (by kernel_rfl) ?_ (by assumption) ?_
  rotate_left 1
  · intro w hSw; (try dsimp only at hSw); go_simp; (try with_reducible rfl)
  try simp only [Act.put, List.setIfInBounds_toArray, List.set_cons_zero, List.set_cons_succ]
  refine takeY 7 _ (v := ?_) rfl rfl (by kernel_rfl) (by kernel_rfl) (by kernel_rfl) (fun _ _ _ h => h) (by kernel_rfl) ?_ (by assumption) ?_
  rotate_left 1
  · intro w hSw; (try dsimp only at hSw); go_simp; (try with_reducible rfl)
  try simp only [Act.put, List.setIfInBounds_toArray, List.set_cons_zero, List.set_cons_succ]
  refine takeY 8 _ (v := ?_) rfl rfl (by kernel_rfl) (by kernel_rfl) (by kernel_rfl) (fun _ _ _ h => h) (by kernel_rfl) ?_ (by assumption) ?_
  rotate_left 1
  · intro w hSw; (try dsimp only at hSw); go_simp; (try with_reducible rfl)
  try simp only [Act.put, List.setIfInBounds_toArray, List.set_cons_zero, List.set_cons_succ]
  refine takeY 9 _ (v := ?_) rfl rfl (by kernel_rfl) (by kernel_rfl) (by kernel_rfl) (fun _ _ _ h => h) (by kernel_rfl) ?_ (by assumption) ?_
  rotate_left 1
  · intro w hSw; (try dsimp only at hSw); go_simp; (try with_reducible rfl)
  try simp only [Act.put, List.setIfInBounds_toArray, List.set_cons_zero, List.set_cons_succ]
  refine takeY 10 _ (v := ?_) rfl rfl (by kernel_rfl) (by kernel_rfl) (by kernel_rfl) (fun _ _ _ h => h) (by kernel_rfl) ?_ (by assumption) ?_
  rotate_left 1
  · intro w hSw; (try dsimp only at hSw); go_simp; (try with_reducible rfl)
  try simp only [Act.put, List.setIfInBounds_toArray, List.set_cons_zero, List.set_cons_succ]
  refine takeY 11 _ (v := ?_) rfl rfl (by kernel_rfl) (by kernel_rfl) (by kernel_rfl) (fun _ _ _ h => h) (by kernel_rfl) ?_ (by assumption) ?_
  rotate_left 1
  · intro w hSw; (try dsimp only at hSw); go_simp; (try with_reducible rfl)
  try simp only [Act.put, List.setIfInBounds_toArray, List.set_cons_zero, List.set_cons_succ]
  refine takeY 12 _ (v := ?_) rfl rfl (by kernel_rfl) (by kernel_rfl) (by kernel_rfl) (fun _ _ _ h => h) (by kernel_rfl) ?_ (by assumption) ?_
  rotate_left 1
  · intro w hSw; (try dsimp only at hSw); go_simp; (try with_reducible rfl)
  try simp only [Act.put, List.setIfInBounds_toArray, List.set_cons_zero, List.set_cons_succ]
  refine takeY 13 _ (v := ?_) rfl rfl (by kernel_rfl) (by kernel_rfl) (by kernel_rfl) (fun _ _ _ h => h) (by kernel_rfl) ?_ (by assumption) ?_
  rotate_left 1
  · intro w hSw; (try dsimp only at hSw); go_simp; (try with_reducible rfl)
  try simp only [Act.put, List.setIfInBounds_toArray, List.set_cons_zero, List.set_cons_succ]
  refine takeY 14 _ (v := ?_) rfl rfl (by kernel_rfl) (by kernel_rfl) (by kernel_rfl) (fun _ _ _ h => h) (by kernel_rfl) ?_ (by assumption) ?_
  rotate_left 1
  · intro w hSw; (try dsimp only at hSw); go_simp; (try with_reducible rfl)
  try simp only [Act.put, List.setIfInBounds_toArray, List.set_cons_zero, List.set_cons_succ]
  refine takeY 15 _ (v := ?_) rfl rfl (by kernel_rfl) (by kernel_rfl) (by kernel_rfl) (fun _ _ _ h => h) (by kernel_rfl) ?_ (by assumption) ?_
  rotate_left 1
  · intro w hSw; (try dsimp only at hSw); go_simp; (try with_reducible rfl)
  try simp only [Act.put, List.setIfInBounds_toArray, List.set_cons_zero, List.set_cons_succ]
  refine wpAnyH_done (by kernel_rfl) ?_ _
  go_wp2_with fail
  go_loopw [3, 4] (fun v3 v4 wr => ∃ (J : Nat → Bool) (L Q : List Nat) (l q g o cap : Nat) (A : Option Addr) (c : Nat), v3 = .slice A l c ∧ v4 = .slice (some ⟨g, o, none⟩) q cap ∧ Hid (L.length = l ∧ Q.length = q ∧ q ≤ n * (l + 1)) ∧ Hid (wr.rowIs bj 4 n (fun x => .bool (J x))) ∧ Hid (Only bj (bj + 1) w wr) ∧ Hid (wr.ownsRow w.heap.size 3 1 (.slice A l c) l (pL L)) ∧ Hid (JL n J L) ∧
    Hid (∀ p, p < n → J p = true → 0 < (riR (meE P S n) (exU P S n O) J n K p (-1)).1) ∧ Hid (∀ p, p < n → J p = true ∨ p ∈ Q ∨ (riR (meE P S n) (exU P S n O) J n K p (-1)).1 ≤ 0) ∧ Hid (QS wr w.heap.size bn g o cap Q) ∧ Hid (∀ p ∈ Q, p < n) ∧ Hid (∀ k, Value.ownBlock (.slice A l c) = some k → k ≠ g)) (fun v3 v4 _ => (n - lnV v3) * (n + 1) + lnV v4)
  case atStart => exact ⟨fun _ => false, [], List.range n, 0, n, bn, 0, n, none, 0, rfl, rfl, Lib.hid ⟨rfl, List.length_range, by omega⟩, HR1, Lib.hid (HK1.out.trans (only_drew _ _ _)), Lib.hid (World.ownsRow_nil _ _ _ _), Lib.hid ⟨List.nodup_nil, by simp⟩, Lib.hid (fun p _ h => by cases h), Lib.hid (fun p hp => .inr (.inl (List.mem_range.2 hp))), Lib.hid ⟨fun j u hj => by
      have hjn : j < n := by
        have := (List.getElem?_eq_some_iff.1 hj).1
        rw [pL_len, List.length_range] at this; exact this
      have hu : u = .int .i64 (j : Int) := by
        have : (pL (List.range n))[j]? = some (.int .i64 (j : Int)) := by simp [pL, hjn]
        rw [this] at hj; exact (Option.some.inj hj).symm
      subst hu
      rw [Nat.zero_add]
      exact (only_cell HK1.out HBN.out.1 (by have := HBN.out; omega)).trans (HNUM.out j hjn), ⟨by rw [List.length_range]; omega, by simp only [maxLen]; omega⟩, .inl (by rw [List.length_range]), .inl ⟨rfl, by rw [List.length_range]⟩, Nat.lt_of_lt_of_le HBN.out.1 HK1.out.size⟩, Lib.hid (fun p hp => List.mem_range.1 hp), Lib.hid (fun k hk => by simp [Value.ownBlock] at hk)⟩
  case round =>
    obtain ⟨J, L, Q, l, q, g, o, cap, A, c, rfl, rfl, HLN, HROW, HON, HOW, HJL, HTP, HAL, HQS, HQN, HSEP⟩ := hrel
    cases Q with
    | nil =>
      obtain rfl : q = 0 := HLN.out.2.1.symm
      go_wp2_with fail
      go_ret
      have hl := HLN.out.1
      subst hl
      exact ⟨J, L, A, c, rfl, HU.out.join HON.out HROW.out, HON.out, HJL.out, HOW.out, HTP.out, fun p hp hj => by
        rcases HAL.out p hp with h | h | h
        · rw [hj] at h; cases h
        · cases h
        · exact h⟩
    | cons p Q =>
      obtain ⟨q, rfl⟩ : ∃ k, q = k + 1 := ⟨Q.length, HLN.out.2.1.symm⟩
      obtain ⟨cap, rfl⟩ : ∃ k, cap = k + 1 := ⟨cap - 1, by have := HQS.out.le.1; simp only [List.length_cons] at this; omega⟩
      have hp : p < n := HQN.out p (by simp)
      have hp2 : (p : Int) < (n : Int) := by omega
      have hq0 : (0 : Int) < (q : Int) + 1 := by omega
      have HQL : Hid (Q.length = q) := Lib.hid (by have := HLN.out.2.1; simp only [List.length_cons] at this; omega)
      have hcq : q ≤ cap := by have := HQS.out.le.1; have := HQL.out; simp only [List.length_cons] at *; omega
      have d0 : wr.cell? ⟨g, o, none⟩ = some (.int .i64 (p : Int)) := HQS.out.cells 0 _ (by simp [pL])
      have u5 := (only_cell HON.out (b := ub) (o := 5) HBN.out.2.2.2.2 (by have := HBN.out; omega)).trans hu5
      have u6w := (only_cell HON.out (b := ub) (o := 6) HBN.out.2.2.2.2 (by have := HBN.out; omega)).trans u6
      have d6 := HROW.out.cell hp
      have f6 := HROW.out.frozen p
      obtain ⟨be, c4x, hrx⟩ := (HU.out.join HON.out HROW.out).rx hn1
      have hcl := HRI.out p J wr be c4x hp hrx
      obtain ⟨jp, hjp⟩ : ∃ j, J p = j := ⟨_, rfl⟩
      have HJP := Lib.hid hjp
      rw [hjp] at d6
      obtain ⟨⟨t, b, s⟩, hr⟩ : ∃ r, riR (meE P S n) (exU P S n O) J n K p (-1) = r := ⟨_, rfl⟩
      have HRR := Lib.hid hr
      rw [hr] at hcl
      have HCL : Hid (Calls Try.prog 179 #[.pointer (some ⟨ub, 0, none⟩), .int .i64 p, .int .i64 (-1)] wr fun en w' => en = .returned (.agg #[.int .i64 t, .int .i64 b, .int .i64 s]) ∧ Below wr.heap.size wr w') := Lib.hid hcl
      have HQT := Lib.hid HQS.out.tail
      clear hr hrx hcl hjp
      by_cases hc0 : cap = 0
      · subst hc0
        obtain rfl : q = 0 := by omega
        have HQS1 : Hid (QS wr w.heap.size bn g o 0 Q) := Lib.hid (HQT.out.1 rfl)
        have HCAP : Hid (0 ≤ 0 ∧ 0 ≤ maxLen) := Lib.hid (by have h9 := HQS1.out.le; rw [HQL.out] at h9; exact h9)
        cases jp with
        | true =>
          go_wp2_with fail
          go_roundw
          case rel => exact ⟨J, L, Q, l, 0, g, o, 0, A, c, rfl, rfl, Lib.hid ⟨HLN.out.1, HQL.out, by have := HLN.out.2.2; omega⟩, HROW, HON, HOW, HJL, HTP, Lib.hid (fun x hx => by rcases HAL.out x hx with h | h | h; exact .inl h; (rcases List.mem_cons.1 h with e | h; (subst e; exact .inl HJP.out); exact .inr (.inl h)); exact .inr (.inr h)), HQS1, Lib.hid (fun x hx => HQN.out x (List.mem_cons_of_mem _ hx)), HSEP⟩
          case measure => exact Nat.lt_succ_self _
        | false =>
          by_cases ht : t ≤ 0
          · go_wp2_with (go_at_call 179; refine HCL.out.mono ?_; rintro en w5 ⟨rfl, hb5⟩; have HB5 := Lib.hid hb5; have hfl := fld_rise t b s w5; have HROW5 : Hid (w5.rowIs bj 4 n (fun x => .bool (J x))) := Lib.hid (HROW.out.of_block (hb5.block bj HROW.out.lt)); have HON5 : Hid (Only bj (bj + 1) w w5) := Lib.hid (HON.out.trans (only_below hb5)); have HOW5 : Hid (w5.ownsRow w.heap.size 3 1 (.slice A l c) l (pL L)) := Lib.hid (World.ownsRow.kept (row := none) HOW.out ⟨hb5.os, hb5.tape, hb5.output, hb5.size, fun b hb _ => hb5.block b hb⟩ (by by_cases h9 : Value.ownBlock (.slice A l c) = none; exact .inl h9; exact .inr h9)); have HQS5 : Hid (QS w5 w.heap.size bn g o 0 Q) := Lib.hid (HQS1.out.of_block (hb5.block g HQS1.out.lt) hb5.size); clear hb5)
            go_roundw
            case rel => exact ⟨J, L, Q, l, 0, g, o, 0, A, c, rfl, rfl, Lib.hid ⟨HLN.out.1, HQL.out, by have := HLN.out.2.2; omega⟩, HROW5, HON5, HOW5, HJL, HTP, Lib.hid (fun x hx => by rcases HAL.out x hx with h | h | h; exact .inl h; (rcases List.mem_cons.1 h with e | h; (subst e; exact .inr (.inr (by rw [HRR.out]; exact ht))); exact .inr (.inl h)); exact .inr (.inr h)), HQS5, Lib.hid (fun x hx => HQN.out x (List.mem_cons_of_mem _ hx)), HSEP⟩
            case measure => exact Nat.lt_succ_self _
          · have hln : l < n := by have h9 := HJL.out.less hp HJP.out; rw [HLN.out.1] at h9; exact h9
            have hqn : 0 + n ≤ 1000 := by
              have h9 := HLN.out.2.2
              have h8 : n * (l + 1) ≤ 24 * 24 := Nat.mul_le_mul hn (by omega)
              omega
            go_wp2_with (first | (go_at_call 179; refine HCL.out.mono ?_; rintro en w5 ⟨rfl, hb5⟩; have HB5 := Lib.hid hb5; have hfl := fld_rise t b s w5; have HROW5 : Hid (w5.rowIs bj 4 n (fun x => .bool (J x))) := Lib.hid (HROW.out.of_block (hb5.block bj HROW.out.lt)); have HON5 : Hid (Only bj (bj + 1) w w5) := Lib.hid (HON.out.trans (only_below hb5)); have HOW5 : Hid (w5.ownsRow w.heap.size 3 1 (.slice A l c) l (pL L)) := Lib.hid (World.ownsRow.kept (row := none) HOW.out ⟨hb5.os, hb5.tape, hb5.output, hb5.size, fun b hb _ => hb5.block b hb⟩ (by by_cases h9 : Value.ownBlock (.slice A l c) = none; exact .inl h9; exact .inr h9)); have HQS5 : Hid (QS w5 w.heap.size bn g o 0 Q) := Lib.hid (HQS1.out.of_block (hb5.block g HQS1.out.lt) hb5.size); have HROW8 : Hid ((w5.setCell ⟨bj, p, none⟩ (.bool true)).rowIs bj 4 n (fun x => .bool (J x || decide (x = p)))) := Lib.hid ((HROW5.out.set p (.bool true)).congr (fun x hx => by by_cases e : x = p; (rw [if_pos e]; simp [e]); (rw [if_neg e]; simp [e]))); have HON8 : Hid (Only bj (bj + 1) w (w5.setCell ⟨bj, p, none⟩ (.bool true))) := Lib.hid (HON5.out.trans (only_setU bj p _)); have HGJ : Hid (g ≠ bj) := Lib.hid (by have := HBN.out; have := HQS1.out.blk; have := HBJ.out; omega); have HOW8 : Hid ((w5.setCell ⟨bj, p, none⟩ (.bool true)).ownsRow w.heap.size 3 1 (.slice A l c) l (pL L)) := Lib.hid (World.ownsRow.kept (row := some bj) HOW5.out ⟨rfl, rfl, rfl, by rw [size_set]; exact Nat.le_refl _, fun b hb hne => Below.heap_setCell _ _ _ _ (fun e9 => hne (congrArg some e9))⟩ (by right; intro e9; have h9 := (World.ownsRow.lt HOW5.out bj e9).1; have := HBJ.out; omega)); have HQS8 : Hid (QS (w5.setCell ⟨bj, p, none⟩ (.bool true)) w.heap.size bn g o 0 Q) := Lib.hid (HQS5.out.of_block (Below.heap_setCell _ _ _ _ HGJ.out) (by rw [size_set]; exact Nat.le_refl _)); have HNEW : Hid (∀ j u, [Value.int .i64 (p : Int)][j]? = some u → ((w5.setCell ⟨bj, p, none⟩ (.bool true)).alloc (.cells #[.int .i64 (p : Int)] 3)).cell? ((⟨w5.heap.size, 0, none⟩ : Addr).add j) = some u) := Lib.hid (by have h := World.news_of_block (cs := #[.int .i64 (p : Int)]) (t := 3) (fr := (0, 0)) (heap_alloc_new (w5.setCell ⟨bj, p, none⟩ (.bool true)) (.cells #[.int .i64 (p : Int)] 3)); rw [size_set] at h; exact h); have hw5 : w.heap.size ≤ w5.heap.size := HON5.out.size; have u5w := (only_cell HON5.out (b := ub) (o := 5) HBN.out.2.2.2.2 (by have := HBN.out; omega)).trans hu5; have u6v := (only_cell HON5.out (b := ub) (o := 6) HBN.out.2.2.2.2 (by have := HBN.out; omega)).trans u6; have d65 := HROW5.out.cell hp; rw [HJP.out] at d65; have f65 := HROW5.out.frozen p; clear hb5) | (at_builtin; refine wpList_append_own_at _ rfl (.tmp 53) (.tmp 55) 142 rfl w.heap.size 3 i0 (.int .i64 0) 1 8 Try.underlying142 hi0 hy0 hy1 hy2 rfl (by decide) (.slice A l c) l (pL L) rfl (World.ownsRow.alloc HOW8.out _) ⟨w5.heap.size, 0, none⟩ 1 1 [.int .i64 (p : Int)] rfl rfl HNEW.out (by simp [Value.oneCell']) (by simp only [maxLen]; omega) (by omega) (by simp; omega) ?_; intro v1 w9 hown9 hgrow9 _ hat9; have hf4 : ∃ A6 c6, v1 = .slice A6 (l + 1) c6 := (by (rcases hown9.2 with ⟨_, h9⟩ | ⟨g, cap, cur, e9, _⟩ <;> first | omega | exact ⟨_, _, e9⟩)); obtain ⟨A6, c6, rfl⟩ := hf4; have hblk : ∀ b, b < (w5.setCell ⟨bj, p, none⟩ (.bool true)).heap.size → Value.ownBlock (.slice A l c) ≠ some b → w9.heap[b]? = (w5.setCell ⟨bj, p, none⟩ (.bool true)).heap[b]? := (fun b hb hne => (hgrow9.block b (by (rw [World.size_alloc]; omega)) (fun e9 => hne e9.symm)).trans (Below.heap_alloc _ _ _ hb)); have hsz9 : (w5.setCell ⟨bj, p, none⟩ (.bool true)).heap.size ≤ w9.heap.size := (by (have h9 := hgrow9.size; rw [World.size_alloc] at h9; omega)); have HON9 : Hid (Only bj (bj + 1) w w9) := Lib.hid ⟨hgrow9.os.trans HON8.out.os, hgrow9.tape.trans HON8.out.tape, hgrow9.output.trans HON8.out.output, Nat.le_trans HON8.out.size hsz9, fun b hb hn => (hblk b (Nat.lt_of_lt_of_le hb HON8.out.size) (fun e9 => (by (have h9 := (World.ownsRow.lt HOW8.out b e9).1; omega)))).trans (HON8.out.block b hb hn)⟩; have HROW9 : Hid (w9.rowIs bj 4 n (fun x => .bool (J x || decide (x = p)))) := Lib.hid (HROW8.out.of_block (hblk bj HROW8.out.lt (fun e9 => (by (have h9 := (World.ownsRow.lt HOW8.out bj e9).1; have := HBJ.out; omega))))); have HQS9 : Hid (QS w9 w.heap.size bn g o 0 Q) := Lib.hid (HQS8.out.of_block (hblk g HQS8.out.lt (fun e9 => HSEP.out g e9 rfl)) hsz9); have HSEP9 : Hid (∀ k, Value.ownBlock (.slice A6 (l + 1) c6) = some k → k ≠ g) := Lib.hid (fun k hk => by (rcases hat9 with e9 | e9; (rw [e9] at hk; exact HSEP.out k hk); (rw [e9, World.size_alloc] at hk; have h9 := HQS8.out.lt; have h8 := Option.some.inj hk; omega))); have HOW9 : Hid (w9.ownsRow w.heap.size 3 1 (.slice A6 (l + 1) c6) (l + 1) (pL (L ++ [p]))) := Lib.hid (by rw [← pL_add]; exact hown9); have u59 := (only_cell HON9.out (b := ub) (o := 5) HBN.out.2.2.2.2 (by have := HBN.out; omega)).trans hu5; have HNM9 : Hid (∀ j u, (pL (List.range n))[j]? = some u → w9.cell? ((⟨bn, 0, none⟩ : Addr).add j) = some u) := Lib.hid (fun j u hj => by (rw [Addr.add_lit, Nat.zero_add]; exact (only_cell HON9.out HBN.out.1 (by have := HBN.out; omega)).trans (HNP.out j u hj))); have HRO9 := Lib.hid HQS9.out.row; rw [HQL.out] at HRO9; clear hown9 hgrow9 hat9 hblk hsz9) | (at_builtin; go_loud (refine wpList_append_q rfl (.tmp 57) (.tmp 61) 142 rfl 3 i0 (.int .i64 0) Try.underlying142 hi0 hy0 hy1 hy2 rfl g o 0 0 (pL Q) rfl ((pL_len Q).trans HQL.out) HQS9.out.cells HCAP.out HRO9.out ⟨bn, 0, none⟩ n cn (pL (List.range n)) rfl hn1 ((pL_len _).trans List.length_range) HNM9.out pL_one (by omega) ?_); intro g2 o2 cap2 w10 hq10))
            go_roundw
            case rel =>
              have hat := hq10.at_
              have hblk9 := HQS9.out.blk
              rw [HQL.out] at hblk9
              have hbn := HBN.out; have hbj := HBJ.out
              have hkeep : ∀ b, b < w9.heap.size → b ≠ g ∨ b < w.heap.size → w10.heap[b]? = w9.heap[b]? := fun b hb hn => by
                rcases hat with ⟨e, hg⟩ | ⟨hc, e, hg⟩
                · exact hg.block b hb (fun e => by cases e)
                · exact hg.block b hb (fun e9 => by have h9 := Option.some.inj e9; omega)
              have hmet : w10.os = w9.os ∧ w10.tape = w9.tape ∧ w10.output = w9.output ∧ w9.heap.size ≤ w10.heap.size := by
                rcases hat with ⟨e, hg⟩ | ⟨hc, e, hg⟩
                · exact ⟨hg.os, hg.tape, hg.output, hg.size⟩
                · exact ⟨hg.os, hg.tape, hg.output, hg.size⟩
              have hs9 := HON9.out.size
              have HON10 : Hid (Only bj (bj + 1) w w10) := Lib.hid ⟨hmet.1.trans HON9.out.os, hmet.2.1.trans HON9.out.tape, hmet.2.2.1.trans HON9.out.output, Nat.le_trans hs9 hmet.2.2.2, fun b hb hn => (hkeep b (by omega) (.inr hb)).trans (HON9.out.block b hb hn)⟩
              have HROW10 := Lib.hid (HROW9.out.of_block (hkeep bj (by omega) (.inr hbj)))
              have HOW10 : Hid (w10.ownsRow w.heap.size 3 1 (.slice A6 (l + 1) c6) (l + 1) (pL (L ++ [p]))) := Lib.hid (by
                rcases hat with ⟨e, hg⟩ | ⟨hc, e, hg⟩
                · exact World.ownsRow.kept HOW9.out hg (by by_cases h9 : Value.ownBlock (.slice A6 (l + 1) c6) = none; exact .inl h9; exact .inr h9)
                · exact World.ownsRow.kept HOW9.out hg (.inr (fun e9 => HSEP9.out g e9 rfl)))
              have HSEP10 : Hid (∀ k, Value.ownBlock (.slice A6 (l + 1) c6) = some k → k ≠ g2) := Lib.hid (fun k hk => by
                rcases hat with ⟨e, hg⟩ | ⟨hc, e, hg⟩
                · have h9 := (World.ownsRow.lt HOW9.out k hk).2; omega
                · rw [e]; exact HSEP9.out k hk)
              have HQS10 : Hid (QS w10 w.heap.size bn g2 o2 cap2 (Q ++ List.range n)) := Lib.hid ⟨fun j u hj => hq10.cells j u (by rw [pL_app]; exact hj), ⟨by have h9 := HQL.out; have h8 := hq10.le.1; simp only [List.length_append, List.length_range]; omega, hq10.le.2⟩, .inr hq10.row, .inr (by rcases hat with ⟨e, hg⟩ | ⟨hc, e, hg⟩ <;> omega), by
                obtain ⟨cur, hc, _⟩ := hq10.row
                exact (Array.getElem?_eq_some_iff.1 hc).1⟩
              exact ⟨fun x => J x || decide (x = p), L ++ [p], Q ++ List.range n, l + 1, n, g2, o2, cap2, A6, c6, rfl, rfl, Lib.hid ⟨by rw [List.length_append, HLN.out.1]; rfl, by have h9 := HQL.out; simp only [List.length_append, List.length_range]; omega, by have := HLN.out.2.2; rw [Nat.mul_succ]; omega⟩, HROW10, HON10, HOW10, Lib.hid (HJL.out.add hp HJP.out), Lib.hid (HJO.out p J hp HJP.out (by rw [HRR.out]; show 0 < t; omega) HTP.out), Lib.hid (fun x hx => .inr (.inl (List.mem_append_right _ (List.mem_range.2 hx)))), HQS10, Lib.hid (fun x hx => by
                rcases List.mem_append.1 hx with h | h
                · exact HQN.out x (List.mem_cons_of_mem _ h)
                · exact List.mem_range.1 h), HSEP10⟩
            case measure =>
              have h9 := jn_less (q := 0) hln
              rw [Nat.zero_add] at h9
              exact h9
      · obtain ⟨cap, rfl⟩ : ∃ k, cap = k + 1 := ⟨cap - 1, by omega⟩
        have HQS1 : Hid (QS wr w.heap.size bn g (o + 1) (cap + 1) Q) := Lib.hid (HQT.out.2 (by omega))
        have HCAP : Hid (q ≤ (cap + 1) ∧ (cap + 1) ≤ maxLen) := Lib.hid (by have h9 := HQS1.out.le; rw [HQL.out] at h9; exact h9)
        cases jp with
        | true =>
          go_wp2_with fail
          go_roundw
          case rel => exact ⟨J, L, Q, l, q, g, (o + 1), (cap + 1), A, c, rfl, rfl, Lib.hid ⟨HLN.out.1, HQL.out, by have := HLN.out.2.2; omega⟩, HROW, HON, HOW, HJL, HTP, Lib.hid (fun x hx => by rcases HAL.out x hx with h | h | h; exact .inl h; (rcases List.mem_cons.1 h with e | h; (subst e; exact .inl HJP.out); exact .inr (.inl h)); exact .inr (.inr h)), HQS1, Lib.hid (fun x hx => HQN.out x (List.mem_cons_of_mem _ hx)), HSEP⟩
          case measure => exact Nat.lt_succ_self _
        | false =>
          by_cases ht : t ≤ 0
          · go_wp2_with (go_at_call 179; refine HCL.out.mono ?_; rintro en w5 ⟨rfl, hb5⟩; have HB5 := Lib.hid hb5; have hfl := fld_rise t b s w5; have HROW5 : Hid (w5.rowIs bj 4 n (fun x => .bool (J x))) := Lib.hid (HROW.out.of_block (hb5.block bj HROW.out.lt)); have HON5 : Hid (Only bj (bj + 1) w w5) := Lib.hid (HON.out.trans (only_below hb5)); have HOW5 : Hid (w5.ownsRow w.heap.size 3 1 (.slice A l c) l (pL L)) := Lib.hid (World.ownsRow.kept (row := none) HOW.out ⟨hb5.os, hb5.tape, hb5.output, hb5.size, fun b hb _ => hb5.block b hb⟩ (by by_cases h9 : Value.ownBlock (.slice A l c) = none; exact .inl h9; exact .inr h9)); have HQS5 : Hid (QS w5 w.heap.size bn g (o + 1) (cap + 1) Q) := Lib.hid (HQS1.out.of_block (hb5.block g HQS1.out.lt) hb5.size); clear hb5)
            go_roundw
            case rel => exact ⟨J, L, Q, l, q, g, (o + 1), (cap + 1), A, c, rfl, rfl, Lib.hid ⟨HLN.out.1, HQL.out, by have := HLN.out.2.2; omega⟩, HROW5, HON5, HOW5, HJL, HTP, Lib.hid (fun x hx => by rcases HAL.out x hx with h | h | h; exact .inl h; (rcases List.mem_cons.1 h with e | h; (subst e; exact .inr (.inr (by rw [HRR.out]; exact ht))); exact .inr (.inl h)); exact .inr (.inr h)), HQS5, Lib.hid (fun x hx => HQN.out x (List.mem_cons_of_mem _ hx)), HSEP⟩
            case measure => exact Nat.lt_succ_self _
          · have hln : l < n := by have h9 := HJL.out.less hp HJP.out; rw [HLN.out.1] at h9; exact h9
            have hqn : q + n ≤ 1000 := by
              have h9 := HLN.out.2.2
              have h8 : n * (l + 1) ≤ 24 * 24 := Nat.mul_le_mul hn (by omega)
              omega
            go_wp2_with (first | (go_at_call 179; refine HCL.out.mono ?_; rintro en w5 ⟨rfl, hb5⟩; have HB5 := Lib.hid hb5; have hfl := fld_rise t b s w5; have HROW5 : Hid (w5.rowIs bj 4 n (fun x => .bool (J x))) := Lib.hid (HROW.out.of_block (hb5.block bj HROW.out.lt)); have HON5 : Hid (Only bj (bj + 1) w w5) := Lib.hid (HON.out.trans (only_below hb5)); have HOW5 : Hid (w5.ownsRow w.heap.size 3 1 (.slice A l c) l (pL L)) := Lib.hid (World.ownsRow.kept (row := none) HOW.out ⟨hb5.os, hb5.tape, hb5.output, hb5.size, fun b hb _ => hb5.block b hb⟩ (by by_cases h9 : Value.ownBlock (.slice A l c) = none; exact .inl h9; exact .inr h9)); have HQS5 : Hid (QS w5 w.heap.size bn g (o + 1) (cap + 1) Q) := Lib.hid (HQS1.out.of_block (hb5.block g HQS1.out.lt) hb5.size); have HROW8 : Hid ((w5.setCell ⟨bj, p, none⟩ (.bool true)).rowIs bj 4 n (fun x => .bool (J x || decide (x = p)))) := Lib.hid ((HROW5.out.set p (.bool true)).congr (fun x hx => by by_cases e : x = p; (rw [if_pos e]; simp [e]); (rw [if_neg e]; simp [e]))); have HON8 : Hid (Only bj (bj + 1) w (w5.setCell ⟨bj, p, none⟩ (.bool true))) := Lib.hid (HON5.out.trans (only_setU bj p _)); have HGJ : Hid (g ≠ bj) := Lib.hid (by have := HBN.out; have := HQS1.out.blk; have := HBJ.out; omega); have HOW8 : Hid ((w5.setCell ⟨bj, p, none⟩ (.bool true)).ownsRow w.heap.size 3 1 (.slice A l c) l (pL L)) := Lib.hid (World.ownsRow.kept (row := some bj) HOW5.out ⟨rfl, rfl, rfl, by rw [size_set]; exact Nat.le_refl _, fun b hb hne => Below.heap_setCell _ _ _ _ (fun e9 => hne (congrArg some e9))⟩ (by right; intro e9; have h9 := (World.ownsRow.lt HOW5.out bj e9).1; have := HBJ.out; omega)); have HQS8 : Hid (QS (w5.setCell ⟨bj, p, none⟩ (.bool true)) w.heap.size bn g (o + 1) (cap + 1) Q) := Lib.hid (HQS5.out.of_block (Below.heap_setCell _ _ _ _ HGJ.out) (by rw [size_set]; exact Nat.le_refl _)); have HNEW : Hid (∀ j u, [Value.int .i64 (p : Int)][j]? = some u → ((w5.setCell ⟨bj, p, none⟩ (.bool true)).alloc (.cells #[.int .i64 (p : Int)] 3)).cell? ((⟨w5.heap.size, 0, none⟩ : Addr).add j) = some u) := Lib.hid (by have h := World.news_of_block (cs := #[.int .i64 (p : Int)]) (t := 3) (fr := (0, 0)) (heap_alloc_new (w5.setCell ⟨bj, p, none⟩ (.bool true)) (.cells #[.int .i64 (p : Int)] 3)); rw [size_set] at h; exact h); have hw5 : w.heap.size ≤ w5.heap.size := HON5.out.size; have u5w := (only_cell HON5.out (b := ub) (o := 5) HBN.out.2.2.2.2 (by have := HBN.out; omega)).trans hu5; have u6v := (only_cell HON5.out (b := ub) (o := 6) HBN.out.2.2.2.2 (by have := HBN.out; omega)).trans u6; have d65 := HROW5.out.cell hp; rw [HJP.out] at d65; have f65 := HROW5.out.frozen p; clear hb5) | (at_builtin; refine wpList_append_own_at _ rfl (.tmp 53) (.tmp 55) 142 rfl w.heap.size 3 i0 (.int .i64 0) 1 8 Try.underlying142 hi0 hy0 hy1 hy2 rfl (by decide) (.slice A l c) l (pL L) rfl (World.ownsRow.alloc HOW8.out _) ⟨w5.heap.size, 0, none⟩ 1 1 [.int .i64 (p : Int)] rfl rfl HNEW.out (by simp [Value.oneCell']) (by simp only [maxLen]; omega) (by omega) (by simp; omega) ?_; intro v1 w9 hown9 hgrow9 _ hat9; have hf4 : ∃ A6 c6, v1 = .slice A6 (l + 1) c6 := (by (rcases hown9.2 with ⟨_, h9⟩ | ⟨g, cap, cur, e9, _⟩ <;> first | omega | exact ⟨_, _, e9⟩)); obtain ⟨A6, c6, rfl⟩ := hf4; have hblk : ∀ b, b < (w5.setCell ⟨bj, p, none⟩ (.bool true)).heap.size → Value.ownBlock (.slice A l c) ≠ some b → w9.heap[b]? = (w5.setCell ⟨bj, p, none⟩ (.bool true)).heap[b]? := (fun b hb hne => (hgrow9.block b (by (rw [World.size_alloc]; omega)) (fun e9 => hne e9.symm)).trans (Below.heap_alloc _ _ _ hb)); have hsz9 : (w5.setCell ⟨bj, p, none⟩ (.bool true)).heap.size ≤ w9.heap.size := (by (have h9 := hgrow9.size; rw [World.size_alloc] at h9; omega)); have HON9 : Hid (Only bj (bj + 1) w w9) := Lib.hid ⟨hgrow9.os.trans HON8.out.os, hgrow9.tape.trans HON8.out.tape, hgrow9.output.trans HON8.out.output, Nat.le_trans HON8.out.size hsz9, fun b hb hn => (hblk b (Nat.lt_of_lt_of_le hb HON8.out.size) (fun e9 => (by (have h9 := (World.ownsRow.lt HOW8.out b e9).1; omega)))).trans (HON8.out.block b hb hn)⟩; have HROW9 : Hid (w9.rowIs bj 4 n (fun x => .bool (J x || decide (x = p)))) := Lib.hid (HROW8.out.of_block (hblk bj HROW8.out.lt (fun e9 => (by (have h9 := (World.ownsRow.lt HOW8.out bj e9).1; have := HBJ.out; omega))))); have HQS9 : Hid (QS w9 w.heap.size bn g (o + 1) (cap + 1) Q) := Lib.hid (HQS8.out.of_block (hblk g HQS8.out.lt (fun e9 => HSEP.out g e9 rfl)) hsz9); have HSEP9 : Hid (∀ k, Value.ownBlock (.slice A6 (l + 1) c6) = some k → k ≠ g) := Lib.hid (fun k hk => by (rcases hat9 with e9 | e9; (rw [e9] at hk; exact HSEP.out k hk); (rw [e9, World.size_alloc] at hk; have h9 := HQS8.out.lt; have h8 := Option.some.inj hk; omega))); have HOW9 : Hid (w9.ownsRow w.heap.size 3 1 (.slice A6 (l + 1) c6) (l + 1) (pL (L ++ [p]))) := Lib.hid (by rw [← pL_add]; exact hown9); have u59 := (only_cell HON9.out (b := ub) (o := 5) HBN.out.2.2.2.2 (by have := HBN.out; omega)).trans hu5; have HNM9 : Hid (∀ j u, (pL (List.range n))[j]? = some u → w9.cell? ((⟨bn, 0, none⟩ : Addr).add j) = some u) := Lib.hid (fun j u hj => by (rw [Addr.add_lit, Nat.zero_add]; exact (only_cell HON9.out HBN.out.1 (by have := HBN.out; omega)).trans (HNP.out j u hj))); have HRO9 := Lib.hid HQS9.out.row; rw [HQL.out] at HRO9; clear hown9 hgrow9 hat9 hblk hsz9) | (at_builtin; go_loud (refine wpList_append_q rfl (.tmp 57) (.tmp 61) 142 rfl 3 i0 (.int .i64 0) Try.underlying142 hi0 hy0 hy1 hy2 rfl g (o + 1) q (cap + 1) (pL Q) rfl ((pL_len Q).trans HQL.out) HQS9.out.cells HCAP.out HRO9.out ⟨bn, 0, none⟩ n cn (pL (List.range n)) rfl hn1 ((pL_len _).trans List.length_range) HNM9.out pL_one (by omega) ?_); intro g2 o2 cap2 w10 hq10))
            go_roundw
            case rel =>
              have hat := hq10.at_
              have hblk9 := HQS9.out.blk
              rw [HQL.out] at hblk9
              have hbn := HBN.out; have hbj := HBJ.out
              have hkeep : ∀ b, b < w9.heap.size → b ≠ g ∨ b < w.heap.size → w10.heap[b]? = w9.heap[b]? := fun b hb hn => by
                rcases hat with ⟨e, hg⟩ | ⟨hc, e, hg⟩
                · exact hg.block b hb (fun e => by cases e)
                · exact hg.block b hb (fun e9 => by have h9 := Option.some.inj e9; omega)
              have hmet : w10.os = w9.os ∧ w10.tape = w9.tape ∧ w10.output = w9.output ∧ w9.heap.size ≤ w10.heap.size := by
                rcases hat with ⟨e, hg⟩ | ⟨hc, e, hg⟩
                · exact ⟨hg.os, hg.tape, hg.output, hg.size⟩
                · exact ⟨hg.os, hg.tape, hg.output, hg.size⟩
              have hs9 := HON9.out.size
              have HON10 : Hid (Only bj (bj + 1) w w10) := Lib.hid ⟨hmet.1.trans HON9.out.os, hmet.2.1.trans HON9.out.tape, hmet.2.2.1.trans HON9.out.output, Nat.le_trans hs9 hmet.2.2.2, fun b hb hn => (hkeep b (by omega) (.inr hb)).trans (HON9.out.block b hb hn)⟩
              have HROW10 := Lib.hid (HROW9.out.of_block (hkeep bj (by omega) (.inr hbj)))
              have HOW10 : Hid (w10.ownsRow w.heap.size 3 1 (.slice A6 (l + 1) c6) (l + 1) (pL (L ++ [p]))) := Lib.hid (by
                rcases hat with ⟨e, hg⟩ | ⟨hc, e, hg⟩
                · exact World.ownsRow.kept HOW9.out hg (by by_cases h9 : Value.ownBlock (.slice A6 (l + 1) c6) = none; exact .inl h9; exact .inr h9)
                · exact World.ownsRow.kept HOW9.out hg (.inr (fun e9 => HSEP9.out g e9 rfl)))
              have HSEP10 : Hid (∀ k, Value.ownBlock (.slice A6 (l + 1) c6) = some k → k ≠ g2) := Lib.hid (fun k hk => by
                rcases hat with ⟨e, hg⟩ | ⟨hc, e, hg⟩
                · have h9 := (World.ownsRow.lt HOW9.out k hk).2; omega
                · rw [e]; exact HSEP9.out k hk)
              have HQS10 : Hid (QS w10 w.heap.size bn g2 o2 cap2 (Q ++ List.range n)) := Lib.hid ⟨fun j u hj => hq10.cells j u (by rw [pL_app]; exact hj), ⟨by have h9 := HQL.out; have h8 := hq10.le.1; simp only [List.length_append, List.length_range]; omega, hq10.le.2⟩, .inr hq10.row, .inr (by rcases hat with ⟨e, hg⟩ | ⟨hc, e, hg⟩ <;> omega), by
                obtain ⟨cur, hc, _⟩ := hq10.row
                exact (Array.getElem?_eq_some_iff.1 hc).1⟩
              exact ⟨fun x => J x || decide (x = p), L ++ [p], Q ++ List.range n, l + 1, q + n, g2, o2, cap2, A6, c6, rfl, rfl, Lib.hid ⟨by rw [List.length_append, HLN.out.1]; rfl, by have h9 := HQL.out; simp only [List.length_append, List.length_range]; omega, by have := HLN.out.2.2; rw [Nat.mul_succ]; omega⟩, HROW10, HON10, HOW10, Lib.hid (HJL.out.add hp HJP.out), Lib.hid (HJO.out p J hp HJP.out (by rw [HRR.out]; show 0 < t; omega) HTP.out), Lib.hid (fun x hx => .inr (.inl (List.mem_append_right _ (List.mem_range.2 hx)))), HQS10, Lib.hid (fun x hx => by
                rcases List.mem_append.1 hx with h | h
                · exact HQN.out x (List.mem_cons_of_mem _ h)
                · exact List.mem_range.1 h), HSEP10⟩
            case measure =>
              have h9 := jn_less (q := q) hln
              exact h9
end Go.Proofs.Ytohbgfmjnanlkaa
