/- The runs of a branch, the model's: contract. Conditions: stated at each theorem. -/
import Derived.Test.YtncgkoanckefmaaSqM
import Derived.Test.YtncgkoanckefmaaBrV
import Derived.Maps.AppendAt
import Derived.Deep.AppendLies
namespace Go.Proofs.Ytncgkoanckefmaa
open Go.ChangeShapes Go.WideShapes Go.ChangeAt Go.RowKit
set_option linter.unusedVariables false
set_option linter.unusedSimpArgs false

theorem own_lessR {w : World} {lo lo' n : Nat} {v : Value} {xs : List Value} {t : TypeId} (h : w.ownsRow lo t 1 v n xs) (hl : lo' ≤ lo) : w.ownsRow lo' t 1 v n xs := by
  refine ⟨h.1, ?_⟩
  rcases h.2 with hn | ⟨g, cap, cur, e, hb, rest⟩
  · exact .inl hn
  · exact .inr ⟨g, cap, cur, e, by omega, rest⟩
/-- A list of slices behind an append of another one. -/
theorem OwnSS.join {w w1 : World} {base base2 n m c c2 : Nat} {A A2 : Option Addr} {vf vf2 : Nat → Value} {xf xf2 : Nat → List Value} (h : OwnSS w base A n c vf two xf) (h2 : OwnSS w base2 A2 m c2 vf2 two xf2)
    (hb : base ≤ base2) (hlt : ∀ i, i < n → ∀ k, (vf i).ownBlock = some k → k < base2) {A1 : Option Addr} {c1 : Nat}
    (h1 : w1.ownsRow base 22 1 (.slice A1 (n + m) c1) (n + m) ((List.range n).map vf ++ (List.range m).map vf2)) (hg : w.grownBy w1 (Value.slice A n c).ownBlock) :
    OwnSS w1 base A1 (n + m) c1 (fun i => if i < n then vf i else vf2 (i - n)) two (fun i => if i < n then xf i else xf2 (i - n)) := by
  have hold : ∀ i, i < n → Own w1 base (vf i) 2 (xf i) := fun i hi => (h.inner i hi).kept hg (block_type (h.inner i hi) h.outer (by decide))
  have hnew : ∀ i, i < m → Own w1 base (vf2 i) 2 (xf2 i) := fun i hi => Own.kept (own_lessR (h2.inner i hi) hb) hg (block_type (h2.inner i hi) h.outer (by decide))
  have hge : ∀ i, i < m → ∀ k, (vf2 i).ownBlock = some k → base2 ≤ k := fun i hi k hk => ((h2.inner i hi).lt k hk).1
  refine ⟨?_, ?_, ?_, ?_⟩
  · have e : (List.range (n + m)).map (fun i => if i < n then vf i else vf2 (i - n)) = (List.range n).map vf ++ (List.range m).map vf2 := by
      rw [List.range_add, List.map_append, List.map_map]
      congr 1
      · apply List.map_congr_left
        intro i hi
        have : i < n := by simpa using hi
        rw [if_pos this]
      · apply List.map_congr_left
        intro i hi
        show (if n + i < n then vf (n + i) else vf2 (n + i - n)) = vf2 i
        rw [if_neg (by omega), Nat.add_sub_cancel_left]
    rw [e]; exact h1
  · intro i hi
    by_cases e : i < n
    · simp only [if_pos e]; exact h.form i e
    · simp only [if_neg e]; exact h2.form (i - n) (by omega)
  · intro i hi
    by_cases e : i < n
    · simp only [if_pos e]; exact hold i e
    · simp only [if_neg e]; exact hnew (i - n) (by omega)
  · intro i j hi hj hij
    by_cases e : i < n
    · by_cases e2 : j < n
      · simp only [if_pos e, if_pos e2]; exact h.apart i j e e2 hij
      · simp only [if_pos e, if_neg e2]
        cases ek : (vf i).ownBlock with
        | none => exact .inl rfl
        | some k =>
          refine .inr fun e' => ?_
          have h3 := hlt i e k ek
          have h4 := hge (j - n) (by omega) k e'.symm
          omega
    · by_cases e2 : j < n
      · simp only [if_neg e, if_pos e2]
        cases ek : (vf2 (i - n)).ownBlock with
        | none => exact .inl rfl
        | some k =>
          refine .inr fun e' => ?_
          have h3 := hlt j e2 k e'.symm
          have h4 := hge (i - n) (by omega) k ek
          omega
      · simp only [if_neg e, if_neg e2]; exact h2.apart (i - n) (j - n) (by omega) (by omega) (by omega)
theorem stF_join (L M : List (Int × Int)) {n : Nat} (hl : L.length = n) : (fun i => (stF (L ++ M) i).map (Value.int .i64)) = fun i => if i < n then (stF L i).map (.int .i64) else (stF M (i - n)).map (.int .i64) := by
  subst hl
  funext i
  by_cases e : i < L.length
  · rw [if_pos e]; simp only [stF, List.getElem?_append_left e]
  · rw [if_neg e]; simp only [stF, List.getElem?_append_right (show L.length ≤ i by omega)]
theorem rnL_atR {zs : List Int} {n k : Nat} (p e : Int) (hl : zs.length = n) (h : k < n) : rnL p e (zs.drop k) = steps (zs[k]?.getD 0 - p) e ++ rnL (zs[k]?.getD 0) (Int.gcd e (zs[k]?.getD 0) : Int) (zs.drop (k + 1)) := by
  rw [drop_at hl h]; rfl
theorem steps_pos {a b : Int} (hb : 1 ≤ b) : 0 < (steps a b).length := by
  unfold steps; unfold stL
  rw [if_neg (by omega)]; simp
theorem below_to {w W0 w1 w' : World} (h0 : Below w.heap.size w W0) (h1 : Below W0.heap.size W0 w1) (h2 : Below w1.heap.size w1 w') : Below w.heap.size w w' :=
  (h0.trans (h1.mono h0.size)).trans (h2.mono (Nat.le_trans h0.size h1.size))

set_option maxRecDepth 100000 in
set_option maxHeartbeats 2000000 in
theorem l04Runs_any (v : Value) (zs : List Int) (w : World) (h : ReadI w w.heap.size v zs) (hn : zs.length ≤ 1048576) (hp : brB zs = true) :
    Calls Try.prog 107 #[.agg #[v]] w (StepsPost w (rsS zs)) := by
  have hrd := h
  obtain ⟨n, A, c, rfl, hr, HL, _, hnc, HF, hcm⟩ := h.split2
  have hn0 : 0 < n := by have := brB_pos hp; rw [HL.out] at this; exact this
  obtain ⟨a, rfl, hlt, _⟩ := hr.2 0 hn0
  obtain ⟨g, o, rfl⟩ := HF.out a rfl
  have hglt : g < w.heap.size := hlt
  have HC : Hid (∀ k, k < n → w.cell? ⟨g, o + k, none⟩ = some (.int .i64 (zs[k]?.getD 0))) := Lib.hid fun k hk => by
    obtain ⟨a', e3, _, hck⟩ := hr.2 k hk
    cases e3
    rw [add_lit] at hck
    simpa using hck
  obtain ⟨W0, HE⟩ : ∃ W, W = w.alloc (.cells #[.slice (some ⟨g, o, none⟩) n c] 28) := ⟨_, rfl⟩
  have hb0 : Below w.heap.size w W0 := by rw [HE]; exact below_box _ _
  have hq0 : BoxI W0 w.heap.size (.slice (some ⟨g, o, none⟩) n c) := by rw [HE]; exact BoxI.new _ _ _
  have H0 := Lib.hid ((hrd.below hb0).more hb0.size)
  have HEQ := Lib.hid HE
  have hsz0 : w.heap.size < W0.heap.size := hq0.2
  have HLN : Hid ((rsS zs).length ≤ 130000) := Lib.hid (rsS_ok hp).2
  have hr0 : Hid (rsS zs = [] ++ rnL 0 ((dvL 0 zs)[0]?.getD 0) (zs.drop 1)) := Lib.hid (by
    obtain ⟨n', r, e, h3, _⟩ := br_cons hp
    subst e
    rw [dvL_first h3.1]; rfl)
  have he0 : Hid ((1 : Int) ≤ (dvL 0 zs)[0]?.getD 0 ∧ (dvL 0 zs)[0]?.getD 0 ≤ 64) := Lib.hid (by
    obtain ⟨n', r, e, h3, _⟩ := br_cons hp
    subst e
    rw [dvL_first h3.1]; exact h3)
  have ha0 : Hid (ascB 0 (zs.drop 1) = true) := Lib.hid (by
    obtain ⟨n', r, e, h3, h4, _⟩ := br_cons hp
    subst e; exact h4)
  have HNN := Lib.hid hn
  have HP := Lib.hid hp
  clear h hrd hr HE HF hlt hn hp
  go_enter Try.func107, Try.ntmps107
  go_wp2_with fail
  rw [← HEQ.out]
  refine (l03Divisors_any _ zs _ H0.out HNN.out HP.out).mono ?_
  rintro e w1 ⟨v1, rfl, ho1, hb1⟩
  obtain ⟨A1, c1, rfl⟩ := own_form ho1.1
  have hdl : (dvL 0 zs).length = n := by rw [dvL_len, HL.out]
  obtain ⟨g1, eA, _, _, _, _⟩ := own_at (by have := ho1; rw [hdl] at this; exact this) hdl hn0
  subst eA
  have HD : Hid (∀ k, k < n → w1.cell? ⟨g1, k, none⟩ = some (.int .i64 ((dvL 0 zs)[k]?.getD 0))) := Lib.hid fun k hk => by
    obtain ⟨g', e1, _, _, h5, _⟩ := own_at (by have := ho1; rw [hdl] at this; exact this) hdl hk
    cases e1; exact h5
  have hg1 : g1 < w1.heap.size := by
    obtain ⟨g', e1, _, h5, _, _⟩ := own_at (by have := ho1; rw [hdl] at this; exact this) hdl hn0
    cases e1; exact h5
  rw [hdl]
  have hs1 := hb1.size
  have HC1 : Hid (∀ k, k < n → w1.cell? ⟨g, o + k, none⟩ = some (.int .i64 (zs[k]?.getD 0))) := Lib.hid fun k hk => by
    rw [hb1.cell (p := ⟨g, o + k, none⟩) (show g < W0.heap.size by omega), hb0.cell (p := ⟨g, o + k, none⟩) hglt]; exact HC.out k hk
  have hcb1 : w1.cell? ⟨w.heap.size, 0, none⟩ = some (.slice (some ⟨g, o, none⟩) n c) := by rw [hb1.cell (p := ⟨w.heap.size, 0, none⟩) hq0.2]; exact hq0.1
  have HB0 := Lib.hid hb0
  have HB1 := Lib.hid hb1
  clear ho1 hb0 hq0 HC H0 hb1
  have HO : Hid (OwnSS (w1.alloc (.cells #[] 22)) w1.heap.size (some ⟨w1.heap.size, 0, none⟩) 0 0 (fun _ => .slice none 0 0) two fun i => (stF [] i).map (.int .i64)) := Lib.hid ⟨World.ownsRow_lit w1 #[] 0 (Nat.le_refl _) (by simp [maxLen]) rfl, fun i h => by omega, fun i h => by omega, fun i j h => by omega⟩
  have hB2 : Hid (Below w1.heap.size w1 (w1.alloc (.cells #[] 22))) := Lib.hid ((Below.refl _ _).alloc (Nat.le_refl _) _)
  go_wp2_with fail
  go_loopw [4, 5] (fun vo vi wr => ∃ (k : Nat) (p e : Int) (N : Nat) (L : List (Int × Int)) (A : Option Addr) (c' : Nat) (vf : Nat → Value), (1 ≤ k ∧ k ≤ n) ∧ 0 ≤ p ∧ (1 ≤ e ∧ e ≤ 64) ∧ N ≤ 130000 ∧ vo = .slice A N c' ∧ vi = .int .i64 k ∧ Hid (p = if k = 1 then 0 else zs[k - 1]?.getD 0) ∧ Hid ((dvL 0 zs)[k - 1]?.getD 0 = e) ∧ Hid (ascB p (zs.drop k) = true) ∧ Hid (L.length = N) ∧ Hid (rsS zs = L ++ rnL p e (zs.drop k)) ∧ Hid (OwnSS wr w1.heap.size A N c' vf two fun i => (stF L i).map (.int .i64)) ∧ Hid (Below w1.heap.size w1 wr)) (fun _ vi _ => n - (intOf vi).toNat)
  case atStart => exact ⟨1, 0, (dvL 0 zs)[0]?.getD 0, 0, [], _, _, fun _ => .slice none 0 0, by omega, by omega, he0.out, by omega, rfl, rfl, Lib.hid rfl, Lib.hid rfl, ha0, Lib.hid rfl, hr0, HO, hB2⟩
  case round =>
    obtain ⟨k, p, e, N, L, A, c', vf, hk, hp0, he, hN, rfl, rfl, HPk, HEk, HA, HN, HG0, ho, hb⟩ := hrel
    have hcb : wr.cell? ⟨w.heap.size, 0, none⟩ = some (.slice (some ⟨g, o, none⟩) n c) := by rw [hb.out.cell (p := ⟨w.heap.size, 0, none⟩) (show w.heap.size < w1.heap.size by omega)]; exact hcb1
    by_cases hkn : k < n
    · have hz := ascB_all HA.out (zs[k]?.getD 0) (by rw [drop_at HL.out hkn]; simp)
      have HA2 : Hid (ascB (zs[k]?.getD 0) (zs.drop (k + 1)) = true) := Lib.hid (by
        have := HA.out; rw [drop_at HL.out hkn] at this
        simp only [ascB, Bool.and_eq_true] at this; exact this.2)
      have HG : Hid (rsS zs = L ++ (steps (zs[k]?.getD 0 - p) e ++ rnL (zs[k]?.getD 0) (Int.gcd e (zs[k]?.getD 0) : Int) (zs.drop (k + 1)))) := Lib.hid (by rw [HG0.out, rnL_atR p e HL.out hkn])
      have HE2 : Hid ((dvL 0 zs)[k + 1 - 1]?.getD 0 = (Int.gcd e (zs[k]?.getD 0) : Int)) := Lib.hid (by
        have h5 := dvL_next zs 0 (k - 1) (by rw [HL.out]; omega)
        rw [show k - 1 + 1 = k by omega, HEk.out] at h5
        rw [Nat.add_sub_cancel]; exact h5)
      have HZE : Hid (zs[k]?.getD 0 = zs[k + 1 - 1]?.getD 0) := Lib.hid (by rw [Nat.add_sub_cancel])
      have cz : wr.cell? ⟨g, o + k, none⟩ = some (.int .i64 (zs[k]?.getD 0)) := by
        rw [hb.out.cell (p := ⟨g, o + k, none⟩) (show g < w1.heap.size by omega)]; exact HC1.out k hkn
      have cp : k ≠ 1 → wr.cell? ⟨g, o + (k - 1), none⟩ = some (.int .i64 p) := fun h1 => by
        rw [hb.out.cell (p := ⟨g, o + (k - 1), none⟩) (show g < w1.heap.size by omega), HC1.out (k - 1) (by omega), HPk.out, if_neg h1]
      have ce : wr.cell? ⟨g1, k - 1, none⟩ = some (.int .i64 e) := by
        rw [hb.out.cell (p := ⟨g1, k - 1, none⟩) hg1, HD.out (k - 1) (by omega), HEk.out]
      have hp1 : k = 1 → p = 0 := fun h1 => by rw [HPk.out, if_pos h1]
      have HZD : Hid (zs[k]?.getD 0 = zs[k]?.getD 0) := Lib.hid rfl
      generalize hzz : zs[k]?.getD 0 = z at hz HA2 HG HE2 HZE cz
      clear hzz
      have hge := gcd_le_left (e := e) (z := z) he.1
      have h6 : (k : Int) - 1 < (n : Int) := by omega
      have h7 : ((k : Int) - 1).toNat = k - 1 := by omega
      have h8 : (k : Int) < (n : Int) := by omega
      have h9 : (0 : Int) ≤ (k : Int) - 1 := by omega
      have p1 : IntKind.i64.wrap ((k : Int) - 1) = (k : Int) - 1 := IntWalk.i64_in _ (by omega)
      obtain ⟨i0, hi0, hz0, hz1, hz2⟩ := info_parts ints_info
      clear HG0 HPk HEk HA HZD
      by_cases hk1 : k = 1
      · obtain rfl := hp1 hk1
        have hk2 : ¬ (1 : Int) < (k : Int) := by omega
        have HK1 := Lib.hid hk1
        have HG1 : Hid (rsS zs = L ++ (steps z e ++ rnL z (Int.gcd e z : Int) (zs.drop (k + 1)))) := Lib.hid (by have h5 := HG.out; rwa [Int.sub_zero] at h5)
        clear hp1 cp hk1 HG
        have HG := HG1
        clear HG1
        go_wp2_with fail
        refine (l01Steps_any (z) e _ (by omega) (by omega)).mono ?_
        rintro e9 w2 ⟨A2, c2, vf2, rfl, ho2, hb2⟩
        have hlen := steps_len (a := z) (b := e) (by omega)
        have hpos := steps_pos (a := z) (b := e) he.1
        have hg0 := HG.out
        generalize steps (z) e = S at *
        obtain ⟨q, HQ⟩ : ∃ q, S.length = q := ⟨_, rfl⟩
        have HQ' := Lib.hid HQ
        rw [HQ] at hlen hpos ho2 ⊢
        have hNq : N + q ≤ 130000 := by
          have h5 := HLN.out
          rw [hg0] at h5; simp only [List.length_append] at h5
          have h6 := HN.out; omega
        clear HQ hg0
        obtain ⟨g2, rfl, hg2, _⟩ := ho2.cell hpos
        have how := ho.out.below hb2
        have hcl : ∀ j u, ((List.range q).map vf2)[j]? = some u → w2.cell? ((⟨g2, 0, none⟩ : Addr).add j) = some u := fun j u hj => by
          have hjq : j < q := by
            by_cases hjq : j < q
            · exact hjq
            · rw [List.getElem?_eq_none (by simp; omega)] at hj; cases hj
          rw [add_lit, Nat.zero_add, World.ownsRow.cellAt ho2.outer j (by omega)]; exact hj
        have hone : ∀ u ∈ (List.range q).map vf2, u.oneCell' = true := fun u hu => by
          obtain ⟨i, hi, rfl⟩ := List.mem_map.1 hu
          obtain ⟨A', c', e'⟩ := ho2.form i (by simpa using hi)
          rw [e']; rfl
        have hltb : ∀ i, i < N → ∀ k, (vf i).ownBlock = some k → k < wr.heap.size := fun i hi k hk => ((ho.out.inner i hi).lt k hk).2
        have HCL := Lib.hid hcl
        have HON := Lib.hid hone
        have HLT := Lib.hid hltb
        have HO2 := Lib.hid ho2
        have HOW := Lib.hid how
        have hbw := hb.out.size
        have hb2s := hb2.size
        clear hcl hone hltb ho2 how ho
        obtain ⟨X, HX⟩ : ∃ X, X = (List.range q).map vf2 := ⟨_, rfl⟩
        obtain ⟨Y, HY⟩ : ∃ Y, Y = (List.range N).map vf := ⟨_, rfl⟩
        have HXl : X.length = q * 1 := by rw [HX]; simp
        have HXh := Lib.hid HX
        have HYh := Lib.hid HY
        have HOr : Hid (w2.ownsRow w1.heap.size 22 1 (.slice A N c') N Y) := Lib.hid (by rw [HY]; exact HOW.out.outer)
        have HC2 : Hid (∀ j u, X[j]? = some u → w2.cell? ((⟨g2, 0, none⟩ : Addr).add j) = some u) := Lib.hid (by rw [HX]; exact HCL.out)
        have HO1 : Hid (∀ u ∈ X, u.oneCell' = true) := Lib.hid (by rw [HX]; exact HON.out)
        clear HX HY HCL HON
        go_wp2_with (at_builtin; refine wpList_append_own _ rfl _ _ 51 rfl w1.heap.size 22 i0 (.slice none 0 0) 1 24 Try.underlying51 hi0 hz0 hz1 hz2 rfl (by decide) _ N Y rfl HOr.out ⟨g2, 0, none⟩ q c2 X rfl HXl HC2.out HO1.out (by simp only [maxLen]; omega) (by omega) (by omega) ?_; intro v1 w3 hown1 hgrow _; obtain ⟨A1, c1, rfl⟩ := Own.form29 hown1; have HJ := Lib.hid (OwnSS.join HOW.out HO2.out (by omega) HLT.out (by have := hown1; rw [HXh.out, HYh.out] at this; exact this) hgrow); have hb3 := Lib.hid ((hb.out.trans (hb2.mono hb.out.size)).grown hgrow (by omega) (fun k hk => (World.ownsRow.lt HOr.out k hk).1)); clear hown1 hgrow)
        go_roundw
        case rel =>
          refine ⟨k + 1, z, (Int.gcd e z : Int), N + q, L ++ S, A1, c1, (fun i => if i < N then vf i else vf2 (i - N)), by omega, by omega, by omega, by omega, rfl, by go_num, Lib.hid (by rw [if_neg (by omega)]; exact HZE.out), HE2, HA2, Lib.hid (by simp [HN.out, HQ'.out]), Lib.hid (by rw [HG.out]; simp), Lib.hid ?_, hb3⟩
          rw [stF_join L S HN.out]; exact HJ.out
        case measure => simp [intOf]; omega
      · have cp1 := cp hk1
        have hk2 : (1 : Int) < (k : Int) := by omega
        have q1 : IntKind.i64.wrap (z - p) = z - p := IntWalk.i64_in _ (by omega)
        clear hp1 cp
        go_wp2_with fail
        refine (l01Steps_any (z - p) e _ (by omega) (by omega)).mono ?_
        rintro e9 w2 ⟨A2, c2, vf2, rfl, ho2, hb2⟩
        have hlen := steps_len (a := z - p) (b := e) (by omega)
        have hpos := steps_pos (a := z - p) (b := e) he.1
        have hg0 := HG.out
        generalize steps (z - p) e = S at *
        obtain ⟨q, HQ⟩ : ∃ q, S.length = q := ⟨_, rfl⟩
        have HQ' := Lib.hid HQ
        rw [HQ] at hlen hpos ho2 ⊢
        have hNq : N + q ≤ 130000 := by
          have h5 := HLN.out
          rw [hg0] at h5; simp only [List.length_append] at h5
          have h6 := HN.out; omega
        clear HQ hg0
        obtain ⟨g2, rfl, hg2, _⟩ := ho2.cell hpos
        have how := ho.out.below hb2
        have hcl : ∀ j u, ((List.range q).map vf2)[j]? = some u → w2.cell? ((⟨g2, 0, none⟩ : Addr).add j) = some u := fun j u hj => by
          have hjq : j < q := by
            by_cases hjq : j < q
            · exact hjq
            · rw [List.getElem?_eq_none (by simp; omega)] at hj; cases hj
          rw [add_lit, Nat.zero_add, World.ownsRow.cellAt ho2.outer j (by omega)]; exact hj
        have hone : ∀ u ∈ (List.range q).map vf2, u.oneCell' = true := fun u hu => by
          obtain ⟨i, hi, rfl⟩ := List.mem_map.1 hu
          obtain ⟨A', c', e'⟩ := ho2.form i (by simpa using hi)
          rw [e']; rfl
        have hltb : ∀ i, i < N → ∀ k, (vf i).ownBlock = some k → k < wr.heap.size := fun i hi k hk => ((ho.out.inner i hi).lt k hk).2
        have HCL := Lib.hid hcl
        have HON := Lib.hid hone
        have HLT := Lib.hid hltb
        have HO2 := Lib.hid ho2
        have HOW := Lib.hid how
        have hbw := hb.out.size
        have hb2s := hb2.size
        clear hcl hone hltb ho2 how ho
        obtain ⟨X, HX⟩ : ∃ X, X = (List.range q).map vf2 := ⟨_, rfl⟩
        obtain ⟨Y, HY⟩ : ∃ Y, Y = (List.range N).map vf := ⟨_, rfl⟩
        have HXl : X.length = q * 1 := by rw [HX]; simp
        have HXh := Lib.hid HX
        have HYh := Lib.hid HY
        have HOr : Hid (w2.ownsRow w1.heap.size 22 1 (.slice A N c') N Y) := Lib.hid (by rw [HY]; exact HOW.out.outer)
        have HC2 : Hid (∀ j u, X[j]? = some u → w2.cell? ((⟨g2, 0, none⟩ : Addr).add j) = some u) := Lib.hid (by rw [HX]; exact HCL.out)
        have HO1 : Hid (∀ u ∈ X, u.oneCell' = true) := Lib.hid (by rw [HX]; exact HON.out)
        clear HX HY HCL HON
        go_wp2_with (at_builtin; refine wpList_append_own _ rfl _ _ 51 rfl w1.heap.size 22 i0 (.slice none 0 0) 1 24 Try.underlying51 hi0 hz0 hz1 hz2 rfl (by decide) _ N Y rfl HOr.out ⟨g2, 0, none⟩ q c2 X rfl HXl HC2.out HO1.out (by simp only [maxLen]; omega) (by omega) (by omega) ?_; intro v1 w3 hown1 hgrow _; obtain ⟨A1, c1, rfl⟩ := Own.form29 hown1; have HJ := Lib.hid (OwnSS.join HOW.out HO2.out (by omega) HLT.out (by have := hown1; rw [HXh.out, HYh.out] at this; exact this) hgrow); have hb3 := Lib.hid ((hb.out.trans (hb2.mono hb.out.size)).grown hgrow (by omega) (fun k hk => (World.ownsRow.lt HOr.out k hk).1)); clear hown1 hgrow)
        go_roundw
        case rel =>
          refine ⟨k + 1, z, (Int.gcd e z : Int), N + q, L ++ S, A1, c1, (fun i => if i < N then vf i else vf2 (i - N)), by omega, by omega, by omega, by omega, rfl, by go_num, Lib.hid (by rw [if_neg (by omega)]; exact HZE.out), HE2, HA2, Lib.hid (by simp [HN.out, HQ'.out]), Lib.hid (by rw [HG.out]; simp), Lib.hid ?_, hb3⟩
          rw [stF_join L S HN.out]; exact HJ.out
        case measure => simp [intOf]; omega
    · obtain rfl : k = n := by omega
      have E : Hid (rsS zs = L) := Lib.hid (by rw [HG0.out, drop_end HL.out (Nat.le_refl _)]; simp [rnL])
      clear HG0
      go_wp2
      go_ret
      refine StepsPost.mk' (vf := vf) E.out HN.out ?_ (below_to HB0.out HB1.out hb.out)
      have h5 := ho.out
      have h6 : w.heap.size ≤ w1.heap.size := by omega
      exact ⟨own_lessR h5.outer h6, h5.form, fun i hi => own_lessR (h5.inner i hi) h6, h5.apart⟩
end Go.Proofs.Ytncgkoanckefmaa
