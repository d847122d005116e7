/- Codes of points, the model's: contracts of spec.l06Code, spec.CodeOf. Conditions: stated at each theorem. -/
import Derived.Test.YtohbgfmjnanlkaaPtT
namespace Go.Proofs.Ytohbgfmjnanlkaa
open Go.ChangeShapes Go.WideShapes Go.ChangeAt Go.RowKit Go.Deep
set_option linter.unusedVariables false
set_option linter.unusedSimpArgs false

theorem cell_at {w w' : World} {b o : Nat} {u : Value} (e : w'.heap[b]? = w.heap[b]?) (hc : w.cell? ⟨b, o, none⟩ = some u) : w'.cell? ⟨b, o, none⟩ = some u := by
  unfold World.cell? at hc ⊢
  rw [e]; exact hc
theorem cdI_low {m : List Int} {I j : Nat} (h : j ≤ I + 1) : cdI m (I + 1) j = cdI m I j := by show (if _ then _ else _) = _; rw [if_neg (by omega)]
theorem cdI_miss {m : List Int} {I j : Nat} (h : PR m I j = false) : cdI m (I + 1) j = cdI m I j := by show (if _ then _ else _) = _; rw [h, if_neg (by simp)]
theorem cdI_hit {m : List Int} {I j : Nat} (h : I + 1 < j) (hp : PR m I j = true) : cdI m (I + 1) j = (j : Int) - (I : Int) := by show (if _ then _ else _) = _; rw [if_pos ⟨h, hp⟩]
theorem sm_more {m : List Int} {n a : Nat} (h : MQ m n) : ∀ {d k : Nat}, a + (k + d) ≤ n → sm m a k ≤ sm m a (k + d)
  | 0, k, _ => Int.le_refl _
  | d + 1, k, hk => by
    have h1 := sm_more h (a := a) (d := d) (k := k) (by omega)
    have h2 := (h.rng (a + (k + d)) (by omega)).1
    show sm m a k ≤ sm m a (k + d) + m[a + (k + d)]?.getD 0
    omega
theorem pr_over {m : List Int} {n i J j : Nat} (h : MQ m n) (hi : i < J) (hJ : J ≤ j) (hj : j < n) (hs : m[i]?.getD 0 < sm m (i + 1) (J - i)) : PR m i j = false := by
  cases hp : PR m i j
  · rfl
  · rw [pr_true] at hp
    have := sm_more h (a := i + 1) (d := j - J) (k := J - i) (by omega)
    rw [show J - i + (j - J) = j - i by omega] at this
    omega
theorem sm_next {m : List Int} {i J : Nat} (h : i + 1 ≤ J) : sm m (i + 1) (J - i) = sm m (i + 1) (J - (i + 1)) + m[J]?.getD 0 := by
  rw [show J - i = (J - (i + 1)) + 1 by omega, sm, show i + 1 + (J - (i + 1)) = J by omega]
/-- What the list of codes bears within round i, before the point J. -/
def cdJ (m : List Int) (i J x : Nat) : Int := if x + 1 < J then cdI m (i + 1) (x + 1) else cdI m i (x + 1)
theorem cdJ_start (m : List Int) (i x : Nat) : cdJ m i (i + 1) x = cdI m i (x + 1) := by
  unfold cdJ; split
  · exact cdI_low (by omega)
  · rfl
theorem cdJ_end {m : List Int} {i n x : Nat} (h : x + 1 < n) : cdJ m i n x = cdI m (i + 1) (x + 1) := by unfold cdJ; rw [if_pos h]
theorem cdJ_over {m : List Int} {n i J x : Nat} (h : MQ m n) (hi : i < J) (hx : x + 1 < n) (hs : m[i]?.getD 0 < sm m (i + 1) (J - i)) : cdJ m i J x = cdI m (i + 1) (x + 1) := by
  unfold cdJ; split
  · rfl
  · exact (cdI_miss (pr_over h hi (by omega) hx hs)).symm
theorem cdJ_near (m : List Int) (i x : Nat) : cdJ m i (i + 1) x = cdJ m i (i + 2) x := by
  unfold cdJ
  by_cases h1 : x + 1 < i + 1
  · rw [if_pos h1, if_pos (by omega)]
  · rw [if_neg h1]
    by_cases h2 : x + 1 < i + 2
    · rw [if_pos h2]; exact (cdI_low (by omega)).symm
    · rw [if_neg h2]
theorem cdJ_hit {m : List Int} {i J x : Nat} (hi : i + 1 < J) (hp : PR m i J = true) : (if x = J - 1 then (J : Int) - (i : Int) else cdJ m i J x) = cdJ m i (J + 1) x := by
  unfold cdJ
  by_cases h1 : x = J - 1
  · subst h1
    rw [if_pos rfl, if_pos (by omega), show J - 1 + 1 = J by omega]
    exact (cdI_hit hi hp).symm
  · rw [if_neg h1]
    by_cases h2 : x + 1 < J
    · rw [if_pos h2, if_pos (by omega)]
    · rw [if_neg h2, if_neg (by omega)]
theorem own_of_row {w : World} {g n lo : Nat} {F : Nat → Int} {L : List Int} (h : w.rowIs g 2 n fun x => .int .i64 (F x)) (hl : L.length = n) (hF : ∀ x, x < n → F x = L.getD x 0) (hg : lo ≤ g) (hn : n ≤ 1099511627776) : OwnI w lo w.heap.size (.slice (some ⟨g, 0, none⟩) n n) L :=
  row_ownB (h.congr fun x hx => by rw [if_pos hx, hF x hx]) hl hg (by omega)

set_option maxRecDepth 100000 in
set_option maxHeartbeats 2000000 in
theorem l06Code_any (v : Value) (zs : List Int) (k : Nat) (w : World) (h : ReadI w w.heap.size v zs) (hn : zs.length ≤ 1048576) (hp : brB zs = true) (hk1 : 1 ≤ k) (hk : k ≤ 400) :
    Calls Try.prog 63 #[.agg #[v], .int .i64 k] w fun e w' => ∃ A c, e = .returned (.slice A (k - 1) c) ∧ OwnI w' w.heap.size w'.heap.size (.slice A (k - 1) c) (cdL (mqL zs k) k) ∧ Below w.heap.size w w' := by
  obtain ⟨n, A, c, rfl, hr, HL, _, hnc, HF, hcm⟩ := h.split2
  obtain ⟨W0, HE⟩ : ∃ W, W = w.alloc (.cells #[.slice A n c] 28) := ⟨_, rfl⟩
  have hb0 : Below w.heap.size w W0 := by rw [HE]; exact below_box _ _
  have hq0 : BoxI W0 w.heap.size (.slice A n c) := by rw [HE]; exact BoxI.new _ _ _
  obtain ⟨W1, HE1⟩ : ∃ W, W = W0.alloc (.cells (madeCells #[.int .i64 0] (k - 1)) 2) := ⟨_, rfl⟩
  have hb1 : Below W0.heap.size W0 W1 := by rw [HE1]; exact below_box _ _
  have hws : W0.heap.size = w.heap.size + 1 := by rw [HE]; simp
  have hrow0 : W1.rowIs (w.heap.size + 1) 2 (k - 1) (fun x => .int .i64 0) := by rw [HE1, ← hws]; exact World.rowIs_made _ _ _ _
  have hsz1 : W1.heap.size = w.heap.size + 2 := by rw [HE1]; simp [hws]
  have H0 := Lib.hid ((h.below (hb0.trans (hb1.mono hb0.size))).more (Nat.le_trans hb0.size hb1.size))
  have cbn : W1.cell? ⟨w.heap.size, 0, none⟩ = some (.slice A n c) := by rw [hb1.cell (p := ⟨w.heap.size, 0, none⟩) hq0.2]; exact hq0.1
  have HNN := Lib.hid hn
  have HP := Lib.hid hp
  have HM := Lib.hid (mq_ok hp k)
  have HEQ := Lib.hid HE
  have HEQ1 := Lib.hid HE1
  have HB1 := Lib.hid (hb0.trans (hb1.mono hb0.size))
  have HROW0 := Lib.hid hrow0
  have HS1 := Lib.hid hsz1
  have hmk := fun (W : World) => run_make_row' (P := Try.prog) 22 2 (.int .i64 0) 8 Try.underlying22 int_info rfl .i64 .i64 (k - 1) (by omega) (by omega) W
  have hmi : (((k - 1 : Nat) : Int)) = (k : Int) - 1 := by omega
  rw [hmi] at hmk
  have p1 : IntKind.i64.wrap ((k : Int) - 1) = (k : Int) - 1 := IntWalk.i64_in _ (by omega)
  clear h hr HE HE1 HF hn hp hb0 hb1 hq0 hws hrow0 hsz1 hmi
  go_enter Try.func63, Try.ntmps63
  go_wp2_with fail
  rw [← HEQ.out, ← HEQ1.out]
  clear hmk
  refine (l06Sequence_any _ zs k _ H0.out HNN.out HP.out hk).mono ?_
  rintro e w2 ⟨A2, c2, rfl, ho, hb2⟩
  obtain ⟨mm, hmm⟩ : ∃ m, mqL zs k = m := ⟨_, rfl⟩
  rw [hmm] at ho HM
  have HMME := Lib.hid hmm
  have HLm : Hid (mm.length = k) := Lib.hid HM.out.len
  obtain ⟨gm, rfl, hgm1, hgm2, _, _⟩ := own_at ho HLm.out (show 0 < k by omega)
  have HC : Hid (∀ j, j < k → w2.cell? ⟨gm, j, none⟩ = some (.int .i64 (mm[j]?.getD 0))) := Lib.hid fun j hj => by
    obtain ⟨g', e1, _, _, h5, _⟩ := own_at ho HLm.out hj
    cases e1; exact h5
  have hs1 := HS1.out
  rw [hs1] at hgm1 hb2
  have HR2 : Hid (w2.rowIs (w.heap.size + 1) 2 (k - 1) (fun x => .int .i64 (cdI mm 0 (x + 1)))) := Lib.hid ((HROW0.out.of_block (hb2.block _ (by omega))).congr fun x hx => rfl)
  have HB2 := Lib.hid (HB1.out.trans (hb2.mono (by omega)))
  have hs2 := hb2.size
  rw [hs1] at hs2
  clear ho hmm hs1 hb2 cbn HS1 HROW0
  go_wp2_with fail
  go_loopw [7] (fun vi wr => ∃ (i : Nat), i ≤ k ∧ vi = .int .i64 i ∧ Hid (wr.rowIs (w.heap.size + 1) 2 (k - 1) (fun x => .int .i64 (cdI mm i (x + 1)))) ∧ Hid (wr.heap[gm]? = w2.heap[gm]?) ∧ Hid (Below w.heap.size w wr)) (fun vi _ => k - (intOf vi).toNat)
  case atStart => exact ⟨0, by omega, rfl, HR2, Lib.hid rfl, HB2⟩
  case round =>
    obtain ⟨i, hi, rfl, hrow, hgk, hb⟩ := hrel
    by_cases hik : i < k
    · have hmi := HM.out.rng i hik
      have hik2 : (i : Int) < (k : Int) := by omega
      go_wp2_with fail
      go_loopw [8, 9] (fun vs vj wr => ∃ (J : Nat) (s : Int), (i + 1 ≤ J ∧ J ≤ k) ∧ (0 ≤ s ∧ s ≤ mm[i]?.getD 0) ∧ vs = .int .i64 s ∧ vj = .int .i64 J ∧ Hid (s = sm mm (i + 1) (J - (i + 1))) ∧ Hid (wr.rowIs (w.heap.size + 1) 2 (k - 1) (fun x => .int .i64 (cdJ mm i J x))) ∧ Hid (wr.heap[gm]? = w2.heap[gm]?) ∧ Hid (Below w.heap.size w wr)) (fun _ vj _ => k - (intOf vj).toNat)
      case atStart => exact ⟨i + 1, 0, by omega, by omega, rfl, by go_num, Lib.hid (by rw [Nat.sub_self]; rfl), Lib.hid (hrow.out.congr fun x hx => by rw [cdJ_start]), hgk, hb⟩
      case round =>
        obtain ⟨J, s, hJ, hs, rfl, rfl, hse, hrow2, hgk2, hb2⟩ := hrel
        by_cases hJk : J < k
        · have hmJ := HM.out.rng J hJk
          have d1 := cell_at hgk2.out (HC.out J hJk)
          have d2 := cell_at hgk2.out (HC.out i hik)
          have HSN : Hid (sm mm (i + 1) (J - i) = s + mm[J]?.getD 0) := Lib.hid (by rw [sm_next hJ.1, ← hse.out])
          have HI : Hid (mm[i]?.getD 0 = mm[i]?.getD 0) := Lib.hid rfl
          obtain ⟨mi, hmie⟩ : ∃ x, mm[i]?.getD 0 = x := ⟨_, rfl⟩
          obtain ⟨mJ, hmJe⟩ : ∃ x, mm[J]?.getD 0 = x := ⟨_, rfl⟩
          have HMI := Lib.hid hmie
          have HMJ := Lib.hid hmJe
          rw [hmie] at d2 hs hmi
          rw [hmJe] at d1 hmJ HSN
          have hJk2 : (J : Int) < (k : Int) := by omega
          clear hmie hmJe HI
          by_cases hbr : mi < s + mJ
          · have HRN : Hid (wr.rowIs (w.heap.size + 1) 2 (k - 1) (fun x => .int .i64 (cdI mm (i + 1) (x + 1)))) := Lib.hid (hrow2.out.congr fun x hx => by rw [cdJ_over HM.out (by omega) (by omega) (by rw [HMI.out, HSN.out]; exact hbr)])
            go_wp2_with fail
            go_roundw
            case rel => exact ⟨i + 1, by omega, by go_num, HRN, hgk2, hb2⟩
            case measure => simp [intOf]; omega
          · have HPR : Hid (PR mm i J = true) := Lib.hid (pr_true.2 ⟨by omega, by rw [HMI.out, HSN.out]; omega⟩)
            by_cases hnear : J = i + 1
            · have HRN : Hid (wr.rowIs (w.heap.size + 1) 2 (k - 1) (fun x => .int .i64 (cdJ mm i (J + 1) x))) := Lib.hid (hrow2.out.congr fun x hx => by rw [hnear, cdJ_near])
              have HSS : Hid (s + mJ = sm mm (i + 1) (J + 1 - (i + 1))) := Lib.hid (by rw [← HSN.out]; congr 1; omega)
              have hn2 : ¬ (i : Int) + 1 < (J : Int) := by omega
              have HNR := Lib.hid hnear
              clear hnear
              go_wp2_with fail
              go_roundw
              case rel => exact ⟨J + 1, s + mJ, by omega, by rw [HMI.out]; omega, rfl, by go_num, HSS, HRN, hgk2, hb2⟩
              case measure => simp [intOf]; omega
            · have hn2 : (i : Int) + 1 < (J : Int) := by omega
              have HSS : Hid (s + mJ = sm mm (i + 1) (J + 1 - (i + 1))) := Lib.hid (by rw [← HSN.out]; congr 1; omega)
              have q1 : IntKind.i64.wrap ((J : Int) - 1) = (J : Int) - 1 := IntWalk.i64_in _ (by omega)
              have q2 : ((J : Int) - 1).toNat = J - 1 := by omega
              have q3 : (0 : Int) ≤ (J : Int) - 1 := by omega
              have q4 : (J : Int) - 1 < ((k - 1 : Nat) : Int) := by omega
              have q5 : IntKind.i64.wrap ((J : Int) - (i : Int)) = (J : Int) - (i : Int) := IntWalk.i64_in _ (by omega)
              have q6 : (1 : Int) ≤ (J : Int) := by omega
              have q7 : (J : Int) - 1 < (k : Int) - 1 := by omega
              have hdst := hrow2.out.cell (i := J - 1) (by omega)
              have hfz := hrow2.out.frozen (J - 1)
              have HRN : Hid ((wr.setCell ⟨w.heap.size + 1, J - 1, none⟩ (.int .i64 ((J : Int) - (i : Int)))).rowIs (w.heap.size + 1) 2 (k - 1) (fun x => .int .i64 (cdJ mm i (J + 1) x))) := Lib.hid ((hrow2.out.set (J - 1) _).congr fun x hx => by
                rw [← cdJ_hit (by omega) HPR.out]
                by_cases e : x = J - 1
                · rw [if_pos e, if_pos e]
                · rw [if_neg e, if_neg e])
              have HGN : Hid ((wr.setCell ⟨w.heap.size + 1, J - 1, none⟩ (.int .i64 ((J : Int) - (i : Int)))).heap[gm]? = w2.heap[gm]?) := Lib.hid ((Below.heap_setCell wr ⟨w.heap.size + 1, J - 1, none⟩ _ gm (by rintro e; simp at e; omega)).trans hgk2.out)
              have HBN : Hid (Below w.heap.size w (wr.setCell ⟨w.heap.size + 1, J - 1, none⟩ (.int .i64 ((J : Int) - (i : Int))))) := Lib.hid (hb2.out.setCell (p := ⟨w.heap.size + 1, J - 1, none⟩) (Nat.le_succ _) _)
              go_wp2_with fail
              go_roundw
              case rel => exact ⟨J + 1, s + mJ, by omega, by rw [HMI.out]; omega, rfl, by go_num, HSS, HRN, HGN, HBN⟩
              case measure => simp [intOf]; omega
        · obtain rfl : J = k := by omega
          have HRN : Hid (wr.rowIs (w.heap.size + 1) 2 (J - 1) (fun x => .int .i64 (cdI mm (i + 1) (x + 1)))) := Lib.hid (hrow2.out.congr fun x hx => by rw [cdJ_end (by omega)])
          go_wp2_with fail
          go_roundw
          case rel => exact ⟨i + 1, by omega, by go_num, HRN, hgk2, hb2⟩
          case measure => simp [intOf]; omega
    · obtain rfl : i = k := by omega
      have HOW : Hid (OwnI wr w.heap.size wr.heap.size (.slice (some ⟨w.heap.size + 1, 0, none⟩) (i - 1) (i - 1)) (cdL mm i)) := Lib.hid (own_of_row hrow.out (cdL_len _ _) (fun x hx => by rw [List.getD, cdL_at hx]) (by omega) (by omega))
      go_wp2
      go_ret
      exact ⟨_, _, rfl, by rw [HMME.out]; exact HOW.out, hb.out⟩

def ptK (zs : List Int) (k : Int) : List Int := if ptC zs k = 0 then cdL (mqL zs k.toNat) k.toNat else []
theorem ptK_yes {zs : List Int} {m : Nat} (h : ptC zs (m : Int) = 0) : ptK zs (m : Int) = cdL (mqL zs m) m := by unfold ptK; rw [if_pos h]; simp
theorem ptK_no {zs : List Int} {k C : Int} (h : ptC zs k = C) (hC : C ≠ 0) : ptK zs k = [] := by unfold ptK; rw [if_neg (by omega)]
theorem ptK_len (zs : List Int) (k : Int) : (ptK zs k).length ≤ 400 := by
  unfold ptK
  split
  · rename_i h
    have := (pt_parts h).2
    rw [cdL_len]; omega
  · simp
end Go.Proofs.Ytohbgfmjnanlkaa
