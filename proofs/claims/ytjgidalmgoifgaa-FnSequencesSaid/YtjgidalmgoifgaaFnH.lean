/- laws.hasInt and laws.product5: contracts. Conditions: stated at each theorem. -/
import Derived.Test.YtjgidalmgoifgaaZE
import Derived.Test.YtjgidalmgoifgaaFnRm
namespace Go.Proofs.Ytjgidalmgoifgaa
open Go.ChangeShapes Go.WideShapes Go.ChangeAt Go.RowKit
set_option linter.unusedVariables false

theorem ReadI.at {w : World} {B M c i : Nat} {A : Option Addr} {xs : List Int} (h : ReadI w B (.slice A M c) xs) (hM : xs.length = M) (hi : i < M) :
    ∃ g o, A = some ⟨g, o, none⟩ ∧ w.cell? ⟨g, o + i, none⟩ = some (.int .i64 (xs[i]?.getD 0)) := by
  obtain ⟨A', c', e, ⟨_, h5⟩, _, _, h6, _⟩ := h
  rw [hM] at e h5
  cases e
  obtain ⟨a, ea, _, k⟩ := h5 i hi
  obtain ⟨g, o, rfl⟩ := h6 a ea
  rw [add_lit] at k
  exact ⟨g, o, ea, by simpa using k⟩
theorem hasInt_any (v : Value) (zs : List Int) (x : Int) (w : World) (h : ReadI w w.heap.size v zs) (hn : zs.length ≤ 1099511627776) :
    Calls Try.prog 48 #[v, .int .i64 x] w (AnsB w (decide (x ∈ zs))) := by
  obtain ⟨M, hM⟩ : ∃ M, zs.length = M := ⟨_, rfl⟩
  obtain ⟨A, c, rfl, _⟩ := id h
  rw [hM] at h hn ⊢
  have HR := Lib.hid h
  have HMM := Lib.hid hM
  clear h hM
  go_enter Try.func48, Try.ntmps48
  go_wp2
  go_loopw [5] (fun vi wr => ∃ (i m : Nat), i ≤ M ∧ vi = .int .i64 i ∧ Hid (∀ k, k < i → ¬ zs[k]?.getD 0 = x) ∧ Hid (wr = w.drewN m)) (fun vi _ => M - (intOf vi).toNat)
  case atStart => exact ⟨0, 0, by omega, rfl, Lib.hid (fun k hk => by omega), Lib.hid rfl⟩
  case round =>
    obtain ⟨i, m, hi, rfl, HK, hw⟩ := hrel
    by_cases hlt : i < M
    · obtain ⟨g, o, rfl, hc⟩ := HR.out.at HMM.out hlt
      have d1 : wr.cell? ⟨g, o + i, none⟩ = some (.int .i64 (zs[i]?.getD 0)) := by rw [hw.out]; exact hc
      have hi0 : (0 : Int) ≤ (i : Int) := by omega
      have hi1 : (i : Int) < (M : Int) := by omega
      have p1 : IntKind.i64.wrap ((i : Int) + 1) = (i : Int) + 1 := IntWalk.i64_in _ (by omega)
      have HIN : Hid (zs[i]?.getD 0 = x → x ∈ zs) := Lib.hid (fun e => by
        have := HMM.out
        rw [← e]; simp [show i < zs.length by omega])
      have HNX : Hid (¬ zs[i]?.getD 0 = x → ∀ k, k < i + 1 → ¬ zs[k]?.getD 0 = x) := Lib.hid (fun e k hk => by
        by_cases h : k = i
        · rw [h]; exact e
        · exact HK.out k (by omega))
      generalize (zs[i]?.getD 0 : Int) = z at *
      clear hc
      by_cases hz : z = x
      · have hzb : (z == x) = true := by simpa using hz
        have HI := Lib.hid (HIN.out hz)
        clear hz
        go_wp2_with fail
        go_ret
        have hb : Below w.heap.size w wr := by rw [hw.out]; exact drewN_below _ _
        exact ⟨by rw [decide_eq_true HI.out]; rfl, hb⟩
      · have hzb : (z == x) = false := by simpa using hz
        have HI := Lib.hid (HNX.out hz)
        go_wp2_with fail
        go_roundw
        case rel => exact ⟨i + 1, m, by omega, by go_num, HI, hw⟩
        case measure => simp [intOf]; omega
    · obtain rfl : i = M := by omega
      have HNO : Hid (¬ x ∈ zs) := Lib.hid (fun h => by
        obtain ⟨k, hk, e⟩ := List.getElem_of_mem h
        have := HMM.out
        exact HK.out k (by omega) (by simp [hk, e]))
      go_wp2_with fail
      go_ret
      have hb : Below w.heap.size w wr := by rw [hw.out]; exact drewN_below _ _
      exact ⟨by rw [decide_eq_false HNO.out]; rfl, hb⟩
theorem product5_any (va vb : Value) (a b : List Int) (w : World) (ha : ReadI w w.heap.size va a) (hb : ReadI w w.heap.size vb b) (hl : b.length = a.length) (hn : a.length ≤ 1099511627776) (hp : ∀ k, k ≤ a.length → 0 ≤ prS a b k ∧ prS a b k ≤ 4611686018427387904) :
    Calls Try.prog 57 #[va, vb] w fun e w' => e = .returned (.int .i64 (prS a b a.length)) ∧ Below w.heap.size w w' := by
  obtain ⟨M, hM⟩ : ∃ M, a.length = M := ⟨_, rfl⟩
  obtain ⟨A, c, rfl, _⟩ := id ha
  obtain ⟨A', c', rfl, _⟩ := id hb
  rw [hl] at hb ⊢
  rw [hM] at ha hb hl hn ⊢
  have HR := Lib.hid ha
  have HR' := Lib.hid hb
  have HMM := Lib.hid hM
  have HML := Lib.hid hl
  have HP : Hid (∀ k, k ≤ M → 0 ≤ prS a b k ∧ prS a b k ≤ 4611686018427387904) := Lib.hid (by rw [← hM]; exact hp)
  clear ha hb hM hl hp
  go_enter Try.func57, Try.ntmps57
  go_wp2
  go_loopw [5, 6] (fun vt vi wr => ∃ (i m : Nat) (t : Int), i ≤ M ∧ (0 ≤ t ∧ t ≤ 4611686018427387904) ∧ vt = .int .i64 t ∧ vi = .int .i64 i ∧ Hid (t = prS a b i) ∧ Hid (wr = w.drewN m)) (fun _ vi _ => M - (intOf vi).toNat)
  case atStart => exact ⟨0, 0, 0, by omega, by omega, rfl, rfl, Lib.hid rfl, Lib.hid rfl⟩
  case round =>
    obtain ⟨i, m, t, hi, ht, rfl, rfl, HT, hw⟩ := hrel
    by_cases hlt : i < M
    · obtain ⟨g, o, rfl, hc⟩ := HR.out.at HMM.out hlt
      obtain ⟨g', o', rfl, hc'⟩ := HR'.out.at HML.out hlt
      have d1 : wr.cell? ⟨g, o + i, none⟩ = some (.int .i64 (a[i]?.getD 0)) := by rw [hw.out]; exact hc
      have d2 : wr.cell? ⟨g', o' + i, none⟩ = some (.int .i64 (b[i]?.getD 0)) := by rw [hw.out]; exact hc'
      have hi0 : (0 : Int) ≤ (i : Int) := by omega
      have hi1 : (i : Int) < (M : Int) := by omega
      have p1 : IntKind.i64.wrap ((i : Int) + 1) = (i : Int) + 1 := IntWalk.i64_in _ (by omega)
      have h1 := HP.out i (by omega)
      have h2 := HP.out (i + 1) (by omega)
      have h3 : prS a b (i + 1) = t + a[i]?.getD 0 * b[i]?.getD 0 := by rw [HT.out]; rfl
      rw [← HT.out] at h1
      have HN : Hid (t + a[i]?.getD 0 * b[i]?.getD 0 = prS a b (i + 1)) := Lib.hid h3.symm
      rw [h3] at h2
      clear h3 hc hc'
      generalize (a[i]?.getD 0 : Int) = x at *
      generalize (b[i]?.getD 0 : Int) = y at *
      generalize hxy : x * y = z at *
      have p2 : IntKind.i64.wrap (x * y) = z := by rw [hxy]; exact IntWalk.i64_in _ (by omega)
      have p3 : IntKind.i64.wrap (t + z) = t + z := IntWalk.i64_in _ (by omega)
      clear h1 hxy
      go_wp2_with fail
      go_quiet (fail)
      go_wp2_with fail
      go_roundw
      case rel => exact ⟨i + 1, _, t + z, by omega, by omega, by go_num, by go_num, HN, Lib.hid (by rw [hw.out, World.drewN_drewN])⟩
      case measure => simp [intOf]; omega
    · obtain rfl : i = M := by omega
      go_wp2_with fail
      go_ret
      have hb : Below w.heap.size w wr := by rw [hw.out]; exact drewN_below _ _
      refine ⟨?_, hb⟩
      have e := HT.out
      subst e
      rfl
end Go.Proofs.Ytjgidalmgoifgaa
