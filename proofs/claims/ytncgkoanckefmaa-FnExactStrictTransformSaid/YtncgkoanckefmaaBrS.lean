/- Branches, the model's side: contracts of spec.l03Is. Conditions: stated at each theorem. -/
import Derived.Test.YtncgkoanckefmaaBrI
namespace Go.Proofs.Ytncgkoanckefmaa
open Go.ChangeShapes Go.WideShapes Go.ChangeAt Go.RowKit
set_option linter.unusedVariables false

theorem brB_isB {z : Int} {r : List Int} (h : mulB z = true) : brB (z :: r) = isB z z r := by simp [brB, h]
theorem isB_step {p e z : Int} {r : List Int} : isB p e (z :: r) = (decide (p < z ∧ z ≤ 2000) && (decide ((Int.gcd e z : Int) ≠ e) && isB z (Int.gcd e z : Int) r)) := rfl
theorem quietN {n l h : Int} {w : World} {q : Nat} (h1 : ¬ (l ≤ n ∧ n ≤ h)) :
    Calls Try.prog 75 #[.int .i64 n, .int .i64 l, .int .i64 h] (w.drewN q) fun e w'' => e = .returned (.bool false) ∧ ∃ m, w'' = w.drewN m :=
  (inN n l h _ h1).mono fun e w' ⟨he, hw⟩ => ⟨he, q, hw.symm⟩
theorem quietY {n l h : Int} {w : World} {q : Nat} (h1 : l ≤ n) (h2 : n ≤ h) :
    Calls Try.prog 75 #[.int .i64 n, .int .i64 l, .int .i64 h] (w.drewN q) fun e w'' => e = .returned (.bool true) ∧ ∃ m, w'' = w.drewN m :=
  (inY n l h _ h1 h2).mono fun e w' ⟨he, hw⟩ => ⟨he, q, hw.symm⟩
theorem add_lit (g o k : Nat) : (⟨g, o, none⟩ : Addr).add k = ⟨g, o + k, none⟩ := by unfold Addr.add; split <;> simp_all
theorem below_box (w : World) (o : Obj) : Below w.heap.size w (w.alloc o) := (Below.refl _ _).alloc (Nat.le_refl _) o

set_option maxHeartbeats 1000000 in
set_option maxRecDepth 100000 in
theorem l03Is_any (v : Value) (zs : List Int) (w : World) (h : ReadI w w.heap.size v zs) (hn : zs.length ≤ 1048576) (hw : ∀ z ∈ zs, (Lit.int .i64 z).wf = true) :
    Calls Try.prog 74 #[.agg #[v]] w fun e w' => e = .returned (.bool (brB zs)) ∧ Below w.heap.size w w' := by
  obtain ⟨n, A, c, rfl, hr, HL, HN, hnc, HF, hcm⟩ := h.split2
  rw [HL.out] at hn
  cases zs with
  | nil =>
    obtain rfl : n = 0 := HL.out.symm
    clear hr HF h
    go_enter Try.func74, Try.ntmps74
    go_wp2
    go_ret
    exact ⟨rfl, below_box _ _⟩
  | cons z0 r =>
    have hn0 : 0 < n := by have := HL.out; simp at this; omega
    obtain ⟨a, rfl, hlt, hc0⟩ := hr.2 0 hn0
    obtain ⟨g, o, rfl⟩ := HF.out a rfl
    have HW := Lib.hid hw
    have hz := range_i64 hw 0
    simp only [List.getElem?_cons_zero, Option.getD_some] at hz
    have H0 : Hid (RI w w.heap.size (some ⟨g, o, none⟩) n (z0 :: r)) := Lib.hid hr
    have hcell : w.cell? ⟨g, o, none⟩ = some (.int .i64 z0) := by simpa [Addr.add] using hc0
    obtain ⟨b, hb⟩ : ∃ b, b = brB (z0 :: r) := ⟨_, rfl⟩
    rw [← hb]
    have HB := Lib.hid hb
    clear hb hr h hc0 HF hw
    cases hmu : mulB z0
    · have R : Hid (false = b) := Lib.hid (by rw [HB.out]; simp [brB, hmu])
      have hm' := mulB_false.1 hmu
      clear hmu
      go_enter Try.func74, Try.ntmps74
      go_wp2_with fail
      refine (inN _ _ _ _ (by omega)).mono ?_
      rintro e w' ⟨rfl, rfl⟩
      go_wp2_with fail
      go_ret
      exact ⟨ret_boolB R.out, below_box _ _⟩
    have hm' := mulB_true.1 hmu
    have E : Hid (b = isB z0 z0 ((z0 :: r).drop 1)) := Lib.hid (by rw [HB.out, brB_isB hmu]; rfl)
    have HLz : Hid ((z0 :: r)[0]?.getD 0 = z0) := Lib.hid rfl
    generalize z0 :: r = zs at *
    clear hmu HB
    have T0 : ((n : Int) == 0) = false := by simp; omega
    go_enter Try.func74, Try.ntmps74
    go_wp2_with fail
    refine (inY _ _ _ _ (by omega) (by omega)).mono ?_
    rintro e w' ⟨rfl, rfl⟩
    go_wp2_with fail
    have HS : Hid (RI (w.alloc (.cells #[.slice (some ⟨g, o, none⟩) n c] 28)) w.heap.size (some ⟨g, o, none⟩) n zs) := Lib.hid (H0.out.below (below_box _ _))
    have hB0 := below_box w (.cells #[.slice (some ⟨g, o, none⟩) n c] 28)
    generalize w.alloc (.cells #[.slice (some ⟨g, o, none⟩) n c] 28) = w0 at *
    have B0 := Lib.hid hB0
    clear hB0 hcell
    go_loopw [4, 5] (fun ve vi wr => ∃ (k : Nat) (x y : Int), (1 ≤ k ∧ k ≤ n) ∧ (1 ≤ x ∧ x ≤ 2000) ∧ (-9223372036854775808 ≤ y ∧ y ≤ 2000) ∧ ve = .int .i64 x ∧ vi = .int .i64 k ∧ Hid (∃ q, wr = w0.drewN q) ∧ Hid (zs[k - 1]?.getD 0 = y) ∧ Hid (b = isB y x (zs.drop k))) (fun _ vi _ => n - (intOf vi).toNat)
    case atStart => exact ⟨1, z0, z0, by omega, by omega, by omega, rfl, rfl, Lib.hid ⟨0, rfl⟩, HLz, E⟩
    case round =>
      obtain ⟨k, x, y, hk, hx, hy, rfl, rfl, hwr, hyk, hg⟩ := hrel
      have hsame : ∀ p, wr.cell? p = w0.cell? p := by obtain ⟨q, rfl⟩ := hwr.out; intro p; rfl
      have BR : Hid (Below w.heap.size w wr) := Lib.hid (by obtain ⟨q, rfl⟩ := hwr.out; exact below_drewN B0.out q)
      by_cases hlt : k < n
      · obtain ⟨a, e1, _, hcell0⟩ := HS.out.2 k hlt
        cases e1
        obtain ⟨a, e1, _, hcell1⟩ := HS.out.2 (k - 1) (by omega)
        cases e1
        have hz := range_i64 HW.out k
        have HG : Hid (b = isB y x ((zs[k]?.getD 0) :: zs.drop (k + 1))) := Lib.hid (by rw [hg.out, drop_at HL.out hlt])
        have HZ2 : Hid (zs[k + 1 - 1]?.getD 0 = zs[k]?.getD 0) := Lib.hid rfl
        have hc2 : wr.cell? ⟨g, o + k, none⟩ = some (.int .i64 (zs[k]?.getD 0)) := by rw [← add_lit, hsame]; simpa using hcell0
        have hc3 : wr.cell? ⟨g, o + (k - 1), none⟩ = some (.int .i64 y) := by rw [← hyk.out, ← add_lit, hsame]; simpa using hcell1
        generalize zs[k]?.getD 0 = z at *
        clear hcell0 hcell1 hsame
        have h5 : (0 : Int) ≤ (k : Int) - 1 := by omega
        have h6 : (k : Int) - 1 < (n : Int) := by omega
        have h7 : ((k : Int) - 1).toNat = k - 1 := by omega
        have h9 : (0 : Int) ≤ (k : Int) := by omega
        have p1 : IntKind.i64.wrap ((k : Int) - 1) = (k : Int) - 1 := IntWalk.i64_in _ (by omega)
        have p2 : IntKind.i64.wrap (y + 1) = y + 1 := IntWalk.i64_in _ (by omega)
        have h8 : (k : Int) < (n : Int) := by omega
        by_cases hin : y < z ∧ z ≤ 2000
        · have hgl := gcd_le_left (e := x) (z := z) hx.1
          have hgn : (0 : Int) ≤ (Int.gcd x z : Int) ∧ (Int.gcd x z : Int) ≤ 2000 := by omega
          by_cases hgx : (Int.gcd x z : Int) = x
          · have R : Hid (false = b) := Lib.hid (by rw [HG.out, isB_step]; simp [hgx])
            have hT : ((Int.gcd x z : Int) == x) = true := by simpa using hgx
            clear hgx
            go_wp2_with fail
            go_quiet ((go_at_call 75; exact quietY (by omega) (by omega)))
            go_wp2_with (go_at_call 112; refine (l01Gcd_any _ _ _ (by omega) (by omega) (by omega) (by omega)).mono ?_; rintro e w' ⟨rfl, rfl⟩)
            go_ret
            exact ⟨ret_boolB R.out, below_drewN BR.out _⟩
          · have HG2 : Hid (b = isB z (Int.gcd x z : Int) (zs.drop (k + 1))) := Lib.hid (by rw [HG.out, isB_step]; simp [hgx, hin])
            have hT : ((Int.gcd x z : Int) == x) = false := by simpa using hgx
            clear hgx
            go_wp2_with fail
            go_quiet ((go_at_call 75; exact quietY (by omega) (by omega)))
            go_wp2_with (go_at_call 112; refine (l01Gcd_any _ _ _ (by omega) (by omega) (by omega) (by omega)).mono ?_; rintro e w' ⟨rfl, rfl⟩)
            go_roundw
            case rel => exact ⟨k + 1, (Int.gcd x z : Int), z, by omega, by omega, by omega, rfl, by go_num, Lib.hid (by obtain ⟨q, rfl⟩ := hwr.out; exact ⟨q + nq, World.drewN_drewN _ _ _⟩), HZ2, HG2⟩
            case measure => simp [intOf]; omega
        · have R : Hid (false = b) := Lib.hid (by rw [HG.out, isB_step]; simp [hin])
          go_wp2_with fail
          go_quiet ((go_at_call 75; exact quietN (by omega)))
          go_wp2_with fail
          go_ret
          exact ⟨ret_boolB R.out, below_drewN BR.out _⟩
      · obtain rfl : k = n := by omega
        have R : Hid ((x == 1) = b) := Lib.hid (by rw [hg.out, drop_end HL.out (Nat.le_refl _)]; rfl)
        go_wp2
        go_ret
        exact ⟨ret_boolB R.out, BR.out⟩
end Go.Proofs.Ytncgkoanckefmaa
