/- Decimal numerals: contracts of spec.l01Dec and spec.l01Signed. Conditions: stated at each theorem. -/
import Derived.Test.YtlidleaigjemnaaDoorShelf
import Derived.Test.YtlidleaigjemnaaDoorLaw
import Derived.WalkLawsBesides
import Derived.WalkSpells
import Derived.Deep.RegionWith
import Derived.ShutString
import Derived.IntWalk
import Derived.Laws.IdiomStrings
import Derived.Lib.ItoaMem
namespace Go.Proofs.YtlidleaigjemnaaDoor
open Go.ChangeShapes Go.WideShapes Go.ChangeAt Go.RowKit
set_option linter.unusedVariables false

/-- The digit d as a byte. -/
def digB (d : Nat) : UInt8 := UInt8.ofNat (48 + d)
theorem digB_nat {d : Nat} (hd : d < 10) : (digB d).toNat = 48 + d := by unfold digB; simp; omega
theorem conv_at (d : Nat) (hd : d < 10) (W : World) (g : Nat) (hc : W.cell? ⟨g, 0, none⟩ = some (.int .u8 (48 + (d : Int)))) :
    (convert 22 9 (.slice (some ⟨g, 0, none⟩) 1 1)).run Tryd.prog W = .ok (.string ⟨#[digB d]⟩) W := by
  have h := run_convert_bytes_back (P := Tryd.prog) W 22 9 5 ⟨g, 0, none⟩ 1 [digB d] Tryd.underlying22 Tryd.underlying5 Tryd.underlying9 (fun j hj => by
    obtain rfl : j = 0 := by simpa using hj
    have e : (⟨g, 0, none⟩ : Addr).add 0 = ⟨g, 0, none⟩ := rfl
    rw [e, hc]
    simp [digB_nat hd])
  exact h
theorem conv_new (d : Nat) (hd : d < 10) (W : World) :
    (convert 22 9 (.slice (some ⟨W.heap.size, 0, none⟩) 1 1)).run Tryd.prog (W.alloc (.cells #[.int .u8 (48 + (d : Int))] 5)) = .ok (.string ⟨#[digB d]⟩) (W.alloc (.cells #[.int .u8 (48 + (d : Int))] 5)) :=
  conv_at d hd _ _ (by simp [World.cell?_alloc_new])

theorem conv_drew (d : Nat) (hd : d < 10) (W : World) :
    (convert 22 9 (.slice (some ⟨W.heap.size, 0, none⟩) 1 1)).run Tryd.prog (W.alloc (.cells #[.int .u8 (48 + (d : Int))] 5)).drew = .ok (.string ⟨#[digB d]⟩) (W.alloc (.cells #[.int .u8 (48 + (d : Int))] 5)).drew :=
  conv_at d hd _ _ (show (W.alloc (.cells #[.int .u8 (48 + (d : Int))] 5)).cell? ⟨W.heap.size, 0, none⟩ = _ by simp [World.cell?_alloc_new])
theorem dec_len : ∀ (k u : Nat), u < 10 ^ (k + 1) → (Lib.decDigits u).length ≤ k + 1
  | 0, u, h => by rw [Lib.decDigits_one (by simpa using h)]; simp
  | k + 1, u, h => by
    by_cases hu : u < 10
    · rw [Lib.decDigits_one hu]; simp
    · have := dec_len k (u / 10) (by rw [Nat.pow_succ] at h; omega)
      rw [Lib.decDigits, dif_neg hu]; simp; omega
theorem dec_len20 {u : Nat} (h : u ≤ 4000000000000000000) : (Lib.decDigits u).length ≤ 19 := dec_len 18 u (by omega)
theorem add_strs (x y : List UInt8) (hx : x.length ≤ 1000) (hy : y.length ≤ 1000) (W : World) : (Op.stringOp .add ⟨x.toArray⟩ ⟨y.toArray⟩).run Tryd.prog W = .ok (.string ⟨(x ++ y).toArray⟩) W :=
  run_string_add_lists W x y (by omega) (by omega)
theorem kept_new {w w2 : World} {c : Value} {t : TypeId} (hb : Below (w.alloc (.cells #[c] t)).drew.heap.size (w.alloc (.cells #[c] t)).drew w2) : w2.cell? ⟨w.heap.size, 0, none⟩ = some c := by
  have h1 : w.heap.size < (w.alloc (.cells #[c] t)).drew.heap.size := by
    show w.heap.size < (w.alloc (.cells #[c] t)).heap.size
    simp
  have h2 : (w.alloc (.cells #[c] t)).cell? ⟨w.heap.size, 0, none⟩ = some c := by simp [World.cell?_alloc_new]
  exact (hb.cell (p := ⟨w.heap.size, 0, none⟩) h1).trans h2
theorem str_eq {a b : List UInt8} (h : a = b) : Ending.returned (.string ⟨a.toArray⟩) = .returned (.string ⟨b.toArray⟩) := by rw [h]

set_option maxRecDepth 100000 in
theorem l01Dec_small (u : Nat) (w : World) (hu : u < 10) :
    Calls Tryd.prog 85 #[.int .i64 u] w fun e w' => e = .returned (.string ⟨(Lib.decDigits u).toArray⟩) ∧ Below w.heap.size w w' := by
  have hcv := conv_new u hu w
  go_enter Tryd.func85, Tryd.ntmps85
  go_wp2
  go_ret
  exact ⟨str_eq (a := [digB u]) (Lib.decDigits_one hu).symm, (Below.refl _ _).alloc (Nat.le_refl _) _⟩

set_option maxRecDepth 100000 in
theorem l01Dec_any : ∀ (k u : Nat) (w : World), u < k → u ≤ 4000000000000000000 →
    Calls Tryd.prog 85 #[.int .i64 u] w fun e w' => e = .returned (.string ⟨(Lib.decDigits u).toArray⟩) ∧ Below w.heap.size w w'
  | 0, u, w, h, _ => by omega
  | k + 1, u, w, h, hmax => by
    by_cases hu : u < 10
    · exact l01Dec_small u w hu
    · have IH := fun W => Lib.hid (l01Dec_any k (u / 10) W (by omega) (by omega))
      have hdd : Lib.decDigits u = Lib.decDigits (u / 10) ++ [UInt8.ofNat (48 + u % 10)] := by rw [Lib.decDigits, dif_neg hu]
      have HD := Lib.hid hdd
      have hd : u % 10 < 10 := by omega
      have e1 : (u : Int).tdiv 10 = ((u / 10 : Nat) : Int) := by rw [Int.tdiv_eq_ediv_of_nonneg (by omega)]; omega
      have e2 : (u : Int).tmod 10 = ((u % 10 : Nat) : Int) := by rw [Int.tmod_eq_emod_of_nonneg (by omega)]; omega
      have e3 : (u : Int) / 10 = ((u / 10 : Nat) : Int) := by omega
      have e4 : (u : Int) % 10 = ((u % 10 : Nat) : Int) := by omega
      generalize u / 10 = q at *
      generalize u % 10 = d at *
      have b1 : (q : Int) ≤ 4000000000000000000 := by omega
      have b2 : (0 : Int) ≤ (q : Int) := by omega
      have b3 : (d : Int) < 10 := by omega
      have hu2 : (10 : Int) ≤ (u : Int) := by omega
      have p1 : IntKind.i64.wrap (48 + (d : Int)) = 48 + (d : Int) := IntWalk.i64_in _ (by omega)
      have p2 : IntKind.u8.wrap (48 + (d : Int)) = 48 + (d : Int) := IntWalk.u8_in _ (by omega)
      have p3 : IntKind.i64.wrap (q : Int) = (q : Int) := IntWalk.i64_in _ (by omega)
      have p4 : IntKind.i64.wrap (d : Int) = (d : Int) := IntWalk.i64_in _ (by omega)
      have hcv := conv_new d hd
      have hcd := conv_drew d hd
      have hadd := fun W => add_strs (Lib.decDigits q) [digB d] (by have := dec_len20 (u := q) (by omega); omega) (by simp) W
      clear hdd hmax h
      go_enter Tryd.func85, Tryd.ntmps85
      go_wp2
      go_region_with (go_at_call 85; refine ((IH _).out).mono ?_; rintro e w2 ⟨rfl, hb2⟩; (have hz2 := hb2.size); (try simp at hz2); (try have hcv2 := conv_at d hd w2 w.heap.size (kept_new hb2)))
      all_goals go_wp2
      all_goals go_ret
      all_goals exact ⟨str_eq (a := Lib.decDigits q ++ [digB d]) HD.out.symm, (by repeat (first | exact Below.refl _ _ | apply below_drewN | apply Below.drew | (refine Below.setCell ?_ (by first | (simp; done) | (simp; omega) | omega) _) | (refine Below.alloc ?_ (by first | exact Nat.le_refl _ | (simp; done) | (simp; omega) | omega) _) | (refine Below.trans ?_ (hb2.mono (by first | exact Nat.le_refl _ | (simp; done) | (simp; omega) | omega)))))⟩
theorem neg_str (x : List UInt8) (hx : x.length ≤ 1000) (W : World) : (Op.stringOp .add ⟨#[45]⟩ ⟨x.toArray⟩).run Tryd.prog W = .ok (.string ⟨(45 :: x).toArray⟩) W :=
  add_strs [45] x (by simp) hx W
set_option maxRecDepth 100000 in
theorem l01Signed_any (n : Int) (w : World) (h1 : -4000000000000000000 ≤ n) (h2 : n ≤ 4000000000000000000) :
    Calls Tryd.prog 84 #[.int .i64 n] w fun e w' => e = .returned (.string ⟨(Lib.itoa n).toArray⟩) ∧ Below w.heap.size w w' := by
  by_cases hn : n < 0
  · obtain ⟨u, hu⟩ : ∃ u : Nat, n = -(u : Int) := ⟨n.natAbs, by omega⟩
    have hi := Lib.itoa_neg u (by omega)
    have HI := Lib.hid hi
    have hadd := fun W => neg_str (Lib.decDigits u) (by have := dec_len20 (u := u) (by omega); omega) W
    have hum : u ≤ 4000000000000000000 := by omega
    have hup : (0 : Int) < (u : Int) := by omega
    subst hu
    clear hi
    go_enter Tryd.func84, Tryd.ntmps84
    go_wp2_with (go_at_call 85; refine (l01Dec_any (u + 1) u _ (by omega) hum).mono ?_; rintro e w2 ⟨rfl, hb2⟩)
    go_ret
    exact ⟨str_eq HI.out.symm, (by repeat (first | exact Below.refl _ _ | apply below_drewN | apply Below.drew | (refine Below.setCell ?_ (by first | (simp; done) | (simp; omega) | omega) _) | (refine Below.alloc ?_ (by first | exact Nat.le_refl _ | (simp; done) | (simp; omega) | omega) _) | (refine Below.trans ?_ (hb2.mono (by first | exact Nat.le_refl _ | (simp; done) | (simp; omega) | omega)))))⟩
  · obtain ⟨u, hu⟩ : ∃ u : Nat, n = (u : Int) := ⟨n.toNat, by omega⟩
    subst hu
    have HI := Lib.hid (Lib.itoa_nonneg u)
    have hum : u ≤ 4000000000000000000 := by omega
    go_enter Tryd.func84, Tryd.ntmps84
    go_wp2_with (go_at_call 85; refine (l01Dec_any (u + 1) u _ (by omega) hum).mono ?_; rintro e w2 ⟨rfl, hb2⟩)
    go_ret
    exact ⟨str_eq HI.out.symm, (by repeat (first | exact Below.refl _ _ | apply below_drewN | apply Below.drew | (refine Below.setCell ?_ (by first | (simp; done) | (simp; omega) | omega) _) | (refine Below.alloc ?_ (by first | exact Nat.le_refl _ | (simp; done) | (simp; omega) | omega) _) | (refine Below.trans ?_ (hb2.mono (by first | exact Nat.le_refl _ | (simp; done) | (simp; omega) | omega)))))⟩
end Go.Proofs.YtlidleaigjemnaaDoor
