/- The model's ParseFraction: its ways. Conditions: stated at each theorem. -/
import Derived.Test.YtbipihamkfifjaaDoorPfSp
import Derived.Test.YtbipihamkfifjaaDoorPfSn
namespace Go.Proofs.YtbipihamkfifjaaDoor
open Go.ChangeShapes Go.WideShapes Go.ChangeAt Go.RowKit
set_option linter.unusedVariables false

set_option maxRecDepth 100000 in
/-- The model's ParseFraction. -/
theorem specParseFraction_any (s : ByteArray) (w : World) (hl : s.size ≤ 1048576) :
    Calls Tryd.prog 23 #[.string s] w (PfAns (pfR svB s.data.toList) w) := by
  obtain ⟨b, hb⟩ : ∃ b, Lib.trimPrefix s.data.toList [45] = b := ⟨_, rfl⟩
  have hbl : b.length ≤ s.size := by have := trim_len hb; rw [len_str] at this; exact this
  cases hn : Lib.hasPrefix s.data.toList [45]
  · rcases Nat.eq_zero_or_pos s.size with h0 | h0
    · have e : b = [] := by have := len_str s; rw [pos_same _ _ hn hb] at this; exact List.length_eq_zero_iff.1 (by omega)
      subst e
      exact spf_e1_no s [] w hl hb hn h0 rfl (by decide) (by decide)
    · rcases spl_cases 47 (by decide) b with ⟨hL, hc⟩ | ⟨H, T, hL, hc⟩ | ⟨H, y, z, L, hL, hc1, hc2, hc3⟩
      · cases hH : svB b
        · exact spf_p1_no s b w hl hb hn h0 hL hc hH
        cases hr : fracB (valL 0 b : Int) ((1 : Nat) : Int)
        · exact spf_p1_nf s b w hl hb hn h0 hL hc hH hr
        by_cases hx : txt (valL 0 b : Int) (1 : Nat) = s.data.toList
        · exact spf_p1_ok s b w hl hb hn h0 hL hc hH hr hx
        · exact spf_p1_nt s b w hl hb hn h0 hL hc hH hr hx
      · cases hH : svB H
        · exact spf_p2_noH s b w hl hb hn h0 H T hL hc hH
        cases hT : svB T
        · exact spf_p2_noT s b w hl hb hn h0 H T hL hc hH hT
        cases hr : fracB (valL 0 H : Int) ((valL 0 T : Nat) : Int)
        · exact spf_p2_nf s b w hl hb hn h0 H T hL hc hH hT hr
        by_cases hx : txt (valL 0 H : Int) (valL 0 T) = s.data.toList
        · exact spf_p2_ok s b w hl hb hn h0 H T hL hc hH hT hr hx
        · exact spf_p2_nt s b w hl hb hn h0 H T hL hc hH hT hr hx
      · obtain ⟨H', T', F', hc⟩ : ∃ H' T' F', Lib.cut b [47] = (H', T', F') := ⟨_, _, _, rfl⟩
        rw [hc] at hc1 hc2 hc3
        simp only at hc1 hc2 hc3
        subst hc1; subst hc2
        have hlen := spl_len 47 b []
        rw [hL] at hlen; simp at hlen
        exact spf_p3 s b w hl hb hn h0 H' T' L.length (by omega) ⟨y, z, L, hL, rfl⟩ hc (sv_no hc3)
  · rcases spl_cases 47 (by decide) b with ⟨hL, hc⟩ | ⟨H, T, hL, hc⟩ | ⟨H, y, z, L, hL, hc1, hc2, hc3⟩
    · cases hH : svB b
      · exact spf_n1_no s b w hl hb hn hL hc hH
      cases hr : fracB (-(valL 0 b : Int)) ((1 : Nat) : Int)
      · exact spf_n1_nf s b w hl hb hn hL hc hH hr
      by_cases hx : txt (-(valL 0 b : Int)) (1 : Nat) = s.data.toList
      · exact spf_n1_ok s b w hl hb hn hL hc hH hr hx
      · exact spf_n1_nt s b w hl hb hn hL hc hH hr hx
    · cases hH : svB H
      · exact spf_n2_noH s b w hl hb hn H T hL hc hH
      cases hT : svB T
      · exact spf_n2_noT s b w hl hb hn H T hL hc hH hT
      cases hr : fracB (-(valL 0 H : Int)) ((valL 0 T : Nat) : Int)
      · exact spf_n2_nf s b w hl hb hn H T hL hc hH hT hr
      by_cases hx : txt (-(valL 0 H : Int)) (valL 0 T) = s.data.toList
      · exact spf_n2_ok s b w hl hb hn H T hL hc hH hT hr hx
      · exact spf_n2_nt s b w hl hb hn H T hL hc hH hT hr hx
    · obtain ⟨H', T', F', hc⟩ : ∃ H' T' F', Lib.cut b [47] = (H', T', F') := ⟨_, _, _, rfl⟩
      rw [hc] at hc1 hc2 hc3
      simp only at hc1 hc2 hc3
      subst hc1; subst hc2
      have hlen := spl_len 47 b []
      rw [hL] at hlen; simp at hlen
      exact spf_n3 s b w hl hb hn H' T' L.length (by omega) ⟨y, z, L, hL, rfl⟩ hc (sv_no hc3)
end Go.Proofs.YtbipihamkfifjaaDoor
