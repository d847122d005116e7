/- The square of a cluster. Conditions: stated at each theorem. -/
import Derived.Test.YtohbgfmjnanlkaaUn17
import Derived.Test.YtohbgfmjnanlkaaClQ
namespace Go.Proofs.Ytohbgfmjnanlkaa
open Go.ChangeShapes Go.WideShapes Go.ChangeAt Go.RowKit Go.Deep
set_option linter.unusedVariables false
set_option linter.unusedSimpArgs false

theorem ul_cl {P S W : List Int} (h : ulC P S W = 0) : ∃ n, ClOK P S W n ∧ wtOK (ulL P S W n) = true := by
  have hb : clB P S W = true := by
    cases hb : clB P S W with
    | true => rfl
    | false => simp [ulC, hb] at h
  obtain ⟨n, hC⟩ := clB_true hb
  refine ⟨n, hC, ?_⟩
  rw [ul_mid hC] at h
  cases e : wtOK (ulL P S W n)
  · rw [e] at h; cases h
  · rfl
noncomputable def sqA (P S W : List Int) : Int := if ulC P S W = 0 then pdN (ulWA P S W) (ulWA P S W) P.length else 0

set_option maxRecDepth 100000 in
set_option maxHeartbeats 4000000 in
theorem product0_any (A A' : Option Addr) (c c' : Nat) (w : World) : Calls Try.prog 68 #[.slice A 0 c, .slice A' 0 c'] w fun e w' => e = .returned (.int .i64 0) ∧ ∃ m, w' = w.drewN m := by
  go_enter Try.func68, Try.ntmps68
  go_wp2_with fail
  go_loopw [5, 10] (fun vs vi wr => vs = .int .i64 0 ∧ vi = .int .i64 0 ∧ wr = w) (fun _ _ _ => 0)
  case atStart => exact ⟨rfl, rfl, rfl⟩
  case round =>
    obtain ⟨rfl, rfl, rfl⟩ := hrel
    go_wp2_with fail
    go_ret
    exact ⟨rfl, 0, rfl⟩

end Go.Proofs.Ytohbgfmjnanlkaa
