/- Facts on the head of the program's own text, once for all statements of a seat. No condition. -/
import Derived.Test.YtbempmbnhfnlbaaRows
import Derived.Test.YtbempmbnhfnlbaaProg
import Derived.JoinedOf
namespace Go.Proofs.Ytbempmbnhfnlbaa

theorem and2 {a b : Bool} (h : a = true) (k : b = true) : (a && b) = true := by rw [h, k]; rfl
theorem seat_facts : (Try.prog.mayEnter && (Try.prog.liftsFinal == Rows.fnExactIsClusterRow.lifted) && (Try.prog.make == some Rows.fnExactIsClusterRow.make)) = true := by kernel_rfl
theorem seat_enter : Try.prog.mayEnter = true := by
  have h := seat_facts
  simp only [Bool.and_eq_true] at h
  exact h.1.1
theorem seat_lifts : Try.prog.liftsFinal = Rows.fnExactIsClusterRow.lifted := by
  have h := seat_facts
  simp only [Bool.and_eq_true] at h
  exact eq_of_beq h.1.2
theorem seat_make : Try.prog.make = some Rows.fnExactIsClusterRow.make := by
  have h := seat_facts
  simp only [Bool.and_eq_true] at h
  exact eq_of_beq h.2
end Go.Proofs.Ytbempmbnhfnlbaa
