/- Facts on the head of the program's own text, once for all statements of a seat. No condition. -/
import Derived.Test.YtohbgfmjnanlkaaRows
import Derived.Test.YtohbgfmjnanlkaaProg
import Derived.JoinedOf
namespace Go.Proofs.Ytohbgfmjnanlkaa

theorem and2 {a b : Bool} (h : a = true) (k : b = true) : (a && b) = true := by rw [h, k]; rfl
theorem seat_facts : (Try.prog.mayEnter && (Try.prog.liftsFinal == Rows.fnExactMeetCurvetteRow.lifted) && (Try.prog.make == some Rows.fnExactMeetCurvetteRow.make)) = true := by kernel_rfl
theorem seat_enter : Try.prog.mayEnter = true := by
  have h := seat_facts
  simp only [Bool.and_eq_true] at h
  exact h.1.1
theorem seat_lifts : Try.prog.liftsFinal = Rows.fnExactMeetCurvetteRow.lifted := by
  have h := seat_facts
  simp only [Bool.and_eq_true] at h
  exact eq_of_beq h.1.2
theorem seat_make : Try.prog.make = some Rows.fnExactMeetCurvetteRow.make := by
  have h := seat_facts
  simp only [Bool.and_eq_true] at h
  exact eq_of_beq h.2
end Go.Proofs.Ytohbgfmjnanlkaa
