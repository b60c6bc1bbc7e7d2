/- The document's examples (closed). JournalKnown returns true. Conditions: none (there are no inputs). -/
import Derived.Test.YtbhblbffdmiepaaFrame
import Derived.Test.YtbhblbffdmiepaaJournalKnownM0
namespace Go.Proofs.Ytbhblbffdmiepaa
open Go.RowKit
open Go.ChangeShapes Go.WideShapes Go.ChangeAt Go.RowKit
open Go.ChangeMaps (open_string shut_string)

set_option maxRecDepth 100000 in
theorem journalKnown_run : Abs.saysTrue (Abs.runB Try.prog journalKnownM3 [62, 14, 73, 32] [] 5000 40 3 []) = true := by kernel_rfl
theorem journalKnown_any (W : World) : Calls Try.prog 3 #[] W fun e W' => e = .returned (.bool true) ∧ Below W.heap.size W W' :=
  Abs.saysB_true (by kernel_rfl) journalKnownM3_ok journalKnown_run W


set_option maxRecDepth 100000 in
theorem journalKnownR_lifted (os : Os) (started : os.Started) (H : Type) (enc : TypeId × Value → H) :
    ReturnsInHanded {} Try.checked os 3 .any (Rows.journalKnownSpec.pre6 enc Try.prog Try.f3 [] false) (Rows.journalKnownSpec.post enc Try.prog Try.f3 false true false false) := by
  refine lifted_of Try.func3 (by kernel_rfl) rfl rfl (by kernel_rfl) ?_ rfl os started
    (ChangeSpec.witness6 (enc := enc) (C := Try.checked) false ⟨#[], #[], []⟩ 8 (by kernel_rfl) (by kernel_rfl) (by kernel_rfl) (by kernel_rfl)) ?_
  · intro args ds W p hA
    rw [Try.params3] at hA
    obtain ⟨_, rfl, _⟩ := trodAll_nil hA
    exact ⟨rfl, rfl, rfl⟩
  · intro W args ds p hval hA hlt hsz
    rw [Try.params3] at hA hval hsz
    obtain ⟨hargs, rfl, rfl⟩ := trodAll_nil hA
    obtain rfl : args = #[] := by cases args; simp_all
    exact journalKnown_any W

theorem journalKnownR_over : Rows.journalKnownRow.holds Try.pinned (OpenSpec.ofChange Rows.journalKnownSpec) :=
  OpenClaim.holds_of_wide 3 Try.f3 rfl rfl rfl rfl rfl rfl rfl ⟨rfl, rfl, rfl, rfl, rfl⟩ rfl rfl rfl rfl rfl (by kernel_rfl) Try.func3 (by kernel_rfl)
    (of_decide_eq_true (by kernel_rfl)) (by unfold Func.isWrapper; first | (rw [if_pos (by decide +kernel)]; kernel_rfl) | (rw [if_neg (by decide +kernel)]; exact ⟨rfl, rfl⟩))
    (fun os started H enc _ => journalKnownR_lifted os started H enc)

theorem journalKnown_proved : Rows.JournalKnownSaid := journalKnownR_over
#print axioms journalKnown_proved
end Go.Proofs.Ytbhblbffdmiepaa
