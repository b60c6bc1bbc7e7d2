/- The examples of messages come out as the document says: MessageKnown returns true. Conditions: none (there are no inputs). -/
import Derived.Test.YtpjnjdplgigmpaaFrame
import Derived.Test.YtpjnjdplgigmpaaAbs22
namespace Go.Proofs.Ytpjnjdplgigmpaa
open Go.RowKit
open Go.ChangeShapes Go.WideShapes Go.ChangeAt Go.RowKit
open Go.ChangeMaps (open_string shut_string)
def messageKnownM0 : Abs.Memo := []
theorem messageKnownM0_ok : messageKnownM0.ok Try.prog := Abs.Memo.ok_nil

set_option maxRecDepth 100000 in
theorem messageKnown_run : Abs.saysTrue (Abs.callA Try.prog (messageKnownM0.spec Try.prog 5000) 5000 30 3 [] ⟨0, [53], .e⟩) = true := by kernel_rfl
theorem messageKnown_any (W : World) : Calls Try.prog 3 #[] W fun e W' => e = .returned (.bool true) ∧ Below W.heap.size W W' :=
  Abs.says_true (by kernel_rfl) (Abs.Memo.specOK (by kernel_rfl) messageKnownM0_ok) messageKnown_run W


set_option maxRecDepth 100000 in
theorem messageKnownR_lifted (os : Os) (started : os.Started) (H : Type) (enc : TypeId × Value → H) :
    ReturnsInHanded {} Try.checked os 3 .any (Rows.messageKnownSpec.pre6 enc Try.prog Try.f3 [] false) (Rows.messageKnownSpec.post enc Try.prog Try.f3 false true false false) := by
  refine lifted_of Try.func3 (by kernel_rfl) rfl rfl (by kernel_rfl) ?_ rfl os started
    (ChangeSpec.witness6 (enc := enc) (C := Try.checked) false ⟨#[], #[], []⟩ 8 (by kernel_rfl) (by kernel_rfl) (by kernel_rfl) (by kernel_rfl)) ?_
  · intro args ds W p hA
    rw [Try.params3] at hA
    obtain ⟨_, rfl, _⟩ := trodAll_nil hA
    exact ⟨rfl, rfl, rfl⟩
  · intro W args ds p hval hA hlt hsz
    rw [Try.params3] at hA hval hsz
    obtain ⟨hargs, rfl, rfl⟩ := trodAll_nil hA
    obtain rfl : args = #[] := by cases args; simp_all
    exact messageKnown_any W

theorem messageKnownR_over : Rows.messageKnownRow.holds Try.pinned (OpenSpec.ofChange Rows.messageKnownSpec) :=
  OpenClaim.holds_of_wide 3 Try.f3 rfl rfl rfl rfl rfl rfl rfl ⟨rfl, rfl, rfl, rfl, rfl⟩ rfl rfl rfl rfl rfl (by kernel_rfl) Try.func3 (by kernel_rfl)
    (of_decide_eq_true (by kernel_rfl)) (by unfold Func.isWrapper; first | (rw [if_pos (by decide +kernel)]; kernel_rfl) | (rw [if_neg (by decide +kernel)]; exact ⟨rfl, rfl⟩))
    (fun os started H enc _ => messageKnownR_lifted os started H enc)

theorem messageKnown_proved : Rows.MessageKnownSaid := messageKnownR_over
#print axioms messageKnown_proved
end Go.Proofs.Ytpjnjdplgigmpaa
