/- The limits of a ring, at them and one past them, are what the document says: RingLimits returns true. Conditions: none (there are no inputs). -/
import Derived.Test.YtbihkjbhmiemhaaFrame
import Derived.Test.YtbihkjbhmiemhaaAbs22
namespace Go.Proofs.Ytbihkjbhmiemhaa
open Go.RowKit
open Go.ChangeShapes Go.WideShapes Go.ChangeAt Go.RowKit
open Go.ChangeMaps (open_string shut_string)
def ringLimitsM0 : Abs.Memo := []
theorem ringLimitsM0_ok : ringLimitsM0.ok Try.prog := Abs.Memo.ok_nil

set_option maxRecDepth 100000 in
theorem ringLimits_run : Abs.saysTrue (Abs.callA Try.prog (ringLimitsM0.spec Try.prog 5000) 5000 30 7 [] ⟨0, [], .e⟩) = true := by kernel_rfl
theorem ringLimits_any (W : World) : Calls Try.prog 7 #[] W fun e W' => e = .returned (.bool true) ∧ Below W.heap.size W W' :=
  Abs.says_true (by kernel_rfl) (Abs.Memo.specOK (by kernel_rfl) ringLimitsM0_ok) ringLimits_run W


set_option maxRecDepth 100000 in
theorem ringLimitsR_lifted (os : Os) (started : os.Started) (H : Type) (enc : TypeId × Value → H) :
    ReturnsInHanded {} Try.checked os 7 .any (Rows.ringLimitsSpec.pre6 enc Try.prog Try.f7 [] false) (Rows.ringLimitsSpec.post enc Try.prog Try.f7 false true false false) := by
  refine lifted_of Try.func7 (by kernel_rfl) rfl rfl (by kernel_rfl) ?_ rfl os started
    (ChangeSpec.witness6 (enc := enc) (C := Try.checked) false ⟨#[], #[], []⟩ 8 (by kernel_rfl) (by kernel_rfl) (by kernel_rfl) (by kernel_rfl)) ?_
  · intro args ds W p hA
    rw [Try.params7] at hA
    obtain ⟨_, rfl, _⟩ := trodAll_nil hA
    exact ⟨rfl, rfl, rfl⟩
  · intro W args ds p hval hA hlt hsz
    rw [Try.params7] at hA hval hsz
    obtain ⟨hargs, rfl, rfl⟩ := trodAll_nil hA
    obtain rfl : args = #[] := by cases args; simp_all
    exact ringLimits_any W

theorem ringLimitsR_over : Rows.ringLimitsRow.holds Try.pinned (OpenSpec.ofChange Rows.ringLimitsSpec) :=
  OpenClaim.holds_of_wide 7 Try.f7 rfl rfl rfl rfl rfl rfl rfl ⟨rfl, rfl, rfl, rfl, rfl⟩ rfl rfl rfl rfl rfl (by kernel_rfl) Try.func7 (by kernel_rfl)
    (of_decide_eq_true (by kernel_rfl)) (by unfold Func.isWrapper; first | (rw [if_pos (by decide +kernel)]; kernel_rfl) | (rw [if_neg (by decide +kernel)]; exact ⟨rfl, rfl⟩))
    (fun os started H enc _ => ringLimitsR_lifted os started H enc)

theorem ringLimits_proved : Rows.RingLimitsSaid := ringLimitsR_over
#print axioms ringLimits_proved
end Go.Proofs.Ytbihkjbhmiemhaa
