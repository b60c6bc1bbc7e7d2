/- The document's examples (closed). GatewayKnown returns true. Conditions: none (there are no inputs). -/
import Derived.Test.YtfcedccphhmdgaaFrame
import Derived.Test.YtfcedccphhmdgaaGatewayKnownM0
namespace Go.Proofs.Ytfcedccphhmdgaa
open Go.RowKit
open Go.ChangeShapes Go.WideShapes Go.ChangeAt Go.RowKit
open Go.ChangeMaps (open_string shut_string)

set_option maxRecDepth 100000 in
theorem gatewayKnown_run : Abs.saysTrue (Abs.runB Try.prog gatewayKnownM1 [57, 56, 15, 33] [] 5000 40 3 []) = true := by kernel_rfl
theorem gatewayKnown_any (W : World) : Calls Try.prog 3 #[] W fun e W' => e = .returned (.bool true) ∧ Below W.heap.size W W' :=
  Abs.saysB_true (by kernel_rfl) gatewayKnownM1_ok gatewayKnown_run W


set_option maxRecDepth 100000 in
theorem gatewayKnownR_lifted (os : Os) (started : os.Started) (H : Type) (enc : TypeId × Value → H) :
    ReturnsInHanded {} Try.checked os 3 .any (Rows.gatewayKnownSpec.pre6 enc Try.prog Try.f3 [] false) (Rows.gatewayKnownSpec.post enc Try.prog Try.f3 false true false false) := by
  refine lifted_of Try.func3 (by kernel_rfl) rfl rfl (by kernel_rfl) ?_ rfl os started
    (ChangeSpec.witness6 (enc := enc) (C := Try.checked) false ⟨#[], #[], []⟩ 8 (by kernel_rfl) (by kernel_rfl) (by kernel_rfl) (by kernel_rfl)) ?_
  · intro args ds W p hA
    rw [Try.params3] at hA
    obtain ⟨_, rfl, _⟩ := trodAll_nil hA
    exact ⟨rfl, rfl, rfl⟩
  · intro W args ds p hval hA hlt hsz
    rw [Try.params3] at hA hval hsz
    obtain ⟨hargs, rfl, rfl⟩ := trodAll_nil hA
    obtain rfl : args = #[] := by cases args; simp_all
    exact gatewayKnown_any W

theorem gatewayKnownR_over : Rows.gatewayKnownRow.holds Try.pinned (OpenSpec.ofChange Rows.gatewayKnownSpec) :=
  OpenClaim.holds_of_wide 3 Try.f3 rfl rfl rfl rfl rfl rfl rfl ⟨rfl, rfl, rfl, rfl, rfl⟩ rfl rfl rfl rfl rfl (by kernel_rfl) Try.func3 (by kernel_rfl)
    (of_decide_eq_true (by kernel_rfl)) (by unfold Func.isWrapper; first | (rw [if_pos (by decide +kernel)]; kernel_rfl) | (rw [if_neg (by decide +kernel)]; exact ⟨rfl, rfl⟩))
    (fun os started H enc _ => gatewayKnownR_lifted os started H enc)

theorem gatewayKnown_proved : Rows.GatewayKnownSaid := gatewayKnownR_over
#print axioms gatewayKnown_proved
end Go.Proofs.Ytfcedccphhmdgaa
