/- The limits of texts, names, quoted texts and numbers, at them and one past them, are as the document says: LexLimits returns true. Conditions: none (there are no inputs). -/
import Derived.Test.YtibddmlfoglfpaaFrame
import Derived.Test.YtibddmlfoglfpaaLexLimitsM1
namespace Go.Proofs.Ytibddmlfoglfpaa
open Go.RowKit
open Go.ChangeShapes Go.WideShapes Go.ChangeAt Go.RowKit
open Go.ChangeMaps (open_string shut_string)

set_option maxRecDepth 100000 in
theorem lexLimits_run : Abs.saysTrue (Abs.callA Try.prog (lexLimitsM3.spec Try.prog 5000) 5000 30 6 [] ⟨0, [70], .e⟩) = true := by kernel_rfl
theorem lexLimits_any (W : World) : Calls Try.prog 6 #[] W fun e W' => e = .returned (.bool true) ∧ Below W.heap.size W W' :=
  Abs.says_true (by kernel_rfl) (Abs.Memo.specOK (by kernel_rfl) lexLimitsM3_ok) lexLimits_run W

set_option maxRecDepth 100000 in
theorem lexLimitsR_lifted (os : Os) (started : os.Started) (H : Type) (enc : TypeId × Value → H) :
    ReturnsInHanded {} Try.checked os 6 .any (Rows.lexLimitsSpec.pre6 enc Try.prog Try.f6 [] false) (Rows.lexLimitsSpec.post enc Try.prog Try.f6 false true false false) := by
  refine lifted_of Try.func6 (by kernel_rfl) rfl rfl (by kernel_rfl) ?_ rfl os started
    (ChangeSpec.witness6 (enc := enc) (C := Try.checked) false ⟨#[], #[], []⟩ 8 (by kernel_rfl) (by kernel_rfl) (by kernel_rfl) (by kernel_rfl)) ?_
  · intro args ds W p hA
    rw [Try.params6] at hA
    obtain ⟨_, rfl, _⟩ := trodAll_nil hA
    exact ⟨rfl, rfl, rfl⟩
  · intro W args ds p hval hA hlt hsz
    rw [Try.params6] at hA hval hsz
    obtain ⟨hargs, rfl, rfl⟩ := trodAll_nil hA
    obtain rfl : args = #[] := by cases args; simp_all
    exact lexLimits_any W

theorem lexLimitsR_over : Rows.lexLimitsRow.holds Try.pinned (OpenSpec.ofChange Rows.lexLimitsSpec) :=
  OpenClaim.holds_of_wide 6 Try.f6 rfl rfl rfl rfl rfl rfl rfl ⟨rfl, rfl, rfl, rfl, rfl⟩ rfl rfl rfl rfl rfl (by kernel_rfl) Try.func6 (by kernel_rfl)
    (of_decide_eq_true (by kernel_rfl)) (by unfold Func.isWrapper; first | (rw [if_pos (by decide +kernel)]; kernel_rfl) | (rw [if_neg (by decide +kernel)]; exact ⟨rfl, rfl⟩))
    (fun os started H enc _ => lexLimitsR_lifted os started H enc)

theorem lexLimits_proved : Rows.LexLimitsSaid := lexLimitsR_over
#print axioms lexLimits_proved
end Go.Proofs.Ytibddmlfoglfpaa
