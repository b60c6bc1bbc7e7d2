/- A sign ahead of each byte makes any text mean itself, in a glob and in a regular pattern: PatternEscapes returns true for every input. Conditions: none. -/
import Derived.Test.YteibdplpbcobbaaEsc6
namespace Go.Proofs.Yteibdplpbcobbaa
open Go.ChangeShapes Go.WideShapes Go.ChangeAt Go.RowKit
open Go.ChangeMaps (open_string shut_string)

set_option maxRecDepth 100000 in
theorem patternEscapesR_lifted (os : Os) (started : os.Started) (H : Type) (enc : TypeId × Value → H) :
    ReturnsInHanded {} Try.checked os 10 .any (Rows.patternEscapesSpec.pre6 enc Try.prog Try.f10 [] false) (Rows.patternEscapesSpec.post enc Try.prog Try.f10 false true false false) := by
  refine lifted_of Try.func10 (by kernel_rfl) rfl rfl (by kernel_rfl) ?_ rfl os started
    (ChangeSpec.witness6 (enc := enc) (C := Try.checked) false ⟨#[], #[.string .empty], []⟩ 8 (by kernel_rfl) (by kernel_rfl) (by kernel_rfl) (by kernel_rfl)) ?_
  · intro args ds W p hA
    rw [Try.params10] at hA
    obtain ⟨v0, vs0, d0, ds0, p0, q0, _, rfl, _, _, r0⟩ := trodAll_cons hA
    obtain ⟨_, rfl, _⟩ := trodAll_nil r0
    exact ⟨rfl, rfl, rfl⟩
  · intro W args ds p hval hA hlt hsz
    obtain ⟨m, h, xs, F, hX, hr, hP⟩ := Abs.open_all (n := 12) [57] hA hlt hsz (by kernel_rfl) (fun i t v h1 h2 => hval i t v (by simpa using h1) (by simpa using h2))
    rw [Try.params10] at hP
    obtain ⟨h2, hs⟩ := patternEscapes_says h hX xs hP
    exact Abs.says_in hs F hr

theorem patternEscapesR_over : Rows.patternEscapesRow.holds Try.pinned (OpenSpec.ofChange Rows.patternEscapesSpec) :=
  OpenClaim.holds_of_wide 10 Try.f10 rfl rfl rfl rfl rfl rfl rfl ⟨rfl, rfl, rfl, rfl, rfl⟩ rfl rfl rfl rfl rfl (by kernel_rfl) Try.func10 (by kernel_rfl)
    (of_decide_eq_true (by kernel_rfl)) (by unfold Func.isWrapper; first | (rw [if_pos (by decide +kernel)]; kernel_rfl) | (rw [if_neg (by decide +kernel)]; exact ⟨rfl, rfl⟩))
    (fun os started H enc _ => patternEscapesR_lifted os started H enc)

theorem patternEscapes_proved : Rows.PatternEscapesSaid := patternEscapesR_over
#print axioms patternEscapes_proved
end Go.Proofs.Yteibdplpbcobbaa
