/- Patterns and their texts are there and back: one text for each pattern, one pattern for each text: PatternBack returns true for every input. Conditions: none. -/
import Derived.Test.YteibdplpbcobbaaPb7
namespace Go.Proofs.Yteibdplpbcobbaa
open Go.ChangeShapes Go.WideShapes Go.ChangeAt Go.RowKit
open Go.ChangeMaps (open_string shut_string)

set_option maxRecDepth 100000 in
theorem patternBackR_lifted (os : Os) (started : os.Started) (H : Type) (enc : TypeId × Value → H) :
    ReturnsInHanded {} Try.checked os 8 .any (Rows.patternBackSpec.pre6 enc Try.prog Try.f8 [] false) (Rows.patternBackSpec.post enc Try.prog Try.f8 false true false false) := by
  refine lifted_of Try.func8 (by kernel_rfl) rfl rfl (by kernel_rfl) ?_ rfl os started
    (ChangeSpec.witness6 (enc := enc) (C := Try.checked) false ⟨#[], #[.agg #[.int .i64 0, .string .empty], .string .empty], []⟩ 8 (by kernel_rfl) (by kernel_rfl) (by kernel_rfl) (by kernel_rfl)) ?_
  · intro args ds W p hA
    rw [Try.params8] at hA
    obtain ⟨v0, vs0, d0, ds0, p0, q0, _, rfl, _, _, r0⟩ := trodAll_cons hA
    obtain ⟨v1, vs1, d1, ds1, p1, q1, _, rfl, _, _, r1⟩ := trodAll_cons r0
    obtain ⟨_, rfl, _⟩ := trodAll_nil r1
    exact ⟨rfl, rfl, rfl⟩
  · intro W args ds p hval hA hlt hsz
    obtain ⟨m, h, xs, F, hX, hr, hP⟩ := Abs.open_all (n := 12) [57] hA hlt hsz (by kernel_rfl) (fun i t v h1 h2 => hval i t v (by simpa using h1) (by simpa using h2))
    rw [Try.params8] at hP
    obtain ⟨h2, hs⟩ := patternBack_says h hX xs hP
    exact Abs.says_in hs F hr

theorem patternBackR_over : Rows.patternBackRow.holds Try.pinned (OpenSpec.ofChange Rows.patternBackSpec) :=
  OpenClaim.holds_of_wide 8 Try.f8 rfl rfl rfl rfl rfl rfl rfl ⟨rfl, rfl, rfl, rfl, rfl⟩ rfl rfl rfl rfl rfl (by kernel_rfl) Try.func8 (by kernel_rfl)
    (of_decide_eq_true (by kernel_rfl)) (by unfold Func.isWrapper; first | (rw [if_pos (by decide +kernel)]; kernel_rfl) | (rw [if_neg (by decide +kernel)]; exact ⟨rfl, rfl⟩))
    (fun os started H enc _ => patternBackR_lifted os started H enc)

theorem patternBack_proved : Rows.PatternBackSaid := patternBackR_over
#print axioms patternBack_proved
end Go.Proofs.Yteibdplpbcobbaa
