/- In one term nobody is voted for behind another one, and no term falls, whatever is cut off between: VoteOnce returns true for every input. Conditions: none. -/
import Derived.Test.YteecmjmglmpbpaaKO8
namespace Go.Proofs.Yteecmjmglmpbpaa
open Go.ChangeShapes Go.WideShapes Go.ChangeAt Go.RowKit
open Go.ChangeMaps (open_string shut_string)

set_option maxRecDepth 100000 in
theorem voteOnceR_lifted (os : Os) (started : os.Started) (H : Type) (enc : TypeId × Value → H) :
    ReturnsInHanded {} Try.checked os 7 .any (Rows.voteOnceSpec.pre6 enc Try.prog Try.f7 [] false) (Rows.voteOnceSpec.post enc Try.prog Try.f7 false true false false) := by
  refine lifted_of Try.func7 (by kernel_rfl) rfl rfl (by kernel_rfl) ?_ rfl os started
    (ChangeSpec.witness6 (enc := enc) (C := Try.checked) false ⟨#[], #[.slice none 0 0], []⟩ 8 (by kernel_rfl) (by kernel_rfl) (by kernel_rfl) (by kernel_rfl)) ?_
  · intro args ds W p hA
    rw [Try.params7] at hA
    obtain ⟨v0, vs0, d0, ds0, p0, q0, _, rfl, _, _, r0⟩ := trodAll_cons hA
    obtain ⟨_, rfl, _⟩ := trodAll_nil r0
    exact ⟨rfl, rfl, rfl⟩
  · intro W args ds p hval hA hlt hsz
    obtain ⟨m, h, xs, F, hX, hr, hP⟩ := Abs.open_all (n := 12) [] hA hlt hsz (by kernel_rfl) (fun i t v h1 h2 => hval i t v (by simpa using h1) (by simpa using h2))
    rw [Try.params7] at hP
    obtain ⟨h2, hs⟩ := voteOnce_says h hX xs hP
    exact Abs.says_in hs F hr

theorem voteOnceR_over : Rows.voteOnceRow.holds Try.pinned (OpenSpec.ofChange Rows.voteOnceSpec) :=
  OpenClaim.holds_of_wide 7 Try.f7 rfl rfl rfl rfl rfl rfl rfl ⟨rfl, rfl, rfl, rfl, rfl⟩ rfl rfl rfl rfl rfl (by kernel_rfl) Try.func7 (by kernel_rfl)
    (of_decide_eq_true (by kernel_rfl)) (by unfold Func.isWrapper; first | (rw [if_pos (by decide +kernel)]; kernel_rfl) | (rw [if_neg (by decide +kernel)]; exact ⟨rfl, rfl⟩))
    (fun os started H enc _ => voteOnceR_lifted os started H enc)

theorem voteOnce_proved : Rows.VoteOnceSaid := voteOnceR_over
#print axioms voteOnce_proved
end Go.Proofs.Yteecmjmglmpbpaa
