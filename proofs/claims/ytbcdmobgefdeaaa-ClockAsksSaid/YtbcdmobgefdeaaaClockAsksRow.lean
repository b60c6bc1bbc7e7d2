/- The bounds of two clocks are what the document says, and grow with the ticks and with rho: ClockAsks returns true for any two numbers. Conditions: none. -/
import Derived.Test.YtbcdmobgefdeaaaFrame
import Derived.Test.YtbcdmobgefdeaaaClockLaws
namespace Go.Proofs.Ytbcdmobgefdeaaa
open Go.ChangeShapes Go.WideShapes Go.ChangeAt Go.RowKit
open Go.ChangeMaps (open_string shut_string)

set_option maxRecDepth 100000 in
theorem clockAsksR_lifted (os : Os) (started : os.Started) (H : Type) (enc : TypeId × Value → H) :
    ReturnsInHanded {} Try.checked os 6 .any (Rows.clockAsksSpec.pre6 enc Try.prog Try.f6 [] false) (Rows.clockAsksSpec.post enc Try.prog Try.f6 false true false false) := by
  refine lifted_of Try.func6 (by kernel_rfl) rfl rfl (by kernel_rfl) ?_ rfl os started
    (ChangeSpec.witness6 (enc := enc) (C := Try.checked) false ⟨#[], #[.int .i64 0, .int .i64 0], []⟩ 8 (by kernel_rfl) (by kernel_rfl) (by kernel_rfl) (by kernel_rfl)) ?_
  · intro args ds W p hA
    rw [Try.params6] at hA
    obtain ⟨v0, vs0, d0, ds0, p0, q0, _, rfl, _, _, r0⟩ := trodAll_cons hA
    obtain ⟨v1, vs1, d1, ds1, p1, q1, _, rfl, _, _, r1⟩ := trodAll_cons r0
    obtain ⟨_, rfl, _⟩ := trodAll_nil r1
    exact ⟨rfl, rfl, rfl⟩
  · intro W args ds p hval hA hlt hsz
    rw [Try.params6] at hA hval hsz
    obtain ⟨v0, vs0, d0, ds0, p0, q0, hargs, rfl, rfl, h0, r0⟩ := trodAll_cons hA
    obtain ⟨v1, vs1, d1, ds1, p1, q1, rfl, rfl, rfl, h1, r1⟩ := trodAll_cons r0
    obtain ⟨rfl, rfl, rfl⟩ := trodAll_nil r1
    obtain rfl : args = #[v0, v1] := by cases args; simp_all
    obtain ⟨b0, hv0⟩ := hval 0 3 v0 rfl rfl
    obtain ⟨z0, rfl, rfl, rfl, w0⟩ := open_int Try.underlying3 hv0 h0
    obtain ⟨b1, hv1⟩ := hval 1 3 v1 rfl rfl
    obtain ⟨z1, rfl, rfl, rfl, w1⟩ := open_int Try.underlying3 hv1 h1
    have e0 := bounds_i64 w0
    have e1 := bounds_i64 w1
    exact clockAsks_any z0 z1 W

theorem clockAsksR_over : Rows.clockAsksRow.holds Try.pinned (OpenSpec.ofChange Rows.clockAsksSpec) :=
  OpenClaim.holds_of_wide 6 Try.f6 rfl rfl rfl rfl rfl rfl rfl ⟨rfl, rfl, rfl, rfl, rfl⟩ rfl rfl rfl rfl rfl (by kernel_rfl) Try.func6 (by kernel_rfl)
    (of_decide_eq_true (by kernel_rfl)) (by unfold Func.isWrapper; first | (rw [if_pos (by decide +kernel)]; kernel_rfl) | (rw [if_neg (by decide +kernel)]; exact ⟨rfl, rfl⟩))
    (fun os started H enc _ => clockAsksR_lifted os started H enc)

theorem clockAsks_proved : Rows.ClockAsksSaid := clockAsksR_over
#print axioms clockAsks_proved
end Go.Proofs.Ytbcdmobgefdeaaa
