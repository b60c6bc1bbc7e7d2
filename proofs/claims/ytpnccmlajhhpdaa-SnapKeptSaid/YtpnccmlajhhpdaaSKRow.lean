/- Whatever is saved, wherever the power fails, whatever the crash leaves: behind it the snapshot that was saved last is there, or the one being saved, whole: SnapKept returns true for every input. Conditions: none. -/
import Derived.Test.YtpnccmlajhhpdaaSK8
namespace Go.Proofs.Ytpnccmlajhhpdaa
open Go.ChangeShapes Go.WideShapes Go.ChangeAt Go.RowKit
open Go.ChangeMaps (open_string shut_string)

set_option maxRecDepth 100000 in
theorem snapKeptR_lifted (os : Os) (started : os.Started) (H : Type) (enc : TypeId × Value → H) :
    ReturnsInHanded {} Try.checked os 7 .any (Rows.snapKeptSpec.pre6 enc Try.prog Try.f7 [] false) (Rows.snapKeptSpec.post enc Try.prog Try.f7 false true false false) := by
  refine lifted_of Try.func7 (by kernel_rfl) rfl rfl (by kernel_rfl) ?_ rfl os started
    (ChangeSpec.witness6 (enc := enc) (C := Try.checked) false ⟨#[], #[.slice none 0 0, .int .i64 0, .slice none 0 0, .int .i64 0], []⟩ 8 (by kernel_rfl) (by kernel_rfl) (by kernel_rfl) (by kernel_rfl)) ?_
  · intro args ds W p hA
    rw [Try.params7] at hA
    obtain ⟨v0, vs0, d0, ds0, p0, q0, _, rfl, _, _, r0⟩ := trodAll_cons hA
    obtain ⟨v1, vs1, d1, ds1, p1, q1, _, rfl, _, _, r1⟩ := trodAll_cons r0
    obtain ⟨v2, vs2, d2, ds2, p2, q2, _, rfl, _, _, r2⟩ := trodAll_cons r1
    obtain ⟨v3, vs3, d3, ds3, p3, q3, _, rfl, _, _, r3⟩ := trodAll_cons r2
    obtain ⟨_, rfl, _⟩ := trodAll_nil r3
    exact ⟨rfl, rfl, rfl⟩
  · intro W args ds p hval hA hlt hsz
    obtain ⟨m, h, xs, F, hX, hr, hP⟩ := Abs.open_all (n := 12) [89] hA hlt hsz (by kernel_rfl) (fun i t v h1 h2 => hval i t v (by simpa using h1) (by simpa using h2))
    rw [Try.params7] at hP
    obtain ⟨h2, hs⟩ := snapKept_says h hX xs hP
    exact Abs.says_in hs F hr

theorem snapKeptR_over : Rows.snapKeptRow.holds Try.pinned (OpenSpec.ofChange Rows.snapKeptSpec) :=
  OpenClaim.holds_of_wide 7 Try.f7 rfl rfl rfl rfl rfl rfl rfl ⟨rfl, rfl, rfl, rfl, rfl⟩ rfl rfl rfl rfl rfl (by kernel_rfl) Try.func7 (by kernel_rfl)
    (of_decide_eq_true (by kernel_rfl)) (by unfold Func.isWrapper; first | (rw [if_pos (by decide +kernel)]; kernel_rfl) | (rw [if_neg (by decide +kernel)]; exact ⟨rfl, rfl⟩))
    (fun os started H enc _ => snapKeptR_lifted os started H enc)

theorem snapKept_proved : Rows.SnapKeptSaid := snapKeptR_over
#print axioms snapKept_proved
end Go.Proofs.Ytpnccmlajhhpdaa
