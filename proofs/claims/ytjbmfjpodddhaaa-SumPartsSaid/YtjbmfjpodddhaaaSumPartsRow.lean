/- The sum of two texts comes of theirs, by going on and by joining: SumParts returns true for every input. Conditions: none. -/
import Derived.Test.YtjbmfjpodddhaaaFrame
import Derived.Test.YtjbmfjpodddhaaaSumFns
namespace Go.Proofs.Ytjbmfjpodddhaaa
open Go.ChangeShapes Go.WideShapes Go.ChangeAt Go.RowKit
open Go.ChangeMaps (open_string shut_string)

set_option maxRecDepth 100000 in
theorem sumPartsR_lifted (os : Os) (started : os.Started) (H : Type) (enc : TypeId × Value → H) :
    ReturnsInHanded {} Try.checked os 6 .any (Rows.sumPartsSpec.pre6 enc Try.prog Try.f6 [] false) (Rows.sumPartsSpec.post enc Try.prog Try.f6 false true false false) := by
  refine lifted_of Try.func6 (by kernel_rfl) rfl rfl (by kernel_rfl) ?_ rfl os started
    (ChangeSpec.witness6 (enc := enc) (C := Try.checked) false ⟨#[], #[.string ⟨#[]⟩, .string ⟨#[]⟩], []⟩ 8 (by kernel_rfl) (by kernel_rfl) (by kernel_rfl) (by kernel_rfl)) ?_
  · intro args ds W p hA
    rw [Try.params6] at hA
    obtain ⟨v0, vs0, d0, ds0, p0, q0, _, rfl, _, _, r0⟩ := trodAll_cons hA
    obtain ⟨v1, vs1, d1, ds1, p1, q1, _, rfl, _, _, r1⟩ := trodAll_cons r0
    obtain ⟨_, rfl, _⟩ := trodAll_nil r1
    exact ⟨rfl, rfl, rfl⟩
  · intro W args ds p hval hA hlt hsz
    rw [Try.params6] at hA hval hsz
    obtain ⟨v0, vs0, d0, ds0, p0, q0, hargs, rfl, rfl, h0, r0⟩ := trodAll_cons hA
    obtain ⟨v1, vs1, d1, ds1, p1, q1, rfl, rfl, rfl, h1, r1⟩ := trodAll_cons r0
    obtain ⟨rfl, rfl, rfl⟩ := trodAll_nil r1
    obtain rfl : args = #[v0, v1] := by cases args; simp_all
    obtain ⟨b0, hv0⟩ := hval 0 9 v0 rfl rfl
    obtain ⟨x0, rfl, rfl, rfl, hs0⟩ := open_string Try.underlying9 hv0 h0
    obtain ⟨b1, hv1⟩ := hval 1 9 v1 rfl rfl
    obtain ⟨x1, rfl, rfl, rfl, hs1⟩ := open_string Try.underlying9 hv1 h1
    have g0 := sized_str hsz (j := 0) rfl rfl
    have g1 := sized_str hsz (j := 1) rfl rfl
    exact sumParts_any sumSaid x0 x1 W

theorem sumPartsR_over : Rows.sumPartsRow.holds Try.pinned (OpenSpec.ofChange Rows.sumPartsSpec) :=
  OpenClaim.holds_of_wide 6 Try.f6 rfl rfl rfl rfl rfl rfl rfl ⟨rfl, rfl, rfl, rfl, rfl⟩ rfl rfl rfl rfl rfl (by kernel_rfl) Try.func6 (by kernel_rfl)
    (of_decide_eq_true (by kernel_rfl)) (by unfold Func.isWrapper; first | (rw [if_pos (by decide +kernel)]; kernel_rfl) | (rw [if_neg (by decide +kernel)]; exact ⟨rfl, rfl⟩))
    (fun os started H enc _ => sumPartsR_lifted os started H enc)

theorem sumParts_proved : Rows.SumPartsSaid := sumPartsR_over
#print axioms sumParts_proved
end Go.Proofs.Ytjbmfjpodddhaaa
