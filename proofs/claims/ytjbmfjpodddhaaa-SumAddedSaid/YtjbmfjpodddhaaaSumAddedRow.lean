/- Of three texts of one length the sum of all three, added, is the sums, added: SumAdded returns true for every input. Conditions: none. -/
import Derived.Test.YtjbmfjpodddhaaaFrame
import Derived.Test.YtjbmfjpodddhaaaSumFns
import Derived.Test.YtjbmfjpodddhaaaSumAdd
namespace Go.Proofs.Ytjbmfjpodddhaaa
open Go.ChangeShapes Go.WideShapes Go.ChangeAt Go.RowKit
open Go.ChangeMaps (open_string shut_string)

set_option maxRecDepth 100000 in
theorem sumAddedR_lifted (os : Os) (started : os.Started) (H : Type) (enc : TypeId × Value → H) :
    ReturnsInHanded {} Try.checked os 7 .any (Rows.sumAddedSpec.pre6 enc Try.prog Try.f7 [] false) (Rows.sumAddedSpec.post enc Try.prog Try.f7 false true false false) := by
  refine lifted_of Try.func7 (by kernel_rfl) rfl rfl (by kernel_rfl) ?_ rfl os started
    (ChangeSpec.witness6 (enc := enc) (C := Try.checked) false ⟨#[], #[.string ⟨#[]⟩, .string ⟨#[]⟩, .string ⟨#[]⟩], []⟩ 8 (by kernel_rfl) (by kernel_rfl) (by kernel_rfl) (by kernel_rfl)) ?_
  · intro args ds W p hA
    rw [Try.params7] at hA
    obtain ⟨v0, vs0, d0, ds0, p0, q0, _, rfl, _, _, r0⟩ := trodAll_cons hA
    obtain ⟨v1, vs1, d1, ds1, p1, q1, _, rfl, _, _, r1⟩ := trodAll_cons r0
    obtain ⟨v2, vs2, d2, ds2, p2, q2, _, rfl, _, _, r2⟩ := trodAll_cons r1
    obtain ⟨_, rfl, _⟩ := trodAll_nil r2
    exact ⟨rfl, rfl, rfl⟩
  · intro W args ds p hval hA hlt hsz
    rw [Try.params7] at hA hval hsz
    obtain ⟨v0, vs0, d0, ds0, p0, q0, hargs, rfl, rfl, h0, r0⟩ := trodAll_cons hA
    obtain ⟨v1, vs1, d1, ds1, p1, q1, rfl, rfl, rfl, h1, r1⟩ := trodAll_cons r0
    obtain ⟨v2, vs2, d2, ds2, p2, q2, rfl, rfl, rfl, h2, r2⟩ := trodAll_cons r1
    obtain ⟨rfl, rfl, rfl⟩ := trodAll_nil r2
    obtain rfl : args = #[v0, v1, v2] := by cases args; simp_all
    obtain ⟨b0, hv0⟩ := hval 0 9 v0 rfl rfl
    obtain ⟨x0, rfl, rfl, rfl, hs0⟩ := open_string Try.underlying9 hv0 h0
    obtain ⟨b1, hv1⟩ := hval 1 9 v1 rfl rfl
    obtain ⟨x1, rfl, rfl, rfl, hs1⟩ := open_string Try.underlying9 hv1 h1
    obtain ⟨b2, hv2⟩ := hval 2 9 v2 rfl rfl
    obtain ⟨x2, rfl, rfl, rfl, hs2⟩ := open_string Try.underlying9 hv2 h2
    have g0 := sized_str hsz (j := 0) rfl rfl
    have g1 := sized_str hsz (j := 1) rfl rfl
    have g2 := sized_str hsz (j := 2) rfl rfl
    exact sumAdded_any sumSaid x0 x1 x2 g0 W

theorem sumAddedR_over : Rows.sumAddedRow.holds Try.pinned (OpenSpec.ofChange Rows.sumAddedSpec) :=
  OpenClaim.holds_of_wide 7 Try.f7 rfl rfl rfl rfl rfl rfl rfl ⟨rfl, rfl, rfl, rfl, rfl⟩ rfl rfl rfl rfl rfl (by kernel_rfl) Try.func7 (by kernel_rfl)
    (of_decide_eq_true (by kernel_rfl)) (by unfold Func.isWrapper; first | (rw [if_pos (by decide +kernel)]; kernel_rfl) | (rw [if_neg (by decide +kernel)]; exact ⟨rfl, rfl⟩))
    (fun os started H enc _ => sumAddedR_lifted os started H enc)

theorem sumAdded_proved : Rows.SumAddedSaid := sumAddedR_over
#print axioms sumAdded_proved
end Go.Proofs.Ytjbmfjpodddhaaa
