/- Of a text its last bytes are kept; of what was kept and more the same as of all: MatchKeeps returns true for every input. Conditions: the table math/bits.deBruijn64tab holds what the program's text lays it to (tied). -/
import Derived.Test.YtjnnfdfalcdeoaaDoorFrame
import Derived.Test.YtjnnfdfalcdeoaaDoorMatchKeeps
import Derived.Test.YtjnnfdfalcdeoaaDoorFrameL
import Derived.Test.YtjnnfdfalcdeoaaDoorCards
import Derived.Test.YtjnnfdfalcdeoaaDoorTie
namespace Go.Proofs.YtjnnfdfalcdeoaaDoor
open Go.ChangeShapes Go.WideShapes Go.ChangeAt Go.RowKit
open Go.ChangeMaps (open_string shut_string)

set_option maxRecDepth 100000 in
theorem matchKeepsR_met (os : Os) : laidMet Tryd.prog Rows.matchKeepsRow.laid ((heldWorld os [(0, litCells Rows.laid_math_bits_deBruijn64tab)]).forCall (fun _ _ => 0) ⟨#[], #[.string ⟨#[]⟩, .string ⟨#[]⟩], []⟩).memory :=
  laidMet_of_run' 8 (by kernel_rfl) (by kernel_rfl)
set_option maxRecDepth 100000 in
theorem matchKeepsR_lifted (os : Os) (started : os.Started) (H : Type) (enc : TypeId × Value → H) :
    ReturnsInHanded {} Tryd.checked os 9 .any (fun w args => (Rows.matchKeepsSpec.pre enc Tryd.prog Tryd.f9 [] false w args ∧ laidMet Tryd.prog Rows.matchKeepsRow.laid w) ∧ sizedMet enc Tryd.prog Tryd.f9 (OpenSpec.ofChange Rows.matchKeepsSpec) false w args) (Rows.matchKeepsSpec.post enc Tryd.prog Tryd.f9 false true false false) := by
  refine lifted_laid Rows.matchKeepsRow.laid Tryd.func9 (by kernel_rfl) rfl rfl (by kernel_rfl) ?_ rfl os started
    (ChangeSpec.witness_at (enc := enc) (C := Tryd.checked) (os := os) (X := fun w _ => laidMet Tryd.prog Rows.matchKeepsRow.laid w) false (heldWorld os [(0, litCells Rows.laid_math_bits_deBruijn64tab)]) #[.string ⟨#[]⟩, .string ⟨#[]⟩] 8 rfl (by kernel_rfl) (by kernel_rfl) (by kernel_rfl) (by kernel_rfl) (by kernel_rfl) (matchKeepsR_met os)) ?_
  · intro args ds W p hA
    rw [Tryd.params9] at hA
    obtain ⟨v0, vs0, d0, ds0, p0, q0, _, rfl, _, _, r0⟩ := trodAll_cons hA
    obtain ⟨v1, vs1, d1, ds1, p1, q1, _, rfl, _, _, r1⟩ := trodAll_cons r0
    obtain ⟨_, rfl, _⟩ := trodAll_nil r1
    exact ⟨rfl, rfl, rfl⟩
  · intro W args ds p hL hval hA hlt hsz
    rw [Tryd.params9] at hA hval hsz
    obtain ⟨v0, vs0, d0, ds0, p0, q0, hargs, rfl, rfl, h0, r0⟩ := trodAll_cons hA
    obtain ⟨v1, vs1, d1, ds1, p1, q1, rfl, rfl, rfl, h1, r1⟩ := trodAll_cons r0
    obtain ⟨rfl, rfl, rfl⟩ := trodAll_nil r1
    obtain rfl : args = #[v0, v1] := by cases args; simp_all
    obtain ⟨b0, hv0⟩ := hval 0 9 v0 rfl rfl
    obtain ⟨x0, rfl, rfl, rfl, hs0⟩ := open_string Tryd.underlying9 hv0 h0
    obtain ⟨b1, hv1⟩ := hval 1 9 v1 rfl rfl
    obtain ⟨x1, rfl, rfl, rfl, hs1⟩ := open_string Tryd.underlying9 hv1 h1
    have g0 := sized_str hsz (j := 0) rfl rfl
    have g1 := sized_str hsz (j := 1) rfl rfl
    exact matchKeeps_any x0 x1 g0 g1 W

theorem matchKeepsR_over : Rows.matchKeepsRow.holds Tryd.pinned (OpenSpec.ofChange Rows.matchKeepsSpec) :=
  OpenClaim.holds_of_wide 9 Tryd.f9 rfl rfl rfl rfl rfl rfl rfl ⟨rfl, rfl, rfl, rfl, rfl⟩ rfl rfl rfl rfl rfl (by kernel_rfl) Tryd.func9 (by kernel_rfl)
    (of_decide_eq_true (by kernel_rfl)) (by unfold Func.isWrapper; first | (rw [if_pos (by decide +kernel)]; kernel_rfl) | (rw [if_neg (by decide +kernel)]; exact ⟨rfl, rfl⟩))
    (fun os started H enc _ => matchKeepsR_lifted os started H enc)

theorem matchKeeps_proved : Rows.MatchKeepsCardSaid :=
  Claim7.holds_tied_plain_at .later [] [.data] true (true, "6c9282fce0ce059766f879dfcf664683de3cf80c682fb784a1156b75e50fd8e1") true matchKeepsR_over (fun _ h => by cases h) (by kernel_rfl) (fun _ h => by cases h) matchKeeps_row_tie rfl ⟨rfl, rfl⟩ (by kernel_rfl) rfl
    (fun f fn hf hfn => by
      obtain rfl : f = 9 := Option.some.inj ((show Tryd.prog.funcNamed "dragoman/dragomanlaw11.MatchKeeps" = some 9 by kernel_rfl).symm.trans hf) |>.symm
      obtain rfl : fn = Tryd.f9 := (Option.some.inj (Tryd.func9.symm.trans hfn)).symm
      exact ⟨by kernel_rfl, no_standins (by kernel_rfl)⟩)
    (by kernel_rfl)
#print axioms matchKeeps_proved
end Go.Proofs.YtjnnfdfalcdeoaaDoor
