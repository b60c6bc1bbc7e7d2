/- The examples of the document (closed). NfaNames returns true. Conditions: 1 tables of the library hold what its text lays them to (tied). -/
import Derived.Test.YtakhljnkmbpmpaaDoorFrame
import Derived.Test.YtakhljnkmbpmpaaDoorNfaNamesAny
import Derived.Test.YtakhljnkmbpmpaaDoorFrameL
import Derived.Test.YtakhljnkmbpmpaaDoorCards
import Derived.Test.YtakhljnkmbpmpaaDoorTie
namespace Go.Proofs.YtakhljnkmbpmpaaDoor
open Go.ChangeShapes Go.WideShapes Go.ChangeAt Go.RowKit
open Go.ChangeMaps (open_string shut_string)

set_option maxRecDepth 100000 in
theorem nfaNamesR_met (os : Os) : laidMet Tryd.prog Rows.nfaNamesRow.laid ((heldWorld os [(0, litCells Rows.laid_math_bits_deBruijn64tab)]).forCall (fun _ _ => 0) ⟨#[], #[], []⟩).memory :=
  laidMet_of_run' 8 (by kernel_rfl) (by kernel_rfl)
set_option maxRecDepth 100000 in
theorem nfaNamesR_lifted (os : Os) (started : os.Started) (H : Type) (enc : TypeId × Value → H) :
    ReturnsInHanded {} Tryd.checked os 10 .any (fun w args => (Rows.nfaNamesSpec.pre enc Tryd.prog Tryd.f10 [] false w args ∧ laidMet Tryd.prog Rows.nfaNamesRow.laid w) ∧ sizedMet enc Tryd.prog Tryd.f10 (OpenSpec.ofChange Rows.nfaNamesSpec) false w args) (Rows.nfaNamesSpec.post enc Tryd.prog Tryd.f10 false true false false) := by
  refine lifted_laid Rows.nfaNamesRow.laid Tryd.func10 (by kernel_rfl) rfl rfl (by kernel_rfl) ?_ rfl os started
    (ChangeSpec.witness_at (enc := enc) (C := Tryd.checked) (os := os) (X := fun w _ => laidMet Tryd.prog Rows.nfaNamesRow.laid w) false (heldWorld os [(0, litCells Rows.laid_math_bits_deBruijn64tab)]) #[] 8 rfl (by kernel_rfl) (by kernel_rfl) (by kernel_rfl) (by kernel_rfl) (by kernel_rfl) (nfaNamesR_met os)) ?_
  · intro args ds W p hA
    rw [Tryd.params10] at hA
    obtain ⟨_, rfl, _⟩ := trodAll_nil hA
    exact ⟨rfl, rfl, rfl⟩
  · intro W args ds p hL hval hA hlt hsz
    rw [Tryd.params10] at hA hval hsz
    obtain ⟨hargs, rfl, rfl⟩ := trodAll_nil hA
    obtain rfl : args = #[] := by cases args; simp_all
    exact nfaNames_any W (nfaNames_tabs hL)

theorem nfaNamesR_over : Rows.nfaNamesRow.holds Tryd.pinned (OpenSpec.ofChange Rows.nfaNamesSpec) :=
  OpenClaim.holds_of_wide 10 Tryd.f10 rfl rfl rfl rfl rfl rfl rfl ⟨rfl, rfl, rfl, rfl, rfl⟩ rfl rfl rfl rfl rfl (by kernel_rfl) Tryd.func10 (by kernel_rfl)
    (of_decide_eq_true (by kernel_rfl)) (by unfold Func.isWrapper; first | (rw [if_pos (by decide +kernel)]; kernel_rfl) | (rw [if_neg (by decide +kernel)]; exact ⟨rfl, rfl⟩))
    (fun os started H enc _ => nfaNamesR_lifted os started H enc)

theorem nfaNames_proved : Rows.NfaNamesCardSaid :=
  Claim7.holds_tied_plain_at .later [] [.data] true (true, "d1daf630c730c6b78953c067b2127bfbbb6e2f017d12ea825fb01cfc1e7cf5cd") true nfaNamesR_over (fun _ h => by cases h) (by kernel_rfl) (fun _ h => by cases h) nfaNames_row_tie rfl ⟨rfl, rfl⟩ (by kernel_rfl) rfl
    (fun f fn hf hfn => by
      obtain rfl : f = 10 := Option.some.inj ((show Tryd.prog.funcNamed "dragoman/dragomanlaw10.NfaNames" = some 10 by kernel_rfl).symm.trans hf) |>.symm
      obtain rfl : fn = Tryd.f10 := (Option.some.inj (Tryd.func10.symm.trans hfn)).symm
      exact ⟨by kernel_rfl, no_standins (by kernel_rfl)⟩)
    (by kernel_rfl)
#print axioms nfaNames_proved
end Go.Proofs.YtakhljnkmbpmpaaDoor
