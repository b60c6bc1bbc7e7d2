/- The examples of the document (closed). TableKnown returns true. Conditions: 3 tables of the library hold what its text lays them to (tied). -/
import Derived.Test.YtkenbhdaiofboaaGreatDoorFrame
import Derived.Test.YtkenbhdaiofboaaGreatDoorTableKnownFd
import Derived.Test.YtkenbhdaiofboaaGreatDoorTableKnownAny
import Derived.Test.YtkenbhdaiofboaaGreatDoorFrameL
import Derived.Test.YtkenbhdaiofboaaGreatDoorCards
import Derived.Test.YtkenbhdaiofboaaGreatDoorTie
namespace Go.Proofs.YtkenbhdaiofboaaGreatDoor
open Go.ChangeShapes Go.WideShapes Go.ChangeAt Go.RowKit
open Go.ChangeMaps (open_string shut_string)

set_option maxRecDepth 100000 in
theorem tableKnownR_met (os : Os) : laidMet Tryz.prog Rows.tableKnownRow.laid ((heldWorld os [(3, litCells Rows.laid_math_bits_deBruijn32tab), (0, litCells Rows.laid_math_bits_deBruijn64tab), (2, litCells Rows.laid_internal_strconv_uint64pow10)]).forCall (fun _ _ => 0) ⟨#[], #[], []⟩).memory :=
  laidMet_of_run' 8 (by kernel_rfl) (by kernel_rfl)
set_option maxRecDepth 100000 in
theorem tableKnownR_lifted (os : Os) (started : os.Started) (H : Type) (enc : TypeId × Value → H) :
    ReturnsInHanded {} Tryz.checked os 3 .any (fun w args => (Rows.tableKnownSpec.pre enc Tryz.prog Tryz.f3 [] false w args ∧ laidMet Tryz.prog Rows.tableKnownRow.laid w) ∧ sizedMet enc Tryz.prog Tryz.f3 (OpenSpec.ofChange Rows.tableKnownSpec) false w args) (Rows.tableKnownSpec.post enc Tryz.prog Tryz.f3 false true false false) := by
  refine lifted_laid Rows.tableKnownRow.laid Tryz.func3 (by kernel_rfl) rfl rfl (by kernel_rfl) ?_ rfl os started
    (ChangeSpec.witness_at (enc := enc) (C := Tryz.checked) (os := os) (X := fun w _ => laidMet Tryz.prog Rows.tableKnownRow.laid w) false (heldWorld os [(3, litCells Rows.laid_math_bits_deBruijn32tab), (0, litCells Rows.laid_math_bits_deBruijn64tab), (2, litCells Rows.laid_internal_strconv_uint64pow10)]) #[] 8 rfl (by kernel_rfl) (by kernel_rfl) (by kernel_rfl) (by kernel_rfl) (by kernel_rfl) (tableKnownR_met os)) ?_
  · intro args ds W p hA
    rw [Tryz.params3] at hA
    obtain ⟨_, rfl, _⟩ := trodAll_nil hA
    exact ⟨rfl, rfl, rfl⟩
  · intro W args ds p hL hval hA hlt hsz
    rw [Tryz.params3] at hA hval hsz
    obtain ⟨hargs, rfl, rfl⟩ := trodAll_nil hA
    obtain rfl : args = #[] := by cases args; simp_all
    exact tableKnown_any W (tableKnown_tabs hL)

theorem tableKnown_named : Tryz.prog.funcNamed "dragoman/dragomanlaw24.TableKnown" = some 3 := by kernel_rfl
theorem tableKnownR_over : Rows.tableKnownRow.holds Tryz.pinned (OpenSpec.ofChange Rows.tableKnownSpec) :=
  OpenClaim.holds_of_wide 3 Tryz.f3 rfl rfl rfl rfl rfl rfl rfl ⟨rfl, rfl, rfl, rfl, rfl⟩ rfl rfl rfl rfl rfl tableKnown_named Tryz.func3 tableKnown_closed
    (of_decide_eq_true (by kernel_rfl)) (by unfold Func.isWrapper; first | (rw [if_pos (by decide +kernel)]; kernel_rfl) | (rw [if_neg (by decide +kernel)]; exact ⟨rfl, rfl⟩))
    (fun os started H enc _ => tableKnownR_lifted os started H enc)

theorem tableKnown_proved : Rows.TableKnownCardSaid :=
  Claim7.holds_tied_plain_at .later [] [.data, .data, .data] true (true, "0c42a873fa3c0e11c545c91d67cbd8c6c8876dc2ab2ca4bc620aef1b1820dc3c") true tableKnownR_over (fun _ h => by cases h) (by kernel_rfl) (fun _ h => by cases h) tableKnown_row_tie rfl ⟨rfl, rfl⟩ (by kernel_rfl) rfl
    (fun f fn hf hfn => by
      obtain rfl : f = 3 := Option.some.inj (tableKnown_named.symm.trans hf) |>.symm
      obtain rfl : fn = Tryz.f3 := (Option.some.inj (Tryz.func3.symm.trans hfn)).symm
      exact ⟨by kernel_rfl, no_standins (by kernel_rfl)⟩)
    (by kernel_rfl)
#print axioms tableKnown_proved
end Go.Proofs.YtkenbhdaiofboaaGreatDoor
