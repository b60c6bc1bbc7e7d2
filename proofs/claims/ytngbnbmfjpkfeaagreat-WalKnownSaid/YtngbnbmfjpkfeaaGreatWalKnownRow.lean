/- The document's examples (closed). WalKnown returns true. Conditions: none (there are no inputs). -/
import Derived.Test.YtngbnbmfjpkfeaaGreatFrame
import Derived.Test.YtngbnbmfjpkfeaaGreatWalKnownM0
namespace Go.Proofs.YtngbnbmfjpkfeaaGreat
open Go.RowKit
open Go.ChangeShapes Go.WideShapes Go.ChangeAt Go.RowKit
open Go.ChangeMaps (open_string shut_string)

set_option maxRecDepth 100000 in
theorem walKnown_run : Abs.saysTrue (Abs.runB Tryz.prog walKnownM1 [3, 118, 66, 8] [] 5000 40 3 []) = true := by kernel_rfl
theorem walKnown_any (W : World) : Calls Tryz.prog 3 #[] W fun e W' => e = .returned (.bool true) ∧ Below W.heap.size W W' :=
  Abs.saysB_true (by kernel_rfl) walKnownM1_ok walKnown_run W


set_option maxRecDepth 100000 in
theorem walKnownR_lifted (os : Os) (started : os.Started) (H : Type) (enc : TypeId × Value → H) :
    ReturnsInHanded {} Tryz.checked os 3 .any (Rows.walKnownSpec.pre6 enc Tryz.prog Tryz.f3 [] false) (Rows.walKnownSpec.post enc Tryz.prog Tryz.f3 false true false false) := by
  refine lifted_of Tryz.func3 (by kernel_rfl) rfl rfl (by kernel_rfl) ?_ rfl os started
    (ChangeSpec.witness6 (enc := enc) (C := Tryz.checked) false ⟨#[], #[], []⟩ 8 (by kernel_rfl) (by kernel_rfl) (by kernel_rfl) (by kernel_rfl)) ?_
  · intro args ds W p hA
    rw [Tryz.params3] at hA
    obtain ⟨_, rfl, _⟩ := trodAll_nil hA
    exact ⟨rfl, rfl, rfl⟩
  · intro W args ds p hval hA hlt hsz
    rw [Tryz.params3] at hA hval hsz
    obtain ⟨hargs, rfl, rfl⟩ := trodAll_nil hA
    obtain rfl : args = #[] := by cases args; simp_all
    exact walKnown_any W

theorem walKnownR_over : Rows.walKnownRow.holds Tryz.pinned (OpenSpec.ofChange Rows.walKnownSpec) :=
  OpenClaim.holds_of_wide 3 Tryz.f3 rfl rfl rfl rfl rfl rfl rfl ⟨rfl, rfl, rfl, rfl, rfl⟩ rfl rfl rfl rfl rfl (by kernel_rfl) Tryz.func3 (by kernel_rfl)
    (of_decide_eq_true (by kernel_rfl)) (by unfold Func.isWrapper; first | (rw [if_pos (by decide +kernel)]; kernel_rfl) | (rw [if_neg (by decide +kernel)]; exact ⟨rfl, rfl⟩))
    (fun os started H enc _ => walKnownR_lifted os started H enc)

theorem walKnown_proved : Rows.WalKnownSaid := walKnownR_over
#print axioms walKnown_proved
end Go.Proofs.YtngbnbmfjpkfeaaGreat
