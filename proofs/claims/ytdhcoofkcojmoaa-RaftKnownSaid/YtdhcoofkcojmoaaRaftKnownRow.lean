/- The examples of a node come out as the document says: RaftKnown returns true. Conditions: none (there are no inputs). -/
import Derived.Test.YtdhcoofkcojmoaaFrame
import Derived.Test.YtdhcoofkcojmoaaAbs22
namespace Go.Proofs.Ytdhcoofkcojmoaa
open Go.RowKit
open Go.ChangeShapes Go.WideShapes Go.ChangeAt Go.RowKit
open Go.ChangeMaps (open_string shut_string)
def raftKnownM0 : Abs.Memo := []
theorem raftKnownM0_ok : raftKnownM0.ok Try.prog := Abs.Memo.ok_nil

set_option maxRecDepth 100000 in
theorem raftKnown_run : Abs.saysTrue (Abs.callA Try.prog (raftKnownM0.spec Try.prog 5000) 5000 30 3 [] ⟨0, [], .e⟩) = true := by kernel_rfl
theorem raftKnown_any (W : World) : Calls Try.prog 3 #[] W fun e W' => e = .returned (.bool true) ∧ Below W.heap.size W W' :=
  Abs.says_true (by kernel_rfl) (Abs.Memo.specOK (by kernel_rfl) raftKnownM0_ok) raftKnown_run W


set_option maxRecDepth 100000 in
theorem raftKnownR_lifted (os : Os) (started : os.Started) (H : Type) (enc : TypeId × Value → H) :
    ReturnsInHanded {} Try.checked os 3 .any (Rows.raftKnownSpec.pre6 enc Try.prog Try.f3 [] false) (Rows.raftKnownSpec.post enc Try.prog Try.f3 false true false false) := by
  refine lifted_of Try.func3 (by kernel_rfl) rfl rfl (by kernel_rfl) ?_ rfl os started
    (ChangeSpec.witness6 (enc := enc) (C := Try.checked) false ⟨#[], #[], []⟩ 8 (by kernel_rfl) (by kernel_rfl) (by kernel_rfl) (by kernel_rfl)) ?_
  · intro args ds W p hA
    rw [Try.params3] at hA
    obtain ⟨_, rfl, _⟩ := trodAll_nil hA
    exact ⟨rfl, rfl, rfl⟩
  · intro W args ds p hval hA hlt hsz
    rw [Try.params3] at hA hval hsz
    obtain ⟨hargs, rfl, rfl⟩ := trodAll_nil hA
    obtain rfl : args = #[] := by cases args; simp_all
    exact raftKnown_any W

theorem raftKnownR_over : Rows.raftKnownRow.holds Try.pinned (OpenSpec.ofChange Rows.raftKnownSpec) :=
  OpenClaim.holds_of_wide 3 Try.f3 rfl rfl rfl rfl rfl rfl rfl ⟨rfl, rfl, rfl, rfl, rfl⟩ rfl rfl rfl rfl rfl (by kernel_rfl) Try.func3 (by kernel_rfl)
    (of_decide_eq_true (by kernel_rfl)) (by unfold Func.isWrapper; first | (rw [if_pos (by decide +kernel)]; kernel_rfl) | (rw [if_neg (by decide +kernel)]; exact ⟨rfl, rfl⟩))
    (fun os started H enc _ => raftKnownR_lifted os started H enc)

theorem raftKnown_proved : Rows.RaftKnownSaid := raftKnownR_over
#print axioms raftKnown_proved
end Go.Proofs.Ytdhcoofkcojmoaa
