/- A network that is none: the run of NetNone, of any call. -/
import Derived.Test.YthdkfofkghpmcaaFrame
import Derived.Test.YthdkfofkghpmcaaAbs46
import Derived.Test.YthdkfofkghpmcaaDl
namespace Go.Proofs.Ythdkfofkghpmcaa
open Go.RowKit

def nnF : Nat := 2000
def nnA (k a b : Int) (n v : Nat) : List Abs.AV := [.agg [.int .i64 k, .int .i64 a, .int .i64 b, .str n v]]
noncomputable def nnB : Abs.BothF := Abs.bothA Try.prog (Abs.delSpec Try.prog 38 32) (fun _ _ => none) [7] nnF 40
theorem nn_both (W : World) : Abs.BothOK Try.prog W nnB := Abs.bothA_ok (by kernel_rfl) (Abs.delSpec_ok delOK W) (fun _ _ _ hk => by cases hk) 40
set_option maxRecDepth 100000 in
theorem nn1 (a b : Int) (n v : Nat) : Abs.saysTrue (nnB false 7 (nnA 1 a b n v) ⟨0, [], .e⟩) = true := by kernel_rfl
set_option maxRecDepth 100000 in
theorem nn2 (a b : Int) (n v : Nat) : Abs.saysTrue (nnB false 7 (nnA 2 a b n v) ⟨0, [], .e⟩) = true := by kernel_rfl
set_option maxRecDepth 100000 in
theorem nn3 (a b : Int) (n v : Nat) : Abs.saysTrue (nnB false 7 (nnA 3 a b n v) ⟨0, [], .e⟩) = true := by kernel_rfl
set_option maxRecDepth 100000 in
theorem nn4 (a b : Int) (n v : Nat) : Abs.saysTrue (nnB false 7 (nnA 4 a b n v) ⟨0, [], .e⟩) = true := by kernel_rfl
set_option maxRecDepth 100000 in
theorem nn5 (a b : Int) (n v : Nat) : Abs.saysTrue (nnB false 7 (nnA 5 a b n v) ⟨0, [], .e⟩) = true := by kernel_rfl
set_option maxRecDepth 100000 in
theorem nn6 (a b : Int) (n v : Nat) : Abs.saysTrue (nnB false 7 (nnA 6 a b n v) ⟨0, [], .e⟩) = true := by kernel_rfl
/-! ### a call that is none of these: up to the two comparisons, and on -/
def nnScr : List Abs.MI := [.opn, .atom, .opn, .atom, .opn, .atom, .opn, .atom, .opn, .atom, .opn, .atom, .opn, .opn, .opn, .ops 2]
noncomputable def nnS0 (k a b : Int) (n v : Nat) : Abs.MS := Abs.startMS Try.prog [] 7 (nnA k a b n v)
noncomputable def nnS1 (k a b : Int) (n v : Nat) : Abs.MS := (Abs.runM Try.prog nnB nnF nnScr (nnS0 k a b n v)).getD (nnS0 k a b n v)
noncomputable def nnP (S : Abs.MS) (t : Nat) (bb : Bool) (j : Nat) : Abs.MS := ⟨⟨S.top.f, S.top.N, S.top.a.put (some t) (.bool bb), .ops [0, 0, 1, 1, 1, 1, 1, 1] j :: S.top.k.tail⟩, S.st, S.h⟩
noncomputable def nnS2 (S : Abs.MS) : Abs.MS := (Abs.runM Try.prog nnB nnF [.ops 3] S).getD S
set_option maxRecDepth 100000 in
theorem nn_h1 (k a b : Int) (n v : Nat) : (Abs.runM Try.prog nnB nnF nnScr (nnS0 k a b n v)).isSome = true := by kernel_rfl
set_option maxRecDepth 100000 in
theorem nn_h2 (k a b : Int) (n v : Nat) : Abs.stepX Try.prog nnB nnF (nnS1 k a b n v) (.ops 1) = some (nnP (nnS1 k a b n v) 29 (decide (k < 1)) 3) := by kernel_rfl
noncomputable def nnEnd (S : Abs.MS) (l : List Abs.MI) : Bool := match Abs.runM Try.prog nnB nnF l S with
  | some S' => Abs.lastM Try.prog S'
  | none => false
set_option maxRecDepth 100000 in
theorem nn_h3 (k a b : Int) (n v : Nat) : nnEnd (nnP (nnS1 k a b n v) 29 true 3) [.ops 5, .pass, .atom] = true := by kernel_rfl
set_option maxRecDepth 100000 in
theorem nn_h4 (k a b : Int) (n v : Nat) : (Abs.runM Try.prog nnB nnF [.ops 3] (nnP (nnS1 k a b n v) 29 false 3)).isSome = true := by kernel_rfl
set_option maxRecDepth 100000 in
theorem nn_h5 (k a b : Int) (n v : Nat) : Abs.stepX Try.prog nnB nnF (nnS2 (nnP (nnS1 k a b n v) 29 false 3)) (.ops 1) = some (nnP (nnS2 (nnP (nnS1 k a b n v) 29 false 3)) 33 (decide (k > 6)) 7) := by kernel_rfl
set_option maxRecDepth 100000 in
theorem nn_h6 (k a b : Int) (n v : Nat) : nnEnd (nnP (nnS2 (nnP (nnS1 k a b n v) 29 false 3)) 33 true 7) [.ops 1, .pass, .atom] = true := by kernel_rfl
end Go.Proofs.Ythdkfofkghpmcaa
