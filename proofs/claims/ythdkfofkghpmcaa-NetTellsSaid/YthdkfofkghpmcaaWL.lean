/- A world with rounds, above a world of calls. -/
import Derived.Test.YthdkfofkghpmcaaWw
import Derived.Test.YthdkfofkghpmcaaLTells
import Derived.Test.YthdkfofkghpmcaaNi
namespace Go.Proofs.Ythdkfofkghpmcaa
open Go.RowKit Abs

noncomputable def wLS (n : Nat) : List LSite := [law05_NetTells_R0 n, law05_NetTells_R1 n]
theorem wLS_ok (n : Nat) : ∀ s ∈ wLS n, s.ok Try.prog := by
  intro s hs
  unfold wLS at hs
  rcases List.mem_cons.1 hs with rfl | hs
  · exact law05_NetTells_R0_ok n
  rcases List.mem_cons.1 hs with rfl | hs
  · exact law05_NetTells_R1_ok n
  cases hs
theorem wLS_law05_NetTells_R0 (n : Nat) (st : LoopState) (j : AJump) (t : T AV) (D : Nat) : lsite (wLS n) ⟨st, j, t, (law05_NetTells_R0 n).N, Code.rgp (law05_NetTells_R0 n).c, Code.r1 (law05_NetTells_R0 n).c, Code.r2 (law05_NetTells_R0 n).c, D⟩ = some (law05_NetTells_R0 n) := lsite_hit rfl rfl rfl
theorem wLS_law05_NetTells_R1 (n : Nat) (st : LoopState) (j : AJump) (t : T AV) (D : Nat) : lsite (wLS n) ⟨st, j, t, (law05_NetTells_R1 n).N, Code.rgp (law05_NetTells_R1 n).c, Code.r1 (law05_NetTells_R1 n).c, Code.r2 (law05_NetTells_R1 n).c, D⟩ = some (law05_NetTells_R1 n) := (lsite_miss (by kernel_rfl)).trans (lsite_hit rfl rfl rfl)
noncomputable def wLT (n : Nat) (both : BothF) : List (FuncId × FnT) := [(30, net_Net_All_1_fn both n)]
theorem wLT_ok (n : Nat) (both : BothF) (hc : BothAll Try.prog both) : SaysAll Try.prog (callOf (wLT n both)) := callOf_cons (net_Net_All_1_holds hc n) (callOf_nil)
noncomputable def wL (n D d : Nat) : BothF := worldL (wLS n) (wLT n) (world n D) d
theorem wL_ok (n D d : Nat) : BothAll Try.prog (wL n D d) := worldL_ok (wLS_ok n) (wLT_ok n) (world_ok n D) d
theorem wL_r (n D d b : Nat) (args : List AV) (h : AHeap) : wL n D (d + 1) true b args h = roundL (wLS n) (wL n D d) b args h := rfl
theorem wL_b (f : FuncId) {n D d : Nat} {args : List AV} {h : AHeap} (hf : ([30].all fun i => !Nat.beq i f) = true := by kernel_rfl) : wL n D (d + 1) false f args h = world n D f args h := worldL_base (callOf_none _ _ _ hf)
theorem wL_net_Net_All_1 (n D d : Nat) (t0 : AV) (t1 : AV) {h : AHeap} {x : ARes × AHeap} (e : net_Net_All_1 (wL n D d) n t0 t1 h = some x) : wL n D (d + 1) false 30 [t0, t1] h = some x :=
  worldL_top (Eq.trans (b := net_Net_All_1_fn (wL n D d) n [t0, t1] h) (by kernel_rfl) ((net_Net_All_1_fn_eq (wL n D d) n t0 t1 h).trans e))
end Go.Proofs.Ythdkfofkghpmcaa
