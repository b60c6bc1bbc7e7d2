/- A world with rounds, above a world of calls. -/
import Derived.Test.YtikaeeaepnflnaaWw
import Derived.Test.YtikaeeaepnflnaaSi
import Derived.Test.YtikaeeaepnflnaaSs
import Derived.Test.YtikaeeaepnflnaaLTakes
namespace Go.Proofs.Ytikaeeaepnflnaa
open Go.RowKit Abs

noncomputable def wLS (n : Nat) : List LSite := [frame_Scan_R0 n, law03_FrameTakes_R0 n, law03_FrameTakes_R1 n]
theorem wLS_ok (n : Nat) : ∀ s ∈ wLS n, s.ok Try.prog := by
  intro s hs
  unfold wLS at hs
  rcases List.mem_cons.1 hs with rfl | hs
  · exact frame_Scan_R0_ok n
  rcases List.mem_cons.1 hs with rfl | hs
  · exact law03_FrameTakes_R0_ok n
  rcases List.mem_cons.1 hs with rfl | hs
  · exact law03_FrameTakes_R1_ok n
  cases hs
theorem wLS_frame_Scan_R0 (n : Nat) (st : LoopState) (j : AJump) (t : T AV) (D : Nat) : lsite (wLS n) ⟨st, j, t, (frame_Scan_R0 n).N, Code.rgp (frame_Scan_R0 n).c, Code.r1 (frame_Scan_R0 n).c, Code.r2 (frame_Scan_R0 n).c, D⟩ = some (frame_Scan_R0 n) := lsite_hit rfl rfl rfl
theorem wLS_law03_FrameTakes_R0 (n : Nat) (st : LoopState) (j : AJump) (t : T AV) (D : Nat) : lsite (wLS n) ⟨st, j, t, (law03_FrameTakes_R0 n).N, Code.rgp (law03_FrameTakes_R0 n).c, Code.r1 (law03_FrameTakes_R0 n).c, Code.r2 (law03_FrameTakes_R0 n).c, D⟩ = some (law03_FrameTakes_R0 n) := (lsite_miss (by kernel_rfl)).trans (lsite_hit rfl rfl rfl)
theorem wLS_law03_FrameTakes_R1 (n : Nat) (st : LoopState) (j : AJump) (t : T AV) (D : Nat) : lsite (wLS n) ⟨st, j, t, (law03_FrameTakes_R1 n).N, Code.rgp (law03_FrameTakes_R1 n).c, Code.r1 (law03_FrameTakes_R1 n).c, Code.r2 (law03_FrameTakes_R1 n).c, D⟩ = some (law03_FrameTakes_R1 n) := (lsite_miss (by kernel_rfl)).trans ((lsite_miss (by kernel_rfl)).trans (lsite_hit rfl rfl rfl))
noncomputable def wLT (n : Nat) (both : BothF) : List (FuncId × FnT) := [(25, frame_All_1_fn both n), (11, frame_Scan_fn both n)]
theorem wLT_ok (n : Nat) (both : BothF) (hc : BothAll Try.prog both) : SaysAll Try.prog (callOf (wLT n both)) := callOf_cons (frame_All_1_holds hc n) (callOf_cons (frame_Scan_holds hc n) (callOf_nil))
noncomputable def wL (n D d : Nat) : BothF := worldL (wLS n) (wLT n) (world n D) d
theorem wL_ok (n D d : Nat) : BothAll Try.prog (wL n D d) := worldL_ok (wLS_ok n) (wLT_ok n) (world_ok n D) d
theorem wL_r (n D d b : Nat) (args : List AV) (h : AHeap) : wL n D (d + 1) true b args h = roundL (wLS n) (wL n D d) b args h := rfl
theorem wL_b (f : FuncId) {n D d : Nat} {args : List AV} {h : AHeap} (hf : ([25, 11].all fun i => !Nat.beq i f) = true := by kernel_rfl) : wL n D (d + 1) false f args h = world n D f args h := worldL_base (callOf_none _ _ _ hf)
theorem wL_frame_All_1 (n D d : Nat) (t0 : AV) (t1 : AV) {h : AHeap} {x : ARes × AHeap} (e : frame_All_1 (wL n D d) n t0 t1 h = some x) : wL n D (d + 1) false 25 [t0, t1] h = some x :=
  worldL_top (Eq.trans (b := frame_All_1_fn (wL n D d) n [t0, t1] h) (by kernel_rfl) ((frame_All_1_fn_eq (wL n D d) n t0 t1 h).trans e))
theorem wL_frame_Scan (n D d : Nat) (t0 : Bytes) {h : AHeap} {x : ARes × AHeap} (e : frame_Scan (wL n D d) n t0 h = some x) : wL n D (d + 1) false 11 [strA t0] h = some x :=
  worldL_top (Eq.trans (b := frame_Scan_fn (wL n D d) n [strA t0] h) (by kernel_rfl) ((frame_Scan_fn_eq (wL n D d) n t0 h).trans e))
end Go.Proofs.Ytikaeeaepnflnaa
