/- The contracts of the reader's calls. -/
import Derived.Test.YthnoebdfofbpoaaRd
namespace Go.Proofs.Ythnoebdfofbpoaa
open Go.RowKit

theorem numF_err (s : ByteArray) (wd : Nat) (t : St) (h : t.err ≠ 0) : numF s wd t = (0, t) := by simp [numF, h]
theorem numF_short (s : ByteArray) (wd : Nat) (t : St) (h : t.err = 0) (hl : s.size - t.p < wd) : numF s wd t = (0, ⟨t.p, 7, t.p⟩) := by simp [numF, h, hl]
theorem numF_ok (s : ByteArray) (wd : Nat) (t : St) (h : t.err = 0) (hl : ¬ s.size - t.p < wd) : (numF s wd t).2 = ⟨t.p + wd, 0, t.bad⟩ := by simp [numF, h, hl]

theorem Rd.alloc {w : World} {b : Nat} {s : ByteArray} {p err bad : Int} (h : Rd w b s p err bad) (o : Obj) : Rd (w.alloc o) b s p err bad := by
  unfold Rd; rw [Below.heap_alloc w o _ h.lt]; exact h

set_option maxHeartbeats 400000 in
theorem new_any (s : ByteArray) (w : World) :
    Calls Try.prog 20 #[.string s] w fun e w' => e = .returned (.pointer (some ⟨w.heap.size, 0, none⟩)) ∧ Rd w' w.heap.size s 0 0 0 ∧ w' = w.alloc (.cells #[.string s, .int .i64 0, .int .i64 0, .int .i64 0] 58) := by
  go_enter Try.func20, Try.ntmps20
  go_wp2
  go_ret
  exact ⟨rfl, heap_alloc_new w _, rfl⟩

theorem bcell {W w1 : World} (hb : Below W.heap.size W w1) : (∀ b o, b < W.heap.size → w1.cell? ⟨b, o, none⟩ = W.cell? ⟨b, o, none⟩) ∧ (∀ b o, b < W.heap.size → w1.frozen? ⟨b, o, none⟩ = W.frozen? ⟨b, o, none⟩) :=
  ⟨fun b o h => hb.cell (p := ⟨b, o, none⟩) h, fun b o h => hb.frozen (p := ⟨b, o, none⟩) h⟩

theorem belowDrewN {B : Nat} {a w : World} (h : Below B a w) (n : Nat) : Below B a (w.drewN n) := ⟨h.os, h.tape, h.output, h.size, h.block⟩

theorem below_drewN (w : World) (n : Nat) : Below w.heap.size w (w.drewN n) := ⟨rfl, rfl, rfl, Nat.le_refl _, fun _ _ => rfl⟩

/-! The calls on a reader that is none. -/
set_option maxHeartbeats 400000 in
theorem number_nil (wd : Int) (w : World) : Calls Try.prog 28 #[.pointer none, .int .i64 wd] w fun e w' => e = .returned (.int .u64 0) ∧ w = w' := by
  go_enter Try.func28, Try.ntmps28
  go_wp2_with fail
  refine (whole_nil _).mono ?_
  rintro e w1 ⟨rfl, rfl⟩
  go_wp2_with fail
  go_ret
  exact ⟨rfl, rfl⟩

set_option maxHeartbeats 400000 in
theorem u32_nil (w : World) : Calls Try.prog 21 #[.pointer none] w fun e w' => e = .returned (.int .u32 0) ∧ w = w' := by
  go_enter Try.func21, Try.ntmps21
  go_wp2_with fail
  refine (number_nil _ _).mono ?_
  rintro e w1 ⟨rfl, rfl⟩
  go_wp2_with fail
  go_ret
  exact ⟨rfl, rfl⟩

end Go.Proofs.Ythnoebdfofbpoaa
