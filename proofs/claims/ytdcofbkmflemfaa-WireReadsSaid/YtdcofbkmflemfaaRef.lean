/- The contracts of the reference's reader. -/
import Derived.Test.YtdcofbkmflemfaaOwn
namespace Go.Proofs.Ytdcofbkmflemfaa
open Go.RowKit

/-- Block b is a reader of the reference's: its text, its place, its first fault and the fault's place. -/
def Rr (w : World) (b : Nat) (s : ByteArray) (p err bad : Int) : Prop :=
  w.heap[b]? = some (.cells #[.string s, .int .i64 p, .int .i64 err, .int .i64 bad] 55 (0, 0))

section
variable {w : World} {b : Nat} {s : ByteArray} {p err bad : Int}
theorem Rr.c0 (h : Rr w b s p err bad) : w.cell? ⟨b, 0, none⟩ = some (.string s) := by unfold Rr at h; simp [World.cell?, h]
theorem Rr.c1 (h : Rr w b s p err bad) : w.cell? ⟨b, 1, none⟩ = some (.int .i64 p) := by unfold Rr at h; simp [World.cell?, h]
theorem Rr.c2 (h : Rr w b s p err bad) : w.cell? ⟨b, 2, none⟩ = some (.int .i64 err) := by unfold Rr at h; simp [World.cell?, h]
theorem Rr.c3 (h : Rr w b s p err bad) : w.cell? ⟨b, 3, none⟩ = some (.int .i64 bad) := by unfold Rr at h; simp [World.cell?, h]
theorem Rr.free (h : Rr w b s p err bad) (o : Nat) : w.frozen? ⟨b, o, none⟩ = false := by unfold Rr at h; simp [World.frozen?, h]
theorem Rr.lt (h : Rr w b s p err bad) : b < w.heap.size := lt_of_block h
theorem Rr.set1 (h : Rr w b s p err bad) (q : Int) : Rr (w.setCell ⟨b, 1, none⟩ (.int .i64 q)) b s q err bad := by
  have := heap_setCell_same w b 1 _ _ (.int .i64 q) h
  simpa [Rr] using this
theorem Rr.set2 (h : Rr w b s p err bad) (q : Int) : Rr (w.setCell ⟨b, 2, none⟩ (.int .i64 q)) b s p q bad := by
  have := heap_setCell_same w b 2 _ _ (.int .i64 q) h
  simpa [Rr] using this
theorem Rr.set3 (h : Rr w b s p err bad) (q : Int) : Rr (w.setCell ⟨b, 3, none⟩ (.int .i64 q)) b s p err q := by
  have := heap_setCell_same w b 3 _ _ (.int .i64 q) h
  simpa [Rr] using this
theorem Rr.drewN (h : Rr w b s p err bad) (n : Nat) : Rr (w.drewN n) b s p err bad := h
theorem Rr.below {w' : World} (h : Rr w b s p err bad) (hb : Below w.heap.size w w') : Rr w' b s p err bad := by
  unfold Rr; rw [hb.block b h.lt]; exact h
theorem Rr.keep {w' : World} {row : Option Nat} (h : Rr w b s p err bad) (hg : w.grownBy w' row) (hne : some b ≠ row) : Rr w' b s p err bad := by
  unfold Rr; rw [hg.block b h.lt hne]; exact h
end

set_option maxHeartbeats 400000 in
theorem refnum_err (w : World) (b : Nat) (s : ByteArray) (p err bad wd : Int) (h : Rr w b s p err bad) (he : (err != 0) = true) :
    Calls Try.prog 42 #[.pointer (some ⟨b, 0, none⟩), .int .i64 wd] w fun e w' => e = .returned (.int .u64 0) ∧ w = w' := by
  have c2 := h.c2
  go_enter Try.func42, Try.ntmps42
  go_wp2_with fail
  go_ret
  exact ⟨rfl, rfl⟩

set_option maxHeartbeats 400000 in
theorem refnum_short (w : World) (b : Nat) (s : ByteArray) (p wd : Nat) (bad : Int) (h : Rr w b s p 0 bad) (hp : p ≤ s.size) (hs : s.size ≤ 4611686018427387904) (hl : s.size - p < wd) :
    Calls Try.prog 42 #[.pointer (some ⟨b, 0, none⟩), .int .i64 wd] w fun e w' => e = .returned (.int .u64 0) ∧ Rr w' b s p 7 p ∧ w.grownBy w' (some b) := by
  have c0 := h.c0
  have c1 := h.c1
  have c2 := h.c2
  have c3 := h.c3
  have f2 := h.free 2
  have f3 := h.free 3
  go_enter Try.func42, Try.ntmps42
  go_wp2_with fail
  go_quiet (fail)
  go_wp2_with fail
  go_ret
  exact ⟨rfl, ((h.drewN nq).set2 7).set3 p, grownBy_set (grownBy_set (grown_drewN _ _ _) _ _) _ _⟩

theorem wrap_add256 (m : Nat) (x : UInt8) (h : U56 m) : IntKind.u64.wrap ((m : Int) * 256 + (x.toNat : Int)) = (m : Int) * 256 + (x.toNat : Int) := by
  unfold U56 at h
  have hx := x.toNat_lt
  exact IntWalk.u64_in _ (by omega)

set_option maxHeartbeats 400000 in
theorem refnum_ok (w : World) (b : Nat) (s : ByteArray) (p wd : Nat) (bad : Int) (h : Rr w b s p 0 bad) (hs : s.size ≤ 4611686018427387904) (hw : wd ≤ 8) (hl : p + wd ≤ s.size) :
    Calls Try.prog 42 #[.pointer (some ⟨b, 0, none⟩), .int .i64 wd] w fun e w' => e = .returned (.int .u64 (beV (bytesAt s p wd) 0)) ∧ Rr w' b s (p + wd) 0 bad ∧ w.grownBy w' (some b) := by
  have c0 := h.c0
  have c1 := h.c1
  have c2 := h.c2
  have f1 := h.free 1
  go_enter Try.func42, Try.ntmps42
  go_wp2_with fail
  go_quiet (fail)
  go_wp2_with fail
  clear c2
  go_loopw [5, 6] (fun s5 s6 wr => ∃ k q : Nat, k ≤ wd ∧ s5 = .int .u64 (beV (bytesAt s p k) 0) ∧ s6 = .int .i64 k ∧ wr = w.drewN q) (fun _ s6 _ => (wd - intOf s6).toNat)
  case atStart => exact ⟨0, nq, Nat.zero_le _, by simp [bytesAt, beV], rfl, rfl⟩
  case round =>
    obtain ⟨k, q, hk, rfl, rfl, rfl⟩ := hrel
    by_cases hlt : k < wd
    · obtain ⟨m, hm⟩ : ∃ m, m = beV (bytesAt s p k) 0 := ⟨_, rfl⟩
      rw [← hm]
      have hU : U56 m := by rw [hm]; exact beV_small s p k (by omega)
      have hw256 : IntKind.u64.wrap ((m : Int) * 256) = (m : Int) * 256 := wrap_mul256 m hU
      have HM := Lib.hid hm; clear hm
      have g2 : p + k < s.size := by omega
      have g0 : (0 : Int) ≤ (p : Int) + k := by omega
      have g1 : ((p : Int) + k).toNat = p + k := by omega
      have g3 : (p : Int) + k < s.size := by omega
      have hadd := wrap_add256 m s[p + k] hU
      have hx8 := s[p + k].toNat_lt
      have hwx : IntKind.u64.wrap (s[p + k].toNat : Int) = (s[p + k].toNat : Int) := IntWalk.u64_in _ (by omega)
      have HS : Hid (beV (bytesAt s p (k + 1)) 0 = m * 256 + s[p + k].toNat) := Lib.hid (by rw [bytesAt_succ s p k g2, beV_snoc, HM.out])
      obtain ⟨x, hx⟩ : ∃ x, x = s[p + k].toNat := ⟨_, rfl⟩
      rw [← hx] at hadd HS hwx hx8
      have hx' := hx.symm
      clear hx hU
      go_wp2_with fail
      go_quiet (fail)
      clear hx' hadd hw256 hwx
      go_wp2_with fail
      go_roundw
      case rel =>
        refine ⟨k + 1, _, by omega, ?_, by go_num, rfl⟩
        rw [HS.out]; go_num
      case measure => simp [intOf]; omega
    · go_wp2_with fail
      go_ret
      obtain rfl : k = wd := by omega
      exact ⟨rfl, (h.drewN q).set1 _, grownBy_set (grown_drewN _ _ _) _ _⟩

end Go.Proofs.Ytdcofbkmflemfaa
