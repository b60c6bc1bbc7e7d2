/- The contracts of the reader's small parts. -/
import Derived.Test.YthnoebdfofbpoaaRows
import Derived.Test.YthnoebdfofbpoaaPure
import Derived.WalkKit
import Derived.WalkSpells
import Derived.WalkLawsBesides
import Derived.Lib.Hide
import Derived.Deep.QuietTactic
import Derived.BigQuiet
import Derived.Maps.AppendAt
namespace Go.Proofs.Ythnoebdfofbpoaa
open Go.RowKit

/-- Block b is a reader: its text, its place, its first fault and the fault's place. -/
def Rd (w : World) (b : Nat) (s : ByteArray) (p err bad : Int) : Prop :=
  w.heap[b]? = some (.cells #[.string s, .int .i64 p, .int .i64 err, .int .i64 bad] 58 (0, 0))

section
variable {w : World} {b : Nat} {s : ByteArray} {p err bad : Int}
theorem Rd.c0 (h : Rd w b s p err bad) : w.cell? ⟨b, 0, none⟩ = some (.string s) := by unfold Rd at h; simp [World.cell?, h]
theorem Rd.c1 (h : Rd w b s p err bad) : w.cell? ⟨b, 1, none⟩ = some (.int .i64 p) := by unfold Rd at h; simp [World.cell?, h]
theorem Rd.c2 (h : Rd w b s p err bad) : w.cell? ⟨b, 2, none⟩ = some (.int .i64 err) := by unfold Rd at h; simp [World.cell?, h]
theorem Rd.c3 (h : Rd w b s p err bad) : w.cell? ⟨b, 3, none⟩ = some (.int .i64 bad) := by unfold Rd at h; simp [World.cell?, h]
theorem Rd.free (h : Rd w b s p err bad) (o : Nat) : w.frozen? ⟨b, o, none⟩ = false := by unfold Rd at h; simp [World.frozen?, h]
end

set_option maxHeartbeats 400000 in
theorem whole_yes (w : World) (b : Nat) (s : ByteArray) (p bad : Int) (h : Rd w b s p 0 bad) :
    Calls Try.prog 31 #[.pointer (some ⟨b, 0, none⟩)] w fun e w' => e = .returned (.bool true) ∧ w = w' := by
  have c2 := h.c2
  go_enter Try.func31, Try.ntmps31
  go_wp2
  go_ret
  exact ⟨rfl, rfl⟩

set_option maxHeartbeats 400000 in
theorem whole_no (w : World) (b : Nat) (s : ByteArray) (p err bad : Int) (h : Rd w b s p err bad) (he : (err == 0) = false) :
    Calls Try.prog 31 #[.pointer (some ⟨b, 0, none⟩)] w fun e w' => e = .returned (.bool false) ∧ w = w' := by
  have c2 := h.c2
  go_enter Try.func31, Try.ntmps31
  go_wp2
  go_ret
  exact ⟨rfl, rfl⟩

set_option maxHeartbeats 400000 in
theorem whole_nil (w : World) :
    Calls Try.prog 31 #[.pointer none] w fun e w' => e = .returned (.bool false) ∧ w = w' := by
  go_enter Try.func31, Try.ntmps31
  go_wp2
  go_ret
  exact ⟨rfl, rfl⟩

theorem Rd.lt {w : World} {b : Nat} {s : ByteArray} {p err bad : Int} (h : Rd w b s p err bad) : b < w.heap.size := lt_of_block h

theorem Rd.set1 {w : World} {b : Nat} {s : ByteArray} {p err bad : Int} (h : Rd w b s p err bad) (q : Int) : Rd (w.setCell ⟨b, 1, none⟩ (.int .i64 q)) b s q err bad := by
  have := heap_setCell_same w b 1 _ _ (.int .i64 q) h
  simpa [Rd] using this
theorem Rd.set2 {w : World} {b : Nat} {s : ByteArray} {p err bad : Int} (h : Rd w b s p err bad) (q : Int) : Rd (w.setCell ⟨b, 2, none⟩ (.int .i64 q)) b s p q bad := by
  have := heap_setCell_same w b 2 _ _ (.int .i64 q) h
  simpa [Rd] using this
theorem Rd.set3 {w : World} {b : Nat} {s : ByteArray} {p err bad : Int} (h : Rd w b s p err bad) (q : Int) : Rd (w.setCell ⟨b, 3, none⟩ (.int .i64 q)) b s p err q := by
  have := heap_setCell_same w b 3 _ _ (.int .i64 q) h
  simpa [Rd] using this
theorem grownBy_set {w w' : World} {b : Nat} (h : w.grownBy w' (some b)) (o : Nat) (v : Value) : w.grownBy (w'.setCell ⟨b, o, none⟩ v) (some b) :=
  ⟨h.os, h.tape, h.output, by simpa [World.setCell] using h.size, fun k hk hne => by
    rw [Below.heap_setCell _ _ _ _ (fun e => hne (by simp [e]))]; exact h.block k hk hne⟩
theorem Rd.drewN {w : World} {b : Nat} {s : ByteArray} {p err bad : Int} (h : Rd w b s p err bad) (n : Nat) : Rd (w.drewN n) b s p err bad := h

set_option maxHeartbeats 400000 in
theorem fail_any (w : World) (b : Nat) (s : ByteArray) (p err bad e2 at2 : Int) (h : Rd w b s p err bad) :
    Calls Try.prog 32 #[.pointer (some ⟨b, 0, none⟩), .int .i64 e2, .int .i64 at2] w fun e w' => e = .returned (.tuple #[]) ∧ Rd w' b s p e2 at2 ∧ w.grownBy w' (some b) := by
  have c2 := h.c2
  have c3 := h.c3
  have f2 := h.free 2
  have f3 := h.free 3
  go_enter Try.func32, Try.ntmps32
  go_wp2
  go_end0
  exact ⟨rfl, (h.set2 e2).set3 at2, grownBy_set (grownBy_set (World.grownBy.refl _ _) _ _) _ _⟩

theorem grown_of_drew {w w' : World} {n : Nat} {row : Option Nat} (h : (w.drewN n).grownBy w' row) : w.grownBy w' row := ⟨h.os, h.tape, h.output, h.size, h.block⟩

def RdAt (w : World) (b : Nat) (s : ByteArray) (t : St) : Prop := Rd w b s t.p t.err t.bad

set_option maxHeartbeats 400000 in
theorem number_err (w : World) (b : Nat) (s : ByteArray) (p err bad wd : Int) (h : Rd w b s p err bad) (he : (err == 0) = false) :
    Calls Try.prog 28 #[.pointer (some ⟨b, 0, none⟩), .int .i64 wd] w fun e w' => e = .returned (.int .u64 0) ∧ w = w' := by
  go_enter Try.func28, Try.ntmps28
  go_wp2_with fail
  refine (whole_no _ _ _ _ _ _ h he).mono ?_
  rintro e w1 ⟨rfl, rfl⟩
  go_wp2_with fail
  go_ret
  exact ⟨rfl, rfl⟩

set_option maxHeartbeats 400000 in
theorem number_short (w : World) (b : Nat) (s : ByteArray) (p wd : Nat) (bad : Int) (h : Rd w b s p 0 bad) (hp : p ≤ s.size) (hs : s.size ≤ 4611686018427387904) (hl : s.size - p < wd) :
    Calls Try.prog 28 #[.pointer (some ⟨b, 0, none⟩), .int .i64 wd] w fun e w' => e = .returned (.int .u64 0) ∧ Rd w' b s p 7 p ∧ w.grownBy w' (some b) := by
  have c0 := h.c0
  have c1 := h.c1
  go_enter Try.func28, Try.ntmps28
  go_wp2_with fail
  refine (whole_yes _ _ _ _ _ h).mono ?_
  rintro e w1 ⟨rfl, rfl⟩
  go_wp2_with fail
  go_quiet (fail)
  go_wp2_with fail
  refine (fail_any _ _ _ _ _ _ _ _ (h.drewN _)).mono ?_
  rintro e w2 ⟨rfl, hr, hg⟩
  go_wp2_with fail
  go_ret
  exact ⟨rfl, hr, grown_of_drew hg⟩

/-- A number of seven bytes. -/
def U56 (n : Nat) : Prop := n < 72057594037927936
theorem wrap_mul256 (m : Nat) (h : U56 m) : IntKind.u64.wrap ((m : Int) * 256) = (m : Int) * 256 := by
  unfold U56 at h
  exact IntWalk.u64_in _ (by omega)
theorem beV_small (s : ByteArray) (p k : Nat) (hk : k ≤ 7) : U56 (beV (bytesAt s p k) 0) := by
  have h := beV_lt (bytesAt s p k) 0
  have hl : (bytesAt s p k).length ≤ k := by simp [bytesAt]; omega
  have h2 : 256 ^ (bytesAt s p k).length ≤ 256 ^ 7 := Nat.pow_le_pow_right (by omega) (by omega)
  unfold U56
  omega

theorem or_byte (m : Nat) (x : UInt8) (h : U56 m) : bits BinOp.or IntKind.u64 ((m : Int) * 256) (IntKind.u64.wrap (x.toNat : Int)) = ((m * 256 + x.toNat : Nat) : Int) := by
  unfold U56 at h
  have hx := x.toNat_lt
  rw [IntWalk.u64_in _ (by omega), show ((m : Int) * 256) = ((m * 256 : Nat) : Int) from by omega, bits_or_u64_nat _ _ (by omega) (by omega)]
  have e : m * 256 ||| x.toNat = m * 256 + x.toNat := by
    have := Nat.shiftLeft_add_eq_or_of_lt (i := 8) (b := x.toNat) (by omega) m
    rw [Nat.shiftLeft_eq] at this
    exact this.symm
  rw [e]

set_option maxHeartbeats 400000 in
theorem number_ok (w : World) (b : Nat) (s : ByteArray) (p wd : Nat) (bad : Int) (h : Rd w b s p 0 bad) (hs : s.size ≤ 4611686018427387904) (hw : wd ≤ 8) (hl : p + wd ≤ s.size) :
    Calls Try.prog 28 #[.pointer (some ⟨b, 0, none⟩), .int .i64 wd] w fun e w' => e = .returned (.int .u64 (beV (bytesAt s p wd) 0)) ∧ Rd w' b s (p + wd) 0 bad ∧ w.grownBy w' (some b) := by
  have c0 := h.c0
  have c1 := h.c1
  go_enter Try.func28, Try.ntmps28
  go_wp2_with fail
  refine (whole_yes _ _ _ _ _ h).mono ?_
  rintro e w1 ⟨rfl, rfl⟩
  go_wp2_with fail
  go_quiet (fail)
  have H := Lib.hid h; clear h
  clear c0 c1
  go_wp2_with fail
  go_loopw [5, 28] (fun s5 s28 wr => ∃ k : Nat, k ≤ wd ∧ s5 = .int .u64 (beV (bytesAt s p k) 0) ∧ s28 = .int .i64 k ∧ Rd wr b s (p + k) 0 bad ∧ w.grownBy wr (some b)) (fun _ s28 _ => (wd - intOf s28).toNat)
  case atStart => exact ⟨0, Nat.zero_le _, by simp [bytesAt, beV], by simp, by simpa using H.out.drewN _, grown_of_drew (World.grownBy.refl _ _)⟩
  case round =>
    obtain ⟨k, hk, rfl, rfl, hr, hg⟩ := hrel
    have c0 := hr.c0
    have c1 := hr.c1
    have f1 := hr.free 1
    have HG := Lib.hid hg; clear hg
    have HR := Lib.hid hr; clear hr
    by_cases hlt : k < wd
    · obtain ⟨m, hm⟩ : ∃ m, m = beV (bytesAt s p k) 0 := ⟨_, rfl⟩
      rw [← hm]
      have hw256 : IntKind.u64.wrap ((m : Int) * 256) = (m : Int) * 256 := wrap_mul256 m (by rw [hm]; exact beV_small s p k (by omega))
      have HM := Lib.hid hm; clear hm
      have g0 : (0 : Int) ≤ (p : Int) + k := by omega
      have g1 : ((p : Int) + k).toNat = p + k := by omega
      have g2 : p + k < s.size := by omega
      have g3 : (p : Int) + k < s.size := by omega
      have hor := or_byte m s[p + k] (by rw [HM.out]; exact beV_small s p k (by omega))
      have HS : Hid (beV (bytesAt s p (k + 1)) 0 = m * 256 + s[p + k].toNat) := Lib.hid (by rw [bytesAt_succ s p k g2, beV_snoc, HM.out])
      obtain ⟨x, hx⟩ : ∃ x, x = s[p + k].toNat := ⟨_, rfl⟩
      rw [← hx] at hor HS
      have hx' := hx.symm
      clear hx
      go_wp2_with fail
      go_quiet (fail)
      clear hx' hor hw256
      go_wp2_with fail
      go_roundw
      case rel =>
        refine ⟨k + 1, by omega, ?_, by go_num, ?_, ?_⟩
        · rw [HS.out]; go_num
        · have := (HR.out.drewN nq).set1 ((p : Int) + k + 1)
          rw [show (p : Int) + ((k + 1 : Nat) : Int) = (p : Int) + k + 1 from by omega]
          exact this
        · exact grownBy_set (w' := wr.drewN nq) (HG.out.trans (grown_of_drew (n := nq) ⟨rfl, rfl, rfl, Nat.le_refl _, fun _ _ _ => rfl⟩)) 1 _
      case measure => simp [intOf]; omega
    · go_wp2_with fail
      go_ret
      obtain rfl : k = wd := by omega
      exact ⟨rfl, HR.out, HG.out⟩

theorem grown_drewN (w : World) (n : Nat) (row : Option Nat) : w.grownBy (w.drewN n) row := ⟨rfl, rfl, rfl, Nat.le_refl _, fun _ _ _ => rfl⟩

theorem number_rd (w : World) (b : Nat) (s : ByteArray) (t : St) (wd : Nat) (h : RdAt w b s t) (hp : t.p ≤ s.size) (hs : s.size ≤ 4611686018427387904) (hw : wd ≤ 8) :
    Calls Try.prog 28 #[.pointer (some ⟨b, 0, none⟩), .int .i64 wd] w fun e w' => e = .returned (.int .u64 ((numF s wd t).1 : Nat)) ∧ RdAt w' b s (numF s wd t).2 ∧ w.grownBy w' (some b) := by
  obtain ⟨p, err, bad⟩ := t
  by_cases he : err = 0
  · subst he
    by_cases hl : s.size - p < wd
    · have e : numF s wd ⟨p, 0, bad⟩ = (0, ⟨p, 7, p⟩) := by simp [numF, hl]
      rw [e]
      exact number_short w b s p wd bad h hp hs hl
    · have e : numF s wd ⟨p, 0, bad⟩ = (beV (bytesAt s p wd) 0, ⟨p + wd, 0, bad⟩) := by simp [numF, hl]
      rw [e]
      simp only at hp
      have e2 : ((p + wd : Nat) : Int) = (p : Int) + wd := by omega
      unfold RdAt
      rw [e2]
      exact number_ok w b s p wd bad h hs hw (by omega)
  · have e : numF s wd ⟨p, err, bad⟩ = (0, ⟨p, err, bad⟩) := by simp [numF, he]
    rw [e]
    refine (number_err w b s p err bad wd h (beq_eq_false_iff_ne.2 he)).mono ?_
    rintro e w1 ⟨rfl, rfl⟩
    exact ⟨rfl, h, World.grownBy.refl _ _⟩

set_option maxHeartbeats 400000 in
theorem u32_rd (w : World) (b : Nat) (s : ByteArray) (t : St) (h : RdAt w b s t) (hp : t.p ≤ s.size) (hs : s.size ≤ 4611686018427387904) :
    Calls Try.prog 21 #[.pointer (some ⟨b, 0, none⟩)] w fun e w' => e = .returned (.int .u32 ((numF s 4 t).1 : Nat)) ∧ RdAt w' b s (numF s 4 t).2 ∧ w.grownBy w' (some b) := by
  have hb := numF_lt s 4 t
  have hb : (numF s 4 t).1 < 4294967296 := by simpa using hb
  generalize hr : numF s 4 t = r at hb ⊢
  have HR := Lib.hid hr; clear hr
  go_enter Try.func21, Try.ntmps21
  go_wp2_with fail
  refine (number_rd w b s t 4 h hp hs (by omega)).mono ?_
  rw [HR.out]
  rintro e w1 ⟨rfl, h1, hg⟩
  go_wp2_with fail
  go_ret
  exact ⟨rfl, h1, hg⟩

end Go.Proofs.Ythnoebdfofbpoaa
