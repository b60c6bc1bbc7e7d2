/- Builders again: which blocks they turn. -/
import Derived.Test.YtikaeeaepnflnaaAbs47
namespace Go.Proofs.Ytikaeeaepnflnaa.Abs
noncomputable section
open Go.RowKit

/-- a builder's buffer, in block c (or none yet: c is the builder's own block then) -/
def BuB (U8 : TypeId) (h : AHeap) (b c : Nat) (buf : AV) (l : Bytes) : Prop :=
  (buf = .nsl ∧ l = [] ∧ c = b) ∨ (buf = .sl c 0 l.length 1 ∧ l ≠ [] ∧ c ≠ b ∧ c < h.next ∧ RowH h c U8 (bytesC l))
def BldR (TB U8 : TypeId) (h : AHeap) (b c : Nat) (l : Bytes) : Prop :=
  ∃ a buf, RowH h b TB [a, buf] ∧ b < h.next ∧ (a = .nilp ∨ a = .ptr b 0) ∧ BuB U8 h b c buf l
section
variable {P : Program} {TB U8 : TypeId} {h h' : AHeap} {b c : Nat} {buf : AV} {l : Bytes} {S : List Nat}
theorem BuB.one (k : BuB U8 h b c buf l) : buf.one = true ∧ AV.cells buf = [buf] ∧ lenL buf = some (l.length : Int) := by
  rcases k with ⟨rfl, rfl, _⟩ | ⟨rfl, _⟩ <;> exact ⟨rfl, rfl, rfl⟩
theorem BuB.tch (k : BuB U8 h b c buf l) (ht : Tch S h h') (hS : c ≠ b → c ∉ S) : BuB U8 h' b c buf l := by
  rcases k with k | ⟨h1, h2, h3, h4, h5⟩
  · exact .inl k
  · exact .inr ⟨h1, h2, h3, by have := ht.1; omega, h5.tch ht h4 (hS h3)⟩
theorem BldR.tch (k : BldR TB U8 h b c l) (ht : Tch S h h') (hb : b ∉ S) (hc : c ∉ S) : BldR TB U8 h' b c l := by
  obtain ⟨a, buf, k1, k2, k3, k4⟩ := k
  exact ⟨a, buf, k1.tch ht k2 hb, by have := ht.1; omega, k3, k4.tch ht fun _ => hc⟩
theorem BldR.new (TB U8 : TypeId) (h : AHeap) : BldR TB U8 (newH h TB [.nilp, .nsl]) h.next h.next [] :=
  ⟨_, _, RowH.new h TB [.nilp, .nsl], Nat.lt_succ_self _, .inl rfl, .inl ⟨rfl, rfl, rfl⟩⟩
theorem BldR.lt (k : BldR TB U8 h b c l) : b < h.next ∧ c < h.next := by
  obtain ⟨a, buf, k1, k2, k3, k4⟩ := k
  rcases k4 with ⟨_, _, rfl⟩ | ⟨_, _, _, k5, _⟩
  · exact ⟨k2, k2⟩
  · exact ⟨k2, k5⟩
/-- more is put behind -/
theorem BuB.append {t u : TypeId} (k : BuB U8 h b c buf l) (hb : b < h.next) (s : Bytes) (he : elemOf P t = some U8) (hu : notInt P u = true) (hsz : P.cellsOf U8 = 1) (hfit : fitB P U8 1 = true) (hex : memB U8 h.ex = false) (hbig : l.length + s.length ≤ 1000000000) :
    ∃ buf' c' h', opAppend P h t u buf (strA s) = some (.val buf', h') ∧ BuB U8 h' b c' buf' (l ++ s) ∧ (c' = c ∨ h.next ≤ c') ∧ Tch [c] h h' ∧ h'.get b = h.get b := by
  cases s with
  | nil =>
    have hlen : lenA buf = some l.length := by rcases k with ⟨rfl, rfl, _⟩ | ⟨rfl, _⟩ <;> rfl
    refine ⟨buf, c, h, ?_, by rw [List.append_nil]; exact k, .inl rfl, Tch.refl _ _, rfl⟩
    have h0 : lenA (strA []) = some 0 := rfl
    have hf : firstA h 1 0 (strA []) = some [] := firstA_str []
    have hl0 : l.length ≤ 1000000000 := by simpa using hbig
    have hfit2 := bytesFit_of (P := P) (e := U8) (B := 1) (k := l.length + 0) hfit (by omega) (by omega)
    have hap : appendA h U8 1 buf [] 0 = some (.val buf, h) := by rcases k with ⟨rfl, _⟩ | ⟨rfl, _⟩ <;> rfl
    unfold notInt at hu
    unfold opAppend
    split at hu
    · cases hu
    · rename_i ud hni heq
      simp only [he, hlen, h0, heq, hsz, hf, hfit2, hex, List.all_nil, and_self, if_true]
      exact hap
    · cases hu
  | cons y s =>
    rcases k with ⟨rfl, rfl, rfl⟩ | ⟨rfl, k0, k1, k2, k3⟩
    · have e2 := append_new (P := P) (h := h) (t := t) (u := u) (n := s.length) (x := strA (y :: s)) he hu hsz rfl (firstA_str (h := h) (y :: s)) (bytesFit_of hfit (by simp at hbig; omega) (by simp at hbig; omega)) (bytesC_one _) hex
      refine ⟨_, h.next, _, e2, .inr ⟨by simp, by simp, by omega, Nat.lt_succ_self _, ?_⟩, .inr (Nat.le_refl _), Tch.newH _ _ _ _, get_new_other _ (by omega)⟩
      rw [List.nil_append]
      exact RowH.new _ _ _
    · have e2 := append_more (P := P) (h := h) (t := t) (u := u) (b := c) (o := 0) (m := l.length) (x := strA (y :: s)) (n := s.length) (cs := bytesC l) he hu hsz rfl (firstA_str (h := h) (y :: s)) (bytesFit_of hfit (by simp at hbig; omega) (by simp at hbig; omega)) (bytesC_one _) hex (by
        have := k3.part (o := 0) (n := (bytesC l).length) (by omega)
        rw [List.drop_zero, List.take_length, bytesC_length] at this
        rw [Nat.mul_one]
        exact this) k3.type
      have t1 : Tch [c] h (h.put c .dead) := Tch.put (.inl (by simp)) _
      refine ⟨_, h.next, _, e2, .inr ⟨by simp, by simp, by omega, Nat.lt_succ_self _, ?_⟩, .inr (Nat.le_refl _), t1.trans (Tch.new _ _ _), ?_⟩
      · rw [bytesC_append]
        exact RowH.new (h.put c .dead) U8 _
      · exact (get_new_other (H := h.put c .dead) _ (show h.next ≠ b by omega)).trans (get_put_other _ k1)
end
/-- one byte more -/
theorem BuB.append1 {P : Program} {U8 : TypeId} {h : AHeap} {b c : Nat} {buf x : AV} {l : Bytes} {t u : TypeId} (k : BuB U8 h b c buf l) (hb : b < h.next) (y : UInt8) (he : elemOf P t = some U8) (hu : notInt P u = true) (hsz : P.cellsOf U8 = 1) (hfit : fitB P U8 1 = true) (hex : memB U8 h.ex = false) (hx : lenA x = some 1) (hf : firstA h 1 1 x = some (bytesC [y])) (hbig : l.length + 1 ≤ 1000000000) :
    ∃ buf' c' h', opAppend P h t u buf x = some (.val buf', h') ∧ BuB U8 h' b c' buf' (l ++ [y]) ∧ (c' = c ∨ h.next ≤ c') ∧ Tch [c] h h' ∧ h'.get b = h.get b := by
  rcases k with ⟨rfl, rfl, rfl⟩ | ⟨rfl, k0, k1, k2, k3⟩
  · have e2 := append_new (P := P) (h := h) (t := t) (u := u) (n := 0) (x := x) he hu hsz hx hf (bytesFit_of hfit (by omega) (by omega)) (bytesC_one _) hex
    refine ⟨_, h.next, _, e2, .inr ⟨by simp, by simp, by omega, Nat.lt_succ_self _, ?_⟩, .inr (Nat.le_refl _), Tch.newH _ _ _ _, get_new_other _ (by omega)⟩
    rw [List.nil_append]
    exact RowH.new _ _ _
  · have e2 := append_more (P := P) (h := h) (t := t) (u := u) (b := c) (o := 0) (m := l.length) (x := x) (n := 0) (cs := bytesC l) he hu hsz hx hf (bytesFit_of hfit (by omega) (by omega)) (bytesC_one _) hex (by
      have := k3.part (o := 0) (n := (bytesC l).length) (by omega)
      rw [List.drop_zero, List.take_length, bytesC_length] at this
      rw [Nat.mul_one]
      exact this) k3.type
    have t1 : Tch [c] h (h.put c .dead) := Tch.put (.inl (by simp)) _
    refine ⟨_, h.next, _, e2, .inr ⟨by simp, by simp, by omega, Nat.lt_succ_self _, ?_⟩, .inr (Nat.le_refl _), t1.trans (Tch.new _ _ _), ?_⟩
    · rw [bytesC_append]
      exact RowH.new (h.put c .dead) U8 _
    · exact (get_new_other (H := h.put c .dead) _ (show h.next ≠ b by omega)).trans (get_put_other _ k1)
end
end Go.Proofs.Ytikaeeaepnflnaa.Abs
