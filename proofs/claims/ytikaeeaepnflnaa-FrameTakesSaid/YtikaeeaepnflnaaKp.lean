/- A reader of bytes: what it does, without a program. -/
import Derived.Test.YtikaeeaepnflnaaKn
namespace Go.Proofs.Ytikaeeaepnflnaa
open Go.RowKit Abs

/-- where it is, what went wrong, and where -/
structure RS where
  p : Nat
  e : Int
  q : Int
def valF : Nat → Bytes → Nat
  | a, [] => a
  | a, b :: l => valF (a * 256 + b.toNat) l
def valB (l : Bytes) : Nat := valF 0 l
theorem valF_append : ∀ (l k : Bytes) (a : Nat), valF a (l ++ k) = valF (valF a l) k
  | [], _, _ => rfl
  | b :: l, k, a => by rw [List.cons_append, valF, valF_append l k, valF]
theorem valF_lt : ∀ (l : Bytes) (a : Nat), valF a l < (a + 1) * 256 ^ l.length
  | [], a => by simp [valF]
  | b :: l, a => by
    rw [valF, List.length_cons, Nat.pow_succ]
    have h := valF_lt l (a * 256 + b.toNat)
    have hb := b.toNat_lt
    have h2 : (a * 256 + b.toNat + 1) * 256 ^ l.length ≤ ((a + 1) * 256) * 256 ^ l.length := Nat.mul_le_mul_right _ (by omega)
    calc _ < _ := h
      _ ≤ _ := h2
      _ = _ := by rw [Nat.mul_assoc, Nat.mul_comm 256]
theorem valB_lt (l : Bytes) : valB l < 256 ^ l.length := by
  have := valF_lt l 0
  rw [Nat.zero_add, Nat.one_mul] at this
  exact this
theorem valB_succ {s : Bytes} {p i : Nat} (h : p + i < s.length) : valB ((s.drop p).take (i + 1)) = valB ((s.drop p).take i) * 256 + s[p + i].toNat := by
  unfold valB
  rw [List.take_succ_eq_append_getElem (by rw [List.length_drop]; omega), valF_append, List.getElem_drop]
  rfl
theorem valB_le8 {s : Bytes} {p i : Nat} : valB ((s.drop p).take i) < 256 ^ i := by
  refine Nat.lt_of_lt_of_le (valB_lt _) (Nat.pow_le_pow_right (by omega) ?_)
  rw [List.length_take]
  exact Nat.min_le_left _ _
theorem pow_le7 {i : Nat} (hi : i ≤ 7) : 256 ^ i ≤ 72057594037927936 := Nat.le_trans (Nat.pow_le_pow_right (by omega) hi) (by decide)
theorem pow_le8 {i : Nat} (hi : i ≤ 8) : 256 ^ i ≤ 18446744073709551616 := Nat.le_trans (Nat.pow_le_pow_right (by omega) hi) (by decide)
/-- the next number of w bytes -/
def rNum (s : Bytes) (w : Nat) (r : RS) : Nat × RS :=
  if r.e ≠ 0 then (0, r) else if s.length < r.p + w then (0, ⟨r.p, 7, (r.p : Int)⟩) else (valB ((s.drop r.p).take w), ⟨r.p + w, r.e, r.q⟩)
def rBool (s : Bytes) (r : RS) : Bool × RS :=
  if 1 < (rNum s 1 r).1 then (false, ⟨(rNum s 1 r).2.p, 7, (r.p : Int)⟩) else (decide ((rNum s 1 r).1 = 1), (rNum s 1 r).2)
def rText (s : Bytes) (most : Nat) (r : RS) : Bytes × RS :=
  if (rNum s 4 r).2.e ≠ 0 then ([], (rNum s 4 r).2) else if most < (rNum s 4 r).1 then ([], ⟨(rNum s 4 r).2.p, 3, (r.p : Int)⟩)
  else if s.length < (rNum s 4 r).2.p + (rNum s 4 r).1 then ([], ⟨(rNum s 4 r).2.p, 7, (r.p : Int)⟩) else ((s.drop (rNum s 4 r).2.p).take (rNum s 4 r).1, ⟨(rNum s 4 r).2.p + (rNum s 4 r).1, (rNum s 4 r).2.e, (rNum s 4 r).2.q⟩)
def rEnd (s : Bytes) (r : RS) : Int × Int := if r.e = 0 ∧ r.p < s.length then (7, (r.p : Int)) else (r.e, r.q)
def RS.ok (s : Bytes) (r : RS) : Prop := r.p ≤ s.length
theorem rNum_ok {s : Bytes} {w : Nat} {r : RS} (h : r.ok s) : (rNum s w r).2.ok s := by
  unfold RS.ok at *
  unfold rNum
  split
  · exact h
  · split
    · exact h
    · show r.p + w ≤ s.length
      omega
theorem rBool_ok {s : Bytes} {r : RS} (h : r.ok s) : (rBool s r).2.ok s := by
  have := rNum_ok (w := 1) h
  unfold rBool
  split
  · exact this
  · exact this
theorem rText_ok {s : Bytes} {most : Nat} {r : RS} (h : r.ok s) : (rText s most r).2.ok s := by
  have h1 := rNum_ok (w := 4) h
  unfold rText
  unfold RS.ok at *
  split
  · exact h1
  · split
    · exact h1
    · split
      · exact h1
      · simp only
        omega
theorem rNum_lt {s : Bytes} {w : Nat} {r : RS} : (rNum s w r).1 < 256 ^ w := by
  have hp : 0 < 256 ^ w := Nat.pow_pos (by omega)
  unfold rNum
  split
  · exact hp
  · split
    · exact hp
    · exact valB_le8
/-- what is left where nothing went wrong -/
theorem rNum_bad {s : Bytes} {w : Nat} {r : RS} (h : (rNum s w r).2.e = 0) : r.e = 0 ∧ r.p + w ≤ s.length ∧ rNum s w r = (valB ((s.drop r.p).take w), ⟨r.p + w, r.e, r.q⟩) := by
  unfold rNum at *
  split
  · rename_i h1
    rw [if_pos h1] at h
    exact absurd h h1
  · rename_i h1
    rw [if_neg h1] at h
    split
    · rename_i h2
      rw [if_pos h2] at h
      simp at h
    · exact ⟨by simpa using h1, by omega, rfl⟩
end Go.Proofs.Ytikaeeaepnflnaa
