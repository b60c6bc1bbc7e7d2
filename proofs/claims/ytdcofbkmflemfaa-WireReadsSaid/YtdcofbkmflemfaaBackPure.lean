/- What was written is read as it was: the plain mathematics. -/
import Derived.Test.YtdcofbkmflemfaaOwn
namespace Go.Proofs.Ytdcofbkmflemfaa
open Go.RowKit

/-- The bytes of a number as bytes. -/
def numL (wd n : Nat) : List UInt8 := (lo wd n).map fun x => UInt8.ofNat x.toNat

theorem numS_list (wd n : Nat) : (numS wd n).data.toList = numL wd n := strOfNums_data _

theorem numL_succ (wd n : Nat) : numL (wd + 1) n = UInt8.ofNat (n / 256 ^ wd % 256) :: numL wd n := by
  show UInt8.ofNat ((n / 256 ^ wd % 256 : Nat) : Int).toNat :: numL wd n = _
  rw [Int.toNat_natCast]

theorem numL_length (wd n : Nat) : (numL wd n).length = wd := by simp [numL, lo_length]

theorem beV_numL (wd n : Nat) : ∀ a, beV (numL wd n) a = a * 256 ^ wd + n % 256 ^ wd := by
  induction wd with
  | zero => intro a; simp [numL, lo, beV, Nat.mod_one]
  | succ k ih =>
    intro a
    rw [numL_succ, beV, ih]
    have h1 : (UInt8.ofNat (n / 256 ^ k % 256)).toNat = n / 256 ^ k % 256 := by simp
    rw [h1, Nat.pow_succ, Nat.mod_mul (x := n) (a := 256 ^ k) (b := 256), Nat.add_mul, Nat.mul_assoc, Nat.mul_comm 256 (256 ^ k), Nat.mul_comm (n / 256 ^ k % 256)]
    omega

/-- From place p on the text reads L. -/
def Ahead (S : ByteArray) (p : Nat) (L : List UInt8) : Prop := p ≤ S.size ∧ S.data.toList.drop p = L

theorem Ahead.step {S : ByteArray} {p : Nat} {A C : List UInt8} (h : Ahead S p (A ++ C)) : Ahead S (p + A.length) C ∧ p + A.length ≤ S.size ∧ bytesAt S p A.length = A := by
  obtain ⟨hp, h⟩ := h
  have hl : S.data.toList.length = S.size := by simp
  have h1 : p + A.length ≤ S.size := by
    have := congrArg List.length h
    simp only [List.length_drop, List.length_append, hl] at this
    omega
  refine ⟨⟨h1, ?_⟩, h1, ?_⟩
  · rw [← List.drop_drop, h, List.drop_left]
  · unfold bytesAt; rw [h, List.take_left]

theorem Ahead.num {S : ByteArray} {p wd n : Nat} {C : List UInt8} (h : Ahead S p (numL wd n ++ C)) (hn : n < 256 ^ wd) : numF S wd ⟨p, 0, 0⟩ = (n, ⟨p + wd, 0, 0⟩) ∧ Ahead S (p + wd) C := by
  have hs := h.step
  rw [numL_length] at hs
  refine ⟨?_, hs.1⟩
  have hl : ¬ S.size - p < wd := by omega
  simp only [numF, hl, if_false, ne_eq, not_true_eq_false]
  rw [hs.2.2, beV_numL, Nat.mod_eq_of_lt hn]
  simp

theorem Ahead.bool {S : ByteArray} {p : Nat} {x : Bool} {C : List UInt8} (h : Ahead S p (numL 1 x.toNat ++ C)) : boolF S ⟨p, 0, 0⟩ = (x, ⟨p + 1, 0, 0⟩) ∧ Ahead S (p + 1) C := by
  have hx : x.toNat < 256 ^ 1 := by cases x <;> decide
  obtain ⟨h1, h2⟩ := h.num hx
  refine ⟨?_, h2⟩
  unfold boolF
  rw [h1]
  cases x <;> simp

theorem extract_bytesAt (S : ByteArray) (p n : Nat) (x : ByteArray) (h : bytesAt S p n = x.data.toList) : S.extract p (p + n) = x := by
  apply ByteArray.ext
  apply Array.ext'
  rw [ByteArray.data_extract]
  rw [Array.toList_extract, List.extract_eq_take_drop]
  rw [← h]
  unfold bytesAt
  rw [show p + n - p = n from by omega]

theorem Ahead.text {S : ByteArray} {p : Nat} {x : ByteArray} {C : List UInt8} {most : Int} (h : Ahead S p ((textS x).data.toList ++ C)) (hx : x.size < 4294967296) (hm : (x.size : Int) ≤ most) :
    textF S most ⟨p, 0, 0⟩ = (x, ⟨p + 4 + x.size, 0, 0⟩) ∧ Ahead S (p + 4 + x.size) C := by
  have h0 : Ahead S p (numL 4 x.size ++ (x.data.toList ++ C)) := by
    have e : (textS x).data.toList = numL 4 x.size ++ x.data.toList := by
      rw [← numS_list]; simp [textS]
    rw [e, List.append_assoc] at h
    exact h
  obtain ⟨h1, h2⟩ := h0.num (by simpa using hx)
  have h3 := h2.step
  have hl : x.data.toList.length = x.size := by simp
  rw [hl] at h3
  have hp := h2.1
  refine ⟨?_, h3.1⟩
  unfold textF
  have a1 : ¬ S.size - p < 4 := by omega
  have a2 : ¬ most < (x.size : Int) := by omega
  have a3 : ¬ S.size - (p + 4) < x.size := by omega
  simp only [a1, h1, a2, a3, if_false, ne_eq, not_true_eq_false]
  rw [extract_bytesAt S (p + 4) x.size x h3.2.2]

theorem Ahead.textsGo {S : ByteArray} {most : Int} {C : List UInt8} : ∀ (l acc : List ByteArray) (p : Nat), Ahead S p (textsL l ++ C) → (∀ x ∈ l, x.size < 4294967296 ∧ (x.size : Int) ≤ most) →
    textsGo S most l.length acc ⟨p, 0, 0⟩ = (acc ++ l, ⟨p + 4 * l.length + total l, 0, 0⟩) ∧ Ahead S (p + 4 * l.length + total l) C
  | [], acc, p, h, _ => by
    refine ⟨by simp [Ytdcofbkmflemfaa.textsGo, total], by simpa [total, textsL] using h⟩
  | x :: l, acc, p, h, hx => by
    have h0 : Ahead S p ((textS x).data.toList ++ (textsL l ++ C)) := by simpa [textsL] using h
    obtain ⟨h1, h2⟩ := h0.text (hx x (by simp)).1 (hx x (by simp)).2
    obtain ⟨h3, h4⟩ := Ahead.textsGo l (acc ++ [x]) (p + 4 + x.size) h2 (fun y hy => hx y (by simp [hy]))
    have e : p + 4 + x.size + 4 * l.length + total l = p + 4 * (x :: l).length + total (x :: l) := by simp [total]; omega
    rw [e] at h3 h4
    refine ⟨?_, h4⟩
    show Ytdcofbkmflemfaa.textsGo S most (l.length + 1) acc ⟨p, 0, 0⟩ = _
    unfold Ytdcofbkmflemfaa.textsGo
    rw [h1]
    simp only [ne_eq, not_true_eq_false, if_false]
    rw [h3]
    simp

theorem size_le_total {x : ByteArray} : ∀ {l : List ByteArray}, x ∈ l → x.size ≤ total l
  | y :: l, h => by
    rcases List.mem_cons.1 h with rfl | h
    · simp [total]
    · have := size_le_total h; simp [total]; omega

theorem Ahead.texts {S : ByteArray} {p : Nat} {l : List ByteArray} {C : List UInt8} {count most : Int} (h : Ahead S p ((textsS l).data.toList ++ C)) (hn : l.length < 4294967296) (hc : (l.length : Int) ≤ count)
    (ht : total l < 4294967296) (hm : (total l : Int) ≤ most) :
    textsF S count most ⟨p, 0, 0⟩ = (l, ⟨p + (textsS l).size, 0, 0⟩) ∧ Ahead S (p + (textsS l).size) C := by
  have h0 : Ahead S p (numL 4 l.length ++ (textsL l ++ C)) := by
    have e : (textsS l).data.toList = numL 4 l.length ++ textsL l := by
      rw [← numS_list]; simp [textsS]
    rw [e, List.append_assoc] at h
    exact h
  obtain ⟨h1, h2⟩ := h0.num (by simpa using hn)
  obtain ⟨h3, h4⟩ := Ahead.textsGo (most := most) l [] (p + 4) h2 (fun x hx => by have := size_le_total hx; omega)
  have hp := h2.1
  have e : p + 4 + 4 * l.length + total l = p + (textsS l).size := by rw [textsS_size]; omega
  rw [e] at h3 h4
  refine ⟨?_, h4⟩
  unfold textsF
  have a1 : ¬ S.size - p < 4 := by omega
  have a2 : ¬ count < (l.length : Int) := by omega
  simp only [a1, h1, a2, if_false, ne_eq, not_true_eq_false]
  rw [h3]
  simp

end Go.Proofs.Ytdcofbkmflemfaa
