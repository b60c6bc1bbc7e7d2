/- The plain mathematics of layer 1: the bytes of a number, the number of bytes. -/
import Derived.Laws.BytesArg
namespace Go.Proofs.Ythnoebdfofbpoaa
open Go

/-- The lowest wd bytes of n, the highest of them first. -/
def lo : Nat → Nat → List Int
  | 0, _ => []
  | j + 1, n => ((n / 256 ^ j % 256 : Nat) : Int) :: lo j n

theorem lo_length (wd n : Nat) : (lo wd n).length = wd := by induction wd <;> simp [lo, *]

/-- What stands in the row when i bytes are still to be written. -/
def rowI (wd i n : Nat) : List Int := List.replicate i 0 ++ lo (wd - i) n

theorem rowI_length (wd i n : Nat) (h : i ≤ wd) : (rowI wd i n).length = wd := by simp [rowI, lo_length]; omega

theorem rowI_set (wd k n : Nat) (h : k < wd) : (rowI wd (k + 1) n).set k ((n / 256 ^ (wd - (k + 1)) % 256 : Nat) : Int) = rowI wd k n := by
  have e : wd - k = (wd - (k + 1)) + 1 := by omega
  unfold rowI
  rw [e]
  show _ = List.replicate k 0 ++ (((n / 256 ^ (wd - (k + 1)) % 256 : Nat) : Int) :: lo (wd - (k + 1)) n)
  rw [List.replicate_succ', List.append_assoc, List.set_append_right _ _ (by simp)]
  simp

theorem rowI_zero (wd n : Nat) : rowI wd 0 n = lo wd n := by simp [rowI]
theorem rowI_full (wd n : Nat) : rowI wd wd n = List.replicate wd 0 := by simp [rowI, lo]

theorem lo_byte (wd n : Nat) : ∀ x ∈ lo wd n, 0 ≤ x ∧ x < 256 := by
  induction wd with
  | zero => simp [lo]
  | succ k ih =>
    intro x hx
    simp only [lo, List.mem_cons] at hx
    rcases hx with rfl | hx
    · omega
    · exact ih x hx

/-- The number of bytes. -/
def beV : List UInt8 → Nat → Nat
  | [], a => a
  | x :: r, a => beV r (a * 256 + x.toNat)

theorem beV_snoc (l : List UInt8) (x : UInt8) : ∀ a, beV (l ++ [x]) a = beV l a * 256 + x.toNat := by
  induction l with
  | nil => intro a; rfl
  | cons y r ih => intro a; exact ih _

theorem beV_lt (l : List UInt8) : ∀ a, beV l a < (a + 1) * 256 ^ l.length := by
  induction l with
  | nil => intro a; simp [beV]
  | cons y r ih =>
    intro a
    have h := ih (a * 256 + y.toNat)
    have hy := y.toNat_lt
    simp only [beV, List.length_cons]
    refine Nat.lt_of_lt_of_le h ?_
    rw [Nat.pow_succ, Nat.mul_comm (256 ^ r.length) 256, ← Nat.mul_assoc]
    exact Nat.mul_le_mul_right _ (by omega)

/-- So many bytes of a text from a place on. -/
def bytesAt (s : ByteArray) (p n : Nat) : List UInt8 := (s.data.toList.drop p).take n

theorem bytesAt_succ (s : ByteArray) (p k : Nat) (h : p + k < s.size) : bytesAt s p (k + 1) = bytesAt s p k ++ [s[p + k]] := by
  unfold bytesAt
  have hl : k < (s.data.toList.drop p).length := by simp; have : s.size = s.data.size := rfl; omega
  rw [List.take_succ_eq_append_getElem hl]
  simp
  rfl

/-- Where a reader stands: its place, its first fault (0: none), the fault's place. -/
structure St where
  p : Nat
  err : Int
  bad : Int

/-- The next number of so many bytes. -/
def numF (s : ByteArray) (wd : Nat) (t : St) : Nat × St :=
  if t.err ≠ 0 then (0, t) else if s.size - t.p < wd then (0, ⟨t.p, 7, t.p⟩) else (beV (bytesAt s t.p wd) 0, ⟨t.p + wd, t.err, t.bad⟩)

theorem bytesAt_length (s : ByteArray) (p n : Nat) : (bytesAt s p n).length ≤ n := by simp [bytesAt]; omega

theorem numF_lt (s : ByteArray) (wd : Nat) (t : St) : (numF s wd t).1 < 256 ^ wd := by
  have h0 : 0 < 256 ^ wd := Nat.pow_pos (by omega)
  unfold numF
  split
  · exact h0
  · split
    · exact h0
    · have h := beV_lt (bytesAt s t.p wd) 0
      have h2 : 256 ^ (bytesAt s t.p wd).length ≤ 256 ^ wd := Nat.pow_le_pow_right (by omega) (bytesAt_length _ _ _)
      simp only
      omega

/-- The next truth. -/
def boolF (s : ByteArray) (t : St) : Bool × St :=
  if (numF s 1 t).2.err = 0 ∧ 1 < (numF s 1 t).1 then (false, ⟨t.p + 1, 7, t.p⟩) else ((numF s 1 t).1 == 1, (numF s 1 t).2)

/-- The next text, of at most so many bytes. -/
def textF (s : ByteArray) (most : Int) (t : St) : ByteArray × St :=
  if t.err ≠ 0 then (⟨#[]⟩, t)
  else if s.size - t.p < 4 then (⟨#[]⟩, ⟨t.p, 7, t.p⟩)
  else if most < (numF s 4 t).1 then (⟨#[]⟩, ⟨t.p + 4, 3, t.p⟩)
  else if s.size - (t.p + 4) < (numF s 4 t).1 then (⟨#[]⟩, ⟨t.p + 4, 7, t.p⟩)
  else (s.extract (t.p + 4) (t.p + 4 + (numF s 4 t).1), ⟨t.p + 4 + (numF s 4 t).1, t.err, t.bad⟩)

/-- So many texts more, behind those that were read already. -/
def textsGo (s : ByteArray) (most : Int) : Nat → List ByteArray → St → List ByteArray × St
  | 0, acc, t => (acc, t)
  | n + 1, acc, t => if (textF s most t).2.err ≠ 0 then ([], (textF s most t).2) else textsGo s most n (acc ++ [(textF s most t).1]) (textF s most t).2

/-- The next texts. -/
def textsF (s : ByteArray) (count most : Int) (t : St) : List ByteArray × St :=
  if t.err ≠ 0 then ([], t)
  else if s.size - t.p < 4 then ([], ⟨t.p, 7, t.p⟩)
  else if count < (numF s 4 t).1 then ([], ⟨t.p + 4, 3, t.p⟩)
  else textsGo s most (numF s 4 t).1 [] ⟨t.p + 4, t.err, t.bad⟩

/-- What is left. -/
def restF (s : ByteArray) (t : St) : ByteArray := if t.err ≠ 0 then ⟨#[]⟩ else s.extract t.p s.size

/-- The fault at the end. -/
def endF (s : ByteArray) (t : St) : Int × Int := if t.err = 0 ∧ t.p < s.size then (7, t.p) else (t.err, t.bad)

end Go.Proofs.Ythnoebdfofbpoaa
