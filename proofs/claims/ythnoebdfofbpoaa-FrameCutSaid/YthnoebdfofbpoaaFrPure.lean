/- The plain mathematics of frames. -/
import Derived.Test.YthnoebdfofbpoaaNum
import Derived.Test.YthnoebdfofbpoaaRd2
import Derived.Test.YthnoebdfofbpoaaSumPure
import Derived.Lib.Strings
import Derived.Lib.IndexBytes
namespace Go.Proofs.Ythnoebdfofbpoaa
open Go.RowKit

/-- The sum of a text. -/
def ofS (s : ByteArray) : Nat := Crc.of s.data.toList
/-- Bytes with their sum behind them. -/
def sm (s : ByteArray) : ByteArray := s ++ numS 4 (ofS s)
/-- The frame of a payload. -/
def frameS (p : ByteArray) : ByteArray := sm (numS 4 p.size) ++ sm p
/-- The number that stands at a place. -/
def be4 (s : ByteArray) (p : Nat) : Nat := beV (bytesAt s p 4) 0
/-- Whether the last four bytes are the sum of those ahead. -/
def wholeB (s : ByteArray) : Bool := be4 s (s.size - 4) == ofS (s.extract 0 (s.size - 4))

theorem ofS_lt (s : ByteArray) : ofS s < 4294967296 := Crc.of_lt _
theorem sm_size (s : ByteArray) : (sm s).size = s.size + 4 := by unfold sm; rw [ByteArray.size_append, numS_size]
theorem frameS_size (p : ByteArray) : (frameS p).size = p.size + 12 := by unfold frameS; rw [ByteArray.size_append, sm_size, sm_size, numS_size]; omega

/-- What Take answers: the payload, how many bytes, the error. -/
def takeF (s : ByteArray) : ByteArray × Nat × Int :=
  if s.size < 8 then (⟨#[]⟩, 0, 30)
  else if 4096 < be4 s 0 ∨ wholeB (s.extract 0 8) = false then (⟨#[]⟩, 0, 7)
  else if s.size < be4 s 0 + 12 then (⟨#[]⟩, 0, 30)
  else if wholeB (s.extract 8 (be4 s 0 + 12)) = false then (⟨#[]⟩, 0, 7)
  else (s.extract 8 (be4 s 0 + 8), be4 s 0 + 12, 0)

theorem ext_list (s : ByteArray) (a b : Nat) : (s.extract a b).data.toList = (s.data.toList.take b).drop a := by
  rw [ByteArray.data_extract, Array.toList_extract, List.extract_eq_take_drop, List.drop_take]

theorem bytesAt_ext (s : ByteArray) (a b p n : Nat) (h : a + p + n ≤ b) : bytesAt (s.extract a b) p n = bytesAt s (a + p) n := by
  unfold bytesAt
  rw [ext_list, List.drop_drop, List.drop_take, List.take_take]
  congr 1
  omega

theorem be4_ext (s : ByteArray) (a b p : Nat) (h : a + p + 4 ≤ b) : be4 (s.extract a b) p = be4 s (a + p) := by unfold be4; rw [bytesAt_ext s a b p 4 h]

theorem num_head (s : ByteArray) (h : 4 ≤ s.size) : numF s 4 ⟨0, 0, 0⟩ = (be4 s 0, ⟨4, 0, 0⟩) := by
  unfold numF be4
  rw [if_neg (by decide), if_neg (by simp only; omega)]

theorem ext_zero (s : ByteArray) (b : Nat) (h : s.size ≤ b) : s.extract 0 b = s := by
  apply ByteArray.ext
  rw [ByteArray.data_extract]
  simp
  exact .inr h

theorem be4_lt (s : ByteArray) (p : Nat) : be4 s p < 4294967296 := by
  have h := beV_lt (bytesAt s p 4) 0
  have h2 : 256 ^ (bytesAt s p 4).length ≤ 256 ^ 4 := Nat.pow_le_pow_right (by omega) (bytesAt_length _ _ _)
  unfold be4
  omega

end Go.Proofs.Ythnoebdfofbpoaa
