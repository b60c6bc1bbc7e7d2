/- The frames with which bytes begin, as a list: plain mathematics. -/
import Derived.Test.YthnoebdfofbpoaaFrPure
namespace Go.Proofs.Ythnoebdfofbpoaa

/-- A frame as an iterator tells it: where it begins, its payload. -/
abbrev FrX := { x : Nat × ByteArray // x.1 ≤ 1048576 ∧ x.2.size ≤ 4096 }

/-- The text from a place on. -/
def from_ (s : ByteArray) (p : Nat) : ByteArray := s.extract p s.size
theorem from_size (s : ByteArray) (p : Nat) (h : p ≤ s.size) : (from_ s p).size = s.size - p := by unfold from_; rw [ByteArray.size_extract]; omega

theorem takeF_ok {s : ByteArray} (h : (takeF s).2.2 = 0) : (takeF s).1.size ≤ 4096 ∧ (takeF s).2.1 = (takeF s).1.size + 12 ∧ (takeF s).2.1 ≤ s.size := by
  unfold takeF at h ⊢
  split at h
  · simp at h
  · rename_i h1
    rw [if_neg h1]
    split at h
    · simp at h
    · rename_i h2
      rw [if_neg h2]
      split at h
      · simp at h
      · rename_i h3
        rw [if_neg h3]
        split at h
        · simp at h
        · rename_i h4
          rw [if_neg h4]
          simp only [ByteArray.size_extract]
          refine ⟨?_, ?_, ?_⟩ <;> omega

theorem takeF_no {s : ByteArray} (h : (takeF s).2.2 ≠ 0) : (takeF s).1 = ⟨#[]⟩ ∧ (takeF s).2.1 = 0 := by
  unfold takeF at h ⊢
  split
  · exact ⟨rfl, rfl⟩
  · rename_i h1
    rw [if_neg h1] at h
    split
    · exact ⟨rfl, rfl⟩
    · rename_i h2
      rw [if_neg h2] at h
      split
      · exact ⟨rfl, rfl⟩
      · rename_i h3
        rw [if_neg h3] at h
        split
        · exact ⟨rfl, rfl⟩
        · rename_i h4
          rw [if_neg h4] at h
          exact absurd rfl h

/-- So many frames at most, from a place on. -/
def framesGo (s : ByteArray) : Nat → Nat → List FrX
  | 0, _ => []
  | k + 1, p => if h : (takeF (from_ s p)).2.2 = 0 ∧ p ≤ 1048576 ∧ (takeF (from_ s p)).1.size ≤ 4096 then ⟨(p, (takeF (from_ s p)).1), h.2⟩ :: framesGo s k (p + (takeF (from_ s p)).2.1) else []

/-- The frames from the front on. -/
def framesF (s : ByteArray) : List FrX := framesGo s (s.size + 1) 0

theorem framesGo_no (s : ByteArray) (k p : Nat) (h : (takeF (from_ s p)).2.2 ≠ 0) : framesGo s k p = [] := by
  cases k with
  | zero => rfl
  | succ k => unfold framesGo; rw [dif_neg (fun hh => h hh.1)]

theorem framesGo_yes (s : ByteArray) (k p : Nat) (hp : p ≤ s.size) (hs : s.size ≤ 1048576) (h : (takeF (from_ s p)).2.2 = 0) :
    framesGo s (k + 1) p = ⟨(p, (takeF (from_ s p)).1), by omega, (takeF_ok h).1⟩ :: framesGo s k (p + (takeF (from_ s p)).2.1) := by
  conv => lhs; unfold framesGo
  rw [dif_pos ⟨h, by omega, (takeF_ok h).1⟩]

/-- How far they are whole. -/
def goodF : List FrX → Nat
  | [] => 0
  | x :: l => if l = [] then x.1.1 + x.1.2.size + 12 else goodF l

theorem goodF_snoc (l : List FrX) (x : FrX) : goodF (l ++ [x]) = x.1.1 + x.1.2.size + 12 := by
  induction l with
  | nil => rfl
  | cons y l ih =>
    show (if l ++ [x] = [] then _ else goodF (l ++ [x])) = _
    rw [if_neg (by simp), ih]

/-- The payloads. -/
def payF (l : List FrX) : List ByteArray := l.map (·.1.2)

/-- Room: the frames lie one behind the other. -/
theorem framesGo_room (s : ByteArray) : ∀ (k p : Nat), p ≤ s.size → (framesGo s k p).length * 12 ≤ s.size - p
  | 0, _, _ => by simp [framesGo]
  | k + 1, p, hp => by
    unfold framesGo
    split
    · rename_i h
      obtain ⟨h1, h2, h3⟩ := takeF_ok h.1
      rw [from_size s p hp] at h3
      have ih := framesGo_room s k (p + (takeF (from_ s p)).2.1) (by omega)
      simp only [List.length_cons]
      omega
    · simp

theorem framesF_room (s : ByteArray) : (framesF s).length * 12 ≤ s.size := by
  have := framesGo_room s (s.size + 1) 0 (Nat.zero_le _)
  unfold framesF
  omega

end Go.Proofs.Ythnoebdfofbpoaa
