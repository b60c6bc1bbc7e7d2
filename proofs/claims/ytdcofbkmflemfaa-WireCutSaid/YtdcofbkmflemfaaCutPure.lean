/- Bytes that end too early are found out: the plain mathematics. -/
import Derived.Test.YtdcofbkmflemfaaBackPure
namespace Go.Proofs.Ytdcofbkmflemfaa
open Go.RowKit

/-- From place p on the text reads as L does, but it ends ahead of L's end. -/
def Cut (S : ByteArray) (p : Nat) (L : List UInt8) : Prop := p ≤ S.size ∧ S.data.toList.drop p = L.take (S.size - p) ∧ S.size - p < L.length

theorem Cut.whole {S : ByteArray} {p : Nat} {A C : List UInt8} (h : Cut S p (A ++ C)) (hA : A.length ≤ S.size - p) : Ahead S p (A ++ C.take (S.size - p - A.length)) := by
  obtain ⟨hp, h1, _⟩ := h
  refine ⟨hp, ?_⟩
  rw [h1, List.take_append, List.take_of_length_le hA]

theorem Cut.behind {S : ByteArray} {p : Nat} {A C : List UInt8} (h : Cut S p (A ++ C)) (hA : A.length ≤ S.size - p) : Cut S (p + A.length) C := by
  have hw := (h.whole hA).step
  obtain ⟨hp, h1, h2⟩ := h
  refine ⟨hw.2.1, ?_, ?_⟩
  · rw [hw.1.2, Nat.sub_add_eq]
  · simp only [List.length_append] at h2; omega

theorem textS_list (x : ByteArray) : (textS x).data.toList = numL 4 x.size ++ x.data.toList := by
  rw [← numS_list]; simp [textS]

theorem textS_length (x : ByteArray) : (textS x).data.toList.length = 4 + x.size := by
  rw [textS_list]; simp [numL_length]

theorem Cut.text {S : ByteArray} {p : Nat} {x : ByteArray} {C : List UInt8} {most : Int} (h : Cut S p ((textS x).data.toList ++ C)) (hx : x.size < 4294967296) (hm : (x.size : Int) ≤ most) :
    (S.size - p < 4 + x.size ∧ ∃ q, textF S most ⟨p, 0, 0⟩ = (⟨#[]⟩, ⟨q, 7, p⟩) ∧ q ≤ S.size) ∨
    (4 + x.size ≤ S.size - p ∧ textF S most ⟨p, 0, 0⟩ = (x, ⟨p + 4 + x.size, 0, 0⟩) ∧ Cut S (p + 4 + x.size) C) := by
  have hp := h.1
  by_cases h4 : S.size - p < 4
  · left
    exact ⟨by omega, p, by simp [textF, h4], hp⟩
  · have h0 : Cut S p (numL 4 x.size ++ (x.data.toList ++ C)) := by rw [← List.append_assoc, ← textS_list]; exact h
    obtain ⟨e1, _⟩ := (h0.whole (by rw [numL_length]; omega)).num (by simpa using hx)
    by_cases hl : S.size - p < 4 + x.size
    · left
      refine ⟨hl, p + 4, ?_, by omega⟩
      have a2 : ¬ most < (x.size : Int) := by omega
      have a3 : S.size - (p + 4) < x.size := by omega
      unfold textF
      simp only [h4, e1, a2, a3, if_false, if_true, ne_eq, not_true_eq_false]
    · right
      have hA : (textS x).data.toList.length ≤ S.size - p := by rw [textS_length]; omega
      refine ⟨by omega, ((h.whole hA).text hx hm).1, ?_⟩
      have := h.behind hA
      rw [textS_length, ← Nat.add_assoc] at this
      exact this

theorem Cut.textsGo {S : ByteArray} {most : Int} : ∀ (l acc : List ByteArray) (p : Nat), Cut S p (textsL l) → (∀ x ∈ l, x.size < 4294967296 ∧ (x.size : Int) ≤ most) →
    ∃ (q b : Nat), textsGo S most l.length acc ⟨p, 0, 0⟩ = ([], ⟨q, 7, b⟩) ∧ p ≤ b ∧ b ≤ S.size ∧ q ≤ S.size
  | [], acc, p, h, _ => by have := h.2.2; simp [textsL] at this
  | x :: l, acc, p, h, hx => by
    have h0 : Cut S p ((textS x).data.toList ++ textsL l) := h
    rcases h0.text (hx x (by simp)).1 (hx x (by simp)).2 with ⟨_, q, e, hq⟩ | ⟨_, e, h2⟩
    · refine ⟨q, p, ?_, Nat.le_refl _, h.1, hq⟩
      show Ytdcofbkmflemfaa.textsGo S most (l.length + 1) acc ⟨p, 0, 0⟩ = _
      unfold Ytdcofbkmflemfaa.textsGo
      rw [e]
      simp
    · obtain ⟨q, b, e2, hb, hb2, hq⟩ := Cut.textsGo l (acc ++ [x]) (p + 4 + x.size) h2 (fun y hy => hx y (by simp [hy]))
      refine ⟨q, b, ?_, by omega, hb2, hq⟩
      show Ytdcofbkmflemfaa.textsGo S most (l.length + 1) acc ⟨p, 0, 0⟩ = _
      unfold Ytdcofbkmflemfaa.textsGo
      rw [e]
      simp only [ne_eq, not_true_eq_false, if_false]
      exact e2

theorem Cut.texts {S : ByteArray} {p : Nat} {l : List ByteArray} {count most : Int} (h : Cut S p (textsS l).data.toList) (hn : l.length < 4294967296) (hc : (l.length : Int) ≤ count)
    (ht : total l < 4294967296) (hm : (total l : Int) ≤ most) :
    ∃ (q b : Nat), textsF S count most ⟨p, 0, 0⟩ = ([], ⟨q, 7, b⟩) ∧ p ≤ b ∧ b ≤ S.size ∧ q ≤ S.size := by
  have hp := h.1
  have e0 : (textsS l).data.toList = numL 4 l.length ++ textsL l := by rw [← numS_list]; simp [textsS]
  rw [e0] at h
  by_cases h4 : S.size - p < 4
  · exact ⟨p, p, by simp [textsF, h4], Nat.le_refl _, hp, hp⟩
  · obtain ⟨e1, _⟩ := (h.whole (by rw [numL_length]; omega)).num (by simpa using hn)
    have h2 := h.behind (by rw [numL_length]; omega)
    rw [numL_length] at h2
    obtain ⟨q, b, e2, hb, hb2, hq⟩ := Cut.textsGo (most := most) l [] (p + 4) h2 (fun x hx => by have := size_le_total hx; omega)
    refine ⟨q, b, ?_, by omega, hb2, hq⟩
    unfold textsF
    have a2 : ¬ count < (l.length : Int) := by omega
    simp only [h4, e1, a2, if_false, ne_eq, not_true_eq_false]
    exact e2

/-- What the law reads of what it has cut: at the text. -/
theorem cut_first (s : ByteArray) (l : List ByteArray) (n : Nat) (hs : s.size < 4294967296) (S : ByteArray) (hS : S = (textS s ++ textsS l).extract 0 n) (hn : n < 4 + s.size) :
    S.size = n ∧ ∃ q x, textF S s.size ⟨0, 0, 0⟩ = (x, ⟨q, 7, 0⟩) := by
  have hz : (textS s).size = 4 + s.size := by rw [textS, ByteArray.size_append, numS_size]
  have hsz : S.size = n := by rw [hS, ByteArray.size_extract, ByteArray.size_append]; omega
  have hC : Cut S 0 ((textS s).data.toList ++ (textsS l).data.toList) := by
    refine ⟨Nat.zero_le _, ?_, ?_⟩
    · rw [hsz, hS, List.drop_zero, Nat.sub_zero, ByteArray.data_extract, Array.toList_extract, List.extract_eq_take_drop]
      simp
    · rw [hsz, List.length_append, textS_length]; omega
  refine ⟨hsz, ?_⟩
  rcases hC.text (most := (s.size : Int)) hs (Int.le_refl _) with ⟨_, q, e, _⟩ | ⟨h1, _⟩
  · exact ⟨q, _, e⟩
  · omega

/-- .. at the texts. -/
theorem cut_second (s : ByteArray) (l : List ByteArray) (n all : Nat) (hs : s.size < 4294967296) (hl : l.length < 4294967296) (ht : total l < 4294967296) (hall : total l ≤ all) (S : ByteArray) (hS : S = (textS s ++ textsS l).extract 0 n) (hn : 4 + s.size ≤ n) (hn2 : n < (textS s ++ textsS l).size) :
    S.size = n ∧ ∃ (q b : Nat), textF S s.size ⟨0, 0, 0⟩ = (s, ⟨4 + s.size, 0, 0⟩) ∧ textsF S l.length all ⟨4 + s.size, 0, 0⟩ = ([], ⟨q, 7, b⟩) ∧ 4 + s.size ≤ b ∧ b ≤ n ∧ q ≤ n := by
  have hz : (textS s).size = 4 + s.size := by rw [textS, ByteArray.size_append, numS_size]
  rw [ByteArray.size_append] at hn2
  have hsz : S.size = n := by rw [hS, ByteArray.size_extract, ByteArray.size_append]; omega
  have hC : Cut S 0 ((textS s).data.toList ++ (textsS l).data.toList) := by
    refine ⟨Nat.zero_le _, ?_, ?_⟩
    · rw [hsz, hS, List.drop_zero, Nat.sub_zero, ByteArray.data_extract, Array.toList_extract, List.extract_eq_take_drop]
      simp
    · have e : (textsS l).data.toList.length = (textsS l).size := by simp
      rw [hsz, List.length_append, textS_length, e]; omega
  refine ⟨hsz, ?_⟩
  rcases hC.text (most := (s.size : Int)) hs (Int.le_refl _) with ⟨h1, _⟩ | ⟨_, e, h2⟩
  · omega
  · rw [Nat.zero_add] at e h2
    obtain ⟨q, b, e2, hb, hb2, hq⟩ := h2.texts (count := (l.length : Int)) (most := (all : Int)) hl (Int.le_refl _) ht (by omega)
    exact ⟨q, b, e, e2, hb, by omega, by omega⟩

end Go.Proofs.Ytdcofbkmflemfaa
