/- Frames, without a program. -/
import Derived.Test.YtikaeeaepnflnaaKu
namespace Go.Proofs.Ytikaeeaepnflnaa
open Go.RowKit Abs
theorem numB_val : ∀ (w v : Nat), v < 256 ^ w → valB (numB w v) = v
  | 0, v, h => by
    have : v = 0 := by simpa using h
    subst this
    rfl
  | w + 1, v, h => by
    have ih := numB_val w (v / 256) (by rw [Nat.pow_succ] at h; omega)
    unfold numB
    unfold valB at ih ⊢
    rw [valF_append, ih]
    show v / 256 * 256 + (UInt8.ofNat (v % 256)).toNat = v
    have := byte_of v
    omega
theorem numB_of : ∀ (w : Nat) (l : Bytes), l.length = w → numB w (valB l) = l
  | 0, l, h => by rw [List.length_eq_zero_iff.1 h]; rfl
  | w + 1, l, h => by
    have hne : l ≠ [] := fun e => by subst e; cases h
    obtain ⟨k, b, rfl⟩ : ∃ k b, l = k ++ [b] := ⟨l.dropLast, l.getLast hne, (List.dropLast_concat_getLast hne).symm⟩
    rw [List.length_append, List.length_singleton] at h
    have ih := numB_of w k (by omega)
    have hv : valB (k ++ [b]) = valB k * 256 + b.toNat := by
      unfold valB
      rw [valF_append]
      rfl
    have hb := b.toNat_lt
    unfold numB
    rw [hv, show (valB k * 256 + b.toNat) / 256 = valB k by omega, ih, show (valB k * 256 + b.toNat) % 256 = b.toNat by omega, UInt8.ofNat_toNat]
theorem numB_iff {w v : Nat} {l : Bytes} (hv : v < 256 ^ w) (hl : l.length = w) : numB w v = l ↔ valB l = v := by
  constructor
  · intro e
    rw [← e]
    exact numB_val w v hv
  · intro e
    rw [← e]
    exact numB_of w l hl
theorem valB_cat (a b : Bytes) : valB (a ++ b) = valB a * 256 ^ b.length + valB b := by
  have key : ∀ (l : Bytes) (x : Nat), valF x l = x * 256 ^ l.length + valF 0 l := by
    intro l
    induction l with
    | nil => intro x; simp [valF]
    | cons c l ih =>
      intro x
      rw [valF, ih, valF, ih (0 * 256 + c.toNat), List.length_cons, Nat.pow_succ, Nat.add_mul, Nat.zero_mul, Nat.zero_add]
      rw [Nat.mul_assoc, Nat.mul_comm 256, Nat.add_assoc]
  unfold valB
  rw [valF_append, key b]
/-- bytes with their sum behind them -/
def wholeB (u : Bytes) : Bool := valB (u.drop (u.length - 4)) == Crc.of (u.take (u.length - 4))
/-- a payload's frame -/
def frameB (p : Bytes) : Bytes := numB 4 p.length ++ numB 4 (Crc.of (numB 4 p.length)) ++ (p ++ numB 4 (Crc.of p))
/-- with what bytes begin: the payload, how many bytes, the error -/
def takeR (s : Bytes) : Bytes × Nat × Int :=
  if s.length < 8 then ([], 0, 30) else if 4096 < valB (s.take 4) ∨ wholeB (s.take 8) = false then ([], 0, 7)
  else if s.length < valB (s.take 4) + 12 then ([], 0, 30) else if wholeB ((s.drop 8).take (valB (s.take 4) + 4)) = false then ([], 0, 7)
  else ((s.drop 8).take (valB (s.take 4)), valB (s.take 4) + 12, 0)
theorem frameB_length (p : Bytes) : (frameB p).length = p.length + 12 := by
  unfold frameB
  rw [List.length_append, List.length_append, List.length_append, numB_length, numB_length, numB_length]
  omega
theorem takeR_ok {s : Bytes} (h : (takeR s).2.2 = 0) : 8 ≤ s.length ∧ valB (s.take 4) ≤ 4096 ∧ wholeB (s.take 8) = true ∧ valB (s.take 4) + 12 ≤ s.length ∧ wholeB ((s.drop 8).take (valB (s.take 4) + 4)) = true ∧ takeR s = ((s.drop 8).take (valB (s.take 4)), valB (s.take 4) + 12, 0) := by
  unfold takeR at h ⊢
  by_cases h1 : s.length < 8
  · rw [if_pos h1] at h
    cases h
  rw [if_neg h1] at h ⊢
  by_cases h2 : 4096 < valB (s.take 4) ∨ wholeB (s.take 8) = false
  · rw [if_pos h2] at h
    cases h
  rw [if_neg h2] at h ⊢
  by_cases h3 : s.length < valB (s.take 4) + 12
  · rw [if_pos h3] at h
    cases h
  rw [if_neg h3] at h ⊢
  by_cases h4 : wholeB ((s.drop 8).take (valB (s.take 4) + 4)) = false
  · rw [if_pos h4] at h
    cases h
  rw [if_neg h4]
  have h5 : wholeB (s.take 8) ≠ false := fun e => h2 (.inr e)
  have h6 : ¬ 4096 < valB (s.take 4) := fun e => h2 (.inl e)
  exact ⟨by omega, by omega, by simpa using h5, by omega, by simpa using h4, rfl⟩
theorem takeR_len {s : Bytes} (h : (takeR s).2.2 = 0) : (takeR s).2.1 ≤ s.length ∧ 12 ≤ (takeR s).2.1 ∧ (takeR s).1.length + 12 = (takeR s).2.1 ∧ (takeR s).1.length ≤ 4096 := by
  obtain ⟨h1, h2, _, h4, _, e⟩ := takeR_ok h
  rw [e]
  refine ⟨h4, by show 12 ≤ valB (s.take 4) + 12; omega, ?_, ?_⟩
  · show ((s.drop 8).take (valB (s.take 4))).length + 12 = valB (s.take 4) + 12
    rw [List.length_take, List.length_drop]
    omega
  · show ((s.drop 8).take (valB (s.take 4))).length ≤ _
    rw [List.length_take]
    omega
theorem takeR_bad {s : Bytes} (h : (takeR s).2.2 ≠ 0) : (takeR s).1 = [] ∧ (takeR s).2.1 = 0 := by
  unfold takeR at h ⊢
  split
  · exact ⟨rfl, rfl⟩
  · split
    · exact ⟨rfl, rfl⟩
    · split
      · exact ⟨rfl, rfl⟩
      · split
        · exact ⟨rfl, rfl⟩
        · rename_i h1 h2 h3 h4
          rw [if_neg h1, if_neg h2, if_neg h3, if_neg h4] at h
          exact absurd rfl h
/-- the frames with which bytes begin: their payloads, and how far they go -/
def scanF : Nat → Bytes → List Bytes × Nat
  | 0, _ => ([], 0)
  | f + 1, s => if (takeR s).2.2 = 0 then ((takeR s).1 :: (scanF f (s.drop (takeR s).2.1)).1, (takeR s).2.1 + (scanF f (s.drop (takeR s).2.1)).2) else ([], 0)
def scanR (s : Bytes) : List Bytes × Nat := scanF (s.length + 1) s
theorem scanF_any : ∀ (f g : Nat) (s : Bytes), s.length < f → s.length < g → scanF f s = scanF g s
  | 0, _, _, h, _ => by omega
  | _, 0, _, _, h => by omega
  | f + 1, g + 1, s, hf, hg => by
    unfold scanF
    split
    · rename_i h
      have hl := takeR_len h
      rw [scanF_any f g (s.drop (takeR s).2.1) (by rw [List.length_drop]; omega) (by rw [List.length_drop]; omega)]
    · rfl
theorem scanR_bad {s : Bytes} (h : (takeR s).2.2 ≠ 0) : scanR s = ([], 0) := by
  unfold scanR scanF
  rw [if_neg h]
theorem scanR_ok {s : Bytes} (h : (takeR s).2.2 = 0) : scanR s = ((takeR s).1 :: (scanR (s.drop (takeR s).2.1)).1, (takeR s).2.1 + (scanR (s.drop (takeR s).2.1)).2) := by
  have hl := takeR_len h
  unfold scanR
  rw [scanF, if_pos h, scanF_any s.length ((s.drop (takeR s).2.1).length + 1) (s.drop (takeR s).2.1) (by rw [List.length_drop]; omega) (by omega)]
theorem scanR_at : ∀ (k : Nat) (s : Bytes), s.length ≤ k → (scanR s).2 ≤ s.length ∧ (scanR s).1.length * 12 ≤ s.length
  | k, s, hk => by
    by_cases h : (takeR s).2.2 = 0
    · have hl := takeR_len h
      match k, hk with
      | 0, hk => omega
      | k + 1, hk =>
        have ih := scanR_at k (s.drop (takeR s).2.1) (by rw [List.length_drop]; omega)
        rw [List.length_drop] at ih
        rw [scanR_ok h]
        constructor
        · show (takeR s).2.1 + _ ≤ _
          omega
        · rw [List.length_cons]
          omega
    · rw [scanR_bad h]
      exact ⟨Nat.zero_le _, by simp⟩
theorem wholeB_iff {u : Bytes} (hu : 4 ≤ u.length) : wholeB u = true ↔ numB 4 (Crc.of (u.take (u.length - 4))) = u.drop (u.length - 4) := by
  unfold wholeB
  rw [beq_iff_eq, numB_iff (by exact crc_lt _) (by rw [List.length_drop]; omega)]
/-- what is taken is a frame, and a frame is taken -/
theorem take_frame {s : Bytes} (h : (takeR s).2.2 = 0) : s.take (takeR s).2.1 = frameB (takeR s).1 := by
  obtain ⟨h1, h2, h3, h4, h5, e⟩ := takeR_ok h
  rw [e]
  show s.take (valB (s.take 4) + 12) = frameB ((s.drop 8).take (valB (s.take 4)))
  have hl4 : (s.take 4).length = 4 := by rw [List.length_take]; omega
  have hl8 : (s.take 8).length = 8 := by rw [List.length_take]; omega
  have hpl : ((s.drop 8).take (valB (s.take 4))).length = valB (s.take 4) := by rw [List.length_take, List.length_drop]; omega
  have hql : ((s.drop 8).take (valB (s.take 4) + 4)).length = valB (s.take 4) + 4 := by rw [List.length_take, List.length_drop]; omega
  have w1 := (wholeB_iff (by omega)).1 h3
  have w2 := (wholeB_iff (by omega)).1 h5
  rw [hl8, List.take_take] at w1
  rw [hql, List.take_take, Nat.add_sub_cancel, Nat.min_eq_left (Nat.le_add_right _ _)] at w2
  have e4 : numB 4 (valB (s.take 4)) = s.take 4 := numB_of 4 _ hl4
  unfold frameB
  rw [hpl, e4, w2]
  have w1 : numB 4 (Crc.of (s.take 4)) = (s.take 8).drop 4 := w1
  rw [w1]
  have a1 : s.take 4 ++ (s.take 8).drop 4 = s.take 8 := by
    have := List.take_append_drop 4 (s.take 8)
    rw [List.take_take] at this
    exact this
  have a2 : (s.drop 8).take (valB (s.take 4)) ++ ((s.drop 8).take (valB (s.take 4) + 4)).drop (valB (s.take 4)) = (s.drop 8).take (valB (s.take 4) + 4) := by
    have := List.take_append_drop (valB (s.take 4)) ((s.drop 8).take (valB (s.take 4) + 4))
    rw [List.take_take, Nat.min_eq_left (Nat.le_add_right _ _)] at this
    exact this
  rw [a1, a2, show valB (s.take 4) + 12 = 8 + (valB (s.take 4) + 4) by omega, List.take_add]
theorem frame_take {p rest : Bytes} (hp : p.length ≤ 4096) : takeR (frameB p ++ rest) = (p, p.length + 12, 0) := by
  have hl := frameB_length p
  have l4 : (numB 4 p.length).length = 4 := numB_length _ _
  have c4 : ∀ x : Bytes, (numB 4 (Crc.of x)).length = 4 := fun x => numB_length _ _
  have t4 : (frameB p ++ rest).take 4 = numB 4 p.length := by
    unfold frameB
    rw [List.append_assoc, List.append_assoc, List.take_append_of_le_length (by omega), List.take_of_length_le (by omega)]
  have t8 : (frameB p ++ rest).take 8 = numB 4 p.length ++ numB 4 (Crc.of (numB 4 p.length)) := by
    unfold frameB
    rw [List.append_assoc, List.take_left' (by rw [List.length_append, l4, c4])]
  have d8 : (frameB p ++ rest).drop 8 = p ++ numB 4 (Crc.of p) ++ rest := by
    unfold frameB
    rw [List.append_assoc, List.drop_left' (by rw [List.length_append, l4, c4])]
  have hv : valB ((frameB p ++ rest).take 4) = p.length := by
    rw [t4]
    exact numB_val 4 _ (by have : 256 ^ 4 = 4294967296 := rfl; omega)
  have w1 : wholeB ((frameB p ++ rest).take 8) = true := by
    rw [t8, wholeB_iff (by rw [List.length_append, l4, c4]; omega), List.length_append, l4, c4]
    rw [List.take_left' l4, List.drop_left' l4]
  have w2 : wholeB (((frameB p ++ rest).drop 8).take (p.length + 4)) = true := by
    rw [d8, List.take_left' (by rw [List.length_append, c4]), wholeB_iff (by rw [List.length_append, c4]; omega), List.length_append, c4, Nat.add_sub_cancel]
    rw [List.take_left' rfl, List.drop_left' rfl]
  unfold takeR
  rw [hv, w1, w2, if_neg (by rw [List.length_append]; omega), if_neg (by simp; omega), if_neg (by rw [List.length_append]; omega), if_neg (by decide), d8, List.append_assoc, List.take_left' rfl]
end Go.Proofs.Ytikaeeaepnflnaa
