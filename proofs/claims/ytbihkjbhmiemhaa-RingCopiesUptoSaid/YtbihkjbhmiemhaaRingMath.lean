/- A ring's places: what stands where. -/
import Derived.Test.YtbihkjbhmiemhaaAbs35
namespace Go.Proofs.Ytbihkjbhmiemhaa
open Go.RowKit Abs

theorem mod_of {L q x m : Nat} (hm : m = L * q + x) (hx : x < L) : m % L = x := by
  subst hm
  rw [Nat.mul_add_mod, Nat.mod_eq_of_lt hx]
/-- of the first L places each holds the newest byte of its numbers -/
def Holds1 (K out : Bytes) (L : Nat) : Prop := ∀ m, m < out.length → out.length - L ≤ m → K[m % L]? = out[m]?
/-- what a put makes of it -/
def putK (K s : Bytes) (p L : Nat) : Bytes := layB (layB K p (s.take (Nat.min s.length (L - p)))) 0 (s.drop (Nat.min s.length (L - p)))
theorem put_math {K out s : Bytes} {L : Nat} (hK : K.length = 1024) (hL : 1 ≤ L ∧ L ≤ 1024) (hi : Holds1 K out L) :
    (putK K (s.drop (s.length - L)) ((out.length + (s.length - L)) % L) L).length = 1024 ∧ Holds1 (putK K (s.drop (s.length - L)) ((out.length + (s.length - L)) % L) L) (out ++ s) L := by
  generalize hlost : s.length - L = lost
  generalize he1 : out.length + lost = e1
  have hp : e1 % L < L := Nat.mod_lt _ (by omega)
  have hq := Nat.div_add_mod e1 L
  generalize e1 / L = q at hq
  generalize e1 % L = p at hp hq
  have hs' : (s.drop lost).length = s.length - lost := by rw [List.length_drop]
  have hget : ∀ j, (s.drop lost)[j]? = s[lost + j]? := fun j => List.getElem?_drop
  generalize s.drop lost = s' at *
  unfold putK
  generalize hn : Nat.min s'.length (L - p) = n
  have hn1 : n ≤ s'.length := by rw [← hn]; exact Nat.min_le_left _ _
  have hn2 : n ≤ L - p := by rw [← hn]; exact Nat.min_le_right _ _
  have hn3 : n = s'.length ∨ n = L - p := by
    rw [← hn]
    show min s'.length (L - p) = _ ∨ min s'.length (L - p) = _
    omega
  have l1 : (s'.take n).length = n := by rw [List.length_take]; omega
  have l2 : (s'.drop n).length = s'.length - n := List.length_drop
  have q1 : p + (s'.take n).length ≤ K.length := by omega
  have q2 : (layB K p (s'.take n)).length = 1024 := by rw [layB_length q1, hK]
  have q3 : 0 + (s'.drop n).length ≤ (layB K p (s'.take n)).length := by omega
  refine ⟨by rw [layB_length q3, q2], fun m hm hm2 => ?_⟩
  rw [List.length_append] at hm hm2
  rw [layB_get q3, layB_get q1, l1, l2]
  by_cases hme : e1 ≤ m
  · -- one of the new bytes
    obtain ⟨j, rfl⟩ := Nat.le.dest hme
    have hj : j < s'.length := by omega
    have hout : (out ++ s)[e1 + j]? = s'[j]? := by
      rw [List.getElem?_append_right (by omega), hget]
      congr 1
      omega
    rw [hout]
    by_cases hjn : j < n
    · have hmod : (e1 + j) % L = p + j := mod_of (q := q) (by omega) (by omega)
      rw [hmod, if_neg (by omega), if_pos ⟨by omega, by omega⟩, List.getElem?_take_of_lt (by omega)]
      congr 1
      omega
    · have hnL : n = L - p := by omega
      have hmod : (e1 + j) % L = j - n := mod_of (q := q + 1) (by rw [Nat.mul_add]; omega) (by omega)
      rw [hmod, if_pos ⟨by omega, by omega⟩, List.getElem?_drop]
      congr 1
      omega
  · -- one that was there
    have hl0 : lost = 0 := by omega
    have hmo : m < out.length := by omega
    have hout : (out ++ s)[m]? = out[m]? := List.getElem?_append_left hmo
    rw [hout, ← hi m hmo (by omega)]
    by_cases hd : e1 - m ≤ p
    · have hmod : m % L = p - (e1 - m) := mod_of (q := q) (by omega) (by omega)
      rw [hmod, if_neg (by omega), if_neg (by omega)]
    · cases q with
      | zero => omega
      | succ q =>
        rw [Nat.mul_add] at hq
        have hmod : m % L = L + p - (e1 - m) := mod_of (q := q) (by omega) (by omega)
        rw [hmod, if_neg (by omega), if_neg (by omega)]
/-- what is read of it -/
theorem from_math {K out : Bytes} {L a k : Nat} (hK : K.length = 1024) (hL : 1 ≤ L ∧ L ≤ 1024) (hi : Holds1 K out L) (ha : out.length - L ≤ a) (hk : a + k ≤ out.length) :
    (K.drop (a % L)).take (Nat.min k (L - a % L)) ++ K.take (k - Nat.min k (L - a % L)) = (out.drop a).take k := by
  have hp : a % L < L := Nat.mod_lt _ (by omega)
  have hq := Nat.div_add_mod a L
  generalize a / L = q at hq
  generalize a % L = p at hp hq
  generalize hn : Nat.min k (L - p) = n
  have hn1 : n ≤ k := by rw [← hn]; exact Nat.min_le_left _ _
  have hn2 : n ≤ L - p := by rw [← hn]; exact Nat.min_le_right _ _
  have hn3 : n = k ∨ n = L - p := by
    rw [← hn]
    show min k (L - p) = _ ∨ min k (L - p) = _
    omega
  have l1 : ((K.drop p).take n).length = n := by rw [List.length_take, List.length_drop]; omega
  apply List.ext_getElem?
  intro j
  by_cases hj : j < k
  · rw [List.getElem?_take_of_lt (l := out.drop a) hj, List.getElem?_drop, ← hi (a + j) (by omega) (by omega)]
    by_cases hjn : j < n
    · have hmod : (a + j) % L = p + j := mod_of (q := q) (by omega) (by omega)
      rw [List.getElem?_append_left (by omega), List.getElem?_take_of_lt hjn, List.getElem?_drop, hmod]
    · have hmod : (a + j) % L = j - n := mod_of (q := q + 1) (by rw [Nat.mul_add]; omega) (by omega)
      rw [List.getElem?_append_right (by omega), l1, List.getElem?_take_of_lt (by omega), hmod]
  · rw [List.getElem?_eq_none (by rw [List.length_append, l1, List.length_take]; omega), List.getElem?_eq_none (by rw [List.length_take]; omega)]
end Go.Proofs.Ytbihkjbhmiemhaa
