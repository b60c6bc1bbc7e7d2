/- The plain mathematics of bits that are turned over in a text. -/
import Derived.Test.YtjbmfjpodddhaaaSumPure
namespace Go.Proofs.Ytjbmfjpodddhaaa
namespace Crc

/-- Bit number i of bytes, the lowest of each byte first. -/
def bitAt (l : List UInt8) (i : Nat) : Nat := (l.getD (i / 8) 0).toNat / 2 ^ (i % 8) % 2

theorem bitAt_cons_low (x : UInt8) (l : List UInt8) (i : Nat) (h : i < 8) : bitAt (x :: l) i = x.toNat / 2 ^ i % 2 := by
  unfold bitAt
  rw [Nat.div_eq_of_lt h, Nat.mod_eq_of_lt h]
  rfl
theorem bitAt_cons_high (x : UInt8) (l : List UInt8) (i : Nat) : bitAt (x :: l) (8 + i) = bitAt l i := by
  unfold bitAt
  rw [show (8 + i) / 8 = i / 8 + 1 from by omega, show (8 + i) % 8 = i % 8 from by omega]
  rfl
theorem bits8_map (x : Nat) : bits8 x = (List.range 8).map fun i => x / 2 ^ i % 2 := by simp [bits8, List.range_succ]
theorem bitsOf_map (l : List UInt8) : bitsOf l = (List.range (8 * l.length)).map (bitAt l) := by
  induction l with
  | nil => rfl
  | cons x l ih =>
    show bits8 x.toNat ++ bitsOf l = _
    rw [ih, bits8_map, List.length_cons, show 8 * (l.length + 1) = 8 + 8 * l.length from by omega, List.range_add, List.map_append, List.map_map]
    have e1 : (List.range 8).map (fun i => x.toNat / 2 ^ i % 2) = (List.range 8).map (bitAt (x :: l)) := List.map_congr_left fun i hi => (bitAt_cons_low x l i (by simpa using hi)).symm
    have e2 : (List.range (8 * l.length)).map (bitAt l) = (List.range (8 * l.length)).map (bitAt (x :: l) ∘ fun i => 8 + i) := List.map_congr_left fun i _ => (bitAt_cons_high x l i).symm
    rw [e1, e2]

theorem addB_map (f g : Nat → Nat) : ∀ l : List Nat, addB (l.map f) (l.map g) = l.map fun i => f i ^^^ g i
  | [] => rfl
  | x :: l => by
    show (f x ^^^ g x) :: addB (l.map f) (l.map g) = _
    rw [addB_map f g l]
    rfl

/-- The bits that are to be turned: 'by' from place 'at' on, k of them. -/
def zb (at_ by_ k i : Nat) : Nat := if at_ ≤ i ∧ i < at_ + k then by_ / 2 ^ (i - at_) % 2 else 0

/-- L is s with k bits turned. -/
def Turned (s L : List UInt8) (at_ by_ k : Nat) : Prop := L.length = s.length ∧ ∀ i, i < 8 * s.length → bitAt L i = (bitAt s i + zb at_ by_ k i) % 2

theorem Turned.zero (s : List UInt8) (at_ by_ : Nat) : Turned s s at_ by_ 0 := by
  refine ⟨rfl, fun i _ => ?_⟩
  have : zb at_ by_ 0 i = 0 := by unfold zb; rw [if_neg (by omega)]
  rw [this, Nat.add_zero]
  unfold bitAt
  omega

theorem zb_succ (at_ by_ k i : Nat) : zb at_ by_ (k + 1) i = if i = at_ + k then by_ / 2 ^ k % 2 else zb at_ by_ k i := by
  unfold zb
  by_cases h : i = at_ + k
  · subst h
    rw [if_pos (by omega), if_pos rfl, show at_ + k - at_ = k from by omega]
  · rw [if_neg h]
    by_cases h2 : at_ ≤ i ∧ i < at_ + k
    · rw [if_pos h2, if_pos (by omega)]
    · rw [if_neg h2, if_neg (by omega)]

theorem Turned.skip {s L : List UInt8} {at_ by_ k : Nat} (h : Turned s L at_ by_ k) (hb : by_ / 2 ^ k % 2 = 0) : Turned s L at_ by_ (k + 1) := by
  refine ⟨h.1, fun i hi => ?_⟩
  rw [h.2 i hi, zb_succ]
  by_cases hi2 : i = at_ + k
  · subst hi2
    have : zb at_ by_ k (at_ + k) = 0 := by unfold zb; rw [if_neg (by omega)]
    rw [if_pos rfl, this, hb]
  · rw [if_neg hi2]

theorem bit_flip (x r j : Nat) (hr : r < 8) : (x ^^^ 2 ^ r) / 2 ^ j % 2 = (x / 2 ^ j + if j = r then 1 else 0) % 2 := by
  have h1 : (x ^^^ 2 ^ r) / 2 ^ j = (x / 2 ^ j) ^^^ (2 ^ r / 2 ^ j) := by
    rw [← Nat.shiftRight_eq_div_pow, ← Nat.shiftRight_eq_div_pow, ← Nat.shiftRight_eq_div_pow, Nat.shiftRight_xor_distrib]
  rw [h1, mod_xor]
  have h2 : 2 ^ r / 2 ^ j % 2 = if j = r then 1 else 0 := by
    by_cases hjr : j = r
    · subst hjr
      rw [Nat.div_self (Nat.pow_pos (by omega)), if_pos rfl]
    · rw [if_neg hjr]
      rcases Nat.lt_or_ge r j with h | h
      · rw [Nat.div_eq_of_lt (Nat.pow_lt_pow_right (by omega) h)]
      · rw [Nat.pow_div h (by omega), show r - j = (r - j - 1) + 1 from by omega, Nat.pow_succ]
        omega
  rw [h2]
  split <;> omega

theorem Turned.flip {s L : List UInt8} {at_ by_ k : Nat} (h : Turned s L at_ by_ k) (hb : by_ / 2 ^ k % 2 = 1) (x : UInt8)
    (hx : x.toNat = (L.getD ((at_ + k) / 8) 0).toNat ^^^ 2 ^ ((at_ + k) % 8)) : Turned s (L.set ((at_ + k) / 8) x) at_ by_ (k + 1) := by
  refine ⟨by simpa using h.1, fun i hi => ?_⟩
  rw [zb_succ]
  have hlen := h.1
  by_cases hj : i / 8 = (at_ + k) / 8
  · have e1 : (L.set ((at_ + k) / 8) x).getD (i / 8) 0 = x := by
      rw [hj, List.getD, List.getElem?_set_self (by omega)]
      rfl
    have e2 : bitAt (L.set ((at_ + k) / 8) x) i = (bitAt L i + if i = at_ + k then 1 else 0) % 2 := by
      unfold bitAt
      rw [e1, hx, bit_flip _ _ _ (Nat.mod_lt _ (by omega)), hj]
      by_cases he : i = at_ + k
      · subst he
        simp
      · rw [if_neg he, if_neg (by omega)]
        omega
    rw [e2, h.2 i hi]
    by_cases he : i = at_ + k
    · subst he
      have : zb at_ by_ k (at_ + k) = 0 := by unfold zb; rw [if_neg (by omega)]
      rw [if_pos rfl, if_pos rfl, this, hb]
      omega
    · rw [if_neg he, if_neg he]
      omega
  · have e1 : (L.set ((at_ + k) / 8) x).getD (i / 8) 0 = L.getD (i / 8) 0 := by
      rw [List.getD, List.getD, List.getElem?_set_ne (by omega)]
    have e2 : bitAt (L.set ((at_ + k) / 8) x) i = bitAt L i := by unfold bitAt; rw [e1]
    rw [e2, h.2 i hi, if_neg (by rintro rfl; exact hj rfl)]

/-- Are there bits that were turned? -/
def any1 (by_ : Nat) : Nat → Bool
  | 0 => false
  | k + 1 => any1 by_ k || decide (by_ / 2 ^ k % 2 = 1)
theorem any1_iff (by_ : Nat) : ∀ k, any1 by_ k = true ↔ ∃ j, j < k ∧ by_ / 2 ^ j % 2 = 1
  | 0 => by simp [any1]
  | k + 1 => by
    simp only [any1, Bool.or_eq_true, any1_iff by_ k, decide_eq_true_eq]
    constructor
    · rintro (⟨j, h1, h2⟩ | h)
      · exact ⟨j, by omega, h2⟩
      · exact ⟨k, by omega, h⟩
    · rintro ⟨j, h1, h2⟩
      by_cases e : j = k
      · subst e; exact .inr h2
      · exact .inl ⟨j, by omega, h2⟩

/-- P2.6: another sum just if a bit was turned. -/
theorem Turned.sums {s L : List UInt8} {at_ by_ k : Nat} (h : Turned s L at_ by_ k) (hk : k ≤ 32) (hlt : at_ + k ≤ 8 * s.length) : (of L = of s) ↔ any1 by_ k = false := by
  have hb : ∀ i, bitAt s i < 2 := fun i => Nat.mod_lt _ (by omega)
  have hz : ∀ i, zb at_ by_ k i < 2 := fun i => by unfold zb; split <;> omega
  have e1 : addB (bitsOf L) (bitsOf s) = (List.range (8 * s.length)).map (zb at_ by_ k) := by
    rw [bitsOf_map L, bitsOf_map s, h.1, addB_map]
    apply List.map_congr_left
    intro i hi
    rw [h.2 i (by simpa using hi)]
    have h1 := hb i
    have h2 := hz i
    generalize bitAt s i = x at h1
    generalize zb at_ by_ k i = y at h2
    have hx : x = 0 ∨ x = 1 := by omega
    have hy : y = 0 ∨ y = 1 := by omega
    rcases hx with rfl | rfl <;> rcases hy with rfl | rfl <;> rfl
  have e2 : (List.range (8 * s.length)).map (zb at_ by_ k) = List.replicate at_ 0 ++ (List.range k).map (fun j => by_ / 2 ^ j % 2) ++ List.replicate (8 * s.length - at_ - k) 0 := by
    conv => lhs; rw [show 8 * s.length = at_ + k + (8 * s.length - at_ - k) from by omega]
    rw [List.range_add, List.range_add, List.map_append, List.map_append, List.map_map, List.map_map]
    congr 1
    · congr 1
      · rw [List.eq_replicate_iff]
        refine ⟨by simp, fun b hb => ?_⟩
        simp only [List.mem_map, List.mem_range] at hb
        obtain ⟨i, hi, rfl⟩ := hb
        unfold zb
        rw [if_neg (by omega)]
      · apply List.map_congr_left
        intro j hj
        have hj := List.mem_range.1 hj
        show zb at_ by_ k (at_ + j) = _
        unfold zb
        rw [if_pos (by omega), show at_ + j - at_ = j from by omega]
    · rw [List.eq_replicate_iff]
      refine ⟨by simp, fun b hb => ?_⟩
      simp only [List.mem_map, List.mem_range, Function.comp] at hb
      obtain ⟨i, hi, rfl⟩ := hb
      unfold zb
      rw [if_neg (by omega)]
  have e3 : (of L = of s) ↔ stps (addB (bitsOf L) (bitsOf s)) 0 = 0 := by
    rw [of_eq_iff _ _ h.1, bitsOf_add _ _ h.1]
  rw [e3, e1, e2]
  constructor
  · intro h0
    have h1 := spoilt (l := (List.range k).map (fun j => by_ / 2 ^ j % 2)) (fun b hb => by
      simp only [List.mem_map] at hb
      obtain ⟨j, _, rfl⟩ := hb
      omega) (by simpa using hk) h0
    rw [Bool.eq_false_iff]
    intro ht
    obtain ⟨j, hj, hj1⟩ := (any1_iff by_ k).1 ht
    have := h1 (by_ / 2 ^ j % 2) (List.mem_map.2 ⟨j, List.mem_range.2 hj, rfl⟩)
    omega
  · intro h0
    have h1 : (List.range k).map (fun j => by_ / 2 ^ j % 2) = List.replicate k 0 := by
      rw [List.eq_replicate_iff]
      refine ⟨by simp, fun b hb => ?_⟩
      simp only [List.mem_map, List.mem_range] at hb
      obtain ⟨j, hj, rfl⟩ := hb
      rcases Nat.mod_two_eq_zero_or_one (by_ / 2 ^ j) with h2 | h2
      · exact h2
      · have := (any1_iff by_ k).2 ⟨j, hj, h2⟩
        rw [h0] at this
        cases this
    rw [h1, List.replicate_append_replicate, List.replicate_append_replicate]
    exact stps_zeros _

end Crc
end Go.Proofs.Ytjbmfjpodddhaaa
