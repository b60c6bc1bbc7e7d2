/- A frame of which a byte is another one is no frame: plain mathematics. -/
import Derived.Test.YthnoebdfofbpoaaFrPure
import Derived.Test.YthnoebdfofbpoaaSumTimes
namespace Go.Proofs.Ythnoebdfofbpoaa

theorem beV_inj : ∀ (l m : List UInt8) (a b : Nat), l.length = m.length → beV l a = beV m b → a = b ∧ l = m
  | [], [], _, _, _, h => ⟨h, rfl⟩
  | [], _ :: _, _, _, h, _ => by simp at h
  | _ :: _, [], _, _, h, _ => by simp at h
  | x :: l, y :: m, a, b, h, e => by
    have ih := beV_inj l m (a * 256 + x.toNat) (b * 256 + y.toNat) (by simpa using h) e
    have hx := x.toNat_lt
    have hy := y.toNat_lt
    have h1 : x.toNat = y.toNat := by omega
    exact ⟨by omega, by rw [ih.2, UInt8.toNat_inj.1 h1]⟩

namespace Crc
theorem bitsOf_zeros (n : Nat) : bitsOf (List.replicate n 0) = List.replicate (8 * n) 0 := by
  induction n with
  | zero => rfl
  | succ n ih =>
    rw [List.replicate_succ]
    show bits8 (0 : UInt8).toNat ++ bitsOf (List.replicate n 0) = _
    rw [ih, show 8 * (n + 1) = 8 + 8 * n from by omega, ← List.replicate_append_replicate]
    rfl

theorem addL_self : ∀ a : List UInt8, addL a a = List.replicate a.length 0
  | [] => rfl
  | x :: a => by
    show (x ^^^ x) :: addL a a = _
    rw [addL_self a, List.length_cons, List.replicate_succ]
    congr 1
    apply UInt8.toNat_inj.1
    rw [UInt8.toNat_xor, Nat.xor_self]
    rfl

theorem addL_set : ∀ (a : List UInt8) (i : Nat) (x : UInt8) (h : i < a.length), addL (a.set i x) a = List.replicate i 0 ++ [x ^^^ a[i]] ++ List.replicate (a.length - i - 1) 0
  | y :: a, 0, x, _ => by
    show (x ^^^ y) :: addL a a = _
    rw [addL_self]
    simp
  | y :: a, i + 1, x, h => by
    show (y ^^^ y) :: addL (a.set i x) a = _
    rw [addL_set a i x (by simpa using h), List.replicate_succ]
    have e : y ^^^ y = 0 := by
      apply UInt8.toNat_inj.1
      rw [UInt8.toNat_xor, Nat.xor_self]
      rfl
    rw [e]
    simp

/-- Another byte, another sum. -/
theorem of_set (a : List UInt8) (i : Nat) (x : UInt8) (h : i < a.length) (hx : x ≠ a[i]) : of (a.set i x) ≠ of a := by
  intro he
  rw [of_eq_iff _ _ (by simp), addL_set a i x h, bitsOf_append, bitsOf_append, bitsOf_zeros, bitsOf_zeros] at he
  have hl : bitsOf [x ^^^ a[i]] = bits8 (x ^^^ a[i]).toNat := by simp [bitsOf]
  rw [hl] at he
  have h0 := spoilt (bits8_lt _) (by simp [bits8]) he
  have hw := word_bits8 (x ^^^ a[i]).toNat (x ^^^ a[i]).toNat_lt
  have hz : word (bits8 (x ^^^ a[i]).toNat) = 0 := by
    have : ∀ l : List Nat, (∀ b ∈ l, b = 0) → word l = 0 := by
      intro l
      induction l with
      | nil => intro _; rfl
      | cons b l ih =>
        intro hb
        simp only [word, hb b (by simp), ih (fun c hc => hb c (by simp [hc]))]
    exact this _ h0
  rw [hz, UInt8.toNat_xor] at hw
  have : x.toNat = a[i].toNat := by
    have := congrArg (· ^^^ a[i].toNat) hw
    simpa [Nat.xor_assoc] using this.symm
  exact hx (UInt8.toNat_inj.1 this)
end Crc

/-- The bytes of a text of a list. -/
def bs (l : List UInt8) : ByteArray := ⟨l.toArray⟩
theorem bs_list (l : List UInt8) : (bs l).data.toList = l := by simp [bs]
theorem bs_size (l : List UInt8) : (bs l).size = l.length := rfl
theorem bs_eq (s : ByteArray) : bs s.data.toList = s := by cases s; simp [bs]
theorem bs_ext (l : List UInt8) (a b : Nat) : (bs l).extract a b = bs ((l.take b).drop a) := by
  rw [← bs_eq ((bs l).extract a b), ext_list, bs_list]
theorem list_size (s : ByteArray) : s.data.toList.length = s.size := by simp

theorem numS_list (wd n : Nat) : (numS wd n).data.toList = (lo wd n).map (fun x => UInt8.ofNat x.toNat) := by
  unfold numS
  rw [strOfNums_data]

theorem beV_lo4 (n : Nat) (h : n < 4294967296) : beV (numS 4 n).data.toList 0 = n := by
  rw [numS_list]
  simp only [lo, List.map, beV]
  simp
  omega

theorem whole_bs (a c : List UInt8) (hc : c.length = 4) : wholeB (bs (a ++ c)) = (beV c 0 == Crc.of a) := by
  unfold wholeB be4 bytesAt ofS
  rw [bs_size, bs_list, List.length_append, hc, Nat.add_sub_cancel, List.drop_left, ext_list, bs_list, List.take_left, List.drop_zero, List.take_of_length_le (by omega)]

theorem whole_sm (s : ByteArray) : wholeB (sm s) = true := by
  have e : sm s = bs (s.data.toList ++ (numS 4 (ofS s)).data.toList) := by
    rw [← bs_eq (sm s)]; exact congrArg bs (by unfold sm; simp)
  rw [e, whole_bs _ _ (by rw [list_size, numS_size]), beV_lo4 _ (ofS_lt s)]
  simp [ofS]

/-- Bytes with their sum, of which one byte is another one. -/
theorem whole_set (s : ByteArray) (i : Nat) (x : UInt8) (h : i < (sm s).data.toList.length) (hx : x ≠ (sm s).data.toList[i]) : wholeB (bs ((sm s).data.toList.set i x)) = false := by
  have e : (sm s).data.toList = s.data.toList ++ (numS 4 (ofS s)).data.toList := by unfold sm; simp
  have hn : (numS 4 (ofS s)).data.toList.length = 4 := by rw [list_size, numS_size]
  have hb := beV_lo4 (ofS s) (ofS_lt s)
  generalize (sm s).data.toList = L at *
  subst e
  by_cases hi : i < s.data.toList.length
  · rw [List.set_append_left _ _ hi, whole_bs _ _ hn, hb]
    rw [List.getElem_append_left hi] at hx
    have := Crc.of_set s.data.toList i x hi hx
    rw [beq_eq_false_iff_ne]
    exact fun h => this h.symm
  · rw [List.set_append_right _ _ (by omega), whole_bs _ _ (by simpa using hn), beq_eq_false_iff_ne]
    rw [List.getElem_append_right (by omega)] at hx
    intro he
    have h1 : beV ((numS 4 (ofS s)).data.toList.set (i - s.data.toList.length) x) 0 = beV (numS 4 (ofS s)).data.toList 0 := by rw [hb, he]; rfl
    have h2 := (beV_inj _ _ 0 0 (by simp) h1).2
    have h3 : i - s.data.toList.length < (numS 4 (ofS s)).data.toList.length := by rw [List.length_append] at h; omega
    have h4 := congrArg (fun l => l[i - s.data.toList.length]?) h2
    simp only [List.getElem?_set_self h3, List.getElem?_eq_getElem h3, Option.some.injEq] at h4
    exact hx h4

theorem frameS_list (p : ByteArray) : (frameS p).data.toList = (sm (numS 4 p.size)).data.toList ++ (sm p).data.toList := by unfold frameS; simp

theorem head_len (p : ByteArray) : (sm (numS 4 p.size)).data.toList.length = 8 := by rw [list_size, sm_size, numS_size]
theorem tail_len (p : ByteArray) : (sm p).data.toList.length = p.size + 4 := by rw [list_size, sm_size]

theorem head_four (p : ByteArray) : (sm (numS 4 p.size)).data.toList.take 4 = (numS 4 p.size).data.toList := by
  have : (numS 4 p.size).data.toList.length = 4 := by rw [list_size, numS_size]
  unfold sm
  rw [ByteArray.data_append, Array.toList_append, List.take_append_of_le_length (by omega), List.take_of_length_le (by omega)]

/-- The number at the head of a frame, whatever stands behind. -/
theorem be4_head (p : ByteArray) (hp : p.size < 4294967296) (m : List UInt8) : be4 (bs ((sm (numS 4 p.size)).data.toList ++ m)) 0 = p.size := by
  unfold be4 bytesAt
  rw [bs_list, List.drop_zero, List.take_append_of_le_length (by rw [head_len]; omega), head_four]
  exact beV_lo4 _ hp

theorem spoilt_frame (p : ByteArray) (hp : p.size ≤ 4096) (i : Nat) (x : UInt8) (h : i < (frameS p).data.toList.length) (hx : x ≠ (frameS p).data.toList[i]) :
    (takeF (bs ((frameS p).data.toList.set i x))).2.1 = 0 ∧ (takeF (bs ((frameS p).data.toList.set i x))).2.2 ≠ 0 := by
  have hl8 := head_len p
  have ht := tail_len p
  have hsz : (frameS p).data.toList.length = p.size + 12 := by rw [list_size, frameS_size]
  have hw : ∀ k, (takeF (bs ((frameS p).data.toList.set i x))) = k → (k.2.1 = 0 ∧ k.2.2 ≠ 0) → (takeF (bs ((frameS p).data.toList.set i x))).2.1 = 0 ∧ (takeF (bs ((frameS p).data.toList.set i x))).2.2 ≠ 0 := fun k hk hh => by rw [hk]; exact hh
  have hz : (bs ((frameS p).data.toList.set i x)).size = p.size + 12 := by rw [bs_size, List.length_set, hsz]
  by_cases hi : i < 8
  · have e1 : (bs ((frameS p).data.toList.set i x)).extract 0 8 = bs ((sm (numS 4 p.size)).data.toList.set i x) := by
      rw [bs_ext, frameS_list, List.set_append_left _ _ (by omega), List.drop_zero]
      congr 1
      rw [show (8 : Nat) = ((sm (numS 4 p.size)).data.toList.set i x).length from by simp only [List.length_set, hl8], List.take_left]
    have e2 : wholeB ((bs ((frameS p).data.toList.set i x)).extract 0 8) = false := by
      rw [e1]
      refine whole_set _ i x (by omega) ?_
      intro he
      apply hx
      simp only [frameS_list]
      rw [List.getElem_append_left (by omega)]
      exact he
    refine hw (⟨#[]⟩, 0, 7) ?_ ⟨rfl, by decide⟩
    unfold takeF
    rw [if_neg (by omega), if_pos (.inr e2)]
  · have e0 : (frameS p).data.toList.set i x = (sm (numS 4 p.size)).data.toList ++ (sm p).data.toList.set (i - 8) x := by
      rw [frameS_list, List.set_append_right _ _ (by omega), hl8]
    have e1 : be4 (bs ((frameS p).data.toList.set i x)) 0 = p.size := by rw [e0]; exact be4_head p (by omega) _
    have e3 : (bs ((frameS p).data.toList.set i x)).extract 8 (p.size + 12) = bs ((sm p).data.toList.set (i - 8) x) := by
      rw [bs_ext, e0, List.take_of_length_le (by simp only [List.length_append, List.length_set]; omega)]
      rw [← hl8, List.drop_left]
    have e2 : wholeB ((bs ((frameS p).data.toList.set i x)).extract 8 (p.size + 12)) = false := by
      rw [e3]
      refine whole_set _ (i - 8) x (by omega) ?_
      intro he
      apply hx
      simp only [frameS_list]
      rw [List.getElem_append_right (by omega)]
      simp only [hl8]
      exact he
    by_cases hh : wholeB ((bs ((frameS p).data.toList.set i x)).extract 0 8) = false
    · refine hw (⟨#[]⟩, 0, 7) ?_ ⟨rfl, by decide⟩
      unfold takeF
      rw [if_neg (by omega), if_pos (.inr hh)]
    · refine hw (⟨#[]⟩, 0, 7) ?_ ⟨rfl, by decide⟩
      unfold takeF
      rw [e1, if_neg (by omega), if_neg (by rintro (h | h); omega; exact hh h), if_neg (by omega), if_pos e2]

end Go.Proofs.Ythnoebdfofbpoaa
