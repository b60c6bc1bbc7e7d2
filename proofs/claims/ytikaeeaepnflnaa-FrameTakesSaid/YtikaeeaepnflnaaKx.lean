/- Frames: the document's. -/
import Derived.Test.YtikaeeaepnflnaaKw
import Derived.Test.YtikaeeaepnflnaaKm
namespace Go.Proofs.Ytikaeeaepnflnaa
open Go.RowKit Abs
theorem eqS_dec (a b : Bytes) : eqS a b = decide (a = b) := by
  by_cases h : a = b
  · subst h
    rw [decide_eq_true rfl]
    exact eqS_true.2 rfl
  · rw [decide_eq_false h]
    exact eqS_false.2 h
section
variable {n d : Nat} {h : AHeap} {s p : Bytes} {Q : ARes → AHeap → Prop}
theorem rput_w (hp : p.length < 1000000) (hn : p.length < n) (hn8 : 8 < n) (hx : memB 5 h.ex = false) : world n (d + 4) 13 [strA p] h = some (.ret (strA (frameB p)), h) := by
  have ll := lenS_nat p
  have n4 : (numB 4 p.length).length = 4 := numB_length _ _
  have c1 := crc_lt (numB 4 p.length)
  have c2 := crc_lt p
  apply Wp.eq
  rw [w_ref03_Put]
  refine Wp.gc' ?_
  unfold ref03_Put
  refine Wp.lettu64 (by omega) (by omega) ?_
  rw [ll]
  refine Wp.callN (refNumber_w (n := n) (d := d + 2) (w := 4) hn8 (by omega) (by omega) hx) (Wp.obind (avStr_str _) (Wp.callN (rsum_w (n := n) (d := d) (by omega) (by omega) hn8) (Wp.obind (avInt_int _ _) (Wp.lettu64 (by omega) (by omega) (Wp.callN (refNumber_w (n := n) (d := d + 2) (w := 4) hn8 (by omega) (by omega) hx) (Wp.obind (avStr_str _) ?_))))))
  refine Wp.obind (addS_val (by rw [numB_length, numB_length]; omega)) (Wp.obind (addS_val (by rw [List.length_append, numB_length, numB_length]; omega)) (Wp.callN (rsum_w (n := n) (d := d) (by omega) (by omega) hn8) (Wp.obind (avInt_int _ _) (Wp.lettu64 (by omega) (by omega) (Wp.callN (refNumber_w (n := n) (d := d + 2) (w := 4) hn8 (by omega) (by omega) hx) (Wp.obind (avStr_str _) (Wp.obind (addS_val (by rw [List.length_append, List.length_append, numB_length, numB_length, numB_length]; omega)) ?_)))))))
  have e : numB 4 p.length ++ numB 4 (Crc.of (numB 4 p.length)) ++ p ++ numB 4 (Crc.of p) = frameB p := by
    unfold frameB
    rw [List.append_assoc, List.append_assoc]
  rw [e]
  exact Wp.ret ⟨⟨rfl, rfl⟩, fun _ => ⟨rfl, rfl⟩⟩
/-- what the document takes is what the program takes -/
theorem frame_iff {V : Nat} (hV : valB (s.take 4) = V) (hl : V + 12 ≤ s.length) (hV4 : V ≤ 4096) (h8 : wholeB (s.take 8) = true) : frameB ((s.drop 8).take V) = s.take (V + 12) ↔ wholeB ((s.drop 8).take (V + 4)) = true := by
  subst hV
  constructor
  · intro e
    have hpl : ((s.drop 8).take (valB (s.take 4))).length = valB (s.take 4) := by rw [List.length_take, List.length_drop]; omega
    have hk := frame_take (p := (s.drop 8).take (valB (s.take 4))) (rest := s.drop (valB (s.take 4) + 12)) (by omega)
    rw [e, List.take_append_drop] at hk
    have hz : (takeR s).2.2 = 0 := by rw [hk]
    exact (takeR_ok hz).2.2.2.2.1
  · intro e
    have hz : takeR s = ((s.drop 8).take (valB (s.take 4)), valB (s.take 4) + 12, 0) := by
      unfold takeR
      rw [if_neg (by omega), if_neg (by rw [h8]; simp; omega), if_neg (by omega), if_neg (by rw [e]; decide)]
    have := take_frame (s := s) (by rw [hz])
    rw [hz] at this
    exact this.symm
theorem rtake_w (hs : s.length < 1000000000) (hn : 5000 < n) (hx : memB 5 h.ex = false) : world n (d + 5) 14 [strA s] h = some (.ret (.tup [strA (takeR s).1, .int .i64 ((takeR s).2.1 : Int), .int .i64 (takeR s).2.2]), h) := by
  have ll := lenS_nat s
  apply Wp.eq
  rw [w_ref03_Take]
  refine Wp.gc' ?_
  unfold ref03_Take takeR
  by_cases h8 : s.length < 8
  · rw [if_pos h8]
    exact Wp.lett (Wp.ift (by rw [decide_eq_true_eq]; omega) (Wp.ret ⟨⟨rfl, rfl⟩, fun _ => ⟨rfl, rfl⟩⟩))
  rw [if_neg h8]
  have hl4 : (s.take 4).length = 4 := by rw [List.length_take]; omega
  have hv4 : valB (s.take 4) = s[0].toNat * 16777216 + s[1].toNat * 65536 + s[2].toNat * 256 + s[3].toNat := by
    match s, h8 with
    | a :: b :: c :: e :: l, _ =>
      show valB [a, b, c, e] = _
      show (((0 * 256 + a.toNat) * 256 + b.toNat) * 256 + c.toNat) * 256 + e.toNat = a.toNat * 16777216 + b.toNat * 65536 + c.toNat * 256 + e.toNat
      omega
    | [a, b, c], h | [a, b], h | [a], h | [], h => exact absurd (by simp) h
  have b0 := (s[0]'(by omega)).toNat_lt
  have b1 := (s[1]'(by omega)).toNat_lt
  have b2 := (s[2]'(by omega)).toNat_lt
  have b3 := (s[3]'(by omega)).toNat_lt
  have w8 : wholeB (s.take 8) = decide (numB 4 (Crc.of (s.take 4)) = (s.drop 4).take 4) := by
    have hl8 : (s.take 8).length = 8 := by rw [List.length_take]; omega
    have hi := wholeB_iff (u := s.take 8) (by omega)
    rw [hl8, List.take_take] at hi
    have hi : wholeB (s.take 8) = true ↔ numB 4 (Crc.of (s.take 4)) = (s.take 8).drop 4 := hi
    rw [show (s.take 8).drop 4 = (s.drop 4).take 4 from by rw [List.drop_take]] at hi
    by_cases hc : numB 4 (Crc.of (s.take 4)) = (s.drop 4).take 4
    · rw [decide_eq_true hc, hi.2 hc]
    · rw [decide_eq_false hc]
      exact Bool.eq_false_iff.2 fun e => hc (hi.1 e)
  generalize hV : valB (s.take 4) = V at *
  have i1 : idxS s (1 : Int) = some ((s[1]'(by omega)).toNat : Int) := idxS_nat (i := 1) (by omega)
  have i2 : idxS s (2 : Int) = some ((s[2]'(by omega)).toNat : Int) := idxS_nat (i := 2) (by omega)
  have i3 : idxS s (3 : Int) = some ((s[3]'(by omega)).toNat : Int) := idxS_nat (i := 3) (by omega)
  have i0 : idxS s (0 : Int) = some ((s[0]'(by omega)).toNat : Int) := idxS_nat (i := 0) (by omega)
  refine Wp.lett (Wp.iff (by rw [decide_eq_false_iff_not]; omega) (Wp.obind i0 (Wp.lettw (by omega) (by omega) (Wp.lettw (by omega) (by omega) (Wp.obind i1 (Wp.lettw (by omega) (by omega) (Wp.lettw (by omega) (by omega) (Wp.lettw (by omega) (by omega) (Wp.obind i2 (Wp.lettw (by omega) (by omega) (Wp.lettw (by omega) (by omega) (Wp.lettw (by omega) (by omega) (Wp.obind i3 (Wp.lettw (by omega) (by omega) (Wp.lettw (by omega) (by omega) ?_)))))))))))))))
  have hsum : ∀ (a b c e : Nat), V = a * 16777216 + b * 65536 + c * 256 + e → (a : Int) * (16777216 : Int) + (b : Int) * (65536 : Int) + (c : Int) * (256 : Int) + (e : Int) = (V : Int) := fun a b c e h => by omega
  rw [hsum _ _ _ _ hv4]
  refine Wp.lettG fun k23 e23 => Wp.lett ?_
  have bad : (4096 < V ∨ wholeB (s.take 8) = false) → Wp (k23 true h) fun r h' => (r = ARes.ret (AV.tup [strA (if 4096 < V ∨ wholeB (s.take 8) = false then ([], 0, 7) else if s.length < V + 12 then ([], 0, 30) else if wholeB ((s.drop 8).take (V + 4)) = false then ([], 0, 7) else ((s.drop 8).take V, V + 12, 0) : Bytes × Nat × Int).1, .int .i64 ((if 4096 < V ∨ wholeB (s.take 8) = false then ([], 0, 7) else if s.length < V + 12 then ([], 0, 30) else if wholeB ((s.drop 8).take (V + 4)) = false then ([], 0, 7) else ((s.drop 8).take V, V + 12, 0) : Bytes × Nat × Int).2.1 : Int), .int .i64 (if 4096 < V ∨ wholeB (s.take 8) = false then ([], 0, 7) else if s.length < V + 12 then ([], 0, 30) else if wholeB ((s.drop 8).take (V + 4)) = false then ([], 0, 7) else ((s.drop 8).take V, V + 12, 0) : Bytes × Nat × Int).2.2]) ∧ h' = h) ∧ (Above h h' → r = ARes.ret (AV.tup [strA (if 4096 < V ∨ wholeB (s.take 8) = false then ([], 0, 7) else if s.length < V + 12 then ([], 0, 30) else if wholeB ((s.drop 8).take (V + 4)) = false then ([], 0, 7) else ((s.drop 8).take V, V + 12, 0) : Bytes × Nat × Int).1, .int .i64 ((if 4096 < V ∨ wholeB (s.take 8) = false then ([], 0, 7) else if s.length < V + 12 then ([], 0, 30) else if wholeB ((s.drop 8).take (V + 4)) = false then ([], 0, 7) else ((s.drop 8).take V, V + 12, 0) : Bytes × Nat × Int).2.1 : Int), .int .i64 (if 4096 < V ∨ wholeB (s.take 8) = false then ([], 0, 7) else if s.length < V + 12 then ([], 0, 30) else if wholeB ((s.drop 8).take (V + 4)) = false then ([], 0, 7) else ((s.drop 8).take V, V + 12, 0) : Bytes × Nat × Int).2.2]) ∧ h = h) := fun hc => by
    rw [if_pos hc, e23]
    exact Wp.ift rfl (Wp.ret ⟨⟨rfl, rfl⟩, fun _ => ⟨rfl, rfl⟩⟩)
  by_cases h4 : 4096 < V
  · exact Wp.ift (by rw [decide_eq_true_eq]; omega) (bad (.inl h4))
  have s8 : sliceS s 0 4 = some (s.take 4) := by
    rw [sliceS_int (by omega) (by omega) (by omega)]
    rfl
  have s9 : sliceS s 4 8 = some ((s.drop 4).take 4) := by
    rw [sliceS_int (by omega) (by omega) (by omega)]
    rfl
  have hcr := crc_lt (s.take 4)
  refine Wp.iff (by rw [decide_eq_false_iff_not]; omega) (Wp.obind s8 (Wp.obind s9 (Wp.callN (rsum_w (n := n) (d := d + 1) (by omega) (by omega) (by omega)) (Wp.obind (avInt_int _ _) (Wp.lettu64 (by omega) (by omega) (Wp.callN (refNumber_w (n := n) (d := d + 3) (w := 4) (by omega) (by omega) (by omega) hx) (Wp.obind (avStr_str _) (Wp.lett ?_))))))))
  rw [eqS_dec, ← w8]
  cases hw : wholeB (s.take 8) with
  | false =>
    rw [hw] at bad
    exact bad (.inr rfl)
  | true =>
    rw [if_neg (by simp; omega), e23]
    refine Wp.iff rfl (Wp.lettw (by omega) (by omega) (Wp.lett ?_))
    by_cases h12 : s.length < V + 12
    · rw [if_pos h12]
      exact Wp.ift (by rw [decide_eq_true_eq]; omega) (Wp.ret ⟨⟨rfl, rfl⟩, fun _ => ⟨rfl, rfl⟩⟩)
    rw [if_neg h12]
    have sA : sliceS s 8 (8 + (V : Int)) = some ((s.drop 8).take V) := by
      rw [sliceS_int (by omega) (by omega) (by omega)]
      congr 2
      omega
    have sB : sliceS s 0 ((V : Int) + 12) = some (s.take (V + 12)) := by
      rw [sliceS_int (by omega) (by omega) (by omega)]
      rfl
    have hpl : ((s.drop 8).take V).length = V := by rw [List.length_take, List.length_drop]; omega
    have hfi := frame_iff hV (by omega) (by omega) hw
    refine Wp.iff (by rw [decide_eq_false_iff_not]; omega) (Wp.lettw (by omega) (by omega) (Wp.obind sA (Wp.lettw (by omega) (by omega) (Wp.obind sB (Wp.callN (rput_w (n := n) (d := d) (by omega) (by omega) (by omega) hx) (Wp.obind (avStr_str _) (Wp.lett ?_)))))))
    rw [eqS_dec]
    cases hw2 : wholeB ((s.drop 8).take (V + 4)) with
    | false =>
      rw [if_pos rfl, decide_eq_false (fun e => by rw [hfi.1 e] at hw2; cases hw2)]
      exact Wp.ift rfl (Wp.ret ⟨⟨rfl, rfl⟩, fun _ => ⟨rfl, rfl⟩⟩)
    | true =>
      rw [if_neg (by decide), decide_eq_true (hfi.2 hw2)]
      refine Wp.iff rfl (Wp.lettw (by omega) (by omega) (Wp.ret ⟨⟨?_, rfl⟩, fun _ => ⟨?_, rfl⟩⟩)) <;> rw [show (V : Int) + 12 = ((V + 12 : Nat) : Int) by omega]
end
end Go.Proofs.Ytikaeeaepnflnaa
