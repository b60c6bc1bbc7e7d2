/- Frames: the program's. -/
import Derived.Test.YtikaeeaepnflnaaKv
namespace Go.Proofs.Ytikaeeaepnflnaa
open Go.RowKit Abs
abbrev TRd : Nat := 58
section
variable {n d : Nat} {h : AHeap} {s p : Bytes} {Q : ARes → AHeap → Prop}
theorem new_r (s : Bytes) (h : AHeap) : ∃ h', world n (d + 1) 20 [strA s] h = some (.ret (.ptr h.next 0), h') ∧ PR h' h.next s ⟨0, 0, 0⟩ ∧ h.next < h'.next ∧ Tch [] h h' := by
  suffices hK : Wp (world n (d + 1) 20 [strA s] h) fun r h' => r = .ret (.ptr h.next 0) ∧ PR h' h.next s ⟨0, 0, 0⟩ ∧ h.next < h'.next ∧ Tch [] h h' by
    obtain ⟨_, h', e, rfl, k⟩ := hK
    exact ⟨h', e, k⟩
  rw [w_wire_New]
  refine Wp.gcn ?_
  unfold wire_New
  exact Wp.mbox (Mem.nil [] h) rfl fun h2 M2 => Wp.ret ⟨Bool.eq_false_iff.2 (fun e => by have := Nat.le_of_ble_eq_true (show Nat.ble (h.next + 1) h.next = true from e); omega), rfl, M2.at0.1, M2.at0.2.1, M2.tch⟩
theorem fwhole_w (hu : 4 ≤ s.length) (hs : s.length < 1000000000) (hn : s.length < n) (hn8 : 8 < n) : world n (d + 4) 22 [strA s] h = some (.ret (.bool (wholeB s)), h) := by
  have ll := lenS_nat s
  have s1 : sliceS s (lenS s - 4) (lenS s) = some (s.drop (s.length - 4)) := by
    rw [sliceS_int (by omega) (by omega) (by omega), List.take_of_length_le (by rw [List.length_drop]; omega)]
    congr 2
    omega
  have s2 : sliceS s 0 (lenS s - 4) = some (s.take (s.length - 4)) := by
    rw [sliceS_int (by omega) (by omega) (by omega)]
    show some ((s.drop 0).take _) = _
    rw [List.drop_zero]
    congr 2
    omega
  have hl4 : (s.drop (s.length - 4)).length = 4 := by rw [List.length_drop]; omega
  obtain ⟨h1, e1, k1, l1, t1⟩ := new_r (n := n) (d := d + 2) (s.drop (s.length - 4)) h
  obtain ⟨h2, e2, k2, t2⟩ := u32_r (n := n) (d := d) k1 (Nat.zero_le _) (by omega) hn8
  have ev : (rNum (s.drop (s.length - 4)) 4 ⟨0, 0, 0⟩).1 = valB (s.drop (s.length - 4)) := by
    unfold rNum
    rw [if_neg (by simp), if_neg (by show ¬ _ < 0 + 4; omega)]
    show valB (((s.drop (s.length - 4)).drop 0).take 4) = _
    rw [List.drop_zero, List.take_of_length_le (by omega)]
  rw [ev] at e2
  apply Wp.eq
  rw [w_frame_whole]
  refine Wp.gc ?_
  unfold frame_whole
  refine Wp.lettw (by omega) (by omega) (Wp.obind s1 (Wp.obind s2 (Wp.callN e1 (Wp.callN e2 (Wp.obind (avInt_int _ _) (Wp.callN (sum_w (n := n) (d := d + 1) (by rw [List.length_take]; omega) (by rw [List.length_take]; omega)) (Wp.obind (avInt_int _ _) (Wp.lett ?_))))))))
  refine Wp.ret ⟨(t1.trans' t2 fun b hb => .inr (by rw [List.mem_singleton.1 hb]; exact Nat.le_refl _)).above, rfl, ?_, rfl⟩
  unfold wholeB
  by_cases hc : valB (s.drop (s.length - 4)) = Crc.of (s.take (s.length - 4))
  · rw [beq_t (by omega), beq_iff_eq.2 hc]
  · rw [beq_f (by omega), beq_eq_false_iff_ne.2 hc]
theorem summed_w (hs : s.length < 1000000) (hn : s.length < n) (hn8 : 8 < n) (hx : memB 5 h.ex = false) : world n (d + 3) 18 [strA s] h = some (.ret (strA (s ++ numB 4 (Crc.of s))), h) := by
  apply Wp.eq
  rw [w_frame_summed]
  refine Wp.gc' ?_
  unfold frame_summed
  have hc := crc_lt s
  exact Wp.callN (sum_w (n := n) (d := d) (by omega) hn) (Wp.obind (avInt_int _ _) (Wp.callN (u32_w (n := n) (d := d) hn8 hc hx) (Wp.obind (avStr_str _) (Wp.obind (addS_val (by rw [numB_length]; omega)) (Wp.ret ⟨⟨rfl, rfl⟩, fun _ => ⟨rfl, rfl⟩⟩)))))
theorem put_w (hn : 4096 < n) (hx : memB 5 h.ex = false) : world n (d + 4) 9 [strA p] h = some (.ret (if 4096 < p.length then .tup [strA [], .int .i64 3] else .tup [strA (frameB p), .int .i64 0]), h) := by
  have ll := lenS_nat p
  apply Wp.eq
  rw [w_frame_Put]
  refine Wp.gc' ?_
  unfold frame_Put
  by_cases hp : 4096 < p.length
  · rw [if_pos hp]
    exact Wp.lett (Wp.ift (by rw [decide_eq_true_eq]; omega) (Wp.ret ⟨⟨rfl, rfl⟩, fun _ => ⟨rfl, rfl⟩⟩))
  · rw [if_neg hp]
    have n4 : (numB 4 p.length).length = 4 := numB_length _ _
    refine Wp.lett (Wp.iff (by rw [decide_eq_false_iff_not]; omega) (Wp.lettu32 (by omega) (by omega) ?_))
    rw [ll]
    refine Wp.callN (u32_w (n := n) (d := d + 1) (by omega) (by omega) hx) (Wp.obind (avStr_str _) (Wp.callN (summed_w (n := n) (d := d) (by omega) (by omega) (by omega) hx) (Wp.obind (avStr_str _) (Wp.callN (summed_w (n := n) (d := d) (by omega) (by omega) (by omega) hx) (Wp.obind (avStr_str _) (Wp.obind (addS_val ?_) (Wp.ret ⟨⟨rfl, rfl⟩, fun _ => ⟨rfl, rfl⟩⟩)))))))
    rw [List.length_append, List.length_append, numB_length, numB_length, numB_length]
    omega
theorem take_w (hs : s.length < 1000000000) (hn : 5000 < n) : world n (d + 5) 10 [strA s] h = some (.ret (.tup [strA (takeR s).1, .int .i64 ((takeR s).2.1 : Int), .int .i64 (takeR s).2.2]), h) := by
  have ll := lenS_nat s
  obtain ⟨h1, e1, k1, l1, t1⟩ := new_r (n := n) (d := d + 3) s h
  obtain ⟨h2, e2, k2, t2⟩ := u32_r (n := n) (d := d + 1) k1 (Nat.zero_le _) (by omega) (by omega)
  have T : Tch [] h h2 := t1.trans' t2 fun b hb => .inr (by rw [List.mem_singleton.1 hb]; exact Nat.le_refl _)
  have tA := T.above
  apply Wp.eq
  rw [w_frame_Take]
  refine Wp.gc ?_
  unfold frame_Take takeR
  by_cases h8 : s.length < 8
  · rw [if_pos h8]
    exact Wp.lett (Wp.ift (by rw [decide_eq_true_eq]; omega) (Wp.ret ⟨(Tch.refl [] h).above, rfl, rfl, rfl⟩))
  rw [if_neg h8]
  have ev : (rNum s 4 ⟨0, 0, 0⟩).1 = valB (s.take 4) := by
    unfold rNum
    rw [if_neg (by simp), if_neg (by show ¬ _ < 0 + 4; omega)]
    rfl
  have hv : valB (s.take 4) < 4294967296 := by
    have := valB_lt (s.take 4)
    rw [List.length_take, Nat.min_eq_left (by omega)] at this
    exact this
  rw [ev] at e2
  generalize hV : valB (s.take 4) = V at *
  refine Wp.lett (Wp.iff (by rw [decide_eq_false_iff_not]; omega) (Wp.callN e1 (Wp.callN e2 (Wp.obind (avInt_int _ _) (Wp.lett (Wp.lettG fun j20 e20 => ?_))))))
  have bad : (4096 < V ∨ wholeB (s.take 8) = false) → Wp (j20 true h2) fun r h' => Above h h' ∧ r.val.scal = true ∧ r = ARes.ret (AV.tup [strA (if 4096 < V ∨ wholeB (s.take 8) = false then ([], 0, 7) else if s.length < V + 12 then ([], 0, 30) else if wholeB ((s.drop 8).take (V + 4)) = false then ([], 0, 7) else ((s.drop 8).take V, V + 12, 0) : Bytes × Nat × Int).1, .int .i64 ((if 4096 < V ∨ wholeB (s.take 8) = false then ([], 0, 7) else if s.length < V + 12 then ([], 0, 30) else if wholeB ((s.drop 8).take (V + 4)) = false then ([], 0, 7) else ((s.drop 8).take V, V + 12, 0) : Bytes × Nat × Int).2.1 : Int), .int .i64 (if 4096 < V ∨ wholeB (s.take 8) = false then ([], 0, 7) else if s.length < V + 12 then ([], 0, 30) else if wholeB ((s.drop 8).take (V + 4)) = false then ([], 0, 7) else ((s.drop 8).take V, V + 12, 0) : Bytes × Nat × Int).2.2]) ∧ h = h := fun hc => by
    rw [if_pos hc, e20]
    exact Wp.ift rfl (Wp.ret ⟨tA, rfl, rfl, rfl⟩)
  by_cases h4 : 4096 < V
  · exact Wp.ift (by rw [decide_eq_true_eq]; omega) (bad (.inl h4))
  have s8 : sliceS s 0 8 = some (s.take 8) := by
    rw [sliceS_int (by omega) (by omega) (by omega)]
    rfl
  refine Wp.iff (by rw [decide_eq_false_iff_not]; omega) (Wp.obind s8 (Wp.callN (fwhole_w (n := n) (d := d) (by rw [List.length_take]; omega) (by rw [List.length_take]; omega) (by rw [List.length_take]; omega) (by omega)) (Wp.obind (avBool_bool _) (Wp.lett ?_))))
  cases hw : wholeB (s.take 8) with
  | false =>
    rw [hw] at bad
    exact bad (.inr rfl)
  | true =>
    rw [if_neg (by simp; omega), e20]
    refine Wp.iff rfl (Wp.lettw (by omega) (by omega) (Wp.lettw (by omega) (by omega) (Wp.lettw (by omega) (by omega) (Wp.lett ?_))))
    by_cases h12 : s.length < V + 12
    · rw [if_pos h12]
      exact Wp.ift (by rw [decide_eq_true_eq]; omega) (Wp.ret ⟨tA, rfl, rfl, rfl⟩)
    rw [if_neg h12]
    have sA : sliceS s 8 (8 + (V : Int) + 4) = some ((s.drop 8).take (V + 4)) := by
      rw [sliceS_int (by omega) (by omega) (by omega)]
      congr 2
      omega
    have sB : sliceS s 8 (8 + (V : Int) + 4 - 4) = some ((s.drop 8).take V) := by
      rw [sliceS_int (by omega) (by omega) (by omega)]
      congr 2
      omega
    have hql : ((s.drop 8).take (V + 4)).length = V + 4 := by rw [List.length_take, List.length_drop]; omega
    refine Wp.iff (by rw [decide_eq_false_iff_not]; omega) (Wp.obind sA (Wp.callN (fwhole_w (n := n) (d := d) (by omega) (by omega) (by omega) (by omega)) (Wp.obind (avBool_bool _) (Wp.lett ?_))))
    cases hw2 : wholeB ((s.drop 8).take (V + 4)) with
    | false =>
      rw [if_pos rfl]
      exact Wp.ift rfl (Wp.ret ⟨tA, rfl, rfl, rfl⟩)
    | true =>
      rw [if_neg (by decide)]
      refine Wp.iff rfl (Wp.lettw (by omega) (by omega) (Wp.obind sB (Wp.ret ⟨tA, rfl, ?_, rfl⟩)))
      rw [show 8 + (V : Int) + 4 = ((V + 12 : Nat) : Int) by omega]
end
end Go.Proofs.Ytikaeeaepnflnaa
