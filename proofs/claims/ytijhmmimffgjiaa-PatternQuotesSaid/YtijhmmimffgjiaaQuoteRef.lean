/- What the reference's Quote comes to. -/
import Derived.Test.YtijhmmimffgjiaaQuote
import Derived.Test.YtijhmmimffgjiaaGr
import Derived.Test.YtijhmmimffgjiaaAbs30
namespace Go.Proofs.Ytijhmmimffgjiaa
open Go.RowKit Abs

section
variable {call : CallF} {n lo : Nat} {h : AHeap} {l : Bytes}
/-- what the calls of the reference's Sign come to -/
def SG (call : CallF) : Prop := ∀ h (c : UInt8), memB TU8 h.ex = false → call 32 [.int .u8 (c.toNat : Int)] h = some (.ret (strA (formU c)), h)
theorem formU_pos (c : UInt8) : ∃ k, (formU c).length = k + 1 := by
  unfold formU
  split
  · split <;> exact ⟨_, rfl⟩
  · exact ⟨_, rfl⟩
theorem refQuote_loop (hw : SG call) (s : Bytes) (k11 : AV → AHeap → R) (hs : s.length ≤ 1000000) : ∀ (m i : Nat) (h : AHeap) (v : AV) (l : Bytes), i ≤ s.length → s.length - i < m → RowB TU8 lo h v l → memB TU8 h.ex = false → l.length + 4 * (s.length - i) ≤ 1000000000 →
    ∃ v' h', ref09_Quote_L0 call s k11 m v (i : Int) h = k11 v' h' ∧ RowB TU8 lo h' v' (l ++ (s.drop i).flatMap formU) ∧ Ab lo h h'
  | 0, i, h, v, l, _, hm, _, _, _ => absurd hm (by omega)
  | m + 1, i, h, v, l, hi, hm, hB, hu, hbig => by
    rw [ref09_Quote_L0_s]
    unfold ref09_Quote_L0b
    rw [lett_eq]
    rcases Nat.lt_or_ge i s.length with hlt | hge
    · have hl := formU_len s[i]
      obtain ⟨k, hk⟩ := formU_pos s[i]
      have hf : firstA h 1 (k + 1) (strA (formU s[i])) = some (bytesC (formU s[i])) := by rw [← hk]; exact firstA_str _
      have hx : lenA (strA (formU s[i])) = some (k + 1) := by rw [← hk]; rfl
      obtain ⟨v1, g, e1, B1, A1⟩ := rowB_append (P := Try.prog) (t := 50) (u := 9) hB (by kernel_rfl) (by kernel_rfl) (by kernel_rfl) (by kernel_rfl) hu hk hx hf (by omega)
      rw [lt_true (show (i : Int) < lenS s by rw [lenS_nat]; omega), ifB_true, idxS_nat hlt, obind_val, hw _ _ hu, callN_ret, avStr_str, obind_val, e1, outK_val, lett_eq, wrap_succ (by omega)]
      obtain ⟨v2, h2, e2, B2, A2⟩ := refQuote_loop hw s k11 hs m (i + 1) g v1 (l ++ formU s[i]) (by omega) (by omega) B1 (by rw [A1.ex]; exact hu) (by rw [List.length_append]; omega)
      refine ⟨v2, h2, e2, ?_, A1.trans A2⟩
      rw [List.drop_eq_getElem_cons hlt, List.flatMap_cons, ← List.append_assoc]
      exact B2
    · rw [lt_false (show lenS s ≤ (i : Int) by rw [lenS_nat]; omega), ifB_false]
      refine ⟨v, h, rfl, ?_, Ab.refl _ h⟩
      rw [List.drop_eq_nil_of_le hge, List.flatMap_nil, List.append_nil]
      exact hB
/-- the reference's Quote: the same text -/
theorem refQuote_F (hw : SG call) (s : Bytes) (h : AHeap) (hu : memB TU8 h.ex = false) (hs : s.length ≤ 1000000) (hn : s.length < n) :
    ∃ h', ref09_Quote call n s h = some (.ret (strA (quoteB s)), h') ∧ Ab h.next h h' := by
  unfold ref09_Quote
  have A0 : Ab h.next h (newH h TU8 (bytesC [34])) := (Ab.refl _ h).new (Nat.le_refl _) _
  have f0 : firstA (newH h TU8 (bytesC [34])) 1 1 (.sl h.next 0 1 1) = some (bytesC [34]) := firstA_newH (l := bytesC [34])
  obtain ⟨v1, g1, e1, B1, A1⟩ := rowB_new (P := Try.prog) (t := 50) (u := 50) (lo := h.next) (n := 0) (l2 := [34]) (h := newH h TU8 (bytesC [34])) A0.next (by kernel_rfl) (by kernel_rfl) (by kernel_rfl) (by kernel_rfl) (by rw [A0.ex]; exact hu) rfl rfl f0 (by decide)
  rw [bldSl_one h 34 hu, outK_val, show [AV.int .u8 34] = bytesC [34] from rfl, e1, outK_val, lett_eq]
  have X1 : g1.ex = h.ex := A1.ex.trans A0.ex
  obtain ⟨v2, g2, e2, B2, A2⟩ := refQuote_loop hw s (fun (t3 : AV) (h_12 : AHeap) =>
    outK (bldSl Try.prog h_12 50 1 [(0, .int .u8 34)]) fun v21 h_14 =>
    outK (opAppend Try.prog h_14 50 50 t3 v21) fun v22 h_16 =>
    outK (opConv Try.prog h_16 50 9 (some v22)) fun v24 h_19 =>
    obind (avStr v24) fun t24 =>
    some (.ret (strA t24), h_19)) hs n 0 g1 v1 _ (Nat.zero_le _) (by omega) B1 (by rw [X1]; exact hu) (by simp only [List.length_cons, List.length_nil]; omega)
  have X2 : g2.ex = h.ex := A2.ex.trans X1
  have hfl := flatMap_len s
  rw [List.drop_zero] at B2
  have hlo := rowB_lo B2
  have B3 : RowB TU8 h.next (newH g2 TU8 (bytesC [34])) v2 _ := rowB_newH B2
  have A3 : Ab h.next g2 (newH g2 TU8 (bytesC [34])) := (Ab.refl _ g2).new hlo _
  have f3 : firstA (newH g2 TU8 (bytesC [34])) 1 1 (.sl g2.next 0 1 1) = some (bytesC [34]) := firstA_newH (l := bytesC [34])
  obtain ⟨v4, g4, e4, B4, A4⟩ := rowB_append (P := Try.prog) (t := 50) (u := 50) (n := 0) (l2 := [34]) B3 (by kernel_rfl) (by kernel_rfl) (by kernel_rfl) (by kernel_rfl) (by rw [A3.ex, X2]; exact hu) rfl rfl f3 (by simp only [List.length_append, List.length_cons, List.length_nil]; omega)
  refine ⟨g4, ?_, (((A0.trans A1).trans A2).trans A3).trans A4⟩
  refine Eq.trans e2 ?_
  rw [bldSl_one g2 34 (by rw [X2]; exact hu), outK_val, show [AV.int .u8 34] = bytesC [34] from rfl, e4, outK_val, conv_bytes (by kernel_rfl) (by kernel_rfl) B4, outK_val, avStr_str, obind_val]
  rfl
theorem bldSl_one' (h : AHeap) (v : Int) (hu : memB TU8 h.ex = false) : bldSl Try.prog h 50 1 [(0, .int .u8 v)] = some (.val (.sl h.next 0 1 1), newH h TU8 [.int .u8 v]) := bldSl_one h v hu
theorem quo_all : ∀ n : Fin 256, quoI .u8 (n.val : Int) 16 = some ((n.val / 16 : Nat) : Int) := by decide +kernel
theorem rem_all : ∀ n : Fin 256, remI .u8 (n.val : Int) 16 = some ((n.val % 16 : Nat) : Int) := by decide +kernel
theorem cut_all : ∀ n : Fin 16, sliceS digitsB (n.val : Int) (IntKind.u8.wrap ((n.val : Int) + 1)) = some [digU n.val] := by decide +kernel
theorem sign_F (c : UInt8) (h : AHeap) (hu : memB TU8 h.ex = false) : ∃ h', ref09_Sign call n (c.toNat : Int) h = some (.ret (strA (formU c)), h') ∧ Ab h.next h h' := by
  have hs := short_of c
  have inj : ∀ d : UInt8, c ≠ d → (c.toNat : Int) ≠ (d.toNat : Int) := fun d hd he => hd (UInt8.toNat_inj.1 (Int.ofNat.inj he))
  unfold ref09_Sign formU
  simp only [lett_eq]
  by_cases h1 : c = 34
  · subst h1
    rw [ieq_t (show (((34 : UInt8).toNat : Nat) : Int) = 34 from rfl), ifB_true]
    exact ⟨_, rfl, Ab.refl _ h⟩
  have m0 : (c.toNat : Int) ≠ 34 := fun he => inj 34 h1 he
  rw [ieq_f m0, ifB_false]
  by_cases h2 : c = 92
  · subst h2
    rw [ieq_t (show (((92 : UInt8).toNat : Nat) : Int) = 92 from rfl), ifB_true]
    exact ⟨_, rfl, Ab.refl _ h⟩
  have m1 : (c.toNat : Int) ≠ 92 := fun he => inj 92 h2 he
  rw [ieq_f m1, ifB_false]
  by_cases h3 : c = 10
  · subst h3
    rw [ieq_t (show (((10 : UInt8).toNat : Nat) : Int) = 10 from rfl), ifB_true]
    exact ⟨_, rfl, Ab.refl _ h⟩
  have m2 : (c.toNat : Int) ≠ 10 := fun he => inj 10 h3 he
  rw [ieq_f m2, ifB_false]
  by_cases h4 : c = 13
  · subst h4
    rw [ieq_t (show (((13 : UInt8).toNat : Nat) : Int) = 13 from rfl), ifB_true]
    exact ⟨_, rfl, Ab.refl _ h⟩
  have m3 : (c.toNat : Int) ≠ 13 := fun he => inj 13 h4 he
  rw [ieq_f m3, ifB_false]
  by_cases h5 : c = 9
  · subst h5
    rw [ieq_t (show (((9 : UInt8).toNat : Nat) : Int) = 9 from rfl), ifB_true]
    exact ⟨_, rfl, Ab.refl _ h⟩
  have m4 : (c.toNat : Int) ≠ 9 := fun he => inj 9 h5 he
  rw [ieq_f m4, ifB_false]
  have h0 : shortU c = 0 := by unfold shortU; rw [if_neg h1, if_neg h2, if_neg h3, if_neg h4, if_neg h5]
  rw [if_pos h0]
  have hp : ∀ A B : R, ifB (decide ((c.toNat : Int) ≥ 32)) (ifB (decide ((c.toNat : Int) ≤ 126)) A B) (ifB false A B) = ifB (plainI (c.toNat : Int)) A B := by
    intro A B
    unfold plainI
    by_cases g1 : (c.toNat : Int) ≥ 32
    · rw [decide_eq_true g1, ifB_true, Bool.true_and]
    · rw [decide_eq_false g1, ifB_false, Bool.false_and]
  have hlt := c.toNat_lt
  have q1 : quoI .u8 (c.toNat : Int) 16 = some ((c.toNat / 16 : Nat) : Int) := quo_all ⟨c.toNat, hlt⟩
  have q2 : remI .u8 (c.toNat : Int) 16 = some ((c.toNat % 16 : Nat) : Int) := rem_all ⟨c.toNat, hlt⟩
  have q3 : sliceS digitsB ((c.toNat / 16 : Nat) : Int) (IntKind.u8.wrap (((c.toNat / 16 : Nat) : Int) + 1)) = some [digU (c.toNat / 16)] := cut_all ⟨c.toNat / 16, by omega⟩
  have q4 : sliceS digitsB ((c.toNat % 16 : Nat) : Int) (IntKind.u8.wrap (((c.toNat % 16 : Nat) : Int) + 1)) = some [digU (c.toNat % 16)] := cut_all ⟨c.toNat % 16, by omega⟩
  have q5 : addS ([92, 120] : Bytes) [digU (c.toNat / 16)] = some [92, 120, digU (c.toNat / 16)] := rfl
  have q6 : addS ([92, 120, digU (c.toNat / 16)] : Bytes) [digU (c.toNat % 16)] = some [92, 120, digU (c.toNat / 16), digU (c.toNat % 16)] := rfl
  have B1 : RowB TU8 h.next (newH h TU8 (bytesC [c])) (.sl h.next 0 1 1) [c] := ⟨h.next, rfl, by simp, Nat.le_refl _, Nat.lt_succ_self _, rowGet_newH_all (l := bytesC [c]), rowType_newH⟩
  have d0 : ([48, 49, 50, 51, 52, 53, 54, 55, 56, 57, 97, 98, 99, 100, 101, 102] : Bytes) = digitsB := rfl
  rw [hp]
  cases hpl : plainI (c.toNat : Int)
  · rw [if_neg (by decide)]
    rw [ifB_false, q1, obind_val, obind_val, d0, q3, obind_val, q5, obind_val, q2, obind_val, obind_val, q4, obind_val, q6, obind_val]
    exact ⟨_, rfl, Ab.refl _ h⟩
  · rw [if_pos rfl]
    rw [ifB_true, bldSl_one h _ hu, outK_val, show [AV.int .u8 (c.toNat : Int)] = bytesC [c] from rfl, conv_bytes (by kernel_rfl) (by kernel_rfl) B1, outK_val, avStr_str, obind_val]
    exact ⟨_, rfl, (Ab.refl _ h).new (Nat.le_refl _) _⟩
end
end Go.Proofs.Ytijhmmimffgjiaa
