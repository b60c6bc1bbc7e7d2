/- What package pattern's Quote comes to. -/
import Derived.Test.YtijhmmimffgjiaaBuild
import Derived.Test.YtijhmmimffgjiaaGq
namespace Go.Proofs.Ytijhmmimffgjiaa
open Go.RowKit Abs

def shortI (i : Int) : Int := if i = 34 then i else if i = 92 then i else if i = 10 then 110 else if i = 13 then 114 else if i = 9 then 116 else 0
def shortU (c : UInt8) : UInt8 := if c = 34 then c else if c = 92 then c else if c = 10 then 110 else if c = 13 then 114 else if c = 9 then 116 else 0
def plainI (i : Int) : Bool := decide (i ≥ 32) && decide (i ≤ 126)
def digitsB : Bytes := [48, 49, 50, 51, 52, 53, 54, 55, 56, 57, 97, 98, 99, 100, 101, 102]
def digU (k : Nat) : UInt8 := digitsB[k]!
/-- the form of a byte in quotes -/
def formU (c : UInt8) : Bytes := if shortU c = 0 then (if plainI (c.toNat : Int) then [c] else [92, 120, digU (c.toNat / 16), digU (c.toNat % 16)]) else [92, shortU c]
def quoteB (s : Bytes) : Bytes := 34 :: s.flatMap formU ++ [34]
theorem ieq_t {i j : Int} (h : i = j) : (i == j) = true := by rw [h]; exact beq_self_eq_true j
theorem ieq_f {i j : Int} (h : i ≠ j) : (i == j) = false := beq_eq_false_iff_ne.2 h
theorem short_all : ∀ n : Fin 256, shortI (n.val : Int) = ((shortU (UInt8.ofNat n.val)).toNat : Int) := by decide +kernel
theorem short_of (c : UInt8) : shortI (c.toNat : Int) = ((shortU c).toNat : Int) := by
  have h := short_all ⟨c.toNat, c.toNat_lt⟩
  simpa using h
theorem hi_all : ∀ n : Fin 256, shrI .u8 (n.val : Int) 4 = some ((n.val / 16 : Nat) : Int) := by decide +kernel
theorem lo_all : ∀ n : Fin 256, andI .u8 (n.val : Int) 15 = ((n.val % 16 : Nat) : Int) := by decide +kernel
theorem dig_all : ∀ n : Fin 16, idxS digitsB (n.val : Int) = some ((digU n.val).toNat : Int) := by decide +kernel

section
variable {call : CallF} {n lo : Nat} {h : AHeap} {b : Nat} {l : Bytes}
theorem short_F (i : Int) : pattern_short call n i h = some (.ret (.int .u8 (shortI i)), h) := by
  unfold pattern_short shortI
  simp only [lett_eq]
  by_cases h1 : i = 34
  · rw [ieq_t h1, ifB_true, ifB_true, if_pos h1]
  rw [ieq_f h1, ifB_false, if_neg h1]
  by_cases h2 : i = 92
  · rw [ieq_t h2, ifB_true, if_pos h2]
  rw [ieq_f h2, ifB_false, if_neg h2]
  by_cases h3 : i = 10
  · rw [ieq_t h3, ifB_true, if_pos h3]
  rw [ieq_f h3, ifB_false, if_neg h3]
  by_cases h4 : i = 13
  · rw [ieq_t h4, ifB_true, if_pos h4]
  rw [ieq_f h4, ifB_false, if_neg h4]
  by_cases h5 : i = 9
  · rw [ieq_t h5, ifB_true, if_pos h5]
  rw [ieq_f h5, ifB_false, if_neg h5]
theorem plain_F (i : Int) : pattern_plain call n i h = some (.ret (.bool (plainI i)), h) := by
  unfold pattern_plain plainI
  simp only [lett_eq]
  by_cases h1 : i ≥ 32
  · rw [decide_eq_true h1, ifB_true, Bool.true_and]
  · rw [decide_eq_false h1, ifB_false, Bool.false_and]
/-- what the calls come to by which a text in quotes is built -/
structure QC (call : CallF) : Prop where
  wb : ∀ lo h b l (c : UInt8), BldA lo h b l → memB TBld h.ex = true → memB TU8 h.ex = false → l.length + 1 ≤ 1000000000 → ∃ h', call 29 [.ptr b 0, .int .u8 (c.toNat : Int)] h = some (.ret .nifc, h') ∧ BldA lo h' b (l ++ [c]) ∧ Ab lo h h'
  ws : ∀ lo h b l (s : Bytes), BldA lo h b l → memB TBld h.ex = true → memB TU8 h.ex = false → l.length + s.length ≤ 1000000000 → ∃ h', call 52 [.ptr b 0, strA s] h = some (.ret (.tup [.int .i64 (lenS s), .nifc]), h') ∧ BldA lo h' b (l ++ s) ∧ Ab lo h h'
  st : ∀ lo h b l, BldA lo h b l → l.length ≤ 1000000000 → ∃ h', call 31 [.ptr b 0] h = some (.ret (strA l), h') ∧ Ab lo h h'
  sh : ∀ h i, call 50 [.int .u8 i] h = some (.ret (.int .u8 (shortI i)), h)
  pl : ∀ h i, call 51 [.int .u8 i] h = some (.ret (.bool (plainI i)), h)
theorem writeForm_F (hc : QC call) (hB : BldA lo h b l) (hx : memB TBld h.ex = true) (hu : memB TU8 h.ex = false) (c : UInt8) (hbig : l.length + 4 ≤ 1000000000) :
    ∃ h', pattern_writeForm call n (.ptr b 0) (c.toNat : Int) h = some (.ret (.tup []), h') ∧ BldA lo h' b (l ++ formU c) ∧ Ab lo h h' := by
  unfold pattern_writeForm formU
  rw [hc.sh, callN_ret, avInt_int, obind_val, lett_eq, short_of]
  by_cases h1 : shortU c = 0
  · rw [if_pos h1, h1]
    rw [show ((((0 : UInt8).toNat : Nat) : Int) != 0) = false from by decide, ifB_false, hc.pl, callN_ret, avBool_bool, obind_val]
    cases h2 : plainI (c.toNat : Int)
    · rw [ifB_false, if_neg (by decide)]
      obtain ⟨g1, e1, B1, A1⟩ := hc.ws lo h b l [92, 120] hB hx hu (by simp only [List.length_cons, List.length_nil]; omega)
      obtain ⟨g2, e2, B2, A2⟩ := hc.wb lo g1 b _ (digU (c.toNat / 16)) B1 (by rw [A1.ex]; exact hx) (by rw [A1.ex]; exact hu) (by simp only [List.length_append, List.length_cons, List.length_nil]; omega)
      obtain ⟨g3, e3, B3, A3⟩ := hc.wb lo g2 b _ (digU (c.toNat % 16)) B2 (by rw [A2.ex, A1.ex]; exact hx) (by rw [A2.ex, A1.ex]; exact hu) (by simp only [List.length_append, List.length_cons, List.length_nil]; omega)
      have hlt := c.toNat_lt
      have d1 : shrI .u8 (c.toNat : Int) 4 = some ((c.toNat / 16 : Nat) : Int) := hi_all ⟨c.toNat, hlt⟩
      have d2 : andI .u8 (c.toNat : Int) 15 = ((c.toNat % 16 : Nat) : Int) := lo_all ⟨c.toNat, hlt⟩
      have d3 : idxS digitsB ((c.toNat / 16 : Nat) : Int) = some ((digU (c.toNat / 16)).toNat : Int) := dig_all ⟨c.toNat / 16, by omega⟩
      have d4 : idxS digitsB ((c.toNat % 16 : Nat) : Int) = some ((digU (c.toNat % 16)).toNat : Int) := dig_all ⟨c.toNat % 16, by omega⟩
      rw [e1, callN_ret, d1, obind_val]
      rw [show ([48, 49, 50, 51, 52, 53, 54, 55, 56, 57, 97, 98, 99, 100, 101, 102] : Bytes) = digitsB from rfl, d3, obind_val, e2, callN_ret, lett_eq, d2, d4, obind_val, e3, callN_ret]
      refine ⟨_, rfl, ?_, (A1.trans A2).trans A3⟩
      simpa only [List.append_assoc, List.cons_append, List.nil_append] using B3
    · obtain ⟨g1, e1, B1, A1⟩ := hc.wb lo h b l c hB hx hu (by omega)
      rw [ifB_true, if_pos rfl, e1, callN_ret]
      exact ⟨_, rfl, B1, A1⟩
  · have h2 : ((((shortU c).toNat : Nat) : Int) != 0) = true := by
      have : (shortU c).toNat ≠ 0 := fun hh => h1 (UInt8.toNat_inj.1 hh)
      simp only [bne_iff_ne, ne_eq]
      omega
    obtain ⟨g1, e1, B1, A1⟩ := hc.wb lo h b l 92 hB hx hu (by omega)
    obtain ⟨g2, e2, B2, A2⟩ := hc.wb lo g1 b _ (shortU c) B1 (by rw [A1.ex]; exact hx) (by rw [A1.ex]; exact hu) (by simp only [List.length_append, List.length_cons, List.length_nil]; omega)
    rw [if_neg h1, h2, ifB_true, show (.int .u8 92 : AV) = .int .u8 (((92 : UInt8).toNat : Nat) : Int) from rfl, e1, callN_ret, e2, callN_ret]
    refine ⟨_, rfl, ?_, A1.trans A2⟩
    simpa only [List.append_assoc, List.cons_append, List.nil_append] using B2
theorem formU_len (c : UInt8) : (formU c).length ≤ 4 := by
  unfold formU
  split
  · split <;> simp
  · simp
/-- what the calls of writeForm come to -/
def WF (call : CallF) : Prop := ∀ lo h b l (c : UInt8), BldA lo h b l → memB TBld h.ex = true → memB TU8 h.ex = false → l.length + 4 ≤ 1000000000 → ∃ h', call 30 [.ptr b 0, .int .u8 (c.toNat : Int)] h = some (.ret (.tup []), h') ∧ BldA lo h' b (l ++ formU c) ∧ Ab lo h h'
theorem quote_loop (hw : WF call) (s : Bytes) (H : AHeap) (k11 : AHeap → R) (hs : s.length ≤ 1000000) : ∀ (m i : Nat) (h : AHeap) (l : Bytes), i ≤ s.length → s.length - i < m → BldA H.next h H.next l → memB TBld h.ex = true → memB TU8 h.ex = false → l.length + 4 * (s.length - i) ≤ 1000000000 →
    ∃ h', pattern_Quote_L0 call s H k11 m (i : Int) h = k11 h' ∧ BldA H.next h' H.next (l ++ (s.drop i).flatMap formU) ∧ Ab H.next h h'
  | 0, i, h, l, _, hm, _, _, _, _ => absurd hm (by omega)
  | m + 1, i, h, l, hi, hm, hB, hx, hu, hbig => by
    rw [pattern_Quote_L0_s]
    unfold pattern_Quote_L0b
    rw [lett_eq]
    rcases Nat.lt_or_ge i s.length with hlt | hge
    · obtain ⟨g, e1, B1, A1⟩ := hw H.next h H.next l s[i] hB hx hu (by omega)
      rw [lt_true (show (i : Int) < lenS s by rw [lenS_nat]; omega), ifB_true, idxS_nat hlt, obind_val, show newP H = .ptr H.next 0 from rfl, e1, callN_ret, lett_eq, wrap_succ (by omega)]
      have hl := formU_len s[i]
      obtain ⟨h2, e2, B2, A2⟩ := quote_loop hw s H k11 hs m (i + 1) g (l ++ formU s[i]) (by omega) (by omega) B1 (by rw [A1.ex]; exact hx) (by rw [A1.ex]; exact hu) (by rw [List.length_append]; omega)
      refine ⟨h2, e2, ?_, A1.trans A2⟩
      rw [List.drop_eq_getElem_cons hlt, List.flatMap_cons, ← List.append_assoc]
      exact B2
    · rw [lt_false (show lenS s ≤ (i : Int) by rw [lenS_nat]; omega), ifB_false]
      refine ⟨h, rfl, ?_, Ab.refl _ h⟩
      rw [List.drop_eq_nil_of_le hge, List.flatMap_nil, List.append_nil]
      exact hB
theorem flatMap_len (s : Bytes) : (s.flatMap formU).length ≤ 4 * s.length := by
  induction s with
  | nil => simp
  | cons x s ih =>
    have := formU_len x
    rw [List.flatMap_cons, List.length_append, List.length_cons]
    omega
/-- Quote: the text in quotes; nothing that was there turns -/
theorem quote_F (hc : QC call) (hw : WF call) (s : Bytes) (h : AHeap) (hx : memB TBld h.ex = true) (hu : memB TU8 h.ex = false) (hs : s.length ≤ 1000000) (hn : s.length < n) :
    ∃ h', pattern_Quote call n s h = some (.ret (strA (quoteB s)), h') ∧ Ab h.next h h' := by
  unfold pattern_Quote
  rw [lett_eq]
  have B0 : BldA h.next (newH h TBld [.nilp, .nsl]) h.next [] := bld_new h
  have A0 : Ab h.next h (newH h TBld [.nilp, .nsl]) := (Ab.refl _ h).new (Nat.le_refl _) _
  obtain ⟨g1, e1, B1, A1⟩ := hc.wb h.next _ h.next [] 34 B0 (by rw [A0.ex]; exact hx) (by rw [A0.ex]; exact hu) (by decide)
  rw [show newP h = .ptr h.next 0 from rfl, show (.int .u8 34 : AV) = .int .u8 (((34 : UInt8).toNat : Nat) : Int) from rfl, e1, callN_ret, lett_eq]
  have X1 : g1.ex = h.ex := A1.ex.trans A0.ex
  obtain ⟨g2, e2, B2, A2⟩ := quote_loop hw s h (fun h_12 => callN (call 29 [.ptr h.next 0, .int .u8 (((34 : UInt8).toNat : Nat) : Int)] h_12) fun _ h_14 =>
    callN (call 31 [.ptr h.next 0] h_14) fun r17 h_17 =>
    obind (avStr r17) fun t17 =>
    some (.ret (strA t17), h_17)) hs n 0 g1 _ (Nat.zero_le _) (by omega) B1 (by rw [X1]; exact hx) (by rw [X1]; exact hu) (by simp only [List.length_append, List.length_cons, List.length_nil]; omega)
  have X2 : g2.ex = h.ex := A2.ex.trans X1
  have hfl := flatMap_len s
  rw [List.drop_zero] at B2
  obtain ⟨g3, e3, B3, A3⟩ := hc.wb h.next g2 h.next _ 34 B2 (by rw [X2]; exact hx) (by rw [X2]; exact hu) (by simp only [List.length_append, List.length_cons, List.length_nil]; omega)
  obtain ⟨g4, e4, A4⟩ := hc.st h.next g3 h.next _ B3 (by simp only [List.length_append, List.length_cons, List.length_nil]; omega)
  refine ⟨g4, ?_, (((A0.trans A1).trans A2).trans A3).trans A4⟩
  refine Eq.trans e2 ?_
  rw [e3, callN_ret, e4, callN_ret, avStr_str, obind_val]
  rfl
end
end Go.Proofs.Ytijhmmimffgjiaa
