/- Names: what the program tells of a text, and what the document does. -/
import Derived.Test.YtibddmlfoglfpaaWo
namespace Go.Proofs.Ytibddmlfoglfpaa
open Go.RowKit Abs

def sm (c : Int) : Bool := decide (c ≥ 97) && decide (c ≤ 122)
def dg (c : Int) : Bool := decide (c ≥ 48) && decide (c ≤ 57)
def wc (c : Int) : Bool := sm c || dg c || c == 95 || c == 45
theorem small_w (n d : Nat) (c : Int) (h : AHeap) : world n (d + 1) 15 [.int .u8 c] h = some (.ret (.bool (sm c)), h) := by
  rw [w_lex_small]
  simp only [lex_small, lett_eq, sm]
  cases decide (c ≥ 97) <;> exact gcR_self
theorem digit_w (n d : Nat) (c : Int) (h : AHeap) : world n (d + 1) 29 [.int .u8 c] h = some (.ret (.bool (dg c)), h) := by
  rw [w_lex_digit]
  simp only [lex_digit, lett_eq, dg]
  cases decide (c ≥ 48) <;> exact gcR_self
theorem wordc_w (n d : Nat) (c : Int) (h : AHeap) : world n (d + 2) 28 [.int .u8 c] h = some (.ret (.bool (wc c)), h) := by
  rw [w_lex_wordEnd_1]
  simp only [lex_wordEnd_1, lett_eq, wc, small_w, digit_w, callN_ret, obind_val, avBool_bool]
  cases sm c <;> cases dg c <;> cases (c == 95) <;> exact gcR_self
theorem first_w (n d : Nat) (c : Int) (h : AHeap) : world n (d + 1) 18 [.int .u8 c] h = some (.ret (.bool (sm c)), h) := by
  rw [w_ref12_first]
  simp only [ref12_first, lett_eq, sm]
  cases decide (c ≥ 97) <;> exact gcR_self
theorem number_w (n d : Nat) (c : Int) (h : AHeap) : world n (d + 1) 24 [.int .u8 c] h = some (.ret (.bool (dg c)), h) := by
  rw [w_ref12_number]
  simp only [ref12_number, lett_eq, dg]
  cases decide (c ≥ 48) <;> exact gcR_self
theorem in_w (n d : Nat) (c : Int) (h : AHeap) : world n (d + 2) 19 [.int .u8 c] h = some (.ret (.bool (wc c)), h) := by
  rw [w_ref12_In]
  simp only [ref12_In, lett_eq, wc, first_w, number_w, callN_ret, obind_val, avBool_bool]
  cases sm c <;> cases dg c <;> cases (c == 95) <;> exact gcR_self

/-! ### the run of bytes -/
theorem run_loop {call : CallF} {l : Bytes} {f : AV} {p : UInt8 → Bool} (hf : ∀ (c : UInt8) h, dynC Try.prog call f [.int .u8 (c.toNat : Int)] h = some (.ret (.bool (p c)), h)) (hl : l.length < 2 ^ 62) {a most : Nat} (k5 : Int → AHeap → R) :
    ∀ (m i : Nat) (h : AHeap), a ≤ i → i ≤ l.length → i - a ≤ most → l.length - i < m →
      lex_run_L0 call l a most f k5 m i h = if tw p l i - a ≤ most then k5 (tw p l i : Nat) h else some (.ret (.tup [.int .i64 ((a + most : Nat) : Int), .int .i64 3]), h) := by
  intro m
  induction m with
  | zero => intro i h _ _ _ h4; omega
  | succ m ih =>
    intro i h h1 h2 h3 h4
    rw [lex_run_L0_s]
    unfold lex_run_L0b
    simp only [lett_eq]
    by_cases hi : i < l.length
    · have e1 : decide ((i : Int) < lenS l) = true := lt_true (by rw [lenS_nat]; omega)
      rw [e1]
      simp only [idxS_nat hi, obind_val, hf, callN_ret, avBool_bool, ifB_true]
      rw [tw_step hi]
      cases hp : p l[i] with
      | true =>
        simp only [if_true, ifB_true, wrap_sub h1 (show i < 9223372036854775808 by omega)]
        by_cases hmost : i - a = most
        · have e2 : ((((i - a : Nat) : Int)) == (most : Int)) = true := beq_iff_eq.2 (by omega)
          rw [e2, ifB_true]
          have := tw_ge p l (i + 1)
          rw [if_neg (by omega)]
          simp only [show ((a + most : Nat) : Int) = (i : Int) by omega]
        · have e2 : ((((i - a : Nat) : Int)) == (most : Int)) = false := beq_eq_false_iff_ne.2 (by omega)
          rw [e2, ifB_false, wrap_succ (by omega)]
          exact ih (i + 1) h (by omega) (by omega) (by omega) (by omega)
      | false =>
        simp only [ifB_false, Bool.false_eq_true, if_false]
        rw [if_pos h3]
    · have e1 : decide ((i : Int) < lenS l) = false := lt_false (by rw [lenS_nat]; omega)
      rw [e1, ifB_false, ifB_false, tw_end (by omega), if_pos h3]
theorem run_w (n d : Nat) {l : Bytes} {f : AV} {p : UInt8 → Bool} (hf : ∀ (c : UInt8) h, dynC Try.prog (world n d) f [.int .u8 (c.toNat : Int)] h = some (.ret (.bool (p c)), h)) (hl : l.length < 2 ^ 62) (hn : l.length < n) {a most : Nat} (ha : a ≤ l.length) (h : AHeap) :
    world n (d + 1) 27 [strA l, .int .i64 a, .int .i64 most, f] h = some (.ret (.tup (if tw p l a - a ≤ most then [.int .i64 (tw p l a : Nat), .int .i64 0] else [.int .i64 ((a + most : Nat) : Int), .int .i64 3])), h) := by
  rw [w_lex_run]
  unfold lex_run
  rw [lett_eq, run_loop hf hl _ n a h (Nat.le_refl _) ha (by omega) (by omega)]
  split <;> exact gcR_self
theorem word_end_w (n d : Nat) {l : Bytes} (hl : l.length < 2 ^ 62) (hn : l.length < n) {a : Nat} (ha : a ≤ l.length) (h : AHeap) :
    world n (d + 4) 17 [strA l, .int .i64 a] h = some (.ret (.tup (if tw (fun c => wc c.toNat) l a - a ≤ 16 then [.int .i64 (tw (fun c => wc c.toNat) l a : Nat), .int .i64 0] else [.int .i64 ((a + 16 : Nat) : Int), .int .i64 3])), h) := by
  rw [w_lex_wordEnd]
  unfold lex_wordEnd
  have hr := run_w n (d + 2) (l := l) (f := .fn 28 [] []) (p := fun c => wc c.toNat) (by
    intro c h
    have : dynC Try.prog (world n (d + 2)) (.fn 28 [] []) [.int .u8 (c.toNat : Int)] h = world n (d + 2) 28 [.int .u8 (c.toNat : Int)] h := by kernel_rfl
    rw [this, wordc_w]) hl hn (a := a) (most := 16) ha h
  rw [show ((16 : Nat) : Int) = 16 from rfl] at hr
  rw [hr]
  split <;> simp only [callN_ret, obind_val, extT_0, extT_1, avInt_int] <;> exact gcR_self

def words : List Bytes := [[115, 101, 110, 100], [115, 101, 116], [105, 110, 99], [105, 102], [103, 111, 116, 111], [101, 120, 105, 116], [101, 120, 112, 101, 99, 116], [116, 105, 109, 101, 111, 117, 116], [103, 108, 111, 98], [114, 101]]
theorem of_language_w (n d : Nat) (l : Bytes) (h : AHeap) : world n (d + 1) 16 [strA l] h = some (.ret (.bool (words.any (· == l))), h) := by
  rw [w_lex_ofLanguage]
  simp only [lex_ofLanguage, lett_eq, eqS_eq, words, List.any_cons, List.any_nil, Bool.or_false]
  have hc : ∀ w : Bytes, (l == w) = (w == l) := fun w => Bool.beq_comm
  simp only [hc]
  generalize (([115, 101, 110, 100] : Bytes) == l) = b1
  generalize (([115, 101, 116] : Bytes) == l) = b2
  generalize (([105, 110, 99] : Bytes) == l) = b3
  generalize (([105, 102] : Bytes) == l) = b4
  generalize (([103, 111, 116, 111] : Bytes) == l) = b5
  generalize (([101, 120, 105, 116] : Bytes) == l) = b6
  generalize (([101, 120, 112, 101, 99, 116] : Bytes) == l) = b7
  generalize (([116, 105, 109, 101, 111, 117, 116] : Bytes) == l) = b8
  generalize (([103, 108, 111, 98] : Bytes) == l) = b9
  generalize (([114, 101] : Bytes) == l) = b10
  cases b1 <;> try exact gcR_self
  cases b2 <;> try exact gcR_self
  cases b3 <;> try exact gcR_self
  cases b4 <;> try exact gcR_self
  cases b5 <;> try exact gcR_self
  cases b6 <;> try exact gcR_self
  cases b7 <;> try exact gcR_self
  cases b8 <;> try exact gcR_self
  cases b9 <;> try exact gcR_self
  cases b10 <;> exact gcR_self

/-- which texts may be names -/
def nameS (l : Bytes) : Bool := decide (l.length ≤ 16) && (match l with | [] => false | c :: _ => sm c.toNat) && l.all (fun c => wc c.toNat) && !words.any (· == l)
theorem name_w (n d : Nat) {l : Bytes} (hl : l.length < 2 ^ 62) (hn : l.length < n) (h : AHeap) : world n (d + 5) 11 [strA l] h = some (.ret (.bool (nameS l)), h) := by
  rw [w_lex_Name]
  simp only [lex_Name, lett_eq, eqS_eq]
  cases l with
  | nil => exact gcR_self
  | cons c r =>
    have e0 : ((c :: r : Bytes) == ([] : Bytes)) = false := rfl
    have e1 : idxS (c :: r) 0 = some ((c.toNat : Nat) : Int) := rfl
    simp only [e0, e1, obind_val, callN_ret, small_w, avBool_bool, of_language_w, ifB_false]
    have hw := word_end_w n d (l := c :: r) hl hn (a := 0) (Nat.zero_le _) h
    rw [show ((0 : Nat) : Int) = 0 from rfl] at hw
    cases hs : sm (c.toNat : Int) with
    | false =>
      rw [show nameS (c :: r) = false by simp only [nameS, hs, Bool.and_false, Bool.false_and]]
      exact gcR_self
    | true =>
      cases ho : words.any (· == (c :: r)) with
      | true =>
        rw [show nameS (c :: r) = false by simp only [nameS, ho, Bool.not_true, Bool.and_false]]
        exact gcR_self
      | false =>
        have hall := tw_all (p := fun c => wc c.toNat) (l := c :: r)
        have hle := tw_le (p := fun c => wc c.toNat) (l := c :: r) (Nat.zero_le _)
        simp only [Bool.not_true, ifB_false, hw]
        by_cases h16 : tw (fun c => wc c.toNat) (c :: r) 0 - 0 ≤ 16
        · rw [if_pos h16]
          simp only [callN_ret, obind_val, extT_0, extT_1, avInt_int, lenS_nat]
          by_cases ha : tw (fun c => wc c.toNat) (c :: r) 0 = (c :: r).length
          · have e2 : (((tw (fun c => wc c.toNat) (c :: r) 0 : Nat) : Int) == ((c :: r).length : Int)) = true := beq_iff_eq.2 (by rw [ha])
            have h17 : decide ((c :: r).length ≤ 16) = true := decide_eq_true (by omega)
            rw [e2, show nameS (c :: r) = true by simp only [nameS, hs, ho, hall.1 ha, h17, Bool.and_true, Bool.not_false]]
            exact gcR_self
          · have e2 : (((tw (fun c => wc c.toNat) (c :: r) 0 : Nat) : Int) == ((c :: r).length : Int)) = false := beq_eq_false_iff_ne.2 (by omega)
            have h3 : (c :: r).all (fun c => wc c.toNat) = false := by
              cases h4 : (c :: r).all (fun c => wc c.toNat) with
              | false => rfl
              | true => exact absurd (hall.2 h4) ha
            rw [e2, show nameS (c :: r) = false by simp only [nameS, h3, Bool.and_false, Bool.false_and]]
            exact gcR_self
        · rw [if_neg h16]
          simp only [callN_ret, obind_val, extT_0, extT_1, avInt_int, lenS_nat]
          have h17 : decide ((c :: r).length ≤ 16) = false := decide_eq_false (by omega)
          rw [show nameS (c :: r) = false by simp only [nameS, h17, Bool.false_and]]
          cases (((0 + 16 : Nat) : Int) == ((c :: r).length : Int)) <;> exact gcR_self

/-! ### the document's answer -/
theorem in_loop {n d : Nat} {l : Bytes} (hl : l.length < 2 ^ 62) (k : AHeap → R) : ∀ (m i : Nat) (h : AHeap), i ≤ l.length → l.length - i < m →
    ref12_Name_L1 (world n (d + 2)) l k m i h = if (l.drop i).all (fun c => wc c.toNat) = true then k h else some (.ret (.bool false), h) := by
  intro m
  induction m with
  | zero => intro i h _ h4; omega
  | succ m ih =>
    intro i h h2 h4
    rw [ref12_Name_L1_s]
    unfold ref12_Name_L1b
    simp only [lett_eq]
    by_cases hi : i < l.length
    · have e1 : decide ((i : Int) < lenS l) = true := lt_true (by rw [lenS_nat]; omega)
      rw [e1]
      simp only [idxS_nat hi, obind_val, in_w, callN_ret, avBool_bool, ifB_true]
      rw [List.drop_eq_getElem_cons hi, List.all_cons]
      cases hp : wc ((l[i]).toNat : Int) with
      | false => rfl
      | true =>
        rw [Bool.not_true, ifB_false, wrap_succ (by omega), Bool.true_and]
        exact ih (i + 1) h (by omega) (by omega)
    · have e1 : decide ((i : Int) < lenS l) = false := lt_false (by rw [lenS_nat]; omega)
      rw [e1, ifB_false, List.drop_eq_nil_of_le (by omega), List.all_nil, if_pos rfl]
noncomputable def wordsA : List AV := words.map strA
theorem words_w (n d : Nat) (h : AHeap) (hx : memB 9 h.ex = false) : world n (d + 1) 20 [] h = some (.ret (.sl h.next 0 10 1), newH h 9 wordsA) := by
  rw [w_ref12_Words]
  unfold ref12_Words
  have e1 : bldSl Try.prog h 41 10 [(0, strA ([115, 101, 110, 100] : Bytes)), (1, strA ([115, 101, 116] : Bytes)), (2, strA ([105, 110, 99] : Bytes)), (3, strA ([105, 102] : Bytes)), (4, strA ([103, 111, 116, 111] : Bytes)), (5, strA ([101, 120, 105, 116] : Bytes)), (6, strA ([101, 120, 112, 101, 99, 116] : Bytes)), (7, strA ([116, 105, 109, 101, 111, 117, 116] : Bytes)), (8, strA ([103, 108, 111, 98] : Bytes)), (9, strA ([114, 101] : Bytes))] = outNewS h 9 wordsA 10 1 := by kernel_rfl
  have e2 : outNewS h 9 wordsA 10 1 = some (.val (.sl h.next 0 10 1), newH h 9 wordsA) := by
    unfold outNewS
    rw [if_pos ⟨by kernel_rfl, hx⟩]
    rfl
  rw [e1, e2, outK_val]
  exact gcR_sl
theorem words_loop {l : Bytes} {h0 : AHeap} (k : AHeap → R) : ∀ (m i : Nat), i ≤ 10 → 10 - i < m →
    ref12_Name_L0 l (.sl h0.next 0 10 1) k m i (newH h0 9 wordsA) = if (words.drop i).any (· == l) = true then some (.ret (.bool false), newH h0 9 wordsA) else k (newH h0 9 wordsA) := by
  intro m
  induction m with
  | zero => intro i _ h4; omega
  | succ m ih =>
    intro i h2 h4
    rw [ref12_Name_L0_s]
    unfold ref12_Name_L0b
    simp only [lett_eq, lenL, obind_val]
    by_cases hi : i < 10
    · have e1 : decide ((i : Int) < ((10 : Nat) : Int)) = true := decide_eq_true (by omega)
      have hwl : i < words.length := hi
      have e3 : wordsA[i]? = some (strA words[i]) := by
        simp only [wordsA, List.getElem?_map, List.getElem?_eq_getElem hwl, Option.map_some]
      have e2 : ldCell (newH h0 9 wordsA) (.ptr h0.next (0 + i * 1)) = some (strA words[i]) := by
        rw [cell_newH, Nat.zero_add, Nat.mul_one, e3]
      rw [e1]
      simp only [idxP_sl hi, e2, avStr_str, eqS_eq, ifB_true, obind_val]
      rw [List.drop_eq_getElem_cons hwl, List.any_cons]
      cases hb : (words[i] == l) with
      | true => rfl
      | false =>
        rw [ifB_false, wrap_succ (by omega), Bool.false_or]
        exact ih (i + 1) (by omega) (by omega)
    · have e1 : decide ((i : Int) < ((10 : Nat) : Int)) = false := decide_eq_false (by omega)
      rw [e1, ifB_false, List.drop_eq_nil_of_le (by show 10 ≤ i; omega), List.any_nil]
      rfl
theorem ref_name_w (n d : Nat) {l : Bytes} (hl : l.length < 2 ^ 62) (hn : l.length < n) (hn2 : 10 < n) (h : AHeap) (hx : memB 9 h.ex = false) : world n (d + 3) 12 [strA l] h = some (.ret (.bool (nameS l)), h) := by
  rw [w_ref12_Name]
  simp only [ref12_Name, lett_eq]
  cases l with
  | nil => exact gcR_self
  | cons c r =>
    have e0 : decide (lenS (c :: r) < 1) = false := lt_false (by rw [lenS_nat, List.length_cons]; omega)
    have e1 : idxS (c :: r) 0 = some ((c.toNat : Nat) : Int) := rfl
    rw [e0, ifB_false]
    by_cases h16 : (c :: r).length ≤ 16
    · have e2 : decide (lenS (c :: r) > 16) = false := lt_false (by rw [lenS_nat]; omega)
      have e3 : decide ((c :: r).length ≤ 16) = true := decide_eq_true h16
      rw [e2]
      simp only [e1, obind_val, callN_ret, first_w, avBool_bool, ifB_false]
      cases hs : sm (c.toNat : Int) with
      | false =>
        rw [show nameS (c :: r) = false by simp only [nameS, hs, Bool.and_false, Bool.false_and]]
        exact gcR_self
      | true =>
        rw [Bool.not_true, ifB_false, show (0 : Int) = ((0 : Nat) : Int) from rfl, in_loop hl _ n 0 h (Nat.zero_le _) (by omega), List.drop_zero]
        cases ha : (c :: r).all (fun c => wc c.toNat) with
        | false =>
          rw [show nameS (c :: r) = false by simp only [nameS, ha, Bool.and_false, Bool.false_and]]
          exact gcR_self
        | true =>
          rw [if_pos rfl, words_w n (d + 1) h hx, callN_ret, words_loop _ n 0 (by omega) (by omega), List.drop_zero]
          cases hw : words.any (· == (c :: r)) with
          | true =>
            rw [show nameS (c :: r) = false by simp only [nameS, hw, Bool.not_true, Bool.and_false]]
            exact gcR_scal (above_new _ _ _) rfl
          | false =>
            rw [show nameS (c :: r) = true by simp only [nameS, hw, ha, hs, e3, Bool.not_false, Bool.and_true]]
            exact gcR_scal (above_new _ _ _) rfl
    · have e2 : decide (lenS (c :: r) > 16) = true := lt_true (by rw [lenS_nat]; omega)
      have e3 : decide ((c :: r).length ≤ 16) = false := decide_eq_false h16
      rw [e2, ifB_true, show nameS (c :: r) = false by simp only [nameS, e3, Bool.false_and]]
      exact gcR_self
theorem great_w (n d : Nat) (l : Bytes) (h : AHeap) : world n (d + 1) 8 [strA l] h = some (.ret (.bool (decide (lenS l > 65536))), h) := by
  rw [w_law12_great]
  unfold law12_great
  simp only [lett_eq]
  exact gcR_self

/-- the law -/
theorem lexNames_says (s : ByteArray) : ∃ h', Says Try.prog 5 [strA s.data.toList] ⟨0, [70], .e⟩ (.ret (.bool true)) h' := by
  have key : ∃ h', world (s.data.toList.length + 20) 6 5 [strA s.data.toList] ⟨0, [70], .e⟩ = some (.ret (.bool true), h') := by
    rw [w_law12_LexNames]
    unfold law12_LexNames
    generalize hl : s.data.toList = l
    have hw : world (l.length + 20) 5 7 [] ⟨0, [70], .e⟩ = some (.ret (.bool true), ⟨0, [70], .e⟩) := by kernel_rfl
    rw [hw]
    simp only [callN_ret, obind_val, avBool_bool, lett_eq, Bool.not_true, great_w, ifB_false]
    by_cases hb : l.length ≤ 65536
    · have e1 : decide (lenS l > 65536) = false := lt_false (by rw [lenS_nat]; omega)
      rw [e1, ifB_false, name_w (l.length + 20) 0 (by omega) (by omega), callN_ret, avBool_bool, obind_val, ref_name_w (l.length + 20) 2 (by omega) (by omega) (by omega) _ rfl, callN_ret, avBool_bool, obind_val, beq_self_eq_true]
      exact ⟨_, gcR_self⟩
    · have e1 : decide (lenS l > 65536) = true := lt_true (by rw [lenS_nat]; omega)
      rw [e1]
      exact ⟨_, gcR_self⟩
  obtain ⟨h', hk⟩ := key
  exact ⟨h', world_ok _ _ _ _ _ _ _ hk⟩
theorem lexNames_any (s : ByteArray) (W : World) : Calls Try.prog 5 #[.string s] W fun e W' => e = .returned (.bool true) ∧ Below W.heap.size W W' := by
  obtain ⟨h', hs⟩ := lexNames_says s
  exact says_any hs (.cons (rel_str _ s) .nil) W
end Go.Proofs.Ytibddmlfoglfpaa
