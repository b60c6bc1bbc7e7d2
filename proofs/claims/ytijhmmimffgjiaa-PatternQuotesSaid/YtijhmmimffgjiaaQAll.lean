/- The functions of texts in quotes, level by level; the law. -/
import Derived.Test.YtijhmmimffgjiaaTop
import Derived.Test.YtijhmmimffgjiaaWo
namespace Go.Proofs.Ytijhmmimffgjiaa
open Go.RowKit Abs

section
variable {n : Nat} (d : Nat)
theorem pSH : SH (world n (d + 1)) := fun h i => by rw [w_pattern_short, short_F]; exact gcR_self
theorem pPL : PL (world n (d + 1)) := fun h i => by rw [w_pattern_plain, plain_F]; exact gcR_self
theorem pBD : BD (world n (d + 2)) := fun h i => by rw [w_pattern_byDigits, byDigits_F (pSH d) (pPL d)]; exact gcR_self
theorem pMB (hn : 16 < n) : MB (world n (d + 3)) := fun h a e ha he hc => by rw [w_pattern_mayBegin, mayBegin_F (pBD d) a e ha he hc hn]; exact gcR_self
theorem pEN : EN (world n (d + 1)) := fun lo h b s at_ hR => by rw [w_pattern_reader_ended, ended_F hR]
theorem pSE : SE (world n (d + 2)) := fun lo h b s at_ c hR hat => by rw [w_pattern_reader_sees, sees_F (pEN d) hR hat]
theorem pSK : SK (world n (d + 3)) := fun lo h b s at_ c hR hat hs => by
  obtain ⟨h', e, k⟩ := skips_F (n := n) (pSE d) hR hat hs c
  exact ⟨h', by rw [w_pattern_reader_skips, e], k⟩
theorem pNX : NX (world n (d + 2)) := fun lo h b s at_ c hR hc hs => by
  have hlt : at_ < s.length := (List.getElem?_eq_some_iff.1 hc).1
  obtain ⟨h', e, R, A, K, N⟩ := next_F (n := n) (pEN d) hR hlt hs
  have hv : s[at_] = c := (List.getElem?_eq_some_iff.1 hc).2
  rw [hv] at e
  exact ⟨h', by rw [w_pattern_reader_next, e], R, A, K, N⟩
theorem pTK : TK (world n (d + 4)) := fun lo h b s at_ c hR hat hs hq => by
  obtain ⟨h', e, k⟩ := take_F (n := n) (pSK d) hR hat hs c hq
  exact ⟨h', by rw [w_pattern_reader_take, e], k⟩
theorem pIB : IB (world n (d + 1)) := fun h k hk => by rw [show 87 = 87 from rfl, w_ibF]; exact ibF_eq k hk h
theorem pDG : DG (world n (d + 3)) := fun lo h b s at_ k hR hk hx hs => by
  obtain ⟨h', e, w⟩ := digit_F (n := n) (pNX d) (pIB (d + 1)) hR k hk hx hs
  exact ⟨h', by rw [w_pattern_reader_digit, e], w⟩
theorem pTD (hn : 16 < n) : TD (world n (d + 4)) := fun lo h b s at_ c hR g0 g1 h0 hpl hs => by
  obtain ⟨h', e, w⟩ := twoDigits_F (n := n) (pDG d) (pMB d hn) (pBD (d + 1)) hR c g0 g1 h0 hpl hs
  exact ⟨h', by rw [w_pattern_reader_twoDigits, e], w⟩
theorem pFO (hn : 16 < n) : FO (world n (d + 5)) := fun lo h b s at_ c hR hf hs => by
  obtain ⟨h', e, w⟩ := form_F (n := n) (pNX (d + 2)) (pPL (d + 3)) (pTD d hn) hR c hf hs
  exact ⟨h', by rw [w_pattern_reader_form, e], w⟩
theorem pCC : CC (world n (d + 1)) := fun lo h b l hB hx => by
  obtain ⟨h', e, k⟩ := copyCheck_F (call := world n d) (n := n) hB hx
  exact ⟨h', by rw [w_strings_Builder_copyCheck, e], k⟩
theorem pLN : LN (world n (d + 1)) := fun lo h b l hB => by rw [w_strings_Builder_Len, len_F hB]
theorem pQC : QC (world n (d + 2)) where
  wb lo h b l c hB hx hu hbig := by
    obtain ⟨h', e, k⟩ := writeByte_F (n := n) (pCC d) hB hx hu c hbig
    exact ⟨h', by rw [w_strings_Builder_WriteByte, e], k⟩
  ws lo h b l s hB hx hu hbig := by
    obtain ⟨h', e, k⟩ := writeString_F (n := n) (pCC d) hB hx hu s hbig
    exact ⟨h', by rw [w_strings_Builder_WriteString, e], k⟩
  st lo h b l hB hbig := by
    obtain ⟨h', e, k⟩ := string_F (call := world n (d + 1)) (n := n) hB hbig
    exact ⟨h', by rw [w_strings_Builder_String, e], k⟩
  sh := pSH (d + 1)
  pl := pPL (d + 1)
theorem pWF : WF (world n (d + 3)) := fun lo h b l c hB hx hu hbig => by
  obtain ⟨h', e, k⟩ := writeForm_F (n := n) (pQC d) hB hx hu c hbig
  exact ⟨h', by rw [w_pattern_writeForm, e], k⟩
theorem pQuote {s : Bytes} {h : AHeap} (hx : memB TBld h.ex = true) (hu : memB TU8 h.ex = false) (hs : s.length ≤ 1000000) (hn : s.length < n) : world n (d + 4) 15 [strA s] h = some (.ret (strA (quoteB s)), h) := by
  obtain ⟨h', e, k⟩ := quote_F (n := n) (pQC (d + 1)) (pWF d) s h hx hu hs hn
  rw [w_pattern_Quote, e]
  exact gcR_scal k.above rfl
theorem pSG : SG (world n (d + 1)) := fun h c hu => by
  obtain ⟨h', e, k⟩ := sign_F (call := world n d) (n := n) c h hu
  rw [w_ref09_Sign, e]
  exact gcR_scal k.above rfl
theorem pRefQuote {s : Bytes} {h : AHeap} (hu : memB TU8 h.ex = false) (hs : s.length ≤ 1000000) (hn : s.length < n) : world n (d + 2) 17 [strA s] h = some (.ret (strA (quoteB s)), h) := by
  obtain ⟨h', e, k⟩ := refQuote_F (n := n) (pSG d) s h hu hs hn
  rw [w_ref09_Quote, e]
  exact gcR_scal k.above rfl
theorem pQD (hn : 1000000 < n) : QD (world n (d + 6)) := fun lo h b r hR hlo hx hu hr => by
  obtain ⟨h', e, k⟩ := quoted_F (n := n) (pQC (d + 3)) (pTK (d + 1)) (pSK (d + 2)) (pFO (n := n) d (by omega)) (pLN (d + 4)) r hR hlo hx hu hr (by omega)
  exact ⟨h', by rw [w_pattern_reader_quoted, e], k⟩
theorem pQG (hn : 1000000 < n) : QG (world n (d + 8)) := by
  intro lo h b r p q x t e hR hlo hx hu hr hp hq ht hxb hxl hlx hpl hql
  have t0 : Ab h.next h (newH h TSpot [.int .i64 0, .int .i64 0]) := (above_new h _ _).ab (Nat.le_refl _)
  have nn : (newH h TSpot [.int .i64 0, .int .i64 0]).next = h.next + 1 := rfl
  have gs : (newH h TSpot [.int .i64 0, .int .i64 0]).get h.next = some (.row 2 (T.put .e 0 [.int .i64 0, .int .i64 0]) TSpot) := get_newH _ _ _
  have ld : ∀ z, z < h.next → ldCell (newH h TSpot [.int .i64 0, .int .i64 0]) (.ptr z 0) = ldCell h (.ptr z 0) := fun z hz => by
    show cellGet _ z 0 = cellGet _ z 0
    unfold cellGet
    rw [t0.get z hz]
  generalize hh0 : newH h TSpot [.int .i64 0, .int .i64 0] = h0 at *
  have hbn : b < h.next := by obtain ⟨_, _, _, _, _, k⟩ := hR; exact k
  have R0 : Rdr lo h0 b (quoteB r) 0 := by
    obtain ⟨tr, k1, k2, k3, k4, k5⟩ := hR
    exact ⟨tr, (t0.get b hbn).trans k1, k2, k3, k4, by omega⟩
  obtain ⟨h1, e1, R1, A1, g1, K1⟩ := quoted1_F (n := n) (pQD d hn) r (p := p) (q := q) (x := x) R0 (by omega) (by rw [t0.ex]; exact hx) (by rw [t0.ex]; exact hu) hr (by rw [ld p hpl]; exact hp) (by rw [ld q hql]; exact hq) ((t0.get x hxl).trans ht) hxb (by omega) hlx
  have gs1 : h1.get h.next = _ := (K1 h.next (by omega) (by omega) (by omega)).trans gs
  have hd : dynC Try.prog (world n (d + 7)) (.fn 36 [] [.ptr p 0, .ptr q 0, .ptr x 0]) [] (newH h TSpot [.int .i64 0, .int .i64 0]) = some (.ret (.tup []), h1) := by
    rw [hh0]
    show world n (d + 7) 36 [.ptr p 0, .ptr q 0, .ptr x 0] h0 = _
    rw [w_pattern_Quoted_1, e1]
  obtain ⟨h2, e2, N2, X2, K2⟩ := guard_F (n := n) hd gs1
  refine ⟨h2, by rw [w_pattern_guard]; exact e2, ?_, ?_, ?_, ?_, ?_⟩
  · obtain ⟨tr, k1, k2, k3, k4, k5⟩ := R1
    exact ⟨tr, (K2 b (by omega)).trans k1, k2, k3, k4, by omega⟩
  · exact (K2 x (by omega)).trans g1
  · have := A1.next; omega
  · rw [X2, A1.ex, t0.ex]
  · intro y h3 h4 h5
    rw [K2 y (by omega), K1 y h3 h4 (by omega), t0.get y h5]
theorem pQT (hn : 1000000 < n) : QT (world n (d + 9)) := fun h r hx hu hr => by
  obtain ⟨h', e, k⟩ := quotedT_F (n := n) (pQG d hn) r hx hu hr
  rw [w_pattern_Quoted, e]
  exact gcR_scal k rfl
theorem pUQ (hn : 1000000 < n) {r : Bytes} {h : AHeap} (hx : memB TBld h.ex = true) (hu : memB TU8 h.ex = false) (hr : r.length ≤ 1000000) : world n (d + 10) 16 [strA (quoteB r)] h = some (.ret (.tup [strA r, .agg [.int .i64 0, .int .i64 0]]), h) := by
  obtain ⟨h', e, k⟩ := unquote_F (n := n) (pQT d hn) r hx hu hr
  rw [w_pattern_Unquote, e]
  exact gcR_scal k rfl
end
set_option maxRecDepth 20000 in
theorem patternQuotes_says (h : AHeap) (hX : h.ex = [57]) (xs : List AV) (hP : ArgsP Try.prog h.next h 12 [9] xs) : ∃ h', Says Try.prog 3 xs h (.ret (.bool true)) h' := by
  obtain ⟨_, _, rfl, hp0, hP⟩ := args_cons hP
  obtain rfl := args0 hP
  obtain ⟨s, rfl, hs⟩ := hp0.str Try.underlying9
  have hx : memB TBld h.ex = true := by rw [hX]; rfl
  have hu : memB TU8 h.ex = false := by rw [hX]; rfl
  have key : ∀ n, 1000000 < n → ∃ h', world n 12 3 [strA s] h = some (.ret (.bool true), h') := by
    intro n hn
    rw [w_law09_PatternQuotes]
    apply gc_ex
    unfold law09_PatternQuotes
    rw [show world n 11 13 [] h = some (.ret (.bool true), h) from by rw [w_true]; rfl, callN_ret, avBool_bool, obind_val, lett_eq, Bool.not_true, ifB_false, w_law09_long]
    unfold law09_long
    rw [lett_eq, gcR_self, callN_ret, avBool_bool, obind_val]
    by_cases hl : s.length > 65536
    · rw [decide_eq_true (show lenS s > 65536 by rw [lenS_nat]; omega), ifB_true]
      exact ⟨_, rfl⟩
    · rw [decide_eq_false (show ¬ lenS s > 65536 by rw [lenS_nat]; omega), ifB_false, pQuote 7 hx hu (by omega) (by omega), callN_ret, avStr_str, obind_val, pUQ 1 hn hx hu (by omega), callN_ret]
      simp only [extT_0, extT_1, obind_val, avStr_str, show ∀ l : List AV, avAgg (.agg l) = some l from fun _ => rfl, lett_eq]
      have c1 : (newH h TSpot [.int .i64 0, .int .i64 0]).get h.next = some (.row 2 (T.put .e 0 [.int .i64 0, .int .i64 0]) TSpot) := get_newH _ _ _
      have s1 := stRow_two (x := .int .i64 0) (y := .int .i64 0) c1 rfl rfl
      have x1 : (newH h TSpot [.int .i64 0, .int .i64 0]).ex = h.ex := rfl
      rw [show newP h = .ptr h.next 0 from rfl, s1, obind_val, pRefQuote 9 (by show memB TU8 (newH h TSpot [.int .i64 0, .int .i64 0]).ex = false; rw [x1]; exact hu) (by omega) (by omega), callN_ret, avStr_str, obind_val, eqS_eq, beq_self_eq_true, ifB_true, eqS_eq, beq_self_eq_true, ifB_true, ldRow_two (get_put_same _ _), obind_val, show eqOther Try.prog TSpot (.agg [.int .i64 0, .int .i64 0]) (.agg [.int .i64 0, .int .i64 0]) = some true by kernel_rfl, obind_val]
      exact ⟨_, rfl⟩
  obtain ⟨n, hn⟩ : ∃ n : Nat, 1000000 < n := ⟨2000000, by omega⟩
  obtain ⟨h', hk⟩ := key n hn
  exact ⟨h', world_ok _ _ _ _ _ _ _ hk⟩
end Go.Proofs.Ytijhmmimffgjiaa
