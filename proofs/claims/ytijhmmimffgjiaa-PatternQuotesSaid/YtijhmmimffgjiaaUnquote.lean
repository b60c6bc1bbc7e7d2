/- What the reader's quoted comes to where a text stands in quotes. -/
import Derived.Test.YtijhmmimffgjiaaForm
namespace Go.Proofs.Ytijhmmimffgjiaa
open Go.RowKit Abs

section
variable {call : CallF} {n lo : Nat} {h : AHeap} {b at_ : Nat} {s : Bytes}
theorem Went.bld {lo' : Nat} {h' : AHeap} {to B : Nat} {l : Bytes} (w : Went lo h b s to h') (hb : b < lo') (hB : BldA lo' h B l) : BldA lo' h' B l := by
  obtain ⟨t, a, buf, g1, g2, g3, g4, g5, g6, g7⟩ := hB
  have hg : ∀ d, lo' ≤ d → h'.get d = h.get d := fun d hd => w.2.2.1 d (by omega)
  refine ⟨t, a, buf, (hg B g5).trans g1, g2, g3, g4, g5, by rw [w.2.2.2]; exact g6, ?_⟩
  rcases g7 with g7 | ⟨c, k1, k0, k2, k3, k4, k5, k6⟩
  · exact .inl g7
  · refine .inr ⟨c, k1, k0, k2, k3, by rw [w.2.2.2]; exact k4, ?_, ?_⟩
    · unfold rowGet at k5 ⊢
      rw [hg c k2]
      exact k5
    · unfold rowType at k6 ⊢
      rw [hg c k2]
      exact k6
theorem formU_first (c : UInt8) : ∃ x, (formU c)[0]? = some x ∧ x ≠ 34 := by
  unfold formU
  by_cases h0 : shortU c = 0
  · rw [if_pos h0]
    split
    · refine ⟨c, rfl, ?_⟩
      rintro rfl
      exact absurd h0 (by decide)
    · exact ⟨92, rfl, by decide⟩
  · rw [if_neg h0]
    exact ⟨92, rfl, by decide⟩
def FO (call : CallF) : Prop := ∀ lo h b s at_ c, Rdr lo h b s at_ → (∀ j, j < (formU c).length → s[at_ + j]? = (formU c)[j]?) → s.length ≤ 1000000000 → ∃ h', call 58 [.ptr b 0] h = some (.ret (.int .u8 (c.toNat : Int)), h') ∧ Went lo h b s (at_ + (formU c).length) h'
def LN (call : CallF) : Prop := ∀ lo h b l, BldA lo h b l → call 56 [.ptr b 0] h = some (.ret (.int .i64 (lenS l)), h)
theorem quoted_loop (hq : QC call) (hk : SK call) (hf : FO call) (hl : LN call) (H : AHeap) (k10 : AHeap → R) (hb : b < H.next) (hs : s.length ≤ 100000000) : ∀ (rest : Bytes) (m p : Nat) (h : AHeap) (l : Bytes), rest.length < m → s.drop p = rest.flatMap formU ++ [34] → Rdr lo h b s p → BldA H.next h H.next l → lo ≤ H.next → memB TBld h.ex = true → memB TU8 h.ex = false → l.length + rest.length ≤ 100000000 →
    ∃ h', pattern_reader_quoted_L0 call (.ptr b 0) (-1) H k10 m h = k10 h' ∧ BldA H.next h' H.next (l ++ rest) ∧ Rdr lo h' b s s.length ∧ Ab lo h h' ∧ ∀ d, d ≠ b → d < H.next → h'.get d = h.get d
  | rest, 0, _, _, _, hm, _, _, _, _, _, _, _ => absurd hm (by omega)
  | [], m + 1, p, h, l, _, hd, hR, hB, hlo, hx, hu, _ => by
    have hlen := congrArg List.length hd
    simp only [List.length_drop, List.flatMap_nil, List.nil_append, List.length_cons, List.length_nil] at hlen
    have hp : s[p]? = some 34 := by
      have hp0 : (s.drop p)[0]? = some 34 := by rw [hd]; rfl
      rwa [List.getElem?_drop] at hp0
    have hsees : seesB s p 34 = true := by unfold seesB; rw [hp]; rfl
    obtain ⟨h1, e1, R1, A1, K1, N1⟩ := hk lo h b s p 34 hR (by omega) (by omega)
    rw [hsees, if_pos rfl] at R1
    have hpe : p + 1 = s.length := by omega
    have W1 : Went lo h b s (p + 1) h1 := ⟨R1, A1, K1, N1⟩
    rw [pattern_reader_quoted_L0_s]
    unfold pattern_reader_quoted_L0b
    rw [show (.int .u8 34 : AV) = .int .u8 (((34 : UInt8).toNat : Nat) : Int) from rfl, e1, callN_ret, avBool_bool, obind_val, lett_eq, hsees, show (!true) = false from rfl, ifB_false]
    exact ⟨h1, rfl, by rw [List.append_nil]; exact W1.bld hb hB, hpe ▸ R1, A1, fun d hd _ => K1 d hd⟩
  | c :: rest, m + 1, p, h, l, hm, hd, hR, hB, hlo, hx, hu, hbig => by
    have hlen := congrArg List.length hd
    obtain ⟨k, hkl⟩ := formU_pos c
    simp only [List.length_drop, List.flatMap_cons, List.length_append, List.length_cons, List.length_nil] at hlen
    simp only [List.length_cons] at hm hbig
    have hat : ∀ j, j < (formU c).length → s[p + j]? = (formU c)[j]? := by
      intro j hj
      rw [← List.getElem?_drop, hd, List.flatMap_cons, List.append_assoc, List.getElem?_append_left hj]
    obtain ⟨x, hx0, hx1⟩ := formU_first c
    have hsees : seesB s p 34 = false := by
      unfold seesB
      rw [show s[p]? = some x from (hat 0 (by omega)).trans hx0]
      simp [hx1]
    obtain ⟨h1, e1, R1, A1, K1, N1⟩ := hk lo h b s p 34 hR (by omega) (by omega)
    rw [hsees, if_neg (by decide)] at R1
    have W1 : Went lo h b s p h1 := ⟨R1, A1, K1, N1⟩
    have B1 := W1.bld hb hB
    obtain ⟨h2, e2, W2⟩ := hf lo h1 b s p c R1 hat (by omega)
    have B2 := W2.bld hb B1
    have X2 : h2.ex = h.ex := W2.2.1.ex.trans A1.ex
    obtain ⟨h3, e3, B3, A3⟩ := hq.wb H.next h2 H.next l c B2 (by rw [X2]; exact hx) (by rw [X2]; exact hu) (by omega)
    have R3 := W2.1.keep hb A3
    have hd3 : s.drop (p + (formU c).length) = rest.flatMap formU ++ [34] := by
      rw [← List.drop_drop, hd, List.flatMap_cons, List.append_assoc, List.drop_left]
    have A3' : Ab lo h2 h3 := ⟨A3.next, A3.ex, fun d hd => A3.get d (by omega)⟩
    obtain ⟨h4, e4, B4, R4, A4, K4⟩ := quoted_loop hq hk hf hl H k10 hb hs rest m _ h3 (l ++ [c]) (by omega) hd3 R3 B3 hlo (by rw [A3.ex, X2]; exact hx) (by rw [A3.ex, X2]; exact hu) (by simp only [List.length_append, List.length_cons, List.length_nil]; omega)
    rw [pattern_reader_quoted_L0_s]
    unfold pattern_reader_quoted_L0b
    rw [show (.int .u8 34 : AV) = .int .u8 (((34 : UInt8).toNat : Nat) : Int) from rfl, e1, callN_ret, avBool_bool, obind_val, lett_eq, hsees, show (!false) = true from rfl, ifB_true, show newP H = .ptr H.next 0 from rfl, hl H.next h1 H.next l B1, callN_ret, avInt_int, obind_val, lett_eq, lett_eq, ieq_f (show lenS l ≠ -1 by rw [lenS_nat]; omega), ifB_false]
    dsimp only
    rw [e2, callK_ret, avInt_int, obind_val, e3, callN_ret, e4]
    refine ⟨h4, rfl, ?_, R4, ((A1.trans W2.2.1).trans A3').trans A4, fun d hd hd2 => (K4 d hd hd2).trans ((A3.get d hd2).trans ((W2.2.2.1 d hd).trans (K1 d hd)))⟩
    rw [List.append_assoc] at B4
    exact B4
def TK (call : CallF) : Prop := ∀ lo h b s at_ (c : UInt8), Rdr lo h b s at_ → at_ ≤ s.length → s.length ≤ 1000000000 → seesB s at_ c = true → ∃ h', call 54 [.ptr b 0, .int .u8 (c.toNat : Int)] h = some (.ret (.tup []), h') ∧ Went lo h b s (at_ + 1) h'
/-- quoted, of any length, where a text in quotes stands: that text -/
theorem quoted_F (hq : QC call) (ht : TK call) (hk : SK call) (hf : FO call) (hl : LN call) (r : Bytes) (hR : Rdr lo h b (quoteB r) 0) (hlo : lo ≤ h.next) (hx : memB TBld h.ex = true) (hu : memB TU8 h.ex = false) (hr : r.length ≤ 1000000) (hn : r.length < n) :
    ∃ h', pattern_reader_quoted call n (.ptr b 0) (-1) h = some (.ret (strA r), h') ∧ Rdr lo h' b (quoteB r) (quoteB r).length ∧ Ab lo h h' ∧ ∀ d, d ≠ b → d < h.next → h'.get d = h.get d := by
  have hfl := flatMap_len r
  have hlen : (quoteB r).length = (r.flatMap formU).length + 2 := by
    unfold quoteB
    simp only [List.length_append, List.length_cons, List.length_nil]
  obtain ⟨h1, e1, W1⟩ := ht lo h b (quoteB r) 0 34 hR (Nat.zero_le _) (by omega) rfl
  have hbn : b < h1.next := by
    obtain ⟨_, _, _, _, _, k⟩ := W1.1
    exact k
  have A2 : Ab h1.next h1 (newH h1 TBld [.nilp, .nsl]) := (Ab.refl _ h1).new (Nat.le_refl _) _
  have lo1 : lo ≤ h1.next := by rw [W1.2.2.2]; exact hlo
  have A2' : Ab lo h1 (newH h1 TBld [.nilp, .nsl]) := (Ab.refl _ h1).new lo1 _
  have R2 := W1.1.keep hbn A2
  have B2 : BldA h1.next (newH h1 TBld [.nilp, .nsl]) h1.next [] := bld_new h1
  have X2 : (newH h1 TBld [.nilp, .nsl]).ex = h.ex := A2.ex.trans W1.2.1.ex
  obtain ⟨h3, e3, B3, R3, A3, K3⟩ := quoted_loop hq hk hf hl h1 (fun (h_11 : AHeap) =>
    callN (call 31 [.ptr h1.next 0] h_11) fun r22 h_13 =>
    obind (avStr r22) fun t22 =>
    some (.ret (strA t22), h_13)) hbn (by omega) r n 1 _ [] hn (by unfold quoteB; rfl) R2 B2 lo1 (by rw [X2]; exact hx) (by rw [X2]; exact hu) (by simp only [List.length_nil]; omega)
  rw [List.nil_append] at B3
  obtain ⟨h4, e4, A4⟩ := hq.st h1.next h3 h1.next r B3 (by omega)
  have A4' : Ab lo h3 h4 := ⟨A4.next, A4.ex, fun d hd => A4.get d (by omega)⟩
  unfold pattern_reader_quoted
  rw [show (.int .u8 34 : AV) = .int .u8 (((34 : UInt8).toNat : Nat) : Int) from rfl, e1, callK_ret, lett_eq, lett_eq]
  refine ⟨h4, ?_, R3.keep hbn A4, ((W1.2.1.trans A2').trans A3).trans A4', fun d hd hd2 => (A4.get d (by rw [W1.2.2.2]; exact hd2)).trans ((K3 d hd (by rw [W1.2.2.2]; exact hd2)).trans ((A2.get d (by rw [W1.2.2.2]; exact hd2)).trans (W1.2.2.1 d hd)))⟩
  refine Eq.trans e3 ?_
  rw [e4, callN_ret, avStr_str, obind_val]
end
end Go.Proofs.Ytijhmmimffgjiaa
