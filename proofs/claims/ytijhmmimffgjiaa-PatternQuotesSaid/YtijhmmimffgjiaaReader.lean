/- What the methods of package pattern's reader come to. -/
import Derived.Test.YtijhmmimffgjiaaQuoteRef
import Derived.Test.YtijhmmimffgjiaaGu
namespace Go.Proofs.Ytijhmmimffgjiaa
open Go.RowKit Abs

/-- a reader's block: its text, and where it is -/
def Rdr (lo : Nat) (h : AHeap) (b : Nat) (s : Bytes) (at_ : Nat) : Prop :=
  ∃ t, h.get b = some (.row 2 t 70) ∧ t.get 0 = some (strA s) ∧ t.get 1 = some (.int .i64 (at_ : Int)) ∧ lo ≤ b ∧ b < h.next
theorem Rdr.keep {lo lo' : Nat} {h h' : AHeap} {b at_ : Nat} {s : Bytes} (hR : Rdr lo h b s at_) (hb : b < lo') (A : Ab lo' h h') : Rdr lo h' b s at_ := by
  obtain ⟨t, h1, h2, h3, h4, h5⟩ := hR
  exact ⟨t, (A.get b hb).trans h1, h2, h3, h4, Nat.lt_of_lt_of_le h5 A.next⟩
section
variable {call : CallF} {n lo : Nat} {h : AHeap} {b at_ : Nat} {s : Bytes}
theorem Rdr.cell0 (hR : Rdr lo h b s at_) : ldCell h (.ptr b (0 + 0)) = some (strA s) := by
  obtain ⟨t, h1, h2, h3, h4, h5⟩ := hR
  rw [ldCell_row h1]; exact h2
theorem Rdr.cell1 (hR : Rdr lo h b s at_) : ldCell h (.ptr b (0 + 1)) = some (.int .i64 (at_ : Int)) := by
  obtain ⟨t, h1, h2, h3, h4, h5⟩ := hR
  rw [ldCell_row h1]; exact h3
theorem Rdr.step (hR : Rdr lo h b s at_) (k : Nat) : ∃ h', stRow h 1 [.int .i64 (k : Int)] (.ptr b (0 + 1)) = some h' ∧ Rdr lo h' b s k ∧ Ab lo h h' ∧ (∀ c, c ≠ b → h'.get c = h.get c) ∧ h'.next = h.next := by
  obtain ⟨t, h1, h2, h3, h4, h5⟩ := hR
  refine ⟨_, stRow_one h1 (by decide) rfl, ⟨_, get_put_same _ _, (T.get_set_other _ _ (by decide)).trans h2, T.get_set_same _ _ _, h4, h5⟩, (Ab.refl lo h).put h4 _, fun c hc => get_put_other _ (Ne.symm hc), rfl⟩
theorem ended_F (hR : Rdr lo h b s at_) : pattern_reader_ended call n (.ptr b 0) h = some (.ret (.bool ((at_ : Int) == lenS s)), h) := by
  have n1 : nilC (.ptr b 0) = some (.ptr b 0) := rfl
  have f0 : fldP 0 (.ptr b 0) = some (.ptr b (0 + 0)) := rfl
  have f1 : fldP 1 (.ptr b 0) = some (.ptr b (0 + 1)) := rfl
  unfold pattern_reader_ended
  rw [n1, obind_val, f1, obind_val, hR.cell1, obind_val, avInt_int, obind_val, obind_val, f0, obind_val, hR.cell0, obind_val, avStr_str, obind_val, lett_eq]
/-- what the calls of `ended` come to -/
def EN (call : CallF) : Prop := ∀ lo h b s at_, Rdr lo h b s at_ → call 74 [.ptr b 0] h = some (.ret (.bool ((at_ : Int) == lenS s)), h)
/-- whether a byte stands at a place -/
def seesB (s : Bytes) (at_ : Nat) (c : UInt8) : Bool := s[at_]? == some c
theorem sees_F (hc : EN call) (hR : Rdr lo h b s at_) (hat : at_ ≤ s.length) (c : UInt8) : pattern_reader_sees call n (.ptr b 0) (c.toNat : Int) h = some (.ret (.bool (seesB s at_ c)), h) := by
  have n1 : nilC (.ptr b 0) = some (.ptr b 0) := rfl
  have f0 : fldP 0 (.ptr b 0) = some (.ptr b (0 + 0)) := rfl
  have f1 : fldP 1 (.ptr b 0) = some (.ptr b (0 + 1)) := rfl
  unfold pattern_reader_sees seesB
  rw [lett_eq, hc lo h b s at_ hR, callN_ret, avBool_bool, obind_val, lett_eq]
  rcases Nat.lt_or_ge at_ s.length with hlt | hge
  · rw [ieq_f (show (at_ : Int) ≠ lenS s by rw [lenS_nat]; omega), show (!false) = true from rfl, ifB_true, n1, obind_val, f0, obind_val, hR.cell0, obind_val, avStr_str, obind_val, obind_val, f1, obind_val, hR.cell1, obind_val, avInt_int, obind_val, idxS_nat hlt, obind_val, lett_eq, List.getElem?_eq_getElem hlt]
    by_cases hq : s[at_] = c
    · rw [hq, ieq_t rfl, show ((some c : Option UInt8) == some c) = true from by simp]
    · have hne : (s[at_].toNat : Int) ≠ (c.toNat : Int) := fun he => hq (UInt8.toNat_inj.1 (Int.ofNat.inj he))
      rw [ieq_f hne, show ((some s[at_] : Option UInt8) == some c) = false from by simp [hq]]
  · rw [ieq_t (show (at_ : Int) = lenS s by rw [lenS_nat]; omega), show (!true) = false from rfl, ifB_false, List.getElem?_eq_none hge]
    rfl
def SE (call : CallF) : Prop := ∀ lo h b s at_ (c : UInt8), Rdr lo h b s at_ → at_ ≤ s.length → call 68 [.ptr b 0, .int .u8 (c.toNat : Int)] h = some (.ret (.bool (seesB s at_ c)), h)
theorem skips_F (hc : SE call) (hR : Rdr lo h b s at_) (hat : at_ ≤ s.length) (hs : s.length ≤ 1000000000) (c : UInt8) :
    ∃ h', pattern_reader_skips call n (.ptr b 0) (c.toNat : Int) h = some (.ret (.bool (seesB s at_ c)), h') ∧ Rdr lo h' b s (if seesB s at_ c = true then at_ + 1 else at_) ∧ Ab lo h h' ∧ (∀ d, d ≠ b → h'.get d = h.get d) ∧ h'.next = h.next := by
  have n1 : nilC (.ptr b 0) = some (.ptr b 0) := rfl
  have f1 : fldP 1 (.ptr b 0) = some (.ptr b (0 + 1)) := rfl
  unfold pattern_reader_skips
  rw [hc lo h b s at_ c hR hat, callN_ret, avBool_bool, obind_val, lett_eq]
  cases hq : seesB s at_ c
  · rw [show (!false) = true from rfl, ifB_true, if_neg (by decide)]
    exact ⟨h, rfl, hR, Ab.refl _ h, fun _ _ => rfl, rfl⟩
  · obtain ⟨h', e1, R1, A1, K1, N1⟩ := hR.step (at_ + 1)
    rw [show (!true) = false from rfl, ifB_false, n1, obind_val, f1, obind_val, hR.cell1, obind_val, avInt_int, obind_val, lett_eq, wrap_succ (by omega), obind_val, f1, obind_val, e1, obind_val, if_pos rfl]
    exact ⟨h', rfl, R1, A1, K1, N1⟩
/-- the panic of what is wrong -/
def wrongV (e at_ : Int) : AV := .ifc 91 (.agg [.int .i64 e, .int .i64 at_])
theorem refuse_F (e i : Int) : pattern_refuse call n e i h = some (.panic (wrongV e i), h) := by
  have e1 : bldS Try.prog 91 [(0, .agg ([.int .i64 e, .int .i64 i] : List AV))] = some [.int .i64 e, .int .i64 i] := by kernel_rfl
  unfold pattern_refuse
  rw [e1, obind_val]
  rfl
def RF (call : CallF) : Prop := ∀ h e i, call 57 [.int .i64 e, .int .i64 i] h = some (.panic (wrongV e i), h)
theorem next_F (hc : EN call) (hR : Rdr lo h b s at_) (hlt : at_ < s.length) (hs : s.length ≤ 1000000000) :
    ∃ h', pattern_reader_next call n (.ptr b 0) h = some (.ret (.int .u8 (s[at_].toNat : Int)), h') ∧ Rdr lo h' b s (at_ + 1) ∧ Ab lo h h' ∧ (∀ d, d ≠ b → h'.get d = h.get d) ∧ h'.next = h.next := by
  have n1 : nilC (.ptr b 0) = some (.ptr b 0) := rfl
  have f0 : fldP 0 (.ptr b 0) = some (.ptr b (0 + 0)) := rfl
  have f1 : fldP 1 (.ptr b 0) = some (.ptr b (0 + 1)) := rfl
  obtain ⟨h', e1, R1, A1, K1, N1⟩ := hR.step (at_ + 1)
  have w1 : IntKind.i64.wrap (((at_ + 1 : Nat) : Int) - 1) = (at_ : Int) := by rw [wrap_i64 (by omega) (by omega)]; omega
  unfold pattern_reader_next
  rw [hc lo h b s at_ hR, callN_ret, avBool_bool, obind_val, lett_eq, ieq_f (show (at_ : Int) ≠ lenS s by rw [lenS_nat]; omega), ifB_false]
  dsimp only
  rw [n1, obind_val, f1, obind_val, hR.cell1, obind_val, avInt_int, obind_val, lett_eq, wrap_succ (by omega), obind_val, f1, obind_val, e1, obind_val, obind_val, f0, obind_val, R1.cell0, obind_val, avStr_str, obind_val, obind_val, f1, obind_val, R1.cell1, obind_val, avInt_int, obind_val, lett_eq, w1, idxS_nat hlt, obind_val]
  exact ⟨h', rfl, R1, A1, K1, N1⟩
theorem next_end_F (hc : EN call) (hr : RF call) (hR : Rdr lo h b s s.length) : pattern_reader_next call n (.ptr b 0) h = some (.panic (wrongV 6 (s.length : Int)), h) := by
  have n1 : nilC (.ptr b 0) = some (.ptr b 0) := rfl
  have f1 : fldP 1 (.ptr b 0) = some (.ptr b (0 + 1)) := rfl
  unfold pattern_reader_next
  rw [hc lo h b s _ hR, callN_ret, avBool_bool, obind_val, lett_eq, ieq_t (show (s.length : Int) = lenS s from rfl), ifB_true, n1, obind_val, f1, obind_val, hR.cell1, obind_val, avInt_int, obind_val, hr, callK_panic]
def SK (call : CallF) : Prop := ∀ lo h b s at_ (c : UInt8), Rdr lo h b s at_ → at_ ≤ s.length → s.length ≤ 1000000000 → ∃ h', call 55 [.ptr b 0, .int .u8 (c.toNat : Int)] h = some (.ret (.bool (seesB s at_ c)), h') ∧ Rdr lo h' b s (if seesB s at_ c = true then at_ + 1 else at_) ∧ Ab lo h h' ∧ (∀ d, d ≠ b → h'.get d = h.get d) ∧ h'.next = h.next
theorem take_F (hc : SK call) (hR : Rdr lo h b s at_) (hat : at_ ≤ s.length) (hs : s.length ≤ 1000000000) (c : UInt8) (hq : seesB s at_ c = true) :
    ∃ h', pattern_reader_take call n (.ptr b 0) (c.toNat : Int) h = some (.ret (.tup []), h') ∧ Rdr lo h' b s (at_ + 1) ∧ Ab lo h h' ∧ (∀ d, d ≠ b → h'.get d = h.get d) ∧ h'.next = h.next := by
  obtain ⟨h', e1, R1, A1, K1, N1⟩ := hc lo h b s at_ c hR hat hs
  rw [if_pos hq] at R1
  unfold pattern_reader_take
  rw [e1, callN_ret, avBool_bool, obind_val, lett_eq, hq, show (!true) = false from rfl, lett_eq, ifB_false]
  exact ⟨h', rfl, R1, A1, K1, N1⟩
theorem take_no_F (hc : SK call) (hr : RF call) (hR : Rdr lo h b s at_) (hat : at_ ≤ s.length) (hs : s.length ≤ 1000000000) (c : UInt8) (hq : seesB s at_ c = false) :
    ∃ h', pattern_reader_take call n (.ptr b 0) (c.toNat : Int) h = some (.panic (wrongV 6 (at_ : Int)), h') ∧ Rdr lo h' b s at_ ∧ Ab lo h h' ∧ (∀ d, d ≠ b → h'.get d = h.get d) ∧ h'.next = h.next := by
  have n1 : nilC (.ptr b 0) = some (.ptr b 0) := rfl
  have f1 : fldP 1 (.ptr b 0) = some (.ptr b (0 + 1)) := rfl
  obtain ⟨h', e1, R1, A1, K1, N1⟩ := hc lo h b s at_ c hR hat hs
  rw [hq, if_neg (by decide)] at R1
  unfold pattern_reader_take
  rw [e1, callN_ret, avBool_bool, obind_val, lett_eq, hq, show (!false) = true from rfl, lett_eq, ifB_true, n1, obind_val, f1, obind_val, R1.cell1, obind_val, avInt_int, obind_val, hr, callK_panic]
  exact ⟨h', rfl, R1, A1, K1, N1⟩
end
end Go.Proofs.Ytijhmmimffgjiaa
