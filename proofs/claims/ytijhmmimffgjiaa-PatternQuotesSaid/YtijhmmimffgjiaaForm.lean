/- What the reader's form comes to where the form of a byte stands. -/
import Derived.Test.YtijhmmimffgjiaaReader
namespace Go.Proofs.Ytijhmmimffgjiaa
open Go.RowKit Abs

section
variable {call : CallF} {n lo : Nat} {h : AHeap} {b at_ : Nat} {s : Bytes}
/-- the reader has gone on, and nothing else has turned -/
def Went (lo : Nat) (h : AHeap) (b : Nat) (s : Bytes) (to : Nat) (h' : AHeap) : Prop := Rdr lo h' b s to ∧ Ab lo h h' ∧ (∀ d, d ≠ b → h'.get d = h.get d) ∧ h'.next = h.next
theorem Went.trans {to to' : Nat} {h1 h2 : AHeap} (a : Went lo h b s to h1) (c : Went lo h1 b s to' h2) : Went lo h b s to' h2 :=
  ⟨c.1, a.2.1.trans c.2.1, fun d hd => (c.2.2.1 d hd).trans (a.2.2.1 d hd), c.2.2.2.trans a.2.2.2⟩
def NX (call : CallF) : Prop := ∀ lo h b s at_ c, Rdr lo h b s at_ → s[at_]? = some c → s.length ≤ 1000000000 → ∃ h', call 71 [.ptr b 0] h = some (.ret (.int .u8 (c.toNat : Int)), h') ∧ Went lo h b s (at_ + 1) h'
def PL (call : CallF) : Prop := ∀ h i, call 51 [.int .u8 i] h = some (.ret (.bool (plainI i)), h)
def TD (call : CallF) : Prop := ∀ lo h b s at_ (c : UInt8), Rdr lo h b s at_ → s[at_]? = some (digU (c.toNat / 16)) → s[at_ + 1]? = some (digU (c.toNat % 16)) → shortU c = 0 → plainI (c.toNat : Int) = false → s.length ≤ 1000000000 → ∃ h', call 73 [.ptr b 0] h = some (.ret (.int .u8 (c.toNat : Int)), h') ∧ Went lo h b s (at_ + 2) h'
theorem short_cases (c : UInt8) (h0 : shortU c ≠ 0) : c = 34 ∨ c = 92 ∨ c = 10 ∨ c = 13 ∨ c = 9 := by
  unfold shortU at h0
  by_cases h1 : c = 34
  · exact .inl h1
  by_cases h2 : c = 92
  · exact .inr (.inl h2)
  by_cases h3 : c = 10
  · exact .inr (.inr (.inl h3))
  by_cases h4 : c = 13
  · exact .inr (.inr (.inr (.inl h4)))
  by_cases h5 : c = 9
  · exact .inr (.inr (.inr (.inr h5)))
  rw [if_neg h1, if_neg h2, if_neg h3, if_neg h4, if_neg h5] at h0
  exact absurd rfl h0
theorem bne_t {i j : Int} (h : i ≠ j) : (i != j) = true := by simp [h]
theorem bne_f {i j : Int} (h : i = j) : (i != j) = false := by simp [h]
theorem form_F (hn : NX call) (hp : PL call) (ht : TD call) (hR : Rdr lo h b s at_) (c : UInt8) (hf : ∀ j, j < (formU c).length → s[at_ + j]? = (formU c)[j]?) (hs : s.length ≤ 1000000000) :
    ∃ h', pattern_reader_form call n (.ptr b 0) h = some (.ret (.int .u8 (c.toNat : Int)), h') ∧ Went lo h b s (at_ + (formU c).length) h' := by
  by_cases h0 : shortU c = 0
  · cases hpl : plainI (c.toNat : Int)
    · have hfm : formU c = [92, 120, digU (c.toNat / 16), digU (c.toNat % 16)] := by
        unfold formU
        rw [if_pos h0, hpl, if_neg (by decide)]
      rw [hfm] at hf ⊢
      have g0 : s[at_]? = some 92 := hf 0 (by simp)
      have g1 : s[at_ + 1]? = some 120 := hf 1 (by simp)
      have g2 : s[at_ + 1 + 1]? = some (digU (c.toNat / 16)) := hf 2 (by simp)
      have g3 : s[at_ + 1 + 1 + 1]? = some (digU (c.toNat % 16)) := hf 3 (by simp)
      obtain ⟨h1, e1, W1⟩ := hn lo h b s at_ 92 hR g0 hs
      obtain ⟨h2, e2, W2⟩ := hn lo h1 b s _ 120 W1.1 g1 hs
      obtain ⟨h3, e3, W3⟩ := ht lo h2 b s _ c W2.1 g2 g3 h0 hpl hs
      unfold pattern_reader_form
      rw [e1, callK_ret, avInt_int, obind_val, lett_eq, bne_f (show (((92 : UInt8).toNat : Nat) : Int) = 92 from rfl), ifB_false, e2, callK_ret, avInt_int, obind_val]
      refine ⟨h3, ?_, (W1.trans W2).trans W3⟩
      show callK (call 73 [.ptr b 0] h2) (fun r30 h_46 => obind (avInt .u8 r30) fun t30 => some (.ret (.int .u8 t30), h_46)) = _
      rw [e3, callK_ret, avInt_int, obind_val]
    · have hfm : formU c = [c] := by
        unfold formU
        rw [if_pos h0, hpl, if_pos rfl]
      rw [hfm] at hf ⊢
      have g0 : s[at_]? = some c := hf 0 (by simp)
      obtain ⟨h1, e1, W1⟩ := hn lo h b s at_ c hR g0 hs
      have hne : (c.toNat : Int) ≠ 92 := fun he => by
        have : c = 92 := UInt8.toNat_inj.1 (Int.ofNat.inj he)
        subst this
        exact absurd h0 (by decide)
      unfold pattern_reader_form
      rw [e1, callK_ret, avInt_int, obind_val, lett_eq, bne_t hne, ifB_true, hp, callN_ret, avBool_bool, obind_val, lett_eq, hpl, show (!true) = false from rfl, lett_eq, ifB_false]
      exact ⟨h1, rfl, W1⟩
  · have hfm : formU c = [92, shortU c] := by
      unfold formU
      rw [if_neg h0]
    rw [hfm] at hf ⊢
    have g0 : s[at_]? = some 92 := hf 0 (by simp)
    have g1 : s[at_ + 1]? = some (shortU c) := hf 1 (by simp)
    obtain ⟨h1, e1, W1⟩ := hn lo h b s at_ 92 hR g0 hs
    obtain ⟨h2, e2, W2⟩ := hn lo h1 b s _ (shortU c) W1.1 g1 hs
    unfold pattern_reader_form
    rw [e1, callK_ret, avInt_int, obind_val, lett_eq, bne_f (show (((92 : UInt8).toNat : Nat) : Int) = 92 from rfl), ifB_false, e2, callK_ret, avInt_int, obind_val]
    refine ⟨h2, ?_, W1.trans W2⟩
    rcases short_cases c h0 with rfl | rfl | rfl | rfl | rfl <;> rfl
end
end Go.Proofs.Ytijhmmimffgjiaa
