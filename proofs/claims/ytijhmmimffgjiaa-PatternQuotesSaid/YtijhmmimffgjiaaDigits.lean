/- What the reader's twoDigits comes to where the digits of a byte stand. -/
import Derived.Test.YtijhmmimffgjiaaUnquote
namespace Go.Proofs.Ytijhmmimffgjiaa
open Go.RowKit Abs

theorem or_all : ∀ a b : Fin 16, orI .u8 ((16 * a.val : Nat) : Int) (b.val : Int) = ((16 * a.val + b.val : Nat) : Int) := by decide +kernel
theorem shl_all : ∀ a : Fin 16, shlI .u8 (a.val : Int) 4 = some ((16 * a.val : Nat) : Int) := by decide +kernel
def byDB (i : Int) : Bool := (shortI i == 0) && !plainI i
section
variable {call : CallF} {n lo : Nat} {h : AHeap} {b at_ : Nat} {s : Bytes}
def SH (call : CallF) : Prop := ∀ h i, call 50 [.int .u8 i] h = some (.ret (.int .u8 (shortI i)), h)
theorem byDigits_F (hs : SH call) (hp : PL call) (i : Int) : pattern_byDigits call n i h = some (.ret (.bool (byDB i)), h) := by
  unfold pattern_byDigits byDB
  rw [hs, callN_ret, avInt_int, obind_val, lett_eq, lett_eq]
  cases hq : (shortI i == 0)
  · rw [ifB_false, Bool.false_and]
  · rw [ifB_true, hp, callN_ret, avBool_bool, obind_val, lett_eq, Bool.true_and]
def BD (call : CallF) : Prop := ∀ h i, call 83 [.int .u8 i] h = some (.ret (.bool (byDB i)), h)
theorem mayBegin_loop (hb : BD call) (k5 : AHeap → R) (a e : Nat) (ha : a < 16) (he : e < 16) (hc : byDB ((16 * a + e : Nat) : Int) = true) : ∀ m i : Nat, i ≤ e → e - i < m → pattern_mayBegin_L0 call ((16 * a : Nat) : Int) k5 m (i : Int) h = some (.ret (.bool true), h)
  | 0, i, _, hm => absurd hm (by omega)
  | m + 1, i, hi, hm => by
    rw [pattern_mayBegin_L0_s]
    unfold pattern_mayBegin_L0b
    have ho : orI .u8 ((16 * a : Nat) : Int) (i : Int) = ((16 * a + i : Nat) : Int) := or_all ⟨a, ha⟩ ⟨i, by omega⟩
    rw [lett_eq, lt_true (show (i : Int) < 16 by omega), ifB_true, lett_eq, wrap_u8 (by omega) (by omega), lett_eq, ho, hb, callN_ret, avBool_bool, obind_val]
    cases hq : byDB ((16 * a + i : Nat) : Int)
    · have hne : i ≠ e := fun hh => by rw [hh, hc] at hq; cases hq
      rw [ifB_false, lett_eq, wrap_succ (by omega)]
      exact mayBegin_loop hb k5 a e ha he hc m (i + 1) (by omega) (by omega)
    · rw [ifB_true]
theorem mayBegin_F (hb : BD call) (a e : Nat) (ha : a < 16) (he : e < 16) (hc : byDB ((16 * a + e : Nat) : Int) = true) (hn : 16 < n) : pattern_mayBegin call n ((16 * a : Nat) : Int) h = some (.ret (.bool true), h) := by
  unfold pattern_mayBegin
  rw [lett_eq]
  exact mayBegin_loop hb _ a e ha he hc n 0 (Nat.zero_le _) (by omega)
def IB (call : CallF) : Prop := ∀ h k, k < 16 → call 87 [strA digitsB, .int .u8 ((digU k).toNat : Int)] h = some (.ret (.int .i64 (k : Int)), h)
theorem digit_F (hn : NX call) (hi : IB call) (hR : Rdr lo h b s at_) (k : Nat) (hk : k < 16) (hx : s[at_]? = some (digU k)) (hs : s.length ≤ 1000000000) :
    ∃ h', pattern_reader_digit call n (.ptr b 0) h = some (.ret (.int .u8 (k : Int)), h') ∧ Went lo h b s (at_ + 1) h' := by
  obtain ⟨h1, e1, W1⟩ := hn lo h b s at_ _ hR hx hs
  unfold pattern_reader_digit
  rw [show ([48, 49, 50, 51, 52, 53, 54, 55, 56, 57, 97, 98, 99, 100, 101, 102] : Bytes) = digitsB from rfl, e1, callK_ret, avInt_int, obind_val, hi _ _ hk, callN_ret, avInt_int, obind_val, lett_eq, lt_false (show (0 : Int) ≤ (k : Int) by omega), lett_eq, ifB_false]
  dsimp only
  rw [lett_eq, wrap_u8 (by omega) (by omega)]
  exact ⟨h1, rfl, W1⟩
def DG (call : CallF) : Prop := ∀ lo h b s at_ k, Rdr lo h b s at_ → k < 16 → s[at_]? = some (digU k) → s.length ≤ 1000000000 → ∃ h', call 81 [.ptr b 0] h = some (.ret (.int .u8 (k : Int)), h') ∧ Went lo h b s (at_ + 1) h'
def MB (call : CallF) : Prop := ∀ h a e, a < 16 → e < 16 → byDB ((16 * a + e : Nat) : Int) = true → call 82 [.int .u8 ((16 * a : Nat) : Int)] h = some (.ret (.bool true), h)
theorem twoDigits_F (hd : DG call) (hm : MB call) (hb : BD call) (hR : Rdr lo h b s at_) (c : UInt8) (g0 : s[at_]? = some (digU (c.toNat / 16))) (g1 : s[at_ + 1]? = some (digU (c.toNat % 16))) (h0 : shortU c = 0) (hpl : plainI (c.toNat : Int) = false) (hs : s.length ≤ 1000000000) :
    ∃ h', pattern_reader_twoDigits call n (.ptr b 0) h = some (.ret (.int .u8 (c.toNat : Int)), h') ∧ Went lo h b s (at_ + 2) h' := by
  have hlt := c.toNat_lt
  have ha : c.toNat / 16 < 16 := by omega
  have he : c.toNat % 16 < 16 := by omega
  have hsum : 16 * (c.toNat / 16) + c.toNat % 16 = c.toNat := by omega
  have hc : byDB (c.toNat : Int) = true := by
    unfold byDB
    rw [short_of, h0, hpl]
    rfl
  obtain ⟨h1, e1, W1⟩ := hd lo h b s at_ _ hR ha g0 hs
  obtain ⟨h2, e2, W2⟩ := hd lo h1 b s _ _ W1.1 he g1 hs
  have q1 : shlI .u8 ((c.toNat / 16 : Nat) : Int) 4 = some ((16 * (c.toNat / 16) : Nat) : Int) := shl_all ⟨_, ha⟩
  have q2 : orI .u8 ((16 * (c.toNat / 16) : Nat) : Int) ((c.toNat % 16 : Nat) : Int) = (c.toNat : Int) := by
    have := or_all ⟨_, ha⟩ ⟨_, he⟩
    rw [hsum] at this
    exact this
  unfold pattern_reader_twoDigits
  rw [e1, callK_ret, avInt_int, obind_val, q1, obind_val, hm h1 _ _ ha he (by rw [hsum]; exact hc), callN_ret, avBool_bool, obind_val, lett_eq, lett_eq, show (!true) = false from rfl, ifB_false]
  dsimp only
  rw [e2, callK_ret, avInt_int, obind_val, lett_eq, q2, hb, callN_ret, avBool_bool, obind_val, lett_eq, lett_eq, hc, show (!true) = false from rfl, ifB_false]
  exact ⟨h2, rfl, W1.trans W2⟩
end
end Go.Proofs.Ytijhmmimffgjiaa
