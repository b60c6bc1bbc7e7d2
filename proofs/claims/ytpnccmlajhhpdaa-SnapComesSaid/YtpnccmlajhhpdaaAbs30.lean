/- Rows of bytes that grow. -/
import Derived.Test.YtpnccmlajhhpdaaAbs29
namespace Go.Proofs.Ytpnccmlajhhpdaa.Abs
noncomputable section
open Go.RowKit

/-- a row of bytes of the call's own -/
def RowB (U8 lo : Nat) (h : AHeap) (v : AV) (l : Bytes) : Prop :=
  ∃ c, v = .sl c 0 l.length 1 ∧ l ≠ [] ∧ lo ≤ c ∧ c < h.next ∧ rowGet h c 0 l.length = some (bytesC l) ∧ rowType h c = some U8
section
variable {P : Program} {h : AHeap} {U8 lo : Nat} {l : Bytes} {t u : TypeId} {x v : AV}
theorem rowB_new {l2 : Bytes} {n : Nat} (hlo : lo ≤ h.next) (he : elemOf P t = some U8) (hu : notInt P u = true) (hsz : P.cellsOf U8 = 1) (hfit : fitB P U8 1 = true) (hex : memB U8 h.ex = false) (hl2 : l2.length = n + 1) (hx : lenA x = some (n + 1)) (hf : firstA h 1 (n + 1) x = some (bytesC l2)) (hbig : n + 1 ≤ 1000000000) :
    ∃ v' h', opAppend P h t u .nsl x = some (.val v', h') ∧ RowB U8 lo h' v' l2 ∧ Ab lo h h' := by
  have e2 := append_new (P := P) (h := h) (t := t) (u := u) he hu hsz hx hf (bytesFit_of hfit (by omega) (by omega)) (bytesC_one l2) hex
  refine ⟨_, _, e2, ⟨h.next, by rw [hl2], (by intro hh; rw [hh] at hl2; cases hl2), hlo, Nat.lt_succ_self _, ?_, ?_⟩, (Ab.refl lo h).new hlo _⟩
  · rw [← bytesC_length l2]
    exact rowGet_newH_all
  · exact rowType_newH
theorem rowB_append {l2 : Bytes} {n : Nat} (hB : RowB U8 lo h v l) (he : elemOf P t = some U8) (hu : notInt P u = true) (hsz : P.cellsOf U8 = 1) (hfit : fitB P U8 1 = true) (hex : memB U8 h.ex = false) (hl2 : l2.length = n + 1) (hx : lenA x = some (n + 1)) (hf : firstA h 1 (n + 1) x = some (bytesC l2)) (hbig : l.length + (n + 1) ≤ 1000000000) :
    ∃ v' h', opAppend P h t u v x = some (.val v', h') ∧ RowB U8 lo h' v' (l ++ l2) ∧ Ab lo h h' := by
  obtain ⟨c, rfl, hc0, hc1, hc3, hc4, hc5⟩ := hB
  have e2 := append_more (P := P) (h := h) (t := t) (u := u) (b := c) (o := 0) (m := l.length) he hu hsz hx hf (bytesFit_of hfit (by omega) (by omega)) (bytesC_one l2) hex (by rw [Nat.mul_one]; exact hc4) hc5
  refine ⟨_, _, e2, ⟨h.next, by rw [List.length_append, hl2], fun hh => hc0 (List.append_eq_nil_iff.1 hh).1, by omega, Nat.lt_succ_self _, ?_, ?_⟩, ((Ab.refl lo h).put hc1 _).new (show lo ≤ h.next by omega) _⟩
  · rw [← bytesC_append, ← bytesC_length (l ++ l2)]
    exact rowGet_newH_all (h := h.put c .dead)
  · exact rowType_newH (h := h.put c .dead)
theorem rowB_newH {e : TypeId} {cs : List AV} (hB : RowB U8 lo h v l) : RowB U8 lo (newH h e cs) v l := by
  obtain ⟨c, rfl, hc0, hc1, hc3, hc4, hc5⟩ := hB
  exact ⟨c, rfl, hc0, hc1, Nat.lt_succ_of_lt hc3, by rw [rowGet_newH_other hc3]; exact hc4, by rw [rowType_newH_other hc3]; exact hc5⟩
theorem rowB_lo (hB : RowB U8 lo h v l) : lo ≤ h.next := by
  obtain ⟨c, _, _, hc1, hc3, _, _⟩ := hB
  omega
def isStr (P : Program) (d : TypeId) : Bool := match P.underlying d with
  | some .string => true
  | _ => false
def isBytes (P : Program) (s : TypeId) : Bool := match P.underlying s with
  | some (.slice e) => match P.underlying e with
    | some (.int .u8) => true
    | _ => false
  | _ => false
theorem conv_bytes {s d : TypeId} (hs : isBytes P s = true) (hd : isStr P d = true) (hB : RowB U8 lo h v l) : opConv P h s d (some v) = some (.val (strA l), h) := by
  obtain ⟨c, rfl, hc0, hc1, hc3, hc4, hc5⟩ := hB
  obtain ⟨w, h1, h2⟩ := bytesA_bytesC l
  unfold isStr at hd
  unfold isBytes at hs
  cases h3 : P.underlying d with
  | none => simp only [h3] at hd; cases hd
  | some ud =>
    cases ud <;> simp only [h3, reduceCtorEq] at hd
    cases h4 : P.underlying s with
    | none => simp only [h4] at hs; cases hs
    | some us =>
      cases us <;> simp only [h4, reduceCtorEq] at hs
      rename_i e
      cases h5 : P.underlying e with
      | none => simp only [h5] at hs; cases hs
      | some ue =>
        cases ue <;> simp only [h5, reduceCtorEq] at hs
        rename_i k
        cases k <;> simp only [reduceCtorEq] at hs
        simp only [opConv, convBytes, h3, h4, h5, hc4, h1, if_true, h2]
end
end
end Go.Proofs.Ytpnccmlajhhpdaa.Abs
