/- Rows of bytes that grow, from a row without bytes on. -/
import Derived.Test.YtpnccmlajhhpdaaAbs35
namespace Go.Proofs.Ytpnccmlajhhpdaa.Abs
noncomputable section
open Go.RowKit

/-- a row of bytes of one's own, which may have room -/
def Buf (U8 lo : Nat) (h : AHeap) (v : AV) (l : Bytes) : Prop :=
  ∃ c, v = .sl c 0 l.length 1 ∧ lo ≤ c ∧ c < h.next ∧ rowGet h c 0 l.length = some (bytesC l) ∧ rowType h c = some U8
section
variable {P : Program} {h h' : AHeap} {U8 lo : Nat} {l : Bytes} {t u : TypeId} {x v : AV} {S : List Nat}
theorem Tch.ab {base h h' : AHeap} (k : Tch S base h) (j : Ab base.next h h') : Tch S base h' := ⟨Nat.le_trans k.1 j.next, j.ex.trans k.2.1, fun b hb hs => (j.get b hb).trans (k.2.2 b hb hs)⟩
theorem append_zero {b o m n e sz : Nat} (he : elemOf P t = some e) (hu : notInt P u = true) (hsz : P.cellsOf e = sz) (hn : n = 0) (hx : lenA x = some n) (hf : firstA h sz n x = some []) (hfit : bytesFit P e (m + n) = true) (hex : memB e h.ex = false) :
    opAppend P h t u (.sl b o m sz) x = some (.val (.sl b o m sz), h) := by
  subst hn
  unfold notInt at hu
  unfold opAppend
  have hl : lenA (.sl b o m sz) = some m := rfl
  split at hu
  · cases hu
  · rename_i ud hni heq
    simp only [he, hl, hx, heq, hsz, hf, hfit, hex, List.all_nil, and_self, if_true]
    rfl
  · cases hu
theorem Buf.new {m : Nat} (hlo : lo ≤ h.next) : Buf U8 lo (newH h U8 (bytesC (List.replicate m 0))) (.sl h.next 0 0 1) [] :=
  ⟨h.next, rfl, hlo, Nat.lt_succ_self _, by
    rw [rowGet_newH (by simp)]
    simp [bytesC], rowType_newH⟩
theorem Buf.append (hB : Buf U8 lo h v l) (s : Bytes) (he : elemOf P t = some U8) (hu : notInt P u = true) (hsz : P.cellsOf U8 = 1) (hfit : fitB P U8 1 = true) (hex : memB U8 h.ex = false) (hbig : l.length + s.length ≤ 1000000000) :
    ∃ v' h', opAppend P h t u v (strA s) = some (.val v', h') ∧ Buf U8 lo h' v' (l ++ s) ∧ Ab lo h h' := by
  obtain ⟨c, rfl, hc1, hc3, hc4, hc5⟩ := hB
  cases s with
  | nil =>
    refine ⟨_, h, append_zero (n := 0) he hu hsz rfl rfl (by
      have := firstA_str (h := h) []
      exact this) (bytesFit_of hfit (by simpa using hbig) (by simpa using hbig)) hex, ?_, Ab.refl _ _⟩
    rw [List.append_nil]
    exact ⟨c, rfl, hc1, hc3, hc4, hc5⟩
  | cons y s =>
    have e2 := append_more (P := P) (h := h) (t := t) (u := u) (b := c) (o := 0) (m := l.length) (x := strA (y :: s)) (n := s.length) he hu hsz rfl (firstA_str (h := h) (y :: s)) (bytesFit_of hfit (by simp at hbig; omega) (by simp at hbig; omega)) (bytesC_one _) hex (by rw [Nat.mul_one]; exact hc4) hc5
    refine ⟨_, _, e2, ⟨h.next, by rw [List.length_append, List.length_cons], by omega, Nat.lt_succ_self _, ?_, ?_⟩, ((Ab.refl lo h).put hc1 _).new (show lo ≤ h.next by omega) _⟩
    · rw [← bytesC_append, ← bytesC_length (l ++ y :: s)]
      exact rowGet_newH_all (h := h.put c .dead)
    · exact rowType_newH (h := h.put c .dead)
theorem Buf.conv {s d : TypeId} (hB : Buf U8 lo h v l) (hs : isBytes P s = true) (hd : isStr P d = true) : opConv P h s d (some v) = some (.val (strA l), h) := by
  obtain ⟨c, rfl, _, _, hr, _⟩ := hB
  exact conv_row hs hd hr
end
/-! ### texts one behind the other -/
def pre (ss : List Bytes) (i : Nat) : Bytes := (ss.take i).flatten
theorem pre_zero (ss : List Bytes) : pre ss 0 = [] := rfl
theorem pre_succ {ss : List Bytes} {i : Nat} (h : i < ss.length) : pre ss (i + 1) = pre ss i ++ ss[i] := by
  unfold pre
  rw [List.take_succ_eq_append_getElem h, List.flatten_append, List.flatten_cons, List.flatten_nil, List.append_nil]
theorem pre_all (ss : List Bytes) : pre ss ss.length = ss.flatten := by unfold pre; rw [List.take_length]
theorem pre_le (ss : List Bytes) (i : Nat) : (pre ss i).length ≤ ss.flatten.length := by
  have : ss.flatten = pre ss i ++ (ss.drop i).flatten := by
    unfold pre
    rw [← List.flatten_append, List.take_append_drop]
  rw [this, List.length_append]
  omega
end
end Go.Proofs.Ytpnccmlajhhpdaa.Abs
