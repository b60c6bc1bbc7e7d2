/- Builders: what is written comes behind what was. -/
import Derived.Test.YtpnccmlajhhpdaaAbs28
namespace Go.Proofs.Ytpnccmlajhhpdaa.Abs
noncomputable section
open Go.RowKit

theorem strCells_enc : ∀ l : Bytes, strCells l.length (enc l) = bytesC l
  | [] => rfl
  | x :: l => by
    have hx := x.toNat_lt
    show AV.int .u8 (((enc (x :: l)) % 256 : Nat) : Int) :: strCells l.length (enc (x :: l) / 256) = _
    rw [show enc (x :: l) % 256 = x.toNat from by rw [enc_cons]; omega, show enc (x :: l) / 256 = enc l from by rw [enc_cons]; omega, strCells_enc l]
    rfl
section
variable {P : Program} {h : AHeap} {TB U8 lo b : Nat} {l : Bytes}
theorem firstA_str (l2 : Bytes) : firstA h 1 l2.length (strA l2) = some (bytesC l2) := by
  show (if Nat.ble l2.length l2.length = true ∧ 1 = 1 then some (strCells l2.length (enc l2)) else none) = _
  rw [if_pos ⟨Nat.ble_eq_true_of_le (Nat.le_refl _), rfl⟩, strCells_enc]
theorem Bld.lo_next (hB : Bld TB U8 lo h b l) : lo ≤ h.next := by
  obtain ⟨tr, a, buf, hb, ha0, ha1, ha, hlo, hlt, hbuf⟩ := hB
  omega
theorem rowGet_newH_other {e : TypeId} {cs : List AV} {c o n : Nat} (hc : c < h.next) : rowGet (newH h e cs) c o n = rowGet h c o n := by
  unfold rowGet newH
  rw [get_new_other _ (by omega)]
theorem rowType_newH_other {e : TypeId} {cs : List AV} {c : Nat} (hc : c < h.next) : rowType (newH h e cs) c = rowType h c := by
  unfold rowType newH
  rw [get_new_other _ (by omega)]
theorem bld_newH {e : TypeId} {cs : List AV} (hB : Bld TB U8 lo h b l) : Bld TB U8 lo (newH h e cs) b l := by
  obtain ⟨tr, a, buf, hb, ha0, ha1, ha, hlo, hlt, hbuf⟩ := hB
  refine ⟨tr, a, buf, (get_new_other _ (by omega)).trans hb, ha0, ha1, ha, hlo, Nat.lt_succ_of_lt hlt, ?_⟩
  rcases hbuf with hbuf | ⟨c, k1, k0, k2, k3, k4, k5, k6⟩
  · exact .inl hbuf
  · exact .inr ⟨c, k1, k0, k2, k3, Nat.lt_succ_of_lt k4, by rw [rowGet_newH_other k4]; exact k5, by rw [rowType_newH_other k4]; exact k6⟩
theorem firstA_newH {e : TypeId} {l : List AV} : firstA (newH h e l) 1 l.length (.sl h.next 0 l.length 1) = some l := by
  show (if 1 = 1 ∧ l.length ≤ l.length then rowGet (newH h e l) h.next 0 (l.length * 1) else none) = _
  rw [if_pos ⟨rfl, Nat.le_refl _⟩, Nat.mul_one]
  exact rowGet_newH_all
theorem bld_append {t u : TypeId} {x : AV} {l2 : Bytes} {n : Nat} (hB : Bld TB U8 lo h b l) (he : elemOf P t = some U8) (hu : notInt P u = true) (hsz : P.cellsOf U8 = 1) (hfit : fitB P U8 1 = true) (hex : memB U8 h.ex = false) (hl2 : l2.length = n + 1) (hx : lenA x = some (n + 1)) (hf : firstA h 1 (n + 1) x = some (bytesC l2)) (hbig : l.length + (n + 1) ≤ 1000000000) :
    ∃ buf buf' h1 h2, ldCell h (.ptr b (0 + 1)) = some buf ∧ opAppend P h t u buf x = some (.val buf', h1) ∧ stRow h1 1 (AV.cells buf') (.ptr b (0 + 1)) = some h2 ∧ Bld TB U8 lo h2 b (l ++ l2) ∧ Ab lo h h2 := by
  obtain ⟨tr, a, buf, hb, ha0, ha1, ha, hlo, hlt, hbuf⟩ := hB
  have e1 : ldCell h (.ptr b (0 + 1)) = some buf := by rw [ldCell_row hb]; exact ha1
  rcases hbuf with ⟨rfl, rfl⟩ | ⟨c, rfl, hc0, hc1, hc2, hc3, hc4, hc5⟩
  · have e2 := append_new (P := P) (h := h) (t := t) (u := u) he hu hsz hx hf (bytesFit_of hfit (by simp only [List.length_nil] at hbig; omega) (by simp only [List.length_nil] at hbig; omega)) (bytesC_one l2) hex
    have e3 : (newH h U8 (bytesC l2)).get b = some (.row 2 tr TB) := (get_new_other _ (by omega)).trans hb
    have e4 := stRow_one (v := .sl h.next 0 (n + 1) 1) e3 (show 0 + 1 < 2 by decide) rfl
    refine ⟨_, _, _, _, e1, e2, e4, ⟨_, a, _, get_put_same _ _, (T.get_set_other _ _ (by decide)).trans ha0, T.get_set_same _ _ _, ha, hlo, Nat.lt_succ_of_lt hlt, .inr ⟨h.next, by rw [List.nil_append, hl2], (by rw [List.nil_append]; intro hh; rw [hh] at hl2; cases hl2), by omega, by omega, Nat.lt_succ_self _, ?_, ?_⟩⟩, ((Ab.refl lo h).new (by omega) _).put hlo _⟩
    · rw [rowGet_put_other (by omega), List.nil_append, ← bytesC_length l2]
      exact rowGet_newH_all
    · rw [rowType_put_other (by omega)]
      exact rowType_newH
  · have e2 := append_more (P := P) (h := h) (t := t) (u := u) (b := c) (o := 0) (m := l.length) he hu hsz hx hf (bytesFit_of hfit (by omega) (by omega)) (bytesC_one l2) hex (by rw [Nat.mul_one]; exact hc4) hc5
    have e3 : (newH (h.put c .dead) U8 (bytesC l ++ bytesC l2)).get b = some (.row 2 tr TB) := (get_new_other (H := h.put c .dead) _ (show h.next ≠ b by omega)).trans ((get_put_other _ hc2).trans hb)
    have e4 := stRow_one (v := .sl h.next 0 (l.length + (n + 1)) 1) e3 (show 0 + 1 < 2 by decide) rfl
    refine ⟨_, _, _, _, e1, e2, e4, ⟨_, a, _, get_put_same _ _, (T.get_set_other _ _ (by decide)).trans ha0, T.get_set_same _ _ _, ha, hlo, Nat.lt_succ_of_lt hlt, .inr ⟨h.next, by rw [List.length_append, hl2], fun hh => hc0 (List.append_eq_nil_iff.1 hh).1, by omega, by omega, Nat.lt_succ_self _, ?_, ?_⟩⟩, (((Ab.refl lo h).put hc1 _).new (show lo ≤ h.next by omega) _).put hlo _⟩
    · rw [rowGet_put_other (by omega), ← bytesC_append, ← bytesC_length (l ++ l2)]
      exact rowGet_newH_all (h := h.put c .dead)
    · rw [rowType_put_other (by omega)]
      exact rowType_newH (h := h.put c .dead)
theorem bld_append0 {t u : TypeId} (hB : Bld TB U8 lo h b l) (he : elemOf P t = some U8) (hu : notInt P u = true) (hsz : P.cellsOf U8 = 1) (hfit : fitB P U8 1 = true) (hex : memB U8 h.ex = false) (hbig : l.length ≤ 1000000000) :
    ∃ buf buf' h1 h2, ldCell h (.ptr b (0 + 1)) = some buf ∧ opAppend P h t u buf (strA []) = some (.val buf', h1) ∧ stRow h1 1 (AV.cells buf') (.ptr b (0 + 1)) = some h2 ∧ Bld TB U8 lo h2 b l ∧ Ab lo h h2 := by
  obtain ⟨tr, a, buf, hb, ha0, ha1, ha, hlo, hlt, hbuf⟩ := hB
  have e1 : ldCell h (.ptr b (0 + 1)) = some buf := by rw [ldCell_row hb]; exact ha1
  have hone : buf.one = true := by rcases hbuf with ⟨rfl, _⟩ | ⟨c, rfl, _⟩ <;> rfl
  have hcells : AV.cells buf = [buf] := by rcases hbuf with ⟨rfl, _⟩ | ⟨c, rfl, _⟩ <;> rfl
  have hlen : lenA buf = some l.length := by rcases hbuf with ⟨rfl, rfl⟩ | ⟨c, rfl, _⟩ <;> rfl
  have e2 : opAppend P h t u buf (strA []) = some (.val buf, h) := by
    have h0 : lenA (strA []) = some 0 := rfl
    have hf : firstA h 1 0 (strA []) = some [] := firstA_str []
    have hfit2 := bytesFit_of (P := P) (e := U8) (B := 1) (k := l.length + 0) hfit (by omega) (by omega)
    have hap : appendA h U8 1 buf [] 0 = some (.val buf, h) := by rcases hbuf with ⟨rfl, _⟩ | ⟨c, rfl, _⟩ <;> rfl
    unfold notInt at hu
    unfold opAppend
    split at hu
    · cases hu
    · rename_i ud hni heq
      simp only [he, hlen, h0, heq, hsz, hf, hfit2, hex, List.all_nil, and_self, if_true]
      exact hap
    · cases hu
  have e4 := stRow_one (v := buf) hb (show 0 + 1 < 2 by decide) hone
  refine ⟨_, _, _, _, e1, e2, by rw [hcells]; exact e4, ⟨_, a, buf, get_put_same _ _, (T.get_set_other _ _ (by decide)).trans ha0, T.get_set_same _ _ _, ha, hlo, hlt, ?_⟩, (Ab.refl lo h).put hlo _⟩
  rcases hbuf with hbuf | ⟨c, k1, k0, k2, k3, k4, k5, k6⟩
  · exact .inl hbuf
  · exact .inr ⟨c, k1, k0, k2, k3, k4, by rw [rowGet_put_other (Ne.symm k3)]; exact k5, by rw [rowType_put_other (Ne.symm k3)]; exact k6⟩
end
end
end Go.Proofs.Ytpnccmlajhhpdaa.Abs
