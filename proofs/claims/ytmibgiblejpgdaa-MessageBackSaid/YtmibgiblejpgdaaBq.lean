/- What was written is read as it was: what the program comes to. -/
import Derived.Test.YtmibgiblejpgdaaBp
import Derived.Test.YtmibgiblejpgdaaRm
namespace Go.Proofs.Ytmibgiblejpgdaa
open Go.RowKit Abs
section
variable {m m' : Ms} {es es' : List (Int × Bytes)}
theorem ok9 (u : Bytes) : (q9 u).ok u := eSt_ok (ok8 u) _
theorem Back.same {u : Bytes} (B : Back m es u) (hF : Fine m es) (v : AV) : sameH (msgF fI u v) m ∧ entsF fI u (cntOf u) = es := by
  have hfew := hF.few
  have ac : cntOf u = es.length := by unfold cntOf; rw [B.many]; split <;> omega
  refine ⟨⟨funext fun j => ?_, B.kind, B.good, B.op, B.err, B.leader, B.data⟩, ?_⟩
  · have h1 := B.nums j
    have hr := hF.head.2.2.2.2.2.2 j
    have hm : mostOf j.val ≤ 1125899906842624 := by unfold mostOf; split <;> omega
    show fI (rV u (q1 u) j.val) = _
    rw [fI_small (by omega), h1]
  · rw [ac]
    refine List.ext_getElem (by rw [entsF_len]) fun i h1 h2 => ?_
    obtain ⟨e1, e2⟩ := B.ents i h2
    have he := hF.each _ (List.getElem_mem h2)
    have : (entsF fI u es.length)[i] = (fI (eV u (q8 u) i).1, (eV u (q8 u) i).2) := by simp [entsF]
    rw [this, fI_small (by omega), e1, e2]
theorem read_back (hF : Fine m es) (hc : chkM m es = 0) (hop : 0 ≤ m.op ∧ m.op < 256) {u more : Bytes} (hu : u = formM m es ++ more) (v : AV) :
    (more = [] → (readC fI u v).2.1 = 0 ∧ sameH (readM fI u v) m ∧ readE fI u v = es) ∧ (more ≠ [] → (readC fI u v).2.1 = 7) := by
  have B := back_of hF hop hu
  obtain ⟨h1, h2⟩ := B.same hF v
  have hfew := hF.few
  have hck : chkM (msgF fI u v) (entsF fI u (cntOf u)) = 0 := by rw [h2, chkM_same h1, hc]
  have hm := B.many
  constructor
  · intro hmo
    have hl : (rEnd u (q9 u)) = (0, 0) := by
      unfold rEnd
      rw [B.fin, if_neg (by rw [hu, hmo]; simp)]
    have hr : readC fI u v = ((msgF fI u v).cells, 0, 0) := by
      unfold readC
      rw [hl, if_neg (by simp), if_neg (by omega)]
    have h0 : (readC fI u v).2.1 = 0 := by rw [hr]
    refine ⟨h0, ?_, ?_⟩
    · unfold readM
      rw [if_pos h0]
      exact h1
    · unfold readE
      rw [if_pos h0]
      exact h2
  · intro hmo
    have hpos : 0 < more.length := List.length_pos_iff.2 hmo
    have hl : (rEnd u (q9 u)).1 = 7 := by
      unfold rEnd
      rw [B.fin, if_pos (by rw [hu]; simp; omega)]
    unfold readC
    rw [if_pos (by rw [hl]; decide)]
    exact hl
theorem cut_no (hF : Fine m es) (hop : 0 ≤ m.op ∧ m.op < 256) {k : Nat} (hk : k < (formM m es).length) (v : AV) : (readC fI ((formM m es).take k) v).2.1 ≠ 0 := by
  intro h
  have hr : (rEnd ((formM m es).take k) (q9 ((formM m es).take k))).1 = 0 := by
    unfold readC at h
    split at h
    · rename_i h1
      exact absurd h h1
    · rename_i h1
      simpa using h1
  have he : (q9 ((formM m es).take k)).e = 0 := by
    unfold rEnd at hr
    split at hr
    · cases hr
    · exact hr
  have hx := q9_ext (x := (formM m es).drop k) he
  rw [List.take_append_drop] at hx
  have B := back_of hF hop (u := formM m es) (more := []) (by simp)
  have hok := ok9 ((formM m es).take k)
  unfold RS.ok at hok
  rw [← hx, B.fin, List.length_take] at hok
  simp only at hok
  omega
theorem form_inj (hF : Fine m es) (hF' : Fine m' es') (hop : 0 ≤ m.op ∧ m.op < 256) (hop' : 0 ≤ m'.op ∧ m'.op < 256) (h : formM m es = formM m' es') : sameH m m' ∧ es = es' := by
  have B := back_of hF hop (u := formM m es) (more := []) (by simp)
  have B' := back_of hF' hop' (u := formM m es) (more := []) (by simp [h])
  obtain ⟨⟨a1, a2, a3, a4, a5, a6, a7⟩, a8⟩ := B.same hF .nsl
  obtain ⟨⟨b1, b2, b3, b4, b5, b6, b7⟩, b8⟩ := B'.same hF' .nsl
  exact ⟨⟨a1.symm.trans b1, a2.symm.trans b2, a3.symm.trans b3, a4.symm.trans b4, a5.symm.trans b5, a6.symm.trans b6, a7.symm.trans b7⟩, a8.symm.trans b8⟩
theorem form_same (h : sameH m m') (he : es = es') : formM m es = formM m' es' := by
  obtain ⟨h1, h2, h3, h4, h5, h6, h7⟩ := h
  subst he
  have hn : ∀ i, numsTo m i = numsTo m' i := by
    intro i
    induction i with
    | zero => rfl
    | succ i ih => rw [numsTo, numsTo, ih]; unfold numN; rw [h1]
  unfold formM midB
  rw [hn, h2, h3, h4, h5, h6, h7]
end
end Go.Proofs.Ytmibgiblejpgdaa
