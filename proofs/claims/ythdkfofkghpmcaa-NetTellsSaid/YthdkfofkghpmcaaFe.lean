/- Nets: play. -/
import Derived.Test.YthdkfofkghpmcaaFd
namespace Go.Proofs.Ythdkfofkghpmcaa
open Go.RowKit Abs
abbrev TOp : Nat := 39
abbrev TTold : Nat := 35
structure Opr where
  k : Int
  a : Int
  b : Int
  s : Bytes
noncomputable def opC (o : Opr) : List AV := [.int .i64 o.k, .int .i64 o.a, .int .i64 o.b, strA o.s]
structure Td where
  id : Int
  l : Lt
  e : Int
noncomputable def tdC (t : Td) : List AV := [.int .i64 t.id, .int .i64 t.l.id, .int .i64 t.l.a, .int .i64 t.l.b, strA t.l.s, .int .i64 t.e]
def playT (s : NS) (o : Opr) : Td :=
  if o.k = 1 then ⟨(sendR s o.a o.b o.s).1, zeroL, (sendR s o.a o.b o.s).2⟩
  else if o.k = 2 then ⟨0, (delR s o.a).1, (delR s o.a).2⟩
  else if o.k = 3 then ⟨0, zeroL, (delR s o.a).2⟩
  else if o.k = 4 then ⟨(twR s o.a).1, zeroL, (twR s o.a).2⟩
  else if o.k = 5 ∨ o.k = 6 then ⟨0, zeroL, refN o.a o.b⟩
  else ⟨0, zeroL, 0⟩
def playN (s : NS) (o : Opr) : NS :=
  if o.k = 1 then sendN s o.a o.b o.s
  else if o.k = 2 then delN s o.a
  else if o.k = 3 then delN s o.a
  else if o.k = 4 then twN s o.a
  else if o.k = 5 then (if refN o.a o.b = 0 then ⟨s.ls, s.last, putL (lnk o.a o.b) s.cuts⟩ else s)
  else if o.k = 6 then (if refN o.a o.b = 0 then ⟨s.ls, s.last, delL (lnk o.a o.b) s.cuts⟩ else s)
  else s
section
variable {lo : Nat → Prop} {n d nb : Nat} {h : AHeap} {s : NS}
set_option maxHeartbeats 2000000 in
theorem play_ok (hn : 1000000 < n) (K : NetAt lo h nb s) (hb : s.last < 999999) (o : Opr) :
    ∃ h' lo' nb' S, world n (d + 8) 12 [.ptr nb 0, .agg (opC o)] h = some (.ret (.tup [.ptr nb' 0, .agg (tdC (playT s o))]), h') ∧ NetAt lo' h' nb' (playN s o) ∧ (∀ b, lo' b → lo b ∨ h.next ≤ b) ∧ Tch S h h' ∧ ∀ b ∈ S, lo b := by
  suffices hK : Wp (world n (d + 8) 12 [.ptr nb 0, .agg (opC o)] h) fun r h' => ∃ lo' nb' S, r = .ret (.tup [.ptr nb' 0, .agg (tdC (playT s o))]) ∧ NetAt lo' h' nb' (playN s o) ∧ (∀ b, lo' b → lo b ∨ h.next ≤ b) ∧ Tch S h h' ∧ ∀ b ∈ S, lo b by
    obtain ⟨_, h', e, lo', nb', S, rfl, k⟩ := hK
    exact ⟨h', lo', nb', S, e, k⟩
  rw [w_law05_play]
  unfold law05_play
  refine Wp.mbox (Mem.nil [] h) rfl fun h2 M2 => Wp.mnew M2 fun h4 M4 => Wp.mnew M4 fun h5 M5 => ?_
  rw [newP_eq]
  refine Wp.sa0 M5 rfl rfl rfl fun h6 M6 => ?_
  have t6 := M6.tch
  have n6 := t6.1
  have K6 := K.part t6 (fun _ h => nomatch h)
  have n2 : h.next < h2.next := M2.at0.2.1
  have n4 : h2.next < h4.next := M4.at0.2.1
  have n5 : h4.next < h5.next := M5.at0.2.1
  have l0 := M6.at0.2.1
  have ob := M6.at2.1
  have wb := M6.at1.1
  have tb := M6.at0.1
  have g0 : (opC o)[0]? = some (.int .i64 o.k) := rfl
  have g1 : (opC o)[1]? = some (.int .i64 o.a) := rfl
  have g2 : (opC o)[2]? = some (.int .i64 o.b) := rfl
  have g3 : (opC o)[3]? = some (strA o.s) := rfl
  refine Wp.obind (fldP_ptr _ _ _) (Wp.obind (RowH.cell' ob g0) (Wp.obind (avInt_int _ _) (Wp.lett (Wp.lettG fun k19 e19 => ?_))))
  -- the end of each way
  have fin : ∀ (t : Td) (s' : NS) (H H2 : AHeap) (S : List Nat) (U : List Nat), NetAt (shr lo h.next h6.next) H nb s' → Tch S h6 H → (∀ b ∈ S, shr lo h.next h6.next b) → Tch [h4.next] H H2 → RowH H2 h4.next TTold (tdC t) → t = playT s o → s' = playN s o → Wp (k19 H2) fun r h' => ∃ lo' nb' S, r = .ret (.tup [.ptr nb' 0, .agg (tdC (playT s o))]) ∧ NetAt lo' h' nb' (playN s o) ∧ (∀ b, lo' b → lo b ∨ h.next ≤ b) ∧ Tch S h h' ∧ ∀ b ∈ S, lo b := by
    intro t s' H H2 S _ KH tH hS t2 k2 et es
    subst et es
    have nH := tH.1
    have nH2 := t2.1
    have out : ∀ b, h.next ≤ b → b < h6.next → b ∉ S := fun b h1 h2 h3 => by
      rcases (hS b h3).2 with h | h <;> omega
    have wb2 : RowH H2 h2.next TTold [.int .i64 0, .int .i64 0, .int .i64 0, .int .i64 0, .str 0 0, .int .i64 0] := (wb.tch tH (by omega) (out _ (by omega) (by omega))).tch t2 (by omega) (fun hm => by have := List.mem_singleton.1 hm; omega)
    rw [e19]
    refine Wp.obind (RowH.ldAll k2 rfl) (Wp.stAll wb2 rfl rfl rfl fun h9 k9 t9 n9 => Wp.obind (RowH.ldAll k9 rfl) ?_)
    have T : Tch S h h9 := (((t6.mono fun _ hb => nomatch hb).trans tH).trans' t2 fun b hb => .inr (by rw [List.mem_singleton.1 hb]; omega)).trans' t9 fun b hb => .inr (by rw [List.mem_singleton.1 hb]; omega)
    refine Wp.ret ⟨shr lo h.next h6.next, nb, S, rfl, (KH.tch t2 fun b hb => ?_).tch t9 fun b hb => ?_, fun b hb => .inl hb.1, T, fun b hb => (hS b hb).1⟩
    · left
      intro hh
      have := List.mem_singleton.1 hb
      rcases hh.2 with h | h <;> omega
    · left
      intro hh
      have := List.mem_singleton.1 hb
      rcases hh.2 with h | h <;> omega
  have tb2 : ∀ {H : AHeap} {S : List Nat}, Tch S h6 H → (∀ b ∈ S, shr lo h.next h6.next b) → RowH H h4.next TTold [.int .i64 0, .int .i64 0, .int .i64 0, .int .i64 0, .str 0 0, .int .i64 0] := fun t hS => tb.tch t l0 fun hm => by
    rcases (hS _ hm).2 with h | h <;> omega
  by_cases h1 : o.k = 1
  · have et : playT s o = ⟨(sendR s o.a o.b o.s).1, zeroL, (sendR s o.a o.b o.s).2⟩ := if_pos h1
    have es : playN s o = sendN s o.a o.b o.s := if_pos h1
    obtain ⟨h7, S, e7, K7, t7, hS⟩ := send_ok (n := n) (d := d + 4) K6 hb o.a o.b o.s
    refine Wp.ift (beq_t h1) (Wp.obind (fldP_ptr _ _ _) (Wp.obind (RowH.cell' ob g1) (Wp.obind (avInt_int _ _) (Wp.obind (fldP_ptr _ _ _) (Wp.obind (RowH.cell' ob g2) (Wp.obind (avInt_int _ _) (Wp.obind (fldP_ptr _ _ _) (Wp.obind (RowH.cell' ob g3) (Wp.obind (avStr_str _) (Wp.callN e7 ?_))))))))))
    refine Wp.obind (extT_0 _ _) (Wp.obind (avInt_int _ _) (Wp.obind (extT_1 _ _ _) (Wp.obind (avInt_int _ _) ?_)))
    refine Wp.st1 (tb2 t7 hS) (show 0 < 6 by decide) rfl fun h8 k8 t8 n8 => Wp.st1 k8 (show 5 < 6 by decide) rfl fun h9 k9 t9 n9 => ?_
    exact fin ⟨(sendR s o.a o.b o.s).1, zeroL, (sendR s o.a o.b o.s).2⟩ _ h7 h9 S [] K7 t7 hS (t8.trans t9) k9 et.symm es.symm
  refine Wp.iff (beq_f h1) (Wp.lett (Wp.lettG fun k47 e47 => ?_))
  by_cases h2' : o.k = 2
  · have et : playT s o = ⟨0, (delR s o.a).1, (delR s o.a).2⟩ := (if_neg h1).trans (if_pos h2')
    have es : playN s o = delN s o.a := (if_neg h1).trans (if_pos h2')
    obtain ⟨h7, S, e7, K7, t7, hS⟩ := deliver_ok (n := n) (d := d + 1) hn K6 o.a
    refine Wp.ift (beq_t h2') (Wp.obind (fldP_ptr _ _ _) (Wp.obind (RowH.cell' ob g1) (Wp.obind (avInt_int _ _) (Wp.callN e7 ?_))))
    refine Wp.obind (extT_0 _ _) (Wp.obind (avAgg_agg _) (Wp.obind (extT_1 _ _ _) (Wp.obind (avInt_int _ _) ?_)))
    refine Wp.stN (tb2 t7 hS) (rfl : (letC (delR s o.a).1).length = 4) (show 1 + 4 ≤ 6 by decide) rfl fun h8 k8 t8 n8 => ?_
    refine Wp.st1 k8 (show 5 < 6 by decide) rfl fun h9 k9 t9 n9 => ?_
    rw [e47]
    exact fin ⟨0, (delR s o.a).1, (delR s o.a).2⟩ _ h7 h9 S [] K7 t7 hS (t8.trans t9) k9 et.symm es.symm
  refine Wp.iff (beq_f h2') (Wp.lett (Wp.lettG fun k64 e64 => ?_))
  by_cases h3' : o.k = 3
  · have et : playT s o = ⟨0, zeroL, (delR s o.a).2⟩ := (if_neg h1).trans ((if_neg h2').trans (if_pos h3'))
    have es : playN s o = delN s o.a := (if_neg h1).trans ((if_neg h2').trans (if_pos h3'))
    obtain ⟨h7, S, e7, K7, t7, hS⟩ := drop_ok (n := n) (d := d) hn K6 o.a
    refine Wp.ift (beq_t h3') (Wp.obind (fldP_ptr _ _ _) (Wp.obind (RowH.cell' ob g1) (Wp.obind (avInt_int _ _) (Wp.callN e7 (Wp.obind (avInt_int _ _) ?_)))))
    refine Wp.st1 (tb2 t7 hS) (show 5 < 6 by decide) rfl fun h9 k9 t9 n9 => ?_
    rw [e64, e47]
    exact fin ⟨0, zeroL, (delR s o.a).2⟩ _ h7 h9 S [] K7 t7 hS t9 k9 et.symm es.symm
  refine Wp.iff (beq_f h3') (Wp.lett (Wp.lettG fun k76 e76 => ?_))
  by_cases h4' : o.k = 4
  · have et : playT s o = ⟨(twR s o.a).1, zeroL, (twR s o.a).2⟩ := (if_neg h1).trans ((if_neg h2').trans ((if_neg h3').trans (if_pos h4')))
    have es : playN s o = twN s o.a := (if_neg h1).trans ((if_neg h2').trans ((if_neg h3').trans (if_pos h4')))
    obtain ⟨h7, S, e7, K7, t7, hS⟩ := twice_ok (n := n) (d := d + 1) hn K6 hb o.a
    refine Wp.ift (beq_t h4') (Wp.obind (fldP_ptr _ _ _) (Wp.obind (RowH.cell' ob g1) (Wp.obind (avInt_int _ _) (Wp.callN e7 ?_))))
    refine Wp.obind (extT_0 _ _) (Wp.obind (avInt_int _ _) (Wp.obind (extT_1 _ _ _) (Wp.obind (avInt_int _ _) ?_)))
    refine Wp.st1 (tb2 t7 hS) (show 0 < 6 by decide) rfl fun h8 k8 t8 n8 => Wp.st1 k8 (show 5 < 6 by decide) rfl fun h9 k9 t9 n9 => ?_
    rw [e76, e64, e47]
    exact fin ⟨(twR s o.a).1, zeroL, (twR s o.a).2⟩ _ h7 h9 S [] K7 t7 hS (t8.trans t9) k9 et.symm es.symm
  refine Wp.iff (beq_f h4') (Wp.lett (Wp.lettG fun k93 e93 => ?_))
  by_cases h5' : o.k = 5
  · have et : playT s o = ⟨0, zeroL, refN o.a o.b⟩ := (if_neg h1).trans ((if_neg h2').trans ((if_neg h3').trans ((if_neg h4').trans (if_pos (.inl h5')))))
    have es : playN s o = if refN o.a o.b = 0 then ⟨s.ls, s.last, putL (lnk o.a o.b) s.cuts⟩ else s := (if_neg h1).trans ((if_neg h2').trans ((if_neg h3').trans ((if_neg h4').trans (if_pos h5'))))
    obtain ⟨h7, S, e7, K7, t7, hS⟩ := cut_ok (n := n) (d := d + 4) K6 o.a o.b
    refine Wp.ift (beq_t h5') (Wp.obind (fldP_ptr _ _ _) (Wp.obind (RowH.cell' ob g1) (Wp.obind (avInt_int _ _) (Wp.obind (fldP_ptr _ _ _) (Wp.obind (RowH.cell' ob g2) (Wp.obind (avInt_int _ _) (Wp.callN e7 (Wp.obind (avInt_int _ _) ?_))))))))
    refine Wp.st1 (tb2 t7 hS) (show 5 < 6 by decide) rfl fun h9 k9 t9 n9 => ?_
    rw [e93, e76, e64, e47]
    exact fin ⟨0, zeroL, refN o.a o.b⟩ _ h7 h9 S [] K7 t7 hS t9 k9 et.symm es.symm
  refine Wp.iff (beq_f h5') (Wp.lett (Wp.lettG fun k108 e108 => ?_))
  by_cases h6' : o.k = 6
  · have et : playT s o = ⟨0, zeroL, refN o.a o.b⟩ := (if_neg h1).trans ((if_neg h2').trans ((if_neg h3').trans ((if_neg h4').trans (if_pos (.inr h6')))))
    have es : playN s o = if refN o.a o.b = 0 then ⟨s.ls, s.last, delL (lnk o.a o.b) s.cuts⟩ else s := (if_neg h1).trans ((if_neg h2').trans ((if_neg h3').trans ((if_neg h4').trans ((if_neg h5').trans (if_pos h6')))))
    obtain ⟨h7, S, e7, K7, t7, hS⟩ := heal_ok (n := n) (d := d + 4) K6 o.a o.b
    refine Wp.ift (beq_t h6') (Wp.obind (fldP_ptr _ _ _) (Wp.obind (RowH.cell' ob g1) (Wp.obind (avInt_int _ _) (Wp.obind (fldP_ptr _ _ _) (Wp.obind (RowH.cell' ob g2) (Wp.obind (avInt_int _ _) (Wp.callN e7 (Wp.obind (avInt_int _ _) ?_))))))))
    refine Wp.st1 (tb2 t7 hS) (show 5 < 6 by decide) rfl fun h9 k9 t9 n9 => ?_
    rw [e108, e93, e76, e64, e47]
    exact fin ⟨0, zeroL, refN o.a o.b⟩ _ h7 h9 S [] K7 t7 hS t9 k9 et.symm es.symm
  have et : playT s o = ⟨0, zeroL, 0⟩ := (if_neg h1).trans ((if_neg h2').trans ((if_neg h3').trans ((if_neg h4').trans (if_neg (fun h => h.elim h5' h6')))))
  have es : playN s o = s := (if_neg h1).trans ((if_neg h2').trans ((if_neg h3').trans ((if_neg h4').trans ((if_neg h5').trans (if_neg h6')))))
  refine Wp.iff (beq_f h6') (Wp.lett ?_)
  by_cases h7' : o.k = 7
  · obtain ⟨h7, nb', e7, K7, t7, hnb⟩ := copy_ok (n := n) (d := d + 4) K6
    have tb7 := tb.tch t7 l0 (fun h => nomatch h)
    have wb7 := wb.tch t7 (by omega) (fun h => nomatch h)
    have n7 := t7.1
    refine Wp.ift (beq_t h7') (Wp.callN e7 (Wp.obind (RowH.ldAll tb7 rfl) (Wp.stAll wb7 rfl rfl rfl fun h9 k9 t9 n9 => Wp.obind (RowH.ldAll k9 rfl) ?_)))
    refine Wp.ret ⟨fun b => h6.next ≤ b, nb', [], by rw [et]; rfl, ?_, fun b hb => .inr (by omega), (t6.trans t7).trans' t9 fun b hb => .inr (by rw [List.mem_singleton.1 hb]; omega), fun _ hb => nomatch hb⟩
    rw [es]
    exact K7.tch t9 fun b hb => .inl (by rw [List.mem_singleton.1 hb]; omega)
  · refine Wp.iff (beq_f h7') ?_
    rw [e108, e93, e76, e64, e47]
    exact fin ⟨0, zeroL, 0⟩ s h6 h6 [] [] K6 (Tch.refl _ _) (fun _ h => nomatch h) (Tch.refl _ _) tb et.symm es.symm
end
end Go.Proofs.Ythdkfofkghpmcaa
