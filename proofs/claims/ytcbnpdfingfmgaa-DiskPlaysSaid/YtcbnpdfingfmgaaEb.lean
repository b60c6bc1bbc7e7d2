/- The disk: changes are done. -/
import Derived.Test.YtcbnpdfingfmgaaEa
namespace Go.Proofs.Ytcbnpdfingfmgaa
open Go.RowKit Abs
theorem dropC {α : Type} {l : List α} {i : Nat} {a : α} {r : List α} (h : l.drop i = a :: r) : ∃ hi : i < l.length, l[i] = a ∧ l.drop (i + 1) = r := by
  have hi : i < l.length := by
    apply Nat.lt_of_not_le
    intro hh
    rw [List.drop_of_length_le hh] at h
    cases h
  rw [List.drop_eq_getElem_cons hi] at h
  injection h with h1 h2
  exact ⟨hi, h1, h2⟩
theorem dropN {α : Type} {l : List α} {i : Nat} (h : l.drop i = []) : l.length ≤ i := by
  apply Nat.le_of_not_lt
  intro hh
  rw [List.drop_eq_getElem_cons hh] at h
  cases h
theorem set4 {D : List AV} {o : Nat} {a b c d : AV} : (((D.set o a).set (o + 1) b).set o c).set (o + 1) d = (D.set o c).set (o + 1) d := by
  rw [List.set_comm b c (show o + 1 ≠ o by omega), List.set_set, List.set_set]
theorem set3 {D : List AV} {o : Nat} {a b d : AV} : ((D.set o a).set (o + 1) b).set (o + 1) d = (D.set o a).set (o + 1) d := List.set_set ..
theorem laid2 {l : List AV} {o : Nat} {a b : AV} (h : o + 1 < l.length) : laid l o [a, b] = (l.set o a).set (o + 1) b := by
  refine List.ext_getElem? fun i => ?_
  rw [laid_get (by show o + 2 ≤ _; omega)]
  by_cases h1 : i = o
  · subst h1
    rw [if_pos ⟨Nat.le_refl _, by show i < i + 2; omega⟩, Nat.sub_self, List.getElem?_set_ne (by omega), List.getElem?_set_self (by omega)]
    rfl
  · by_cases h2 : i = o + 1
    · subst h2
      rw [if_pos ⟨by omega, by show o + 1 < o + 2; omega⟩, show o + 1 - o = 1 by omega, List.getElem?_set_self (by rw [List.length_set]; omega)]
      rfl
    · rw [if_neg (fun hh => by have : i < o + 2 := hh.2; omega), List.getElem?_set_ne (by omega), List.getElem?_set_ne (by omega)]
/-- a content, some changes done -/
structure DoAt (h H : AHeap) (db T o : Nat) (D : List AV) (v v' : AV) (x : Cont) : Prop where
  row : RowH H db T ((D.set o (.bool x.th)).set (o + 1) v')
  buf : BufAt H v' x.u
  ndb : db ∉ blkV v'
  sub : ∀ b ∈ blkV v', b ∈ blkV v ∨ h.next ≤ b
  tch : Tch (db :: blkV v) h H
  ex : H.ex = []
section
variable {n d db T o : Nat} {h : AHeap} {D : List AV} {v lv : AV} {l : List Chg} {Q : ARes → AHeap → Prop} {k4 : AHeap → R}
theorem do_loop (hdb : db < h.next) (ho : o + 1 < D.length) (rd : RdL h (db :: blkV v) lv l) (hl : l.length < 1000000) :
    ∀ (todo : List Chg) (i fu : Nat) (x : Cont) (v' : AV) (H : AHeap), l.drop i = todo → todo.length < fu → DoAt h H db T o D v v' x → Legal x todo → x.u.length + sumL todo ≤ 100000000 →
      (∀ H' v'', DoAt h H' db T o D v v'' (doL x todo) → Wp (k4 H') Q) → Wp (disk_content_do_L0 (.ptr db o) lv (l.length : Int) k4 fu (i : Int) H) Q
  | _, _, 0, _, _, _, _, hf, _, _, _, _ => by omega
  | [], i, fu + 1, x, v', H, hd, hf, K, _, _, hk => by
    have := dropN hd
    rw [disk_content_do_L0_s]
    unfold disk_content_do_L0b
    (first | (with_reducible first | refine Wp.join0 (fun _ _ => ?_) | refine Wp.join1 (fun _ _ => ?_) | refine Wp.join2 (fun _ _ => ?_)) | ((with_reducible first | refine Wp.lettw ?_ ?_ ?_ | refine Wp.lettu64 ?_ ?_ ?_ | refine Wp.lettu8 ?_ ?_ ?_ | refine Wp.lettu32 ?_ ?_ ?_); omega; omega) | (with_reducible refine Wp.lett ?_) | ((with_reducible apply Wp.obind); first | (with_reducible first | exact avInt_int _ _ | exact avBool_bool _ | exact avStr_str _ | exact nilC_ptr _ _ | exact fldP_ptr _ _ _ | exact avAgg_agg _ | exact extT_0 _ _ | exact extT_1 _ _ _ | exact extT_2 _ _ _ _ | assumption) | ((with_reducible first | apply RowH.cell' | apply RowH.ldAll); (with_reducible assumption); rfl)) | ((with_reducible refine Wp.ift ?_ ?_); first | (with_reducible first | rfl | assumption | exact Bool.not_false) | ((with_reducible first | apply decide_eq_true | apply not_df | apply bne_t | apply beq_t); omega)) | ((with_reducible refine Wp.iff ?_ ?_); first | (with_reducible first | rfl | assumption | exact Bool.not_true) | ((with_reducible first | apply decide_eq_false | apply not_dt | apply bne_f | apply beq_f); omega)) | ((with_reducible first | apply Wp.callN | apply Wp.callK); (with_reducible assumption)) | ((with_reducible apply Wp.outK); (with_reducible assumption)) | (with_reducible first | refine Wp.go0 (by assumption) ?_ | refine Wp.go1 (by assumption) ?_ | refine Wp.go2 (by assumption) ?_) | rw [newP_eq])
    refine Wp.iff (by rw [decide_eq_false_iff_not]; omega) ?_
    exact hk H v' K
  | c :: todo, i, fu + 1, x, v', H, hd, hf, K, hL, hb, hk => by
    obtain ⟨hi, hci, hd2⟩ := dropC hd
    rw [List.length_cons] at hf
    obtain ⟨p, i1, r1⟩ := rd.2 H K.tch i hi
    rw [hci] at r1
    have el : (i : Int) + 1 = ((i + 1 : Nat) : Int) := by omega
    have hs : sumL (c :: todo) = c.s.length + sumL todo := rfl
    have hlen : o + 1 < ((D.set o (.bool x.th)).set (o + 1) v').length := by rw [List.length_set, List.length_set]; exact ho
    have hn0 := K.tch.1
    rw [disk_content_do_L0_s]
    unfold disk_content_do_L0b
    (first | (with_reducible first | refine Wp.join0 (fun _ _ => ?_) | refine Wp.join1 (fun _ _ => ?_) | refine Wp.join2 (fun _ _ => ?_)) | ((with_reducible first | refine Wp.lettw ?_ ?_ ?_ | refine Wp.lettu64 ?_ ?_ ?_ | refine Wp.lettu8 ?_ ?_ ?_ | refine Wp.lettu32 ?_ ?_ ?_); omega; omega) | (with_reducible refine Wp.lett ?_) | ((with_reducible apply Wp.obind); first | (with_reducible first | exact avInt_int _ _ | exact avBool_bool _ | exact avStr_str _ | exact nilC_ptr _ _ | exact fldP_ptr _ _ _ | exact avAgg_agg _ | exact extT_0 _ _ | exact extT_1 _ _ _ | exact extT_2 _ _ _ _ | assumption) | ((with_reducible first | apply RowH.cell' | apply RowH.ldAll); (with_reducible assumption); rfl)) | ((with_reducible refine Wp.ift ?_ ?_); first | (with_reducible first | rfl | assumption | exact Bool.not_false) | ((with_reducible first | apply decide_eq_true | apply not_df | apply bne_t | apply beq_t); omega)) | ((with_reducible refine Wp.iff ?_ ?_); first | (with_reducible first | rfl | assumption | exact Bool.not_true) | ((with_reducible first | apply decide_eq_false | apply not_dt | apply bne_f | apply beq_f); omega)) | ((with_reducible first | apply Wp.callN | apply Wp.callK); (with_reducible assumption)) | ((with_reducible apply Wp.outK); (with_reducible assumption)) | (with_reducible first | refine Wp.go0 (by assumption) ?_ | refine Wp.go1 (by assumption) ?_ | refine Wp.go2 (by assumption) ?_) | rw [newP_eq])
    refine Wp.ift (by rw [decide_eq_true_eq]; omega) ?_
    refine Wp.obind i1 (Wp.obind r1 ?_)
    refine Wp.mnew (Mem.nil [] H) fun h2 M2 => ?_
    rw [newP_eq]
    refine Wp.sa0 M2 rfl rfl rfl fun h3 M3 => ?_
    have t3 := M3.tch
    have hn3 := t3.1
    have hx3 : h3.ex = [] := by rw [M3.ex, K.ex]
    have kr := K.row.tch t3 (Nat.lt_of_lt_of_le hdb K.tch.1) (by simp)
    have kb := K.buf.tch t3 (fun _ _ => by simp)
    have hne : H.next ≠ db := by omega
    refine Wp.obind (RowH.cell' M3.at0.1 (show (chgC c)[0]? = some (.int .i64 (c.k : Int)) from rfl)) (Wp.obind (avInt_int _ _) ?_)
    refine Wp.lett ?_
    refine Wp.lettG fun k26 ek => ?_
    have next : ∀ (H' : AHeap) (v'' : AV), DoAt h H' db T o D v v'' (do1 x c) → Wp (k26 H') Q := by
      intro H' v'' K'
      rw [ek]
      (first | (with_reducible first | refine Wp.join0 (fun _ _ => ?_) | refine Wp.join1 (fun _ _ => ?_) | refine Wp.join2 (fun _ _ => ?_)) | ((with_reducible first | refine Wp.lettw ?_ ?_ ?_ | refine Wp.lettu64 ?_ ?_ ?_ | refine Wp.lettu8 ?_ ?_ ?_ | refine Wp.lettu32 ?_ ?_ ?_); omega; omega) | (with_reducible refine Wp.lett ?_) | ((with_reducible apply Wp.obind); first | (with_reducible first | exact avInt_int _ _ | exact avBool_bool _ | exact avStr_str _ | exact nilC_ptr _ _ | exact fldP_ptr _ _ _ | exact avAgg_agg _ | exact extT_0 _ _ | exact extT_1 _ _ _ | exact extT_2 _ _ _ _ | assumption) | ((with_reducible first | apply RowH.cell' | apply RowH.ldAll); (with_reducible assumption); rfl)) | ((with_reducible refine Wp.ift ?_ ?_); first | (with_reducible first | rfl | assumption | exact Bool.not_false) | ((with_reducible first | apply decide_eq_true | apply not_df | apply bne_t | apply beq_t); omega)) | ((with_reducible refine Wp.iff ?_ ?_); first | (with_reducible first | rfl | assumption | exact Bool.not_true) | ((with_reducible first | apply decide_eq_false | apply not_dt | apply bne_f | apply beq_f); omega)) | ((with_reducible first | apply Wp.callN | apply Wp.callK); (with_reducible assumption)) | ((with_reducible apply Wp.outK); (with_reducible assumption)) | (with_reducible first | refine Wp.go0 (by assumption) ?_ | refine Wp.go1 (by assumption) ?_ | refine Wp.go2 (by assumption) ?_) | rw [newP_eq])
      rw [el]
      have := do1_len x c
      exact do_loop hdb ho rd hl todo (i + 1) fu (do1 x c) v'' H' hd2 (by omega) K' hL.2 (by omega) hk
    have g1 : ((D.set o (.bool x.th)).set (o + 1) v')[o + 1]? = some v' := List.getElem?_set_self (by rw [List.length_set]; exact ho)
    rcases hL.1 with h0 | ⟨h1, hc0, hc1⟩ | h2
    · refine Wp.ift (beq_t (by omega)) ?_
      have ed : do1 x c = ⟨true, x.u ++ c.s⟩ := by unfold do1; rw [if_pos h0]
      rw [ed] at next
      refine Wp.obind (nilC_ptr _ _) (Wp.obind (fldP_ptr _ _ _) ?_)
      refine Wp.st1 kr (show o + 0 < _ by omega) rfl fun h4 k4' t4 n4 => ?_
      have kb4 := kb.tch t4 (fun b hb hm => K.ndb (List.mem_singleton.1 hm ▸ hb))
      have kl4 := M3.at0.1.tch t4 M3.at0.2.1 (by simpa using hne)
      have g4 : (((D.set o (.bool x.th)).set (o + 1) v').set (o + 0) (.bool true))[o + 1]? = some v' := by rw [List.getElem?_set_ne (by omega)]; exact g1
      obtain ⟨v'', h5, e5, kb5, t5, s5⟩ := kb4.app c.s (by rw [t4.2.1, hx3]) (by omega)
      refine Wp.obind (nilC_ptr _ _) (Wp.obind (fldP_ptr _ _ _) (Wp.obind (RowH.cell' k4' g4) (Wp.obind (RowH.cell' kl4 (show (chgC c)[1]? = some (strA c.s) from rfl)) (Wp.obind (avStr_str _) (Wp.outK e5 ?_)))))
      refine Wp.obind (nilC_ptr _ _) (Wp.obind (fldP_ptr _ _ _) ?_)
      rw [kb5.one.2]
      have hdb4 : db < h4.next := by omega
      have kr5 := k4'.tch t5 hdb4 K.ndb
      have n5 := t5.1
      refine Wp.st1 kr5 (show o + 1 < _ by rw [List.length_set]; exact hlen) kb5.one.1 fun h6 k6 t6 n6 => ?_
      have hnd : db ∉ blkV v'' := fun hb => by
        rcases s5 _ hb with hb | hb
        · exact K.ndb hb
        · omega
      have ts : ∀ b ∈ blkV v', b ∈ db :: blkV v ∨ h.next ≤ b := fun b hb => (K.sub b hb).imp (List.mem_cons_of_mem _) id
      have td : ∀ b ∈ [db], b ∈ db :: blkV v ∨ h.next ≤ b := fun b hb => .inl (by rw [List.mem_singleton.1 hb]; exact List.mem_cons_self)
      refine next h6 v'' ⟨?_, kb5.tch t6 (fun b hb hm => hnd (List.mem_singleton.1 hm ▸ hb)), hnd, fun b hb => ?_, (((K.tch.trans' t3 fun b hb => nomatch hb).trans' t4 td).trans' t5 ts).trans' t6 td, by rw [t6.2.1, t5.2.1, t4.2.1, hx3]⟩
      · have k6' : RowH h6 db T ((((D.set o (.bool x.th)).set (o + 1) v').set o (.bool true)).set (o + 1) v'') := k6
        rw [set4] at k6'
        exact k6'
      · rcases s5 b hb with hb | hb
        · exact K.sub b hb
        · omega
    · refine Wp.iff (beq_f (by omega)) ?_
      have ed : do1 x c = ⟨x.th, x.u.take c.n.toNat⟩ := by unfold do1; rw [if_neg (by omega), if_pos h1]
      rw [ed] at next
      obtain ⟨v'', e5, kb5, hb5⟩ := kb.cut hc0 hc1
      refine Wp.lett ?_
      refine Wp.lettG fun k47 ek47 => ?_
      refine Wp.ift (beq_t (by omega)) ?_
      refine Wp.obind (nilC_ptr _ _) (Wp.obind (fldP_ptr _ _ _) (Wp.obind (RowH.cell' kr g1) (Wp.obind (RowH.cell' M3.at0.1 (show (chgC c)[2]? = some (.int .i64 c.n) from rfl)) (Wp.obind (avInt_int _ _) (Wp.outK e5 ?_)))))
      refine Wp.obind (nilC_ptr _ _) (Wp.obind (fldP_ptr _ _ _) ?_)
      rw [kb5.one.2]
      refine Wp.st1 kr (show o + 1 < _ by exact hlen) kb5.one.1 fun h6 k6 t6 n6 => ?_
      rw [ek47]
      have hnd : db ∉ blkV v'' := by rw [hb5]; exact K.ndb
      have td : ∀ b ∈ [db], b ∈ db :: blkV v ∨ h.next ≤ b := fun b hb => .inl (by rw [List.mem_singleton.1 hb]; exact List.mem_cons_self)
      refine next h6 v'' ⟨?_, kb5.tch t6 (fun b hb hm => hnd (List.mem_singleton.1 hm ▸ hb)), hnd, (by rw [hb5]; exact K.sub), (K.tch.trans' t3 fun b hb => nomatch hb).trans' t6 td, by rw [t6.2.1, hx3]⟩
      have k6' := k6
      rw [set3] at k6'
      exact k6'
    · refine Wp.iff (beq_f (by omega)) ?_
      have ed : do1 x c = ⟨false, []⟩ := by unfold do1; rw [if_neg (by omega), if_neg (by omega)]
      rw [ed] at next
      refine Wp.lett ?_
      refine Wp.lettG fun k47 ek47 => ?_
      refine Wp.iff (beq_f (by omega)) ?_
      refine Wp.lett ?_
      refine Wp.lettG fun k62 ek62 => ?_
      refine Wp.ift (beq_t (by omega)) ?_
      refine Wp.obind (nilC_ptr _ _) ?_
      refine Wp.stN kr (rfl : ([.bool false, .nsl] : List AV).length = 2) (show o + 2 ≤ _ by exact hlen) rfl fun h6 k6 t6 n6 => ?_
      rw [ek62, ek47]
      have td : ∀ b ∈ [db], b ∈ db :: blkV v ∨ h.next ≤ b := fun b hb => .inl (by rw [List.mem_singleton.1 hb]; exact List.mem_cons_self)
      refine next h6 .nsl ⟨?_, .inl ⟨rfl, rfl⟩, (fun h => nomatch h), (fun _ h => nomatch h), (K.tch.trans' t3 fun b hb => nomatch hb).trans' t6 td, by rw [t6.2.1, hx3]⟩
      have k6' := k6
      rw [laid2 hlen, set4] at k6'
      exact k6'
theorem do_ok {x : Cont} (hn : 1000000 < n) (hdb : db < h.next) (kr : RowH h db T D) (h0 : D[o]? = some (.bool x.th)) (h1 : D[o + 1]? = some v) (kb : BufAt h v x.u) (hnd : db ∉ blkV v) (hx : h.ex = []) (rd : RdL h (db :: blkV v) lv l) (hl : l.length < 1000000) (hL : Legal x l) (hb : x.u.length + sumL l ≤ 100000000) :
    ∃ h' v', world n (d + 1) 29 [.ptr db o, lv] h = some (.ret (.tup []), h') ∧ DoAt h h' db T o D v v' (doL x l) := by
  suffices hK : Wp (world n (d + 1) 29 [.ptr db o, lv] h) fun r h' => r = .ret (.tup []) ∧ ∃ v', DoAt h h' db T o D v v' (doL x l) by
    obtain ⟨_, h', e, rfl, v', k⟩ := hK
    exact ⟨h', v', e, k⟩
  rw [w_disk_content_do]
  unfold disk_content_do
  refine Wp.obind rd.1 ?_
  refine Wp.lettG fun k4 ek => ?_
  have ho : o + 1 < D.length := (List.getElem?_eq_some_iff.1 h1).1
  have e0 : (D.set o (.bool x.th)).set (o + 1) v = D := by
    obtain ⟨_, e1⟩ := List.getElem?_eq_some_iff.1 h0
    obtain ⟨_, e2⟩ := List.getElem?_eq_some_iff.1 h1
    rw [← e1, List.set_getElem_self, ← e2, List.set_getElem_self]
  refine do_loop hdb ho rd hl l 0 n x v h (List.drop_zero) (by omega) ⟨by rw [e0]; exact kr, kb, hnd, fun b hb => .inl hb, Tch.refl _ _, hx⟩ hL hb fun H' v'' K => ?_
  rw [ek]
  exact Wp.ret ⟨rfl, v'', K⟩
end
end Go.Proofs.Ytcbnpdfingfmgaa
