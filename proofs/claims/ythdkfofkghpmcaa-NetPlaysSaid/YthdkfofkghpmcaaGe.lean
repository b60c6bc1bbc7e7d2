/- The reference: Heal; the model. -/
import Derived.Test.YthdkfofkghpmcaaGd
namespace Go.Proofs.Ythdkfofkghpmcaa
open Go.RowKit Abs
section
variable {ro : Nat → Prop} {n d b : Nat} {h h' : AHeap} {lv cv : AV} {s : NS} {cs : List (Int × Int)} {m l : List AV} {z : Int}
set_option maxHeartbeats 1000000 in
theorem rheal_ok (hn : 1000000 < n) (K : RefN ro h lv cv s cs) (hx : h.ex = [TNet]) (x y : Int) : ∃ h' m', world n (d + 2) 28 [.agg (refC lv cv s), .int .i64 x, .int .i64 y] h = some (.ret (.tup [.agg m', .int .i64 (refN x y)]), h') ∧ RAt ro h' m' (if refN x y = 0 then cutN s (delL (lnk x y) s.cuts) else s) ∧ Tch [] h h' := by
  suffices hK : Wp (ref05_Heal (world n (d + 1)) n (refC lv cv s) x y h) fun r h' => ∃ m', r = .ret (.tup [.agg m', .int .i64 (refN x y)]) ∧ RAt ro h' m' (if refN x y = 0 then cutN s (delL (lnk x y) s.cuts) else s) ∧ Tch [] h h' by
    obtain ⟨_, h', e, m', rfl, k⟩ := hK
    refine ⟨h', m', ?_, k⟩
    rw [w_ref05_Heal]
    exact e
  unfold ref05_Heal
  simp only [newP_eq]
  refine Wp.mbox (Mem.nil [] h) K.one fun h2 M2 => Wp.mnew M2 fun h4 M4 => Wp.callN (raddr_w x) (Wp.obind (avBool_bool _) (Wp.lett (Wp.lettG fun j16 e16 => ?_)))
  have K4 := K.tch M4.tch
  have g0 : (refC lv cv s)[0 + 0]? = some lv := rfl
  have g1 : (refC lv cv s)[0 + 1]? = some cv := rfl
  have g2 : (refC lv cv s)[0 + 2]? = some (.int .i64 (s.last : Int)) := rfl
  unfold refN
  by_cases h0 : addr x ∧ addr y ∧ x ≠ y
  · rw [if_pos h0]
    obtain ⟨h1, h2', h3⟩ := h0
    rw [decide_eq_true h1]
    refine Wp.iff rfl (Wp.callN (raddr_w y) (Wp.obind (avBool_bool _) (Wp.lett ?_)))
    rw [decide_eq_true h2', e16]
    refine Wp.lettG fun j21 e21 => Wp.iff rfl (Wp.lett ?_)
    rw [beq_f h3, e21, if_pos rfl]
    refine Wp.iff rfl (Wp.lr1 M4 rfl (Wp.callN (rcut_w hn K4 x y) (Wp.obind (avInt_int _ _) (Wp.lett ?_))))
    cases hp : posC cs x y with
    | none =>
      have hm : lnk x y ∉ s.cuts := by
        rw [← K.e]
        exact posC_none.1 hp
      rw [delL_not hm]
      refine Wp.ift (show decide ((-1 : Int) < 0) = true from rfl) ?_
      exact Wp.lr1 M4 rfl (Wp.sa0 M4 rfl rfl K.one fun h7 M7 => Wp.lr0 M7 rfl (Wp.ret ⟨_, rfl, ⟨lv, cv, cs, rfl, K.tch M7.tch⟩, M7.tch⟩))
    | some k =>
      have hk := posC_lt hp
      have hk' : k < (cs.map prC).length := by rw [List.length_map]; exact hk
      have hcn := K.n
      have ep := delL_pos cs k hp
      rw [K.e] at ep
      rw [← ep]
      have ek : posO 0 (some k) = (k : Int) := by
        show ((0 + k : Nat) : Int) = _
        rw [Nat.zero_add]
      rw [ek]
      refine Wp.iff (by rw [decide_eq_false_iff_not]; omega) (Wp.obind (fldP_ptr _ _ _) (Wp.ld1 M4 g0 (Wp.obind (fldP_ptr _ _ _) (Wp.ld1 M4 g2 (Wp.obind (avInt_int _ _) (Wp.obind (bldR0 K.l _) (Wp.mnew M4 fun h9 M9 => ?_)))))))
      have hone : ∀ v : AV, v.one = true → ([lv, v, .int .i64 (s.last : Int)] : List AV).all AV.one = true := fun v hv => by
        show (lv.one && (v.one && (true && true))) = true
        rw [hv, K.l.one.1]
        rfl
      refine Wp.sa0 M9 rfl rfl (hone _ rfl) fun h10 M10 => Wp.ld0 M10 rfl (Wp.obind (fldP_ptr _ _ _) (Wp.ld2 M10 g1 ?_))
      have K10 := K.tch M10.tch
      have x10 : memB TArr h10.ex = false := by rw [M10.ex, hx]; rfl
      have l1 : ((cs.map prC).take k).length = k := by rw [List.length_take, List.length_map]; omega
      have l2 : ((cs.map prC).drop (k + 1)).length = cs.length - (k + 1) := by rw [List.length_drop, List.length_map]
      obtain ⟨x1, s1, rd1⟩ := LsAt.take elArr K10.c hk'
      obtain ⟨v11, h11, a11, k11, t11, b11⟩ := app_nil elArr rd1 (by omega) (by omega) x10
      have M11 := M10.keep t11
      have o10 : h4.next < h10.next := M10.at0.2.1
      have o2 : h2.next < h10.next := M10.at1.2.1
      have o0 : h.next < h10.next := M10.at2.2.1
      have n11 := t11.1
      refine Wp.outK s1 (Wp.outK a11 ?_)
      rw [k11.one.2]
      refine Wp.st1 M11.at0.1 (by decide : 1 < 3) k11.one.1 fun h12 r12 t12 n12 => ?_
      have M12 : Mem [] h h12 [(h4.next, TRef, [lv, v11, .int .i64 (s.last : Int)]), (h2.next, TRef, [.nsl, .nsl, .int .i64 0]), (h.next, TRef, refC lv cv s)] := Mem.upd (xs := []) M11 t12 r12
      have k12 := k11.tch t12 (fun b hb hm => by
        have := b11 b hb
        have := List.mem_singleton.1 hm
        omega)
      have K12 := K.tch M12.tch
      obtain ⟨x2, s2, rd2⟩ := LsAt.drop elArr K12.c hk'
      obtain ⟨v14, h14, a14, k14, t14, b14⟩ := app_on elArr k12 rd2 (by omega) (by omega) (by rw [M12.ex, hx]; rfl)
      have lt11 := k11.lt
      have n12' := t12.1
      have n14 := t14.1
      have M14 := Mem.keepN M12 t14 (fun b hb => ⟨by
        have := b11 b hb
        omega, fun x hx' => by
        have := b11 b hb
        simp only [List.mem_cons, List.not_mem_nil, or_false] at hx'
        rcases hx' with rfl | rfl | rfl
        · show h4.next ≠ b
          omega
        · show h2.next ≠ b
          omega
        · show h.next ≠ b
          omega⟩)
      rw [map_eraseIdx] at k14
      have ge14 : ∀ b ∈ blkV v14, h10.next ≤ b := fun b hb => by
        rcases b14 b hb with hb | hb
        · exact b11 b hb
        · omega
      refine Wp.ld0 M12 rfl (Wp.obind (fldP_ptr _ _ _) (Wp.ld2 M12 g1 (Wp.lettw (by omega) (by omega) ?_)))
      rw [show (k : Int) + 1 = ((k + 1 : Nat) : Int) by omega]
      refine Wp.outK s2 (Wp.outK a14 ?_)
      rw [k14.one.2]
      refine Wp.st1 M14.at0.1 (by decide : 1 < 3) k14.one.1 fun h15 r15 t15 n15 => ?_
      have M15 : Mem [] h h15 [(h4.next, TRef, [lv, v14, .int .i64 (s.last : Int)]), (h2.next, TRef, [.nsl, .nsl, .int .i64 0]), (h.next, TRef, refC lv cv s)] := Mem.upd (xs := []) M14 t15 r15
      have k15 := k14.tch t15 (fun b hb hm => by
        have := ge14 b hb
        have := List.mem_singleton.1 hm
        omega)
      refine Wp.lr0 M15 rfl (Wp.stAll M15.at1.1 rfl rfl (hone _ k14.one.1) fun h16 r16 t16 n16 => ?_)
      have M16 : Mem [] h h16 [(h4.next, TRef, [lv, v14, .int .i64 (s.last : Int)]), (h2.next, TRef, [lv, v14, .int .i64 (s.last : Int)]), (h.next, TRef, refC lv cv s)] := Mem.upd (xs := [_]) M15 t16 r16
      have k16 := k15.tch t16 (fun b hb hm => by
        have := ge14 b hb
        have := List.mem_singleton.1 hm
        omega)
      refine Wp.lr1 M16 rfl (Wp.ret ⟨_, rfl, ⟨lv, v14, cs.eraseIdx k, rfl, (K.tch M16.tch).l, k16, rfl, by rw [List.length_eraseIdx]; split <;> omega, K.r1, fun b hb => K.nw b (by have := ge14 b hb; omega), (K.tch M16.tch).nw⟩, M16.tch⟩)
  · rw [if_neg h0, if_neg (by decide)]
    have bad : Wp (j16 true h4) fun r h' => ∃ m', r = .ret (.tup [.agg m', .int .i64 2]) ∧ RAt ro h' m' s ∧ Tch [] h h' := by
      rw [e16]
      refine Wp.lettG fun j21 e21 => Wp.ift rfl ?_
      rw [e21]
      exact Wp.ift rfl (Wp.lr1 M4 rfl (Wp.sa0 M4 rfl rfl K.one fun h7 M7 => Wp.lr0 M7 rfl (Wp.ret ⟨_, rfl, ⟨lv, cv, cs, rfl, K.tch M7.tch⟩, M7.tch⟩)))
    by_cases h1 : addr x
    · rw [decide_eq_true h1]
      refine Wp.iff rfl (Wp.callN (raddr_w y) (Wp.obind (avBool_bool _) (Wp.lett ?_)))
      by_cases h2' : addr y
      · rw [decide_eq_true h2', e16]
        refine Wp.lettG fun j21 e21 => Wp.iff rfl (Wp.lett ?_)
        have h3 : x = y := Classical.byContradiction fun hh => h0 ⟨h1, h2', hh⟩
        rw [beq_t h3, e21]
        exact Wp.ift rfl (Wp.lr1 M4 rfl (Wp.sa0 M4 rfl rfl K.one fun h7 M7 => Wp.lr0 M7 rfl (Wp.ret ⟨_, rfl, ⟨lv, cv, cs, rfl, K.tch M7.tch⟩, M7.tch⟩)))
      · rw [decide_eq_false h2']
        exact bad
    · rw [decide_eq_false h1]
      exact Wp.ift rfl bad
end
section
variable {ro : Nat → Prop} {n d b e' o : Nat} {h h' H : AHeap} {s : NS} {m l vs : List AV} {v : AV} {rs : List RowT} {K : AHeap → R} {Q : ARes → AHeap → Prop}
theorem RAt.tchE (R : RAt ro h m s) (t : Tch [b] h h') (kb : RowH h b e' l) (h1 : TLet ≠ e') (h2 : TArr ≠ e') : RAt ro h' m s := by
  obtain ⟨lv, cv, cs, e, K⟩ := R
  exact ⟨lv, cv, cs, e, (LsAt.tch K.l.rows t (LsAt.off K.l.rows kb h1)).la, LsAt.tch K.c t (LsAt.off K.c kb h2), K.e, K.n, K.r1, K.r2, fun b hb => K.nw b (Nat.le_trans t.1 hb)⟩
theorem RAt.tch (R : RAt ro h m s) (t : Tch [] h h') : RAt ro h' m s := by
  obtain ⟨lv, cv, cs, e, K⟩ := R
  exact ⟨lv, cv, cs, e, K.tch t⟩
theorem RAt.one (R : RAt ro h m s) : m.all AV.one = true ∧ m.length = 3 := by
  obtain ⟨lv, cv, cs, rfl, K⟩ := R
  exact ⟨K.one, rfl⟩
theorem Wp.st1R (M : Mem [] h H ((b, TTold, l) :: rs)) (R : RAt ro H m s) (ho : o < l.length) (hv : v.one = true) (hk : ∀ H', Mem [] h H' ((b, TTold, l.set o v) :: rs) → RAt ro H' m s → Wp (K H') Q) : Wp (Abs.obind (stRow H 1 [v] (.ptr b o)) K) Q :=
  Wp.st1 M.at0.1 ho hv fun H' r t _ => hk H' (Mem.upd (xs := []) M t r) (R.tchE t M.at0.1 (by decide) (by decide))
theorem Wp.stNR {k : Nat} (M : Mem [] h H ((b, TTold, l) :: rs)) (R : RAt ro H m s) (hn : vs.length = k) (ho : o + k ≤ l.length) (hv : vs.all AV.one = true) (hk : ∀ H', Mem [] h H' ((b, TTold, laid l o vs) :: rs) → RAt ro H' m s → Wp (K H') Q) : Wp (Abs.obind (stRow H k vs (.ptr b o)) K) Q :=
  Wp.stN M.at0.1 hn ho hv fun H' r t _ => hk H' (Mem.upd (xs := []) M t r) (R.tchE t M.at0.1 (by decide) (by decide))
abbrev zT : List AV := [.int .i64 0, .int .i64 0, .int .i64 0, .int .i64 0, .str 0 0, .int .i64 0]
set_option maxHeartbeats 2000000 in
theorem model_ok (hn : 1000000 < n) (R : RAt ro h m s) (hx : h.ex = [TNet]) (hlen : s.ls.length ≤ 256) (hb : s.last < 999999) (hcl : s.cuts.length < 999999) (o : Opr) : ∃ h' m', world n (d + 3) 13 [.agg m, .agg (opC o)] h = some (.ret (.tup [.agg m', .agg (tdC (playT s o))]), h') ∧ RAt ro h' m' (playN s o) ∧ Tch [] h h' := by
  suffices hK : Wp (law05_model (world n (d + 2)) n m (opC o) h) fun r h' => ∃ m', r = .ret (.tup [.agg m', .agg (tdC (playT s o))]) ∧ RAt ro h' m' (playN s o) ∧ Tch [] h h' by
    obtain ⟨_, h', e, m', rfl, k⟩ := hK
    refine ⟨h', m', ?_, k⟩
    rw [w_law05_model]
    exact e
  unfold law05_model
  simp only [newP_eq]
  refine Wp.mbox (Mem.nil [] h) R.one.1 fun h2 M2 => Wp.mbox M2 rfl fun h4 M4 => Wp.mnew M4 fun h6 M6 => Wp.mnew M6 fun h8 M8 => Wp.mnew M8 fun h11 M11 => Wp.sa0 M11 rfl rfl rfl fun h13 M13 => ?_
  have R13 := R.tch M13.tch
  have x13 : h13.ex = [TNet] := by rw [M13.ex]; exact hx
  have g0 : (opC o)[0 + 0]? = some (.int .i64 o.k) := rfl
  have g1 : (opC o)[0 + 1]? = some (.int .i64 o.a) := rfl
  have g2 : (opC o)[0 + 2]? = some (.int .i64 o.b) := rfl
  have g3 : (opC o)[0 + 3]? = some (strA o.s) := rfl
  refine Wp.obind (fldP_ptr _ _ _) (Wp.ld3 M13 g0 (Wp.obind (avInt_int _ _) (Wp.lett (Wp.lettG fun k23 e23 => ?_))))
  have fin : ∀ (t : Td) (m' : List AV) (s' : NS) (H : AHeap), Mem [] h H [(h8.next, TTold, tdC t), (h6.next, TTold, zT), (h4.next, TRef, [.nsl, .nsl, .int .i64 0]), (h2.next, TOp, opC o), (h.next, TRef, m')] → RAt ro H m' s' → t = playT s o → s' = playN s o → Wp (k23 H) fun r h' => ∃ m', r = .ret (.tup [.agg m', .agg (tdC (playT s o))]) ∧ RAt ro h' m' (playN s o) ∧ Tch [] h h' := by
    intro t m' s' H M RR et es
    subst et es
    rw [e23]
    refine Wp.lr4 M RR.one.2 (Wp.lr0 M rfl (Wp.stAll M.at2.1 RR.one.2 rfl RR.one.1 fun H2 r2 t2 n2 => ?_))
    have M2 : Mem [] h H2 [(h8.next, TTold, tdC (playT s o)), (h6.next, TTold, zT), (h4.next, TRef, m'), (h2.next, TOp, opC o), (h.next, TRef, m')] := Mem.upd (xs := [_, _]) M t2 r2
    have RR2 := RR.tchE t2 M.at2.1 (by decide) (by decide)
    refine Wp.chk (and_t (Mem.rr0 M2 (by kernel_rfl) (by kernel_rfl)) rfl) (Wp.stAll M2.at1.1 rfl rfl rfl fun H3 r3 t3 n3 => ?_)
    have M3 : Mem [] h H3 [(h8.next, TTold, tdC (playT s o)), (h6.next, TTold, tdC (playT s o)), (h4.next, TRef, m'), (h2.next, TOp, opC o), (h.next, TRef, m')] := Mem.upd (xs := [_]) M2 t3 r3
    have RR3 := RR2.tchE t3 M2.at1.1 (by decide) (by decide)
    exact Wp.lr2 M3 RR.one.2 (Wp.lr1 M3 rfl (Wp.ret ⟨m', rfl, RR3, M3.tch⟩))
  have stM : ∀ (H : AHeap) (m' : List AV) (s' : NS) (K : AHeap → Abs.R), Mem [] h H [(h8.next, TTold, zT), (h6.next, TTold, zT), (h4.next, TRef, [.nsl, .nsl, .int .i64 0]), (h2.next, TOp, opC o), (h.next, TRef, m)] → RAt ro H m' s' → (∀ H', Mem [] h H' [(h8.next, TTold, zT), (h6.next, TTold, zT), (h4.next, TRef, [.nsl, .nsl, .int .i64 0]), (h2.next, TOp, opC o), (h.next, TRef, m')] → RAt ro H' m' s' → Wp (K H') fun r h' => ∃ m', r = .ret (.tup [.agg m', .agg (tdC (playT s o))]) ∧ RAt ro h' m' (playN s o) ∧ Tch [] h h') → Wp (Abs.obind (stRow H 3 m' (.ptr h.next 0)) K) fun r h' => ∃ m', r = .ret (.tup [.agg m', .agg (tdC (playT s o))]) ∧ RAt ro h' m' (playN s o) ∧ Tch [] h h' := by
    intro H m' s' K M RR hk
    exact Wp.stAll M.at4.1 RR.one.2 R.one.2 RR.one.1 fun H' r t _ => hk H' (Mem.upd (xs := [_, _, _, _]) M t r) (RR.tchE t M.at4.1 (by decide) (by decide))
  obtain ⟨lv, cv, cs, em, KR⟩ := R13
  have hcs : cs.length = s.cuts.length := by rw [← KR.e, List.length_map]
  by_cases h1 : o.k = 1
  · have et : playT s o = ⟨(sendR s o.a o.b o.s).1, zeroL, (sendR s o.a o.b o.s).2⟩ := if_pos h1
    have es : playN s o = sendN s o.a o.b o.s := if_pos h1
    obtain ⟨h7, m7, e7, R7, t7⟩ := rsend_ok (n := n) (d := d) hn KR x13 hlen hb o.a o.b o.s
    rw [← em] at e7
    refine Wp.ift (beq_t h1) (Wp.lr4 M13 R.one.2 (Wp.obind (fldP_ptr _ _ _) (Wp.ld3 M13 g1 (Wp.obind (avInt_int _ _) (Wp.obind (fldP_ptr _ _ _) (Wp.ld3 M13 g2 (Wp.obind (avInt_int _ _) (Wp.obind (fldP_ptr _ _ _) (Wp.ld3 M13 g3 (Wp.obind (avStr_str _) (Wp.callN e7 ?_)))))))))))
    refine Wp.obind (extT_0 _ _) (Wp.obind (avAgg_agg _) (Wp.obind (extT_1 _ _ _) (Wp.obind (avInt_int _ _) (Wp.obind (extT_2 _ _ _ _) (Wp.obind (avInt_int _ _) ?_)))))
    refine stM h7 m7 _ _ (M13.keep t7) R7 fun H8 M8 R8 => Wp.st1R M8 R8 (by decide : 0 < 6) rfl fun H9 M9 R9 => Wp.st1R M9 R9 (by decide : 5 < 6) rfl fun H10 M10 R10 => ?_
    exact fin ⟨(sendR s o.a o.b o.s).1, zeroL, (sendR s o.a o.b o.s).2⟩ m7 _ H10 M10 R10 et.symm es.symm
  refine Wp.iff (beq_f h1) (Wp.lett (Wp.lettG fun k61 e61 => ?_))
  by_cases h2' : o.k = 2
  · have et : playT s o = ⟨0, (delR s o.a).1, (delR s o.a).2⟩ := (if_neg h1).trans (if_pos h2')
    have es : playN s o = delN s o.a := (if_neg h1).trans (if_pos h2')
    obtain ⟨h7, m7, e7, R7, t7⟩ := rdeliver_ok (n := n) (d := d) hn KR x13 hlen o.a
    rw [← em] at e7
    refine Wp.ift (beq_t h2') (Wp.lr4 M13 R.one.2 (Wp.obind (fldP_ptr _ _ _) (Wp.ld3 M13 g1 (Wp.obind (avInt_int _ _) (Wp.callN e7 ?_)))))
    refine Wp.obind (extT_0 _ _) (Wp.obind (avAgg_agg _) (Wp.obind (extT_1 _ _ _) (Wp.obind (avAgg_agg _) (Wp.obind (extT_2 _ _ _ _) (Wp.obind (avInt_int _ _) ?_)))))
    refine stM h7 m7 _ _ (M13.keep t7) R7 fun H8 M8 R8 => Wp.stNR M8 R8 (rfl : (letC (delR s o.a).1).length = 4) (by decide : 1 + 4 ≤ 6) rfl fun H9 M9 R9 => Wp.st1R M9 R9 (by decide : 5 < 6) rfl fun H10 M10 R10 => ?_
    rw [e61]
    exact fin ⟨0, (delR s o.a).1, (delR s o.a).2⟩ m7 _ H10 M10 R10 et.symm es.symm
  refine Wp.iff (beq_f h2') (Wp.lett (Wp.lettG fun k83 e83 => ?_))
  by_cases h3' : o.k = 3
  · have et : playT s o = ⟨0, zeroL, (delR s o.a).2⟩ := (if_neg h1).trans ((if_neg h2').trans (if_pos h3'))
    have es : playN s o = delN s o.a := (if_neg h1).trans ((if_neg h2').trans (if_pos h3'))
    obtain ⟨h7, m7, e7, R7, t7⟩ := rdeliver_ok (n := n) (d := d) hn KR x13 hlen o.a
    rw [← em] at e7
    refine Wp.ift (beq_t h3') (Wp.lr4 M13 R.one.2 (Wp.obind (fldP_ptr _ _ _) (Wp.ld3 M13 g1 (Wp.obind (avInt_int _ _) (Wp.callN e7 ?_)))))
    refine Wp.obind (extT_0 _ _) (Wp.obind (avAgg_agg _) (Wp.obind (extT_1 _ _ _) (Wp.obind (avAgg_agg _) (Wp.obind (extT_2 _ _ _ _) (Wp.obind (avInt_int _ _) ?_)))))
    refine stM h7 m7 _ _ (M13.keep t7) R7 fun H8 M8 R8 => Wp.st1R M8 R8 (by decide : 5 < 6) rfl fun H10 M10 R10 => ?_
    rw [e83, e61]
    exact fin ⟨0, zeroL, (delR s o.a).2⟩ m7 _ H10 M10 R10 et.symm es.symm
  refine Wp.iff (beq_f h3') (Wp.lett (Wp.lettG fun k103 e103 => ?_))
  by_cases h4' : o.k = 4
  · have et : playT s o = ⟨(twR s o.a).1, zeroL, (twR s o.a).2⟩ := (if_neg h1).trans ((if_neg h2').trans ((if_neg h3').trans (if_pos h4')))
    have es : playN s o = twN s o.a := (if_neg h1).trans ((if_neg h2').trans ((if_neg h3').trans (if_pos h4')))
    obtain ⟨h7, m7, e7, R7, t7⟩ := rtwice_ok (n := n) (d := d) hn KR x13 hlen hb o.a
    rw [← em] at e7
    refine Wp.ift (beq_t h4') (Wp.lr4 M13 R.one.2 (Wp.obind (fldP_ptr _ _ _) (Wp.ld3 M13 g1 (Wp.obind (avInt_int _ _) (Wp.callN e7 ?_)))))
    refine Wp.obind (extT_0 _ _) (Wp.obind (avAgg_agg _) (Wp.obind (extT_1 _ _ _) (Wp.obind (avInt_int _ _) (Wp.obind (extT_2 _ _ _ _) (Wp.obind (avInt_int _ _) ?_)))))
    refine stM h7 m7 _ _ (M13.keep t7) R7 fun H8 M8 R8 => Wp.st1R M8 R8 (by decide : 0 < 6) rfl fun H9 M9 R9 => Wp.st1R M9 R9 (by decide : 5 < 6) rfl fun H10 M10 R10 => ?_
    rw [e103, e83, e61]
    exact fin ⟨(twR s o.a).1, zeroL, (twR s o.a).2⟩ m7 _ H10 M10 R10 et.symm es.symm
  refine Wp.iff (beq_f h4') (Wp.lett (Wp.lettG fun k125 e125 => ?_))
  by_cases h5' : o.k = 5
  · have et : playT s o = ⟨0, zeroL, refN o.a o.b⟩ := (if_neg h1).trans ((if_neg h2').trans ((if_neg h3').trans ((if_neg h4').trans (if_pos (.inl h5')))))
    have es : playN s o = if refN o.a o.b = 0 then cutN s (putL (lnk o.a o.b) s.cuts) else s := (if_neg h1).trans ((if_neg h2').trans ((if_neg h3').trans ((if_neg h4').trans (if_pos h5'))))
    obtain ⟨h7, m7, e7, R7, t7⟩ := rcut_ok (n := n) (d := d) hn KR x13 (by omega) o.a o.b
    rw [← em] at e7
    refine Wp.ift (beq_t h5') (Wp.lr4 M13 R.one.2 (Wp.obind (fldP_ptr _ _ _) (Wp.ld3 M13 g1 (Wp.obind (avInt_int _ _) (Wp.obind (fldP_ptr _ _ _) (Wp.ld3 M13 g2 (Wp.obind (avInt_int _ _) (Wp.callN e7 ?_))))))))
    refine Wp.obind (extT_0 _ _) (Wp.obind (avAgg_agg _) (Wp.obind (extT_1 _ _ _) (Wp.obind (avInt_int _ _) ?_)))
    refine stM h7 m7 _ _ (M13.keep t7) R7 fun H8 M8 R8 => Wp.st1R M8 R8 (by decide : 5 < 6) rfl fun H10 M10 R10 => ?_
    rw [e125, e103, e83, e61]
    exact fin ⟨0, zeroL, refN o.a o.b⟩ m7 _ H10 M10 R10 et.symm es.symm
  refine Wp.iff (beq_f h5') (Wp.lett (Wp.lettG fun k146 e146 => ?_))
  by_cases h6' : o.k = 6
  · have et : playT s o = ⟨0, zeroL, refN o.a o.b⟩ := (if_neg h1).trans ((if_neg h2').trans ((if_neg h3').trans ((if_neg h4').trans (if_pos (.inr h6')))))
    have es : playN s o = if refN o.a o.b = 0 then cutN s (delL (lnk o.a o.b) s.cuts) else s := (if_neg h1).trans ((if_neg h2').trans ((if_neg h3').trans ((if_neg h4').trans ((if_neg h5').trans (if_pos h6')))))
    obtain ⟨h7, m7, e7, R7, t7⟩ := rheal_ok (n := n) (d := d) hn KR x13 o.a o.b
    rw [← em] at e7
    refine Wp.ift (beq_t h6') (Wp.lr4 M13 R.one.2 (Wp.obind (fldP_ptr _ _ _) (Wp.ld3 M13 g1 (Wp.obind (avInt_int _ _) (Wp.obind (fldP_ptr _ _ _) (Wp.ld3 M13 g2 (Wp.obind (avInt_int _ _) (Wp.callN e7 ?_))))))))
    refine Wp.obind (extT_0 _ _) (Wp.obind (avAgg_agg _) (Wp.obind (extT_1 _ _ _) (Wp.obind (avInt_int _ _) ?_)))
    refine stM h7 m7 _ _ (M13.keep t7) R7 fun H8 M8 R8 => Wp.st1R M8 R8 (by decide : 5 < 6) rfl fun H10 M10 R10 => ?_
    rw [e146, e125, e103, e83, e61]
    exact fin ⟨0, zeroL, refN o.a o.b⟩ m7 _ H10 M10 R10 et.symm es.symm
  have et : playT s o = ⟨0, zeroL, 0⟩ := (if_neg h1).trans ((if_neg h2').trans ((if_neg h3').trans ((if_neg h4').trans (if_neg (fun h => h.elim h5' h6')))))
  have es : playN s o = s := (if_neg h1).trans ((if_neg h2').trans ((if_neg h3').trans ((if_neg h4').trans ((if_neg h5').trans (if_neg h6')))))
  refine Wp.iff (beq_f h6') ?_
  rw [e146, e125, e103, e83, e61]
  exact fin ⟨0, zeroL, 0⟩ m s h13 M13 ⟨lv, cv, cs, em, KR⟩ et.symm es.symm
end
end Go.Proofs.Ythdkfofkghpmcaa
