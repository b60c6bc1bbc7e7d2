/- The reference: Send, Twice, Deliver. -/
import Derived.Test.YthdkfofkghpmcaaGb
namespace Go.Proofs.Ythdkfofkghpmcaa
open Go.RowKit Abs
theorem LsAt.off {e e' sz b : Nat} {h : AHeap} {v : AV} {cs : List (List AV)} {l : List AV} (k : LsAt e sz h v cs) (kb : RowH h b e' l) (hne : e ≠ e') : ∀ c ∈ blkV v, c ∉ [b] := by
  obtain ⟨⟨rfl, _⟩ | ⟨c, rest, rfl, h2, h3⟩, _⟩ := k
  · exact fun b hb => (nomatch hb)
  · intro c' hc hm
    obtain rfl := List.mem_singleton.1 hc
    exact RowH.ne h2 kb hne (List.mem_singleton.1 hm)
theorem posC_none {cs : List (Int × Int)} {a b : Int} : posC cs a b = none ↔ lnk a b ∉ cs.map lk := by
  unfold posC
  rw [List.findIdx?_eq_none_iff]
  constructor
  · intro h hm
    obtain ⟨p, hp, e⟩ := List.mem_map.1 hm
    have := h p hp
    rw [decide_eq_false_iff_not] at this
    exact this e
  · intro h p hp
    rw [decide_eq_false_iff_not]
    intro e
    exact h (e ▸ List.mem_map_of_mem hp)
theorem map_eraseIdx {α β : Type} (f : α → β) (l : List α) (k : Nat) : (l.map f).take k ++ (l.map f).drop (k + 1) = (l.eraseIdx k).map f := by
  rw [List.eraseIdx_eq_take_drop_succ, List.map_append, List.map_take, List.map_drop]
section
variable {ro : Nat → Prop} {n d b : Nat} {h h' : AHeap} {lv cv : AV} {s : NS} {cs : List (Int × Int)} {m l : List AV} {z : Int}
theorem RefN.tchR (K : RefN ro h lv cv s cs) (t : Tch [b] h h') (kb : RowH h b TRef l) : RefN ro h' lv cv s cs :=
  ⟨(LsAt.tch K.l.rows t (LsAt.off K.l.rows kb (by decide))).la, LsAt.tch K.c t (LsAt.off K.c kb (by decide)), K.e, K.n, K.r1, K.r2, fun b hb => K.nw b (Nat.le_trans t.1 hb)⟩
set_option maxHeartbeats 1000000 in
theorem rsend_ok (hn : 1000000 < n) (K : RefN ro h lv cv s cs) (hx : h.ex = [TNet]) (hlen : s.ls.length ≤ 256) (hb : s.last < 999999) (x y : Int) (u : Bytes) : ∃ h' m', world n (d + 2) 24 [.agg (refC lv cv s), .int .i64 x, .int .i64 y, strA u] h = some (.ret (.tup [.agg m', .int .i64 (sendR s x y u).1, .int .i64 (sendR s x y u).2]), h') ∧ RAt ro h' m' (sendN s x y u) ∧ Tch [] h h' := by
  suffices hK : Wp (ref05_Send (world n (d + 1)) n (refC lv cv s) x y u h) fun r h' => ∃ m', r = .ret (.tup [.agg m', .int .i64 (sendR s x y u).1, .int .i64 (sendR s x y u).2]) ∧ RAt ro h' m' (sendN s x y u) ∧ Tch [] h h' by
    obtain ⟨_, h', e, m', rfl, k⟩ := hK
    refine ⟨h', m', ?_, k⟩
    rw [w_ref05_Send]
    exact e
  unfold ref05_Send
  simp only [newP_eq]
  have hlu := lenS_nat u
  refine Wp.mbox (Mem.nil [] h) K.one fun h2 M2 => Wp.mnew M2 fun h4 M4 => Wp.callN (raddr_w x) (Wp.obind (avBool_bool _) (Wp.lett (Wp.lettG fun j19 e19 => ?_)))
  have K4 := K.tch M4.tch
  have same : ∀ (c : Int) (h7 : AHeap), Mem [] h h7 [(h2.next, TRef, refC lv cv s), (h.next, TRef, refC lv cv s)] → sendR s x y u = (0, c) → sendN s x y u = s → ∃ m', ARes.ret (.tup [.agg (refC lv cv s), .int .i64 0, .int .i64 c]) = .ret (.tup [.agg m', .int .i64 (sendR s x y u).1, .int .i64 (sendR s x y u).2]) ∧ RAt ro h7 m' (sendN s x y u) ∧ Tch [] h h7 := fun c h7 M7 e1 e2 => by
    rw [e1, e2]
    exact ⟨_, rfl, ⟨lv, cv, cs, rfl, K.tch M7.tch⟩, M7.tch⟩
  have bad : ¬ (addr x ∧ addr y) → Wp (j19 true h4) fun r h' => ∃ m', r = .ret (.tup [.agg m', .int .i64 (sendR s x y u).1, .int .i64 (sendR s x y u).2]) ∧ RAt ro h' m' (sendN s x y u) ∧ Tch [] h h' := fun hh => by
    rw [e19]
    exact Wp.ift rfl (Wp.lr1 M4 rfl (Wp.sa0 M4 rfl rfl K.one fun h7 M7 => Wp.lr0 M7 rfl (Wp.ret (same 2 h7 M7 (if_neg hh) (if_neg hh)))))
  by_cases h1 : addr x
  · rw [decide_eq_true h1]
    refine Wp.iff rfl (Wp.callN (raddr_w y) (Wp.obind (avBool_bool _) (Wp.lett ?_)))
    by_cases h2' : addr y
    · rw [decide_eq_true h2', e19]
      refine Wp.iff rfl (Wp.lett ?_)
      by_cases h3 : 4108 < u.length
      · refine Wp.ift (by rw [decide_eq_true_eq]; omega) ?_
        exact Wp.lr1 M4 rfl (Wp.sa0 M4 rfl rfl K.one fun h7 M7 => Wp.lr0 M7 rfl (Wp.ret (same 3 h7 M7 ((if_pos ⟨h1, h2'⟩).trans (if_pos h3)) ((if_pos ⟨h1, h2'⟩).trans (if_pos h3)))))
      · refine Wp.iff (by rw [decide_eq_false_iff_not]; omega) (Wp.lr1 M4 rfl (Wp.callN (rcut_w hn K4 x y) (Wp.obind (avInt_int _ _) (Wp.lett ?_))))
        cases hp : posC cs x y with
        | some k =>
          have hm : lnk x y ∈ s.cuts := by
            rw [← K.e]
            apply Classical.byContradiction
            intro hh
            rw [posC_none.2 hh] at hp
            cases hp
          refine Wp.ift (by rw [decide_eq_true_eq]; show ((0 + k : Nat) : Int) ≥ 0; omega) ?_
          exact Wp.lr1 M4 rfl (Wp.sa0 M4 rfl rfl K.one fun h7 M7 => Wp.lr0 M7 rfl (Wp.ret (same 50 h7 M7 ((if_pos ⟨h1, h2'⟩).trans ((if_neg h3).trans (if_pos hm))) ((if_pos ⟨h1, h2'⟩).trans ((if_neg h3).trans (if_pos hm))))))
        | none =>
          have hm : lnk x y ∉ s.cuts := by
            rw [← K.e]
            exact posC_none.1 hp
          have er : sendR s x y u = addR s := (if_pos ⟨h1, h2'⟩).trans ((if_neg h3).trans (if_neg hm))
          have en : sendN s x y u = addN s x y u := (if_pos ⟨h1, h2'⟩).trans ((if_neg h3).trans (if_neg hm))
          obtain ⟨h5, lv5, e5, k5, t5, q5⟩ := put_ok (n := n) (d := d) K4 (by rw [M4.ex]; exact hx) hlen hb ⟨0, x, y, u⟩
          have M5 := M4.keep t5
          have ec : (addN s x y u).cuts = s.cuts := by
            unfold addN
            split <;> rfl
          have K5 : RefN ro h5 lv5 cv (addN s x y u) cs := ⟨k5, (K4.tch t5).c, by rw [ec]; exact K.e, K.n, q5, K.r2, (K4.tch t5).nw⟩
          refine Wp.iff (show decide ((-1 : Int) ≥ 0) = false from rfl) (Wp.lr1 M4 rfl (Wp.callN e5 (Wp.obind (extT_0 _ _) (Wp.obind (avAgg_agg _) (Wp.obind (extT_1 _ _ _) (Wp.obind (avInt_int _ _) (Wp.obind (extT_2 _ _ _ _) (Wp.obind (avInt_int _ _) ?_))))))))
          refine Wp.stAll M5.at0.1 rfl rfl K5.one fun h6 r6 t6 n6 => Wp.obind (RowH.ldAll r6 rfl) (Wp.ret ?_)
          rw [er, en]
          exact ⟨_, rfl, ⟨lv5, cv, cs, rfl, K5.tchR t6 M5.at0.1⟩, M5.tch.trans' t6 fun b hb => .inr (by
            have := M5.at0.2.2
            rw [List.mem_singleton.1 hb]
            rcases this with h | h
            · exact nomatch h
            · exact h)⟩
    · rw [decide_eq_false h2']
      exact bad (fun h => h2' h.2)
  · rw [decide_eq_false h1]
    exact Wp.ift rfl (bad (fun h => h1 h.1))
set_option maxHeartbeats 1000000 in
theorem rtwice_ok (hn : 1000000 < n) (K : RefN ro h lv cv s cs) (hx : h.ex = [TNet]) (hlen : s.ls.length ≤ 256) (hb : s.last < 999999) (z : Int) : ∃ h' m', world n (d + 2) 26 [.agg (refC lv cv s), .int .i64 z] h = some (.ret (.tup [.agg m', .int .i64 (twR s z).1, .int .i64 (twR s z).2]), h') ∧ RAt ro h' m' (twN s z) ∧ Tch [] h h' := by
  suffices hK : Wp (ref05_Twice (world n (d + 1)) n (refC lv cv s) z h) fun r h' => ∃ m', r = .ret (.tup [.agg m', .int .i64 (twR s z).1, .int .i64 (twR s z).2]) ∧ RAt ro h' m' (twN s z) ∧ Tch [] h h' by
    obtain ⟨_, h', e, m', rfl, k⟩ := hK
    refine ⟨h', m', ?_, k⟩
    rw [w_ref05_Twice]
    exact e
  unfold ref05_Twice
  simp only [newP_eq]
  refine Wp.mbox (Mem.nil [] h) K.one fun h2 M2 => Wp.mnew M2 fun h4 M4 => ?_
  have K4 := K.tch M4.tch
  refine Wp.lr1 M4 rfl (Wp.callN (rfind_w hn K4 hlen z) (Wp.obind (avInt_int _ _) (Wp.lett ?_)))
  cases hf : fnd s.ls z with
  | none =>
    have e1 : twR s z = (0, 4) := by unfold twR; rw [hf]
    have e2 : twN s z = s := by unfold twN; rw [hf]
    rw [e1, e2]
    refine Wp.ift (show decide ((-1 : Int) < 0) = true from rfl) ?_
    exact Wp.lr1 M4 rfl (Wp.sa0 M4 rfl rfl K.one fun h7 M7 => Wp.lr0 M7 rfl (Wp.ret ⟨_, rfl, ⟨lv, cv, cs, rfl, K.tch M7.tch⟩, M7.tch⟩))
  | some k =>
    obtain ⟨hk, _⟩ := fnd_lt hf
    have e1 : twR s z = addR s := by unfold twR; rw [hf]
    have e2 : twN s z = addN s s.ls[k].a s.ls[k].b s.ls[k].s := by
      unfold twN
      rw [hf]
      dsimp only
      rw [getD_lt hk]
    rw [e1, e2]
    obtain ⟨p, i1, r1⟩ := K4.l.row hk
    obtain ⟨h5, lv5, e5, k5, t5, q5⟩ := put_ok (n := n) (d := d) K4 (by rw [M4.ex]; exact hx) hlen hb s.ls[k]
    have M5 := M4.keep t5
    have ec : (addN s s.ls[k].a s.ls[k].b s.ls[k].s).cuts = s.cuts := by
      unfold addN
      split <;> rfl
    have K5 : RefN ro h5 lv5 cv (addN s s.ls[k].a s.ls[k].b s.ls[k].s) cs := ⟨k5, (K4.tch t5).c, by rw [ec]; exact K.e, K.n, q5, K.r2, (K4.tch t5).nw⟩
    have ek : posO 0 (some k) = (k : Int) := by
      show ((0 + k : Nat) : Int) = _
      rw [Nat.zero_add]
    rw [ek]
    refine Wp.iff (by rw [decide_eq_false_iff_not]; omega) (Wp.lr1 M4 rfl (Wp.obind (fldP_ptr _ _ _) (Wp.ld1 M4 (show (refC lv cv s)[0 + 0]? = some lv from rfl) (Wp.obind i1 (Wp.obind r1 (Wp.callN e5 ?_))))))
    refine Wp.obind (extT_0 _ _) (Wp.obind (avAgg_agg _) (Wp.obind (extT_1 _ _ _) (Wp.obind (avInt_int _ _) (Wp.obind (extT_2 _ _ _ _) (Wp.obind (avInt_int _ _) ?_)))))
    refine Wp.stAll M5.at0.1 rfl rfl K5.one fun h6 r6 t6 n6 => Wp.obind (RowH.ldAll r6 rfl) (Wp.ret ?_)
    exact ⟨_, rfl, ⟨lv5, cv, cs, rfl, K5.tchR t6 M5.at0.1⟩, M5.tch.trans' t6 fun b hb => .inr (by
      have := M5.at0.2.2
      rw [List.mem_singleton.1 hb]
      rcases this with h | h
      · exact nomatch h
      · exact h)⟩
end
end Go.Proofs.Ythdkfofkghpmcaa
