/- The document's disk: changes, Sync. -/
import Derived.Test.YtcbnpdfingfmgaaEn
namespace Go.Proofs.Ytcbnpdfingfmgaa
open Go.RowKit Abs
def eC (x : Cont) (c : Chg) : Int := if c.k = 0 then (if (1048576 : Int) - (x.u.length : Int) < (c.s.length : Int) then 8 else 0) else if x.th = false then 4 else if c.k = 1 ∧ (c.n < 0 ∨ (x.u.length : Int) < c.n) then 5 else 0
theorem errP_step (s : DS) (z : Int) (c : Chg) : errP s z c = stepE s.p z (eC (seeC s z) c) := by
  unfold errP stepE
  by_cases h0 : s.p = 0
  · have : refP s.p z = 40 := if_pos h0
    rw [if_neg (by omega), this, if_pos h0]
  · rw [if_neg h0]
    by_cases h1 : 0 ≤ z ∧ z < 32
    · have e1 : refP s.p z = 0 := by
        unfold refP
        rw [if_neg h0, if_pos h1]
      have e2 : seeC s z = (s.fs z.toNat).seen := if_pos h1
      rw [if_pos e1, if_pos h1, e2]
      rfl
    · have e1 : refP s.p z = 2 := by
        unfold refP
        rw [if_neg h0, if_neg h1]
      rw [if_neg (by omega), if_neg h1, e1]
theorem refP_step (s : DS) (z : Int) : refP s.p z = stepE s.p z 0 := rfl
theorem step_in {p z e : Int} (h : stepE p z e = 0) : p ≠ 0 ∧ ∃ f : Nat, z = (f : Int) ∧ f < 32 := by
  unfold stepE at h
  split at h
  · omega
  · split at h
    · exact ⟨by assumption, z.toNat, by omega, by omega⟩
    · omega
/-- what is let go of, once new blocks are another one's -/
def shr (lo : Nat → Prop) (a b : Nat) : Nat → Prop := fun i => lo i ∧ (i < a ∨ b ≤ i)
section
variable {lo : Nat → Prop} {n d rb B : Nat} {h : AHeap} {D : List AV} {vs : Nat → AV} {s : DS}
set_option maxHeartbeats 1000000 in
theorem change_r (hn : 1000000 < n) (K : RefD lo h rb D vs s) (ho : SOk s B) (hB : B < 900000) (hx : h.ex = []) (z : Int) {c : Chg} :
    ∃ h', world n (d + 4) 35 [.ptr rb 0, .int .i64 z, .agg (chgR c)] h = some (.ret (.int .i64 (errP s z c)), h') ∧ Tch [rb] h h' ∧ RefAt (shr lo h.next h'.next) h' rb (actD s z c) := by
  suffices hK : Wp (world n (d + 4) 35 [.ptr rb 0, .int .i64 z, .agg (chgR c)] h) fun r h' => r = .ret (.int .i64 (errP s z c)) ∧ Tch [rb] h h' ∧ RefAt (shr lo h.next h'.next) h' rb (actD s z c) by
    obtain ⟨_, h', e, rfl, k⟩ := hK
    exact ⟨h', e, k⟩
  have hlen := K.len
  rw [w_ref04_Disk_Change]
  unfold ref04_Disk_Change
  refine Wp.mbox (Mem.nil [] h) rfl fun h2 M2 => ?_
  have t2 := M2.tch
  have K2 : RefD lo h2 rb D vs s := K.tch t2 (fun _ h => nomatch h) (fun _ h _ => h)
  obtain ⟨h3, e3, t3⟩ := see_r (n := n) (d := d) hn K2 ho (by omega) z
  have M3 := Mem.keep M2 t3
  refine Wp.callN e3 (Wp.obind (avAgg_agg _) (Wp.mnew M3 fun h4 M4 => ?_))
  rw [newP_eq]
  refine Wp.sa0 M4 rfl rfl rfl fun h5 M5 => ?_
  have t5 := M5.tch
  have g0 : (chgR c)[0]? = some (.int .i64 ((c.k : Int) + 1)) := rfl
  have g1 : (chgR c)[1]? = some (strA c.s) := rfl
  have g2 : (chgR c)[2]? = some (.int .i64 c.n) := rfl
  have q0 : (contC (seeC s z))[0]? = some (.bool (seeC s z).th) := rfl
  have q1 : (contC (seeC s z))[1]? = some (strA (seeC s z).u) := rfl
  have hsl : (seeC s z).u.length ≤ B := by
    unfold seeC
    split
    · obtain ⟨o1, o2, o3, o4⟩ := ho.ok z.toNat (by omega)
      have := doL_len (s.fs z.toNat).loose (s.fs z.toNat).sure
      rw [← o1] at this
      omega
    · exact Nat.zero_le _
  refine Wp.obind (fldP_ptr _ _ _) (Wp.ld1 M5 g0 (Wp.obind (avInt_int _ _) (Wp.lett (Wp.lettG fun k20 ek => ?_))))
  have next : ∀ e : Int, e = eC (seeC s z) c → Wp (k20 e h5) fun r h' => r = .ret (.int .i64 (errP s z c)) ∧ Tch [rb] h h' ∧ RefAt (shr lo h.next h'.next) h' rb (actD s z c) := by
    intro e he
    subst he
    rw [ek]
    have K5 : RefD lo h5 rb D vs s := K.tch t5 (fun _ h => nomatch h) (fun _ h _ => h)
    obtain ⟨h6, e6, t6, a6, b6⟩ := step_r (n := n) (d := d + 2) (lo' := lo) K5 ho (by omega) z (eC (seeC s z) c) (fun _ h _ => h)
    rw [← errP_step] at e6 a6 b6
    refine Wp.callN e6 (Wp.obind (avInt_int _ _) (Wp.lett (Wp.lettG fun k29 e29 => ?_)))
    by_cases h0 : errP s z c = 0
    · obtain ⟨D6, K6, n6⟩ := b6 h0
      rw [errP_step] at h0
      obtain ⟨hp, f, rfl, hf⟩ := step_in h0
      rw [← errP_step] at h0
      have r0 : refP s.p (f : Int) = 0 := by
        unfold refP
        rw [if_neg hp, if_pos (by omega)]
      have ha : actD s (f : Int) c = ⟨upd s.fs f (moreF (s.fs f) c), stepP s.p, s.ops + 1⟩ := by
        unfold actD
        rw [if_pos h0, Int.toNat_natCast]
      rw [h0, ha]
      obtain ⟨o1, o2, o3, o4⟩ := ho.ok f hf
      have C := K6.cells f hf
      have hx6 : h6.ex = [] := by rw [t6.2.1, t5.2.1, hx]
      have hn5 := t5.1
      have hn6 := t6.1
      refine Wp.ift rfl (Wp.obind (nilC_ptr _ _) (Wp.obind (fldP_ptr _ _ _) (Wp.obind (idxR hf) (Wp.obind (fldP_ptr _ _ _) (Wp.obind (RowH.cell' K6.row C.c2) ?_)))))
      obtain ⟨v7, h7, e7, rl7, t7, s7⟩ := (K6.rl f hf).copy (by show (s.fs f).loose.length < _; omega) hx6
      have hn7 := t7.1
      have hbox : h.next < h2.next := M2.at0.2.1
      have hb5 : RowH h5 h.next TCr (chgR c) := M5.at1.1
      have hrb := K.hrb
      have hbox7 : RowH h7 h.next TCr (chgR c) := (hb5.tch t6 M5.at1.2.1 (fun hm => by have := List.mem_singleton.1 hm; omega)).tch t7 (Nat.lt_of_lt_of_le M5.at1.2.1 t6.1) (fun h => nomatch h)
      refine Wp.outK e7 (Wp.obind (RowH.ldAll hbox7 rfl) (Wp.obind (nilC_ptr _ _) (Wp.obind (fldP_ptr _ _ _) ?_)))
      have hx7 : h7.ex = [] := by rw [t7.2.1, hx6]
      refine Wp.mnews (Mem.nil [] h7) (bldSlR _ _ _ _) rfl (by rw [hx7]; rfl) fun h8 M8 => ?_
      have t8 := M8.tch
      have hn8 := t8.1
      have rl8 := rl7.tch t8 (fun _ _ h => nomatch h)
      obtain ⟨h9, e9, rl9, t9⟩ := rl8.push M8.at0.1 (by show (s.fs f).loose.length < _; omega) (by rw [t8.2.1, hx7])
      have hn9 := t9.1
      refine Wp.outK e9 (Wp.obind (idxR hf) (Wp.obind (fldP_ptr _ _ _) ?_))
      have hrb6 : rb < h6.next := K6.hrb
      have T9 : Tch (blkV v7) h6 h9 := ((t7.mono fun _ hb => nomatch hb).trans (t8.mono fun _ hb => nomatch hb)).trans t9
      have K9 : RefD lo h9 rb D6 vs ⟨s.fs, stepP s.p, s.ops + 1⟩ := K6.tch T9 (fun b hb => .inr (s7 b hb)) (fun _ h _ => h)
      have hl9 := K9.len
      show Wp (Abs.obind (stRow h9 1 [AV.sl h8.next 0 ((s.fs f).loose.length + 1) 3] (.ptr rb (3 * f + 2))) _) _
      refine Wp.st1 K9.row (show 3 * f + 2 < D6.length by omega) rfl fun h10 k10 t10 n10 => ?_
      rw [e29]
      have T : Tch [rb] h h10 := (((t5.mono fun _ hb => nomatch hb).trans t6).trans' T9 fun b hb => .inr (by have := s7 b hb; omega)).trans t10
      refine Wp.ret ⟨by rw [h0], T, _, _, K9.set (x := moreF (s.fs f) c) (v := .sl h8.next 0 ((s.fs f).loose.length + 1) 3) t10 (fun b hb _ => hb.1) hf k10 (by rw [List.length_set]; exact hl9) ⟨?_, ?_, ?_⟩ (fun i hi => by rw [List.getElem?_set_ne (by omega)]) (rl9.tch t10 fun b hb hm => ?_) (fun b hb => ?_)⟩
      · rw [List.getElem?_set_ne (by omega)]
        exact C.c0
      · rw [List.getElem?_set_ne (by omega)]
        exact C.c1
      · rw [List.getElem?_set_self (by omega)]
      · have h1 := List.mem_singleton.1 hb
        have h2 := List.mem_singleton.1 hm
        omega
      · have h1 : b = h8.next := List.mem_singleton.1 hb
        have h2 : h8.next < h9.next := rl9.lt _ (List.mem_singleton.2 rfl)
        refine ⟨fun hh => ?_, by omega⟩
        rcases hh.2 with h3 | h3 <;> omega
    · have e6h := a6 h0
      subst e6h
      refine Wp.iff (beq_f h0) ?_
      rw [e29, act_no h0]
      exact Wp.ret ⟨rfl, t5.mono (fun _ hb => nomatch hb), RefAt.tch ⟨D, vs, K⟩ t5 (fun _ h => nomatch h) (fun b hb _ => hb.1)⟩
  by_cases h0 : c.k = 0
  · have hll := lenS_nat c.s
    have hlu := lenS_nat (seeC s z).u
    have e1 : eC (seeC s z) c = if (1048576 : Int) - ((seeC s z).u.length : Int) < (c.s.length : Int) then 8 else 0 := if_pos h0
    refine Wp.ift (beq_t (by omega)) (Wp.obind (fldP_ptr _ _ _) (Wp.ld1 M5 g1 (Wp.obind (avStr_str _) (Wp.ld0 M5 q1 (Wp.obind (avStr_str _) (Wp.lettw (by omega) (by omega) (Wp.lett (Wp.lettG fun k60 e60 => ?_))))))))
    by_cases h1 : (1048576 : Int) - ((seeC s z).u.length : Int) < (c.s.length : Int)
    · refine Wp.ift (by rw [decide_eq_true_eq]; omega) ?_
      rw [e60]
      exact next 8 (by rw [e1, if_pos h1])
    · refine Wp.iff (by rw [decide_eq_false_iff_not]; omega) ?_
      rw [e60]
      exact next 0 (by rw [e1, if_neg h1])
  · have e1 : eC (seeC s z) c = if (seeC s z).th = false then 4 else if c.k = 1 ∧ (c.n < 0 ∨ ((seeC s z).u.length : Int) < c.n) then 5 else 0 := if_neg h0
    refine Wp.iff (beq_f (by omega)) (Wp.ld0 M5 q0 (Wp.obind (avBool_bool _) (Wp.lett (Wp.lettG fun k67 e67 => ?_))))
    cases hth : (seeC s z).th with
    | false =>
      refine Wp.ift rfl ?_
      rw [e67]
      exact next 4 (by rw [e1, if_pos hth])
    | true =>
      rw [if_neg (by rw [hth]; decide)] at e1
      refine Wp.iff rfl (Wp.obind (fldP_ptr _ _ _) (Wp.ld1 M5 g0 (Wp.obind (avInt_int _ _) (Wp.lett (Wp.lettG fun j45 e45 => ?_)))))
      have jt : (c.k = 1 ∧ (c.n < 0 ∨ ((seeC s z).u.length : Int) < c.n)) → Wp (j45 true h5) fun r h' => r = .ret (.int .i64 (errP s z c)) ∧ Tch [rb] h h' ∧ RefAt (shr lo h.next h'.next) h' rb (actD s z c) := fun hh => by
        rw [e45]
        refine Wp.lettG fun k78 e78 => Wp.ift rfl ?_
        rw [e78, e67]
        exact next 5 (by rw [e1, if_pos hh])
      have jf : (¬ (c.k = 1 ∧ (c.n < 0 ∨ ((seeC s z).u.length : Int) < c.n))) → Wp (j45 false h5) fun r h' => r = .ret (.int .i64 (errP s z c)) ∧ Tch [rb] h h' ∧ RefAt (shr lo h.next h'.next) h' rb (actD s z c) := fun hh => by
        rw [e45]
        refine Wp.lettG fun k78 e78 => Wp.iff rfl ?_
        rw [e78, e67]
        exact next 0 (by rw [e1, if_neg hh])
      by_cases h1 : c.k = 1
      · have hlu := lenS_nat (seeC s z).u
        refine Wp.ift (beq_t (by omega)) (Wp.obind (fldP_ptr _ _ _) (Wp.ld1 M5 g2 (Wp.obind (avInt_int _ _) (Wp.lett (Wp.lettG fun j44 e44 => ?_)))))
        by_cases h2 : c.n < 0
        · refine Wp.ift (by rw [decide_eq_true_eq]; exact h2) ?_
          rw [e44]
          exact jt ⟨h1, .inl h2⟩
        · refine Wp.iff (by rw [decide_eq_false_iff_not]; exact h2) (Wp.obind (fldP_ptr _ _ _) (Wp.ld1 M5 g2 (Wp.obind (avInt_int _ _) (Wp.ld0 M5 q1 (Wp.obind (avStr_str _) (Wp.lett ?_))))))
          rw [e44]
          by_cases h3 : ((seeC s z).u.length : Int) < c.n
          · rw [decide_eq_true (show c.n > lenS (seeC s z).u by omega)]
            exact jt ⟨h1, .inr h3⟩
          · rw [decide_eq_false (show ¬ c.n > lenS (seeC s z).u by omega)]
            exact jf (fun hh => by rcases hh.2 with h | h <;> omega)
      · refine Wp.iff (beq_f (by omega)) ?_
        exact jf (fun hh => h1 hh.1)
theorem bldFi (th : Bool) (u : Bytes) : bldS Try.prog TFi [(0, .agg [.bool th, strA u])] = some [.bool th, strA u, .nsl] := by kernel_rfl
theorem laid3 {l : List AV} {o : Nat} {a b c : AV} (h : o + 2 < l.length) : (laid l o [a, b, c]).length = l.length ∧ (laid l o [a, b, c])[o]? = some a ∧ (laid l o [a, b, c])[o + 1]? = some b ∧ (laid l o [a, b, c])[o + 2]? = some c ∧ ∀ i, (i < o ∨ o + 3 ≤ i) → (laid l o [a, b, c])[i]? = l[i]? := by
  have h3 : o + [a, b, c].length ≤ l.length := h
  refine ⟨laid_length h3, ?_, ?_, ?_, fun i hi => ?_⟩
  · rw [laid_get h3, if_pos ⟨Nat.le_refl _, by show o < o + 3; omega⟩, Nat.sub_self]
    rfl
  · rw [laid_get h3, if_pos ⟨by omega, by show o + 1 < o + 3; omega⟩, show o + 1 - o = 1 by omega]
    rfl
  · rw [laid_get h3, if_pos ⟨by omega, by show o + 2 < o + 3; omega⟩, show o + 2 - o = 2 by omega]
    rfl
  · rw [laid_get h3, if_neg (fun hh => by have : i < o + 3 := hh.2; omega)]
theorem row3 {K : RefD lo h rb D vs s} {f : Nat} (hf : f < 32) : ldRow h 3 (.ptr rb (3 * f)) = some (contC (s.fs f).sure ++ [vs f]) := by
  have hlen := K.len
  have C := K.cells f hf
  rw [K.row.ld (by omega)]
  congr 1
  refine List.ext_getElem? fun i => ?_
  rcases i with _ | _ | _ | i
  · rw [List.getElem?_take_of_lt (by decide), List.getElem?_drop]
    exact C.c0
  · rw [List.getElem?_take_of_lt (by decide), List.getElem?_drop]
    exact C.c1
  · rw [List.getElem?_take_of_lt (by decide), List.getElem?_drop]
    exact C.c2
  · rw [List.getElem?_eq_none (by rw [List.length_take]; omega), List.getElem?_eq_none (by show 3 ≤ _; omega)]
theorem sync_r (hn : 1000000 < n) (K : RefD lo h rb D vs s) (ho : SOk s B) (hB : B < 900000) (z : Int) :
    ∃ h', world n (d + 3) 36 [.ptr rb 0, .int .i64 z] h = some (.ret (.int .i64 (refP s.p z)), h') ∧ Tch [rb] h h' ∧ RefAt (shr lo h.next h'.next) h' rb (synD s z) := by
  suffices hK : Wp (world n (d + 3) 36 [.ptr rb 0, .int .i64 z] h) fun r h' => r = .ret (.int .i64 (refP s.p z)) ∧ Tch [rb] h h' ∧ RefAt (shr lo h.next h'.next) h' rb (synD s z) by
    obtain ⟨_, h', e, rfl, k⟩ := hK
    exact ⟨h', e, k⟩
  rw [w_ref04_Disk_Sync]
  unfold ref04_Disk_Sync
  obtain ⟨h6, e6, t6, a6, b6⟩ := step_r (n := n) (d := d + 1) (lo' := lo) K ho (by omega) z 0 (fun _ h _ => h)
  rw [← refP_step] at e6 a6 b6
  refine Wp.callN e6 (Wp.obind (avInt_int _ _) (Wp.lett (Wp.lettG fun k9 e9 => ?_)))
  by_cases h0 : refP s.p z = 0
  · obtain ⟨D6, K6, n6⟩ := b6 h0
    obtain ⟨hp, f, rfl, hf⟩ := ref_ok h0
    have es : synD s (f : Int) = ⟨upd s.fs f (synF (s.fs f)), stepP s.p, s.ops + 1⟩ := by
      unfold synD
      rw [if_pos h0, Int.toNat_natCast]
    rw [h0, es]
    have hl6 := K6.len
    have hseen := (ho.ok f hf).1
    refine Wp.ift rfl (Wp.obind (nilC_ptr _ _) (Wp.obind (fldP_ptr _ _ _) (Wp.obind (idxR hf) (Wp.obind (row3 (K := K6) hf) (Wp.obind (nilC_ptr _ _) (Wp.obind (fldP_ptr _ _ _) ?_))))))
    have e7 := seen_r (n := n) (d := d) (h := h6) hn (ho.seen hf) (by omega) (K6.rl f hf)
    rw [← hseen] at e7
    refine Wp.callN e7 (Wp.obind (avAgg_agg _) (Wp.obind (bldFi _ _) (Wp.obind (idxR hf) ?_)))
    obtain ⟨l1, l2, l3, l4, l5⟩ := laid3 (l := D6) (o := 3 * f) (a := .bool (s.fs f).seen.th) (b := strA (s.fs f).seen.u) (c := .nsl) (by omega)
    refine Wp.stN K6.row (rfl : ([.bool (s.fs f).seen.th, strA (s.fs f).seen.u, .nsl] : List AV).length = 3) (by omega) rfl fun h7 k7 t7 n7 => ?_
    rw [e9]
    exact Wp.ret ⟨by rw [h0], t6.trans t7, _, _, K6.set (x := synF (s.fs f)) (v := .nsl) t7 (fun b hb _ => hb.1) hf k7 (by rw [l1]; exact hl6) ⟨l2, l3, l4⟩ l5 (.inl ⟨rfl, rfl⟩) (fun _ hb => nomatch hb)⟩
  · have e6h := a6 h0
    subst e6h
    have es : synD s z = s := by
      unfold synD
      rw [if_neg h0]
    refine Wp.iff (beq_f h0) ?_
    rw [e9, es]
    exact Wp.ret ⟨rfl, Tch.refl _ _, RefAt.tch ⟨D, vs, K⟩ (Tch.refl [] _) (fun _ h => nomatch h) (fun b hb _ => hb.1)⟩
end
end Go.Proofs.Ytcbnpdfingfmgaa
