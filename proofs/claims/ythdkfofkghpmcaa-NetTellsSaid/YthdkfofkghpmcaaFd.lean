/- Nets: Send, Deliver, Twice, Copy; play. -/
import Derived.Test.YthdkfofkghpmcaaFc
namespace Go.Proofs.Ythdkfofkghpmcaa
open Go.RowKit Abs
def addS (s : NS) (a b : Int) (u : Bytes) : NS := ⟨s.ls ++ [⟨(s.last : Int) + 1, a, b, u⟩], s.last + 1, s.cuts⟩
def addR (s : NS) : Int × Int := if 256 ≤ s.ls.length then (0, 8) else ((s.last : Int) + 1, 0)
def addN (s : NS) (a b : Int) (u : Bytes) : NS := if 256 ≤ s.ls.length then s else addS s a b u
section
variable {lo : Nat → Prop} {n d nb mb : Nat} {h h' : AHeap} {fv v : AV} {s : NS}
theorem add_ok (K : NetAt lo h nb s) (hb : s.last < 999999) (a b : Int) (u : Bytes) : DoesN lo nb h (world n (d + 1) 34 [.ptr nb 0, .int .i64 a, .int .i64 b, strA u] h) (.tup [.int .i64 (addR s).1, .int .i64 (addR s).2]) (addN s a b u) := by
  apply DoesN.of
  have KA := K
  obtain ⟨fv, mb, K⟩ := K
  rw [w_net_Net_add]
  unfold net_Net_add
  unfold addR addN
  refine Wp.obind (nilC_ptr _ _) (Wp.obind (fldP_ptr _ _ _) (Wp.obind (RowH.cell' K.row (show [fv, AV.int .i64 (s.last : Int), .mp mb][0 + 0]? = some fv from rfl)) (Wp.obind K.fl.len (Wp.lett ?_))))
  by_cases h0 : 256 ≤ s.ls.length
  · rw [if_pos h0, if_pos h0]
    exact Wp.ift (by rw [decide_eq_true_eq]; omega) (Wp.ret ⟨rfl, [], KA, Tch.refl _ _, fun _ h => nomatch h⟩)
  · rw [if_neg h0, if_neg h0]
    refine Wp.iff (by rw [decide_eq_false_iff_not]; omega) (Wp.obind (nilC_ptr _ _) (Wp.obind (fldP_ptr _ _ _) (Wp.obind (RowH.cell' K.row (show [fv, AV.int .i64 (s.last : Int), .mp mb][0 + 1]? = some (.int .i64 (s.last : Int)) from rfl)) (Wp.obind (avInt_int _ _) (Wp.lettw (by omega) (by omega) (Wp.obind (nilC_ptr _ _) (Wp.obind (fldP_ptr _ _ _) ?_)))))))
    refine Wp.st1 K.row (show 0 + 1 < 3 by decide) rfl fun h2 k2 t2 n2 => ?_
    have k2 : RowH h2 nb TNet [fv, .int .i64 ((s.last : Int) + 1), .mp mb] := k2
    have hne : ∀ b ∈ blkV fv, b ∉ [nb] := fun b hb hm => (K.ne2 b hb).1 (List.mem_singleton.1 hm)
    have fl2 := K.fl.tch t2 hne
    refine Wp.obind (nilC_ptr _ _) (Wp.obind (fldP_ptr _ _ _) (Wp.obind (RowH.cell' k2 (show [fv, AV.int .i64 ((s.last : Int) + 1), .mp mb][0 + 0]? = some fv from rfl)) (Wp.obind (nilC_ptr _ _) (Wp.obind (fldP_ptr _ _ _) (Wp.obind (RowH.cell' k2 (show [fv, AV.int .i64 ((s.last : Int) + 1), .mp mb][0 + 1]? = some (.int .i64 ((s.last : Int) + 1)) from rfl)) (Wp.obind (avInt_int _ _) ?_))))))
    have hx2 : h2.ex = [] := by rw [t2.2.1, K.ex]
    refine Wp.mnews (Mem.nil [] h2) (bldLt _ _ _ _ _) rfl (by rw [hx2]; rfl) fun h3 M3 => ?_
    have t3 := M3.tch
    have hnb2 : nb < h2.next := Nat.lt_of_lt_of_le K.hnb t2.1
    have k3 := k2.tch t3 hnb2 (fun h => nomatch h)
    refine Wp.chk (and_t rfl (and_t (reLoad_c (by kernel_rfl) (RowH.cell' k3 (show [fv, AV.int .i64 ((s.last : Int) + 1), .mp mb][0 + 0]? = some fv from rfl))) rfl)) ?_
    obtain ⟨h4, e4, fl4, t4, lt4⟩ := (fl2.tch t3 (fun _ _ h => nomatch h)).push (l := ⟨(s.last : Int) + 1, a, b, u⟩) M3.at0.1 (by omega) (by rw [t3.2.1, hx2])
    have hnb3 : nb < h3.next := Nat.lt_of_lt_of_le hnb2 t3.1
    have k4 := k3.tch t4 hnb3 (fun hm => (K.ne2 _ hm).1 rfl)
    refine Wp.outK e4 (Wp.obind (nilC_ptr _ _) (Wp.obind (fldP_ptr _ _ _) ?_))
    show Wp (Abs.obind (stRow h4 1 [AV.sl h3.next 0 (s.ls.length + 1) 4] (.ptr nb (0 + 0))) _) _
    refine Wp.st1 k4 (show 0 + 0 < 3 by decide) rfl fun h5 k5 t5 n5 => ?_
    have k5 : RowH h5 nb TNet [.sl h3.next 0 (s.ls.length + 1) 4, .int .i64 ((s.last : Int) + 1), .mp mb] := k5
    refine Wp.obind (nilC_ptr _ _) (Wp.obind (fldP_ptr _ _ _) (Wp.obind (RowH.cell' k5 (show [AV.sl h3.next 0 (s.ls.length + 1) 4, AV.int .i64 ((s.last : Int) + 1), .mp mb][0 + 1]? = some (.int .i64 ((s.last : Int) + 1)) from rfl)) (Wp.obind (avInt_int _ _) ?_)))
    have n3 := t3.1
    have n4 := t4.1
    have T : Tch (nb :: blkV fv) h h5 := (((t2.mono fun b hb => .inl (by rw [List.mem_singleton.1 hb]; exact List.mem_cons_self)).trans (t3.mono fun _ hb => nomatch hb)).trans (t4.mono fun _ hb => .inl (List.mem_cons_of_mem _ hb))).trans (t5.mono fun b hb => .inl (by rw [List.mem_singleton.1 hb]; exact List.mem_cons_self))
    have hlen : (s.ls ++ [(⟨(s.last : Int) + 1, a, b, u⟩ : Lt)]).length = s.ls.length + 1 := by rw [List.length_append, List.length_singleton]
    refine Wp.ret ⟨rfl, nb :: blkV fv, ⟨.sl h3.next 0 (s.ls.length + 1) 4, mb, k5, by omega, fl4.tch t5 (fun b hb hm => ?_), ?_, by have := K.hmb; have := t2.1; omega, K.l1, K.l2, fun b hb => ?_, fun b hb => K.nw b (Nat.le_trans T.1 hb), by rw [T.2.1, K.ex], ?_, fun l hl => ?_, ?_, ?_⟩, T, fun b hb => ?_⟩
    · have h1 := List.mem_singleton.1 hb
      have h2 := List.mem_singleton.1 hm
      omega
    · refine map_tch T K.mp K.hmb fun hm => ?_
      rcases List.mem_cons.1 hm with e | hm
      · exact K.ne1 e.symm
      · exact (K.ne2 _ hm).2 rfl
    · rw [List.mem_singleton.1 hb]
      exact K.nw _ (Nat.le_trans t2.1 n3)
    · show (s.ls ++ [(⟨(s.last : Int) + 1, a, b, u⟩ : Lt)]).Pairwise _
      rw [List.pairwise_append]
      refine ⟨K.srt, List.pairwise_singleton _ _, fun x hx y hy => ?_⟩
      rw [List.mem_singleton.1 hy]
      have := (K.bnd x hx).2
      show x.id < (s.last : Int) + 1
      omega
    · have hl : l ∈ s.ls ++ [(⟨(s.last : Int) + 1, a, b, u⟩ : Lt)] := hl
      show 1 ≤ l.id ∧ l.id ≤ ((s.last + 1 : Nat) : Int)
      rcases List.mem_append.1 hl with hl | hl
      · have := K.bnd l hl
        omega
      · rw [List.mem_singleton.1 hl]
        show 1 ≤ (s.last : Int) + 1 ∧ (s.last : Int) + 1 ≤ _
        omega
    · show (s.ls ++ [(⟨(s.last : Int) + 1, a, b, u⟩ : Lt)]).length ≤ 256
      omega
    · show s.last + 1 ≤ 1000000
      omega
    · rcases List.mem_cons.1 hb with hb | hb
      · rw [hb]
        exact K.l1
      · exact K.l3 b hb
def sendR (s : NS) (a b : Int) (u : Bytes) : Int × Int := if addr a ∧ addr b then (if 4108 < u.length then (0, 3) else if lnk a b ∈ s.cuts then (0, 50) else addR s) else (0, 2)
def sendN (s : NS) (a b : Int) (u : Bytes) : NS := if addr a ∧ addr b then (if 4108 < u.length then s else if lnk a b ∈ s.cuts then s else addN s a b u) else s
theorem send_ok (K : NetAt lo h nb s) (hb : s.last < 999999) (a b : Int) (u : Bytes) : DoesN lo nb h (world n (d + 3) 18 [.ptr nb 0, .int .i64 a, .int .i64 b, strA u] h) (.tup [.int .i64 (sendR s a b u).1, .int .i64 (sendR s a b u).2]) (sendN s a b u) := by
  apply DoesN.of
  rw [w_net_Net_Send]
  unfold net_Net_Send
  have hlu := lenS_nat u
  refine Wp.outK (eqNet nb 0 h) (Wp.obind (avBool_bool _) (Wp.iff rfl (Wp.callN (isAddress_w a) (Wp.obind (avBool_bool _) (Wp.lett (Wp.lettG fun j21 ej => ?_))))))
  have bad : ¬ (addr a ∧ addr b) → Wp (j21 true h) fun r h' => r = .ret (.tup [.int .i64 (sendR s a b u).1, .int .i64 (sendR s a b u).2]) ∧ ∃ S, NetAt lo h' nb (sendN s a b u) ∧ Tch S h h' ∧ ∀ b ∈ S, lo b := fun hh => by
    rw [ej]
    unfold sendR sendN
    rw [if_neg hh, if_neg hh]
    exact Wp.ift rfl (Wp.ret ⟨rfl, [], K, Tch.refl _ _, fun _ h => nomatch h⟩)
  by_cases h1 : addr a
  · rw [decide_eq_true h1]
    refine Wp.iff rfl (Wp.callN (isAddress_w b) (Wp.obind (avBool_bool _) (Wp.lett ?_)))
    by_cases h2 : addr b
    · rw [decide_eq_true h2, ej]
      unfold sendR sendN
      rw [if_pos (show addr a ∧ addr b from ⟨h1, h2⟩), if_pos (show addr a ∧ addr b from ⟨h1, h2⟩)]
      refine Wp.iff rfl (Wp.lett ?_)
      by_cases h3 : 4108 < u.length
      · rw [if_pos h3, if_pos h3]
        exact Wp.ift (by rw [decide_eq_true_eq]; omega) (Wp.ret ⟨rfl, [], K, Tch.refl _ _, fun _ h => nomatch h⟩)
      · rw [if_neg h3, if_neg h3]
        obtain ⟨h4, e4, t4⟩ := isCut_w (n := n) (d := d) K a b
        have K4 := K.tch t4 (fun _ h => nomatch h)
        refine Wp.iff (by rw [decide_eq_false_iff_not]; omega) (Wp.callN e4 (Wp.obind (avBool_bool _) ?_))
        by_cases h5 : lnk a b ∈ s.cuts
        · rw [if_pos h5, if_pos h5]
          exact Wp.ift (decide_eq_true h5) (Wp.ret ⟨rfl, [], K4, t4, fun _ h => nomatch h⟩)
        · rw [if_neg h5, if_neg h5]
          obtain ⟨h6, S, e6, K6, t6, hS⟩ := add_ok (n := n) (d := d + 1) K4 hb a b u
          refine Wp.iff (decide_eq_false h5) (Wp.callN e6 (Wp.obind (extT_0 _ _) (Wp.obind (avInt_int _ _) (Wp.obind (extT_1 _ _ _) (Wp.obind (avInt_int _ _) ?_)))))
          exact Wp.ret ⟨rfl, S, K6, (t4.mono fun _ hb => nomatch hb).trans t6, hS⟩
    · rw [decide_eq_false h2]
      exact bad (fun h => h2 h.2)
  · rw [decide_eq_false h1]
    exact Wp.ift rfl (bad (fun h => h1 h.1))
abbrev zeroL : Lt := ⟨0, 0, 0, []⟩
def delR (s : NS) (z : Int) : Lt × Int := match fnd s.ls z with
  | some k => (s.ls.getD k zeroL, 0)
  | none => (zeroL, 4)
def delN (s : NS) (z : Int) : NS := match fnd s.ls z with
  | some k => ⟨s.ls.eraseIdx k, s.last, s.cuts⟩
  | none => s
theorem fnd_lt {ls : List Lt} {z : Int} {k : Nat} (h : fnd ls z = some k) : ∃ hk : k < ls.length, ls[k].id = z := by
  unfold fnd at h
  obtain ⟨hk, h1, _⟩ := List.findIdx?_eq_some_iff_getElem.1 h
  exact ⟨hk, of_decide_eq_true h1⟩
theorem getD_lt {ls : List Lt} {k : Nat} (hk : k < ls.length) : ls.getD k zeroL = ls[k] := by
  rw [List.getD_eq_getElem?_getD, List.getElem?_eq_getElem hk]
  rfl
theorem deliver_ok (hn : 1000000 < n) (K : NetAt lo h nb s) (z : Int) : DoesN lo nb h (world n (d + 6) 22 [.ptr nb 0, .int .i64 z] h) (.tup [.agg (letC (delR s z).1), .int .i64 (delR s z).2]) (delN s z) := by
  apply DoesN.of
  obtain ⟨fv, mb, K⟩ := K
  rw [w_net_Net_Deliver]
  unfold net_Net_Deliver
  refine Wp.mnew (Mem.nil [] h) fun h2 M2 => ?_
  have t2 := M2.tch
  have K2 := K.tch t2 (fun _ h => nomatch h)
  refine Wp.callN (find_w (n := n) (d := d) hn K2 z) ?_
  unfold findV delR delN
  cases hf : fnd s.ls z with
  | none =>
    refine Wp.obind (extT_0 _ _) (Wp.obind (avInt_int _ _) (Wp.obind (extT_1 _ _ _) (Wp.obind (avInt_int _ _) (Wp.lett (Wp.ift rfl ?_)))))
    rw [newP_eq]
    refine Wp.sa0 M2 rfl rfl rfl fun h3 M3 => Wp.lr0 M3 rfl ?_
    exact Wp.ret ⟨rfl, [], ⟨fv, mb, K.tch M3.tch (fun _ h => nomatch h)⟩, M3.tch, fun _ h => nomatch h⟩
  | some k =>
    obtain ⟨hk, hz⟩ := fnd_lt hf
    have hkl := K.len
    have c0 : [fv, AV.int .i64 (s.last : Int), .mp mb][0 + 0]? = some fv := rfl
    obtain ⟨p, i1, r1⟩ := K2.fl.row hk
    refine Wp.obind (extT_0 _ _) (Wp.obind (avInt_int _ _) (Wp.obind (extT_1 _ _ _) (Wp.obind (avInt_int _ _) (Wp.lett (Wp.iff rfl ?_)))))
    refine Wp.obind (nilC_ptr _ _) (Wp.obind (fldP_ptr _ _ _) (Wp.obind (RowH.cell' K2.row c0) (Wp.obind i1 (Wp.obind r1 (Wp.mnew M2 fun h3 M3 => ?_)))))
    rw [newP_eq, newP_eq]
    refine Wp.sa0 M3 rfl rfl rfl fun h4 M4 => ?_
    have t4 := M4.tch
    have K4 := K.tch t4 (fun _ h => nomatch h)
    refine Wp.obind (nilC_ptr _ _) (Wp.obind (fldP_ptr _ _ _) (Wp.obind (RowH.cell' K4.row c0) (Wp.lettw (by omega) (by omega) ?_)))
    obtain ⟨h5, v5, e5, fl5, t5, b5, n5⟩ := K4.fl.del (n := n) (d := d + 4) hk
    refine Wp.callN e5 (Wp.obind (nilC_ptr _ _) (Wp.obind (fldP_ptr _ _ _) ?_))
    rw [fl5.one.2]
    have k5 := K4.row.tch t5 K4.hnb (fun hm => (K4.ne2 _ hm).1 rfl)
    refine Wp.st1 k5 (show 0 + 0 < 3 by decide) fl5.one.1 fun h6 k6 t6 n6 => ?_
    have k6 : RowH h6 nb TNet [v5, .int .i64 (s.last : Int), .mp mb] := k6
    have hbx2 : h2.next < h4.next := M4.at0.2.1
    have hbx1 : h.next < h4.next := M4.at1.2.1
    have hl2 := M2.at0.2.1
    have hb2 : RowH h6 h2.next TLet (letC s.ls[k]) := (M4.at0.1.tch t5 hbx2 (fun hm => by have := K.fl.lt _ hm; omega)).tch t6 (by omega) (fun hm => by have := List.mem_singleton.1 hm; have := K.hnb; omega)
    have hb1 : RowH h6 h.next TLet [.int .i64 0, .int .i64 0, .int .i64 0, .str 0 0] := (M4.at1.1.tch t5 hbx1 (fun hm => by have := K.fl.lt _ hm; omega)).tch t6 (by omega) (fun hm => by have := List.mem_singleton.1 hm; have := K.hnb; omega)
    refine Wp.obind (RowH.ldAll hb2 rfl) (Wp.stAll hb1 rfl rfl rfl fun h7 k7 t7 n7 => Wp.obind (RowH.ldAll k7 rfl) ?_)
    have T : Tch (nb :: blkV fv) h h7 := (((t4.mono fun _ hb => nomatch hb).trans (t5.mono fun _ hb => .inl (List.mem_cons_of_mem _ hb))).trans (t6.mono fun b hb => .inl (by rw [List.mem_singleton.1 hb]; exact List.mem_cons_self))).trans' t7 fun b hb => .inr (by rw [List.mem_singleton.1 hb]; exact Nat.le_refl _)
    have hnbn : nb < h.next := K.hnb
    refine Wp.ret ⟨by show ARes.ret (.tup [.agg (letC s.ls[k]), .int .i64 0]) = ARes.ret (.tup [.agg (letC (s.ls.getD k zeroL)), .int .i64 0]); rw [getD_lt hk], nb :: blkV fv, ⟨v5, mb, k6.tch t7 (by omega) (fun hm => by have := List.mem_singleton.1 hm; omega), by omega, (fl5.tch t6 (fun b hb hm => ?_)).tch t7 (fun b hb hm => ?_), ?_, by have := K.hmb; omega, K.l1, K.l2, fun b hb => K.l3 b (by rw [← b5]; exact hb), fun b hb => K.nw b (Nat.le_trans T.1 hb), by rw [T.2.1, K.ex], K.srt.sublist (List.eraseIdx_sublist ..), fun l hl => K.bnd l ((List.eraseIdx_sublist ..).mem hl), ?_, K.big⟩, T, fun b hb => ?_⟩
    · rw [b5] at hb
      exact (K.ne2 b hb).1 (List.mem_singleton.1 hm)
    · rw [b5] at hb
      have h1 := K.fl.lt b hb
      have h2 := List.mem_singleton.1 hm
      omega
    · refine map_tch T K.mp K.hmb fun hm => ?_
      rcases List.mem_cons.1 hm with e | hm
      · exact K.ne1 e.symm
      · exact (K.ne2 _ hm).2 rfl
    · show (s.ls.eraseIdx k).length ≤ 256
      rw [List.length_eraseIdx_of_lt hk]
      omega
    · rcases List.mem_cons.1 hb with hb | hb
      · rw [hb]
        exact K.l1
      · exact K.l3 b hb
theorem drop_ok (hn : 1000000 < n) (K : NetAt lo h nb s) (z : Int) : DoesN lo nb h (world n (d + 7) 21 [.ptr nb 0, .int .i64 z] h) (.int .i64 (delR s z).2) (delN s z) := by
  apply DoesN.of
  rw [w_net_Net_Drop]
  unfold net_Net_Drop
  obtain ⟨h2, S, e2, K2, t2, hS⟩ := deliver_ok (n := n) (d := d) hn K z
  refine Wp.callN e2 (Wp.obind (extT_0 _ _) (Wp.obind (avAgg_agg _) (Wp.obind (extT_1 _ _ _) (Wp.obind (avInt_int _ _) (Wp.mnew (Mem.nil [] h2) fun h3 M3 => ?_)))))
  rw [newP_eq]
  refine Wp.sa0 M3 rfl rfl rfl fun h4 M4 => ?_
  exact Wp.ret ⟨rfl, S, K2.tch M4.tch (fun _ h => nomatch h), t2.trans (M4.tch.mono fun _ hb => nomatch hb), hS⟩
def twR (s : NS) (z : Int) : Int × Int := match fnd s.ls z with
  | some _ => addR s
  | none => (0, 4)
def twN (s : NS) (z : Int) : NS := match fnd s.ls z with
  | some k => addN s (s.ls.getD k zeroL).a (s.ls.getD k zeroL).b (s.ls.getD k zeroL).s
  | none => s
theorem twice_ok (hn : 1000000 < n) (K : NetAt lo h nb s) (hb : s.last < 999999) (z : Int) : DoesN lo nb h (world n (d + 6) 19 [.ptr nb 0, .int .i64 z] h) (.tup [.int .i64 (twR s z).1, .int .i64 (twR s z).2]) (twN s z) := by
  apply DoesN.of
  have KA := K
  obtain ⟨fv, mb, K⟩ := K
  rw [w_net_Net_Twice]
  unfold net_Net_Twice
  refine Wp.callN (find_w (n := n) (d := d) hn K z) ?_
  unfold findV twR twN
  cases hf : fnd s.ls z with
  | none =>
    refine Wp.obind (extT_0 _ _) (Wp.obind (avInt_int _ _) (Wp.obind (extT_1 _ _ _) (Wp.obind (avInt_int _ _) (Wp.lett (Wp.ift rfl ?_)))))
    exact Wp.ret ⟨rfl, [], KA, Tch.refl _ _, fun _ h => nomatch h⟩
  | some k =>
    obtain ⟨hk, hz⟩ := fnd_lt hf
    obtain ⟨p, i1, r1⟩ := K.fl.row hk
    refine Wp.obind (extT_0 _ _) (Wp.obind (avInt_int _ _) (Wp.obind (extT_1 _ _ _) (Wp.obind (avInt_int _ _) (Wp.lett (Wp.iff rfl ?_)))))
    refine Wp.obind (nilC_ptr _ _) (Wp.obind (fldP_ptr _ _ _) (Wp.obind (RowH.cell' K.row (show [fv, AV.int .i64 (s.last : Int), .mp mb][0 + 0]? = some fv from rfl)) (Wp.obind i1 (Wp.obind r1 (Wp.mnew (Mem.nil [] h) fun h3 M3 => ?_)))))
    rw [newP_eq]
    refine Wp.sa0 M3 rfl rfl rfl fun h4 M4 => ?_
    have t4 := M4.tch
    have K4 := KA.tch t4 (fun _ h => nomatch h)
    obtain ⟨h5, S, e5, K5, t5, hS⟩ := add_ok (n := n) (d := d + 4) K4 hb (s.ls[k]).a (s.ls[k]).b (s.ls[k]).s
    refine Wp.ld0 M4 (show (letC s.ls[k])[1]? = some (.int .i64 (s.ls[k]).a) from rfl) (Wp.obind (avInt_int _ _) (Wp.ld0 M4 (show (letC s.ls[k])[2]? = some (.int .i64 (s.ls[k]).b) from rfl) (Wp.obind (avInt_int _ _) (Wp.ld0 M4 (show (letC s.ls[k])[3]? = some (strA (s.ls[k]).s) from rfl) (Wp.obind (avStr_str _) (Wp.callN e5 ?_))))))
    refine Wp.obind (extT_0 _ _) (Wp.obind (avInt_int _ _) (Wp.obind (extT_1 _ _ _) (Wp.obind (avInt_int _ _) ?_)))
    refine Wp.ret ⟨rfl, S, ?_, (t4.mono fun _ hb => nomatch hb).trans t5, hS⟩
    show NetAt lo h5 nb (addN s (s.ls.getD k zeroL).a (s.ls.getD k zeroL).b (s.ls.getD k zeroL).s)
    rw [getD_lt hk]
    exact K5
theorem flight_ok (K : NetAt lo h nb s) : ∃ h' v, world n (d + 2) 15 [.ptr nb 0] h = some (.ret v, h') ∧ LAt h' v s.ls ∧ Tch [] h h' ∧ ∀ b ∈ blkV v, h.next ≤ b := by
  suffices hK : Wp (world n (d + 2) 15 [.ptr nb 0] h) fun r h' => ∃ v, r = .ret v ∧ LAt h' v s.ls ∧ Tch [] h h' ∧ ∀ b ∈ blkV v, h.next ≤ b by
    obtain ⟨_, h', e, v, rfl, k⟩ := hK
    exact ⟨h', v, e, k⟩
  obtain ⟨fv, mb, K⟩ := K
  rw [w_net_Net_Flight]
  unfold net_Net_Flight
  have := K.len
  obtain ⟨h2, v2, e2, k2, t2, b2⟩ := clone_ok (n := n) (d := d) K.fl K.ex (by omega)
  refine Wp.outK (eqNet nb 0 h) (Wp.obind (avBool_bool _) (Wp.iff rfl (Wp.obind (nilC_ptr _ _) (Wp.obind (fldP_ptr _ _ _) (Wp.obind (RowH.cell' K.row (show [fv, AV.int .i64 (s.last : Int), .mp mb][0 + 0]? = some fv from rfl)) (Wp.callN e2 ?_))))))
  exact Wp.ret ⟨v2, rfl, k2, t2, b2⟩
theorem eqMap (b : Nat) (h : AHeap) : opBin Try.prog h .eql TMap true (some (.mp b)) (some AV.nmp) = some (.val (.bool false), h) := by kernel_rfl
theorem cloneMap_w (c : List (Int × Int)) (hm : h.get mb = some (.map (esOf c))) : world n (d + 1) 31 [.mp mb] h = some (.ret (.mp h.next), h.new (.map (esOf c))) := by
  apply Wp.eq
  rw [w_maps_Clone_map_net_link_struct___net_link_struct___]
  unfold maps_Clone_map_net_link_struct___net_link_struct___
  have e1 : externM Try.prog h 43 [.ifc TMap (.mp mb)] = cloneM h [.ifc TMap (.mp mb)] := by kernel_rfl
  have e2 : cloneM h [.ifc TMap (.mp mb)] = some (.val (.ifc TMap (.mp h.next)), h.new (.map (esOf c))) := by
    unfold cloneM
    dsimp only
    rw [hm]
  have e3 : ∀ (b : Nat) (H : AHeap), opAssert Try.prog H TMap false (some (.ifc TMap (.mp b))) = some (.val (.mp b), H) := fun b H => by kernel_rfl
  refine Wp.outK (eqMap mb h) (Wp.obind (avBool_bool _) (Wp.iff rfl (Wp.outK (e1.trans e2) (Wp.outK (e3 _ _) ?_))))
  exact Wp.ret ⟨rfl, rfl⟩
theorem copy_ok (K : NetAt lo h nb s) : ∃ h' nb', world n (d + 3) 17 [.ptr nb 0] h = some (.ret (.ptr nb' 0), h') ∧ NetAt (fun b => h.next ≤ b) h' nb' s ∧ Tch [] h h' ∧ h.next ≤ nb' := by
  suffices hK : Wp (world n (d + 3) 17 [.ptr nb 0] h) fun r h' => ∃ nb', r = .ret (.ptr nb' 0) ∧ NetAt (fun b => h.next ≤ b) h' nb' s ∧ Tch [] h h' ∧ h.next ≤ nb' by
    obtain ⟨_, h', e, nb', rfl, k⟩ := hK
    exact ⟨h', nb', e, k⟩
  obtain ⟨h2, v2, e2, k2, t2, b2⟩ := flight_ok (n := n) (d := d) K
  obtain ⟨fv, mb, K⟩ := K
  rw [w_net_Net_Copy]
  unfold net_Net_Copy
  have c1 : [fv, AV.int .i64 (s.last : Int), .mp mb][0 + 1]? = some (.int .i64 (s.last : Int)) := rfl
  have c2 : [fv, AV.int .i64 (s.last : Int), .mp mb][0 + 2]? = some (.mp mb) := rfl
  refine Wp.outK (eqNet nb 0 h) (Wp.obind (avBool_bool _) (Wp.iff rfl (Wp.obind (nilC_ptr _ _) (Wp.obind (fldP_ptr _ _ _) (Wp.obind (RowH.cell' K.row c1) (Wp.obind (avInt_int _ _) (Wp.obind (nilC_ptr _ _) (Wp.obind (fldP_ptr _ _ _) (Wp.obind (RowH.cell' K.row c2) (Wp.callN e2 ?_))))))))))
  have K2 := K.tch t2 (fun _ h => nomatch h)
  refine Wp.chk (and_t (reLoad_c (by kernel_rfl) (RowH.cell' K2.row c2)) (and_t (reLoad_c (by kernel_rfl) (RowH.cell' K2.row c1)) rfl)) (Wp.callN (cloneMap_w s.cuts K2.mp) ?_)
  have t3 : Tch [] h2 (h2.new (.map (esOf s.cuts))) := Tch.new _ _ _
  have K3 := K2.tch t3 (fun _ h => nomatch h)
  have n2 := t2.1
  have n3 := t3.1
  have k3 := k2.tch t3 (fun _ _ h => nomatch h)
  have hb : bldS Try.prog TNet [(0, v2), (1, .int .i64 (s.last : Int)), (2, .mp h2.next)] = some [v2, .int .i64 (s.last : Int), .mp h2.next] := by
    rcases k2 with ⟨rfl, _⟩ | ⟨c, rest, rfl, _⟩ <;> kernel_rfl
  refine Wp.chk (and_t rfl (and_t (reLoad_c (by kernel_rfl) (RowH.cell' K3.row c1)) rfl)) (Wp.obind hb (Wp.outK (box_agg (by
    show (v2.one && (true && (true && true))) = true
    rw [k2.one.1]
    rfl)) ?_))
  have t4 : Tch [] (h2.new (.map (esOf s.cuts))) (newH (h2.new (.map (esOf s.cuts))) TNet [v2, .int .i64 (s.last : Int), .mp h2.next]) := Tch.newH _ _ _ _
  have T := (t2.trans t3).trans t4
  have lt3 : h2.next < (h2.new (.map (esOf s.cuts))).next := Nat.lt_succ_self _
  refine Wp.ret ⟨_, rfl, ⟨v2, h2.next, RowH.new _ _ _, Nat.lt_succ_self _, k3.tch t4 (fun _ _ h => nomatch h), map_tch t4 (get_new_same _) lt3 (fun h => nomatch h), Nat.lt_of_lt_of_le lt3 t4.1, by omega, n2, b2, fun b hb => Nat.le_trans T.1 hb, by rw [T.2.1, K.ex], K.srt, K.bnd, K.len, K.big⟩, T, by omega⟩
end
end Go.Proofs.Ythdkfofkghpmcaa
