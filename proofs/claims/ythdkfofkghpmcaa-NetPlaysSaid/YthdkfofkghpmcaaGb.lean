/- The reference: find, cut, put. -/
import Derived.Test.YthdkfofkghpmcaaGa
namespace Go.Proofs.Ythdkfofkghpmcaa
open Go.RowKit Abs
theorem LsAt.cell {e sz : Nat} {h : AHeap} {v : AV} {cs : List (List AV)} (k : LsAt e sz h v cs) (hx : ∀ b m i : Nat, i < m → idxP sz (.sl b 0 m sz) (i : Int) = some (.ptr b (0 + i * sz))) {i : Nat} (hi : i < cs.length) : ∃ b o, idxP sz v (i : Int) = some (.ptr b o) ∧ ldRow h sz (.ptr b o) = some cs[i] ∧ ∀ j w, cs[i][j]? = some w → ldCell h (.ptr b (o + j)) = some w := by
  obtain ⟨⟨rfl, rfl⟩ | ⟨c, rest, rfl, h2, h3⟩, hr⟩ := k
  · exact absurd hi (Nat.not_lt_zero _)
  · have hl := hr.len
    have hp := flat_part (sz := sz) cs i hi (fun r h => (hr r h).1)
    have hb : i * sz + sz ≤ cs.length * sz := by
      rw [← Nat.succ_mul]
      exact Nat.mul_le_mul_right _ hi
    refine ⟨c, _, hx c _ _ hi, ?_, fun j w hw => ?_⟩
    · rw [h2.ld (by rw [List.length_append]; omega), Nat.zero_add]
      congr 1
      rw [List.drop_append_of_le_length (by omega), List.take_append_of_le_length (by rw [List.length_drop]; omega)]
      exact hp
    · have hj : j < sz := by
        have h1 := (hr cs[i] (List.getElem_mem hi)).1
        obtain ⟨h2, _⟩ := List.getElem?_eq_some_iff.1 hw
        omega
      refine RowH.cell' h2 ?_
      rw [← hp, List.getElem?_take_of_lt hj, List.getElem?_drop] at hw
      rw [Nat.zero_add, List.getElem?_append_left (by omega)]
      exact hw
def posO (i : Nat) : Option Nat → Int
  | none => -1
  | some k => ((i + k : Nat) : Int)
theorem posO_succ (i : Nat) (o : Option Nat) : posO i (o.map (· + 1)) = posO (i + 1) o := by
  cases o with
  | none => rfl
  | some k =>
    show ((i + (k + 1) : Nat) : Int) = ((i + 1 + k : Nat) : Int)
    congr 1
    omega
def posC (cs : List (Int × Int)) (a b : Int) : Option Nat := cs.findIdx? fun p => decide (lk p = lnk a b)
theorem lk_iff {c : Int × Int} {a b : Int} : lk c = lnk a b ↔ (c.1 = a ∧ c.2 = b) ∨ (c.1 = b ∧ c.2 = a) := lnk_iff
theorem bldArr (a b : Int) : bldS Try.prog TArr [(0, .int .i64 a), (1, .int .i64 b)] = some [.int .i64 a, .int .i64 b] := by kernel_rfl
section
variable {ro : Nat → Prop} {n d bb : Nat} {h H : AHeap} {lv cv : AV} {s : NS} {cs : List (Int × Int)} {Q : ARes → AHeap → Prop} {k7 : AHeap → R} {z r0 a b : Int}
theorem CAt.len (k : CAt h cv cs) : lenL cv = some (cs.length : Int) := by
  have := LsAt.len k
  rw [List.length_map] at this
  exact this
theorem RefN.tch {h' : AHeap} (K : RefN ro h lv cv s cs) (t : Tch [] h h') : RefN ro h' lv cv s cs := ⟨K.l.tch t (fun _ _ h => nomatch h), LsAt.tch K.c t (fun _ _ h => nomatch h), K.e, K.n, K.r1, K.r2, fun b hb => K.nw b (Nat.le_trans t.1 hb)⟩
theorem RefN.one (K : RefN ro h lv cv s cs) : (refC lv cv s).all AV.one = true := by
  show (lv.one && (cv.one && (true && true))) = true
  rw [K.l.one.1, (LsAt.one K.c).1]
  rfl
theorem find_loop (kb : RowH H bb TRef (refC lv cv s)) (kl : LAt H lv s.ls) (hl : s.ls.length ≤ 256) (hk : r0 = -1 → Wp (k7 H) Q) (hq : Q (.ret (.int .i64 r0)) H) : ∀ (todo : List Lt) (i fu : Nat), s.ls.drop i = todo → todo.length < fu → posO i (todo.findIdx? fun l => decide (l.id = z)) = r0 → Wp (ref05_find_L0 z (.ptr bb 0) k7 fu (i : Int) H) Q
  | _, _, 0, _, hf, _ => by omega
  | [], i, fu + 1, hd, _, he => by
    have := dropN hd
    have he : (-1 : Int) = r0 := he
    rw [ref05_find_L0_s]
    unfold ref05_find_L0b
    exact Wp.obind (fldP_ptr _ _ _) (Wp.obind (RowH.cell' kb (show (refC lv cv s)[0 + 0]? = some lv from rfl)) (Wp.obind kl.len (Wp.lett (Wp.iff (by rw [decide_eq_false_iff_not]; omega) (hk he.symm)))))
  | c :: todo, i, fu + 1, hd, hf, he => by
    obtain ⟨hi, hci, hd2⟩ := dropC hd
    rw [List.length_cons] at hf
    obtain ⟨b, o, i1, _, cl⟩ := kl.rows.cell (fun b m i h => idx4 h) (i := i) (by rw [List.length_map]; exact hi)
    have c0 := cl 0 (.int .i64 c.id) (by rw [List.getElem_map, hci]; rfl)
    rw [ref05_find_L0_s]
    unfold ref05_find_L0b
    refine Wp.obind (fldP_ptr _ _ _) (Wp.obind (RowH.cell' kb (show (refC lv cv s)[0 + 0]? = some lv from rfl)) (Wp.obind kl.len (Wp.lett (Wp.ift (by rw [decide_eq_true_eq]; omega) ?_))))
    refine Wp.obind (fldP_ptr _ _ _) (Wp.obind (RowH.cell' kb (show (refC lv cv s)[0 + 0]? = some lv from rfl)) (Wp.obind i1 (Wp.obind (fldP_ptr _ _ _) (Wp.obind c0 (Wp.obind (avInt_int _ _) (Wp.lett ?_))))))
    rw [List.findIdx?_cons] at he
    by_cases hid : c.id = z
    · rw [if_pos (decide_eq_true hid)] at he
      have he : (i : Int) = r0 := he
      refine Wp.ift (beq_t hid) (Wp.ret ?_)
      rw [he]
      exact hq
    · rw [if_neg (by rw [decide_eq_true_eq]; exact hid), posO_succ] at he
      refine Wp.iff (beq_f hid) (Wp.lettw (by omega) (by omega) ?_)
      rw [show (i : Int) + 1 = ((i + 1 : Nat) : Int) by omega]
      exact find_loop kb kl hl hk hq todo (i + 1) fu hd2 (by omega) he
theorem rfind_w (hn : 1000000 < n) (K : RefN ro h lv cv s cs) (hl : s.ls.length ≤ 256) (z : Int) : world n (d + 1) 42 [.agg (refC lv cv s), .int .i64 z] h = some (.ret (.int .i64 (posO 0 (fnd s.ls z))), h) := by
  apply Wp.eq
  rw [w_ref05_find]
  refine Wp.gc ?_
  suffices hK : Wp (ref05_find (world n d) n (refC lv cv s) z h) fun r h' => r = .ret (.int .i64 (posO 0 (fnd s.ls z))) ∧ Tch [] h h' from hK.mono fun r h' ⟨e, t⟩ => ⟨t.above, by rw [e]; rfl, e, rfl⟩
  unfold ref05_find
  refine Wp.mbox (Mem.nil [] h) K.one fun h2 M2 => Wp.lettG fun k7 e7 => ?_
  refine find_loop M2.at0.1 (K.tch M2.tch).l hl (fun he => ?_) ⟨rfl, M2.tch⟩ s.ls 0 n List.drop_zero (by omega) rfl
  replace he : posO 0 (fnd s.ls z) = -1 := he
  rw [e7]
  exact Wp.ret ⟨by rw [he], M2.tch⟩
theorem cut_loop (kb : RowH H bb TRef (refC lv cv s)) (kc : CAt H cv cs) (hl : cs.length ≤ 1000000) (hk : r0 = -1 → Wp (k7 H) Q) (hq : Q (.ret (.int .i64 r0)) H) : ∀ (todo : List (Int × Int)) (i fu : Nat), cs.drop i = todo → todo.length < fu → posO i (posC todo a b) = r0 → Wp (ref05_cut_L0 a b (.ptr bb 0) k7 fu (i : Int) H) Q
  | _, _, 0, _, hf, _ => by omega
  | [], i, fu + 1, hd, _, he => by
    have := dropN hd
    have he : (-1 : Int) = r0 := he
    rw [ref05_cut_L0_s]
    unfold ref05_cut_L0b
    exact Wp.obind (fldP_ptr _ _ _) (Wp.obind (RowH.cell' kb (show (refC lv cv s)[0 + 1]? = some cv from rfl)) (Wp.obind kc.len (Wp.lett (Wp.iff (by rw [decide_eq_false_iff_not]; omega) (hk he.symm)))))
  | c :: todo, i, fu + 1, hd, hf, he => by
    obtain ⟨hi, hci, hd2⟩ := dropC hd
    rw [List.length_cons] at hf
    obtain ⟨b', o, i1, r1, _⟩ := LsAt.cell kc (fun b m i h => idx2 b m i h) (i := i) (by rw [List.length_map]; exact hi)
    rw [List.getElem_map, hci] at r1
    have hcv := RowH.cell' kb (show (refC lv cv s)[0 + 1]? = some cv from rfl)
    rw [ref05_cut_L0_s]
    unfold ref05_cut_L0b
    refine Wp.obind (fldP_ptr _ _ _) (Wp.obind hcv (Wp.obind kc.len (Wp.lett (Wp.ift (by rw [decide_eq_true_eq]; omega) ?_))))
    refine Wp.obind (fldP_ptr _ _ _) (Wp.obind hcv (Wp.obind i1 (Wp.obind r1 (Wp.obind (bldArr _ _) (Wp.obind (eqArr _ _ _ _) (Wp.lettG fun j34 e34 => ?_))))))
    have he : posO i (if decide (lk c = lnk a b) = true then some 0 else (posC todo a b).map (· + 1)) = r0 := by
      rw [← he]
      unfold posC
      rw [List.findIdx?_cons]
    have yes : lk c = lnk a b → Wp (j34 true H) Q := fun hh => by
      rw [if_pos (decide_eq_true hh)] at he
      have he : (i : Int) = r0 := he
      rw [e34]
      refine Wp.ift rfl (Wp.ret ?_)
      rw [he]
      exact hq
    by_cases h1 : c.1 = a ∧ c.2 = b
    · exact Wp.ift (decide_eq_true h1) (yes (lk_iff.2 (.inl h1)))
    · refine Wp.iff (decide_eq_false h1) (Wp.obind (fldP_ptr _ _ _) (Wp.obind hcv (Wp.obind i1 (Wp.obind r1 (Wp.obind (bldArr _ _) (Wp.obind (eqArr _ _ _ _) ?_))))))
      by_cases h2 : c.1 = b ∧ c.2 = a
      · rw [decide_eq_true h2]
        exact yes (lk_iff.2 (.inr h2))
      · rw [decide_eq_false h2, e34]
        have hne : ¬ lk c = lnk a b := fun hh => (lk_iff.1 hh).elim h1 h2
        rw [if_neg (by rw [decide_eq_true_eq]; exact hne), posO_succ] at he
        refine Wp.iff rfl (Wp.lettw (by omega) (by omega) ?_)
        rw [show (i : Int) + 1 = ((i + 1 : Nat) : Int) by omega]
        exact cut_loop kb kc hl hk hq todo (i + 1) fu hd2 (by omega) he
theorem rcut_w (hn : 1000000 < n) (K : RefN ro h lv cv s cs) (a b : Int) : world n (d + 1) 40 [.agg (refC lv cv s), .int .i64 a, .int .i64 b] h = some (.ret (.int .i64 (posO 0 (posC cs a b))), h) := by
  apply Wp.eq
  rw [w_ref05_cut]
  refine Wp.gc ?_
  suffices hK : Wp (ref05_cut (world n d) n (refC lv cv s) a b h) fun r h' => r = .ret (.int .i64 (posO 0 (posC cs a b))) ∧ Tch [] h h' from hK.mono fun r h' ⟨e, t⟩ => ⟨t.above, by rw [e]; rfl, e, rfl⟩
  unfold ref05_cut
  refine Wp.mbox (Mem.nil [] h) K.one fun h2 M2 => Wp.lettG fun k7 e7 => ?_
  have := K.n
  refine cut_loop M2.at0.1 (K.tch M2.tch).c K.n (fun he => ?_) ⟨rfl, M2.tch⟩ cs 0 n List.drop_zero (by omega) rfl
  rw [e7]
  exact Wp.ret ⟨by rw [he], M2.tch⟩
theorem raddr_w (z : Int) : world n (d + 1) 39 [.int .i64 z] h = some (.ret (.bool (decide (addr z))), h) := by
  apply Wp.eq
  rw [w_ref05_address]
  refine Wp.gc ?_
  suffices hK : Wp (ref05_address (world n d) n z h) fun r h' => r = .ret (.bool (decide (addr z))) ∧ h' = h from hK.mono fun r h' ⟨e, t⟩ => ⟨by rw [t]; exact (Tch.refl [] h).above, by rw [e]; rfl, e, rfl⟩
  unfold ref05_address
  refine Wp.lett (Wp.lettG fun j8 ej => ?_)
  by_cases h0 : 0 ≤ z
  · refine Wp.ift (by rw [decide_eq_true_eq]; exact h0) (Wp.lett ?_)
    rw [ej]
    have e : decide (z < 16) = decide (addr z) := decide_eq_decide.2 ⟨fun h => ⟨h0, h⟩, fun h => h.2⟩
    rw [e]
    exact Wp.ret ⟨rfl, rfl⟩
  · refine Wp.iff (by rw [decide_eq_false_iff_not]; exact h0) ?_
    rw [ej, decide_eq_false (show ¬ addr z from fun h => h0 h.1)]
    exact Wp.ret ⟨rfl, rfl⟩
theorem bldR1 (kc : CAt h cv cs) (z : Int) : bldS Try.prog TRef [(1, cv), (2, .int .i64 z)] = some [.nsl, cv, .int .i64 z] := by
  obtain ⟨⟨rfl, _⟩ | ⟨c, rest, rfl, _⟩, _⟩ := kc <;> kernel_rfl
theorem bldR0 (kl : LAt h lv s.ls) (z : Int) : bldS Try.prog TRef [(0, lv), (2, .int .i64 z)] = some [lv, .nsl, .int .i64 z] := by
  rcases kl with ⟨rfl, _⟩ | ⟨c, rest, rfl, _⟩ <;> kernel_rfl
set_option maxHeartbeats 1000000 in
theorem put_ok (K : RefN ro h lv cv s cs) (hx : h.ex = [TNet]) (hlen : s.ls.length ≤ 256) (hb : s.last < 999999) (l : Lt) : ∃ h' lv', world n (d + 1) 41 [.agg (refC lv cv s), .agg (letC l)] h = some (.ret (.tup [.agg (refC lv' cv (addN s l.a l.b l.s)), .int .i64 (addR s).1, .int .i64 (addR s).2]), h') ∧ LAt h' lv' (addN s l.a l.b l.s).ls ∧ Tch [] h h' ∧ ∀ b ∈ blkV lv', ro b := by
  suffices hK : Wp (ref05_put (world n d) n (refC lv cv s) (letC l) h) fun r h' => ∃ lv', r = .ret (.tup [.agg (refC lv' cv (addN s l.a l.b l.s)), .int .i64 (addR s).1, .int .i64 (addR s).2]) ∧ LAt h' lv' (addN s l.a l.b l.s).ls ∧ Tch [] h h' ∧ ∀ b ∈ blkV lv', ro b by
    obtain ⟨_, h', e, lv', rfl, k⟩ := hK
    refine ⟨h', lv', ?_, k⟩
    rw [w_ref05_put]
    exact e
  unfold ref05_put
  simp only [newP_eq]
  refine Wp.mbox (Mem.nil [] h) K.one fun h2 M2 => Wp.mbox M2 rfl fun h4 M4 => Wp.mnew M4 fun h6 M6 => ?_
  have g0 : (refC lv cv s)[0 + 0]? = some lv := rfl
  have g1 : (refC lv cv s)[0 + 1]? = some cv := rfl
  have g2 : (refC lv cv s)[0 + 2]? = some (.int .i64 (s.last : Int)) := rfl
  refine Wp.obind (fldP_ptr _ _ _) (Wp.ld2 M6 g0 (Wp.obind K.l.len (Wp.lett ?_)))
  by_cases h256 : 256 ≤ s.ls.length
  · have e1 : addN s l.a l.b l.s = s := if_pos h256
    have e2 : addR s = (0, 8) := if_pos h256
    rw [e1, e2]
    refine Wp.ift (by rw [decide_eq_true_eq]; omega) (Wp.lr2 M6 rfl (Wp.sa0 M6 rfl rfl K.one fun h7 M7 => Wp.lr0 M7 rfl (Wp.ret ⟨lv, rfl, (K.tch M7.tch).l, M7.tch, K.r1⟩)))
  · have e1 : addN s l.a l.b l.s = addS s l.a l.b l.s := if_neg h256
    have e2 : addR s = ((s.last : Int) + 1, 0) := if_neg h256
    rw [e1, e2]
    refine Wp.iff (by rw [decide_eq_false_iff_not]; omega) (Wp.obind (fldP_ptr _ _ _) (Wp.ld2 M6 g2 (Wp.obind (avInt_int _ _) (Wp.lettw (by omega) (by omega) (Wp.obind (fldP_ptr _ _ _) (Wp.ms1 M6 (by decide : 0 + 0 < 4) rfl fun h8 M8 => ?_))))))
    replace M8 : Mem [] h h8 [(h4.next, TRef, [.nsl, .nsl, .int .i64 0]), (h2.next, TLet, letC ⟨(s.last : Int) + 1, l.a, l.b, l.s⟩), (h.next, TRef, refC lv cv s)] := M8
    refine Wp.obind (fldP_ptr _ _ _) (Wp.ld2 M8 g1 (Wp.obind (fldP_ptr _ _ _) (Wp.ld2 M8 g2 (Wp.obind (avInt_int _ _) (Wp.lettw (by omega) (by omega) (Wp.obind (bldR1 K.c _) (Wp.mnew M8 fun h9 M9 => ?_)))))))
    have hone : ([.nsl, cv, .int .i64 ((s.last : Int) + 1)] : List AV).all AV.one = true := by
      show (true && (cv.one && (true && true))) = true
      rw [(LsAt.one K.c).1]
      rfl
    refine Wp.sa0 M9 rfl rfl hone fun h10 M10 => Wp.ld0 M10 rfl (Wp.obind (fldP_ptr _ _ _) (Wp.ld3 M10 g0 ?_))
    have K10 := K.tch M10.tch
    have x10 : memB TLet h10.ex = false := by rw [M10.ex, hx]; rfl
    obtain ⟨v11, h11, a11, k11, t11, b11⟩ := app_nil elLet K10.l.rows.rd (by rw [List.length_map]; omega) (by rw [List.length_map]; omega) x10
    have M11 := M10.keep t11
    refine Wp.outK a11 ?_
    rw [k11.one.2]
    have o10 : h8.next < h10.next := M10.at0.2.1
    have o4 : h4.next < h10.next := M10.at1.2.1
    have o2 : h2.next < h10.next := M10.at2.2.1
    have o0 : h.next < h10.next := M10.at3.2.1
    have n11 := t11.1
    refine Wp.st1 M11.at0.1 (by decide : 0 < 3) k11.one.1 fun h12 r12 t12 n12 => ?_
    have M12 : Mem [] h h12 [(h8.next, TRef, [v11, cv, .int .i64 ((s.last : Int) + 1)]), (h4.next, TRef, [.nsl, .nsl, .int .i64 0]), (h2.next, TLet, letC ⟨(s.last : Int) + 1, l.a, l.b, l.s⟩), (h.next, TRef, refC lv cv s)] := Mem.upd (xs := []) M11 t12 r12
    have k12 := k11.tch t12 (fun b hb hm => by
      have := b11 b hb
      have := List.mem_singleton.1 hm
      omega)
    have x12 : memB TLet h12.ex = false := by rw [M12.ex, hx]; rfl
    refine Wp.ld0 M12 rfl (Wp.lr2 M12 rfl (Wp.mnews (Mem.nil [] h12) (bldLt _ _ _ _ _) rfl x12 fun h13 N13 => ?_))
    have t13 := N13.tch
    have M13 := M12.keep t13
    have k13 := k12.tch t13 (fun _ _ h => nomatch h)
    have kx : RdAt 4 h13 (.sl h12.next 0 1 4) [letC ⟨(s.last : Int) + 1, l.a, l.b, l.s⟩] := ⟨⟨rfl, by
      rw [List.flatten_cons, List.flatten_nil, List.append_nil]
      exact firstRow N13.at0.1 rfl⟩, fun r hr => by rw [List.mem_singleton.1 hr]; exact ⟨rfl, rfl⟩⟩
    obtain ⟨v14, h14, a14, k14, t14, b14⟩ := app_on elLet k13 kx (by rw [List.length_map, List.length_singleton]; omega) (by rw [List.length_map, List.length_singleton]; omega) (by rw [M13.ex, hx]; rfl)
    have lt11 := k11.lt
    have n12' := t12.1
    have n13 := t13.1
    have n14 := t14.1
    have M14 := Mem.keepN M13 t14 (fun b hb => ⟨by
      have := b11 b hb
      omega, fun x hx' => by
      have := b11 b hb
      simp only [List.mem_cons, List.not_mem_nil, or_false] at hx'
      rcases hx' with rfl | rfl | rfl | rfl
      · show h8.next ≠ b
        omega
      · show h4.next ≠ b
        omega
      · show h2.next ≠ b
        omega
      · show h.next ≠ b
        omega⟩)
    rw [show s.ls.map letC ++ [letC ⟨(s.last : Int) + 1, l.a, l.b, l.s⟩] = (s.ls ++ [(⟨(s.last : Int) + 1, l.a, l.b, l.s⟩ : Lt)]).map letC by rw [List.map_append]; rfl] at k14
    have ge14 : ∀ b ∈ blkV v14, h10.next ≤ b := fun b hb => by
      rcases b14 b hb with hb | hb
      · exact b11 b hb
      · omega
    refine Wp.outK a14 ?_
    rw [k14.one.2]
    refine Wp.st1 M14.at0.1 (by decide : 0 < 3) k14.one.1 fun h15 r15 t15 n15 => ?_
    have M15 : Mem [] h h15 [(h8.next, TRef, [v14, cv, .int .i64 ((s.last : Int) + 1)]), (h4.next, TRef, [.nsl, .nsl, .int .i64 0]), (h2.next, TLet, letC ⟨(s.last : Int) + 1, l.a, l.b, l.s⟩), (h.next, TRef, refC lv cv s)] := Mem.upd (xs := []) M14 t15 r15
    have k15 := k14.tch t15 (fun b hb hm => by
      have := ge14 b hb
      have := List.mem_singleton.1 hm
      omega)
    have hone2 : ([v14, cv, .int .i64 ((s.last : Int) + 1)] : List AV).all AV.one = true := by
      show (v14.one && (cv.one && (true && true))) = true
      rw [k14.one.1, (LsAt.one K.c).1]
      rfl
    refine Wp.lr0 M15 rfl (Wp.obind (fldP_ptr _ _ _) (Wp.ld2 M15 rfl (Wp.obind (avInt_int _ _) (Wp.stAll M15.at1.1 rfl rfl hone2 fun h16 r16 t16 n16 => ?_))))
    have M16 : Mem [] h h16 [(h8.next, TRef, [v14, cv, .int .i64 ((s.last : Int) + 1)]), (h4.next, TRef, [v14, cv, .int .i64 ((s.last : Int) + 1)]), (h2.next, TLet, letC ⟨(s.last : Int) + 1, l.a, l.b, l.s⟩), (h.next, TRef, refC lv cv s)] := Mem.upd (xs := [_]) M15 t16 r16
    have k16 := k15.tch t16 (fun b hb hm => by
      have := ge14 b hb
      have := List.mem_singleton.1 hm
      omega)
    refine Wp.chk (and_t (Mem.re2 M16 (by kernel_rfl) rfl) rfl) (Wp.lr1 M16 rfl (Wp.ret ⟨v14, rfl, k16.la, M16.tch, fun b hb => K.nw b (by have := ge14 b hb; omega)⟩))
end
end Go.Proofs.Ythdkfofkghpmcaa
