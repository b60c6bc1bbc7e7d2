/- The reference: Deliver, Cut, Heal. -/
import Derived.Test.YthdkfofkghpmcaaGc
namespace Go.Proofs.Ythdkfofkghpmcaa
open Go.RowKit Abs
theorem delL_not {p : Int × Int} : ∀ {l : List (Int × Int)}, p ∉ l → delL p l = l
  | [], _ => rfl
  | q :: l, h => by
    have h1 : ¬ p = q := fun e => h (e ▸ List.mem_cons_self)
    have h2 := delL_not (fun hm => h (List.mem_cons_of_mem q hm))
    show (if p = q then l else q :: delL p l) = q :: l
    rw [if_neg h1, h2]
theorem delL_pos {a b : Int} : ∀ (cs : List (Int × Int)) (k : Nat), posC cs a b = some k → (cs.eraseIdx k).map lk = delL (lnk a b) (cs.map lk)
  | [], _, h => by cases h
  | c :: cs, k, h => by
    have h : (if decide (lk c = lnk a b) = true then some 0 else (posC cs a b).map (· + 1)) = some k := by
      rw [← h]
      unfold posC
      rw [List.findIdx?_cons]
    show _ = if lnk a b = lk c then cs.map lk else lk c :: delL (lnk a b) (cs.map lk)
    by_cases e : lk c = lnk a b
    · rw [if_pos (decide_eq_true e)] at h
      obtain rfl : 0 = k := by injection h
      rw [if_pos e.symm]
      rfl
    · rw [if_neg (by rw [decide_eq_true_eq]; exact e)] at h
      rw [if_neg (fun h => e h.symm)]
      cases hp : posC cs a b with
      | none => rw [hp] at h; cases h
      | some j =>
        rw [hp] at h
        obtain rfl : j + 1 = k := by injection h
        rw [← delL_pos cs j hp]
        rfl
theorem posC_lt {cs : List (Int × Int)} {a b : Int} {k : Nat} (h : posC cs a b = some k) : k < cs.length := by
  unfold posC at h
  obtain ⟨h1, _⟩ := List.findIdx?_eq_some_iff_getElem.1 h
  exact h1
theorem bldArrs (h : AHeap) (a b : Int) : bldSl Try.prog h TArrs 1 [(0, .agg [.int .i64 a, .int .i64 b])] = outNewS h TArr [.int .i64 a, .int .i64 b] 1 2 := by kernel_rfl
section
variable {ro : Nat → Prop} {n d b : Nat} {h h' : AHeap} {lv cv : AV} {s : NS} {cs : List (Int × Int)} {m l : List AV} {z : Int}
set_option maxHeartbeats 1000000 in
theorem rdeliver_ok (hn : 1000000 < n) (K : RefN ro h lv cv s cs) (hx : h.ex = [TNet]) (hlen : s.ls.length ≤ 256) (z : Int) : ∃ h' m', world n (d + 2) 25 [.agg (refC lv cv s), .int .i64 z] h = some (.ret (.tup [.agg m', .agg (letC (delR s z).1), .int .i64 (delR s z).2]), h') ∧ RAt ro h' m' (delN s z) ∧ Tch [] h h' := by
  suffices hK : Wp (ref05_Deliver (world n (d + 1)) n (refC lv cv s) z h) fun r h' => ∃ m', r = .ret (.tup [.agg m', .agg (letC (delR s z).1), .int .i64 (delR s z).2]) ∧ RAt ro h' m' (delN s z) ∧ Tch [] h h' by
    obtain ⟨_, h', e, m', rfl, k⟩ := hK
    refine ⟨h', m', ?_, k⟩
    rw [w_ref05_Deliver]
    exact e
  unfold ref05_Deliver
  simp only [newP_eq]
  refine Wp.mbox (Mem.nil [] h) K.one fun h2 M2 => Wp.mnew M2 fun h4 M4 => Wp.mnew M4 fun h6 M6 => ?_
  have K6 := K.tch M6.tch
  have g0 : (refC lv cv s)[0 + 0]? = some lv := rfl
  have g1 : (refC lv cv s)[0 + 1]? = some cv := rfl
  have g2 : (refC lv cv s)[0 + 2]? = some (.int .i64 (s.last : Int)) := rfl
  refine Wp.lr2 M6 rfl (Wp.callN (rfind_w hn K6 hlen z) (Wp.obind (avInt_int _ _) (Wp.lett ?_)))
  cases hf : fnd s.ls z with
  | none =>
    have e1 : delR s z = (zeroL, 4) := by unfold delR; rw [hf]
    have e2 : delN s z = s := by unfold delN; rw [hf]
    rw [e1, e2]
    refine Wp.ift (show decide ((-1 : Int) < 0) = true from rfl) ?_
    exact Wp.lr2 M6 rfl (Wp.sa1 M6 rfl rfl K.one fun h7 M7 => Wp.sa0 M7 rfl rfl rfl fun h8 M8 => Wp.lr1 M8 rfl (Wp.lr0 M8 rfl (Wp.ret ⟨_, rfl, ⟨lv, cv, cs, rfl, K.tch M8.tch⟩, M8.tch⟩)))
  | some k =>
    obtain ⟨hk, _⟩ := fnd_lt hf
    have hk' : k < (s.ls.map letC).length := by rw [List.length_map]; exact hk
    have e1 : delR s z = (s.ls[k], 0) := by
      unfold delR
      rw [hf]
      dsimp only
      rw [getD_lt hk]
    have e2 : delN s z = ⟨s.ls.eraseIdx k, s.last, s.cuts⟩ := by unfold delN; rw [hf]
    rw [e1, e2]
    have ek : posO 0 (some k) = (k : Int) := by
      show ((0 + k : Nat) : Int) = _
      rw [Nat.zero_add]
    rw [ek]
    refine Wp.iff (by rw [decide_eq_false_iff_not]; omega) (Wp.obind (fldP_ptr _ _ _) (Wp.ld2 M6 g1 (Wp.obind (fldP_ptr _ _ _) (Wp.ld2 M6 g2 (Wp.obind (avInt_int _ _) (Wp.obind (bldR1 K.c _) (Wp.mnew M6 fun h9 M9 => ?_)))))))
    have hone : ∀ v : AV, v.one = true → ([v, cv, .int .i64 (s.last : Int)] : List AV).all AV.one = true := fun v hv => by
      show (v.one && (cv.one && (true && true))) = true
      rw [hv, (LsAt.one K.c).1]
      rfl
    refine Wp.sa0 M9 rfl rfl (hone _ rfl) fun h10 M10 => Wp.ld0 M10 rfl (Wp.obind (fldP_ptr _ _ _) (Wp.ld3 M10 g0 ?_))
    have K10 := K.tch M10.tch
    have x10 : memB TLet h10.ex = false := by rw [M10.ex, hx]; rfl
    obtain ⟨x1, s1, rd1⟩ := K10.l.rows.take elLet hk'
    have l1 : ((s.ls.map letC).take k).length = k := by rw [List.length_take, List.length_map]; omega
    have l2 : ((s.ls.map letC).drop (k + 1)).length = s.ls.length - (k + 1) := by rw [List.length_drop, List.length_map]
    obtain ⟨v11, h11, a11, k11, t11, b11⟩ := app_nil elLet rd1 (by omega) (by omega) x10
    have M11 := M10.keep t11
    have o10 : h6.next < h10.next := M10.at0.2.1
    have o4 : h4.next < h10.next := M10.at1.2.1
    have o2 : h2.next < h10.next := M10.at2.2.1
    have o0 : h.next < h10.next := M10.at3.2.1
    have n11 := t11.1
    refine Wp.outK s1 (Wp.outK a11 ?_)
    rw [k11.one.2]
    refine Wp.st1 M11.at0.1 (by decide : 0 < 3) k11.one.1 fun h12 r12 t12 n12 => ?_
    have M12 : Mem [] h h12 [(h6.next, TRef, [v11, cv, .int .i64 (s.last : Int)]), (h4.next, TLet, [.int .i64 0, .int .i64 0, .int .i64 0, .str 0 0]), (h2.next, TRef, [.nsl, .nsl, .int .i64 0]), (h.next, TRef, refC lv cv s)] := Mem.upd (xs := []) M11 t12 r12
    have k12 := k11.tch t12 (fun b hb hm => by
      have := b11 b hb
      have := List.mem_singleton.1 hm
      omega)
    have K12 := K.tch M12.tch
    obtain ⟨x2, s2, rd2⟩ := K12.l.rows.drop elLet hk'
    obtain ⟨v14, h14, a14, k14, t14, b14⟩ := app_on elLet k12 rd2 (by omega) (by omega) (by rw [M12.ex, hx]; rfl)
    have lt11 := k11.lt
    have n12' := t12.1
    have n14 := t14.1
    have M14 := Mem.keepN M12 t14 (fun b hb => ⟨by
      have := b11 b hb
      omega, fun x hx' => by
      have := b11 b hb
      simp only [List.mem_cons, List.not_mem_nil, or_false] at hx'
      rcases hx' with rfl | rfl | rfl | rfl
      · show h6.next ≠ b
        omega
      · show h4.next ≠ b
        omega
      · show h2.next ≠ b
        omega
      · show h.next ≠ b
        omega⟩)
    rw [map_eraseIdx] at k14
    have ge14 : ∀ b ∈ blkV v14, h10.next ≤ b := fun b hb => by
      rcases b14 b hb with hb | hb
      · exact b11 b hb
      · omega
    refine Wp.ld0 M12 rfl (Wp.obind (fldP_ptr _ _ _) (Wp.ld3 M12 g0 (Wp.lettw (by omega) (by omega) ?_)))
    rw [show (k : Int) + 1 = ((k + 1 : Nat) : Int) by omega]
    refine Wp.outK s2 (Wp.outK a14 ?_)
    rw [k14.one.2]
    refine Wp.st1 M14.at0.1 (by decide : 0 < 3) k14.one.1 fun h15 r15 t15 n15 => ?_
    have M15 : Mem [] h h15 [(h6.next, TRef, [v14, cv, .int .i64 (s.last : Int)]), (h4.next, TLet, [.int .i64 0, .int .i64 0, .int .i64 0, .str 0 0]), (h2.next, TRef, [.nsl, .nsl, .int .i64 0]), (h.next, TRef, refC lv cv s)] := Mem.upd (xs := []) M14 t15 r15
    have k15 := k14.tch t15 (fun b hb hm => by
      have := ge14 b hb
      have := List.mem_singleton.1 hm
      omega)
    have K15 := K.tch M15.tch
    obtain ⟨p, i1, r1⟩ := K15.l.row hk
    refine Wp.lr0 M15 rfl (Wp.obind (fldP_ptr _ _ _) (Wp.ld3 M15 g0 (Wp.obind i1 (Wp.obind r1 (Wp.stAll M15.at2.1 rfl rfl (hone _ k14.one.1) fun h16 r16 t16 n16 => ?_)))))
    have M16 : Mem [] h h16 [(h6.next, TRef, [v14, cv, .int .i64 (s.last : Int)]), (h4.next, TLet, [.int .i64 0, .int .i64 0, .int .i64 0, .str 0 0]), (h2.next, TRef, [v14, cv, .int .i64 (s.last : Int)]), (h.next, TRef, refC lv cv s)] := Mem.upd (xs := [_, _]) M15 t16 r16
    have k16 := k15.tch t16 (fun b hb hm => by
      have := ge14 b hb
      have := List.mem_singleton.1 hm
      omega)
    have K16 := K.tch M16.tch
    obtain ⟨p', i1', r1'⟩ := K16.l.row hk
    obtain rfl : p = p' := by
      rw [i1] at i1'
      injection i1'
    refine Wp.chk (and_t (reLoad_r (by kernel_rfl) (by kernel_rfl) r1') (and_t (Mem.re3 M16 (by kernel_rfl) g0) rfl)) (Wp.stAll M16.at1.1 rfl rfl rfl fun h17 r17 t17 n17 => ?_)
    have M17 : Mem [] h h17 [(h6.next, TRef, [v14, cv, .int .i64 (s.last : Int)]), (h4.next, TLet, letC s.ls[k]), (h2.next, TRef, [v14, cv, .int .i64 (s.last : Int)]), (h.next, TRef, refC lv cv s)] := Mem.upd (xs := [_]) M16 t17 r17
    have k17 := k16.tch t17 (fun b hb hm => by
      have := ge14 b hb
      have := List.mem_singleton.1 hm
      omega)
    refine Wp.lr2 M17 rfl (Wp.lr1 M17 rfl (Wp.ret ⟨_, rfl, ⟨v14, cv, cs, rfl, k17.la, (K.tch M17.tch).c, K.e, K.n, fun b hb => K.nw b (by have := ge14 b hb; omega), K.r2, (K.tch M17.tch).nw⟩, M17.tch⟩))
/-- a network with other cut links -/
abbrev cutN (s : NS) (c : List (Int × Int)) : NS := ⟨s.ls, s.last, c⟩
set_option maxHeartbeats 1000000 in
theorem rcut_ok (hn : 1000000 < n) (K : RefN ro h lv cv s cs) (hx : h.ex = [TNet]) (hcl : cs.length < 999999) (x y : Int) : ∃ h' m', world n (d + 2) 27 [.agg (refC lv cv s), .int .i64 x, .int .i64 y] h = some (.ret (.tup [.agg m', .int .i64 (refN x y)]), h') ∧ RAt ro h' m' (if refN x y = 0 then cutN s (putL (lnk x y) s.cuts) else s) ∧ Tch [] h h' := by
  suffices hK : Wp (ref05_Cut (world n (d + 1)) n (refC lv cv s) x y h) fun r h' => ∃ m', r = .ret (.tup [.agg m', .int .i64 (refN x y)]) ∧ RAt ro h' m' (if refN x y = 0 then cutN s (putL (lnk x y) s.cuts) else s) ∧ Tch [] h h' by
    obtain ⟨_, h', e, m', rfl, k⟩ := hK
    refine ⟨h', m', ?_, k⟩
    rw [w_ref05_Cut]
    exact e
  unfold ref05_Cut
  simp only [newP_eq]
  refine Wp.mbox (Mem.nil [] h) K.one fun h2 M2 => Wp.mnew M2 fun h4 M4 => Wp.callN (raddr_w x) (Wp.obind (avBool_bool _) (Wp.lett (Wp.lettG fun j16 e16 => ?_)))
  have K4 := K.tch M4.tch
  have g0 : (refC lv cv s)[0 + 0]? = some lv := rfl
  have g1 : (refC lv cv s)[0 + 1]? = some cv := rfl
  have g2 : (refC lv cv s)[0 + 2]? = some (.int .i64 (s.last : Int)) := rfl
  unfold refN
  by_cases h0 : addr x ∧ addr y ∧ x ≠ y
  · rw [if_pos h0]
    obtain ⟨h1, h2', h3⟩ := h0
    rw [decide_eq_true h1]
    refine Wp.iff rfl (Wp.callN (raddr_w y) (Wp.obind (avBool_bool _) (Wp.lett ?_)))
    rw [decide_eq_true h2', e16]
    refine Wp.lettG fun j21 e21 => Wp.iff rfl (Wp.lett ?_)
    rw [beq_f h3, e21, if_pos rfl]
    refine Wp.iff rfl (Wp.lr1 M4 rfl (Wp.callN (rcut_w hn K4 x y) (Wp.obind (avInt_int _ _) (Wp.lett ?_))))
    cases hp : posC cs x y with
    | some k =>
      have hm : lnk x y ∈ s.cuts := by
        rw [← K.e]
        apply Classical.byContradiction
        intro hh
        rw [posC_none.2 hh] at hp
        cases hp
      have ep : putL (lnk x y) s.cuts = s.cuts := if_pos hm
      rw [ep]
      refine Wp.ift (by rw [decide_eq_true_eq]; show ((0 + k : Nat) : Int) ≥ 0; omega) ?_
      exact Wp.lr1 M4 rfl (Wp.sa0 M4 rfl rfl K.one fun h7 M7 => Wp.lr0 M7 rfl (Wp.ret ⟨_, rfl, ⟨lv, cv, cs, rfl, K.tch M7.tch⟩, M7.tch⟩))
    | none =>
      have hm : lnk x y ∉ s.cuts := by
        rw [← K.e]
        exact posC_none.1 hp
      have ep : putL (lnk x y) s.cuts = s.cuts ++ [lnk x y] := if_neg hm
      rw [ep]
      refine Wp.iff (show decide ((-1 : Int) ≥ 0) = false from rfl) (Wp.obind (fldP_ptr _ _ _) (Wp.ld1 M4 g0 (Wp.obind (fldP_ptr _ _ _) (Wp.ld1 M4 g2 (Wp.obind (avInt_int _ _) (Wp.obind (bldR0 K.l _) (Wp.mnew M4 fun h9 M9 => ?_)))))))
      have hone : ∀ v : AV, v.one = true → ([lv, v, .int .i64 (s.last : Int)] : List AV).all AV.one = true := fun v hv => by
        show (lv.one && (v.one && (true && true))) = true
        rw [hv, K.l.one.1]
        rfl
      refine Wp.sa0 M9 rfl rfl (hone _ rfl) fun h10 M10 => Wp.ld0 M10 rfl (Wp.obind (fldP_ptr _ _ _) (Wp.ld2 M10 g1 ?_))
      have K10 := K.tch M10.tch
      have x10 : memB TArr h10.ex = false := by rw [M10.ex, hx]; rfl
      have hl1 : (cs.map prC).length = cs.length := List.length_map ..
      obtain ⟨v11, h11, a11, k11, t11, b11⟩ := app_nil elArr (LsAt.rd K10.c) (by omega) (by omega) x10
      have M11 := M10.keep t11
      have o10 : h4.next < h10.next := M10.at0.2.1
      have o2 : h2.next < h10.next := M10.at1.2.1
      have o0 : h.next < h10.next := M10.at2.2.1
      have n11 := t11.1
      refine Wp.outK a11 ?_
      rw [k11.one.2]
      refine Wp.st1 M11.at0.1 (by decide : 1 < 3) k11.one.1 fun h12 r12 t12 n12 => ?_
      have M12 : Mem [] h h12 [(h4.next, TRef, [lv, v11, .int .i64 (s.last : Int)]), (h2.next, TRef, [.nsl, .nsl, .int .i64 0]), (h.next, TRef, refC lv cv s)] := Mem.upd (xs := []) M11 t12 r12
      have k12 := k11.tch t12 (fun b hb hm => by
        have := b11 b hb
        have := List.mem_singleton.1 hm
        omega)
      have x12 : memB TArr h12.ex = false := by rw [M12.ex, hx]; rfl
      refine Wp.ld0 M12 rfl (Wp.obind (bldArr _ _) (Wp.mnews (Mem.nil [] h12) (bldArrs _ _ _) rfl x12 fun h13 N13 => ?_))
      have t13 := N13.tch
      have M13 := M12.keep t13
      have k13 := k12.tch t13 (fun _ _ h => nomatch h)
      have kx : RdAt 2 h13 (.sl h12.next 0 1 2) [prC (x, y)] := ⟨⟨rfl, by
        rw [List.flatten_cons, List.flatten_nil, List.append_nil]
        exact firstRow N13.at0.1 rfl⟩, fun r hr => by rw [List.mem_singleton.1 hr]; exact ⟨rfl, rfl⟩⟩
      obtain ⟨v14, h14, a14, k14, t14, b14⟩ := app_on elArr k13 kx (by rw [List.length_singleton]; omega) (by rw [List.length_singleton]; omega) (by rw [M13.ex, hx]; rfl)
      have lt11 := k11.lt
      have n12' := t12.1
      have n13 := t13.1
      have n14 := t14.1
      have M14 := Mem.keepN M13 t14 (fun b hb => ⟨by
        have := b11 b hb
        omega, fun x hx' => by
        have := b11 b hb
        simp only [List.mem_cons, List.not_mem_nil, or_false] at hx'
        rcases hx' with rfl | rfl | rfl
        · show h4.next ≠ b
          omega
        · show h2.next ≠ b
          omega
        · show h.next ≠ b
          omega⟩)
      rw [show cs.map prC ++ [prC (x, y)] = (cs ++ [(x, y)]).map prC by rw [List.map_append]; rfl] at k14
      have ge14 : ∀ b ∈ blkV v14, h10.next ≤ b := fun b hb => by
        rcases b14 b hb with hb | hb
        · exact b11 b hb
        · omega
      refine Wp.outK a14 ?_
      rw [k14.one.2]
      refine Wp.st1 M14.at0.1 (by decide : 1 < 3) k14.one.1 fun h15 r15 t15 n15 => ?_
      have M15 : Mem [] h h15 [(h4.next, TRef, [lv, v14, .int .i64 (s.last : Int)]), (h2.next, TRef, [.nsl, .nsl, .int .i64 0]), (h.next, TRef, refC lv cv s)] := Mem.upd (xs := []) M14 t15 r15
      have k15 := k14.tch t15 (fun b hb hm => by
        have := ge14 b hb
        have := List.mem_singleton.1 hm
        omega)
      refine Wp.lr0 M15 rfl (Wp.stAll M15.at1.1 rfl rfl (hone _ k14.one.1) fun h16 r16 t16 n16 => ?_)
      have M16 : Mem [] h h16 [(h4.next, TRef, [lv, v14, .int .i64 (s.last : Int)]), (h2.next, TRef, [lv, v14, .int .i64 (s.last : Int)]), (h.next, TRef, refC lv cv s)] := Mem.upd (xs := [_]) M15 t16 r16
      have k16 := k15.tch t16 (fun b hb hm => by
        have := ge14 b hb
        have := List.mem_singleton.1 hm
        omega)
      refine Wp.lr1 M16 rfl (Wp.ret ⟨_, rfl, ⟨lv, v14, cs ++ [(x, y)], rfl, (K.tch M16.tch).l, k16, ?_, by rw [List.length_append, List.length_singleton]; omega, K.r1, fun b hb => K.nw b (by have := ge14 b hb; omega), (K.tch M16.tch).nw⟩, M16.tch⟩)
      rw [List.map_append, K.e]
      rfl
  · rw [if_neg h0, if_neg (by decide)]
    have bad : Wp (j16 true h4) fun r h' => ∃ m', r = .ret (.tup [.agg m', .int .i64 2]) ∧ RAt ro h' m' s ∧ Tch [] h h' := by
      rw [e16]
      refine Wp.lettG fun j21 e21 => Wp.ift rfl ?_
      rw [e21]
      exact Wp.ift rfl (Wp.lr1 M4 rfl (Wp.sa0 M4 rfl rfl K.one fun h7 M7 => Wp.lr0 M7 rfl (Wp.ret ⟨_, rfl, ⟨lv, cv, cs, rfl, K.tch M7.tch⟩, M7.tch⟩)))
    by_cases h1 : addr x
    · rw [decide_eq_true h1]
      refine Wp.iff rfl (Wp.callN (raddr_w y) (Wp.obind (avBool_bool _) (Wp.lett ?_)))
      by_cases h2' : addr y
      · rw [decide_eq_true h2', e16]
        refine Wp.lettG fun j21 e21 => Wp.iff rfl (Wp.lett ?_)
        have h3 : x = y := Classical.byContradiction fun hh => h0 ⟨h1, h2', hh⟩
        rw [beq_t h3, e21]
        exact Wp.ift rfl (Wp.lr1 M4 rfl (Wp.sa0 M4 rfl rfl K.one fun h7 M7 => Wp.lr0 M7 rfl (Wp.ret ⟨_, rfl, ⟨lv, cv, cs, rfl, K.tch M7.tch⟩, M7.tch⟩)))
      · rw [decide_eq_false h2']
        exact bad
    · rw [decide_eq_false h1]
      exact Wp.ift rfl bad
end
end Go.Proofs.Ythdkfofkghpmcaa
