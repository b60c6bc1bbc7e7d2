/- NetTells: the law. -/
import Derived.Test.YthdkfofkghpmcaaHc
namespace Go.Proofs.Ythdkfofkghpmcaa
open Go.RowKit Abs
set_option maxRecDepth 100000 in
set_option maxHeartbeats 1000000 in
/-- the law -/
theorem netTells_says (h : AHeap) (hX : h.ex = []) (xs : List AV) (hP : ArgsP Try.prog h.next h 12 [22, 3] xs) : ∃ h', Says Try.prog 4 xs h (.ret (.bool true)) h' := by
  obtain ⟨a, _, rfl, hp0, hP⟩ := args_cons hP
  obtain ⟨a1, _, rfl, hp1, hP⟩ := args_cons hP
  obtain rfl := args0 hP
  obtain ⟨l, hs, hok, hl⟩ := ops_of hp0
  obtain ⟨z1, rfl, _⟩ := hp1.int Try.underlying3
  have hrb : reachBytes = 140737488351232 := rfl
  obtain ⟨n, hn⟩ : ∃ n, 140737488351232 < n := ⟨140737488351233, Nat.lt_succ_self _⟩
  suffices hK : Wp (law05_NetTells (wL n 9 3) n a z1 h) fun r _ => r = .ret (.bool true) by
    obtain ⟨_, h', e, rfl⟩ := hK
    exact ⟨h', law05_NetTells_ok (wL_ok n 9 3) e⟩
  unfold law05_NetTells
  refine Wp.mnew (Mem.nil [] h) fun h2 M2 => Wp.mnew M2 fun h4 M4 => ?_
  have l2 := M2.at0.2.1
  have kz4 := M4.at1.1
  have kr4 := M4.at0.1
  have lr := M4.at0.2.1
  have t4 := M4.tch
  have n4 := t4.1
  have hx4 : h4.ex = [] := by rw [t4.2.1, hX]
  obtain ⟨h8, e8, t8⟩ := works_w (n := n) (d := 0) (by omega) hx4
  have n8 := t8.1
  have hs8 := (hs.tch t4 (Nat.le_refl _) (fun _ h => nomatch h)).tch t8 n4 (fun _ h => nomatch h)
  have kz8 := kz4.tch t8 (by omega) (fun h => nomatch h)
  have kr8 := kr4.tch t8 (by omega) (fun h => nomatch h)
  obtain ⟨b, e9, hb⟩ := great_w (n := n) (d := 8) hs8 (fun x hx => (hok x hx).2.2.2) hl (by omega)
  refine Wp.callN ((wL_b 9).trans e8) (Wp.obind (avBool_bool _) (Wp.lett (Wp.iff rfl (Wp.callN ((wL_b 10).trans e9) (Wp.obind (avBool_bool _) ?_)))))
  cases b with
  | true =>
    refine Wp.ift rfl ?_
    rw [newP_eq h2]
    exact Wp.st1 kr8 Nat.zero_lt_one rfl fun h5 k5 _ _ => Wp.marks0 (Wp.obind (RowH.cell' k5 rfl) (Wp.ret rfl))
  | false =>
  obtain ⟨_, hb2⟩ := hb rfl
  have hx8 : h8.ex = [] := by rw [t8.2.1, hx4]
  obtain ⟨h29, e29, K29, t29⟩ := new_ok (n := n) (d := 8) hx8
  have n29 := t29.1
  refine Wp.iff rfl (Wp.callN ((wL_b 11).trans e29) (Wp.lettG fun k34 e34 => ?_))
  refine tells_loop (n := n) (D := 1) (d := 2) (N := h.next) (N1 := h8.next) (H1 := h29) (xs := l) (by omega) (by omega) hb2 (fun H lo nb s K hlo F => ?_) l 0 n h29 _ _ newN (List.drop_zero) (by omega) K29 (fun _ h => h) n29 (hs8.tch t29 (by omega) (fun _ h => nomatch h)) (Nat.zero_le _) (by omega) ⟨[], Tch.refl _ _, fun _ h => nomatch h⟩
  rw [e34]
  obtain ⟨S, tS, hS⟩ := F
  have nS := tS.1
  have kzH := (kz8.tch t29 (by omega) (fun h => nomatch h)).tch tS (by omega) (fun h => by have := hS _ h; omega)
  have krH := (kr8.tch t29 (by omega) (fun h => nomatch h)).tch tS (by omega) (fun h => by have := hS _ h; omega)
  have hlen256 : s.ls.length ≤ 256 := by
    obtain ⟨_, _, K⟩ := K
    exact K.len
  obtain ⟨h37, lv, e37, L37, t37, b37⟩ := flight_ok (n := n) (d := 7) K
  have n37 := t37.1
  have lt37 := L37.lt
  refine Wp.callN ((wL_b 15).trans e37) (Wp.mnew (Mem.nil [] h37) fun h39 M39 => ?_)
  have l39 := M39.at0.2.1
  rw [newP_eq h37, L37.one.2]
  refine Wp.sa0 M39 rfl rfl (by rw [List.all_cons, L37.one.1]; rfl) fun h41 M41 => ?_
  have t41 := M41.tch
  have kl41 := M41.at0.1
  have l41 := M41.at0.2.1
  obtain ⟨h48, e48, kx48, lx48, t48⟩ := all_w (n := n) (d := 8) nb h41
  have n48 := t48.1
  refine Wp.callN ((wL_b 16).trans e48) (Wp.outK (eqSeq _ _) (Wp.obind (avBool_bool _) (Wp.iff rfl (Wp.mnew (Mem.nil [] h48) fun h58 M58 => ?_))))
  rw [newP_eq h48]
  refine Wp.sa0 M58 rfl rfl rfl fun h60 M60 => ?_
  have t60 := M60.tch
  have kk60 := M60.at0.1
  have l60 := M60.at0.2.1
  have n60 := t60.1
  have t3760 : Tch [] h37 h60 := (t41.trans t48).trans t60
  have tH60 : Tch [] H h60 := t37.trans t3760
  have K60 := K.part tH60 (fun _ h => nomatch h)
  have L60 := L37.tch t3760 (fun _ _ h => nomatch h)
  have kl60 := (kl41.tch t48 l41 (fun h => nomatch h)).tch t60 (by omega) (fun h => nomatch h)
  have kx60 := kx48.tch t60 lx48 (fun h => nomatch h)
  have kz60 := kzH.tch tH60 (by omega) (fun h => nomatch h)
  have kr60 := krH.tch tH60 (by omega) (fun h => nomatch h)
  refine loop0 (n := n) (D := 7) (d := 0) (by omega) (rv := .ptr h2.next 0) K60 kx60 (by omega) kk60 (by omega) kl60 (by omega) L60 (fun x => by kernel_rfl) fun H' t' k' q' n' => ?_
  have m1 : ∀ {x y : Nat}, x ≠ y → x ∉ [y] := fun h h2 => h (List.mem_singleton.1 h2)
  have K' := K60.tch t' (fun b hb => .inl (fun hh => by rw [List.mem_singleton.1 hb] at hh; rcases hh.2 with h | h <;> omega))
  have L' := L60.tch t' (fun b hb => m1 (by have := lt37 b hb; omega))
  have kl' := kl60.tch t' (by omega) (m1 (by omega))
  have kx' := kx60.tch t' (by omega) (m1 (by omega))
  have kz' := kz60.tch t' (by omega) (m1 (by omega))
  have kr' := kr60.tch t' (by omega) (m1 (by omega))
  refine Wp.mnew (Mem.nil [] H') fun h69 M69 => ?_
  rw [newP_eq H']
  refine Wp.sa0 M69 rfl rfl rfl fun h71 M71 => Wp.lettG fun k76 e76 => ?_
  have t71 := M71.tch
  have n71 := t71.1
  have ke71 := M71.at0.1
  have l71 := M71.at0.2.1
  have K71 := K'.part t71 (fun _ h => nomatch h)
  refine loop1 (n := n) (D := 7) (d := 0) (by omega) K71 (kx'.tch t71 (by omega) (fun h => nomatch h)) (by omega) ke71 (by omega) (kz'.tch t71 (by omega) (fun h => nomatch h)) (by omega) (by omega) (fun x => by kernel_rfl) fun H2 e hc t2 k2 q2 n2 => ?_
  suffices main : Wp (k76 [dmark h71.next, dmark h60.next] H2) fun r _ => r = .ret (.bool true) by exact ⟨main, Wp.ift rfl main⟩
  have K2 := K71.tch t2 (fun b hb => .inl (fun hh => by rw [List.mem_singleton.1 hb] at hh; rcases hh.2 with h | h <;> omega))
  have L2 := (L'.tch t71 (fun _ _ h => nomatch h)).tch t2 (fun b hb => m1 (by have := lt37 b hb; omega))
  have kl2 := (kl'.tch t71 (by omega) (fun h => nomatch h)).tch t2 (by omega) (m1 (by omega))
  have kz2 := (kz'.tch t71 (by omega) (fun h => nomatch h)).tch t2 (by omega) (m1 (by omega))
  have kr2 := (kr'.tch t71 (by omega) (fun h => nomatch h)).tch t2 (by omega) (m1 (by omega))
  have kk2 := (k'.tch t71 (by omega) (fun h => nomatch h)).tch t2 (by omega) (m1 (by omega))
  have q02 : H2.get h60.next = some (.obj .dfr) := by
    rw [t2.2.2 _ (by omega) (m1 (by omega)), t71.2.2 _ (by omega) (fun h => nomatch h)]
    exact q'
  rw [e76]
  refine Wp.obind (RowH.cell' kk2 rfl) (Wp.obind (avInt_int _ _) (Wp.obind (RowH.cell' kl2 rfl) (Wp.obind L2.len (Wp.lett (Wp.lettG fun k86 e86 => Wp.iff (bne_f rfl) ?_)))))
  have hce := hc.1
  refine Wp.obind (RowH.cell' k2 rfl) (Wp.obind (avInt_int _ _) (Wp.obind (RowH.cell' kl2 rfl) (Wp.obind L2.len (Wp.lett ?_))))
  rw [decide_eq_false (show ¬ (e : Int) > (s.ls.length : Int) by omega), e86]
  refine Wp.lettG fun j100 e100 => Wp.iff rfl (Wp.obind (RowH.cell' kl2 rfl) (Wp.obind L2.len (Wp.lett (Wp.lettG fun j99 e99 => ?_))))
  suffices rest : Wp (j99 false H2) fun r _ => r = .ret (.bool true) by
    by_cases hm : 0 < s.ls.length
    · refine Wp.ift (by rw [decide_eq_true_eq]; omega) (Wp.obind (RowH.cell' k2 rfl) (Wp.obind (avInt_int _ _) (Wp.obind (RowH.cell' kz2 rfl) (Wp.obind (avInt_int _ _) (Wp.lett (Wp.obind (RowH.cell' kl2 rfl) (Wp.obind L2.len (Wp.lett (Wp.lett ?_)))))))))
      rw [show ((e : Int) != if (s.ls.length : Int) < (if 1 > z1 then 1 else z1) then (s.ls.length : Int) else (if 1 > z1 then 1 else z1)) = false from bne_f (hc.2.2 hm)]
      exact rest
    · exact Wp.iff (by rw [decide_eq_false_iff_not]; omega) rest
  rw [e99, e100]
  have hx2 := K2.ex
  refine Wp.iff rfl (Wp.mnews0 (bldLt0 H2) (by rw [hx2]; rfl) ?_)
  have tn : Tch [] H2 (newH H2 TLet []) := Tch.newH _ _ _ _
  obtain ⟨h5, v5, e5, L5, t5, b5⟩ := keep_ok L2 hx2 (by omega)
  have n5 := t5.1
  refine Wp.obind (RowH.cell' (kl2.tch tn (by omega) (fun h => nomatch h)) rfl) (Wp.outK e5 (Wp.lettG fun k106 e106 => ?_))
  have kl5 := kl2.tch t5 (by omega) (fun h => nomatch h)
  have lL5 := L2.tch t5 (fun _ _ h => nomatch h)
  have fin : ∀ H6 S6, (∀ c ∈ S6, c < h37.next ∧ H.next ≤ c) → Tch S6 h5 H6 → Wp (k106 H6) fun r _ => r = .ret (.bool true) := fun H6 S6 hS6 t6 => by
    have n6 := t6.1
    have K6 := (K2.tch t5 (fun _ h => nomatch h)).tch t6 (fun b hb => .inl (fun hh => by have := hS6 b hb; rcases hh.1.2 with h | h <;> omega))
    have L6 := L5.tch t6 (fun b hb h => by have := b5 b hb; have := hS6 b h; omega)
    obtain ⟨h8', v8, e8', L8, t8', _⟩ := flight_ok (n := n) (d := 7) K6
    have n8' := t8'.1
    have L68 := L6.tch t8' (fun _ _ h => nomatch h)
    have kr9 := ((kr2.tch t5 (by omega) (fun h => nomatch h)).tch t6 (by omega) (fun h => by have := hS6 _ h; omega)).tch t8' (by omega) (fun h => nomatch h)
    rw [e106]
    refine Wp.callN ((wL_b 15).trans e8') (Wp.callN ((wL_b 14).trans (same_w (n := n) (d := 8) (by omega) L8 L68 (by omega))) (Wp.obind (avBool_bool _) ?_))
    rw [newP_eq h2]
    refine Wp.st1 kr9 Nat.zero_lt_one rfl fun h10 k10 t10 n10 => ?_
    have g1 : h10.get h71.next = some (.obj .dfr) := by
      rw [t10.2.2 _ (by omega) (m1 (by omega)), t8'.2.2 _ (by omega) (fun h => nomatch h), t6.2.2 _ (by omega) (fun h => by have := hS6 _ h; omega), t5.2.2 _ (by omega) (fun h => nomatch h)]
      exact q2
    have g0 : h10.get h60.next = some (.obj .dfr) := by
      rw [t10.2.2 _ (by omega) (m1 (by omega)), t8'.2.2 _ (by omega) (fun h => nomatch h), t6.2.2 _ (by omega) (fun h => by have := hS6 _ h; omega), t5.2.2 _ (by omega) (fun h => nomatch h)]
      exact q02
    refine Wp.marks1 g1 (Wp.marks1 (by rw [get_put_other _ (by omega)]; exact g0) (Wp.marks0 ?_))
    have ka := (k10.tch (Tch.put (S := [h71.next]) (.inl (List.mem_singleton.2 rfl)) (.obj .shut)) (by omega) (m1 (by omega))).tch (Tch.put (S := [h60.next]) (.inl (List.mem_singleton.2 rfl)) (.obj .shut)) (by show h2.next < h10.next; omega) (m1 (by omega))
    exact Wp.obind (RowH.cell' ka rfl) (Wp.ret rfl)
  rcases lL5 with ⟨rfl, hnil⟩ | ⟨c, rest, rfl, k5, l5⟩
  · obtain ⟨m, rfl⟩ : ∃ m, n = m + 1 := ⟨n - 1, by omega⟩
    rw [law05_NetTells_L0_s]
    unfold law05_NetTells_L0b
    refine Wp.obind (RowH.cell' kl5 rfl) (Wp.obind rfl (Wp.lett (Wp.iff rfl (fin h5 [] (fun _ h => nomatch h) (Tch.refl _ _)))))
  · have hc1 := lt37 c (List.mem_singleton.2 rfl)
    have hc2 := b37 c (List.mem_singleton.2 rfl)
    refine over_loop (H1 := h5) rfl (c := c) (l0 := s.ls) (by omega) (by omega) (fun H6 t6 => fin H6 [c] (fun b hb => by rw [List.mem_singleton.1 hb]; exact ⟨hc1, hc2⟩) t6) s.ls.length 0 n h5 _ (Nat.add_zero _) (by omega) (Tch.refl _ _) kl5 k5 (by rw [List.length_append, flatL_len]; omega) (by omega)
end Go.Proofs.Ythdkfofkghpmcaa
