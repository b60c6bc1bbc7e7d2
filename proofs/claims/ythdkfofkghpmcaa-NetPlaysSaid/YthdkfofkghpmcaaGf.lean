/- NetPlays. -/
import Derived.Test.YthdkfofkghpmcaaGe
import Derived.Test.YthdkfofkghpmcaaFi
import Derived.Test.YthdkfofkghpmcaaLPlays
namespace Go.Proofs.Ythdkfofkghpmcaa
open Go.RowKit Abs
theorem rowSame_of {h : AHeap} {b e : Nat} {l : List AV} (k : RowH h b e l) (hs : sameLO (some l) l = true) : rowSame h b e l = true := by
  obtain ⟨t, h1, h2⟩ := k
  have ht : t.take 0 l.length = some l := by
    have := take_of_get (t := t) (l := l) l.length 0 (fun i _ hi => h2 i (by omega)) (by omega)
    rw [List.drop_zero, List.take_length] at this
    exact this
  unfold rowSame
  rw [h1]
  show (Nat.beq l.length l.length && Nat.beq e e && sameLO (t.take 0 l.length) l) = true
  rw [ht, Nat.beq_refl, Nat.beq_refl, hs]
  rfl
theorem play_cuts (s : NS) (o : Opr) : (playN s o).cuts.length ≤ s.cuts.length + 1 := by
  have ha : ∀ a b u, (addN s a b u).cuts.length ≤ s.cuts.length + 1 := fun a b u => by
    unfold addN
    split <;> exact Nat.le_succ _
  have hd : ∀ z, (delN s z).cuts.length ≤ s.cuts.length + 1 := fun z => by
    unfold delN
    split <;> exact Nat.le_succ _
  have hl : ∀ (p : Int × Int) (l : List (Int × Int)), (delL p l).length ≤ l.length := fun p l => by
    induction l with
    | nil => exact Nat.le_refl _
    | cons q l ih =>
      show (if p = q then l else q :: delL p l).length ≤ l.length + 1
      split
      · exact Nat.le_succ _
      · exact Nat.succ_le_succ ih
  unfold playN
  split
  · unfold sendN
    split
    · split
      · exact Nat.le_succ _
      · split
        · exact Nat.le_succ _
        · exact ha _ _ _
    · exact Nat.le_succ _
  split
  · exact hd _
  split
  · exact hd _
  split
  · unfold twN
    split
    · exact ha _ _ _
    · exact Nat.le_succ _
  split
  · split
    · show (putL _ _).length ≤ _
      unfold putL
      split
      · exact Nat.le_succ _
      · rw [List.length_append, List.length_singleton]
        exact Nat.le_refl _
    · exact Nat.le_succ _
  split
  · split
    · exact Nat.le_succ_of_le (hl _ _)
    · exact Nat.le_succ _
  · exact Nat.le_succ _
theorem RAt.part {ro : Nat → Prop} {h h' : AHeap} {m : List AV} {s : NS} {S : List Nat} (R : RAt ro h m s) (t : Tch S h h') (hS : ∀ b ∈ S, ¬ ro b ∨ h.next ≤ b) : RAt (shr ro h.next h'.next) h' m s := by
  obtain ⟨lv, cv, cs, e, K⟩ := R
  have o1 : ∀ b ∈ blkV lv, b ∉ S := fun b hb hm => by
    have := K.l.lt b hb
    rcases hS b hm with h | h
    · exact h (K.r1 b hb)
    · omega
  have o2 : ∀ b ∈ blkV cv, b ∉ S := fun b hb hm => by
    have := LsAt.lt K.c b hb
    rcases hS b hm with h | h
    · exact h (K.r2 b hb)
    · omega
  exact ⟨lv, cv, cs, e, K.l.tch t o1, LsAt.tch K.c t o2, K.e, K.n, fun b hb => ⟨K.r1 b hb, .inl (K.l.lt b hb)⟩, fun b hb => ⟨K.r2 b hb, .inl (LsAt.lt K.c b hb)⟩, fun b hb => ⟨K.nw b (Nat.le_trans t.1 hb), .inr hb⟩⟩
/-- the net, and the reference's; each with its own blocks, none of them foreign -/
def PW (fr : Nat → Prop) (H : AHeap) (nb : Nat) (m : List AV) (s s2 : NS) : Prop := ∃ lo ro, NetAt lo H nb s ∧ RAt ro H m s2 ∧ (∀ b, fr b → b < H.next ∧ ¬ lo b ∧ ¬ ro b) ∧ ∀ b, b < H.next → lo b → ¬ ro b
section
variable {fr fr' : Nat → Prop} {H H' : AHeap} {n d nb : Nat} {m : List AV} {s s2 : NS}
theorem PW.mono (W : PW fr H nb m s s2) (h : ∀ b, fr' b → fr b) : PW fr' H nb m s s2 := by
  obtain ⟨lo, ro, K, R, h1, h2⟩ := W
  exact ⟨lo, ro, K, R, fun b hb => h1 b (h b hb), h2⟩
theorem PW.ex (W : PW fr H nb m s s2) : H.ex = [TNet] := by
  obtain ⟨lo, ro, K, R, h1, h2⟩ := W
  exact K.ex
theorem PW.part {S : List Nat} (W : PW fr H nb m s s2) (t : Tch S H H') (hS : ∀ b ∈ S, fr b ∨ H.next ≤ b) : PW (fun b => fr b ∨ (H.next ≤ b ∧ b < H'.next)) H' nb m s s2 := by
  obtain ⟨lo, ro, K, R, h1, h2⟩ := W
  have n1 := t.1
  refine ⟨_, _, K.part t fun b hb => (hS b hb).imp (fun h => (h1 b h).2.1) id, R.part t fun b hb => (hS b hb).imp (fun h => (h1 b h).2.2) id, fun b hb => ?_, fun b hb x y => ?_⟩
  · rcases hb with h | h
    · obtain ⟨a1, a2, a3⟩ := h1 b h
      exact ⟨by omega, fun hh => a2 hh.1, fun hh => a3 hh.1⟩
    · refine ⟨h.2, fun hh => ?_, fun hh => ?_⟩ <;> rcases hh.2 with h' | h' <;> omega
  · have hbl : b < H.next := by rcases x.2 with h | h <;> omega
    exact h2 b hbl x.1 y.1
theorem PW.play (hn : 1000000 < n) (W : PW fr H nb m s s2) (hb : s.last < 999999) (o : Opr) : ∃ H' nb' S, world n (d + 8) 12 [.ptr nb 0, .agg (opC o)] H = some (.ret (.tup [.ptr nb' 0, .agg (tdC (playT s o))]), H') ∧ PW fr H' nb' m (playN s o) s2 ∧ Tch S H H' ∧ ∀ b ∈ S, ¬ fr b := by
  obtain ⟨lo, ro, K, R, h1, h2⟩ := W
  obtain ⟨H', lo', nb', S, e, K', hl, t, hS⟩ := play_ok (n := n) (d := d) hn K hb o
  have n1 := t.1
  refine ⟨H', nb', S, e, ⟨lo', shr ro H.next H'.next, K', R.part t fun b hb => ?_, fun b hb => ?_, fun b hb x y => ?_⟩, t, fun b hb hf => (h1 b hf).2.1 (hS b hb)⟩
  · by_cases hbl : b < H.next
    · exact .inl (h2 b hbl (hS b hb))
    · exact .inr (by omega)
  · obtain ⟨a1, a2, a3⟩ := h1 b hb
    refine ⟨by omega, fun hh => ?_, fun hh => a3 hh.1⟩
    rcases hl b hh with h | h
    · exact a2 h
    · omega
  · have hbl : b < H.next := by rcases y.2 with h | h <;> omega
    rcases hl b x with h | h
    · exact h2 b hbl h y.1
    · omega
theorem PW.model (hn : 1000000 < n) (W : PW fr H nb m s s2) (hb : s2.last < 999999) (hlen : s2.ls.length ≤ 256) (hcl : s2.cuts.length < 999999) (o : Opr) : ∃ H' m', world n (d + 3) 13 [.agg m, .agg (opC o)] H = some (.ret (.tup [.agg m', .agg (tdC (playT s2 o))]), H') ∧ PW fr H' nb m' s (playN s2 o) ∧ Tch [] H H' := by
  obtain ⟨lo, ro, K, R, h1, h2⟩ := W
  obtain ⟨H', m', e, R', t⟩ := model_ok (n := n) (d := d) hn R K.ex hlen hb hcl o
  have n1 := t.1
  refine ⟨H', m', e, ⟨shr lo H.next H'.next, ro, K.part t (fun _ h => nomatch h), R', fun b hb => ?_, fun b hb x y => ?_⟩, t⟩
  · obtain ⟨a1, a2, a3⟩ := h1 b hb
    exact ⟨by omega, fun hh => a2 hh.1, a3⟩
  · have hbl : b < H.next := by rcases x.2 with h | h <;> omega
    exact h2 b hbl x.1 y
end
section
variable {N n d rb : Nat} {a : AV} {xs : List Opr} {Q : ARes → AHeap → Prop} {H0 h16 : AHeap}
set_option maxHeartbeats 2000000 in
theorem plays_loop (hn : 1000000 < n) (hrb : rb = h16.next) (hN0 : N ≤ H0.next) (hs : Slc N H0 4 a (xs.map opC)) (hl : xs.length ≤ 400) (hNr : N ≤ rb) {k26 : AHeap → R} (hk : ∀ H, Wp (k26 H) Q) :
    ∀ (r i fu : Nat) (H : AHeap) (nb : Nat) (m : List AV) (s : NS), r + i = xs.length → r < fu → PW (fun b => b < N ∨ b = rb) H nb m s s → RowH H rb TRef m → (∃ S, Tch S H0 H ∧ ∀ b ∈ S, N ≤ b) → s.last ≤ i → s.cuts.length ≤ i →
      Wp (law05_NetPlays_L0 (world n (d + 8)) a h16 k26 fu (.ptr nb 0) (i : Int) H) Q
  | _, _, 0, _, _, _, _, _, hf, _, _, _, _, _ => by omega
  | 0, i, fu + 1, H, nb, m, s, hi, hf, W, kb, ⟨S0, T0, hS0⟩, h1, h2 => by
    have hlen := (hs.tch T0 hN0 hS0).len
    rw [List.length_map] at hlen
    rw [law05_NetPlays_L0_s]
    unfold law05_NetPlays_L0b
    exact Wp.obind hlen (Wp.lett (Wp.iff (by rw [decide_eq_false_iff_not]; omega) (hk H)))
  | r + 1, i, fu + 1, H, nb, m, s, hi, hf, W, kb, ⟨S0, T0, hS0⟩, hl1, hl2 => by
    have hsH := hs.tch T0 hN0 hS0
    have n0 := T0.1
    have hNH : N ≤ H.next := Nat.le_trans hN0 n0
    have hlen := hsH.len
    rw [List.length_map] at hlen
    have hil : i < xs.length := by omega
    have hm3 : m.length = 3 := by
      obtain ⟨lo, ro, _, R, _⟩ := W
      exact R.one.2
    rw [law05_NetPlays_L0_s]
    unfold law05_NetPlays_L0b
    simp only [newP_eq]
    rw [← hrb]
    obtain ⟨b1, i1, r1, _⟩ := op_row hsH hil
    obtain ⟨h1, p1, S1, e1, W1, t1, hS1⟩ := W.play (n := n) (d := d) hn (by omega) xs[i]
    have rlt : rb < H.next := by
      obtain ⟨lo, ro, _, _, hh, _⟩ := W
      exact (hh rb (.inr rfl)).1
    have kb1 := kb.tch t1 rlt (fun hm => hS1 _ hm (.inr rfl))
    have n1 := t1.1
    refine Wp.obind hlen (Wp.lett (Wp.ift (by rw [decide_eq_true_eq]; omega) (Wp.obind i1 (Wp.obind r1 (Wp.callN e1 (Wp.obind (extT_0 _ _) (Wp.obind (extT_1 _ _ _) (Wp.obind (avAgg_agg _) (Wp.mnew (Mem.nil [] h1) fun h2 M2 => Wp.sa0 M2 rfl rfl rfl fun h3 M3 => ?_)))))))))
    have t3 := M3.tch
    have q1 := M3.at0.1
    have lq1 := M3.at0.2.1
    have W3 := W1.part t3 (fun _ h => nomatch h)
    have kb3 := kb1.tch t3 (by omega) (fun h => nomatch h)
    have n3 := t3.1
    have T3 : Tch S1 H h3 := t1.trans (t3.mono fun _ h => nomatch h)
    have hs3 := hsH.tch T3 hNH (fun b hb => Nat.le_of_not_lt fun h => hS1 b hb (.inl h))
    obtain ⟨b2, i2, r2, _⟩ := op_row hs3 hil
    refine Wp.obind (RowH.ldAll kb3 hm3) (Wp.obind i2 (Wp.obind r2 (Wp.mnew (Mem.nil [] h3) fun h4 M4 => Wp.mnew M4 fun h5 M5 => ?_)))
    have t5 := M5.tch
    have n5 := t5.1
    have W5 := W3.part t5 (fun _ h => nomatch h)
    have len5 : s.ls.length ≤ 256 := by
      obtain ⟨lo, ro, ⟨_, _, K⟩, _⟩ := W
      exact K.len
    obtain ⟨h6, m6, e6, W6, t6⟩ := W5.model (n := n) (d := d + 5) hn (by omega) len5 (by omega) xs[i]
    have M6 := M5.keep t6
    have n6 := t6.1
    have hm6 : m6.length = 3 ∧ m6.all AV.one = true := by
      obtain ⟨lo, ro, _, R, _⟩ := W6
      exact ⟨R.one.2, R.one.1⟩
    have u4 : h4.next < h5.next := M5.at0.2.1
    have u3 : h3.next < h5.next := M5.at1.2.1
    have u34 : h3.next < h4.next := M4.at0.2.1
    refine Wp.callN e6 (Wp.chk (and_t (rowSame_of M6.at0.1 (by kernel_rfl)) (and_t (rowSame_of M6.at1.1 (by kernel_rfl)) rfl)) (Wp.obind (extT_0 _ _) (Wp.obind (avAgg_agg _) (Wp.obind (extT_1 _ _ _) (Wp.obind (avAgg_agg _) (Wp.stAll M6.at1.1 hm6.1 rfl hm6.2 fun h7 r7 t7 n7 => ?_))))))
    have M7 : Mem [] h3 h7 [(h4.next, TTold, zT), (h3.next, TRef, m6)] := Mem.upd (xs := [_]) M6 t7 r7
    refine Wp.stAll M7.at0.1 rfl rfl rfl fun h8 r8 t8 n8 => ?_
    have M8 : Mem [] h3 h8 [(h4.next, TTold, tdC (playT s xs[i])), (h3.next, TRef, m6)] := Mem.upd (xs := []) M7 t8 r8
    have kb8 := kb3.tch M8.tch (by omega) (fun h => nomatch h)
    have q8 := q1.tch M8.tch lq1 (fun h => nomatch h)
    refine Wp.lr1 M8 hm6.1 (Wp.stAll kb8 hm6.1 hm3 hm6.2 fun h9 k9 t9 n9 => Wp.lettG fun k73 e73 => ?_)
    have q9 := q8.tch t9 (by have := M8.tch.1; omega) (fun hm => by have := List.mem_singleton.1 hm; omega)
    have M9r := M8.at0.1.tch t9 M8.at0.2.1 (fun hm => by have := List.mem_singleton.1 hm; omega)
    have W7 := W6.part t7 fun b hb => .inl (by
      rw [List.mem_singleton.1 hb]
      exact .inr ⟨Nat.le_refl _, u3⟩)
    have W8 := W7.part t8 fun b hb => .inl (by
      rw [List.mem_singleton.1 hb]
      exact .inl (.inr ⟨Nat.le_of_lt u34, u4⟩))
    have W9 := W8.part t9 fun b hb => .inl (by
      rw [List.mem_singleton.1 hb]
      exact .inl (.inl (.inl (.inl (.inr rfl)))))
    have W9' : PW (fun b => b < N ∨ b = rb) h9 p1 m6 (playN s xs[i]) (playN s xs[i]) := W9.mono fun b hb => .inl (.inl (.inl (.inl (.inl hb))))
    refine Wp.outK (eqNet p1 0 h9) (Wp.obind (avBool_bool _) (Wp.iff rfl (Wp.obind (RowH.ldAll q9 rfl) (Wp.obind (RowH.ldAll M9r rfl) (Wp.obind (eqTold _) (Wp.lett (Wp.iff rfl ?_)))))))
    have W9s := W9'
    obtain ⟨lo, ro, K9, R9, _, _⟩ := W9s
    obtain ⟨lv, cv, cs, em, RK⟩ := R9
    have g0 : m6[0]? = some lv := by rw [em]; rfl
    obtain ⟨h10, v10, e10, L10, t10, _⟩ := flight_ok (n := n) (d := d + 6) K9
    have rlt9 : rb < h9.next := by
      have := M8.tch.1
      omega
    have kb10 := k9.tch t10 rlt9 (fun h => nomatch h)
    have L10' := RK.l.tch t10 (fun _ _ h => nomatch h)
    have len9 : (playN s xs[i]).ls.length < 1000000 := by
      obtain ⟨_, _, K⟩ := K9
      have := K.len
      omega
    refine Wp.obind (RowH.cell' k9 g0) (Wp.callN e10 (Wp.chk (and_t (reLoad_c (by kernel_rfl) (RowH.cell' kb10 g0)) rfl) (Wp.callN (same_w (n := n) (d := d + 7) hn L10 L10' len9) (Wp.obind (avBool_bool _) (Wp.lett ?_)))))
    rw [e73]
    refine Wp.iff rfl (Wp.lettw (by omega) (by omega) ?_)
    rw [show (i : Int) + 1 = ((i + 1 : Nat) : Int) by omega]
    have c1 := play_last s xs[i]
    have c2 := play_cuts s xs[i]
    have W10 : PW (fun b => b < N ∨ b = rb) h10 p1 m6 (playN s xs[i]) (playN s xs[i]) := (W9'.part t10 (fun _ h => nomatch h)).mono fun b hb => .inl hb
    have T8 : Tch [] h3 h8 := M8.tch
    have T10 : ∃ S, Tch S H0 h10 ∧ ∀ b ∈ S, N ≤ b := ⟨S0 ++ (S1 ++ [rb]), ((((T0.mono fun _ hb => .inl (List.mem_append_left _ hb)).trans (T3.mono fun _ hb => .inl (List.mem_append_right _ (List.mem_append_left _ hb)))).trans (T8.mono fun _ hb => nomatch hb)).trans (t9.mono fun _ hb => .inl (List.mem_append_right _ (List.mem_append_right _ hb)))).trans (t10.mono fun _ hb => nomatch hb), fun b hb => by
      rcases List.mem_append.1 hb with hb | hb
      · exact hS0 b hb
      · rcases List.mem_append.1 hb with hb | hb
        · exact Nat.le_of_not_lt fun h => hS1 b hb (.inl h)
        · rw [List.mem_singleton.1 hb]
          exact hNr⟩
    exact plays_loop hn hrb hN0 hs hl hNr hk r (i + 1) fu h10 p1 m6 (playN s xs[i]) (by omega) (by omega) W10 kb10 T10 (by omega) (by omega)
end
set_option maxRecDepth 100000 in
set_option maxHeartbeats 1000000 in
/-- the law -/
theorem netPlays_says (h : AHeap) (hX : h.ex = [TNet]) (xs : List AV) (hP : ArgsP Try.prog h.next h 12 [22] xs) : ∃ h', Says Try.prog 3 xs h (.ret (.bool true)) h' := by
  obtain ⟨a, _, rfl, hp0, hP⟩ := args_cons hP
  obtain rfl := args0 hP
  obtain ⟨l, hs, hok, hl⟩ := ops_of hp0
  have hrb : reachBytes = 140737488351232 := rfl
  obtain ⟨n, hn⟩ : ∃ n, 140737488351232 < n := ⟨140737488351233, Nat.lt_succ_self _⟩
  suffices hK : Wp (law05_NetPlays (world n 9) n a h) fun r _ => r = .ret (.bool true) by
    obtain ⟨_, h', e, rfl⟩ := hK
    exact ⟨h', law05_NetPlays_ok (world_ok n 9) e⟩
  unfold law05_NetPlays
  simp only [newP_eq]
  obtain ⟨h2, e2, t2⟩ := works_w (n := n) (d := 0) (by omega) hX
  have hs2 := hs.tch t2 (Nat.le_refl _) (fun _ h => nomatch h)
  have n2 := t2.1
  obtain ⟨b, e3, hb⟩ := great_w (n := n) (d := 8) hs2 (fun x hx => (hok x hx).2.2.2) hl (by omega)
  refine Wp.callN e2 (Wp.obind (avBool_bool _) (Wp.lett (Wp.iff rfl (Wp.callN e3 (Wp.obind (avBool_bool _) ?_)))))
  cases b with
  | true => exact Wp.ift rfl (Wp.ret rfl)
  | false =>
    obtain ⟨_, hb2⟩ := hb rfl
    have hx2 : h2.ex = [TNet] := by rw [t2.2.1, hX]
    obtain ⟨h3, e4, K3, t3⟩ := new_ok (n := n) (d := 8) hx2
    have n3 := t3.1
    refine Wp.iff rfl (Wp.callN e4 (Wp.mnew (Mem.nil [] h3) fun h4 M4 => Wp.sa0 M4 rfl rfl rfl fun h5 M5 => Wp.lettG fun k26 e26 => ?_))
    have t5 := M5.tch
    have lt5 : h3.next < h5.next := M5.at0.2.1
    have K5 := K3.part t5 (fun _ h => nomatch h)
    refine plays_loop (n := n) (d := 1) (N := h.next) (rb := h3.next) (xs := l) (by omega) rfl n2 hs2 hb2 (by omega) (fun H => by rw [e26]; exact Wp.ret rfl) l.length 0 n h5 _ _ newN (Nat.add_zero _) (by omega) ⟨_, fun b => h5.next ≤ b, K5, ⟨.nsl, .nsl, [], rfl, .inl ⟨rfl, rfl⟩, ⟨.inl ⟨rfl, rfl⟩, fun _ h => nomatch h⟩, rfl, Nat.zero_le _, (fun _ h => nomatch h), (fun _ h => nomatch h), fun b hb => hb⟩, fun b hb => ?_, fun b hb _ h => ?_⟩ M5.at0.1 ⟨[], t3.trans t5, fun _ h => nomatch h⟩ (Nat.le_refl _) (Nat.le_refl _)
    · rcases hb with hb | rfl
      · refine ⟨by omega, fun hh => ?_, fun hh => ?_⟩
        · have : h2.next ≤ b := hh.1
          omega
        · have hh : h5.next ≤ b := hh
          omega
      · refine ⟨lt5, fun hh => ?_, fun hh => ?_⟩
        · rcases hh.2 with h | h <;> omega
        · have hh : h5.next ≤ h3.next := hh
          omega
    · have h : h5.next ≤ b := h
      omega
end Go.Proofs.Ythdkfofkghpmcaa
