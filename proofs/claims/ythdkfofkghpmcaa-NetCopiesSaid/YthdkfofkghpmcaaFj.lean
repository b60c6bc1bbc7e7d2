/- NetCopies. -/
import Derived.Test.YthdkfofkghpmcaaFi
import Derived.Test.YthdkfofkghpmcaaLCopies
namespace Go.Proofs.Ythdkfofkghpmcaa
open Go.RowKit Abs
def Far (N : Nat) (H H' : AHeap) : Prop := ∃ S, Tch S H H' ∧ ∀ b ∈ S, N ≤ b
theorem Far.trans {N : Nat} {a b c : AHeap} (x : Far N a b) (y : Far N b c) : Far N a c := by
  obtain ⟨S, t, h⟩ := x
  obtain ⟨S', t', h'⟩ := y
  exact ⟨S ++ S', (t.mono fun _ hb => .inl (List.mem_append_left _ hb)).trans (t'.mono fun _ hb => .inl (List.mem_append_right _ hb)), fun b hb => (List.mem_append.1 hb).elim (h b) (h' b)⟩
theorem Far.of {N : Nat} {a b : AHeap} (t : Tch [] a b) : Far N a b := ⟨[], t, fun _ h => nomatch h⟩
theorem Far.next {N : Nat} {a b : AHeap} (x : Far N a b) : a.next ≤ b.next := by
  obtain ⟨S, t, h⟩ := x
  exact t.1
theorem Far.slc {N : Nat} {a b : AHeap} {v : AV} {ls : List (List AV)} (x : Far N a b) (hs : Slc N a 4 v ls) (hN : N ≤ a.next) : Slc N b 4 v ls := by
  obtain ⟨S, t, h⟩ := x
  exact hs.tch t hN h
section
variable {N n d i j k p q : Nat} {H : AHeap} {L : List (Nat × NS)} {s : NS} {a : AV} {xs : List Opr} {Q : ARes → AHeap → Prop}
set_option maxHeartbeats 1000000 in
/-- one call of the script on two nets that stand alike: they tell the same -/
theorem both_play (hn : 1000000 < n) (W : SysN (· < N) H L) (hN : N ≤ H.next) (hij : i ≠ j) (hi : L[i]? = some (p, s)) (hj : L[j]? = some (q, s)) (hb : s.last < 999999) (hs : Slc N H 4 a (xs.map opC)) (hk : k < xs.length) {K : AV → AV → AHeap → R}
    (kk : ∀ H' p' q', SysN (· < N) H' ((L.set i (p', playN s xs[k])).set j (q', playN s xs[k])) → Far N H H' → Wp (K (.ptr p' 0) (.ptr q' 0) H') Q) :
    Wp (Abs.obind (idxP 4 a (k : Int)) fun t108 =>
        Abs.obind (ldRow H 4 t108) fun t109 =>
        Abs.callN (world n (d + 8) 12 [.ptr p 0, .agg t109] H) fun r110 h_161 =>
        Abs.obind (extT 0 r110) fun v111 =>
        Abs.obind (extT 1 r110) fun v112 =>
        Abs.obind (avAgg v112) fun t112 =>
        Abs.lett (Abs.newH h_161 TTold [.int .i64 0, .int .i64 0, .int .i64 0, .int .i64 0, .str 0 0, .int .i64 0]) fun h_166 =>
        Abs.obind (stRow h_166 6 t112 (newP h_161)) fun h_168 =>
        Abs.obind (idxP 4 a (k : Int)) fun t117 =>
        Abs.obind (ldRow h_168 4 t117) fun t118 =>
        Abs.callN (world n (d + 8) 12 [.ptr q 0, .agg t118] h_168) fun r119 h_173 =>
        Abs.obind (extT 0 r119) fun v120 =>
        Abs.obind (extT 1 r119) fun v121 =>
        Abs.obind (avAgg v121) fun t121 =>
        Abs.lett (Abs.newH h_173 TTold [.int .i64 0, .int .i64 0, .int .i64 0, .int .i64 0, .str 0 0, .int .i64 0]) fun h_178 =>
        Abs.obind (stRow h_178 6 t121 (newP h_173)) fun h_180 =>
        Abs.obind (ldRow h_180 6 (newP h_161)) fun t124 =>
        Abs.obind (ldRow h_180 6 (newP h_173)) fun t125 =>
        Abs.obind (eqOther Try.prog TTold (.agg t124) (.agg t125)) fun t126 =>
        Abs.lett (!t126) fun (t126_187 : Bool) =>
        Abs.ifB t126_187 (some (.ret (.bool false), h_180)) (K v111 v120 h_180)) Q := by
  obtain ⟨b, i1, r1, _⟩ := op_row hs hk
  obtain ⟨h1, p1, S1, e1, W1, t1, hS1⟩ := W.play (n := n) (d := d) hn hi hb xs[k]
  have F1 : Far N H h1 := ⟨S1, t1, fun b hb => Nat.le_of_not_lt (hS1 b hb)⟩
  refine Wp.obind i1 (Wp.obind r1 (Wp.callN e1 (Wp.obind (extT_0 _ _) (Wp.obind (extT_1 _ _ _) (Wp.obind (avAgg_agg _) (Wp.mnew (Mem.nil [] h1) fun h2 M2 => ?_))))))
  rw [newP_eq]
  refine Wp.sa0 M2 rfl rfl rfl fun h3 M3 => ?_
  have t3 := M3.tch
  have k3 := M3.at0.1
  have lt3 := M3.at0.2.1
  have W3 := W1.part t3
  have F3 : Far N H h3 := F1.trans (Far.of t3)
  obtain ⟨b', i2, r2, _⟩ := op_row (F3.slc hs hN) hk
  have hj3 : (L.set i (p1, playN s xs[k]))[j]? = some (q, s) := by
    rw [List.getElem?_set_ne hij]
    exact hj
  obtain ⟨h4, p4, S4, e4, W4, t4, hS4⟩ := W3.play (n := n) (d := d) hn hj3 hb xs[k]
  have F4 : Far N h3 h4 := ⟨S4, t4, fun b hb => Nat.le_of_not_lt fun h => hS4 b hb (.inl h)⟩
  have n3 : h1.next ≤ h3.next := t3.1
  have k4 := k3.tch t4 lt3 (fun hm => hS4 _ hm (.inr ⟨Nat.le_refl _, lt3⟩))
  have n4 := t4.1
  refine Wp.obind i2 (Wp.obind r2 (Wp.callN e4 (Wp.obind (extT_0 _ _) (Wp.obind (extT_1 _ _ _) (Wp.obind (avAgg_agg _) (Wp.mnew (Mem.nil [] h4) fun h5 M5 => ?_))))))
  rw [newP_eq]
  refine Wp.sa0 M5 rfl rfl rfl fun h6 M6 => ?_
  have t6 := M6.tch
  have k6 := k4.tch t6 (Nat.lt_of_lt_of_le lt3 n4) (fun h => nomatch h)
  refine Wp.obind (RowH.ldAll k6 rfl) (Wp.obind (RowH.ldAll M6.at0.1 rfl) (Wp.obind (eqTold _) (Wp.lett (Wp.iff rfl ?_))))
  exact kk h6 p1 p4 ((W4.part t6).mono fun b hb => .inl (.inl hb)) ((F3.trans F4).trans (Far.of t6))
set_option maxHeartbeats 1000000 in
theorem ahead_loop (hn : 1000000 < n) {H0 : AHeap} (hN0 : N ≤ H0.next) (hs : Slc N H0 4 a (xs.map opC)) (hl : xs.length ≤ 400) {k31 : AV → AV → AV → AHeap → R}
    (hk : ∀ H n1 n2 n3 s, SysN (· < N) H [(n1, s), (n2, s), (n3, s)] → Far N H0 H → s.last ≤ 400 → Wp (k31 (.ptr n1 0) (.ptr n2 0) (.ptr n3 0) H) Q) :
    ∀ (r i fu : Nat) (H : AHeap) (n1 n2 n3 : Nat) (s : NS), r + i = xs.length → r < fu → SysN (· < N) H [(n1, s), (n2, s), (n3, s)] → Far N H0 H → s.last ≤ i →
      Wp (law05_NetCopies_L1 (world n (d + 8)) a k31 fu (.ptr n1 0) (.ptr n2 0) (.ptr n3 0) (i : Int) H) Q
  | _, _, 0, _, _, _, _, _, _, hf, _, _, _ => by omega
  | 0, i, fu + 1, H, n1, n2, n3, s, hi, hf, W, F, hlast => by
    have hlen := (F.slc hs hN0).len
    rw [List.length_map] at hlen
    rw [law05_NetCopies_L1_s]
    unfold law05_NetCopies_L1b
    refine Wp.obind hlen (Wp.lett (Wp.iff (by rw [decide_eq_false_iff_not]; omega) ?_))
    exact hk H n1 n2 n3 s W F (by omega)
  | r + 1, i, fu + 1, H, n1, n2, n3, s, hi, hf, W, F, hlast => by
    have hlen := (F.slc hs hN0).len
    rw [List.length_map] at hlen
    have hil : i < xs.length := by omega
    rw [law05_NetCopies_L1_s]
    unfold law05_NetCopies_L1b
    obtain ⟨b1, i1, r1, _⟩ := op_row (F.slc hs hN0) hil
    obtain ⟨h1, p1, S1, e1, W1, t1, hS1⟩ := W.play (n := n) (d := d) (i := 0) hn rfl (by omega) xs[i]
    have F1 : Far N H0 h1 := F.trans ⟨S1, t1, fun b hb => Nat.le_of_not_lt (hS1 b hb)⟩
    obtain ⟨b2, i2, r2, _⟩ := op_row (F1.slc hs hN0) hil
    obtain ⟨h2, p2, S2, e2, W2, t2, hS2⟩ := W1.play (n := n) (d := d) (i := 1) (p := n2) (s := s) hn rfl (by omega) xs[i]
    have F2 : Far N H0 h2 := F1.trans ⟨S2, t2, fun b hb => Nat.le_of_not_lt (hS2 b hb)⟩
    obtain ⟨b3, i3, r3, _⟩ := op_row (F2.slc hs hN0) hil
    obtain ⟨h3, p3, S3, e3, W3, t3, hS3⟩ := W2.play (n := n) (d := d) (i := 2) (p := n3) (s := s) hn rfl (by omega) xs[i]
    have F3 : Far N H0 h3 := F2.trans ⟨S3, t3, fun b hb => Nat.le_of_not_lt (hS3 b hb)⟩
    refine Wp.obind hlen (Wp.lett (Wp.ift (by rw [decide_eq_true_eq]; omega) (Wp.obind i1 (Wp.obind r1 (Wp.callN e1 (Wp.obind (extT_0 _ _) (Wp.obind (extT_1 _ _ _) (Wp.obind (avAgg_agg _) ?_))))))))
    refine Wp.obind i2 (Wp.obind r2 (Wp.callN e2 (Wp.obind (extT_0 _ _) (Wp.obind (extT_1 _ _ _) (Wp.obind (avAgg_agg _) ?_)))))
    refine Wp.obind i3 (Wp.obind r3 (Wp.callN e3 (Wp.obind (extT_0 _ _) (Wp.obind (extT_1 _ _ _) (Wp.obind (avAgg_agg _) ?_)))))
    refine Wp.outK (eqNet p1 0 h3) (Wp.obind (avBool_bool _) (Wp.lettG fun j74 e74 => Wp.iff rfl ?_))
    refine Wp.outK (eqNet p2 0 h3) (Wp.obind (avBool_bool _) ?_)
    rw [e74]
    refine Wp.lettG fun j78 e78 => Wp.iff rfl (Wp.outK (eqNet p3 0 h3) (Wp.obind (avBool_bool _) ?_))
    rw [e78]
    refine Wp.iff rfl (Wp.lettw (by omega) (by omega) ?_)
    rw [show (i : Int) + 1 = ((i + 1 : Nat) : Int) by omega]
    have := play_last s xs[i]
    exact ahead_loop hn hN0 hs hl hk r (i + 1) fu h3 p1 p2 p3 (playN s xs[i]) (by omega) (by omega) W3 F3 (by omega)
variable {ys : List Opr} {c : AV}
set_option maxHeartbeats 1000000 in
theorem pairs_loop (hn : 1000000 < n) {H0 : AHeap} (hN0 : N ≤ H0.next) (hs : Slc N H0 4 a (xs.map opC)) (hs2 : Slc N H0 4 c (ys.map opC)) (hl : xs.length ≤ 400) (hl2 : ys.length ≤ 400) {k48 : AV → AV → AV → AV → AHeap → R}
    (hk : ∀ H n1 n2 n3 n4 s u, SysN (· < N) H [(n1, s), (n2, s), (n3, u), (n4, u)] → Far N H0 H → Wp (k48 (.ptr n1 0) (.ptr n2 0) (.ptr n3 0) (.ptr n4 0) H) Q) :
    ∀ (r i fu : Nat) (H : AHeap) (n1 n2 n3 n4 : Nat) (s u : NS), r + i = 400 → r < fu → SysN (· < N) H [(n1, s), (n2, s), (n3, u), (n4, u)] → Far N H0 H → s.last ≤ 400 + i → u.last ≤ 400 + i →
      Wp (law05_NetCopies_L0 (world n (d + 8)) a c k48 fu (.ptr n1 0) (.ptr n2 0) (.ptr n3 0) (.ptr n4 0) (i : Int) H) Q := by
  intro r
  induction r with
  | zero =>
    intro i fu H n1 n2 n3 n4 s u hi hf W F h1 h2
    obtain ⟨fu, rfl⟩ : ∃ f, fu = f + 1 := ⟨fu - 1, by omega⟩
    have hlen := (F.slc hs hN0).len
    have hlen2 := (F.slc hs2 hN0).len
    rw [List.length_map] at hlen hlen2
    rw [law05_NetCopies_L0_s]
    unfold law05_NetCopies_L0b
    refine Wp.obind hlen (Wp.lett (Wp.lettG fun j97 e97 => Wp.iff (by rw [decide_eq_false_iff_not]; omega) (Wp.obind hlen2 (Wp.lett ?_))))
    rw [e97, show decide ((i : Int) < (ys.length : Int)) = false by rw [decide_eq_false_iff_not]; omega]
    exact Wp.iff rfl (hk H n1 n2 n3 n4 s u W F)
  | succ r ih =>
    intro i fu H n1 n2 n3 n4 s u hi hf W F h1 h2
    obtain ⟨fu, rfl⟩ : ∃ f, fu = f + 1 := ⟨fu - 1, by omega⟩
    have hlen := (F.slc hs hN0).len
    have hlen2 := (F.slc hs2 hN0).len
    rw [List.length_map] at hlen hlen2
    rw [law05_NetCopies_L0_s]
    unfold law05_NetCopies_L0b
    refine Wp.obind hlen (Wp.lett (Wp.lettG fun j97 e97 => ?_))
    -- the two halves, and what follows
    have go : Wp (j97 true H) Q := by
      rw [e97]
      refine Wp.ift rfl (Wp.obind hlen (Wp.lett (Wp.lettG fun k90 e90 => ?_)))
      have second : ∀ (H1 : AHeap) (m1 m2 : Nat) (s1 : NS), SysN (· < N) H1 [(m1, s1), (m2, s1), (n3, u), (n4, u)] → Far N H0 H1 → s1.last ≤ 400 + (i + 1) → Wp (k90 (.ptr m1 0) (.ptr m2 0) H1) Q := by
        intro H1 m1 m2 s1 W1 F1 hs1
        rw [e90]
        refine Wp.obind (by
          have := (F1.slc hs2 hN0).len
          rw [List.length_map] at this
          exact this) (Wp.lett (Wp.lettG fun k98 e98 => ?_))
        have third : ∀ (H2 : AHeap) (m3 m4 : Nat) (u2 : NS), SysN (· < N) H2 [(m1, s1), (m2, s1), (m3, u2), (m4, u2)] → Far N H0 H2 → u2.last ≤ 400 + (i + 1) → Wp (k98 (.ptr m3 0) (.ptr m4 0) H2) Q := by
          intro H2 m3 m4 u2 W2 F2 hu2
          rw [e98]
          refine Wp.outK (eqNet m1 0 H2) (Wp.obind (avBool_bool _) (Wp.lettG fun j159 e159 => Wp.iff rfl (Wp.outK (eqNet m2 0 H2) (Wp.obind (avBool_bool _) ?_))))
          rw [e159]
          refine Wp.lettG fun j163 e163 => Wp.iff rfl (Wp.outK (eqNet m3 0 H2) (Wp.obind (avBool_bool _) ?_))
          rw [e163]
          refine Wp.lettG fun j167 e167 => Wp.iff rfl (Wp.outK (eqNet m4 0 H2) (Wp.obind (avBool_bool _) ?_))
          rw [e167]
          refine Wp.iff rfl (Wp.lettw (by omega) (by omega) ?_)
          rw [show (i : Int) + 1 = ((i + 1 : Nat) : Int) by omega]
          exact ih (i + 1) fu H2 m1 m2 m3 m4 s1 u2 (by omega) (by omega) W2 F2 hs1 hu2
        by_cases hy : i < ys.length
        · refine Wp.ift (by rw [decide_eq_true_eq]; omega) ?_
          refine both_play (n := n) (d := d) (i := 3) (j := 2) (p := n4) (q := n3) (s := u) (K := fun x y => k98 y x) hn W1 (Nat.le_trans hN0 F1.next) (by decide) rfl rfl (by omega) (F1.slc hs2 hN0) hy fun H2 p' q' W2 F2 => ?_
          have := play_last u ys[i]
          exact third H2 q' p' (playN u ys[i]) W2 (F1.trans F2) (by omega)
        · refine Wp.iff (by rw [decide_eq_false_iff_not]; omega) ?_
          exact third H1 n3 n4 u W1 F1 (by omega)
      by_cases hx : i < xs.length
      · refine Wp.ift (by rw [decide_eq_true_eq]; omega) ?_
        refine both_play (n := n) (d := d) (i := 0) (j := 1) (p := n1) (q := n2) (s := s) (K := k90) hn W (Nat.le_trans hN0 F.next) (by decide) rfl rfl (by omega) (F.slc hs hN0) hx fun H2 p' q' W2 F2 => ?_
        have := play_last s xs[i]
        exact second H2 p' q' (playN s xs[i]) W2 (F.trans F2) (by omega)
      · refine Wp.iff (by rw [decide_eq_false_iff_not]; omega) ?_
        exact second H n1 n2 s W F (by omega)
    by_cases hx : i < xs.length
    · exact Wp.ift (by rw [decide_eq_true_eq]; omega) go
    · refine Wp.iff (by rw [decide_eq_false_iff_not]; omega) (Wp.obind hlen2 (Wp.lett ?_))
      by_cases hy : i < ys.length
      · rw [show decide ((i : Int) < (ys.length : Int)) = true by rw [decide_eq_true_eq]; omega]
        exact go
      · rw [show decide ((i : Int) < (ys.length : Int)) = false by rw [decide_eq_false_iff_not]; omega, e97]
        exact Wp.iff rfl (hk H n1 n2 n3 n4 s u W F)
end
set_option maxRecDepth 100000 in
set_option maxHeartbeats 1000000 in
/-- the law -/
theorem netCopies_says (h : AHeap) (hX : h.ex = [TNet]) (xs : List AV) (hP : ArgsP Try.prog h.next h 12 [22, 22, 22] xs) : ∃ h', Says Try.prog 6 xs h (.ret (.bool true)) h' := by
  obtain ⟨a, _, rfl, hp0, hP⟩ := args_cons hP
  obtain ⟨c, _, rfl, hp1, hP⟩ := args_cons hP
  obtain ⟨e, _, rfl, hp2, hP⟩ := args_cons hP
  obtain rfl := args0 hP
  obtain ⟨l, hs, hok, hl⟩ := ops_of hp0
  obtain ⟨l1, hs1, hok1, hl1⟩ := ops_of hp1
  obtain ⟨l2, hs2, hok2, hl2⟩ := ops_of hp2
  have hrb : reachBytes = 140737488351232 := rfl
  obtain ⟨n, hn⟩ : ∃ n, 140737488351232 < n := ⟨140737488351233, Nat.lt_succ_self _⟩
  suffices hK : Wp (law05_NetCopies (world n 9) n a c e h) fun r _ => r = .ret (.bool true) by
    obtain ⟨_, h', e, rfl⟩ := hK
    exact ⟨h', law05_NetCopies_ok (world_ok n 9) e⟩
  unfold law05_NetCopies
  obtain ⟨h2, w2, t2⟩ := works_w (n := n) (d := 0) (by omega) hX
  have n2 := t2.1
  have q0 := hs.tch t2 (Nat.le_refl _) (fun _ h => nomatch h)
  have q1 := hs1.tch t2 (Nat.le_refl _) (fun _ h => nomatch h)
  have q2 := hs2.tch t2 (Nat.le_refl _) (fun _ h => nomatch h)
  obtain ⟨b0, g0, c0⟩ := great_w (n := n) (d := 8) q0 (fun x hx => (hok x hx).2.2.2) hl (by omega)
  obtain ⟨b1, g1, c1⟩ := great_w (n := n) (d := 8) q1 (fun x hx => (hok1 x hx).2.2.2) hl1 (by omega)
  obtain ⟨b2, g2, c2⟩ := great_w (n := n) (d := 8) q2 (fun x hx => (hok2 x hx).2.2.2) hl2 (by omega)
  refine Wp.callN w2 (Wp.obind (avBool_bool _) (Wp.lett (Wp.iff rfl (Wp.callN g0 (Wp.obind (avBool_bool _) (Wp.lettG fun j28 e28 => ?_))))))
  have yes : Wp (j28 true h2) fun r _ => r = .ret (.bool true) := by
    rw [e28]
    refine Wp.lettG fun j32 e32 => Wp.ift rfl ?_
    rw [e32]
    exact Wp.ift rfl (Wp.ret rfl)
  cases b0 with
  | true => exact Wp.ift rfl yes
  | false =>
    refine Wp.iff rfl (Wp.callN g1 (Wp.obind (avBool_bool _) ?_))
    cases b1 with
    | true => exact yes
    | false =>
      rw [e28]
      refine Wp.lettG fun j32 e32 => Wp.iff rfl (Wp.callN g2 (Wp.obind (avBool_bool _) ?_))
      rw [e32]
      cases b2 with
      | true => exact Wp.ift rfl (Wp.ret rfl)
      | false =>
        have m0 := (c0 rfl).2
        have m1 := (c1 rfl).2
        have m2 := (c2 rfl).2
        have x2 : h2.ex = [TNet] := by rw [t2.2.1, hX]
        obtain ⟨h3, u3, K3, t3⟩ := new_ok (n := n) (d := 8) x2
        have W3 := (SysN.nil (fr := (· < h.next)) (H := h2) fun b hb => Nat.lt_of_lt_of_le hb n2).snoc t3 K3
        obtain ⟨h4, u4, K4, t4⟩ := new_ok (n := n) (d := 8) K3.ex
        have W4 := W3.snoc t4 K4
        obtain ⟨h5, u5, K5, t5⟩ := new_ok (n := n) (d := 8) K4.ex
        have W5 := W4.snoc t5 K5
        have F5 : Far h.next h2 h5 := Far.of ((t3.trans t4).trans t5)
        refine Wp.iff rfl (Wp.callN u3 (Wp.callN u4 (Wp.callN u5 (Wp.lettG fun k31 e31 => ?_))))
        refine ahead_loop (n := n) (d := 1) (N := h.next) (xs := l) (by omega) n2 q0 m0 (fun H n1 n3 n4 s W F hlast => ?_) l.length 0 n h5 _ _ _ newN (Nat.add_zero _) (by omega) W5 F5 (Nat.le_refl _)
        rw [e31]
        obtain ⟨lo, KN⟩ := W.get (i := 0) rfl
        obtain ⟨H1, nc, u6, K6, t6, hnc⟩ := copy_ok (n := n) (d := 6) KN
        have W6 := W.snoc t6 K6
        have KN1 := KN.tch t6 (fun _ h => nomatch h)
        have ap : opBinV Try.prog H1 .eql 25 false (some (.ptr nc 0)) (some (.ptr n1 0)) = some (.val (.bool false), H1) := by
          have hlt := KN.lt
          have hx := KN1.ex
          obtain ⟨f1, b1, K1⟩ := KN1
          obtain ⟨f2, b2, K2⟩ := K6
          exact apartNet K2.row K1.row (by omega) (by rw [hx]; rfl)
        refine Wp.callN u6 (Wp.outK (eqNet nc 0 H1) (Wp.obind (avBool_bool _) (Wp.lettG fun j87 e87 => Wp.iff rfl (Wp.outK ap (Wp.obind (avBool_bool _) ?_)))))
        rw [e87]
        refine Wp.iff rfl (Wp.lettG fun k48 e48 => ?_)
        refine pairs_loop (n := n) (d := 1) (N := h.next) (xs := l1) (ys := l2) (by omega) n2 q1 q2 m1 m2 (fun H n1 n2 n3 n4 s u W F => ?_) 400 0 n H1 n1 n3 n4 nc s s (Nat.add_zero _) (by omega) W6 (F.trans (Far.of t6)) (by omega) (by omega)
        rw [e48]
        have len : ∀ {lo : Nat → Prop} {H : AHeap} {nb : Nat} {s : NS}, NetAt lo H nb s → s.ls.length < 1000000 := fun K => by
          obtain ⟨_, _, K⟩ := K
          have := K.len
          omega
        obtain ⟨lo1, A1⟩ := W.get (i := 0) rfl
        obtain ⟨lo2, A2⟩ := W.get (i := 1) rfl
        obtain ⟨lo3, A3⟩ := W.get (i := 2) rfl
        obtain ⟨lo4, A4⟩ := W.get (i := 3) rfl
        obtain ⟨I1, v1, f1, L1, s1, _⟩ := flight_ok (n := n) (d := 7) A1
        obtain ⟨I2, v2, f2, L2, s2, _⟩ := flight_ok (n := n) (d := 7) (A2.tch s1 (fun _ h => nomatch h))
        have L1' := L1.tch s2 (fun _ _ h => nomatch h)
        refine Wp.callN f1 (Wp.callN f2 (Wp.callN (same_w (n := n) (d := 8) (by omega) L1' L2 (len A1)) (Wp.obind (avBool_bool _) (Wp.lettG fun j179 e179 => Wp.ift rfl ?_))))
        obtain ⟨I3, v3, f3, L3, s3, _⟩ := flight_ok (n := n) (d := 7) (A4.tch (s1.trans s2) (fun _ h => nomatch h))
        obtain ⟨I4, v4, f4, L4, s4, _⟩ := flight_ok (n := n) (d := 7) (A3.tch ((s1.trans s2).trans s3) (fun _ h => nomatch h))
        have L3' := L3.tch s4 (fun _ _ h => nomatch h)
        refine Wp.callN f3 (Wp.callN f4 (Wp.callN (same_w (n := n) (d := 8) (by omega) L3' L4 (len A4)) (Wp.obind (avBool_bool _) ?_)))
        rw [e179]
        exact Wp.ret rfl
end Go.Proofs.Ythdkfofkghpmcaa
