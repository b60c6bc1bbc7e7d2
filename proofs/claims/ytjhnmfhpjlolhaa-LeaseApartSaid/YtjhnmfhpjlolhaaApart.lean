/- Two clocks within a drift: the law. -/
import Derived.Test.YtjhnmfhpjlolhaaClocks
namespace Go.Proofs.Ytjhnmfhpjlolhaa
open Go.RowKit Abs

/-- one of them has gone on by at least so much of what the other one has -/
def Near (rho x y : Int) : Prop := y * (1000 - rho) ≤ x * (1000 + rho)
theorem near_step {rho x y a b : Int} (h0 : 0 ≤ rho) (h1 : rho ≤ 500) (h : Near rho x y) (ha : 1000 - rho ≤ a) (hb : b ≤ 1000 + rho) : Near rho (x + a) (y + b) := by
  unfold Near at *
  rw [Int.add_mul, Int.add_mul]
  have e1 : b * (1000 - rho) ≤ (1000 + rho) * (1000 - rho) := Int.mul_le_mul_of_nonneg_right hb (by omega)
  have e2 : (1000 - rho) * (1000 + rho) ≤ a * (1000 + rho) := Int.mul_le_mul_of_nonneg_right ha (by omega)
  rw [Int.mul_comm (1000 + rho)] at e1
  omega
theorem near_apart {rho g1 G1 g2 G2 : Int} (h0 : 0 ≤ rho) (h1 : rho ≤ 500) (h : Near rho (g1 - G1) (g2 - G2)) (hs : g1 / 1000 - G1 / 1000 < spanI rho) : g2 / 1000 - G2 / 1000 < 20 := by
  have hq := spn_le h0 h1
  have hsi : spanI rho = spn rho - 1 := by unfold spanI; rw [if_neg (by omega)]
  rw [hsi] at hs
  have hqp : spn rho * (1000 + rho) ≤ 19 * (1000 - rho) := Int.ediv_mul_le _ (by omega)
  generalize spn rho = q at *
  apply Int.not_le.1
  intro hc
  unfold Near at h
  have hx : g1 - G1 ≤ (q - 1) * 1000 - 1 := by omega
  have hy : 19001 ≤ g2 - G2 := by omega
  have e1 : (g1 - G1) * (1000 + rho) ≤ ((q - 1) * 1000 - 1) * (1000 + rho) := Int.mul_le_mul_of_nonneg_right hx (by omega)
  have e2 : 19001 * (1000 - rho) ≤ (g2 - G2) * (1000 - rho) := Int.mul_le_mul_of_nonneg_right hy (by omega)
  have e3 : ((q - 1) * 1000 - 1) * (1000 + rho) = 1000 * (q * (1000 + rho)) - 1001 * (1000 + rho) := by
    rw [show (q - 1) * 1000 - 1 = 1000 * q - 1001 by omega, Int.sub_mul, Int.mul_assoc]
  omega

/-- how both clocks stand -/
structure Both (rho G1 G2 : Int) (b1 b2 : Nat) (h : AHeap) (a b g1 g2 t : Int) : Prop where
  one : RowH h b1 59 (clockC a g1)
  two : RowH h b2 59 (clockC b g2)
  ne : b1 ≠ b2 ∧ b1 < h.next ∧ b2 < h.next
  ra : 1000 - rho ≤ a ∧ a ≤ 1000 + rho ∧ 1000 - rho ≤ b ∧ b ≤ 1000 + rho
  go : 0 ≤ g1 ∧ g1 ≤ 1500 * t ∧ 0 ≤ g2 ∧ g2 ≤ 1500 * t
  near : Near rho (g1 - G1) (g2 - G2)
section
variable {n d b1 b2 : Nat} {rho G1 G2 : Int} {h : AHeap} {a b g1 g2 t : Int}
theorem Both.tch {h' : AHeap} (v : Both rho G1 G2 b1 b2 h a b g1 g2 t) (k : Tch [] h h') : Both rho G1 G2 b1 b2 h' a b g1 g2 t := { v with
  one := v.one.tch k v.ne.2.1 (by simp)
  two := v.two.tch k v.ne.2.2 (by simp)
  ne := by have := v.ne; have := k.1; omega }
theorem Both.later (v : Both rho G1 G2 b1 b2 h a b g1 g2 t) {t' : Int} (ht : t ≤ t') : Both rho G1 G2 b1 b2 h a b g1 g2 t' := { v with go := by have := v.go; omega }
/-- a tick of both -/
theorem both_tick (h0 : 0 ≤ rho) (h1 : rho ≤ 500) (v : Both rho G1 G2 b1 b2 h a b g1 g2 t) (ht : t ≤ 100000) :
    ∃ h' h2, worldq n (d + 2) 17 [.ptr b1 0, .int .i64 1] h = some (.ret (.int .i64 0), h') ∧ worldq n (d + 2) 17 [.ptr b2 0, .int .i64 1] h' = some (.ret (.int .i64 0), h2) ∧ Both rho G1 G2 b1 b2 h2 a b (g1 + a) (g2 + b) (t + 1) ∧ Tch [b1, b2] h h2 := by
  have hr := v.ra
  have hg := v.go
  have hn := v.ne
  obtain ⟨h', e1, r1, t1⟩ := tick_w (n := n) (d := d) v.one (z := 1) (by omega) (by omega) (by omega)
  obtain ⟨h2, e2, r2, t2⟩ := tick_w (n := n) (d := d) (v.two.tch t1 hn.2.2 (by simp; omega)) (z := 1) (by omega) (by omega) (by omega)
  rw [Int.one_mul] at r1 r2
  have hn1 := t1.1
  have hn2 := t2.1
  refine ⟨h', h2, e1, e2, ⟨r1.tch t2 (by omega) (by simp; omega), r2, by omega, hr, by omega, ?_⟩, (t1.mono (by simp)).trans (t2.mono (by simp))⟩
  have := near_step h0 h1 v.near hr.1 hr.2.2.2
  rw [show g1 + a - G1 = g1 - G1 + a by omega, show g2 + b - G2 = g2 - G2 + b by omega]
  exact this
theorem inner_loop (h0 : 0 ≤ rho) (h1 : rho ≤ 500) (hG : 0 ≤ G1 ∧ G1 ≤ 1000000000 ∧ 0 ≤ G2 ∧ G2 ≤ 1000000000) {N : Int} (hN : 0 ≤ N ∧ N ≤ 100) (k : AHeap → R) :
    ∀ (m : Nat) (i : Int) (h : AHeap) (g1 g2 t : Int), 0 ≤ i → i ≤ N → N - i < m → t + (N - i) ≤ 50000 → Both rho G1 G2 b1 b2 h a b g1 g2 t →
      ∃ h' g1' g2', law20_LeaseApart_L1 (worldq n (d + 2)) (spanI rho) (.ptr b1 0) (.ptr b2 0) (G1 / 1000) (G2 / 1000) N k m i h = k h' ∧ Both rho G1 G2 b1 b2 h' a b g1' g2' (t + (N - i)) ∧ Tch [b1, b2] h h' := by
  intro m
  induction m with
  | zero => intro i h g1 g2 t _ _ h4 _ _; omega
  | succ m ih =>
    intro i h g1 g2 t hi0 hi h4 ht v
    rw [law20_LeaseApart_L1_s]
    unfold law20_LeaseApart_L1b
    simp only [lett_eq]
    by_cases hlt : i < N
    · obtain ⟨h', h2, e1, e2, v2, t2⟩ := both_tick (n := n) (d := d) h0 h1 v (by omega)
      have hg := v2.go
      have n1 := now_w (n := n) (d := d + 1) v2.one hg.1 (by omega)
      have n2 := now_w (n := n) (d := d + 1) v2.two hg.2.2.1 (by omega)
      have w1 : IntKind.i64.wrap ((g1 + a) / 1000 - G1 / 1000) = (g1 + a) / 1000 - G1 / 1000 := wrap_i64 (by omega) (by omega)
      have w2 : IntKind.i64.wrap ((g2 + b) / 1000 - G2 / 1000) = (g2 + b) / 1000 - G2 / 1000 := wrap_i64 (by omega) (by omega)
      have w3 : IntKind.i64.wrap (i + 1) = i + 1 := wrap_i64 (by omega) (by omega)
      obtain ⟨h3, g1', g2', e3, v3, t3⟩ := ih (i + 1) h2 _ _ _ (by omega) (by omega) (by omega) (by omega) v2
      refine ⟨h3, g1', g2', ?_, by rw [show t + (N - i) = t + 1 + (N - (i + 1)) by omega]; exact v3, t2.trans t3⟩
      rw [lt_true hlt, ifB_true, e1, callN_ret, avInt_int, obind_val, e2, callN_ret, avInt_int, obind_val, n1, callN_ret, avInt_int, obind_val, w1, w3]
      by_cases hs : (g1 + a) / 1000 - G1 / 1000 < spanI rho
      · have hap := near_apart h0 h1 v2.near hs
        rw [lt_true hs, ifB_true, n2, callN_ret, avInt_int, obind_val, w2, decide_eq_false (show ¬ (g2 + b) / 1000 - G2 / 1000 ≥ 20 by omega), ifB_false]
        exact e3
      · rw [decide_eq_false hs, ifB_false, ifB_false]
        exact e3
    · obtain rfl : i = N := by omega
      rw [lt_false (Int.le_refl i), ifB_false]
      exact ⟨h, g1, g2, rfl, by rw [show t + (i - i) = t by omega]; exact v, Tch.refl _ _⟩
/-- an element's cells -/
def goC (x : Int × Int × Int) : List AV := [.int .i64 x.1, .int .i64 x.2.1, .int .i64 x.2.2]
theorem outer_loop (h0 : 0 ≤ rho) (h1 : rho ≤ 500) (hG : 0 ≤ G1 ∧ G1 ≤ 1000000000 ∧ 0 ≤ G2 ∧ G2 ≤ 1000000000) {M : Nat} {x : AV} {l : List (Int × Int × Int)} (hl : l.length ≤ 200) (hn : 102 ≤ n) (k : AHeap → R) (hk : ∀ h, k h = some (.ret (.bool true), h)) :
    ∀ (m i : Nat) (h : AHeap) (a b g1 g2 : Int), i ≤ l.length → l.length - i < m → Both rho G1 G2 b1 b2 h a b g1 g2 (5000 + 100 * i) → Slc M h 3 x (l.map goC) → M ≤ h.next ∧ M ≤ b1 ∧ M ≤ b2 →
      ∃ h', law20_LeaseApart_L0 (worldq n (d + 2)) n rho x (spanI rho) (.ptr b1 0) (.ptr b2 0) (G1 / 1000) (G2 / 1000) (l.length : Int) k m i h = some (.ret (.bool true), h') := by
  intro m
  induction m with
  | zero => intro i h a b g1 g2 _ h4 _ _ _; omega
  | succ m ih =>
    intro i h a b g1 g2 h2 h4 v hs hM
    rw [law20_LeaseApart_L0_s]
    unfold law20_LeaseApart_L0b
    simp only [lett_eq]
    by_cases hi : i < l.length
    · obtain ⟨q, _, hx1, hx2⟩ := hs.row (i := i) (by rw [List.length_map]; exact hi)
      rw [List.getElem_map] at hx2
      generalize hz : l[i] = z at hx2
      obtain ⟨zn, za, zb⟩ := z
      obtain ⟨h3, s1, s2, s3, s4, s5⟩ := (RowH.new h 50 [.int .i64 0, .int .i64 0, .int .i64 0]).stAll (n := 3) (vs := goC (zn, za, zb)) rfl rfl rfl
      have t1 : Tch [] h h3 := (Tch.newH [] h 50 _).trans' (tch_of (S := [h.next]) s3 s4 s5 (by simp)) (by intro i hi; simp at hi; omega)
      have hne := v.ne
      have hn3 : h3.next = h.next + 1 := s3
      have c0 := s2.cell' (o := 0) (v := .int .i64 zn) rfl
      have c1 := s2.cell' (o := 1) (v := .int .i64 za) rfl
      have v3 := v.tch t1
      have hs3 := hs.tch t1 hM.1 (by simp)
      have w1 : IntKind.i64.wrap ((i : Int) + 1) = ((i + 1 : Nat) : Int) := wrap_succ (by omega)
      have skip : ∃ h', law20_LeaseApart_L0 (worldq n (d + 2)) n rho x (spanI rho) (.ptr b1 0) (.ptr b2 0) (G1 / 1000) (G2 / 1000) (l.length : Int) k m ((i + 1 : Nat) : Int) h3 = some (.ret (.bool true), h') :=
        ih (i + 1) h3 a b g1 g2 (by omega) (by omega) (v3.later (by omega)) hs3 (by omega)
      have e1 : stRow (newH h 50 [.int .i64 0, .int .i64 0, .int .i64 0]) 3 (goC (zn, za, zb)) (newP h) = some h3 := s1
      rw [lt_true (show (i : Int) < (l.length : Int) by omega), ifB_true, hx1, obind_val, hx2, obind_val]
      simp only [e1, obind_val, c0, avInt_int, w1]
      by_cases hz0 : zn < 0
      · rw [lt_true hz0, ifB_true, ifB_true]
        exact skip
      · rw [lt_false (show 0 ≤ zn by omega), ifB_false]
        by_cases hz1 : zn > 100
        · rw [decide_eq_true hz1, ifB_true]
          exact skip
        · rw [decide_eq_false hz1, ifB_false, c1, obind_val, avInt_int, obind_val, within_w h0 h1, callN_ret, avInt_int, obind_val]
          have wa := within_bounds (n := za) h0 h1
          have wb := within_bounds (n := zb) h0 h1
          obtain ⟨h5, e5, r5, t5⟩ := rate_w (n := n) (d := d) v3.one (z := withinI za rho) (by omega) (by omega)
          have hn5 := t5.1
          have c2 : ldCell h5 (.ptr h.next 2) = some (.int .i64 zb) := (s2.tch t5 (by omega) (by simp; omega)).cell' rfl
          rw [e5, callN_ret, avInt_int, obind_val, show ((0 : Int) != 0) = false from rfl, ifB_false, c2, obind_val, avInt_int, obind_val, within_w h0 h1, callN_ret, avInt_int, obind_val]
          obtain ⟨h6, e6, r6, t6⟩ := rate_w (n := n) (d := d) (v3.two.tch t5 (by omega) (by simp; omega)) (z := withinI zb rho) (by omega) (by omega)
          have hn6 := t6.1
          have c3 : ldCell h6 (.ptr h.next 0) = some (.int .i64 zn) := ((s2.tch t5 (by omega) (by simp; omega)).tch t6 (by omega) (by simp; omega)).cell' rfl
          rw [e6, callN_ret, avInt_int, obind_val, show ((0 : Int) != 0) = false from rfl, ifB_false, c3, obind_val, avInt_int, obind_val]
          have v6 : Both rho G1 G2 b1 b2 h6 (withinI za rho) (withinI zb rho) g1 g2 (5000 + 100 * i) := ⟨r5.tch t6 (by omega) (by simp; omega), r6, by omega, by omega, v3.go, v3.near⟩
          obtain ⟨h7, g1', g2', e7, v7, t7⟩ := inner_loop (n := n) (d := d) h0 h1 hG (N := zn) (by omega) (fun hh => law20_LeaseApart_L0 (worldq n (d + 2)) n rho x (spanI rho) (.ptr b1 0) (.ptr b2 0) (G1 / 1000) (G2 / 1000) (l.length : Int) k m ((i + 1 : Nat) : Int) hh) n 0 h6 g1 g2 _ (by omega) (by omega) (by omega) (by omega) v6
          have hn7 := t7.1
          have hs7 := ((hs3.tch t5 (by omega) (by simp; omega)).tch t6 (by omega) (by simp; omega)).tch t7 (by omega) (by simp; omega)
          obtain ⟨h', e'⟩ := ih (i + 1) h7 _ _ g1' g2' (by omega) (by omega) (v7.later (by omega)) hs7 (by omega)
          exact ⟨h', e7.trans e'⟩
    · rw [lt_false (show (l.length : Int) ≤ (i : Int) by omega), ifB_false, hk]
      exact ⟨_, rfl⟩
end
theorem gos_of {h : AHeap} {x : AV} (hp : ArgP Try.prog h.next h 12 42 x) : ∃ l : List (Int × Int × Int), Slc h.next h 3 x (l.map goC) := by
  obtain ⟨ls, h1, _, h3⟩ := hp.slice Try.underlying42
  obtain ⟨xs, rfl, _⟩ := map_of (f := goC) (Q := fun _ => True) ls (fun li hl => by
    obtain ⟨l0, l1, l2, rfl, q0, q1, q2⟩ := (h3 li hl).struct3 Try.underlying50
    obtain ⟨z0, rfl, _⟩ := q0.int Try.underlying3
    obtain ⟨z1, rfl, _⟩ := q1.int Try.underlying3
    obtain ⟨z2, rfl, _⟩ := q2.int Try.underlying3
    exact ⟨(z0, z1, z2), rfl, trivial⟩)
  rw [show Try.prog.cellsOf 50 = 3 by kernel_rfl] at h1
  exact ⟨xs, h1⟩
theorem worksq_w (n d : Nat) (h : AHeap) : worldq n (d + 1) 8 [] h = some (.ret (.bool true), h) := by kernel_rfl
theorem spanq_w (n d : Nat) (r : Int) (h : AHeap) : worldq n (d + 1) 9 [.int .i64 r] h = some (.ret (.tup (if 0 ≤ r ∧ r ≤ 500 then [.int .i64 (spanI r), .int .i64 0] else [.int .i64 0, .int .i64 2])), h) := by
  rw [wq_lease_Span]
  have := span_w n d r h
  rw [w_lease_Span] at this
  exact this
/-- the law of two clocks -/
theorem leaseApart_says (h : AHeap) (_ : h.ex = []) (xs : List AV) (hP : ArgsP Try.prog h.next h 12 [3, 3, 3, 3, 42] xs) : ∃ h', Says Try.prog 6 xs h (.ret (.bool true)) h' := by
  obtain ⟨_, _, rfl, hp0, hP⟩ := args_cons hP
  obtain ⟨_, _, rfl, hp1, hP⟩ := args_cons hP
  obtain ⟨_, _, rfl, hp2, hP⟩ := args_cons hP
  obtain ⟨_, _, rfl, hp3, hP⟩ := args_cons hP
  obtain ⟨x, _, rfl, hp4, hP⟩ := args_cons hP
  obtain rfl := args0 hP
  obtain ⟨rho, rfl, _⟩ := hp0.int Try.underlying3
  obtain ⟨ah, rfl, _⟩ := hp1.int Try.underlying3
  obtain ⟨za, rfl, _⟩ := hp2.int Try.underlying3
  obtain ⟨zb, rfl, _⟩ := hp3.int Try.underlying3
  obtain ⟨l, hs⟩ := gos_of hp4
  have key : ∃ h', worldq 210 4 6 [.int .i64 rho, .int .i64 ah, .int .i64 za, .int .i64 zb, x] h = some (.ret (.bool true), h') := by
    rw [wq_law20_LeaseApart]
    unfold law20_LeaseApart
    have hlen := hs.len
    rw [List.length_map] at hlen
    rw [worksq_w]
    simp only [callN_ret, obind_val, avBool_bool, lett_eq, Bool.not_true, ifB_false, spanq_w]
    by_cases hr : 0 ≤ rho ∧ rho ≤ 500
    · rw [if_pos hr]
      simp only [extT_0, extT_1, obind_val, avInt_int, hlen]
      rw [show ((0 : Int) != 0) = false from rfl, ifB_false]
      by_cases hl : l.length ≤ 200
      · rw [decide_eq_false (show ¬ (l.length : Int) > 200 by omega), ifB_false]
        by_cases ha0 : ah < 0
        · rw [lt_true ha0, ifB_true, ifB_true]
          exact ⟨_, rfl⟩
        · rw [lt_false (show 0 ≤ ah by omega), ifB_false]
          by_cases ha1 : ah > 5000
          · rw [decide_eq_true ha1, ifB_true]
            exact ⟨_, rfl⟩
          · have wa := within_bounds (n := za) hr.1 hr.2
            have wb := within_bounds (n := zb) hr.1 hr.2
            rw [decide_eq_false ha1, ifB_false, within_w hr.1 hr.2, callN_ret, avInt_int, obind_val, clockNew_w (by omega) (by omega), callN_ret]
            simp only [extT_0, extT_1, obind_val, avInt_int]
            rw [within_w hr.1 hr.2, callN_ret, avInt_int, obind_val, clockNew_w (by omega) (by omega), callN_ret]
            simp only [extT_0, extT_1, obind_val, avInt_int]
            rw [show ((0 : Int) != 0) = false from rfl, ifB_false, ifB_false, nil43, outK_val, avBool_bool, obind_val, ifB_false, nil43, outK_val, avBool_bool, obind_val, ifB_false]
            have t1 := Tch.newH [] h 59 (clockC (withinI za rho) 0)
            have t2 := Tch.newH [] (newH h 59 (clockC (withinI za rho) 0)) 59 (clockC (withinI zb rho) 0)
            have r1 := (RowH.new h 59 (clockC (withinI za rho) 0)).tch t2 (lt_newH _ _ _) (by simp)
            have r2 := RowH.new (newH h 59 (clockC (withinI za rho) 0)) 59 (clockC (withinI zb rho) 0)
            have hs2 := (hs.tch t1 (Nat.le_refl _) (by simp)).tch t2 (Nat.le_succ _) (by simp)
            have hn2 : (newH (newH h 59 (clockC (withinI za rho) 0)) 59 (clockC (withinI zb rho) 0)).next = h.next + 2 := rfl
            have hn1 : (newH h 59 (clockC (withinI za rho) 0)).next = h.next + 1 := rfl
            generalize newH (newH h 59 (clockC (withinI za rho) 0)) 59 (clockC (withinI zb rho) 0) = hh at *
            generalize (newH h 59 (clockC (withinI za rho) 0)).next = c2 at *
            obtain ⟨h3, e3, r3, t3⟩ := tick_w (n := 210) (d := 1) r1 (z := ah) (by omega) (by omega) (by omega)
            have hn3 := t3.1
            obtain ⟨h4, e4, r4, t4⟩ := tick_w (n := 210) (d := 1) (r2.tch t3 (by omega) (by simp; omega)) (z := ah) (by omega) (by omega) (by omega)
            have hn4 := t4.1
            have r3' := r3.tch t4 (by omega) (by simp; omega)
            have m1 : 0 ≤ ah * withinI za rho ∧ ah * withinI za rho ≤ 5000 * 1500 := ⟨Int.mul_nonneg (by omega) (by omega), Int.mul_le_mul (by omega) (by omega) (by omega) (by omega)⟩
            have m2 : 0 ≤ ah * withinI zb rho ∧ ah * withinI zb rho ≤ 5000 * 1500 := ⟨Int.mul_nonneg (by omega) (by omega), Int.mul_le_mul (by omega) (by omega) (by omega) (by omega)⟩
            have n1 := now_w (n := 210) (d := 2) r3' (by omega) (by omega)
            have n2 := now_w (n := 210) (d := 2) r4 (by omega) (by omega)
            rw [e3, callN_ret, avInt_int, obind_val, e4, callN_ret, avInt_int, obind_val, n1, callN_ret, avInt_int, obind_val, n2, callN_ret, avInt_int, obind_val]
            have hs4 := (hs2.tch t3 (by omega) (by simp)).tch t4 (by omega) (by simp; omega)
            exact outer_loop (rho := rho) (G1 := 0 + ah * withinI za rho) (G2 := 0 + ah * withinI zb rho) (M := h.next) (n := 210) (d := 1) hr.1 hr.2 (by omega) hl (by omega) _ (fun _ => rfl) 210 0 h4 _ _ _ _ (by omega) (by omega)
              ⟨r3', r4, by omega, by omega, by omega, by unfold Near; simp only [Int.sub_self, Int.zero_mul]; exact Int.le_refl _⟩ hs4 (by omega)
      · rw [decide_eq_true (show (l.length : Int) > 200 by omega), ifB_true, ifB_true, ifB_true]
        exact ⟨_, rfl⟩
    · rw [if_neg hr]
      simp only [extT_0, extT_1, obind_val, avInt_int]
      exact ⟨_, rfl⟩
  obtain ⟨h', hk⟩ := key
  exact ⟨h', worldq_ok _ _ _ _ _ _ _ hk⟩
end Go.Proofs.Ytjhnmfhpjlolhaa
