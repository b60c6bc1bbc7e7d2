/- What a ring tells, in whatever pieces it came. -/
import Derived.Test.YtbihkjbhmiemhaaRingJoin
namespace Go.Proofs.Ytbihkjbhmiemhaa
open Go.RowKit Abs

/-- what is read from a place on -/
noncomputable def toldI (out : Bytes) (L : Nat) (z most : Int) : List AV := if z > out.length ∨ most < 0 then [strA [], .int .i64 0, .int .i64 5] else [strA ((out.drop (max (out.length - L) z.toNat)).take most.toNat), .int .i64 ((max (out.length - L) z.toNat : Nat) : Int), .int .i64 0]
section
variable {n d b L : Nat} {out : Bytes} {h : AHeap}
theorem told_w {z most : Int} (k : RingAt h b L out) (hb : b < h.next) (hx : memB 5 h.ex = false) (ho : out.length ≤ 1000000000) :
    ∃ h', world n (d + 2) 13 [.ptr b 0, .int .i64 z, .int .i64 most] h = some (.ret (.tup (toldI out L z most)), h') ∧ Tch [] h h' := by
  unfold toldI
  by_cases hbad : z > out.length ∨ most < 0
  · rw [if_pos hbad, from_bad k hbad]
    exact ⟨h, rfl, Tch.refl _ _⟩
  · rw [if_neg hbad]
    obtain ⟨m, rfl⟩ := Int.eq_ofNat_of_zero_le (show 0 ≤ most by omega)
    exact from_w k hb hx ho (by omega) rfl
theorem refTold_w {z most : Int} (ho : out.length ≤ 1000000000) (hL : L ≤ 1024) : world n (d + 2) 14 [strA out, .int .i64 (L : Int), .int .i64 z, .int .i64 most] h = some (.ret (.tup (toldI out L z most)), h) := by
  unfold toldI
  by_cases hbad : z > out.length ∨ most < 0
  · rw [if_pos hbad, refFrom_bad hbad]
  · rw [if_neg hbad]
    obtain ⟨m, rfl⟩ := Int.eq_ofNat_of_zero_le (show 0 ≤ most by omega)
    exact refFrom_w ho hL (by omega) rfl
theorem told_three (out : Bytes) (L : Nat) (z most : Int) : ∃ (s : Bytes) (a e : Int), toldI out L z most = [strA s, .int .i64 a, .int .i64 e] := by
  unfold toldI
  split <;> exact ⟨_, _, _, rfl⟩
end
theorem strs_of22 {h : AHeap} {x : AV} (hp : ArgP Try.prog h.next h 12 22 x) : ∃ ss : List Bytes, Slc h.next h 1 x (strsL ss) ∧ ∀ s ∈ ss, s.length ≤ reachBytes := by
  obtain ⟨ss, h1, _, h2⟩ := hp.strs Try.underlying22 Try.underlying9 (by kernel_rfl)
  exact ⟨ss, h1, h2⟩
theorem fine_iff {ss : List Bytes} (hf : fine ss = true) : ss.length ≤ 2000 ∧ ss.flatten.length ≤ 20000 := by
  unfold fine at hf
  rw [Bool.and_eq_true] at hf
  exact ⟨of_decide_eq_true hf.1, of_decide_eq_true hf.2⟩
theorem mem5 {h : AHeap} (hX : h.ex = []) : memB 5 h.ex = false := by rw [hX]; rfl
/-- the law of what is told -/
theorem ringTells_says (h : AHeap) (hX : h.ex = []) (xs : List AV) (hP : ArgsP Try.prog h.next h 12 [3, 22, 3, 3] xs) : ∃ h', Says Try.prog 3 xs h (.ret (.bool true)) h' := by
  obtain ⟨_, _, rfl, hp0, hP⟩ := args_cons hP
  obtain ⟨x, _, rfl, hp1, hP⟩ := args_cons hP
  obtain ⟨_, _, rfl, hp2, hP⟩ := args_cons hP
  obtain ⟨_, _, rfl, hp3, hP⟩ := args_cons hP
  obtain rfl := args0 hP
  obtain ⟨z, rfl, _⟩ := hp0.int Try.underlying3
  obtain ⟨at', rfl, _⟩ := hp2.int Try.underlying3
  obtain ⟨most, rfl, _⟩ := hp3.int Try.underlying3
  obtain ⟨ss, hs, hb⟩ := strs_of22 hp1
  have key : ∃ h', world 2010 4 3 [.int .i64 z, x, .int .i64 at', .int .i64 most] h = some (.ret (.bool true), h') := by
    rw [w_law21_RingTells]
    unfold law21_RingTells
    rw [works_w, callN_ret, avBool_bool, obind_val, lett_eq, Bool.not_true, ifB_false]
    obtain ⟨h1, e1, t1⟩ := joined_w (n := 2010) (d := 2) (by omega) hs (Nat.le_refl _) (mem5 hX) hb
    rw [e1, callN_ret]
    by_cases hf : fine ss = true
    · obtain ⟨hl, ht⟩ := fine_iff hf
      rw [if_pos hf]
      simp only [extT_0, extT_1, obind_val, avStr_str, avBool_bool, lett_eq, Bool.not_true, ifB_false]
      have hs1 := hs.tch t1 (Nat.le_refl _) (by simp)
      have hn1 := t1.1
      by_cases hL : 1 ≤ z ∧ z ≤ 1024
      · obtain ⟨L, rfl⟩ := Int.eq_ofNat_of_zero_le (show 0 ≤ z by omega)
        have hL' : 1 ≤ L ∧ L ≤ 1024 := by omega
        obtain ⟨e2, _⟩ := ringNew_w (n := 2010) (d := 2) (h := h1) hL'
        have t2 := Tch.newH [] h1 47 (ringC L 0 (List.replicate 1024 0))
        have hn2 : (newH h1 47 (ringC L 0 (List.replicate 1024 0))).next = h1.next + 1 := rfl
        generalize newH h1 47 (ringC L 0 (List.replicate 1024 0)) = h2 at *
        obtain ⟨h3, e3, R3, t3, n3⟩ := filled_w (n := 2010) (d := 1) hL' (by omega) hl (by omega) (hs1.tch t2 hn1 (by simp)) (show h.next ≤ h2.next by omega)
        have hx3 : memB 5 h3.ex = false := by rw [t3.2.1, t2.2.1, t1.2.1]; exact mem5 hX
        obtain ⟨h4, e4, t4⟩ := told_w (n := 2010) (d := 1) (z := at') (most := most) R3 n3 hx3 (by omega)
        have R4 := R3.tch t4 n3 (by simp)
        have e5 := refTold_w (n := 2010) (d := 1) (h := h4) (L := L) (z := at') (most := most) (out := ss.flatten) (by omega) hL'.2
        have e6 := end_w (n := 2010) (d := 2) R4
        have e7 := first_w (n := 2010) (d := 2) R4 (by omega)
        have e8 := refFirst_w (n := 2010) (d := 2) (h := h4) (L := L) (out := ss.flatten) (by omega) hL'.2
        obtain ⟨s, a, e, e9⟩ := told_three ss.flatten L at' most
        rw [e9] at e4 e5
        rw [e2, callN_ret]
        simp only [extT_0, extT_1, obind_val, avInt_int]
        rw [e3, callN_ret, limit_w, callN_ret, decide_eq_true hL]
        simp only [avBool_bool, obind_val, Bool.not_true, ifB_false, show ((0 : Int) != 0) = false from rfl, nil26, outK_val]
        rw [e4, callN_ret]
        simp only [extT_0, extT_1, extT_2, obind_val, avStr_str, avInt_int]
        rw [e5, callN_ret]
        simp only [extT_0, extT_1, extT_2, obind_val, avStr_str, avInt_int, eqS_eq, beq_self_eq_true, ifB_true, e6, e7, e8, callN_ret, lenS_nat]
        exact ⟨_, rfl⟩
      · rw [ringBad_w (by omega), callN_ret]
        simp only [extT_0, extT_1, obind_val, avInt_int]
        rw [filled_bad (by omega), callN_ret, limit_w, callN_ret, decide_eq_false hL]
        simp only [avBool_bool, obind_val, Bool.not_false, ifB_true, show ((5 : Int) == 5) = true from rfl, nil26n, outK_val]
        exact ⟨_, rfl⟩
    · rw [if_neg hf]
      simp only [extT_0, extT_1, obind_val, avStr_str, avBool_bool, lett_eq, Bool.not_false, ifB_true]
      exact ⟨_, rfl⟩
  obtain ⟨h', hk⟩ := key
  exact ⟨h', world_ok _ _ _ _ _ _ _ hk⟩
theorem one_slice (h : AHeap) (s : Bytes) (hx : memB 9 h.ex = false) : bldSl Try.prog h 22 1 [(0, strA s)] = some (.val (.sl h.next 0 1 1), newH h 9 [strA s]) := by
  have e1 : bldSl Try.prog h 22 1 [(0, strA s)] = outNewS h 9 [strA s] 1 1 := by kernel_rfl
  rw [e1]
  unfold outNewS
  rw [if_pos ⟨rfl, hx⟩]
  rfl
/-- the law of pieces -/
theorem ringPieces_says (h : AHeap) (hX : h.ex = []) (xs : List AV) (hP : ArgsP Try.prog h.next h 12 [3, 22] xs) : ∃ h', Says Try.prog 4 xs h (.ret (.bool true)) h' := by
  obtain ⟨_, _, rfl, hp0, hP⟩ := args_cons hP
  obtain ⟨x, _, rfl, hp1, hP⟩ := args_cons hP
  obtain rfl := args0 hP
  obtain ⟨z, rfl, _⟩ := hp0.int Try.underlying3
  obtain ⟨ss, hs, hb⟩ := strs_of22 hp1
  have key : ∃ h', world 2010 4 4 [.int .i64 z, x] h = some (.ret (.bool true), h') := by
    rw [w_law21_RingPieces]
    unfold law21_RingPieces
    rw [works_w, callN_ret, avBool_bool, obind_val, lett_eq, Bool.not_true, ifB_false]
    obtain ⟨h1, e1, t1⟩ := joined_w (n := 2010) (d := 2) (by omega) hs (Nat.le_refl _) (mem5 hX) hb
    rw [e1, callN_ret]
    by_cases hf : fine ss = true
    · obtain ⟨hl, ht⟩ := fine_iff hf
      rw [if_pos hf]
      simp only [extT_0, extT_1, obind_val, avStr_str, avBool_bool, lett_eq, Bool.not_true, ifB_false]
      have hs1 := hs.tch t1 (Nat.le_refl _) (by simp)
      have hn1 := t1.1
      have hx1 : h1.ex = [] := by rw [t1.2.1]; exact hX
      by_cases hL : 1 ≤ z ∧ z ≤ 1024
      · obtain ⟨L, rfl⟩ := Int.eq_ofNat_of_zero_le (show 0 ≤ z by omega)
        have hL' : 1 ≤ L ∧ L ≤ 1024 := by omega
        obtain ⟨h3, e3, R3, t3, n3⟩ := filled_w (n := 2010) (d := 1) hL' (by omega) hl (by omega) hs1 hn1
        have hx3 : h3.ex = [] := by rw [t3.2.1]; exact hx1
        have e4 := one_slice h3 ss.flatten (by rw [hx3]; rfl)
        have t4 := Tch.newH [] h3 9 [strA ss.flatten]
        have hn4 : (newH h3 9 [strA ss.flatten]).next = h3.next + 1 := rfl
        have s4 : Slc (h3.next + 1) (newH h3 9 [strA ss.flatten]) 1 (.sl h3.next 0 1 1) (strsL [ss.flatten]) := (RowH.new h3 9 [strA ss.flatten]).slc (ls := strsL [ss.flatten]) rfl (by intro li hl; simp [strsL] at hl; subst hl; rfl) (by simp [strsL]) (Nat.lt_succ_self _)
        generalize newH h3 9 [strA ss.flatten] = h4 at *
        have hff : [ss.flatten].flatten = ss.flatten := by simp
        obtain ⟨h5, e5, R5, t5, n5⟩ := filled_w (n := 2010) (d := 1) hL' (by omega) (ss := [ss.flatten]) (by simp) (by rw [hff]; omega) s4 (show h3.next + 1 ≤ h4.next by omega)
        rw [hff] at R5
        have hx5 : h5.ex = [] := by rw [t5.2.1, t4.2.1]; exact hx3
        have R3' := (R3.tch t4 n3 (by simp)).tch t5 (by omega) (by simp)
        have hn5 := t5.1
        obtain ⟨h6, e6, t6⟩ := told_w (n := 2010) (d := 1) (z := 0) (most := 1048576) R3' (by omega) (mem5 hx5) (by omega)
        have hn6 := t6.1
        have hx6 : h6.ex = [] := by rw [t6.2.1]; exact hx5
        obtain ⟨h7, e7, t7⟩ := told_w (n := 2010) (d := 1) (z := 0) (most := 1048576) (R5.tch t6 n5 (by simp)) (by omega) (mem5 hx6) (by omega)
        have Ra := (R3'.tch t6 (by omega) (by simp)).tch t7 (by omega) (by simp)
        have Rb := (R5.tch t6 n5 (by simp)).tch t7 (by omega) (by simp)
        have e9 : toldI ss.flatten L 0 1048576 = [strA ((ss.flatten.drop (max (ss.flatten.length - L) (0 : Int).toNat)).take (1048576 : Int).toNat), .int .i64 ((max (ss.flatten.length - L) (0 : Int).toNat : Nat) : Int), .int .i64 0] := by
          unfold toldI
          rw [if_neg (by omega)]
        rw [e9] at e6 e7
        rw [e3, callN_ret, e4, outK_val, e5, callN_ret]
        simp only [nil26, outK_val, avBool_bool, obind_val, ifB_false]
        rw [e6, callN_ret]
        simp only [extT_0, extT_1, extT_2, obind_val, avStr_str, avInt_int]
        rw [e7, callN_ret]
        simp only [extT_0, extT_1, extT_2, obind_val, avStr_str, avInt_int, eqS_eq, beq_self_eq_true, ifB_true, end_w (n := 2010) (d := 2) Ra, end_w (n := 2010) (d := 2) Rb, first_w (n := 2010) (d := 2) Ra (by omega), first_w (n := 2010) (d := 2) Rb (by omega), callN_ret]
        exact ⟨_, rfl⟩
      · rw [filled_bad (by omega), callN_ret, one_slice h1 ss.flatten (by rw [hx1]; rfl), outK_val, filled_bad (by omega), callN_ret]
        simp only [nil26n, outK_val, avBool_bool, obind_val, ifB_true]
        exact ⟨_, rfl⟩
    · rw [if_neg hf]
      simp only [extT_0, extT_1, obind_val, avStr_str, avBool_bool, lett_eq, Bool.not_false, ifB_true]
      exact ⟨_, rfl⟩
  obtain ⟨h', hk⟩ := key
  exact ⟨h', world_ok _ _ _ _ _ _ _ hk⟩
end Go.Proofs.Ytbihkjbhmiemhaa
