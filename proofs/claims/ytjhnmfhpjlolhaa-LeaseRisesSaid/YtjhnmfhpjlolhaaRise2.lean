/- Fences rise: the law. -/
import Derived.Test.YtjhnmfhpjlolhaaRises
namespace Go.Proofs.Ytjhnmfhpjlolhaa
open Go.RowKit Abs

def aboveB (a b c e : Int) : Bool := if a ≠ c then decide (a > c) else decide (b > e)
theorem above_w (n d : Nat) (a b c e : Int) (h : AHeap) : worldp n (d + 1) 20 [.agg (fenceC a b), .agg (fenceC c e)] h = some (.ret (.bool (aboveB a b c e)), h) := by
  rw [wp_message_Above]
  unfold message_Above
  rw [box_agg (fence_one _ _), outK_val, box_agg (fence_one _ _), outK_val]
  have t2 := Tch.newH [] (newH h 36 (fenceC a b)) 36 (fenceC c e)
  have r1 := (RowH.new h 36 (fenceC a b)).tch t2 (lt_newH _ _ _) (by simp)
  have r2 := RowH.new (newH h 36 (fenceC a b)) 36 (fenceC c e)
  have a0 := r1.cell' (o := 0) (v := .int .i64 a) rfl
  have a1 := r1.cell' (o := 1) (v := .int .i64 b) rfl
  have b0 := r2.cell' (o := 0) (v := .int .i64 c) rfl
  have b1 := r2.cell' (o := 1) (v := .int .i64 e) rfl
  have hab : Above h (newH (newH h 36 (fenceC a b)) 36 (fenceC c e)) := (above_new _ _ _).newH _ _
  simp only [fld_newP, obind_val, Nat.zero_add, a0, a1, b0, b1, avInt_int, lett_eq, aboveB]
  by_cases hac : a = c
  · subst hac
    rw [show (a != a) = false by simp, ifB_false, if_neg (by simp)]
    exact gcR_scal hab rfl
  · rw [show (a != c) = true by simp [hac], ifB_true, if_pos hac]
    exact gcR_scal hab rfl
theorem new_w (n d : Nat) (h : AHeap) : worldp n (d + 1) 10 [] h = some (.ret (.ptr h.next 0), newH h 56 (fenceC 0 0)) := by
  rw [wp_lease_New]
  unfold lease_New
  rw [box_agg rfl, outK_val]
  exact gcR_some (blt_self _)
theorem worksp_w (n d : Nat) (h : AHeap) : worldp n (d + 1) 8 [] h = some (.ret (.bool true), h) := by kernel_rfl
theorem same36 : eqOther Try.prog 36 (.agg [.int .i64 0, .int .i64 0]) (.agg [.int .i64 0, .int .i64 0]) = some true := by kernel_rfl

/-- a fence that is kept -/
theorem kept_w (h : AHeap) (t e : Int) : ∃ h3, stRow (newH h 36 [.int .i64 0, .int .i64 0]) 2 (fenceC t e) (newP h) = some h3 ∧ RowH h3 h.next 36 (fenceC t e) ∧ Tch [] h h3 ∧ h3.next = h.next + 1 := by
  obtain ⟨h2, s1, s2, s3, s4, s5⟩ := (RowH.new h 36 [.int .i64 0, .int .i64 0]).stAll (n := 2) (vs := fenceC t e) rfl rfl rfl
  exact ⟨h2, s1, s2, (Tch.newH [] h 36 _).trans' (tch_of (S := [h.next]) s3 s4 s5 (by simp)) (by intro i hi; simp at hi; omega), s3⟩

section
variable {n d N b : Nat} {x : AV} {zs : List Int} {h15 : AHeap}
/-- how it stands ahead of a round -/
structure Inv (N b : Nat) (x : AV) (zs : List Int) (h15 : AHeap) (i : Nat) (h : AHeap) (T E : Int) : Prop where
  is : RowH h b 56 (fenceC T E)
  last : RowH h h15.next 36 (fenceC T E)
  arg : Slc N h 1 x (zs.map fun z => [.int .i64 z])
  tb : 0 ≤ T ∧ T ≤ 1099511627776
  eb : 0 ≤ E ∧ E ≤ i
  bl : b < h.next ∧ h15.next < h.next ∧ N ≤ b ∧ N ≤ h15.next ∧ b ≠ h15.next
theorem Inv.go {i : Nat} {h h1 : AHeap} {T E : Int} (v : Inv N b x zs h15 i h T E) (t : Tch [] h h1) : Inv N b x zs h15 (i + 1) h1 T E := {
  is := v.is.tch t v.bl.1 (by simp)
  last := v.last.tch t v.bl.2.1 (by simp)
  arg := v.arg.tch t (by have := v.bl; omega) (by simp)
  tb := v.tb
  eb := by have := v.eb; omega
  bl := by have := v.bl; have := t.1; omega }
/-- a new fence is kept at both places -/
theorem Inv.next {i : Nat} {h h1 h2 : AHeap} {T E T' E' : Int} (v : Inv N b x zs h15 i h T E) (t : Tch [b] h h1) (r : RowH h1 b 56 (fenceC T' E')) (t2 : Tch [h15.next] h1 h2) (r2 : RowH h2 h15.next 36 (fenceC T' E'))
    (ht : 0 ≤ T' ∧ T' ≤ 1099511627776) (he : 0 ≤ E' ∧ E' ≤ (i + 1 : Nat)) : Inv N b x zs h15 (i + 1) h2 T' E' := {
  is := r.tch t2 (by have := v.bl; have := t.1; omega) (by have := v.bl; simp; omega)
  last := r2
  arg := (v.arg.tch t (by have := v.bl; omega) (by have := v.bl; simp; omega)).tch t2 (by have := v.bl; have := t.1; omega) (by have := v.bl; simp; omega)
  tb := ht
  eb := he
  bl := by have := v.bl; have := t.1; have := t2.1; omega }
theorem rises_loop (k : AHeap → R) (hk : ∀ h, k h = some (.ret (.bool true), h)) (hl : zs.length ≤ 1000) : ∀ (m i : Nat) (h : AHeap) (T E : Int), i ≤ zs.length → zs.length - i < m → Inv N b x zs h15 i h T E →
    ∃ h', law20_LeaseRises_L0 (worldp n (d + 1)) x (.ptr b 0) h15 (zs.length : Int) k m i h = some (.ret (.bool true), h') := by
  intro m
  induction m with
  | zero => intro i h T E _ h4 _; omega
  | succ m ih =>
    intro i h T E h2 h4 v
    rw [law20_LeaseRises_L0_s]
    unfold law20_LeaseRises_L0b
    simp only [lett_eq]
    by_cases hi : i < zs.length
    · obtain ⟨q, _, hx1, hx2⟩ := v.arg.cell (f := AV.int .i64) hi
      have hv := v.bl
      have ht := v.tb
      have he := v.eb
      generalize hz : zs[i] = z at hx2
      rw [lt_true (show (i : Int) < (zs.length : Int) by omega), ifB_true, hx1, obind_val, hx2, obind_val, avInt_int, obind_val, wrap_succ (by omega)]
      by_cases hbad : z < 1 ∨ z > 1099511627776
      · obtain ⟨h1, e1, t1, r1⟩ := next_bad (n := n) (d := d) v.is v.bl.1 hbad
        obtain ⟨h3, e3, r3, t3, n3⟩ := kept_w h1 0 0
        have v' : Inv N b x zs h15 (i + 1) h3 T E := {
          is := r1.tch t3 (by have := t1.1; omega) (by simp)
          last := (v.last.tch t1 hv.2.1 (by simp; omega)).tch t3 (by have := t1.1; omega) (by simp)
          arg := (v.arg.tch t1 (by omega) (by simp; omega)).tch t3 (by have := t1.1; omega) (by simp)
          tb := ht
          eb := by omega
          bl := by have := t1.1; have := t3.1; omega }
        obtain ⟨h', e'⟩ := ih (i + 1) h3 T E (by omega) (by omega) v'
        refine ⟨h', ?_⟩
        rw [e1]
        have q1 : ((2 : Int) != 2) = false := rfl
        have q2 : ((2 : Int) != 0) = true := rfl
        have q3 : ldRow h3 2 (newP h1) = some [.int .i64 0, .int .i64 0] := r3.ldAll (n := 2) rfl
        simp only [callN_ret, extT_0, extT_1, obind_val, avAgg_agg, avInt_int, e3, q1, q2, q3, same36, ifB_true, ifB_false, Bool.not_true]
        rcases hbad with hz1 | hz1
        · rw [lt_true hz1, ifB_true]
          exact e'
        · rw [lt_false (show 1 ≤ z by omega), ifB_false, decide_eq_true hz1, ifB_true]
          exact e'
      · by_cases hlow : z < T
        · obtain ⟨h1, e1, t1, r1⟩ := next_low (n := n) (d := d) v.is v.bl.1 (by omega) hlow
          obtain ⟨h3, e3, r3, t3, n3⟩ := kept_w h1 0 0
          have v' : Inv N b x zs h15 (i + 1) h3 T E := {
            is := r1.tch t3 (by have := t1.1; omega) (by simp)
            last := (v.last.tch t1 hv.2.1 (by simp; omega)).tch t3 (by have := t1.1; omega) (by simp)
            arg := (v.arg.tch t1 (by omega) (by simp; omega)).tch t3 (by have := t1.1; omega) (by simp)
            tb := ht
            eb := by omega
            bl := by have := t1.1; have := t3.1; omega }
          obtain ⟨h', e'⟩ := ih (i + 1) h3 T E (by omega) (by omega) v'
          refine ⟨h', ?_⟩
          rw [e1]
          have q1 : ((5 : Int) != 5) = false := rfl
          have q2 : ((5 : Int) != 0) = true := rfl
          have q3 : ldRow h3 2 (newP h1) = some [.int .i64 0, .int .i64 0] := r3.ldAll (n := 2) rfl
          have q4 := v'.last.cell' (o := 0) (v := .int .i64 T) rfl
          simp only [callN_ret, extT_0, extT_1, obind_val, avAgg_agg, avInt_int, e3, q1, q2, q3, q4, same36, ifB_true, ifB_false, Bool.not_true]
          rw [lt_false (show 1 ≤ z by omega), ifB_false, decide_eq_false (show ¬ z > 1099511627776 by omega), ifB_false, lt_true hlow, ifB_true]
          exact e'
        · obtain ⟨h1, e1, t1, r1⟩ := next_ok (n := n) (d := d) v.is v.bl.1 (z := z) (by omega) (by omega) (by omega)
          generalize hE2 : (if z = T then E + 1 else 1) = E2 at e1 r1
          have hE3 : 0 ≤ E2 ∧ E2 ≤ (i + 1 : Nat) := by subst hE2; split <;> omega
          have hab : aboveB z E2 T E = true := by
            unfold aboveB
            subst hE2
            by_cases hzT : z = T
            · subst hzT
              rw [if_neg (by simp), if_pos rfl]
              exact decide_eq_true (by omega)
            · rw [if_pos hzT]
              exact decide_eq_true (by omega)
          obtain ⟨h3, e3, r3, t3, n3⟩ := kept_w h1 z E2
          have hn1 := t1.1
          have l3 : RowH h3 h15.next 36 (fenceC T E) := (v.last.tch t1 hv.2.1 (by simp; omega)).tch t3 (by omega) (by simp)
          obtain ⟨h5, a1, a2, a3, a4, a5⟩ := l3.stAll (n := 2) (vs := fenceC z E2) rfl rfl rfl
          have t4 : Tch [h15.next] h1 h5 := (t3.mono (by simp)).trans (tch_of a3 a4 a5 (by simp))
          obtain ⟨h', e'⟩ := ih (i + 1) h5 z E2 (by omega) (by omega) (v.next t1 r1 t4 a2 (by omega) hE3)
          refine ⟨h', ?_⟩
          rw [e1]
          have q1 : ((0 : Int) != 0) = false := rfl
          have q3 : ldRow h3 2 (newP h1) = some (fenceC z E2) := r3.ldAll (n := 2) rfl
          have q4 := l3.cell' (o := 0) (v := .int .i64 T) rfl
          have q5 : ldRow h3 2 (newP h15) = some (fenceC T E) := l3.ldAll (n := 2) rfl
          have q6 := r3.cell' (o := 0) (v := .int .i64 z) rfl
          have q7 : (z != z) = false := by simp
          have q8 : stRow h3 2 (fenceC z E2) (newP h15) = some h5 := a1
          simp only [callN_ret, extT_0, extT_1, obind_val, avAgg_agg, avInt_int, e3, q1, q3, q4, q5, q6, q7, q8, ifB_false, above_w, hab, avBool_bool, Bool.not_true]
          rw [lt_false (show 1 ≤ z by omega), ifB_false, decide_eq_false (show ¬ z > 1099511627776 by omega), ifB_false, lt_false (show T ≤ z by omega), ifB_false]
          exact e'
    · rw [lt_false (show (zs.length : Int) ≤ (i : Int) by omega), ifB_false, hk]
      exact ⟨_, rfl⟩
end
/-- the law of rising fences -/
theorem leaseRises_says (h : AHeap) (_ : h.ex = []) (xs : List AV) (hP : ArgsP Try.prog h.next h 12 [52] xs) : ∃ h', Says Try.prog 7 xs h (.ret (.bool true)) h' := by
  obtain ⟨x, _, rfl, hp, hP⟩ := args_cons hP
  obtain rfl := args0 hP
  obtain ⟨zs, hs, _, _⟩ := hp.ints Try.underlying52 Try.underlying3 (by kernel_rfl)
  have key : ∃ h', worldp 1010 3 7 [x] h = some (.ret (.bool true), h') := by
    rw [wp_law20_LeaseRises]
    unfold law20_LeaseRises
    have hlen := hs.len
    rw [List.length_map] at hlen
    rw [worksp_w]
    simp only [callN_ret, obind_val, avBool_bool, lett_eq, Bool.not_true, ifB_false, hlen]
    by_cases hl : zs.length ≤ 1000
    · rw [decide_eq_false (show ¬ (zs.length : Int) > 1000 by omega), ifB_false, new_w, callN_ret]
      have t1 := Tch.newH [] h 56 (fenceC 0 0)
      have t2 := Tch.newH [] (newH h 56 (fenceC 0 0)) 36 (fenceC 0 0)
      refine rises_loop (N := h.next) (n := 1010) (d := 1) _ (fun _ => rfl) hl 1010 0 _ 0 0 (by omega) (by omega) {
        is := (RowH.new h 56 (fenceC 0 0)).tch t2 (lt_newH _ _ _) (by simp)
        last := RowH.new _ _ _
        arg := (hs.tch t1 (Nat.le_refl _) (by simp)).tch t2 (Nat.le_succ _) (by simp)
        tb := by omega
        eb := by omega
        bl := ⟨?_, ?_, ?_, ?_, ?_⟩ }
      · show h.next < h.next + 1 + 1; omega
      · show h.next + 1 < h.next + 1 + 1; omega
      · exact Nat.le_refl _
      · exact Nat.le_succ _
      · show h.next ≠ h.next + 1; omega
    · rw [decide_eq_true (show (zs.length : Int) > 1000 by omega)]
      exact ⟨_, rfl⟩
  obtain ⟨h', hk⟩ := key
  exact ⟨h', worldp_ok _ _ _ _ _ _ _ hk⟩
end Go.Proofs.Ytjhnmfhpjlolhaa
