/- Fences rise. -/
import Derived.Test.YtjhnmfhpjlolhaaWp
namespace Go.Proofs.Ytjhnmfhpjlolhaa
open Go.RowKit Abs

def fenceC (t e : Int) : List AV := [.int .i64 t, .int .i64 e]
theorem nil33 (h : AHeap) (b o : Nat) : opBin Try.prog h .eql 33 true (some (.ptr b o)) (some .nilp) = some (.val (.bool false), h) := by kernel_rfl
theorem fldP_ptr (f b o : Nat) : fldP f (.ptr b o) = some (.ptr b (o + f)) := rfl
theorem nilC_ptr (b o : Nat) : nilC (.ptr b o) = some (.ptr b o) := rfl
theorem fence_one (t e : Int) : (fenceC t e).all AV.one = true := rfl
section
variable {n d b : Nat} {T E z : Int} {h : AHeap}
/-- what is handed back when none is issued -/
theorem none_issued {h : AHeap} {e : Int} {b : Nat} (k : RowH h b 56 (fenceC T E)) (hb : b < h.next) :
    ∃ h', (obind (stRow (newH h 36 [.int .i64 0, .int .i64 0]) 2 ([.int .i64 0, .int .i64 0] : List AV) (newP h)) fun h2 => obind (ldRow h2 2 (newP h)) fun w => some (ARes.ret (.tup [.agg w, .int .i64 e]), h2)) = some (.ret (.tup [.agg (fenceC 0 0), .int .i64 e]), h') ∧ Tch [b] h h' ∧ RowH h' b 56 (fenceC T E) := by
  obtain ⟨h2, s1, s2, s3, s4, s5⟩ := (RowH.new h 36 [.int .i64 0, .int .i64 0]).stAll (n := 2) (vs := [.int .i64 0, .int .i64 0]) rfl rfl rfl
  have t1 : Tch [b] h h2 := (Tch.newH _ h 36 _).trans' (tch_of (S := [h.next]) s3 s4 s5 (by simp)) (by intro i hi; simp at hi; omega)
  refine ⟨h2, ?_, t1, ?_⟩
  · show obind (stRow _ 2 _ (.ptr h.next 0)) _ = _
    rw [s1, obind_val]
    show obind (ldRow _ 2 (.ptr h.next 0)) _ = _
    rw [s2.ldAll (n := 2) rfl, obind_val]
    rfl
  · refine (k.tch (Tch.newH [] h 36 _) hb (by simp)).same (s5 b (by omega))
theorem next_bad (k : RowH h b 56 (fenceC T E)) (hb : b < h.next) (hz : z < 1 ∨ z > 1099511627776) :
    ∃ h', worldp n (d + 1) 11 [.ptr b 0, .int .i64 z] h = some (.ret (.tup [.agg (fenceC 0 0), .int .i64 2]), h') ∧ Tch [b] h h' ∧ RowH h' b 56 (fenceC T E) := by
  obtain ⟨h2, e1, e2, e3⟩ := none_issued (e := 2) k hb
  refine ⟨h2, ?_, e2, e3⟩
  rw [wp_lease_Issuer_Next]
  unfold lease_Issuer_Next
  simp only [lett_eq, nil33, outK_val, obind_val, avBool_bool, ifB_false]
  rcases hz with hz | hz
  · rw [lt_true hz, ifB_true, ifB_true]
    exact e1
  · rw [lt_false (by omega), ifB_false, decide_eq_true hz, ifB_true]
    exact e1
theorem next_low (k : RowH h b 56 (fenceC T E)) (hb : b < h.next) (hz : 1 ≤ z ∧ z ≤ 1099511627776) (hT : z < T) :
    ∃ h', worldp n (d + 1) 11 [.ptr b 0, .int .i64 z] h = some (.ret (.tup [.agg (fenceC 0 0), .int .i64 5]), h') ∧ Tch [b] h h' ∧ RowH h' b 56 (fenceC T E) := by
  obtain ⟨h2, e1, e2, e3⟩ := none_issued (e := 5) k hb
  refine ⟨h2, ?_, e2, e3⟩
  rw [wp_lease_Issuer_Next]
  unfold lease_Issuer_Next
  have k2 := k.tch (Tch.newH [] h 36 [.int .i64 0, .int .i64 0]) hb (by simp)
  have c0 := k2.cell' (o := 0) (v := .int .i64 T) rfl
  simp only [lett_eq, nil33, outK_val, obind_val, avBool_bool, ifB_false, nilC_ptr, fldP_ptr, Nat.add_zero, c0, avInt_int]
  rw [lt_false hz.1, ifB_false, decide_eq_false (by omega), ifB_false, lt_true hT, ifB_true, ifB_true]
  exact e1
theorem next_ok (k : RowH h b 56 (fenceC T E)) (hb : b < h.next) (hz : 1 ≤ z ∧ z ≤ 1099511627776) (hT : T ≤ z) (hE : 0 ≤ E ∧ E < 1048576) :
    ∃ h', worldp n (d + 1) 11 [.ptr b 0, .int .i64 z] h = some (.ret (.tup [.agg (fenceC z (if z = T then E + 1 else 1)), .int .i64 0]), h') ∧ Tch [b] h h' ∧ RowH h' b 56 (fenceC z (if z = T then E + 1 else 1)) := by
  have k2 := k.tch (Tch.newH [] h 36 [.int .i64 0, .int .i64 0]) hb (by simp)
  have c0 := k2.cell' (o := 0) (v := .int .i64 T) rfl
  have c1 := k2.cell' (o := 1) (v := .int .i64 E) rfl
  -- from the place at which the last fence is counted up
  have tail : ∀ (E2 : Int) (h3 : AHeap), 0 ≤ E2 ∧ E2 < 1048576 → RowH h3 b 56 (fenceC z E2) → h3.next = h.next + 1 → h3.ex = h.ex → (∀ i, i ≠ b → h3.get i = (newH h 36 [.int .i64 0, .int .i64 0]).get i) →
      ∃ h', (obind (ldCell h3 (.ptr b (0 + 1))) fun v61 => obind (avInt .i64 v61) fun t61 => obind (stRow h3 1 [.int .i64 (IntKind.i64.wrap (t61 + 1))] (.ptr b (0 + 1))) fun h_58 => obind (ldRow h_58 2 (.ptr b 0)) fun t69 => obind (stRow h_58 2 t69 (newP h)) fun h_64 => obind (ldRow h_64 2 (newP h)) fun w4_67 => some (ARes.ret (.tup [.agg w4_67, .int .i64 0]), h_64)) = some (.ret (.tup [.agg (fenceC z (E2 + 1)), .int .i64 0]), h') ∧ Tch [b] h h' ∧ RowH h' b 56 (fenceC z (E2 + 1)) := by
    intro E2 h3 hE2 r1 n1 x1 o1
    have c1 := r1.cell' (o := 1) (v := .int .i64 E2) rfl
    have ew : IntKind.i64.wrap (E2 + 1) = E2 + 1 := wrap_i64 (by omega) (by omega)
    obtain ⟨h4, a1, a2, a3, a4, a5⟩ := r1.st1 (o := 1) (v := .int .i64 (E2 + 1)) (Nat.lt_succ_self 1) rfl
    have a2 : RowH h4 b 56 (fenceC z (E2 + 1)) := a2
    have q1 : RowH h4 h.next 36 [.int .i64 0, .int .i64 0] := (RowH.new h 36 [.int .i64 0, .int .i64 0]).same ((a5 _ (by omega)).trans (o1 _ (by omega)))
    obtain ⟨h5, b1, b2, b3, b4, b5⟩ := q1.stAll (n := 2) (vs := fenceC z (E2 + 1)) rfl rfl rfl
    refine ⟨h5, ?_, ⟨by omega, by rw [b4, a4, x1], fun i hi hS => ?_⟩, a2.same (b5 b (by omega))⟩
    · rw [Nat.zero_add, c1]
      simp only [obind_val, avInt_int, ew, a1, a2.ldAll (n := 2) rfl]
      show obind (stRow _ 2 _ (.ptr h.next 0)) _ = _
      rw [b1, obind_val]
      show obind (ldRow _ 2 (.ptr h.next 0)) _ = _
      rw [b2.ldAll (n := 2) rfl, obind_val]
    · have hib : i ≠ b := by simpa using hS
      rw [b5 i (by omega), a5 i hib, o1 i hib]
      exact get_new_other _ (by omega)
  by_cases hzT : z = T
  · subst hzT
    obtain ⟨h', e1, e2, e3⟩ := tail E (newH h 36 [.int .i64 0, .int .i64 0]) hE k2 rfl rfl (fun _ _ => rfl)
    rw [if_pos rfl]
    refine ⟨h', ?_, e2, e3⟩
    rw [wp_lease_Issuer_Next]
    unfold lease_Issuer_Next
    simp only [lett_eq, nil33, outK_val, obind_val, avBool_bool, ifB_false, nilC_ptr, fldP_ptr, Nat.add_zero, c0, avInt_int]
    rw [lt_false hz.1, ifB_false, decide_eq_false (by omega), ifB_false, lt_false (Int.le_refl z), ifB_false, beq_self_eq_true, ifB_true]
    rw [Nat.zero_add, c1, obind_val, avInt_int, obind_val, decide_eq_false (show ¬ E ≥ 1048576 by omega), ifB_false, ifB_false]
    rw [Nat.zero_add, c1] at e1
    exact e1
  · rw [if_neg hzT]
    obtain ⟨h3, a1, a2, a3, a4, a5⟩ := k2.stAll (n := 2) (vs := fenceC z 0) rfl rfl rfl
    obtain ⟨h', e1, e2, e3⟩ := tail 0 h3 (by omega) a2 a3 a4 a5
    refine ⟨h', ?_, e2, e3⟩
    rw [wp_lease_Issuer_Next]
    unfold lease_Issuer_Next
    simp only [lett_eq, nil33, outK_val, obind_val, avBool_bool, ifB_false, nilC_ptr, fldP_ptr, Nat.add_zero, c0, avInt_int]
    rw [lt_false hz.1, ifB_false, decide_eq_false (by omega), ifB_false, lt_false hT, ifB_false, beq_eq_false_iff_ne.2 hzT, ifB_false, decide_eq_true (show z > T by omega), ifB_true]
    show obind (stRow _ 2 (fenceC z 0) (.ptr b 0)) _ = _
    rw [a1, obind_val]
    exact e1
end
end Go.Proofs.Ytjhnmfhpjlolhaa
