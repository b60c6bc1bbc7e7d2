/- Whether a node may answer by itself: any view. -/
import Derived.Test.YtjhnmfhpjlolhaaSpans
namespace Go.Proofs.Ytjhnmfhpjlolhaa
open Go.RowKit Abs

/-- one of the others was heard lately -/
def oneB (self now span i z : Int) : Bool := (i != self) && decide (z ≤ now) && decide (now - z < span)
theorem late_round {self now span z i : Int} {l : List AV} (k : AHeap → R) {h : AHeap} (hx : opIndex Try.prog h 26 (some (.agg l)) (some (.int .i64 i)) = some (.val (.int .i64 z), h))
    (hn : -9223372036854775808 ≤ now ∧ now < 9223372036854775808) (hz : -9223372036854775808 ≤ z ∧ z < 9223372036854775808) (hs : 0 ≤ span ∧ span ≤ 20) (hi : 0 ≤ i ∧ i < 3) (m : Nat) :
    lease_heardLately_L0 self now span l k (m + 1) i h = ifB (oneB self now span i z) (some (.ret (.bool true), h)) (lease_heardLately_L0 self now span l k m (i + 1) h) := by
  rw [lease_heardLately_L0_s]
  unfold lease_heardLately_L0b
  have e1 : IntKind.i64.wrap (i + 1) = i + 1 := wrap_i64 (by omega) (by omega)
  have e2 : IntKind.u64.wrap span = span := by rw [wrap_u64_mod]; omega
  simp only [lett_eq, lt_true hi.2, ifB_true, hx, outK_val, obind_val, avInt_int, e1, e2, oneB]
  cases (i != self) with
  | false => rfl
  | true =>
    simp only [ifB_true, Bool.true_and]
    by_cases h1 : z ≤ now
    · have e3 : IntKind.u64.wrap (IntKind.u64.wrap now - IntKind.u64.wrap z) = now - z := by
        simp only [wrap_u64_mod]
        omega
      rw [decide_eq_true h1, ifB_true, e3, Bool.true_and]
    · rw [decide_eq_false h1, ifB_false, ifB_false, Bool.false_and, ifB_false]
/-- one of the three -/
def lateB (self now span a b c : Int) : Bool := oneB self now span 0 a || oneB self now span 1 b || oneB self now span 2 c
theorem late_end {self now span : Int} {l : List AV} (k : AHeap → R) {h : AHeap} (m : Nat) : lease_heardLately_L0 self now span l k (m + 1) 3 h = k h := by
  rw [lease_heardLately_L0_s]
  unfold lease_heardLately_L0b
  simp only [lett_eq, lt_false (Int.le_refl 3), ifB_false]
theorem heard_w (n d : Nat) {self now span a b c : Int} (hn : I64 now) (ha : I64 a) (hb : I64 b) (hc : I64 c) (hs : 0 ≤ span ∧ span ≤ 20) (h : AHeap) :
    world (n + 4) (d + 1) 21 [.agg [.int .i64 a, .int .i64 b, .int .i64 c], .int .i64 self, .int .i64 now, .int .i64 span] h = some (.ret (.bool (lateB self now span a b c)), h) := by
  rw [w_lease_heardLately]
  unfold lease_heardLately
  rw [box_agg (by rfl)]
  simp only [outK_val, lett_eq, row_newP (show [AV.int .i64 a, .int .i64 b, .int .i64 c].length = 3 from rfl), obind_val]
  have r0 := fun k h m => late_round (self := self) (span := span) (l := [.int .i64 a, .int .i64 b, .int .i64 c]) (h := h) k (i := 0) (by kernel_rfl) hn ha hs (by omega) m
  have r1 := fun k h m => late_round (self := self) (span := span) (l := [.int .i64 a, .int .i64 b, .int .i64 c]) (h := h) k (i := 1) (by kernel_rfl) hn hb hs (by omega) m
  have r2 := fun k h m => late_round (self := self) (span := span) (l := [.int .i64 a, .int .i64 b, .int .i64 c]) (h := h) k (i := 2) (by kernel_rfl) hn hc hs (by omega) m
  rw [r0, show (0 : Int) + 1 = 1 from rfl, r1, show (1 : Int) + 1 = 2 from rfl, r2, show (2 : Int) + 1 = 3 from rfl, late_end]
  unfold lateB
  cases oneB self now span 0 a <;> cases oneB self now span 1 b <;> cases oneB self now span 2 c <;> exact gcR_scal (above_new _ _ _) rfl

/-! ### the document's answer -/
section
variable {self now rho z i : Int} {l : List AV} {h : AHeap} {o : Nat}
theorem ref_round (n d : Nat) (hnn : 25 ≤ n) (k : AHeap → R) (hr : 0 ≤ rho ∧ rho ≤ 500) (hx : ldCell h (.ptr o 8) = some (.int .i64 now)) (hy : ldCell h (.ptr o (10 + i.toNat)) = some (.int .i64 z))
    (hn : -1152921504606846976 ≤ now ∧ now ≤ 1152921504606846976) (hi : 0 ≤ i ∧ i < 3) (m : Nat) :
    ref20_Held_L0 (world n (d + 1)) self rho (.ptr o 0) k (m + 1) i h = ifB (oneB self now (spanI rho) i z) (some (.ret (.bool true), h)) (ref20_Held_L0 (world n (d + 1)) self rho (.ptr o 0) k m (i + 1) h) := by
  rw [ref20_Held_L0_s]
  unfold ref20_Held_L0b
  have hsp := spn_le hr.1 hr.2
  have hsi : spanI rho = spn rho - 1 := by unfold spanI; rw [if_neg (by omega)]
  have e1 : IntKind.i64.wrap (i + 1) = i + 1 := wrap_i64 (by omega) (by omega)
  have e2 : IntKind.i64.wrap (now - spanI rho) = now - spanI rho := wrap_i64 (by omega) (by omega)
  have e3 : fldP 10 (.ptr o 0) = some (.ptr o 10) := rfl
  have e4 : fldP 8 (.ptr o 0) = some (.ptr o 8) := rfl
  have e5 : idxA 3 1 (.ptr o 10) i = some (.ptr o (10 + i.toNat)) := by
    obtain ⟨j, rfl⟩ := Int.eq_ofNat_of_zero_le hi.1
    have hj : Nat.blt j 3 = true := Nat.ble_eq_true_of_le (show j + 1 ≤ 3 by omega)
    show (match Nat.blt j 3 with | true => some (AV.ptr o (10 + j * 1)) | false => none) = _
    rw [hj, Nat.mul_one]
    rfl
  have k1 : reLoad Try.prog h 3 (.ptr o 8) (.int .i64 now) = true := reLoad_cell (by kernel_rfl) hx (by simp [sameO, AV.same])
  have k2 : reLoad Try.prog h 3 (.ptr o (10 + i.toNat)) (.int .i64 z) = true := reLoad_cell (by kernel_rfl) hy (by simp [sameO, AV.same])
  simp only [lett_eq, lt_true hi.2, ifB_true, e1, e3, e4, e5, hx, hy, obind_val, avInt_int, refSpan_w n d hnn hr.1 hr.2, callN_ret, k1, k2, Bool.true_and, chk_true, e2, oneB]
  cases (i != self) with
  | false => rfl
  | true =>
    simp only [ifB_true, Bool.true_and]
    by_cases h1 : z ≤ now
    · rw [decide_eq_true h1, ifB_true, Bool.true_and]
      have e6 : decide (z > now - spanI rho) = decide (now - z < spanI rho) := by
        apply decide_eq_decide.2
        omega
      rw [e6]
    · rw [decide_eq_false h1, ifB_false, ifB_false, Bool.false_and, ifB_false]
theorem ref_end (n d : Nat) (k : AHeap → R) (m : Nat) {v : AV} : ref20_Held_L0 (world n d) self rho v k (m + 1) 3 h = k h := by
  rw [ref20_Held_L0_s]
  unfold ref20_Held_L0b
  simp only [lett_eq, lt_false (Int.le_refl 3), ifB_false]
end
/-- a view's cells -/
def viewC (ro bt bf le si st la co now : Int) (rd : Bool) (a b c : Int) : List AV := [.int .u8 ro, .int .i64 bt, .int .i64 bf, .int .i64 le, .int .i64 si, .int .i64 st, .int .i64 la, .int .i64 co, .int .i64 now, .bool rd, .int .i64 a, .int .i64 b, .int .i64 c]
def heldB (ro now : Int) (rd : Bool) (a b c self rho : Int) : Bool := decide (0 ≤ rho) && decide (rho ≤ 500) && decide (0 ≤ self) && decide (self < 3) && (ro == 3) && rd && lateB self now (spanI rho) a b c
section
variable {ro bt bf le si st la co now : Int} {rd : Bool} {a b c self rho : Int}
theorem held_w (n d : Nat) (hn : I64 now) (ha : I64 a) (hb : I64 b) (hc : I64 c) (h : AHeap) :
    world (n + 4) (d + 2) 12 [.agg (viewC ro bt bf le si st la co now rd a b c), .int .i64 self, .int .i64 rho] h = some (.ret (.bool (heldB ro now rd a b c self rho)), h) := by
  rw [w_lease_Held]
  unfold lease_Held
  rw [box_agg (by rfl)]
  simp only [outK_val, lett_eq, span_w, callN_ret]
  by_cases hr : 0 ≤ rho ∧ rho ≤ 500
  · have hsp := spn_le hr.1 hr.2
    have hsi : spanI rho = spn rho - 1 := by unfold spanI; rw [if_neg (by omega)]
    rw [if_pos hr]
    have e1 : heldB ro now rd a b c self rho = (decide (0 ≤ self) && decide (self < 3) && (ro == 3) && rd && lateB self now (spanI rho) a b c) := by
      unfold heldB
      rw [decide_eq_true hr.1, decide_eq_true hr.2, Bool.true_and, Bool.true_and]
    rw [e1]
    have e0 : ((0 : Int) != 0) = false := rfl
    simp only [extT_0, extT_1, obind_val, avInt_int, fld_newP, cell_newH, e0, ifB_false]
    by_cases h1 : self < 0
    · rw [lt_true h1, decide_eq_false (show ¬ 0 ≤ self by omega)]
      exact gcR_scal (above_new _ _ _) rfl
    · rw [lt_false (show 0 ≤ self by omega), decide_eq_true (show 0 ≤ self by omega), ifB_false]
      by_cases h2 : self ≥ 3
      · rw [decide_eq_true h2, decide_eq_false (show ¬ self < 3 by omega)]
        exact gcR_scal (above_new _ _ _) rfl
      · rw [decide_eq_false h2, decide_eq_true (show self < 3 by omega), ifB_false]
        have c0 : (viewC ro bt bf le si st la co now rd a b c)[0 + 0]? = some (.int .u8 ro) := rfl
        have c9 : (viewC ro bt bf le si st la co now rd a b c)[0 + 9]? = some (.bool rd) := rfl
        have c8 : (viewC ro bt bf le si st la co now rd a b c)[0 + 8]? = some (.int .i64 now) := rfl
        have c10 : ldRow (newH h 32 (viewC ro bt bf le si st la co now rd a b c)) 3 (.ptr h.next (0 + 10)) = some [.int .i64 a, .int .i64 b, .int .i64 c] := row_newH (Nat.le_refl 13)
        simp only [c0, c8, c9, c10, obind_val, avInt_int, avBool_bool, Bool.true_and]
        cases (ro == 3) with
        | false => exact gcR_scal (above_new _ _ _) rfl
        | true => cases rd with
          | false => exact gcR_scal (above_new _ _ _) rfl
          | true =>
            simp only [ifB_true, Bool.true_and]
            rw [heard_w n d hn ha hb hc (by omega), callN_ret, avBool_bool, obind_val]
            exact gcR_scal (above_new _ _ _) rfl
  · rw [if_neg hr]
    have e1 : heldB ro now rd a b c self rho = false := by
      unfold heldB
      by_cases h0 : 0 ≤ rho
      · rw [decide_eq_false (show ¬ rho ≤ 500 by omega), Bool.and_false]
        simp only [Bool.false_and]
      · rw [decide_eq_false h0]
        simp only [Bool.false_and]
    rw [e1]
    have e0 : ((2 : Int) != 0) = true := rfl
    simp only [extT_0, extT_1, obind_val, avInt_int, e0, ifB_true]
    exact gcR_scal (above_new _ _ _) rfl
theorem refHeld_w (n d : Nat) (hnn : 25 ≤ n + 4) (hn : -1152921504606846976 ≤ now ∧ now ≤ 1152921504606846976) (h : AHeap) :
    world (n + 4) (d + 2) 14 [.agg (viewC ro bt bf le si st la co now rd a b c), .int .i64 self, .int .i64 rho] h = some (.ret (.bool (heldB ro now rd a b c self rho)), h) := by
  rw [w_ref20_Held]
  unfold ref20_Held
  rw [box_agg (by rfl)]
  simp only [outK_val, lett_eq]
  have c0 : (viewC ro bt bf le si st la co now rd a b c)[0 + 0]? = some (.int .u8 ro) := rfl
  have c9 : (viewC ro bt bf le si st la co now rd a b c)[0 + 9]? = some (.bool rd) := rfl
  simp only [fld_newP, cell_newH, c0, c9, obind_val, avInt_int, avBool_bool]
  by_cases h0 : rho < 0
  · rw [lt_true h0, show heldB ro now rd a b c self rho = false by unfold heldB; rw [decide_eq_false (show ¬ 0 ≤ rho by omega)]; simp only [Bool.false_and]]
    exact gcR_scal (above_new _ _ _) rfl
  · rw [lt_false (show 0 ≤ rho by omega), ifB_false]
    by_cases h1 : rho > 500
    · rw [decide_eq_true h1, show heldB ro now rd a b c self rho = false by unfold heldB; rw [decide_eq_false (show ¬ rho ≤ 500 by omega), Bool.and_false]; simp only [Bool.false_and]]
      exact gcR_scal (above_new _ _ _) rfl
    · have e1 : heldB ro now rd a b c self rho = (decide (0 ≤ self) && decide (self < 3) && (ro == 3) && rd && lateB self now (spanI rho) a b c) := by
        unfold heldB
        rw [decide_eq_true (show 0 ≤ rho by omega), decide_eq_true (show rho ≤ 500 by omega), Bool.true_and, Bool.true_and]
      rw [decide_eq_false h1, e1, ifB_false]
      by_cases h2 : self < 0
      · rw [lt_true h2, decide_eq_false (show ¬ 0 ≤ self by omega)]
        exact gcR_scal (above_new _ _ _) rfl
      · rw [lt_false (show 0 ≤ self by omega), decide_eq_true (show 0 ≤ self by omega), ifB_false]
        by_cases h3 : self > 2
        · rw [decide_eq_true h3, decide_eq_false (show ¬ self < 3 by omega)]
          exact gcR_scal (above_new _ _ _) rfl
        · rw [decide_eq_false h3, decide_eq_true (show self < 3 by omega), ifB_false]
          simp only [Bool.true_and, bne]
          cases (ro == 3) with
          | false => exact gcR_scal (above_new _ _ _) rfl
          | true => cases rd with
            | false => exact gcR_scal (above_new _ _ _) rfl
            | true =>
              simp only [Bool.not_true, ifB_false, Bool.true_and]
              have r0 := fun k m => ref_round (self := self) (rho := rho) (now := now) (z := a) (i := 0) (o := h.next) (h := newH h 32 (viewC ro bt bf le si st la co now true a b c)) (n + 4) d hnn k (by omega) (by rw [cell_newH]; rfl) (by rw [cell_newH]; rfl) hn (by omega) m
              have r1 := fun k m => ref_round (self := self) (rho := rho) (now := now) (z := b) (i := 1) (o := h.next) (h := newH h 32 (viewC ro bt bf le si st la co now true a b c)) (n + 4) d hnn k (by omega) (by rw [cell_newH]; rfl) (by rw [cell_newH]; rfl) hn (by omega) m
              have r2 := fun k m => ref_round (self := self) (rho := rho) (now := now) (z := c) (i := 2) (o := h.next) (h := newH h 32 (viewC ro bt bf le si st la co now true a b c)) (n + 4) d hnn k (by omega) (by rw [cell_newH]; rfl) (by rw [cell_newH]; rfl) hn (by omega) m
              show gcR h (ref20_Held_L0 _ self rho (.ptr h.next 0) _ (n + 4) 0 _) = _
              rw [r0, show (0 : Int) + 1 = 1 from rfl, r1, show (1 : Int) + 1 = 2 from rfl, r2, show (2 : Int) + 1 = 3 from rfl, ref_end]
              unfold lateB
              cases oneB self now (spanI rho) 0 a <;> cases oneB self now (spanI rho) 1 b <;> cases oneB self now (spanI rho) 2 c <;> exact gcR_scal (above_new _ _ _) rfl
end

/-- what is there of a view -/
theorem view_of {h : AHeap} {a : AV} (hp : ArgP Try.prog h.next h 12 32 a) : ∃ ro bt bf le si st la co now rd x y z, a = .agg (viewC ro bt bf le si st la co now rd x y z) ∧ I64 now ∧ I64 x ∧ I64 y ∧ I64 z := by
  obtain ⟨l, rfl, hl⟩ := hp.agg (by kernel_rfl)
  obtain ⟨ls, rfl, h1, h2⟩ := hl.struct Try.underlying32
  match ls, h1 with
  | [l0, l1, l2, l3, l4, l5, l6, l7, l8], _ =>
    obtain ⟨ro, rfl, _⟩ := (h2 0 _ l0 rfl rfl).int Try.underlying5
    obtain ⟨u0, u1, rfl, hu0, hu1⟩ := (h2 1 _ l1 rfl rfl).struct2 Try.underlying28
    obtain ⟨bt, rfl, _⟩ := hu0.int Try.underlying3
    obtain ⟨bf, rfl, _⟩ := hu1.int Try.underlying3
    obtain ⟨le, rfl, _⟩ := (h2 2 _ l2 rfl rfl).int Try.underlying3
    obtain ⟨w0, w1, rfl, hw0, hw1⟩ := (h2 3 _ l3 rfl rfl).struct2 Try.underlying30
    obtain ⟨si, rfl, _⟩ := hw0.int Try.underlying3
    obtain ⟨st, rfl, _⟩ := hw1.int Try.underlying3
    obtain ⟨la, rfl, _⟩ := (h2 4 _ l4 rfl rfl).int Try.underlying3
    obtain ⟨co, rfl, _⟩ := (h2 5 _ l5 rfl rfl).int Try.underlying3
    obtain ⟨now, rfl, wn⟩ := (h2 6 _ l6 rfl rfl).int Try.underlying3
    obtain ⟨rd, rfl⟩ := (h2 7 _ l7 rfl rfl).bool Try.underlying4
    obtain ⟨ks, rfl, k1, k2⟩ := (h2 8 _ l8 rfl rfl).array Try.underlying26
    match ks, k1 with
    | [x0, x1, x2], _ =>
      obtain ⟨x, rfl, wx⟩ := (k2 x0 (by simp)).int Try.underlying3
      obtain ⟨y, rfl, wy⟩ := (k2 x1 (by simp)).int Try.underlying3
      obtain ⟨z, rfl, wz⟩ := (k2 x2 (by simp)).int Try.underlying3
      exact ⟨ro, bt, bf, le, si, st, la, co, now, rd, x, y, z, rfl, wf_i64 wn, wf_i64 wx, wf_i64 wy, wf_i64 wz⟩

theorem far_round {i z : Int} {l : List AV} {h : AHeap} (k : AHeap → R) (hx : opIndex Try.prog h 26 (some (.agg l)) (some (.int .i64 i)) = some (.val (.int .i64 z), h)) (hi : 0 ≤ i ∧ i < 3) (m : Nat) :
    law20_LeaseHolds_L0 l k (m + 1) i h = some (.ret (.bool true), h) ∨ law20_LeaseHolds_L0 l k (m + 1) i h = law20_LeaseHolds_L0 l k m (i + 1) h := by
  rw [law20_LeaseHolds_L0_s]
  unfold law20_LeaseHolds_L0b
  have e1 : IntKind.i64.wrap (i + 1) = i + 1 := wrap_i64 (by omega) (by omega)
  simp only [lett_eq, lt_true hi.2, ifB_true, hx, outK_val, obind_val, avInt_int, e1]
  cases decide (z < -1152921504606846976) with
  | true => exact .inl rfl
  | false =>
    rw [ifB_false]
    cases decide (z > 1152921504606846976) with
    | true => exact .inl rfl
    | false => exact .inr rfl
theorem far_loop {a b c : Int} {h h' : AHeap} (k : AHeap → R) (hk : k h = some (.ret (.bool true), h')) (m : Nat) :
    ∃ h2, law20_LeaseHolds_L0 [.int .i64 a, .int .i64 b, .int .i64 c] k (m + 4) 0 h = some (.ret (.bool true), h2) := by
  have r0 := far_round (l := [.int .i64 a, .int .i64 b, .int .i64 c]) (h := h) k (i := 0) (z := a) (by kernel_rfl) (by omega) (m + 3)
  have r1 := far_round (l := [.int .i64 a, .int .i64 b, .int .i64 c]) (h := h) k (i := 1) (z := b) (by kernel_rfl) (by omega) (m + 2)
  have r2 := far_round (l := [.int .i64 a, .int .i64 b, .int .i64 c]) (h := h) k (i := 2) (z := c) (by kernel_rfl) (by omega) (m + 1)
  have r3 : law20_LeaseHolds_L0 [.int .i64 a, .int .i64 b, .int .i64 c] k (m + 1) 3 h = k h := by
    rw [law20_LeaseHolds_L0_s]
    unfold law20_LeaseHolds_L0b
    simp only [lett_eq, lt_false (Int.le_refl 3), ifB_false]
  rcases r0 with r0 | r0
  · exact ⟨_, r0⟩
  rcases r1 with r1 | r1
  · exact ⟨_, r0.trans r1⟩
  rcases r2 with r2 | r2
  · exact ⟨_, (r0.trans r1).trans r2⟩
  · exact ⟨_, (((r0.trans r1).trans r2).trans r3).trans hk⟩

/-- the law of answers -/
theorem leaseHolds_says (h : AHeap) (_ : h.ex = []) (xs : List AV) (hP : ArgsP Try.prog h.next h 12 [32, 3, 3] xs) : ∃ h', Says Try.prog 5 xs h (.ret (.bool true)) h' := by
  obtain ⟨_, _, rfl, hp, hP⟩ := args_cons hP
  obtain ⟨_, _, rfl, hp1, hP⟩ := args_cons hP
  obtain ⟨_, _, rfl, hp2, hP⟩ := args_cons hP
  obtain rfl := args0 hP
  obtain ⟨ro, bt, bf, le, si, st, la, co, now, rd, x, y, z, rfl, wn, wx, wy, wz⟩ := view_of hp
  obtain ⟨self, rfl, _⟩ := hp1.int Try.underlying3
  obtain ⟨rho, rfl, _⟩ := hp2.int Try.underlying3
  have key : ∃ h', world (26 + 4) 4 5 [.agg (viewC ro bt bf le si st la co now rd x y z), .int .i64 self, .int .i64 rho] h = some (.ret (.bool true), h') := by
    rw [w_law20_LeaseHolds]
    unfold law20_LeaseHolds
    rw [box_agg (by rfl)]
    have c8 : (viewC ro bt bf le si st la co now rd x y z)[0 + 8]? = some (.int .i64 now) := rfl
    have c10 : ldRow (newH h 32 (viewC ro bt bf le si st la co now rd x y z)) 3 (.ptr h.next (0 + 10)) = some [.int .i64 x, .int .i64 y, .int .i64 z] := row_newH (Nat.le_refl 13)
    have c13 : ldRow (newH h 32 (viewC ro bt bf le si st la co now rd x y z)) 13 (newP h) = some (viewC ro bt bf le si st la co now rd x y z) := row_newP rfl
    rw [outK_val, works_w]
    simp only [callN_ret, obind_val, avBool_bool, lett_eq, Bool.not_true, ifB_false, fld_newP, cell_newH, c8, c10, avInt_int]
    by_cases h0 : now < -1152921504606846976
    · rw [lt_true h0]
      exact ⟨_, gcR_scal (above_new _ _ _) rfl⟩
    · rw [lt_false (by omega), ifB_false]
      by_cases h1 : now > 1152921504606846976
      · rw [decide_eq_true h1]
        exact ⟨_, gcR_scal (above_new _ _ _) rfl⟩
      · rw [decide_eq_false h1, ifB_false]
        have hre : reLoad Try.prog (newH h 32 (viewC ro bt bf le si st la co now rd x y z)) 32 (newP h) (.agg (viewC ro bt bf le si st la co now rd x y z)) = true := reLoad_r (by kernel_rfl) (by kernel_rfl) c13
        refine gc_ex (far_loop (h' := newH h 32 (viewC ro bt bf le si st la co now rd x y z)) _ ?_ 26)
        simp only [c13, obind_val]
        rw [held_w 26 1 wn wx wy wz, callN_ret, avBool_bool, obind_val, hre, Bool.true_and, Bool.true_and, chk_true, refHeld_w 26 1 (by omega) (by omega), callN_ret, avBool_bool, obind_val, beq_self_eq_true]
  obtain ⟨h', hk⟩ := key
  exact ⟨h', world_ok _ _ _ _ _ _ _ hk⟩
end Go.Proofs.Ytjhnmfhpjlolhaa
