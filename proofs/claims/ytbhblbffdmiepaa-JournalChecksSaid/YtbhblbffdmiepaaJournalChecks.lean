/- Which sends there are. -/
import Derived.Test.YtbhblbffdmiepaaWo
import Derived.Test.YtbhblbffdmiepaaAbs36
namespace Go.Proofs.Ytbhblbffdmiepaa
open Go.RowKit Abs

/-- a send's cells -/
noncomputable def sendC (a b c d : Int) (s : Bytes) : List AV := [.int .i64 a, .int .i64 b, .int .i64 c, .int .i64 d, strA s]
def badB (v m : Int) : Bool := decide (v < 1) || decide (v > m)
def sendE (a b c d : Int) (s : Bytes) : Int := if badB a 1048576 || badB b 1099511627776 || badB c 1048576 || badB d 1048576 then 2 else if lenS s > 64 then 3 else 0
def numsC (a b c d : Int) : List AV := [.int .i64 a, .int .i64 1048576, .int .i64 b, .int .i64 1099511627776, .int .i64 c, .int .i64 1048576, .int .i64 d, .int .i64 1048576]
theorem numbers_w (n k : Nat) (a b c d : Int) (s : Bytes) (h : AHeap) : world n (k + 1) 40 [.agg (sendC a b c d s)] h = some (.ret (.agg (numsC a b c d)), h) := by
  rw [w_journal_numbers]
  unfold journal_numbers
  rw [box_agg (by rfl)]
  have r1 : RowH (newH h 35 (sendC a b c d s)) h.next 35 (sendC a b c d s) := RowH.new h 35 _
  have r2 := RowH.new (newH h 35 (sendC a b c d s)) 100 [.int .i64 0, .int .i64 0, .int .i64 0, .int .i64 0, .int .i64 0, .int .i64 0, .int .i64 0, .int .i64 0]
  have r3 := r1.tch (Tch.newH [] _ 100 [.int .i64 0, .int .i64 0, .int .i64 0, .int .i64 0, .int .i64 0, .int .i64 0, .int .i64 0, .int .i64 0]) (lt_newH _ _ _) (by simp)
  have f0 : fldP 0 (newP h) = some (.ptr h.next 0) := rfl
  have f1 : fldP 1 (newP h) = some (.ptr h.next 1) := rfl
  have f3 : fldP 3 (newP h) = some (.ptr h.next 3) := rfl
  have f10 : fldP 0 (.ptr h.next 1) = some (.ptr h.next 1) := rfl
  have f11 : fldP 1 (.ptr h.next 1) = some (.ptr h.next 2) := rfl
  have c0 := r3.cell' (o := 0) (v := .int .i64 a) rfl
  have c1 := r3.cell' (o := 1) (v := .int .i64 b) rfl
  have c2 := r3.cell' (o := 2) (v := .int .i64 c) rfl
  have c3 := r3.cell' (o := 3) (v := .int .i64 d) rfl
  have hb : bldS Try.prog 100 [(0, .agg ([.int .i64 a, .int .i64 1048576] : List AV)), (1, .agg ([.int .i64 b, .int .i64 1099511627776] : List AV)), (2, .agg ([.int .i64 c, .int .i64 1048576] : List AV)), (3, .agg ([.int .i64 d, .int .i64 1048576] : List AV))] = some (numsC a b c d) := by kernel_rfl
  obtain ⟨h4, e1, e2, e3, e4, e5⟩ := r2.stAll (vs := numsC a b c d) (n := 8) rfl rfl rfl
  have e6 := e2.ldAll (n := 8) rfl
  simp only [outK_val, lett_eq, obind_val, f0, f1, f3, f10, f11, c0, c1, c2, c3, avInt_int, hb]
  rw [show newP (newH h 35 (sendC a b c d s)) = .ptr (newH h 35 (sendC a b c d s)).next 0 from rfl, e1]
  simp only [obind_val, e6]
  have ab : Above h h4 := (Tch.trans' (S := []) (Tch.newH [] h 35 (sendC a b c d s)) (Tch.trans' (S := []) (Tch.newH [] _ 100 _) (tch_of (S := [(newH h 35 (sendC a b c d s)).next]) e3 e4 e5 (.inl (by simp))) (fun b hb => .inr (by simp at hb; omega))) (fun b hb => by simp at hb)).above
  exact gcR_scal ab (by rfl)
theorem round_w {a b c d : Int} (k : AHeap → R) (m : Nat) (i : Nat) (v mx : Int) (h : AHeap) (hi : i < 4) (hv : opIndex Try.prog h 100 (some (.agg (numsC a b c d))) (some (.int .i64 (i : Int))) = some (.val (.agg [.int .i64 v, .int .i64 mx]), h)) :
    ∃ h', Above h h' ∧ journal_Check_L0 (numsC a b c d) k (m + 1) (i : Int) h = (if badB v mx then some (.ret (.int .i64 2), h') else journal_Check_L0 (numsC a b c d) k m ((i + 1 : Nat) : Int) h') := by
  have r2 := RowH.new h 99 [.int .i64 0, .int .i64 0]
  obtain ⟨h4, e1, e2, e3, e4, e5⟩ := r2.stAll (vs := [.int .i64 v, .int .i64 mx]) (n := 2) rfl rfl rfl
  have ab : Above h h4 := (Tch.trans' (S := []) (Tch.newH [] h 99 _) (tch_of (S := [h.next]) e3 e4 e5 (.inl (by simp))) (fun b hb => .inr (by simp at hb; omega))).above
  refine ⟨h4, ab, ?_⟩
  have c0 := e2.cell' (o := 0) (v := .int .i64 v) rfl
  have c1 := e2.cell' (o := 1) (v := .int .i64 mx) rfl
  rw [journal_Check_L0_s]
  unfold journal_Check_L0b
  have hlt : decide ((i : Int) < 4) = true := decide_eq_true (by omega)
  have hw : IntKind.i64.wrap ((i : Int) + 1) = ((i + 1 : Nat) : Int) := wrap_succ (by omega)
  simp only [lett_eq, hlt, ifB_true, hv, outK_val, obind_val, avAgg_agg]
  rw [show newP h = .ptr h.next 0 from rfl, e1]
  simp only [obind_val, c0, c1, avInt_int, hw]
  unfold badB
  by_cases h1 : v < 1
  · rw [decide_eq_true h1, ifB_true]
    rfl
  · rw [decide_eq_false h1, ifB_false]
    by_cases h2 : v > mx
    · rw [decide_eq_true h2, ifB_true]
      rfl
    · rw [decide_eq_false h2, ifB_false]
      rfl
theorem end_w {a b c d : Int} (k : AHeap → R) (m : Nat) (h : AHeap) : journal_Check_L0 (numsC a b c d) k (m + 1) ((4 : Nat) : Int) h = k h := by
  rw [journal_Check_L0_s]
  unfold journal_Check_L0b
  have hlt : decide (((4 : Nat) : Int) < 4) = false := by decide
  simp only [lett_eq, hlt, ifB_false]
theorem check_w (n k : Nat) (a b c d : Int) (s : Bytes) (h : AHeap) : world (n + 5) (k + 2) 16 [.agg (sendC a b c d s)] h = some (.ret (.int .i64 (sendE a b c d s)), h) := by
  rw [w_journal_Check]
  unfold journal_Check
  rw [box_agg (by rfl), outK_val, show ldRow (newH h 35 (sendC a b c d s)) 5 (newP h) = some (sendC a b c d s) from row_newP rfl, obind_val, numbers_w, callN_ret, avAgg_agg, obind_val, lett_eq]
  have r1 : RowH (newH h 35 (sendC a b c d s)) h.next 35 (sendC a b c d s) := RowH.new h 35 _
  have a0 := above_new h 35 (sendC a b c d s)
  generalize hK : (fun (h_12 : AHeap) => _) = K
  have l0 : h.next < (newH h 35 (sendC a b c d s)).next := lt_newH _ _ _
  revert l0 a0 r1
  generalize newH h 35 (sendC a b c d s) = g
  intro r1 a0 l0
  obtain ⟨g1, b1, q1⟩ := round_w (a := a) (b := b) (c := c) (d := d) K (n + 4) 0 a 1048576 g (by omega) (by kernel_rfl)
  obtain ⟨g2, b2, q2⟩ := round_w (a := a) (b := b) (c := c) (d := d) K (n + 3) 1 b 1099511627776 g1 (by omega) (by kernel_rfl)
  obtain ⟨g3, b3, q3⟩ := round_w (a := a) (b := b) (c := c) (d := d) K (n + 2) 2 c 1048576 g2 (by omega) (by kernel_rfl)
  obtain ⟨g4, b4, q4⟩ := round_w (a := a) (b := b) (c := c) (d := d) K (n + 1) 3 d 1048576 g3 (by omega) (by kernel_rfl)
  rw [show (0 : Int) = ((0 : Nat) : Int) from rfl, q1, q2, q3, q4, end_w]
  unfold sendE
  cases badB a 1048576 with
  | true => exact gcR_scal (a0.trans b1) rfl
  | false =>
  cases badB b 1099511627776 with
  | true => exact gcR_scal ((a0.trans b1).trans b2) rfl
  | false =>
  cases badB c 1048576 with
  | true => exact gcR_scal (((a0.trans b1).trans b2).trans b3) rfl
  | false =>
  have a4 := (((a0.trans b1).trans b2).trans b3).trans b4
  cases badB d 1048576 with
  | true => exact gcR_scal a4 rfl
  | false =>
    have r4 : RowH g4 h.next 35 (sendC a b c d s) := r1.same (by
      rw [b4.get _ (Nat.lt_of_lt_of_le l0 (Nat.le_trans b1.next (Nat.le_trans b2.next b3.next))), b3.get _ (Nat.lt_of_lt_of_le l0 (Nat.le_trans b1.next b2.next)), b2.get _ (Nat.lt_of_lt_of_le l0 b1.next), b1.get _ l0])
    have c4 := r4.cell' (o := 4) (v := strA s) rfl
    have f4 : fldP 4 (newP h) = some (.ptr h.next 4) := rfl
    simp only [Bool.or_self, Bool.false_eq_true, if_false]
    rw [← hK]
    simp only [f4, obind_val, c4, avStr_str, lett_eq]
    by_cases h1 : lenS s > 64
    · rw [decide_eq_true h1, ifB_true, if_pos h1]
      exact gcR_scal a4 rfl
    · rw [decide_eq_false h1, ifB_false, if_neg h1]
      exact gcR_scal a4 rfl
theorem ref_w (n k : Nat) (a b c d : Int) (s : Bytes) (h : AHeap) : world n (k + 1) 17 [.agg (sendC a b c d s)] h = some (.ret (.int .i64 (sendE a b c d s)), h) := by
  rw [w_ref22_Check]
  unfold ref22_Check
  rw [box_agg (by rfl)]
  have r1 : RowH (newH h 35 (sendC a b c d s)) h.next 35 (sendC a b c d s) := RowH.new h 35 _
  have f0 : fldP 0 (newP h) = some (.ptr h.next 0) := rfl
  have f1 : fldP 1 (newP h) = some (.ptr h.next 1) := rfl
  have f3 : fldP 3 (newP h) = some (.ptr h.next 3) := rfl
  have f4 : fldP 4 (newP h) = some (.ptr h.next 4) := rfl
  have f10 : fldP 0 (.ptr h.next 1) = some (.ptr h.next 1) := rfl
  have f11 : fldP 1 (.ptr h.next 1) = some (.ptr h.next 2) := rfl
  have c0 := r1.cell' (o := 0) (v := .int .i64 a) rfl
  have c1 := r1.cell' (o := 1) (v := .int .i64 b) rfl
  have c2 := r1.cell' (o := 2) (v := .int .i64 c) rfl
  have c3 := r1.cell' (o := 3) (v := .int .i64 d) rfl
  have c4 := r1.cell' (o := 4) (v := strA s) rfl
  simp only [outK_val, lett_eq, obind_val, f0, f1, f3, f4, f10, f11, c0, c1, c2, c3, c4, avInt_int, avStr_str]
  unfold sendE badB
  have a0 := above_new h 35 (sendC a b c d s)
  cases decide (a < 1) with
  | true => exact gcR_scal a0 rfl
  | false =>
  cases decide (a > 1048576) with
  | true => exact gcR_scal a0 rfl
  | false =>
  cases decide (b < 1) with
  | true => exact gcR_scal a0 rfl
  | false =>
  cases decide (b > 1099511627776) with
  | true => exact gcR_scal a0 rfl
  | false =>
  cases decide (c < 1) with
  | true => exact gcR_scal a0 rfl
  | false =>
  cases decide (c > 1048576) with
  | true => exact gcR_scal a0 rfl
  | false =>
  cases decide (d < 1) with
  | true => exact gcR_scal a0 rfl
  | false =>
  cases decide (d > 1048576) with
  | true => exact gcR_scal a0 rfl
  | false =>
    simp only [ifB_false, Bool.or_self, Bool.false_eq_true, if_false]
    by_cases h1 : lenS s > 64
    · rw [decide_eq_true h1, ifB_true, if_pos h1]
      exact gcR_scal a0 rfl
    · rw [decide_eq_false h1, ifB_false, if_neg h1]
      exact gcR_scal a0 rfl
theorem works_w (n d : Nat) (h : AHeap) : world n (d + 1) 7 [] h = some (.ret (.bool true), h) := w_true n d [] h
theorem journalChecks_w (n k : Nat) (a b c d : Int) (s : Bytes) (h : AHeap) : world (n + 5) (k + 3) 4 [.agg (sendC a b c d s)] h = some (.ret (.bool true), h) := by
  rw [w_law22_JournalChecks]
  unfold law22_JournalChecks
  rw [box_agg (by rfl), outK_val, works_w]
  have e : ldRow (newH h 35 (sendC a b c d s)) 5 (newP h) = some (sendC a b c d s) := row_newP rfl
  have e2 : reLoad Try.prog (newH h 35 (sendC a b c d s)) 35 (newP h) (.agg (sendC a b c d s)) = true := reLoad_r (by kernel_rfl) (by kernel_rfl) e
  simp only [callN_ret, obind_val, avBool_bool, lett_eq, Bool.not_true, ifB_false, e, check_w, ref_w, avInt_int, e2, Bool.and_self, chk_true, beq_self_eq_true]
  exact gcR_scal (above_new _ _ _) rfl
set_option maxRecDepth 20000 in
/-- the law -/
theorem journalChecks_says (h : AHeap) (_ : h.ex = []) (xs : List AV) (hP : ArgsP Try.prog h.next h 12 [35] xs) : ∃ h', Says Try.prog 4 xs h (.ret (.bool true)) h' := by
  obtain ⟨_, _, rfl, hp, h0⟩ := args_cons hP
  obtain rfl := args0 h0
  obtain ⟨l, e, hq⟩ := ArgP.agg (by kernel_rfl) hp
  subst e
  obtain ⟨l0, l1, l2, l3, rfl, p0, p1, p2, p3⟩ := Plain.struct4 Try.underlying35 hq
  obtain ⟨a, rfl, _⟩ := p0.int Try.underlying3
  obtain ⟨l4, l5, rfl, p4, p5⟩ := p1.struct2 Try.underlying30
  obtain ⟨b, rfl, _⟩ := p4.int Try.underlying3
  obtain ⟨c, rfl, _⟩ := p5.int Try.underlying3
  obtain ⟨d, rfl, _⟩ := p2.int Try.underlying3
  obtain ⟨s, rfl, _⟩ := p3.str Try.underlying9
  exact ⟨h, world_ok 9 3 _ _ _ _ _ (journalChecks_w 4 0 a b c d s h)⟩
end Go.Proofs.Ytbhblbffdmiepaa
