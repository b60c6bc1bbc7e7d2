/- Which ballots there are. -/
import Derived.Test.YteecmjmglmpbpaaWo
import Derived.Test.YteecmjmglmpbpaaAbs33
namespace Go.Proofs.Yteecmjmglmpbpaa
open Go.RowKit Abs

/-- is it a ballot? -/
def ballotB (a b : Int) : Bool := decide (0 ≤ a) && decide (a ≤ 1099511627776) && decide (-1 ≤ b) && decide (b ≤ 2)
theorem check_w (n d : Nat) (a b : Int) (h : AHeap) : world n (d + 1) 17 [.agg [.int .i64 a, .int .i64 b]] h = some (.ret (.int .i64 (if ballotB a b then 0 else 2)), h) := by
  rw [w_vote_Check]
  unfold vote_Check
  rw [box_agg (by rfl)]
  have e0 : ldCell (newH h 31 [.int .i64 a, .int .i64 b]) (.ptr h.next 0) = some (.int .i64 a) := cell_newH h 31 _ 0
  have e1 : ldCell (newH h 31 [.int .i64 a, .int .i64 b]) (.ptr h.next 1) = some (.int .i64 b) := cell_newH h 31 _ 1
  have f0 : fldP 0 (newP h) = some (.ptr h.next 0) := rfl
  have f1 : fldP 1 (newP h) = some (.ptr h.next 1) := rfl
  simp only [outK_val, obind_val, f0, f1, e0, e1, avInt_int, lett_eq]
  unfold ballotB
  by_cases h1 : a < 0
  · rw [decide_eq_true h1, ifB_true, ifB_true, ifB_true, ifB_true, decide_eq_false (show ¬ 0 ≤ a by omega)]
    exact gcR_scal (above_new _ _ _) rfl
  rw [decide_eq_false h1, ifB_false, decide_eq_true (show 0 ≤ a by omega)]
  by_cases h2 : a > 1099511627776
  · rw [decide_eq_true h2, ifB_true, ifB_true, ifB_true, decide_eq_false (show ¬ a ≤ 1099511627776 by omega)]
    exact gcR_scal (above_new _ _ _) rfl
  rw [decide_eq_false h2, ifB_false, decide_eq_true (show a ≤ 1099511627776 by omega)]
  by_cases h3 : b < -1
  · rw [decide_eq_true h3, ifB_true, ifB_true, decide_eq_false (show ¬ -1 ≤ b by omega)]
    exact gcR_scal (above_new _ _ _) rfl
  rw [decide_eq_false h3, ifB_false, decide_eq_true (show -1 ≤ b by omega)]
  by_cases h4 : b ≥ 3
  · rw [decide_eq_true h4, ifB_true, decide_eq_false (show ¬ b ≤ 2 by omega)]
    exact gcR_scal (above_new _ _ _) rfl
  rw [decide_eq_false h4, ifB_false, decide_eq_true (show b ≤ 2 by omega)]
  exact gcR_scal (above_new _ _ _) rfl
theorem may_w (n d : Nat) (a b : Int) (h : AHeap) : world n (d + 1) 18 [.agg [.int .i64 a, .int .i64 b]] h = some (.ret (.bool (ballotB a b)), h) := by
  rw [w_ref08_May]
  unfold ref08_May
  rw [box_agg (by rfl)]
  have e0 : ldCell (newH h 39 [.int .i64 a, .int .i64 b]) (.ptr h.next 0) = some (.int .i64 a) := cell_newH h 39 _ 0
  have e1 : ldCell (newH h 39 [.int .i64 a, .int .i64 b]) (.ptr h.next 1) = some (.int .i64 b) := cell_newH h 39 _ 1
  have f0 : fldP 0 (newP h) = some (.ptr h.next 0) := rfl
  have f1 : fldP 1 (newP h) = some (.ptr h.next 1) := rfl
  simp only [outK_val, obind_val, f0, f1, e0, e1, avInt_int, lett_eq]
  unfold ballotB
  by_cases h1 : a ≥ 0
  · rw [decide_eq_true h1, ifB_true]
    by_cases h2 : a ≤ 1099511627776
    · rw [decide_eq_true h2, ifB_true]
      by_cases h3 : b ≥ -1
      · rw [decide_eq_true h3, ifB_true]
        exact gcR_scal (above_new _ _ _) rfl
      · rw [decide_eq_false h3, ifB_false]
        exact gcR_scal (above_new _ _ _) rfl
    · rw [decide_eq_false h2, ifB_false, ifB_false]
      exact gcR_scal (above_new _ _ _) rfl
  · rw [decide_eq_false h1, ifB_false, ifB_false, ifB_false]
    exact gcR_scal (above_new _ _ _) rfl
theorem works_w (n d : Nat) (h : AHeap) : world n (d + 1) 8 [] h = some (.ret (.bool true), h) := w_true n d [] h
theorem voteChecks_w (n d : Nat) (a b : Int) (h : AHeap) : world n (d + 2) 4 [.int .i64 a, .int .i64 b] h = some (.ret (.bool true), h) := by
  rw [w_law08_VoteChecks]
  unfold law08_VoteChecks
  rw [works_w]
  simp only [callN_ret, obind_val, avBool_bool, lett_eq, Bool.not_true, ifB_false, check_w, may_w, avInt_int]
  cases ballotB a b
  · rw [ifB_false]
    exact gcR_self
  · rw [ifB_true]
    exact gcR_self
set_option maxRecDepth 20000 in
/-- the law -/
theorem voteChecks_says (h : AHeap) (_ : h.ex = []) (xs : List AV) (hP : ArgsP Try.prog h.next h 12 [3, 3] xs) : ∃ h', Says Try.prog 4 xs h (.ret (.bool true)) h' := by
  obtain ⟨_, _, rfl, hp, hP⟩ := args_cons hP
  obtain ⟨_, _, rfl, hq, h0⟩ := args_cons hP
  obtain rfl := args0 h0
  obtain ⟨a, rfl, _⟩ := hp.int Try.underlying3
  obtain ⟨b, rfl, _⟩ := hq.int Try.underlying3
  exact ⟨h, world_ok 9 2 _ _ _ _ _ (voteChecks_w 9 0 a b h)⟩
end Go.Proofs.Yteecmjmglmpbpaa
