/- The span of any drift. -/
import Derived.Test.YtjhnmfhpjlolhaaWo
import Derived.Test.YtjhnmfhpjlolhaaAbs33
namespace Go.Proofs.Ytjhnmfhpjlolhaa
open Go.RowKit Abs

/-- how many whole ticks: of 19 slow ones, in fast ones -/
def spn (r : Int) : Int := 19 * (1000 - r) / (1000 + r)
def spanI (r : Int) : Int := if 0 > spn r - 1 then 0 else spn r - 1
theorem spn_le {r : Int} (h0 : 0 ≤ r) (h1 : r ≤ 500) : 6 ≤ spn r ∧ spn r ≤ 19 := by
  unfold spn
  constructor
  · exact (Int.le_ediv_iff_mul_le (by omega)).2 (by omega)
  · have : 19 * (1000 - r) / (1000 + r) < 20 := (Int.ediv_lt_iff_lt_mul (by omega)).2 (by omega)
    omega
theorem span_w (n d : Nat) (r : Int) (h : AHeap) : world n (d + 1) 9 [.int .i64 r] h = some (.ret (.tup (if 0 ≤ r ∧ r ≤ 500 then [.int .i64 (spanI r), .int .i64 0] else [.int .i64 0, .int .i64 2])), h) := by
  rw [w_lease_Span]
  unfold lease_Span
  simp only [lett_eq]
  by_cases h0 : r < 0
  · rw [lt_true h0, ifB_true, ifB_true, if_neg (by omega)]
    exact gcR_self
  · rw [lt_false (by omega), ifB_false]
    by_cases h1 : r > 500
    · rw [decide_eq_true h1, ifB_true, if_neg (by omega)]
      exact gcR_self
    · rw [decide_eq_false h1, ifB_false, if_pos ⟨by omega, by omega⟩]
      have hs := spn_le (r := r) (by omega) (by omega)
      have e1 : IntKind.i64.wrap (1000 - r) = 1000 - r := wrap_i64 (by omega) (by omega)
      have e2 : IntKind.i64.wrap (19 * (1000 - r)) = 19 * (1000 - r) := wrap_i64 (by omega) (by omega)
      have e3 : IntKind.i64.wrap (1000 + r) = 1000 + r := wrap_i64 (by omega) (by omega)
      have e4 : quoI .i64 (19 * (1000 - r)) (1000 + r) = some (spn r) := by
        unfold quoI
        rw [if_neg (by omega), Int.tdiv_eq_ediv_of_nonneg (by omega)]
        show some (IntKind.i64.wrap (spn r)) = _
        rw [wrap_i64 (by omega) (by omega)]
      have e5 : IntKind.i64.wrap (spn r - 1) = spn r - 1 := wrap_i64 (by omega) (by omega)
      simp only [e1, e2, e3, e4, e5, obind_val]
      exact gcR_self

theorem ref_loop {r : Int} (h0 : 0 ≤ r) (h1 : r ≤ 500) (k : Int → AHeap → R) : ∀ (m : Nat) (i : Int) (h : AHeap), 0 ≤ i → i ≤ spn r → spn r - i < m → ref20_Span_L0 r k m i h = k (spn r) h := by
  intro m
  induction m with
  | zero => intro i h _ _ h4; omega
  | succ m ih =>
    intro i h hi h2 h4
    have hs := spn_le h0 h1
    rw [ref20_Span_L0_s]
    unfold ref20_Span_L0b
    have e1 : IntKind.i64.wrap (i + 1) = i + 1 := wrap_i64 (by omega) (by omega)
    have e2 : IntKind.i64.wrap (1000 + r) = 1000 + r := wrap_i64 (by omega) (by omega)
    have hb : 0 ≤ (i + 1) * (1000 + r) ∧ (i + 1) * (1000 + r) ≤ 20 * 1500 := by
      constructor
      · exact Int.mul_nonneg (by omega) (by omega)
      · exact Int.mul_le_mul (by omega) (by omega) (by omega) (by omega)
    have e3 : IntKind.i64.wrap ((i + 1) * (1000 + r)) = (i + 1) * (1000 + r) := wrap_i64 (by omega) (by omega)
    have e4 : IntKind.i64.wrap (1000 - r) = 1000 - r := wrap_i64 (by omega) (by omega)
    have e5 : IntKind.i64.wrap (19 * (1000 - r)) = 19 * (1000 - r) := wrap_i64 (by omega) (by omega)
    simp only [lett_eq, e1, e2, e3, e4, e5]
    have key : (i + 1 ≤ spn r) ↔ (i + 1) * (1000 + r) ≤ 19 * (1000 - r) := Int.le_ediv_iff_mul_le (by omega)
    by_cases hlt : i + 1 ≤ spn r
    · rw [decide_eq_true (key.1 hlt), ifB_true]
      exact ih (i + 1) h (by omega) hlt (by omega)
    · rw [decide_eq_false (fun hx => hlt (key.2 hx)), ifB_false, show i = spn r by omega]
theorem refSpan_w (n d : Nat) (hn : 25 ≤ n) {r : Int} (h0 : 0 ≤ r) (h1 : r ≤ 500) (h : AHeap) : world n (d + 1) 13 [.int .i64 r] h = some (.ret (.int .i64 (spanI r)), h) := by
  rw [w_ref20_Span]
  unfold ref20_Span
  have hs := spn_le h0 h1
  rw [lett_eq, ref_loop h0 h1 _ n 0 h (by omega) (by omega) (by omega)]
  simp only [lett_eq]
  have e0 : (spn r == 0) = false := beq_eq_false_iff_ne.2 (by omega)
  have e5 : IntKind.i64.wrap (spn r - 1) = spn r - 1 := wrap_i64 (by omega) (by omega)
  have e6 : spanI r = spn r - 1 := by unfold spanI; rw [if_neg (by omega)]
  rw [e0, ifB_false, e5, e6]
  exact gcR_self
theorem works_w (n d : Nat) (h : AHeap) : world n (d + 1) 8 [] h = some (.ret (.bool true), h) := by kernel_rfl

/-- the law of spans -/
theorem leaseSpans_says (h : AHeap) (_ : h.ex = []) (xs : List AV) (hP : ArgsP Try.prog h.next h 12 [3] xs) : ∃ h', Says Try.prog 4 xs h (.ret (.bool true)) h' := by
  obtain ⟨_, _, rfl, hp, h0⟩ := args_cons hP
  obtain rfl := args0 h0
  obtain ⟨r, rfl, _⟩ := hp.int Try.underlying3
  have key : ∃ h', world 30 3 4 [.int .i64 r] h = some (.ret (.bool true), h') := by
    rw [w_law20_LeaseSpans]
    unfold law20_LeaseSpans
    rw [works_w]
    simp only [callN_ret, obind_val, avBool_bool, lett_eq, Bool.not_true, ifB_false, span_w]
    by_cases h0 : r < 0
    · rw [if_neg (by omega)]
      simp only [extT_0, extT_1, obind_val, avInt_int]
      rw [lt_true h0, ifB_true, ifB_true]
      exact ⟨_, gcR_self⟩
    · by_cases h1 : r > 500
      · rw [if_neg (by omega)]
        simp only [extT_0, extT_1, obind_val, avInt_int]
        rw [lt_false (by omega), ifB_false, decide_eq_true h1, ifB_true]
        exact ⟨_, gcR_self⟩
      · rw [if_pos ⟨by omega, by omega⟩]
        simp only [extT_0, extT_1, obind_val, avInt_int]
        rw [lt_false (by omega), ifB_false, decide_eq_false h1, ifB_false, refSpan_w 30 1 (by omega) (by omega) (by omega)]
        simp only [callN_ret, obind_val, avInt_int, beq_self_eq_true, ifB_true]
        exact ⟨_, gcR_self⟩
  obtain ⟨h', hk⟩ := key
  exact ⟨h', world_ok _ _ _ _ _ _ _ hk⟩
end Go.Proofs.Ytjhnmfhpjlolhaa
