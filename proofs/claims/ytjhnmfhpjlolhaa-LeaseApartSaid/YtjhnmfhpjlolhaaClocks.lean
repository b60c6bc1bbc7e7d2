/- Two clocks: what ticks and rates come to. -/
import Derived.Test.YtjhnmfhpjlolhaaWq
namespace Go.Proofs.Ytjhnmfhpjlolhaa
open Go.RowKit Abs

def clockC (r g : Int) : List AV := [.int .i64 r, .int .i64 g]
theorem nil43 (h : AHeap) (b o : Nat) : opBin Try.prog h .eql 43 true (some (.ptr b o)) (some .nilp) = some (.val (.bool false), h) := by kernel_rfl
theorem nilC_p (b o : Nat) : nilC (.ptr b o) = some (.ptr b o) := rfl
theorem fldP_p (f b o : Nat) : fldP f (.ptr b o) = some (.ptr b (o + f)) := rfl
/-- a rate within a drift -/
def withinI (n rho : Int) : Int := 1000 - rho + (andI .i64 n 65535).tmod (2 * rho + 1)
theorem and_bounds (n : Int) : 0 ≤ andI .i64 n 65535 ∧ andI .i64 n 65535 ≤ 65535 := by
  unfold andI
  have h1 : (BitVec.ofInt IntKind.i64.bits n &&& BitVec.ofInt IntKind.i64.bits 65535).toNat ≤ 65535 := by
    rw [BitVec.toNat_and]
    have : (BitVec.ofInt IntKind.i64.bits 65535).toNat = 65535 := by decide
    rw [this]
    exact Nat.and_le_right
  rw [wrap_i64 (by omega) (by omega)]
  omega
theorem within_bounds {n rho : Int} (h0 : 0 ≤ rho) (_ : rho ≤ 500) : 1000 - rho ≤ withinI n rho ∧ withinI n rho ≤ 1000 + rho := by
  unfold withinI
  have h1 := and_bounds n
  rw [Int.tmod_eq_emod_of_nonneg h1.1]
  have h2 := Int.emod_nonneg (andI .i64 n 65535) (show 2 * rho + 1 ≠ 0 by omega)
  have h3 := Int.emod_lt_of_pos (andI .i64 n 65535) (show 0 < 2 * rho + 1 by omega)
  omega
section
variable {n d : Nat}
theorem within_w {z rho : Int} (h0 : 0 ≤ rho) (h1 : rho ≤ 500) (h : AHeap) : worldq n (d + 1) 16 [.int .i64 z, .int .i64 rho] h = some (.ret (.int .i64 (withinI z rho)), h) := by
  rw [wq_law20_within]
  unfold law20_within
  have hb := within_bounds (n := z) h0 h1
  have e1 : IntKind.i64.wrap (1000 - rho) = 1000 - rho := wrap_i64 (by omega) (by omega)
  have e2 : IntKind.i64.wrap (2 * rho) = 2 * rho := wrap_i64 (by omega) (by omega)
  have e3 : IntKind.i64.wrap (2 * rho + 1) = 2 * rho + 1 := wrap_i64 (by omega) (by omega)
  have e4 : remI .i64 (andI .i64 z 65535) (2 * rho + 1) = some ((andI .i64 z 65535).tmod (2 * rho + 1)) := by
    unfold remI
    rw [if_neg (by omega)]
  simp only [lett_eq, e1, e2, e3, e4, obind_val]
  have e5 : IntKind.i64.wrap (1000 - rho + (andI .i64 z 65535).tmod (2 * rho + 1)) = withinI z rho := wrap_i64 (by unfold withinI at hb; omega) (by unfold withinI at hb; omega)
  rw [e5]
  exact gcR_self
theorem isRate_w {r : Int} (h0 : 500 ≤ r) (h1 : r ≤ 1500) (h : AHeap) : worldq n (d + 1) 22 [.int .i64 r] h = some (.ret (.bool true), h) := by
  rw [wq_clock_isRate]
  unfold clock_isRate
  simp only [lett_eq]
  rw [decide_eq_true (show r ≥ 500 by omega), ifB_true, decide_eq_true (show r ≤ 2000 by omega)]
  exact gcR_self
theorem isTicks_w {r : Int} (h0 : 0 ≤ r) (h1 : r ≤ 5000) (h : AHeap) : worldq n (d + 1) 23 [.int .i64 r] h = some (.ret (.bool true), h) := by
  rw [wq_clock_isTicks]
  unfold clock_isTicks
  simp only [lett_eq]
  rw [decide_eq_true (show r ≥ 0 by omega), ifB_true, decide_eq_true (show r ≤ 1099511627776 by omega)]
  exact gcR_self
theorem clockNew_w {r : Int} (h0 : 500 ≤ r) (h1 : r ≤ 1500) (h : AHeap) : worldq n (d + 2) 15 [.int .i64 r] h = some (.ret (.tup [.ptr h.next 0, .int .i64 0]), newH h 59 (clockC r 0)) := by
  rw [wq_clock_New]
  unfold clock_New
  rw [isRate_w h0 h1, callN_ret]
  simp only [avBool_bool, obind_val, lett_eq, Bool.not_true, ifB_false]
  rw [box_agg rfl, outK_val]
  exact gcR_some (by
    show (Nat.blt h.next h.next && _) = false
    rw [blt_self]; rfl)
theorem rate_w {b : Nat} {r g z : Int} {h : AHeap} (k : RowH h b 59 (clockC r g)) (h0 : 500 ≤ z) (h1 : z ≤ 1500) :
    ∃ h', worldq n (d + 2) 19 [.ptr b 0, .int .i64 z] h = some (.ret (.int .i64 0), h') ∧ RowH h' b 59 (clockC z g) ∧ Tch [b] h h' := by
  obtain ⟨h', a1, a2, a3, a4, a5⟩ := k.st1 (o := 0) (v := .int .i64 z) (Nat.zero_lt_succ 1) rfl
  refine ⟨h', ?_, a2, tch_of a3 a4 a5 (by simp)⟩
  rw [wq_clock_Clock_Rate]
  unfold clock_Clock_Rate
  rw [nil43, outK_val, avBool_bool, obind_val, ifB_false, isRate_w h0 h1, callN_ret]
  simp only [avBool_bool, obind_val, lett_eq, Bool.not_true, ifB_false, nilC_p, fldP_p, Nat.add_zero, a1]
theorem now_w {b : Nat} {r g : Int} {h : AHeap} (k : RowH h b 59 (clockC r g)) (h0 : 0 ≤ g) (h1 : g ≤ 1000000000) :
    worldq n (d + 1) 18 [.ptr b 0] h = some (.ret (.int .i64 (g / 1000)), h) := by
  rw [wq_clock_Clock_Now]
  unfold clock_Clock_Now
  have c1 := k.cell' (o := 1) (v := .int .i64 g) rfl
  have e1 : quoI .i64 g 1000 = some (g / 1000) := by
    unfold quoI
    rw [if_neg (by omega), Int.tdiv_eq_ediv_of_nonneg h0, wrap_i64 (by omega) (by omega)]
  rw [nil43, outK_val]
  simp only [avBool_bool, obind_val, ifB_false, nilC_p, fldP_p, Nat.zero_add, c1, avInt_int, e1]
theorem tick_w {b : Nat} {r g z : Int} {h : AHeap} (k : RowH h b 59 (clockC r g)) (hr : 500 ≤ r ∧ r ≤ 1500) (hz : 0 ≤ z ∧ z ≤ 5000) (hg : 0 ≤ g ∧ g ≤ 1000000000) :
    ∃ h', worldq n (d + 2) 17 [.ptr b 0, .int .i64 z] h = some (.ret (.int .i64 0), h') ∧ RowH h' b 59 (clockC r (g + z * r)) ∧ Tch [b] h h' := by
  have hzr : 0 ≤ z * r ∧ z * r ≤ 5000 * 1500 := ⟨Int.mul_nonneg (by omega) (by omega), Int.mul_le_mul (by omega) (by omega) (by omega) (by omega)⟩
  obtain ⟨h', a1, a2, a3, a4, a5⟩ := k.st1 (o := 1) (v := .int .i64 (g + z * r)) (Nat.lt_succ_self 1) rfl
  refine ⟨h', ?_, a2, tch_of a3 a4 a5 (by simp)⟩
  rw [wq_clock_Clock_Tick]
  unfold clock_Clock_Tick
  have c0 := k.cell' (o := 0) (v := .int .i64 r) rfl
  have c1 := k.cell' (o := 1) (v := .int .i64 g) rfl
  have e1 : IntKind.i64.wrap (z * r) = z * r := wrap_i64 (by omega) (by omega)
  have e2 : IntKind.i64.wrap (g + z * r) = g + z * r := wrap_i64 (by omega) (by omega)
  have e3 : quoI .i64 (g + z * r) 1000 = some ((g + z * r) / 1000) := by
    unfold quoI
    rw [if_neg (by omega), Int.tdiv_eq_ediv_of_nonneg (by omega), wrap_i64 (by omega) (by omega)]
  rw [nil43, outK_val, avBool_bool, obind_val, ifB_false]
  simp only [lett_eq]
  rw [isTicks_w hz.1 hz.2, callN_ret]
  simp only [avBool_bool, obind_val, Bool.not_true, ifB_false, nilC_p, fldP_p, Nat.add_zero, Nat.zero_add, c0, c1, avInt_int, e1, e2, e3]
  rw [decide_eq_false (show ¬ (g + z * r) / 1000 > 1125899906842624 by omega), ifB_false, a1]
  rfl
end
end Go.Proofs.Ytjhnmfhpjlolhaa
