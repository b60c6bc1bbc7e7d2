/- What two clocks tell of one another: Most, Least, and the reference's. -/
import Derived.Test.YtbcdmobgefdeaaaClockFns
namespace Go.Proofs.Ytbcdmobgefdeaaa
open Go.RowKit

/-- The ticks that may have gone by, at most. -/
def tm (n q : Int) : Int := (1000 * n + 1000 - 1) / (1000 - q)
def most (n q : Int) : Int := (tm n q * (1000 + q) + 1000 - 1) / 1000
/-- .. at least. -/
def tl (n q : Int) : Int := (1000 * n - 999 + (1000 + q) - 1) / (1000 + q)
def least (n q : Int) : Int := if n = 0 then 0 else tl n q * (1000 - q) / 1000

theorem tm_bounds (n q : Int) (n0 : 0 ≤ n) (n1 : n ≤ 1099511627776) (q0 : 0 ≤ q) (q1 : q ≤ 500) : 0 ≤ tm n q ∧ tm n q ≤ 2199023255554 ∧ 0 ≤ tm n q * (1000 + q) ∧ tm n q * (1000 + q) ≤ 3298534883331000 := by
  have h3 : 0 ≤ tm n q := Int.ediv_nonneg (by omega) (by omega)
  have h2 := Int.ediv_mul_le (1000 * n + 1000 - 1) (show (1000 - q) ≠ 0 by omega)
  change tm n q * (1000 - q) ≤ _ at h2
  generalize tm n q = t at *
  have h4 : t * 500 ≤ t * (1000 - q) := Int.mul_le_mul_of_nonneg_left (by omega) h3
  have h5 : t * (1000 + q) ≤ t * 1500 := Int.mul_le_mul_of_nonneg_left (by omega) h3
  exact ⟨h3, by omega, Int.mul_nonneg h3 (by omega), by omega⟩

theorem tl_bounds (n q : Int) (n0 : 1 ≤ n) (n1 : n ≤ 1099511627776) (q0 : 0 ≤ q) (q1 : q ≤ 500) : 0 ≤ tl n q ∧ tl n q ≤ 1099511627777 ∧ 0 ≤ tl n q * (1000 - q) ∧ tl n q * (1000 - q) ≤ 1099511627777000 := by
  have h3 : 0 ≤ tl n q := Int.ediv_nonneg (by omega) (by omega)
  have h2 := Int.ediv_mul_le (1000 * n - 999 + (1000 + q) - 1) (show (1000 + q) ≠ 0 by omega)
  change tl n q * (1000 + q) ≤ _ at h2
  generalize tl n q = t at *
  have h4 : t * 1000 ≤ t * (1000 + q) := Int.mul_le_mul_of_nonneg_left (by omega) h3
  have h5 : t * (1000 - q) ≤ t * 1000 := Int.mul_le_mul_of_nonneg_left (by omega) h3
  exact ⟨h3, by omega, Int.mul_nonneg h3 (by omega), by omega⟩

set_option maxHeartbeats 400000 in
theorem most_ok (n q : Int) (n0 : 0 ≤ n) (n1 : n ≤ 1099511627776) (q0 : 0 ≤ q) (q1 : q ≤ 500) (w : World) :
    Calls Try.prog 19 #[.int .i64 n, .int .i64 q] w fun e w' => e = .returned (.tuple #[.int .i64 (most n q), .int .i64 0]) ∧ w' = w := by
  obtain ⟨t0, t1, t2, t3⟩ := tm_bounds n q n0 n1 q0 q1
  unfold tm at t0 t1 t2 t3
  go_enter Try.func19, Try.ntmps19
  go_wp2_with fail
  refine (isTicks_yes n n0 n1 _).mono ?_
  rintro e w1 ⟨rfl, rfl⟩
  go_wp2_with fail
  refine (isRho_yes q q0 q1 _).mono ?_
  rintro e w1 ⟨rfl, rfl⟩
  go_wp2_with fail
  refine (up_any _ _ (by omega) (by omega) (by omega) (by omega) _).mono ?_
  rintro e w1 ⟨rfl, rfl⟩
  go_wp2_with fail
  go_ret2
  exact ⟨rfl, rfl⟩

set_option maxHeartbeats 400000 in
theorem most_no (n q : Int) (h : n < 0 ∨ 1099511627776 < n ∨ q < 0 ∨ 500 < q) (w : World) :
    Calls Try.prog 19 #[.int .i64 n, .int .i64 q] w fun e w' => e = .returned (.tuple #[.int .i64 0, .int .i64 5]) ∧ w' = w := by
  by_cases hn : 0 ≤ n ∧ n ≤ 1099511627776
  · obtain ⟨n0, n1⟩ := hn
    have hq : q < 0 ∨ 500 < q := by omega
    clear h
    go_enter Try.func19, Try.ntmps19
    go_wp2_with fail
    refine (isTicks_yes n n0 n1 _).mono ?_
    rintro e w1 ⟨rfl, rfl⟩
    go_wp2_with fail
    refine (isRho_no q hq _).mono ?_
    rintro e w1 ⟨rfl, rfl⟩
    go_wp2_with fail
    go_ret2
    exact ⟨rfl, rfl⟩
  · have hn' : n < 0 ∨ 1099511627776 < n := by omega
    clear h hn
    go_enter Try.func19, Try.ntmps19
    go_wp2_with fail
    refine (isTicks_no n hn' _).mono ?_
    rintro e w1 ⟨rfl, rfl⟩
    go_wp2_with fail
    go_ret2
    exact ⟨rfl, rfl⟩

set_option maxHeartbeats 400000 in
theorem least_pos (n q : Int) (n0 : 1 ≤ n) (n1 : n ≤ 1099511627776) (q0 : 0 ≤ q) (q1 : q ≤ 500) (w : World) :
    Calls Try.prog 20 #[.int .i64 n, .int .i64 q] w fun e w' => e = .returned (.tuple #[.int .i64 (least n q), .int .i64 0]) ∧ w' = w := by
  obtain ⟨t0, t1, t2, t3⟩ := tl_bounds n q n0 n1 q0 q1
  unfold tl at t0 t1 t2 t3
  have hl : least n q = (1000 * n - 999 + (1000 + q) - 1) / (1000 + q) * (1000 - q) / 1000 := by unfold least tl; rw [if_neg (by omega)]
  have HL := Lib.hid hl; clear hl
  have hz : (n == 0) = false := by rw [beq_eq_false_iff_ne]; omega
  go_enter Try.func20, Try.ntmps20
  go_wp2_with fail
  refine (isTicks_yes n (by omega) n1 _).mono ?_
  rintro e w1 ⟨rfl, rfl⟩
  go_wp2_with fail
  refine (isRho_yes q q0 q1 _).mono ?_
  rintro e w1 ⟨rfl, rfl⟩
  go_wp2_with fail
  refine (up_any _ _ (by omega) (by omega) (by omega) (by omega) _).mono ?_
  rintro e w1 ⟨rfl, rfl⟩
  go_wp2_with fail
  go_ret2
  exact ⟨by rw [HL.out]; rfl, rfl⟩

set_option maxHeartbeats 400000 in
theorem least_zero (q : Int) (q0 : 0 ≤ q) (q1 : q ≤ 500) (w : World) :
    Calls Try.prog 20 #[.int .i64 0, .int .i64 q] w fun e w' => e = .returned (.tuple #[.int .i64 0, .int .i64 0]) ∧ w' = w := by
  go_enter Try.func20, Try.ntmps20
  go_wp2_with fail
  refine (isTicks_yes 0 (by omega) (by omega) _).mono ?_
  rintro e w1 ⟨rfl, rfl⟩
  go_wp2_with fail
  refine (isRho_yes q q0 q1 _).mono ?_
  rintro e w1 ⟨rfl, rfl⟩
  go_wp2_with fail
  go_ret2
  exact ⟨rfl, rfl⟩

theorem least_ok (n q : Int) (n0 : 0 ≤ n) (n1 : n ≤ 1099511627776) (q0 : 0 ≤ q) (q1 : q ≤ 500) (w : World) :
    Calls Try.prog 20 #[.int .i64 n, .int .i64 q] w fun e w' => e = .returned (.tuple #[.int .i64 (least n q), .int .i64 0]) ∧ w' = w := by
  by_cases h : n = 0
  · subst h; exact least_zero q q0 q1 w
  · exact least_pos n q (by omega) n1 q0 q1 w


set_option maxHeartbeats 400000 in
theorem least_no (n q : Int) (h : n < 0 ∨ 1099511627776 < n ∨ q < 0 ∨ 500 < q) (w : World) :
    Calls Try.prog 20 #[.int .i64 n, .int .i64 q] w fun e w' => e = .returned (.tuple #[.int .i64 0, .int .i64 5]) ∧ w' = w := by
  by_cases hn : 0 ≤ n ∧ n ≤ 1099511627776
  · obtain ⟨n0, n1⟩ := hn
    have hq : q < 0 ∨ 500 < q := by omega
    clear h
    go_enter Try.func20, Try.ntmps20
    go_wp2_with fail
    refine (isTicks_yes n n0 n1 _).mono ?_
    rintro e w1 ⟨rfl, rfl⟩
    go_wp2_with fail
    refine (isRho_no q hq _).mono ?_
    rintro e w1 ⟨rfl, rfl⟩
    go_wp2_with fail
    go_ret2
    exact ⟨rfl, rfl⟩
  · have hn' : n < 0 ∨ 1099511627776 < n := by omega
    clear h hn
    go_enter Try.func20, Try.ntmps20
    go_wp2_with fail
    refine (isTicks_no n hn' _).mono ?_
    rintro e w1 ⟨rfl, rfl⟩
    go_wp2_with fail
    go_ret2
    exact ⟨rfl, rfl⟩

/-! The reference's. -/
def upR (a b : Int) : Int := if 0 < a % b then a / b + 1 else a / b
def mostR (n q : Int) : Int := upR ((1000 * n + 999) / (1000 - q) * (1000 + q)) 1000
def leastR (n q : Int) : Int := if n = 0 then 0 else upR (1000 * n - 999) (1000 + q) * (1000 - q) / 1000

theorem upR_eq (a b : Int) (hb : 0 < b) : upR a b = (a + b - 1) / b := by
  have h1 := Int.emod_add_mul_ediv a b
  have h2 := Int.emod_nonneg a (show b ≠ 0 by omega)
  have h3 := Int.emod_lt_of_pos a hb
  unfold upR
  generalize a / b = q at *
  generalize a % b = r at *
  subst h1
  split
  · rename_i h
    have e : r + b * q + b - 1 = (r - 1) + b * (q + 1) := by rw [Int.mul_add, Int.mul_one]; omega
    rw [e, Int.add_mul_ediv_left _ _ (by omega), Int.ediv_eq_zero_of_lt (by omega) (by omega)]
    omega
  · have e : r + b * q + b - 1 = (b - 1) + b * q := by omega
    rw [e, Int.add_mul_ediv_left _ _ (by omega), Int.ediv_eq_zero_of_lt (by omega) (by omega)]
    omega

theorem mostR_eq (n q : Int) : mostR n q = most n q := by
  unfold mostR most tm
  rw [upR_eq _ _ (by omega), show 1000 * n + 1000 - 1 = 1000 * n + 999 from by omega]

theorem leastR_eq (n q : Int) (q0 : 0 ≤ q) : leastR n q = least n q := by
  unfold leastR least tl
  rw [upR_eq _ _ (by omega)]

set_option maxHeartbeats 400000 in
theorem upR_any (a b : Int) (a0 : 0 ≤ a) (a1 : a ≤ 4611686018427387904) (hb : 1 ≤ b) (hb1 : b ≤ 1000000) (w : World) : Calls Try.prog 29 #[.int .i64 a, .int .i64 b] w fun e w' => e = .returned (.int .i64 (upR a b)) ∧ w' = w := by
  have m1 := Int.emod_nonneg a (show b ≠ 0 by omega)
  have m2 := Int.ediv_nonneg a0 (show 0 ≤ b by omega)
  have m3 : a / b ≤ a := Int.ediv_le_self _ a0
  by_cases h : 0 < a % b
  · have hu : upR a b = a / b + 1 := by unfold upR; rw [if_pos h]
    have HU := Lib.hid hu; clear hu
    go_enter Try.func29, Try.ntmps29
    go_wp2_with fail
    go_ret
    exact ⟨by rw [HU.out]; rfl, rfl⟩
  · have hu : upR a b = a / b := by unfold upR; rw [if_neg h]
    have HU := Lib.hid hu; clear hu
    have hd : decide (0 < a % b) = false := decide_eq_false h
    go_enter Try.func29, Try.ntmps29
    go_wp2_with fail
    go_ret
    exact ⟨by rw [HU.out]; rfl, rfl⟩

set_option maxHeartbeats 400000 in
theorem mostR_any (n q : Int) (n0 : 0 ≤ n) (n1 : n ≤ 1099511627776) (q0 : 0 ≤ q) (q1 : q ≤ 500) (w : World) :
    Calls Try.prog 22 #[.int .i64 n, .int .i64 q] w fun e w' => e = .returned (.int .i64 (most n q)) ∧ w' = w := by
  obtain ⟨t0, t1, t2, t3⟩ := tm_bounds n q n0 n1 q0 q1
  unfold tm at t0 t1 t2 t3
  rw [show 1000 * n + 1000 - 1 = 1000 * n + 999 from by omega] at t0 t1 t2 t3
  have hm := mostR_eq n q
  have HM := Lib.hid hm; clear hm
  go_enter Try.func22, Try.ntmps22
  go_wp2_with fail
  refine (upR_any _ _ (by omega) (by omega) (by omega) (by omega) _).mono ?_
  rintro e w1 ⟨rfl, rfl⟩
  go_wp2_with fail
  go_ret
  exact ⟨by rw [← HM.out]; rfl, rfl⟩

set_option maxHeartbeats 400000 in
theorem leastR_any (n q : Int) (n0 : 0 ≤ n) (n1 : n ≤ 1099511627776) (q0 : 0 ≤ q) (q1 : q ≤ 500) (w : World) :
    Calls Try.prog 23 #[.int .i64 n, .int .i64 q] w fun e w' => e = .returned (.int .i64 (least n q)) ∧ w' = w := by
  by_cases hz : n = 0
  · subst hz
    go_enter Try.func23, Try.ntmps23
    go_wp2_with fail
    go_ret
    exact ⟨rfl, rfl⟩
  · obtain ⟨t0, t1, t2, t3⟩ := tl_bounds n q (by omega) n1 q0 q1
    have n2 : 1 ≤ n := by omega
    have hl := leastR_eq n q q0
    have hu : upR (1000 * n - 999) (1000 + q) = tl n q := by rw [upR_eq _ _ (by omega)]; rfl
    have hl2 : leastR n q = upR (1000 * n - 999) (1000 + q) * (1000 - q) / 1000 := by unfold leastR; rw [if_neg hz]
    rw [← hu] at t0 t1 t2 t3
    have HL := Lib.hid hl; clear hl
    have HL2 := Lib.hid hl2; clear hl2
    have hb : (n == 0) = false := by rw [beq_eq_false_iff_ne]; omega
    clear hu hz
    go_enter Try.func23, Try.ntmps23
    go_wp2_with fail
    refine (upR_any _ _ (by omega) (by omega) (by omega) (by omega) _).mono ?_
    rintro e w1 ⟨rfl, rfl⟩
    go_wp2_with fail
    go_ret
    exact ⟨by rw [← HL.out, HL2.out]; rfl, rfl⟩

theorem asked_yes (n q : Int) (n0 : 0 ≤ n) (n1 : n ≤ 1099511627776) (q0 : 0 ≤ q) (q1 : q ≤ 500) (w : World) :
    Calls Try.prog 21 #[.int .i64 n, .int .i64 q] w fun e w' => e = .returned (.bool true) ∧ w' = w := by
  go_enter Try.func21, Try.ntmps21
  go_wp2_with fail
  go_ret
  exact ⟨rfl, rfl⟩

theorem asked_no (n q : Int) (h : n < 0 ∨ 1099511627776 < n ∨ q < 0 ∨ 500 < q) (w : World) :
    Calls Try.prog 21 #[.int .i64 n, .int .i64 q] w fun e w' => e = .returned (.bool false) ∧ w' = w := by
  have hd : (decide (0 ≤ n) && decide (n ≤ 1099511627776) && decide (0 ≤ q) && decide (q ≤ 500)) = false := by
    simp only [Bool.and_eq_false_iff, decide_eq_false_iff_not]; omega
  clear h
  have HD := Lib.hid hd; clear hd
  by_cases h1 : 0 ≤ n
  · by_cases h2 : n ≤ 1099511627776
    · by_cases h3 : 0 ≤ q
      · have h4 : decide (q ≤ 500) = false := by have := HD.out; simpa [h1, h2, h3] using this
        go_enter Try.func21, Try.ntmps21
        go_wp2_with fail
        go_ret
        exact ⟨rfl, rfl⟩
      · have h4 : decide (0 ≤ q) = false := decide_eq_false h3
        go_enter Try.func21, Try.ntmps21
        go_wp2_with fail
        go_ret
        exact ⟨rfl, rfl⟩
    · have h4 : decide (n ≤ 1099511627776) = false := decide_eq_false h2
      go_enter Try.func21, Try.ntmps21
      go_wp2_with fail
      go_ret
      exact ⟨rfl, rfl⟩
  · have h4 : decide (0 ≤ n) = false := decide_eq_false h1
    go_enter Try.func21, Try.ntmps21
    go_wp2_with fail
    go_ret
    exact ⟨rfl, rfl⟩

end Go.Proofs.Ytbcdmobgefdeaaa
