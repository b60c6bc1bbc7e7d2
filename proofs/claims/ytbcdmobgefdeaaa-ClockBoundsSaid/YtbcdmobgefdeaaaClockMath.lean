/- Monotony of Most and Least, and what two clocks tell of one another: plain mathematics. -/
import Derived.Test.YtbcdmobgefdeaaaClockAsk
namespace Go.Proofs.Ytbcdmobgefdeaaa

theorem div_anti {x a b : Int} (hx : 0 ≤ x) (ha : 0 < a) (hab : a ≤ b) : x / b ≤ x / a := by
  apply Int.le_ediv_of_mul_le ha
  have h1 := Int.ediv_mul_le x (show b ≠ 0 by omega)
  have h2 : 0 ≤ x / b := Int.ediv_nonneg hx (by omega)
  have h3 := Int.mul_le_mul_of_nonneg_left hab h2
  omega

theorem most_mono_n (n q : Int) (q0 : 0 ≤ q) (q1 : q ≤ 500) : most (n - 1) q ≤ most n q := by
  unfold most tm
  have h1 : (1000 * (n - 1) + 1000 - 1) / (1000 - q) ≤ (1000 * n + 1000 - 1) / (1000 - q) := Int.ediv_le_ediv (by omega) (by omega)
  have h2 := Int.mul_le_mul_of_nonneg_right h1 (show 0 ≤ 1000 + q by omega)
  omega

theorem most_mono_q (n q : Int) (n0 : 0 ≤ n) (q0 : 1 ≤ q) (q1 : q ≤ 500) : most n (q - 1) ≤ most n q := by
  unfold most tm
  have h1 : (1000 * n + 1000 - 1) / (1000 - (q - 1)) ≤ (1000 * n + 1000 - 1) / (1000 - q) := div_anti (by omega) (by omega) (by omega)
  have h0 : 0 ≤ (1000 * n + 1000 - 1) / (1000 - q) := Int.ediv_nonneg (by omega) (by omega)
  have h2 := Int.mul_le_mul_of_nonneg_right h1 (show 0 ≤ 1000 + (q - 1) by omega)
  have h3 := Int.mul_le_mul_of_nonneg_left (show 1000 + (q - 1) ≤ 1000 + q by omega) h0
  omega

theorem ceil_le {x b c : Int} (hb : 0 < b) (h : x ≤ c * b) : (x + b - 1) / b ≤ c := by
  have h1 : (x + b - 1) / b < c + 1 := Int.ediv_lt_of_lt_mul hb (by rw [Int.add_mul]; omega)
  omega
theorem le_ceil {x b : Int} (hb : 0 < b) : x ≤ (x + b - 1) / b * b := by
  have h1 := Int.emod_add_mul_ediv (x + b - 1) b
  have h3 := Int.emod_lt_of_pos (x + b - 1) hb
  rw [Int.mul_comm b] at h1
  omega

theorem tl_mono_n (n q : Int) (q0 : 0 ≤ q) : tl (n - 1) q ≤ tl n q := Int.ediv_le_ediv (by omega) (by omega)

theorem least_mono_n (n q : Int) (n0 : 1 ≤ n) (q0 : 0 ≤ q) (q1 : q ≤ 500) : least (n - 1) q ≤ least n q := by
  unfold least
  rw [if_neg (show ¬ n = 0 by omega)]
  have h0 : 0 ≤ tl n q := Int.ediv_nonneg (by omega) (by omega)
  split
  · have h2 := Int.mul_nonneg h0 (show 0 ≤ 1000 - q by omega)
    omega
  · have h1 := tl_mono_n n q q0
    have h2 := Int.mul_le_mul_of_nonneg_right h1 (show 0 ≤ 1000 - q by omega)
    omega

theorem least_mono_q (n q : Int) (n0 : 0 ≤ n) (q0 : 1 ≤ q) (q1 : q ≤ 500) : least n q ≤ least n (q - 1) := by
  unfold least
  split
  · exact Int.le_refl _
  · have h0 : 0 ≤ tl n q := Int.ediv_nonneg (by omega) (by omega)
    have h1 : tl n q ≤ tl n (q - 1) := by
      have h3 := le_ceil (x := 1000 * n - 999) (b := 1000 + (q - 1)) (by omega)
      have h4 : 0 ≤ tl n (q - 1) := Int.ediv_nonneg (by omega) (by omega)
      apply ceil_le (by omega)
      have h5 := Int.mul_le_mul_of_nonneg_left (show 1000 + (q - 1) ≤ 1000 + q by omega) h4
      unfold tl at *
      omega
    have h2 := Int.mul_le_mul_of_nonneg_right h1 (show 0 ≤ 1000 - q by omega)
    have h3 : 0 ≤ tl n (q - 1) := by omega
    have h4 := Int.mul_le_mul_of_nonneg_left (show 1000 - q ≤ 1000 - (q - 1) by omega) h3
    omega

end Go.Proofs.Ytbcdmobgefdeaaa
