/- The laws of layer 6 that only ask: works, ClockNone, ClockAsks. -/
import Derived.Test.YtbcdmobgefdeaaaClockMath
namespace Go.Proofs.Ytbcdmobgefdeaaa
open Go.RowKit

set_option maxHeartbeats 1000000 in
theorem works_any (w : World) : Calls Try.prog 9 #[] w fun e w' => e = .returned (.bool true) ∧ Below w.heap.size w w' := by
  go_enter Try.func9, Try.ntmps9
  go_wp2_with fail
  refine (new_ok 1500 (by omega) (by omega) _).mono ?_
  rintro e w1 ⟨rfl, hc1, ht1⟩
  have C1 := Lib.hid hc1; have T1 := Lib.hid ht1; clear hc1 ht1
  go_wp2_with fail
  refine (tick_ok _ 1500 0 3 _ C1.out (by omega) (by omega) (by omega) (by omega) (by omega)).mono ?_
  rintro e w2 ⟨rfl, hc2, ht2⟩
  have C2 := Lib.hid hc2; have T2 := Lib.hid ht2; clear hc2 ht2
  go_wp2_with fail
  refine (most_ok 10 100 (by omega) (by omega) (by omega) (by omega) _).mono ?_
  rintro e w3 ⟨rfl, rfl⟩
  have hm : most 10 100 = 14 := by decide
  go_wp2_with fail
  refine (now_ok _ 1500 4500 _ C2.out (by omega) (by omega)).mono ?_
  rintro e w4 ⟨rfl, rfl⟩
  go_wp2_with fail
  go_ret
  exact ⟨rfl, below_touch (T1.out.below (Nat.le_refl _) (fun _ h => h.elim)) T2.out (Nat.le_refl _) (fun i hi => by subst hi; exact Nat.le_refl _)⟩

set_option maxHeartbeats 1000000 in
theorem clockNone_any (n : Int) (w : World) : Calls Try.prog 7 #[.int .i64 n] w fun e w' => e = .returned (.bool true) ∧ Below w.heap.size w w' := by
  go_enter Try.func7, Try.ntmps7
  go_wp2_with fail
  refine (works_any _).mono ?_
  rintro e w1 ⟨rfl, hb1⟩
  have H1 := Lib.hid hb1; clear hb1
  go_wp2_with fail
  refine (tick_nil n _).mono ?_
  rintro e w2 ⟨rfl, rfl⟩
  go_wp2_with fail
  refine (rate_nil n _).mono ?_
  rintro e w2 ⟨rfl, rfl⟩
  go_wp2_with fail
  refine (now_nil _).mono ?_
  rintro e w2 ⟨rfl, rfl⟩
  go_wp2_with fail
  refine (copy_nil _).mono ?_
  rintro e w2 ⟨rfl, rfl⟩
  go_wp2_with fail
  go_ret
  exact ⟨rfl, H1.out⟩

set_option maxHeartbeats 2000000 in
set_option maxRecDepth 100000 in
theorem clockAsks_any (n q : Int) (w : World) : Calls Try.prog 6 #[.int .i64 n, .int .i64 q] w fun e w' => e = .returned (.bool true) ∧ Below w.heap.size w w' := by
  by_cases hno : n < 0 ∨ 1099511627776 < n ∨ q < 0 ∨ 500 < q
  · have HN := Lib.hid hno; clear hno
    go_enter Try.func6, Try.ntmps6
    go_wp2_with fail
    refine (works_any _).mono ?_
    rintro e w1 ⟨rfl, hb1⟩
    have H1 := Lib.hid hb1; clear hb1
    go_wp2_with fail
    refine (most_no n q HN.out _).mono ?_
    rintro e v1 ⟨rfl, rfl⟩
    go_wp2_with fail
    refine (least_no n q HN.out _).mono ?_
    rintro e v2 ⟨rfl, rfl⟩
    go_wp2_with fail
    refine (asked_no n q HN.out _).mono ?_
    rintro e v3 ⟨rfl, rfl⟩
    go_wp2_with fail
    go_ret
    exact ⟨rfl, H1.out⟩
  · have n0 : 0 ≤ n := by omega
    have n1 : n ≤ 1099511627776 := by omega
    have q0 : 0 ≤ q := by omega
    have q1 : q ≤ 500 := by omega
    clear hno
    by_cases hn : 0 < n
    · have m1 := most_mono_n n q q0 q1
      have m2 := least_mono_n n q (by omega) q0 q1
      by_cases hq : 0 < q
      · have m3 := most_mono_q n q n0 (by omega) q1
        have m4 := least_mono_q n q n0 (by omega) q1
        go_enter Try.func6, Try.ntmps6
        go_wp2_with fail
        refine (works_any _).mono ?_
        rintro e w1 ⟨rfl, hb1⟩
        have H1 := Lib.hid hb1; clear hb1
        go_wp2_with fail
        refine (most_ok n q n0 n1 q0 q1 _).mono ?_
        rintro e v1 ⟨rfl, rfl⟩
        go_wp2_with fail
        refine (least_ok n q n0 n1 q0 q1 _).mono ?_
        rintro e v2 ⟨rfl, rfl⟩
        go_wp2_with fail
        refine (asked_yes n q n0 n1 q0 q1 _).mono ?_
        rintro e v3 ⟨rfl, rfl⟩
        go_wp2_with fail
        refine (mostR_any n q n0 n1 q0 q1 _).mono ?_
        rintro e v4 ⟨rfl, rfl⟩
        go_wp2_with fail
        refine (leastR_any n q n0 n1 q0 q1 _).mono ?_
        rintro e v5 ⟨rfl, rfl⟩
        go_wp2_with fail
        refine (most_ok (n - 1) q (by omega) (by omega) q0 q1 _).mono ?_
        rintro e v6 ⟨rfl, rfl⟩
        go_wp2_with fail
        refine (least_ok (n - 1) q (by omega) (by omega) q0 q1 _).mono ?_
        rintro e v7 ⟨rfl, rfl⟩
        go_wp2_with fail
        refine (most_ok n (q - 1) n0 n1 (by omega) (by omega) _).mono ?_
        rintro e v8 ⟨rfl, rfl⟩
        go_wp2_with fail
        refine (least_ok n (q - 1) n0 n1 (by omega) (by omega) _).mono ?_
        rintro e v9 ⟨rfl, rfl⟩
        go_wp2_with fail
        go_ret
        exact ⟨rfl, H1.out⟩
      · have hd : decide (0 < q) = false := decide_eq_false hq
        go_enter Try.func6, Try.ntmps6
        go_wp2_with fail
        refine (works_any _).mono ?_
        rintro e w1 ⟨rfl, hb1⟩
        have H1 := Lib.hid hb1; clear hb1
        go_wp2_with fail
        refine (most_ok n q n0 n1 q0 q1 _).mono ?_
        rintro e v1 ⟨rfl, rfl⟩
        go_wp2_with fail
        refine (least_ok n q n0 n1 q0 q1 _).mono ?_
        rintro e v2 ⟨rfl, rfl⟩
        go_wp2_with fail
        refine (asked_yes n q n0 n1 q0 q1 _).mono ?_
        rintro e v3 ⟨rfl, rfl⟩
        go_wp2_with fail
        refine (mostR_any n q n0 n1 q0 q1 _).mono ?_
        rintro e v4 ⟨rfl, rfl⟩
        go_wp2_with fail
        refine (leastR_any n q n0 n1 q0 q1 _).mono ?_
        rintro e v5 ⟨rfl, rfl⟩
        go_wp2_with fail
        refine (most_ok (n - 1) q (by omega) (by omega) q0 q1 _).mono ?_
        rintro e v6 ⟨rfl, rfl⟩
        go_wp2_with fail
        refine (least_ok (n - 1) q (by omega) (by omega) q0 q1 _).mono ?_
        rintro e v7 ⟨rfl, rfl⟩
        go_wp2_with fail
        go_ret
        exact ⟨rfl, H1.out⟩
    · have hd : decide (0 < n) = false := decide_eq_false hn
      by_cases hq : 0 < q
      · have m3 := most_mono_q n q n0 (by omega) q1
        have m4 := least_mono_q n q n0 (by omega) q1
        go_enter Try.func6, Try.ntmps6
        go_wp2_with fail
        refine (works_any _).mono ?_
        rintro e w1 ⟨rfl, hb1⟩
        have H1 := Lib.hid hb1; clear hb1
        go_wp2_with fail
        refine (most_ok n q n0 n1 q0 q1 _).mono ?_
        rintro e v1 ⟨rfl, rfl⟩
        go_wp2_with fail
        refine (least_ok n q n0 n1 q0 q1 _).mono ?_
        rintro e v2 ⟨rfl, rfl⟩
        go_wp2_with fail
        refine (asked_yes n q n0 n1 q0 q1 _).mono ?_
        rintro e v3 ⟨rfl, rfl⟩
        go_wp2_with fail
        refine (mostR_any n q n0 n1 q0 q1 _).mono ?_
        rintro e v4 ⟨rfl, rfl⟩
        go_wp2_with fail
        refine (leastR_any n q n0 n1 q0 q1 _).mono ?_
        rintro e v5 ⟨rfl, rfl⟩
        go_wp2_with fail
        refine (most_ok n (q - 1) n0 n1 (by omega) (by omega) _).mono ?_
        rintro e v8 ⟨rfl, rfl⟩
        go_wp2_with fail
        refine (least_ok n (q - 1) n0 n1 (by omega) (by omega) _).mono ?_
        rintro e v9 ⟨rfl, rfl⟩
        go_wp2_with fail
        go_ret
        exact ⟨rfl, H1.out⟩
      · have hd2 : decide (0 < q) = false := decide_eq_false hq
        go_enter Try.func6, Try.ntmps6
        go_wp2_with fail
        refine (works_any _).mono ?_
        rintro e w1 ⟨rfl, hb1⟩
        have H1 := Lib.hid hb1; clear hb1
        go_wp2_with fail
        refine (most_ok n q n0 n1 q0 q1 _).mono ?_
        rintro e v1 ⟨rfl, rfl⟩
        go_wp2_with fail
        refine (least_ok n q n0 n1 q0 q1 _).mono ?_
        rintro e v2 ⟨rfl, rfl⟩
        go_wp2_with fail
        refine (asked_yes n q n0 n1 q0 q1 _).mono ?_
        rintro e v3 ⟨rfl, rfl⟩
        go_wp2_with fail
        refine (mostR_any n q n0 n1 q0 q1 _).mono ?_
        rintro e v4 ⟨rfl, rfl⟩
        go_wp2_with fail
        refine (leastR_any n q n0 n1 q0 q1 _).mono ?_
        rintro e v5 ⟨rfl, rfl⟩
        go_wp2_with fail
        go_ret
        exact ⟨rfl, H1.out⟩


end Go.Proofs.Ytbcdmobgefdeaaa
