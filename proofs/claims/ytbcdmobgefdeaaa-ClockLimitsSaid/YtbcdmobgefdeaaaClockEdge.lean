/- The limits of clocks. -/
import Derived.Test.YtbcdmobgefdeaaaClockLaws
namespace Go.Proofs.Ytbcdmobgefdeaaa
open Go.RowKit

set_option maxHeartbeats 2000000 in
set_option maxRecDepth 100000 in
theorem clockLimits_any (w : World) : Calls Try.prog 8 #[] w fun e w' => e = .returned (.bool true) ∧ Below w.heap.size w w' := by
  go_enter Try.func8, Try.ntmps8
  go_wp2_with fail
  refine (works_any _).mono ?_
  rintro e w1 ⟨rfl, hb⟩
  have H1 : Hid (Below w.heap.size w w1) := Lib.hid hb; clear hb
  go_wp2_with fail
  refine (new_ok 500 (by omega) (by omega) _).mono ?_
  rintro e w2 ⟨rfl, _, ht⟩
  have H2 : Hid (Below w.heap.size w w2) := Lib.hid (below_touch H1.out ht (Nat.le_refl _) (fun _ h => h.elim)); clear ht
  go_wp2_with fail
  refine (new_no 499 (by omega) _).mono ?_
  rintro e w3 ⟨rfl, rfl⟩
  go_wp2_with fail
  refine (new_ok 2000 (by omega) (by omega) _).mono ?_
  rintro e w4 ⟨rfl, hc, ht⟩
  have hB : w.heap.size ≤ w3.heap.size := H2.out.size
  obtain ⟨B, hBe⟩ : ∃ B, B = w3.heap.size := ⟨_, rfl⟩
  rw [← hBe] at hc hB ⊢
  have C4 := Lib.hid hc; clear hc hBe
  have H4 : Hid (Below w.heap.size w w4) := Lib.hid (below_touch H2.out ht (Nat.le_refl _) (fun _ h => h.elim)); clear ht
  go_wp2_with fail
  refine (new_no 2001 (by omega) _).mono ?_
  rintro e w5 ⟨rfl, rfl⟩
  go_wp2_with fail
  go_loopw [9] (fun s9 wr => ∃ k : Nat, k ≤ 512 ∧ s9 = .int .i64 k ∧ ClockIs wr B 2000 (0 + (k : Int) * (1099511627776 * 2000)) ∧ Below w.heap.size w wr) (fun s9 _ => (512 - intOf s9).toNat)
  case atStart => exact ⟨0, by omega, rfl, C4.out, H4.out⟩
  case round =>
    obtain ⟨k, hk, rfl, hc, hb⟩ := hrel
    have C := Lib.hid hc; have HB := Lib.hid hb; clear hc hb C4 H4
    by_cases hlt : k < 512
    · go_wp2_with fail
      refine (tick_ok B 2000 _ 1099511627776 _ C.out (by omega) (by omega) (by omega) (by omega) (by omega)).mono ?_
      rintro e w6 ⟨rfl, hc, ht⟩
      have C6 := Lib.hid hc; clear hc
      have H6 : Hid (Below w.heap.size w w6) := Lib.hid (below_touch HB.out ht (Nat.le_refl _) (fun i h => by subst h; exact hB)); clear ht
      go_wp2_with fail
      go_roundw
      case rel => exact ⟨k + 1, by omega, by go_num, by have := C6.out; rw [show (0 + (k : Int) * (1099511627776 * 2000) + 1099511627776 * 2000) = 0 + ((k + 1 : Nat) : Int) * (1099511627776 * 2000) from by omega] at this; exact this, H6.out⟩
      case measure => simp [intOf]; omega
    · obtain rfl : k = 512 := by omega
      clear hlt hk
      go_wp2_with fail
      refine (tick_no B 2000 _ 1 _ C.out (by omega) (by omega) (by omega) (by omega) (by omega)).mono ?_
      rintro e w7 ⟨rfl, ht⟩
      have C7 : Hid (ClockIs w7 B 2000 1125899906842624000) := Lib.hid (C.out.touch ht (fun h => h))
      have H7 : Hid (Below w.heap.size w w7) := Lib.hid (below_touch HB.out ht (Nat.le_refl _) (fun _ h => h.elim)); clear ht
      go_wp2_with fail
      refine (rate_ok B 2000 _ 500 _ C7.out (by omega) (by omega)).mono ?_
      rintro e w8 ⟨rfl, hc, ht⟩
      have C8 := Lib.hid hc; clear hc
      have H8 : Hid (Below w.heap.size w w8) := Lib.hid (below_touch H7.out ht (Nat.le_refl _) (fun i h => by subst h; exact hB)); clear ht
      go_wp2_with fail
      refine (tick_ok B 500 _ 1 _ C8.out (by omega) (by omega) (by omega) (by omega) (by omega)).mono ?_
      rintro e w9 ⟨rfl, hc, ht⟩
      have C9 : Hid (ClockIs w9 B 500 1125899906842624500) := Lib.hid hc; clear hc
      have H9 : Hid (Below w.heap.size w w9) := Lib.hid (below_touch H8.out ht (Nat.le_refl _) (fun i h => by subst h; exact hB)); clear ht
      go_wp2_with fail
      refine (tick_no B 500 _ 1 _ C9.out (by omega) (by omega) (by omega) (by omega) (by omega)).mono ?_
      rintro e w10 ⟨rfl, ht⟩
      have C10 : Hid (ClockIs w10 B 500 1125899906842624500) := Lib.hid (C9.out.touch ht (fun h => h))
      have H10 : Hid (Below w.heap.size w w10) := Lib.hid (below_touch H9.out ht (Nat.le_refl _) (fun _ h => h.elim)); clear ht
      have m1 : most 1099511627776 500 = 3298534883330 := by decide +kernel
      have m2 : least 1 0 = 1 := by decide +kernel
      go_wp2_with fail
      refine (most_ok 1099511627776 500 (by omega) (by omega) (by omega) (by omega) _).mono ?_
      rintro e w11 ⟨rfl, rfl⟩
      go_wp2_with fail
      refine (least_ok 1 0 (by omega) (by omega) (by omega) (by omega) _).mono ?_
      rintro e w12 ⟨rfl, rfl⟩
      go_wp2_with fail
      refine (most_no 1099511627777 0 (by omega) _).mono ?_
      rintro e w13 ⟨rfl, rfl⟩
      go_wp2_with fail
      refine (least_no 0 501 (by omega) _).mono ?_
      rintro e w14 ⟨rfl, rfl⟩
      go_wp2_with fail
      refine (tick_no B 500 _ 1099511627777 _ C10.out (by omega) (by omega) (by omega) (by omega) (by omega)).mono ?_
      rintro e w15 ⟨rfl, ht⟩
      have C15 : Hid (ClockIs w15 B 500 1125899906842624500) := Lib.hid (C10.out.touch ht (fun h => h))
      have H15 : Hid (Below w.heap.size w w15) := Lib.hid (below_touch H10.out ht (Nat.le_refl _) (fun _ h => h.elim)); clear ht
      go_wp2_with fail
      refine (tick_no B 500 _ (-1) _ C15.out (by omega) (by omega) (by omega) (by omega) (by omega)).mono ?_
      rintro e w16 ⟨rfl, ht⟩
      have C16 : Hid (ClockIs w16 B 500 1125899906842624500) := Lib.hid (C15.out.touch ht (fun h => h))
      have H16 : Hid (Below w.heap.size w w16) := Lib.hid (below_touch H15.out ht (Nat.le_refl _) (fun _ h => h.elim)); clear ht
      go_wp2_with fail
      refine (now_ok B 500 _ _ C16.out (by omega) (by omega)).mono ?_
      rintro e w17 ⟨rfl, rfl⟩
      go_wp2_with fail
      go_ret
      exact ⟨rfl, H16.out⟩

end Go.Proofs.Ytbcdmobgefdeaaa
