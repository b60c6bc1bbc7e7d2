/- The contracts of package clock's small functions. -/
import Derived.Test.YtbcdmobgefdeaaaTouch
import Derived.WalkSpells
import Derived.WalkLawsBesides
import Derived.Deep.QuietTactic
import Derived.BigQuiet
import Derived.RegionTactic
namespace Go.Proofs.Ytbcdmobgefdeaaa
open Go.RowKit

theorem ret_int {k : IntKind} {a b : Int} (h : a = b) : Ending.returned (.int k a) = .returned (.int k b) := by rw [h]
theorem val_int {k : IntKind} {a b : Int} (h : a = b) : Value.int k a = .int k b := by rw [h]

/-- A clock's block. -/
def ClockIs (w : World) (b : Nat) (r g : Int) : Prop := w.heap[b]? = some (.cells #[.int .i64 r, .int .i64 g] 51)

theorem ClockIs.touch {S : Nat → Prop} {w w' : World} {b : Nat} {r g : Int} (h : ClockIs w b r g) (ht : Touch S w w') (hn : ¬ S b) : ClockIs w' b r g := ht.stays h hn

set_option maxHeartbeats 400000 in
theorem isTicks_yes (n : Int) (h0 : 0 ≤ n) (h1 : n ≤ 1099511627776) (w : World) : Calls Try.prog 26 #[.int .i64 n] w fun e w' => e = .returned (.bool true) ∧ w' = w := by
  go_enter Try.func26, Try.ntmps26
  go_wp2
  go_ret
  exact ⟨rfl, rfl⟩
set_option maxHeartbeats 400000 in
theorem isTicks_no (n : Int) (h : n < 0 ∨ 1099511627776 < n) (w : World) : Calls Try.prog 26 #[.int .i64 n] w fun e w' => e = .returned (.bool false) ∧ w' = w := by
  by_cases h0 : n < 0
  · clear h
    go_enter Try.func26, Try.ntmps26
    go_wp2
    go_ret
    exact ⟨rfl, rfl⟩
  · have h1 : 1099511627776 < n := by omega
    have h2 : 0 ≤ n := by omega
    have h3 : decide (n ≤ 1099511627776) = false := decide_eq_false (by omega)
    clear h h0
    go_enter Try.func26, Try.ntmps26
    go_wp2
    go_ret
    exact ⟨rfl, rfl⟩

set_option maxHeartbeats 400000 in
theorem isRate_yes (n : Int) (h0 : 500 ≤ n) (h1 : n ≤ 2000) (w : World) : Calls Try.prog 24 #[.int .i64 n] w fun e w' => e = .returned (.bool true) ∧ w' = w := by
  go_enter Try.func24, Try.ntmps24
  go_wp2
  go_ret
  exact ⟨rfl, rfl⟩
set_option maxHeartbeats 400000 in
theorem isRate_no (n : Int) (h : n < 500 ∨ 2000 < n) (w : World) : Calls Try.prog 24 #[.int .i64 n] w fun e w' => e = .returned (.bool false) ∧ w' = w := by
  by_cases h0 : n < 500
  · clear h
    go_enter Try.func24, Try.ntmps24
    go_wp2
    go_ret
    exact ⟨rfl, rfl⟩
  · have h1 : 2000 < n := by omega
    have h2 : 500 ≤ n := by omega
    have h3 : decide (n ≤ 2000) = false := decide_eq_false (by omega)
    clear h h0
    go_enter Try.func24, Try.ntmps24
    go_wp2
    go_ret
    exact ⟨rfl, rfl⟩

set_option maxHeartbeats 400000 in
theorem isRho_yes (n : Int) (h0 : 0 ≤ n) (h1 : n ≤ 500) (w : World) : Calls Try.prog 27 #[.int .i64 n] w fun e w' => e = .returned (.bool true) ∧ w' = w := by
  go_enter Try.func27, Try.ntmps27
  go_wp2
  go_ret
  exact ⟨rfl, rfl⟩
set_option maxHeartbeats 400000 in
theorem isRho_no (n : Int) (h : n < 0 ∨ 500 < n) (w : World) : Calls Try.prog 27 #[.int .i64 n] w fun e w' => e = .returned (.bool false) ∧ w' = w := by
  by_cases h0 : n < 0
  · clear h
    go_enter Try.func27, Try.ntmps27
    go_wp2
    go_ret
    exact ⟨rfl, rfl⟩
  · have h1 : 500 < n := by omega
    have h2 : 0 ≤ n := by omega
    have h3 : decide (n ≤ 500) = false := decide_eq_false (by omega)
    clear h h0
    go_enter Try.func27, Try.ntmps27
    go_wp2
    go_ret
    exact ⟨rfl, rfl⟩

set_option maxHeartbeats 400000 in
theorem refRates_yes (n : Int) (h0 : 500 ≤ n) (h1 : n ≤ 2000) (w : World) : Calls Try.prog 11 #[.int .i64 n] w fun e w' => e = .returned (.bool true) ∧ w' = w := by
  go_enter Try.func11, Try.ntmps11
  go_wp2
  go_ret
  exact ⟨rfl, rfl⟩
set_option maxHeartbeats 400000 in
theorem refRates_no (n : Int) (h : n < 500 ∨ 2000 < n) (w : World) : Calls Try.prog 11 #[.int .i64 n] w fun e w' => e = .returned (.bool false) ∧ w' = w := by
  by_cases h0 : n < 500
  · clear h
    go_enter Try.func11, Try.ntmps11
    go_wp2
    go_ret
    exact ⟨rfl, rfl⟩
  · have h1 : 2000 < n := by omega
    have h2 : 500 ≤ n := by omega
    have h3 : decide (n ≤ 2000) = false := decide_eq_false (by omega)
    clear h h0
    go_enter Try.func11, Try.ntmps11
    go_wp2
    go_ret
    exact ⟨rfl, rfl⟩


set_option maxHeartbeats 400000 in
theorem new_ok (r : Int) (h0 : 500 ≤ r) (h1 : r ≤ 2000) (w : World) : Calls Try.prog 10 #[.int .i64 r] w fun e w' => e = .returned (.tuple #[.pointer (some ⟨w.heap.size, 0, none⟩), .int .i64 0]) ∧ ClockIs w' w.heap.size r 0 ∧ Touch (fun _ => False) w w' := by
  go_enter Try.func10, Try.ntmps10
  go_wp2_with fail
  refine (isRate_yes r h0 h1 _).mono ?_
  rintro e w1 ⟨rfl, rfl⟩
  go_wp2_with fail
  go_ret2
  exact ⟨rfl, new_of _ _, (Touch.refl _ _).alloc _⟩

set_option maxHeartbeats 400000 in
theorem new_no (r : Int) (h : r < 500 ∨ 2000 < r) (w : World) : Calls Try.prog 10 #[.int .i64 r] w fun e w' => e = .returned (.tuple #[.pointer none, .int .i64 5]) ∧ w' = w := by
  go_enter Try.func10, Try.ntmps10
  go_wp2_with fail
  refine (isRate_no r h _).mono ?_
  rintro e w1 ⟨rfl, rfl⟩
  go_wp2_with fail
  go_ret2
  exact ⟨rfl, rfl⟩

set_option maxHeartbeats 400000 in
theorem tick_ok (b : Nat) (r g n : Int) (w : World) (h : ClockIs w b r g) (hr0 : 0 ≤ r) (hg0 : 0 ≤ g) (hn0 : 0 ≤ n) (hn1 : n ≤ 1099511627776) (hle : g + n * r ≤ 1125899906842624999) :
    Calls Try.prog 17 #[.pointer (some ⟨b, 0, none⟩), .int .i64 n] w fun e w' => e = .returned (.int .i64 0) ∧ ClockIs w' b r (g + n * r) ∧ Touch (· = b) w w' := by
  have c0 : w.cell? ⟨b, 0, none⟩ = some (.int .i64 r) := cell_of h 0
  have c1 : w.cell? ⟨b, 1, none⟩ = some (.int .i64 g) := cell_of h 1
  have f1 := thaw_of h 1
  have H := Lib.hid h; clear h
  have m0 : 0 ≤ n * r := Int.mul_nonneg hn0 hr0
  have hd : (g + n * r) / 1000 ≤ 1125899906842624 := by omega
  go_enter Try.func17, Try.ntmps17
  go_wp2_with fail
  go_quiet ((go_at_call 26; exact Calls.quiet_of_same (isTicks_yes n hn0 hn1 _)))
  go_wp2_with fail
  go_region
  go_wp2_with fail
  go_ret
  exact ⟨rfl, set_of (b := b) (w := w.drewN (nq + 1)) H.out 1 _, ((Touch.refl (· = b) _).drewN _).setCell (fun _ => rfl) _⟩

set_option maxHeartbeats 400000 in
theorem tick_no (b : Nat) (r g n : Int) (w : World) (h : ClockIs w b r g) (hr0 : 0 ≤ r) (hr1 : r ≤ 2000) (hg0 : 0 ≤ g) (hg1 : g ≤ 1125899906842624999) (hno : n < 0 ∨ 1099511627776 < n ∨ 1125899906842624999 < g + n * r) :
    Calls Try.prog 17 #[.pointer (some ⟨b, 0, none⟩), .int .i64 n] w fun e w' => e = .returned (.int .i64 5) ∧ Touch (fun _ => False) w w' := by
  have c0 : w.cell? ⟨b, 0, none⟩ = some (.int .i64 r) := cell_of h 0
  have c1 : w.cell? ⟨b, 1, none⟩ = some (.int .i64 g) := cell_of h 1
  clear h
  by_cases hn : 0 ≤ n ∧ n ≤ 1099511627776
  · obtain ⟨hn0, hn1⟩ := hn
    have m0 : 0 ≤ n * r := Int.mul_nonneg hn0 hr0
    have m1 : n * r ≤ 1099511627776 * 2000 := Int.mul_le_mul hn1 hr1 hr0 (by omega)
    have hd : 1125899906842624 < (g + n * r) / 1000 := by omega
    clear hno
    go_enter Try.func17, Try.ntmps17
    go_wp2_with fail
    go_quiet ((go_at_call 26; exact Calls.quiet_of_same (isTicks_yes n hn0 hn1 _)))
    go_wp2_with fail
    go_ret
    exact ⟨rfl, (Touch.refl _ _).drewN _⟩
  · have hn' : n < 0 ∨ 1099511627776 < n := by omega
    clear hno hn
    go_enter Try.func17, Try.ntmps17
    go_wp2_with fail
    go_quiet ((go_at_call 26; exact Calls.quiet_of_same (isTicks_no n hn' _)))
    go_wp2_with fail
    go_ret
    exact ⟨rfl, (Touch.refl _ _).drewN _⟩

set_option maxHeartbeats 400000 in
theorem tick_nil (n : Int) (w : World) : Calls Try.prog 17 #[.pointer none, .int .i64 n] w fun e w' => e = .returned (.int .i64 1) ∧ w' = w := by
  go_enter Try.func17, Try.ntmps17
  go_wp2_with fail
  go_ret
  exact ⟨rfl, rfl⟩

set_option maxHeartbeats 400000 in
theorem rate_ok (b : Nat) (r g n : Int) (w : World) (h : ClockIs w b r g) (h0 : 500 ≤ n) (h1 : n ≤ 2000) :
    Calls Try.prog 18 #[.pointer (some ⟨b, 0, none⟩), .int .i64 n] w fun e w' => e = .returned (.int .i64 0) ∧ ClockIs w' b n g ∧ Touch (· = b) w w' := by
  have c0 : w.cell? ⟨b, 0, none⟩ = some (.int .i64 r) := cell_of h 0
  have f1 := thaw_of h 0
  have H := Lib.hid h; clear h
  go_enter Try.func18, Try.ntmps18
  go_wp2_with fail
  refine (isRate_yes n h0 h1 _).mono ?_
  rintro e w1 ⟨rfl, rfl⟩
  go_wp2_with fail
  go_ret
  exact ⟨rfl, set_of (b := b) H.out 0 _, (Touch.refl (· = b) _).setCell (fun _ => rfl) _⟩

set_option maxHeartbeats 400000 in
theorem rate_no (b : Nat) (n : Int) (w : World) (h : n < 500 ∨ 2000 < n) :
    Calls Try.prog 18 #[.pointer (some ⟨b, 0, none⟩), .int .i64 n] w fun e w' => e = .returned (.int .i64 5) ∧ w' = w := by
  go_enter Try.func18, Try.ntmps18
  go_wp2_with fail
  refine (isRate_no n h _).mono ?_
  rintro e w1 ⟨rfl, rfl⟩
  go_wp2_with fail
  go_ret
  exact ⟨rfl, rfl⟩

set_option maxHeartbeats 400000 in
theorem rate_nil (n : Int) (w : World) : Calls Try.prog 18 #[.pointer none, .int .i64 n] w fun e w' => e = .returned (.int .i64 1) ∧ w' = w := by
  go_enter Try.func18, Try.ntmps18
  go_wp2_with fail
  go_ret
  exact ⟨rfl, rfl⟩

set_option maxHeartbeats 400000 in
theorem now_ok (b : Nat) (r g : Int) (w : World) (h : ClockIs w b r g) (hg0 : 0 ≤ g) (hg1 : g ≤ 1125899906842624999) :
    Calls Try.prog 14 #[.pointer (some ⟨b, 0, none⟩)] w fun e w' => e = .returned (.int .i64 (g / 1000)) ∧ w' = w := by
  have c1 : w.cell? ⟨b, 1, none⟩ = some (.int .i64 g) := cell_of h 1
  clear h
  go_enter Try.func14, Try.ntmps14
  go_wp2_with fail
  go_ret
  exact ⟨rfl, rfl⟩

set_option maxHeartbeats 400000 in
theorem now_nil (w : World) : Calls Try.prog 14 #[.pointer none] w fun e w' => e = .returned (.int .i64 0) ∧ w' = w := by
  go_enter Try.func14, Try.ntmps14
  go_wp2_with fail
  go_ret
  exact ⟨rfl, rfl⟩

set_option maxHeartbeats 400000 in
theorem copy_ok (b : Nat) (r g : Int) (w : World) (h : ClockIs w b r g) :
    Calls Try.prog 16 #[.pointer (some ⟨b, 0, none⟩)] w fun e w' => e = .returned (.pointer (some ⟨w.heap.size, 0, none⟩)) ∧ ClockIs w' w.heap.size r g ∧ Touch (fun _ => False) w w' := by
  have c0 : w.cell? ⟨b, 0, none⟩ = some (.int .i64 r) := cell_of h 0
  have c1 : w.cell? ⟨b, 1, none⟩ = some (.int .i64 g) := cell_of h 1
  clear h
  go_enter Try.func16, Try.ntmps16
  go_wp2_with fail
  go_region
  go_wp2_with fail
  go_ret
  exact ⟨rfl, new_of _ _, ((Touch.refl _ _).alloc _).drew⟩

set_option maxHeartbeats 400000 in
theorem copy_nil (w : World) : Calls Try.prog 16 #[.pointer none] w fun e w' => e = .returned (.pointer none) ∧ w' = w := by
  go_enter Try.func16, Try.ntmps16
  go_wp2_with fail
  go_ret
  exact ⟨rfl, rfl⟩

set_option maxHeartbeats 400000 in
theorem up_any (n k : Int) (h0 : 0 ≤ n) (h1 : n ≤ 4611686018427387904) (hk : 1 ≤ k) (hk1 : k ≤ 1000000) (w : World) : Calls Try.prog 28 #[.int .i64 n, .int .i64 k] w fun e w' => e = .returned (.int .i64 ((n + k - 1) / k)) ∧ w' = w := by
  go_enter Try.func28, Try.ntmps28
  go_wp2_with fail
  go_ret
  exact ⟨rfl, rfl⟩

end Go.Proofs.Ytbcdmobgefdeaaa
