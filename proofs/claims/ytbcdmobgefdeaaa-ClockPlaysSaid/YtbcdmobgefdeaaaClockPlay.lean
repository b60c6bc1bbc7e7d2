/- The contracts of a step of a clock and of the reference's. -/
import Derived.Test.YtbcdmobgefdeaaaClockLaws
import Derived.Deep.RegionWith
namespace Go.Proofs.Ytbcdmobgefdeaaa
open Go.RowKit

/-- A step: what the clock is behind it, and the error. -/
def step (r g k n : Int) : Int × Int × Int :=
  if k = 0 then (if 0 ≤ n ∧ n ≤ 1099511627776 ∧ g + n * r ≤ 1125899906842624999 then (r, g + n * r, 0) else (r, g, 5))
  else if k = 1 then (if 500 ≤ n ∧ n ≤ 2000 then (n, g, 0) else (r, g, 5)) else (r, g, 0)

/-- What holds of a clock's two numbers. -/
def Sane (r g : Int) : Prop := 500 ≤ r ∧ r ≤ 2000 ∧ 0 ≤ g ∧ g ≤ 1125899906842624999

theorem step_sane {r g : Int} (h : Sane r g) (k n : Int) : Sane (step r g k n).1 (step r g k n).2.1 := by
  obtain ⟨h1, h2, h3, h4⟩ := h
  unfold step
  split
  · split
    · rename_i h5
      have := Int.mul_nonneg h5.1 (show 0 ≤ r by omega)
      exact ⟨h1, h2, by show 0 ≤ g + n * r; omega, h5.2.2⟩
    · exact ⟨h1, h2, h3, h4⟩
  · split
    · split
      · rename_i h5; exact ⟨h5.1, h5.2, h3, h4⟩
      · exact ⟨h1, h2, h3, h4⟩
    · exact ⟨h1, h2, h3, h4⟩

def PlayPost (b : Nat) (r g k n : Int) (w : World) (e : Ending) (w' : World) : Prop :=
  ∃ b', e = .returned (.tuple #[.pointer (some ⟨b', 0, none⟩), .int .i64 (step r g k n).2.2]) ∧ ClockIs w' b' (step r g k n).1 (step r g k n).2.1 ∧ Touch (· = b) w w' ∧ (b' = b ∨ w.heap.size ≤ b')

set_option maxHeartbeats 1000000 in
theorem play_any (b : Nat) (r g k n : Int) (w : World) (hc : ClockIs w b r g) (hs : Sane r g) :
    Calls Try.prog 12 #[.pointer (some ⟨b, 0, none⟩), .agg #[.int .i64 k, .int .i64 n]] w (PlayPost b r g k n w) := by
  obtain ⟨h1, h2, h3, h4⟩ := hs
  have hbl := block_lt hc
  have C := Lib.hid hc; clear hc
  have C1 : Hid (∀ o, ClockIs (w.alloc o) b r g) := Lib.hid (fun o => by unfold ClockIs; rw [Below.heap_alloc _ _ _ hbl]; exact C.out)
  have T1 : Hid (∀ o, Touch (· = b) w (w.alloc o)) := Lib.hid (fun o => (Touch.refl _ _).alloc o)
  by_cases hk0 : k = 0
  · subst hk0
    by_cases hn : 0 ≤ n ∧ n ≤ 1099511627776 ∧ g + n * r ≤ 1125899906842624999
    · have hst : step r g 0 n = (r, g + n * r, 0) := by unfold step; rw [if_pos rfl, if_pos hn]
      obtain ⟨n0, n1, n2⟩ := hn
      have HS := Lib.hid hst; clear hst
      go_enter Try.func12, Try.ntmps12
      go_wp2_with fail
      refine (tick_ok b r g n _ (C1.out _) (by omega) h3 n0 n1 n2).mono ?_
      rintro e w1 ⟨rfl, hc, ht⟩
      have C2 := Lib.hid hc; have T2 := Lib.hid ht; clear hc ht
      go_wp2_with fail
      go_ret2
      exact ⟨b, by rw [HS.out]; rfl, by rw [HS.out]; exact C2.out, (T1.out _).trans T2.out, .inl rfl⟩
    · have hst : step r g 0 n = (r, g, 5) := by unfold step; rw [if_pos rfl, if_neg hn]
      have hno : n < 0 ∨ 1099511627776 < n ∨ 1125899906842624999 < g + n * r := by omega
      have HS := Lib.hid hst; have HN := Lib.hid hno; clear hst hno hn
      go_enter Try.func12, Try.ntmps12
      go_wp2_with fail
      refine (tick_no b r g n _ (C1.out _) (by omega) h2 h3 h4 HN.out).mono ?_
      rintro e w1 ⟨rfl, ht⟩
      have T2 := Lib.hid ht; clear ht
      go_wp2_with fail
      go_ret2
      exact ⟨b, by rw [HS.out]; rfl, by rw [HS.out]; exact (C1.out _).touch T2.out (fun h => h), (T1.out _).andThen T2.out (fun _ _ h => h.elim), .inl rfl⟩
  · have hb0 : (k == 0) = false := by rw [beq_eq_false_iff_ne]; exact hk0
    by_cases hk1 : k = 1
    · subst hk1
      clear hk0 hb0
      by_cases hn : 500 ≤ n ∧ n ≤ 2000
      · have hst : step r g 1 n = (n, g, 0) := by unfold step; rw [if_neg (by decide), if_pos rfl, if_pos hn]
        obtain ⟨n0, n1⟩ := hn
        have HS := Lib.hid hst; clear hst
        go_enter Try.func12, Try.ntmps12
        go_wp2_with fail
        refine (rate_ok b r g n _ (C1.out _) n0 n1).mono ?_
        rintro e w1 ⟨rfl, hc, ht⟩
        have C2 := Lib.hid hc; have T2 := Lib.hid ht; clear hc ht
        go_wp2_with fail
        go_ret2
        exact ⟨b, by rw [HS.out]; rfl, by rw [HS.out]; exact C2.out, (T1.out _).trans T2.out, .inl rfl⟩
      · have hst : step r g 1 n = (r, g, 5) := by unfold step; rw [if_neg (by decide), if_pos rfl, if_neg hn]
        have hno : n < 500 ∨ 2000 < n := by omega
        have HS := Lib.hid hst; have HN := Lib.hid hno; clear hst hno hn
        go_enter Try.func12, Try.ntmps12
        go_wp2_with fail
        refine (rate_no b n _ HN.out).mono ?_
        rintro e w1 ⟨rfl, rfl⟩
        go_wp2_with fail
        go_ret2
        exact ⟨b, by rw [HS.out]; rfl, by rw [HS.out]; exact C1.out _, T1.out _, .inl rfl⟩
    · have hb1 : (k == 1) = false := by rw [beq_eq_false_iff_ne]; exact hk1
      have hst : step r g k n = (r, g, 0) := by unfold step; rw [if_neg hk0, if_neg hk1]
      have HS := Lib.hid hst; clear hst hk0 hk1
      by_cases hk2 : k = 2
      · have hb2 : (k == 2) = true := by rw [beq_iff_eq]; exact hk2
        have HK := Lib.hid hk2; clear hk2
        go_enter Try.func12, Try.ntmps12
        go_wp2_with fail
        refine (copy_ok b r g _ (C1.out _)).mono ?_
        rintro e w1 ⟨rfl, hc, ht⟩
        have C2 : Hid (ClockIs w1 (w.heap.size + 1) r g) := Lib.hid (by simpa using hc)
        have T2 := Lib.hid ht; clear hc ht
        go_wp2_with fail
        go_ret2
        exact ⟨_, by rw [HS.out]; rfl, by rw [HS.out]; exact C2.out, (T1.out _).andThen T2.out (fun _ _ h => h.elim), .inr (by simp)⟩
      · have hb2 : (k == 2) = false := by rw [beq_eq_false_iff_ne]; exact hk2
        clear hk2
        go_enter Try.func12, Try.ntmps12
        go_wp2_with fail
        go_ret2
        exact ⟨b, by rw [HS.out]; rfl, by rw [HS.out]; exact C1.out _, T1.out _, .inl rfl⟩

theorem touch_cells {w w' : World} (h : Touch (fun _ => False) w w') : (∀ b o, b < w.heap.size → w'.cell? ⟨b, o, none⟩ = w.cell? ⟨b, o, none⟩) ∧ (∀ b o, b < w.heap.size → w'.frozen? ⟨b, o, none⟩ = w.frozen? ⟨b, o, none⟩) :=
  ⟨fun b _ hb => World.cell?_of_block (h.block b hb (fun x => x)), fun b _ hb => World.frozen?_of_block (h.block b hb (fun x => x))⟩

set_option maxHeartbeats 400000 in
theorem refNow_any (r g : Int) (g0 : 0 ≤ g) (g1 : g ≤ 1200000000000000000) (w : World) : Calls Try.prog 15 #[.agg #[.int .i64 g, .int .i64 r]] w fun e w' => e = .returned (.int .i64 (g / 1000)) ∧ w' = w.alloc (.cells #[.int .i64 g, .int .i64 r] 30) := by
  go_enter Try.func15, Try.ntmps15
  go_wp2_with fail
  go_ret
  exact ⟨rfl, rfl⟩

set_option maxHeartbeats 1000000 in
theorem refTick_any (r g n : Int) (hs : Sane r g) (w : World) :
    Calls Try.prog 25 #[.agg #[.int .i64 g, .int .i64 r], .int .i64 n] w fun e w' => e = .returned (.tuple #[.agg #[.int .i64 (step r g 0 n).2.1, .int .i64 (step r g 0 n).1], .int .i64 (step r g 0 n).2.2]) ∧ Touch (fun _ => False) w w' := by
  obtain ⟨h1, h2, h3, h4⟩ := hs
  by_cases hn : 0 ≤ n ∧ n ≤ 1099511627776
  · obtain ⟨n0, n1⟩ := hn
    have m0 : 0 ≤ n * r := Int.mul_nonneg n0 (by omega)
    have m1 : n * r ≤ 1099511627776 * 2000 := Int.mul_le_mul n1 h2 (by omega) (by omega)
    by_cases hle : g + n * r ≤ 1125899906842624999
    · have hst : step r g 0 n = (r, g + n * r, 0) := by unfold step; rw [if_pos rfl, if_pos ⟨n0, n1, hle⟩]
      have HS := Lib.hid hst; clear hst
      have hd : (g + n * r) / 1000 ≤ 1125899906842624 := by omega
      go_enter Try.func25, Try.ntmps25
      go_wp2_with fail
      refine (refNow_any r (g + n * r) (by omega) (by omega) _).mono ?_
      rintro e w1 ⟨rfl, rfl⟩
      go_wp2_with fail
      rw [HS.out]
      exact bodyPost_ret (v := .tuple #[.agg #[.int .i64 (g + n * r), .int .i64 r], .int .i64 0]) (by simp [results, Try.results25, go_sem]) rfl ⟨rfl, (by repeat (first | exact Touch.refl _ _ | refine Touch.alloc ?_ _ | refine Touch.drew ?_ | refine Touch.drewN ?_ _))⟩
    · have hst : step r g 0 n = (r, g, 5) := by unfold step; rw [if_pos rfl, if_neg (by omega)]
      have HS := Lib.hid hst; clear hst
      have hd : 1125899906842624 < (g + n * r) / 1000 := by omega
      go_enter Try.func25, Try.ntmps25
      go_wp2_with fail
      refine (refNow_any r (g + n * r) (by omega) (by omega) _).mono ?_
      rintro e w1 ⟨rfl, rfl⟩
      go_wp2_with fail
      rw [HS.out]
      exact bodyPost_ret (v := .tuple #[.agg #[.int .i64 g, .int .i64 r], .int .i64 5]) (by simp [results, Try.results25, go_sem]) rfl ⟨rfl, (by repeat (first | exact Touch.refl _ _ | refine Touch.alloc ?_ _ | refine Touch.drew ?_ | refine Touch.drewN ?_ _))⟩
  · have hst : step r g 0 n = (r, g, 5) := by unfold step; rw [if_pos rfl, if_neg (by omega)]
    have HS := Lib.hid hst; clear hst
    by_cases h0 : n < 0
    · clear hn
      go_enter Try.func25, Try.ntmps25
      go_wp2_with fail
      rw [HS.out]
      exact bodyPost_ret (v := .tuple #[.agg #[.int .i64 g, .int .i64 r], .int .i64 5]) (by simp [results, Try.results25, go_sem]) rfl ⟨rfl, (by repeat (first | exact Touch.refl _ _ | refine Touch.alloc ?_ _ | refine Touch.drew ?_ | refine Touch.drewN ?_ _))⟩
    · have h5 : 1099511627776 < n := by omega
      have h6 : 0 ≤ n := by omega
      clear hn h0
      go_enter Try.func25, Try.ntmps25
      go_wp2_with fail
      rw [HS.out]
      exact bodyPost_ret (v := .tuple #[.agg #[.int .i64 g, .int .i64 r], .int .i64 5]) (by simp [results, Try.results25, go_sem]) rfl ⟨rfl, (by repeat (first | exact Touch.refl _ _ | refine Touch.alloc ?_ _ | refine Touch.drew ?_ | refine Touch.drewN ?_ _))⟩

set_option maxHeartbeats 1000000 in
theorem model_any (r g k n : Int) (hs : Sane r g) (w : World) :
    Calls Try.prog 13 #[.agg #[.int .i64 g, .int .i64 r], .agg #[.int .i64 k, .int .i64 n]] w fun e w' => e = .returned (.tuple #[.agg #[.int .i64 (step r g k n).2.1, .int .i64 (step r g k n).1], .int .i64 (step r g k n).2.2]) ∧ Touch (fun _ => False) w w' := by
  by_cases hk0 : k = 0
  · subst hk0
    have ht := refTick_any r g n hs
    obtain ⟨⟨r', g', x⟩, hst⟩ : ∃ s, s = step r g 0 n := ⟨_, rfl⟩
    rw [← hst] at ht ⊢
    have HT := Lib.hid ht; clear ht hst
    go_enter Try.func13, Try.ntmps13
    go_wp2_with fail
    refine (HT.out _).mono ?_
    rintro e w1 ⟨rfl, ht⟩
    obtain ⟨hcl, hfr⟩ := touch_cells ht
    have hz := ht.size
    have T := Lib.hid ht; clear ht
    go_wp2_with fail
    refine bodyPost_ret (v := .tuple #[.agg #[.int .i64 g', .int .i64 r'], .int .i64 x]) (by simp [results, Try.results13, go_sem, hcl]) rfl ⟨rfl, ?_⟩
    clear hcl hfr
    have T0 : Touch (fun _ => False) w w1 := Touch.andThen (by repeat (first | exact Touch.refl _ _ | refine Touch.setCell ?_ (by simp) _ | refine Touch.alloc ?_ _ | refine Touch.drew ?_ | refine Touch.drewN ?_ _)) T.out (fun _ _ h => h)
    repeat (first | exact T0 | refine Touch.setCell ?_ (by simp; omega) _)
  · have hb0 : (k == 0) = false := by rw [beq_eq_false_iff_ne]; exact hk0
    by_cases hk1 : k = 1
    · subst hk1
      clear hk0 hb0
      by_cases hn : 500 ≤ n ∧ n ≤ 2000
      · have hst : step r g 1 n = (n, g, 0) := by unfold step; rw [if_neg (by decide), if_pos rfl, if_pos hn]
        obtain ⟨n0, n1⟩ := hn
        have HS := Lib.hid hst; clear hst
        go_enter Try.func13, Try.ntmps13
        go_wp2_with fail
        refine (refRates_yes n n0 n1 _).mono ?_
        rintro e w1 ⟨rfl, rfl⟩
        go_wp2_with fail
        rw [HS.out]
        exact bodyPost_ret (v := .tuple #[.agg #[.int .i64 g, .int .i64 n], .int .i64 0]) (by simp [results, Try.results13, go_sem]) rfl ⟨rfl, (by repeat (first | exact Touch.refl _ _ | refine Touch.setCell ?_ (by simp) _ | refine Touch.alloc ?_ _ | refine Touch.drew ?_ | refine Touch.drewN ?_ _))⟩
      · have hst : step r g 1 n = (r, g, 5) := by unfold step; rw [if_neg (by decide), if_pos rfl, if_neg hn]
        have hno : n < 500 ∨ 2000 < n := by omega
        have HS := Lib.hid hst; have HN := Lib.hid hno; clear hst hno hn
        go_enter Try.func13, Try.ntmps13
        go_wp2_with fail
        refine (refRates_no n HN.out _).mono ?_
        rintro e w1 ⟨rfl, rfl⟩
        go_wp2_with fail
        rw [HS.out]
        exact bodyPost_ret (v := .tuple #[.agg #[.int .i64 g, .int .i64 r], .int .i64 5]) (by simp [results, Try.results13, go_sem]) rfl ⟨rfl, (by repeat (first | exact Touch.refl _ _ | refine Touch.setCell ?_ (by simp) _ | refine Touch.alloc ?_ _ | refine Touch.drew ?_ | refine Touch.drewN ?_ _))⟩
    · have hb1 : (k == 1) = false := by rw [beq_eq_false_iff_ne]; exact hk1
      have hst : step r g k n = (r, g, 0) := by unfold step; rw [if_neg hk0, if_neg hk1]
      have HS := Lib.hid hst; clear hst hk0 hk1
      go_enter Try.func13, Try.ntmps13
      go_wp2_with fail
      rw [HS.out]
      exact bodyPost_ret (v := .tuple #[.agg #[.int .i64 g, .int .i64 r], .int .i64 0]) (by simp [results, Try.results13, go_sem]) rfl ⟨rfl, (by repeat (first | exact Touch.refl _ _ | refine Touch.setCell ?_ (by simp) _ | refine Touch.alloc ?_ _ | refine Touch.drew ?_ | refine Touch.drewN ?_ _))⟩

end Go.Proofs.Ytbcdmobgefdeaaa
