/- ClockSplits: it makes no difference whether ticks go by at once or in two goes. -/
import Derived.Test.YtbcdmobgefdeaaaClockPlays
import Derived.LaidEqlPtr
namespace Go.Proofs.Ytbcdmobgefdeaaa
open Go.RowKit

theorem Try.infoClock : (Try.prog.info? 51).map (fun i => (i.zero, i.size, i.bytes)) = some (some (.agg #[.int .i64 0, .int .i64 0]), 2, 16) := by kernel_rfl

set_option maxHeartbeats 2000000 in
set_option maxRecDepth 100000 in
theorem clockSplits_early (z n m : Int) (v : Value) (l : List (Int × Int)) (w : World) (h : Rows2 w v l) (hex : z < 500 ∨ 2000 < z ∨ 5000 < l.length ∨ n < 0 ∨ m < 0 ∨ 549755813888 < n ∨ 549755813888 < m) :
    Calls Try.prog 4 #[.int .i64 z, v, .int .i64 n, .int .i64 m] w fun e w' => e = .returned (.bool true) ∧ Below w.heap.size w w' := by
  obtain ⟨a, cap, rfl, hlen, _, _⟩ := h
  unfold maxLen at hlen
  by_cases hz : 500 ≤ z ∧ z ≤ 2000
  · obtain ⟨z0, z1⟩ := hz
    by_cases hl : 5000 < l.length
    · clear hex
      go_enter Try.func4, Try.ntmps4
      go_wp2_with fail
      refine (works_any _).mono ?_
      rintro e w1 ⟨rfl, hb⟩
      have H1 : Hid (Below w.heap.size w w1) := Lib.hid hb; clear hb
      go_wp2_with fail
      refine (new_ok z z0 z1 _).mono ?_
      rintro e w2 ⟨rfl, hc, ht⟩
      have H2 : Hid (Below w.heap.size w w2) := Lib.hid (below_touch H1.out ht (Nat.le_refl _) (fun _ h => h.elim)); clear ht
      have hB := H1.out.size
      obtain ⟨b0, hb0⟩ : ∃ b, b = w1.heap.size := ⟨_, rfl⟩
      rw [← hb0] at hc hB ⊢
      have C2 := Lib.hid hc; clear hc hb0
      go_wp2_with fail
      go_ret
      exact ⟨rfl, H2.out⟩
    · have d0 : decide ((5000 : Int) < (l.length : Int)) = false := decide_eq_false (by omega)
      by_cases hn : n < 0
      · clear hex
        go_enter Try.func4, Try.ntmps4
        go_wp2_with fail
        refine (works_any _).mono ?_
        rintro e w1 ⟨rfl, hb⟩
        have H1 : Hid (Below w.heap.size w w1) := Lib.hid hb; clear hb
        go_wp2_with fail
        refine (new_ok z z0 z1 _).mono ?_
        rintro e w2 ⟨rfl, hc, ht⟩
        have H2 : Hid (Below w.heap.size w w2) := Lib.hid (below_touch H1.out ht (Nat.le_refl _) (fun _ h => h.elim)); clear ht
        have hB := H1.out.size
        obtain ⟨b0, hb0⟩ : ∃ b, b = w1.heap.size := ⟨_, rfl⟩
        rw [← hb0] at hc hB ⊢
        have C2 := Lib.hid hc; clear hc hb0
        go_wp2_with fail
        go_ret
        exact ⟨rfl, H2.out⟩
      · have d1 : 0 ≤ n := by omega
        by_cases hm : m < 0
        · clear hex
          go_enter Try.func4, Try.ntmps4
          go_wp2_with fail
          refine (works_any _).mono ?_
          rintro e w1 ⟨rfl, hb⟩
          have H1 : Hid (Below w.heap.size w w1) := Lib.hid hb; clear hb
          go_wp2_with fail
          refine (new_ok z z0 z1 _).mono ?_
          rintro e w2 ⟨rfl, hc, ht⟩
          have H2 : Hid (Below w.heap.size w w2) := Lib.hid (below_touch H1.out ht (Nat.le_refl _) (fun _ h => h.elim)); clear ht
          have hB := H1.out.size
          obtain ⟨b0, hb0⟩ : ∃ b, b = w1.heap.size := ⟨_, rfl⟩
          rw [← hb0] at hc hB ⊢
          have C2 := Lib.hid hc; clear hc hb0
          go_wp2_with fail
          go_ret
          exact ⟨rfl, H2.out⟩
        · have d2 : 0 ≤ m := by omega
          by_cases hn2 : 549755813888 < n
          · clear hex
            go_enter Try.func4, Try.ntmps4
            go_wp2_with fail
            refine (works_any _).mono ?_
            rintro e w1 ⟨rfl, hb⟩
            have H1 : Hid (Below w.heap.size w w1) := Lib.hid hb; clear hb
            go_wp2_with fail
            refine (new_ok z z0 z1 _).mono ?_
            rintro e w2 ⟨rfl, hc, ht⟩
            have H2 : Hid (Below w.heap.size w w2) := Lib.hid (below_touch H1.out ht (Nat.le_refl _) (fun _ h => h.elim)); clear ht
            have hB := H1.out.size
            obtain ⟨b0, hb0⟩ : ∃ b, b = w1.heap.size := ⟨_, rfl⟩
            rw [← hb0] at hc hB ⊢
            have C2 := Lib.hid hc; clear hc hb0
            go_wp2_with fail
            go_ret
            exact ⟨rfl, H2.out⟩
          · have d3 : n ≤ 549755813888 := by omega
            have hm2 : 549755813888 < m := by omega
            clear hex hl hn hm hn2
            go_enter Try.func4, Try.ntmps4
            go_wp2_with fail
            refine (works_any _).mono ?_
            rintro e w1 ⟨rfl, hb⟩
            have H1 : Hid (Below w.heap.size w w1) := Lib.hid hb; clear hb
            go_wp2_with fail
            refine (new_ok z z0 z1 _).mono ?_
            rintro e w2 ⟨rfl, hc, ht⟩
            have H2 : Hid (Below w.heap.size w w2) := Lib.hid (below_touch H1.out ht (Nat.le_refl _) (fun _ h => h.elim)); clear ht
            have hB := H1.out.size
            obtain ⟨b0, hb0⟩ : ∃ b, b = w1.heap.size := ⟨_, rfl⟩
            rw [← hb0] at hc hB ⊢
            have C2 := Lib.hid hc; clear hc hb0
            go_wp2_with fail
            go_ret
            exact ⟨rfl, H2.out⟩
  · have hno : z < 500 ∨ 2000 < z := by omega
    clear hz hex
    have HN := Lib.hid hno; clear hno
    go_enter Try.func4, Try.ntmps4
    go_wp2_with fail
    refine (works_any _).mono ?_
    rintro e w1 ⟨rfl, hb⟩
    have H1 : Hid (Below w.heap.size w w1) := Lib.hid hb; clear hb
    go_wp2_with fail
    refine (new_no z HN.out _).mono ?_
    rintro e w2 ⟨rfl, rfl⟩
    go_wp2_with fail
    go_ret
    exact ⟨rfl, H1.out⟩

set_option maxHeartbeats 2000000 in
set_option maxRecDepth 100000 in
theorem clockSplits_main (z n m : Int) (v : Value) (l : List (Int × Int)) (w : World) (h : Rows2 w v l) (z0 : 500 ≤ z) (z1 : z ≤ 2000) (hl : l.length ≤ 5000) (n0 : 0 ≤ n) (m0 : 0 ≤ m) (n1 : n ≤ 549755813888) (m1 : m ≤ 549755813888) :
    Calls Try.prog 4 #[.int .i64 z, v, .int .i64 n, .int .i64 m] w fun e w' => e = .returned (.bool true) ∧ Below w.heap.size w w' := by
  have h' := h
  obtain ⟨a, cap, rfl, _, _, _⟩ := h'
  have HR := Lib.hid h; clear h
  go_enter Try.func4, Try.ntmps4
  go_wp2_with fail
  refine (works_any _).mono ?_
  rintro e w1 ⟨rfl, hb⟩
  have H1 : Hid (Below w.heap.size w w1) := Lib.hid hb; clear hb
  go_wp2_with fail
  refine (new_ok z z0 z1 _).mono ?_
  rintro e w2 ⟨rfl, hc, ht⟩
  have H2 : Hid (Below w.heap.size w w2) := Lib.hid (below_touch H1.out ht (Nat.le_refl _) (fun _ h => h.elim)); clear ht
  have hB := H1.out.size
  obtain ⟨b0, hb0⟩ : ∃ b, b = w1.heap.size := ⟨_, rfl⟩
  rw [← hb0] at hc hB ⊢
  have C2 := Lib.hid hc; clear hc hb0
  go_wp2_with fail
  have K2 : Hid (ClockIs w2 b0 z 0 ∧ Below w.heap.size w w2 ∧ Sane z 0) := Lib.hid ⟨C2.out, H2.out, z0, z1, by omega, by omega⟩
  go_loopw [9, 11] (fun s9 s11 wr => ∃ (k b : Nat) (r g : Int), k ≤ l.length ∧ s11 = .int .i64 k ∧ s9 = .pointer (some ⟨b, 0, none⟩) ∧ w.heap.size ≤ b ∧ (ClockIs wr b r g ∧ Below w.heap.size w wr ∧ Sane r g)) (fun _ s11 _ => (l.length - intOf s11).toNat)
  case atStart => exact ⟨0, b0, z, 0, by omega, rfl, rfl, hB, K2.out⟩
  case round =>
    clear K2 C2 H2 H1
    obtain ⟨k, b, r, g, hk, rfl, rfl, hbB, hK⟩ := hrel
    have K := Lib.hid hK; clear hK
    by_cases hlt : k < l.length
    · obtain ⟨q, off, rfl, hq, c0, c1⟩ := rows2_cells HR.out K.out.2.1 k hlt
      obtain ⟨x, hx⟩ : ∃ x, x = l[k].1 := ⟨_, rfl⟩
      obtain ⟨y, hy⟩ : ∃ y, y = l[k].2 := ⟨_, rfl⟩
      rw [← hx] at c0
      rw [← hy] at c1
      clear hx hy
      go_wp2_with fail
      refine (play_any b r g x y _ K.out.1 K.out.2.2).mono ?_
      rintro e v1 ⟨b', he, hc, ht, hor⟩
      subst he
      have hbB' : w.heap.size ≤ b' := by
        rcases hor with rfl | h
        · exact hbB
        · have := K.out.2.1.size
          omega
      have K1 := Lib.hid (show ClockIs v1 b' (step r g x y).1 (step r g x y).2.1 ∧ Below w.heap.size w v1 ∧ Sane (step r g x y).1 (step r g x y).2.1 from ⟨hc, below_touch K.out.2.1 ht (Nat.le_refl _) (fun i h => by subst h; exact hbB), step_sane K.out.2.2 x y⟩)
      clear hc ht hor c0 c1 K
      go_wp2_with fail
      go_roundw
      case rel => exact ⟨k + 1, b', _, _, by omega, by go_num, rfl, hbB', K1.out⟩
      case measure => simp [intOf]; omega
    · obtain rfl : k = l.length := by omega
      clear hlt hk
      obtain ⟨r0, r1, g0, g1⟩ := K.out.2.2
      have hbw := block_lt K.out.1
      go_wp2_with fail
      refine (now_ok b r g _ K.out.1 g0 g1).mono ?_
      rintro e v1 ⟨rfl, rfl⟩
      go_wp2_with fail
      refine (copy_ok b r g _ K.out.1).mono ?_
      rintro e v2 ⟨rfl, hc, ht⟩
      have CA : Hid (ClockIs v2 b r g) := Lib.hid (K.out.1.touch ht (fun h => h))
      have H2 : Hid (Below w.heap.size w v2) := Lib.hid (below_touch K.out.2.1 ht (Nat.le_refl _) (fun _ h => h.elim)); clear ht
      have hcB : w.heap.size ≤ v1.heap.size := K.out.2.1.size
      obtain ⟨c, hcc⟩ : ∃ c, c = v1.heap.size := ⟨_, rfl⟩
      rw [← hcc] at hc hcB hbw ⊢
      have CB := Lib.hid hc; clear hc hcc K
      have hne : ¬ c = b := by omega
      obtain ⟨i0, hi, _, hz1, _⟩ := info_parts Try.infoClock
      have hpe := run_eql_ptr_other v2 (tp := 24) (a := ⟨c, 0, none⟩) (b := ⟨b, 0, none⟩) Try.underlying24 hi (by omega) (by intro h; exact hne (congrArg Addr.block h)) CB.out CA.out
      have hne2 : ¬ b = c := by omega
      have hnm : 0 ≤ n * r := Int.mul_nonneg n0 (by omega)
      have hmm : 0 ≤ m * r := Int.mul_nonneg m0 (by omega)
      have hadd : (n + m) * r = n * r + m * r := Int.add_mul ..
      have NE := Lib.hid hne; have NE2 := Lib.hid hne2
      by_cases h1 : g + (n + m) * r ≤ 1125899906842624999
      · have hq1 : g / 1000 ≤ (g + (n + m) * r) / 1000 := Int.ediv_le_ediv (by omega) (by omega)
        have hle1 : g + n * r ≤ 1125899906842624999 := by omega
        have hle2 : g + n * r + m * r ≤ 1125899906842624999 := by omega
        have heq : g + n * r + m * r = g + (n + m) * r := by omega
        have HE := Lib.hid heq; clear heq hadd
        go_wp2_with fail
        refine (tick_ok b r g (n + m) _ CA.out (by omega) g0 (by omega) (by omega) h1).mono ?_
        rintro e v3 ⟨rfl, hc, ht⟩
        have CA3 := Lib.hid hc
        have CB3 : Hid (ClockIs v3 c r g) := Lib.hid (CB.out.touch ht NE.out)
        have H3 : Hid (Below w.heap.size w v3) := Lib.hid (below_touch H2.out ht (Nat.le_refl _) (fun i h => by subst h; exact hbB)); clear hc ht
        go_wp2_with fail
        refine (tick_ok c r g n _ CB3.out (by omega) g0 n0 (by omega) hle1).mono ?_
        rintro e v4 ⟨rfl, hc, ht⟩
        have CB4 := Lib.hid hc
        have CA4 := Lib.hid (CA3.out.touch ht NE2.out)
        have H4 : Hid (Below w.heap.size w v4) := Lib.hid (below_touch H3.out ht (Nat.le_refl _) (fun i h => by subst h; exact hcB)); clear hc ht
        go_wp2_with fail
        refine (tick_ok c r (g + n * r) m _ CB4.out (by omega) (by omega) m0 (by omega) hle2).mono ?_
        rintro e v5 ⟨rfl, hc, ht⟩
        have CB5 : Hid (ClockIs v5 c r (g + (n + m) * r)) := Lib.hid (by rw [← HE.out]; exact hc)
        have CA5 := Lib.hid (CA4.out.touch ht NE2.out)
        have H5 : Hid (Below w.heap.size w v5) := Lib.hid (below_touch H4.out ht (Nat.le_refl _) (fun i h => by subst h; exact hcB)); clear hc ht
        go_wp2_with fail
        refine (now_ok b r _ _ CA5.out (by omega) h1).mono ?_
        rintro e v6 ⟨rfl, rfl⟩
        go_wp2_with fail
        refine (now_ok c r _ _ CB5.out (by omega) h1).mono ?_
        rintro e v7 ⟨rfl, rfl⟩
        go_wp2_with fail
        refine (now_ok b r _ _ CA5.out (by omega) h1).mono ?_
        rintro e v8 ⟨rfl, rfl⟩
        go_wp2_with fail
        go_ret
        exact ⟨rfl, H5.out⟩
      · have hgt : 1125899906842624999 < g + (n + m) * r := by omega
        clear h1
        by_cases h2 : g + n * r ≤ 1125899906842624999
        · have hgt2 : 1125899906842624999 < g + n * r + m * r := by omega
          clear hadd
          go_wp2_with fail
          refine (tick_no b r g (n + m) _ CA.out (by omega) r1 g0 g1 (.inr (.inr hgt))).mono ?_
          rintro e v3 ⟨rfl, ht⟩
          have CA3 : Hid (ClockIs v3 b r g) := Lib.hid (CA.out.touch ht (fun h => h))
          have CB3 : Hid (ClockIs v3 c r g) := Lib.hid (CB.out.touch ht (fun h => h))
          have H3 : Hid (Below w.heap.size w v3) := Lib.hid (below_touch H2.out ht (Nat.le_refl _) (fun _ h => h.elim)); clear ht
          go_wp2_with fail
          refine (tick_ok c r g n _ CB3.out (by omega) g0 n0 (by omega) h2).mono ?_
          rintro e v4 ⟨rfl, hc, ht⟩
          have CB4 := Lib.hid hc
          have CA4 := Lib.hid (CA3.out.touch ht NE2.out)
          have H4 : Hid (Below w.heap.size w v4) := Lib.hid (below_touch H3.out ht (Nat.le_refl _) (fun i h => by subst h; exact hcB)); clear hc ht
          go_wp2_with fail
          refine (tick_no c r (g + n * r) m _ CB4.out (by omega) r1 (by omega) h2 (.inr (.inr hgt2))).mono ?_
          rintro e v5 ⟨rfl, ht⟩
          have CA5 : Hid (ClockIs v5 b r g) := Lib.hid (CA4.out.touch ht (fun h => h))
          have H5 : Hid (Below w.heap.size w v5) := Lib.hid (below_touch H4.out ht (Nat.le_refl _) (fun _ h => h.elim)); clear ht
          go_wp2_with fail
          refine (now_ok b r _ _ CA5.out g0 g1).mono ?_
          rintro e v8 ⟨rfl, rfl⟩
          go_wp2_with fail
          go_ret
          exact ⟨rfl, H5.out⟩
        · have hgt2 : 1125899906842624999 < g + n * r := by omega
          clear hadd h2
          go_wp2_with fail
          refine (tick_no b r g (n + m) _ CA.out (by omega) r1 g0 g1 (.inr (.inr hgt))).mono ?_
          rintro e v3 ⟨rfl, ht⟩
          have CA3 : Hid (ClockIs v3 b r g) := Lib.hid (CA.out.touch ht (fun h => h))
          have CB3 : Hid (ClockIs v3 c r g) := Lib.hid (CB.out.touch ht (fun h => h))
          have H3 : Hid (Below w.heap.size w v3) := Lib.hid (below_touch H2.out ht (Nat.le_refl _) (fun _ h => h.elim)); clear ht
          go_wp2_with fail
          refine (tick_no c r g n _ CB3.out (by omega) r1 g0 g1 (.inr (.inr hgt2))).mono ?_
          rintro e v5 ⟨rfl, ht⟩
          have CA5 : Hid (ClockIs v5 b r g) := Lib.hid (CA3.out.touch ht (fun h => h))
          have H5 : Hid (Below w.heap.size w v5) := Lib.hid (below_touch H3.out ht (Nat.le_refl _) (fun _ h => h.elim)); clear ht
          go_wp2_with fail
          refine (now_ok b r _ _ CA5.out g0 g1).mono ?_
          rintro e v8 ⟨rfl, rfl⟩
          go_wp2_with fail
          go_ret
          exact ⟨rfl, H5.out⟩

theorem clockSplits_any (z n m : Int) (v : Value) (l : List (Int × Int)) (w : World) (h : Rows2 w v l) :
    Calls Try.prog 4 #[.int .i64 z, v, .int .i64 n, .int .i64 m] w fun e w' => e = .returned (.bool true) ∧ Below w.heap.size w w' := by
  by_cases hex : z < 500 ∨ 2000 < z ∨ 5000 < l.length ∨ n < 0 ∨ m < 0 ∨ 549755813888 < n ∨ 549755813888 < m
  · exact clockSplits_early z n m v l w h hex
  · exact clockSplits_main z n m v l w h (by omega) (by omega) (by omega) (by omega) (by omega) (by omega) (by omega)

end Go.Proofs.Ytbcdmobgefdeaaa
