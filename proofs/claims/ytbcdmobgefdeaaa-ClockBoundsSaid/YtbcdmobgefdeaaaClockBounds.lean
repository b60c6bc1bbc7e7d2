/- ClockBounds: what another clock shows stays between Least and Most. -/
import Derived.Test.YtbcdmobgefdeaaaClockPlays
namespace Go.Proofs.Ytbcdmobgefdeaaa
open Go.RowKit

/-- What two clocks have gone since they stood at A0 and B0, while T ticks went by at rates within the bounds. -/
def Went (q A0 B0 T A B : Int) : Prop := 0 ≤ T ∧ (1000 - q) * T ≤ A - A0 ∧ A - A0 ≤ (1000 + q) * T ∧ (1000 - q) * T ≤ B - B0 ∧ B - B0 ≤ (1000 + q) * T

theorem went_zero (q A B : Int) : Went q A B 0 A B := ⟨by omega, by omega, by omega, by omega, by omega⟩

theorem went_step {q A0 B0 T A B N x y : Int} (h : Went q A0 B0 T A B) (hN : 0 ≤ N) (x0 : 1000 - q ≤ x) (x1 : x ≤ 1000 + q) (y0 : 1000 - q ≤ y) (y1 : y ≤ 1000 + q) : Went q A0 B0 (T + N) (A + N * x) (B + N * y) := by
  obtain ⟨h0, h1, h2, h3, h4⟩ := h
  have a1 : N * (1000 - q) ≤ N * x := Int.mul_le_mul_of_nonneg_left x0 hN
  have a2 : N * x ≤ N * (1000 + q) := Int.mul_le_mul_of_nonneg_left x1 hN
  have a3 : N * (1000 - q) ≤ N * y := Int.mul_le_mul_of_nonneg_left y0 hN
  have a4 : N * y ≤ N * (1000 + q) := Int.mul_le_mul_of_nonneg_left y1 hN
  have e1 : (1000 - q) * (T + N) = (1000 - q) * T + N * (1000 - q) := by rw [Int.mul_add, Int.mul_comm N]
  have e2 : (1000 + q) * (T + N) = (1000 + q) * T + N * (1000 + q) := by rw [Int.mul_add, Int.mul_comm N]
  exact ⟨by omega, by omega, by omega, by omega, by omega⟩

theorem bounds_one {q n m T D F : Int} (q0 : 0 ≤ q) (q1 : q ≤ 500) (hT : 0 ≤ T) (h1 : (1000 - q) * T ≤ D) (h2 : D ≤ (1000 + q) * T) (h3 : (1000 - q) * T ≤ F) (h4 : F ≤ (1000 + q) * T)
    (n1 : 1000 * n - 999 ≤ D) (n2 : D ≤ 1000 * n + 999) (m1 : 1000 * m - 999 ≤ F) (m2 : F ≤ 1000 * m + 999) : 0 ≤ n ∧ least n q ≤ m ∧ m ≤ most n q := by
  have t0 : 0 ≤ (1000 - q) * T := Int.mul_nonneg (by omega) hT
  have hn : 0 ≤ n := by omega
  have hm : 0 ≤ m := by omega
  refine ⟨hn, ?_, ?_⟩
  · unfold least
    split
    · exact hm
    · have a1 : tl n q ≤ T := by
        unfold tl
        exact ceil_le (by omega) (by have := Int.mul_comm T (1000 + q); omega)
      have a2 : (1000 - q) * tl n q ≤ (1000 - q) * T := Int.mul_le_mul_of_nonneg_left a1 (by omega)
      have a3 : tl n q * (1000 - q) ≤ F := by rw [Int.mul_comm]; omega
      omega
  · have a1 : T ≤ tm n q := by
      unfold tm
      exact Int.le_ediv_of_mul_le (by omega) (by have := Int.mul_comm T (1000 - q); omega)
    have a2 : (1000 + q) * T ≤ (1000 + q) * tm n q := Int.mul_le_mul_of_nonneg_left a1 (by omega)
    have a3 : F ≤ tm n q * (1000 + q) := by rw [Int.mul_comm (tm n q)]; omega
    unfold most
    omega

theorem bounds_main {q A0 B0 T A B : Int} (q0 : 0 ≤ q) (q1 : q ≤ 500) (h : Went q A0 B0 T A B) :
    0 ≤ A / 1000 - A0 / 1000 ∧ least (A / 1000 - A0 / 1000) q ≤ B / 1000 - B0 / 1000 ∧ B / 1000 - B0 / 1000 ≤ most (A / 1000 - A0 / 1000) q ∧ least (A / 1000 - A0 / 1000) q ≤ A / 1000 - A0 / 1000 ∧ A / 1000 - A0 / 1000 ≤ most (A / 1000 - A0 / 1000) q := by
  obtain ⟨h0, h1, h2, h3, h4⟩ := h
  have r1 := bounds_one (n := A / 1000 - A0 / 1000) (m := B / 1000 - B0 / 1000) q0 q1 h0 h1 h2 h3 h4 (by omega) (by omega) (by omega) (by omega)
  have r2 := bounds_one (n := A / 1000 - A0 / 1000) (m := A / 1000 - A0 / 1000) q0 q1 h0 h1 h2 h1 h2 (by omega) (by omega) (by omega) (by omega)
  exact ⟨r1.1, r1.2.1, r1.2.2, r2.2.1, r2.2.2⟩

/-- The cells of row k. -/
theorem rows3_cells {w w' : World} {a : Option Addr} {n cap : Nat} {l : List (Int × Int × Int)} (h : Rows3 w (.slice a n cap) l) (hb : Below w.heap.size w w') (k : Nat) (hk : k < l.length) :
    ∃ b off, a = some ⟨b, off, none⟩ ∧ b < w.heap.size ∧ w'.cell? ⟨b, off + k * 3, none⟩ = some (.int .i64 l[k].1) ∧ w'.cell? ⟨b, off + k * 3 + 1, none⟩ = some (.int .i64 l[k].2.1) ∧ w'.cell? ⟨b, off + k * 3 + 2, none⟩ = some (.int .i64 l[k].2.2) := by
  obtain ⟨a', cap', hv, _, h1, _⟩ := h
  simp only [Value.slice.injEq] at hv
  obtain ⟨rfl, rfl, rfl⟩ := hv
  rcases h1 with rfl | ⟨b, off, rfl, hbl, hc⟩
  · simp at hk
  · refine ⟨b, off, rfl, hbl, ?_, ?_, ?_⟩
    · rw [hb.cell hbl]; exact (hc k hk).1
    · rw [hb.cell hbl]; exact (hc k hk).2.1
    · rw [hb.cell hbl]; exact (hc k hk).2.2

/-- Both clocks stand in a world that is as w was below. -/
def Pair (w : World) (a b : Nat) (rA A rB B : Int) (wr : World) : Prop := ClockIs wr a rA A ∧ ClockIs wr b rB B ∧ Below w.heap.size w wr

theorem Pair.touch {w : World} {a b : Nat} {rA A rB B : Int} {wr wx : World} (h : Pair w a b rA A rB B wr) (ht : Touch (fun _ => False) wr wx) : Pair w a b rA A rB B wx :=
  ⟨h.1.touch ht (fun x => x), h.2.1.touch ht (fun x => x), below_touch h.2.2 ht (Nat.le_refl _) (fun _ x => x.elim)⟩

set_option maxHeartbeats 4000000 in
set_option maxRecDepth 100000 in
theorem clockBounds_any (q : Int) (v1 v2 : Value) (l1 l2 : List (Int × Int × Int)) (w : World) (h1 : Rows3 w v1 l1) (h2 : Rows3 w v2 l2) :
    Calls Try.prog 5 #[.int .i64 q, v1, v2] w fun e w' => e = .returned (.bool true) ∧ Below w.heap.size w w' := by
  have h1' := h1
  have h2' := h2
  obtain ⟨a1, cap1, rfl, hlen1, _, _⟩ := h1'
  obtain ⟨a2, cap2, rfl, hlen2, _, _⟩ := h2'
  unfold maxLen at hlen1 hlen2
  have HR1 := Lib.hid h1; clear h1
  have HR2 := Lib.hid h2; clear h2
  by_cases q0 : q < 0
  · go_enter Try.func5, Try.ntmps5
    go_wp2_with fail
    refine (works_any _).mono ?_
    rintro e w1 ⟨rfl, hb⟩
    have H1 : Hid (Below w.heap.size w w1) := Lib.hid hb; clear hb
    go_wp2_with fail
    go_ret
    exact ⟨rfl, H1.out⟩
  · have q0' : 0 ≤ q := by omega
    clear q0
    by_cases q1 : 500 < q
    · go_enter Try.func5, Try.ntmps5
      go_wp2_with fail
      refine (works_any _).mono ?_
      rintro e w1 ⟨rfl, hb⟩
      have H1 : Hid (Below w.heap.size w w1) := Lib.hid hb; clear hb
      go_wp2_with fail
      go_ret
      exact ⟨rfl, H1.out⟩
    · have q1' : q ≤ 500 := by omega
      clear q1
      by_cases k1 : 2000 < l1.length
      · go_enter Try.func5, Try.ntmps5
        go_wp2_with fail
        refine (works_any _).mono ?_
        rintro e w1 ⟨rfl, hb⟩
        have H1 : Hid (Below w.heap.size w w1) := Lib.hid hb; clear hb
        go_wp2_with fail
        go_ret
        exact ⟨rfl, H1.out⟩
      · have d1 : decide ((2000 : Int) < (l1.length : Int)) = false := decide_eq_false (by omega)
        by_cases k2 : 2000 < l2.length
        · go_enter Try.func5, Try.ntmps5
          go_wp2_with fail
          refine (works_any _).mono ?_
          rintro e w1 ⟨rfl, hb⟩
          have H1 : Hid (Below w.heap.size w w1) := Lib.hid hb; clear hb
          go_wp2_with fail
          go_ret
          exact ⟨rfl, H1.out⟩
        · have d2 : decide ((2000 : Int) < (l2.length : Int)) = false := decide_eq_false (by omega)
          go_enter Try.func5, Try.ntmps5
          go_wp2_with fail
          refine (works_any _).mono ?_
          rintro e w1 ⟨rfl, hb⟩
          have H1 : Hid (Below w.heap.size w w1) := Lib.hid hb; clear hb
          go_wp2_with fail
          refine (new_ok 1000 (by omega) (by omega) _).mono ?_
          rintro e w2 ⟨rfl, hc, ht⟩
          have H2 : Hid (Below w.heap.size w w2) := Lib.hid (below_touch H1.out ht (Nat.le_refl _) (fun _ h => h.elim)); clear ht
          have haB := H1.out.size
          obtain ⟨a, ha⟩ : ∃ b, b = w1.heap.size := ⟨_, rfl⟩
          rw [← ha] at hc haB ⊢
          have C2 := Lib.hid hc; clear hc ha
          go_wp2_with fail
          refine (new_ok 1000 (by omega) (by omega) _).mono ?_
          rintro e w3 ⟨rfl, hc, ht⟩
          have hbB := H2.out.size
          have hab : a < w2.heap.size := block_lt C2.out
          have C3 := Lib.hid (C2.out.touch ht (fun h => h))
          have H3 : Hid (Below w.heap.size w w3) := Lib.hid (below_touch H2.out ht (Nat.le_refl _) (fun _ h => h.elim)); clear ht
          obtain ⟨b, hb⟩ : ∃ b, b = w2.heap.size := ⟨_, rfl⟩
          rw [← hb] at hc hbB hab ⊢
          have K3 : Hid (Pair w a b 1000 0 1000 0 w3) := Lib.hid ⟨C3.out, hc, H3.out⟩; clear hc hb C2 C3 H2 H1 H3
          go_wp2_with fail
          go_loopw [11, 12, 13] (fun s11 s12 s13 wr => ∃ (t X Y rA A rB B A0 B0 T : Int), (t = 0 ∨ t = 1 ∨ t = 2) ∧ s13 = .int .i64 t ∧ s11 = .int .i64 X ∧ s12 = .int .i64 Y ∧ 0 ≤ A ∧ 0 ≤ B ∧ A ≤ t * 805306368000000 ∧ B ≤ t * 805306368000000 ∧ Pair w a b rA A rB B wr ∧
            (t = 2 → X = A0 / 1000 ∧ Y = B0 / 1000 ∧ 0 ≤ A0 ∧ 0 ≤ B0 ∧ A0 ≤ 805306368000000 ∧ B0 ≤ 805306368000000 ∧ Went q A0 B0 T A B)) (fun _ _ s13 _ => (2 - intOf s13).toNat)
          case atStart => exact ⟨0, 0, 0, 1000, 0, 1000, 0, 0, 0, 0, .inl rfl, rfl, rfl, rfl, by omega, by omega, by omega, by omega, K3.out, by omega⟩
          case round =>
            clear K3
            obtain ⟨t, X, Y, rA, A, rB, B, A0, B0, T, ht2, rfl, rfl, rfl, hA0, hB0, hA1, hB1, hK, hT⟩ := hrel
            have K := Lib.hid hK; clear hK
            rcases ht2 with rfl | rfl | rfl
            · clear hT
              go_wp2_with fail
              obtain ⟨wo, rfl⟩ : ∃ wo : World, wo = wr := ⟨_, rfl⟩
              have hAs : A ≤ 805306368000000 := by omega
              have hBs : B ≤ 805306368000000 := by omega
              have WZ : Hid (Went q A B 0 A B ∧ Pair w a b rA A rB B wo) := Lib.hid ⟨went_zero q A B, K.out⟩
              go_loopw [15] (fun s15 wi => ∃ (i : Nat) (T r1 x r2 y : Int), i ≤ l1.length ∧ s15 = .int .i64 i ∧ A ≤ x ∧ B ≤ y ∧ x ≤ A + i * 402653184000 ∧ y ≤ B + i * 402653184000 ∧ (Went q A B T x y ∧ Pair w a b r1 x r2 y wi)) (fun s15 _ => (l1.length - intOf s15).toNat)
              case atStart => exact ⟨0, 0, rA, A, rB, B, by omega, rfl, by omega, by omega, by omega, by omega, WZ.out⟩
              case round =>
                clear WZ K
                obtain ⟨i, T, r1, x, r2, y, hi, rfl, hx0, hy0, hx1, hy1, hKi⟩ := hrel
                have KI := Lib.hid hKi; clear hKi
                by_cases hil : i < l1.length
                · obtain ⟨qb, off, rfl, hqb, c0, c1, c2⟩ := rows3_cells HR1.out KI.out.2.2.2 i hil
                  obtain ⟨N, hN⟩ : ∃ x, x = l1[i].1 := ⟨_, rfl⟩
                  obtain ⟨One, hOne⟩ : ∃ x, x = l1[i].2.1 := ⟨_, rfl⟩
                  obtain ⟨Oth, hOth⟩ : ∃ x, x = l1[i].2.2 := ⟨_, rfl⟩
                  rw [← hN] at c0
                  rw [← hOne] at c1
                  rw [← hOth] at c2
                  clear hN hOne hOth
                  have hA3 : Hid (∀ o, Below w.heap.size w (wr.alloc o)) := Lib.hid (fun o => KI.out.2.2.2.alloc KI.out.2.2.2.size o)
                  by_cases g0 : N < 0
                  · go_wp2_with fail
                    go_ret
                    exact ⟨rfl, hA3.out _⟩
                  · have p0 : 0 ≤ N := by omega
                    clear g0
                    by_cases g1 : 268435456 < N
                    · go_wp2_with fail
                      go_ret
                      exact ⟨rfl, hA3.out _⟩
                    · have p1 : N ≤ 268435456 := by omega
                      clear g1
                      by_cases g2 : One < 1000 - q
                      · go_wp2_with fail
                        go_ret
                        exact ⟨rfl, hA3.out _⟩
                      · have p2 : 1000 - q ≤ One := by omega
                        clear g2
                        by_cases g3 : 1000 + q < One
                        · go_wp2_with fail
                          go_ret
                          exact ⟨rfl, hA3.out _⟩
                        · have p3 : One ≤ 1000 + q := by omega
                          clear g3
                          by_cases g4 : Oth < 1000 - q
                          · go_wp2_with fail
                            go_ret
                            exact ⟨rfl, hA3.out _⟩
                          · have p4 : 1000 - q ≤ Oth := by omega
                            clear g4
                            by_cases g5 : 1000 + q < Oth
                            · go_wp2_with fail
                              go_ret
                              exact ⟨rfl, hA3.out _⟩
                            · have p5 : Oth ≤ 1000 + q := by omega
                              clear g5
                              have m0 : 0 ≤ N * One := Int.mul_nonneg p0 (by omega)
                              have m1 : N * One ≤ 268435456 * 1500 := Int.mul_le_mul p1 (by omega) (by omega) (by omega)
                              have m2 : 0 ≤ N * Oth := Int.mul_nonneg p0 (by omega)
                              have m3 : N * Oth ≤ 268435456 * 1500 := Int.mul_le_mul p1 (by omega) (by omega) (by omega)
                              have hP : a < wr.heap.size := block_lt KI.out.2.1
                              have hP2 : b < wr.heap.size := block_lt KI.out.2.2.1
                              go_wp2_with fail
                              have kp : Pair w a b r1 x r2 y (wr.alloc (.cells #[.int .i64 N, .int .i64 One, .int .i64 Oth] 44)) := KI.out.2.touch ((Touch.refl _ _).alloc _)
                              have kn : (wr.alloc (.cells #[.int .i64 N, .int .i64 One, .int .i64 Oth] 44)).heap[wr.heap.size]? = some (.cells #[.int .i64 N, .int .i64 One, .int .i64 Oth] 44) := new_of _ _
                              have hbig : w.heap.size ≤ wr.heap.size := KI.out.2.2.2.size
                              have WW := Lib.hid KI.out.1
                              clear c0 c1 c2 hA3 KI
                              generalize (wr.alloc (.cells #[.int .i64 N, .int .i64 One, .int .i64 Oth] 44)) = wj at kp kn ⊢
                              generalize wr.heap.size = D at hP hP2 kn hbig ⊢
                              have KP := Lib.hid kp; have KN := Lib.hid kn; clear kp kn
                              refine (rate_ok a r1 x One _ KP.out.1 (by omega) (by omega)).mono ?_
                              rintro e u1 ⟨rfl, hc, ht⟩
                              have KN1 : Hid (u1.heap[D]? = some (.cells #[.int .i64 N, .int .i64 One, .int .i64 Oth] 44)) := Lib.hid (ht.stays KN.out (by omega))
                              have KP1 : Hid (Pair w a b One x r2 y u1) := Lib.hid ⟨hc, KP.out.2.1.touch ht (by omega), below_touch KP.out.2.2 ht (Nat.le_refl _) (fun i h => by subst h; exact haB)⟩
                              clear hc ht KN KP
                              have z0 : u1.cell? ⟨D, 2, none⟩ = some (.int .i64 Oth) := cell_of KN1.out 2
                              go_wp2_with fail
                              refine (rate_ok b r2 y Oth _ KP1.out.2.1 (by omega) (by omega)).mono ?_
                              rintro e u2 ⟨rfl, hc, ht⟩
                              have KN2 : Hid (u2.heap[D]? = some (.cells #[.int .i64 N, .int .i64 One, .int .i64 Oth] 44)) := Lib.hid (ht.stays KN1.out (by omega))
                              have KP2 : Hid (Pair w a b One x Oth y u2) := Lib.hid ⟨KP1.out.1.touch ht (by omega), hc, below_touch KP1.out.2.2 ht (Nat.le_refl _) (fun i h => by subst h; exact hbB)⟩
                              clear hc ht KN1 KP1 z0
                              have z0 : u2.cell? ⟨D, 0, none⟩ = some (.int .i64 N) := cell_of KN2.out 0
                              go_wp2_with fail
                              refine (tick_ok a One x N _ KP2.out.1 (by omega) (by omega) p0 (by omega) (by omega)).mono ?_
                              rintro e u3 ⟨rfl, hc, ht⟩
                              have KN3 : Hid (u3.heap[D]? = some (.cells #[.int .i64 N, .int .i64 One, .int .i64 Oth] 44)) := Lib.hid (ht.stays KN2.out (by omega))
                              have KP3 : Hid (Pair w a b One (x + N * One) Oth y u3) := Lib.hid ⟨hc, KP2.out.2.1.touch ht (by omega), below_touch KP2.out.2.2 ht (Nat.le_refl _) (fun i h => by subst h; exact haB)⟩
                              clear hc ht KN2 KP2 z0
                              have z0 : u3.cell? ⟨D, 0, none⟩ = some (.int .i64 N) := cell_of KN3.out 0
                              go_wp2_with fail
                              refine (tick_ok b Oth y N _ KP3.out.2.1 (by omega) (by omega) p0 (by omega) (by omega)).mono ?_
                              rintro e u4 ⟨rfl, hc, ht⟩
                              have KP4 : Hid (Pair w a b One (x + N * One) Oth (y + N * Oth) u4) := Lib.hid ⟨KP3.out.1.touch ht (by omega), hc, below_touch KP3.out.2.2 ht (Nat.le_refl _) (fun i h => by subst h; exact hbB)⟩
                              clear hc ht KN3 KP3 z0
                              go_wp2_with fail
                              go_roundw
                              case rel => exact ⟨i + 1, T + N, One, x + N * One, Oth, y + N * Oth, by omega, by go_num, by omega, by omega, by omega, by omega, went_step WW.out p0 p2 p3 p4 p5, KP4.out⟩
                              case measure => simp [intOf]; omega
                · obtain rfl : i = l1.length := by omega
                  clear hil hi
                  go_wp2_with fail
                  go_roundw
                  case rel => exact ⟨1, X, Y, r1, x, r2, y, 0, 0, 0, .inr (.inl rfl), rfl, rfl, rfl, by omega, by omega, by omega, by omega, KI.out.2, by omega⟩
                  case measure => simp [intOf]
            · clear hT
              go_wp2_with fail
              refine (now_ok a rA A _ K.out.1 hA0 (by omega)).mono ?_
              rintro e y1 ⟨rfl, rfl⟩
              go_wp2_with fail
              refine (now_ok b rB B _ K.out.2.1 hB0 (by omega)).mono ?_
              rintro e y2 ⟨rfl, rfl⟩
              go_wp2_with fail
              obtain ⟨wo, rfl⟩ : ∃ wo : World, wo = y2 := ⟨_, rfl⟩
              have hAs : A ≤ 805306368000000 := by omega
              have hBs : B ≤ 805306368000000 := by omega
              have WZ : Hid (Went q A B 0 A B ∧ Pair w a b rA A rB B wo) := Lib.hid ⟨went_zero q A B, K.out⟩
              go_loopw [15] (fun s15 wi => ∃ (i : Nat) (T r1 x r2 y : Int), i ≤ l2.length ∧ s15 = .int .i64 i ∧ A ≤ x ∧ B ≤ y ∧ x ≤ A + i * 402653184000 ∧ y ≤ B + i * 402653184000 ∧ (Went q A B T x y ∧ Pair w a b r1 x r2 y wi)) (fun s15 _ => (l2.length - intOf s15).toNat)
              case atStart => exact ⟨0, 0, rA, A, rB, B, by omega, rfl, by omega, by omega, by omega, by omega, WZ.out⟩
              case round =>
                clear WZ K
                obtain ⟨i, T, r1, x, r2, y, hi, rfl, hx0, hy0, hx1, hy1, hKi⟩ := hrel
                have KI := Lib.hid hKi; clear hKi
                by_cases hil : i < l2.length
                · obtain ⟨qb, off, rfl, hqb, c0, c1, c2⟩ := rows3_cells HR2.out KI.out.2.2.2 i hil
                  obtain ⟨N, hN⟩ : ∃ x, x = l2[i].1 := ⟨_, rfl⟩
                  obtain ⟨One, hOne⟩ : ∃ x, x = l2[i].2.1 := ⟨_, rfl⟩
                  obtain ⟨Oth, hOth⟩ : ∃ x, x = l2[i].2.2 := ⟨_, rfl⟩
                  rw [← hN] at c0
                  rw [← hOne] at c1
                  rw [← hOth] at c2
                  clear hN hOne hOth
                  have hA3 : Hid (∀ o, Below w.heap.size w (wr.alloc o)) := Lib.hid (fun o => KI.out.2.2.2.alloc KI.out.2.2.2.size o)
                  by_cases g0 : N < 0
                  · go_wp2_with fail
                    go_ret
                    exact ⟨rfl, hA3.out _⟩
                  · have p0 : 0 ≤ N := by omega
                    clear g0
                    by_cases g1 : 268435456 < N
                    · go_wp2_with fail
                      go_ret
                      exact ⟨rfl, hA3.out _⟩
                    · have p1 : N ≤ 268435456 := by omega
                      clear g1
                      by_cases g2 : One < 1000 - q
                      · go_wp2_with fail
                        go_ret
                        exact ⟨rfl, hA3.out _⟩
                      · have p2 : 1000 - q ≤ One := by omega
                        clear g2
                        by_cases g3 : 1000 + q < One
                        · go_wp2_with fail
                          go_ret
                          exact ⟨rfl, hA3.out _⟩
                        · have p3 : One ≤ 1000 + q := by omega
                          clear g3
                          by_cases g4 : Oth < 1000 - q
                          · go_wp2_with fail
                            go_ret
                            exact ⟨rfl, hA3.out _⟩
                          · have p4 : 1000 - q ≤ Oth := by omega
                            clear g4
                            by_cases g5 : 1000 + q < Oth
                            · go_wp2_with fail
                              go_ret
                              exact ⟨rfl, hA3.out _⟩
                            · have p5 : Oth ≤ 1000 + q := by omega
                              clear g5
                              have m0 : 0 ≤ N * One := Int.mul_nonneg p0 (by omega)
                              have m1 : N * One ≤ 268435456 * 1500 := Int.mul_le_mul p1 (by omega) (by omega) (by omega)
                              have m2 : 0 ≤ N * Oth := Int.mul_nonneg p0 (by omega)
                              have m3 : N * Oth ≤ 268435456 * 1500 := Int.mul_le_mul p1 (by omega) (by omega) (by omega)
                              have hP : a < wr.heap.size := block_lt KI.out.2.1
                              have hP2 : b < wr.heap.size := block_lt KI.out.2.2.1
                              go_wp2_with fail
                              have kp : Pair w a b r1 x r2 y (wr.alloc (.cells #[.int .i64 N, .int .i64 One, .int .i64 Oth] 44)) := KI.out.2.touch ((Touch.refl _ _).alloc _)
                              have kn : (wr.alloc (.cells #[.int .i64 N, .int .i64 One, .int .i64 Oth] 44)).heap[wr.heap.size]? = some (.cells #[.int .i64 N, .int .i64 One, .int .i64 Oth] 44) := new_of _ _
                              have hbig : w.heap.size ≤ wr.heap.size := KI.out.2.2.2.size
                              have WW := Lib.hid KI.out.1
                              clear c0 c1 c2 hA3 KI
                              generalize (wr.alloc (.cells #[.int .i64 N, .int .i64 One, .int .i64 Oth] 44)) = wj at kp kn ⊢
                              generalize wr.heap.size = D at hP hP2 kn hbig ⊢
                              have KP := Lib.hid kp; have KN := Lib.hid kn; clear kp kn
                              refine (rate_ok a r1 x One _ KP.out.1 (by omega) (by omega)).mono ?_
                              rintro e u1 ⟨rfl, hc, ht⟩
                              have KN1 : Hid (u1.heap[D]? = some (.cells #[.int .i64 N, .int .i64 One, .int .i64 Oth] 44)) := Lib.hid (ht.stays KN.out (by omega))
                              have KP1 : Hid (Pair w a b One x r2 y u1) := Lib.hid ⟨hc, KP.out.2.1.touch ht (by omega), below_touch KP.out.2.2 ht (Nat.le_refl _) (fun i h => by subst h; exact haB)⟩
                              clear hc ht KN KP
                              have z0 : u1.cell? ⟨D, 2, none⟩ = some (.int .i64 Oth) := cell_of KN1.out 2
                              go_wp2_with fail
                              refine (rate_ok b r2 y Oth _ KP1.out.2.1 (by omega) (by omega)).mono ?_
                              rintro e u2 ⟨rfl, hc, ht⟩
                              have KN2 : Hid (u2.heap[D]? = some (.cells #[.int .i64 N, .int .i64 One, .int .i64 Oth] 44)) := Lib.hid (ht.stays KN1.out (by omega))
                              have KP2 : Hid (Pair w a b One x Oth y u2) := Lib.hid ⟨KP1.out.1.touch ht (by omega), hc, below_touch KP1.out.2.2 ht (Nat.le_refl _) (fun i h => by subst h; exact hbB)⟩
                              clear hc ht KN1 KP1 z0
                              have z0 : u2.cell? ⟨D, 0, none⟩ = some (.int .i64 N) := cell_of KN2.out 0
                              go_wp2_with fail
                              refine (tick_ok a One x N _ KP2.out.1 (by omega) (by omega) p0 (by omega) (by omega)).mono ?_
                              rintro e u3 ⟨rfl, hc, ht⟩
                              have KN3 : Hid (u3.heap[D]? = some (.cells #[.int .i64 N, .int .i64 One, .int .i64 Oth] 44)) := Lib.hid (ht.stays KN2.out (by omega))
                              have KP3 : Hid (Pair w a b One (x + N * One) Oth y u3) := Lib.hid ⟨hc, KP2.out.2.1.touch ht (by omega), below_touch KP2.out.2.2 ht (Nat.le_refl _) (fun i h => by subst h; exact haB)⟩
                              clear hc ht KN2 KP2 z0
                              have z0 : u3.cell? ⟨D, 0, none⟩ = some (.int .i64 N) := cell_of KN3.out 0
                              go_wp2_with fail
                              refine (tick_ok b Oth y N _ KP3.out.2.1 (by omega) (by omega) p0 (by omega) (by omega)).mono ?_
                              rintro e u4 ⟨rfl, hc, ht⟩
                              have KP4 : Hid (Pair w a b One (x + N * One) Oth (y + N * Oth) u4) := Lib.hid ⟨KP3.out.1.touch ht (by omega), hc, below_touch KP3.out.2.2 ht (Nat.le_refl _) (fun i h => by subst h; exact hbB)⟩
                              clear hc ht KN3 KP3 z0
                              go_wp2_with fail
                              go_roundw
                              case rel => exact ⟨i + 1, T + N, One, x + N * One, Oth, y + N * Oth, by omega, by go_num, by omega, by omega, by omega, by omega, went_step WW.out p0 p2 p3 p4 p5, KP4.out⟩
                              case measure => simp [intOf]; omega
                · obtain rfl : i = l2.length := by omega
                  clear hil hi
                  go_wp2_with fail
                  go_roundw
                  case rel => exact ⟨2, A / 1000, B / 1000, r1, x, r2, y, A, B, T, .inr (.inr rfl), rfl, rfl, rfl, by omega, by omega, by omega, by omega, KI.out.2, fun _ => ⟨rfl, rfl, hA0, hB0, by omega, by omega, KI.out.1⟩⟩
                  case measure => simp [intOf]
            · obtain ⟨rfl, rfl, a0, b0, a1', b1', hW⟩ := hT rfl
              obtain ⟨m1, m2, m3, m4, m5⟩ := bounds_main q0' q1' hW
              clear hT hW
              have hn1 : A / 1000 - A0 / 1000 ≤ A := by omega
              by_cases hbig : 1099511627776 < A / 1000 - A0 / 1000
              · go_wp2_with fail
                refine (now_ok a rA A _ K.out.1 hA0 (by omega)).mono ?_
                rintro e v1 ⟨rfl, rfl⟩
                go_wp2_with fail
                refine (now_ok b rB B _ K.out.2.1 hB0 (by omega)).mono ?_
                rintro e v2 ⟨rfl, rfl⟩
                go_wp2_with fail
                go_ret
                exact ⟨rfl, K.out.2.2⟩
              · go_wp2_with fail
                refine (now_ok a rA A _ K.out.1 hA0 (by omega)).mono ?_
                rintro e v1 ⟨rfl, rfl⟩
                go_wp2_with fail
                refine (now_ok b rB B _ K.out.2.1 hB0 (by omega)).mono ?_
                rintro e v2 ⟨rfl, rfl⟩
                go_wp2_with fail
                refine (most_ok (A / 1000 - A0 / 1000) q m1 (by omega) q0' q1' _).mono ?_
                rintro e v3 ⟨rfl, rfl⟩
                go_wp2_with fail
                refine (least_ok (A / 1000 - A0 / 1000) q m1 (by omega) q0' q1' _).mono ?_
                rintro e v4 ⟨rfl, rfl⟩
                go_wp2_with fail
                go_ret
                exact ⟨rfl, K.out.2.2⟩

end Go.Proofs.Ytbcdmobgefdeaaa
