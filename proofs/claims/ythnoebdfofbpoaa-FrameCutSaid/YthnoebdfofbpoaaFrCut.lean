/- FrameCut: frames that are cut anywhere. -/
import Derived.Test.YthnoebdfofbpoaaFrPut
import Derived.Test.YthnoebdfofbpoaaFrScan
namespace Go.Proofs.Ythnoebdfofbpoaa
open Go.RowKit

theorem scan_cat (l : List ByteArray) (t s : ByteArray) (hst : s = catS l ++ t) (hq : ∀ q ∈ l, q.size ≤ 4096) (hs : s.size ≤ 1048576) (ht : (takeF t).2.2 ≠ 0) (w : World) :
    Calls Try.prog 11 #[.string s] w fun e W' => ∃ v, e = .returned (.tuple #[v, .int .i64 ((catS l).size : Nat)]) ∧ Ins W' v l ∧ Below w.heap.size w W' := by
  refine (scan_any s hs w).mono ?_
  rintro e W' ⟨v, rfl, hown, hb⟩
  subst hst
  obtain ⟨h1, h2⟩ := frames_cat l t hq hs ht
  rw [h1] at hown
  refine ⟨v, by rw [h2], Strs.ins (B := w.heap.size) ?_, hb⟩
  have hlen : (framesF (catS l ++ t)).length = l.length := by rw [← payF_length, h1]
  rw [hlen] at hown
  exact hown

theorem ends_cell {w : World} {B : Nat} {u : Value} {l : List ByteArray} (h : w.ownsRow B 3 1 u l.length (endsV l l.length)) :
    ∃ ua uc, u = .slice ua l.length uc ∧ ∀ w', Below w.heap.size w w' → ∀ k, k < l.length → ∃ b, ua = some ⟨b, 0, none⟩ ∧ w'.cell? ⟨b, k, none⟩ = some (.int .i64 ((catS (l.take (k + 1))).size : Nat)) := by
  obtain ⟨h1, h2⟩ := h
  rcases h2 with ⟨rfl, h0⟩ | ⟨g, cap, cur, rfl, hB, hg, hcap, hm, hs, ht⟩
  · exact ⟨none, 0, by rw [h0], fun w' hb k hk => by omega⟩
  · refine ⟨_, cap, rfl, fun w' hb k hk => ⟨g, rfl, ?_⟩⟩
    have := World.ownsRow.cellAt (w := w) (base := B) (e := 3) (size := 1) (g := g) (n := l.length) (cap := cap) (xs := endsV l l.length) ⟨h1, .inr ⟨g, cap, cur, rfl, hB, hg, hcap, hm, hs, ht⟩⟩ k (by omega)
    rw [hb.cell (p := ⟨g, k, none⟩) (lt_of_block hg), this]
    simp [endsV, hk]

theorem Ins.take {w : World} {a : Option Addr} {cap : Nat} {l : List ByteArray} (h : Ins w (.slice a l.length cap) l) (n : Nat) (hn : n ≤ l.length) (c : Nat) : Ins w (.slice a n c) (l.take n) := by
  obtain ⟨a', cap', he, hl, h⟩ := h
  cases he
  have hlen : (l.take n).length = n := by rw [List.length_take]; omega
  refine ⟨a, c, by rw [hlen], by rw [hlen]; omega, ?_⟩
  rcases h with rfl | ⟨b, o, rfl, hb, hc⟩
  · exact .inl (by simp)
  · refine .inr ⟨b, o, rfl, hb, fun i hi => ?_⟩
    rw [hlen] at hi
    rw [hc i (by omega)]
    simp [List.getD, hi]

set_option maxHeartbeats 2000000 in
set_option maxRecDepth 100000 in
theorem frameCut_any (v : Value) (z : Int) (l : List ByteArray) (w : World) (h : Held w v l) :
    Calls Try.prog 6 #[v, .int .i64 z] w fun e w' => e = .returned (.bool true) ∧ Below w.heap.size w w' := by
  have h' := h
  obtain ⟨hins, hroom, hsmall, a, cap, rfl, hcap⟩ := h'
  have HI := Lib.hid hins; have HH := Lib.hid h
  clear hins hsmall h
  go_enter Try.func6, Try.ntmps6
  go_wp2_with fail
  refine (frWorks _).mono ?_
  rintro e w1 ⟨rfl, hb⟩
  have B1 := Lib.hid hb; clear hb
  go_wp2_with fail
  have HH1 : Hid (Held w1 (.slice a l.length cap) l) := Lib.hid ⟨HI.out.below B1.out, HH.out.room, HH.out.small, HH.out.fits⟩
  refine (lawPut_any _ l _ HH1.out).mono ?_
  rintro e w2 ⟨hb, hor⟩
  have B2 := Lib.hid (B1.out.trans (hb.mono B1.out.size))
  have I2 := Lib.hid (HI.out.below B2.out)
  clear hb HH HH1 HI
  rcases hor with rfl | ⟨u, rfl, hown, hq, hSz⟩
  · go_wp2_with fail
    go_ret
    exact ⟨rfl, B2.out⟩
  · obtain ⟨ua, uc, rfl, hends⟩ := ends_cell hown
    have HE := Lib.hid hends; have HQ := Lib.hid hq
    clear hown hends hq
    have c1 := fun w => scan_cat l ⟨#[]⟩ (catS l) (app_nil _).symm HQ.out (by omega) (by rw [take_short _ (by decide)]; decide) w
    obtain ⟨S, hS⟩ : ∃ S, S = catS l := ⟨_, rfl⟩
    have HS := Lib.hid hS
    rw [← hS] at c1 hSz ⊢
    have C1 := Lib.hid c1
    clear c1 hS
    go_wp2_with fail
    refine (C1.out _).mono ?_
    rintro e w3 ⟨v3, rfl, hI3, hb⟩
    have B3 := Lib.hid (B2.out.trans (hb.mono B2.out.size))
    have I3 := Lib.hid (I2.out.below hb)
    have HE3 : Hid (∀ w', Below w3.heap.size w3 w' → ∀ k, k < l.length → ∃ b, ua = some ⟨b, 0, none⟩ ∧ w'.cell? ⟨b, k, none⟩ = some (.int .i64 ((catS (l.take (k + 1))).size : Nat))) := Lib.hid (fun w' h => HE.out w' (hb.trans (h.mono hb.size)))
    have J3 := Lib.hid hI3
    clear hb hI3 I2 HE
    go_wp2_with fail
    refine (equal_any J3.out I3.out).mono ?_
    rintro e w4 ⟨rfl, hb⟩
    have hdec : decide (l = l) = true := by simp
    rw [hdec]
    clear hdec
    have B4 := Lib.hid (B3.out.trans (hb.mono B3.out.size))
    have I4 := Lib.hid (I3.out.below hb)
    have J4 := Lib.hid (J3.out.below hb)
    have HE4 : Hid (∀ w', Below w4.heap.size w4 w' → ∀ k, k < l.length → ∃ b, ua = some ⟨b, 0, none⟩ ∧ w'.cell? ⟨b, k, none⟩ = some (.int .i64 ((catS (l.take (k + 1))).size : Nat))) := Lib.hid (fun w' h => HE3.out w' (hb.trans (h.mono hb.size)))
    clear hb I3 J3 HE3
    by_cases h0 : z < 0
    · go_wp2_with fail
      refine (equal_any J4.out I4.out).mono ?_
      rintro e w5 ⟨rfl, hb⟩
      have hdec : decide (l = l) = true := by simp
      rw [hdec]
      have B5 := Lib.hid (B4.out.trans (hb.mono B4.out.size)); clear hb
      go_wp2_with fail
      go_ret
      exact ⟨rfl, B5.out⟩
    · obtain ⟨y, rfl⟩ := Int.eq_ofNat_of_zero_le (show 0 ≤ z by omega)
      clear h0
      by_cases h1 : S.size < y
      · go_wp2_with fail
        refine (equal_any J4.out I4.out).mono ?_
        rintro e w5 ⟨rfl, hb⟩
        have hdec : decide (l = l) = true := by simp
        rw [hdec]
        have B5 := Lib.hid (B4.out.trans (hb.mono B4.out.size)); clear hb
        go_wp2_with fail
        go_ret
        exact ⟨rfl, B5.out⟩
      · have hy : y ≤ S.size := by omega
        have hdy : decide (S.size < y) = false := decide_eq_false h1
        clear h1 J4
        go_wp2_with fail
        go_loop [10, 11] (fun s10 s11 => ∃ n : Nat, s10 = .int .i64 n ∧ s11 = .int .i64 ((catS (l.take n)).size : Nat) ∧ n ≤ l.length ∧ (catS (l.take n)).size ≤ y) (fun s10 _ => (l.length - intOf s10).toNat)
        case atStart => exact ⟨0, rfl, by rw [List.take_zero]; rfl, Nat.zero_le _, by rw [List.take_zero]; exact Nat.zero_le _⟩
        case round =>
          obtain ⟨n, rfl, rfl, hn, hny⟩ := hrel
          by_cases hgo : n < l.length ∧ (catS (l.take (n + 1))).size ≤ y
          · obtain ⟨hlt, hle⟩ := hgo
            obtain ⟨b, rfl, hcell⟩ := HE4.out _ (Below.refl _ _) n hlt
            obtain ⟨x, hx⟩ : ∃ x, x = (catS (l.take (n + 1))).size := ⟨_, rfl⟩
            rw [← hx] at hcell hle
            have HX := Lib.hid hx
            clear hx
            go_wp2_with fail
            go_round
            case rel => exact ⟨n + 1, by go_num, by rw [← HX.out], by omega, by rw [← HX.out]; exact hle⟩
            case measure => simp [intOf]; omega
          · have hend : n < l.length → y < (catS (l.take (n + 1))).size := fun h => by
              rcases Nat.lt_or_ge y (catS (l.take (n + 1))).size with h2 | h2
              · exact h2
              · exact absurd ⟨h, h2⟩ hgo
            have hcut := cut_at l y n HQ.out (by rw [← HS.out]; exact hy) ⟨hn, hny⟩ hend
            rw [← HS.out] at hcut
            obtain ⟨hc1, hc2⟩ := hcut
            have htq : ∀ q ∈ l.take n, q.size ≤ 4096 := fun q hq => HQ.out q (List.mem_of_mem_take hq)
            obtain ⟨W, hW⟩ : ∃ W, W = (catS (l.take n)).size := ⟨_, rfl⟩
            rw [← hW] at hc1 hc2 hny ⊢
            have hz1 : (S.extract 0 y).size ≤ 1048576 := by rw [ByteArray.size_extract]; omega
            have c2 := fun w => scan_cat (l.take n) (S.extract W y) (S.extract 0 y) hc2 htq hz1 (by rw [hc1]; decide) w
            rw [← hW] at c2
            have c3 := fun w => take_any (S.extract W y) (by rw [ByteArray.size_extract]; omega) w
            rw [hc1] at c3
            have I4n := Lib.hid (I4.out.take n hn cap)
            have C2 := Lib.hid c2; have C3 := Lib.hid c3; have HEND := Lib.hid hend
            clear c2 c3 hc1 hc2 htq hW hz1 hend hgo
            by_cases hlt : n < l.length
            · obtain ⟨b, rfl, hcell⟩ := HE4.out _ (Below.refl _ _) n hlt
              obtain ⟨x, hx⟩ : ∃ x, x = (catS (l.take (n + 1))).size := ⟨_, rfl⟩
              have hyx : y < x := by rw [hx]; exact HEND.out hlt
              have hdx : decide (x ≤ y) = false := decide_eq_false (by omega)
              rw [← hx] at hcell
              clear hx
              go_wp2_with fail
              refine (C2.out _).mono ?_
              rintro e w5 ⟨v5, rfl, hI5, hb⟩
              have B5 := Lib.hid (B4.out.trans (hb.mono B4.out.size))
              have I5 := Lib.hid (I4n.out.below hb)
              have J5 := Lib.hid hI5
              clear hb hI5
              go_wp2_with fail
              refine (C3.out _).mono ?_
              rintro e w6 ⟨rfl, hb⟩
              have B6 := Lib.hid (B5.out.trans (hb.mono B5.out.size))
              have I6 := Lib.hid (I5.out.below hb)
              have J6 := Lib.hid (J5.out.below hb)
              clear hb
              go_wp2_with fail
              refine (equal_any J6.out I6.out).mono ?_
              rintro e w7 ⟨rfl, hb⟩
              have hdec : decide (l.take n = l.take n) = true := by simp
              rw [hdec]
              clear hdec
              have B7 := Lib.hid (B6.out.trans (hb.mono B6.out.size)); clear hb
              go_wp2_with fail
              go_ret
              exact ⟨rfl, B7.out⟩
            · obtain rfl : n = l.length := by omega
              go_wp2_with fail
              refine (C2.out _).mono ?_
              rintro e w5 ⟨v5, rfl, hI5, hb⟩
              have B5 := Lib.hid (B4.out.trans (hb.mono B4.out.size))
              have I5 := Lib.hid (I4n.out.below hb)
              have J5 := Lib.hid hI5
              clear hb hI5
              go_wp2_with fail
              refine (C3.out _).mono ?_
              rintro e w6 ⟨rfl, hb⟩
              have B6 := Lib.hid (B5.out.trans (hb.mono B5.out.size))
              have I6 := Lib.hid (I5.out.below hb)
              have J6 := Lib.hid (J5.out.below hb)
              clear hb
              go_wp2_with fail
              refine (equal_any J6.out I6.out).mono ?_
              rintro e w7 ⟨rfl, hb⟩
              have hdec : decide (l.take l.length = l.take l.length) = true := by simp
              rw [hdec]
              clear hdec
              have B7 := Lib.hid (B6.out.trans (hb.mono B6.out.size)); clear hb
              go_wp2_with fail
              go_ret
              exact ⟨rfl, B7.out⟩

end Go.Proofs.Ythnoebdfofbpoaa
