/- 'dragomanlaw01.WireCut': the walk: true, whatever the input. -/
import Derived.Test.YtdcofbkmflemfaaCutPure
import Derived.Test.YtdcofbkmflemfaaBack2
namespace Go.Proofs.Ytdcofbkmflemfaa
open Go.RowKit

set_option maxHeartbeats 1000000 in
theorem cut_long (s : ByteArray) (n : Int) (v : Value) (l : List ByteArray) (W : World) (h : Held W v l) (hl : 1024 < l.length) :
    Calls Try.prog 7 #[.string s, v, .int .i64 n] W fun e w' => e = .returned (.bool true) ∧ Below W.heap.size W w' := by
  obtain ⟨ao, cap, rfl, hlm, _⟩ := h.ins
  have HC := Lib.hid (Held.cells h.ins)
  clear h
  go_enter Try.func7, Try.ntmps7
  go_wp2_with fail
  refine (works_any _).mono ?_
  rintro e w1 ⟨rfl, hb⟩
  have H1 := Lib.hid hb; clear hb
  go_wp2_with fail
  go_loop [7, 9, 23] (fun s13 _ s28 => ∃ (z : Int) (k : Nat), k ≤ l.length ∧ s28 = .int .i64 k ∧ s13 = .int .i64 z) (fun _ _ s28 => (l.length - intOf s28).toNat)
  case atStart => exact ⟨_, 0, Nat.zero_le _, rfl, rfl⟩
  case round =>
    obtain ⟨z, k, hk, rfl, rfl⟩ := hrel
    by_cases hlt : k < l.length
    · obtain ⟨bb, o, rfl, hc⟩ := HC.out w1 H1.out k hlt
      go_wp2_with fail
      go_round
      case rel => exact ⟨_, k + 1, by omega, by go_num, rfl⟩
      case measure => simp [intOf]; omega
    · go_wp2_with fail
      all_goals
        go_ret
        exact ⟨rfl, H1.out⟩

set_option maxHeartbeats 4000000 in
set_option maxRecDepth 100000 in
theorem cut_main (s : ByteArray) (n : Int) (v : Value) (l : List ByteArray) (W : World) (h : Held W v l) (hl : l.length ≤ 1024) (hs : s.size ≤ 140737488351232) :
    Calls Try.prog 7 #[.string s, v, .int .i64 n] W fun e w' => e = .returned (.bool true) ∧ Below W.heap.size W w' := by
  have hIns := h.ins
  obtain ⟨ao, cap, rfl, hlm, _⟩ := h.ins
  have HC := Lib.hid (Held.cells h.ins)
  have HI := Lib.hid hIns
  have htot := total_small h.small hl
  clear h hIns
  go_enter Try.func7, Try.ntmps7
  go_wp2_with fail
  refine (works_any _).mono ?_
  rintro e w1 ⟨rfl, hb⟩
  have H1 := Lib.hid hb; clear hb
  go_wp2_with fail
  go_loop [7, 9, 23] (fun s13 _ s28 => AllRel l s.size s13 s28) (fun _ _ s28 => (l.length - intOf s28).toNat)
  case atStart => exact ⟨0, Nat.zero_le _, rfl, by simp [total]⟩
  case round =>
    obtain ⟨k, hk, rfl, rfl⟩ := hrel
    by_cases hlt : k < l.length
    · obtain ⟨bb, o, rfl, hc⟩ := HC.out w1 H1.out k hlt
      have h1 := total_take_succ l k hlt
      have h2 := total_take_le l (k + 1)
      have HT := Lib.hid h1
      obtain ⟨x, hx⟩ : ∃ x, x = l.getD k ByteArray.empty := ⟨_, rfl⟩
      rw [← hx] at hc h1
      obtain ⟨m, hm⟩ : ∃ m, m = s.size + total (l.take k) := ⟨_, rfl⟩
      have hle : m + x.size ≤ 144255925560012800 := by omega
      rw [← hm]
      have HX := Lib.hid hx
      have HM := Lib.hid hm
      clear h1 h2 hx hm
      go_wp2_with fail
      go_round
      case rel => exact ⟨k + 1, by omega, by go_num, by rw [HT.out, ← HX.out, ← Nat.add_assoc, ← HM.out]; go_num⟩
      case measure => simp [intOf]; omega
    · obtain rfl : k = l.length := by omega
      rw [List.take_length]
      by_cases hall : 16384 < s.size + total l
      · go_wp2_with fail
        go_ret
        exact ⟨rfl, H1.out⟩
      · have hts := textsS_size l
        obtain ⟨T, hT⟩ : ∃ T, T = textS s := ⟨_, rfl⟩
        obtain ⟨U, hU⟩ : ∃ U, U = textsS l := ⟨_, rfl⟩
        obtain ⟨all, hal⟩ : ∃ all, all = s.size + total l := ⟨_, rfl⟩
        have zU : U.size ≤ 69636 := by rw [hU, hts]; omega
        have zT : T.size = 4 + s.size := by rw [hT, textS, ByteArray.size_append, numS_size]
        have NT := Lib.hid hT
        have NU := Lib.hid hU
        have HA := Lib.hid hal
        have hle : all ≤ 16384 := by omega
        have hs2 : s.size ≤ 16384 := by omega
        have htl : total l ≤ 16384 := by omega
        rw [← hal]
        clear hT hU hal hts hall htot hs
        go_wp2_with fail
        refine (text_at (s := s) (x := T) (by omega) NT.out.symm _).mono ?_
        rintro e w2 ⟨rfl, hb2⟩
        have H2 : Hid (Below W.heap.size W w2) := Lib.hid (H1.out.trans (hb2.mono H1.out.size)); clear hb2
        go_wp2_with fail
        refine (texts_at (HI.out.below H2.out) (x := U) (by omega) (by omega) NU.out.symm).mono ?_
        rintro e w3 ⟨rfl, hb3⟩
        have H3 : Hid (Below W.heap.size W w3) := Lib.hid (H2.out.trans (hb3.mono H2.out.size)); clear hb3
        by_cases hn0 : n < 0
        · go_wp2_with fail
          go_ret
          exact ⟨rfl, H3.out⟩
        · obtain ⟨m, rfl⟩ := Int.eq_ofNat_of_zero_le (show 0 ≤ n by omega)
          by_cases hn1 : T.size + U.size ≤ m
          · go_wp2_with fail
            go_ret
            exact ⟨rfl, H3.out⟩
          · go_wp2_with fail
            obtain ⟨S, hS⟩ : ∃ S, S = (T ++ U).extract 0 m := ⟨_, rfl⟩
            rw [← hS]
            have hn2 : m < T.size + U.size := by omega
            by_cases hm : m < 4 + s.size
            · obtain ⟨hz, q, x, hx⟩ := cut_first s l m (by omega) S (by rw [hS, NT.out, NU.out]) hm
              have zS : S.size ≤ 4611686018427387904 := by rw [hz]; omega
              have HX := Lib.hid hx
              clear hS hz hx
              refine (own_new (W := W) S zS H3.out).mono ?_
              rintro e w4 ⟨rfl, ho, _⟩
              have O4 := Lib.hid ho; clear ho
              go_wp2_with fail
              refine (own_text O4.out HX.out).mono ?_
              rintro e w5 ⟨rfl, ho, _⟩
              have O5 := Lib.hid ho; clear ho
              go_wp2_with fail
              refine (own_fault O5.out).mono ?_
              rintro e w6 ⟨rfl, ho, _⟩
              have O6 := Lib.hid ho; clear ho
              go_wp2_with fail
              go_ret
              exact ⟨rfl, O6.out.below⟩
            · obtain ⟨hz, q, b, hx1, hx2, hb1, hb2, hq⟩ := cut_second s l m all (by omega) (by omega) (by omega) (by have := HA.out; omega) S (by rw [hS, NT.out, NU.out]) (by omega) (by rw [ByteArray.size_append, ← NT.out, ← NU.out]; exact hn2)
              have zS : S.size ≤ 4611686018427387904 := by rw [hz]; omega
              have hr : restF S ⟨q, 7, b⟩ = ⟨#[]⟩ := rfl
              have hu : numF S 1 ⟨q, 7, b⟩ = (0, ⟨q, 7, b⟩) := rfl
              have HX1 := Lib.hid hx1
              have HX2 := Lib.hid hx2
              have HR := Lib.hid hr
              have HU := Lib.hid hu
              clear hS hz hx1 hx2 hr hu
              refine (own_new (W := W) S zS H3.out).mono ?_
              rintro e w4 ⟨rfl, ho, _⟩
              have O4 := Lib.hid ho; clear ho
              go_wp2_with fail
              refine (own_text O4.out HX1.out).mono ?_
              rintro e w5 ⟨rfl, ho, _⟩
              have O5 := Lib.hid ho; clear ho
              go_wp2_with fail
              refine (own_texts O5.out HX2.out).mono ?_
              rintro e w6 ⟨v2, rfl, _, ho, _⟩
              have O6 := Lib.hid ho; clear ho
              go_wp2_with fail
              refine (own_fault O6.out).mono ?_
              rintro e w7 ⟨rfl, ho, _⟩
              have O7 := Lib.hid (ho.stay ((Below.refl _ _).alloc (Nat.le_refl _) (.cells #[.int .i64 7, .int .i64 b] 35))); clear ho
              go_wp2_with fail
              refine (own_rest O7.out HR.out).mono ?_
              rintro e w8 ⟨rfl, ho, _⟩
              have O8 := Lib.hid ho; clear ho
              go_wp2_with fail
              refine (own_u8 O8.out HU.out).mono ?_
              rintro e w9 ⟨rfl, ho, _⟩
              have O9 := Lib.hid ho; clear ho
              go_wp2_with fail
              go_ret
              exact ⟨rfl, O9.out.below⟩

end Go.Proofs.Ytdcofbkmflemfaa
