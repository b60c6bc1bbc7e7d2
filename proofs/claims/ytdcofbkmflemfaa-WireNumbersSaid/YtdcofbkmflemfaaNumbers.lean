/- 'dragomanlaw01.WireNumbers': the walk: true, whatever the input. -/
import Derived.Test.YtdcofbkmflemfaaMark
import Derived.Test.YtdcofbkmflemfaaBack2
namespace Go.Proofs.Ytdcofbkmflemfaa
open Go.RowKit

set_option maxHeartbeats 1000000 in
theorem refTexts_any (v : Value) (l : List ByteArray) (w : World) (h : Ins w v l) (ht : total l ≤ 1048576) (hn : l.length ≤ 1048576) :
    Calls Try.prog 28 #[v] w fun e w' => e = .returned (.string (textsS l)) ∧ Below w.heap.size w w' := by
  obtain ⟨i0, hi, hz0, hz1, hz2⟩ := info_parts Try.info5
  obtain ⟨a, cap, rfl, hl, h⟩ := h
  have hcell : ∀ k, k < l.length → ∃ b o, a = some ⟨b, o, none⟩ ∧ b < w.heap.size ∧ w.cell? ⟨b, o + k, none⟩ = some (.string (l.getD k ByteArray.empty)) := by
    intro k hk
    rcases h with h | ⟨b, o, rfl, hlt, hc⟩
    · simp [h] at hk
    · exact ⟨b, o, rfl, hlt, hc k hk⟩
  have HC := Lib.hid hcell; clear hcell h
  go_enter Try.func28, Try.ntmps28
  go_wp2_with fail
  refine (refNumber_any l.length 4 (by omega) (by unfold U64; omega) _).mono ?_
  rintro e w1 ⟨rfl, hb1⟩
  have hcv := run_bytes_of_string (P := Try.prog) w1 9 41 5 (numS 4 l.length) Try.underlying9 Try.underlying41 Try.underlying5
  have hB := ownB_made w1 w.heap.size 5 (numS 4 l.length) hb1.size (by rw [numS_size]; decide)
  have hW : Below w.heap.size w (w1.drew.alloc (.cells (bytesRow (numS 4 l.length) (grownCap w1 (numS 4 l.length).size 0 5)) 5 ((bytesRow (numS 4 l.length) (grownCap w1 (numS 4 l.length).size 0 5)).size, (bytesRow (numS 4 l.length) (grownCap w1 (numS 4 l.length).size 0 5)).size + 1))) :=
    (hb1.drew).alloc hb1.size _
  generalize (w1.drew.alloc (.cells (bytesRow (numS 4 l.length) (grownCap w1 (numS 4 l.length).size 0 5)) 5 ((bytesRow (numS 4 l.length) (grownCap w1 (numS 4 l.length).size 0 5)).size, (bytesRow (numS 4 l.length) (grownCap w1 (numS 4 l.length).size 0 5)).size + 1))) = w2 at hcv hB hW
  generalize (Value.slice (some ⟨w1.heap.size, 0, none⟩) (numS 4 l.length).size (grownCap w1 (numS 4 l.length).size 0 5)) = v2 at hcv hB
  have HB := Lib.hid hB; clear hB
  have HW := Lib.hid hW; clear hW hb1
  go_wp2_with fail
  clear hcv
  go_loopw [3, 4] (fun s3 s4 wr => ∃ k : Nat, k ≤ l.length ∧ s4 = .int .i64 k ∧ OwnB wr w.heap.size 5 s3 ((numS 4 l.length).data.toList ++ textsL (l.take k)) ∧ Below w.heap.size w wr) (fun _ s4 _ => (l.length - intOf s4).toNat)
  case atStart => exact ⟨0, Nat.zero_le _, rfl, by simpa [textsL] using HB.out, HW.out⟩
  case round =>
    obtain ⟨k, hk, rfl, hB, hb⟩ := hrel
    have HB := Lib.hid hB; clear hB
    have HW := Lib.hid hb; clear hb
    by_cases hlt : k < l.length
    · obtain ⟨b, o, rfl, hbl, hc⟩ := HC.out k hlt
      have hc : wr.cell? ⟨b, o + k, none⟩ = some (.string (l.getD k ByteArray.empty)) := by rw [HW.out.cell hbl]; exact hc
      have h1 := textsL_take_succ l k hlt
      have h2 := total_take_succ l k hlt
      have h3 := total_take_le l (k + 1)
      have h4 := textsL_length (l.take k)
      have H1 := Lib.hid h1; clear h1
      obtain ⟨x, hx⟩ : ∃ x, x = l.getD k ByteArray.empty := ⟨_, rfl⟩
      rw [← hx] at hc h2
      have hxs : x.size ≤ 1048576 := by omega
      have hpre : ((numS 4 l.length).data.toList ++ textsL (l.take k)).length ≤ 10485764 := by
        have h5 : (numS 4 l.length).data.size = 4 := numS_size 4 _
        simp [h4, h5]
        omega
      have HX := Lib.hid hx
      clear h2 h3 h4 hx
      go_wp2_with fail
      refine (refText_any x (by omega) wr).mono ?_
      rintro e w3 ⟨rfl, hb3⟩
      have hz : (textS x).size = 4 + x.size := by rw [textS, ByteArray.size_append, numS_size]
      have HB3 := Lib.hid (HB.out.below hb3)
      have HW3 : Hid (Below w.heap.size w w3) := Lib.hid (HW.out.trans (hb3.mono HW.out.size)); clear hb3
      go_wp2_with (at_builtin; refine wpList_append_B _ rfl _ _ 41 9 rfl w.heap.size 5 i0 Try.underlying41 Try.underlying9 hi hz0 hz1 hz2 _ _ rfl HB3.out (textS x) rfl ?_ ?_ ?_)
      · rw [hz]; omega
      · exact HW3.out.size
      intro v' w4 hB4 hg4
      have HW4 : Hid (Below w.heap.size w w4) := Lib.hid (HW3.out.grown hg4 HW3.out.size (fun j hj => (HB3.out.lt j hj).1))
      have HB4 := Lib.hid hB4
      clear hB4 hg4 hz
      go_wp2_with fail
      go_roundw
      case rel =>
        refine ⟨k + 1, by omega, by go_num, ?_, HW4.out⟩
        have := HB4.out
        rw [H1.out, ← HX.out]
        simpa [textS, List.append_assoc] using this
      case measure => simp [intOf]; omega
    · obtain rfl : k = l.length := by omega
      have hst := string_B (P := Try.prog) wr 41 9 5 Try.underlying41 Try.underlying5 Try.underlying9 HB.out
      rw [List.take_length] at hst
      go_wp2_with fail
      go_ret
      exact ⟨rfl, HW.out⟩

theorem clone_any {w : World} {v : Value} {l : List ByteArray} (h : Ins w v l) (hr : l.length * 16 ≤ 140737488355328) :
    Calls Try.prog 24 #[v] w fun e w' => ∃ v', e = .returned v' ∧ Ins w' v' l ∧ Below w.heap.size w w' := by
  obtain ⟨a, cap, rfl, hl, h⟩ := h
  rcases h with rfl | ⟨b, o, rfl, hlt, hc⟩
  · cases a with
    | none =>
      refine (Try.slices_Clone_string_nil 0 cap w).mono ?_
      rintro e w' ⟨rfl, rfl⟩
      exact ⟨_, rfl, ⟨none, 0, rfl, by simp, .inl rfl⟩, Below.refl _ _⟩
    | some a =>
      refine (Try.slices_Clone_string_zero a cap w).mono ?_
      rintro e w' ⟨v', rfl, hown, _, hb⟩
      exact ⟨v', rfl, Strs.ins (B := w.heap.size) (l := []) hown, hb⟩
  · refine (Try.slices_Clone_string b o l.length cap l w (Nat.le_refl _) hr hc).mono ?_
    rintro e w' ⟨v', rfl, hown, _, hb⟩
    rw [List.take_length] at hown
    exact ⟨v', rfl, Strs.ins (B := w.heap.size) hown, hb⟩

theorem refNumber_at {n wd : Nat} {x : ByteArray} (hwd : wd ≤ 8) (hn : U64 n) (he : numS wd n = x) (w : World) :
    Calls Try.prog 25 #[.int .u64 n, .int .i64 wd] w fun e w' => e = .returned (.string x) ∧ Below w.heap.size w w' := by
  subst he; exact refNumber_any n wd hwd hn w

theorem refText_at {s x : ByteArray} (hs : s.size ≤ 1048576) (he : textS s = x) (w : World) :
    Calls Try.prog 27 #[.string s] w fun e w' => e = .returned (.string x) ∧ Below w.heap.size w w' := by
  subst he; exact refText_any s hs w

theorem refTexts_at {v : Value} {l : List ByteArray} {x : ByteArray} {w : World} (h : Ins w v l) (ht : total l ≤ 1048576) (hn : l.length ≤ 1048576) (he : textsS l = x) :
    Calls Try.prog 28 #[v] w fun e w' => e = .returned (.string x) ∧ Below w.heap.size w w' := by
  subst he; exact refTexts_any v l w h ht hn

set_option maxHeartbeats 4000000 in
set_option maxRecDepth 100000 in
theorem numbers_any (a b c : Nat) (s : ByteArray) (v : Value) (l : List ByteArray) (W : World) (h : Held W v l) (ha : a < 256) (hb : b < 4294967296) (hc : U64 c) (hs : s.size ≤ 140737488351232) :
    Calls Try.prog 4 #[.int .u8 a, .int .u32 b, .int .u64 c, .string s, v] W fun e w' => e = .returned (.bool true) ∧ Below W.heap.size W w' := by
  have hIns := h.ins
  have hroom := h.room
  obtain ⟨ao, cap, rfl, hlm, _⟩ := h.ins
  have HC := Lib.hid (Held.cells h.ins)
  have HI := Lib.hid hIns
  clear h hIns
  go_enter Try.func4, Try.ntmps4
  go_wp2_with fail
  refine (works_any _).mono ?_
  rintro e w1 ⟨rfl, hb1⟩
  have H1 := Lib.hid hb1; clear hb1
  go_wp2_with fail
  go_loop [11, 13, 23] (fun s11 _ s23 => ∃ k : Nat, k ≤ l.length ∧ s23 = .int .i64 k ∧ s11 = .int .i64 (total (l.take k) : Nat) ∧ total (l.take k) ≤ 524288) (fun _ _ s23 => (l.length - intOf s23).toNat)
  case atStart => exact ⟨0, Nat.zero_le _, rfl, by simp [total], by simp [total]⟩
  case round =>
    obtain ⟨k, hk, rfl, rfl, htk⟩ := hrel
    by_cases hlt : k < l.length
    · obtain ⟨bb, o, rfl, hc⟩ := HC.out w1 H1.out k hlt
      have h1 := total_take_succ l k hlt
      have HT := Lib.hid h1; clear h1
      obtain ⟨x, hx⟩ : ∃ x, x = l.getD k ByteArray.empty := ⟨_, rfl⟩
      rw [← hx] at hc
      obtain ⟨m, hm⟩ : ∃ m, m = total (l.take k) := ⟨_, rfl⟩
      rw [← hm] at htk ⊢
      have HX := Lib.hid hx
      have HM := Lib.hid hm
      clear hx hm
      by_cases hbig : 524288 - m < x.size
      · go_wp2_with fail
        go_ret
        exact ⟨rfl, H1.out⟩
      · go_wp2_with fail
        go_round
        case rel => exact ⟨k + 1, by omega, by go_num, by rw [HT.out, ← HX.out, ← HM.out]; go_num, by rw [HT.out, ← HX.out, ← HM.out]; omega⟩
        case measure => simp [intOf]; omega
    · obtain rfl : k = l.length := by omega
      rw [List.take_length] at htk ⊢
      by_cases hs1 : 524288 < s.size
      · go_wp2_with fail
        go_ret
        exact ⟨rfl, H1.out⟩
      · by_cases hl1 : 524288 < l.length
        · go_wp2_with fail
          go_ret
          exact ⟨rfl, H1.out⟩
        · obtain ⟨T, hT⟩ : ∃ T, T = textS s := ⟨_, rfl⟩
          obtain ⟨U, hU⟩ : ∃ U, U = textsS l := ⟨_, rfl⟩
          obtain ⟨n1, hn1⟩ : ∃ n, n = numS 1 a := ⟨_, rfl⟩
          obtain ⟨n4, hn4⟩ : ∃ n, n = numS 4 b := ⟨_, rfl⟩
          obtain ⟨n8, hn8⟩ : ∃ n, n = numS 8 c := ⟨_, rfl⟩
          have N1 := Lib.hid hn1
          have N4 := Lib.hid hn4
          have N8 := Lib.hid hn8
          have NT := Lib.hid hT
          have NU := Lib.hid hU
          have HC64 := Lib.hid hc
          have ha64 : U64 a := by unfold U64; omega
          have hb64 : U64 b := by unfold U64; omega
          have HA := Lib.hid ha64
          have HB := Lib.hid hb64
          clear hn1 hn4 hn8 hT hU hc ha64 hb64
          go_wp2_with fail
          refine (clone_any (HI.out.below H1.out) (by omega)).mono ?_
          rintro e w2 ⟨v2, rfl, hi2, hb2⟩
          have H2 : Hid (Below W.heap.size W w2) := Lib.hid (H1.out.trans (hb2.mono H1.out.size)); clear hb2
          have I2 := Lib.hid hi2; clear hi2
          go_wp2_with fail
          refine (text_at (s := s) (x := T) (by omega) NT.out.symm _).mono ?_
          rintro e w3 ⟨rfl, hb3⟩
          have H3 : Hid (Below W.heap.size W w3) := Lib.hid (H2.out.trans (hb3.mono H2.out.size))
          have I3 := Lib.hid (I2.out.below hb3); clear hb3
          go_wp2_with fail
          refine (texts_at I3.out (x := U) (by omega) (by omega) NU.out.symm).mono ?_
          rintro e w4 ⟨rfl, hb4⟩
          have H4 : Hid (Below W.heap.size W w4) := Lib.hid (H3.out.trans (hb4.mono H3.out.size))
          have I4 := Lib.hid (I3.out.below hb4); clear hb4
          go_wp2_with fail
          refine (u8_at (n := a) (x := n1) ha N1.out.symm _).mono ?_
          rintro e w5 ⟨rfl, hb⟩
          have H5 : Hid (Below W.heap.size W w5) := Lib.hid (H4.out.trans (hb.mono H4.out.size))
          have I5 := Lib.hid (I4.out.below hb); clear hb
          go_wp2_with fail
          refine (refNumber_at (n := a) (wd := 1) (x := n1) (by omega) HA.out N1.out.symm _).mono ?_
          rintro e w6 ⟨rfl, hb⟩
          have H6 : Hid (Below W.heap.size W w6) := Lib.hid (H5.out.trans (hb.mono H5.out.size))
          have I6 := Lib.hid (I5.out.below hb); clear hb
          go_wp2_with fail
          refine (u32_at (n := b) (x := n4) (by omega) N4.out.symm _).mono ?_
          rintro e w7 ⟨rfl, hb⟩
          have H7 : Hid (Below W.heap.size W w7) := Lib.hid (H6.out.trans (hb.mono H6.out.size))
          have I7 := Lib.hid (I6.out.below hb); clear hb
          go_wp2_with fail
          refine (refNumber_at (n := b) (wd := 4) (x := n4) (by omega) HB.out N4.out.symm _).mono ?_
          rintro e w8 ⟨rfl, hb⟩
          have H8 : Hid (Below W.heap.size W w8) := Lib.hid (H7.out.trans (hb.mono H7.out.size))
          have I8 := Lib.hid (I7.out.below hb); clear hb
          go_wp2_with fail
          refine (u64_at (n := c) (x := n8) N8.out.symm _).mono ?_
          rintro e w9 ⟨rfl, hb⟩
          have H9 : Hid (Below W.heap.size W w9) := Lib.hid (H8.out.trans (hb.mono H8.out.size))
          have I9 := Lib.hid (I8.out.below hb); clear hb
          go_wp2_with fail
          refine (refNumber_at (n := c) (wd := 8) (x := n8) (by omega) HC64.out N8.out.symm _).mono ?_
          rintro e w10 ⟨rfl, hb⟩
          have H10 : Hid (Below W.heap.size W w10) := Lib.hid (H9.out.trans (hb.mono H9.out.size))
          have I10 := Lib.hid (I9.out.below hb); clear hb
          go_wp2_with fail
          refine (refText_at (s := s) (x := T) (by omega) NT.out.symm _).mono ?_
          rintro e w11 ⟨rfl, hb⟩
          have H11 : Hid (Below W.heap.size W w11) := Lib.hid (H10.out.trans (hb.mono H10.out.size))
          have I11 := Lib.hid (I10.out.below hb); clear hb
          go_wp2_with fail
          refine (refTexts_at (HI.out.below H11.out) (x := U) (by omega) (by omega) NU.out.symm).mono ?_
          rintro e w12 ⟨rfl, hb⟩
          have H12 : Hid (Below W.heap.size W w12) := Lib.hid (H11.out.trans (hb.mono H11.out.size))
          have I12 := Lib.hid (I11.out.below hb); clear hb
          go_wp2_with fail
          refine (equal_any I12.out (HI.out.below H12.out)).mono ?_
          rintro e w13 ⟨rfl, hb⟩
          have H13 : Hid (Below W.heap.size W w13) := Lib.hid (H12.out.trans (hb.mono H12.out.size)); clear hb
          go_wp2_with fail
          go_ret
          exact ⟨rfl, H13.out⟩

end Go.Proofs.Ytdcofbkmflemfaa
