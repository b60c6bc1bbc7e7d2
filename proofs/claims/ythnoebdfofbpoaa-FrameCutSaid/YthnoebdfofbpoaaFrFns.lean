/- The contracts of package frame: summed, whole, Put, Take. -/
import Derived.Test.YthnoebdfofbpoaaFrPure
import Derived.Test.YthnoebdfofbpoaaSumFns
import Derived.Test.YthnoebdfofbpoaaTouch
import Derived.Deep.RegionWith
namespace Go.Proofs.Ythnoebdfofbpoaa
open Go.RowKit

theorem Rd.below {w w' : World} {b : Nat} {s : ByteArray} {p err bad : Int} (h : Rd w b s p err bad) (hb : Below w.heap.size w w') : Rd w' b s p err bad := by
  unfold Rd at *
  rw [hb.block b (lt_of_block h)]; exact h

set_option maxHeartbeats 400000 in
theorem summed_any (s : ByteArray) (hs : s.size ≤ 1048576) (w : World) :
    Calls Try.prog 18 #[.string s] w fun e w' => e = .returned (.string (sm s)) ∧ Below w.heap.size w w' := by
  have h1 := fun w => of_any s w hs
  have h2 := fun w => u32_any (Crc.of s.data.toList) (Crc.of_lt _) w
  have hsm : sm s = s ++ numS 4 (Crc.of s.data.toList) := rfl
  have hz := numS_size 4 (Crc.of s.data.toList)
  have H1 := Lib.hid h1; have H2 := Lib.hid h2; have HS := Lib.hid hsm
  clear h1 h2 hsm
  generalize Crc.of s.data.toList = x at H1 H2 HS hz
  go_enter Try.func18, Try.ntmps18
  go_wp2_with fail
  refine (H1.out _).mono ?_
  rintro e w1 ⟨rfl, hb⟩
  have B1 := Lib.hid hb; clear hb
  go_wp2_with fail
  refine (H2.out _).mono ?_
  rintro e w2 ⟨rfl, hb⟩
  have B2 := Lib.hid (B1.out.trans (hb.mono B1.out.size)); clear hb
  go_wp2_with fail
  go_ret
  exact ⟨by rw [HS.out]; rfl, B2.out⟩

set_option maxHeartbeats 1000000 in
theorem whole_any (s : ByteArray) (h4 : 4 ≤ s.size) (hs : s.size ≤ 1048576) (w : World) :
    Calls Try.prog 22 #[.string s] w fun e w' => e = .returned (.bool (wholeB s)) ∧ Below w.heap.size w w' := by
  obtain ⟨m, hm⟩ : ∃ m, m = s.size - 4 := ⟨_, rfl⟩
  have hsub : (s.size : Int) - 4 = (m : Int) := by omega
  have hms : m ≤ s.size := by omega
  have c1 := fun w => new_any (s.extract m s.size) w
  have hz : (s.extract m s.size).size = 4 := by rw [ByteArray.size_extract]; omega
  have hn := num_head (s.extract m s.size) (by omega)
  rw [be4_ext s m s.size 0 (by omega), Nat.add_zero] at hn
  have c2 := fun (w : World) (b : Nat) (h : RdAt w b (s.extract m s.size) ⟨0, 0, 0⟩) => u32_rd w b (s.extract m s.size) ⟨0, 0, 0⟩ h (Nat.zero_le _) (by omega)
  rw [hn] at c2
  have c3 := fun w => of_any (s.extract 0 m) w (by rw [ByteArray.size_extract]; omega)
  have hwb : wholeB s = (be4 s m == Crc.of (s.extract 0 m).data.toList) := by unfold wholeB ofS; rw [hm]
  have l1 := be4_lt s m
  obtain ⟨x, hx⟩ : ∃ x, x = be4 s m := ⟨_, rfl⟩
  obtain ⟨y, hy⟩ : ∃ y, y = Crc.of (s.extract 0 m).data.toList := ⟨_, rfl⟩
  simp only [← hx] at c2 hwb
  simp only [← hy] at c3 hwb
  have hfin : (((x : Int) == (y : Int)) = wholeB s) := by
    rw [hwb, Bool.eq_iff_iff, beq_iff_eq, beq_iff_eq]
    omega
  have C1 := Lib.hid c1; have C2 := Lib.hid c2; have C3 := Lib.hid c3; have HF := Lib.hid hfin
  clear c1 c2 c3 hfin hwb hx hy l1 hn hz hm
  have HB : Hid (Below w.heap.size w w.drew) := Lib.hid (Below.refl _ _).drew
  go_enter Try.func22, Try.ntmps22
  go_wp2_with fail
  go_region_with
    (first
      | (go_at_call 20; refine (C1.out _).mono ?_; rintro e v1 ⟨rfl, hr, hw⟩; have HN := Lib.hid HB.out.size; have HR := Lib.hid hr; have HB := Lib.hid (HB.out.trans ((show Below _ _ v1 by rw [hw]; exact (Below.refl _ _).alloc (Nat.le_refl _) _).mono HB.out.size)); clear hr hw)
      | (go_at_call 21; refine (C2.out _ _ ?_).mono ?_; exact HR.out; rintro e v2 ⟨rfl, _, hg⟩; have HB := Lib.hid (HB.out.grown hg HB.out.size (fun k hk => by cases hk; exact HN.out)); clear hg)
      | (go_at_call 26; refine (C3.out _).mono ?_; rintro e v3 ⟨rfl, hb⟩; (try have HR := Lib.hid (HR.out.below hb)); have HB := Lib.hid (HB.out.trans (hb.mono HB.out.size)); clear hb))
  all_goals
    go_wp2_with fail
    go_ret
    exact ⟨by rw [← HF.out]; rfl, HB.out⟩

set_option maxHeartbeats 400000 in
theorem put_ok (p : ByteArray) (hp : p.size ≤ 4096) (w : World) :
    Calls Try.prog 9 #[.string p] w fun e w' => e = .returned (.tuple #[.string (frameS p), .int .i64 0]) ∧ Below w.heap.size w w' := by
  have h1 := fun w => u32_any p.size (by omega) w
  have hz := numS_size 4 p.size
  have h2 := fun w => summed_any (numS 4 p.size) (by omega) w
  have h3 := fun w => summed_any p (by omega) w
  have hz2 := sm_size (numS 4 p.size)
  rw [hz] at hz2
  have hz3 := sm_size p
  have hfr : frameS p = sm (numS 4 p.size) ++ sm p := rfl
  have hle : (sm p).size ≤ 4100 := by omega
  clear hz3
  have H1 := Lib.hid h1; have H2 := Lib.hid h2; have H3 := Lib.hid h3; have HF := Lib.hid hfr
  clear h1 h2 h3 hfr
  generalize sm (numS 4 p.size) = x at H2 HF hz2
  generalize sm p = y at H3 HF hle
  generalize numS 4 p.size = n at H1 H2 hz
  go_enter Try.func9, Try.ntmps9
  go_wp2_with fail
  refine (H1.out _).mono ?_
  rintro e w1 ⟨rfl, hb⟩
  have B1 := Lib.hid hb; clear hb
  go_wp2_with fail
  refine (H2.out _).mono ?_
  rintro e w2 ⟨rfl, hb⟩
  have B2 := Lib.hid (B1.out.trans (hb.mono B1.out.size)); clear hb
  go_wp2_with fail
  refine (H3.out _).mono ?_
  rintro e w3 ⟨rfl, hb⟩
  have B3 := Lib.hid (B2.out.trans (hb.mono B2.out.size)); clear hb
  go_wp2_with fail
  go_ret2
  exact ⟨by rw [HF.out]; rfl, B3.out⟩

set_option maxHeartbeats 400000 in
theorem put_no (p : ByteArray) (hp : 4096 < p.size) (w : World) :
    Calls Try.prog 9 #[.string p] w fun e w' => e = .returned (.tuple #[.string ⟨#[]⟩, .int .i64 3]) ∧ Below w.heap.size w w' := by
  go_enter Try.func9, Try.ntmps9
  go_wp2_with fail
  go_ret2
  exact ⟨rfl, Below.refl _ _⟩

theorem ret3 {a : ByteArray} {x y e : Int} (h : x = y) : Ending.returned (.tuple #[.string a, .int .i64 x, .int .i64 e]) = .returned (.tuple #[.string a, .int .i64 y, .int .i64 e]) := by rw [h]

set_option maxHeartbeats 1000000 in
theorem take_any (s : ByteArray) (hs : s.size ≤ 1048576) (w : World) :
    Calls Try.prog 10 #[.string s] w fun e w' => e = .returned (.tuple #[.string (takeF s).1, .int .i64 (takeF s).2.1, .int .i64 (takeF s).2.2]) ∧ Below w.heap.size w w' := by
  by_cases h8 : s.size < 8
  · have ht : takeF s = (⟨#[]⟩, 0, 30) := by unfold takeF; rw [if_pos h8]
    have HT := Lib.hid ht; clear ht
    go_enter Try.func10, Try.ntmps10
    go_wp2_with fail
    go_ret3
    exact ⟨by rw [HT.out]; rfl, Below.refl _ _⟩
  · have d8 : decide ((s.size : Int) < 8) = false := decide_eq_false (by omega)
    have g8 : 8 ≤ s.size := by omega
    have hn := num_head s (by omega)
    have c2 := fun (w : World) (b : Nat) (h : RdAt w b s ⟨0, 0, 0⟩) => u32_rd w b s ⟨0, 0, 0⟩ h (Nat.zero_le _) (by omega)
    rw [hn] at c2
    have l1 := be4_lt s 0
    have ht : takeF s = (if 4096 < be4 s 0 ∨ wholeB (s.extract 0 8) = false then (⟨#[]⟩, 0, 7)
      else if s.size < be4 s 0 + 12 then (⟨#[]⟩, 0, 30)
      else if wholeB (s.extract 8 (be4 s 0 + 12)) = false then (⟨#[]⟩, 0, 7)
      else (s.extract 8 (be4 s 0 + 8), be4 s 0 + 12, 0)) := by unfold takeF; rw [if_neg h8]
    have C2 := Lib.hid c2; clear c2 hn h8
    obtain ⟨x, hx⟩ : ∃ x, x = be4 s 0 := ⟨_, rfl⟩
    rw [← hx] at C2 l1 ht
    clear hx
    by_cases hbig : 4096 < x
    · rw [if_pos (.inl hbig)] at ht
      have HT := Lib.hid ht; clear ht
      go_enter Try.func10, Try.ntmps10
      go_wp2_with fail
      refine (new_any s _).mono ?_
      rintro e v1 ⟨rfl, hr, hw⟩
      have B1 : Hid (Below w.heap.size w v1) := Lib.hid (by rw [hw]; exact (Below.refl _ _).alloc (Nat.le_refl _) _)
      have HR := Lib.hid hr; clear hr hw
      go_wp2_with fail
      refine (C2.out _ _ HR.out).mono ?_
      rintro e v2 ⟨rfl, _, hg⟩
      have B2 : Hid (Below w.heap.size w v2) := Lib.hid (B1.out.grown hg B1.out.size (fun k hk => by cases hk; exact Nat.le_refl _)); clear hg
      go_wp2_with fail
      go_ret3
      exact ⟨by rw [HT.out]; rfl, B2.out⟩
    · have hx4 : x ≤ 4096 := by omega
      have c3 := fun w => whole_any (s.extract 0 8) (by rw [ByteArray.size_extract]; omega) (by rw [ByteArray.size_extract]; omega) w
      cases hw1 : wholeB (s.extract 0 8) with
      | false =>
        rw [if_pos (.inr hw1)] at ht
        rw [hw1] at c3
        have HT := Lib.hid ht; have C3 := Lib.hid c3; clear ht c3 hw1 hbig
        go_enter Try.func10, Try.ntmps10
        go_wp2_with fail
        refine (new_any s _).mono ?_
        rintro e v1 ⟨rfl, hr, hw⟩
        have B1 : Hid (Below w.heap.size w v1) := Lib.hid (by rw [hw]; exact (Below.refl _ _).alloc (Nat.le_refl _) _)
        have HR := Lib.hid hr; clear hr hw
        go_wp2_with fail
        refine (C2.out _ _ HR.out).mono ?_
        rintro e v2 ⟨rfl, _, hg⟩
        have B2 : Hid (Below w.heap.size w v2) := Lib.hid (B1.out.grown hg B1.out.size (fun k hk => by cases hk; exact Nat.le_refl _)); clear hg
        go_wp2_with fail
        refine (C3.out _).mono ?_
        rintro e v3 ⟨rfl, hb⟩
        have B3 := Lib.hid (B2.out.trans (hb.mono B2.out.size)); clear hb
        go_wp2_with fail
        go_ret3
        exact ⟨by rw [HT.out]; rfl, B3.out⟩
      | true =>
        rw [if_neg (by rw [hw1]; simp; exact hx4)] at ht
        rw [hw1] at c3
        have C3 := Lib.hid c3; clear c3 hw1 hbig
        have ee1 : (8 : Int) + (x : Int) + 4 = ((x + 12 : Nat) : Int) := by omega
        by_cases hsh : s.size < x + 12
        · rw [if_pos hsh] at ht
          have hsh2 : (s.size : Int) < 8 + (x : Int) + 4 := by omega
          have HT := Lib.hid ht; clear ht ee1 hsh
          go_enter Try.func10, Try.ntmps10
          go_wp2_with fail
          refine (new_any s _).mono ?_
          rintro e v1 ⟨rfl, hr, hw⟩
          have B1 : Hid (Below w.heap.size w v1) := Lib.hid (by rw [hw]; exact (Below.refl _ _).alloc (Nat.le_refl _) _)
          have HR := Lib.hid hr; clear hr hw
          go_wp2_with fail
          refine (C2.out _ _ HR.out).mono ?_
          rintro e v2 ⟨rfl, _, hg⟩
          have B2 : Hid (Below w.heap.size w v2) := Lib.hid (B1.out.grown hg B1.out.size (fun k hk => by cases hk; exact Nat.le_refl _)); clear hg
          go_wp2_with fail
          refine (C3.out _).mono ?_
          rintro e v3 ⟨rfl, hb⟩
          have B3 := Lib.hid (B2.out.trans (hb.mono B2.out.size)); clear hb
          go_wp2_with fail
          go_ret3
          exact ⟨by rw [HT.out]; rfl, B3.out⟩
        · rw [if_neg hsh] at ht
          have hsh2 : decide ((s.size : Int) < 8 + (x : Int) + 4) = false := decide_eq_false (by omega)
          have hge : x + 12 ≤ s.size := by omega
          have c4 := fun w => whole_any (s.extract 8 (x + 12)) (by rw [ByteArray.size_extract]; omega) (by rw [ByteArray.size_extract]; omega) w
          rw [show x + 12 = 8 + x + 4 from by omega] at c4
          have EE1 := Lib.hid ee1; clear ee1 hsh
          cases hw2 : wholeB (s.extract 8 (x + 12)) with
          | false =>
            rw [if_pos hw2] at ht
            rw [show x + 12 = 8 + x + 4 from by omega] at hw2
            rw [hw2] at c4
            have HT := Lib.hid ht; have C4 := Lib.hid c4; clear ht c4 hw2
            go_enter Try.func10, Try.ntmps10
            go_wp2_with fail
            refine (new_any s _).mono ?_
            rintro e v1 ⟨rfl, hr, hw⟩
            have B1 : Hid (Below w.heap.size w v1) := Lib.hid (by rw [hw]; exact (Below.refl _ _).alloc (Nat.le_refl _) _)
            have HR := Lib.hid hr; clear hr hw
            go_wp2_with fail
            refine (C2.out _ _ HR.out).mono ?_
            rintro e v2 ⟨rfl, _, hg⟩
            have B2 : Hid (Below w.heap.size w v2) := Lib.hid (B1.out.grown hg B1.out.size (fun k hk => by cases hk; exact Nat.le_refl _)); clear hg
            go_wp2_with fail
            refine (C3.out _).mono ?_
            rintro e v3 ⟨rfl, hb⟩
            have B3 := Lib.hid (B2.out.trans (hb.mono B2.out.size)); clear hb
            go_wp2_with fail
            refine (C4.out _).mono ?_
            rintro e v4 ⟨rfl, hb⟩
            have B4 := Lib.hid (B3.out.trans (hb.mono B3.out.size)); clear hb
            go_wp2_with fail
            go_ret3
            exact ⟨by rw [HT.out]; rfl, B4.out⟩
          | true =>
            rw [if_neg (by rw [hw2]; decide)] at ht
            rw [show x + 12 = 8 + x + 4 from by omega] at hw2
            rw [hw2] at c4
            have hsub : (8 : Int) + (x : Int) + 4 - 4 = ((x + 8 : Nat) : Int) := by omega
            have HT := Lib.hid ht; have C4 := Lib.hid c4; clear ht c4 hw2
            go_enter Try.func10, Try.ntmps10
            go_wp2_with fail
            refine (new_any s _).mono ?_
            rintro e v1 ⟨rfl, hr, hw⟩
            have B1 : Hid (Below w.heap.size w v1) := Lib.hid (by rw [hw]; exact (Below.refl _ _).alloc (Nat.le_refl _) _)
            have HR := Lib.hid hr; clear hr hw
            go_wp2_with fail
            refine (C2.out _ _ HR.out).mono ?_
            rintro e v2 ⟨rfl, _, hg⟩
            have B2 : Hid (Below w.heap.size w v2) := Lib.hid (B1.out.grown hg B1.out.size (fun k hk => by cases hk; exact Nat.le_refl _)); clear hg
            go_wp2_with fail
            refine (C3.out _).mono ?_
            rintro e v3 ⟨rfl, hb⟩
            have B3 := Lib.hid (B2.out.trans (hb.mono B2.out.size)); clear hb
            go_wp2_with fail
            refine (C4.out _).mono ?_
            rintro e v4 ⟨rfl, hb⟩
            have B4 := Lib.hid (B3.out.trans (hb.mono B3.out.size)); clear hb
            go_wp2_with fail
            go_ret3
            exact ⟨by rw [HT.out]; exact ret3 (show (8 : Int) + (x : Int) + 4 = ((x + 12 : Nat) : Int) by omega), B4.out⟩

end Go.Proofs.Ythnoebdfofbpoaa
