/- The laws of layer 2 (but the last two), from what the sum's three functions answer. -/
import Derived.Test.YtjbmfjpodddhaaaSumRef
namespace Go.Proofs.Ytjbmfjpodddhaaa
open Go.RowKit

/-- What the three functions of package sum answer. -/
structure SumSaid : Prop where
  of_ : ∀ (s : ByteArray) (w : World), s.size ≤ 1048576 → Calls Try.prog 11 #[.string s] w fun e w' => e = .returned (.int .u32 (Crc.of s.data.toList : Nat)) ∧ Below w.heap.size w w'
  more : ∀ (a : Nat) (s : ByteArray) (w : World), a < 4294967296 → s.size ≤ 1048576 → Calls Try.prog 12 #[.int .u32 a, .string s] w fun e w' => e = .returned (.int .u32 (Crc.more a s.data.toList : Nat)) ∧ Below w.heap.size w w'
  join : ∀ (a b n : Nat) (w : World), a < 4294967296 → b < 4294967296 → n ≤ 1073741824 → Calls Try.prog 10 #[.int .u32 a, .int .u32 b, .int .i64 n] w fun e w' => e = .returned (.tuple #[.int .u32 (Crc.join a b n : Nat), .int .i64 0]) ∧ Below w.heap.size w w'
  joinBad : ∀ (a b : Nat) (n : Int) (w : World), n < 0 ∨ 1073741824 < n → Calls Try.prog 10 #[.int .u32 a, .int .u32 b, .int .i64 n] w fun e w' => e = .returned (.tuple #[.int .u32 0, .int .i64 2]) ∧ Below w.heap.size w w'

section
variable (hS : SumSaid)
include hS

theorem of_at {s : ByteArray} {x : Nat} (hs : s.size ≤ 1048576) (he : Crc.of s.data.toList = x) (w : World) : Calls Try.prog 11 #[.string s] w fun e w' => e = .returned (.int .u32 x) ∧ Below w.heap.size w w' := by
  subst he; exact hS.of_ s w hs
theorem more_at {a x : Nat} {s : ByteArray} (ha : a < 4294967296) (hs : s.size ≤ 1048576) (he : Crc.more a s.data.toList = x) (w : World) : Calls Try.prog 12 #[.int .u32 a, .string s] w fun e w' => e = .returned (.int .u32 x) ∧ Below w.heap.size w w' := by
  subst he; exact hS.more a s w ha hs
theorem join_at {a b n x : Nat} (ha : a < 4294967296) (hb : b < 4294967296) (hn : n ≤ 1073741824) (he : Crc.join a b n = x) (w : World) : Calls Try.prog 10 #[.int .u32 a, .int .u32 b, .int .i64 n] w fun e w' => e = .returned (.tuple #[.int .u32 x, .int .i64 0]) ∧ Below w.heap.size w w' := by
  subst he; exact hS.join a b n w ha hb hn

set_option maxHeartbeats 1000000 in
theorem sumWorks (w : World) : Calls Try.prog 9 #[] w fun e w' => e = .returned (.bool true) ∧ Below w.heap.size w w' := by
  go_enter Try.func9, Try.ntmps9
  go_wp2_with fail
  refine (of_at hS (s := ⟨#[49, 50, 51, 52]⟩) (x := 4131058926) (by decide) (by kernel_rfl) _).mono ?_
  rintro e w1 ⟨rfl, hb⟩
  have H1 : Hid (Below w.heap.size w w1) := Lib.hid hb; clear hb
  go_wp2_with fail
  refine (of_at hS (s := ⟨#[53, 54, 55, 56, 57]⟩) (x := 2209703384) (by decide) (by kernel_rfl) _).mono ?_
  rintro e w2 ⟨rfl, hb⟩
  have H2 : Hid (Below w.heap.size w w2) := Lib.hid (H1.out.trans (hb.mono H1.out.size)); clear hb
  go_wp2_with fail
  refine (join_at hS (a := 4131058926) (b := 2209703384) (n := 5) (x := 3808858755) (by decide) (by decide) (by decide) (by kernel_rfl) _).mono ?_
  rintro e w3 ⟨rfl, hb⟩
  have H3 : Hid (Below w.heap.size w w3) := Lib.hid (H2.out.trans (hb.mono H2.out.size)); clear hb
  go_wp2_with fail
  refine (of_at hS (s := ⟨#[49, 50, 51, 52, 53, 54, 55, 56, 57]⟩) (x := 3808858755) (by decide) (by kernel_rfl) _).mono ?_
  rintro e w4 ⟨rfl, hb⟩
  have H4 : Hid (Below w.heap.size w w4) := Lib.hid (H3.out.trans (hb.mono H3.out.size)); clear hb
  go_wp2_with fail
  go_ret
  exact ⟨rfl, H4.out⟩

set_option maxHeartbeats 1000000 in
theorem sumKnown_any (w : World) : Calls Try.prog 3 #[] w fun e w' => e = .returned (.bool true) ∧ Below w.heap.size w w' := by
  go_enter Try.func3, Try.ntmps3
  go_wp2_with fail
  refine (sumWorks hS _).mono ?_
  rintro e w1 ⟨rfl, hb⟩
  have H1 : Hid (Below w.heap.size w w1) := Lib.hid hb; clear hb
  go_wp2_with fail
  refine (hS.joinBad 1 2 (-1) _ (.inl (by decide))).mono ?_
  rintro e w2 ⟨rfl, hb⟩
  have H2 : Hid (Below w.heap.size w w2) := Lib.hid (H1.out.trans (hb.mono H1.out.size)); clear hb
  go_wp2_with fail
  refine (hS.joinBad 1 2 1073741825 _ (.inr (by decide))).mono ?_
  rintro e w3 ⟨rfl, hb⟩
  have H3 : Hid (Below w.heap.size w w3) := Lib.hid (H2.out.trans (hb.mono H2.out.size)); clear hb
  go_wp2_with fail
  refine (join_at hS (a := 5) (b := 3) (n := 0) (x := 6) (by decide) (by decide) (by decide) (by kernel_rfl) _).mono ?_
  rintro e w4 ⟨rfl, hb⟩
  have H4 : Hid (Below w.heap.size w w4) := Lib.hid (H3.out.trans (hb.mono H3.out.size)); clear hb
  go_wp2_with fail
  refine (of_at hS (s := ⟨#[]⟩) (x := 0) (by decide) (by kernel_rfl) _).mono ?_
  rintro e w5 ⟨rfl, hb⟩
  have H5 : Hid (Below w.heap.size w w5) := Lib.hid (H4.out.trans (hb.mono H4.out.size)); clear hb
  go_wp2_with fail
  refine (of_at hS (s := ⟨#[97]⟩) (x := 3251651376) (by decide) (by kernel_rfl) _).mono ?_
  rintro e w6 ⟨rfl, hb⟩
  have H6 : Hid (Below w.heap.size w w6) := Lib.hid (H5.out.trans (hb.mono H5.out.size)); clear hb
  go_wp2_with fail
  refine (of_at hS (s := ⟨#[49, 50, 51, 52]⟩) (x := 4131058926) (by decide) (by kernel_rfl) _).mono ?_
  rintro e w7 ⟨rfl, hb⟩
  have H7 : Hid (Below w.heap.size w w7) := Lib.hid (H6.out.trans (hb.mono H6.out.size)); clear hb
  go_wp2_with fail
  refine (more_at hS (a := 4131058926) (s := ⟨#[53, 54, 55, 56, 57]⟩) (x := 3808858755) (by decide) (by decide) (by kernel_rfl) _).mono ?_
  rintro e w8 ⟨rfl, hb⟩
  have H8 : Hid (Below w.heap.size w w8) := Lib.hid (H7.out.trans (hb.mono H7.out.size)); clear hb
  go_wp2_with fail
  go_ret
  exact ⟨rfl, H8.out⟩

set_option maxHeartbeats 1000000 in
theorem sumOfs_any (s : ByteArray) (a : Nat) (ha : a < 4294967296) (hs : s.size ≤ 140737488351232) (w : World) :
    Calls Try.prog 4 #[.string s, .int .u32 a] w fun e w' => e = .returned (.bool true) ∧ Below w.heap.size w w' := by
  obtain ⟨x, hx⟩ : ∃ x, x = Crc.of s.data.toList := ⟨_, rfl⟩
  obtain ⟨y, hy⟩ : ∃ y, y = Crc.more a s.data.toList := ⟨_, rfl⟩
  have hr1 := refOf_any s hs
  have hr2 := refMore_any a s ha hs
  rw [← hx] at hr1
  rw [← hy] at hr2
  have R1 := Lib.hid hr1
  have R2 := Lib.hid hr2
  have HX := Lib.hid hx.symm
  have HY := Lib.hid hy.symm
  clear hr1 hr2 hx hy
  by_cases hl : 3000 < s.size
  · go_enter Try.func4, Try.ntmps4
    go_wp2_with fail
    refine (sumWorks hS _).mono ?_
    rintro e w1 ⟨rfl, hb⟩
    have H1 : Hid (Below w.heap.size w w1) := Lib.hid hb; clear hb
    go_wp2_with fail
    go_ret
    exact ⟨rfl, H1.out⟩
  · go_enter Try.func4, Try.ntmps4
    go_wp2_with fail
    refine (sumWorks hS _).mono ?_
    rintro e w1 ⟨rfl, hb⟩
    have H1 : Hid (Below w.heap.size w w1) := Lib.hid hb; clear hb
    go_wp2_with fail
    refine (of_at hS (s := s) (by omega) HX.out _).mono ?_
    rintro e w2 ⟨rfl, hb⟩
    have H2 : Hid (Below w.heap.size w w2) := Lib.hid (H1.out.trans (hb.mono H1.out.size)); clear hb
    go_wp2_with fail
    refine (R1.out _).mono ?_
    rintro e w3 ⟨rfl, rfl⟩
    go_wp2_with fail
    refine (more_at hS ha (by omega) HY.out _).mono ?_
    rintro e w4 ⟨rfl, hb⟩
    have H4 : Hid (Below w.heap.size w w4) := Lib.hid (H2.out.trans (hb.mono H2.out.size)); clear hb
    go_wp2_with fail
    refine (R2.out _).mono ?_
    rintro e w5 ⟨rfl, rfl⟩
    go_wp2_with fail
    go_ret
    exact ⟨rfl, H4.out⟩

set_option maxHeartbeats 1000000 in
theorem sumJoins_any (a b : Nat) (n : Int) (ha : a < 4294967296) (hb : b < 4294967296) (w : World) :
    Calls Try.prog 5 #[.int .u32 a, .int .u32 b, .int .i64 n] w fun e w' => e = .returned (.bool true) ∧ Below w.heap.size w w' := by
  by_cases hbad : n < 0 ∨ 1073741824 < n
  · have HB := Lib.hid hbad
    by_cases h0 : n < 0
    · clear hbad
      go_enter Try.func5, Try.ntmps5
      go_wp2_with fail
      refine (sumWorks hS _).mono ?_
      rintro e w1 ⟨rfl, hb⟩
      have H1 : Hid (Below w.heap.size w w1) := Lib.hid hb; clear hb
      go_wp2_with fail
      refine (hS.joinBad a b n _ HB.out).mono ?_
      rintro e w2 ⟨rfl, hb⟩
      have H2 : Hid (Below w.heap.size w w2) := Lib.hid (H1.out.trans (hb.mono H1.out.size)); clear hb
      go_wp2_with fail
      go_ret
      exact ⟨rfl, H2.out⟩
    · have h1 : 1073741824 < n := by omega
      clear hbad
      go_enter Try.func5, Try.ntmps5
      go_wp2_with fail
      refine (sumWorks hS _).mono ?_
      rintro e w1 ⟨rfl, hb⟩
      have H1 : Hid (Below w.heap.size w w1) := Lib.hid hb; clear hb
      go_wp2_with fail
      refine (hS.joinBad a b n _ HB.out).mono ?_
      rintro e w2 ⟨rfl, hb⟩
      have H2 : Hid (Below w.heap.size w w2) := Lib.hid (H1.out.trans (hb.mono H1.out.size)); clear hb
      go_wp2_with fail
      go_ret
      exact ⟨rfl, H2.out⟩
  · obtain ⟨m, rfl⟩ := Int.eq_ofNat_of_zero_le (show 0 ≤ n by omega)
    have hm : m ≤ 1073741824 := by omega
    clear hbad
    obtain ⟨x, hx⟩ : ∃ x, x = Crc.join a b m := ⟨_, rfl⟩
    have HX := Lib.hid hx.symm
    by_cases hl : 3000 < m
    · obtain ⟨y, hy⟩ : ∃ y, y = Crc.join a 0 (m / 2) := ⟨_, rfl⟩
      have hyl : y < 4294967296 := by
        have h := Crc.xor_lt (Crc.shN_lt (n := 8 * (m / 2)) (show Crc.U32 a from ha)) (show Crc.U32 0 by unfold Crc.U32; decide)
        rw [hy]; exact h
      have hz : Crc.join y b (m - m / 2) = x := by
        rw [hx, hy, ← Crc.join_parts]
        congr 1
        omega
      have HY := Lib.hid hy.symm
      have HZ := Lib.hid hz
      clear hx hy hz
      have e1 : ((m : Int) / 2) = ((m / 2 : Nat) : Int) := by omega
      have e2 : ((m : Int) - (m : Int) / 2) = ((m - m / 2 : Nat) : Int) := by omega
      have E1 := Lib.hid e1
      have E2 := Lib.hid e2
      clear e1 e2
      go_enter Try.func5, Try.ntmps5
      go_wp2_with fail
      refine (sumWorks hS _).mono ?_
      rintro e w1 ⟨rfl, hb⟩
      have H1 : Hid (Below w.heap.size w w1) := Lib.hid hb; clear hb
      go_wp2_with fail
      refine (join_at hS ha hb hm HX.out _).mono ?_
      rintro e w2 ⟨rfl, hb⟩
      have H2 : Hid (Below w.heap.size w w2) := Lib.hid (H1.out.trans (hb.mono H1.out.size)); clear hb
      go_wp2_with fail
      rw [E1.out]
      refine (join_at hS ha (by decide) (n := m / 2) (by omega) HY.out _).mono ?_
      rintro e w3 ⟨rfl, hb⟩
      have H3 : Hid (Below w.heap.size w w3) := Lib.hid (H2.out.trans (hb.mono H2.out.size)); clear hb
      go_wp2_with fail
      rw [E2.out]
      refine (join_at hS hyl hb (n := m - m / 2) (by omega) HZ.out _).mono ?_
      rintro e w4 ⟨rfl, hb⟩
      have H4 : Hid (Below w.heap.size w w4) := Lib.hid (H3.out.trans (hb.mono H3.out.size)); clear hb
      go_wp2_with fail
      go_ret
      exact ⟨rfl, H4.out⟩
    · have hr := refJoin_any a b m ha hb (by omega)
      rw [← hx] at hr
      have HR := Lib.hid hr
      clear hx hr
      go_enter Try.func5, Try.ntmps5
      go_wp2_with fail
      refine (sumWorks hS _).mono ?_
      rintro e w1 ⟨rfl, hb⟩
      have H1 : Hid (Below w.heap.size w w1) := Lib.hid hb; clear hb
      go_wp2_with fail
      refine (join_at hS ha hb hm HX.out _).mono ?_
      rintro e w2 ⟨rfl, hb⟩
      have H2 : Hid (Below w.heap.size w w2) := Lib.hid (H1.out.trans (hb.mono H1.out.size)); clear hb
      go_wp2_with fail
      refine (HR.out _).mono ?_
      rintro e w5 ⟨rfl, rfl⟩
      go_wp2_with fail
      go_ret
      exact ⟨rfl, H2.out⟩

set_option maxHeartbeats 1000000 in
theorem sumParts_any (s t : ByteArray) (w : World) :
    Calls Try.prog 6 #[.string s, .string t] w fun e w' => e = .returned (.bool true) ∧ Below w.heap.size w w' := by
  by_cases h1 : 3000 < s.size
  · go_enter Try.func6, Try.ntmps6
    go_wp2_with fail
    refine (sumWorks hS _).mono ?_
    rintro e w1 ⟨rfl, hb⟩
    have H1 : Hid (Below w.heap.size w w1) := Lib.hid hb; clear hb
    go_wp2_with fail
    go_ret
    exact ⟨rfl, H1.out⟩
  · by_cases h2 : 3000 < t.size
    · go_enter Try.func6, Try.ntmps6
      go_wp2_with fail
      refine (sumWorks hS _).mono ?_
      rintro e w1 ⟨rfl, hb⟩
      have H1 : Hid (Below w.heap.size w w1) := Lib.hid hb; clear hb
      go_wp2_with fail
      go_ret
      exact ⟨rfl, H1.out⟩
    · obtain ⟨x, hx⟩ : ∃ x, x = Crc.of s.data.toList := ⟨_, rfl⟩
      obtain ⟨y, hy⟩ : ∃ y, y = Crc.of t.data.toList := ⟨_, rfl⟩
      obtain ⟨z, hz⟩ : ∃ z, z = Crc.of (s.data.toList ++ t.data.toList) := ⟨_, rfl⟩
      have hxl : x < 4294967296 := by rw [hx]; exact Crc.of_lt _
      have hyl : y < 4294967296 := by rw [hy]; exact Crc.of_lt _
      have htl : t.data.toList.length = t.size := by simp
      have hj : Crc.join x y t.size = z := by rw [hx, hy, hz, ← htl]; exact Crc.join_of _ _
      have hm : Crc.more x t.data.toList = z := by rw [hx, hz]; exact Crc.more_append 0 _ _
      have hst : Crc.of (s ++ t).data.toList = z := by rw [hz]; simp
      have hsz : (s ++ t).size ≤ 1048576 := by rw [ByteArray.size_append]; omega
      have HX := Lib.hid hx.symm
      have HY := Lib.hid hy.symm
      have HJ := Lib.hid hj
      have HM := Lib.hid hm
      have HST := Lib.hid hst
      have HSZ := Lib.hid hsz
      clear hx hy hz hj hm hst hsz htl
      go_enter Try.func6, Try.ntmps6
      go_wp2_with fail
      refine (sumWorks hS _).mono ?_
      rintro e w1 ⟨rfl, hb⟩
      have H1 : Hid (Below w.heap.size w w1) := Lib.hid hb; clear hb
      go_wp2_with fail
      refine (of_at hS (s := s) (by omega) HX.out _).mono ?_
      rintro e w2 ⟨rfl, hb⟩
      have H2 : Hid (Below w.heap.size w w2) := Lib.hid (H1.out.trans (hb.mono H1.out.size)); clear hb
      go_wp2_with fail
      refine (of_at hS (s := t) (by omega) HY.out _).mono ?_
      rintro e w3 ⟨rfl, hb⟩
      have H3 : Hid (Below w.heap.size w w3) := Lib.hid (H2.out.trans (hb.mono H2.out.size)); clear hb
      go_wp2_with fail
      refine (join_at hS hxl hyl (n := t.size) (by omega) HJ.out _).mono ?_
      rintro e w4 ⟨rfl, hb⟩
      have H4 : Hid (Below w.heap.size w w4) := Lib.hid (H3.out.trans (hb.mono H3.out.size)); clear hb
      go_wp2_with fail
      refine (of_at hS (s := s ++ t) HSZ.out HST.out _).mono ?_
      rintro e w5 ⟨rfl, hb⟩
      have H5 : Hid (Below w.heap.size w w5) := Lib.hid (H4.out.trans (hb.mono H4.out.size)); clear hb
      go_wp2_with fail
      refine (of_at hS (s := s) (by omega) HX.out _).mono ?_
      rintro e w6 ⟨rfl, hb⟩
      have H6 : Hid (Below w.heap.size w w6) := Lib.hid (H5.out.trans (hb.mono H5.out.size)); clear hb
      go_wp2_with fail
      refine (more_at hS hxl (s := t) (by omega) HM.out _).mono ?_
      rintro e w7 ⟨rfl, hb⟩
      have H7 : Hid (Below w.heap.size w w7) := Lib.hid (H6.out.trans (hb.mono H6.out.size)); clear hb
      go_wp2_with fail
      go_ret
      exact ⟨rfl, H7.out⟩
end

end Go.Proofs.Ytjbmfjpodddhaaa
