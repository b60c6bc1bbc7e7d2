/- The laws of layer 3 without a scan: works, FramePuts, FrameSpoilt. -/
import Derived.Test.YthnoebdfofbpoaaFrFns
import Derived.Test.YthnoebdfofbpoaaFrSpoil
import Derived.Test.YthnoebdfofbpoaaNumRef
import Derived.Test.YthnoebdfofbpoaaBytes
namespace Go.Proofs.Ythnoebdfofbpoaa
open Go.RowKit

set_option maxHeartbeats 400000 in
theorem all_any (s : ByteArray) (w : World) : Calls Try.prog 16 #[.string s] w fun e w' => e = .returned (.func (.func 25) #[] #[.pointer (some ⟨w.heap.size, 0, none⟩)]) ∧ w' = w.alloc (.cells #[.string s] 9) := by
  go_enter Try.func16, Try.ntmps16
  go_wp2_with fail
  go_ret
  exact ⟨rfl, rfl⟩

theorem take_at {s x : ByteArray} {n : Nat} {er : Int} (hs : s.size ≤ 1048576) (he : takeF s = (x, n, er)) (w : World) :
    Calls Try.prog 10 #[.string s] w fun e w' => e = .returned (.tuple #[.string x, .int .i64 n, .int .i64 er]) ∧ Below w.heap.size w w' := by
  have h := take_any s hs w
  rw [he] at h
  exact h

theorem put_at {p x : ByteArray} (hp : p.size ≤ 4096) (he : frameS p = x) (w : World) :
    Calls Try.prog 9 #[.string p] w fun e w' => e = .returned (.tuple #[.string x, .int .i64 0]) ∧ Below w.heap.size w w' := by
  have h := put_ok p hp w
  rw [he] at h
  exact h

def f1 : ByteArray := frameS ⟨#[97, 98]⟩
theorem f1_eq : frameS ⟨#[97, 98]⟩ = f1 := rfl
theorem f1_size : f1.size = 14 := by rw [← f1_eq, frameS_size]; rfl
theorem f1_take : takeF (f1 ++ ⟨#[120]⟩) = (⟨#[97, 98]⟩, 14, 0) := by kernel_rfl
theorem f1_sz2 : (f1 ++ ⟨#[120]⟩).size ≤ 1048576 := by rw [ByteArray.size_append, f1_size]; decide

set_option maxHeartbeats 1000000 in
theorem frWorks_of (y : ByteArray) (hz : y.size = 14) (C1 : Hid (∀ w, Calls Try.prog 9 #[.string ⟨#[97, 98]⟩] w fun e w' => e = .returned (.tuple #[.string y, .int .i64 0]) ∧ Below w.heap.size w w'))
    (C2 : Hid (∀ w, Calls Try.prog 10 #[.string (y ++ ⟨#[120]⟩)] w fun e w' => e = .returned (.tuple #[.string ⟨#[97, 98]⟩, .int .i64 14, .int .i64 0]) ∧ Below w.heap.size w w')) (w : World) :
    Calls Try.prog 8 #[] w fun e w' => e = .returned (.bool true) ∧ Below w.heap.size w w' := by
  go_enter Try.func8, Try.ntmps8
  go_wp2_with fail
  refine (C1.out _).mono ?_
  rintro e w1 ⟨rfl, hb⟩
  have B1 := Lib.hid hb; clear hb
  go_wp2_with fail
  refine (C2.out _).mono ?_
  rintro e w2 ⟨rfl, hb⟩
  have B2 := Lib.hid (B1.out.trans (hb.mono B1.out.size)); clear hb
  go_wp2_with fail
  refine (all_any _ _).mono ?_
  have hne : ∀ (a : Option Addr) (w : World), (binOp .neq 38 (.func (.func 25) #[] #[.pointer a]) .nilFunc).run Try.prog w = .ok (.bool true) w := fun a w => by kernel_rfl
  rintro e w3 ⟨rfl, hw⟩
  have B3 : Hid (Below w.heap.size w w3) := Lib.hid (by rw [hw]; exact B2.out.alloc B2.out.size _); clear hw
  go_wp2_with fail
  go_ret
  exact ⟨rfl, B3.out⟩

theorem frWorks (w : World) : Calls Try.prog 8 #[] w fun e w' => e = .returned (.bool true) ∧ Below w.heap.size w w' :=
  frWorks_of f1 f1_size (fun w => put_at (p := ⟨#[97, 98]⟩) (x := f1) (by decide) f1_eq w) (fun w => take_at f1_sz2 f1_take w) w

set_option maxHeartbeats 1000000 in
theorem refPut_any (p : ByteArray) (hp : p.size ≤ 4096) (w : World) :
    Calls Try.prog 13 #[.string p] w fun e w' => e = .returned (.string (frameS p)) ∧ Below w.heap.size w w' := by
  have h1 := fun w => refNumber_any p.size 4 (by omega) (by unfold U64; omega) w
  have hz := numS_size 4 p.size
  have h2 := fun w => refOf_any (numS 4 p.size) (by omega) w
  have l2 := Crc.of_lt (numS 4 p.size).data.toList
  have h3 := fun w => refNumber_any (Crc.of (numS 4 p.size).data.toList) 4 (by omega) (by unfold U64 Crc.U32 at *; omega) w
  have hz3 := numS_size 4 (Crc.of (numS 4 p.size).data.toList)
  have h4 := fun w => refOf_any p (by omega) w
  have l4 := Crc.of_lt p.data.toList
  have h5 := fun w => refNumber_any (Crc.of p.data.toList) 4 (by omega) (by unfold U64 Crc.U32 at *; omega) w
  have hz5 := numS_size 4 (Crc.of p.data.toList)
  have hfr : frameS p = numS 4 p.size ++ numS 4 (Crc.of (numS 4 p.size).data.toList) ++ p ++ numS 4 (Crc.of p.data.toList) := by
    unfold frameS sm ofS
    rw [← ByteArray.append_assoc]
  unfold Crc.U32 at l2 l4
  have H1 := Lib.hid h1; have H2 := Lib.hid h2; have H3 := Lib.hid h3; have H4 := Lib.hid h4; have H5 := Lib.hid h5; have HF := Lib.hid hfr
  clear h1 h2 h3 h4 h5 hfr
  generalize numS 4 (Crc.of (numS 4 p.size).data.toList) = y3 at *
  generalize numS 4 (Crc.of p.data.toList) = y5 at *
  generalize Crc.of (numS 4 p.size).data.toList = x2 at *
  generalize Crc.of p.data.toList = x4 at *
  generalize numS 4 p.size = y1 at *
  go_enter Try.func13, Try.ntmps13
  go_wp2_with fail
  refine (H1.out _).mono ?_
  rintro e w1 ⟨rfl, hb⟩
  have B1 := Lib.hid hb; clear hb
  go_wp2_with fail
  refine (H2.out _).mono ?_
  rintro e w2 ⟨rfl, rfl⟩
  go_wp2_with fail
  refine (H3.out _).mono ?_
  rintro e w3 ⟨rfl, hb⟩
  have B3 := Lib.hid (B1.out.trans (hb.mono B1.out.size)); clear hb
  go_wp2_with fail
  refine (H4.out _).mono ?_
  rintro e w4 ⟨rfl, rfl⟩
  go_wp2_with fail
  refine (H5.out _).mono ?_
  rintro e w5 ⟨rfl, hb⟩
  have B5 := Lib.hid (B3.out.trans (hb.mono B3.out.size)); clear hb
  go_wp2_with fail
  go_ret
  exact ⟨by rw [HF.out]; rfl, B5.out⟩

set_option maxHeartbeats 1000000 in
theorem framePuts_any (p : ByteArray) (hs : p.size ≤ 140737488351232) (w : World) :
    Calls Try.prog 4 #[.string p] w fun e w' => e = .returned (.bool true) ∧ Below w.heap.size w w' := by
  by_cases h1 : 65536 < p.size
  · go_enter Try.func4, Try.ntmps4
    go_wp2_with fail
    refine (frWorks _).mono ?_
    rintro e w1 ⟨rfl, hb⟩
    have B1 := Lib.hid hb; clear hb
    go_wp2_with fail
    go_ret
    exact ⟨rfl, B1.out⟩
  · by_cases h2 : 4096 < p.size
    · go_enter Try.func4, Try.ntmps4
      go_wp2_with fail
      refine (frWorks _).mono ?_
      rintro e w1 ⟨rfl, hb⟩
      have B1 := Lib.hid hb; clear hb
      go_wp2_with fail
      refine (put_no p h2 _).mono ?_
      rintro e w2 ⟨rfl, hb⟩
      have B2 := Lib.hid (B1.out.trans (hb.mono B1.out.size)); clear hb
      go_wp2_with fail
      go_ret
      exact ⟨rfl, B2.out⟩
    · have c1 := fun w => put_ok p (by omega) w
      have c2 := fun w => refPut_any p (by omega) w
      have C1 := Lib.hid c1; have C2 := Lib.hid c2; clear c1 c2
      generalize frameS p = y at C1 C2
      go_enter Try.func4, Try.ntmps4
      go_wp2_with fail
      refine (frWorks _).mono ?_
      rintro e w1 ⟨rfl, hb⟩
      have B1 := Lib.hid hb; clear hb
      go_wp2_with fail
      refine (C1.out _).mono ?_
      rintro e w2 ⟨rfl, hb⟩
      have B2 := Lib.hid (B1.out.trans (hb.mono B1.out.size)); clear hb
      go_wp2_with fail
      refine (C2.out _).mono ?_
      rintro e w3 ⟨rfl, hb⟩
      have B3 := Lib.hid (B2.out.trans (hb.mono B2.out.size)); clear hb
      go_wp2_with fail
      go_ret
      exact ⟨rfl, B3.out⟩

theorem xor_ne (u x : UInt8) (hx : x ≠ 0) : u ^^^ x ≠ u := by
  intro h
  apply hx
  have h1 := congrArg (fun v => u ^^^ v) h
  simp only [← UInt8.xor_assoc, UInt8.xor_self, UInt8.zero_xor] at h1
  exact h1

set_option maxHeartbeats 1000000 in
theorem frameSpoilt_any (p : ByteArray) (z : Int) (b : UInt8) (hs : p.size ≤ 140737488351232) (w : World) :
    Calls Try.prog 7 #[.string p, .int .i64 z, .int .u8 b.toNat] w fun e w' => e = .returned (.bool true) ∧ Below w.heap.size w w' := by
  by_cases hbig : 4096 < p.size
  · go_enter Try.func7, Try.ntmps7
    go_wp2_with fail
    refine (frWorks _).mono ?_
    rintro e w1 ⟨rfl, hb⟩
    have B1 := Lib.hid hb; clear hb
    go_wp2_with fail
    refine (put_no p hbig _).mono ?_
    rintro e w2 ⟨rfl, hb⟩
    have B2 := Lib.hid (B1.out.trans (hb.mono B1.out.size)); clear hb
    have d1 : decide ((p.size : Int) ≤ 4096) = false := decide_eq_false (by omega)
    go_wp2_with fail
    go_ret
    exact ⟨rfl, B2.out⟩
  · have hle : (p.size : Int) ≤ 4096 := by omega
    have c1 := fun w => put_ok p (by omega) w
    have hsp := spoilt_frame p (by omega)
    have hfz := frameS_size p
    have C1 := Lib.hid c1; have HSP := Lib.hid hsp; clear c1 hsp
    generalize frameS p = y at C1 HSP hfz
    have hyl : y.size ≤ 4108 := by omega
    clear hfz hbig
    by_cases h0 : z < 0
    · go_enter Try.func7, Try.ntmps7
      go_wp2_with fail
      refine (frWorks _).mono ?_
      rintro e w1 ⟨rfl, hb⟩
      have B1 := Lib.hid hb; clear hb
      go_wp2_with fail
      refine (C1.out _).mono ?_
      rintro e w2 ⟨rfl, hb⟩
      have B2 := Lib.hid (B1.out.trans (hb.mono B1.out.size)); clear hb
      go_wp2_with fail
      go_ret
      exact ⟨rfl, B2.out⟩
    · obtain ⟨i, rfl⟩ := Int.eq_ofNat_of_zero_le (show 0 ≤ z by omega)
      clear h0
      by_cases hi : y.size ≤ i
      · go_enter Try.func7, Try.ntmps7
        go_wp2_with fail
        refine (frWorks _).mono ?_
        rintro e w1 ⟨rfl, hb⟩
        have B1 := Lib.hid hb; clear hb
        go_wp2_with fail
        refine (C1.out _).mono ?_
        rintro e w2 ⟨rfl, hb⟩
        have B2 := Lib.hid (B1.out.trans (hb.mono B1.out.size)); clear hb
        go_wp2_with fail
        go_ret
        exact ⟨rfl, B2.out⟩
      · have hil : i < y.size := by omega
        have hdi : decide (y.size ≤ i) = false := decide_eq_false hi
        clear hi
        by_cases hb0 : b = 0
        · subst hb0
          go_enter Try.func7, Try.ntmps7
          go_wp2_with fail
          refine (frWorks _).mono ?_
          rintro e w1 ⟨rfl, hb⟩
          have B1 := Lib.hid hb; clear hb
          go_wp2_with fail
          refine (C1.out _).mono ?_
          rintro e w2 ⟨rfl, hb⟩
          have B2 := Lib.hid (B1.out.trans (hb.mono B1.out.size)); clear hb
          go_wp2_with fail
          go_ret
          exact ⟨rfl, B2.out⟩
        · have hbn : ((b.toNat : Int) == 0) = false := by
            rw [beq_eq_false_iff_ne]
            intro h
            apply hb0
            apply UInt8.toNat_inj.1
            show b.toNat = 0
            omega
          have hll : i < y.data.toList.length := by simpa using hil
          have hsp := HSP.out i (y.data.toList[i] ^^^ b) hll (xor_ne _ _ hb0)
          have hx := xor_byte y.data.toList[i] b
          go_enter Try.func7, Try.ntmps7
          go_wp2_with fail
          refine (frWorks _).mono ?_
          rintro e w1 ⟨rfl, hb⟩
          have B1 := Lib.hid hb; clear hb
          go_wp2_with fail
          refine (C1.out _).mono ?_
          rintro e w2 ⟨rfl, hb⟩
          have B2 := Lib.hid (B1.out.trans (hb.mono B1.out.size)); clear hb
          have hcv := run_bytes_of_string (P := Try.prog) w2 9 31 5 y Try.underlying9 Try.underlying31 Try.underlying5
          have hB := bytesAt_made w2 y (by omega)
          have hW : Below w.heap.size w (w2.drew.alloc (.cells (bytesRow y (grownCap w2 y.size 0 5)) 5 ((bytesRow y (grownCap w2 y.size 0 5)).size, (bytesRow y (grownCap w2 y.size 0 5)).size + 1))) :=
            (B2.out.drew).alloc B2.out.size _
          generalize (w2.drew.alloc (.cells (bytesRow y (grownCap w2 y.size 0 5)) 5 ((bytesRow y (grownCap w2 y.size 0 5)).size, (bytesRow y (grownCap w2 y.size 0 5)).size + 1))) = w3 at hcv hB hW
          have hG : w.heap.size ≤ w2.heap.size := B2.out.size
          generalize grownCap w2 y.size 0 5 = C at hcv hB
          generalize w2.heap.size = G at hcv hB hG
          have c0 := hB.cell i hll
          have f0 := hB.thaw i hll
          have hB2 := hB.set i (y.data.toList[i] ^^^ b)
          have hW2 := hW.setCell (p := ⟨G, i, none⟩) hG (.int .u8 ((y.data.toList[i] ^^^ b).toNat : Nat))
          obtain ⟨L, hL⟩ : ∃ L, L = y.data.toList.set i (y.data.toList[i] ^^^ b) := ⟨_, rfl⟩
          have hLl : L.length = y.size := by rw [hL]; simp
          rw [← hL] at hsp hB2
          have hcv2 := string_B (P := Try.prog) _ 31 9 5 Try.underlying31 Try.underlying5 Try.underlying9 (hB2.own hG)
          rw [hLl] at hcv2
          have c4 := fun w => take_any (bs L) (by rw [bs_size]; omega) w
          obtain ⟨⟨pl, n, er⟩, hr⟩ : ∃ r, r = takeF (bs L) := ⟨_, rfl⟩
          rw [← hr] at hsp
          simp only [← hr] at c4
          obtain ⟨hn0, her⟩ : n = 0 ∧ er ≠ 0 := hsp
          have hn0' : ((n : Int) == 0) = true := by rw [beq_iff_eq]; omega
          have her' : (er != 0) = true := by rw [bne_iff_ne]; exact her
          have C4 := Lib.hid c4; have HW2 := Lib.hid hW2
          have hbs : (⟨L.toArray⟩ : ByteArray) = bs L := rfl
          rw [hbs] at hcv2
          generalize bs L = yb at C4 hcv2
          generalize (y.data.toList[i] ^^^ b).toNat = xb at *
          generalize y.data.toList[i] = ub at *
          clear hL hLl hB hB2 hW hW2 hr hn0 her c4 hll B1 B2 hbs
          go_wp2_with fail
          refine (C4.out _).mono ?_
          rintro e w4 ⟨rfl, hb⟩
          have B4 := Lib.hid (HW2.out.trans (hb.mono HW2.out.size)); clear hb
          go_wp2_with fail
          go_ret
          exact ⟨rfl, B4.out⟩

end Go.Proofs.Ythnoebdfofbpoaa
