/- FrameKnown: the document's examples of frames. -/
import Derived.Test.YthnoebdfofbpoaaFrScan
import Derived.Test.YthnoebdfofbpoaaEq
namespace Go.Proofs.Ythnoebdfofbpoaa
open Go.RowKit

theorem zeros_conv {B : Nat} {w : World} {g n : Nat} (hown : w.ownsRow B 5 1 (.slice (some ⟨g, 0, none⟩) n n) n (List.replicate n (.int .u8 0))) :
    ∃ A : ByteArray, A.size = n ∧ (convert 31 9 (.slice (some ⟨g, 0, none⟩) n n)).run Try.prog w = .ok (.string A) w := by
  have hcv := run_convert_bytes_arg (P := Try.prog) w 31 5 Try.underlying31 Try.underlying5 g 0 n n (List.replicate n 0) (by simp) (fun j hj => by
    rw [Nat.zero_add, hown.cellAt j (by omega)]
    simp [List.getD, hj]) 9 Try.underlying9
  exact ⟨_, by rw [strOfNums_size, List.length_replicate], hcv⟩

theorem Try.infoByte2 : (Try.prog.info? 5).map (fun i => (i.zero, i.size, i.bytes)) = some (some (.int .u8 0), 1, 1) := by kernel_rfl

def fa : ByteArray := frameS ⟨#[97]⟩
def fb : ByteArray := frameS ⟨#[]⟩
theorem fa_eq : frameS ⟨#[97]⟩ = fa := rfl
theorem fb_eq : frameS ⟨#[]⟩ = fb := rfl
def fabx : ByteArray := fa ++ fb ++ ⟨#[120, 121]⟩
theorem fabx_size : fabx.size ≤ 1048576 := by unfold fabx; rw [ByteArray.size_append, ByteArray.size_append, ← fa_eq, ← fb_eq, frameS_size, frameS_size]; decide
theorem fa_size : fa.size ≤ 100 := by rw [← fa_eq, frameS_size]; decide
theorem fb_size : fb.size ≤ 100 := by rw [← fb_eq, frameS_size]; decide
theorem fabx_pay : payF (framesF fabx) = [⟨#[97]⟩, ⟨#[]⟩] := by kernel_rfl
theorem fabx_good : goodF (framesF fabx) = 25 := by kernel_rfl
theorem nil_pay : framesF ⟨#[]⟩ = [] := by kernel_rfl
theorem t7 : takeF (f1.extract 0 7) = (⟨#[]⟩, 0, 30) := by kernel_rfl
theorem t13 : takeF (f1.extract 0 13) = (⟨#[]⟩, 0, 30) := by kernel_rfl
theorem t01 : takeF (⟨#[1]⟩ ++ f1.extract 1 f1.size) = (⟨#[]⟩, 0, 7) := by kernel_rfl

/-- What Scan answers, at a list. -/
theorem scan_at {s : ByteArray} {l : List ByteArray} {g : Nat} (hs : s.size ≤ 1048576) (hl : payF (framesF s) = l) (hg : goodF (framesF s) = g) (w : World) :
    Calls Try.prog 11 #[.string s] w fun e W' => ∃ v, e = .returned (.tuple #[v, .int .i64 g]) ∧ Strs W' w.heap.size v l ∧ Below w.heap.size w W' := by
  refine (scan_any s hs w).mono ?_
  rintro e W' ⟨v, he, ho, hb⟩
  refine ⟨v, by rw [he, hg], ?_, hb⟩
  unfold Strs
  rw [← hl, payF_length]
  exact ho

theorem Strs.slice {w : World} {B : Nat} {v : Value} {l : List ByteArray} (h : Strs w B v l) : ∃ a cap, v = .slice a l.length cap := ownsRow_slice h

set_option maxHeartbeats 2000000 in
set_option maxRecDepth 100000 in
theorem frKnown_of (y ya yb : ByteArray) (hy : 14 ≤ y.size) (hy2 : y.size ≤ 100) (ha : ya.size ≤ 100) (hb : yb.size ≤ 100)
    (C1 : Hid (∀ w, Calls Try.prog 9 #[.string ⟨#[97, 98]⟩] w fun e w' => e = .returned (.tuple #[.string y, .int .i64 0]) ∧ Below w.heap.size w w'))
    (C2 : Hid (∀ w, Calls Try.prog 10 #[.string (y.extract 0 7)] w fun e w' => e = .returned (.tuple #[.string ⟨#[]⟩, .int .i64 0, .int .i64 30]) ∧ Below w.heap.size w w'))
    (C3 : Hid (∀ w, Calls Try.prog 10 #[.string (y.extract 0 13)] w fun e w' => e = .returned (.tuple #[.string ⟨#[]⟩, .int .i64 0, .int .i64 30]) ∧ Below w.heap.size w w'))
    (C4 : Hid (∀ w, Calls Try.prog 10 #[.string (⟨#[1]⟩ ++ y.extract 1 y.size)] w fun e w' => e = .returned (.tuple #[.string ⟨#[]⟩, .int .i64 0, .int .i64 7]) ∧ Below w.heap.size w w'))
    (C5 : Hid (∀ w, Calls Try.prog 9 #[.string ⟨#[97]⟩] w fun e w' => e = .returned (.tuple #[.string ya, .int .i64 0]) ∧ Below w.heap.size w w'))
    (C6 : Hid (∀ w, Calls Try.prog 9 #[.string ⟨#[]⟩] w fun e w' => e = .returned (.tuple #[.string yb, .int .i64 0]) ∧ Below w.heap.size w w'))
    (C7 : Hid (∀ w, Calls Try.prog 11 #[.string (ya ++ yb ++ ⟨#[120, 121]⟩)] w fun e W' => ∃ v, e = .returned (.tuple #[v, .int .i64 (25 : Nat)]) ∧ Strs W' w.heap.size v [⟨#[97]⟩, ⟨#[]⟩] ∧ Below w.heap.size w W'))
    (C8 : Hid (∀ w, Calls Try.prog 11 #[.string ⟨#[]⟩] w fun e W' => ∃ v, e = .returned (.tuple #[v, .int .i64 (0 : Nat)]) ∧ Strs W' w.heap.size v [] ∧ Below w.heap.size w W')) (w : World) :
    Calls Try.prog 3 #[] w fun e w' => e = .returned (.bool true) ∧ Below w.heap.size w w' := by
  obtain ⟨i0, hi, hz0, hz1, hz2⟩ := info_parts Try.infoByte2
  go_enter Try.func3, Try.ntmps3
  go_wp2_with fail
  refine (frWorks _).mono ?_
  rintro e w0 ⟨rfl, hb⟩
  have B0 := Lib.hid hb; clear hb
  go_wp2_with fail
  refine (C1.out _).mono ?_
  rintro e w1 ⟨rfl, hb⟩
  have B1 := Lib.hid (B0.out.trans (hb.mono B0.out.size)); clear hb
  go_wp2_with fail
  refine (C2.out _).mono ?_
  rintro e w2 ⟨rfl, hb⟩
  have B2 := Lib.hid (B1.out.trans (hb.mono B1.out.size)); clear hb
  go_wp2_with fail
  refine (C3.out _).mono ?_
  rintro e w3 ⟨rfl, hb⟩
  have B3 := Lib.hid (B2.out.trans (hb.mono B2.out.size)); clear hb
  go_wp2_with fail
  refine (C4.out _).mono ?_
  rintro e w4 ⟨rfl, hb⟩
  have B4 := Lib.hid (B3.out.trans (hb.mono B3.out.size)); clear hb
  go_wp2_with fail
  refine (C5.out _).mono ?_
  rintro e w5 ⟨rfl, hb⟩
  have B5 := Lib.hid (B4.out.trans (hb.mono B4.out.size)); clear hb
  go_wp2_with fail
  refine (C6.out _).mono ?_
  rintro e w6 ⟨rfl, hb⟩
  have B6 := Lib.hid (B5.out.trans (hb.mono B5.out.size)); clear hb
  go_wp2_with fail
  refine (C7.out _).mono ?_
  rintro e w7 ⟨v, rfl, hst, hb⟩
  have I7 := Lib.hid hst.ins
  have B7 := Lib.hid (B6.out.trans (hb.mono B6.out.size)); clear hb hst
  go_wp2_with (with_reducible refine wpList_make_full _ rfl _ _ _ rfl w.heap.size 5 i0 (.int .u8 0) 1 Try.underlying31 hi hz0 hz1 .i64 .i64 _ _ 4097 rfl rfl rfl rfl ?_ ?_ ?_ ?_)
  · rw [hz2]; decide
  · unfold maxLen; decide
  · exact B7.out.size
  intro w8 hown hgr
  have hown2 : w8.ownsRow w.heap.size 5 1 (.slice (some ⟨w7.heap.size, 0, none⟩) 4097 4097) 4097 (List.replicate 4097 (.int .u8 0)) := by
    simpa [toList_madeCells_one, Value.cells] using hown
  obtain ⟨A, hA, hcv⟩ := zeros_conv hown2
  have hAn := Lib.hid (show 4096 < A.size by omega)
  have B8 : Hid (Below w.heap.size w w8) := Lib.hid (B7.out.grown hgr B7.out.size (by simp))
  have I8 := Lib.hid (I7.out.below (show Below w7.heap.size w7 w8 from (Below.refl _ _).grown hgr (Nat.le_refl _) (by simp)))
  clear hown hown2 hgr I7
  go_wp2_with fail
  refine (put_no A hAn.out _).mono ?_
  rintro e w9 ⟨rfl, hb⟩
  have B9 := Lib.hid (B8.out.trans (hb.mono B8.out.size))
  have I9 := Lib.hid (I8.out.below hb); clear hb I8 hcv hA
  go_wp2_with (with_reducible refine wpList_make_full _ rfl _ _ _ rfl w.heap.size 5 i0 (.int .u8 0) 1 Try.underlying31 hi hz0 hz1 .i64 .i64 _ _ 4096 rfl rfl rfl rfl ?_ ?_ ?_ ?_)
  · rw [hz2]; decide
  · unfold maxLen; decide
  · exact B9.out.size
  intro w10 hown hgr
  have hown2 : w10.ownsRow w.heap.size 5 1 (.slice (some ⟨w9.heap.size, 0, none⟩) 4096 4096) 4096 (List.replicate 4096 (.int .u8 0)) := by
    simpa [toList_madeCells_one, Value.cells] using hown
  obtain ⟨A2, hA2, hcv⟩ := zeros_conv hown2
  have hAle := Lib.hid (show A2.size ≤ 4096 by omega)
  have hz : (((frameS A2).size : Int) == 4108) = true := by rw [beq_iff_eq, frameS_size]; omega
  have hcp := fun w => put_ok A2 hAle.out w
  have HCP := Lib.hid hcp; clear hcp
  generalize frameS A2 = z at hz HCP
  have B10 : Hid (Below w.heap.size w w10) := Lib.hid (B9.out.grown hgr B9.out.size (by simp))
  have I10 := Lib.hid (I9.out.below (show Below w9.heap.size w9 w10 from (Below.refl _ _).grown hgr (Nat.le_refl _) (by simp)))
  clear hown hown2 hgr I9 hA2
  go_wp2_with fail
  refine (HCP.out _).mono ?_
  rintro e w11 ⟨rfl, hb⟩
  have B11 := Lib.hid (B10.out.trans (hb.mono B10.out.size))
  have I11 := Lib.hid (I10.out.below hb); clear hb I10 hcv
  go_wp2_with fail
  refine (C8.out _).mono ?_
  rintro e w12 ⟨v2, rfl, hst, hb⟩
  obtain ⟨va, vc, rfl⟩ := hst.slice
  have B12 := Lib.hid (B11.out.trans (hb.mono B11.out.size))
  have I12 := Lib.hid (I11.out.below hb); clear hb I11 hst
  have hlit : Ins (w12.alloc (.cells #[.string ⟨#[97]⟩, .string ⟨#[]⟩] 9)) (.slice (some ⟨w12.heap.size, 0, none⟩) 2 2) [⟨#[97]⟩, ⟨#[]⟩] := by
    refine ⟨some ⟨w12.heap.size, 0, none⟩, 2, rfl, by decide, .inr ⟨_, 0, rfl, by simp, fun i hi => ?_⟩⟩
    match i, hi with
    | 0, _ => exact cell_of (new_of w12 _) 0
    | 1, _ => exact cell_of (new_of w12 _) 1
  have I13 := Lib.hid (I12.out.below ((Below.refl _ _).alloc (Nat.le_refl _) (.cells #[.string ⟨#[97]⟩, .string ⟨#[]⟩] 9)))
  have HL := Lib.hid hlit; clear hlit I12
  go_wp2_with fail
  refine (equal_any I13.out HL.out).mono ?_
  rintro e w13 ⟨rfl, hb⟩
  have B13 : Hid (Below w.heap.size w w13) := Lib.hid ((B12.out.alloc B12.out.size _).trans (hb.mono (by have := B12.out.size; simp; omega))); clear hb
  go_wp2_with fail
  go_ret
  exact ⟨rfl, B13.out⟩

theorem frKnown_any (w : World) : Calls Try.prog 3 #[] w fun e w' => e = .returned (.bool true) ∧ Below w.heap.size w w' :=
  frKnown_of f1 fa fb (by rw [f1_size]; decide) (by rw [f1_size]; decide) fa_size fb_size
    (fun w => put_at (p := ⟨#[97, 98]⟩) (by decide) f1_eq w)
    (fun w => take_at (by rw [ByteArray.size_extract, f1_size]; decide) t7 w)
    (fun w => take_at (by rw [ByteArray.size_extract, f1_size]; decide) t13 w)
    (fun w => take_at (by rw [ByteArray.size_append, ByteArray.size_extract, f1_size]; decide) t01 w)
    (fun w => put_at (p := ⟨#[97]⟩) (by decide) fa_eq w)
    (fun w => put_at (p := ⟨#[]⟩) (by decide) fb_eq w)
    (fun w => scan_at fabx_size fabx_pay fabx_good w)
    (fun w => scan_at (by decide) (by rw [nil_pay]; rfl) (by rw [nil_pay]; rfl) w) w

end Go.Proofs.Ythnoebdfofbpoaa
