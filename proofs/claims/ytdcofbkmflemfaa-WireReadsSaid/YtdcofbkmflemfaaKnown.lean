/- 'dragomanlaw01.WireKnown': the document's examples of layer 1: true, whatever the world. -/
import Derived.Test.YtdcofbkmflemfaaOwn
import Derived.ProofKit
import Derived.OpenShut
namespace Go.Proofs.Ytdcofbkmflemfaa
open Go.RowKit

theorem Strs.shape {w : World} {B : Nat} {v : Value} {l : List ByteArray} (h : Strs w B v l) : ∃ a cap, v = .slice a l.length cap := by
  rcases h.2 with ⟨rfl, h0⟩ | ⟨g, cap, cur, rfl, _⟩
  · exact ⟨none, 0, by rw [h0]⟩
  · exact ⟨_, _, rfl⟩

theorem u8_at {n : Nat} {x : ByteArray} (hn : n < 256) (he : numS 1 n = x) (w : World) :
    Calls Try.prog 10 #[.int .u8 n] w fun e w' => e = .returned (.string x) ∧ Below w.heap.size w w' := by
  subst he; exact u8_any n hn w

theorem u64_at {n : Nat} {x : ByteArray} (he : numS 8 n = x) (w : World) :
    Calls Try.prog 11 #[.int .u64 n] w fun e w' => e = .returned (.string x) ∧ Below w.heap.size w w' := by
  subst he; exact u64_any n w

theorem bool_at {b : Bool} {x : ByteArray} (he : numS 1 b.toNat = x) (w : World) :
    Calls Try.prog 12 #[.bool b] w fun e w' => e = .returned (.string x) ∧ Below w.heap.size w w' := by
  subst he; exact bool_any b w

theorem texts_at {v : Value} {l : List ByteArray} {x : ByteArray} {w : World} (h : Ins w v l) (ht : total l ≤ 1048576) (hn : l.length ≤ 1048576) (he : textsS l = x) :
    Calls Try.prog 9 #[v] w fun e w' => e = .returned (.tuple #[.string x, .int .i64 0]) ∧ Below w.heap.size w w' := by
  subst he; exact texts_any v l w h ht hn

theorem ins_two (w : World) (x y : ByteArray) : Ins (w.alloc (.cells #[.string x, .string y] 9)) (.slice (some ⟨w.heap.size, 0, none⟩) 2 2) [x, y] := by
  refine ⟨_, 2, rfl, by simp, .inr ⟨w.heap.size, 0, rfl, by simp, fun i hi => ?_⟩⟩
  have h := heap_alloc_new w (.cells #[.string x, .string y] 9)
  match i, hi with
  | 0, _ => simp only [World.cell?, h]; rfl
  | 1, _ => simp only [World.cell?, h]; rfl

theorem made_str (wM : World) (n B g : Nat) (h : wM.ownsRow B 5 1 (.slice (some ⟨g, 0, none⟩) n n) n (madeCells (Value.int .u8 0).cells (n * 1)).toList) :
    ∃ S : ByteArray, S.size = n ∧ (convert 41 9 (.slice (some ⟨g, 0, none⟩) n n)).run Try.prog wM = .ok (.string S) wM := by
  refine ⟨strOfNums (List.replicate n 0), by rw [strOfNums_size, List.length_replicate], ?_⟩
  refine run_convert_bytes_arg (P := Try.prog) wM 41 5 Try.underlying41 Try.underlying5 g 0 n n (List.replicate n 0) (List.length_replicate ..) (fun j hj => ?_) 9 Try.underlying9
  rw [Nat.zero_add, h.cellAt j (by omega)]
  show (madeCells #[Value.int .u8 0] (n * 1)).toList[j]? = _
  rw [toList_madeCells_one, Nat.mul_one]
  simp [List.getD, hj]

theorem big_eq : (1048577 : Int) = ((1048577 : Nat) : Int) := rfl

set_option maxHeartbeats 4000000 in
set_option maxRecDepth 100000 in
theorem known_any (w : World) : Calls Try.prog 3 #[] w fun e w' => e = .returned (.bool true) ∧ Below w.heap.size w w' := by
  go_enter Try.func3, Try.ntmps3
  go_wp2_with fail
  refine (works_any _).mono ?_
  rintro e w1 ⟨rfl, hb⟩
  have H1 := Lib.hid hb; clear hb
  go_wp2_with fail
  refine (texts_at (ins_two w1 ⟨#[97]⟩ ⟨#[]⟩) (x := ⟨#[0, 0, 0, 2, 0, 0, 0, 1, 97, 0, 0, 0, 0]⟩) (by decide) (by decide) (by kernel_rfl)).mono ?_
  rintro e w2 ⟨rfl, hb⟩
  have H2 : Hid (Below w.heap.size w w2) := Lib.hid ((H1.out.alloc H1.out.size _).trans (hb.mono (by have := H1.out.size; simp; omega)))
  clear hb H1
  go_wp2_with fail
  refine (u8_at (n := 7) (x := ⟨#[7]⟩) (by decide) (by kernel_rfl) _).mono ?_
  rintro e w3 ⟨rfl, hb⟩
  have H3 : Hid (Below w.heap.size w w3) := Lib.hid (H2.out.trans (hb.mono H2.out.size))
  clear hb H2
  go_wp2_with fail
  refine (u64_at (n := 1) (x := ⟨#[0, 0, 0, 0, 0, 0, 0, 1]⟩) (by kernel_rfl) _).mono ?_
  rintro e w4 ⟨rfl, hb⟩
  have H4 : Hid (Below w.heap.size w w4) := Lib.hid (H3.out.trans (hb.mono H3.out.size))
  clear hb H3
  go_wp2_with fail
  refine (bool_at (b := true) (x := ⟨#[1]⟩) (by kernel_rfl) _).mono ?_
  rintro e w5 ⟨rfl, hb⟩
  have H5 : Hid (Below w.heap.size w w5) := Lib.hid (H4.out.trans (hb.mono H4.out.size))
  clear hb H4
  go_wp2_with fail
  refine (bool_at (b := false) (x := ⟨#[0]⟩) (by kernel_rfl) _).mono ?_
  rintro e w6 ⟨rfl, hb⟩
  have H6 : Hid (Below w.heap.size w w6) := Lib.hid (H5.out.trans (hb.mono H5.out.size))
  clear hb H5
  go_wp2_with fail
  refine (own_new (W := w) ⟨#[0, 0, 0, 2, 97, 98, 99]⟩ (by decide) H6.out).mono ?_
  rintro e w7 ⟨rfl, ho, _⟩
  have O7 := Lib.hid ho; clear ho
  go_wp2_with fail
  clear H6
  refine (own_text O7.out (x := ⟨#[97, 98]⟩) (t' := ⟨6, 0, 0⟩) (by kernel_rfl)).mono ?_
  rintro e w8 ⟨rfl, ho, _⟩
  have O8 := Lib.hid ho; clear ho O7
  go_wp2_with fail
  refine (own_rest O8.out (x := ⟨#[99]⟩) (by kernel_rfl)).mono ?_
  rintro e w9 ⟨rfl, ho, _⟩
  have O9 := Lib.hid ho; clear ho O8
  go_wp2_with fail
  refine (own_end O9.out (x := 7) (y := 6) (by kernel_rfl)).mono ?_
  rintro e w10 ⟨rfl, ho, _⟩
  have O10 := Lib.hid ho; clear ho O9
  go_wp2_with fail
  have B10 := Lib.hid O10.out.below; clear O10
  refine (own_new (W := w) ⟨#[0, 0, 0, 2, 97, 98, 99]⟩ (by decide) B10.out).mono ?_
  rintro e w11 ⟨rfl, ho, _⟩
  have O11 := Lib.hid ho; clear ho
  go_wp2_with fail
  clear B10
  refine (own_text O11.out (x := ⟨#[]⟩) (t' := ⟨4, 3, 0⟩) (by kernel_rfl)).mono ?_
  rintro e w12 ⟨rfl, ho, _⟩
  have O12 := Lib.hid ho; clear ho O11
  go_wp2_with fail
  refine (own_fault O12.out).mono ?_
  rintro e w13 ⟨rfl, ho, _⟩
  have O13 := Lib.hid ho; clear ho O12
  go_wp2_with fail
  refine (own_u8 O13.out (n := 0) (t' := ⟨4, 3, 0⟩) (by kernel_rfl)).mono ?_
  rintro e w14 ⟨rfl, ho, _⟩
  have O14 := Lib.hid ho; clear ho O13
  go_wp2_with fail
  have B14 := Lib.hid O14.out.below; clear O14
  refine (own_new (W := w) ⟨#[0, 0, 0, 9, 97]⟩ (by decide) B14.out).mono ?_
  rintro e x1 ⟨rfl, ho, _⟩
  have R1 := Lib.hid ho; clear ho B14
  go_wp2_with fail
  refine (own_new (W := w) ⟨#[2]⟩ (by decide) R1.out.below).mono ?_
  rintro e x2 ⟨rfl, ho, hb⟩
  have hne := Nat.ne_of_lt R1.out.lt
  have HNE := Lib.hid hne; clear hne
  have R2 := Lib.hid (R1.out.stay hb)
  have T2 := Lib.hid ho; clear ho hb R1
  go_wp2_with fail
  refine (own_text R2.out (x := ⟨#[]⟩) (t' := ⟨4, 7, 0⟩) (by kernel_rfl)).mono ?_
  rintro e x3 ⟨rfl, ho, hg⟩
  have T3 := Lib.hid (T2.out.other ho (Ne.symm HNE.out) hg)
  have R3 := Lib.hid ho; clear ho hg R2 T2
  go_wp2_with fail
  refine (own_fault R3.out).mono ?_
  rintro e x4 ⟨rfl, ho, hb⟩
  have T4 := Lib.hid (T3.out.stay hb); clear ho hb R3 T3
  go_wp2_with fail
  refine (own_bool T4.out (x := false) (t' := ⟨1, 7, 0⟩) (by kernel_rfl)).mono ?_
  rintro e x5 ⟨rfl, ho, _⟩
  have T5 := Lib.hid ho; clear ho T4
  go_wp2_with fail
  refine (own_fault T5.out).mono ?_
  rintro e x6 ⟨rfl, ho, _⟩
  have B6 := Lib.hid ho.below; clear ho T5 HNE
  go_wp2_with fail
  refine (own_new (W := w) ⟨#[0, 0, 0, 1, 0, 0, 0, 1]⟩ (by decide) B6.out).mono ?_
  rintro e y1 ⟨rfl, ho, _⟩
  have Y1 := Lib.hid ho; clear ho B6
  go_wp2_with fail
  refine (own_texts Y1.out (l := []) (t' := ⟨8, 7, 4⟩) (by kernel_rfl)).mono ?_
  rintro e y2 ⟨v, rfl, hv, ho, _⟩
  obtain ⟨a1, c1, rfl⟩ := hv.shape
  have Y2 := Lib.hid ho; clear ho hv Y1
  go_wp2_with fail
  refine (own_fault Y2.out).mono ?_
  rintro e y3 ⟨rfl, ho, _⟩
  have Y3 := Lib.hid ho; clear ho Y2
  go_wp2_with fail
  refine (own_texts Y3.out (l := []) (t' := ⟨8, 7, 4⟩) (by kernel_rfl)).mono ?_
  rintro e y4 ⟨v, rfl, hv, ho, _⟩
  obtain ⟨a2, c2, rfl⟩ := hv.shape
  have Y4 := Lib.hid ho; clear ho hv Y3
  go_wp2_with fail
  refine (own_end Y4.out (x := 7) (y := 4) (by kernel_rfl)).mono ?_
  rintro e y5 ⟨rfl, ho, _⟩
  have B := Lib.hid ho.below; clear ho Y4
  obtain ⟨i0, hi, hz0, hz1, hz2⟩ := info_parts Try.info5
  go_wp2_with (refine wpList_make_full _ rfl _ _ _ rfl w.heap.size 5 i0 (.int .u8 0) 1 Try.underlying41 hi hz0 hz1 .i64 .i64 _ _ 1048577 rfl rfl big_eq big_eq ?_ ?_ ?_ ?_)
  · rw [hz2]; omega
  · unfold maxLen; omega
  · exact B.out.size
  intro z1 hown hgr
  obtain ⟨S, hS, hcv⟩ := made_str z1 1048577 w.heap.size y5.heap.size hown
  have hS2 : 1048576 < S.size := by rw [hS]; decide
  have B1 := Lib.hid (B.out.grown hgr B.out.size (by simp))
  clear hown hgr hS hi hz0 hz1 hz2 B
  go_wp2_with fail
  refine (write_long S hS2 _).mono ?_
  rintro e z2 ⟨rfl, rfl⟩
  go_wp2_with fail
  refine (fault_nil _).mono ?_
  rintro e z3 ⟨rfl, hb⟩
  have B2 := Lib.hid (B1.out.trans (hb.mono B1.out.size)); clear hb B1
  go_wp2_with fail
  refine (end_nil _).mono ?_
  rintro e z4 ⟨rfl, hb⟩
  have B3 := Lib.hid (B2.out.trans (hb.mono B2.out.size)); clear hb B2
  go_wp2_with fail
  refine (rest_nil _).mono ?_
  rintro e z5 ⟨rfl, rfl⟩
  go_wp2_with fail
  refine (u8_nil _).mono ?_
  rintro e z5 ⟨rfl, rfl⟩
  go_wp2_with fail
  refine (u32_nil _).mono ?_
  rintro e z5 ⟨rfl, rfl⟩
  go_wp2_with fail
  refine (u64_nil _).mono ?_
  rintro e z5 ⟨rfl, rfl⟩
  go_wp2_with fail
  refine (bool_nil _).mono ?_
  rintro e z5 ⟨rfl, rfl⟩
  go_wp2_with fail
  refine (text_nil _ _).mono ?_
  rintro e z5 ⟨rfl, rfl⟩
  go_wp2_with fail
  refine (texts_nil _ _ _).mono ?_
  rintro e z5 ⟨rfl, rfl⟩
  go_wp2_with fail
  go_ret
  exact ⟨rfl, B3.out⟩

end Go.Proofs.Ytdcofbkmflemfaa
