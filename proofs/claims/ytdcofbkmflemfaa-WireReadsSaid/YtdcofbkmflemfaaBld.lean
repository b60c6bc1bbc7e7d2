/- The contracts of the builder that wire.Texts writes into, and of wire.Texts and wire.fit. -/
import Derived.Test.YtdcofbkmflemfaaNum
import Derived.Test.YtdcofbkmflemfaaShelf
import Derived.Lib.Strings
import Derived.Lib.Slices
import Derived.Lib.Walk
import Derived.Lib.Builder
import Derived.Lib.AppendStr
import Derived.Lib.UnsafeStr
import Derived.Laws.Externs
namespace Go.Proofs.Ytdcofbkmflemfaa
open Go.RowKit

theorem Try.sizeBuilder : (Try.prog.info? 67).map (·.size) = some 2 := by kernel_rfl
theorem Try.liesBuilder : liesAt Try.prog Try.prog.depth 67 (2 / Try.prog.cellsOf 67) 0 67 1 = true := by kernel_rfl

set_option maxHeartbeats 1000000 in
theorem check_used (b : Nat) (w : World) (h0 : w.cell? ⟨b, 0, none⟩ = some (.pointer (some ⟨b, 0, none⟩))) :
    Calls Try.prog 46 #[.pointer (some ⟨b, 0, none⟩)] w fun e w' => e = .returned (.tuple #[]) ∧ w' = w := by
  obtain ⟨j, hj, _⟩ := Option.map_eq_some_iff.1 Try.sizeBuilder
  go_enter Try.func46, Try.ntmps46
  go_wp2
  rw [Lib.run_neq_ptr_same w _ Try.underlying65 hj]
  go_wp2
  go_end0
  exact ⟨rfl, rfl⟩

set_option maxHeartbeats 1000000 in
theorem check_fresh (b : Nat) (w : World) (h0 : w.cell? ⟨b, 0, none⟩ = some (.pointer none)) (hsh : w.shape? b = some (67, 2)) (hfz : w.frozen? ⟨b, 0, none⟩ = false) :
    Calls Try.prog 46 #[.pointer (some ⟨b, 0, none⟩)] w fun e w' => e = .returned (.tuple #[]) ∧ w' = w.setCell ⟨b, 0, none⟩ (.pointer (some ⟨b, 0, none⟩)) := by
  obtain ⟨j, hj, hjs⟩ := Option.map_eq_some_iff.1 Try.sizeBuilder
  go_enter Try.func46, Try.ntmps46
  go_wp2_with fail
  rw [Lib.run_to_unsafe w ⟨b, 0, none⟩ Try.underlying65 Try.underlying80 hj (by rw [hjs]; decide) hsh (Nat.zero_lt_succ 1)]
  simp only [Result.andThen]
  rw [Oper.upon_value]
  go_wp2
  rw [run_callFunc_extern Try.func47 (by kernel_rfl) (by kernel_rfl) (by kernel_rfl) (e := Extern.AbiNoEscape.same) (by kernel_rfl)]
  rw [Lib.run_noEscape]
  simp only [Result.andThen]
  rw [Oper.upon_value]
  go_wp2
  rw [Lib.run_from_unsafe w ⟨b, 0, none⟩ Try.underlying80 Try.underlying65 hj hsh Try.liesBuilder]
  simp only [Result.andThen]
  rw [Oper.upon_value]
  go_wp2
  go_end0
  exact ⟨rfl, rfl⟩

theorem check_any (B b : Nat) (bs : List Value) (w : World) (h : Lib.IsBuilder 67 5 B b bs w) :
    Calls Try.prog 46 #[.pointer (some ⟨b, 0, none⟩)] w fun e w' => e = .returned (.tuple #[]) ∧ (Lib.BuilderAt 67 5 B b (.pointer (some ⟨b, 0, none⟩)) bs w' ∧ Below B w w') := by
  rcases h with h | h
  · refine (check_fresh b w h.cell0 h.shape h.frozen0).mono ?_
    rintro e w' ⟨rfl, rfl⟩
    exact ⟨rfl, h.used _, (Below.refl B w).setCell (p := ⟨b, 0, none⟩) h.1 _⟩
  · refine (check_used b w h.cell0).mono ?_
    rintro e w' ⟨rfl, rfl⟩
    exact ⟨rfl, h, Below.refl B _⟩

set_option maxHeartbeats 1000000 in
theorem write_any (B b : Nat) (bs : List Value) (s : ByteArray) (w : World) (h : Lib.IsBuilder 67 5 B b bs w) (hlen : bs.length + s.size ≤ 140737488355328) (hBw : B ≤ w.heap.size) :
    Calls Try.prog 34 #[.pointer (some ⟨b, 0, none⟩), .string s] w fun e w' => e = .returned (.tuple #[.int .i64 s.size, .nilIface]) ∧ (Lib.BuilderAt 67 5 B b (.pointer (some ⟨b, 0, none⟩)) (bs ++ Lib.strCells s) w' ∧ Below B w w') := by
  obtain ⟨i0, hi, hz0, hz1, hz2⟩ := info_parts Try.info5
  go_enter Try.func34, Try.ntmps34
  go_wp2_with fail
  refine (check_any B b bs _ h).mono ?_
  rintro e w1 ⟨rfl, h1, hb1⟩
  obtain ⟨hB, v, hbk, hown, hne⟩ := h1
  have c0 : w1.cell? ⟨b, 0, none⟩ = some (.pointer (some ⟨b, 0, none⟩)) := by rw [Lib.cell_of_heap hbk]; rfl
  have c1 : w1.cell? ⟨b, 1, none⟩ = some v := by rw [Lib.cell_of_heap hbk]; rfl
  go_wp2_with (at_builtin; refine Lib.wpList_append_own_string _ rfl _ _ 41 9 rfl B 5 i0 Try.underlying41 Try.underlying9 hi hz0 hz1 hz2 _ _ _ rfl hown s rfl ?c3 ?c4 ?c5 ?_)
  case c3 => unfold maxLen; omega
  case c4 => omega
  case c5 => have := hb1.size; omega
  intro v' w2 hown' hgrow _
  have hlt : b < w1.heap.size := lt_of_block hbk
  have hb2 : w2.heap[b]? = some (.cells #[.pointer (some ⟨b, 0, none⟩), v] 67 (0, 0)) := by
    rw [hgrow.block b hlt (fun e => hne e.symm)]
    exact hbk
  have d0 : w2.cell? ⟨b, 0, none⟩ = some (.pointer (some ⟨b, 0, none⟩)) := by rw [Lib.cell_of_heap hb2]; rfl
  have d1 : w2.cell? ⟨b, 1, none⟩ = some v := by rw [Lib.cell_of_heap hb2]; rfl
  have f1 : w2.frozen? ⟨b, 1, none⟩ = false := Lib.frozen_of_heap hb2 1
  obtain ⟨ao, n', cap, rfl⟩ : ∃ ao n' cap, v' = .slice ao n' cap := by
    rcases hown'.2 with ⟨hv, _⟩ | ⟨g, cap, cur, hv, _⟩
    · exact ⟨_, _, _, hv⟩
    · exact ⟨_, _, _, hv⟩
  go_wp2
  go_ret2
  refine ⟨rfl, ?_, ?_⟩
  · exact Lib.BuilderAt.put (T := 67) (e := 5) hB hb2 (bs' := bs ++ Lib.strCells s) (by simpa [Lib.strCells_length] using hown') (by decide)
  · exact (hb1.grown hgrow (by have := hb1.size; omega) (fun k hk => (hown.lt k hk).1)).setCell (p := ⟨b, 1, none⟩) hB _

/-- A value that reads as a list of strings. -/
def Ins (w : World) (v : Value) (l : List ByteArray) : Prop :=
  ∃ (a : Option Addr) (cap : Nat), v = .slice a l.length cap ∧ l.length ≤ 9223372036854775807 ∧ (l = [] ∨ ∃ b o, a = some ⟨b, o, none⟩ ∧ b < w.heap.size ∧ ∀ i, i < l.length → w.cell? ⟨b, o + i, none⟩ = some (.string (l.getD i ByteArray.empty)))

theorem Ins.below {w w' : World} {v : Value} {l : List ByteArray} (h : Ins w v l) (hb : Below w.heap.size w w') : Ins w' v l := by
  obtain ⟨a, cap, rfl, hl, h⟩ := h
  refine ⟨a, cap, rfl, hl, ?_⟩
  rcases h with h | ⟨b, o, rfl, hlt, hc⟩
  · exact .inl h
  · exact .inr ⟨b, o, rfl, Nat.lt_of_lt_of_le hlt hb.size, fun i hi => by rw [hb.cell hlt]; exact hc i hi⟩

/-- How many bytes a list of strings has together. -/
def total : List ByteArray → Nat
  | [] => 0
  | s :: l => s.size + total l

theorem total_append (a b : List ByteArray) : total (a ++ b) = total a + total b := by
  induction a with
  | nil => simp [total]
  | cons s l ih => simp [total, ih]; omega

theorem total_take_succ (l : List ByteArray) (k : Nat) (h : k < l.length) : total (l.take (k + 1)) = total (l.take k) + (l.getD k ByteArray.empty).size := by
  rw [List.take_succ_eq_append_getElem h, total_append]
  simp [total, List.getD, List.getElem?_eq_getElem h]

theorem total_take_le (l : List ByteArray) : ∀ k, total (l.take k) ≤ total l := by
  induction l with
  | nil => intro k; simp [total]
  | cons s l ih => intro k; cases k with
    | zero => simp [total]
    | succ k => have := ih k; simp [total]; omega

set_option maxHeartbeats 1000000 in
theorem fit_yes (v : Value) (l : List ByteArray) (w : World) (h : Ins w v l) (ht : total l ≤ 1048576) :
    Calls Try.prog 33 #[v] w fun e w' => e = .returned (.bool true) ∧ w = w' := by
  obtain ⟨a, cap, rfl, hl, h⟩ := h
  have hcell : ∀ k, k < l.length → ∃ b o, a = some ⟨b, o, none⟩ ∧ w.cell? ⟨b, o + k, none⟩ = some (.string (l.getD k ByteArray.empty)) := by
    intro k hk
    rcases h with h | ⟨b, o, rfl, hlt, hc⟩
    · simp [h] at hk
    · exact ⟨b, o, rfl, hc k hk⟩
  have HC := Lib.hid hcell; clear hcell h
  go_enter Try.func33, Try.ntmps33
  go_wp2
  go_loop [3, 5, 8] (fun s3 _ s8 => ∃ k : Nat, k ≤ l.length ∧ s8 = .int .i64 k ∧ s3 = .int .i64 (1048576 - (total (l.take k) : Int))) (fun _ _ s8 => (l.length - intOf s8).toNat)
  case atStart => exact ⟨0, Nat.zero_le _, rfl, by simp [total]⟩
  case round =>
    obtain ⟨k, hk, rfl, rfl⟩ := hrel
    by_cases hlt : k < l.length
    · obtain ⟨b, o, rfl, hc⟩ := HC.out k hlt
      have h1 := total_take_succ l k hlt
      have h2 := total_take_le l (k + 1)
      have H1 := Lib.hid h1
      obtain ⟨x, hx⟩ : ∃ x, x = l.getD k ByteArray.empty := ⟨_, rfl⟩
      rw [← hx] at hc h1
      obtain ⟨m, hm⟩ : ∃ m, m = total (l.take k) := ⟨_, rfl⟩
      rw [← hm] at h1 ⊢
      have hle : m + x.size ≤ 1048576 := by omega
      have HX := Lib.hid hx
      have HM := Lib.hid hm
      clear h1 h2 hx hm
      go_wp2
      go_round
      case rel => exact ⟨k + 1, by omega, by go_num, by rw [H1.out, ← HX.out, ← HM.out]; go_num⟩
      case measure => simp [intOf]; omega
    · go_wp2
      go_ret
      exact ⟨rfl, rfl⟩

theorem isB_below {w w' : World} {B b : Nat} {bs : List Value} (h : Lib.IsBuilder 67 5 B b bs w) (hb : Below w.heap.size w w') : Lib.IsBuilder 67 5 B b bs w' := by
  have each : ∀ p, Lib.BuilderAt 67 5 B b p bs w → Lib.BuilderAt 67 5 B b p bs w' := by
    intro p hp
    have hlt := hp.lt
    obtain ⟨hB, v, hbk, hown, hne⟩ := hp
    refine ⟨hB, v, by rw [hb.block b hlt]; exact hbk, ?_, hne⟩
    refine ⟨hown.1, ?_⟩
    rcases hown.2 with hn | ⟨g, cap, cur, rfl, hbg, hgg, rest⟩
    · exact .inl hn
    · exact .inr ⟨g, cap, cur, rfl, hbg, by rw [hb.block g (lt_of_block hgg)]; exact hgg, rest⟩
  rcases h with h | h
  · exact .inl (each _ h)
  · exact .inr (each _ h)

/-- The bytes of so many texts. -/
def textsL : List ByteArray → List UInt8
  | [] => []
  | s :: l => (textS s).data.toList ++ textsL l

theorem textsL_append (a b : List ByteArray) : textsL (a ++ b) = textsL a ++ textsL b := by
  induction a with
  | nil => rfl
  | cons s l ih => simp [textsL, ih]

theorem textsL_take_succ (l : List ByteArray) (k : Nat) (h : k < l.length) : textsL (l.take (k + 1)) = textsL (l.take k) ++ (numS 4 (l.getD k ByteArray.empty).size).data.toList ++ (l.getD k ByteArray.empty).data.toList := by
  rw [List.take_succ_eq_append_getElem h, textsL_append]
  simp [textsL, textS, List.getD, List.getElem?_eq_getElem h]

theorem textsL_length (l : List ByteArray) : (textsL l).length = 4 * l.length + total l := by
  induction l with
  | nil => rfl
  | cons s l ih =>
    have h4 : (numS 4 s.size).data.size = 4 := numS_size 4 s.size
    have hs : s.data.size = s.size := rfl
    simp [textsL, textS, total, ih, h4, hs]
    omega

def textsS (l : List ByteArray) : ByteArray := ⟨((numS 4 l.length).data.toList ++ textsL l).toArray⟩

theorem textsS_size (l : List ByteArray) : (textsS l).size = 4 + 4 * l.length + total l := by
  have h4 : (numS 4 l.length).data.size = 4 := numS_size 4 _
  have := textsL_length l
  show (textsS l).data.size = _
  simp [textsS, h4, this]
  omega

set_option maxHeartbeats 1000000 in
theorem texts_any (v : Value) (l : List ByteArray) (w : World) (h : Ins w v l) (ht : total l ≤ 1048576) (hn : l.length ≤ 1048576) :
    Calls Try.prog 9 #[v] w fun e w' => e = .returned (.tuple #[.string (textsS l), .int .i64 0]) ∧ Below w.heap.size w w' := by
  have hfit := fit_yes v l w h ht
  obtain ⟨a, cap, rfl, hl, h⟩ := h
  have hcell : ∀ k, k < l.length → ∃ b o, a = some ⟨b, o, none⟩ ∧ b < w.heap.size ∧ w.cell? ⟨b, o + k, none⟩ = some (.string (l.getD k ByteArray.empty)) := by
    intro k hk
    rcases h with h | ⟨b, o, rfl, hlt, hc⟩
    · simp [h] at hk
    · exact ⟨b, o, rfl, hlt, hc k hk⟩
  have HC := Lib.hid hcell; clear hcell h
  have HF := Lib.hid hfit; clear hfit
  go_enter Try.func9, Try.ntmps9
  go_wp2_with fail
  refine HF.out.mono ?_
  rintro e w1 ⟨rfl, rfl⟩
  go_wp2_with fail
  refine (u32_any l.length (by omega) _).mono ?_
  rintro e w1 ⟨rfl, hb1⟩
  have hB0 : Lib.IsBuilder 67 5 w.heap.size w.heap.size [] (w.alloc (.cells #[.pointer none, .slice none 0 0] 67)) :=
    .inl ⟨Nat.le_refl _, _, heap_alloc_new w _, World.ownsRow_nil _ _ _ _, by simp [Value.ownBlock]⟩
  have hB1 := isB_below hB0 hb1
  have hw1 : Below w.heap.size w w1 := ((Below.refl _ _).alloc (Nat.le_refl _) _).trans (hb1.mono (by simp))
  clear hB0 hb1
  have HB1 := Lib.hid hB1; clear hB1
  have HW1 := Lib.hid hw1; clear hw1
  go_wp2_with fail
  refine (write_any w.heap.size w.heap.size [] (numS 4 l.length) w1 HB1.out (by rw [numS_size]; simp) HW1.out.size).mono ?_
  rintro e w2 ⟨rfl, hB2, hb2⟩
  have HB2 : Hid (Lib.IsBuilder 67 5 w.heap.size w.heap.size (Lib.byteCells ((numS 4 l.length).data.toList ++ textsL (l.take 0))) w2) := by
    have h0 : Lib.IsBuilder 67 5 w.heap.size w.heap.size (Lib.byteCells ((numS 4 l.length).data.toList ++ textsL (l.take 0))) w2 := .inr (by simpa [textsL, Lib.strCells_eq] using hB2)
    exact Lib.hid h0
  have HW2 : Hid (Below w.heap.size w w2) := Lib.hid (HW1.out.trans hb2)
  clear hB2 hb2
  go_wp2_with fail
  go_loopw [22] (fun s22 wr => ∃ k : Nat, k ≤ l.length ∧ s22 = .int .i64 k ∧ Lib.IsBuilder 67 5 w.heap.size w.heap.size (Lib.byteCells ((numS 4 l.length).data.toList ++ textsL (l.take k))) wr ∧ Below w.heap.size w wr) (fun s22 _ => (l.length - intOf s22).toNat)
  case atStart => exact ⟨0, Nat.zero_le _, rfl, HB2.out, HW2.out⟩
  case round =>
    obtain ⟨k, hk, rfl, hB, hb⟩ := hrel
    have HB := Lib.hid hB; clear hB
    have HW := Lib.hid hb; clear hb
    have hbw : w.heap.size ≤ wr.heap.size := HW.out.size
    by_cases hlt : k < l.length
    · obtain ⟨b, o, rfl, hbl, hc⟩ := HC.out k hlt
      have hc : wr.cell? ⟨b, o + k, none⟩ = some (.string (l.getD k ByteArray.empty)) := by rw [HW.out.cell hbl]; exact hc
      have h1 := textsL_take_succ l k hlt
      have h2 := total_take_succ l k hlt
      have h3 := total_take_le l (k + 1)
      have h4 := textsL_length (l.take k)
      have H1 := Lib.hid h1; clear h1
      obtain ⟨x, hx⟩ : ∃ x, x = l.getD k ByteArray.empty := ⟨_, rfl⟩
      rw [← hx] at hc h2
      have hxs : x.size ≤ 1048576 := by omega
      have hpre : ((numS 4 l.length).data.toList ++ textsL (l.take k)).length ≤ 10485764 := by
        have h5 : (numS 4 l.length).data.size = 4 := numS_size 4 _
        simp [h4, h5]
        omega
      have HX := Lib.hid hx
      clear h2 h3 h4 hx
      go_wp2_with fail
      refine (length_any x (by omega) wr).mono ?_
      rintro e w3 ⟨rfl, hb3⟩
      have hB3 := isB_below HB.out hb3
      have HB3 := Lib.hid hB3; clear hB3
      have HW3 : Hid (Below w.heap.size w w3) := Lib.hid (HW.out.trans (hb3.mono hbw))
      clear hb3
      go_wp2_with fail
      refine (write_any w.heap.size w.heap.size _ (numS 4 x.size) w3 HB3.out (by rw [numS_size, Lib.byteCells_length]; omega) HW3.out.size).mono ?_
      rintro e w4 ⟨rfl, hB4, hb4⟩
      have HB4 := Lib.hid hB4; clear hB4
      have HW4 : Hid (Below w.heap.size w w4) := Lib.hid (HW3.out.trans hb4)
      clear hb4
      go_wp2_with fail
      refine (write_any w.heap.size w.heap.size _ x w4 (.inr HB4.out) (by rw [List.length_append, Lib.strCells_length, numS_size, Lib.byteCells_length]; omega) HW4.out.size).mono ?_
      rintro e w5 ⟨rfl, hB5, hb5⟩
      have HB5 := Lib.hid hB5; clear hB5
      have HW5 : Hid (Below w.heap.size w w5) := Lib.hid (HW4.out.trans hb5)
      clear hb5
      go_wp2_with fail
      go_roundw
      case rel =>
        refine ⟨k + 1, by omega, by go_num, .inr ?_, HW5.out⟩
        have := HB5.out
        rw [H1.out, ← HX.out]
        simpa [Lib.strCells_eq, Lib.byteCells_append, List.append_assoc] using this
      case measure => simp [intOf]; omega
    · go_wp2_with fail
      refine (Try.Builder_String_any w.heap.size w.heap.size _ wr HB.out hbw).mono ?_
      rintro e w3 ⟨rfl, hb3⟩
      go_wp2_with fail
      go_ret2
      obtain rfl : k = l.length := by omega
      refine ⟨?_, HW.out.trans hb3⟩
      rw [List.take_length]
      rfl

end Go.Proofs.Ytdcofbkmflemfaa
