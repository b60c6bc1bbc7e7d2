/- The contracts of the functions that write numbers. -/
import Derived.Test.YthnoebdfofbpoaaRows
import Derived.Test.YthnoebdfofbpoaaPure
import Derived.WalkKit
import Derived.WalkSpells
import Derived.WalkLawsBesides
import Derived.Lib.Hide
import Derived.Deep.QuietTactic
import Derived.BigQuiet
namespace Go.Proofs.Ythnoebdfofbpoaa
open Go.RowKit

theorem Try.info5 : (Try.prog.info? 5).map (fun i => (i.zero, i.size, i.bytes)) = some (some (.int .u8 0), 1, 1) := by kernel_rfl

/-- The bytes of a number of so many bytes. -/
def numS (wd n : Nat) : ByteArray := strOfNums (lo wd n)

set_option maxHeartbeats 400000 in
theorem number_any (n wd : Nat) (hwd : wd ≤ 8) (w : World) :
    Calls Try.prog 27 #[.int .u64 n, .int .i64 wd] w fun e w' => e = .returned (.string (numS wd n)) ∧ Below w.heap.size w w' := by
  obtain ⟨i0, hi, hz0, hz1, hz2⟩ := info_parts Try.info5
  go_enter Try.func27, Try.ntmps27
  go_wp2_with (with_reducible refine wpList_make_full _ rfl _ _ _ rfl w.heap.size 5 i0 (.int .u8 0) 1 Try.underlying31 hi hz0 hz1 .i64 .i64 _ _ wd rfl rfl rfl rfl ?_ ?_ ?_ ?_)
  · rw [hz2]; omega
  · unfold maxLen; omega
  · exact Nat.le_refl _
  intro w1 hown hgr
  have hown : w1.ownsRow w.heap.size 5 1 (.slice (some ⟨w.heap.size, 0, none⟩) wd wd) wd ((rowI wd wd n).map (Value.int .u8)) := by
    rw [rowI_full]; simpa [toList_madeCells_one, Value.cells] using hown
  have hb := (Below.refl w.heap.size w).grown hgr (Nat.le_refl _) (by simp)
  clear hgr hi hz0 hz1 hz2
  have HO := Lib.hid hown; clear hown
  go_wp2
  go_loopw [0, 6] (fun s0 s6 wr => ∃ i : Nat, i ≤ wd ∧ s6 = .int .i64 ((i : Int) - 1) ∧ s0 = .int .u64 ((n / 256 ^ (wd - i) : Nat) : Int) ∧ wr.ownsRow w.heap.size 5 1 (.slice (some ⟨w.heap.size, 0, none⟩) wd wd) wd ((rowI wd i n).map (Value.int .u8)) ∧ Below w.heap.size w wr) (fun _ s6 _ => (intOf s6 + 1).toNat)
  case atStart => exact ⟨wd, Nat.le_refl _, rfl, by simp, HO.out, hb⟩
  case round =>
    clear HO hb
    obtain ⟨i, hi, rfl, rfl, hown, hb⟩ := hrel
    cases i with
    | zero =>
      have hcv := run_convert_bytes_arg (P := Try.prog) wr 31 5 Try.underlying31 Try.underlying5 w.heap.size 0 wd wd (lo wd n) (lo_length wd n) (fun j hj => by
        rw [Nat.zero_add, hown.cellAt j (by omega), rowI_zero]; simp [List.getD, List.getElem?_eq_getElem (show j < (lo wd n).length by rw [lo_length]; exact hj)]) 9 Try.underlying9
      have HO := Lib.hid hown; clear hown
      have HB := Lib.hid hb; clear hb
      go_wp2
      go_ret
      exact ⟨rfl, HB.out⟩
    | succ k =>
      have hl := rowI_length wd (k + 1) n hi
      have hc : wr.cell? ⟨w.heap.size, k, none⟩ = some (.int .u8 ((rowI wd (k + 1) n).getD k 0)) := by
        rw [hown.cellAt k (by omega)]; simp [List.getD, List.getElem?_eq_getElem (show k < (rowI wd (k + 1) n).length by omega)]
      have hf := hown.frozenAt k
      have HL := Lib.hid hl; clear hl
      obtain ⟨m, hm⟩ : ∃ m, m = n / 256 ^ (wd - (k + 1)) := ⟨_, rfl⟩
      rw [← hm]
      have HM := Lib.hid hm; clear hm
      have HO := Lib.hid hown; clear hown
      have HB := Lib.hid hb; clear hb
      go_wp2
      go_roundw
      case rel =>
        have hst := (HO.out.stored k (.int .u8 ((m : Int) % 256)))
        refine ⟨k, by omega, rfl, ?_, ?_, ?_⟩
        · rw [show wd - k = (wd - (k + 1)) + 1 from by omega, Nat.pow_succ, ← Nat.div_div_eq_div_mul, ← HM.out]; go_num
        · have e : (m : Int) % 256 = ((n / 256 ^ (wd - (k + 1)) % 256 : Nat) : Int) := by rw [← HM.out]; simp
          have h1 := hst.1
          rw [← List.map_set, e, rowI_set wd k n (by omega)] at h1
          rw [e]; exact h1
        · exact HB.out.setCell (Nat.le_refl _) _
      case measure => simp [intOf]

/-- A number that fits 64 bits. -/
def U64 (n : Nat) : Prop := n < 18446744073709551616
theorem wrap_div (m : Nat) (h : U64 m) : IntKind.u64.wrap ((m : Int) / 256) = ((m / 256 : Nat) : Int) := by
  unfold U64 at h
  rw [IntWalk.u64_in _ (by omega)]
  simp

set_option maxHeartbeats 400000 in
theorem u32_any (n : Nat) (hn : n < 4294967296) (w : World) :
    Calls Try.prog 19 #[.int .u32 n] w fun e w' => e = .returned (.string (numS 4 n)) ∧ Below w.heap.size w w' := by
  go_enter Try.func19, Try.ntmps19
  go_wp2_with fail
  refine (number_any n 4 (by omega) _).mono ?_
  rintro e w1 ⟨rfl, hb⟩
  go_wp2_with fail
  go_ret
  exact ⟨rfl, hb⟩

theorem numS_size (wd n : Nat) : (numS wd n).size = wd := by simp [numS, strOfNums_size, lo_length]

/-- A text's bytes. -/
def textS (s : ByteArray) : ByteArray := numS 4 s.size ++ s

end Go.Proofs.Ythnoebdfofbpoaa
