/- The contracts of the functions of the reference of layer 1 that write numbers and texts. -/
import Derived.Test.YthnoebdfofbpoaaNum
namespace Go.Proofs.Ythnoebdfofbpoaa
open Go.RowKit

/-- The reference's number: the same bytes. -/
theorem refNumber_any (n wd : Nat) (hwd : wd ≤ 8) (hn : U64 n) (w : World) :
    Calls Try.prog 23 #[.int .u64 n, .int .i64 wd] w fun e w' => e = .returned (.string (numS wd n)) ∧ Below w.heap.size w w' := by
  obtain ⟨i0, hi, hz0, hz1, hz2⟩ := info_parts Try.info5
  go_enter Try.func23, Try.ntmps23
  go_wp2_with (with_reducible refine wpList_make_full _ rfl _ _ _ rfl w.heap.size 5 i0 (.int .u8 0) 1 Try.underlying31 hi hz0 hz1 .i64 .i64 _ _ wd rfl rfl rfl rfl ?_ ?_ ?_ ?_)
  · rw [hz2]; omega
  · unfold maxLen; omega
  · exact Nat.le_refl _
  intro w1 hown hgr
  have hown : w1.ownsRow w.heap.size 5 1 (.slice (some ⟨w.heap.size, 0, none⟩) wd wd) wd ((rowI wd wd n).map (Value.int .u8)) := by
    rw [rowI_full]; simpa [toList_madeCells_one, Value.cells] using hown
  have hb := (Below.refl w.heap.size w).grown hgr (Nat.le_refl _) (by simp)
  clear hgr hi hz0 hz1 hz2
  have HO := Lib.hid hown; clear hown
  go_wp2
  go_loopw [0, 6] (fun s0 s6 wr => ∃ i : Nat, i ≤ wd ∧ s6 = .int .i64 ((i : Int) - 1) ∧ s0 = .int .u64 ((n / 256 ^ (wd - i) : Nat) : Int) ∧ wr.ownsRow w.heap.size 5 1 (.slice (some ⟨w.heap.size, 0, none⟩) wd wd) wd ((rowI wd i n).map (Value.int .u8)) ∧ Below w.heap.size w wr) (fun _ s6 _ => (intOf s6 + 1).toNat)
  case atStart => exact ⟨wd, Nat.le_refl _, rfl, by simp, HO.out, hb⟩
  case round =>
    clear HO hb
    obtain ⟨i, hi, rfl, rfl, hown, hb⟩ := hrel
    cases i with
    | zero =>
      have hcv := run_convert_bytes_arg (P := Try.prog) wr 31 5 Try.underlying31 Try.underlying5 w.heap.size 0 wd wd (lo wd n) (lo_length wd n) (fun j hj => by
        rw [Nat.zero_add, hown.cellAt j (by omega), rowI_zero]; simp [List.getD, List.getElem?_eq_getElem (show j < (lo wd n).length by rw [lo_length]; exact hj)]) 9 Try.underlying9
      have HO := Lib.hid hown; clear hown
      have HB := Lib.hid hb; clear hb
      go_wp2
      go_ret
      exact ⟨rfl, HB.out⟩
    | succ k =>
      have hl := rowI_length wd (k + 1) n hi
      have hc : wr.cell? ⟨w.heap.size, k, none⟩ = some (.int .u8 ((rowI wd (k + 1) n).getD k 0)) := by
        rw [hown.cellAt k (by omega)]; simp [List.getD, List.getElem?_eq_getElem (show k < (rowI wd (k + 1) n).length by omega)]
      have hf := hown.frozenAt k
      have HL := Lib.hid hl; clear hl
      obtain ⟨m, hm⟩ : ∃ m, m = n / 256 ^ (wd - (k + 1)) := ⟨_, rfl⟩
      rw [← hm]
      have HM := Lib.hid hm; clear hm
      have HO := Lib.hid hown; clear hown
      have HB := Lib.hid hb; clear hb
      go_wp2
      go_roundw
      case rel =>
        have hst := (HO.out.stored k (.int .u8 ((m : Int) % 256)))
        refine ⟨k, by omega, rfl, ?_, ?_, ?_⟩
        · rw [show wd - k = (wd - (k + 1)) + 1 from by omega, Nat.pow_succ, ← Nat.div_div_eq_div_mul, ← HM.out, wrap_div m (by rw [HM.out]; exact Nat.lt_of_le_of_lt (Nat.div_le_self _ _) hn)]
        · have e : (m : Int) % 256 = ((n / 256 ^ (wd - (k + 1)) % 256 : Nat) : Int) := by rw [← HM.out]; simp
          have h1 := hst.1
          rw [← List.map_set, e, rowI_set wd k n (by omega)] at h1
          rw [e]; exact h1
        · exact HB.out.setCell (Nat.le_refl _) _
      case measure => simp [intOf]

end Go.Proofs.Ythnoebdfofbpoaa
