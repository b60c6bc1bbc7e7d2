/- Numbers as bytes: the program's. -/
import Derived.Test.YtikaeeaepnflnaaWw
import Derived.Test.YtikaeeaepnflnaaAbs52
import Derived.Test.YtikaeeaepnflnaaAbs53
import Derived.Test.YtikaeeaepnflnaaAbs54
namespace Go.Proofs.Ytikaeeaepnflnaa
open Go.RowKit Abs

/-- so many bytes of a number, the highest first -/
def numB : Nat → Nat → Bytes
  | 0, _ => []
  | w + 1, v => numB w (v / 256) ++ [UInt8.ofNat (v % 256)]
theorem numB_length : ∀ (w v : Nat), (numB w v).length = w
  | 0, _ => rfl
  | w + 1, v => by simp [numB, numB_length w]
theorem el37 : Abs.elemOf Try.prog 31 = some 5 := by kernel_rfl
theorem zero5 : zeroA Try.prog 5 = some (.int .u8 0) := by kernel_rfl
theorem cells5 : Try.prog.cellsOf 5 = 1 := by kernel_rfl
theorem fit5 : fitB Try.prog 5 1 = true := by kernel_rfl
theorem bytes37 : isBytes Try.prog 31 = true := by kernel_rfl
theorem str9 : isStr Try.prog 9 = true := by kernel_rfl
theorem set_rep (j : Nat) (x : UInt8) (rest : Bytes) : (bytesC (List.replicate (j + 1) 0 ++ rest)).set j (.int .u8 (x.toNat : Int)) = bytesC (List.replicate j 0 ++ (x :: rest)) := by
  have e : List.replicate (j + 1) (0 : UInt8) ++ rest = List.replicate j 0 ++ (0 :: rest) := by
    rw [List.replicate_succ', List.append_assoc]
    rfl
  rw [e]
  unfold bytesC
  rw [List.map_append, List.map_append, List.set_append_right _ _ (by simp)]
  simp
theorem byte_of (v : Nat) : ((UInt8.ofNat (v % 256)).toNat : Int) = ((v % 256 : Nat) : Int) := by
  rw [UInt8.toNat_ofNat']
  simp
section
variable {b n d : Nat} {k9 : AHeap → R}
theorem number_loop : ∀ (j f v : Nat) (h : AHeap) (rest : Bytes), j < f → j ≤ 8 → v < 18446744073709551616 → RowH h b 5 (bytesC (List.replicate j 0 ++ rest)) →
    ∃ h', wire_number_L0 (.sl b 0 (j + rest.length) 1) k9 f (v : Int) ((j : Int) - 1) h = k9 h' ∧ RowH h' b 5 (bytesC (numB j v ++ rest)) ∧ Tch [b] h h' ∧ h'.next = h.next
  | 0, f + 1, v, h, rest, _, _, _, k => by
    refine ⟨h, ?_, k, Tch.refl _ _, rfl⟩
    rw [wire_number_L0_s]
    unfold wire_number_L0b
    rw [lett_eq, decide_eq_false (by omega), ifB_false]
  | j + 1, f + 1, v, h, rest, hf, hj, hv, k => by
    obtain ⟨h1, q1, q2, q3, q4, q5⟩ := k.st1 (o := j) (v := .int .u8 ((v % 256 : Nat) : Int)) (by rw [bytesC_length]; simp; omega) rfl
    rw [← byte_of, set_rep] at q2
    obtain ⟨h2, p1, p2, p3, p4⟩ := number_loop j f (v / 256) h1 (UInt8.ofNat (v % 256) :: rest) (by omega) (by omega) (by omega) q2
    refine ⟨h2, ?_, by rw [numB, List.append_assoc]; exact p2, (tch_of (S := [b]) q3 q4 q5 (.inl (by simp))).trans p3, p4.trans q3⟩
    rw [wire_number_L0_s]
    unfold wire_number_L0b
    have e1 : IntKind.u8.wrap (v : Int) = ((v % 256 : Nat) : Int) := by rw [wrap_u8_mod]; omega
    have e2 : shrI .u64 (v : Int) 8 = some ((v / 256 : Nat) : Int) := by
      have : shrI .u64 (v : Int) 8 = some ((v : Int).fdiv 256) := rfl
      rw [this, Int.fdiv_eq_ediv_of_nonneg _ (by omega)]
      rfl
    have e3 : ((j + 1 : Nat) : Int) - 1 = (j : Int) := by omega
    have e4 : IntKind.i64.wrap ((j : Int) - 1) = (j : Int) - 1 := wrap_i64 (by omega) (by omega)
    rw [e3, lett_eq, decide_eq_true (by omega), ifB_true, lett_eq, idxP_sl (by omega), obind_val, e1, Nat.zero_add, Nat.mul_one, q1, obind_val, e2, obind_val, lett_eq, e4]
    rw [show j + 1 + rest.length = j + (UInt8.ofNat (v % 256) :: rest).length by simp; omega]
    exact p1
end
section
variable {n d : Nat} {h : AHeap}
theorem zeros_row (w : Nat) (h : AHeap) : RowH (newH h 5 (bytesC (List.replicate w 0))) h.next 5 (bytesC (List.replicate w 0 ++ [])) := by
  rw [List.append_nil]
  exact RowH.new _ _ _
theorem conv37 {h : AHeap} {b : Nat} {l : Bytes} (k : RowH h b 5 (bytesC l)) : opConv Try.prog h 31 9 (some (.sl b 0 l.length 1)) = some (.val (strA l), h) :=
  conv_row bytes37 str9 (by rw [k.part (by rw [bytesC_length]; omega), List.drop_zero, ← bytesC_length l, List.take_length])
theorem number_w {v w : Nat} (hn : 8 < n) (hw : w ≤ 8) (hv : v < 18446744073709551616) (hx : memB 5 h.ex = false) : world n (d + 1) 27 [.int .u64 (v : Int), .int .i64 (w : Int)] h = some (.ret (strA (numB w v)), h) := by
  rw [w_wire_number]
  unfold wire_number
  rw [make_bytes (k1 := .i64) (k2 := .i64) el37 zero5 cells5 fit5 hx (Nat.le_refl w) (by omega), outK_val, lett_eq, wrap_i64 (by omega) (by omega)]
  suffices hK : ∃ h', lett (fun (h_10 : AHeap) => outK (opConv Try.prog h_10 31 9 (some (.sl h.next 0 w 1))) fun v23 h_12 => obind (avStr v23) fun t23 => some (ARes.ret (strA t23), h_12)) (fun k9 => wire_number_L0 (.sl h.next 0 w 1) k9 n (v : Int) ((w : Int) - 1) (newH h 5 (bytesC (List.replicate w 0)))) = some (.ret (strA (numB w v)), h') ∧ Above h h' by
    obtain ⟨h', e, ha⟩ := hK
    rw [e]
    exact gcR_scal ha rfl
  obtain ⟨h', e1, e2, e3, e4⟩ := number_loop (b := h.next) (k9 := fun (h_10 : AHeap) => outK (opConv Try.prog h_10 31 9 (some (.sl h.next 0 w 1))) fun v23 h_12 => obind (avStr v23) fun t23 => some (ARes.ret (strA t23), h_12)) w n v (newH h 5 (bytesC (List.replicate w 0))) [] (by omega) hw hv (zeros_row w h)
  rw [List.append_nil] at e2
  have hc := conv37 e2
  rw [numB_length] at hc
  refine ⟨h', ?_, ((Tch.newH [] h 5 (bytesC (List.replicate w 0))).trans' e3 (by intro b hb; simp at hb; subst hb; exact .inr (Nat.le_refl _))).above⟩
  rw [lett_eq]
  refine e1.trans ?_
  rw [hc, outK_val, avStr_str, obind_val]
theorem u32_w {v : Nat} (hn : 8 < n) (hv : v < 4294967296) (hx : memB 5 h.ex = false) : world n (d + 2) 19 [.int .u32 (v : Int)] h = some (.ret (strA (numB 4 v)), h) := by
  rw [w_wire_U32]
  unfold wire_U32
  have e : IntKind.u64.wrap (v : Int) = (v : Int) := by rw [wrap_u64_mod]; omega
  rw [lett_eq, e, show ((4 : Int)) = ((4 : Nat) : Int) from rfl, number_w hn (by omega) (by omega) hx, callN_ret, avStr_str, obind_val]
  exact gcR_self
/-- a text's form -/
def textB (s : Bytes) : Bytes := numB 4 s.length ++ s
theorem addS_ok {a b : Bytes} (h : a.length + b.length ≤ 1000000000) : addS a b = some (a ++ b) := by
  unfold addS
  rw [Nat.ble_eq_true_of_le h]
end
end Go.Proofs.Ytikaeeaepnflnaa
