/- Numbers as bytes: the document's. -/
import Derived.Test.YtikaeeaepnflnaaKn
namespace Go.Proofs.Ytikaeeaepnflnaa
open Go.RowKit Abs
section
variable {b n d : Nat} {k9 : AHeap → R}
theorem refNumber_loop : ∀ (j f v : Nat) (h : AHeap) (rest : Bytes), j < f → j ≤ 8 → v < 18446744073709551616 → RowH h b 5 (bytesC (List.replicate j 0 ++ rest)) →
    ∃ h', ref01_Number_L0 (.sl b 0 (j + rest.length) 1) k9 f (v : Int) ((j : Int) - 1) h = k9 h' ∧ RowH h' b 5 (bytesC (numB j v ++ rest)) ∧ Tch [b] h h' ∧ h'.next = h.next
  | 0, f + 1, v, h, rest, _, _, _, k => by
    refine ⟨h, ?_, k, Tch.refl _ _, rfl⟩
    rw [ref01_Number_L0_s]
    unfold ref01_Number_L0b
    rw [lett_eq, decide_eq_false (by omega), ifB_false]
  | j + 1, f + 1, v, h, rest, hf, hj, hv, k => by
    obtain ⟨h1, q1, q2, q3, q4, q5⟩ := k.st1 (o := j) (v := .int .u8 ((v % 256 : Nat) : Int)) (by rw [bytesC_length]; simp; omega) rfl
    rw [← byte_of, set_rep] at q2
    obtain ⟨h2, p1, p2, p3, p4⟩ := refNumber_loop j f (v / 256) h1 (UInt8.ofNat (v % 256) :: rest) (by omega) (by omega) (by omega) q2
    refine ⟨h2, ?_, by rw [numB, List.append_assoc]; exact p2, (tch_of (S := [b]) q3 q4 q5 (.inl (by simp))).trans p3, p4.trans q3⟩
    rw [ref01_Number_L0_s]
    unfold ref01_Number_L0b
    have e0 : remI .u64 (v : Int) 256 = some ((v % 256 : Nat) : Int) := rfl
    have e1 : IntKind.u8.wrap ((v % 256 : Nat) : Int) = ((v % 256 : Nat) : Int) := by rw [wrap_u8_mod]; omega
    have e2 : quoI .u64 (v : Int) 256 = some ((v / 256 : Nat) : Int) := by
      have : quoI .u64 (v : Int) 256 = some (IntKind.u64.wrap ((v / 256 : Nat) : Int)) := rfl
      rw [this, wrap_u64_mod]
      congr 1
      omega
    have e3 : ((j + 1 : Nat) : Int) - 1 = (j : Int) := by omega
    have e4 : IntKind.i64.wrap ((j : Int) - 1) = (j : Int) - 1 := wrap_i64 (by omega) (by omega)
    rw [e3, lett_eq, decide_eq_true (by omega), ifB_true, e0, obind_val, lett_eq, idxP_sl (by omega), obind_val, e1, Nat.zero_add, Nat.mul_one, q1, obind_val, e2, obind_val, lett_eq, e4]
    rw [show j + 1 + rest.length = j + (UInt8.ofNat (v % 256) :: rest).length by simp; omega]
    exact p1
end
section
variable {n d : Nat} {h : AHeap}
theorem refNumber_w {v w : Nat} (hn : 8 < n) (hw : w ≤ 8) (hv : v < 18446744073709551616) (hx : memB 5 h.ex = false) : world n (d + 1) 23 [.int .u64 (v : Int), .int .i64 (w : Int)] h = some (.ret (strA (numB w v)), h) := by
  rw [w_ref01_Number]
  unfold ref01_Number
  rw [make_bytes (k1 := .i64) (k2 := .i64) el37 zero5 cells5 fit5 hx (Nat.le_refl w) (by omega), outK_val, lett_eq, wrap_i64 (by omega) (by omega)]
  suffices hK : ∃ h', lett (fun (h_10 : AHeap) => outK (opConv Try.prog h_10 31 9 (some (.sl h.next 0 w 1))) fun v23 h_12 => obind (avStr v23) fun t23 => some (ARes.ret (strA t23), h_12)) (fun k9 => ref01_Number_L0 (.sl h.next 0 w 1) k9 n (v : Int) ((w : Int) - 1) (newH h 5 (bytesC (List.replicate w 0)))) = some (.ret (strA (numB w v)), h') ∧ Above h h' by
    obtain ⟨h', e, ha⟩ := hK
    rw [e]
    exact gcR_scal ha rfl
  obtain ⟨h', e1, e2, e3, e4⟩ := refNumber_loop (b := h.next) (k9 := fun (h_10 : AHeap) => outK (opConv Try.prog h_10 31 9 (some (.sl h.next 0 w 1))) fun v23 h_12 => obind (avStr v23) fun t23 => some (ARes.ret (strA t23), h_12)) w n v (newH h 5 (bytesC (List.replicate w 0))) [] (by omega) hw hv (zeros_row w h)
  rw [List.append_nil] at e2
  have hc := conv37 e2
  rw [numB_length] at hc
  refine ⟨h', ?_, ((Tch.newH [] h 5 (bytesC (List.replicate w 0))).trans' e3 (by intro b hb; simp at hb; subst hb; exact .inr (Nat.le_refl _))).above⟩
  rw [lett_eq]
  refine e1.trans ?_
  rw [hc, outK_val, avStr_str, obind_val]
end
end Go.Proofs.Ytikaeeaepnflnaa
