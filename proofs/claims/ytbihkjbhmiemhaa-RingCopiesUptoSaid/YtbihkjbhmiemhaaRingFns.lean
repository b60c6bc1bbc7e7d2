/- A ring's functions: what they come to. -/
import Derived.Test.YtbihkjbhmiemhaaWo
import Derived.Test.YtbihkjbhmiemhaaRingMath
namespace Go.Proofs.Ytbihkjbhmiemhaa
open Go.RowKit Abs

def ringC (L e : Nat) (K : Bytes) : List AV := .int .i64 (L : Int) :: .int .i64 (e : Int) :: bytesC K
/-- a ring of so many places, with what came -/
def RingAt (h : AHeap) (b L : Nat) (out : Bytes) : Prop := ∃ K : Bytes, K.length = 1024 ∧ (1 ≤ L ∧ L ≤ 1024) ∧ RowH h b 47 (ringC L out.length K) ∧ Holds1 K out L
theorem nil26 (h : AHeap) (b o : Nat) : opBin Try.prog h .eql 26 true (some (.ptr b o)) (some .nilp) = some (.val (.bool false), h) := by kernel_rfl
theorem nil26n (h : AHeap) : opBin Try.prog h .eql 26 true (some .nilp) (some .nilp) = some (.val (.bool true), h) := by kernel_rfl
theorem nilC_p (b o : Nat) : nilC (.ptr b o) = some (.ptr b o) := rfl
theorem fldP_p (f b o : Nat) : fldP f (.ptr b o) = some (.ptr b (o + f)) := rfl
theorem u45 : Try.prog.underlying 45 = some (.array 1024 5) := Try.underlying45
theorem el44 : Abs.elemOf Try.prog 44 = some 5 := by kernel_rfl
theorem info5 : (Try.prog.info? 5).isSome = true := by kernel_rfl
theorem cells5 : Try.prog.cellsOf 5 = 1 := by kernel_rfl
theorem fit5 : fitB Try.prog 5 1 = true := by kernel_rfl
theorem zero5 : zeroA Try.prog 5 = some (.int .u8 0) := by kernel_rfl
theorem bytes44 : isBytes Try.prog 44 = true := by kernel_rfl
theorem str9 : isStr Try.prog 9 = true := by kernel_rfl
theorem sliceS_from {l : Bytes} {a : Nat} (h : a ≤ l.length) : sliceS l (a : Int) (lenS l) = some (l.drop a) := by
  rw [lenS_nat, sliceS_nat h (Nat.le_refl _), List.take_of_length_le (by rw [List.length_drop]; omega)]
theorem rem_nat {a L : Nat} (hL : 1 ≤ L) : remI .i64 (a : Int) (L : Int) = some ((a % L : Nat) : Int) := by
  unfold remI
  rw [if_neg (by omega), Int.tmod_eq_emod_of_nonneg (by omega)]
  rfl
theorem ringC_length (L e : Nat) (K : Bytes) : (ringC L e K).length = K.length + 2 := by
  show (bytesC K).length + 1 + 1 = _
  rw [bytesC_length]
theorem ringC_laid (L e : Nat) (K x : Bytes) (p : Nat) : laid (ringC L e K) (p + 1 + 1) (bytesC x) = ringC L e (layB K p x) := by
  unfold ringC
  rw [laid_cons, laid_cons, laid_bytes]
theorem RingAt.tch {S : List Nat} {h h' : AHeap} {b L : Nat} {out : Bytes} (k : RingAt h b L out) (t : Tch S h h') (hb : b < h.next) (hn : b ∉ S) : RingAt h' b L out := by
  obtain ⟨K, h1, h2, h3, h4⟩ := k
  exact ⟨K, h1, h2, h3.tch t hb hn, h4⟩
section
variable {n d b L : Nat} {out : Bytes} {h : AHeap}
set_option maxRecDepth 20000 in
theorem ringNew_w (hL : 1 ≤ L ∧ L ≤ 1024) : world n (d + 1) 10 [.int .i64 (L : Int)] h = some (.ret (.tup [.ptr h.next 0, .int .i64 0]), newH h 47 (ringC L 0 (List.replicate 1024 0))) ∧ RingAt (newH h 47 (ringC L 0 (List.replicate 1024 0))) h.next L [] := by
  refine ⟨?_, _, List.length_replicate, hL, RowH.new _ _ _, fun m hm => by simp at hm⟩
  rw [w_ring_New]
  unfold ring_New
  simp only [lett_eq]
  rw [lt_false (by omega), ifB_false, decide_eq_false (by omega), ifB_false]
  refine Eq.trans (b := gcR h (outK (opBox h 47 (some (.agg (ringC L 0 (List.replicate 1024 0))))) fun v12 h_10 => some (ARes.ret (.tup [v12, .int .i64 0]), h_10))) (by kernel_rfl) ?_
  rw [box_agg (by
    show ((AV.int .i64 (L : Int)).one && ((AV.int .i64 ((0 : Nat) : Int)).one && (bytesC (List.replicate 1024 0)).all AV.one)) = true
    rw [bytesC_one]
    rfl), outK_val]
  exact gcR_some (by
    show (Nat.blt h.next h.next && _) = false
    rw [blt_self]; rfl)
set_option maxRecDepth 20000 in
theorem ringBad_w {z : Int} (hz : z < 1 ∨ z > 1024) : world n (d + 1) 10 [.int .i64 z] h = some (.ret (.tup [.nilp, .int .i64 5]), h) := by
  rw [w_ring_New]
  unfold ring_New
  simp only [lett_eq]
  rcases hz with hz | hz
  · rw [lt_true hz, ifB_true]
    exact gcR_self
  · rw [lt_false (by omega), ifB_false, decide_eq_true hz]
    exact gcR_self
theorem end_w (k : RingAt h b L out) : world n (d + 1) 15 [.ptr b 0] h = some (.ret (.int .i64 (out.length : Int)), h) := by
  obtain ⟨K, hK, hL, hr, hi⟩ := k
  rw [w_ring_Ring_End]
  unfold ring_Ring_End
  have c1 := hr.cell' (o := 1) (v := .int .i64 (out.length : Int)) rfl
  rw [nil26, outK_val]
  simp only [avBool_bool, obind_val, ifB_false, nilC_p, fldP_p, Nat.zero_add, c1, avInt_int]
theorem first_w (k : RingAt h b L out) (ho : out.length ≤ 1000000000) : world n (d + 1) 16 [.ptr b 0] h = some (.ret (.int .i64 ((out.length - L : Nat) : Int)), h) := by
  obtain ⟨K, hK, hL, hr, hi⟩ := k
  rw [w_ring_Ring_First]
  unfold ring_Ring_First
  have c0 := hr.cell' (o := 0) (v := .int .i64 (L : Int)) rfl
  have c1 := hr.cell' (o := 1) (v := .int .i64 (out.length : Int)) rfl
  have e1 : IntKind.i64.wrap ((out.length : Int) - (L : Int)) = (out.length : Int) - (L : Int) := wrap_i64 (by omega) (by omega)
  have e2 : (if (0 : Int) > (out.length : Int) - (L : Int) then 0 else (out.length : Int) - (L : Int)) = ((out.length - L : Nat) : Int) := by split <;> omega
  rw [nil26, outK_val]
  simp only [avBool_bool, obind_val, ifB_false, nilC_p, fldP_p, Nat.zero_add, c0, c1, avInt_int, lett_eq, e1, e2]
theorem put_w {s : Bytes} (k : RingAt h b L out) (_ : b < h.next) (ho : out.length + s.length ≤ 1000000000) :
    ∃ h', world n (d + 1) 18 [.ptr b 0, strA s] h = some (.ret (.tup []), h') ∧ RingAt h' b L (out ++ s) ∧ Tch [b] h h' ∧ h'.next = h.next := by
  obtain ⟨K, hK, hL, hr, hi⟩ := k
  obtain ⟨m1, m2⟩ := put_math (s := s) hK hL hi
  generalize hlost : s.length - L = lost at m1 m2
  generalize he1 : out.length + lost = e1 at m1 m2
  have hp : e1 % L < L := Nat.mod_lt _ (by omega)
  have hrem := rem_nat (a := e1) hL.1
  generalize e1 % L = p at m1 m2 hp hrem
  have hs' : (s.drop lost).length = s.length - lost := List.length_drop
  have e2 : IntKind.i64.wrap (lenS s - (L : Int)) = (s.length : Int) - (L : Int) := by rw [lenS_nat]; exact wrap_i64 (by omega) (by omega)
  have e3 : (if (0 : Int) > (s.length : Int) - (L : Int) then 0 else (s.length : Int) - (L : Int)) = (lost : Int) := by split <;> omega
  have e4 : IntKind.i64.wrap ((out.length : Int) + (lost : Int)) = (e1 : Int) := by rw [wrap_i64 (by omega) (by omega)]; omega
  have e5 := sliceS_from (l := s) (a := lost) (by omega)
  generalize hsd : s.drop lost = s' at *
  have c0 := hr.cell' (o := 0) (v := .int .i64 (L : Int)) rfl
  have c1 := hr.cell' (o := 1) (v := .int .i64 (out.length : Int)) rfl
  obtain ⟨h1, a1, a2, a3, a4, a5⟩ := hr.st1 (o := 1) (v := .int .i64 (e1 : Int)) (by rw [ringC_length]; omega) rfl
  have a2 : RowH h1 b 47 (ringC L e1 K) := a2
  have f0 := a2.cell' (o := 0) (v := .int .i64 (L : Int)) rfl
  have f1 := a2.cell' (o := 1) (v := .int .i64 (e1 : Int)) rfl
  have s1 := slice_arr (k1 := .i64) (k2 := .i64) (o := 2) (l1 := p) (r1 := L) u45 info5 cells5 a2 (by omega) (by omega) (by rw [ringC_length]; omega) (by omega)
  obtain ⟨h2, b1, b2, b3, b4, b5⟩ := copy_str (t := 44) (o := 2 + p * 1) (n := L - p) (s := s') el44 cells5 info5 a2 (by rw [ringC_length]; omega)
  rw [show 2 + p * 1 = p + 1 + 1 by omega, ringC_laid] at b2
  have hc : Nat.min s'.length (L - p) ≤ s'.length := Nat.min_le_left _ _
  have s2 := slice_arr_all (o := 2) u45 info5 cells5 b2 (by rw [ringC_length, layB_length (by rw [List.length_take]; have : Nat.min s'.length (L - p) ≤ L - p := Nat.min_le_right _ _; omega)]; omega)
  have e6 := sliceS_from (l := s') (a := Nat.min s'.length (L - p)) hc
  have hl2 : (s'.drop (Nat.min s'.length (L - p))).length ≤ 1024 := by rw [List.length_drop]; omega
  obtain ⟨h3, d1, d2, d3, d4, d5⟩ := copy_str (t := 44) (o := 2) (n := 1024) (s := s'.drop (Nat.min s'.length (L - p))) el44 cells5 info5 b2 (by rw [ringC_length, layB_length (by rw [List.length_take]; have : Nat.min s'.length (L - p) ≤ L - p := Nat.min_le_right _ _; omega)]; omega)
  rw [show Nat.min (s'.drop (Nat.min s'.length (L - p))).length 1024 = (s'.drop (Nat.min s'.length (L - p))).length from Nat.min_eq_left hl2, List.take_length, show (2 : Nat) = 0 + 1 + 1 from rfl, ringC_laid] at d2
  have g1 := d2.cell' (o := 1) (v := .int .i64 (e1 : Int)) rfl
  have e7 : IntKind.i64.wrap ((e1 : Int) + lenS s') = ((out.length + s.length : Nat) : Int) := by rw [lenS_nat, wrap_i64 (by omega) (by omega)]; omega
  obtain ⟨h4, q1, q2, q3, q4, q5⟩ := d2.st1 (o := 1) (v := .int .i64 ((out.length + s.length : Nat) : Int)) (by rw [ringC_length]; omega) rfl
  refine ⟨h4, ?_, ⟨_, m1, hL, by rw [List.length_append]; exact q2, m2⟩, tch_of (b := b) (by omega) (by rw [q4, d4, b4, a4]) (fun i hib => by rw [q5 i hib, d5 i hib, b5 i hib, a5 i hib]) (by simp), by omega⟩
  rw [w_ring_Ring_Put]
  unfold ring_Ring_Put
  rw [nil26, outK_val, avBool_bool, obind_val, ifB_false]
  simp only [nilC_p, fldP_p, obind_val, Nat.zero_add, c0, c1, avInt_int, lett_eq, e2, e3, e4, a1, e5, f0, f1, hrem, s1, outK_val, b1, e6, s2, d1, g1, e7, q1]
theorem from_bad {a most : Int} (k : RingAt h b L out) (hbad : a > out.length ∨ most < 0) : world n (d + 2) 13 [.ptr b 0, .int .i64 a, .int .i64 most] h = some (.ret (.tup [strA [], .int .i64 0, .int .i64 5]), h) := by
  obtain ⟨K, hK, hL, hr, hi⟩ := k
  rw [w_ring_Ring_From]
  unfold ring_Ring_From
  have c1 := hr.cell' (o := 1) (v := .int .i64 (out.length : Int)) rfl
  rw [nil26, outK_val, avBool_bool, obind_val, ifB_false]
  simp only [nilC_p, fldP_p, obind_val, Nat.zero_add, c1, avInt_int, lett_eq]
  by_cases h1 : a > out.length
  · rw [decide_eq_true h1, ifB_true, ifB_true]
  · rw [decide_eq_false h1, ifB_false, lt_true (by omega), ifB_true]
theorem layB_full {z x : Bytes} (hz : z.length = x.length) : layB z 0 x = x := by
  unfold layB
  rw [List.take_zero, List.nil_append, List.drop_of_length_le (by omega), List.append_nil]
theorem layB_two {z x y : Bytes} {k c : Nat} (hz : z.length = k) (hx : x.length = c) (hy : y.length = k - c) (hc : c ≤ k) : layB (layB z 0 x) c y = x ++ y := by
  have l1 : (layB z 0 x).length = k := by rw [layB_length (by omega), hz]
  have t1 : (layB z 0 x).take c = x := by
    unfold layB
    rw [List.take_zero, List.nil_append, List.take_append_of_le_length (by omega), ← hx, List.take_length]
  show (layB z 0 x).take c ++ y ++ (layB z 0 x).drop (c + y.length) = _
  rw [t1, List.drop_of_length_le (by omega), List.append_nil]
theorem from_w {a most : Nat} {z : Int} (k : RingAt h b L out) (hb : b < h.next) (hx : memB 5 h.ex = false) (ho : out.length ≤ 1000000000) (hz : z ≤ out.length) (ha : a = max (out.length - L) z.toNat) :
    ∃ h', world n (d + 2) 13 [.ptr b 0, .int .i64 z, .int .i64 (most : Int)] h = some (.ret (.tup [strA ((out.drop a).take most), .int .i64 (a : Int), .int .i64 0]), h') ∧ Tch [] h h' := by
  have hf := first_w (n := n) (d := d) k ho
  obtain ⟨K, hK, hL, hr, hi⟩ := k
  have c0 := hr.cell' (o := 0) (v := .int .i64 (L : Int)) rfl
  have c1 := hr.cell' (o := 1) (v := .int .i64 (out.length : Int)) rfl
  have e1 : (if ((out.length - L : Nat) : Int) > z then ((out.length - L : Nat) : Int) else z) = (a : Int) := by split <;> omega
  have e2 : IntKind.i64.wrap ((out.length : Int) - (a : Int)) = (out.length : Int) - (a : Int) := wrap_i64 (by omega) (by omega)
  generalize hk : min most (out.length - a) = k
  have e3 : (if (out.length : Int) - (a : Int) < (most : Int) then (out.length : Int) - (a : Int) else (most : Int)) = (k : Int) := by split <;> omega
  have hkL : k ≤ L := by omega
  have hm := make_bytes (k1 := .i64) (k2 := .i64) (n := k) (m := k) el44 zero5 cells5 fit5 hx (Nat.le_refl k) (by omega)
  have t1 := Tch.newH [] h 5 (bytesC (List.replicate k 0))
  have r1 := hr.tch t1 hb (by simp)
  have n1 := RowH.new h 5 (bytesC (List.replicate k 0))
  have nb : h.next ≠ b := by omega
  generalize newH h 5 (bytesC (List.replicate k 0)) = h1 at *
  have f0 := r1.cell' (o := 0) (v := .int .i64 (L : Int)) rfl
  have hp : a % L < L := Nat.mod_lt _ (by omega)
  have hfm := from_math (a := a) (k := k) hK hL hi (by omega) (by omega)
  have hrem := rem_nat (a := a) hL.1
  generalize a % L = p at hp hrem hfm
  have s1 := slice_arr (k1 := .i64) (k2 := .i64) (o := 2) (l1 := p) (r1 := L) u45 info5 cells5 r1 (by omega) (by omega) (by rw [ringC_length]; omega) (by omega)
  rw [show Nat.min k (L - p) = Nat.min (L - p) k from Nat.min_comm _ _] at hfm
  generalize hcc : Nat.min (L - p) k = c at hfm
  have hc1 : c ≤ L - p := by rw [← hcc]; exact Nat.min_le_left _ _
  have hc2 : c ≤ k := by rw [← hcc]; exact Nat.min_le_right _ _
  have hg : rowGet h1 b (2 + p * 1) (c * 1) = some (bytesC ((K.drop p).take c)) := by
    rw [r1.part (by rw [ringC_length]; omega), show 2 + p * 1 = p + 1 + 1 by omega, Nat.mul_one]
    show some (((bytesC K).drop p).take c) = _
    rw [bytesC_drop, bytesC_take]
  have l1 : ((K.drop p).take c).length = c := by rw [List.length_take, List.length_drop]; omega
  obtain ⟨h2, b1, b2, b3, b4, b5⟩ := copy_to (t := 44) (o := 0) (n := k) (m := L - p) (src := .sl b (2 + p * 1) (L - p) 1) (cs := bytesC ((K.drop p).take c)) el44 cells5 info5 rfl (by rw [firstA_of_row (show Nat.min (L - p) k ≤ L - p from Nat.min_le_left _ _), hcc]; exact hg) (by rw [bytesC_length, l1, hcc]) (bytesC_one _) n1 (by rw [bytesC_length, List.length_replicate]; omega)
  rw [laid_bytes] at b2
  rw [hcc] at b1
  have r2 : RowH h2 b 47 (ringC L out.length K) := r1.same (b5 b (by omega))
  have s2 := slice_arr_all (o := 2) u45 info5 cells5 r2 (by rw [ringC_length]; omega)
  have l2 : (layB (List.replicate k 0) 0 ((K.drop p).take c)).length = k := by rw [layB_length (by rw [List.length_replicate]; omega), List.length_replicate]
  have tt : Tch [] h h2 := t1.trans' (tch_of (S := [h.next]) b3 b4 b5 (by simp)) (by intro i hi; simp at hi; omega)
  have fin : ∀ h3 (B : Bytes), B = (out.drop a).take k → RowH h3 h.next 5 (bytesC B) → opConv Try.prog h3 44 9 (some (.sl h.next 0 k 1)) = some (.val (strA ((out.drop a).take most)), h3) := by
    intro h3 B hB hR
    have hBl : B.length = k := by rw [hB, List.length_take, List.length_drop]; omega
    have hsame : (out.drop a).take most = B := by
      rw [hB, ← hk]
      apply List.ext_getElem?
      intro j
      by_cases hj : j < min most (out.length - a)
      · rw [List.getElem?_take_of_lt hj, List.getElem?_take_of_lt (by omega)]
      · rw [List.getElem?_eq_none (by rw [List.length_take, List.length_drop]; omega), List.getElem?_eq_none (by rw [List.length_take, List.length_drop]; omega)]
    rw [hsame, ← hBl]
    exact conv_row bytes44 str9 (by rw [hR.part (by rw [bytesC_length]; omega), List.drop_zero, ← bytesC_length B, List.take_length])
  have key : ∃ h3, (outK (sliceA Try.prog h2 44 (.sl h.next 0 k 1) (some (.int .i64 (c : Int))) none) fun v54 h_51 =>
        outK (sliceA Try.prog h_51 45 (.ptr b 2) none none) fun v58 h_55 =>
        outK (opCopy Try.prog h_55 44 v54 v58) fun v59 h_57 =>
        obind (avInt .i64 v59) fun _ =>
        outK (opConv Try.prog h_57 44 9 (some (.sl h.next 0 k 1))) fun v61 h_61 =>
        obind (avStr v61) fun t61 =>
        some (ARes.ret (.tup [strA t61, .int .i64 (a : Int), .int .i64 0]), h_61)) = some (.ret (.tup [strA ((out.drop a).take most), .int .i64 (a : Int), .int .i64 0]), h3) ∧ Tch [] h h3 := by
    by_cases hck : c = k ∧ 0 < k
    · obtain ⟨hck, hk0⟩ := hck
      subst hck
      refine ⟨h2, ?_, tt⟩
      have hB : layB (List.replicate c 0) 0 ((K.drop p).take c) = (out.drop a).take c := by
        rw [← hfm, Nat.sub_self, List.take_zero, List.append_nil]
        exact layB_full (by rw [List.length_replicate]; omega)
      rw [slice_end el44 info5 cells5 hk0, outK_val, s2, outK_val, copy_esl el44 info5 (src := .sl b 2 1024 1) (m := 1024) rfl (by rw [cells5, firstA_of_row (Nat.zero_le _)]; exact r2.part (by rw [ringC_length]; omega)), outK_val, avInt_int, obind_val, fin h2 _ hB b2, outK_val, avStr_str, obind_val]
    · have hg2 : rowGet h2 b 2 ((k - c) * 1) = some (bytesC (K.take (k - c))) := by
        rw [r2.part (by rw [ringC_length]; omega), Nat.mul_one]
        show some ((bytesC K).take (k - c)) = _
        rw [bytesC_take]
      have hmin : Nat.min 1024 (k - c) = k - c := Nat.min_eq_right (by omega)
      have l3 : (K.take (k - c)).length = k - c := by rw [List.length_take]; omega
      obtain ⟨h3, d1, d2, d3, d4, d5⟩ := copy_to (t := 44) (o := 0 + c * 1) (n := k - c) (m := 1024) (src := .sl b 2 1024 1) (cs := bytesC (K.take (k - c))) el44 cells5 info5 rfl (by rw [firstA_of_row (show Nat.min 1024 (k - c) ≤ 1024 from Nat.min_le_left _ _), hmin]; exact hg2) (by rw [bytesC_length, l3, hmin]) (bytesC_one _) b2 (by rw [bytesC_length, l2]; omega)
      rw [laid_bytes, show 0 + c * 1 = c by omega, layB_two (List.length_replicate ..) l1 l3 hc2] at d2
      refine ⟨h3, ?_, tt.trans' (tch_of (S := [h.next]) d3 d4 d5 (by simp)) (by intro i hi; simp at hi; omega)⟩
      rw [slice_from el44 info5 cells5 hc2 (by omega), outK_val, s2, outK_val, d1, outK_val, avInt_int, obind_val, fin h3 _ hfm d2, outK_val, avStr_str, obind_val]
  obtain ⟨h3, k1, k2⟩ := key
  refine ⟨h3, ?_, k2⟩
  rw [w_ring_Ring_From]
  unfold ring_Ring_From
  rw [nil26, outK_val, avBool_bool, obind_val, ifB_false]
  simp only [nilC_p, fldP_p, obind_val, Nat.zero_add, c1, avInt_int, lett_eq]
  rw [decide_eq_false (by omega), ifB_false, lt_false (by omega), ifB_false, hf, callN_ret]
  simp only [avInt_int, obind_val, c1, e1, e2, e3, hm, outK_val, f0, hrem, s1, b1]
  exact k1
end
end Go.Proofs.Ytbihkjbhmiemhaa
