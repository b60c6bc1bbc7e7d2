/- Texts put together, and put into a ring. -/
import Derived.Test.YtbihkjbhmiemhaaRingFns
import Derived.Test.YtbihkjbhmiemhaaAbs36
namespace Go.Proofs.Ytbihkjbhmiemhaa
open Go.RowKit Abs

noncomputable def strsL (ss : List Bytes) : List (List AV) := ss.map fun s => [strA s]
section
variable {n d N : Nat} {x : AV} {ss : List Bytes} {h h0 : AHeap}
theorem count_loop (hs : Slc N h 1 x (strsL ss)) (hl : ss.length ≤ 2000) (hb : ∀ s ∈ ss, s.length ≤ reachBytes) (k : Int → AHeap → R) : ∀ (m i : Nat), i ≤ ss.length → ss.length - i < m → (pre ss i).length ≤ 20000 →
    law21_joined_L1 x k m ((pre ss i).length : Int) (i : Int) h = if ss.flatten.length ≤ 20000 then k (ss.flatten.length : Int) h else some (.ret (.tup [strA [], .bool false]), h) := by
  intro m
  induction m with
  | zero => intro i _ h4 _; omega
  | succ m ih =>
    intro i h2 h4 hp
    rw [law21_joined_L1_s]
    unfold law21_joined_L1b
    have hlen := hs.len
    rw [strsL, List.length_map] at hlen
    simp only [lett_eq, hlen, obind_val]
    by_cases hi : i < ss.length
    · obtain ⟨q, _, hx1, hx2⟩ := hs.cell (f := strA) hi
      have hbi := hb _ (List.getElem_mem hi)
      unfold reachBytes at hbi
      have e1 : IntKind.i64.wrap (((pre ss i).length : Int) + lenS ss[i]) = ((pre ss (i + 1)).length : Int) := by
        rw [pre_succ hi, List.length_append, lenS_nat, wrap_i64 (by omega) (by omega)]
        omega
      rw [lt_true (show (i : Int) < (ss.length : Int) by omega), ifB_true, hx1, obind_val, hx2, obind_val, avStr_str, obind_val, e1]
      by_cases hg : (pre ss (i + 1)).length ≤ 20000
      · rw [decide_eq_false (show ¬ ((pre ss (i + 1)).length : Int) > 20000 by omega), ifB_false, wrap_succ (by omega)]
        exact ih (i + 1) (by omega) (by omega) hg
      · have := pre_le ss (i + 1)
        rw [decide_eq_true (show ((pre ss (i + 1)).length : Int) > 20000 by omega), ifB_true, if_neg (by omega)]
    · obtain rfl : i = ss.length := by omega
      rw [pre_all] at hp ⊢
      rw [lt_false (Int.le_refl _), ifB_false, if_pos hp]
theorem notInt9 : notInt Try.prog 9 = true := by kernel_rfl
theorem build_loop (hl : ss.length ≤ 2000) (ht : ss.flatten.length ≤ 20000) (hN : N ≤ h0.next) (hx : memB 5 h0.ex = false) (k : AV → AHeap → R) : ∀ (m i : Nat) (h : AHeap) (v : AV), i ≤ ss.length → ss.length - i < m → Buf 5 h0.next h v (pre ss i) → Slc N h 1 x (strsL ss) → Tch [] h0 h →
    ∃ v' h', law21_joined_L0 x k m v (i : Int) h = k v' h' ∧ Buf 5 h0.next h' v' ss.flatten ∧ Tch [] h0 h' := by
  intro m
  induction m with
  | zero => intro i h v _ h4 _ _ _; omega
  | succ m ih =>
    intro i h v h2 h4 hB hs hT
    rw [law21_joined_L0_s]
    unfold law21_joined_L0b
    have hlen := hs.len
    rw [strsL, List.length_map] at hlen
    simp only [lett_eq, hlen, obind_val]
    by_cases hi : i < ss.length
    · obtain ⟨q, _, hx1, hx2⟩ := hs.cell (f := strA) hi
      have hp := pre_le ss (i + 1)
      have hps := pre_succ hi
      have hpl : (pre ss (i + 1)).length = (pre ss i).length + (ss[i]).length := by rw [hps, List.length_append]
      obtain ⟨v', h', e1, B', A'⟩ := hB.append (t := 44) (u := 9) ss[i] el44 notInt9 cells5 fit5 (by rw [hT.2.1]; exact hx) (by omega)
      rw [← hps] at B'
      have hT' := hT.ab A'
      have hs' : Slc N h' 1 x (strsL ss) := hs.keep (Nat.le_refl _) (fun b o hb hg => by rw [A'.get b (by omega)]; exact hg)
      rw [lt_true (show (i : Int) < (ss.length : Int) by omega), ifB_true, hx1, obind_val, hx2, obind_val, avStr_str, obind_val, e1, outK_val, wrap_succ (by omega)]
      exact ih (i + 1) h' v' (by omega) (by omega) B' hs' hT'
    · obtain rfl : i = ss.length := by omega
      rw [pre_all] at hB
      rw [lt_false (Int.le_refl _), ifB_false]
      exact ⟨v, h, rfl, hB, hT⟩
/-- all of them together, or too many -/
def fine (ss : List Bytes) : Bool := decide (ss.length ≤ 2000) && decide (ss.flatten.length ≤ 20000)
theorem joined_w (hn : 2001 ≤ n) (hs : Slc N h 1 x (strsL ss)) (hN : N ≤ h.next) (hx : memB 5 h.ex = false) (hb : ∀ s ∈ ss, s.length ≤ reachBytes) :
    ∃ h', world n (d + 1) 9 [x] h = some (.ret (if fine ss = true then .tup [strA ss.flatten, .bool true] else .tup [strA [], .bool false]), h') ∧ Tch [] h h' := by
  have hlen := hs.len
  rw [strsL, List.length_map] at hlen
  rw [w_law21_joined]
  unfold law21_joined
  rw [hlen, obind_val, lett_eq]
  by_cases hl : ss.length ≤ 2000
  · rw [decide_eq_false (show ¬ (ss.length : Int) > 2000 by omega), ifB_false, lett_eq]
    have hc := fun k => count_loop hs hl hb k n 0 (by omega) (by omega) (by simp [pre_zero])
    rw [show ((pre ss 0).length : Int) = 0 from rfl] at hc
    rw [show ((0 : Nat) : Int) = 0 from rfl] at hc
    rw [hc]
    by_cases ht : ss.flatten.length ≤ 20000
    · have hm := make_bytes (k1 := .i64) (k2 := .i64) (n := 0) (m := ss.flatten.length) el44 zero5 cells5 fit5 hx (Nat.zero_le _) (by omega)
      rw [show ((0 : Nat) : Int) = 0 from rfl] at hm
      have t1 := Tch.newH [] h 5 (bytesC (List.replicate ss.flatten.length 0))
      obtain ⟨v', h', e1, B', T'⟩ := build_loop (N := N) (x := x) (h0 := h) hl ht hN hx (fun t6 h_20 => outK (opConv Try.prog h_20 44 9 (some t6)) fun v41 h_22 => obind (avStr v41) fun t41 => some (ARes.ret (.tup [strA t41, .bool true]), h_22)) n 0 _ _ (by omega) (by omega) (Buf.new (Nat.le_refl _)) (hs.tch t1 hN (by simp)) t1
      refine ⟨h', ?_, T'⟩
      rw [if_pos ht, hm, outK_val, lett_eq]
      refine Eq.trans e1 ?_
      rw [B'.conv bytes44 str9, outK_val, avStr_str, obind_val, if_pos (by unfold fine; rw [decide_eq_true hl, decide_eq_true ht]; rfl)]
    · refine ⟨h, ?_, Tch.refl _ _⟩
      rw [if_neg ht, if_neg (by unfold fine; rw [decide_eq_false ht, Bool.and_false]; simp)]
  · refine ⟨h, ?_, Tch.refl _ _⟩
    rw [decide_eq_true (show (ss.length : Int) > 2000 by omega), ifB_true, if_neg (by unfold fine; rw [decide_eq_false hl, Bool.false_and]; simp)]
theorem fill_loop {b L : Nat} (hl : ss.length ≤ 2000) (k : AHeap → R) {out : Bytes} (ht : out.length + ss.flatten.length ≤ 1000000000) (_ : b ∉ ([] : List Nat)) : ∀ (m i : Nat) (h : AHeap), i ≤ ss.length → ss.length - i < m → RingAt h b L (out ++ pre ss i) → b < h.next → Slc N h 1 x (strsL ss) → N ≤ h.next → N ≤ b →
    ∃ h', law21_filled_L0 (world n (d + 1)) x (.ptr b 0) k m (i : Int) h = k h' ∧ RingAt h' b L (out ++ ss.flatten) ∧ Tch [b] h h' ∧ h'.next = h.next := by
  intro m
  induction m with
  | zero => intro i h _ h4 _ _ _ _ _; omega
  | succ m ih =>
    intro i h h2 h4 hR hbn hs hN hNb
    rw [law21_filled_L0_s]
    unfold law21_filled_L0b
    have hlen := hs.len
    rw [strsL, List.length_map] at hlen
    simp only [lett_eq, hlen, obind_val]
    by_cases hi : i < ss.length
    · obtain ⟨q, _, hx1, hx2⟩ := hs.cell (f := strA) hi
      have hp := pre_le ss (i + 1)
      have hps := pre_succ hi
      have hpl : (pre ss (i + 1)).length = (pre ss i).length + (ss[i]).length := by rw [hps, List.length_append]
      obtain ⟨h', e1, R', T', n'⟩ := put_w (n := n) (d := d) (s := ss[i]) hR hbn (by rw [List.length_append]; omega)
      rw [List.append_assoc, ← hps] at R'
      obtain ⟨h2, e2, R2, T2, n2⟩ := ih (i + 1) h' (by omega) (by omega) R' (by omega) (hs.tch T' hN (by simp; omega)) (by omega) hNb
      refine ⟨h2, ?_, R2, T'.trans T2, by omega⟩
      rw [lt_true (show (i : Int) < (ss.length : Int) by omega), ifB_true, hx1, obind_val, hx2, obind_val, avStr_str, obind_val, e1, callN_ret, wrap_succ (by omega)]
      exact e2
    · obtain rfl : i = ss.length := by omega
      rw [pre_all] at hR
      rw [lt_false (Int.le_refl _), ifB_false]
      exact ⟨h, rfl, hR, Tch.refl _ _, rfl⟩
theorem filled_bad {z : Int} (hz : z < 1 ∨ z > 1024) : world n (d + 2) 11 [.int .i64 z, x] h = some (.ret .nilp, h) := by
  rw [w_law21_filled]
  unfold law21_filled
  rw [ringBad_w hz, callN_ret]
  simp only [extT_0, extT_1, obind_val, avInt_int, lett_eq]
  rfl
theorem filled_w {L : Nat} (hL : 1 ≤ L ∧ L ≤ 1024) (hn : 2001 ≤ n) (hl : ss.length ≤ 2000) (ht : ss.flatten.length ≤ 1000000000) (hs : Slc N h 1 x (strsL ss)) (hN : N ≤ h.next) :
    ∃ h', world n (d + 2) 11 [.int .i64 (L : Int), x] h = some (.ret (.ptr h.next 0), h') ∧ RingAt h' h.next L ss.flatten ∧ Tch [] h h' ∧ h.next < h'.next := by
  obtain ⟨e1, R1⟩ := ringNew_w (n := n) (d := d) (h := h) hL
  have t1 := Tch.newH [] h 47 (ringC L 0 (List.replicate 1024 0))
  have hn1 : (newH h 47 (ringC L 0 (List.replicate 1024 0))).next = h.next + 1 := rfl
  generalize newH h 47 (ringC L 0 (List.replicate 1024 0)) = h1 at *
  obtain ⟨h', e2, R2, T2, n2⟩ := fill_loop (n := n) (d := d) (b := h.next) (L := L) (out := []) (N := N) (x := x) hl (fun h_19 => some (ARes.ret (.ptr h.next 0), h_19)) (by simpa using ht) (by simp) n 0 h1 (by omega) (by omega) R1 (by omega) (hs.tch t1 hN (by simp)) (by omega) hN
  refine ⟨h', ?_, R2, t1.trans' T2 (by intro i hi; simp at hi; omega), by omega⟩
  rw [w_law21_filled]
  unfold law21_filled
  rw [e1, callN_ret]
  simp only [extT_0, extT_1, obind_val, avInt_int, lett_eq]
  rw [show ((0 : Int) != 0) = false from rfl, ifB_false, nil26, outK_val, avBool_bool, obind_val, ifB_false]
  exact e2
/-! ### the document's answers -/
theorem limit_w (z : Int) : world n (d + 1) 12 [.int .i64 z] h = some (.ret (.bool (decide (1 ≤ z ∧ z ≤ 1024))), h) := by
  rw [w_ref21_Limit]
  unfold ref21_Limit
  simp only [lett_eq]
  by_cases h1 : z ≥ 1
  · rw [decide_eq_true h1, ifB_true, show decide (1 ≤ z ∧ z ≤ 1024) = decide (z ≤ 1024) by apply decide_eq_decide.2; omega]
    exact gcR_self
  · rw [decide_eq_false h1, ifB_false, decide_eq_false (by omega)]
    exact gcR_self
theorem refFirst_w {out : Bytes} {L : Nat} (ho : out.length ≤ 1000000000) (_ : L ≤ 1024) : world n (d + 1) 17 [strA out, .int .i64 (L : Int)] h = some (.ret (.int .i64 ((out.length - L : Nat) : Int)), h) := by
  rw [w_ref21_First]
  unfold ref21_First
  simp only [lett_eq]
  by_cases h1 : out.length > L
  · rw [decide_eq_true (show lenS out > (L : Int) by rw [lenS_nat]; omega), ifB_true, lenS_nat, wrap_i64 (by omega) (by omega), show (out.length : Int) - (L : Int) = ((out.length - L : Nat) : Int) by omega]
    exact gcR_self
  · rw [decide_eq_false (show ¬ lenS out > (L : Int) by rw [lenS_nat]; omega), ifB_false, show ((out.length - L : Nat) : Int) = 0 by omega]
    exact gcR_self
theorem refFrom_bad {out : Bytes} {L : Nat} {a most : Int} (hbad : a > out.length ∨ most < 0) : world n (d + 2) 14 [strA out, .int .i64 (L : Int), .int .i64 a, .int .i64 most] h = some (.ret (.tup [strA [], .int .i64 0, .int .i64 5]), h) := by
  rw [w_ref21_From]
  unfold ref21_From
  simp only [lett_eq]
  by_cases h1 : a > out.length
  · rw [decide_eq_true (show a > lenS out by rw [lenS_nat]; exact h1), ifB_true, ifB_true]
    exact gcR_self
  · rw [decide_eq_false (show ¬ a > lenS out by rw [lenS_nat]; exact h1), ifB_false, lt_true (by omega), ifB_true]
    exact gcR_self
theorem refFrom_w {out : Bytes} {L a most : Nat} {z : Int} (ho : out.length ≤ 1000000000) (hL : L ≤ 1024) (hz : z ≤ out.length) (ha : a = max (out.length - L) z.toNat) :
    world n (d + 2) 14 [strA out, .int .i64 (L : Int), .int .i64 z, .int .i64 (most : Int)] h = some (.ret (.tup [strA ((out.drop a).take most), .int .i64 (a : Int), .int .i64 0]), h) := by
  rw [w_ref21_From]
  unfold ref21_From
  have hal : a ≤ out.length := by omega
  have e1 := sliceS_from (l := out) (a := a) hal
  have tl : ∀ z' : Int, z' = (a : Int) → gcR h (obind (sliceS out z' (lenS out)) fun t30 => ifB (decide (lenS t30 > (most : Int))) (obind (sliceS t30 0 (most : Int)) fun t37 => some (ARes.ret (.tup [strA t37, .int .i64 z', .int .i64 0]), h)) (some (.ret (.tup [strA t30, .int .i64 z', .int .i64 0]), h))) = some (.ret (.tup [strA ((out.drop a).take most), .int .i64 (a : Int), .int .i64 0]), h) := by
    rintro _ rfl
    rw [e1, obind_val]
    by_cases h1 : (out.drop a).length > most
    · have e2 : sliceS (out.drop a) 0 (most : Int) = some ((out.drop a).take most) := by
        have := sliceS_nat (l := out.drop a) (a := 0) (b := most) (Nat.zero_le _) (by omega)
        rw [List.drop_zero, Nat.sub_zero] at this
        exact this
      rw [decide_eq_true (show lenS (out.drop a) > (most : Int) by rw [lenS_nat]; omega), ifB_true, e2, obind_val]
      exact gcR_self
    · rw [decide_eq_false (show ¬ lenS (out.drop a) > (most : Int) by rw [lenS_nat]; omega), ifB_false, List.take_of_length_le (by omega)]
      exact gcR_self
  simp only [lett_eq]
  rw [decide_eq_false (show ¬ z > lenS out by rw [lenS_nat]; omega), ifB_false, lt_false (by omega), ifB_false, refFirst_w ho hL, callN_ret, avInt_int, obind_val]
  by_cases h2 : z < ((out.length - L : Nat) : Int)
  · rw [lt_true h2, ifB_true]
    exact tl _ (by omega)
  · rw [lt_false (by omega), ifB_false]
    exact tl _ (by omega)
theorem works_w : world n (d + 1) 8 [] h = some (.ret (.bool true), h) := by kernel_rfl
end
end Go.Proofs.Ytbihkjbhmiemhaa
