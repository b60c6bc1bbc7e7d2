/- A copy of a ring goes on by itself. -/
import Derived.Test.YtbihkjbhmiemhaaRingLaws
namespace Go.Proofs.Ytbihkjbhmiemhaa
open Go.RowKit Abs

theorem ringC_one (L e : Nat) (K : Bytes) : (ringC L e K).all AV.one = true := by
  show ((AV.int .i64 (L : Int)).one && ((AV.int .i64 (e : Int)).one && (bytesC K).all AV.one)) = true
  rw [bytesC_one]
  rfl
theorem neq26 (h : AHeap) : opBin Try.prog h .neq 26 true (some .nilp) (some .nilp) = some (.val (.bool false), h) := by kernel_rfl
section
variable {n d b c L : Nat} {out A B : Bytes} {h : AHeap}
/-! ### a ring that is none -/
theorem putNil_w (s : Bytes) : world n (d + 1) 18 [.nilp, strA s] h = some (.ret (.tup []), h) := by
  rw [w_ring_Ring_Put]
  unfold ring_Ring_Put
  rw [nil26n, outK_val, avBool_bool, obind_val, ifB_true]
theorem fromNil_w (a m : Int) : world n (d + 1) 13 [.nilp, .int .i64 a, .int .i64 m] h = some (.ret (.tup [strA [], .int .i64 0, .int .i64 1]), h) := by
  rw [w_ring_Ring_From]
  unfold ring_Ring_From
  rw [nil26n, outK_val, avBool_bool, obind_val, ifB_true]
theorem firstNil_w : world n (d + 1) 16 [.nilp] h = some (.ret (.int .i64 0), h) := by
  rw [w_ring_Ring_First]
  unfold ring_Ring_First
  rw [nil26n, outK_val, avBool_bool, obind_val, ifB_true]
theorem endNil_w : world n (d + 1) 15 [.nilp] h = some (.ret (.int .i64 0), h) := by
  rw [w_ring_Ring_End]
  unfold ring_Ring_End
  rw [nil26n, outK_val, avBool_bool, obind_val, ifB_true]
theorem copyNil_w : world n (d + 1) 19 [.nilp] h = some (.ret .nilp, h) := by
  rw [w_ring_Ring_Copy]
  unfold ring_Ring_Copy
  rw [nil26n, outK_val, avBool_bool, obind_val, ifB_true]
/-! ### a copy -/
set_option maxRecDepth 20000 in
theorem copy_w (k : RingAt h b L out) (hb : b < h.next) : ∃ h', world n (d + 1) 19 [.ptr b 0] h = some (.ret (.ptr h.next 0), h') ∧ RingAt h' b L out ∧ RingAt h' h.next L out ∧ Tch [] h h' ∧ h'.next = h.next + 1 := by
  have k0 := k
  obtain ⟨K, hK, hL, hr, hi⟩ := k
  have hl : (ringC L out.length K).length = 1026 := by rw [ringC_length, hK]
  have key : ∀ zl : List AV, zl.length = 1026 → ∃ h', (obind (some (ringC L out.length K)) fun t8 => lett (newH h 47 zl) fun h_11 => obind (stRow h_11 1026 t8 (newP h)) fun h_13 => some (ARes.ret (newP h), h_13)) = some (.ret (.ptr h.next 0), h') ∧ RingAt h' b L out ∧ RingAt h' h.next L out ∧ Tch [] h h' ∧ h'.next = h.next + 1 := by
    intro zl hz
    obtain ⟨h', a1, a2, a3, a4, a5⟩ := (RowH.new h 47 zl).stAll (n := 1026) (vs := ringC L out.length K) hl hz (ringC_one _ _ _)
    have t : Tch [] h h' := (Tch.newH _ h 47 zl).trans' (tch_of (S := [h.next]) a3 a4 a5 (by simp)) (by intro i hi; simp at hi; omega)
    refine ⟨h', ?_, k0.tch t hb (by simp), ⟨K, hK, hL, a2, hi⟩, t, a3⟩
    rw [obind_val, lett_eq]
    show obind (stRow _ 1026 _ (.ptr h.next 0)) _ = _
    rw [a1, obind_val]
    rfl
  rw [w_ring_Ring_Copy]
  unfold ring_Ring_Copy
  rw [nil26, outK_val, avBool_bool, obind_val, ifB_false, nilC_p, obind_val, hr.ldAll hl]
  exact key _ (by kernel_rfl)
/-- two rings are two -/
theorem unlike_w (k1 : RingAt h b L A) (k2 : RingAt h c L B) (hne : c ≠ b) (hx : memB 47 h.ex = true) : opBinV Try.prog h .eql 26 false (some (.ptr c 0)) (some (.ptr b 0)) = some (.val (.bool false), h) := by
  obtain ⟨K1, hK1, _, ⟨t1, g1, _⟩, _⟩ := k1
  obtain ⟨K2, hK2, _, ⟨t2, g2, _⟩, _⟩ := k2
  have l1 : liveAt h b 0 = true := by
    unfold liveAt
    rw [g1]
    show (Nat.blt 0 (ringC L A.length K1).length && memB 47 h.ex) = true
    rw [ringC_length, hx]
    rfl
  have l2 : liveAt h c 0 = true := by
    unfold liveAt
    rw [g2]
    show (Nat.blt 0 (ringC L B.length K2).length && memB 47 h.ex) = true
    rw [ringC_length, hx]
    rfl
  have hb : Nat.beq c b = false := by
    cases hq : Nat.beq c b with
    | false => rfl
    | true => exact absurd (Nat.eq_of_beq_eq_true hq) hne
  have hp : ptrBig Try.prog 26 = true := by kernel_rfl
  simp only [opBinV, apartPtr, hb, l1, l2, hp, Bool.not_false, Bool.true_and]
/-! ### a ring filled of many texts -/
theorem fill_many {n d N : Nat} {x : AV} {ss : List Bytes} {b L : Nat} (hl : ss.length ≤ 1048576) (k : AHeap → R) {out : Bytes} (ht : out.length + ss.flatten.length ≤ 1000000000) : ∀ (m i : Nat) (h : AHeap), i ≤ ss.length → ss.length - i < m → RingAt h b L (out ++ pre ss i) → b < h.next → Slc N h 1 x (strsL ss) → N ≤ h.next → N ≤ b →
    ∃ h', law21_filled_L0 (world n (d + 1)) x (.ptr b 0) k m (i : Int) h = k h' ∧ RingAt h' b L (out ++ ss.flatten) ∧ Tch [b] h h' ∧ h'.next = h.next := by
  intro m
  induction m with
  | zero => intro i h _ h4 _ _ _ _ _; omega
  | succ m ih =>
    intro i h h2 h4 hR hbn hs hN hNb
    rw [law21_filled_L0_s]
    unfold law21_filled_L0b
    have hlen := hs.len
    rw [strsL, List.length_map] at hlen
    simp only [lett_eq, hlen, obind_val]
    by_cases hi : i < ss.length
    · obtain ⟨q, _, hx1, hx2⟩ := hs.cell (f := strA) hi
      have hp := pre_le ss (i + 1)
      have hps := pre_succ hi
      have hpl : (pre ss (i + 1)).length = (pre ss i).length + (ss[i]).length := by rw [hps, List.length_append]
      obtain ⟨h', e1, R', T', n'⟩ := put_w (n := n) (d := d) (s := ss[i]) hR hbn (by rw [List.length_append]; omega)
      rw [List.append_assoc, ← hps] at R'
      obtain ⟨h2, e2, R2, T2, n2⟩ := ih (i + 1) h' (by omega) (by omega) R' (by omega) (hs.tch T' hN (by simp; omega)) (by omega) hNb
      refine ⟨h2, ?_, R2, T'.trans T2, by omega⟩
      rw [lt_true (show (i : Int) < (ss.length : Int) by omega), ifB_true, hx1, obind_val, hx2, obind_val, avStr_str, obind_val, e1, callN_ret, wrap_succ (by omega)]
      exact e2
    · obtain rfl : i = ss.length := by omega
      rw [pre_all] at hR
      rw [lt_false (Int.le_refl _), ifB_false]
      exact ⟨h, rfl, hR, Tch.refl _ _, rfl⟩
theorem filled_many {n d N : Nat} {x : AV} {ss : List Bytes} {h : AHeap} {L : Nat} (hL : 1 ≤ L ∧ L ≤ 1024) (hn : 1048577 ≤ n) (hl : ss.length ≤ 1048576) (ht : ss.flatten.length ≤ 1000000000) (hs : Slc N h 1 x (strsL ss)) (hN : N ≤ h.next) :
    ∃ h', world n (d + 2) 11 [.int .i64 (L : Int), x] h = some (.ret (.ptr h.next 0), h') ∧ RingAt h' h.next L ss.flatten ∧ Tch [] h h' ∧ h.next < h'.next := by
  obtain ⟨e1, R1⟩ := ringNew_w (n := n) (d := d) (h := h) hL
  have t1 := Tch.newH [] h 47 (ringC L 0 (List.replicate 1024 0))
  have hn1 : (newH h 47 (ringC L 0 (List.replicate 1024 0))).next = h.next + 1 := rfl
  generalize newH h 47 (ringC L 0 (List.replicate 1024 0)) = h1 at *
  obtain ⟨h', e2, R2, T2, n2⟩ := fill_many (n := n) (d := d) (b := h.next) (L := L) (out := []) (N := N) (x := x) hl (fun h_19 => some (ARes.ret (.ptr h.next 0), h_19)) (by simpa using ht) n 0 h1 (by omega) (by omega) R1 (by omega) (hs.tch t1 hN (by simp)) (by omega) hN
  refine ⟨h', ?_, R2, t1.trans' T2 (by intro i hi; simp at hi; omega), by omega⟩
  rw [w_law21_filled]
  unfold law21_filled
  rw [e1, callN_ret]
  simp only [extT_0, extT_1, obind_val, avInt_int, lett_eq]
  rw [show ((0 : Int) != 0) = false from rfl, ifB_false, nil26, outK_val, avBool_bool, obind_val, ifB_false]
  exact e2
theorem pre_over {ss : List Bytes} {i : Nat} (h : ss.length ≤ i) : pre ss i = ss.flatten := by unfold pre; rw [List.take_of_length_le h]
/-- both go on -/
theorem copies_loop {N : Nat} {x y : AV} {s1 s2 : List Bytes} (hbc : b ≠ c) (h1 : s1.length ≤ 2000) (h2 : s2.length ≤ 2000) (k : AHeap → R) (hA : A.length + s1.flatten.length ≤ 1000000000) (hB : A.length + s2.flatten.length ≤ 1000000000) :
    ∀ (m i : Nat) (h : AHeap), i ≤ max s1.length s2.length → max s1.length s2.length - i < m → RingAt h b L (A ++ pre s1 i) → RingAt h c L (A ++ pre s2 i) → Slc N h 1 x (strsL s1) → Slc N h 1 y (strsL s2) → b < h.next → c < h.next → N ≤ h.next → N ≤ b → N ≤ c →
      ∃ h', law21_RingCopies_L0 (world n (d + 1)) x y (.ptr b 0) (.ptr c 0) k m (i : Int) h = k h' ∧ RingAt h' b L (A ++ s1.flatten) ∧ RingAt h' c L (A ++ s2.flatten) ∧ Tch [b, c] h h' := by
  intro m
  induction m with
  | zero => intro i h _ h4; omega
  | succ m ih =>
    intro i h hi h4 R1 R2 sx sy hb hc hN hNb hNc
    rw [law21_RingCopies_L0_s]
    unfold law21_RingCopies_L0b
    have hlx := sx.len
    rw [strsL, List.length_map] at hlx
    have hly := sy.len
    rw [strsL, List.length_map] at hly
    have fin : max s1.length s2.length ≤ i → ∃ h', k h = k h' ∧ RingAt h' b L (A ++ s1.flatten) ∧ RingAt h' c L (A ++ s2.flatten) ∧ Tch [b, c] h h' := fun hm => by
      rw [pre_over (by omega)] at R1 R2
      exact ⟨h, rfl, R1, R2, Tch.refl _ _⟩
    -- the one's put, where there is one
    have one : ∃ h', RingAt h' b L (A ++ pre s1 (i + 1)) ∧ Tch [b] h h' ∧ h'.next = h.next ∧ ∀ K : AHeap → R, ifB (decide ((i : Int) < (s1.length : Int))) (obind (idxP 1 x (i : Int)) fun t129 => obind (ldCell h t129) fun v130 => obind (avStr v130) fun t130 => callN (world n (d + 1) 18 [.ptr b 0, strA t130] h) fun _ h_186 => K h_186) (K h) = K h' := by
      by_cases hlt : i < s1.length
      · obtain ⟨q, _, hx1, hx2⟩ := sx.cell (f := strA) hlt
        have hp := pre_le s1 (i + 1)
        have hps := pre_succ hlt
        have hpl : (pre s1 (i + 1)).length = (pre s1 i).length + (s1[i]).length := by rw [hps, List.length_append]
        obtain ⟨h', e1, R', T', n'⟩ := put_w (n := n) (d := d) (s := s1[i]) R1 hb (by rw [List.length_append]; omega)
        rw [List.append_assoc, ← hps] at R'
        refine ⟨h', R', T', n', fun K => ?_⟩
        rw [lt_true (by omega), ifB_true, hx1, obind_val, hx2, obind_val, avStr_str, obind_val, e1, callN_ret]
      · refine ⟨h, by rw [pre_over (by omega)] at R1 ⊢; exact R1, Tch.refl _ _, rfl, fun K => ?_⟩
        rw [lt_false (by omega), ifB_false]
    obtain ⟨ha, Ra, Ta, na, ea⟩ := one
    have R2a := R2.tch Ta hc (by simp; omega)
    have sya := sy.tch Ta hN (by simp; omega)
    have sxa := sx.tch Ta hN (by simp; omega)
    have two : ∃ h', RingAt h' c L (A ++ pre s2 (i + 1)) ∧ Tch [c] ha h' ∧ h'.next = ha.next ∧ ∀ K : AHeap → R, ifB (decide ((i : Int) < (s2.length : Int))) (obind (idxP 1 y (i : Int)) fun t139 => obind (ldCell ha t139) fun v140 => obind (avStr v140) fun t140 => callN (world n (d + 1) 18 [.ptr c 0, strA t140] ha) fun _ h_181 => K h_181) (K ha) = K h' := by
      by_cases hlt : i < s2.length
      · obtain ⟨q, _, hx1, hx2⟩ := sya.cell (f := strA) hlt
        have hp := pre_le s2 (i + 1)
        have hps := pre_succ hlt
        have hpl : (pre s2 (i + 1)).length = (pre s2 i).length + (s2[i]).length := by rw [hps, List.length_append]
        obtain ⟨h', e1, R', T', n'⟩ := put_w (n := n) (d := d) (s := s2[i]) R2a (by omega) (by rw [List.length_append]; omega)
        rw [List.append_assoc, ← hps] at R'
        refine ⟨h', R', T', n', fun K => ?_⟩
        rw [lt_true (by omega), ifB_true, hx1, obind_val, hx2, obind_val, avStr_str, obind_val, e1, callN_ret]
      · refine ⟨ha, by rw [pre_over (by omega)] at R2a ⊢; exact R2a, Tch.refl _ _, rfl, fun K => ?_⟩
        rw [lt_false (by omega), ifB_false]
    obtain ⟨hb2, Rb, Tb, nb, eb⟩ := two
    have go : i < max s1.length s2.length → ∃ h', (ifB (decide ((i : Int) < (s1.length : Int))) (obind (idxP 1 x (i : Int)) fun t129 => obind (ldCell h t129) fun v130 => obind (avStr v130) fun t130 => callN (world n (d + 1) 18 [.ptr b 0, strA t130] h) fun _ h_186 => (fun h_171 => ifB (decide ((i : Int) < (s2.length : Int))) (obind (idxP 1 y (i : Int)) fun t139 => obind (ldCell h_171 t139) fun v140 => obind (avStr v140) fun t140 => callN (world n (d + 1) 18 [.ptr c 0, strA t140] h_171) fun _ h_181 => law21_RingCopies_L0 (world n (d + 1)) x y (.ptr b 0) (.ptr c 0) k m (IntKind.i64.wrap ((i : Int) + 1)) h_181) (law21_RingCopies_L0 (world n (d + 1)) x y (.ptr b 0) (.ptr c 0) k m (IntKind.i64.wrap ((i : Int) + 1)) h_171)) h_186) ((fun h_171 => ifB (decide ((i : Int) < (s2.length : Int))) (obind (idxP 1 y (i : Int)) fun t139 => obind (ldCell h_171 t139) fun v140 => obind (avStr v140) fun t140 => callN (world n (d + 1) 18 [.ptr c 0, strA t140] h_171) fun _ h_181 => law21_RingCopies_L0 (world n (d + 1)) x y (.ptr b 0) (.ptr c 0) k m (IntKind.i64.wrap ((i : Int) + 1)) h_181) (law21_RingCopies_L0 (world n (d + 1)) x y (.ptr b 0) (.ptr c 0) k m (IntKind.i64.wrap ((i : Int) + 1)) h_171)) h)) = k h' ∧ RingAt h' b L (A ++ s1.flatten) ∧ RingAt h' c L (A ++ s2.flatten) ∧ Tch [b, c] h h' := by
      intro hlt
      have ebi := eb (fun h_181 => law21_RingCopies_L0 (world n (d + 1)) x y (.ptr b 0) (.ptr c 0) k m (IntKind.i64.wrap ((i : Int) + 1)) h_181)
      obtain ⟨h', e3, R3, R4, T3⟩ := ih (i + 1) hb2 (by omega) (by omega) (Ra.tch Tb (by omega) (by simp; omega)) Rb (sxa.tch Tb (by omega) (by simp; omega)) (sya.tch Tb (by omega) (by simp; omega)) (by omega) (by omega) (by omega) hNb hNc
      refine ⟨h', ?_, R3, R4, ((Ta.mono (by simp)).trans (Tb.mono (by simp))).trans T3⟩
      refine (ea (fun h_171 => ifB (decide ((i : Int) < (s2.length : Int))) (obind (idxP 1 y (i : Int)) fun t139 => obind (ldCell h_171 t139) fun v140 => obind (avStr v140) fun t140 => callN (world n (d + 1) 18 [.ptr c 0, strA t140] h_171) fun _ h_181 => law21_RingCopies_L0 (world n (d + 1)) x y (.ptr b 0) (.ptr c 0) k m (IntKind.i64.wrap ((i : Int) + 1)) h_181) (law21_RingCopies_L0 (world n (d + 1)) x y (.ptr b 0) (.ptr c 0) k m (IntKind.i64.wrap ((i : Int) + 1)) h_171))).trans ?_
      refine Eq.trans ebi ?_
      rw [wrap_succ (by omega)]
      exact e3
    simp only [lett_eq, hlx, hly, obind_val]
    by_cases hl1 : i < s1.length
    · rw [show decide ((i : Int) < (s1.length : Int)) = true from lt_true (by omega)] at go ⊢
      rw [ifB_true, ifB_true]
      exact go (by omega)
    · rw [show decide ((i : Int) < (s1.length : Int)) = false from lt_false (by omega)] at go ⊢
      by_cases hl2 : i < s2.length
      · rw [show decide ((i : Int) < (s2.length : Int)) = true from lt_true (by omega)] at go ⊢
        rw [ifB_false, ifB_true]
        exact go (by omega)
      · rw [show decide ((i : Int) < (s2.length : Int)) = false from lt_false (by omega), ifB_false, ifB_false]
        exact fin (by omega)
end
theorem mem47 {h : AHeap} (hX : h.ex = [47]) : memB 47 h.ex = true := by rw [hX]; rfl
theorem mem5' {h : AHeap} (hX : h.ex = [47]) : memB 5 h.ex = false := by rw [hX]; rfl
theorem told_ok (out : Bytes) (L : Nat) : ∃ (s : Bytes) (a : Int), toldI out L 0 1048576 = [strA s, .int .i64 a, .int .i64 0] := by
  unfold toldI
  rw [if_neg (by omega)]
  exact ⟨_, _, rfl⟩
theorem addS_ok {a b : Bytes} (h : a.length + b.length ≤ 1000000000) : addS a b = some (a ++ b) := by
  unfold addS
  rw [Nat.ble_eq_true_of_le h]
/-- what is told of the texts put together -/
theorem joined2 (ss : List Bytes) : ∃ all ok, (if fine ss = true then AV.tup [strA ss.flatten, .bool true] else .tup [strA [], .bool false]) = .tup [strA all, .bool ok] ∧ ok = fine ss ∧ (fine ss = true → all = ss.flatten) := by
  by_cases hf : fine ss = true
  · exact ⟨ss.flatten, true, by rw [if_pos hf], hf.symm, fun _ => rfl⟩
  · exact ⟨[], false, by rw [if_neg hf], by cases h : fine ss with
      | false => rfl
      | true => exact absurd h hf, fun h => absurd h hf⟩
/-- the law of copies -/
theorem ringCopies_says (h : AHeap) (hX : h.ex = [47]) (xs : List AV) (hP : ArgsP Try.prog h.next h 12 [3, 22, 22, 22] xs) (hB : ∀ x1 s1, xs[1]? = some x1 → Slc h.next h 1 x1 (strsL s1) → s1.length ≤ 1048576 ∧ s1.flatten.length ≤ 1048576) : ∃ h', Says Try.prog 6 xs h (.ret (.bool true)) h' := by
  obtain ⟨_, _, rfl, hp0, hP⟩ := args_cons hP
  obtain ⟨x1, _, rfl, hp1, hP⟩ := args_cons hP
  obtain ⟨x2, _, rfl, hp2, hP⟩ := args_cons hP
  obtain ⟨x3, _, rfl, hp3, hP⟩ := args_cons hP
  obtain rfl := args0 hP
  obtain ⟨z, rfl, _⟩ := hp0.int Try.underlying3
  obtain ⟨s1, i1, b1⟩ := strs_of22 hp1
  obtain ⟨s2, i2, b2⟩ := strs_of22 hp2
  obtain ⟨s3, i3, b3⟩ := strs_of22 hp3
  obtain ⟨m1, m2⟩ := hB x1 s1 rfl i1
  have key : ∀ n, 1048577 ≤ n → ∃ h', world n 4 6 [.int .i64 z, x1, x2, x3] h = some (.ret (.bool true), h') := by
    intro n hn
    rw [w_law21_RingCopies]
    unfold law21_RingCopies
    rw [works_w, callN_ret, avBool_bool, obind_val, lett_eq, Bool.not_true, ifB_false, putNil_w, callN_ret, fromNil_w, callN_ret, extT_0, obind_val, avStr_str, obind_val, extT_1, obind_val, avInt_int, obind_val, extT_2, obind_val, avInt_int, obind_val]
    rw [show (!eqS ([] : Bytes) []) = false from rfl, lett_eq, lett_eq, ifB_false, show ((0 : Int) != 0) = false from rfl, lett_eq]
    dsimp only
    rw [lett_eq, ifB_false, show ((1 : Int) != 1) = false from rfl, lett_eq]
    dsimp only
    rw [lett_eq, ifB_false, firstNil_w, callN_ret, avInt_int, obind_val, show ((0 : Int) != 0) = false from rfl, lett_eq]
    dsimp only
    rw [lett_eq, ifB_false, endNil_w, callN_ret, avInt_int, obind_val, show ((0 : Int) != 0) = false from rfl, lett_eq]
    dsimp only
    rw [lett_eq, ifB_false, copyNil_w, callN_ret, neq26, outK_val, avBool_bool, obind_val]
    dsimp only
    rw [ifB_false]
    obtain ⟨h1, e1, t1⟩ := joined_w (n := n) (d := 2) (by omega) i1 (Nat.le_refl _) (mem5' hX) b1
    have hX1 : h1.ex = [47] := by rw [t1.2.1]; exact hX
    have n1 := t1.1
    obtain ⟨h2, e2, t2⟩ := joined_w (n := n) (d := 2) (by omega) (i2.tch t1 (Nat.le_refl _) (by simp)) n1 (mem5' hX1) b2
    have hX2 : h2.ex = [47] := by rw [t2.2.1]; exact hX1
    have n2 := t2.1
    obtain ⟨h3, e3, t3⟩ := joined_w (n := n) (d := 2) (by omega) ((i3.tch t1 (Nat.le_refl _) (by simp)).tch t2 n1 (by simp)) (by omega) (mem5' hX2) b3
    have hX3 : h3.ex = [47] := by rw [t3.2.1]; exact hX2
    have n3 := t3.1
    obtain ⟨a1, o1, q1, p1, f1⟩ := joined2 s1
    obtain ⟨a2, o2, q2, p2, f2⟩ := joined2 s2
    obtain ⟨a3, o3, q3, p3, f3⟩ := joined2 s3
    rw [q1] at e1
    rw [q2] at e2
    rw [q3] at e3
    have j1 := ((i1.tch t1 (Nat.le_refl _) (by simp)).tch t2 n1 (by simp)).tch t3 (by omega) (by simp)
    have j2 := ((i2.tch t1 (Nat.le_refl _) (by simp)).tch t2 n1 (by simp)).tch t3 (by omega) (by simp)
    have j3 := ((i3.tch t1 (Nat.le_refl _) (by simp)).tch t2 n1 (by simp)).tch t3 (by omega) (by simp)
    rw [e1, callN_ret, extT_0, obind_val, avStr_str, obind_val, extT_1, obind_val, avBool_bool, obind_val, e2, callN_ret, extT_0, obind_val, avStr_str, obind_val, extT_1, obind_val, avBool_bool, obind_val, e3, callN_ret, extT_0, obind_val, avStr_str, obind_val, extT_1, obind_val, avBool_bool, obind_val]
    -- where something can't be, it is let go
    by_cases hfa : fine s1 = true
    · by_cases hL : 1 ≤ z ∧ z ≤ 1024
      · obtain ⟨L, rfl⟩ := Int.eq_ofNat_of_zero_le (show 0 ≤ z by omega)
        have hL' : 1 ≤ L ∧ L ≤ 1024 := by omega
        obtain ⟨hl1, ht1⟩ := fine_iff hfa
        obtain ⟨h4, e4, R4, t4, n4⟩ := filled_many (n := n) (d := 1) hL' hn (by omega) (by omega) j1 (by omega)
        have hX4 : h4.ex = [47] := by rw [t4.2.1]; exact hX3
        obtain rfl : o1 = true := by rw [p1, hfa]
        obtain rfl := f1 hfa
        rw [e4, callN_ret, Bool.not_true, lett_eq, lett_eq, ifB_false, lett_eq]
        dsimp only
        cases hfb : fine s2 with
        | false =>
          obtain rfl : o2 = false := by rw [p2, hfb]
          rw [Bool.not_false, lett_eq, ifB_true]
          dsimp only
          rw [lett_eq, ifB_true]
          exact ⟨_, rfl⟩
        | true =>
          obtain rfl : o2 = true := by rw [p2, hfb]
          obtain rfl := f2 hfb
          rw [Bool.not_true, lett_eq, ifB_false, lett_eq]
          dsimp only
          cases hfc : fine s3 with
          | false =>
            obtain rfl : o3 = false := by rw [p3, hfc]
            rw [Bool.not_false, lett_eq, ifB_true]
            exact ⟨_, rfl⟩
          | true =>
            obtain rfl : o3 = true := by rw [p3, hfc]
            obtain rfl := f3 hfc
            obtain ⟨hl2, ht2⟩ := fine_iff hfb
            obtain ⟨hl3, ht3⟩ := fine_iff hfc
            obtain ⟨h5, e5, R5, R6, t5, n5⟩ := copy_w (n := n) (d := 2) R4 n4
            have hX5 : h5.ex = [47] := by rw [t5.2.1]; exact hX4
            have n45 := t4.1
            rw [Bool.not_true, lett_eq, ifB_false, nil26, outK_val, avBool_bool, obind_val]
            dsimp only
            rw [ifB_false, e5, callN_ret, nil26, outK_val, avBool_bool, obind_val, lett_eq, ifB_false, unlike_w R5 R6 (by omega) (mem47 hX5), outK_val, avBool_bool, obind_val]
            dsimp only
            rw [ifB_false, lett_eq]
            obtain ⟨h6, e6, R7, R8, t6⟩ := copies_loop (n := n) (d := 2) (N := h.next) (x := x2) (y := x3) (s1 := s2) (s2 := s3) (A := s1.flatten) (by omega : h3.next ≠ h4.next) hl2 hl3 (fun h_94 =>
                              callN (world n 3 13 [.ptr h3.next 0, .int .i64 0, .int .i64 1048576] h_94) fun r144 h_96 =>
                              obind (extT 0 r144) fun v145 =>
                              obind (avStr v145) fun t145 =>
                              obind (extT 1 r144) fun v146 =>
                              obind (avInt .i64 v146) fun t146 =>
                              obind (extT 2 r144) fun v147 =>
                              obind (avInt .i64 v147) fun t147 =>
                              callN (world n 3 13 [.ptr h4.next 0, .int .i64 0, .int .i64 1048576] h_96) fun r150 h_105 =>
                              obind (extT 0 r150) fun v151 =>
                              obind (avStr v151) fun t151 =>
                              obind (extT 1 r150) fun v152 =>
                              obind (avInt .i64 v152) fun t152 =>
                              obind (extT 2 r150) fun v153 =>
                              obind (avInt .i64 v153) fun t153 =>
                              obind (addS s1.flatten s2.flatten) fun t157 =>
                              callN (world n 3 14 [strA t157, .int .i64 ((L : Nat) : Int), .int .i64 0, .int .i64 1048576] h_105) fun r159 h_115 =>
                              obind (extT 0 r159) fun v160 =>
                              obind (avStr v160) fun t160 =>
                              obind (extT 1 r159) fun v161 =>
                              obind (avInt .i64 v161) fun t161 =>
                              obind (extT 2 r159) fun v162 =>
                              obind (avInt .i64 v162) fun _ =>
                              obind (addS s1.flatten s3.flatten) fun t166 =>
                              callN (world n 3 14 [strA t166, .int .i64 ((L : Nat) : Int), .int .i64 0, .int .i64 1048576] h_115) fun r168 h_125 =>
                              obind (extT 0 r168) fun v169 =>
                              obind (avStr v169) fun t169 =>
                              obind (extT 1 r168) fun v170 =>
                              obind (avInt .i64 v170) fun t170 =>
                              obind (extT 2 r168) fun v171 =>
                              obind (avInt .i64 v171) fun _ =>
                              ifB ((t147 : Int) == 0) (ifB ((t153 : Int) == 0) (ifB (eqS t145 t160) (ifB ((t146 : Int) == t161) (ifB (eqS t151 t169) (some (.ret (.bool ((t152 : Int) == t170)), h_125)) (some (.ret (.bool false), h_125))) (some (.ret (.bool false), h_125))) (some (.ret (.bool false), h_125))) (some (.ret (.bool false), h_125))) (some (.ret (.bool false), h_125))) (by omega) (by omega) n 0 h5 (by omega) (by omega) (by rw [pre_zero, List.append_nil]; exact R5) (by rw [pre_zero, List.append_nil]; exact R6) ((j2.tch t4 (by omega) (by simp)).tch t5 (by omega) (by simp)) ((j3.tch t4 (by omega) (by simp)).tch t5 (by omega) (by simp)) (by omega) (by omega) (by omega) (by omega) (by omega)
            have hX6 : h6.ex = [47] := by rw [t6.2.1]; exact hX5
            have n6 := t6.1
            obtain ⟨h7, e7, t7⟩ := told_w (n := n) (d := 1) (z := 0) (most := 1048576) R7 (by omega) (mem5' hX6) (by rw [List.length_append]; omega)
            have hX7 : h7.ex = [47] := by rw [t7.2.1]; exact hX6
            have n7 := t7.1
            obtain ⟨h8, e8, t8⟩ := told_w (n := n) (d := 1) (z := 0) (most := 1048576) (R8.tch t7 (by omega) (by simp)) (by omega) (mem5' hX7) (by rw [List.length_append]; omega)
            have e9 := refTold_w (n := n) (d := 1) (h := h8) (L := L) (z := 0) (most := 1048576) (out := s1.flatten ++ s2.flatten) (by rw [List.length_append]; omega) hL'.2
            have e10 := refTold_w (n := n) (d := 1) (h := h8) (L := L) (z := 0) (most := 1048576) (out := s1.flatten ++ s3.flatten) (by rw [List.length_append]; omega) hL'.2
            obtain ⟨u1, v1, w1⟩ := told_ok (s1.flatten ++ s2.flatten) L
            obtain ⟨u2, v2, w2⟩ := told_ok (s1.flatten ++ s3.flatten) L
            rw [w1] at e7 e9
            rw [w2] at e8 e10
            refine ⟨h8, Eq.trans (b := law21_RingCopies_L0 (world n 3) x2 x3 (.ptr h3.next 0) (.ptr h4.next 0) _ n ((0 : Nat) : Int) h5) ?_ (e6.trans ?_)⟩
            · rfl
            · rw [e7, callN_ret, extT_0, obind_val, avStr_str, obind_val, extT_1, obind_val, avInt_int, obind_val, extT_2, obind_val, avInt_int, obind_val, e8, callN_ret, extT_0, obind_val, avStr_str, obind_val, extT_1, obind_val, avInt_int, obind_val, extT_2, obind_val, avInt_int, obind_val, addS_ok (by omega), obind_val, e9, callN_ret, extT_0, obind_val, avStr_str, obind_val, extT_1, obind_val, avInt_int, obind_val, extT_2, obind_val, avInt_int, obind_val, addS_ok (by omega), obind_val, e10, callN_ret, extT_0, obind_val, avStr_str, obind_val, extT_1, obind_val, avInt_int, obind_val, extT_2, obind_val, avInt_int, obind_val]
              rw [show ((0 : Int) == 0) = true from rfl, ifB_true, ifB_true, eqS_eq, beq_self_eq_true, ifB_true, beq_self_eq_true, ifB_true, eqS_eq, beq_self_eq_true, ifB_true, beq_self_eq_true]
      · obtain rfl : o1 = true := by rw [p1, hfa]
        rw [filled_bad (by omega), callN_ret, Bool.not_true, lett_eq, lett_eq, ifB_false, lett_eq]
        dsimp only
        cases o2 with
        | false =>
          rw [Bool.not_false, lett_eq, ifB_true]
          dsimp only
          rw [lett_eq, ifB_true]
          exact ⟨_, rfl⟩
        | true =>
          rw [Bool.not_true, lett_eq, ifB_false, lett_eq]
          dsimp only
          cases o3 with
          | false =>
            rw [Bool.not_false, lett_eq, ifB_true]
            exact ⟨_, rfl⟩
          | true =>
            rw [Bool.not_true, lett_eq, ifB_false, nil26n, outK_val, avBool_bool, obind_val]
            exact ⟨_, rfl⟩
    · obtain rfl : o1 = false := by rw [p1]; cases hq : fine s1 with
        | false => rfl
        | true => exact absurd hq hfa
      -- the ring is filled all the same, of whatever there is
      have gone : ∃ q h4, world n 3 11 [.int .i64 z, x1] h3 = some (.ret q, h4) := by
        by_cases hL : 1 ≤ z ∧ z ≤ 1024
        · obtain ⟨L, rfl⟩ := Int.eq_ofNat_of_zero_le (show 0 ≤ z by omega)
          obtain ⟨h4, e4, _, _, _⟩ := filled_many (n := n) (d := 1) (show 1 ≤ L ∧ L ≤ 1024 by omega) hn m1 (by omega) j1 (by omega)
          exact ⟨_, h4, e4⟩
        · exact ⟨_, _, filled_bad (by omega)⟩
      obtain ⟨q, h4, e4⟩ := gone
      rw [e4, callN_ret, Bool.not_false, lett_eq, lett_eq, ifB_true]
      dsimp only
      rw [lett_eq, ifB_true]
      dsimp only
      rw [lett_eq, ifB_true]
      exact ⟨_, rfl⟩
  obtain ⟨h', hk⟩ := key 1048577 (Nat.le_refl _)
  exact ⟨h', world_ok _ _ _ _ _ _ _ hk⟩
end Go.Proofs.Ytbihkjbhmiemhaa
