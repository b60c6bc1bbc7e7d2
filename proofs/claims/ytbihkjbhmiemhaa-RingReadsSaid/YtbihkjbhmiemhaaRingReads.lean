/- A reader that comes again. -/
import Derived.Test.YtbihkjbhmiemhaaRingLaws
namespace Go.Proofs.Ytbihkjbhmiemhaa
open Go.RowKit Abs

noncomputable def intsL (zs : List Int) : List (List AV) := zs.map fun z => [.int .i64 z]
theorem pre_prefix (ss : List Bytes) (i : Nat) : ∃ r, ss.flatten = pre ss i ++ r := ⟨(ss.drop i).flatten, by
  unfold pre
  rw [← List.flatten_append, List.take_append_drop]⟩
section
variable {n d N b L : Nat} {x y : AV} {ss : List Bytes} {zs : List Int}
/-- the number to read, whichever it is -/
theorem pick_w {h : AHeap} (hy : Slc N h 1 y (intsL zs)) (i : Nat) : ∃ w : Int, ∀ K : Int → R, ifB (decide ((zs.length : Int) > 0)) (obind (lenL y) fun t58 => obind (remI .i64 (i : Int) t58) fun t59 => obind (idxP 1 y t59) fun t60 => obind (ldCell h t60) fun v61 => obind (avInt .i64 v61) fun t61 => K t61) (K 1048576) = K w := by
  have hlen := hy.len
  rw [intsL, List.length_map] at hlen
  by_cases hz : zs.length = 0
  · refine ⟨1048576, fun K => ?_⟩
    rw [decide_eq_false (by omega), ifB_false]
  · have hlt : i % zs.length < zs.length := Nat.mod_lt _ (by omega)
    obtain ⟨q, _, hx1, hx2⟩ := hy.cell (f := AV.int .i64) hlt
    refine ⟨zs[i % zs.length], fun K => ?_⟩
    rw [decide_eq_true (show (zs.length : Int) > 0 by omega), ifB_true, hlen, obind_val, rem_nat (by omega), obind_val, hx1, obind_val, hx2, obind_val, avInt_int, obind_val]
theorem reads_loop (hL : 1 ≤ L ∧ L ≤ 1024) (ht : ss.flatten.length ≤ 20000) (k : AHeap → R) (hk : ∀ h, k h = some (.ret (.bool true), h)) :
    ∀ (m i a : Nat) (h : AHeap), i ≤ ss.length → ss.length - i < m → a ≤ (pre ss i).length → RingAt h b L (pre ss i) → Slc N h 1 x (strsL ss) → Slc N h 1 y (intsL zs) → N ≤ h.next → N ≤ b → b < h.next → h.ex = [] → ss.length ≤ 2000 →
      ∃ h', law21_RingReads_L0 (world n (d + 2)) (L : Int) x y ss.flatten (.ptr b 0) k m (a : Int) ((pre ss i).length : Int) (i : Int) h = some (.ret (.bool true), h') := by
  intro m
  induction m with
  | zero => intro i a h _ h4 _ _ _ _ _ _ _ _ _; omega
  | succ m ih =>
    intro i a h h2 h4 ha hR hs hy hN hNb hb hX hl
    rw [law21_RingReads_L0_s]
    unfold law21_RingReads_L0b
    have hlen := hs.len
    rw [strsL, List.length_map] at hlen
    have hleny := hy.len
    rw [intsL, List.length_map] at hleny
    rw [hlen, obind_val, lett_eq]
    by_cases hi : i < ss.length
    · obtain ⟨q, _, hx1, hx2⟩ := hs.cell (f := strA) hi
      have hp := pre_le ss (i + 1)
      have hps := pre_succ hi
      have hpl : (pre ss (i + 1)).length = (pre ss i).length + (ss[i]).length := by rw [hps, List.length_append]
      obtain ⟨h1, e1, R1, t1, n1⟩ := put_w (n := n) (d := d + 1) (s := ss[i]) hR hb (by omega)
      rw [← hps] at R1
      have hs1 := hs.tch t1 hN (by simp; omega)
      have hy1 := hy.tch t1 hN (by simp; omega)
      have hx3 : ldCell h1 (.ptr q i) = some (strA ss[i]) := by
        obtain ⟨q', _, hx1', hx2'⟩ := hs1.cell (f := strA) hi
        rw [hx1] at hx1'
        simp only [Option.some.injEq] at hx1'
        rw [hx1']
        exact hx2'
      have hX1 : h1.ex = [] := by rw [t1.2.1]; exact hX
      have e2 : IntKind.i64.wrap (((pre ss i).length : Int) + lenS ss[i]) = ((pre ss (i + 1)).length : Int) := by
        rw [lenS_nat, wrap_i64 (by omega) (by omega)]
        omega
      obtain ⟨w, hw⟩ := pick_w hy1 i
      rw [lt_true (show (i : Int) < (ss.length : Int) by omega), ifB_true, lett_eq, hx1, obind_val, hx2, obind_val, avStr_str, obind_val, e1, callN_ret, obind_val, hx3, obind_val, avStr_str, obind_val, lett_eq, e2, hleny, obind_val, lett_eq, lett_eq]
      rw [hleny] at hw
      refine Eq.subst (motive := fun X => ∃ h', X = some (ARes.ret (.bool true), h')) (hw _).symm ?_
      dsimp only
      obtain ⟨h2', e3, t3⟩ := told_w (n := n) (d := d) (z := (a : Int)) (most := w) R1 (by omega) (mem5 hX1) (by omega)
      have hn3 := t3.1
      have nxt : ∀ a' : Nat, a' ≤ (pre ss (i + 1)).length → ∃ h', law21_RingReads_L0 (world n (d + 2)) (L : Int) x y ss.flatten (.ptr b 0) k m (a' : Int) ((pre ss (i + 1)).length : Int) ((i + 1 : Nat) : Int) h2' = some (.ret (.bool true), h') := fun a' ha' =>
        ih (i + 1) a' h2' (by omega) (by omega) ha' (R1.tch t3 (by omega) (by simp)) (hs1.tch t3 (by omega) (by simp)) (hy1.tch t3 (by omega) (by simp)) (by omega) hNb (by omega) (by rw [t3.2.1]; exact hX1) hl
      have e4 : IntKind.i64.wrap ((i : Int) + 1) = ((i + 1 : Nat) : Int) := wrap_succ (by omega)
      rw [e3, callN_ret]
      by_cases hwn : w < 0
      · have e5 : toldI (pre ss (i + 1)) L (a : Int) w = [strA [], .int .i64 0, .int .i64 5] := by
          unfold toldI
          rw [if_pos (.inr hwn)]
        rw [e5]
        rw [extT_0, obind_val, avStr_str, obind_val, extT_1, obind_val, avInt_int, obind_val, extT_2, obind_val, avInt_int, obind_val, lett_eq]
        rw [lt_true hwn, ifB_true, lett_eq, show ((5 : Int) != 5) = false from rfl, lett_eq, ifB_false, lett_eq, show (!eqS ([] : Bytes) []) = false from rfl]
        dsimp only
        rw [lett_eq, ifB_false, lett_eq, show ((0 : Int) != 0) = false from rfl]
        dsimp only
        rw [ifB_false, lett_eq, e4]
        exact nxt a (by omega)
      · obtain ⟨most, rfl⟩ := Int.eq_ofNat_of_zero_le (show 0 ≤ w by omega)
        generalize hfrom : max ((pre ss (i + 1)).length - L) a = from'
        have e5 : toldI (pre ss (i + 1)) L (a : Int) (most : Int) = [strA (((pre ss (i + 1)).drop from').take most), .int .i64 (from' : Int), .int .i64 0] := by
          unfold toldI
          rw [if_neg (by omega), Int.toNat_natCast, Int.toNat_natCast, hfrom]
        rw [e5]
        generalize hs' : ((pre ss (i + 1)).drop from').take most = s
        have hsl : s.length = min most ((pre ss (i + 1)).length - from') := by rw [← hs', List.length_take, List.length_drop]
        have hall : sliceS ss.flatten (from' : Int) ((from' + s.length : Nat) : Int) = some s := by
          rw [sliceS_nat (by omega) (by omega), show from' + s.length - from' = s.length by omega]
          obtain ⟨r, hr⟩ := pre_prefix ss (i + 1)
          rw [hr, List.drop_append_of_le_length (by omega), List.take_append_of_le_length (by rw [List.length_drop]; omega), ← hs']
          congr 1
          apply List.ext_getElem?
          intro j
          by_cases hj : j < s.length
          · rw [← hs'] at hj
            rw [List.getElem?_take_of_lt hj, List.getElem?_take_of_lt (by rw [List.length_take] at hj; omega)]
          · rw [← hs'] at hj
            rw [List.getElem?_eq_none (by rw [List.length_take]; omega), List.getElem?_eq_none (by omega)]
        have e6 : IntKind.i64.wrap ((from' : Int) + lenS s) = ((from' + s.length : Nat) : Int) := by rw [lenS_nat, wrap_i64 (by omega) (by omega)]; omega
        have e7 : IntKind.i64.wrap (((pre ss (i + 1)).length : Int) - (L : Int)) = ((pre ss (i + 1)).length : Int) - (L : Int) := wrap_i64 (by omega) (by omega)
        have e8 : IntKind.i64.wrap (((pre ss (i + 1)).length : Int) - (a : Int)) = ((pre ss (i + 1)).length : Int) - (a : Int) := wrap_i64 (by omega) (by omega)
        rw [extT_0, obind_val, avStr_str, obind_val, extT_1, obind_val, avInt_int, obind_val, extT_2, obind_val, avInt_int, obind_val, lett_eq]
        rw [lt_false (show (0 : Int) ≤ ((most : Nat) : Int) by omega), ifB_false, lett_eq, show ((0 : Int) != 0) = false from rfl, lett_eq, ifB_false, lett_eq, lt_false (show (a : Int) ≤ (from' : Int) by omega)]
        dsimp only
        rw [lett_eq, ifB_false, lett_eq, decide_eq_false (show ¬ (from' : Int) > ((pre ss (i + 1)).length : Int) by omega)]
        dsimp only
        rw [lett_eq, ifB_false, lett_eq, e6, lett_eq, decide_eq_false (show ¬ ((from' + s.length : Nat) : Int) > ((pre ss (i + 1)).length : Int) by omega)]
        dsimp only
        rw [lett_eq, ifB_false, lett_eq, hall, obind_val, lett_eq, show (!eqS s s) = false by rw [eqS_eq, beq_self_eq_true]; rfl]
        dsimp only
        rw [lett_eq, ifB_false, lett_eq, decide_eq_false (show ¬ lenS s > ((most : Nat) : Int) by rw [lenS_nat]; omega)]
        dsimp only
        rw [ifB_false, lett_eq, lett_eq]
        have last : ∃ h', (lett (decide (lenS s < ((most : Nat) : Int))) fun t144 => lett (fun (t152 : Bool) (h_127 : AHeap) => ifB t152 (some (ARes.ret (.bool false), h_127)) (lett (IntKind.i64.wrap ((from' : Int) + lenS s)) fun t156 => lett (IntKind.i64.wrap ((i : Int) + 1)) fun t38 => law21_RingReads_L0 (world n (d + 2)) (L : Int) x y ss.flatten (.ptr b 0) k m t156 ((pre ss (i + 1)).length : Int) t38 h_127)) fun j152 => ifB t144 (lett (IntKind.i64.wrap ((from' : Int) + lenS s)) fun t149 => lett ((t149 : Int) != ((pre ss (i + 1)).length : Int)) fun t151 => j152 t151 h2') (j152 false h2')) = some (.ret (.bool true), h') := by
          rw [lett_eq, lett_eq, e6, e4]
          by_cases hlt : s.length < most
          · rw [lt_true (show lenS s < ((most : Nat) : Int) by rw [lenS_nat]; omega), ifB_true, lett_eq, lett_eq, show (((from' + s.length : Nat) : Int) != ((pre ss (i + 1)).length : Int)) = false by simp; omega]
            dsimp only
            rw [ifB_false, lett_eq, lett_eq]
            exact nxt _ (by omega)
          · rw [lt_false (show ((most : Nat) : Int) ≤ lenS s by rw [lenS_nat]; omega), ifB_false]
            dsimp only
            rw [ifB_false, lett_eq, lett_eq]
            exact nxt _ (by omega)
        rw [e6] at last
        by_cases hgt : from' > a
        · rw [decide_eq_true (show (from' : Int) > (a : Int) by omega), ifB_true, lett_eq, e7, lett_eq, show ((from' : Int) != ((pre ss (i + 1)).length : Int) - (L : Int)) = false by simp; omega]
          dsimp only
          rw [lett_eq, ifB_false, lett_eq, show ((from' : Int) == (a : Int)) = false from beq_eq_false_iff_ne.2 (by omega), lett_eq, ifB_false]
          dsimp only
          rw [ifB_false]
          exact last
        · rw [decide_eq_false (show ¬ (from' : Int) > (a : Int) by omega), ifB_false]
          dsimp only
          rw [lett_eq, ifB_false, lett_eq, show ((from' : Int) == (a : Int)) = true from beq_iff_eq.2 (by omega), lett_eq, ifB_true, lett_eq, e8, lett_eq, decide_eq_false (show ¬ ((pre ss (i + 1)).length : Int) - (a : Int) > (L : Int) by omega)]
          dsimp only
          rw [ifB_false]
          exact last
    · rw [lt_false (by omega), ifB_false, hk]
      exact ⟨_, rfl⟩
end
/-- the law of readers -/
theorem ringReads_says (h : AHeap) (hX : h.ex = []) (xs : List AV) (hP : ArgsP Try.prog h.next h 12 [3, 22, 39] xs) : ∃ h', Says Try.prog 5 xs h (.ret (.bool true)) h' := by
  obtain ⟨_, _, rfl, hp0, hP⟩ := args_cons hP
  obtain ⟨x, _, rfl, hp1, hP⟩ := args_cons hP
  obtain ⟨y, _, rfl, hp2, hP⟩ := args_cons hP
  obtain rfl := args0 hP
  obtain ⟨z, rfl, _⟩ := hp0.int Try.underlying3
  obtain ⟨ss, hs, hb⟩ := strs_of22 hp1
  obtain ⟨zs, hy, _, _⟩ := hp2.ints Try.underlying39 Try.underlying3 (by kernel_rfl)
  have key : ∃ h', world 2010 4 5 [.int .i64 z, x, y] h = some (.ret (.bool true), h') := by
    rw [w_law21_RingReads]
    unfold law21_RingReads
    rw [works_w, callN_ret, avBool_bool, obind_val, lett_eq, Bool.not_true, ifB_false]
    obtain ⟨h1, e1, t1⟩ := joined_w (n := 2010) (d := 2) (by omega) hs (Nat.le_refl _) (mem5 hX) hb
    rw [e1, callN_ret]
    by_cases hf : fine ss = true
    · obtain ⟨hl, ht⟩ := fine_iff hf
      rw [if_pos hf]
      simp only [extT_0, extT_1, obind_val, avStr_str, avBool_bool, lett_eq, Bool.not_true, ifB_false]
      have hn1 := t1.1
      have hx1 : h1.ex = [] := by rw [t1.2.1]; exact hX
      by_cases hL : 1 ≤ z ∧ z ≤ 1024
      · obtain ⟨L, rfl⟩ := Int.eq_ofNat_of_zero_le (show 0 ≤ z by omega)
        have hL' : 1 ≤ L ∧ L ≤ 1024 := by omega
        obtain ⟨h3, e3, R3, t3, n3⟩ := filled_w (n := 2010) (d := 1) (ss := []) (x := .nsl) (N := 0) (h := h1) hL' (by omega) (by simp) (by simp) (Slc.nil h1) (Nat.zero_le _)
        rw [e3, callN_ret, nil26, outK_val, avBool_bool, obind_val, ifB_false]
        exact reads_loop (n := 2010) (d := 1) (N := h.next) (zs := zs) hL' ht _ (fun _ => rfl) 2010 0 0 h3 (by omega) (by omega) (Nat.zero_le _) R3 ((hs.tch t1 (Nat.le_refl _) (by simp)).tch t3 hn1 (by simp)) ((hy.tch t1 (Nat.le_refl _) (by simp)).tch t3 hn1 (by simp)) (by have := t3.1; omega) hn1 n3 (by rw [t3.2.1]; exact hx1) hl
      · rw [filled_bad (by omega), callN_ret, nil26n, outK_val, avBool_bool, obind_val, ifB_true, limit_w, callN_ret, decide_eq_false hL]
        exact ⟨_, rfl⟩
    · rw [if_neg hf]
      simp only [extT_0, extT_1, obind_val, avStr_str, avBool_bool, lett_eq, Bool.not_false, ifB_true]
      exact ⟨_, rfl⟩
  obtain ⟨h', hk⟩ := key
  exact ⟨h', world_ok _ _ _ _ _ _ _ hk⟩
end Go.Proofs.Ytbihkjbhmiemhaa
