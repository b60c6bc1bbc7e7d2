/- The disk: a file's crash. -/
import Derived.Test.YtcbnpdfingfmgaaEh
namespace Go.Proofs.Ytcbnpdfingfmgaa
open Go.RowKit Abs
theorem Legal_take : ∀ (l : List Chg) (x : Cont) (k : Nat), Legal x l → Legal x (l.take k)
  | _, _, 0, _ => trivial
  | [], _, _ + 1, _ => trivial
  | _ :: l, _, k + 1, h => ⟨h.1, Legal_take l _ k h.2⟩
theorem sumL_take : ∀ (l : List Chg) (k : Nat), sumL (l.take k) ≤ sumL l
  | _, 0 => Nat.zero_le _
  | [], _ + 1 => Nat.le_refl _
  | c :: l, k + 1 => by
    have := sumL_take l k
    show c.s.length + sumL (l.take k) ≤ c.s.length + sumL l
    omega
theorem sumL_at : ∀ (l : List Chg) (k : Nat) (hk : k < l.length), sumL (l.take k) + l[k].s.length ≤ sumL l
  | [], _, h => absurd h (Nat.not_lt_zero _)
  | c :: l, 0, _ => by
    show 0 + c.s.length ≤ c.s.length + sumL l
    omega
  | c :: l, k + 1, h => by
    have := sumL_at l k (Nat.lt_of_succ_lt_succ h)
    show c.s.length + sumL (l.take k) + (l[k]'(Nat.lt_of_succ_lt_succ h)).s.length ≤ c.s.length + sumL l
    omega
/-- how many loose changes are kept -/
def keptN (x : FileS) (kept : Int) : Nat := min kept.toNat x.loose.length
/-- the part of the next growing that is there, too -/
def tornC (c : Chg) (torn : Int) : Chg := ⟨0, c.s.take (min torn ((c.s.length : Int) - 1)).toNat, c.n⟩
def tears (c : Chg) (torn : Int) : Prop := 0 < torn ∧ c.k = 0 ∧ c.s ≠ []
instance (c : Chg) (torn : Int) : Decidable (tears c torn) := inferInstanceAs (Decidable (0 < torn ∧ c.k = 0 ∧ c.s ≠ []))
def crashC (x : FileS) (kept torn : Int) : Cont :=
  match x.loose[keptN x kept]? with
  | some c => if tears c torn then do1 (doL x.sure (x.loose.take (keptN x kept))) (tornC c torn) else doL x.sure (x.loose.take (keptN x kept))
  | none => doL x.sure (x.loose.take (keptN x kept))
def crashF (x : FileS) (kept torn : Int) : FileS := ⟨crashC x kept torn, crashC x kept torn, []⟩
theorem crashC_len {x : FileS} {B : Nat} (kept torn : Int) (k : FileOk x B) : (crashC x kept torn).u.length ≤ B := by
  obtain ⟨k1, k2, k3, k4⟩ := k
  have h1 := doL_len (x.loose.take (keptN x kept)) x.sure
  have h2 := sumL_take x.loose (keptN x kept)
  unfold crashC
  split
  · rename_i c hc
    obtain ⟨hk, rfl⟩ := List.getElem?_eq_some_iff.1 hc
    have h3 := sumL_at x.loose _ hk
    split
    · have h4 := do1_len (doL x.sure (x.loose.take (keptN x kept))) (tornC x.loose[keptN x kept] torn)
      have h5 : (tornC x.loose[keptN x kept] torn).s.length ≤ x.loose[keptN x kept].s.length := by
        show (x.loose[keptN x kept].s.take _).length ≤ _
        rw [List.length_take]
        exact Nat.min_le_right _ _
      omega
    · omega
  · omega
theorem crashF_ok {x : FileS} {B : Nat} (kept torn : Int) (k : FileOk x B) : FileOk (crashF x kept torn) B :=
  ⟨rfl, trivial, crashC_len kept torn k, Nat.zero_le _⟩
section
variable {h H H' : AHeap} {db T o : Nat} {D : List AV} {v v1 v2 : AV} {x y : Cont} {l : List Chg}
theorem DoAt.trans (K : DoAt h H db T o D v v1 x) (K2 : DoAt H H' db T o ((D.set o (.bool x.th)).set (o + 1) v1) v1 v2 y) : DoAt h H' db T o D v v2 y := by
  have hn := K.tch.1
  refine ⟨?_, K2.buf, K2.ndb, fun b hb => ?_, K.tch.trans' K2.tch fun b hb => ?_, K2.ex⟩
  · have := K2.row
    rw [set4] at this
    exact this
  · rcases K2.sub b hb with hb | hb
    · exact K.sub b hb
    · omega
  · rcases List.mem_cons.1 hb with rfl | hb
    · exact .inl List.mem_cons_self
    · exact (K.sub b hb).imp (List.mem_cons_of_mem _) id
theorem sl3_to (h : AHeap) {c m k : Nat} (hk : k ≤ m) : sliceA Try.prog h TChgs (.sl c 0 m 3) none (some (.int .i64 (k : Int))) = some (.val (.sl c 0 k 3), h) :=
  slice_to (P := Try.prog) (e := TChg) (k1 := .i64) (by kernel_rfl) (by kernel_rfl) (by kernel_rfl) hk
theorem LooseAt.take {S : List Nat} (k : LooseAt h v l) (hS : ∀ b ∈ blkV v, b ∉ S) {j : Nat} (hj : j ≤ l.length) : ∃ v', sliceA Try.prog h TChgs v none (some (.int .i64 (j : Int))) = some (.val v', h) ∧ RdL h S v' (l.take j) := by
  rcases k with ⟨rfl, rfl⟩ | ⟨c, rfl, h2, h3⟩
  · have hj0 : j = 0 := Nat.le_zero.1 hj
    subst hj0
    exact ⟨.nsl, by kernel_rfl, rfl, fun _ _ i hi => absurd hi (Nat.not_lt_zero _)⟩
  · have hl : (l.take j).length = j := by rw [List.length_take]; omega
    refine ⟨.sl c 0 j 3, sl3_to h hj, by rw [hl]; rfl, fun H t i hi => ⟨_, idx3 (by omega), ?_⟩⟩
    have k2 := h2.tch t h3 (hS c (List.mem_singleton.2 rfl))
    have := chgs_ld (l := l) (rest := []) (i := i) (by rw [List.append_nil]; exact k2) (by omega)
    rw [this, List.getElem_take]
end
theorem laid_two {l : List AV} {o : Nat} {a b : AV} (h : o + 1 < l.length) : laid l o [a, b] = (l.set o a).set (o + 1) b := laid2 h
section
variable {lo : Nat → Prop} {n d db : Nat} {h : AHeap} {D : List AV} {fs : Nat → FileS} {vs : Nat → Nat → AV} {p : Int} {ops B f : Nat} {s : DS}
/-- what stands in a file behind its crash -/
theorem crash_do (hn : 1000000 < n) (K : DiskAt lo h db D fs vs p ops B) (hf : f < 32) (hb : B < 900000) {kept torn : Int} (ht : torn < 9223372036854775808) {Q : ARes → AHeap → Prop} {call2 : AHeap → R}
    (hk : ∀ H v, DoAt h H db TDisk (5 * f + 0) D (vs f 0) v (crashC (fs f) kept torn) → Wp (call2 H) Q) :
    Wp (
  lett (if 0 > kept then 0 else kept) fun (t8 : Int) =>
  Abs.obind (nilC (.ptr db (5 * f))) fun t10 =>
  Abs.obind (fldP 4 t10) fun t11 =>
  Abs.obind (ldCell h t11) fun v12 =>
  Abs.obind (lenL v12) fun t13 =>
  lett (if t13 < t8 then t13 else t8) fun (t14 : Int) =>
  Abs.obind (nilC (.ptr db (5 * f))) fun t16 =>
  Abs.obind (fldP 0 t16) fun t17 =>
  Abs.obind (nilC (.ptr db (5 * f))) fun t19 =>
  Abs.obind (fldP 4 t19) fun t20 =>
  Abs.obind (ldCell h t20) fun v21 =>
  Abs.outK (sliceA Try.prog h TChgs v21 none (some (.int .i64 t14))) fun v23 h_14 =>
  Abs.callN (world n (d + 2) 29 [t17, v23] h_14) fun _ h_16 =>
  Abs.obind (nilC (.ptr db (5 * f))) fun t27 =>
  Abs.obind (fldP 4 t27) fun t28 =>
  Abs.obind (ldCell h_16 t28) fun v29 =>
  Abs.obind (lenL v29) fun t30 =>
  lett (decide (t14 < t30)) fun (t31 : Bool) =>
  lett (fun (t35 : Bool) (h_25 : AHeap) =>
    lett call2 fun k28 =>
    ifB t35
    (
      Abs.obind (nilC (.ptr db (5 * f))) fun t37 =>
      Abs.obind (fldP 4 t37) fun t38 =>
      Abs.obind (ldCell h_25 t38) fun v39 =>
      Abs.obind (idxP 3 v39 t14) fun t41 =>
      Abs.obind (ldRow h_25 3 t41) fun t42 =>
      lett (newH h_25 TChg [.int .i64 0, .str 0 0, .int .i64 0]) fun h_50 =>
      Abs.obind (stRow h_50 3 t42 (newP h_25)) fun h_52 =>
      Abs.obind (ldCell h_52 (AV.ptr (AHeap.next h_25) 0)) fun v44 =>
      Abs.obind (avInt .i64 v44) fun t44 =>
      lett ((t44 : Int) == 0) fun (t45 : Bool) =>
      lett (fun (t50 : Bool) (h_58 : AHeap) =>
        lett (fun  (h_62 : AHeap) =>
          k28 h_62) fun k61 =>
        ifB t50
        (
          Abs.obind (ldCell h_58 (AV.ptr (AHeap.next h_25) 1)) fun v52 =>
          Abs.obind (avStr v52) fun t52 =>
          Abs.obind (ldCell h_58 (AV.ptr (AHeap.next h_25) 1)) fun v55 =>
          Abs.obind (avStr v55) fun t55 =>
          lett (IntKind.i64.wrap ((lenS t55) - 1)) fun (t57 : Int) =>
          lett (if t57 < torn then t57 else torn) fun (t58 : Int) =>
          Abs.obind (sliceS t52 0 t58) fun t59 =>
          Abs.obind (stRow h_58 1 [strA t59] (AV.ptr (AHeap.next h_25) 1)) fun h_71 =>
          Abs.obind (nilC (.ptr db (5 * f))) fun t62 =>
          Abs.obind (fldP 0 t62) fun t63 =>
          Abs.obind (ldRow h_71 3 (newP h_25)) fun t64 =>
          Abs.outK (bldSl Try.prog h_71 TChgs 1 [(0, .agg t64)]) fun v65 h_76 =>
          Abs.callN (world n (d + 2) 29 [t63, v65] h_76) fun _ h_78 =>
          k61 h_78)
        (
          k61 h_58)) fun j50 =>
      ifB t45
      (
        Abs.obind (ldCell h_52 (AV.ptr (AHeap.next h_25) 1)) fun v48 =>
        Abs.obind (avStr v48) fun t48 =>
        lett (!eqS t48 ([] : Bytes)) fun (t49 : Bool) =>
        j50 t49 h_52)
      (
        j50 false h_52))
    (
      k28 h_25)) fun j35 =>
  ifB t31
  (
    lett (decide (torn > 0)) fun (t34 : Bool) =>
    j35 t34 h_16)
  (
    j35 false h_16)) Q := by
  have C := K.cells f hf
  have Mf := K.mem f hf
  obtain ⟨o1, o2, o3, o4⟩ := K.ok f hf
  have hlen := K.len
  have hdb := K.hdb
  have dis : ∀ b ∈ blkV (vs f 2), b ∉ db :: blkV (vs f 0) := fun b hb hm => by
    rcases List.mem_cons.1 hm with rfl | hm
    · exact K.nd hf (by decide) hb
    · exact K.ne hf (by decide) hf (by decide) (fun h => absurd h.2 (by decide)) b hb hm
  have hL := (Mf.loose.rd dis).1
  obtain ⟨k, hkk⟩ : ∃ k, k = keptN (fs f) kept := ⟨_, rfl⟩
  have hk14 : (if ((fs f).loose.length : Int) < (if 0 > kept then 0 else kept) then ((fs f).loose.length : Int) else (if 0 > kept then 0 else kept)) = (k : Int) := by
    rw [hkk]
    unfold keptN
    split <;> split at * <;> omega
  have hkl : k ≤ (fs f).loose.length := by
    rw [hkk]
    exact Nat.min_le_right _ _
  refine Wp.lett (Wp.obind (nilC_ptr _ _) (Wp.obind (fldP_ptr _ _ _) (Wp.obind (RowH.cell' K.row C.c4) (Wp.obind hL ?_))))
  rw [hk14]
  refine Wp.lett (Wp.obind (nilC_ptr _ _) (Wp.obind (fldP_ptr _ _ _) (Wp.obind (nilC_ptr _ _) (Wp.obind (fldP_ptr _ _ _) (Wp.obind (RowH.cell' K.row C.c4) ?_)))))
  obtain ⟨v', e1, rd1⟩ := Mf.loose.take dis hkl
  refine Wp.outK e1 ?_
  have hst := sumL_take (fs f).loose k
  obtain ⟨h4, v4, e4, K4⟩ := do_ok (n := n) (d := d + 1) (T := TDisk) (o := 5 * f + 0) (x := (fs f).sure) hn hdb K.row C.c0 C.c1 Mf.sure (K.nd hf (by decide)) K.ex rd1 (by rw [List.length_take]; omega) (Legal_take _ _ k o2) (by omega)
  refine Wp.callN e4 ?_
  have hdb4 : db < h4.next := Nat.lt_of_lt_of_le hdb K4.tch.1
  have g4 : ((D.set (5 * f + 0) (.bool (doL (fs f).sure ((fs f).loose.take k)).th)).set (5 * f + 0 + 1) v4)[5 * f + 4]? = some (vs f 2) := by
    rw [List.getElem?_set_ne (by omega), List.getElem?_set_ne (by omega)]
    exact C.c4
  refine Wp.obind (nilC_ptr _ _) (Wp.obind (fldP_ptr _ _ _) (Wp.obind (RowH.cell' K4.row g4) (Wp.obind hL (Wp.lett (Wp.lettG fun j35 e35 => ?_)))))
  have hcc : crashC (fs f) kept torn = match (fs f).loose[k]? with
      | some c => if tears c torn then do1 (doL (fs f).sure ((fs f).loose.take k)) (tornC c torn) else doL (fs f).sure ((fs f).loose.take k)
      | none => doL (fs f).sure ((fs f).loose.take k) := by
    rw [hkk]
    rfl
  by_cases h1 : k < (fs f).loose.length
  · refine Wp.ift (by rw [decide_eq_true_eq]; omega) (Wp.lett ?_)
    rw [List.getElem?_eq_getElem h1] at hcc
    obtain ⟨c, hc⟩ : ∃ c, c = (fs f).loose[k] := ⟨_, rfl⟩
    rw [← hc] at hcc
    have hcc : crashC (fs f) kept torn = if tears c torn then do1 (doL (fs f).sure ((fs f).loose.take k)) (tornC c torn) else doL (fs f).sure ((fs f).loose.take k) := hcc
    by_cases h2 : 0 < torn
    · rw [decide_eq_true (show torn > 0 from h2), e35]
      refine Wp.lettG fun k28 e28 => Wp.ift rfl ?_
      obtain ⟨pp, i5, r5⟩ := (Mf.loose.rd dis).2 h4 K4.tch k h1
      rw [← hc] at r5
      refine Wp.obind (nilC_ptr _ _) (Wp.obind (fldP_ptr _ _ _) (Wp.obind (RowH.cell' K4.row g4) (Wp.obind i5 (Wp.obind r5 ?_))))
      refine Wp.mnew (Mem.nil [] h4) fun h5 M5 => ?_
      rw [newP_eq]
      refine Wp.sa0 M5 rfl rfl rfl fun h6 M6 => ?_
      have t6 := M6.tch
      have hn6 := t6.1
      refine Wp.ld0 M6 (show (chgC c)[0]? = some (.int .i64 (c.k : Int)) from rfl) (Wp.obind (avInt_int _ _) (Wp.lett (Wp.lettG fun j50 e50 => ?_)))
      have K6 : DoAt h h6 db TDisk (5 * f + 0) D (vs f 0) v4 (doL (fs f).sure ((fs f).loose.take k)) := ⟨K4.row.tch t6 hdb4 (fun h => nomatch h), K4.buf.tch t6 (fun _ _ h => nomatch h), K4.ndb, K4.sub, K4.tch.trans' t6 (fun b hb => nomatch hb), by rw [t6.2.1, K4.ex]⟩
      have no : ¬ tears c torn → Wp (j50 false h6) Q := by
        intro hno
        rw [if_neg hno] at hcc
        rw [e50]
        refine Wp.lettG fun k61 e61 => Wp.iff rfl ?_
        rw [e61, e28]
        exact hk h6 v4 (by rw [hcc]; exact K6)
      by_cases h3 : c.k = 0
      · refine Wp.ift (beq_t (by omega)) (Wp.ld0 M6 (show (chgC c)[1]? = some (strA c.s) from rfl) (Wp.obind (avStr_str _) (Wp.lett ?_)))
        by_cases h4s : c.s = []
        · rw [eqS_true.2 h4s]
          exact no (fun h => h.2.2 h4s)
        · rw [eqS_false.2 h4s, e50]
          have hy : tears c torn := ⟨h2, h3, h4s⟩
          rw [if_pos hy] at hcc
          have hsl : 0 < c.s.length := List.length_pos_iff.2 h4s
          have hcs : c.s.length ≤ B := by
            have := sumL_at (fs f).loose k h1
            rw [← hc] at this
            omega
          have hll := lenS_nat c.s
          refine Wp.lettG fun k61 e61 => Wp.ift rfl ?_
          refine Wp.ld0 M6 (show (chgC c)[1]? = some (strA c.s) from rfl) (Wp.obind (avStr_str _) (Wp.ld0 M6 (show (chgC c)[1]? = some (strA c.s) from rfl) (Wp.obind (avStr_str _) (Wp.lettw (by omega) (by omega) ?_))))
          have hmin : (if lenS c.s - 1 < torn then lenS c.s - 1 else torn) = min torn ((c.s.length : Int) - 1) := by
            split <;> omega
          rw [hmin]
          have hs0 := sliceS_int (l := c.s) (a := 0) (b := min torn ((c.s.length : Int) - 1)) (by omega) (by omega) (by omega)
          have hs1 : (c.s.drop (0 : Int).toNat).take ((min torn ((c.s.length : Int) - 1)).toNat - (0 : Int).toNat) = (tornC c torn).s := by
            rw [show (0 : Int).toNat = 0 from rfl, List.drop_zero, Nat.sub_zero]
            rfl
          rw [hs1] at hs0
          refine Wp.lett (Wp.obind hs0 ?_)
          refine Wp.ms0 M6 (by show 1 < 3; decide) rfl fun h7 M7 => ?_
          refine Wp.obind (nilC_ptr _ _) (Wp.obind (fldP_ptr _ _ _) (Wp.lr0 M7 rfl ?_))
          have hset : (chgC c).set 1 (strA (tornC c torn).s) = chgC (tornC c torn) := by
            show [AV.int .i64 (c.k : Int), strA (tornC c torn).s, .int .i64 c.n] = [AV.int .i64 ((0 : Nat) : Int), strA (tornC c torn).s, .int .i64 c.n]
            rw [h3]
          rw [hset] at M7 ⊢
          have hx7 : h7.ex = [] := by rw [M7.tch.2.1, K4.ex]
          refine Wp.mnews M7 (bldSlChg _ _ _ _) rfl (by rw [K4.ex]; rfl) fun h8 M8 => ?_
          have t7 := M7.tch
          have t8 := M8.tch
          have K8 : DoAt h h8 db TDisk (5 * f + 0) D (vs f 0) v4 (doL (fs f).sure ((fs f).loose.take k)) := ⟨K4.row.tch t8 hdb4 (fun h => nomatch h), K4.buf.tch t8 (fun _ _ h => nomatch h), K4.ndb, K4.sub, K4.tch.trans' t8 (fun b hb => nomatch hb), by rw [t8.2.1, K4.ex]⟩
          have hn7 := t7.1
          have hh8 := M8.at0.2.1
          have rd : RdL h8 (db :: blkV v4) (.sl h7.next 0 1 3) [tornC c torn] := by
            refine ⟨rfl, fun HH t i hi => ?_⟩
            have hi0 : i = 0 := by
              have : i < 1 := hi
              omega
            subst hi0
            refine ⟨_, idx3 (by decide), ?_⟩
            refine RowH.ldAll (M8.at0.1.tch t hh8 fun hm => ?_) rfl
            rcases List.mem_cons.1 hm with hm | hm
            · omega
            · have := K4.buf.lt _ hm
              omega
          have gl : 5 * f + 0 + 1 < ((D.set (5 * f + 0) (.bool (doL (fs f).sure ((fs f).loose.take k)).th)).set (5 * f + 0 + 1) v4).length := by
            rw [List.length_set, List.length_set]
            omega
          have hdl := doL_len ((fs f).loose.take k) (fs f).sure
          have hat := sumL_at (fs f).loose k h1
          rw [← hc] at hat
          have htl : (tornC c torn).s.length ≤ c.s.length := by
            show (c.s.take _).length ≤ _
            rw [List.length_take]
            exact Nat.min_le_right _ _
          obtain ⟨h9, v9, e9, K9⟩ := do_ok (n := n) (d := d + 1) (T := TDisk) (o := 5 * f + 0) (D := ((D.set (5 * f + 0) (.bool (doL (fs f).sure ((fs f).loose.take k)).th)).set (5 * f + 0 + 1) v4)) (x := doL (fs f).sure ((fs f).loose.take k)) hn (Nat.lt_of_lt_of_le hdb4 t8.1) K8.row (by rw [List.getElem?_set_ne (by omega), List.getElem?_set_self (by omega)]) (by rw [List.getElem?_set_self (by rw [List.length_set]; omega)]) K8.buf K8.ndb K8.ex rd (by show 1 < 1000000; decide) ⟨.inl rfl, trivial⟩ (by show _ + ((tornC c torn).s.length + 0) ≤ _; omega)
          refine Wp.callN e9 ?_
          rw [e61, e28]
          exact hk h9 v9 (by rw [hcc]; exact K8.trans K9)
      · refine Wp.iff (beq_f (by omega)) ?_
        exact no (fun h => h3 h.2.1)
    · rw [decide_eq_false (show ¬ torn > 0 from h2), e35]
      rw [if_neg (fun h => h2 h.1)] at hcc
      refine Wp.lettG fun k28 e28 => Wp.iff rfl ?_
      rw [e28]
      exact hk h4 v4 (by rw [hcc]; exact K4)
  · rw [List.getElem?_eq_none (by omega)] at hcc
    refine Wp.iff (by rw [decide_eq_false_iff_not]; omega) ?_
    rw [e35]
    refine Wp.lettG fun k28 e28 => Wp.iff rfl ?_
    rw [e28]
    exact hk h4 v4 (by rw [hcc]; exact K4)
end
end Go.Proofs.Ytcbnpdfingfmgaa
