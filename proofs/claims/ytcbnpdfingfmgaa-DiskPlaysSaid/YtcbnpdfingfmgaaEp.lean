/- The document's disk: Crash, New, Copy. -/
import Derived.Test.YtcbnpdfingfmgaaEo
namespace Go.Proofs.Ytcbnpdfingfmgaa
open Go.RowKit Abs
section
variable {lo : Nat → Prop} {n d rb B f : Nat} {h : AHeap} {D : List AV} {vs : Nat → AV} {s : DS}
theorem crash_keep {x : FileS} {v : AV} {h1 : AHeap} {b1 : Nat} (ok : SeenOk x.sure x.loose B) (hB : B < 900000) (rl : RL h v x.loose) {k : Nat} (hkl : k ≤ x.loose.length) {hh : AHeap} (e1 : newP hh = .ptr b1 0) {k53 : AHeap → R} {Q : ARes → AHeap → Prop} {S0 : List Nat} (h0 : Abs.Mem S0 h h1 [(b1, TSt, contC x.sure)]) (hS0 : ∀ b ∈ blkV v, b ∉ S0)
    (hk : ∀ H, Abs.Mem S0 h H [(b1, TSt, contC (doL x.sure (x.loose.take k)))] → Wp (k53 H) Q) :
    ∀ (r i fu : Nat) (H : AHeap), r + i = k → r < fu → Abs.Mem S0 h H [(b1, TSt, contC (doL x.sure (x.loose.take i)))] → Wp (ref04_Disk_Crash_L1 (world n (d + 1)) hh v (k : Int) k53 fu (i : Int) H) Q
  | _, _, 0, _, _, hf, _ => by omega
  | 0, i, fu + 1, H, hi, _, M => by
    obtain rfl : i = k := by omega
    rw [ref04_Disk_Crash_L1_s]
    unfold ref04_Disk_Crash_L1b
    refine Wp.lett (Wp.iff (by rw [decide_eq_false_iff_not]; omega) ?_)
    exact hk H M
  | r + 1, i, fu + 1, H, hi, hf, M => by
    have hil : i < x.loose.length := by omega
    obtain ⟨o1, o2, o3, o4⟩ := ok
    have hst := sumL_at x.loose i hil
    have hdl := doL_len (x.loose.take i) x.sure
    obtain ⟨b, o, hb, i1, r1, _⟩ := (rl.tch M.tch hS0).at hil
    rw [ref04_Disk_Crash_L1_s]
    unfold ref04_Disk_Crash_L1b
    refine Wp.lett (Wp.ift (by rw [decide_eq_true_eq]; omega) ?_)
    rw [e1]
    refine Wp.lr0 M rfl (Wp.obind i1 (Wp.obind r1 ?_))
    refine Wp.callN (done_r (n := n) (d := d) (Legal_at x.loose x.sure i hil o1) (by omega)) (Wp.obind (avAgg_agg _) ?_)
    refine Wp.sa0 M rfl rfl rfl fun h5 M5 => Wp.lettw (by omega) (by omega) ?_
    rw [doR_eq (LegalT_at x.loose x.sure i hil o2), ← doL_take x.sure x.loose hil] at M5
    rw [show (i : Int) + 1 = ((i + 1 : Nat) : Int) by omega]
    exact crash_keep ⟨o1, o2, o3, o4⟩ hB rl hkl e1 h0 hS0 hk r (i + 1) fu h5 (by omega) (by omega) M5
/-- the state behind a crash of the files ahead of i -/
def crashTo (s : DS) (zs : List Int) (torn : Int) (i : Nat) : DS := ⟨fun f => if f < i then crashF (s.fs f) (keepAt zs f) torn else s.fs f, s.p, s.ops⟩
theorem crashTo_succ (s : DS) (zs : List Int) (torn : Int) (i : Nat) : (⟨upd (crashTo s zs torn i).fs i (crashF (s.fs i) (keepAt zs i) torn), s.p, s.ops⟩ : DS) = crashTo s zs torn (i + 1) := by
  unfold crashTo
  congr 1
  funext j
  unfold Go.Proofs.Ytcbnpdfingfmgaa.upd
  dsimp only
  by_cases e : j = i
  · subst e
    rw [if_pos rfl, if_pos (Nat.lt_succ_self _)]
  · rw [if_neg e]
    by_cases e2 : j < i
    · rw [if_pos e2, if_pos (by omega)]
    · rw [if_neg e2, if_neg (by omega)]
set_option maxHeartbeats 1000000 in
theorem rcrash_loop (hn : 1000000 < n) (ho : SOk s B) (hB : B < 900000) {torn : Int} (ht : torn < 9223372036854775808) {lv : AV} {zs : List Int} {k4 : AHeap → R} {Q : ARes → AHeap → Prop} (rd : RdI (fun b => lo b ∨ b = rb) h lv zs)
    (hk : ∀ H, Tch [rb] h H → RefAt lo H rb (crashTo s zs torn 32) → Wp (k4 H) Q) :
    ∀ (r i fu : Nat) (H : AHeap), r + i = 32 → r < fu → RefAt lo H rb (crashTo s zs torn i) → Tch [rb] h H → Wp (ref04_Disk_Crash_L0 (world n (d + 1)) n (.ptr rb 0) lv torn k4 fu (i : Int) H) Q
  | _, _, 0, _, _, hf, _, _ => by omega
  | 0, i, fu + 1, H, hi, hf, K, t => by
    obtain rfl : i = 32 := by omega
    rw [ref04_Disk_Crash_L0_s]
    unfold ref04_Disk_Crash_L0b
    refine Wp.lett (Wp.iff rfl ?_)
    exact hk H t K
  | r + 1, i, fu + 1, H, hi, hf, K, t => by
    obtain ⟨D, vs, K⟩ := K
    have hi32 : i < 32 := by omega
    have C := K.cells i hi32
    have hfs : (crashTo s zs torn i).fs i = s.fs i := if_neg (Nat.lt_irrefl _)
    have rl0 := K.rl i hi32
    rw [hfs] at C rl0
    have hlen := K.len
    have hok := ho.seen hi32
    obtain ⟨o1, o2, o3, o4⟩ := id hok
    rw [ref04_Disk_Crash_L0_s]
    unfold ref04_Disk_Crash_L0b
    refine Wp.lett (Wp.ift (by rw [decide_eq_true_eq]; omega) ?_)
    have hsr : ldRow H 2 (.ptr rb (3 * i + 0)) = some (contC (s.fs i).sure) := by
      rw [K.row.ld (by omega)]
      congr 1
      refine List.ext_getElem? fun j => ?_
      rcases j with _ | _ | j
      · rw [List.getElem?_take_of_lt (by decide), List.getElem?_drop]
        exact C.c0
      · rw [List.getElem?_take_of_lt (by decide), List.getElem?_drop]
        exact C.c1
      · rw [List.getElem?_eq_none (by rw [List.length_take]; omega), List.getElem?_eq_none (by show 2 ≤ _; omega)]
    refine Wp.obind (nilC_ptr _ _) (Wp.obind (fldP_ptr _ _ _) (Wp.obind (idxR hi32) (Wp.obind (fldP_ptr _ _ _) (Wp.obind hsr (Wp.mnew (Mem.nil [] H) fun h2 M2 => ?_)))))
    have eP : newP H = .ptr H.next 0 := rfl
    rw [eP]
    refine Wp.sa0 M2 rfl rfl rfl fun h3 M3 => ?_
    have t3 := M3.tch
    have kr3 := K.row.tch t3 K.hrb (fun h => nomatch h)
    have rl3 := rl0.tch t3 (fun _ _ h => nomatch h)
    refine Wp.obind (nilC_ptr _ _) (Wp.obind (fldP_ptr _ _ _) (Wp.obind (idxR hi32) (Wp.obind (fldP_ptr _ _ _) (Wp.obind (RowH.cell' kr3 C.c2) (Wp.obind rd.1 (Wp.lett (Wp.lettG fun j40 e40 => ?_)))))))
    have T3 : Tch [rb] h h3 := t.trans (t3.mono fun _ hb => nomatch hb)
    have next : ∀ z : Int, z.toNat = (keepAt zs i).toNat → 0 ≤ z → ∀ k41 : Int → AHeap → R, (k41 = fun (t9 : Int) (h_42 : AHeap) =>
        Abs.obind (lenL (vs i)) fun t47 =>
        lett (decide (t9 > t47)) fun (t48 : Bool) =>
        lett (fun (t9_48 : Int) (h_49 : AHeap) =>
          lett (fun  (h_54 : AHeap) =>
            Abs.obind (lenL (vs i)) fun t64 =>
            lett (decide (t9_48 < t64)) fun (t65 : Bool) =>
            lett (fun (t73 : Bool) (h_59 : AHeap) =>
              lett (fun (t82 : Bool) (h_62 : AHeap) =>
                lett (fun (t86 : Bool) (h_65 : AHeap) =>
                  lett (fun  (h_69 : AHeap) =>
                    Abs.obind (ldRow h_69 2 (.ptr H.next 0)) fun t116 =>
                    Abs.obind (bldS Try.prog TFi [(0, .agg t116)]) fun t117 =>
                    Abs.obind (nilC (.ptr rb 0)) fun t118 =>
                    Abs.obind (fldP 0 t118) fun t119 =>
                    Abs.obind (idxA 32 3 t119 (i : Int)) fun t120 =>
                    Abs.obind (stRow h_69 3 t117 t120) fun h_75 =>
                    lett (IntKind.i64.wrap ((i : Int) + 1)) fun (t15 : Int) =>
                    ref04_Disk_Crash_L0 (world n (d + 1)) n (.ptr rb 0) lv torn k4 fu t15 h_75) fun k68 =>
                  ifB t86
                  (
                    Abs.obind (idxP 3 (vs i) t9_48) fun t91 =>
                    Abs.obind (fldP 1 t91) fun t92 =>
                    Abs.obind (ldCell h_65 t92) fun v93 =>
                    Abs.obind (avStr v93) fun t93 =>
                    lett (IntKind.i64.wrap ((lenS t93) - 1)) fun (t95 : Int) =>
                    lett (decide (torn > t95)) fun (t96 : Bool) =>
                    lett (fun (t11 : Int) (h_88 : AHeap) =>
                      Abs.obind (ldRow h_88 2 (.ptr H.next 0)) fun t104 =>
                      Abs.obind (idxP 3 (vs i) t9_48) fun t107 =>
                      Abs.obind (fldP 1 t107) fun t108 =>
                      Abs.obind (ldCell h_88 t108) fun v109 =>
                      Abs.obind (avStr v109) fun t109 =>
                      Abs.obind (sliceS t109 0 t11) fun t111 =>
                      Abs.callN (world n (d + 1) 45 [.agg t104, .agg ([.int .i64 1, strA t111, .int .i64 0] : List AV)] h_88) fun r113 h_95 =>
                      Abs.obind (avAgg r113) fun t113 =>
                      Abs.obind (stRow h_95 2 t113 (.ptr H.next 0)) fun h_98 =>
                      k68 h_98) fun k87 =>
                    ifB t96
                    (
                      Abs.obind (idxP 3 (vs i) t9_48) fun t99 =>
                      Abs.obind (fldP 1 t99) fun t100 =>
                      Abs.obind (ldCell h_65 t100) fun v101 =>
                      Abs.obind (avStr v101) fun t101 =>
                      lett (IntKind.i64.wrap ((lenS t101) - 1)) fun (t103 : Int) =>
                      k87 t103 h_65)
                    (
                      k87 torn h_65))
                  (
                    k68 h_65)) fun j86 =>
                ifB t82
                (
                  lett (decide (torn > 0)) fun (t85 : Bool) =>
                  j86 t85 h_62)
                (
                  j86 false h_62)) fun j82 =>
              ifB t73
              (
                Abs.obind (idxP 3 (vs i) t9_48) fun t77 =>
                Abs.obind (fldP 1 t77) fun t78 =>
                Abs.obind (ldCell h_59 t78) fun v79 =>
                Abs.obind (avStr v79) fun t79 =>
                lett (decide ((lenS t79) > 0)) fun (t81 : Bool) =>
                j82 t81 h_59)
              (
                j82 false h_59)) fun j73 =>
            ifB t65
            (
              Abs.obind (idxP 3 (vs i) t9_48) fun t69 =>
              Abs.obind (fldP 0 t69) fun t70 =>
              Abs.obind (ldCell h_54 t70) fun v71 =>
              Abs.obind (avInt .i64 v71) fun t71 =>
              lett ((t71 : Int) == 1) fun (t72 : Bool) =>
              j73 t72 h_54)
            (
              j73 false h_54)) fun k53 =>
          ref04_Disk_Crash_L1 (world n (d + 1)) H (vs i) t9_48 k53 n 0 h_49) fun k47 =>
        ifB t48
        (
          Abs.obind (lenL (vs i)) fun t50 =>
          k47 t50 h_42)
        (
          k47 t9 h_42)) → Wp (k41 z h3) Q := by
      intro z hz hz0 k41 e41
      obtain ⟨k, hkk⟩ : ∃ k, k = keptN (s.fs i) (keepAt zs i) := ⟨_, rfl⟩
      have hkd : k = min (keepAt zs i).toNat (s.fs i).loose.length := hkk
      have hkl : k ≤ (s.fs i).loose.length := by omega
      rw [e41]
      refine Wp.obind rl0.len (Wp.lett (Wp.lettG fun k47 e47 => ?_))
      have h47 : Wp (k47 (k : Int) h3) Q := by
        rw [e47]
        refine Wp.lettG fun k53 e53 => ?_
        refine crash_keep (x := s.fs i) (h := H) (b1 := H.next) (h1 := h3) (S0 := []) hok hB rl0 hkl eP M3 (fun _ _ h => nomatch h) (fun H4 M4 => ?_) k 0 n h3 (Nat.add_zero _) (by omega) M3
        have t4 := M4.tch
        have rl4 := rl0.tch t4 (fun _ _ h => nomatch h)
        have hcc : crashC (s.fs i) (keepAt zs i) torn = match (s.fs i).loose[k]? with
            | some c => if tears c torn then do1 (doL (s.fs i).sure ((s.fs i).loose.take k)) (tornC c torn) else doL (s.fs i).sure ((s.fs i).loose.take k)
            | none => doL (s.fs i).sure ((s.fs i).loose.take k) := by
          rw [hkk]
          rfl
        rw [e53]
        refine Wp.obind rl0.len (Wp.lett (Wp.lettG fun j73 e73 => ?_))
        have fin : ∀ (H6 : AHeap) (k68 : AHeap → R), Abs.Mem [] H H6 [(H.next, TSt, contC (crashC (s.fs i) (keepAt zs i) torn))] → (k68 = fun  (h_69 : AHeap) =>
                    Abs.obind (ldRow h_69 2 (.ptr H.next 0)) fun t116 =>
                    Abs.obind (bldS Try.prog TFi [(0, .agg t116)]) fun t117 =>
                    Abs.obind (nilC (.ptr rb 0)) fun t118 =>
                    Abs.obind (fldP 0 t118) fun t119 =>
                    Abs.obind (idxA 32 3 t119 (i : Int)) fun t120 =>
                    Abs.obind (stRow h_69 3 t117 t120) fun h_75 =>
                    lett (IntKind.i64.wrap ((i : Int) + 1)) fun (t15 : Int) =>
                    ref04_Disk_Crash_L0 (world n (d + 1)) n (.ptr rb 0) lv torn k4 fu t15 h_75) → Wp (k68 H6) Q := by
          intro H6 k68 M6 e68
          have t6 := M6.tch
          have K6 : RefD lo H6 rb D vs (crashTo s zs torn i) := K.tch t6 (fun _ h => nomatch h) (fun _ h _ => h)
          have hl6 := K6.len
          rw [e68]
          refine Wp.lr0 M6 rfl (Wp.obind (bldFi _ _) (Wp.obind (nilC_ptr _ _) (Wp.obind (fldP_ptr _ _ _) (Wp.obind (idxR hi32) ?_))))
          obtain ⟨l1, l2, l3, l4, l5⟩ := laid3 (l := D) (o := 3 * i) (a := .bool (crashC (s.fs i) (keepAt zs i) torn).th) (b := strA (crashC (s.fs i) (keepAt zs i) torn).u) (c := .nsl) (by omega)
          refine Wp.stN K6.row (rfl : ([.bool (crashC (s.fs i) (keepAt zs i) torn).th, strA (crashC (s.fs i) (keepAt zs i) torn).u, .nsl] : List AV).length = 3) (by omega) rfl fun h7 k7 t7 n7 => ?_
          refine Wp.lettw (by omega) (by omega) ?_
          rw [show (i : Int) + 1 = ((i + 1 : Nat) : Int) by omega]
          have K7 := K6.set (lo' := lo) (x := crashF (s.fs i) (keepAt zs i) torn) (v := .nsl) t7 (fun _ h _ => h) hi32 k7 (by rw [l1]; exact hlen) ⟨l2, l3, l4⟩ l5 (.inl ⟨rfl, rfl⟩) (fun _ hb => nomatch hb)
          have es : (⟨upd (crashTo s zs torn i).fs i (crashF (s.fs i) (keepAt zs i) torn), (crashTo s zs torn i).p, (crashTo s zs torn i).ops⟩ : DS) = crashTo s zs torn (i + 1) := crashTo_succ s zs torn i
          rw [es] at K7
          exact rcrash_loop hn ho hB ht rd hk r (i + 1) fu h7 (by omega) (by omega) ⟨_, _, K7⟩ ((t.trans (t6.mono fun _ hb => nomatch hb)).trans t7)
        have stay : crashC (s.fs i) (keepAt zs i) torn = doL (s.fs i).sure ((s.fs i).loose.take k) → Wp (j73 false H4) Q := fun hs => by
          rw [e73]
          refine Wp.lettG fun j82 e82 => Wp.iff rfl ?_
          rw [e82]
          refine Wp.lettG fun j86 e86 => Wp.iff rfl ?_
          rw [e86]
          refine Wp.lettG fun k68 e68 => Wp.iff rfl ?_
          exact fin H4 k68 (by rw [hs]; exact M4) e68
        by_cases h1 : k < (s.fs i).loose.length
        · obtain ⟨c, hc⟩ : ∃ c, c = (s.fs i).loose[k] := ⟨_, rfl⟩
          rw [List.getElem?_eq_getElem h1, ← hc] at hcc
          have hcc : crashC (s.fs i) (keepAt zs i) torn = if tears c torn then do1 (doL (s.fs i).sure ((s.fs i).loose.take k)) (tornC c torn) else doL (s.fs i).sure ((s.fs i).loose.take k) := hcc
          have hat := sumL_at (s.fs i).loose k h1
          rw [← hc] at hat
          have hdl := doL_len ((s.fs i).loose.take k) (s.fs i).sure
          obtain ⟨b, o, hb, i1, r1, q0, q1⟩ := rl4.at h1
          rw [← hc] at q0 q1
          refine Wp.ift (by rw [decide_eq_true_eq]; omega) (Wp.obind i1 (Wp.obind (fldP_ptr _ _ _) (Wp.obind q0 (Wp.obind (avInt_int _ _) (Wp.lett ?_)))))
          by_cases h2 : c.k = 0
          · have hll := lenS_nat c.s
            rw [show ((c.k : Int) + 1 == 1) = true from beq_t (by omega), e73]
            refine Wp.lettG fun j82 e82 => Wp.ift rfl (Wp.obind i1 (Wp.obind (fldP_ptr _ _ _) (Wp.obind q1 (Wp.obind (avStr_str _) (Wp.lett ?_)))))
            by_cases h3 : c.s = []
            · have : lenS c.s = 0 := by rw [h3]; rfl
              rw [decide_eq_false (show ¬ lenS c.s > 0 by omega), e82]
              refine Wp.lettG fun j86 e86 => Wp.iff rfl ?_
              rw [e86]
              refine Wp.lettG fun k68 e68 => Wp.iff rfl ?_
              rw [if_neg (fun h => h.2.2 h3)] at hcc
              exact fin H4 k68 (by rw [hcc]; exact M4) e68
            · have hsl : 0 < c.s.length := List.length_pos_iff.2 h3
              rw [decide_eq_true (show lenS c.s > 0 by omega), e82]
              refine Wp.lettG fun j86 e86 => Wp.ift rfl (Wp.lett ?_)
              by_cases h4 : 0 < torn
              · rw [decide_eq_true (show torn > 0 from h4), e86]
                rw [if_pos (show tears c torn from ⟨h4, h2, h3⟩)] at hcc
                refine Wp.lettG fun k68 e68 => Wp.ift rfl (Wp.obind i1 (Wp.obind (fldP_ptr _ _ _) (Wp.obind q1 (Wp.obind (avStr_str _) (Wp.lettw (by omega) (by omega) (Wp.lett (Wp.lettG fun k87 e87 => ?_)))))))
                have g87 : Wp (k87 (min torn ((c.s.length : Int) - 1)) H4) Q := by
                  rw [e87]
                  have hs0 := sliceS_int (l := c.s) (a := 0) (b := min torn ((c.s.length : Int) - 1)) (by omega) (by omega) (by omega)
                  rw [show (0 : Int).toNat = 0 from rfl, List.drop_zero, Nat.sub_zero] at hs0
                  have htl : (c.s.take (min torn ((c.s.length : Int) - 1)).toNat).length ≤ c.s.length := by
                    rw [List.length_take]
                    exact Nat.min_le_right _ _
                  refine Wp.lr0 M4 rfl (Wp.obind i1 (Wp.obind (fldP_ptr _ _ _) (Wp.obind q1 (Wp.obind (avStr_str _) (Wp.obind hs0 ?_)))))
                  refine Wp.callN (done_r (n := n) (d := d) (x := doL (s.fs i).sure ((s.fs i).loose.take k)) (c := ⟨0, c.s.take (min torn ((c.s.length : Int) - 1)).toNat, 0⟩) (.inl rfl) (by show _ + (c.s.take _).length ≤ _; omega)) (Wp.obind (avAgg_agg _) ?_)
                  refine Wp.sa0 M4 rfl rfl rfl fun h9 M9 => ?_
                  have ed : doR (doL (s.fs i).sure ((s.fs i).loose.take k)) ⟨0, c.s.take (min torn ((c.s.length : Int) - 1)).toNat, 0⟩ = do1 (doL (s.fs i).sure ((s.fs i).loose.take k)) (tornC c torn) := by
                    unfold doR do1
                    exact (if_pos rfl).trans (if_pos rfl).symm
                  rw [ed, ← hcc] at M9
                  exact fin h9 k68 M9 e68
                by_cases h5 : torn > lenS c.s - 1
                · refine Wp.ift (decide_eq_true h5) (Wp.obind i1 (Wp.obind (fldP_ptr _ _ _) (Wp.obind q1 (Wp.obind (avStr_str _) (Wp.lettw (by omega) (by omega) ?_)))))
                  rw [show lenS c.s - 1 = min torn ((c.s.length : Int) - 1) by omega]
                  exact g87
                · refine Wp.iff (decide_eq_false h5) ?_
                  have em : min torn ((c.s.length : Int) - 1) = torn := by omega
                  rw [em] at g87
                  exact g87
              · rw [decide_eq_false (show ¬ torn > 0 from h4), e86]
                rw [if_neg (fun h => h4 h.1)] at hcc
                refine Wp.lettG fun k68 e68 => Wp.iff rfl ?_
                exact fin H4 k68 (by rw [hcc]; exact M4) e68
          · rw [show ((c.k : Int) + 1 == 1) = false from beq_f (by omega)]
            exact stay (by rw [hcc, if_neg (fun h => h2 h.2.1)])
        · rw [List.getElem?_eq_none (by omega)] at hcc
          refine Wp.iff (by rw [decide_eq_false_iff_not]; omega) ?_
          exact stay hcc
      by_cases h1 : z > ((s.fs i).loose.length : Int)
      · refine Wp.ift (decide_eq_true h1) (Wp.obind rl0.len ?_)
        rw [show ((s.fs i).loose.length : Int) = (k : Int) by omega]
        exact h47
      · refine Wp.iff (decide_eq_false h1) ?_
        rw [show z = (k : Int) by omega]
        exact h47
    by_cases h1 : i < zs.length
    · obtain ⟨pp, q1, q2⟩ := rd.2 [rb] h3 T3 (fun b hb => .inr (List.mem_singleton.1 hb)) i h1
      have hka : keepAt zs i = zs[i] := by
        unfold keepAt
        rw [List.getD_eq_getElem?_getD, List.getElem?_eq_getElem h1]
        rfl
      refine Wp.ift (by rw [decide_eq_true_eq]; omega) (Wp.obind q1 (Wp.obind q2 (Wp.obind (avInt_int _ _) (Wp.lett ?_))))
      rw [e40]
      by_cases h2 : zs[i] > 0
      · rw [decide_eq_true h2]
        refine Wp.lettG fun k41 e41 => Wp.ift rfl (Wp.obind q1 (Wp.obind q2 (Wp.obind (avInt_int _ _) ?_)))
        exact next _ (by rw [hka]) (by omega) k41 e41
      · rw [decide_eq_false h2]
        refine Wp.lettG fun k41 e41 => Wp.iff rfl ?_
        exact next 0 (by rw [hka]; omega) (by omega) k41 e41
    · have hka : keepAt zs i = 0 := by
        unfold keepAt
        rw [List.getD_eq_getElem?_getD, List.getElem?_eq_none (by omega)]
        rfl
      refine Wp.iff (by rw [decide_eq_false_iff_not]; omega) ?_
      rw [e40]
      refine Wp.lettG fun k41 e41 => Wp.iff rfl ?_
      exact next 0 (by rw [hka]) (by omega) k41 e41
theorem crash_r (hn : 1000000 < n) (K : RefAt lo h rb s) (ho : SOk s B) (hB : B < 900000) {torn : Int} (ht : torn < 9223372036854775808) {lv : AV} {zs : List Int} (rd : RdI (fun b => lo b ∨ b = rb) h lv zs) :
    ∃ h', world n (d + 2) 38 [.ptr rb 0, lv, .int .i64 torn] h = some (.ret (.tup []), h') ∧ Tch [rb] h h' ∧ RefAt lo h' rb (crashD s zs torn) := by
  suffices hK : Wp (world n (d + 2) 38 [.ptr rb 0, lv, .int .i64 torn] h) fun r h' => r = .ret (.tup []) ∧ Tch [rb] h h' ∧ RefAt lo h' rb (crashD s zs torn) by
    obtain ⟨_, h', e, rfl, k⟩ := hK
    exact ⟨h', e, k⟩
  rw [w_ref04_Disk_Crash]
  unfold ref04_Disk_Crash
  refine Wp.lettG fun k4 e4 => ?_
  have e0 : crashTo s zs torn 0 = s := by
    unfold crashTo
    have : (fun f => if f < 0 then crashF (s.fs f) (keepAt zs f) torn else s.fs f) = s.fs := by
      funext j
      rw [if_neg (Nat.not_lt_zero _)]
    rw [this]
  refine rcrash_loop (s := s) hn ho hB ht rd (fun H t K' => ?_) 32 0 n h rfl (by omega) (by rw [e0]; exact K) (Tch.refl _ _)
  obtain ⟨D, vs, K'⟩ := K'
  have hl := K'.len
  rw [e4]
  refine Wp.obind (nilC_ptr _ _) (Wp.obind (fldP_ptr _ _ _) ?_)
  refine Wp.st1 K'.row (show 0 + 96 < D.length by omega) rfl fun h2 k2 t2 n2 => ?_
  refine Wp.ret ⟨rfl, t.trans t2, _, _, K'.po (p' := -1) (o' := s.ops) t2 (fun _ h _ => h) k2 (by rw [List.length_set]; exact hl) (fun i hi => by rw [List.getElem?_set_ne (by omega)]) (by rw [Nat.zero_add, List.getElem?_set_self (by omega)]) (by rw [List.getElem?_set_ne (by omega)]; exact K'.co)⟩
end
end Go.Proofs.Ytcbnpdfingfmgaa
