/- What both disks tell. -/
import Derived.Test.YtcbnpdfingfmgaaEr
namespace Go.Proofs.Ytcbnpdfingfmgaa
open Go.RowKit Abs
section
variable {lo : Nat → Prop} {n d db rb B : Nat} {h : AHeap} {s : DS}
theorem on_b (K : At lo h db s B) : world n (d + 1) 18 [.ptr db 0] h = some (.ret (.bool (decide (s.p ≠ 0))), h) := by
  obtain ⟨D, vs, K⟩ := K
  exact on_w K
theorem ops_b (K : At lo h db s B) : world n (d + 1) 19 [.ptr db 0] h = some (.ret (.int .i64 (s.ops : Int)), h) := by
  obtain ⟨D, vs, K⟩ := K
  exact ops_w K
set_option maxHeartbeats 1000000 in
theorem alike_loop (hn : 1000000 < n) (K : At lo h db s B) (RR : RefAt lo h rb s) (ho : SOk s B) (hB : B < 900000) {k6 : AV → AHeap → R} {Q : ARes → AHeap → Prop}
    (hk : ∀ H v, Tch [] h H → IAt H v (filesL s 32) → (∀ b ∈ blkV v, h.next ≤ b) → Wp (k6 v H) Q) :
    ∀ (r j fu : Nat) (H : AHeap) (v : AV), r + j = 34 → r < fu → Tch [] h H → IAt H v (filesL s (min (j - 1) 32)) → (∀ b ∈ blkV v, h.next ≤ b) → Wp (law04_alike_L0 (world n (d + 4)) (.ptr db 0) (.ptr rb 0) k6 fu v ((j : Int) - 1) H) Q
  | _, _, 0, _, _, _, hf, _, _, _ => by omega
  | 0, j, fu + 1, H, v, hi, _, t, k, hb => by
    obtain rfl : j = 34 := by omega
    rw [law04_alike_L0_s]
    unfold law04_alike_L0b
    refine Wp.lett (Wp.iff rfl ?_)
    exact hk H v t k hb
  | r + 1, j, fu + 1, H, v, hi, hf, t, k, hb => by
    have KH := K.tch t (fun _ h => nomatch h)
    have hx := KH.ex
    rw [law04_alike_L0_s]
    unfold law04_alike_L0b
    refine Wp.lett (Wp.ift (by rw [decide_eq_true_eq]; omega) (Wp.lettG fun k43 e43 => ?_))
    refine Wp.callN (read_a (n := n) (d := d + 1) KH) (Wp.obind (extT_0 _ _) (Wp.obind (avStr_str _) (Wp.obind (extT_1 _ _ _) (Wp.obind (avInt_int _ _) ?_))))
    have RH : RefAt lo H rb s := RR.tch t (fun _ h => nomatch h) (fun b hb _ => hb)
    obtain ⟨D, vs, RD⟩ := RH
    obtain ⟨h1, e1, t1⟩ := read_r (n := n) (d := d) hn RD ho (by omega) ((j : Int) - 1)
    refine Wp.callN e1 (Wp.obind (extT_0 _ _) (Wp.obind (avStr_str _) (Wp.obind (extT_1 _ _ _) (Wp.obind (avInt_int _ _) (Wp.lett ?_)))))
    rw [eqS_true.2 rfl]
    refine Wp.lettG fun j36 e36 => Wp.iff rfl (Wp.lett ?_)
    rw [show (readE s ((j : Int) - 1) != readE s ((j : Int) - 1)) = false from bne_f rfl, e36]
    refine Wp.iff rfl (Wp.lett (Wp.lettG fun j42 e42 => ?_))
    have T1 := t.trans t1
    have k1 := k.tch t1 (fun _ _ h => nomatch h)
    have go : ∀ (H' : AHeap) (v' : AV), Tch [] h H' → IAt H' v' (filesL s (min j 32)) → (∀ b ∈ blkV v', h.next ≤ b) → Wp (k43 v' H') Q := by
      intro H' v' t' k' hb'
      rw [e43]
      refine Wp.lettw (by omega) (by omega) ?_
      rw [show (j : Int) - 1 + 1 = ((j + 1 : Nat) : Int) - 1 by omega]
      exact alike_loop hn K RR ho hB hk r (j + 1) fu H' v' (by omega) (by omega) t' (by rw [show j + 1 - 1 = j by omega]; exact k') hb'
    have skip : filesL s (min (j - 1) 32) = filesL s (min j 32) → Wp (j42 true h1) Q := fun e => by
      rw [e42]
      refine Wp.ift rfl ?_
      exact go h1 v T1 (by rw [← e]; exact k1) hb
    by_cases h0 : j = 0
    · refine Wp.ift (by rw [decide_eq_true_eq]; omega) (skip ?_)
      rw [h0]
    refine Wp.iff (by rw [decide_eq_false_iff_not]; omega) (Wp.lett ?_)
    by_cases h33 : j = 33
    · rw [show ((j : Int) - 1 == 32) = true from beq_t (by omega)]
      exact skip (by rw [h33]; rfl)
    rw [show ((j : Int) - 1 == 32) = false from beq_f (by omega), e42]
    refine Wp.iff rfl ?_
    obtain ⟨f, rfl⟩ : ∃ f, j = f + 1 := ⟨j - 1, by omega⟩
    have hf32 : f < 32 := by omega
    have ez : ((f + 1 : Nat) : Int) - 1 = (f : Int) := by omega
    rw [ez]
    rw [show min (f + 1 - 1) 32 = f by omega] at k1
    rw [show min (f + 1) 32 = f + 1 by omega] at go
    have R1 := RD.tch (lo' := lo) t1 (fun _ h => nomatch h) (fun _ h _ => h)
    obtain ⟨h2, e2, t2⟩ := see_r (n := n) (d := d + 1) hn R1 ho (by omega) (f : Int)
    have esee : seeC s (f : Int) = (s.fs f).seen := by
      unfold seeC
      rw [if_pos (by omega), Int.toNat_natCast]
    rw [esee] at e2
    refine Wp.callN e2 (Wp.obind (avAgg_agg _) (Wp.obind (show partF 0 (contC (s.fs f).seen) = some (.bool (s.fs f).seen.th) from rfl) (Wp.obind (avBool_bool _) (Wp.lettG fun k81 e81 => ?_))))
    have T2 := T1.trans t2
    have k2 := k1.tch t2 (fun _ _ h => nomatch h)
    have rest : ∀ (H' : AHeap) (v' : AV), Tch [] h H' → IAt H' v' (filesL s (f + 1)) → (∀ b ∈ blkV v', h.next ≤ b) → Wp (k81 v' H') Q := by
      intro H' v' t' k' hb'
      have K' := K.tch t' (fun _ h => nomatch h)
      obtain ⟨D', vs', R'⟩ : RefAt lo H' rb s := RR.tch t' (fun _ h => nomatch h) (fun b hb _ => hb)
      have C := R'.cells f hf32
      have rl := R'.rl f hf32
      rw [e81]
      have eS := sure_a (n := n) (d := d + 2) (z := (f : Int)) K'
      rw [if_pos (show isF (f : Int) from ⟨by omega, by omega⟩), if_pos (show isF (f : Int) from ⟨by omega, by omega⟩), Int.toNat_natCast] at eS
      have eL := loose_a (n := n) (d := d + 2) (z := (f : Int)) K'
      rw [if_pos (show isF (f : Int) from ⟨by omega, by omega⟩), Int.toNat_natCast] at eL
      refine Wp.callN eS (Wp.obind (extT_0 _ _) (Wp.obind (avStr_str _) (Wp.obind (extT_1 _ _ _) (Wp.obind (avBool_bool _) (Wp.lettG fun k92 e92 => ?_)))))
      refine Wp.obind (nilC_ptr _ _) (Wp.obind (fldP_ptr _ _ _) (Wp.obind (idxR hf32) (Wp.obind (fldP_ptr _ _ _) (Wp.obind (RowH.cell' R'.row C.c2) (Wp.obind rl.len (Wp.callN eL (Wp.obind (avInt_int _ _) ?_)))))))
      refine Wp.chk (and_t (reLoad_c (by kernel_rfl) (RowH.cell' R'.row C.c2)) rfl) (Wp.lett (Wp.iff (bne_f rfl) ?_))
      refine Wp.obind (nilC_ptr _ _) (Wp.obind (fldP_ptr _ _ _) (Wp.obind (idxR hf32) (Wp.obind (fldP_ptr _ _ _) (Wp.obind (fldP_ptr _ _ _) (Wp.obind (RowH.cell' R'.row C.c1) (Wp.obind (avStr_str _) (Wp.lett ?_)))))))
      rw [eqS_true.2 (rfl : (s.fs f).sure.u = (s.fs f).sure.u)]
      refine Wp.iff rfl (Wp.obind (nilC_ptr _ _) (Wp.obind (fldP_ptr _ _ _) (Wp.obind (idxR hf32) (Wp.obind (fldP_ptr _ _ _) (Wp.obind (fldP_ptr _ _ _) (Wp.obind (RowH.cell' R'.row C.c0) (Wp.obind (avBool_bool _) (Wp.lett ?_))))))))
      rw [show (!((s.fs f).sure.th == (s.fs f).sure.th)) = false by cases (s.fs f).sure.th <;> rfl, e92]
      refine Wp.iff rfl ?_
      exact go H' v' t' k' hb'
    have hn2 := T2.1
    cases hth : (s.fs f).seen.th with
    | true =>
      have ef : filesL s (f + 1) = filesL s f ++ [(f : Int)] := if_pos hth
      have hle := filesL_le s f
      refine Wp.ift rfl (Wp.mnews (Mem.nil [] h2) (bldI1 _ _) rfl (by rw [T2.2.1, K.ex]; rfl) fun h3 M3 => ?_)
      have t3 := M3.tch
      have hn3 := t3.1
      obtain ⟨h4, v4, e4, k4, t4, b4⟩ := (k2.tch t3 (fun _ _ h => nomatch h)).push M3.at0.1 (by omega) (by rw [t3.2.1, T2.2.1, K.ex])
      refine Wp.outK e4 ?_
      refine rest h4 v4 ((T2.trans t3).trans' t4 fun b hbb => .inr (hb b hbb)) (by rw [ef]; exact k4) (fun b hbb => ?_)
      rw [b4] at hbb
      have := List.mem_singleton.1 hbb
      omega
    | false =>
      have ef : filesL s (f + 1) = filesL s f := if_neg (by rw [hth]; decide)
      exact Wp.iff rfl (rest h2 v T2 (by rw [ef]; exact k2) hb)
theorem alike_ok (hn : 1000000 < n) (K : At lo h db s B) (RR : RefAt lo h rb s) (ho : SOk s B) (hB : B < 900000) : ∃ h', world n (d + 5) 26 [.ptr db 0, .ptr rb 0] h = some (.ret (.bool true), h') ∧ Tch [] h h' := by
  suffices hK : Wp (world n (d + 5) 26 [.ptr db 0, .ptr rb 0] h) fun r h' => r = .ret (.bool true) ∧ Tch [] h h' by
    obtain ⟨_, h', e, rfl, k⟩ := hK
    exact ⟨h', e, k⟩
  rw [w_law04_alike]
  unfold law04_alike
  refine Wp.lettG fun k6 e6 => ?_
  refine alike_loop (d := d) hn K RR ho hB (fun H v t k hb => ?_) 34 0 n h .nsl rfl (by omega) (Tch.refl _ _) (.inl ⟨rfl, rfl⟩) (fun _ hb => nomatch hb)
  rw [e6]
  refine Wp.lettG fun k9 e9 => ?_
  have KH := K.tch t (fun _ h => nomatch h)
  obtain ⟨h2, v2, e2, t2, k2, _⟩ := files_a (n := n) (d := d + 3) KH hn
  have hle := filesL_le s 32
  have T2 := t.trans t2
  have e3 := equal_i (n := n) (d := d + 3) (h := h2) k2.rdz (k.tch t2 (fun _ _ h => nomatch h)).rdz (by omega) (by omega)
  refine Wp.callN e2 (Wp.callN e3 (Wp.obind (avBool_bool _) (Wp.ift rfl ?_)))
  have K2 := K.tch T2 (fun _ h => nomatch h)
  obtain ⟨D, vs, R2⟩ : RefAt lo h2 rb s := RR.tch T2 (fun _ h => nomatch h) (fun b hb _ => hb)
  have c96 : ldCell h2 (.ptr rb (0 + 96)) = some (.int .i64 s.p) := RowH.cell' R2.row (by rw [Nat.zero_add]; exact R2.cp)
  have c97 : ldCell h2 (.ptr rb (0 + 97)) = some (.int .i64 (s.ops : Int)) := RowH.cell' R2.row (by rw [Nat.zero_add]; exact R2.co)
  refine Wp.obind (nilC_ptr _ _) (Wp.obind (fldP_ptr _ _ _) (Wp.obind c96 (Wp.obind (avInt_int _ _) (Wp.lett (Wp.callN (on_b (n := n) (d := d + 3) K2) (Wp.obind (avBool_bool _) ?_))))))
  refine Wp.chk (and_t (reLoad_c (by kernel_rfl) c96) rfl) (Wp.lett ?_)
  have eb : (decide (s.p ≠ 0) == (s.p != 0)) = true := by
    by_cases h0 : s.p = 0
    · rw [decide_eq_false (fun h => h h0), bne_f h0]
      rfl
    · rw [decide_eq_true h0, bne_t h0]
      rfl
  refine Wp.ift eb (Wp.obind (nilC_ptr _ _) (Wp.obind (fldP_ptr _ _ _) (Wp.obind c97 (Wp.obind (avInt_int _ _) (Wp.callN (ops_b (n := n) (d := d + 3) K2) (Wp.obind (avInt_int _ _) ?_))))))
  refine Wp.chk (and_t (reLoad_c (by kernel_rfl) c97) rfl) (Wp.lett ?_)
  rw [show ((s.ops : Int) == (s.ops : Int)) = true from beq_t rfl, e9]
  exact Wp.ret ⟨rfl, T2⟩
end
end Go.Proofs.Ytcbnpdfingfmgaa
