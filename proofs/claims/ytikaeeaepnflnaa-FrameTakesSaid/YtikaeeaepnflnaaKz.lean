/- The list of frames: the program's, and the document's. -/
import Derived.Test.YtikaeeaepnflnaaKy
namespace Go.Proofs.Ytikaeeaepnflnaa
open Go.RowKit Abs
section
variable {n d D : Nat} {h H : AHeap} {s p : Bytes} {Q : ARes → AHeap → Prop} {v w : AV}
theorem scan_step {s : Bytes} {i : Nat} {acc : List Bytes} (he : (takeR (s.drop i)).2.2 = 0) (h1 : acc ++ (scanR (s.drop i)).1 = (scanR s).1) (h2 : i + (scanR (s.drop i)).2 = (scanR s).2) :
    (acc ++ [(takeR (s.drop i)).1]) ++ (scanR (s.drop (i + (takeR (s.drop i)).2.1))).1 = (scanR s).1 ∧ (i + (takeR (s.drop i)).2.1) + (scanR (s.drop (i + (takeR (s.drop i)).2.1))).2 = (scanR s).2 := by
  rw [scanR_ok he, List.drop_drop] at h1 h2
  refine ⟨?_, ?_⟩
  · rw [List.append_assoc]
    exact h1
  · have h2 : i + ((takeR (s.drop i)).2.1 + _) = _ := h2
    omega
theorem scan_end {s : Bytes} {i : Nat} {acc : List Bytes} (he : (takeR (s.drop i)).2.2 ≠ 0) (h1 : acc ++ (scanR (s.drop i)).1 = (scanR s).1) (h2 : i + (scanR (s.drop i)).2 = (scanR s).2) : acc = (scanR s).1 ∧ i = (scanR s).2 := by
  rw [scanR_bad he] at h1 h2
  rw [List.append_nil] at h1
  exact ⟨h1, by omega⟩
set_option maxHeartbeats 1000000 in
/-- the program's list of frames -/
theorem scan_w (hs : s.length < 600000000) (hn : 1000000000 < n) (hx : H.ex = []) : ∃ H' v, wL n (D + 5) (d + 4) false 11 [strA s] H = some (.ret (.tup [v, .int .i64 ((scanR s).2 : Int)]), H') ∧ Sli TStr 1 H.next H' v (strR (scanR s).1) ∧ Tch [] H H' := by
  suffices hK : Wp (frame_Scan (wL n (D + 5) (d + 3)) n s H) fun r H' => ∃ v, r = .ret (.tup [v, .int .i64 ((scanR s).2 : Int)]) ∧ Sli TStr 1 H.next H' v (strR (scanR s).1) ∧ Tch [] H H' by
    obtain ⟨_, H', e, v, rfl, k⟩ := hK
    exact ⟨H', v, wL_frame_Scan n (D + 5) (d + 3) _ e, k⟩
  unfold frame_Scan
  refine Wp.mnew (Mem.nil [] H) fun h2 M2 => Wp.mnew M2 fun h4 M4 => ?_
  have l2 := M2.at0.2.1
  have kp4 := M4.at1.1
  have kg4 := M4.at0.1
  have lg := M4.at0.2.1
  have t4 := M4.tch
  have n4 := t4.1
  obtain ⟨h8, e8, kx8, lx8, t8⟩ := fall_w (n := n) (d := D + 4) s h4
  have n8 := t8.1
  have kp8 := kp4.tch t8 (by omega) (fun h => nomatch h)
  have kg8 := kg4.tch t8 (by omega) (fun h => nomatch h)
  refine Wp.callN ((wL_b 16).trans e8) ?_
  obtain ⟨t0, ht0⟩ : ∃ t0, t0 = Fr.tree [(2, newP H), (3, newP h2), (7, AV.fn 25 [] [.ptr h4.next 0])] := ⟨_, rfl⟩
  have hg : ∀ (i : Nat) (q : Bytes), ((putPs (frame_Scan_R0 n).N (Code.rgp (frame_Scan_R0 n).c).toList [.int .i64 (i : Int), strA q] t0).bind fun t => slotsC t (frame_Scan_R0 n).sa) = some [.ptr H.next 0, .ptr h2.next 0, .int .i64 (i : Int), strA q] := fun i q => by
    rw [ht0]
    kernel_rfl
  rw [← ht0]
  have t1 := rngH_tch [] (frame_Scan_R0 n).N (frame_Scan_R0 n).c t0 h8
  have n1 := rngH_next (frame_Scan_R0 n).N (frame_Scan_R0 n).c t0 h8
  have r1 := rngH_rec (frame_Scan_R0 n).N (frame_Scan_R0 n).c t0 h8
  have d1 := rngH_mark (frame_Scan_R0 n).N (frame_Scan_R0 n).c t0 h8
  have x1 : (rngH (frame_Scan_R0 n).N (frame_Scan_R0 n).c t0 h8).ex = [] := by rw [t1.2.1, t8.2.1, t4.2.1, hx]
  obtain ⟨Hs, hHs⟩ : ∃ Hs, Hs = rngH (frame_Scan_R0 n).N (frame_Scan_R0 n).c t0 h8 := ⟨_, rfl⟩
  rw [← hHs] at t1 n1 r1 d1 x1
  have kp1 := kp8.tch t1 (by omega) (fun h => nomatch h)
  have kg1 := kg8.tch t1 (by omega) (fun h => nomatch h)
  have kx1 := kx8.tch t1 lx8 (fun h => nomatch h)
  obtain ⟨H', e, hq⟩ := fall_iter (n := n) (D := D) (d := d + 1) (H := Hs) (y := h8.next + 1) (bx := h4.next) (s := s)
    (Inv := fun i H2 => ∃ acc v2, RowH H2 H.next TStrs [v2] ∧ RowH H2 h2.next TIn [.int .i64 (i : Int)] ∧ Sli TStr 1 Hs.next H2 v2 (strR acc) ∧ H2.get (h8.next + 1) = some (recQ .ready .none (frame_Scan_R0 n).N (frame_Scan_R0 n).c t0 h8.next) ∧ Hs.next ≤ H2.next ∧ H2.ex = [] ∧ (∀ b, b < Hs.next → b ≠ H.next → b ≠ h2.next → b ≠ h8.next + 1 → H2.get b = Hs.get b) ∧ acc ++ (scanR (s.drop i)).1 = (scanR s).1 ∧ i + (scanR (s.drop i)).2 = (scanR s).2)
    (Fin := fun _ _ => False) (by omega) hn
    (fun i H2 I => by
      obtain ⟨acc, v2, _, _, _, _, _, _, k6, _⟩ := I
      exact kx1.same (k6 _ (by omega) (by omega) (by omega) (by omega)))
    (fun i H2 hi he I => by
      obtain ⟨acc, v2, a1, a2, a3, a4, a5, a6, a7, a8, a9⟩ := I
      have hl := takeR_len he
      rw [List.length_drop] at hl
      have hacc : acc.length * 12 ≤ s.length := by
        have := (scanR_at s.length s (Nat.le_refl _)).2
        rw [← a8, List.length_append] at this
        omega
      obtain ⟨H3, v3, e3, b1, b2, b3, b4, b5, b6, b7⟩ := scan_round (n := n) (D := D + 5) (d := d + 1) (y := h8.next + 1) (p := (takeR (s.drop i)).1) a4 (by omega) a5 a1 (by omega) a2 (by omega) a3 a6 (by omega) (by omega) (hg i _)
      obtain ⟨c1, c2⟩ := scan_step he a8 a9
      refine ⟨true, H3, ?_, fun _ => ⟨acc ++ [(takeR (s.drop i)).1], v3, b1, ?_, b3, b4, by omega, by rw [b6, a6], fun b g1 g2 g3 g4 => (b7 b g1 g2 g3 g4).trans (a7 b g1 g2 g3 g4), c1, c2⟩, fun h => nomatch h⟩
      · rw [dynB_yld a4 (by kernel_rfl)]
        exact e3
      · rw [hl.2.2.1] at b2
        exact b2)
    ⟨[], .nsl, kp1, kg1, Sli.nil _ _ _ _, r1, Nat.le_refl _, x1, fun _ _ _ _ _ => rfl, rfl, Nat.zero_add _⟩
  rcases hq with ⟨i, hi, he, acc, v2, a1, a2, a3, a4, a5, a6, a7, a8, a9⟩ | ⟨_, _, _, hF⟩
  · obtain ⟨rfl, hie⟩ := scan_end he a8 a9
    rw [hHs] at e
    refine Wp.rng (by kernel_rfl) e a4 (by decide) (fun _ => ?_) (fun h => nomatch h) (fun _ h => nomatch h)
    have m1 : ∀ {a b : Nat}, a ≠ b → a ∉ [b] := fun h h2 => h (List.mem_singleton.1 h2)
    have tp : ∀ (G : AHeap) (b : Nat) (o : AObj), Tch [b] G (G.put b o) := fun G b o => Tch.put (.inl (List.mem_singleton.2 rfl)) _
    have t9 := tp H' (h8.next + 1) (recQ .exhausted .none (frame_Scan_R0 n).N (frame_Scan_R0 n).c t0 h8.next)
    have kp9 := a1.tch t9 (by omega) (m1 (by omega))
    have kg9 := a2.tch t9 (by omega) (m1 (by omega))
    have k9 := a3.tch t9 (fun b hb => by rw [List.mem_singleton.1 hb]; omega)
    have hv1 := Sli.one1 a3
    refine Wp.obind (RowH.cell' kp9 rfl) (Wp.obind (RowH.cell' kg9 rfl) (Wp.obind (avInt_int _ _) ?_))
    rw [hv1.2]
    refine Wp.st1 kp9 Nat.zero_lt_one hv1.1 fun h10 kp10 t10 n10 => ?_
    have kg10 := kg9.tch t10 (by show h2.next < H'.next; omega) (m1 (by omega))
    have hre : reLoad Try.prog h10 TIn (newP h2) (.int .i64 (i : Int)) = true := reLoad_c (by kernel_rfl) (show ldCell h10 (.ptr h2.next 0) = some (.int .i64 (i : Int)) from RowH.cell' kg10 rfl)
    refine Wp.chk (by rw [hre]; rfl) ?_
    refine Wp.st1 kg10 Nat.zero_lt_one rfl fun h11 kg11 t11 n11 => ?_
    have n10' : h10.next = H'.next := n10
    have kp11 := kp10.tch t11 (by omega) (m1 (by omega))
    have hm : h11.get h8.next = some (.obj .dfr) := by
      rw [t11.2.2 _ (by omega) (m1 (by omega)), t10.2.2 _ (by show h8.next < H'.next; omega) (m1 (by omega)), get_put_other _ (by omega), a7 _ (by omega) (by omega) (by omega) (by omega)]
      exact d1
    refine Wp.marks1 hm (Wp.marks0 ?_)
    have t12 := tp h11 h8.next (.obj .shut)
    have kp12 := kp11.tch t12 (by omega) (m1 (by omega))
    have kg12 := kg11.tch t12 (by omega) (m1 (by omega))
    have lo1 : ∀ b, b < H.next → (h11.put h8.next (.obj .shut)).get b = H.get b := fun b hb => by
      rw [get_put_other _ (by omega), t11.2.2 _ (by omega) (m1 (by omega)), t10.2.2 _ (by show b < H'.next; omega) (m1 (by omega)), get_put_other _ (by omega), a7 _ (by omega) (by omega) (by omega) (by omega), t1.2.2 b (by omega) (fun h => nomatch h), t8.2.2 b (by omega) (fun h => nomatch h), t4.2.2 b hb (fun h => nomatch h)]
    refine Wp.obind (RowH.cell' kp12 rfl) (Wp.obind (RowH.cell' kg12 rfl) (Wp.ret ⟨v2, ?_, ?_, ?_, ?_, fun b hb _ => lo1 b hb⟩))
    · rw [hie]
    · have ka := ((k9.tch t10 fun b hb => by rw [List.mem_singleton.1 hb]; omega).tch t11 fun b hb => by rw [List.mem_singleton.1 hb]; omega).tch t12 fun b hb => by rw [List.mem_singleton.1 hb]; omega
      refine ⟨ka.1, ?_⟩
      rcases ka.2 with h0 | ⟨c, h1, h2, h3, h4, h5⟩
      · exact .inl h0
      · exact .inr ⟨c, h1, h2, by omega, h4, h5⟩
    · show H.next ≤ h11.next
      omega
    · show h11.ex = H.ex
      rw [t11.2.1, t10.2.1]
      show H'.ex = H.ex
      rw [a6, hx]
  · exact hF.elim
theorem rscan_loop (hs : s.length < 1000000) (hn : 1000000 < n) (hx : h.ex = []) :
    ∀ (fu i : Nat) (H : AHeap) (v : AV) (acc : List Bytes), s.length - i < fu → i ≤ s.length → Ab h.next h H → Sli TStr 1 h.next H v (strR acc) → acc ++ (scanR (s.drop i)).1 = (scanR s).1 → i + (scanR (s.drop i)).2 = (scanR s).2 →
    Wp (ref03_Scan_L0 (world n (d + 5)) s fu v (i : Int) H) fun r H' => ∃ v', r = .ret (.tup [v', .int .i64 ((scanR s).2 : Int)]) ∧ Sli TStr 1 h.next H' v' (strR (scanR s).1) ∧ Ab h.next h H'
  | 0, _, _, _, _, hf, _, _, _, _, _ => by omega
  | fu + 1, i, H, v, acc, hf, hi, A, k, c1, c2 => by
    have ll := lenS_nat s
    have sA : sliceS s (i : Int) (lenS s) = some (s.drop i) := by
      rw [sliceS_int (by omega) (by omega) (by omega), List.take_of_length_le (by rw [List.length_drop]; omega)]
      rfl
    have hxH : H.ex = [] := by rw [A.ex, hx]
    rw [ref03_Scan_L0_s]
    unfold ref03_Scan_L0b
    refine Wp.obind sA (Wp.callN (rtake_w (n := n) (d := d) (by rw [List.length_drop]; omega) (by omega) (by rw [hxH]; rfl)) (Wp.obind (extT_0 _ _) (Wp.obind (avStr_str _) (Wp.obind (extT_1 _ _ _) (Wp.obind (avInt_int _ _) (Wp.obind (extT_2 _ _ _ _) (Wp.obind (avInt_int _ _) (Wp.lett ?_))))))))
    by_cases he : (takeR (s.drop i)).2.2 = 0
    · have hl := takeR_len he
      rw [List.length_drop] at hl
      have hacc : acc.length * 12 ≤ s.length := by
        have := (scanR_at s.length s (Nat.le_refl _)).2
        rw [← c1, List.length_append] at this
        omega
      refine Wp.iff (bne_f he) (Sli.str k A.next (by rw [hxH]; rfl) (by omega) fun v2 H2 k2 a2 n2 => Wp.lettw (by omega) (by omega) ?_)
      obtain ⟨g1, g2⟩ := scan_step he c1 c2
      rw [show (i : Int) + ((takeR (s.drop i)).2.1 : Int) = ((i + (takeR (s.drop i)).2.1 : Nat) : Int) by omega]
      exact rscan_loop hs hn hx fu (i + (takeR (s.drop i)).2.1) H2 v2 _ (by omega) (by omega) (A.trans a2) k2 g1 g2
    · obtain ⟨g1, g2⟩ := scan_end he c1 c2
      refine Wp.ift (bne_t he) (Wp.ret ⟨v, ?_, ?_, A⟩)
      · rw [g2]
      · rw [← g1]
        exact k
theorem rscan_w (hs : s.length < 1000000) (hn : 1000000 < n) (hx : h.ex = []) : ∃ H' v, world n (d + 6) 15 [strA s] h = some (.ret (.tup [v, .int .i64 ((scanR s).2 : Int)]), H') ∧ Sli TStr 1 h.next H' v (strR (scanR s).1) ∧ Tch [] h H' := by
  suffices hK : Wp (world n (d + 6) 15 [strA s] h) fun r H' => ∃ v', r = .ret (.tup [v', .int .i64 ((scanR s).2 : Int)]) ∧ Sli TStr 1 h.next H' v' (strR (scanR s).1) ∧ Ab h.next h H' by
    obtain ⟨_, H', e, v, rfl, k, A⟩ := hK
    exact ⟨H', v, e, k, A.next, A.ex, fun b hb _ => A.get b hb⟩
  rw [w_ref03_Scan]
  unfold ref03_Scan
  exact rscan_loop hs hn hx n 0 h .nsl [] (by omega) (Nat.zero_le _) (Ab.refl _ _) (Sli.nil _ _ _ _) rfl (Nat.zero_add _)
end
end Go.Proofs.Ytikaeeaepnflnaa
