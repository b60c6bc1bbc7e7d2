/- What a message is read from: the program's Decode. -/
import Derived.Test.YtmibgiblejpgdaaRy
namespace Go.Proofs.Ytmibgiblejpgdaa
open Go.RowKit Abs
theorem lo_decode {f : Nat → Int} {s : Bytes} {v : AV} {h h' : AHeap} {a : AV} (k : rowsOk f s h v h') (ha : Above h h') (hl : (AV.tup [.agg (readC f s v).1, a]).lo h.next = true) : rowsOk f s h v h := by
  refine ⟨k.1, fun h0 => ?_, Tch.refl _ _⟩
  rw [readC_ok h0] at hl
  refine ents_lo (k.2.1 h0) ha ?_
  simp only [AV.lo, AV.loL, msgF, Ms.cells, Bool.and_eq_true] at hl
  exact hl.1.2.2.2.2.2.2.2.2.2.1
section
variable {n d : Nat} {h : AHeap} {s : Bytes} {Q : ARes → AHeap → Prop} {T : List RowT}
theorem new_w : world n (d + 1) 29 [strA s] h = some (.ret (.ptr h.next 0), newH h 95 (rdC s ⟨0, 0, 0⟩)) := by
  apply Wp.eq
  rw [w_wire_New]
  refine Wp.gcn ?_
  unfold wire_New
  refine Wp.outK (box_agg rfl) ?_
  exact Wp.ret ⟨blt_self _, rfl, rfl⟩
set_option maxRecDepth 100000 in
set_option maxHeartbeats 1000000 in
theorem decode_w (hs : s.length ≤ 1000000) (hn : 100 < n) (hx : h.ex = [53]) : ∃ v h', world n (d + 7) 11 [strA s] h = some (.ret (.tup [.agg (readC fI s v).1, .agg [.int .i64 (readC fI s v).2.1, .int .i64 (readC fI s v).2.2]]), h') ∧ rowsOk fI s h v h' := by
  suffices hK : Wp (world n (d + 7) 11 [strA s] h) fun x h' => ∃ v, x = .ret (.tup [.agg (readC fI s v).1, .agg [.int .i64 (readC fI s v).2.1, .int .i64 (readC fI s v).2.2]]) ∧ rowsOk fI s h v h' by
    obtain ⟨_, h', e, v, rfl, q⟩ := hK
    exact ⟨v, h', e, q⟩
  rw [w_message_Decode]
  suffices hK : Wp (message_Decode (world n (d + 6)) n s h) fun x h' => ∃ v, x = .ret (.tup [.agg (readC fI s v).1, .agg [.int .i64 (readC fI s v).2.1, .int .i64 (readC fI s v).2.2]]) ∧ rowsOk fI s h v h' by
    refine Wp.gc2 (hK.mono ?_)
    rintro r h' ⟨v, rfl, hv⟩
    exact ⟨⟨v, rfl, hv⟩, fun ha hl => ⟨v, rfl, lo_decode hv ha hl⟩⟩
  unfold message_Decode
  have Mx := Mem.nil [] h
  repeat (first | ((with_reducible apply Wp.mnew Mx); intro _ Mz; clear Mx; have Mx := Mz; clear Mz) | rw [newP_eq])
  have Mz := Mx.newH 95 (rdC s ⟨0, 0, 0⟩)
  refine Wp.callN new_w ?_
  rename_i h2
  clear Mx
  have Mx := Mz
  clear Mz
  generalize newH h2 95 (rdC s ⟨0, 0, 0⟩) = h3 at *
  obtain ⟨v, T, h4, e4, g, bm, M4⟩ := read_w (n := n) (d := d) Mx.at0.1 Mx.at0.2.1 hs hn (by rw [Mx.ex, hx]; rfl)
  have hn4 := M4.tch.1
  have Mz := Mem.frameT (xs := [(h2.next, 95, rdC s ⟨0, 0, 0⟩)]) (ys := [(bm, 30, (msgF fI s v).cells), (h2.next, 95, rdC s (q9 s))]) Mx M4
  clear Mx
  have Mx : Mem [] h h4 ((bm, 30, (msgF fI s v).cells) :: (h2.next, 95, rdC s (q9 s)) :: _ :: _ :: T) := Mz
  clear Mz
  have hone := msgF_one (f := fI) (s := s) g.one.1
  have he : ∀ {H : AHeap} {xs : List RowT}, Mem [] h H (xs ++ T) → EntsAt H.next H v (entsF fI s (cntOf s)) := fun M => ents_grow g M (Nat.le_refl _)
  have hln : (entsF fI s (cntOf s)).length < n := by rw [entsF_len]; unfold cntOf; split <;> omega
  have hm0 := manyOf_lt s
  have hc4 : cntOf s ≤ 4 ∧ (manyOf s ≤ 4 → cntOf s = manyOf s) ∧ (4 < manyOf s → cntOf s = 4) := by unfold cntOf; split <;> omega
  have hlen : lenL (msgF fI s v).ents = some (cntOf s : Int) := by
    have := g.len
    rwa [List.length_map, entsF_len] at this
  have bad : ∀ {a : Int × Int} {h' : AHeap}, (readC fI s v) = (zeros22, a) → a.1 ≠ 0 → Tch [] h h' → ∃ v, ARes.ret (.tup [.agg zeros22, .agg [.int .i64 a.1, .int .i64 a.2]]) = .ret (.tup [.agg (readC fI s v).1, .agg [.int .i64 (readC fI s v).2.1, .int .i64 (readC fI s v).2.2]]) ∧ rowsOk fI s h v h' := fun e1 e2 t => ⟨v, by rw [e1], g.one.1, fun h0 => by rw [e1] at h0; exact absurd h0 e2, t⟩
  by_cases c1 : (rEnd s (q9 s)).1 = 0
  case neg =>
    repeat (first | ((with_reducible refine Wp.mcall (end_r (n := n) (d := d + 4) (Mem.at2 Mx).1 (Mem.at2 Mx).2.1) Mx (fun _ Mz _ => ?_)); clear Mx; have Mx := Mz; clear Mz) | ((with_reducible apply Wp.obind); (with_reducible exact avInt_int _ _)) | ((with_reducible apply Wp.ld0 Mx); rfl) | ((with_reducible apply Wp.lr0 Mx); rfl) | ((with_reducible apply Wp.sa0 Mx); rfl; rfl; (first | rfl | with_reducible assumption); intro _ Mz; clear Mx; have Mx := Mz; clear Mz) | ((with_reducible apply Wp.lr4 Mx); rfl) | ((with_reducible apply Wp.sa4 Mx); rfl; rfl; (rfl); intro _ Mz; clear Mx; have Mx := Mz; clear Mz) | ((with_reducible apply Wp.lr5 Mx); rfl) | ((with_reducible apply Wp.sa5 Mx); rfl; rfl; (rfl); intro _ Mz; clear Mx; have Mx := Mz; clear Mz) | ((with_reducible apply Wp.mnew Mx); intro _ Mz; clear Mx; have Mx := Mz; clear Mz) | ((with_reducible refine Wp.chk ?_ ?_); focus ((repeat' (first | (with_reducible exact rfl) | (with_reducible apply and_t) | ((with_reducible apply Mem.rr0 Mx); kernel_rfl; kernel_rfl))); done)) | (with_reducible refine Wp.lett ?_) | ((with_reducible apply Wp.obind); (with_reducible first | exact avAgg_agg _ | exact extT_0 _ _ | exact extT_1 _ _ _)) | ((with_reducible refine Wp.ift ?_ ?_); ((with_reducible apply bne_t); omega)) | ((with_reducible apply Wp.callN); (with_reducible assumption)) | rw [newP_eq])
    exact Wp.ret (bad (by unfold readC; rw [if_pos c1]) c1 Mx.tch)
  by_cases c2 : manyOf s > 4
  · repeat (first | ((with_reducible refine Wp.mcall (end_r (n := n) (d := d + 4) (Mem.at2 Mx).1 (Mem.at2 Mx).2.1) Mx (fun _ Mz _ => ?_)); clear Mx; have Mx := Mz; clear Mz) | ((with_reducible apply Wp.obind); (with_reducible exact avInt_int _ _)) | ((with_reducible apply Wp.ld0 Mx); rfl) | ((with_reducible apply Wp.sa0 Mx); rfl; rfl; (first | rfl | with_reducible assumption); intro _ Mz; clear Mx; have Mx := Mz; clear Mz) | ((with_reducible apply Wp.ld1 Mx); rfl) | ((with_reducible apply Wp.lr4 Mx); rfl) | ((with_reducible apply Wp.sa4 Mx); rfl; rfl; (rfl); intro _ Mz; clear Mx; have Mx := Mz; clear Mz) | ((with_reducible apply Wp.lr5 Mx); rfl) | ((with_reducible apply Wp.sa5 Mx); rfl; rfl; (rfl); intro _ Mz; clear Mx; have Mx := Mz; clear Mz) | ((with_reducible apply Wp.mnew Mx); intro _ Mz; clear Mx; have Mx := Mz; clear Mz) | (with_reducible refine Wp.join1 (fun _ _ => ?_)) | (with_reducible refine Wp.lett ?_) | ((with_reducible apply Wp.obind); (with_reducible first | exact hlen | exact avAgg_agg _ | exact extT_0 _ _ | exact extT_1 _ _ _)) | ((with_reducible refine Wp.ift ?_ ?_); first | (with_reducible rfl) | ((with_reducible first | apply decide_eq_true | apply bne_t); omega)) | ((with_reducible refine Wp.iff ?_ ?_); ((with_reducible apply bne_f); omega)) | ((with_reducible apply Wp.callN); (with_reducible assumption)) | (with_reducible refine Wp.go1 (by assumption) ?_) | rw [newP_eq])
    exact Wp.ret (bad (a := (7, 0)) (by unfold readC; rw [if_neg (by simpa using c1), if_pos (.inl c2)]) (by decide) Mx.tch)
  by_cases c3 : chkM (msgF fI s v) (entsF fI s (cntOf s)) = 0
  case neg =>
    repeat (first | ((with_reducible refine Wp.mcall (end_r (n := n) (d := d + 4) (Mem.at2 Mx).1 (Mem.at2 Mx).2.1) Mx (fun _ Mz _ => ?_)); clear Mx; have Mx := Mz; clear Mz) | ((with_reducible apply Wp.obind); (with_reducible exact avInt_int _ _)) | ((with_reducible apply Wp.ld0 Mx); rfl) | ((with_reducible apply Wp.sa0 Mx); rfl; rfl; (first | rfl | with_reducible assumption); intro _ Mz; clear Mx; have Mx := Mz; clear Mz) | ((with_reducible apply Wp.ld1 Mx); rfl) | ((with_reducible apply Wp.lr1 Mx); rfl) | ((with_reducible apply Wp.lr4 Mx); rfl) | ((with_reducible apply Wp.sa4 Mx); rfl; rfl; (rfl); intro _ Mz; clear Mx; have Mx := Mz; clear Mz) | ((with_reducible apply Wp.lr5 Mx); rfl) | ((with_reducible apply Wp.sa5 Mx); rfl; rfl; (rfl); intro _ Mz; clear Mx; have Mx := Mz; clear Mz) | ((with_reducible apply Wp.mnew Mx); intro _ Mz; clear Mx; have Mx := Mz; clear Mz) | (with_reducible refine Wp.join1 (fun _ _ => ?_)) | (with_reducible refine Wp.lett ?_) | ((with_reducible apply Wp.obind); (with_reducible first | exact hlen | exact avAgg_agg _ | exact extT_0 _ _ | exact extT_1 _ _ _)) | ((with_reducible refine Wp.ift ?_ ?_); ((with_reducible first | apply decide_eq_true | apply bne_t); omega)) | ((with_reducible refine Wp.iff ?_ ?_); ((with_reducible first | apply decide_eq_false | apply bne_f); omega)) | ((with_reducible apply Wp.callN); (with_reducible first | exact check_w (n := n) (d := d + 3) (m := msgF fI s v) (by omega) hln (he (xs := [_, _, _, _, _, _]) Mx) (Nat.le_refl _) (msgF_lens fI s v) hone | assumption)) | (with_reducible refine Wp.go1 (by assumption) ?_) | rw [newP_eq])
    exact Wp.ret (bad (a := (7, 0)) (by unfold readC; rw [if_neg (by simpa using c1), if_pos (.inr c3)]) (by decide) Mx.tch)
  have e1 : readC fI s v = ((msgF fI s v).cells, 0, 0) := by unfold readC; rw [if_neg (by simpa using c1), if_neg (by omega)]
  repeat (first | ((with_reducible refine Wp.mcall (end_r (n := n) (d := d + 4) (Mem.at2 Mx).1 (Mem.at2 Mx).2.1) Mx (fun _ Mz _ => ?_)); clear Mx; have Mx := Mz; clear Mz) | ((with_reducible apply Wp.obind); (with_reducible exact avInt_int _ _)) | ((with_reducible apply Wp.ld0 Mx); rfl) | ((with_reducible apply Wp.sa0 Mx); rfl; rfl; (first | rfl | with_reducible assumption); intro _ Mz; clear Mx; have Mx := Mz; clear Mz) | ((with_reducible apply Wp.ld1 Mx); rfl) | ((with_reducible apply Wp.lr1 Mx); rfl) | ((with_reducible apply Wp.lr4 Mx); rfl) | ((with_reducible apply Wp.sa4 Mx); rfl; rfl; (rfl); intro _ Mz; clear Mx; have Mx := Mz; clear Mz) | ((with_reducible apply Wp.lr5 Mx); rfl) | ((with_reducible apply Wp.sa5 Mx); rfl; rfl; (with_reducible assumption); intro _ Mz; clear Mx; have Mx := Mz; clear Mz) | ((with_reducible apply Wp.mnew Mx); intro _ Mz; clear Mx; have Mx := Mz; clear Mz) | (with_reducible refine Wp.join1 (fun _ _ => ?_)) | (with_reducible refine Wp.lett ?_) | ((with_reducible apply Wp.obind); (with_reducible first | exact hlen | exact avAgg_agg _ | exact extT_0 _ _ | exact extT_1 _ _ _)) | ((with_reducible refine Wp.iff ?_ ?_); ((with_reducible first | apply decide_eq_false | apply bne_f); omega)) | ((with_reducible apply Wp.callN); (with_reducible first | exact check_w (n := n) (d := d + 3) (m := msgF fI s v) (by omega) hln (he (xs := [_, _, _, _, _, _]) Mx) (Nat.le_refl _) (msgF_lens fI s v) hone | assumption)) | (with_reducible refine Wp.go1 (by assumption) ?_) | rw [newP_eq])
  exact Wp.ret ⟨v, by rw [e1], g.one.1, fun _ => he (xs := [_, _, _, _, _, _]) Mx, Mx.tch⟩
end
end Go.Proofs.Ytmibgiblejpgdaa
