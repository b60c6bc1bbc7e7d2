/- MessageReads. -/
import Derived.Test.YtmibgiblejpgdaaRm
import Derived.Test.YtmibgiblejpgdaaRx
namespace Go.Proofs.Ytmibgiblejpgdaa
open Go.RowKit Abs
set_option maxRecDepth 100000 in
set_option maxHeartbeats 1000000 in
open Classical in
/-- the law -/
theorem messageReads_says (h : AHeap) (hX : h.ex = [53]) (xs : List AV) (hP : ArgsP Try.prog h.next h 12 [9] xs) : ∃ h', Says Try.prog 5 xs h (.ret (.bool true)) h' := by
  obtain ⟨_, _, rfl, hp0, hP⟩ := args_cons hP
  obtain rfl := args0 hP
  obtain ⟨s, rfl, _⟩ := hp0.str Try.underlying9
  obtain ⟨n, hn⟩ : ∃ n, n = 1000 := ⟨_, rfl⟩
  suffices hK : Wp (world n 9 5 [strA s] h) fun r _ => r = .ret (.bool true) by
    obtain ⟨_, h', e, rfl⟩ := hK
    exact ⟨h', world_ok n 9 5 _ h _ h' e⟩
  rw [w_law17_MessageReads]
  refine Wp.gc' ?_
  suffices hK : Wp (law17_MessageReads (world n 8) n s h) fun r _ => r = .ret (.bool true) from hK.mono fun r h' e => ⟨e, fun _ => e⟩
  unfold law17_MessageReads
  have hwk : world n 8 8 [] h = some (.ret (.bool true), h) := w_true n 7 [] h
  have ll := lenS_nat s
  by_cases hl : s.length > 16384
  · repeat (first | (with_reducible refine Wp.lett ?_) | ((with_reducible apply Wp.obind); (with_reducible exact avBool_bool _)) | ((with_reducible refine Wp.ift ?_ ?_); ((with_reducible apply decide_eq_true); omega)) | ((with_reducible refine Wp.iff ?_ ?_); (with_reducible exact Bool.not_true)) | ((with_reducible apply Wp.callN); (with_reducible assumption)))
    exact Wp.ret rfl
  obtain ⟨v1, h1, e1, o1⟩ := decode_w (n := n) (d := 1) (h := h) (s := s) (by omega) (by omega) hX
  have Mx := Mem.nil [] h1
  have x1 : h1.ex = [53] := o1.2.2.2.1.trans hX
  rw [readM_cells] at e1
  have hone1 := readM_one (f := fI) (s := s) o1.1
  have en1 := readM_ents o1
  repeat (first | ((with_reducible apply Wp.obind); (with_reducible exact avBool_bool _)) | ((with_reducible apply Wp.sa0 Mx); rfl; rfl; (rfl); intro _ Mz; clear Mx; have Mx := Mz; clear Mz) | ((with_reducible apply Wp.sa1 Mx); rfl; rfl; (with_reducible assumption); intro _ Mz; clear Mx; have Mx := Mz; clear Mz) | ((with_reducible apply Wp.mnew Mx); intro _ Mz; clear Mx; have Mx := Mz; clear Mz) | (with_reducible refine Wp.lett ?_) | ((with_reducible apply Wp.obind); (with_reducible first | exact avAgg_agg _ | exact extT_0 _ _ | exact extT_1 _ _ _)) | ((with_reducible refine Wp.iff ?_ ?_); first | (with_reducible exact Bool.not_true) | ((with_reducible apply decide_eq_false); omega)) | ((with_reducible apply Wp.callN); (with_reducible assumption)) | rw [newP_eq])
  obtain ⟨v2, h2, e2, o2⟩ := refRead_w (n := n) (d := 5) (h := _) (s := s) (by omega) (by omega) (Mx.ex.trans x1)
  rw [readM_cells] at e2
  have hone2 := readM_one (f := whl) (s := s) o2.1
  have en2 := readM_ents o2
  have Mz := Mx.keep o2.2.2
  clear Mx
  have Mx := Mz
  clear Mz
  refine Wp.callN e2 ?_
  (((with_reducible apply Wp.obind); (with_reducible exact extT_0 _ _)))
  (((with_reducible apply Wp.obind); (with_reducible exact avAgg_agg _)))
  (((with_reducible apply Wp.obind); (with_reducible exact extT_1 _ _ _)))
  (((with_reducible apply Wp.obind); (with_reducible exact avInt_int _ _)))
  (((with_reducible apply Wp.obind); (with_reducible exact extT_2 _ _ _ _)))
  (((with_reducible apply Wp.obind); (with_reducible exact avInt_int _ _)))
  refine Wp.mnew (Mem.nil [] h2) (fun h3 M3 => ?_)
  rw [newP_eq]
  refine Wp.sa0 M3 rfl rfl hone2 (fun h4 M4 => ?_)
  have Mz := Mx.keep M4.tch
  have x4 : h4.ex = [53] := Mz.ex.trans x1
  have hn2 := M4.tch.1
  have hn1 := Mz.tch.1
  have en14 : EntsAt h4.next h4 (readM fI s v1).ents (readE fI s v1) := (en1.tch Mz.tch (Nat.le_refl _) (by simp)).mono hn1
  have en24 : EntsAt h4.next h4 (readM whl s v2).ents (readE whl s v2) := (en2.tch M4.tch (Nat.le_refl _) (by simp)).mono hn2
  have sa := refSame_w (n := n) (d := 6) (by omega) (by have := readE_len fI s v1; omega) en14 en24 (Nat.le_refl _) (by have := readE_len fI s v1; omega) (by have := readE_len whl s v2; omega) hone1 hone2 (by rw [x4]; rfl)
  rw [decide_eq_true (read_same s v1 v2)] at sa
  refine Wp.lr1 Mz rfl ?_
  refine Wp.lr0 M4 rfl ?_
  clear Mx
  have Mx := Mz
  repeat (first | ((with_reducible apply Wp.obind); (with_reducible exact avBool_bool _)) | ((with_reducible apply Wp.lr0 Mx); rfl) | (with_reducible refine Wp.join1 (fun _ _ => ?_)) | ((with_reducible apply Wp.obind); (with_reducible exact eq33 _ _ _ _)) | ((with_reducible refine Wp.ift ?_ ?_); (with_reducible rfl)) | ((with_reducible apply Wp.callN); (with_reducible assumption)) | (with_reducible refine Wp.go1 (by assumption) ?_))
  refine Wp.ret ?_
  rw [(read_code s v1 v2).1]
  simp
end Go.Proofs.Ytmibgiblejpgdaa
