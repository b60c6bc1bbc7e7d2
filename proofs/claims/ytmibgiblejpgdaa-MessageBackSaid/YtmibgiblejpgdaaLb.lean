/- MessageBack. -/
import Derived.Test.YtmibgiblejpgdaaBq
import Derived.Test.YtmibgiblejpgdaaLm
import Derived.Test.YtmibgiblejpgdaaEc
namespace Go.Proofs.Ytmibgiblejpgdaa
open Go.RowKit Abs
set_option maxRecDepth 100000 in
set_option maxHeartbeats 2000000 in
open Classical in
/-- the law -/
theorem messageBack_says (h : AHeap) (hX : h.ex = [53]) (xs : List AV) (hP : ArgsP Try.prog h.next h 12 [30, 30, 3, 9] xs) : ∃ h', Says Try.prog 6 xs h (.ret (.bool true)) h' := by
  obtain ⟨_, _, rfl, hp0, hP⟩ := args_cons hP
  obtain ⟨_, _, rfl, hp1, hP⟩ := args_cons hP
  obtain ⟨_, _, rfl, hp2, hP⟩ := args_cons hP
  obtain ⟨_, _, rfl, hp3, hP⟩ := args_cons hP
  obtain rfl := args0 hP
  obtain ⟨m, es, rfl, hsl, hl, hone, hop1, hop2⟩ := msg_of hp0
  obtain ⟨m', es', rfl, hsl', hl', hone', hop1', hop2'⟩ := msg_of hp1
  obtain ⟨cut, rfl, _⟩ := hp2.int Try.underlying3
  obtain ⟨more, rfl, _⟩ := hp3.str Try.underlying9
  obtain ⟨n, hn⟩ : ∃ n, n = es.length + es'.length + 1000 := ⟨_, rfl⟩
  suffices hK : Wp (world n 9 6 [.agg m.cells, .agg m'.cells, .int .i64 cut, strA more] h) fun r _ => r = .ret (.bool true) by
    obtain ⟨_, h', e, rfl⟩ := hK
    exact ⟨h', world_ok n 9 6 _ h _ h' e⟩
  rw [w_law17_MessageBack]
  refine Wp.gc' ?_
  suffices hK : Wp (law17_MessageBack (world n 8) n m.cells m'.cells cut more h) fun r _ => r = .ret (.bool true) from hK.mono fun r h' e => ⟨e, fun _ => e⟩
  unfold law17_MessageBack
  refine Wp.mbox (Mem.nil [] h) hone (fun h1 M1 => ?_)
  refine Wp.mbox M1 hone' (fun h2 Mx => ?_)
  have n2 := Mx.tch.1
  have hs : EntsAt h.next h2 m.ents es := (entsAt_of hsl).tch Mx.tch (Nat.le_refl _) (by simp)
  have hs' : EntsAt h.next h2 m'.ents es' := (entsAt_of hsl').tch Mx.tch (Nat.le_refl _) (by simp)
  have x2 : h2.ex = [53] := Mx.ex.trans hX
  have hwk : world n 8 8 [] h2 = some (.ret (.bool true), h2) := w_true n 7 [] h2
  obtain ⟨g, eg, _⟩ := heavy_w (n := n) (d := 7) (by omega) hs n2 hl.many hone
  obtain ⟨g', eg', _⟩ := heavy_w (n := n) (d := 7) (by omega) hs' n2 hl'.many hone'
  have E2 : Env h2 := ⟨by rw [x2]; rfl, by rw [x2]; rfl, by rw [x2]; rfl⟩
  have en := encode_w (n := n) (d := 2) (m := m) (es := es) (by omega) (by omega) hs n2 hl hone ⟨hop1, hop2⟩ E2
  have en' := encode_w (n := n) (d := 2) (m := m') (es := es') (by omega) (by omega) hs' n2 hl' hone' ⟨hop1', hop2'⟩ E2
  have ll := lenS_nat more
  cases g with
  | true =>
    repeat (first | ((with_reducible apply Wp.obind); (with_reducible exact avBool_bool _)) | ((with_reducible apply Wp.lr1 Mx); rfl) | (with_reducible refine Wp.join1 (fun _ _ => ?_)) | (with_reducible refine Wp.lett ?_) | ((with_reducible refine Wp.ift ?_ ?_); (with_reducible rfl)) | ((with_reducible refine Wp.iff ?_ ?_); (with_reducible exact Bool.not_true)) | ((with_reducible apply Wp.callN); (with_reducible assumption)) | (with_reducible refine Wp.go1 (by assumption) ?_))
    exact Wp.ret rfl
  | false =>
  cases g' with
  | true =>
    repeat (first | ((with_reducible apply Wp.obind); (with_reducible exact avBool_bool _)) | ((with_reducible apply Wp.lr0 Mx); rfl) | ((with_reducible apply Wp.lr1 Mx); rfl) | (with_reducible refine Wp.join1 (fun _ _ => ?_)) | (with_reducible refine Wp.lett ?_) | ((with_reducible refine Wp.ift ?_ ?_); (with_reducible rfl)) | ((with_reducible refine Wp.iff ?_ ?_); (with_reducible first | rfl | exact Bool.not_true)) | ((with_reducible apply Wp.callN); (with_reducible assumption)) | (with_reducible refine Wp.go1 (by assumption) ?_))
    exact Wp.ret rfl
  | false =>
  by_cases hmo : more.length > 4096
  · repeat (first | ((with_reducible apply Wp.obind); (with_reducible exact avBool_bool _)) | ((with_reducible apply Wp.lr0 Mx); rfl) | ((with_reducible apply Wp.lr1 Mx); rfl) | (with_reducible refine Wp.join1 (fun _ _ => ?_)) | (with_reducible refine Wp.lett ?_) | ((with_reducible refine Wp.ift ?_ ?_); ((with_reducible apply decide_eq_true); omega)) | ((with_reducible refine Wp.iff ?_ ?_); (with_reducible first | rfl | exact Bool.not_true)) | ((with_reducible apply Wp.callN); (with_reducible assumption)) | (with_reducible refine Wp.go1 (by assumption) ?_))
    exact Wp.ret rfl
  by_cases hc : chkM m es = 0
  case neg =>
    rw [if_neg hc] at en
    repeat (first | ((with_reducible apply Wp.obind); (with_reducible first | exact avInt_int _ _ | exact avBool_bool _ | exact avStr_str _)) | ((with_reducible apply Wp.lr0 Mx); rfl) | ((with_reducible apply Wp.lr1 Mx); rfl) | (with_reducible refine Wp.join1 (fun _ _ => ?_)) | (with_reducible refine Wp.lett ?_) | ((with_reducible apply Wp.obind); (with_reducible first | exact extT_0 _ _ | exact extT_1 _ _ _)) | ((with_reducible refine Wp.ift ?_ ?_); ((with_reducible first | apply decide_eq_true | apply bne_t); omega)) | ((with_reducible refine Wp.iff ?_ ?_); first | (with_reducible first | rfl | exact Bool.not_true) | ((with_reducible apply decide_eq_false); omega)) | ((with_reducible apply Wp.callN); (with_reducible assumption)) | (with_reducible refine Wp.go1 (by assumption) ?_))
    exact Wp.ret rfl
  rw [if_pos hc, hc] at en
  have hF := fine_of hc
  have hfl := formM_le hF
  repeat (first | ((with_reducible apply Wp.obind); (with_reducible first | exact avInt_int _ _ | exact avBool_bool _ | exact avStr_str _)) | ((with_reducible apply Wp.lr0 Mx); rfl) | ((with_reducible apply Wp.lr1 Mx); rfl) | (with_reducible refine Wp.join1 (fun _ _ => ?_)) | (with_reducible refine Wp.lett ?_) | ((with_reducible apply Wp.obind); (with_reducible first | exact extT_0 _ _ | exact extT_1 _ _ _)) | ((with_reducible refine Wp.iff ?_ ?_); first | (with_reducible first | rfl | exact Bool.not_true) | ((with_reducible first | apply decide_eq_false | apply bne_f); omega)) | ((with_reducible apply Wp.callN); (with_reducible assumption)) | (with_reducible refine Wp.go1 (by assumption) ?_))
  obtain ⟨v1, h3, e3, o3⟩ := decode_w (n := n) (d := 1) (h := h2) (s := formM m es) (by omega) (by omega) x2
  obtain ⟨rb, _⟩ := read_back hF hc ⟨hop1, hop2⟩ (u := formM m es) (more := []) (by simp) v1
  obtain ⟨r1, r2, r3⟩ := rb rfl
  rw [readM_cells, r1] at e3
  have M3 := Mx.keep o3.2.2
  clear Mx
  have hv4 : ∀ H, Tch [] h3 H → ldRow H 22 (.ptr h.next 0) = some m.cells := fun H t => (M3.keep t).at1.1.ldAll rfl
  have hv5 : ∀ H, Tch [] h3 H → ldRow H 22 (.ptr h1.next 0) = some m'.cells := fun H t => (M3.keep t).at0.1.ldAll rfl
  have n3 := M3.tch.1
  have x3 : h3.ex = [53] := M3.ex.trans hX
  have hone1 := readM_one (f := fI) (s := formM m es) o3.1
  have en1 := readM_ents o3
  have Mx := Mem.nil [] h3
  have e3' := e3
  refine Wp.callN e3 ?_
  repeat (first | ((with_reducible apply Wp.obind); (with_reducible exact avInt_int _ _)) | ((with_reducible apply Wp.ld0 Mx); rfl) | ((with_reducible apply Wp.sa0 Mx); rfl; rfl; (rfl); intro _ Mz; clear Mx; have Mx := Mz; clear Mz) | ((with_reducible apply Wp.lr1 Mx); rfl) | ((with_reducible apply Wp.sa1 Mx); rfl; rfl; ((with_reducible assumption)); intro _ Mz; clear Mx; have Mx := Mz; clear Mz) | ((with_reducible apply Wp.mnew Mx); intro _ Mz; clear Mx; have Mx := Mz; clear Mz) | (with_reducible refine Wp.join1 (fun _ _ => ?_)) | (with_reducible refine Wp.lett ?_) | ((with_reducible apply Wp.obind); (with_reducible first | exact hv4 _ Mx.tch | exact avAgg_agg _ | exact extT_0 _ _ | exact extT_1 _ _ _)) | ((with_reducible refine Wp.iff ?_ ?_); ((with_reducible apply bne_f); omega)) | rw [newP_eq])
  have n4 := Mx.tch.1
  have x4 := Mx.ex.trans x3
  have hsx := (en1.tch Mx.tch (Nat.le_refl _) (by simp)).mono n4
  have hm4 := (hs.tch (o3.2.2.trans Mx.tch) n2 (by simp)).mono (show h.next ≤ _ by have := o3.2.2.1; exact Nat.le_trans n2 (Nat.le_trans this n4))
  have hm4' := (hs'.tch (o3.2.2.trans Mx.tch) n2 (by simp)).mono (show h.next ≤ _ by have := o3.2.2.1; exact Nat.le_trans n2 (Nat.le_trans this n4))
  have hle := readE_len fI (formM m es) v1
  have sa1 := refSame_w (n := n) (d := 6) (by omega) (by omega) hsx hm4 (Nat.le_refl _) (by omega) hl.many hone1 hone (by rw [x4]; rfl)
  have sa2 := refSame_w (n := n) (d := 6) (by omega) (by omega) hm4 hm4' (Nat.le_refl _) hl.many hl'.many hone hone' (by rw [x4]; rfl)
  rw [decide_eq_true ⟨r2, r3⟩] at sa1
  have hadd : addS (formM m es) more = some (formM m es ++ more) := addS_val (by omega)
  have fin : ∀ {H : AHeap} {b : Bool}, b = true → Wp (some (ARes.ret (.bool b), H)) fun r _ => r = .ret (.bool true) := fun hb => Wp.ret (by rw [hb])
  by_cases hc' : chkM m' es' = 0
  case' pos =>
    have hF' := fine_of hc'
    have hq : (!(eqS (formM m es) (formM m' es') == decide (sameH m m' ∧ es = es'))) = false := by
      by_cases hs : sameH m m' ∧ es = es'
      · rw [decide_eq_true hs, eqS_true.2 (form_same hs.1 hs.2)]
        rfl
      · rw [decide_eq_false hs, eqS_false.2 (fun he => hs (form_inj hF hF' ⟨hop1, hop2⟩ ⟨hop1', hop2'⟩ he))]
        rfl
    rw [if_pos hc'] at *
    repeat (first | ((with_reducible apply Wp.obind); (with_reducible exact avBool_bool _)) | (with_reducible refine Wp.join1 (fun _ _ => ?_)) | (with_reducible refine Wp.lett ?_) | ((with_reducible apply Wp.obind); (with_reducible first | exact hv4 _ Mx.tch | exact hv5 _ Mx.tch | exact hadd)) | ((with_reducible refine Wp.ift ?_ ?_); ((with_reducible apply beq_t); omega)) | ((with_reducible refine Wp.iff ?_ ?_); (with_reducible first | assumption | exact Bool.not_true)) | ((with_reducible apply Wp.callN); (with_reducible first | exact sa1 | exact sa2)) | (with_reducible refine Wp.go1 (by assumption) ?_))
  case' neg =>
    repeat (first | ((with_reducible apply Wp.obind); (with_reducible exact avBool_bool _)) | (with_reducible refine Wp.join1 (fun _ _ => ?_)) | (with_reducible refine Wp.lett ?_) | ((with_reducible apply Wp.obind); (with_reducible exact hadd)) | ((with_reducible refine Wp.iff ?_ ?_); first | (with_reducible first | rfl | exact Bool.not_true) | ((with_reducible apply beq_f); omega)) | ((with_reducible apply Wp.callN); (with_reducible exact sa1)) | (with_reducible refine Wp.go1 (by assumption) ?_))
  all_goals
    obtain ⟨v2, h5, e5, o5⟩ := decode_w (n := n) (d := 1) (s := formM m es ++ more) (by rw [List.length_append]; omega) (by omega) x4
    obtain ⟨rc1, rc2⟩ := read_back hF hc ⟨hop1, hop2⟩ (u := formM m es ++ more) (more := more) rfl v2
    obtain ⟨K, hK, hb⟩ : ∃ K : Int, (readC fI (formM m es ++ more) v2).2.1 = K ∧ (!((K == 0) == eqS more ([] : Bytes))) = false := by
      by_cases h0 : more = []
      · exact ⟨0, (rc1 h0).1, by rw [eqS_true.2 h0]; rfl⟩
      · exact ⟨7, rc2 h0, by rw [eqS_false.2 h0]; rfl⟩
    rw [readM_cells, hK] at e5
    have Mz := Mx.keep o5.2.2
    clear Mx
    have Mx := Mz
    clear Mz
    refine Wp.callN e5 ?_
    have ls := lenS_nat (formM m es)
    by_cases k1 : cut < 0
    case pos =>
      repeat (first | ((with_reducible apply Wp.obind); (with_reducible exact avInt_int _ _)) | ((with_reducible apply Wp.ld0 Mx); rfl) | ((with_reducible apply Wp.sa0 Mx); rfl; rfl; (rfl); intro _ Mz; clear Mx; have Mx := Mz; clear Mz) | (with_reducible refine Wp.join1 (fun _ _ => ?_)) | (with_reducible refine Wp.lett ?_) | ((with_reducible apply Wp.obind); (with_reducible first | exact avAgg_agg _ | exact extT_0 _ _ | exact extT_1 _ _ _)) | ((with_reducible refine Wp.ift ?_ ?_); first | (with_reducible rfl) | ((with_reducible apply decide_eq_true); omega)) | ((with_reducible refine Wp.iff ?_ ?_); (with_reducible assumption)) | (with_reducible refine Wp.go1 (by assumption) ?_))
      exact fin rfl
    by_cases k2 : cut ≥ ((formM m es).length : Int)
    case pos =>
      repeat (first | ((with_reducible apply Wp.obind); (with_reducible exact avInt_int _ _)) | ((with_reducible apply Wp.ld0 Mx); rfl) | ((with_reducible apply Wp.sa0 Mx); rfl; rfl; (rfl); intro _ Mz; clear Mx; have Mx := Mz; clear Mz) | (with_reducible refine Wp.join1 (fun _ _ => ?_)) | (with_reducible refine Wp.lett ?_) | ((with_reducible apply Wp.obind); (with_reducible first | exact avAgg_agg _ | exact extT_0 _ _ | exact extT_1 _ _ _)) | ((with_reducible refine Wp.ift ?_ ?_); ((with_reducible apply decide_eq_true); omega)) | ((with_reducible refine Wp.iff ?_ ?_); first | (with_reducible assumption) | ((with_reducible apply decide_eq_false); omega)) | (with_reducible refine Wp.go1 (by assumption) ?_))
      exact fin rfl
    have hsl : sliceS (formM m es) 0 cut = some ((formM m es).take cut.toNat) := by
      have := sliceS_int (l := formM m es) (a := 0) (b := cut) (by omega) (by omega) (by omega)
      simpa using this
    repeat (first | ((with_reducible apply Wp.obind); (with_reducible exact avInt_int _ _)) | ((with_reducible apply Wp.ld0 Mx); rfl) | ((with_reducible apply Wp.sa0 Mx); rfl; rfl; (rfl); intro _ Mz; clear Mx; have Mx := Mz; clear Mz) | (with_reducible refine Wp.join1 (fun _ _ => ?_)) | (with_reducible refine Wp.lett ?_) | ((with_reducible apply Wp.obind); (with_reducible first | exact avAgg_agg _ | exact extT_0 _ _ | exact extT_1 _ _ _ | assumption)) | ((with_reducible refine Wp.iff ?_ ?_); first | (with_reducible assumption) | ((with_reducible apply decide_eq_false); omega)) | (with_reducible refine Wp.go1 (by assumption) ?_))
    obtain ⟨v3, h7, e7, o7⟩ := decode_w (n := n) (d := 1) (s := (formM m es).take cut.toNat) (by rw [List.length_take]; omega) (by omega) (Mx.ex.trans x3)
    have hno := cut_no hF ⟨hop1, hop2⟩ (k := cut.toNat) (by omega) v3
    rw [readM_cells] at e7
    have Mz := Mx.keep o7.2.2
    clear Mx
    have Mx := Mz
    clear Mz
    refine Wp.callN e7 ?_
    repeat (first | ((with_reducible apply Wp.obind); (with_reducible exact avInt_int _ _)) | ((with_reducible apply Wp.ld0 Mx); rfl) | ((with_reducible apply Wp.sa0 Mx); rfl; rfl; (rfl); intro _ Mz; clear Mx; have Mx := Mz; clear Mz) | (with_reducible refine Wp.lett ?_) | ((with_reducible apply Wp.obind); (with_reducible first | exact avAgg_agg _ | exact extT_0 _ _ | exact extT_1 _ _ _)))
    exact fin (bne_t hno)
end Go.Proofs.Ytmibgiblejpgdaa
