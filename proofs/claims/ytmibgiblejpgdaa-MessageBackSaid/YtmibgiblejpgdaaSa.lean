/- Whether two messages are the same: the document's answer. -/
import Derived.Test.YtmibgiblejpgdaaFoA
import Derived.Test.YtmibgiblejpgdaaAbs49
namespace Go.Proofs.Ytmibgiblejpgdaa
open Go.RowKit Abs

def sameH (m m' : Ms) : Prop := m.nums = m'.nums ∧ m.kind = m'.kind ∧ m.good = m'.good ∧ m.op = m'.op ∧ m.err = m'.err ∧ m.leader = m'.leader ∧ m.data = m'.data
theorem sameH_self (m : Ms) : sameH m m := ⟨rfl, rfl, rfl, rfl, rfl, rfl, rfl⟩
theorem flat42 : flatB Try.prog 42 [1, 2] = true := by kernel_rfl
theorem eq42 (a b : Int × Bytes) : eqOther Try.prog 42 (.agg (entC a)) (.agg (entC b)) = some (decide (a = b)) := by
  have e1 : eqL [1, 2] (entC a) (entC b) = some ((a.1 == b.1) && ((a.2 == b.2) && true)) := eqL_cons rfl (eqCell_int _ _ _) (eqL_cons (kindV_str _) (eqCell_str _ _) rfl)
  rw [eq_flat flat42 e1]
  congr 1
  obtain ⟨a1, a2⟩ := a
  obtain ⟨b1, b2⟩ := b
  simp [Bool.beq_eq_decide_eq]
section
variable {n d b b' c c' N : Nat} {h : AHeap} {m m' : Ms} {es es' : List (Int × Bytes)} {Q : ARes → AHeap → Prop}
theorem same_loop1 {k17 : AHeap → R} (kc : RowH h c 3 (numsC m)) (kc' : RowH h c' 3 (numsC m')) (hk : m.nums = m'.nums → Wp (k17 h) Q) (hf : m.nums ≠ m'.nums → Q (.ret (.bool false)) h) :
    ∀ (f i : Nat), 15 < f + i → i ≤ 15 → (∀ j : Fin 15, j.val < i → m.nums j = m'.nums j) → Wp (ref17_Same_L1 (.sl c 0 15 1) (.sl c' 0 15 1) k17 f (i : Int) h) Q
  | 0, i, h1, h2, _ => by omega
  | f + 1, i, h1, h2, hj => by
    rw [ref17_Same_L1_s]
    unfold ref17_Same_L1b
    refine Wp.obind (show lenL (.sl c 0 15 1) = some (15 : Int) from rfl) ?_
    by_cases hi : i < 15
    · have ei := idxP_sl (sz := 1) (b := c) (o := 0) (k := 1) hi
      have ei' := idxP_sl (sz := 1) (b := c') (o := 0) (k := 1) hi
      rw [Nat.zero_add, Nat.mul_one] at ei ei'
      have el := kc.cell' (numsC_at m ⟨i, hi⟩)
      have el' := kc'.cell' (numsC_at m' ⟨i, hi⟩)
      by_cases he : m.nums ⟨i, hi⟩ = m'.nums ⟨i, hi⟩
      · repeat (first | ((with_reducible refine Wp.lettw ?_ ?_ ?_); omega; omega) | (with_reducible refine Wp.lett ?_) | ((with_reducible apply Wp.obind); (with_reducible first | exact avInt_int _ _ | assumption)) | ((with_reducible refine Wp.ift ?_ ?_); ((with_reducible first | apply decide_eq_true | apply bne_t); omega)) | ((with_reducible refine Wp.iff ?_ ?_); ((with_reducible apply bne_f); omega)))
        rw [show (i : Int) + 1 = ((i + 1 : Nat) : Int) by omega]
        refine same_loop1 kc kc' hk hf f (i + 1) (by omega) (by omega) fun j hji => ?_
        by_cases hj2 : j.val < i
        · exact hj j hj2
        · have : j = ⟨i, hi⟩ := Fin.ext (show j.val = i by omega)
          rw [this]
          exact he
      · repeat (first | (with_reducible refine Wp.lett ?_) | ((with_reducible apply Wp.obind); (with_reducible first | exact avInt_int _ _ | assumption)) | ((with_reducible refine Wp.ift ?_ ?_); ((with_reducible first | apply decide_eq_true | apply bne_t); omega)))
        exact Wp.ret (hf fun hh => he (by rw [hh]))
    · repeat (first | (with_reducible refine Wp.lett ?_) | ((with_reducible refine Wp.iff ?_ ?_); ((with_reducible apply decide_eq_false); omega)))
      exact hk (funext fun j => hj j (by have := j.isLt; omega))
theorem same_loop0 {k50 : AHeap → R} (kb : RowH h b 30 m.cells) (kb' : RowH h b' 30 m'.cells) (hs : EntsAt N h m.ents es) (hs' : EntsAt N h m'.ents es') (hlen : es.length = es'.length) (hbig : es.length ≤ 140737488351232) (hk : es = es' → Wp (k50 h) Q) (hf : es ≠ es' → Q (.ret (.bool false)) h) :
    ∀ (f i : Nat), es.length < f + i → i ≤ es.length → (∀ j (h1 : j < es.length) (h2 : j < es'.length), j < i → es[j] = es'[j]) → Wp (ref17_Same_L0 (.ptr b 0) (.ptr b' 0) k50 f (i : Int) h) Q
  | 0, i, h1, h2, _ => by omega
  | f + 1, i, h1, h2, hj => by
    rw [ref17_Same_L0_s]
    unfold ref17_Same_L0b
    by_cases hi : i < es.length
    · have hi' : i < es'.length := by omega
      obtain ⟨br, _, e1, e2, _, _⟩ := ents_row hs hi
      obtain ⟨br', _, e1', e2', _, _⟩ := ents_row hs' hi'
      by_cases he : es[i] = es'[i]
      · have q : (!decide (es[i] = es'[i])) = false := by simp [he]
        repeat (first | ((with_reducible refine Wp.lettw ?_ ?_ ?_); omega; omega) | (with_reducible refine Wp.lett ?_) | ((with_reducible apply Wp.obind); first | (with_reducible first | exact ents_len hs | exact eq42 _ _ | exact fldP_ptr _ _ _ | assumption) | ((with_reducible apply RowH.cell'); (with_reducible assumption); rfl)) | ((with_reducible refine Wp.ift ?_ ?_); ((with_reducible first | apply decide_eq_true | apply not_df); omega)) | ((with_reducible refine Wp.iff ?_ ?_); (with_reducible assumption)))
        rw [show (i : Int) + 1 = ((i + 1 : Nat) : Int) by omega]
        refine same_loop0 kb kb' hs hs' hlen hbig hk hf f (i + 1) (by omega) (by omega) fun j g1 g2 hji => ?_
        by_cases hj2 : j < i
        · exact hj j g1 g2 hj2
        · have : j = i := by omega
          subst this
          exact he
      · have q : (!decide (es[i] = es'[i])) = true := by simp [he]
        repeat (first | (with_reducible refine Wp.lett ?_) | ((with_reducible apply Wp.obind); first | (with_reducible first | exact ents_len hs | exact eq42 _ _ | exact fldP_ptr _ _ _ | assumption) | ((with_reducible apply RowH.cell'); (with_reducible assumption); rfl)) | ((with_reducible refine Wp.ift ?_ ?_); first | (with_reducible assumption) | ((with_reducible apply decide_eq_true); omega)))
        exact Wp.ret (hf fun hh => he (by subst hh; rfl))
    · repeat (first | (with_reducible refine Wp.lett ?_) | ((with_reducible apply Wp.obind); first | (with_reducible first | exact ents_len hs | exact fldP_ptr _ _ _) | ((with_reducible apply RowH.cell'); (with_reducible assumption); rfl)) | ((with_reducible refine Wp.iff ?_ ?_); ((with_reducible apply decide_eq_false); omega)))
      exact hk (List.ext_getElem hlen fun j g1 g2 => hj j g1 g2 (by omega))
open Classical in
theorem refSame_w (hn : 16 < n) (hn2 : es.length < n) (hs : EntsAt N h m.ents es) (hs' : EntsAt N h m'.ents es') (hN : N ≤ h.next) (hbig : es.length ≤ 140737488351232) (hbig' : es'.length ≤ 140737488351232) (hone : m.cells.all AV.one = true) (hone' : m'.cells.all AV.one = true) (hx3 : memB 3 h.ex = false) :
    world n (d + 2) 17 [.agg m.cells, .agg m'.cells] h = some (.ret (.bool (decide (sameH m m' ∧ es = es'))), h) := by
  apply Wp.eq
  rw [w_ref17_Same]
  refine Wp.gc ?_
  suffices hK : Wp (ref17_Same (world n (d + 1)) n m.cells m'.cells h) fun r h' => r = .ret (.bool (decide (sameH m m' ∧ es = es'))) ∧ Tch [] h h' from hK.mono fun r h' ⟨e, t⟩ => ⟨t.above, by rw [e]; rfl, e, rfl⟩
  unfold ref17_Same
  refine Wp.outK (box_agg hone) ?_
  refine Wp.outK (box_agg hone') ?_
  have k0 := RowH.new h 30 m.cells
  have t0 : Tch [] h (newH h 30 m.cells) := Tch.newH _ _ _ _
  have n0 := next_newH h 30 m.cells
  rw [newP_eq h]
  generalize newH h 30 m.cells = h1 at *
  have k1' := RowH.new h1 30 m'.cells
  have t1 : Tch [] h1 (newH h1 30 m'.cells) := Tch.newH _ _ _ _
  have n1 := next_newH h1 30 m'.cells
  have k1 := k0.tch t1 (by omega) (by simp)
  rw [newP_eq h1]
  generalize newH h1 30 m'.cells = h2 at *
  have t2 : Tch [] h h2 := t0.trans t1
  have x3 : memB 3 h2.ex = false := by rw [t2.2.1]; exact hx3
  obtain ⟨c, h3, e3, kc, hc, hc2, t3⟩ := refNumbers_w (n := n) (d := d) (m := m) hone x3
  have k3 := k1.tch t3 (by omega) (by simp)
  have k3' := k1'.tch t3 (by omega) (by simp)
  obtain ⟨c', h4, e4, kc', hc', _, t4⟩ := refNumbers_w (n := n) (d := d) (m := m') (h := h3) hone' (by rw [t3.2.1]; exact x3)
  have hn3 := t3.1
  have k4 := k3.tch t4 (by omega) (by simp)
  have k4' := k3'.tch t4 (by omega) (by simp)
  have kc4 := kc.tch t4 (by omega) (by simp)
  have tt : Tch [] h h4 := (t2.trans t3).trans t4
  have hs4 := hs.tch tt hN (by simp)
  have hs4' := hs'.tch tt hN (by simp)
  have R30 : reLoad Try.prog h3 30 (.ptr h1.next 0) (.agg m'.cells) = true := reLoad_r (by kernel_rfl) (by kernel_rfl) (k3'.ldAll (n := 22) rfl)
  have no : ¬ (sameH m m' ∧ es = es') → ARes.ret (.bool false) = ARes.ret (.bool (decide (sameH m m' ∧ es = es'))) ∧ Tch [] h h4 := fun hh => ⟨by rw [decide_eq_false hh], tt⟩
  repeat (first | (with_reducible refine Wp.join0 (fun _ _ => ?_)) | ((with_reducible apply Wp.obind); ((with_reducible apply RowH.ldAll); (with_reducible assumption); rfl)) | ((with_reducible apply Wp.callN); (with_reducible first | exact e3 | exact e4)) | ((with_reducible refine Wp.chk ?_ ?_); simp only [R30, Bool.and_self]))
  rename_i k17 hk17
  refine same_loop1 kc4 kc' (fun hN1 => ?_) (fun hN1 => no fun hh => hN1 hh.1.1) n 0 (by omega) (by omega) (fun j hj => absurd hj (by omega))
  by_cases c1 : m.kind = m'.kind
  case neg =>
    repeat (first | (with_reducible refine Wp.join1 (fun _ _ => ?_)) | (with_reducible refine Wp.lett ?_) | ((with_reducible apply Wp.obind); first | (with_reducible first | exact avInt_int _ _ | exact fldP_ptr _ _ _) | ((with_reducible apply RowH.cell'); (with_reducible assumption); rfl)) | ((with_reducible refine Wp.ift ?_ ?_); first | (with_reducible rfl) | ((with_reducible apply bne_t); omega)) | (with_reducible first | refine Wp.go0 (by assumption) ?_ | refine Wp.go1 (by assumption) ?_))
    exact Wp.ret (no fun hh => c1 hh.1.2.1)
  by_cases c2 : m.good = m'.good
  case neg =>
    have c2' : (!m.good == m'.good) = true := by simp [c2]
    repeat (first | (with_reducible refine Wp.join1 (fun _ _ => ?_)) | (with_reducible refine Wp.lett ?_) | ((with_reducible apply Wp.obind); first | (with_reducible first | exact avInt_int _ _ | exact avBool_bool _ | exact fldP_ptr _ _ _) | ((with_reducible apply RowH.cell'); (with_reducible assumption); rfl)) | ((with_reducible refine Wp.ift ?_ ?_); (with_reducible first | rfl | assumption)) | ((with_reducible refine Wp.iff ?_ ?_); ((with_reducible apply bne_f); omega)) | (with_reducible first | refine Wp.go0 (by assumption) ?_ | refine Wp.go1 (by assumption) ?_))
    exact Wp.ret (no fun hh => c2 hh.1.2.2.1)
  have c2' : (!m.good == m'.good) = false := by simp [c2]
  by_cases c3 : m.op = m'.op
  case neg =>
    repeat (first | (with_reducible refine Wp.join1 (fun _ _ => ?_)) | (with_reducible refine Wp.lett ?_) | ((with_reducible apply Wp.obind); first | (with_reducible first | exact avInt_int _ _ | exact avBool_bool _ | exact fldP_ptr _ _ _) | ((with_reducible apply RowH.cell'); (with_reducible assumption); rfl)) | ((with_reducible refine Wp.ift ?_ ?_); first | (with_reducible rfl) | ((with_reducible apply bne_t); omega)) | ((with_reducible refine Wp.iff ?_ ?_); first | (with_reducible assumption) | ((with_reducible apply bne_f); omega)) | (with_reducible first | refine Wp.go0 (by assumption) ?_ | refine Wp.go1 (by assumption) ?_))
    exact Wp.ret (no fun hh => c3 hh.1.2.2.2.1)
  by_cases c4 : m.err = m'.err
  case neg =>
    repeat (first | (with_reducible refine Wp.join1 (fun _ _ => ?_)) | (with_reducible refine Wp.lett ?_) | ((with_reducible apply Wp.obind); first | (with_reducible first | exact avInt_int _ _ | exact avBool_bool _ | exact fldP_ptr _ _ _) | ((with_reducible apply RowH.cell'); (with_reducible assumption); rfl)) | ((with_reducible refine Wp.ift ?_ ?_); first | (with_reducible rfl) | ((with_reducible apply bne_t); omega)) | ((with_reducible refine Wp.iff ?_ ?_); first | (with_reducible assumption) | ((with_reducible apply bne_f); omega)) | (with_reducible first | refine Wp.go0 (by assumption) ?_ | refine Wp.go1 (by assumption) ?_))
    exact Wp.ret (no fun hh => c4 hh.1.2.2.2.2.1)
  by_cases c5 : m.leader = m'.leader
  case neg =>
    repeat (first | (with_reducible refine Wp.join1 (fun _ _ => ?_)) | (with_reducible refine Wp.lett ?_) | ((with_reducible apply Wp.obind); first | (with_reducible first | exact avInt_int _ _ | exact avBool_bool _ | exact fldP_ptr _ _ _) | ((with_reducible apply RowH.cell'); (with_reducible assumption); rfl)) | ((with_reducible refine Wp.ift ?_ ?_); first | (with_reducible rfl) | ((with_reducible apply bne_t); omega)) | ((with_reducible refine Wp.iff ?_ ?_); first | (with_reducible assumption) | ((with_reducible apply bne_f); omega)) | (with_reducible first | refine Wp.go0 (by assumption) ?_ | refine Wp.go1 (by assumption) ?_))
    exact Wp.ret (no fun hh => c5 hh.1.2.2.2.2.2.1)
  by_cases c6 : m.data = m'.data
  case neg =>
    have c6' : (!eqS m.data m'.data) = true := by rw [eqS_false.2 c6]; rfl
    repeat (first | (with_reducible refine Wp.join1 (fun _ _ => ?_)) | (with_reducible refine Wp.lett ?_) | ((with_reducible apply Wp.obind); first | (with_reducible first | exact avInt_int _ _ | exact avBool_bool _ | exact avStr_str _ | exact fldP_ptr _ _ _) | ((with_reducible apply RowH.cell'); (with_reducible assumption); rfl)) | ((with_reducible refine Wp.ift ?_ ?_); (with_reducible first | rfl | assumption)) | ((with_reducible refine Wp.iff ?_ ?_); first | (with_reducible assumption) | ((with_reducible apply bne_f); omega)) | (with_reducible first | refine Wp.go0 (by assumption) ?_ | refine Wp.go1 (by assumption) ?_))
    exact Wp.ret (no fun hh => c6 hh.1.2.2.2.2.2.2)
  have c6' : (!eqS m.data m'.data) = false := by rw [eqS_true.2 c6]; rfl
  by_cases c7 : es.length = es'.length
  case neg =>
    repeat (first | (with_reducible refine Wp.join1 (fun _ _ => ?_)) | (with_reducible refine Wp.lett ?_) | ((with_reducible apply Wp.obind); first | (with_reducible first | exact ents_len hs4 | exact ents_len hs4' | exact avInt_int _ _ | exact avBool_bool _ | exact avStr_str _ | exact fldP_ptr _ _ _) | ((with_reducible apply RowH.cell'); (with_reducible assumption); rfl)) | ((with_reducible refine Wp.ift ?_ ?_); ((with_reducible apply bne_t); omega)) | ((with_reducible refine Wp.iff ?_ ?_); first | (with_reducible assumption) | ((with_reducible apply bne_f); omega)) | (with_reducible first | refine Wp.go0 (by assumption) ?_ | refine Wp.go1 (by assumption) ?_))
    exact Wp.ret (no fun hh => c7 (by rw [hh.2]))
  repeat (first | (with_reducible first | refine Wp.join0 (fun _ _ => ?_) | refine Wp.join1 (fun _ _ => ?_)) | (with_reducible refine Wp.lett ?_) | ((with_reducible apply Wp.obind); first | (with_reducible first | exact ents_len hs4 | exact ents_len hs4' | exact avInt_int _ _ | exact avBool_bool _ | exact avStr_str _ | exact fldP_ptr _ _ _) | ((with_reducible apply RowH.cell'); (with_reducible assumption); rfl)) | ((with_reducible refine Wp.iff ?_ ?_); first | (with_reducible assumption) | ((with_reducible apply bne_f); omega)) | (with_reducible first | refine Wp.go0 (by assumption) ?_ | refine Wp.go1 (by assumption) ?_))
  rename_i k50 hk50
  refine same_loop0 k4 k4' hs4 hs4' c7 hbig (fun he => ?_) (fun he => no fun hh => he hh.2) n 0 (by omega) (by omega) (fun j g1 g2 hj => absurd hj (by omega))
  rw [hk50]
  refine Wp.ret ⟨?_, tt⟩
  rw [decide_eq_true ⟨⟨hN1, c1, c2, c3, c4, c5, c6⟩, he⟩]
end
end Go.Proofs.Ytmibgiblejpgdaa
