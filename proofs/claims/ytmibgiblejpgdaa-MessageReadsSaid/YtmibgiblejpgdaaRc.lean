/- Whether a message may be: the document's answer. -/
import Derived.Test.YtmibgiblejpgdaaFoA
namespace Go.Proofs.Ytmibgiblejpgdaa
open Go.RowKit Abs
section
variable {n d b c N : Nat} {h : AHeap} {m : Ms} {es : List (Int × Bytes)} {Q : ARes → AHeap → Prop}
theorem rck_loop1 {k33 : AHeap → R} (kc : RowH h c 3 (numsC m)) (hk : right m → Wp (k33 h) Q) (hf : ¬ right m → Q (.ret (.int .i64 2)) h) :
    ∀ (f i : Nat), 15 < f + i → i ≤ 15 → (∀ j : Fin 15, j.val < i → 0 ≤ m.nums j ∧ m.nums j ≤ mostOf j.val) → Wp (ref17_Check_L1 (.sl c 0 15 1) k33 f (i : Int) h) Q
  | 0, i, h1, h2, _ => by omega
  | f + 1, i, h1, h2, hj => by
    rw [ref17_Check_L1_s]
    unfold ref17_Check_L1b
    refine Wp.obind (show lenL (.sl c 0 15 1) = some (15 : Int) from rfl) ?_
    by_cases hi : i < 15
    · have ei := idxP_sl (sz := 1) (b := c) (o := 0) (k := 1) hi
      rw [Nat.zero_add, Nat.mul_one] at ei
      have el := kc.cell' (numsC_at m ⟨i, hi⟩)
      have bad : ¬ (0 ≤ m.nums ⟨i, hi⟩ ∧ m.nums ⟨i, hi⟩ ≤ mostOf i) → Wp (some (ARes.ret (.int .i64 2), h)) Q := fun hh => Wp.ret (hf fun hr => hh (hr ⟨i, hi⟩))
      have good : (0 ≤ m.nums ⟨i, hi⟩ ∧ m.nums ⟨i, hi⟩ ≤ mostOf i) → Wp (ref17_Check_L1 (.sl c 0 15 1) k33 f ((i + 1 : Nat) : Int) h) Q := fun hh => by
        refine rck_loop1 kc hk hf f (i + 1) (by omega) (by omega) fun j hji => ?_
        by_cases hj2 : j.val < i
        · exact hj j hj2
        · have : j = ⟨i, hi⟩ := Fin.ext (show j.val = i by omega)
          rw [this]
          exact hh
      unfold mostOf at bad good
      by_cases c1 : m.nums ⟨i, hi⟩ < 0
      · repeat (first | (with_reducible refine Wp.join1 (fun _ _ => ?_)) | (with_reducible refine Wp.lett ?_) | ((with_reducible apply Wp.obind); (with_reducible first | exact avInt_int _ _ | assumption)) | ((with_reducible refine Wp.ift ?_ ?_); first | (with_reducible rfl) | ((with_reducible apply decide_eq_true); omega)) | (with_reducible refine Wp.go1 (by assumption) ?_))
        exact bad (by omega)
      by_cases c2 : m.nums ⟨i, hi⟩ > 1125899906842624
      · repeat (first | (with_reducible refine Wp.join1 (fun _ _ => ?_)) | (with_reducible refine Wp.lett ?_) | ((with_reducible apply Wp.obind); (with_reducible first | exact avInt_int _ _ | assumption)) | ((with_reducible refine Wp.ift ?_ ?_); first | (with_reducible rfl) | ((with_reducible apply decide_eq_true); omega)) | ((with_reducible refine Wp.iff ?_ ?_); ((with_reducible apply decide_eq_false); omega)) | (with_reducible refine Wp.go1 (by assumption) ?_))
        exact bad (by split <;> omega)
      by_cases c3 : i < 2
      · by_cases c4 : m.nums ⟨i, hi⟩ > 15
        · repeat (first | (with_reducible refine Wp.join1 (fun _ _ => ?_)) | (with_reducible refine Wp.lett ?_) | ((with_reducible apply Wp.obind); (with_reducible first | exact avInt_int _ _ | assumption)) | ((with_reducible refine Wp.ift ?_ ?_); ((with_reducible apply decide_eq_true); omega)) | ((with_reducible refine Wp.iff ?_ ?_); ((with_reducible apply decide_eq_false); omega)) | (with_reducible refine Wp.go1 (by assumption) ?_))
          exact bad (by rw [if_pos c3]; omega)
        · repeat (first | (with_reducible refine Wp.join1 (fun _ _ => ?_)) | ((with_reducible refine Wp.lettw ?_ ?_ ?_); omega; omega) | (with_reducible refine Wp.lett ?_) | ((with_reducible apply Wp.obind); (with_reducible first | exact avInt_int _ _ | assumption)) | ((with_reducible refine Wp.ift ?_ ?_); ((with_reducible apply decide_eq_true); omega)) | ((with_reducible refine Wp.iff ?_ ?_); ((with_reducible apply decide_eq_false); omega)) | (with_reducible refine Wp.go1 (by assumption) ?_))
          rw [show (i : Int) + 1 = ((i + 1 : Nat) : Int) by omega]
          exact good (by rw [if_pos c3]; omega)
      · repeat (first | (with_reducible refine Wp.join1 (fun _ _ => ?_)) | ((with_reducible refine Wp.lettw ?_ ?_ ?_); omega; omega) | (with_reducible refine Wp.lett ?_) | ((with_reducible apply Wp.obind); (with_reducible first | exact avInt_int _ _ | assumption)) | ((with_reducible refine Wp.ift ?_ ?_); ((with_reducible apply decide_eq_true); omega)) | ((with_reducible refine Wp.iff ?_ ?_); first | (with_reducible rfl) | ((with_reducible apply decide_eq_false); omega)) | (with_reducible refine Wp.go1 (by assumption) ?_))
        rw [show (i : Int) + 1 = ((i + 1 : Nat) : Int) by omega]
        exact good (by rw [if_neg c3]; omega)
    · repeat (first | (with_reducible refine Wp.lett ?_) | ((with_reducible refine Wp.iff ?_ ?_); ((with_reducible apply decide_eq_false); omega)))
      exact hk fun j => hj j (by have := j.isLt; omega)
theorem rck_loop0 {k52 : AHeap → R} (kb : RowH h b 30 m.cells) (hs : EntsAt N h m.ents es) (hl : lensOk m es) (hk : k52 = fun h_53 => some (.ret (.int .i64 0), h_53)) :
    ∀ (f i : Nat) (a : Int), es.length < f + i → i ≤ es.length → 0 ≤ a → a ≤ 140737488351232 → Wp (ref17_Check_L0 (.ptr b 0) k52 f a (i : Int) h) fun r h' => r = .ret (.int .i64 (sumCheck a (es.drop i))) ∧ h' = h
  | 0, i, a, h1, h2, _, _ => by omega
  | f + 1, i, a, h1, h2, ha, ha2 => by
    rw [ref17_Check_L0_s]
    unfold ref17_Check_L0b
    by_cases hi : i < es.length
    · obtain ⟨br, _, e1, _, e2, e3⟩ := ents_row hs hi
      have hle := hl.each _ (List.getElem_mem hi)
      have hma := hl.many
      have ll := lenS_nat es[i].2
      rw [List.drop_eq_getElem_cons hi, sumCheck]
      by_cases c1 : es[i].1 < 0
      · repeat (first | (with_reducible refine Wp.join1 (fun _ _ => ?_)) | (with_reducible refine Wp.lett ?_) | ((with_reducible apply Wp.obind); first | (with_reducible first | exact ents_len hs | exact avInt_int _ _ | exact fldP_ptr _ _ _ | assumption) | ((with_reducible apply RowH.cell'); (with_reducible assumption); rfl)) | ((with_reducible refine Wp.ift ?_ ?_); first | (with_reducible rfl) | ((with_reducible apply decide_eq_true); omega)) | (with_reducible refine Wp.go1 (by assumption) ?_))
        rw [if_pos (by omega)]
        exact Wp.ret ⟨rfl, rfl⟩
      by_cases c2 : es[i].1 > 1125899906842624
      · repeat (first | (with_reducible refine Wp.join1 (fun _ _ => ?_)) | (with_reducible refine Wp.lett ?_) | ((with_reducible apply Wp.obind); first | (with_reducible first | exact ents_len hs | exact avInt_int _ _ | exact fldP_ptr _ _ _ | assumption) | ((with_reducible apply RowH.cell'); (with_reducible assumption); rfl)) | ((with_reducible refine Wp.ift ?_ ?_); ((with_reducible apply decide_eq_true); omega)) | ((with_reducible refine Wp.iff ?_ ?_); ((with_reducible apply decide_eq_false); omega)) | (with_reducible refine Wp.go1 (by assumption) ?_))
        rw [if_pos (by omega)]
        exact Wp.ret ⟨rfl, rfl⟩
      rw [if_neg (by omega)]
      by_cases c3 : a + (es[i].2.length : Int) > 3500
      · repeat (first | (with_reducible refine Wp.join1 (fun _ _ => ?_)) | ((with_reducible refine Wp.lettw ?_ ?_ ?_); omega; omega) | (with_reducible refine Wp.lett ?_) | ((with_reducible apply Wp.obind); first | (with_reducible first | exact ents_len hs | exact avInt_int _ _ | exact avStr_str _ | exact fldP_ptr _ _ _ | assumption) | ((with_reducible apply RowH.cell'); (with_reducible assumption); rfl)) | ((with_reducible refine Wp.ift ?_ ?_); ((with_reducible apply decide_eq_true); omega)) | ((with_reducible refine Wp.iff ?_ ?_); ((with_reducible apply decide_eq_false); omega)) | (with_reducible refine Wp.go1 (by assumption) ?_))
        rw [if_pos c3]
        exact Wp.ret ⟨rfl, rfl⟩
      · repeat (first | (with_reducible refine Wp.join1 (fun _ _ => ?_)) | ((with_reducible refine Wp.lettw ?_ ?_ ?_); omega; omega) | (with_reducible refine Wp.lett ?_) | ((with_reducible apply Wp.obind); first | (with_reducible first | exact ents_len hs | exact avInt_int _ _ | exact avStr_str _ | exact fldP_ptr _ _ _ | assumption) | ((with_reducible apply RowH.cell'); (with_reducible assumption); rfl)) | ((with_reducible refine Wp.ift ?_ ?_); ((with_reducible apply decide_eq_true); omega)) | ((with_reducible refine Wp.iff ?_ ?_); ((with_reducible apply decide_eq_false); omega)) | (with_reducible refine Wp.go1 (by assumption) ?_))
        rw [if_neg c3, show (i : Int) + 1 = ((i + 1 : Nat) : Int) by omega]
        exact rck_loop0 kb hs hl hk f (i + 1) _ (by omega) (by omega) (by omega) (by omega)
    · repeat (first | (with_reducible refine Wp.lett ?_) | ((with_reducible apply Wp.obind); first | (with_reducible first | exact ents_len hs | exact fldP_ptr _ _ _) | ((with_reducible apply RowH.cell'); (with_reducible assumption); rfl)) | ((with_reducible refine Wp.iff ?_ ?_); ((with_reducible apply decide_eq_false); omega)) | (with_reducible refine Wp.go0 (by assumption) ?_))
      rw [List.drop_eq_nil_of_le (by omega)]
      exact Wp.ret ⟨rfl, rfl⟩
set_option maxRecDepth 100000 in
theorem refCheck_w (hn : 16 < n) (hn2 : es.length < n) (hs : EntsAt N h m.ents es) (hN : N ≤ h.next) (hl : lensOk m es) (hone : m.cells.all AV.one = true) (hx3 : memB 3 h.ex = false) : world n (d + 2) 16 [.agg m.cells] h = some (.ret (.int .i64 (chkM m es)), h) := by
  apply Wp.eq
  rw [w_ref17_Check]
  refine Wp.gc ?_
  suffices hK : Wp (ref17_Check (world n (d + 1)) n m.cells h) fun r h' => r = .ret (.int .i64 (chkM m es)) ∧ Tch [] h h' from hK.mono fun r h' ⟨e, t⟩ => ⟨t.above, by rw [e]; rfl, e, rfl⟩
  unfold ref17_Check
  refine Wp.outK (box_agg hone) ?_
  have k0 := RowH.new h 30 m.cells
  have t0 : Tch [] h (newH h 30 m.cells) := Tch.newH _ _ _ _
  have n0 := next_newH h 30 m.cells
  rw [newP_eq]
  generalize newH h 30 m.cells = h1 at *
  have hx3' : memB 3 h1.ex = false := by rw [t0.2.1]; exact hx3
  obtain ⟨c, h2, e2, kc, hc, _, t2⟩ := refNumbers_w (n := n) (d := d) (m := m) hone hx3'
  have k2 := k0.tch t2 (by omega) (by simp)
  have hs2 : EntsAt N h2 m.ents es := (hs.tch t0 (by omega) (by simp)).tch t2 (by omega) (by simp)
  have t3 : Tch [] h h2 := t0.trans t2
  have ll := lenS_nat m.data
  have ld := hl.data
  have lm := hl.many
  have no : ¬ headOk m → ARes.ret (.int .i64 2) = ARes.ret (.int .i64 (chkM m es)) ∧ Tch [] h h2 := fun hh => ⟨by unfold chkM; rw [if_neg hh], t3⟩
  by_cases c1 : m.kind < 1
  · repeat (first | (with_reducible refine Wp.join1 (fun _ _ => ?_)) | (with_reducible refine Wp.lett ?_) | ((with_reducible apply Wp.obind); first | (with_reducible first | exact avInt_int _ _ | exact fldP_ptr _ _ _) | ((with_reducible first | apply RowH.cell' | apply RowH.ldAll); (with_reducible assumption); rfl)) | ((with_reducible refine Wp.ift ?_ ?_); first | (with_reducible rfl) | ((with_reducible apply decide_eq_true); omega)) | ((with_reducible apply Wp.callN); (with_reducible exact e2)) | (with_reducible refine Wp.go1 (by assumption) ?_))
    exact Wp.ret (no fun hh => by have := hh.1; omega)
  by_cases c2 : m.kind > 14
  · repeat (first | (with_reducible refine Wp.join1 (fun _ _ => ?_)) | (with_reducible refine Wp.lett ?_) | ((with_reducible apply Wp.obind); first | (with_reducible first | exact avInt_int _ _ | exact fldP_ptr _ _ _) | ((with_reducible first | apply RowH.cell' | apply RowH.ldAll); (with_reducible assumption); rfl)) | ((with_reducible refine Wp.ift ?_ ?_); first | (with_reducible rfl) | ((with_reducible apply decide_eq_true); omega)) | ((with_reducible refine Wp.iff ?_ ?_); ((with_reducible apply decide_eq_false); omega)) | ((with_reducible apply Wp.callN); (with_reducible exact e2)) | (with_reducible refine Wp.go1 (by assumption) ?_))
    exact Wp.ret (no fun hh => by have := hh.2.1; omega)
  by_cases c3 : m.err < 0
  · repeat (first | (with_reducible refine Wp.join1 (fun _ _ => ?_)) | (with_reducible refine Wp.lett ?_) | ((with_reducible apply Wp.obind); first | (with_reducible first | exact avInt_int _ _ | exact fldP_ptr _ _ _) | ((with_reducible first | apply RowH.cell' | apply RowH.ldAll); (with_reducible assumption); rfl)) | ((with_reducible refine Wp.ift ?_ ?_); first | (with_reducible rfl) | ((with_reducible apply decide_eq_true); omega)) | ((with_reducible refine Wp.iff ?_ ?_); ((with_reducible apply decide_eq_false); omega)) | ((with_reducible apply Wp.callN); (with_reducible exact e2)) | (with_reducible refine Wp.go1 (by assumption) ?_))
    exact Wp.ret (no fun hh => by have := hh.2.2.1; omega)
  by_cases c4 : m.err > 999
  · repeat (first | (with_reducible refine Wp.join1 (fun _ _ => ?_)) | (with_reducible refine Wp.lett ?_) | ((with_reducible apply Wp.obind); first | (with_reducible first | exact avInt_int _ _ | exact fldP_ptr _ _ _) | ((with_reducible first | apply RowH.cell' | apply RowH.ldAll); (with_reducible assumption); rfl)) | ((with_reducible refine Wp.ift ?_ ?_); first | (with_reducible rfl) | ((with_reducible apply decide_eq_true); omega)) | ((with_reducible refine Wp.iff ?_ ?_); ((with_reducible apply decide_eq_false); omega)) | ((with_reducible apply Wp.callN); (with_reducible exact e2)) | (with_reducible refine Wp.go1 (by assumption) ?_))
    exact Wp.ret (no fun hh => by have := hh.2.2.2.1; omega)
  by_cases c5 : m.leader < 0
  · repeat (first | (with_reducible refine Wp.join1 (fun _ _ => ?_)) | (with_reducible refine Wp.lett ?_) | ((with_reducible apply Wp.obind); first | (with_reducible first | exact avInt_int _ _ | exact fldP_ptr _ _ _) | ((with_reducible first | apply RowH.cell' | apply RowH.ldAll); (with_reducible assumption); rfl)) | ((with_reducible refine Wp.ift ?_ ?_); first | (with_reducible rfl) | ((with_reducible apply decide_eq_true); omega)) | ((with_reducible refine Wp.iff ?_ ?_); ((with_reducible apply decide_eq_false); omega)) | ((with_reducible apply Wp.callN); (with_reducible exact e2)) | (with_reducible refine Wp.go1 (by assumption) ?_))
    exact Wp.ret (no fun hh => by have := hh.2.2.2.2.1; omega)
  by_cases c6 : m.leader > 3
  · repeat (first | (with_reducible refine Wp.join1 (fun _ _ => ?_)) | (with_reducible refine Wp.lett ?_) | ((with_reducible apply Wp.obind); first | (with_reducible first | exact avInt_int _ _ | exact fldP_ptr _ _ _) | ((with_reducible first | apply RowH.cell' | apply RowH.ldAll); (with_reducible assumption); rfl)) | ((with_reducible refine Wp.ift ?_ ?_); ((with_reducible apply decide_eq_true); omega)) | ((with_reducible refine Wp.iff ?_ ?_); ((with_reducible apply decide_eq_false); omega)) | ((with_reducible apply Wp.callN); (with_reducible exact e2)) | (with_reducible refine Wp.go1 (by assumption) ?_))
    exact Wp.ret (no fun hh => by have := hh.2.2.2.2.2.1; omega)
  repeat (first | (with_reducible first | refine Wp.join0 (fun _ _ => ?_) | refine Wp.join1 (fun _ _ => ?_)) | (with_reducible refine Wp.lett ?_) | ((with_reducible apply Wp.obind); first | (with_reducible first | exact avInt_int _ _ | exact fldP_ptr _ _ _) | ((with_reducible first | apply RowH.cell' | apply RowH.ldAll); (with_reducible assumption); rfl)) | ((with_reducible refine Wp.iff ?_ ?_); ((with_reducible apply decide_eq_false); omega)) | ((with_reducible apply Wp.callN); (with_reducible exact e2)) | (with_reducible refine Wp.go1 (by assumption) ?_))
  rename_i k33 hk33
  refine rck_loop1 kc (fun hr => ?_) (fun hr => no fun hh => hr hh.2.2.2.2.2.2) n 0 (by omega) (by omega) (fun j hj => absurd hj (by omega))
  unfold chkM
  rw [if_pos ⟨by omega, by omega, by omega, by omega, by omega, by omega, hr⟩]
  by_cases c7 : es.length > 4
  · repeat (first | (with_reducible refine Wp.join1 (fun _ _ => ?_)) | (with_reducible refine Wp.lett ?_) | ((with_reducible apply Wp.obind); first | (with_reducible first | exact ents_len hs2 | exact fldP_ptr _ _ _) | ((with_reducible apply RowH.cell'); (with_reducible assumption); rfl)) | ((with_reducible refine Wp.ift ?_ ?_); first | (with_reducible rfl) | ((with_reducible apply decide_eq_true); omega)) | (with_reducible first | refine Wp.go0 (by assumption) ?_ | refine Wp.go1 (by assumption) ?_))
    rw [if_pos (.inl c7)]
    exact Wp.ret ⟨rfl, t3⟩
  by_cases c8 : m.data.length > 3500
  · repeat (first | (with_reducible refine Wp.join1 (fun _ _ => ?_)) | (with_reducible refine Wp.lett ?_) | ((with_reducible apply Wp.obind); first | (with_reducible first | exact ents_len hs2 | exact avStr_str _ | exact fldP_ptr _ _ _) | ((with_reducible apply RowH.cell'); (with_reducible assumption); rfl)) | ((with_reducible refine Wp.ift ?_ ?_); ((with_reducible apply decide_eq_true); omega)) | ((with_reducible refine Wp.iff ?_ ?_); ((with_reducible apply decide_eq_false); omega)) | (with_reducible first | refine Wp.go0 (by assumption) ?_ | refine Wp.go1 (by assumption) ?_))
    rw [if_pos (.inr c8)]
    exact Wp.ret ⟨rfl, t3⟩
  rw [if_neg (by omega)]
  repeat (first | (with_reducible first | refine Wp.join0 (fun _ _ => ?_) | refine Wp.join1 (fun _ _ => ?_)) | (with_reducible refine Wp.lett ?_) | ((with_reducible apply Wp.obind); first | (with_reducible first | exact ents_len hs2 | exact avStr_str _ | exact fldP_ptr _ _ _) | ((with_reducible apply RowH.cell'); (with_reducible assumption); rfl)) | ((with_reducible refine Wp.iff ?_ ?_); ((with_reducible apply decide_eq_false); omega)) | (with_reducible first | refine Wp.go0 (by assumption) ?_ | refine Wp.go1 (by assumption) ?_))
  rename_i k52 hk52
  rw [ll]
  refine (rck_loop0 k2 hs2 hl hk52 n 0 (m.data.length : Int) (by omega) (by omega) (by omega) (by omega)).mono ?_
  rintro r h' ⟨rfl, rfl⟩
  exact ⟨by rw [List.drop_zero], t3⟩
end
end Go.Proofs.Ytmibgiblejpgdaa
