/- A text in quotes, read. -/
import Derived.Test.YteibdplpbcobbaaQf
import Derived.Test.YteibdplpbcobbaaQb
namespace Go.Proofs.Yteibdplpbcobbaa
open Go.RowKit Abs
section
variable {n d b p : Nat} {h : AHeap} {u : Bytes} {Q : ARes → AHeap → Prop}
theorem take_r (k : Rd h b u p) (hb : b < h.next) (hp : p ≤ u.length) (hu : u.length ≤ 1000000) (c : Nat) : Step b u h (world n (d + 4) 54 [.ptr b 0, .int .u8 (c : Int)] h) (if at? u p = some c then .ok (.tup [], p + 1) else .error (6, p)) := by
  have hs := skips_r (n := n) (d := d) k hb hp hu c
  by_cases hc : at? u p = some c
  · rw [if_pos hc, decide_eq_true hc] at hs
    rw [if_pos hc]
    refine Step.ok_of ?_
    rw [w_pattern_reader_take]
    unfold pattern_reader_take
    refine Wp.stepN hs fun h' k1 k2 => ?_
    repeat (first | (with_reducible first | refine Wp.join0 (fun _ _ => ?_) | refine Wp.join1 (fun _ _ => ?_) | refine Wp.join2 (fun _ _ => ?_)) | ((with_reducible first | refine Wp.lettw ?_ ?_ ?_ | refine Wp.lettu64 ?_ ?_ ?_ | refine Wp.lettu8 ?_ ?_ ?_ | refine Wp.lettu32 ?_ ?_ ?_); omega; omega) | (with_reducible refine Wp.lett ?_) | ((with_reducible apply Wp.obind); first | (with_reducible first | exact avInt_int _ _ | exact avBool_bool _ | exact avStr_str _ | exact nilC_ptr _ _ | exact fldP_ptr _ _ _ | exact avAgg_agg _ | exact extT_0 _ _ | exact extT_1 _ _ _ | exact extT_2 _ _ _ _ | assumption) | ((with_reducible first | apply RowH.cell' | apply RowH.ldAll); (with_reducible assumption); rfl)) | ((with_reducible refine Wp.ift ?_ ?_); first | (with_reducible first | rfl | assumption | exact Bool.not_false) | ((with_reducible first | apply decide_eq_true | apply not_df | apply bne_t | apply beq_t); omega)) | ((with_reducible refine Wp.iff ?_ ?_); first | (with_reducible first | rfl | assumption | exact Bool.not_true) | ((with_reducible first | apply decide_eq_false | apply not_dt | apply bne_f | apply beq_f); omega)) | ((with_reducible first | apply Wp.callN | apply Wp.callK); (with_reducible assumption)) | ((with_reducible apply Wp.outK); (with_reducible assumption)) | (with_reducible first | refine Wp.go0 (by assumption) ?_ | refine Wp.go1 (by assumption) ?_ | refine Wp.go2 (by assumption) ?_) | rw [newP_eq])
    exact Wp.ret ⟨rfl, k1, k2⟩
  · rw [if_neg hc, decide_eq_false hc] at hs
    rw [if_neg hc]
    refine Step.err_of ?_
    rw [w_pattern_reader_take]
    unfold pattern_reader_take
    refine Wp.stepN hs fun h' k1 k2 => ?_
    have hr := refuse_r (n := n) (d := d + 2) (h := h') 6 p
    repeat (first | (with_reducible first | refine Wp.join0 (fun _ _ => ?_) | refine Wp.join1 (fun _ _ => ?_) | refine Wp.join2 (fun _ _ => ?_)) | ((with_reducible first | refine Wp.lettw ?_ ?_ ?_ | refine Wp.lettu64 ?_ ?_ ?_ | refine Wp.lettu8 ?_ ?_ ?_ | refine Wp.lettu32 ?_ ?_ ?_); omega; omega) | (with_reducible refine Wp.lett ?_) | ((with_reducible apply Wp.obind); first | (with_reducible first | exact avInt_int _ _ | exact avBool_bool _ | exact avStr_str _ | exact nilC_ptr _ _ | exact fldP_ptr _ _ _ | exact avAgg_agg _ | exact extT_0 _ _ | exact extT_1 _ _ _ | exact extT_2 _ _ _ _ | assumption) | ((with_reducible first | apply RowH.cell' | apply RowH.ldAll); (with_reducible assumption); rfl)) | ((with_reducible refine Wp.ift ?_ ?_); first | (with_reducible first | rfl | assumption | exact Bool.not_false) | ((with_reducible first | apply decide_eq_true | apply not_df | apply bne_t | apply beq_t); omega)) | ((with_reducible refine Wp.iff ?_ ?_); first | (with_reducible first | rfl | assumption | exact Bool.not_true) | ((with_reducible first | apply decide_eq_false | apply not_dt | apply bne_f | apply beq_f); omega)) | ((with_reducible first | apply Wp.callN | apply Wp.callK); (with_reducible assumption)) | ((with_reducible apply Wp.outK); (with_reducible assumption)) | (with_reducible first | refine Wp.go0 (by assumption) ?_ | refine Wp.go1 (by assumption) ?_ | refine Wp.go2 (by assumption) ?_) | rw [newP_eq])
    exact Wp.callP hr ⟨rfl, p, k1, k2⟩
theorem quoted_loop {most : Int} {bb : Nat} {hp0 : AHeap} (ebb : newP hp0 = .ptr bb 0) {H0 : AHeap} (hb : b < H0.next) (hbb : bb < H0.next) (hne : b ≠ bb) (hu : u.length ≤ 1000000) (hn : 16 < n) (hxB : memB TBld H0.ex = true) (hx8 : memB TU8 H0.ex = false) {k10 : AHeap → R} :
    ∀ (fuel f p c : Nat) (acc : Bytes) (H : AHeap), fuel < f → u.length + 1 ≤ fuel + p → p ≤ u.length → acc.length ≤ p → Rd H b u p → BldW H bb c acc → (c = bb ∨ H0.next ≤ c) → Tch [b, bb] H0 H →
      (∀ l q c' H', scanQ u most fuel p acc = .ok l q → l.length ≤ u.length → Rd H' b u q → BldW H' bb c' l → (c' = bb ∨ H0.next ≤ c') → Tch [b, bb] H0 H' → Wp (k10 H') Q) →
      (∀ e q p' H', scanQ u most fuel p acc = .bad e q → Rd H' b u p' → Tch [b, bb] H0 H' → Q (.panic (PanA e q)) H') →
      Wp (pattern_reader_quoted_L0 (world n (d + 5)) (.ptr b 0) most hp0 k10 f H) Q
  | 0, f, p, c, acc, H, hf, hfu, hp, _, _, _, _, _, _, _ => by omega
  | fuel + 1, f + 1, p, c, acc, H, hf, hfu, hp, hacc, k, B, hc, t, hok, hbad => by
    rw [pattern_reader_quoted_L0_s]
    unfold pattern_reader_quoted_L0b
    have n0 := t.1
    have hs := skips_r (n := n) (d := d + 2) k (by omega) hp hu 34
    by_cases hq : at? u p = some 34
    · rw [if_pos hq, decide_eq_true hq] at hs
      have hok' := hok acc (p + 1) 
      refine Wp.stepN hs fun h1 k1 t1 => ?_
      obtain ⟨hpl, _⟩ := at?_some hq
      repeat (first | (with_reducible first | refine Wp.join0 (fun _ _ => ?_) | refine Wp.join1 (fun _ _ => ?_) | refine Wp.join2 (fun _ _ => ?_)) | ((with_reducible first | refine Wp.lettw ?_ ?_ ?_ | refine Wp.lettu64 ?_ ?_ ?_ | refine Wp.lettu8 ?_ ?_ ?_ | refine Wp.lettu32 ?_ ?_ ?_); omega; omega) | (with_reducible refine Wp.lett ?_) | ((with_reducible apply Wp.obind); first | (with_reducible first | exact avInt_int _ _ | exact avBool_bool _ | exact avStr_str _ | exact nilC_ptr _ _ | exact fldP_ptr _ _ _ | exact avAgg_agg _ | exact extT_0 _ _ | exact extT_1 _ _ _ | exact extT_2 _ _ _ _ | assumption) | ((with_reducible first | apply RowH.cell' | apply RowH.ldAll); (with_reducible assumption); rfl)) | ((with_reducible refine Wp.ift ?_ ?_); first | (with_reducible first | rfl | assumption | exact Bool.not_false) | ((with_reducible first | apply decide_eq_true | apply not_df | apply bne_t | apply beq_t); omega)) | ((with_reducible refine Wp.iff ?_ ?_); first | (with_reducible first | rfl | assumption | exact Bool.not_true) | ((with_reducible first | apply decide_eq_false | apply not_dt | apply bne_f | apply beq_f); omega)) | ((with_reducible first | apply Wp.callN | apply Wp.callK); (with_reducible assumption)) | ((with_reducible apply Wp.outK); (with_reducible assumption)) | (with_reducible first | refine Wp.go0 (by assumption) ?_ | refine Wp.go1 (by assumption) ?_ | refine Wp.go2 (by assumption) ?_) | rw [newP_eq])
      exact hok acc (p + 1) c h1 (by rw [scanQ, if_pos hq]) (by omega) k1 (B.tch t1 (by simpa using Ne.symm hne) (by simp; omega)) hc (t.trans (t1.mono (by simp)))
    · rw [if_neg hq, decide_eq_false hq] at hs
      refine Wp.stepN hs fun h1 k1 t1 => ?_
      have B1 := B.tch t1 (by simpa using Ne.symm hne) (by simp; omega)
      have tt1 : Tch [b, bb] H0 h1 := t.trans (t1.mono (by simp))
      have n1 := t1.1
      have hl := len_r (n := n) (d := d + 4) B1
      rw [ebb]
      by_cases hm : (acc.length : Int) = most
      · have hr := refuse_r (n := n) (d := d + 4) (h := h1) 3 p
        repeat (first | (with_reducible first | refine Wp.join0 (fun _ _ => ?_) | refine Wp.join1 (fun _ _ => ?_) | refine Wp.join2 (fun _ _ => ?_)) | ((with_reducible first | refine Wp.lettw ?_ ?_ ?_ | refine Wp.lettu64 ?_ ?_ ?_ | refine Wp.lettu8 ?_ ?_ ?_ | refine Wp.lettu32 ?_ ?_ ?_); omega; omega) | (with_reducible refine Wp.lett ?_) | ((with_reducible apply Wp.obind); first | (with_reducible first | exact avInt_int _ _ | exact avBool_bool _ | exact avStr_str _ | exact nilC_ptr _ _ | exact fldP_ptr _ _ _ | exact avAgg_agg _ | exact extT_0 _ _ | exact extT_1 _ _ _ | exact extT_2 _ _ _ _ | assumption) | ((with_reducible first | apply RowH.cell' | apply RowH.ldAll); (with_reducible assumption); rfl)) | ((with_reducible refine Wp.ift ?_ ?_); first | (with_reducible first | rfl | assumption | exact Bool.not_false) | ((with_reducible first | apply decide_eq_true | apply not_df | apply bne_t | apply beq_t); omega)) | ((with_reducible refine Wp.iff ?_ ?_); first | (with_reducible first | rfl | assumption | exact Bool.not_true) | ((with_reducible first | apply decide_eq_false | apply not_dt | apply bne_f | apply beq_f); omega)) | ((with_reducible first | apply Wp.callN | apply Wp.callK); (with_reducible assumption)) | ((with_reducible apply Wp.outK); (with_reducible assumption)) | (with_reducible first | refine Wp.go0 (by assumption) ?_ | refine Wp.go1 (by assumption) ?_ | refine Wp.go2 (by assumption) ?_) | rw [newP_eq])
        exact Wp.callP hr (hbad 3 p p h1 (by rw [scanQ, if_neg hq, if_pos hm]) k1 tt1)
      · have hfo := form_r (n := n) (d := d) k1 (by omega) hp hu hn hq
        cases hx : formAt u p with
        | bad q =>
          rw [hx] at hfo
          repeat (first | (with_reducible first | refine Wp.join0 (fun _ _ => ?_) | refine Wp.join1 (fun _ _ => ?_) | refine Wp.join2 (fun _ _ => ?_)) | ((with_reducible first | refine Wp.lettw ?_ ?_ ?_ | refine Wp.lettu64 ?_ ?_ ?_ | refine Wp.lettu8 ?_ ?_ ?_ | refine Wp.lettu32 ?_ ?_ ?_); omega; omega) | (with_reducible refine Wp.lett ?_) | ((with_reducible apply Wp.obind); first | (with_reducible first | exact avInt_int _ _ | exact avBool_bool _ | exact avStr_str _ | exact nilC_ptr _ _ | exact fldP_ptr _ _ _ | exact avAgg_agg _ | exact extT_0 _ _ | exact extT_1 _ _ _ | exact extT_2 _ _ _ _ | assumption) | ((with_reducible first | apply RowH.cell' | apply RowH.ldAll); (with_reducible assumption); rfl)) | ((with_reducible refine Wp.ift ?_ ?_); first | (with_reducible first | rfl | assumption | exact Bool.not_false) | ((with_reducible first | apply decide_eq_true | apply not_df | apply bne_t | apply beq_t); omega)) | ((with_reducible refine Wp.iff ?_ ?_); first | (with_reducible first | rfl | assumption | exact Bool.not_true) | ((with_reducible first | apply decide_eq_false | apply not_dt | apply bne_f | apply beq_f); omega)) | ((with_reducible first | apply Wp.callN | apply Wp.callK); (with_reducible assumption)) | ((with_reducible apply Wp.outK); (with_reducible assumption)) | (with_reducible first | refine Wp.go0 (by assumption) ?_ | refine Wp.go1 (by assumption) ?_ | refine Wp.go2 (by assumption) ?_) | rw [newP_eq])
          exact Wp.stepE hfo fun h2 p2 k2 t2 => hbad 6 q p2 h2 (by rw [scanQ, if_neg hq, if_neg hm, hx]) k2 (tt1.trans (t2.mono (by simp)))
        | ok v q =>
          rw [hx] at hfo
          obtain ⟨hv, hq1, hq2⟩ := formAt_ok hx
          repeat (first | (with_reducible first | refine Wp.join0 (fun _ _ => ?_) | refine Wp.join1 (fun _ _ => ?_) | refine Wp.join2 (fun _ _ => ?_)) | ((with_reducible first | refine Wp.lettw ?_ ?_ ?_ | refine Wp.lettu64 ?_ ?_ ?_ | refine Wp.lettu8 ?_ ?_ ?_ | refine Wp.lettu32 ?_ ?_ ?_); omega; omega) | (with_reducible refine Wp.lett ?_) | ((with_reducible apply Wp.obind); first | (with_reducible first | exact avInt_int _ _ | exact avBool_bool _ | exact avStr_str _ | exact nilC_ptr _ _ | exact fldP_ptr _ _ _ | exact avAgg_agg _ | exact extT_0 _ _ | exact extT_1 _ _ _ | exact extT_2 _ _ _ _ | assumption) | ((with_reducible first | apply RowH.cell' | apply RowH.ldAll); (with_reducible assumption); rfl)) | ((with_reducible refine Wp.ift ?_ ?_); first | (with_reducible first | rfl | assumption | exact Bool.not_false) | ((with_reducible first | apply decide_eq_true | apply not_df | apply bne_t | apply beq_t); omega)) | ((with_reducible refine Wp.iff ?_ ?_); first | (with_reducible first | rfl | assumption | exact Bool.not_true) | ((with_reducible first | apply decide_eq_false | apply not_dt | apply bne_f | apply beq_f); omega)) | ((with_reducible first | apply Wp.callN | apply Wp.callK); (with_reducible assumption)) | ((with_reducible apply Wp.outK); (with_reducible assumption)) | (with_reducible first | refine Wp.go0 (by assumption) ?_ | refine Wp.go1 (by assumption) ?_ | refine Wp.go2 (by assumption) ?_) | rw [newP_eq])
          refine Wp.stepK hfo fun h2 k2 t2 => ?_
          have B2 := B1.tch t2 (by simpa using Ne.symm hne) (by simp; omega)
          have tt2 : Tch [b, bb] H0 h2 := tt1.trans (t2.mono (by simp))
          have n2 := t2.1
          obtain ⟨c', h3, e3, B3, hc', t3⟩ := writeByte_r (n := n) (d := d + 3) B2 (by rw [tt2.2.1]; exact hxB) (by rw [tt2.2.1]; exact hx8) hv (by omega)
          have hbc : b ≠ c := by omega
          repeat (first | (with_reducible first | refine Wp.join0 (fun _ _ => ?_) | refine Wp.join1 (fun _ _ => ?_) | refine Wp.join2 (fun _ _ => ?_)) | ((with_reducible first | refine Wp.lettw ?_ ?_ ?_ | refine Wp.lettu64 ?_ ?_ ?_ | refine Wp.lettu8 ?_ ?_ ?_ | refine Wp.lettu32 ?_ ?_ ?_); omega; omega) | (with_reducible refine Wp.lett ?_) | ((with_reducible apply Wp.obind); first | (with_reducible first | exact avInt_int _ _ | exact avBool_bool _ | exact avStr_str _ | exact nilC_ptr _ _ | exact fldP_ptr _ _ _ | exact avAgg_agg _ | exact extT_0 _ _ | exact extT_1 _ _ _ | exact extT_2 _ _ _ _ | assumption) | ((with_reducible first | apply RowH.cell' | apply RowH.ldAll); (with_reducible assumption); rfl)) | ((with_reducible refine Wp.ift ?_ ?_); first | (with_reducible first | rfl | assumption | exact Bool.not_false) | ((with_reducible first | apply decide_eq_true | apply not_df | apply bne_t | apply beq_t); omega)) | ((with_reducible refine Wp.iff ?_ ?_); first | (with_reducible first | rfl | assumption | exact Bool.not_true) | ((with_reducible first | apply decide_eq_false | apply not_dt | apply bne_f | apply beq_f); omega)) | ((with_reducible first | apply Wp.callN | apply Wp.callK); (with_reducible assumption)) | ((with_reducible apply Wp.outK); (with_reducible assumption)) | (with_reducible first | refine Wp.go0 (by assumption) ?_ | refine Wp.go1 (by assumption) ?_ | refine Wp.go2 (by assumption) ?_) | rw [newP_eq])
          refine quoted_loop ebb hb hbb hne hu hn hxB hx8 fuel f q c' (acc ++ [UInt8.ofNat v]) h3 (by omega) (by omega) hq2 (by simp; omega) (k2.tch t3 (by omega) (by simp; exact ⟨hne, hbc⟩)) B3 (by omega) (tt2.trans' t3 (by intro x hx; simp only [List.mem_cons, List.not_mem_nil, or_false] at hx ⊢; omega)) ?_ ?_
          · intro l q' c'' H' hsc
            exact hok l q' c'' H' (by rw [scanQ, if_neg hq, if_neg hm, hx]; exact hsc)
          · intro e q' p' H' hsc
            exact hbad e q' p' H' (by rw [scanQ, if_neg hq, if_neg hm, hx]; exact hsc)
theorem quoted_r (k : Rd h b u 0) (hb : b < h.next) (hu : u.length ≤ 1000000) (hn : u.length + 20 < n) (most : Int) (hxB : memB TBld h.ex = true) (hx8 : memB TU8 h.ex = false) : Step b u h (world n (d + 6) 37 [.ptr b 0, .int .i64 most] h) (match quotedQ u most with
    | .ok l q => .ok (strA l, q)
    | .bad e q => .error (e, q)) := by
  have ht := take_r (n := n) (d := d + 1) k hb (Nat.zero_le _) hu 34
  unfold quotedQ
  by_cases hq : at? u 0 = some 34
  case neg =>
    rw [if_neg hq] at ht
    rw [if_neg hq]
    refine Step.err_of ?_
    rw [w_pattern_reader_quoted]
    unfold pattern_reader_quoted
    exact Wp.stepE ht fun h' p' k1 k2 => ⟨rfl, p', k1, k2⟩
  rw [if_pos hq] at ht
  rw [if_pos hq]
  obtain ⟨hpl, _⟩ := at?_some hq
  have main : ∀ Q : ARes → AHeap → Prop, (∀ l q h', scanQ u most (u.length + 1) 1 [] = .ok l q → Rd h' b u q → Tch [b] h h' → Q (.ret (strA l)) h') → (∀ e q p' h', scanQ u most (u.length + 1) 1 [] = .bad e q → Rd h' b u p' → Tch [b] h h' → Q (.panic (PanA e q)) h') → Wp (world n (d + 6) 37 [.ptr b 0, .int .i64 most] h) Q := by
    intro Q h1 h2
    rw [w_pattern_reader_quoted]
    unfold pattern_reader_quoted
    refine Wp.stepK ht fun h3 k3 t3 => ?_
    have n3 := t3.1
    have tN : Tch [] h3 (newH h3 TBld [.nilp, .nsl]) := Tch.newH _ _ _ _
    have B0 := BldR.new TBld TU8 h3
    have nN := next_newH h3 TBld [.nilp, .nsl]
    have k4 := k3.tch tN (by omega) (by simp)
    (first | (with_reducible first | refine Wp.join0 (fun _ _ => ?_) | refine Wp.join1 (fun _ _ => ?_) | refine Wp.join2 (fun _ _ => ?_)) | ((with_reducible first | refine Wp.lettw ?_ ?_ ?_ | refine Wp.lettu64 ?_ ?_ ?_ | refine Wp.lettu8 ?_ ?_ ?_ | refine Wp.lettu32 ?_ ?_ ?_); omega; omega) | (with_reducible refine Wp.lett ?_) | ((with_reducible apply Wp.obind); first | (with_reducible first | exact avInt_int _ _ | exact avBool_bool _ | exact avStr_str _ | exact nilC_ptr _ _ | exact fldP_ptr _ _ _ | exact avAgg_agg _ | exact extT_0 _ _ | exact extT_1 _ _ _ | exact extT_2 _ _ _ _ | assumption) | ((with_reducible first | apply RowH.cell' | apply RowH.ldAll); (with_reducible assumption); rfl)) | ((with_reducible refine Wp.ift ?_ ?_); first | (with_reducible first | rfl | assumption | exact Bool.not_false) | ((with_reducible first | apply decide_eq_true | apply not_df | apply bne_t | apply beq_t); omega)) | ((with_reducible refine Wp.iff ?_ ?_); first | (with_reducible first | rfl | assumption | exact Bool.not_true) | ((with_reducible first | apply decide_eq_false | apply not_dt | apply bne_f | apply beq_f); omega)) | ((with_reducible first | apply Wp.callN | apply Wp.callK); (with_reducible assumption)) | ((with_reducible apply Wp.outK); (with_reducible assumption)) | (with_reducible first | refine Wp.go0 (by assumption) ?_ | refine Wp.go1 (by assumption) ?_ | refine Wp.go2 (by assumption) ?_) | rw [newP_eq])
    generalize newH h3 TBld [.nilp, .nsl] = h4 at *
    (first | (with_reducible first | refine Wp.join0 (fun _ _ => ?_) | refine Wp.join1 (fun _ _ => ?_) | refine Wp.join2 (fun _ _ => ?_)) | ((with_reducible first | refine Wp.lettw ?_ ?_ ?_ | refine Wp.lettu64 ?_ ?_ ?_ | refine Wp.lettu8 ?_ ?_ ?_ | refine Wp.lettu32 ?_ ?_ ?_); omega; omega) | (with_reducible refine Wp.lett ?_) | ((with_reducible apply Wp.obind); first | (with_reducible first | exact avInt_int _ _ | exact avBool_bool _ | exact avStr_str _ | exact nilC_ptr _ _ | exact fldP_ptr _ _ _ | exact avAgg_agg _ | exact extT_0 _ _ | exact extT_1 _ _ _ | exact extT_2 _ _ _ _ | assumption) | ((with_reducible first | apply RowH.cell' | apply RowH.ldAll); (with_reducible assumption); rfl)) | ((with_reducible refine Wp.ift ?_ ?_); first | (with_reducible first | rfl | assumption | exact Bool.not_false) | ((with_reducible first | apply decide_eq_true | apply not_df | apply bne_t | apply beq_t); omega)) | ((with_reducible refine Wp.iff ?_ ?_); first | (with_reducible first | rfl | assumption | exact Bool.not_true) | ((with_reducible first | apply decide_eq_false | apply not_dt | apply bne_f | apply beq_f); omega)) | ((with_reducible first | apply Wp.callN | apply Wp.callK); (with_reducible assumption)) | ((with_reducible apply Wp.outK); (with_reducible assumption)) | (with_reducible first | refine Wp.go0 (by assumption) ?_ | refine Wp.go1 (by assumption) ?_ | refine Wp.go2 (by assumption) ?_) | rw [newP_eq])
    rename_i k10 hk10
    have tb : ∀ {h' : AHeap}, Tch [b, h3.next] h4 h' → Tch [b] h h' := fun t => (t3.trans (tN.mono (by simp))).trans' t (by intro x hx; simp only [List.mem_cons, List.not_mem_nil, or_false] at hx ⊢; omega)
    refine quoted_loop (newP_eq h3) (H0 := h4) (by omega) (by omega) (by omega) hu (by omega) (by rw [tN.2.1, t3.2.1]; exact hxB) (by rw [tN.2.1, t3.2.1]; exact hx8) (u.length + 1) n 1 h3.next [] h4 (by omega) (by omega) (by omega) (by simp) k4 B0 (.inl rfl) (Tch.refl _ _) ?_ ?_
    · intro l q c' H' hsc hl k5 B5 hc5 t5
      obtain ⟨h6, e6, t6⟩ := string_r (n := n) (d := d + 4) B5 (by omega)
      have hbc : b ≠ c' := by omega
      repeat (first | (with_reducible first | refine Wp.join0 (fun _ _ => ?_) | refine Wp.join1 (fun _ _ => ?_) | refine Wp.join2 (fun _ _ => ?_)) | ((with_reducible first | refine Wp.lettw ?_ ?_ ?_ | refine Wp.lettu64 ?_ ?_ ?_ | refine Wp.lettu8 ?_ ?_ ?_ | refine Wp.lettu32 ?_ ?_ ?_); omega; omega) | (with_reducible refine Wp.lett ?_) | ((with_reducible apply Wp.obind); first | (with_reducible first | exact avInt_int _ _ | exact avBool_bool _ | exact avStr_str _ | exact nilC_ptr _ _ | exact fldP_ptr _ _ _ | exact avAgg_agg _ | exact extT_0 _ _ | exact extT_1 _ _ _ | exact extT_2 _ _ _ _ | assumption) | ((with_reducible first | apply RowH.cell' | apply RowH.ldAll); (with_reducible assumption); rfl)) | ((with_reducible refine Wp.ift ?_ ?_); first | (with_reducible first | rfl | assumption | exact Bool.not_false) | ((with_reducible first | apply decide_eq_true | apply not_df | apply bne_t | apply beq_t); omega)) | ((with_reducible refine Wp.iff ?_ ?_); first | (with_reducible first | rfl | assumption | exact Bool.not_true) | ((with_reducible first | apply decide_eq_false | apply not_dt | apply bne_f | apply beq_f); omega)) | ((with_reducible first | apply Wp.callN | apply Wp.callK); (with_reducible assumption)) | ((with_reducible apply Wp.outK); (with_reducible assumption)) | (with_reducible first | refine Wp.go0 (by assumption) ?_ | refine Wp.go1 (by assumption) ?_ | refine Wp.go2 (by assumption) ?_) | rw [newP_eq])
      refine Wp.ret (h1 l q h6 hsc (k5.tch t6 (lt_tch (tb t5) hb) (by simp; omega)) ?_)
      exact (tb t5).trans' t6 (by intro x hx; simp only [List.mem_cons, List.not_mem_nil, or_false] at hx ⊢; omega)
    · intro e q p' H' hsc k5 t5
      exact h2 e q p' H' hsc k5 (tb t5)
  cases hsc : scanQ u most (u.length + 1) 1 [] with
  | ok l q =>
    rw [hsc] at main
    refine Step.ok_of (main _ (fun l' q' h' e k1 k2 => ?_) (fun e q p' h' hh => by cases hh))
    cases e
    exact ⟨rfl, k1, k2⟩
  | bad e q =>
    rw [hsc] at main
    refine Step.err_of (main _ (fun l' q' h' e k1 k2 => by cases e) (fun e q p' h' hh k1 k2 => ?_))
    cases hh
    exact ⟨rfl, p', k1, k2⟩
end
end Go.Proofs.Yteibdplpbcobbaa
