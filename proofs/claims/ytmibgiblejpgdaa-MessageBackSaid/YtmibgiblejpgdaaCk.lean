/- Whether a message may be: the program's answer, and the document's. -/
import Derived.Test.YtmibgiblejpgdaaMs
import Derived.Test.YtmibgiblejpgdaaAbs47
namespace Go.Proofs.Ytmibgiblejpgdaa
open Go.RowKit Abs

def zeros22 : List AV := [.int .u8 0, .int .i64 0, .int .i64 0, .int .i64 0, .int .i64 0, .int .i64 0, .int .i64 0, .int .i64 0, .bool false, .nsl, .int .i64 0, .int .i64 0, .str 0 0, .int .i64 0, .int .i64 0, .int .i64 0, .int .i64 0, .int .i64 0, .int .i64 0, .int .u8 0, .int .i64 0, .int .i64 0]
theorem el26 : Abs.elemOf Try.prog 26 = some 42 := by kernel_rfl
theorem not26 : notInt Try.prog 26 = true := by kernel_rfl
theorem fit42 : fitB Try.prog 42 24 = true := by kernel_rfl
set_option maxRecDepth 100000 in
theorem cells42 : Try.prog.cellsOf 42 = 2 := by kernel_rfl
/-- an entry's cells -/
noncomputable def entC (e : Int × Bytes) : List AV := [.int .i64 e.1, strA e.2]
/-- a message's entries, as they lie in memory -/
def EntsAt (N : Nat) (h : AHeap) (x : AV) (es : List (Int × Bytes)) : Prop := lenL x = some (es.length : Int) ∧ (es = [] ∨ ∃ b, b < N ∧ x = .sl b 0 es.length 2 ∧ RowLike h b (es.map entC).flatten)
theorem entsAt_of {N : Nat} {h : AHeap} {x : AV} {es : List (Int × Bytes)} (hs : Slc N h 2 x (es.map entC)) : EntsAt N h x es := by
  refine ⟨by have := hs.len; rwa [List.length_map] at this, ?_⟩
  rcases hs.2 with ⟨h1, _⟩ | ⟨b, _, h2, h3, h4⟩
  · exact .inl (List.map_eq_nil_iff.1 h1)
  · rw [List.length_map] at h3
    exact .inr ⟨b, h2, h3, h4⟩
theorem EntsAt.tch {N : Nat} {h h' : AHeap} {x : AV} {es : List (Int × Bytes)} {S : List Nat} (hs : EntsAt N h x es) (k : Tch S h h') (hN : N ≤ h.next) (hd : ∀ b ∈ S, N ≤ b) : EntsAt N h' x es := by
  refine ⟨hs.1, hs.2.imp id ?_⟩
  rintro ⟨b, h1, h2, h3⟩
  exact ⟨b, h1, h2, h3.same fun o ho => by rw [k.2.2 b (by omega) (fun hm => by have := hd b hm; omega)]; exact ho⟩
def headOk (m : Ms) : Prop := 1 ≤ m.kind ∧ m.kind ≤ 14 ∧ 0 ≤ m.err ∧ m.err ≤ 999 ∧ 0 ≤ m.leader ∧ m.leader ≤ 3 ∧ right m
def sumCheck : Int → List (Int × Bytes) → Int
  | _, [] => 0
  | a, e :: es => if ¬ (0 ≤ e.1 ∧ e.1 ≤ 1125899906842624) then 2 else if a + (e.2.length : Int) > 3500 then 3 else sumCheck (a + (e.2.length : Int)) es
open Classical in
noncomputable def chkM (m : Ms) (es : List (Int × Bytes)) : Int :=
  if headOk m then if es.length > 4 ∨ m.data.length > 3500 then 3 else sumCheck (m.data.length : Int) es else 2
/-- its texts are no greater than memory may be -/
structure lensOk (m : Ms) (es : List (Int × Bytes)) : Prop where
  data : m.data.length ≤ 140737488351232
  each : ∀ e ∈ es, e.2.length ≤ 140737488351232
  many : es.length ≤ 140737488351232
theorem EntsAt.mono {N N' : Nat} {h : AHeap} {x : AV} {es : List (Int × Bytes)} (k : EntsAt N h x es) (hN : N ≤ N') : EntsAt N' h x es := by
  refine ⟨k.1, k.2.imp id ?_⟩
  rintro ⟨b, h2, h3, h4⟩
  exact ⟨b, by omega, h3, h4⟩
theorem ents_row {N : Nat} {h : AHeap} {x : AV} {es : List (Int × Bytes)} (hs : EntsAt N h x es) {i : Nat} (hi : i < es.length) : ∃ b, b < N ∧ idxP 2 x (i : Int) = some (.ptr b (i * 2)) ∧ ldRow h 2 (.ptr b (i * 2)) = some (entC es[i]) ∧ ldCell h (.ptr b (i * 2 + 0)) = some (.int .i64 es[i].1) ∧ ldCell h (.ptr b (i * 2 + 1)) = some (strA es[i].2) := by
  rcases hs.2 with rfl | ⟨b, h0, rfl, g2⟩
  · simp at hi
  have hi' : i < (es.map entC).length := by simpa using hi
  have hall : ∀ l ∈ es.map entC, l.length = 2 := by
    intro l hl
    obtain ⟨e, _, rfl⟩ := List.mem_map.1 hl
    rfl
  have hl := len_same (es.map entC) hall
  have hfl : (es.map entC).flatten.length = es.length * 2 := by rw [hl, List.length_map]
  have hp := flat_part (es.map entC) i hi' hall
  rw [List.getElem_map] at hp
  have e1 := idxP_sl (sz := 2) (b := b) (o := 0) (k := 2) hi
  rw [Nat.zero_add] at e1
  refine ⟨b, h0, e1, (g2.part (by omega)).trans (by rw [hp]), ?_, ?_⟩
  · rw [g2.cell (by omega)]
    have : (es.map entC).flatten[i * 2 + 0]? = some (.int .i64 es[i].1) := by
      have q : (((es.map entC).flatten.drop (i * 2)).take 2)[0]? = some (.int .i64 es[i].1) := by rw [hp]; rfl
      rw [List.getElem?_take_of_lt (by omega), List.getElem?_drop] at q
      exact q
    exact (List.getElem?_eq_getElem (by omega)).symm.trans this
  · rw [g2.cell (by omega)]
    have : (es.map entC).flatten[i * 2 + 1]? = some (strA es[i].2) := by
      have q : (((es.map entC).flatten.drop (i * 2)).take 2)[1]? = some (strA es[i].2) := by rw [hp]; rfl
      rw [List.getElem?_take_of_lt (by omega), List.getElem?_drop] at q
      exact q
    exact (List.getElem?_eq_getElem (by omega)).symm.trans this
theorem ents_len {N : Nat} {h : AHeap} {x : AV} {es : List (Int × Bytes)} (hs : EntsAt N h x es) : lenL x = some (es.length : Int) := hs.1
section
variable {n d b N : Nat} {h : AHeap} {m : Ms} {es : List (Int × Bytes)} {Q : ARes → AHeap → Prop}
open Classical in
theorem numbersRight_w (hn : 16 < n) (k : RowH h b 30 m.cells) (hb : b < h.next) : Wp (world n (d + 2) 33 [.ptr b 0] h) fun r h' => r = .ret (.bool (decide (right m))) ∧ Tch [] h h' := by
  rw [w_message_numbersRight]
  unfold message_numbersRight
  obtain ⟨h1, e1, t1⟩ := numbers_w (n := n) (d := d) (b := b) (h := h)
  have k1 := k.tch t1 hb (by simp)
  refine Wp.callN e1 ?_
  repeat (first | (with_reducible refine Wp.join0 (fun _ _ => ?_)) | ((with_reducible apply Wp.obind); (with_reducible exact avAgg_agg _)))
  rename_i k8 hk8
  obtain ⟨q1, q2⟩ := right_loop (n := n) (d := d) (h := h1) (b := b) (m := m) k1 (k8 := k8) n 0 (by omega) (by omega) (fun j hj => absurd hj (by omega))
  by_cases hr : right m
  · refine Wp.of (q1 hr |>.trans (by rw [hk8])) ⟨?_, t1⟩
    rw [decide_eq_true hr]
  · refine Wp.of (q2 hr) ⟨?_, t1⟩
    rw [decide_eq_false hr]
theorem check_loop (hlen : ∀ e ∈ es, e.2.length ≤ 140737488351232) (hmany : es.length ≤ 140737488351232) {h0 : AHeap} {x : AV} (hN : N ≤ h0.next) {k43 : AHeap → R} (hk : k43 = fun h_44 => some (.ret (.int .i64 0), h_44)) :
    ∀ (f i : Nat) (a : Int) (h : AHeap), es.length < f + i → i ≤ es.length → 0 ≤ a → a ≤ 140737488351232 → EntsAt N h x es → Tch [] h0 h →
      Wp (message_Check_L0 (world n (d + 1)) x (es.length : Int) k43 f a (i : Int) h) fun r h' => r = .ret (.int .i64 (sumCheck a (es.drop i))) ∧ Tch [] h0 h'
  | 0, i, a, h, h1, h2, _, _, _, _ => by omega
  | f + 1, i, a, h, h1, h2, ha, ha2, hs, ht => by
    rw [message_Check_L0_s]
    unfold message_Check_L0b
    by_cases hi : i < es.length
    · obtain ⟨b, hb, e1, e2, _, _⟩ := ents_row hs hi
      have hl := hlen _ (List.getElem_mem hi)
      have hN2 := ht.1
      have ll := lenS_nat es[i].2
      repeat (first | (with_reducible refine Wp.lett ?_) | ((with_reducible apply Wp.obind); (with_reducible assumption)) | ((with_reducible refine Wp.ift ?_ ?_); ((with_reducible apply decide_eq_true); omega)) | rw [newP_eq])
      refine Wp.stAll (RowH.new h 42 [.int .i64 0, .str 0 0]) rfl rfl rfl (fun h1 k1 t1 n1 => ?_)
      have t2 : Tch [] h0 h1 := (ht.trans (Tch.newH _ _ _ _)).trans' t1 (by intro b hb; simp at hb; subst hb; exact .inr (by omega))
      have hs1 : EntsAt N h1 x es := (hs.tch (Tch.newH [] h 42 [.int .i64 0, .str 0 0]) (by omega) (by simp)).tch t1 (by rw [next_newH]; omega) (by simp; omega)
      refine Wp.obind (k1.cell' rfl) ?_
      repeat (first | (with_reducible refine Wp.lett ?_) | ((with_reducible apply Wp.obind); (with_reducible first | exact avInt_int _ _ | exact avBool_bool _)) | ((with_reducible apply Wp.callN); (with_reducible exact within_w _ _)))
      rw [List.drop_eq_getElem_cons hi, sumCheck]
      refine Wp.ifc (fun hc => ?_) (fun hc => ?_)
      · rw [if_pos (nd_t hc)]
        exact Wp.ret ⟨rfl, t2⟩
      · rw [if_neg (fun hh => hh (nd_f hc))]
        refine Wp.obind (k1.cell' rfl) ?_
        repeat (first | ((with_reducible refine Wp.lettw ?_ ?_ ?_); omega; omega) | (with_reducible refine Wp.lett ?_) | ((with_reducible apply Wp.obind); (with_reducible exact avStr_str _)))
        refine Wp.ifc (fun hc => ?_) (fun hc => ?_)
        · rw [decide_eq_true_eq, ll] at hc
          rw [if_pos hc]
          exact Wp.ret ⟨rfl, t2⟩
        · rw [decide_eq_false_iff_not, ll] at hc
          rw [if_neg hc, ll]
          refine Wp.lettw (by omega) (by omega) ?_
          exact check_loop hlen hmany hN hk f (i + 1) _ h1 (by omega) (by omega) (by omega) (by omega) hs1 t2
    · repeat (first | (with_reducible refine Wp.lett ?_) | ((with_reducible refine Wp.iff ?_ ?_); ((with_reducible apply decide_eq_false); omega)) | (with_reducible refine Wp.go0 (by assumption) ?_))
      rw [List.drop_eq_nil_of_le (by omega)]
      exact Wp.ret ⟨rfl, ht⟩
set_option maxRecDepth 100000 in
open Classical in
theorem check_w (hn : 16 < n) (hn2 : es.length < n) (hs : EntsAt N h m.ents es) (hN : N ≤ h.next) (hl : lensOk m es) (hone : m.cells.all AV.one = true) : world n (d + 3) 12 [.agg m.cells] h = some (.ret (.int .i64 (chkM m es)), h) := by
  apply Wp.eq
  rw [w_message_Check]
  refine Wp.gc ?_
  suffices hK : Wp (message_Check (world n (d + 2)) n m.cells h) fun r h' => r = .ret (.int .i64 (chkM m es)) ∧ Tch [] h h' from hK.mono fun r h' ⟨e, t⟩ => ⟨t.above, by rw [e]; rfl, e, rfl⟩
  unfold message_Check
  refine Wp.outK (box_agg hone) ?_
  have k0 := RowH.new h 30 m.cells
  have t0 : Tch [] h (newH h 30 m.cells) := Tch.newH _ _ _ _
  have n0 := next_newH h 30 m.cells
  rw [newP_eq]
  generalize newH h 30 m.cells = h1 at *
  obtain ⟨h2, e2, t2⟩ : ∃ h2, world n (d + 2) 33 [.ptr h.next 0] h1 = some (.ret (.bool (decide (right m))), h2) ∧ Tch [] h1 h2 := Wp.ex (Q := fun h' => Tch [] h1 h') (numbersRight_w hn k0 (by omega))
  have hs2 : EntsAt N h2 m.ents es := (hs.tch t0 (by omega) (by simp)).tch t2 (by omega) (by simp)
  have k2 := k0.tch t2 (by omega) (by simp)
  have t3 : Tch [] h h2 := t0.trans t2
  have ll := lenS_nat m.data
  have ld := hl.data
  have lm := hl.many
  unfold chkM headOk
  generalize hc43 : sumCheck (m.data.length : Int) es = res
  by_cases c1 : m.kind < 1
  · repeat (first | (with_reducible refine Wp.join1 (fun _ _ => ?_)) | (with_reducible refine Wp.lett ?_) | ((with_reducible apply Wp.obind); first | (with_reducible first | exact avInt_int _ _ | exact fldP_ptr _ _ _) | ((with_reducible apply RowH.cell'); (with_reducible assumption); rfl)) | ((with_reducible refine Wp.ift ?_ ?_); first | (with_reducible rfl) | ((with_reducible apply decide_eq_true); omega)) | (with_reducible refine Wp.go1 (by assumption) ?_))
    rw [if_neg (by omega)]
    exact Wp.ret ⟨rfl, t0⟩
  by_cases c2 : m.kind > 14
  · repeat (first | (with_reducible refine Wp.join1 (fun _ _ => ?_)) | (with_reducible refine Wp.lett ?_) | ((with_reducible apply Wp.obind); first | (with_reducible first | exact avInt_int _ _ | exact fldP_ptr _ _ _) | ((with_reducible apply RowH.cell'); (with_reducible assumption); rfl)) | ((with_reducible refine Wp.ift ?_ ?_); first | (with_reducible rfl) | ((with_reducible apply decide_eq_true); omega)) | ((with_reducible refine Wp.iff ?_ ?_); ((with_reducible apply decide_eq_false); omega)) | (with_reducible refine Wp.go1 (by assumption) ?_))
    rw [if_neg (by omega)]
    exact Wp.ret ⟨rfl, t0⟩
  by_cases c3 : 0 ≤ m.err ∧ m.err ≤ 999
  case neg =>
    repeat (first | (with_reducible refine Wp.join1 (fun _ _ => ?_)) | (with_reducible refine Wp.lett ?_) | ((with_reducible apply Wp.obind); first | (with_reducible first | exact avInt_int _ _ | exact avBool_bool _ | exact fldP_ptr _ _ _) | ((with_reducible apply RowH.cell'); (with_reducible assumption); rfl)) | ((with_reducible refine Wp.ift ?_ ?_); first | (with_reducible rfl) | ((with_reducible first | apply decide_eq_true | apply not_df); omega)) | ((with_reducible refine Wp.iff ?_ ?_); ((with_reducible apply decide_eq_false); omega)) | ((with_reducible apply Wp.callN); (with_reducible exact within_w _ _)) | (with_reducible refine Wp.go1 (by assumption) ?_))
    rw [if_neg (by omega)]
    exact Wp.ret ⟨rfl, t0⟩
  by_cases c4 : 0 ≤ m.leader ∧ m.leader ≤ 3
  case neg =>
    repeat (first | (with_reducible refine Wp.join1 (fun _ _ => ?_)) | (with_reducible refine Wp.lett ?_) | ((with_reducible apply Wp.obind); first | (with_reducible first | exact avInt_int _ _ | exact avBool_bool _ | exact fldP_ptr _ _ _) | ((with_reducible apply RowH.cell'); (with_reducible assumption); rfl)) | ((with_reducible refine Wp.ift ?_ ?_); first | (with_reducible rfl) | ((with_reducible first | apply decide_eq_true | apply not_df); omega)) | ((with_reducible refine Wp.iff ?_ ?_); ((with_reducible first | apply decide_eq_false | apply not_dt); omega)) | ((with_reducible apply Wp.callN); (with_reducible exact within_w _ _)) | (with_reducible refine Wp.go1 (by assumption) ?_))
    rw [if_neg (by omega)]
    exact Wp.ret ⟨rfl, t0⟩
  by_cases c5 : right m
  case neg =>
    have c5' := decide_eq_false c5
    rw [c5'] at e2
    repeat (first | (with_reducible refine Wp.join1 (fun _ _ => ?_)) | (with_reducible refine Wp.lett ?_) | ((with_reducible apply Wp.obind); first | (with_reducible first | exact avInt_int _ _ | exact avBool_bool _ | exact fldP_ptr _ _ _) | ((with_reducible apply RowH.cell'); (with_reducible assumption); rfl)) | ((with_reducible refine Wp.ift ?_ ?_); (with_reducible exact Bool.not_false)) | ((with_reducible refine Wp.iff ?_ ?_); ((with_reducible first | apply decide_eq_false | apply not_dt); omega)) | ((with_reducible apply Wp.callN); (with_reducible first | exact within_w _ _ | exact e2)) | (with_reducible refine Wp.go1 (by assumption) ?_))
    rw [if_neg (fun hh => c5 hh.2.2.2.2.2.2)]
    exact Wp.ret ⟨rfl, t3⟩
  have c5' := decide_eq_true c5
  rw [c5'] at e2
  rw [if_pos ⟨by omega, by omega, c3.1, c3.2, c4.1, c4.2, c5⟩]
  by_cases c6 : es.length > 4
  · repeat (first | (with_reducible refine Wp.join1 (fun _ _ => ?_)) | (with_reducible refine Wp.lett ?_) | ((with_reducible apply Wp.obind); first | (with_reducible first | exact ents_len hs | exact avInt_int _ _ | exact avBool_bool _ | exact fldP_ptr _ _ _) | ((with_reducible apply RowH.cell'); (with_reducible assumption); rfl)) | ((with_reducible refine Wp.ift ?_ ?_); first | (with_reducible rfl) | ((with_reducible first | apply decide_eq_true | apply not_df); omega)) | ((with_reducible refine Wp.iff ?_ ?_); first | (with_reducible exact Bool.not_true) | ((with_reducible first | apply decide_eq_false | apply not_dt); omega)) | ((with_reducible apply Wp.callN); (with_reducible first | exact within_w _ _ | exact e2)) | (with_reducible refine Wp.go1 (by assumption) ?_))
    rw [if_pos (.inl c6)]
    exact Wp.ret ⟨rfl, t3⟩
  by_cases c7 : m.data.length > 3500
  · repeat (first | (with_reducible refine Wp.join1 (fun _ _ => ?_)) | (with_reducible refine Wp.lett ?_) | ((with_reducible apply Wp.obind); first | (with_reducible first | exact ents_len hs | exact avInt_int _ _ | exact avBool_bool _ | exact avStr_str _ | exact fldP_ptr _ _ _) | ((with_reducible apply RowH.cell'); (with_reducible assumption); rfl)) | ((with_reducible refine Wp.ift ?_ ?_); ((with_reducible first | apply decide_eq_true | apply not_df); omega)) | ((with_reducible refine Wp.iff ?_ ?_); first | (with_reducible exact Bool.not_true) | ((with_reducible first | apply decide_eq_false | apply not_dt); omega)) | ((with_reducible apply Wp.callN); (with_reducible first | exact within_w _ _ | exact e2)) | (with_reducible refine Wp.go1 (by assumption) ?_))
    rw [if_pos (.inr c7)]
    exact Wp.ret ⟨rfl, t3⟩
  rw [if_neg (by omega)]
  repeat (first | (with_reducible first | refine Wp.join0 (fun _ _ => ?_) | refine Wp.join1 (fun _ _ => ?_)) | (with_reducible refine Wp.lett ?_) | ((with_reducible apply Wp.obind); first | (with_reducible first | exact ents_len hs | exact avInt_int _ _ | exact avBool_bool _ | exact avStr_str _ | exact fldP_ptr _ _ _) | ((with_reducible apply RowH.cell'); (with_reducible assumption); rfl)) | ((with_reducible refine Wp.iff ?_ ?_); first | (with_reducible exact Bool.not_true) | ((with_reducible first | apply decide_eq_false | apply not_dt); omega)) | ((with_reducible apply Wp.callN); (with_reducible first | exact within_w _ _ | exact e2)) | (with_reducible refine Wp.go1 (by assumption) ?_))
  rw [ll]
  have := check_loop (d := d + 1) (n := n) (h0 := h) (x := m.ents) hl.each hl.many hN (by assumption) n 0 (m.data.length : Int) h2 (by omega) (by omega) (by omega) (by omega) hs2 t3
  rw [List.drop_zero, hc43] at this
  exact this
end
end Go.Proofs.Ytmibgiblejpgdaa
