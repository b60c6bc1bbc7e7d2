/- MessageCodes. -/
import Derived.Test.YtmibgiblejpgdaaEc
import Derived.Test.YtmibgiblejpgdaaSa
import Derived.Test.YtmibgiblejpgdaaRc
namespace Go.Proofs.Ytmibgiblejpgdaa
open Go.RowKit Abs

theorem slc_one' {N sz : Nat} {h : AHeap} {x : AV} {ls : List (List AV)} (hs : Slc N h sz x ls) : x.one = true := by
  rcases hs.2 with ⟨_, rfl | rfl⟩ | ⟨b, _, _, rfl, _⟩ <;> rfl
set_option maxRecDepth 100000 in
theorem cells42 : Try.prog.cellsOf 42 = 2 := by kernel_rfl
set_option maxRecDepth 100000 in
theorem bytes42a : Nat.ble 1 (Try.prog.bytesOf 42) = true := by kernel_rfl
theorem u8_bounds {z : Int} (hz : (Lit.int .u8 z).wf = true) : 0 ≤ z ∧ z < 256 := wf_u8 hz
set_option maxRecDepth 100000 in
theorem msg_of {N : Nat} {h : AHeap} {x : AV} (hp : ArgP Try.prog N h 12 30 x) : ∃ (m : Ms) (es : List (Int × Bytes)), x = .agg m.cells ∧ Slc N h 2 m.ents (es.map entC) ∧ lensOk m es ∧ m.cells.all AV.one = true ∧ 0 ≤ m.op ∧ m.op < 256 := by
  obtain ⟨l, rfl, hpl⟩ := hp.agg (by kernel_rfl)
  obtain ⟨ls, rfl, h1, h2⟩ := hpl.structEach Try.underlying30
  have h1 : ls.length = 21 := h1
  match ls, h1 with
  | [a0, a1, a2, a3, a4, a5, a6, a7, a8, a9, a10, a11, a12, a13, a14, a15, a16, a17, a18, a19, a20], _ =>
    obtain ⟨z0, rfl, _⟩ := (h2 0 _ a0 rfl rfl).int Try.underlying5
    obtain ⟨z1, rfl, _⟩ := (h2 1 _ a1 rfl rfl).int Try.underlying3
    obtain ⟨z2, rfl, _⟩ := (h2 2 _ a2 rfl rfl).int Try.underlying3
    obtain ⟨z3, rfl, _⟩ := (h2 3 _ a3 rfl rfl).int Try.underlying3
    obtain ⟨z4, rfl, _⟩ := (h2 4 _ a4 rfl rfl).int Try.underlying3
    obtain ⟨z5, rfl, _⟩ := (h2 5 _ a5 rfl rfl).int Try.underlying3
    obtain ⟨z6, rfl, _⟩ := (h2 6 _ a6 rfl rfl).int Try.underlying3
    obtain ⟨z7, rfl, _⟩ := (h2 7 _ a7 rfl rfl).int Try.underlying3
    obtain ⟨z8, rfl⟩ := (h2 8 _ a8 rfl rfl).bool Try.underlying4
    obtain ⟨z9, q9, rfl, s9, b9, p9⟩ := (h2 9 _ a9 rfl rfl).slice Try.underlying26
    obtain ⟨z10, rfl, _⟩ := (h2 10 _ a10 rfl rfl).int Try.underlying3
    obtain ⟨z11, rfl, _⟩ := (h2 11 _ a11 rfl rfl).int Try.underlying3
    obtain ⟨z12, rfl, l12⟩ := (h2 12 _ a12 rfl rfl).str Try.underlying9
    obtain ⟨z13, rfl, _⟩ := (h2 13 _ a13 rfl rfl).int Try.underlying3
    obtain ⟨y1, y2, rfl, p1, p2⟩ := (h2 14 _ a14 rfl rfl).struct2 Try.underlying28
    obtain ⟨z14, rfl, _⟩ := p1.int Try.underlying3
    obtain ⟨w14, rfl, _⟩ := p2.int Try.underlying3
    obtain ⟨z15, rfl, _⟩ := (h2 15 _ a15 rfl rfl).int Try.underlying3
    obtain ⟨z16, rfl, _⟩ := (h2 16 _ a16 rfl rfl).int Try.underlying3
    obtain ⟨z17, rfl, _⟩ := (h2 17 _ a17 rfl rfl).int Try.underlying3
    obtain ⟨z18, rfl, o18⟩ := (h2 18 _ a18 rfl rfl).int Try.underlying5
    obtain ⟨z19, rfl, _⟩ := (h2 19 _ a19 rfl rfl).int Try.underlying23
    obtain ⟨z20, rfl, _⟩ := (h2 20 _ a20 rfl rfl).int Try.underlying3
    rw [cells42] at s9
    obtain ⟨es, rfl, hes⟩ := map_of (f := entC) (Q := fun e => e.2.length ≤ reachBytes) q9 fun l hl => by
      obtain ⟨l0, l1, rfl, p1, p2⟩ := (p9 l hl).struct2 Try.underlying42
      obtain ⟨a, rfl, _⟩ := p1.int Try.underlying3
      obtain ⟨s, rfl, hs⟩ := p2.str Try.underlying9
      exact ⟨(a, s), rfl, hs⟩
    have hone := slc_one' s9
    have hr : reachBytes = 140737488351232 := rfl
    have h1 := Nat.le_of_ble_eq_true bytes42a
    rw [List.length_map] at b9
    have hmany : es.length ≤ 140737488351232 := by
      generalize Try.prog.bytesOf 42 = B at b9 h1
      have h2 : es.length ≤ es.length * B := Nat.le_mul_of_pos_right _ h1
      omega
    refine ⟨⟨z0, fun i => [z1, z2, z3, z4, z5, z6, z7, z10, z11, z13, z14, w14, z15, z16, z17][i.val]'(by have := i.isLt; simp), z8, z9, z12, z18, z19, z20⟩, es, rfl, s9, ⟨by rw [hr] at l12; exact l12, fun e he => by have := hes e he; omega, hmany⟩, ?_, (wf_u8 o18).1, (wf_u8 o18).2⟩
    simp only [Ms.cells, List.all_cons, List.all_nil, hone]
    rfl
def zeros22 : List AV := [.int .u8 0, .int .i64 0, .int .i64 0, .int .i64 0, .int .i64 0, .int .i64 0, .int .i64 0, .int .i64 0, .bool false, .nsl, .int .i64 0, .int .i64 0, .str 0 0, .int .i64 0, .int .i64 0, .int .i64 0, .int .i64 0, .int .i64 0, .int .i64 0, .int .u8 0, .int .i64 0, .int .i64 0]
theorem eql26 (h : AHeap) : opBin Try.prog h .eql 26 true (some .nsl) (some .nsl) = some (.val (.bool true), h) := by kernel_rfl
theorem eql26e (h : AHeap) : opBin Try.prog h .eql 26 true (some .esl) (some .nsl) = some (.val (.bool false), h) := by kernel_rfl
theorem eql26s (h : AHeap) (b o k z : Nat) : opBin Try.prog h .eql 26 true (some (.sl b o k z)) (some .nsl) = some (.val (.bool false), h) := by kernel_rfl
theorem bldSl26_0 (h : AHeap) : bldSl Try.prog h 26 0 [] = outNewS h 42 [] 0 2 := by kernel_rfl
theorem el26 : Abs.elemOf Try.prog 26 = some 42 := by kernel_rfl
theorem not26 : notInt Try.prog 26 = true := by kernel_rfl
theorem fit42 : fitB Try.prog 42 24 = true := by kernel_rfl
/-- entries in a row that has come since -/
def EntsNew (lo : Nat) (h : AHeap) (x : AV) (es : List (Int × Bytes)) : Prop := lenL x = some (es.length : Int) ∧ (es = [] ∨ ∃ b, lo ≤ b ∧ b < h.next ∧ x = .sl b 0 es.length 2 ∧ RowLike h b (es.map entC).flatten)
theorem EntsNew.tch {lo : Nat} {h h' : AHeap} {x : AV} {es : List (Int × Bytes)} {S : List Nat} (k : EntsNew lo h x es) (t : Tch S h h') (hS : ∀ b ∈ S, b < lo) : EntsNew lo h' x es := by
  refine ⟨k.1, k.2.imp id ?_⟩
  rintro ⟨b, h1, h2, h3, h4⟩
  have := t.1
  exact ⟨b, h1, by omega, h3, h4.same fun o ho => by rw [t.2.2 b h2 (fun hm => by have := hS b hm; omega)]; exact ho⟩
theorem EntsNew.at {lo : Nat} {h : AHeap} {x : AV} {es : List (Int × Bytes)} (k : EntsNew lo h x es) : EntsAt h.next h x es := by
  refine ⟨k.1, k.2.imp id ?_⟩
  rintro ⟨b, _, h2, h3, h4⟩
  exact ⟨b, h2, h3, h4⟩
theorem EntsAt.mono {N N' : Nat} {h : AHeap} {x : AV} {es : List (Int × Bytes)} (k : EntsAt N h x es) (hN : N ≤ N') : EntsAt N' h x es := by
  refine ⟨k.1, k.2.imp id ?_⟩
  rintro ⟨b, h2, h3, h4⟩
  exact ⟨b, by omega, h3, h4⟩
theorem all_set {l : List AV} {v : AV} (h : l.all AV.one = true) (hv : v.one = true) (i : Nat) : (l.set i v).all AV.one = true := by
  rw [List.all_eq_true] at h ⊢
  intro x hx
  rcases List.mem_or_eq_of_mem_set hx with hx | rfl
  · exact h x hx
  · exact hv
section
variable {n d b c N : Nat} {h : AHeap} {m : Ms} {es : List (Int × Bytes)} {Q : ARes → AHeap → Prop}
theorem clone_w {x : AV} (hs : Slc N h 2 x (es.map entC)) (hN : N ≤ h.next) (hm : es.length ≤ 1024) (hx : memB 42 h.ex = false) : ∃ r h', world n (d + 1) 15 [x] h = some (.ret r, h') ∧ EntsNew h.next h' r es ∧ r.one = true ∧ AV.cells r = [r] ∧ Tch [] h h' := by
  suffices hK : Wp (world n (d + 1) 15 [x] h) fun r h' => ∃ v, r = .ret v ∧ EntsNew h.next h' v es ∧ v.one = true ∧ AV.cells v = [v] ∧ Tch [] h h' by
    obtain ⟨_, h', e, v, rfl, q⟩ := hK
    exact ⟨v, h', e, q⟩
  rw [w_slices_Clone___api_Entry_api_Entry_]
  unfold slices_Clone___api_Entry_api_Entry_
  have t1 : Tch [] h (newH h 42 []) := Tch.newH _ _ _ _
  rcases hs.2 with ⟨h0, rfl | rfl⟩ | ⟨b, h0, h1, rfl, hr⟩
  · have h0 := List.map_eq_nil_iff.1 h0
    subst h0
    repeat (first | (with_reducible first | refine Wp.join0 (fun _ _ => ?_) | refine Wp.join1 (fun _ _ => ?_) | refine Wp.join2 (fun _ _ => ?_)) | ((with_reducible first | refine Wp.lettw ?_ ?_ ?_ | refine Wp.lettu64 ?_ ?_ ?_ | refine Wp.lettu8 ?_ ?_ ?_ | refine Wp.lettu32 ?_ ?_ ?_); omega; omega) | (with_reducible refine Wp.lett ?_) | ((with_reducible apply Wp.obind); first | (with_reducible first | exact avInt_int _ _ | exact avBool_bool _ | exact avStr_str _ | exact nilC_ptr _ _ | exact fldP_ptr _ _ _ | exact avAgg_agg _ | exact extT_0 _ _ | exact extT_1 _ _ _ | exact extT_2 _ _ _ _ | assumption) | ((with_reducible first | apply RowH.cell' | apply RowH.ldAll); (with_reducible assumption); rfl)) | ((with_reducible refine Wp.ift ?_ ?_); first | (with_reducible first | rfl | assumption | exact Bool.not_false) | ((with_reducible first | apply decide_eq_true | apply not_df | apply bne_t | apply beq_t); omega)) | ((with_reducible refine Wp.iff ?_ ?_); first | (with_reducible first | rfl | assumption | exact Bool.not_true) | ((with_reducible first | apply decide_eq_false | apply not_dt | apply bne_f | apply beq_f); omega)) | ((with_reducible first | apply Wp.callN | apply Wp.callK); (with_reducible assumption)) | ((with_reducible apply Wp.outK); (with_reducible first | exact eql26 _ | assumption)) | (with_reducible first | refine Wp.go0 (by assumption) ?_ | refine Wp.go1 (by assumption) ?_ | refine Wp.go2 (by assumption) ?_) | rw [newP_eq])
    exact Wp.ret ⟨_, rfl, ⟨rfl, .inl rfl⟩, rfl, rfl, Tch.refl _ _⟩
  · have h0 := List.map_eq_nil_iff.1 h0
    subst h0
    repeat (first | (with_reducible first | refine Wp.join0 (fun _ _ => ?_) | refine Wp.join1 (fun _ _ => ?_) | refine Wp.join2 (fun _ _ => ?_)) | ((with_reducible first | refine Wp.lettw ?_ ?_ ?_ | refine Wp.lettu64 ?_ ?_ ?_ | refine Wp.lettu8 ?_ ?_ ?_ | refine Wp.lettu32 ?_ ?_ ?_); omega; omega) | (with_reducible refine Wp.lett ?_) | ((with_reducible apply Wp.obind); first | (with_reducible first | exact avInt_int _ _ | exact avBool_bool _ | exact avStr_str _ | exact nilC_ptr _ _ | exact fldP_ptr _ _ _ | exact avAgg_agg _ | exact extT_0 _ _ | exact extT_1 _ _ _ | exact extT_2 _ _ _ _ | assumption) | ((with_reducible first | apply RowH.cell' | apply RowH.ldAll); (with_reducible assumption); rfl)) | ((with_reducible refine Wp.ift ?_ ?_); first | (with_reducible first | rfl | assumption | exact Bool.not_false) | ((with_reducible first | apply decide_eq_true | apply not_df | apply bne_t | apply beq_t); omega)) | ((with_reducible refine Wp.iff ?_ ?_); first | (with_reducible first | rfl | assumption | exact Bool.not_true) | ((with_reducible first | apply decide_eq_false | apply not_dt | apply bne_f | apply beq_f); omega)) | ((with_reducible first | apply Wp.callN | apply Wp.callK); (with_reducible assumption)) | ((with_reducible apply Wp.outK); (with_reducible first | exact eql26e _ | exact (bldSl26_0 _).trans (out_news rfl hx) | assumption)) | (with_reducible first | refine Wp.go0 (by assumption) ?_ | refine Wp.go1 (by assumption) ?_ | refine Wp.go2 (by assumption) ?_) | rw [newP_eq])
    refine Wp.outK (append_zero (n := 0) el26 not26 cells42 rfl rfl (by rfl) (bytesFit_of fit42 (by omega) (by omega)) hx) ?_
    exact Wp.ret ⟨_, rfl, ⟨rfl, .inl rfl⟩, rfl, rfl, t1⟩
  · rw [List.length_map]
    have hlen : es.length ≠ 0 := fun e => h0 (by rw [List.map_eq_nil_iff]; exact List.length_eq_zero_iff.1 e)
    obtain ⟨k, hk⟩ : ∃ k, es.length = k + 1 := ⟨es.length - 1, by omega⟩
    have hl := len_same (es.map entC) hs.1
    rw [List.length_map] at hl
    have hr' : RowLike (newH h 42 []) b (es.map entC).flatten := hr.same fun o ho => by rw [t1.2.2 b (by omega) (by simp)]; exact ho
    have hg := hr'.part (o := 0) (n := (es.map entC).flatten.length) (by omega)
    rw [List.drop_zero, List.take_length, hl] at hg
    have hone : (es.map entC).flatten.all AV.one = true := flat_all (sz := 2) fun r hr => by
      obtain ⟨e, _, rfl⟩ := List.mem_map.1 hr
      exact ⟨rfl, rfl⟩
    have ap := append_more (P := Try.prog) (h := newH h 42 []) (t := 26) (u := 26) (b := h.next) (o := 0) (m := 0) (x := .sl b 0 es.length 2) (n := k) (cs := []) (news := (es.map entC).flatten) el26 not26 cells42 (by rw [hk]; rfl) (by rw [← hk, firstA_of_row (Nat.le_refl _)]; exact hg) (bytesFit_of fit42 (by omega) (by omega)) hone hx (by
      have := rowGet_newH (h := h) (e := 42) (l := []) (o := 0) (n := 0) (by simp)
      simpa using this) rowType_newH
    repeat (first | (with_reducible first | refine Wp.join0 (fun _ _ => ?_) | refine Wp.join1 (fun _ _ => ?_) | refine Wp.join2 (fun _ _ => ?_)) | ((with_reducible first | refine Wp.lettw ?_ ?_ ?_ | refine Wp.lettu64 ?_ ?_ ?_ | refine Wp.lettu8 ?_ ?_ ?_ | refine Wp.lettu32 ?_ ?_ ?_); omega; omega) | (with_reducible refine Wp.lett ?_) | ((with_reducible apply Wp.obind); first | (with_reducible first | exact avInt_int _ _ | exact avBool_bool _ | exact avStr_str _ | exact nilC_ptr _ _ | exact fldP_ptr _ _ _ | exact avAgg_agg _ | exact extT_0 _ _ | exact extT_1 _ _ _ | exact extT_2 _ _ _ _ | assumption) | ((with_reducible first | apply RowH.cell' | apply RowH.ldAll); (with_reducible assumption); rfl)) | ((with_reducible refine Wp.ift ?_ ?_); first | (with_reducible first | rfl | assumption | exact Bool.not_false) | ((with_reducible first | apply decide_eq_true | apply not_df | apply bne_t | apply beq_t); omega)) | ((with_reducible refine Wp.iff ?_ ?_); first | (with_reducible first | rfl | assumption | exact Bool.not_true) | ((with_reducible first | apply decide_eq_false | apply not_dt | apply bne_f | apply beq_f); omega)) | ((with_reducible first | apply Wp.callN | apply Wp.callK); (with_reducible assumption)) | ((with_reducible apply Wp.outK); (with_reducible first | exact eql26s _ _ _ _ _ | exact (bldSl26_0 _).trans (out_news rfl hx) | exact ap | assumption)) | (with_reducible first | refine Wp.go0 (by assumption) ?_ | refine Wp.go1 (by assumption) ?_ | refine Wp.go2 (by assumption) ?_) | rw [newP_eq])
    have t2 : Tch [] h (((newH h 42 []).put h.next .dead).new (rowOf ((es.map entC).flatten) 42)) := ((t1.trans' (Tch.put (S := [h.next]) (.inl (by simp)) _) (by intro i hi; simp at hi; subst hi; exact .inr (Nat.le_refl _)))).trans (Tch.new _ _ _)
    refine Wp.ret ⟨_, rfl, ⟨by rw [hk]; show some _ = _; rw [Nat.zero_add], .inr ⟨_, Nat.le_succ _, Nat.lt_succ_self _, by rw [hk, Nat.zero_add]; rfl, ?_⟩⟩, rfl, rfl, t2⟩
    obtain ⟨t, g1, g2⟩ := RowH.new ((newH h 42 []).put h.next .dead) 42 (es.map entC).flatten
    exact ⟨t, .inr ⟨_, _, g1⟩, g2⟩
theorem heavy_loop {x : AV} {h0 : AHeap} (hN : N ≤ h0.next) (hmany : es.length ≤ 140737488351232) {k14 : AHeap → R} (hk : ∀ h, Tch [] h0 h → Wp (k14 h) Q) (hQ : ∀ h, Tch [] h0 h → Q (.ret (.bool true)) h) :
    ∀ (f i : Nat) (a : Int) (h : AHeap), es.length < f + i → i ≤ es.length → EntsAt N h x es → Tch [] h0 h → Wp (law17_heavy_L0 x (es.length : Int) k14 f a (i : Int) h) Q
  | 0, i, a, h, h1, h2, _, _ => by omega
  | f + 1, i, a, h, h1, h2, hs, ht => by
    rw [law17_heavy_L0_s]
    unfold law17_heavy_L0b
    by_cases hi : i < es.length
    · obtain ⟨br, hb, e1, e2, _, _⟩ := ents_row hs hi
      have hN2 := ht.1
      repeat (first | (with_reducible first | refine Wp.join0 (fun _ _ => ?_) | refine Wp.join1 (fun _ _ => ?_) | refine Wp.join2 (fun _ _ => ?_)) | ((with_reducible first | refine Wp.lettw ?_ ?_ ?_ | refine Wp.lettu64 ?_ ?_ ?_ | refine Wp.lettu8 ?_ ?_ ?_ | refine Wp.lettu32 ?_ ?_ ?_); omega; omega) | (with_reducible refine Wp.lett ?_) | ((with_reducible apply Wp.obind); first | (with_reducible first | exact avInt_int _ _ | exact avBool_bool _ | exact avStr_str _ | exact nilC_ptr _ _ | exact fldP_ptr _ _ _ | exact avAgg_agg _ | exact extT_0 _ _ | exact extT_1 _ _ _ | exact extT_2 _ _ _ _ | assumption) | ((with_reducible first | apply RowH.cell' | apply RowH.ldAll); (with_reducible assumption); rfl)) | ((with_reducible refine Wp.ift ?_ ?_); first | (with_reducible first | rfl | assumption | exact Bool.not_false) | ((with_reducible first | apply decide_eq_true | apply not_df | apply bne_t | apply beq_t); omega)) | ((with_reducible refine Wp.iff ?_ ?_); first | (with_reducible first | rfl | assumption | exact Bool.not_true) | ((with_reducible first | apply decide_eq_false | apply not_dt | apply bne_f | apply beq_f); omega)) | ((with_reducible first | apply Wp.callN | apply Wp.callK); (with_reducible assumption)) | ((with_reducible apply Wp.outK); (with_reducible assumption)) | (with_reducible first | refine Wp.go0 (by assumption) ?_ | refine Wp.go1 (by assumption) ?_ | refine Wp.go2 (by assumption) ?_) | rw [newP_eq])
      refine Wp.stAll (RowH.new h 42 [.int .i64 0, .str 0 0]) rfl rfl rfl (fun h1 r1 t1 n1 => ?_)
      have t2 : Tch [] h h1 := (Tch.newH [] h 42 [.int .i64 0, .str 0 0]).trans' t1 (by intro b hb; simp at hb; subst hb; exact .inr (Nat.le_refl _))
      have hs1 := hs.tch t2 (by omega) (by simp)
      refine Wp.obind (r1.cell' rfl) ?_
      repeat (first | (with_reducible first | refine Wp.join0 (fun _ _ => ?_) | refine Wp.join1 (fun _ _ => ?_) | refine Wp.join2 (fun _ _ => ?_)) | ((with_reducible first | refine Wp.lettw ?_ ?_ ?_ | refine Wp.lettu64 ?_ ?_ ?_ | refine Wp.lettu8 ?_ ?_ ?_ | refine Wp.lettu32 ?_ ?_ ?_); omega; omega) | (with_reducible refine Wp.lett ?_) | ((with_reducible apply Wp.obind); first | (with_reducible first | exact avInt_int _ _ | exact avBool_bool _ | exact avStr_str _ | exact nilC_ptr _ _ | exact fldP_ptr _ _ _ | exact avAgg_agg _ | exact extT_0 _ _ | exact extT_1 _ _ _ | exact extT_2 _ _ _ _ | assumption) | ((with_reducible first | apply RowH.cell' | apply RowH.ldAll); (with_reducible assumption); rfl)) | ((with_reducible refine Wp.ift ?_ ?_); first | (with_reducible first | rfl | assumption | exact Bool.not_false) | ((with_reducible first | apply decide_eq_true | apply not_df | apply bne_t | apply beq_t); omega)) | ((with_reducible refine Wp.iff ?_ ?_); first | (with_reducible first | rfl | assumption | exact Bool.not_true) | ((with_reducible first | apply decide_eq_false | apply not_dt | apply bne_f | apply beq_f); omega)) | ((with_reducible first | apply Wp.callN | apply Wp.callK); (with_reducible assumption)) | ((with_reducible apply Wp.outK); (with_reducible assumption)) | (with_reducible first | refine Wp.go0 (by assumption) ?_ | refine Wp.go1 (by assumption) ?_ | refine Wp.go2 (by assumption) ?_) | rw [newP_eq])
      refine Wp.ifc (fun _ => Wp.ret (hQ _ (ht.trans t2))) (fun _ => ?_)
      refine Wp.obind (r1.cell' rfl) ?_
      repeat (first | (with_reducible first | refine Wp.join0 (fun _ _ => ?_) | refine Wp.join1 (fun _ _ => ?_) | refine Wp.join2 (fun _ _ => ?_)) | ((with_reducible first | refine Wp.lettw ?_ ?_ ?_ | refine Wp.lettu64 ?_ ?_ ?_ | refine Wp.lettu8 ?_ ?_ ?_ | refine Wp.lettu32 ?_ ?_ ?_); omega; omega) | (with_reducible refine Wp.lett ?_) | ((with_reducible apply Wp.obind); first | (with_reducible first | exact avInt_int _ _ | exact avBool_bool _ | exact avStr_str _ | exact nilC_ptr _ _ | exact fldP_ptr _ _ _ | exact avAgg_agg _ | exact extT_0 _ _ | exact extT_1 _ _ _ | exact extT_2 _ _ _ _ | assumption) | ((with_reducible first | apply RowH.cell' | apply RowH.ldAll); (with_reducible assumption); rfl)) | ((with_reducible refine Wp.ift ?_ ?_); first | (with_reducible first | rfl | assumption | exact Bool.not_false) | ((with_reducible first | apply decide_eq_true | apply not_df | apply bne_t | apply beq_t); omega)) | ((with_reducible refine Wp.iff ?_ ?_); first | (with_reducible first | rfl | assumption | exact Bool.not_true) | ((with_reducible first | apply decide_eq_false | apply not_dt | apply bne_f | apply beq_f); omega)) | ((with_reducible first | apply Wp.callN | apply Wp.callK); (with_reducible assumption)) | ((with_reducible apply Wp.outK); (with_reducible assumption)) | (with_reducible first | refine Wp.go0 (by assumption) ?_ | refine Wp.go1 (by assumption) ?_ | refine Wp.go2 (by assumption) ?_) | rw [newP_eq])
      refine Wp.ifc (fun _ => Wp.ret (hQ _ (ht.trans t2))) (fun _ => ?_)
      repeat (first | (with_reducible first | refine Wp.join0 (fun _ _ => ?_) | refine Wp.join1 (fun _ _ => ?_) | refine Wp.join2 (fun _ _ => ?_)) | ((with_reducible first | refine Wp.lettw ?_ ?_ ?_ | refine Wp.lettu64 ?_ ?_ ?_ | refine Wp.lettu8 ?_ ?_ ?_ | refine Wp.lettu32 ?_ ?_ ?_); omega; omega) | (with_reducible refine Wp.lett ?_) | ((with_reducible apply Wp.obind); first | (with_reducible first | exact avInt_int _ _ | exact avBool_bool _ | exact avStr_str _ | exact nilC_ptr _ _ | exact fldP_ptr _ _ _ | exact avAgg_agg _ | exact extT_0 _ _ | exact extT_1 _ _ _ | exact extT_2 _ _ _ _ | assumption) | ((with_reducible first | apply RowH.cell' | apply RowH.ldAll); (with_reducible assumption); rfl)) | ((with_reducible refine Wp.ift ?_ ?_); first | (with_reducible first | rfl | assumption | exact Bool.not_false) | ((with_reducible first | apply decide_eq_true | apply not_df | apply bne_t | apply beq_t); omega)) | ((with_reducible refine Wp.iff ?_ ?_); first | (with_reducible first | rfl | assumption | exact Bool.not_true) | ((with_reducible first | apply decide_eq_false | apply not_dt | apply bne_f | apply beq_f); omega)) | ((with_reducible first | apply Wp.callN | apply Wp.callK); (with_reducible assumption)) | ((with_reducible apply Wp.outK); (with_reducible assumption)) | (with_reducible first | refine Wp.go0 (by assumption) ?_ | refine Wp.go1 (by assumption) ?_ | refine Wp.go2 (by assumption) ?_) | rw [newP_eq])
      rw [show (i : Int) + 1 = ((i + 1 : Nat) : Int) by omega]
      exact heavy_loop hN hmany hk hQ f (i + 1) _ h1 (by omega) (by omega) hs1 (ht.trans t2)
    · repeat (first | (with_reducible first | refine Wp.join0 (fun _ _ => ?_) | refine Wp.join1 (fun _ _ => ?_) | refine Wp.join2 (fun _ _ => ?_)) | ((with_reducible first | refine Wp.lettw ?_ ?_ ?_ | refine Wp.lettu64 ?_ ?_ ?_ | refine Wp.lettu8 ?_ ?_ ?_ | refine Wp.lettu32 ?_ ?_ ?_); omega; omega) | (with_reducible refine Wp.lett ?_) | ((with_reducible apply Wp.obind); first | (with_reducible first | exact avInt_int _ _ | exact avBool_bool _ | exact avStr_str _ | exact nilC_ptr _ _ | exact fldP_ptr _ _ _ | exact avAgg_agg _ | exact extT_0 _ _ | exact extT_1 _ _ _ | exact extT_2 _ _ _ _ | assumption) | ((with_reducible first | apply RowH.cell' | apply RowH.ldAll); (with_reducible assumption); rfl)) | ((with_reducible refine Wp.ift ?_ ?_); first | (with_reducible first | rfl | assumption | exact Bool.not_false) | ((with_reducible first | apply decide_eq_true | apply not_df | apply bne_t | apply beq_t); omega)) | ((with_reducible refine Wp.iff ?_ ?_); first | (with_reducible first | rfl | assumption | exact Bool.not_true) | ((with_reducible first | apply decide_eq_false | apply not_dt | apply bne_f | apply beq_f); omega)) | ((with_reducible first | apply Wp.callN | apply Wp.callK); (with_reducible assumption)) | ((with_reducible apply Wp.outK); (with_reducible assumption)) | (with_reducible first | refine Wp.go0 (by assumption) ?_ | refine Wp.go1 (by assumption) ?_ | refine Wp.go2 (by assumption) ?_) | rw [newP_eq])
      exact hk h ht
theorem heavy_w (hn : es.length < n) (hs : EntsAt N h m.ents es) (hN : N ≤ h.next) (hmany : es.length ≤ 140737488351232) (hone : m.cells.all AV.one = true) : ∃ g, world n (d + 1) 14 [.agg m.cells] h = some (.ret (.bool g), h) ∧ (g = false → es.length ≤ 1024) := by
  suffices hK : Wp (world n (d + 1) 14 [.agg m.cells] h) fun r h' => (∃ g, r = .ret (.bool g) ∧ (g = false → es.length ≤ 1024)) ∧ h' = h by
    obtain ⟨_, _, e, ⟨g, rfl, hg⟩, rfl⟩ := hK
    exact ⟨g, e, hg⟩
  rw [w_law17_heavy]
  refine Wp.gc ?_
  suffices hK : Wp (law17_heavy (world n d) n m.cells h) fun r h' => (∃ g, r = .ret (.bool g) ∧ (g = false → es.length ≤ 1024)) ∧ Tch [] h h' from hK.mono fun r h' ⟨⟨g, e, hg⟩, t⟩ => ⟨t.above, by rw [e]; rfl, ⟨g, e, hg⟩, rfl⟩
  unfold law17_heavy
  refine Wp.outK (box_agg hone) ?_
  have k0 := RowH.new h 30 m.cells
  have t0 : Tch [] h (newH h 30 m.cells) := Tch.newH _ _ _ _
  have n0 := next_newH h 30 m.cells
  rw [newP_eq]
  generalize newH h 30 m.cells = h1 at *
  have hs1 := hs.tch t0 hN (by simp)
  repeat (first | (with_reducible first | refine Wp.join0 (fun _ _ => ?_) | refine Wp.join1 (fun _ _ => ?_) | refine Wp.join2 (fun _ _ => ?_)) | ((with_reducible first | refine Wp.lettw ?_ ?_ ?_ | refine Wp.lettu64 ?_ ?_ ?_ | refine Wp.lettu8 ?_ ?_ ?_ | refine Wp.lettu32 ?_ ?_ ?_); omega; omega) | (with_reducible refine Wp.lett ?_) | ((with_reducible apply Wp.obind); first | (with_reducible first | exact ents_len hs1 | exact avInt_int _ _ | exact avBool_bool _ | exact avStr_str _ | exact nilC_ptr _ _ | exact fldP_ptr _ _ _ | exact avAgg_agg _ | exact extT_0 _ _ | exact extT_1 _ _ _ | exact extT_2 _ _ _ _ | assumption) | ((with_reducible first | apply RowH.cell' | apply RowH.ldAll); (with_reducible assumption); rfl)) | ((with_reducible refine Wp.ift ?_ ?_); first | (with_reducible first | rfl | assumption | exact Bool.not_false) | ((with_reducible first | apply decide_eq_true | apply not_df | apply bne_t | apply beq_t); omega)) | ((with_reducible refine Wp.iff ?_ ?_); first | (with_reducible first | rfl | assumption | exact Bool.not_true) | ((with_reducible first | apply decide_eq_false | apply not_dt | apply bne_f | apply beq_f); omega)) | ((with_reducible first | apply Wp.callN | apply Wp.callK); (with_reducible assumption)) | ((with_reducible apply Wp.outK); (with_reducible assumption)) | (with_reducible first | refine Wp.go0 (by assumption) ?_ | refine Wp.go1 (by assumption) ?_ | refine Wp.go2 (by assumption) ?_) | rw [newP_eq])
  rename_i k14 hk14
  refine heavy_loop (h0 := h1) (N := N) (by omega) hmany (fun h2 t2 => ?_) (fun h2 t2 => ⟨⟨true, rfl, by simp⟩, t0.trans t2⟩) n 0 _ h1 (by omega) (by omega) hs1 (Tch.refl _ _)
  have k2 := k0.tch t2 (by omega) (by simp)
  have tt := t0.trans t2
  have hs2 := hs1.tch t2 (by omega) (by simp)
  repeat (first | (with_reducible first | refine Wp.join0 (fun _ _ => ?_) | refine Wp.join1 (fun _ _ => ?_) | refine Wp.join2 (fun _ _ => ?_)) | ((with_reducible first | refine Wp.lettw ?_ ?_ ?_ | refine Wp.lettu64 ?_ ?_ ?_ | refine Wp.lettu8 ?_ ?_ ?_ | refine Wp.lettu32 ?_ ?_ ?_); omega; omega) | (with_reducible refine Wp.lett ?_) | ((with_reducible apply Wp.obind); first | (with_reducible first | exact avInt_int _ _ | exact avBool_bool _ | exact avStr_str _ | exact nilC_ptr _ _ | exact fldP_ptr _ _ _ | exact avAgg_agg _ | exact extT_0 _ _ | exact extT_1 _ _ _ | exact extT_2 _ _ _ _ | assumption) | ((with_reducible first | apply RowH.cell' | apply RowH.ldAll); (with_reducible assumption); rfl)) | ((with_reducible refine Wp.ift ?_ ?_); first | (with_reducible first | rfl | assumption | exact Bool.not_false) | ((with_reducible first | apply decide_eq_true | apply not_df | apply bne_t | apply beq_t); omega)) | ((with_reducible refine Wp.iff ?_ ?_); first | (with_reducible first | rfl | assumption | exact Bool.not_true) | ((with_reducible first | apply decide_eq_false | apply not_dt | apply bne_f | apply beq_f); omega)) | ((with_reducible first | apply Wp.callN | apply Wp.callK); (with_reducible assumption)) | ((with_reducible apply Wp.outK); (with_reducible assumption)) | (with_reducible first | refine Wp.go0 (by assumption) ?_ | refine Wp.go1 (by assumption) ?_ | refine Wp.go2 (by assumption) ?_) | rw [newP_eq])
  refine Wp.ifc (fun _ => ?_) (fun _ => ?_)
  · repeat (first | (with_reducible first | refine Wp.join0 (fun _ _ => ?_) | refine Wp.join1 (fun _ _ => ?_) | refine Wp.join2 (fun _ _ => ?_)) | ((with_reducible first | refine Wp.lettw ?_ ?_ ?_ | refine Wp.lettu64 ?_ ?_ ?_ | refine Wp.lettu8 ?_ ?_ ?_ | refine Wp.lettu32 ?_ ?_ ?_); omega; omega) | (with_reducible refine Wp.lett ?_) | ((with_reducible apply Wp.obind); first | (with_reducible first | exact avInt_int _ _ | exact avBool_bool _ | exact avStr_str _ | exact nilC_ptr _ _ | exact fldP_ptr _ _ _ | exact avAgg_agg _ | exact extT_0 _ _ | exact extT_1 _ _ _ | exact extT_2 _ _ _ _ | assumption) | ((with_reducible first | apply RowH.cell' | apply RowH.ldAll); (with_reducible assumption); rfl)) | ((with_reducible refine Wp.ift ?_ ?_); first | (with_reducible first | rfl | assumption | exact Bool.not_false) | ((with_reducible first | apply decide_eq_true | apply not_df | apply bne_t | apply beq_t); omega)) | ((with_reducible refine Wp.iff ?_ ?_); first | (with_reducible first | rfl | assumption | exact Bool.not_true) | ((with_reducible first | apply decide_eq_false | apply not_dt | apply bne_f | apply beq_f); omega)) | ((with_reducible first | apply Wp.callN | apply Wp.callK); (with_reducible assumption)) | ((with_reducible apply Wp.outK); (with_reducible assumption)) | (with_reducible first | refine Wp.go0 (by assumption) ?_ | refine Wp.go1 (by assumption) ?_ | refine Wp.go2 (by assumption) ?_) | rw [newP_eq])
    exact Wp.ret ⟨⟨true, rfl, by simp⟩, tt⟩
  · repeat (first | (with_reducible first | refine Wp.join0 (fun _ _ => ?_) | refine Wp.join1 (fun _ _ => ?_) | refine Wp.join2 (fun _ _ => ?_)) | ((with_reducible first | refine Wp.lettw ?_ ?_ ?_ | refine Wp.lettu64 ?_ ?_ ?_ | refine Wp.lettu8 ?_ ?_ ?_ | refine Wp.lettu32 ?_ ?_ ?_); omega; omega) | (with_reducible refine Wp.lett ?_) | ((with_reducible apply Wp.obind); first | (with_reducible first | exact ents_len hs2 | exact avInt_int _ _ | exact avBool_bool _ | exact avStr_str _ | exact nilC_ptr _ _ | exact fldP_ptr _ _ _ | exact avAgg_agg _ | exact extT_0 _ _ | exact extT_1 _ _ _ | exact extT_2 _ _ _ _ | assumption) | ((with_reducible first | apply RowH.cell' | apply RowH.ldAll); (with_reducible assumption); rfl)) | ((with_reducible refine Wp.ift ?_ ?_); first | (with_reducible first | rfl | assumption | exact Bool.not_false) | ((with_reducible first | apply decide_eq_true | apply not_df | apply bne_t | apply beq_t); omega)) | ((with_reducible refine Wp.iff ?_ ?_); first | (with_reducible first | rfl | assumption | exact Bool.not_true) | ((with_reducible first | apply decide_eq_false | apply not_dt | apply bne_f | apply beq_f); omega)) | ((with_reducible first | apply Wp.callN | apply Wp.callK); (with_reducible assumption)) | ((with_reducible apply Wp.outK); (with_reducible assumption)) | (with_reducible first | refine Wp.go0 (by assumption) ?_ | refine Wp.go1 (by assumption) ?_ | refine Wp.go2 (by assumption) ?_) | rw [newP_eq])
    exact Wp.ret ⟨⟨_, rfl, fun hg => by rw [decide_eq_false_iff_not] at hg; omega⟩, tt⟩
end
theorem works_w (n d : Nat) (h : AHeap) : world n (d + 1) 8 [] h = some (.ret (.bool true), h) := w_true n d [] h
set_option maxRecDepth 100000 in
open Classical in
/-- the law -/
theorem messageCodes_says (h : AHeap) (hX : h.ex = [53]) (xs : List AV) (hP : ArgsP Try.prog h.next h 12 [30] xs) : ∃ h', Says Try.prog 4 xs h (.ret (.bool true)) h' := by
  obtain ⟨_, _, rfl, hp0, hP⟩ := args_cons hP
  obtain rfl := args0 hP
  obtain ⟨m, es, rfl, hsl, hl, hone, hop1, hop2⟩ := msg_of hp0
  obtain ⟨n, hn⟩ : ∃ n, n = es.length + 1000 := ⟨_, rfl⟩
  suffices hK : Wp (world n 8 4 [.agg m.cells] h) fun r _ => r = .ret (.bool true) by
    obtain ⟨_, h', e, rfl⟩ := hK
    exact ⟨h', world_ok n 8 4 _ h _ h' e⟩
  rw [w_law17_MessageCodes]
  refine Wp.gc' ?_
  suffices hK : Wp (law17_MessageCodes (world n 7) n m.cells h) fun r _ => r = .ret (.bool true) from hK.mono fun r h' e => ⟨e, fun _ => e⟩
  unfold law17_MessageCodes
  refine Wp.outK (box_agg hone) ?_
  have k0 := RowH.new h 30 m.cells
  have t0 : Tch [] h (newH h 30 m.cells) := Tch.newH _ _ _ _
  have n0 := next_newH h 30 m.cells
  rw [newP_eq]
  generalize newH h 30 m.cells = h1 at *
  have hsl1 : Slc h.next h1 2 m.ents (es.map entC) := hsl.tch t0 (Nat.le_refl _) (by simp)
  have hs1 := entsAt_of hsl1
  obtain ⟨g, eg, hg⟩ := heavy_w (n := n) (d := 6) (by omega) hs1 (by omega) hl.many hone
  have x1 : h1.ex = [53] := t0.2.1.trans hX
  have hwk := works_w n 6 h1
  cases g with
  | true =>
    repeat (first | (with_reducible first | refine Wp.join0 (fun _ _ => ?_) | refine Wp.join1 (fun _ _ => ?_) | refine Wp.join2 (fun _ _ => ?_)) | ((with_reducible first | refine Wp.lettw ?_ ?_ ?_ | refine Wp.lettu64 ?_ ?_ ?_ | refine Wp.lettu8 ?_ ?_ ?_ | refine Wp.lettu32 ?_ ?_ ?_); omega; omega) | (with_reducible refine Wp.lett ?_) | ((with_reducible apply Wp.obind); first | (with_reducible first | exact avInt_int _ _ | exact avBool_bool _ | exact avStr_str _ | exact nilC_ptr _ _ | exact fldP_ptr _ _ _ | exact avAgg_agg _ | exact extT_0 _ _ | exact extT_1 _ _ _ | exact extT_2 _ _ _ _ | assumption) | ((with_reducible first | apply RowH.cell' | apply RowH.ldAll); (with_reducible assumption); rfl)) | ((with_reducible refine Wp.ift ?_ ?_); first | (with_reducible first | rfl | assumption | exact Bool.not_false) | ((with_reducible first | apply decide_eq_true | apply not_df | apply bne_t | apply beq_t); omega)) | ((with_reducible refine Wp.iff ?_ ?_); first | (with_reducible first | rfl | assumption | exact Bool.not_true) | ((with_reducible first | apply decide_eq_false | apply not_dt | apply bne_f | apply beq_f); omega)) | ((with_reducible first | apply Wp.callN | apply Wp.callK); (with_reducible assumption)) | ((with_reducible apply Wp.outK); (with_reducible assumption)) | (with_reducible first | refine Wp.go0 (by assumption) ?_ | refine Wp.go1 (by assumption) ?_ | refine Wp.go2 (by assumption) ?_) | rw [newP_eq])
    exact Wp.ret rfl
  | false =>
    have hm := hg rfl
    have t2 : Tch [] h1 (newH h1 30 zeros22) := Tch.newH _ _ _ _
    have n2 := next_newH h1 30 zeros22
    repeat (first | (with_reducible first | refine Wp.join0 (fun _ _ => ?_) | refine Wp.join1 (fun _ _ => ?_) | refine Wp.join2 (fun _ _ => ?_)) | ((with_reducible first | refine Wp.lettw ?_ ?_ ?_ | refine Wp.lettu64 ?_ ?_ ?_ | refine Wp.lettu8 ?_ ?_ ?_ | refine Wp.lettu32 ?_ ?_ ?_); omega; omega) | (with_reducible refine Wp.lett ?_) | ((with_reducible apply Wp.obind); first | (with_reducible first | exact avInt_int _ _ | exact avBool_bool _ | exact avStr_str _ | exact nilC_ptr _ _ | exact fldP_ptr _ _ _ | exact avAgg_agg _ | exact extT_0 _ _ | exact extT_1 _ _ _ | exact extT_2 _ _ _ _ | assumption) | ((with_reducible first | apply RowH.cell' | apply RowH.ldAll); (with_reducible assumption); rfl)) | ((with_reducible refine Wp.ift ?_ ?_); first | (with_reducible first | rfl | assumption | exact Bool.not_false) | ((with_reducible first | apply decide_eq_true | apply not_df | apply bne_t | apply beq_t); omega)) | ((with_reducible refine Wp.iff ?_ ?_); first | (with_reducible first | rfl | assumption | exact Bool.not_true) | ((with_reducible first | apply decide_eq_false | apply not_dt | apply bne_f | apply beq_f); omega)) | ((with_reducible first | apply Wp.callN | apply Wp.callK); (with_reducible assumption)) | ((with_reducible apply Wp.outK); (with_reducible assumption)) | (with_reducible first | refine Wp.go0 (by assumption) ?_ | refine Wp.go1 (by assumption) ?_ | refine Wp.go2 (by assumption) ?_) | rw [newP_eq])
    refine Wp.stAll (RowH.new h1 30 zeros22) rfl rfl hone (fun h3 k3 t3 n3 => ?_)
    have t13 : Tch [] h1 h3 := t2.trans' t3 (by intro b hb; simp at hb; subst hb; exact .inr (Nat.le_refl _))
    have hsl3 : Slc h.next h3 2 m.ents (es.map entC) := hsl1.tch t13 (by omega) (by simp)
    have k03 := k0.tch t13 (by omega) (by simp)
    have x3 : h3.ex = [53] := t13.2.1.trans x1
    have n13 : h3.next = h1.next + 1 := n3
    obtain ⟨v, h4, e4, hv, hv1, hvc, t4⟩ := clone_w (n := n) (d := 6) hsl3 (by omega) hm (by rw [x3]; rfl)
    have hn4 := t4.1
    repeat (first | (with_reducible first | refine Wp.join0 (fun _ _ => ?_) | refine Wp.join1 (fun _ _ => ?_) | refine Wp.join2 (fun _ _ => ?_)) | ((with_reducible first | refine Wp.lettw ?_ ?_ ?_ | refine Wp.lettu64 ?_ ?_ ?_ | refine Wp.lettu8 ?_ ?_ ?_ | refine Wp.lettu32 ?_ ?_ ?_); omega; omega) | (with_reducible refine Wp.lett ?_) | ((with_reducible apply Wp.obind); first | (with_reducible first | exact avInt_int _ _ | exact avBool_bool _ | exact avStr_str _ | exact nilC_ptr _ _ | exact fldP_ptr _ _ _ | exact avAgg_agg _ | exact extT_0 _ _ | exact extT_1 _ _ _ | exact extT_2 _ _ _ _ | assumption) | ((with_reducible first | apply RowH.cell' | apply RowH.ldAll); (with_reducible assumption); rfl)) | ((with_reducible refine Wp.ift ?_ ?_); first | (with_reducible first | rfl | assumption | exact Bool.not_false) | ((with_reducible first | apply decide_eq_true | apply not_df | apply bne_t | apply beq_t); omega)) | ((with_reducible refine Wp.iff ?_ ?_); first | (with_reducible first | rfl | assumption | exact Bool.not_true) | ((with_reducible first | apply decide_eq_false | apply not_dt | apply bne_f | apply beq_f); omega)) | ((with_reducible first | apply Wp.callN | apply Wp.callK); (with_reducible assumption)) | ((with_reducible apply Wp.outK); (with_reducible assumption)) | (with_reducible first | refine Wp.go0 (by assumption) ?_ | refine Wp.go1 (by assumption) ?_ | refine Wp.go2 (by assumption) ?_) | rw [newP_eq])
    rw [hvc]
    have k4 := k3.tch t4 (by omega) (by simp)
    refine Wp.st1 k4 (show 9 < 22 by decide) hv1 (fun h5 k5 t5 n5 => ?_)
    have k05 := (k03.tch t4 (by omega) (by simp)).tch t5 (by omega) (by simp; omega)
    have t35 : Tch [h1.next] h3 h5 := (t4.mono (by simp)).trans t5
    have hs5 : EntsAt h.next h5 m.ents es := entsAt_of (hsl3.tch t35 (by omega) (by simp; omega))
    have hin5 : EntsAt h5.next h5 v es := (hv.tch t5 (by simp; omega)).at
    have x5 : h5.ex = [53] := t35.2.1.trans x3
    have E5 : Env h5 := ⟨by rw [x5]; rfl, by rw [x5]; rfl, by rw [x5]; rfl⟩
    let m' : Ms := { m with ents := v }
    have hm' : m.cells.set 9 v = m'.cells := rfl
    have hone' : m'.cells.all AV.one = true := all_set hone hv1 9
    have hfm : formM m' es = formM m es := rfl
    have hl' : lensOk m' es := ⟨hl.data, hl.each, hl.many⟩
    have hcm : chkM m' es = chkM m es := rfl
    have kin : RowH h5 h1.next 30 m'.cells := k5
    have rc := refCheck_w (n := n) (d := 5) (by omega) (by omega) hs5 (by omega) hl hone (by rw [x5]; rfl)
    have en := encode_w (n := n) (d := 1) (m := m') (es := es) (by omega) (by omega) hin5 (Nat.le_refl _) hl' hone' ⟨hop1, hop2⟩ E5
    have ck := check_w (n := n) (d := 4) (m := m') (es := es) (by omega) (by omega) hin5 (Nat.le_refl _) hl' hone'
    have sa := refSame_w (n := n) (d := 5) (m := m') (m' := m) (es := es) (es' := es) (h := h5) (N := h5.next) (by omega) (by omega) hin5 (hs5.mono (by omega)) (Nat.le_refl _) hl.many hl.many hone' hone (by rw [x5]; rfl)
    rw [hcm] at en ck
    rw [hfm] at en
    rw [decide_eq_true ⟨sameH_self m, rfl⟩] at sa
    repeat (first | (with_reducible first | refine Wp.join0 (fun _ _ => ?_) | refine Wp.join1 (fun _ _ => ?_) | refine Wp.join2 (fun _ _ => ?_)) | ((with_reducible first | refine Wp.lettw ?_ ?_ ?_ | refine Wp.lettu64 ?_ ?_ ?_ | refine Wp.lettu8 ?_ ?_ ?_ | refine Wp.lettu32 ?_ ?_ ?_); omega; omega) | (with_reducible refine Wp.lett ?_) | ((with_reducible apply Wp.obind); first | (with_reducible first | exact avInt_int _ _ | exact avBool_bool _ | exact avStr_str _ | exact nilC_ptr _ _ | exact fldP_ptr _ _ _ | exact avAgg_agg _ | exact extT_0 _ _ | exact extT_1 _ _ _ | exact extT_2 _ _ _ _ | assumption) | ((with_reducible first | apply RowH.cell' | apply RowH.ldAll); (with_reducible assumption); rfl)) | ((with_reducible refine Wp.ift ?_ ?_); first | (with_reducible first | rfl | assumption | exact Bool.not_false) | ((with_reducible first | apply decide_eq_true | apply not_df | apply bne_t | apply beq_t); omega)) | ((with_reducible refine Wp.iff ?_ ?_); first | (with_reducible first | rfl | assumption | exact Bool.not_true) | ((with_reducible first | apply decide_eq_false | apply not_dt | apply bne_f | apply beq_f); omega)) | ((with_reducible first | apply Wp.callN | apply Wp.callK); (with_reducible assumption)) | ((with_reducible apply Wp.outK); (with_reducible assumption)) | (with_reducible first | refine Wp.go0 (by assumption) ?_ | refine Wp.go1 (by assumption) ?_ | refine Wp.go2 (by assumption) ?_) | rw [newP_eq])
    by_cases hc : chkM m es = 0
    · have hF := fine_of hc
      have fo := refForm_w (n := n) (d := 4) hF hone ⟨hop1, hop2⟩ hs5 (by omega) (by omega) (by rw [x5]; rfl) (by rw [x5]; rfl)
      rw [if_pos hc]
      repeat (first | (with_reducible first | refine Wp.join0 (fun _ _ => ?_) | refine Wp.join1 (fun _ _ => ?_) | refine Wp.join2 (fun _ _ => ?_)) | ((with_reducible first | refine Wp.lettw ?_ ?_ ?_ | refine Wp.lettu64 ?_ ?_ ?_ | refine Wp.lettu8 ?_ ?_ ?_ | refine Wp.lettu32 ?_ ?_ ?_); omega; omega) | (with_reducible refine Wp.lett ?_) | ((with_reducible apply Wp.obind); first | (with_reducible first | exact avInt_int _ _ | exact avBool_bool _ | exact avStr_str _ | exact nilC_ptr _ _ | exact fldP_ptr _ _ _ | exact avAgg_agg _ | exact extT_0 _ _ | exact extT_1 _ _ _ | exact extT_2 _ _ _ _ | assumption) | ((with_reducible first | apply RowH.cell' | apply RowH.ldAll); (with_reducible assumption); rfl)) | ((with_reducible refine Wp.ift ?_ ?_); first | (with_reducible first | rfl | assumption | exact Bool.not_false) | ((with_reducible first | apply decide_eq_true | apply not_df | apply bne_t | apply beq_t); omega)) | ((with_reducible refine Wp.iff ?_ ?_); first | (with_reducible first | rfl | assumption | exact Bool.not_true) | ((with_reducible first | apply decide_eq_false | apply not_dt | apply bne_f | apply beq_f); omega)) | ((with_reducible first | apply Wp.callN | apply Wp.callK); (with_reducible assumption)) | ((with_reducible apply Wp.outK); (with_reducible assumption)) | (with_reducible first | refine Wp.go0 (by assumption) ?_ | refine Wp.go1 (by assumption) ?_ | refine Wp.go2 (by assumption) ?_) | rw [newP_eq])
      exact Wp.ret (by rw [eqS_true.2 rfl])
    · rw [if_neg hc]
      repeat (first | (with_reducible first | refine Wp.join0 (fun _ _ => ?_) | refine Wp.join1 (fun _ _ => ?_) | refine Wp.join2 (fun _ _ => ?_)) | ((with_reducible first | refine Wp.lettw ?_ ?_ ?_ | refine Wp.lettu64 ?_ ?_ ?_ | refine Wp.lettu8 ?_ ?_ ?_ | refine Wp.lettu32 ?_ ?_ ?_); omega; omega) | (with_reducible refine Wp.lett ?_) | ((with_reducible apply Wp.obind); first | (with_reducible first | exact avInt_int _ _ | exact avBool_bool _ | exact avStr_str _ | exact nilC_ptr _ _ | exact fldP_ptr _ _ _ | exact avAgg_agg _ | exact extT_0 _ _ | exact extT_1 _ _ _ | exact extT_2 _ _ _ _ | assumption) | ((with_reducible first | apply RowH.cell' | apply RowH.ldAll); (with_reducible assumption); rfl)) | ((with_reducible refine Wp.ift ?_ ?_); first | (with_reducible first | rfl | assumption | exact Bool.not_false) | ((with_reducible first | apply decide_eq_true | apply not_df | apply bne_t | apply beq_t); omega)) | ((with_reducible refine Wp.iff ?_ ?_); first | (with_reducible first | rfl | assumption | exact Bool.not_true) | ((with_reducible first | apply decide_eq_false | apply not_dt | apply bne_f | apply beq_f); omega)) | ((with_reducible first | apply Wp.callN | apply Wp.callK); (with_reducible assumption)) | ((with_reducible apply Wp.outK); (with_reducible assumption)) | (with_reducible first | refine Wp.go0 (by assumption) ?_ | refine Wp.go1 (by assumption) ?_ | refine Wp.go2 (by assumption) ?_) | rw [newP_eq])
      exact Wp.ret rfl
end Go.Proofs.Ytmibgiblejpgdaa
