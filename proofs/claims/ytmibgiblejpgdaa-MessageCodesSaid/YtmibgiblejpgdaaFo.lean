/- What a message's bytes are: the document's writing. -/
import Derived.Test.YtmibgiblejpgdaaEn
namespace Go.Proofs.Ytmibgiblejpgdaa
open Go.RowKit Abs

structure Fine (m : Ms) (es : List (Int × Bytes)) : Prop where
  head : headOk m
  few : es.length ≤ 4
  short : m.data.length ≤ 3500
  each : ∀ e ∈ es, 0 ≤ e.1 ∧ e.1 ≤ 1125899906842624 ∧ e.2.length ≤ 3500
theorem sum_fine : ∀ (es : List (Int × Bytes)) (a : Int), 0 ≤ a → sumCheck a es = 0 → ∀ e ∈ es, 0 ≤ e.1 ∧ e.1 ≤ 1125899906842624 ∧ e.2.length ≤ 3500
  | [], _, _, _, _, he => by simp at he
  | e :: es, a, ha, h, x, hx => by
    rw [sumCheck] at h
    split at h
    · cases h
    · rename_i h1
      split at h
      · cases h
      · rename_i h2
        rcases List.mem_cons.1 hx with rfl | hx
        · omega
        · exact sum_fine es _ (by omega) h x hx
theorem fine_of {m : Ms} {es : List (Int × Bytes)} (h : chkM m es = 0) : Fine m es := by
  unfold chkM at h
  split at h
  · rename_i h1
    split at h
    · cases h
    · rename_i h2
      exact ⟨h1, by omega, by omega, sum_fine es _ (by omega) h⟩
  · cases h
def numsC (m : Ms) : List AV := [.int .i64 (m.nums 0), .int .i64 (m.nums 1), .int .i64 (m.nums 2), .int .i64 (m.nums 3), .int .i64 (m.nums 4), .int .i64 (m.nums 5), .int .i64 (m.nums 6), .int .i64 (m.nums 7), .int .i64 (m.nums 8), .int .i64 (m.nums 9), .int .i64 (m.nums 10), .int .i64 (m.nums 11), .int .i64 (m.nums 12), .int .i64 (m.nums 13), .int .i64 (m.nums 14)]
theorem numsC_at (m : Ms) : ∀ i : Fin 15, (numsC m)[i.val]? = some (.int .i64 (m.nums i))
  | ⟨0, _⟩ => rfl
  | ⟨1, _⟩ => rfl
  | ⟨2, _⟩ => rfl
  | ⟨3, _⟩ => rfl
  | ⟨4, _⟩ => rfl
  | ⟨5, _⟩ => rfl
  | ⟨6, _⟩ => rfl
  | ⟨7, _⟩ => rfl
  | ⟨8, _⟩ => rfl
  | ⟨9, _⟩ => rfl
  | ⟨10, _⟩ => rfl
  | ⟨11, _⟩ => rfl
  | ⟨12, _⟩ => rfl
  | ⟨13, _⟩ => rfl
  | ⟨14, _⟩ => rfl
theorem numN_of (m : Ms) {i : Nat} (h : i < 15) : numN m i = (m.nums ⟨i, h⟩).toNat := by unfold numN; rw [dif_pos h]
theorem out_news {h : AHeap} {e : TypeId} {l : List AV} {n sz : Nat} (h1 : l.all AV.one = true) (hex : memB e h.ex = false) : outNewS h e l n sz = some (.val (.sl h.next 0 n sz), newH h e l) := by
  unfold outNewS
  rw [if_pos ⟨h1, hex⟩]
  rfl
theorem bldSl79 (h : AHeap) (a0 a1 a2 a3 a4 a5 a6 a7 a8 a9 a10 a11 a12 a13 a14 : Int) : bldSl Try.prog h 79 15 [(0, .int .i64 a0), (1, .int .i64 a1), (2, .int .i64 a2), (3, .int .i64 a3), (4, .int .i64 a4), (5, .int .i64 a5), (6, .int .i64 a6), (7, .int .i64 a7), (8, .int .i64 a8), (9, .int .i64 a9), (10, .int .i64 a10), (11, .int .i64 a11), (12, .int .i64 a12), (13, .int .i64 a13), (14, .int .i64 a14)] = outNewS h 3 [.int .i64 a0, .int .i64 a1, .int .i64 a2, .int .i64 a3, .int .i64 a4, .int .i64 a5, .int .i64 a6, .int .i64 a7, .int .i64 a8, .int .i64 a9, .int .i64 a10, .int .i64 a11, .int .i64 a12, .int .i64 a13, .int .i64 a14] 15 1 := by kernel_rfl
section
variable {n d b c N : Nat} {h : AHeap} {m : Ms} {es : List (Int × Bytes)} {Q : ARes → AHeap → Prop}
theorem refNumber_i {v W : Int} {w : Nat} (hW : W = (w : Int)) (hw : w ≤ 8) (h0 : 0 ≤ v) (hv : v < 18446744073709551616) (hn : 8 < n) (hx : memB 5 h.ex = false) : world n (d + 1) 35 [.int .u64 v, .int .i64 W] h = some (.ret (strA (numB w v.toNat)), h) := by
  obtain ⟨k, rfl⟩ := Int.eq_ofNat_of_zero_le h0
  subst hW
  exact refNumber_w hn hw (by omega) hx
theorem refNumber_1 {v : Int} (h0 : 0 ≤ v) (hv : v < 18446744073709551616) (hn : 8 < n) (hx : memB 5 h.ex = false) : world n (d + 1) 35 [.int .u64 v, .int .i64 1] h = some (.ret (strA (numB 1 v.toNat)), h) := refNumber_i (w := 1) rfl (by omega) h0 hv hn hx
theorem refNumber_4 {v : Int} (h0 : 0 ≤ v) (hv : v < 18446744073709551616) (hn : 8 < n) (hx : memB 5 h.ex = false) : world n (d + 1) 35 [.int .u64 v, .int .i64 4] h = some (.ret (strA (numB 4 v.toNat)), h) := refNumber_i (w := 4) rfl (by omega) h0 hv hn hx
theorem refNumber_8 {v : Int} (h0 : 0 ≤ v) (hv : v < 18446744073709551616) (hn : 8 < n) (hx : memB 5 h.ex = false) : world n (d + 1) 35 [.int .u64 v, .int .i64 8] h = some (.ret (strA (numB 8 v.toNat)), h) := refNumber_i (w := 8) rfl (by omega) h0 hv hn hx
theorem refNumbers_w (hone : m.cells.all AV.one = true) (hx3 : memB 3 h.ex = false) : ∃ c h', world n (d + 1) 34 [.agg m.cells] h = some (.ret (.sl c 0 15 1), h') ∧ RowH h' c 3 (numsC m) ∧ c < h'.next ∧ h.next ≤ c ∧ Tch [] h h' := by
  suffices hK : Wp (world n (d + 1) 34 [.agg m.cells] h) fun r h' => ∃ c, r = .ret (.sl c 0 15 1) ∧ RowH h' c 3 (numsC m) ∧ c < h'.next ∧ h.next ≤ c ∧ Tch [] h h' by
    obtain ⟨_, h', e, c, rfl, q⟩ := hK
    exact ⟨c, h', e, q⟩
  rw [w_ref17_Numbers]
  refine Wp.gcn ?_
  unfold ref17_Numbers
  refine Wp.outK (box_agg hone) ?_
  have k0 := RowH.new h 30 m.cells
  have t0 : Tch [] h (newH h 30 m.cells) := Tch.newH _ _ _ _
  have n0 := next_newH h 30 m.cells
  rw [newP_eq]
  generalize newH h 30 m.cells = h1 at *
  repeat (first | (with_reducible first | refine Wp.join0 (fun _ _ => ?_) | refine Wp.join1 (fun _ _ => ?_) | refine Wp.join2 (fun _ _ => ?_)) | ((with_reducible first | refine Wp.lettw ?_ ?_ ?_ | refine Wp.lettu64 ?_ ?_ ?_ | refine Wp.lettu8 ?_ ?_ ?_ | refine Wp.lettu32 ?_ ?_ ?_); omega; omega) | (with_reducible refine Wp.lett ?_) | ((with_reducible apply Wp.obind); first | (with_reducible first | exact avInt_int _ _ | exact avBool_bool _ | exact avStr_str _ | exact nilC_ptr _ _ | exact fldP_ptr _ _ _ | exact avAgg_agg _ | exact extT_0 _ _ | exact extT_1 _ _ _ | exact extT_2 _ _ _ _ | assumption) | ((with_reducible first | apply RowH.cell' | apply RowH.ldAll); (with_reducible assumption); rfl)) | ((with_reducible refine Wp.ift ?_ ?_); first | (with_reducible first | rfl | assumption | exact Bool.not_false) | ((with_reducible first | apply decide_eq_true | apply not_df | apply bne_t | apply beq_t); omega)) | ((with_reducible refine Wp.iff ?_ ?_); first | (with_reducible first | rfl | assumption | exact Bool.not_true) | ((with_reducible first | apply decide_eq_false | apply not_dt | apply bne_f | apply beq_f); omega)) | ((with_reducible first | apply Wp.callN | apply Wp.callK); (with_reducible assumption)) | ((with_reducible apply Wp.outK); (with_reducible assumption)) | (with_reducible first | refine Wp.go0 (by assumption) ?_ | refine Wp.go1 (by assumption) ?_ | refine Wp.go2 (by assumption) ?_) | rw [newP_eq])
  refine Wp.outK ((bldSl79 _ _ _ _ _ _ _ _ _ _ _ _ _ _ _ _).trans (out_news rfl (by rw [t0.2.1]; exact hx3))) ?_
  refine Wp.ret ⟨?_, h1.next, rfl, RowH.new _ _ _, Nat.lt_succ_self _, by omega, t0.trans (Tch.newH _ _ _ _)⟩
  show Nat.blt h1.next h.next = false
  cases hb : Nat.blt h1.next h.next with
  | false => rfl
  | true => exact absurd (Nat.le_of_ble_eq_true hb) (by omega)
theorem form_loop1 {c : Nat} {k19 : Bytes → AHeap → R} (hr : right m) (k : RowH h c 3 (numsC m)) (hn : 8 < n) (hx : memB 5 h.ex = false) (s0 : Bytes) (hs0 : s0.length ≤ 100) (hk : Wp (k19 (s0 ++ numsTo m 15) h) Q) : ∀ (f i : Nat), 15 < f + i → i ≤ 15 → Wp (ref17_Form_L1 (world n (d + 1)) (.sl c 0 15 1) k19 f (s0 ++ numsTo m i) (i : Int) h) Q
  | 0, i, h1, h2 => by omega
  | f + 1, i, h1, h2 => by
    rw [ref17_Form_L1_s]
    unfold ref17_Form_L1b
    refine Wp.obind (show lenL (.sl c 0 15 1) = some (15 : Int) from rfl) ?_
    by_cases hi : i < 15
    · have ei := idxP_sl (sz := 1) (b := c) (o := 0) (k := 1) hi
      rw [Nat.zero_add, Nat.mul_one] at ei
      have el := k.cell' (numsC_at m ⟨i, hi⟩)
      have hr1 : 0 ≤ m.nums ⟨i, hi⟩ ∧ m.nums ⟨i, hi⟩ ≤ mostOf i := hr ⟨i, hi⟩
      have hm : mostOf i ≤ 1125899906842624 := by unfold mostOf; split <;> omega
      have hlen := numsTo_length m i
      repeat (first | (with_reducible first | refine Wp.join0 (fun _ _ => ?_) | refine Wp.join1 (fun _ _ => ?_) | refine Wp.join2 (fun _ _ => ?_)) | ((with_reducible first | refine Wp.lettw ?_ ?_ ?_ | refine Wp.lettu64 ?_ ?_ ?_ | refine Wp.lettu8 ?_ ?_ ?_ | refine Wp.lettu32 ?_ ?_ ?_); omega; omega) | (with_reducible refine Wp.lett ?_) | ((with_reducible apply Wp.obind); first | (with_reducible first | exact addS_val (by simp only [List.length_append, numB_length]; omega) | exact avInt_int _ _ | exact avBool_bool _ | exact avStr_str _ | exact nilC_ptr _ _ | exact fldP_ptr _ _ _ | exact avAgg_agg _ | exact extT_0 _ _ | exact extT_1 _ _ _ | exact extT_2 _ _ _ _ | assumption) | ((with_reducible first | apply RowH.cell' | apply RowH.ldAll); (with_reducible assumption); rfl)) | ((with_reducible refine Wp.ift ?_ ?_); first | (with_reducible first | rfl | assumption | exact Bool.not_false) | ((with_reducible first | apply decide_eq_true | apply not_df | apply bne_t | apply beq_t); omega)) | ((with_reducible refine Wp.iff ?_ ?_); first | (with_reducible first | rfl | assumption | exact Bool.not_true) | ((with_reducible first | apply decide_eq_false | apply not_dt | apply bne_f | apply beq_f); omega)) | ((with_reducible first | apply Wp.callN | apply Wp.callK); (with_reducible first | exact refNumber_8 (by omega) (by omega) hn hx | assumption)) | ((with_reducible apply Wp.outK); (with_reducible assumption)) | (with_reducible first | refine Wp.go0 (by assumption) ?_ | refine Wp.go1 (by assumption) ?_ | refine Wp.go2 (by assumption) ?_) | rw [newP_eq])
      have := form_loop1 hr k hn hx s0 hs0 hk f (i + 1) (by omega) (by omega)
      rw [numsTo, numN_of m hi, ← List.append_assoc] at this
      rw [show (i : Int) + 1 = ((i + 1 : Nat) : Int) by omega]
      exact this
    · have : i = 15 := by omega
      subst this
      repeat (first | (with_reducible first | refine Wp.join0 (fun _ _ => ?_) | refine Wp.join1 (fun _ _ => ?_) | refine Wp.join2 (fun _ _ => ?_)) | ((with_reducible first | refine Wp.lettw ?_ ?_ ?_ | refine Wp.lettu64 ?_ ?_ ?_ | refine Wp.lettu8 ?_ ?_ ?_ | refine Wp.lettu32 ?_ ?_ ?_); omega; omega) | (with_reducible refine Wp.lett ?_) | ((with_reducible apply Wp.obind); first | (with_reducible first | exact avInt_int _ _ | exact avBool_bool _ | exact avStr_str _ | exact nilC_ptr _ _ | exact fldP_ptr _ _ _ | exact avAgg_agg _ | exact extT_0 _ _ | exact extT_1 _ _ _ | exact extT_2 _ _ _ _ | assumption) | ((with_reducible first | apply RowH.cell' | apply RowH.ldAll); (with_reducible assumption); rfl)) | ((with_reducible refine Wp.ift ?_ ?_); first | (with_reducible first | rfl | assumption | exact Bool.not_false) | ((with_reducible first | apply decide_eq_true | apply not_df | apply bne_t | apply beq_t); omega)) | ((with_reducible refine Wp.iff ?_ ?_); first | (with_reducible first | rfl | assumption | exact Bool.not_true) | ((with_reducible first | apply decide_eq_false | apply not_dt | apply bne_f | apply beq_f); omega)) | ((with_reducible first | apply Wp.callN | apply Wp.callK); (with_reducible assumption)) | ((with_reducible apply Wp.outK); (with_reducible assumption)) | (with_reducible first | refine Wp.go0 (by assumption) ?_ | refine Wp.go1 (by assumption) ?_ | refine Wp.go2 (by assumption) ?_) | rw [newP_eq])
      exact hk
theorem form_loop0 {k80 : Bytes → AHeap → R} {b : Nat} (hF : ∀ e ∈ es, 0 ≤ e.1 ∧ e.1 ≤ 1125899906842624 ∧ e.2.length ≤ 3500) (hfew : es.length ≤ 4) (kb : RowH h b 30 m.cells) (hs : EntsAt N h m.ents es) (hn : 8 < n) (hx : memB 5 h.ex = false) (s0 : Bytes) (hs0 : s0.length ≤ 10000) (hk : Wp (k80 (s0 ++ entsTo es es.length) h) Q) :
    ∀ (f i : Nat) (s : Bytes), s = s0 ++ entsTo es i → s.length ≤ 10000 + 4000 * i → es.length < f + i → i ≤ es.length → Wp (ref17_Form_L0 (world n (d + 2)) (.ptr b 0) k80 f s (i : Int) h) Q
  | 0, i, s, _, _, h1, h2 => by omega
  | f + 1, i, s, es0, hs1, h1, h2 => by
    rw [ref17_Form_L0_s]
    unfold ref17_Form_L0b
    by_cases hi : i < es.length
    · obtain ⟨br, hb, e1, _, e2, e3⟩ := ents_row hs hi
      have hf := hF _ (List.getElem_mem hi)
      have R9 : reLoad Try.prog h 9 (.ptr br (i * 2 + 1)) (strA es[i].2) = true := reLoad_c (by kernel_rfl) e3
      have R26 : reLoad Try.prog h 26 (.ptr b (0 + 9)) m.ents = true := reLoad_c (by kernel_rfl) (kb.cell' rfl)
      repeat (first | (with_reducible first | refine Wp.join0 (fun _ _ => ?_) | refine Wp.join1 (fun _ _ => ?_) | refine Wp.join2 (fun _ _ => ?_)) | ((with_reducible first | refine Wp.lettw ?_ ?_ ?_ | refine Wp.lettu64 ?_ ?_ ?_ | refine Wp.lettu8 ?_ ?_ ?_ | refine Wp.lettu32 ?_ ?_ ?_); omega; omega) | (with_reducible refine Wp.lett ?_) | ((with_reducible apply Wp.obind); first | (with_reducible first | exact ents_len hs | exact addS_val (by simp only [List.length_append, numB_length, textB_length]; omega) | exact avInt_int _ _ | exact avBool_bool _ | exact avStr_str _ | exact nilC_ptr _ _ | exact fldP_ptr _ _ _ | exact avAgg_agg _ | exact extT_0 _ _ | exact extT_1 _ _ _ | exact extT_2 _ _ _ _ | assumption) | ((with_reducible first | apply RowH.cell' | apply RowH.ldAll); (with_reducible assumption); rfl)) | ((with_reducible refine Wp.ift ?_ ?_); first | (with_reducible first | rfl | assumption | exact Bool.not_false) | ((with_reducible first | apply decide_eq_true | apply not_df | apply bne_t | apply beq_t); omega)) | ((with_reducible refine Wp.iff ?_ ?_); first | (with_reducible first | rfl | assumption | exact Bool.not_true) | ((with_reducible first | apply decide_eq_false | apply not_dt | apply bne_f | apply beq_f); omega)) | ((with_reducible first | apply Wp.callN | apply Wp.callK); (with_reducible first | exact refNumber_8 (by omega) (by omega) hn hx | exact refText_w hn (by omega) hx | assumption)) | ((with_reducible apply Wp.outK); (with_reducible assumption)) | ((with_reducible refine Wp.chk ?_ ?_); first | simp only [R9, R26, Bool.and_self]) | (with_reducible first | refine Wp.go0 (by assumption) ?_ | refine Wp.go1 (by assumption) ?_ | refine Wp.go2 (by assumption) ?_) | rw [newP_eq])
      rw [show (i : Int) + 1 = ((i + 1 : Nat) : Int) by omega]
      refine form_loop0 hF hfew kb hs hn hx s0 hs0 hk f (i + 1) _ ?_ ?_ (by omega) (by omega)
      · rw [entsTo_succ hi, es0, entB]
        simp only [List.append_assoc]
      · simp only [List.length_append, numB_length, textB_length]
        omega
    · have : i = es.length := by omega
      subst this
      repeat (first | (with_reducible first | refine Wp.join0 (fun _ _ => ?_) | refine Wp.join1 (fun _ _ => ?_) | refine Wp.join2 (fun _ _ => ?_)) | ((with_reducible first | refine Wp.lettw ?_ ?_ ?_ | refine Wp.lettu64 ?_ ?_ ?_ | refine Wp.lettu8 ?_ ?_ ?_ | refine Wp.lettu32 ?_ ?_ ?_); omega; omega) | (with_reducible refine Wp.lett ?_) | ((with_reducible apply Wp.obind); first | (with_reducible first | exact ents_len hs | exact avInt_int _ _ | exact avBool_bool _ | exact avStr_str _ | exact nilC_ptr _ _ | exact fldP_ptr _ _ _ | exact avAgg_agg _ | exact extT_0 _ _ | exact extT_1 _ _ _ | exact extT_2 _ _ _ _ | assumption) | ((with_reducible first | apply RowH.cell' | apply RowH.ldAll); (with_reducible assumption); rfl)) | ((with_reducible refine Wp.ift ?_ ?_); first | (with_reducible first | rfl | assumption | exact Bool.not_false) | ((with_reducible first | apply decide_eq_true | apply not_df | apply bne_t | apply beq_t); omega)) | ((with_reducible refine Wp.iff ?_ ?_); first | (with_reducible first | rfl | assumption | exact Bool.not_true) | ((with_reducible first | apply decide_eq_false | apply not_dt | apply bne_f | apply beq_f); omega)) | ((with_reducible first | apply Wp.callN | apply Wp.callK); (with_reducible assumption)) | ((with_reducible apply Wp.outK); (with_reducible assumption)) | (with_reducible first | refine Wp.go0 (by assumption) ?_ | refine Wp.go1 (by assumption) ?_ | refine Wp.go2 (by assumption) ?_) | rw [newP_eq])
      rw [es0]
      exact hk
theorem refTruth_w (g : Bool) : world n (d + 1) 36 [.bool g] h = some (.ret (.int .u64 (boolN g)), h) := by
  rw [w_ref17_truth]
  unfold ref17_truth
  cases g <;> exact gcR_self
theorem refForm_w (hF : Fine m es) (hone : m.cells.all AV.one = true) (hop : 0 ≤ m.op ∧ m.op < 256) (hs : EntsAt N h m.ents es) (hN : N ≤ h.next) (hn : 16 < n) (hx5 : memB 5 h.ex = false) (hx3 : memB 3 h.ex = false) : world n (d + 3) 18 [.agg m.cells] h = some (.ret (strA (formM m es)), h) := by
  apply Wp.eq
  rw [w_ref17_Form]
  refine Wp.gc ?_
  suffices hK : Wp (ref17_Form (world n (d + 2)) n m.cells h) fun r h' => r = .ret (strA (formM m es)) ∧ Tch [] h h' from hK.mono fun r h' ⟨e, t⟩ => ⟨t.above, by rw [e]; rfl, e, rfl⟩
  unfold ref17_Form
  refine Wp.outK (box_agg hone) ?_
  have k0 := RowH.new h 30 m.cells
  have t0 : Tch [] h (newH h 30 m.cells) := Tch.newH _ _ _ _
  have n0 := next_newH h 30 m.cells
  rw [newP_eq]
  generalize newH h 30 m.cells = h1 at *
  have hx5' : memB 5 h1.ex = false := by rw [t0.2.1]; exact hx5
  have hx3' : memB 3 h1.ex = false := by rw [t0.2.1]; exact hx3
  obtain ⟨c, h2, e2, kc, hc, _, t2⟩ := refNumbers_w (n := n) (d := d + 1) (m := m) hone hx3'
  have hx5'' : memB 5 h2.ex = false := by rw [t2.2.1]; exact hx5'
  have k2 := k0.tch t2 (by omega) (by simp)
  have hs2 : EntsAt N h2 m.ents es := (hs.tch t0 (by omega) (by simp)).tch t2 (by omega) (by simp)
  have hh := hF.head
  unfold headOk at hh
  have hfew := hF.few
  have hsh := hF.short
  have hn8 : 8 < n := by omega
  repeat (first | (with_reducible first | refine Wp.join0 (fun _ _ => ?_) | refine Wp.join1 (fun _ _ => ?_) | refine Wp.join2 (fun _ _ => ?_)) | ((with_reducible first | refine Wp.lettw ?_ ?_ ?_ | refine Wp.lettu64 ?_ ?_ ?_ | refine Wp.lettu8 ?_ ?_ ?_ | refine Wp.lettu32 ?_ ?_ ?_); omega; omega) | (with_reducible refine Wp.lett ?_) | ((with_reducible apply Wp.obind); first | (with_reducible first | exact avInt_int _ _ | exact avBool_bool _ | exact avStr_str _ | exact nilC_ptr _ _ | exact fldP_ptr _ _ _ | exact avAgg_agg _ | exact extT_0 _ _ | exact extT_1 _ _ _ | exact extT_2 _ _ _ _ | assumption) | ((with_reducible first | apply RowH.cell' | apply RowH.ldAll); (with_reducible assumption); rfl)) | ((with_reducible refine Wp.ift ?_ ?_); first | (with_reducible first | rfl | assumption | exact Bool.not_false) | ((with_reducible first | apply decide_eq_true | apply not_df | apply bne_t | apply beq_t); omega)) | ((with_reducible refine Wp.iff ?_ ?_); first | (with_reducible first | rfl | assumption | exact Bool.not_true) | ((with_reducible first | apply decide_eq_false | apply not_dt | apply bne_f | apply beq_f); omega)) | ((with_reducible first | apply Wp.callN | apply Wp.callK); (with_reducible first | exact refNumber_1 (by omega) (by omega) hn8 hx5' | exact e2 | assumption)) | ((with_reducible apply Wp.outK); (with_reducible assumption)) | (with_reducible first | refine Wp.go0 (by assumption) ?_ | refine Wp.go1 (by assumption) ?_ | refine Wp.go2 (by assumption) ?_) | rw [newP_eq])
  have R26 : reLoad Try.prog h2 26 (.ptr h.next (0 + 9)) m.ents = true := reLoad_c (by kernel_rfl) (k2.cell' rfl)
  have R9 : reLoad Try.prog h2 9 (.ptr h.next (0 + 12)) (strA m.data) = true := reLoad_c (by kernel_rfl) (k2.cell' rfl)
  have R3 : reLoad Try.prog h2 3 (.ptr h.next (0 + 21)) (.int .i64 m.leader) = true := reLoad_c (by kernel_rfl) (k2.cell' rfl)
  have R23 : reLoad Try.prog h2 23 (.ptr h.next (0 + 20)) (.int .i64 m.err) = true := reLoad_c (by kernel_rfl) (k2.cell' rfl)
  have R5 : reLoad Try.prog h2 5 (.ptr h.next (0 + 19)) (.int .u8 m.op) = true := reLoad_c (by kernel_rfl) (k2.cell' rfl)
  rename_i k19 hk19
  have hl15 := numsTo_length m 15
  have hb1 : boolN m.good ≤ 1 := by unfold boolN; split <;> omega
  have L1 := form_loop1 (Q := fun r h' => r = .ret (strA (formM m es)) ∧ Tch [] h h') (d := d + 1) (k19 := k19) hh.2.2.2.2.2.2 kc hn8 hx5'' (numB 1 m.kind.toNat) (by rw [numB_length]; omega) ?_ n 0 (by omega) (by omega)
  · rw [numsTo, List.append_nil] at L1
    exact L1
  repeat (first | (with_reducible first | refine Wp.join0 (fun _ _ => ?_) | refine Wp.join1 (fun _ _ => ?_) | refine Wp.join2 (fun _ _ => ?_)) | ((with_reducible first | refine Wp.lettw ?_ ?_ ?_ | refine Wp.lettu64 ?_ ?_ ?_ | refine Wp.lettu8 ?_ ?_ ?_ | refine Wp.lettu32 ?_ ?_ ?_); omega; omega) | (with_reducible refine Wp.lett ?_) | ((with_reducible apply Wp.obind); first | (with_reducible first | exact ents_len hs2 | exact addS_val (by simp only [List.length_append, numB_length, textB_length]; omega) | exact avInt_int _ _ | exact avBool_bool _ | exact avStr_str _ | exact nilC_ptr _ _ | exact fldP_ptr _ _ _ | exact avAgg_agg _ | exact extT_0 _ _ | exact extT_1 _ _ _ | exact extT_2 _ _ _ _ | assumption) | ((with_reducible first | apply RowH.cell' | apply RowH.ldAll); (with_reducible assumption); rfl)) | ((with_reducible refine Wp.ift ?_ ?_); first | (with_reducible first | rfl | assumption | exact Bool.not_false) | ((with_reducible first | apply decide_eq_true | apply not_df | apply bne_t | apply beq_t); omega)) | ((with_reducible refine Wp.iff ?_ ?_); first | (with_reducible first | rfl | assumption | exact Bool.not_true) | ((with_reducible first | apply decide_eq_false | apply not_dt | apply bne_f | apply beq_f); omega)) | ((with_reducible first | apply Wp.callN | apply Wp.callK); (with_reducible first | exact refTruth_w _ | exact refNumber_1 (by omega) (by omega) hn8 hx5'' | exact refNumber_4 (by omega) (by omega) hn8 hx5'' | exact refText_w hn8 (by omega) hx5'' | assumption)) | ((with_reducible apply Wp.outK); (with_reducible assumption)) | ((with_reducible refine Wp.chk ?_ ?_); first | simp only [R9, R26, R3, R23, R5, Bool.and_self]) | (with_reducible first | refine Wp.go0 (by assumption) ?_ | refine Wp.go1 (by assumption) ?_ | refine Wp.go2 (by assumption) ?_) | rw [newP_eq])
  rename_i k80 hk80
  refine form_loop0 (d := d) hF.each hfew k2 hs2 hn8 hx5'' _ ?_ ?_ n 0 _ (by simp [entsTo]; rfl) ?_ (by omega) (by omega)
  · simp only [List.length_append, numB_length, textB_length]; omega
  · rw [hk80]
    refine Wp.ret ⟨?_, t0.trans t2⟩
    unfold formM midB
    simp only [List.append_assoc]
  · simp only [List.length_append, numB_length, textB_length]; omega
end
end Go.Proofs.Ytmibgiblejpgdaa
