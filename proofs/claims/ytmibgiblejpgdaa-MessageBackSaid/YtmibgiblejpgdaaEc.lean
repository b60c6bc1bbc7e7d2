/- What a message's bytes are: the program's Encode. -/
import Derived.Test.YtmibgiblejpgdaaEn
namespace Go.Proofs.Ytmibgiblejpgdaa
open Go.RowKit Abs

theorem bldSl54_1 (h : AHeap) (s : Bytes) : bldSl Try.prog h 54 1 [(0, strA s)] = outNewS h 9 (strsC [s]) [s].length 1 := by kernel_rfl
theorem bldSl54_2 (h : AHeap) (s t : Bytes) : bldSl Try.prog h 54 2 [(0, strA s), (1, strA t)] = outNewS h 9 (strsC [s, t]) [s, t].length 1 := by kernel_rfl
theorem bldSl54_5 (h : AHeap) (s t u v w : Bytes) : bldSl Try.prog h 54 5 [(0, strA s), (1, strA t), (2, strA u), (3, strA v), (4, strA w)] = outNewS h 9 (strsC [s, t, u, v, w]) [s, t, u, v, w].length 1 := by kernel_rfl
theorem strsC_one (ss : List Bytes) : (strsC ss).all AV.one = true := by
  unfold strsC
  rw [List.all_eq_true]
  intro x hx
  obtain ⟨y, _, rfl⟩ := List.mem_map.1 hx
  rfl
/-- a builder that was begun at h2 -/
def BS (h2 : AHeap) (b : Nat) (H : AHeap) (l : Bytes) : Prop := ∃ c, BldW H b c l ∧ (c = b ∨ h2.next ≤ c) ∧ Tch [b] h2 H
section
variable {n d b bm N : Nat} {h h2 H H' : AHeap} {l : Bytes} {ss : List Bytes} {m : Ms} {es : List (Int × Bytes)} {Q : ARes → AHeap → Prop}
theorem BS.tch (k : BS h2 b H l) (t : Tch [] H H') : BS h2 b H' l := by
  obtain ⟨c, k1, k2, k3⟩ := k
  exact ⟨c, k1.tch t (by simp) (by simp), k2, k3.trans (t.mono (by simp))⟩
theorem BS.row {bm : Nat} {e : TypeId} {cs : List AV} (k : BS h2 b H l) (r : RowH h2 bm e cs) (h1 : bm < h2.next) (h3 : bm ≠ b) : RowH H bm e cs := by
  obtain ⟨c, _, _, t⟩ := k
  exact r.tch t h1 (by simpa using h3)
theorem BS.ex (k : BS h2 b H l) : H.ex = h2.ex := by
  obtain ⟨c, _, _, t⟩ := k
  exact t.2.1
theorem BS.le (k : BS h2 b H l) : h2.next ≤ H.next := by
  obtain ⟨c, _, _, t⟩ := k
  exact t.1
theorem put_step {o : OutT} {K : AHeap → R} (eb : o = outNewS H 9 (strsC ss) ss.length 1) (k : BS h2 b H l) (hn : 100 < n) (hss : ss.length ≤ 100) (hx : memB TBld h2.ex = true) (hu : memB TU8 h2.ex = false) (hu9 : memB 9 h2.ex = false) (hbig : (l ++ ss.flatten).length ≤ 1000000000)
    (hk : ∀ H', BS h2 b H' (l ++ ss.flatten) → Wp (K H') Q) :
    Wp (outK o fun v H1 => callN (dynC Try.prog (world n (d + 3)) (AV.fn 20 [] [.ptr b 0]) [v] H1) fun _ H2 => K H2) Q := by
  obtain ⟨c, k1, k2, k3⟩ := k
  have hex := k3.2.1
  have hle := k3.1
  have hlt := k1.lt
  refine Wp.outK (eb.trans (out_news (strsC_one ss) (by rw [hex]; exact hu9))) ?_
  have t1 : Tch [] H (newH H 9 (strsC ss)) := Tch.newH _ _ _ _
  refine Wp.callNw (Wp.mono (put_w (n := n) (d := d) (by omega) (by omega) (k1.tch t1 (by simp) (by simp)) (RowH.new H 9 (strsC ss)) (Nat.lt_succ_self _) (by omega) (by omega) (by rw [t1.2.1, hex]; exact hx) (by rw [t1.2.1, hex]; exact hu) hbig) ?_)
  rintro r H2 ⟨rfl, c', q1, q2, q3⟩
  refine ⟨_, rfl, hk H2 ⟨c', q1, ?_, (k3.trans (t1.mono (by simp))).trans' q3 ?_⟩⟩
  · rw [next_newH] at q2
    omega
  · intro x hx
    simp only [List.mem_cons, List.not_mem_nil, or_false] at hx ⊢
    omega
theorem u8_i {v : Int} (h0 : 0 ≤ v) (hv : v < 256) (hn : 8 < n) (hx : memB 5 h.ex = false) : world n (d + 2) 22 [.int .u8 v] h = some (.ret (strA (numB 1 v.toNat)), h) := by
  obtain ⟨k, rfl⟩ := Int.eq_ofNat_of_zero_le h0
  exact u8_w hn (by omega) hx
theorem u32_i {v : Int} (h0 : 0 ≤ v) (hv : v < 4294967296) (hn : 8 < n) (hx : memB 5 h.ex = false) : world n (d + 2) 26 [.int .u32 v] h = some (.ret (strA (numB 4 v.toNat)), h) := by
  obtain ⟨k, rfl⟩ := Int.eq_ofNat_of_zero_le h0
  exact u32_w hn (by omega) hx
theorem u64_i {v : Int} (h0 : 0 ≤ v) (hv : v < 18446744073709551616) (hn : 8 < n) (hx : memB 5 h.ex = false) : world n (d + 2) 24 [.int .u64 v] h = some (.ret (strA (numB 8 v.toNat)), h) := by
  obtain ⟨k, rfl⟩ := Int.eq_ofNat_of_zero_le h0
  exact u64_w hn (by omega) hx
theorem mtext_w {s : Bytes} (hn : 8 < n) (hs : s.length ≤ 1048576) (hx : memB 5 h.ex = false) : world n (d + 5) 27 [strA s] h = some (.ret (strA (textB s)), h) := by
  rw [w_message_text]
  unfold message_text
  rw [text_w hn hs hx, callN_ret, extT_0, obind_val, avStr_str, obind_val, extT_1, obind_val, avInt_int, obind_val]
  exact gcR_self
theorem mbool_w {g : Bool} (hn : 8 < n) (hx : memB 5 h.ex = false) : world n (d + 3) 25 [.bool g] h = some (.ret (strA (numB 1 (boolN g))), h) := bool_w hn hx
theorem entsTo_le (hF : ∀ e ∈ es, 0 ≤ e.1 ∧ e.1 ≤ 1125899906842624 ∧ e.2.length ≤ 3500) : ∀ i, i ≤ es.length → (entsTo es i).length ≤ 4000 * i
  | 0, _ => by simp [entsTo]
  | i + 1, hi => by
    have h1 := entsTo_le hF i (by omega)
    have h2 := hF _ (List.getElem_mem (show i < es.length by omega))
    rw [entsTo_succ (show i < es.length by omega), entB]
    simp only [List.length_append, numB_length, textB_length]
    omega
theorem formM_le (hF : Fine m es) : (formM m es).length ≤ 100000 := by
  have h1 := entsTo_le hF.each es.length (Nat.le_refl _)
  have h2 := hF.few
  have h3 := hF.short
  have h4 := numsTo_length m 15
  unfold formM midB
  simp only [List.length_append, numB_length, textB_length]
  omega
structure Env (h : AHeap) : Prop where
  bld : memB TBld h.ex = true
  u8 : memB TU8 h.ex = false
  str : memB 9 h.ex = false
theorem Env.of (k : Env h) (e : H.ex = h.ex) : Env H := ⟨by rw [e]; exact k.bld, by rw [e]; exact k.u8, by rw [e]; exact k.str⟩
theorem enc_loop1 (hr : right m) (kb : RowH h2 bm 30 m.cells) (hbm : bm < h2.next) (hne : bm ≠ b) (hb : b < h2.next) (hn : 100 < n) (E : Env h2) {s0 : Bytes} (hs0 : s0.length ≤ 100) {k34 : AHeap → R} {hp : AHeap} (ep : newP hp = .ptr b 0)
    (hk : ∀ H, BS h2 b H (s0 ++ numsTo m 15) → Wp (k34 H) Q) : ∀ (f i : Nat) (H : AHeap), 15 < f + i → i ≤ 15 → BS h2 b H (s0 ++ numsTo m i) → Wp (message_Encode_L1 (world n (d + 5)) hp (numsP bm) k34 f (i : Int) H) Q
  | 0, i, H, h1, h2, _ => by omega
  | f + 1, i, H, h1, h2, k => by
    rw [message_Encode_L1_s]
    unfold message_Encode_L1b
    by_cases hi : i < 15
    · have e1 := nix H bm ⟨i, hi⟩
      have c1 := (k.row kb hbm hne).cell' (numCell m ⟨i, hi⟩)
      have hr1 : 0 ≤ m.nums ⟨i, hi⟩ ∧ m.nums ⟨i, hi⟩ ≤ mostOf i := hr ⟨i, hi⟩
      have hm : mostOf i ≤ 1125899906842624 := by unfold mostOf; split <;> omega
      have hlen := numsTo_length m i
      have E1 := E.of k.ex
      rw [ep]
      repeat (first | ((with_reducible refine Wp.lettu64 ?_ ?_ ?_); omega; omega) | (with_reducible refine Wp.lett ?_) | ((with_reducible apply Wp.obind); (with_reducible first | exact c1 | exact avInt_int _ _ | exact avStr_str _ | exact nilC_ptr _ _)) | ((with_reducible refine Wp.ift ?_ ?_); ((with_reducible apply decide_eq_true); omega)) | ((with_reducible apply Wp.callN); (with_reducible exact u64_i (by omega) (by omega) (by omega) E1.u8)) | ((with_reducible apply Wp.outK); (with_reducible exact e1)))
      refine put_step (d := d + 2) (bldSl54_1 _ _) k hn (by simp) E.bld E.u8 E.str (by simp [numB_length]; omega) (fun H' k' => ?_)
      repeat (((with_reducible refine Wp.lettw ?_ ?_ ?_); omega; omega))
      rw [show (i : Int) + 1 = ((i + 1 : Nat) : Int) by omega]
      refine enc_loop1 hr kb hbm hne hb hn E hs0 ep hk f (i + 1) H' (by omega) (by omega) ?_
      rw [numsTo, numN_of m hi, ← List.append_assoc]
      simpa using k'
    · have : i = 15 := by omega
      subst this
      repeat (first | (with_reducible refine Wp.lett ?_) | ((with_reducible refine Wp.iff ?_ ?_); ((with_reducible apply decide_eq_false); omega)))
      exact hk H k
theorem enc_loop0 (hF : ∀ e ∈ es, 0 ≤ e.1 ∧ e.1 ≤ 1125899906842624 ∧ e.2.length ≤ 3500) (hfew : es.length ≤ 4) (hs : EntsAt N h2 m.ents es) (hN : N ≤ h2.next) (hNb : N ≤ b) (hb : b < h2.next) (hn : 100 < n) (E : Env h2) {s0 : Bytes} (hs0 : s0.length ≤ 100000) {k95 : AHeap → R} {hp : AHeap} (ep : newP hp = .ptr b 0)
    (hk : ∀ H, BS h2 b H (s0 ++ entsTo es es.length) → Wp (k95 H) Q) : ∀ (f i : Nat) (H : AHeap), es.length < f + i → i ≤ es.length → (s0 ++ entsTo es i).length ≤ 100000 + 4000 * i → BS h2 b H (s0 ++ entsTo es i) → Wp (message_Encode_L0 (world n (d + 5)) hp m.ents (es.length : Int) k95 f (i : Int) H) Q
  | 0, i, H, h1, h2, _, _ => by omega
  | f + 1, i, H, h1, h2', hl, k => by
    rw [message_Encode_L0_s]
    unfold message_Encode_L0b
    by_cases hi : i < es.length
    · obtain ⟨c0, kc, hc0, tH⟩ := id k
      obtain ⟨br, hb', e1, e2, _, _⟩ := ents_row (hs.tch tH hN (by simpa using hNb)) hi
      have hf := hF _ (List.getElem_mem hi)
      have E1 := E.of k.ex
      have hle := k.le
      rw [ep]
      repeat (first | (with_reducible refine Wp.lett ?_) | ((with_reducible apply Wp.obind); (with_reducible assumption)) | ((with_reducible refine Wp.ift ?_ ?_); ((with_reducible apply decide_eq_true); omega)) | rw [newP_eq])
      refine Wp.stAll (RowH.new H 42 [.int .i64 0, .str 0 0]) rfl rfl rfl (fun H1 r1 t1 n1 => ?_)
      have t2 : Tch [] H H1 := (Tch.newH [] H 42 [.int .i64 0, .str 0 0]).trans' t1 (by intro b hb; simp at hb; subst hb; exact .inr (Nat.le_refl _))
      have E2 := E1.of t2.2.1
      have k1 := k.tch t2
      have R9 : reLoad Try.prog H1 9 (.ptr H.next 1) (strA es[i].2) = true := reLoad_c (by kernel_rfl) (r1.cell' rfl)
      refine Wp.obind (r1.cell' rfl) ?_
      (((with_reducible apply Wp.obind); (with_reducible exact avInt_int _ _)))
      (((with_reducible refine Wp.lettu64 ?_ ?_ ?_); omega; omega))
      refine Wp.obind (r1.cell' rfl) ?_
      repeat (first | ((with_reducible apply Wp.obind); (with_reducible exact avStr_str _)) | ((with_reducible apply Wp.callN); (with_reducible first | exact u64_i (by omega) (by omega) (by omega) E2.u8 | exact mtext_w (by omega) (by omega) E2.u8)) | ((with_reducible refine Wp.chk ?_ ?_); simp only [R9, Bool.and_self]))
      refine put_step (d := d + 2) (bldSl54_2 _ _ _) k1 hn (by simp) E.bld E.u8 E.str (by simp [numB_length, textB_length] at hl ⊢; omega) (fun H' k' => ?_)
      repeat (((with_reducible refine Wp.lettw ?_ ?_ ?_); omega; omega))
      rw [show (i : Int) + 1 = ((i + 1 : Nat) : Int) by omega]
      have eq1 : s0 ++ entsTo es (i + 1) = s0 ++ entsTo es i ++ [numB 8 es[i].1.toNat, textB es[i].2].flatten := by
        rw [entsTo_succ hi, entB]
        simp
      refine enc_loop0 hF hfew hs hN hNb hb hn E hs0 ep hk f (i + 1) H' (by omega) (by omega) ?_ (by rw [eq1]; exact k')
      rw [eq1]
      simp [numB_length, textB_length] at hl ⊢
      omega
    · have : i = es.length := by omega
      subst this
      repeat (first | (with_reducible refine Wp.lett ?_) | ((with_reducible refine Wp.iff ?_ ?_); ((with_reducible apply decide_eq_false); omega)))
      exact hk H k
set_option maxRecDepth 100000 in
theorem encode_w (hn : 100 < n) (hn2 : es.length < n) (hs : EntsAt N h m.ents es) (hN : N ≤ h.next) (hl : lensOk m es) (hone : m.cells.all AV.one = true) (hop : 0 ≤ m.op ∧ m.op < 256) (E : Env h) :
    world n (d + 6) 9 [.agg m.cells] h = some (.ret (.tup [strA (if chkM m es = 0 then formM m es else []), .int .i64 (chkM m es)]), h) := by
  apply Wp.eq
  rw [w_message_Encode]
  refine Wp.gc ?_
  suffices hK : Wp (message_Encode (world n (d + 5)) n m.cells h) fun r h' => r = .ret (.tup [strA (if chkM m es = 0 then formM m es else []), .int .i64 (chkM m es)]) ∧ Tch [] h h' from hK.mono fun r h' ⟨e, t⟩ => ⟨t.above, by rw [e]; rfl, e, rfl⟩
  unfold message_Encode
  refine Wp.outK (box_agg hone) ?_
  have k0 := RowH.new h 30 m.cells
  have t0 : Tch [] h (newH h 30 m.cells) := Tch.newH _ _ _ _
  have n0 := next_newH h 30 m.cells
  rw [newP_eq]
  generalize newH h 30 m.cells = h1 at *
  have hs1 : EntsAt N h1 m.ents es := hs.tch t0 (by omega) (by simp)
  have E1 := E.of t0.2.1
  have ck := check_w (n := n) (d := d + 2) (by omega) hn2 hs1 (by omega) hl hone
  by_cases hc : chkM m es = 0
  case neg =>
    repeat (first | (with_reducible refine Wp.lett ?_) | ((with_reducible apply Wp.obind); first | (with_reducible exact avInt_int _ _) | ((with_reducible apply RowH.ldAll); (with_reducible assumption); rfl)) | ((with_reducible refine Wp.ift ?_ ?_); ((with_reducible apply bne_t); omega)) | ((with_reducible apply Wp.callN); (with_reducible assumption)))
    rw [if_neg hc]
    exact Wp.ret ⟨rfl, t0⟩
  have hF := fine_of hc
  have hh := hF.head
  unfold headOk at hh
  have hfew := hF.few
  have hsh := hF.short
  rw [if_pos hc]
  rw [hc] at ck ⊢
  have tB : Tch [] h1 (newH h1 53 [.nilp, .nsl]) := Tch.newH _ _ _ _
  have kB0 : BS (newH h1 53 [.nilp, .nsl]) h1.next (newH h1 53 [.nilp, .nsl]) [] := ⟨h1.next, BldR.new _ _ _, .inl rfl, Tch.refl _ _⟩
  have nB := next_newH h1 53 [.nilp, .nsl]
  have k2 := k0.tch tB (by omega) (by simp)
  have hs2 : EntsAt N (newH h1 53 [.nilp, .nsl]) m.ents es := hs1.tch tB (by omega) (by simp)
  have E2 := E1.of tB.2.1
  (((with_reducible apply Wp.obind); ((with_reducible apply RowH.ldAll); (with_reducible assumption); rfl)))
  (((with_reducible apply Wp.callN); (with_reducible assumption)))
  (((with_reducible apply Wp.obind); (with_reducible exact avInt_int _ _)))
  ((with_reducible refine Wp.lett ?_))
  (((with_reducible refine Wp.iff ?_ ?_); ((with_reducible apply bne_f); omega)))
  ((with_reducible refine Wp.lett ?_))
  rw [newP_eq h1]
  generalize newH h1 53 [.nilp, .nsl] = h2 at *
  have hb1 : boolN m.good ≤ 1 := by unfold boolN; split <;> omega
  have tA : Tch [] h h2 := t0.trans tB
  have hbm : h.next < h2.next := by omega
  have hne : h.next ≠ h1.next := by omega
  repeat (first | ((with_reducible apply Wp.obind); first | (with_reducible first | exact avInt_int _ _ | exact avStr_str _ | exact fldP_ptr _ _ _) | ((with_reducible apply RowH.cell'); (with_reducible assumption); rfl)) | ((with_reducible apply Wp.callN); (with_reducible exact u8_i (by omega) (by omega) (by omega) E2.u8)))
  refine put_step (d := d + 2) (bldSl54_1 _ _) kB0 hn (by simp) E2.bld E2.u8 E2.str (by simp [numB_length]) (fun H1 kB1 => ?_)
  obtain ⟨H2, e2, t2⟩ := numbers_w (n := n) (d := d + 4) (b := h.next) (h := H1)
  have kB2 := kB1.tch t2
  repeat (first | (with_reducible refine Wp.join0 (fun _ _ => ?_)) | ((with_reducible apply Wp.obind); (with_reducible exact avAgg_agg _)) | ((with_reducible apply Wp.callN); (with_reducible assumption)))
  rename_i k34 hk34
  refine enc_loop1 (d := d) hh.2.2.2.2.2.2 k2 hbm hne (by omega) hn E2 (s0 := [] ++ [numB 1 m.kind.toNat].flatten) (by simp [numB_length]) (newP_eq h1) ?_ n 0 H2 (by omega) (by omega) (by rw [numsTo, List.append_nil]; exact kB2)
  intro H3 kB3
  have k3 := kB3.row k2 hbm hne
  have E3 := E2.of kB3.ex
  have R9 : reLoad Try.prog H3 9 (.ptr h.next (0 + 12)) (strA m.data) = true := reLoad_c (by kernel_rfl) (k3.cell' rfl)
  have R3 : reLoad Try.prog H3 3 (.ptr h.next (0 + 21)) (.int .i64 m.leader) = true := reLoad_c (by kernel_rfl) (k3.cell' rfl)
  have R23 : reLoad Try.prog H3 23 (.ptr h.next (0 + 20)) (.int .i64 m.err) = true := reLoad_c (by kernel_rfl) (k3.cell' rfl)
  have R5 : reLoad Try.prog H3 5 (.ptr h.next (0 + 19)) (.int .u8 m.op) = true := reLoad_c (by kernel_rfl) (k3.cell' rfl)
  have l15 := numsTo_length m 15
  repeat (first | ((with_reducible first | refine Wp.lettu8 ?_ ?_ ?_ | refine Wp.lettu32 ?_ ?_ ?_); omega; omega) | ((with_reducible apply Wp.obind); first | (with_reducible first | exact avInt_int _ _ | exact avBool_bool _ | exact avStr_str _ | exact fldP_ptr _ _ _) | ((with_reducible apply RowH.cell'); (with_reducible assumption); rfl)) | ((with_reducible apply Wp.callN); (with_reducible first | exact mbool_w (by omega) E3.u8 | exact u8_i (by omega) (by omega) (by omega) E3.u8 | exact u32_i (by omega) (by omega) (by omega) E3.u8 | exact mtext_w (by omega) (by omega) E3.u8)) | ((with_reducible refine Wp.chk ?_ ?_); simp only [R9, R3, R23, R5, Bool.and_self]) | (with_reducible refine Wp.go0 (by assumption) ?_))
  refine put_step (d := d + 2) (bldSl54_5 _ _ _ _ _ _) kB3 hn (by simp) E2.bld E2.u8 E2.str (by simp [numB_length, textB_length, l15]; omega) (fun H4 kB4 => ?_)
  have k4 := kB4.row k2 hbm hne
  have E4 := E2.of kB4.ex
  repeat (first | ((with_reducible refine Wp.lettu8 ?_ ?_ ?_); omega; omega) | ((with_reducible apply Wp.obind); first | (with_reducible first | exact ents_len hs2 | exact avStr_str _ | exact fldP_ptr _ _ _) | ((with_reducible apply RowH.cell'); (with_reducible assumption); rfl)) | ((with_reducible apply Wp.callN); (with_reducible exact u8_i (by omega) (by omega) (by omega) E4.u8)))
  refine put_step (d := d + 2) (bldSl54_1 _ _) kB4 hn (by simp) E2.bld E2.u8 E2.str (by simp [numB_length, textB_length, l15]; omega) (fun H5 kB5 => ?_)
  have k5 := kB5.row k2 hbm hne
  repeat (first | (with_reducible refine Wp.join0 (fun _ _ => ?_)) | ((with_reducible apply Wp.obind); first | (with_reducible first | exact ents_len hs2 | exact fldP_ptr _ _ _) | ((with_reducible apply RowH.cell'); (with_reducible assumption); rfl)))
  rename_i k95 hk95
  refine enc_loop0 (d := d) hF.each hfew hs2 (by omega) (by omega) (by omega) hn E2 (s0 := [] ++ [numB 1 m.kind.toNat].flatten ++ numsTo m 15 ++ [numB 1 (boolN m.good), numB 1 m.op.toNat, numB 4 m.err.toNat, numB 1 m.leader.toNat, textB m.data].flatten ++ [numB 1 es.length].flatten) ?_ (newP_eq h1) ?_ n 0 H5 (by omega) (by omega) ?_ ?_
  · simp [numB_length, textB_length, l15]; omega
  · intro H6 kB6
    obtain ⟨c6, q1, q2, q3⟩ := kB6
    have hlen : (([] : Bytes) ++ [numB 1 m.kind.toNat].flatten ++ numsTo m 15 ++ [numB 1 (boolN m.good), numB 1 m.op.toNat, numB 4 m.err.toNat, numB 1 m.leader.toNat, textB m.data].flatten ++ [numB 1 es.length].flatten ++ entsTo es es.length) = formM m es := by
      unfold formM midB
      simp
    rw [hlen] at q1
    obtain ⟨H7, e7, t7⟩ := string_r (n := n) (d := d + 4) q1 (by have := formM_le hF; omega)
    repeat (first | ((with_reducible apply Wp.obind); (with_reducible exact avStr_str _)) | ((with_reducible apply Wp.callN); (with_reducible assumption)) | (with_reducible refine Wp.go0 (by assumption) ?_))
    refine Wp.ret ⟨rfl, ?_⟩
    refine (tA.trans' q3 (by intro x hx; simp at hx; omega)).trans' t7 ?_
    intro x hx
    simp only [List.mem_cons, List.not_mem_nil, or_false] at hx ⊢
    omega
  · simp [entsTo, numB_length, textB_length, l15]; omega
  · simpa [entsTo] using kB5
end
end Go.Proofs.Ytmibgiblejpgdaa
