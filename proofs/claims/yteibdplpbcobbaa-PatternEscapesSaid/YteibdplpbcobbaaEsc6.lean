/- What patternEscapes_proved stands on, part 6 of 6. -/
import Derived.Test.YteibdplpbcobbaaEsc5
namespace Go.Proofs.Yteibdplpbcobbaa
open Go.RowKit Abs
theorem orI_nat {x y : Nat} (hx : x < 18446744073709551616) (hy : y < 18446744073709551616) : orI .u64 (x : Int) (y : Int) = ((x ||| y : Nat) : Int) := by
 have e : (BitVec.ofInt 64 (x : Int) ||| BitVec.ofInt 64 (y : Int)).toNat = x ||| y := by
  rw [BitVec.toNat_or, BitVec.toNat_ofInt, BitVec.toNat_ofInt]
  congr 1 <;> omega
 unfold orI
 show IntKind.u64.wrap (((BitVec.ofInt 64 (x : Int) ||| BitVec.ofInt 64 (y : Int)).toNat : Nat) : Int) = _
 rw [e, wrap_u64_mod]
 have := or_small hx hy
 omega
theorem xorI_nat {x y : Nat} (hx : x < 18446744073709551616) (hy : y < 18446744073709551616) : xorI .u64 (x : Int) (y : Int) = ((x ^^^ y : Nat) : Int) := by
 have e : (BitVec.ofInt 64 (x : Int) ^^^ BitVec.ofInt 64 (y : Int)).toNat = x ^^^ y := by
  rw [BitVec.toNat_xor, BitVec.toNat_ofInt, BitVec.toNat_ofInt]
  congr 1 <;> omega
 unfold xorI
 show IntKind.u64.wrap (((BitVec.ofInt 64 (x : Int) ^^^ BitVec.ofInt 64 (y : Int)).toNat : Nat) : Int) = _
 rw [e, wrap_u64_mod]
 have := Nat.xor_lt_two_pow (n := 64) (x := x) (y := y) (by omega) (by omega)
 omega
theorem shlI_one {k : Nat} (h : k < 64) : shlI .u64 1 (k : Int) = some ((2 ^ k : Nat) : Int) := by
 unfold shlI
 rw [if_neg (by omega)]
 have e : min ((k : Int).toNat) IntKind.u64.bits = k := by
  show min ((k : Int).toNat) 64 = k
  omega
 rw [e, wrap_u64_mod, Int.one_mul]
 have := pow_small h
 have e2 : ((2 : Int) ^ k) = ((2 ^ k : Nat) : Int) := by push_cast; rfl
 rw [e2]
 generalize 2 ^ k = z at this
 congr 1
 omega
theorem quoI_64 {c : Nat} (h : c < 1000) : quoI .i64 (c : Int) 64 = some ((c / 64 : Nat) : Int) := by
 unfold quoI
 rw [if_neg (by decide), Int.tdiv_eq_ediv_of_nonneg (by omega), wrap_i64 (by omega) (by omega)]
 congr 1
theorem remI_64 {c : Nat} : remI .i64 (c : Int) 64 = some ((c % 64 : Nat) : Int) := by
 unfold remI
 rw [if_neg (by decide), Int.tmod_eq_emod_of_nonneg (by omega)]
 congr 1
theorem idxA_ptr {n b o i : Nat} (h : i < n) : idxA n 1 (.ptr b o) (i : Int) = some (.ptr b (o + i)) := by
 have e : Nat.blt i n = true := by simpa using h
 show (match Nat.blt i n with | true => some (AV.ptr b (o + i * 1)) | false => none) = _
 rw [e, Nat.mul_one]
section
variable {n d b o p : Nat} {h : AHeap} {u : Bytes} {Q : ARes → AHeap → Prop} {pre post : List AV} {w : List Nat} {e : TypeId}
theorem get_words {i : Nat} (hi : i < w.length) : (pre ++ (wordsA w ++ post))[pre.length + i]? = some (.int .u64 (w.getD i 0 : Int)) := by
 rw [List.getElem?_append_right (by omega), show pre.length + i - pre.length = i by omega, List.getElem?_append_left (by rw [wordsA_len]; exact hi)]
 unfold wordsA
 rw [List.getElem?_map, List.getD_eq_getElem?_getD, List.getElem?_eq_getElem hi]
 rfl
theorem set_words {i x : Nat} (hi : i < w.length) : (pre ++ (wordsA w ++ post)).set (pre.length + i) (.int .u64 (x : Int)) = pre ++ (wordsA (w.set i x) ++ post) := by
 rw [List.set_append_right _ _ (by omega), show pre.length + i - pre.length = i by omega, List.set_append_left _ _ (by rw [wordsA_len]; exact hi)]
 unfold wordsA
 rw [List.map_set]
theorem span_loop {k4 : AHeap → R} (hpre : pre.length = o) : ∀ (m f lo : Nat) (w : List Nat) (H : AHeap), m < f → lo + m ≤ 256 → WordsOk w → RowH H b e (pre ++ (wordsA w ++ post)) →
   (∀ H', RowH H' b e (pre ++ (wordsA (spanW w lo m) ++ post)) → Tch [b] H H' → Wp (k4 H') Q) → Wp (pattern_addSpan_L0 (.ptr b o) ((lo + m : Nat) - 1 : Int) k4 f (lo : Int) H) Q
 | _, 0, _, _, _, hf, _, _, _, _ => by omega
 | 0, f + 1, lo, w, H, hf, hm, hw, k, hk => by
  rw [pattern_addSpan_L0_s]
  unfold pattern_addSpan_L0b
  repeat (first | ((with_reducible refine Wp.lettw ?_ ?_ ?_); omega; omega) | (with_reducible refine Wp.lett ?_) | ((with_reducible refine Wp.iff ?_ ?_); ((with_reducible apply decide_eq_false); omega)))
  exact hk H k (Tch.refl _ _)
 | m + 1, f + 1, lo, w, H, hf, hm, hw, k, hk => by
  rw [pattern_addSpan_L0_s]
  unfold pattern_addSpan_L0b
  have hi : lo / 64 < 4 := by omega
  have hl : lo / 64 < w.length := by rw [hw.len]; exact hi
  have hc := get_words (pre := pre) (post := post) hl
  have e1 := quoI_64 (c := lo) (by omega)
  have e2 := idxA_ptr (b := b) (o := o) hi
  have e3 := remI_64 (c := lo)
  have e4 := shlI_one (k := lo % 64) (Nat.mod_lt _ (by decide))
  rw [hpre] at hc
  have e5 := RowH.cell' k hc
  repeat (first | ((with_reducible refine Wp.lettw ?_ ?_ ?_); omega; omega) | (with_reducible refine Wp.lett ?_) | ((with_reducible apply Wp.obind); (with_reducible first | exact e1 | exact e2 | exact e3 | exact e4 | exact e5 | exact avInt_int _ _ | exact nilC_ptr _ _)) | ((with_reducible refine Wp.ift ?_ ?_); ((with_reducible apply decide_eq_true); omega)))
  rw [orI_nat (hw.get _) (pow_small (Nat.mod_lt _ (by decide)))]
  refine Wp.st1 k (by simp [wordsA_len]; omega) rfl fun h' k' t' _ => ?_
  rw [← hpre, set_words hl] at k'
  repeat (((with_reducible refine Wp.lettw ?_ ?_ ?_); omega; omega))
  have eh : ((lo + (m + 1) : Nat) - 1 : Int) = ((lo + 1 + m : Nat) - 1 : Int) := by omega
  have el : (lo : Int) + 1 = ((lo + 1 : Nat) : Int) := by omega
  rw [eh, el]
  exact span_loop hpre m f (lo + 1) (addW w lo) h' (by omega) (by omega) (addW_ok hw lo) k' fun H' k2 t2 => hk H' k2 (t'.trans t2)
theorem addSpan_r (hpre : pre.length = o) (hn : 300 < n) {lo hi : Nat} (h1 : lo ≤ hi) (h2 : hi < 256) (hw : WordsOk w) (k : RowH h b e (pre ++ (wordsA w ++ post))) : ∃ h', world n (d + 1) 84 [.ptr b o, .int .u8 (lo : Int), .int .u8 (hi : Int)] h = some (.ret (.tup []), h') ∧ RowH h' b e (pre ++ (wordsA (spanW w lo (hi + 1 - lo)) ++ post)) ∧ Tch [b] h h' := by
 apply Wp.ex
 rw [w_pattern_addSpan]
 unfold pattern_addSpan
 (((with_reducible refine Wp.lettw ?_ ?_ ?_); omega; omega))
 ((with_reducible refine Wp.join0 (fun _ _ => ?_)))
 rename_i k4 ek4
 have eh : (hi : Int) = ((lo + (hi + 1 - lo) : Nat) - 1 : Int) := by omega
 rw [eh]
 refine span_loop hpre (hi + 1 - lo) n lo w h (by omega) (by omega) hw k fun H' k2 t2 => ?_
 repeat ((with_reducible refine Wp.go0 (by assumption) ?_))
 exact Wp.ret ⟨rfl, k2, t2⟩
end
theorem Step.ok_of {b p : Nat} {u : Bytes} {h : AHeap} {x : R} {v : AV} (k : Wp x fun r h' => r = .ret v ∧ Rd h' b u p ∧ Tch [b] h h') : Step b u h x (.ok (v, p)) := k.ex
theorem Step.err_of {b q : Nat} {e : Int} {u : Bytes} {h : AHeap} {x : R} (k : Wp x fun r h' => r = .panic (PanA e q) ∧ ∃ p, Rd h' b u p ∧ Tch [b] h h') : Step b u h x (.error (e, q)) := by
 obtain ⟨_, h', e1, rfl, p, k1, k2⟩ := k
 exact ⟨h', p, e1, k1, k2⟩
theorem Wp.stepK {b : Nat} {u : Bytes} {h : AHeap} {x : R} {k : AV → AHeap → R} {Q : ARes → AHeap → Prop} {v : AV} {p : Nat} (hx : Step b u h x (.ok (v, p))) (hk : ∀ h', Rd h' b u p → Tch [b] h h' → Wp (k v h') Q) : Wp (callK x k) Q := by
 obtain ⟨h', e, k1, k2⟩ := hx
 exact Wp.callK e (hk h' k1 k2)
theorem Wp.stepN {b : Nat} {u : Bytes} {h : AHeap} {x : R} {k : AV → AHeap → R} {Q : ARes → AHeap → Prop} {v : AV} {p : Nat} (hx : Step b u h x (.ok (v, p))) (hk : ∀ h', Rd h' b u p → Tch [b] h h' → Wp (k v h') Q) : Wp (callN x k) Q := by
 obtain ⟨h', e, k1, k2⟩ := hx
 exact Wp.callN e (hk h' k1 k2)
theorem Wp.stepE {b q : Nat} {e : Int} {u : Bytes} {h : AHeap} {x : R} {k : AV → AHeap → R} {Q : ARes → AHeap → Prop} (hx : Step b u h x (.error (e, q))) (hk : ∀ h' p, Rd h' b u p → Tch [b] h h' → Q (.panic (PanA e q)) h') : Wp (callK x k) Q := by
 obtain ⟨h', p, e1, k1, k2⟩ := hx
 exact Wp.callP e1 (hk h' p k1 k2)
theorem lt_tch {S : List Nat} {h h' : AHeap} {b : Nat} (t : Tch S h h') (hb : b < h.next) : b < h'.next := Nat.lt_of_lt_of_le hb t.1
section
variable {n d b p : Nat} {h : AHeap} {u : Bytes} {Q : ARes → AHeap → Prop}
end
abbrev TU8 : Nat := 5
section
variable {n d b c : Nat} {h : AHeap} {l : Bytes} {Q : ARes → AHeap → Prop}
end
section
variable {n d b p : Nat} {h : AHeap} {u : Bytes} {Q : ARes → AHeap → Prop}
theorem take_r (k : Rd h b u p) (hb : b < h.next) (hp : p ≤ u.length) (hu : u.length ≤ 1000000) (c : Nat) : Step b u h (world n (d + 4) 54 [.ptr b 0, .int .u8 (c : Int)] h) (if at? u p = some c then .ok (.tup [], p + 1) else .error (6, p)) := by
 have hs := skips_r (n := n) (d := d) k hb hp hu c
 by_cases hc : at? u p = some c
 ·rw [if_pos hc, decide_eq_true hc] at hs
  rw [if_pos hc]
  refine Step.ok_of ?_
  rw [w_pattern_reader_take]
  unfold pattern_reader_take
  refine Wp.stepN hs fun h' k1 k2 => ?_
  repeat (first | (with_reducible refine Wp.join0 (fun _ _ => ?_)) | (with_reducible refine Wp.lett ?_) | ((with_reducible apply Wp.obind); (with_reducible exact avBool_bool _)) | ((with_reducible refine Wp.iff ?_ ?_); (with_reducible exact Bool.not_true)) | (with_reducible refine Wp.go0 (by assumption) ?_))
  exact Wp.ret ⟨rfl, k1, k2⟩
 ·rw [if_neg hc, decide_eq_false hc] at hs
  rw [if_neg hc]
  refine Step.err_of ?_
  rw [w_pattern_reader_take]
  unfold pattern_reader_take
  refine Wp.stepN hs fun h' k1 k2 => ?_
  have hr := refuse_r (n := n) (d := d + 2) (h := h') 6 p
  repeat (first | (with_reducible refine Wp.join0 (fun _ _ => ?_)) | (with_reducible refine Wp.lett ?_) | ((with_reducible apply Wp.obind); first | (with_reducible first | exact avInt_int _ _ | exact avBool_bool _ | exact nilC_ptr _ _ | exact fldP_ptr _ _ _) | ((with_reducible apply RowH.cell'); (with_reducible assumption); rfl)) | ((with_reducible refine Wp.ift ?_ ?_); (with_reducible exact Bool.not_false)))
  exact Wp.callP hr ⟨rfl, p, k1, k2⟩
end
abbrev TNodes : Nat := 39
theorem wordsA_scal : ∀ (w : List Nat), AV.scalL (wordsA w ++ [.nsl]) = true
 | [] => rfl
 | _ :: w => wordsA_scal w
theorem nodeC_scal (op : Nat) (w : List Nat) : (AV.agg (nodeC op w .nsl)).scal = true := wordsA_scal w
theorem bldOver0 (op : Int) : bldS Try.prog TNode [(0, .int .i64 op), (2, .nsl)] = some [.int .i64 op, .int .u64 0, .int .u64 0, .int .u64 0, .int .u64 0, .nsl] := by kernel_rfl
theorem bldOver1 (op : Int) (c m : Nat) : bldS Try.prog TNode [(0, .int .i64 op), (2, .sl c 0 m 6)] = some [.int .i64 op, .int .u64 0, .int .u64 0, .int .u64 0, .int .u64 0, .sl c 0 m 6] := by kernel_rfl
theorem bldSet (a b c d : Int) : bldS Try.prog TNode [(0, .int .i64 2), (1, .agg [.int .u64 a, .int .u64 b, .int .u64 c, .int .u64 d])] = some [.int .i64 2, .int .u64 a, .int .u64 b, .int .u64 c, .int .u64 d, .nsl] := by kernel_rfl
theorem bldNode (h : AHeap) (op a b c d : Int) (kv : AV) : bldSl Try.prog h TNodes 1 [(0, .agg [.int .i64 op, .int .u64 a, .int .u64 b, .int .u64 c, .int .u64 d, kv])] = outNewS h TNode [.int .i64 op, .int .u64 a, .int .u64 b, .int .u64 c, .int .u64 d, kv] 1 6 := by kernel_rfl
theorem words4 {w : List Nat} (k : WordsOk w) : ∃ a b c d, w = [a, b, c, d] := by
 match w, k.len with
 | [a, b, c, d], _ => exact ⟨a, b, c, d, rfl⟩
theorem NodeT.bld {t : Nd} {c : List AV} {T : List RowT} (k : NodeT t c T) (h : AHeap) : bldSl Try.prog h TNodes 1 [(0, .agg c)] = outNewS h TNode c 1 6 := by
 cases k with
 | mk hw g ks =>
  obtain ⟨a, b, c, d, rfl⟩ := words4 hw
  exact bldNode h _ _ _ _ _ _
theorem setBld {w : List Nat} (k : WordsOk w) : bldS Try.prog TNode [(0, .int .i64 2), (1, .agg (wordsA w))] = some (nodeC 2 w .nsl) := by
 obtain ⟨a, b, c, d, rfl⟩ := words4 k
 exact bldSet _ _ _ _
section
variable {n d b p : Nat} {h h0 : AHeap} {u : Bytes} {Q : ARes → AHeap → Prop} {S : List Nat} {xs T T0 T1 : List RowT} {kc : List (List AV)} {kv : AV} {l : List Nd}
theorem overBld (g : GrowT TNode 6 kc kv T) (op : Nat) : bldS Try.prog TNode [(0, .int .i64 (op : Int)), (2, kv)] = some (nodeC op zeroW kv) := by
 rcases g.2 with ⟨_, rfl, _⟩ | ⟨_, c, rfl, _⟩
 ·exact bldOver0 _
 ·exact bldOver1 _ _ _
theorem nodeC_len {op : Nat} {w : List Nat} (hw : WordsOk w) : (nodeC op w kv).length = 6 := by simp [nodeC, wordsA_len, hw.len]
theorem nodeC_one {op : Nat} {w : List Nat} (hk : kv.one = true) : (nodeC op w kv).all AV.one = true := by
 simp only [nodeC, List.all_cons, List.all_append, wordsA_one, hk, List.all_nil, Bool.and_true]
 rfl
theorem oneByte_w (hn : 300 < n) {c : Nat} (hc : c < 256) : world n (d + 2) 78 [.int .u8 (c : Int)] h = some (.ret (.agg (nodeC 2 (spanW zeroW c 1) .nsl)), h) := by
 apply Wp.eq
 rw [w_pattern_oneByte]
 refine Wp.gc ?_
 suffices hK : Wp (pattern_oneByte (world n (d + 1)) n c h) fun r h' => r = .ret (.agg (nodeC 2 (spanW zeroW c 1) .nsl)) ∧ Tch [] h h' from hK.mono fun r h' ⟨e, t⟩ => ⟨t.above, by rw [e]; exact nodeC_scal _ _, e, rfl⟩
 unfold pattern_oneByte
 have Mx := Mem.nil [] h
 repeat (first | ((with_reducible apply Wp.sa0 Mx); rfl; rfl; (rfl); intro _ Mz; clear Mx; have Mx := Mz; clear Mz) | ((with_reducible apply Wp.mnew Mx); intro _ Mz; clear Mx; have Mx := Mz; clear Mz) | rw [newP_eq])
 have k0 : RowH _ _ _ ([AV.int .i64 2] ++ (wordsA zeroW ++ [.nsl])) := Mx.at0.1
 obtain ⟨h5, e5, k5, t5⟩ := addSpan_r (n := n) (d := d) rfl hn (Nat.le_refl c) hc zeroW_ok k0
 refine Wp.callN e5 ?_
 have Mz := Mem.upd (xs := []) Mx t5 k5
 clear Mx
 have Mx := Mz
 clear Mz k0 k5
 rw [show c + 1 - c = 1 by omega] at Mx
 have ho := nodeC_one (kv := .nsl) (op := 2) (w := spanW zeroW c 1) rfl
 have hl : ([AV.int .i64 2] ++ (wordsA (spanW zeroW c 1) ++ [AV.nsl])).length = 6 := nodeC_len (op := 2) (spanW_ok 1 zeroW_ok c)
 refine Wp.lr0 Mx hl ?_
 refine Wp.sa1 Mx hl rfl ho fun h6 Mz => ?_
 refine Wp.lr1 Mz hl ?_
 exact Wp.ret ⟨rfl, Mz.tch⟩
theorem anyByte_w (hn : 300 < n) : world n (d + 2) 77 [] h = some (.ret (.agg (nodeC 2 (anyW) .nsl)), h) := by
 apply Wp.eq
 rw [w_pattern_anyByte]
 refine Wp.gc ?_
 suffices hK : Wp (pattern_anyByte (world n (d + 1)) n h) fun r h' => r = .ret (.agg (nodeC 2 (anyW) .nsl)) ∧ Tch [] h h' from hK.mono fun r h' ⟨e, t⟩ => ⟨t.above, by rw [e]; exact nodeC_scal _ _, e, rfl⟩
 unfold pattern_anyByte
 have Mx := Mem.nil [] h
 repeat (first | ((with_reducible apply Wp.sa0 Mx); rfl; rfl; (rfl); intro _ Mz; clear Mx; have Mx := Mz; clear Mz) | ((with_reducible apply Wp.mnew Mx); intro _ Mz; clear Mx; have Mx := Mz; clear Mz) | rw [newP_eq])
 have k0 : RowH _ _ _ ([AV.int .i64 2] ++ (wordsA zeroW ++ [.nsl])) := Mx.at0.1
 obtain ⟨h5, e5, k5, t5⟩ := addSpan_r (n := n) (d := d) (lo := 0) (hi := 255) rfl hn (by omega) (by omega) zeroW_ok k0
 refine Wp.callN e5 ?_
 have Mz := Mem.upd (xs := []) Mx t5 k5
 clear Mx
 have Mx := Mz
 clear Mz k0 k5
 rw [anyW_eq] at Mx
 have ho := nodeC_one (kv := .nsl) (op := 2) (w := anyW) rfl
 have hl : ([AV.int .i64 2] ++ (wordsA (anyW) ++ [AV.nsl])).length = 6 := nodeC_len (op := 2) anyW_ok
 refine Wp.lr0 Mx hl ?_
 refine Wp.sa1 Mx hl rfl ho fun h6 Mz => ?_
 refine Wp.lr1 Mz hl ?_
 exact Wp.ret ⟨rfl, Mz.tch⟩
theorem over_r (g : GrowT TNode 6 kc kv T) (op : Nat) : ∃ h', world n (d + 1) 76 [.int .i64 (op : Int), kv] h = some (.ret (.agg (nodeC op zeroW kv)), h') ∧ Tch [] h h' := by
 apply Wp.ex
 rw [w_pattern_over]
 unfold pattern_over
 have Mx := Mem.nil [] h
 have hl := nodeC_len (kv := kv) (op := op) zeroW_ok
 have ho := nodeC_one (op := op) (w := zeroW) g.one.1
 have hb := overBld g op
 repeat (first | ((with_reducible apply Wp.lr0 Mx); rfl) | ((with_reducible apply Wp.sa0 Mx); rfl; rfl; ((with_reducible assumption)); intro _ Mz; clear Mx; have Mx := Mz; clear Mz) | ((with_reducible apply Wp.mnew Mx); intro _ Mz; clear Mx; have Mx := Mz; clear Mz) | ((with_reducible apply Wp.obind); (with_reducible exact hb)) | rw [newP_eq])
 exact Wp.ret ⟨rfl, Mx.tch⟩
theorem mem_mid (M : Mem S h0 h (xs ++ (T0 ++ T1))) : Mem S h0 h (xs ++ T1) := Mem.drop (xs := T0) (M.perm (List.perm_append_comm_assoc T0 xs T1))
theorem idx0 (c m : Nat) : idxP 6 (.sl c 0 (m + 1) 6) 0 = some (.ptr c 0) := by
 have := idxP_sl (sz := 6) (b := c) (o := 0) (n := m + 1) (k := 6) (i := 0) (by omega)
 simpa using this
theorem grow_single {c : List AV} (g : GrowT TNode 6 [c] kv T0) : ∃ q, kv = .sl q 0 1 6 ∧ T0 = [(q, TNode, c)] := by
 rcases g.2 with ⟨hh, _⟩ | ⟨_, q, rfl, rfl⟩
 ·cases hh
 ·exact ⟨q, rfl, by simp⟩
theorem inRow_r (Mx : Mem S h0 h (xs ++ (T0 ++ T1))) (g : GrowT TNode 6 kc kv T0) (k : KidsT l kc T1) : ∃ c T h', world n (d + 2) 75 [kv] h = some (.ret (.agg c), h') ∧ NodeT (joinN 3 l) c T ∧ Mem S h0 h' (xs ++ T) := by
 have hkl := k.len
 match l, k, hkl with
 | [], k, hkl =>
  cases k
  rcases g.2 with ⟨_, rfl, rfl⟩ | ⟨hh, _⟩
  ·refine ⟨nodeC 1 zeroW .nsl, [], ?_⟩
   suffices hK : ∃ h', world n (d + 2) 75 [.nsl] h = some (.ret (.agg (nodeC 1 zeroW .nsl)), h') ∧ Mem S h0 h' (xs ++ ([] ++ [])) by
    obtain ⟨h', e, M'⟩ := hK
    exact ⟨h', e, NodeT.leaf 1 zeroW_ok, M'⟩
   apply Wp.ex
   rw [w_pattern_inRow]
   unfold pattern_inRow
   have hlen : lenL .nsl = some 0 := rfl
   repeat (first | ((with_reducible apply Wp.lr0 Mx); rfl) | ((with_reducible apply Wp.sa0 Mx); rfl; rfl; (rfl); intro _ Mz; clear Mx; have Mx := Mz; clear Mz) | ((with_reducible apply Wp.mnew Mx); intro _ Mz; clear Mx; have Mx := Mz; clear Mz) | (with_reducible refine Wp.lett ?_) | ((with_reducible apply Wp.obind); (with_reducible exact hlen)) | ((with_reducible refine Wp.ift ?_ ?_); ((with_reducible apply beq_t); omega)) | rw [newP_eq])
   exact Wp.ret ⟨rfl, Mx.pop⟩
  ·exact absurd rfl hh
 | [t], k, hkl =>
  obtain ⟨c, rfl, kt⟩ := k.one
  obtain ⟨q, rfl, rfl⟩ := grow_single g
  refine ⟨c, T1, ?_⟩
  suffices hK : ∃ h', world n (d + 2) 75 [.sl q 0 1 6] h = some (.ret (.agg c), h') ∧ Mem S h0 h' (xs ++ ([(q, TNode, c)] ++ T1)) by
   obtain ⟨h', e, M'⟩ := hK
   exact ⟨h', e, kt, mem_mid M'⟩
  apply Wp.ex
  rw [w_pattern_inRow]
  unfold pattern_inRow
  have hlen : lenL (.sl q 0 1 6) = some 1 := rfl
  have ei : idxP 6 (.sl q 0 1 6) 0 = some (.ptr q 0) := idx0 q 0
  repeat (first | ((with_reducible apply Wp.mnew Mx); intro _ Mz; clear Mx; have Mx := Mz; clear Mz) | (with_reducible refine Wp.lett ?_) | ((with_reducible apply Wp.obind); (with_reducible first | exact hlen | exact ei)) | ((with_reducible refine Wp.ift ?_ ?_); ((with_reducible apply beq_t); omega)) | ((with_reducible refine Wp.iff ?_ ?_); ((with_reducible apply beq_f); omega)) | rw [newP_eq])
  refine Wp.obind (RowH.ldAll (Mem.at (xs := _ :: xs) Mx).1 kt.len) ?_
  refine Wp.sa0 Mx kt.len rfl kt.one fun h6 Mz => ?_
  refine Wp.lr0 Mz kt.len ?_
  exact Wp.ret ⟨rfl, Mz.pop⟩
 | t :: t' :: ts, k, hkl =>
  refine ⟨nodeC 3 zeroW kv, T0 ++ T1, ?_⟩
  suffices hK : ∃ h', world n (d + 2) 75 [kv] h = some (.ret (.agg (nodeC 3 zeroW kv)), h') ∧ Mem S h0 h' (xs ++ (T0 ++ T1)) by
   obtain ⟨h', e, M'⟩ := hK
   exact ⟨h', e, NodeT.mk zeroW_ok g k, M'⟩
  apply Wp.ex
  rw [w_pattern_inRow]
  unfold pattern_inRow
  have hlen := g.len
  simp only [List.length_cons] at hkl
  have hl := nodeC_len (kv := kv) (op := 3) zeroW_ok
  have ho := nodeC_one (op := 3) (w := zeroW) g.one.1
  repeat (first | ((with_reducible refine Wp.mcall (over_r (n := n) (d := d) g 3) Mx (fun _ Mz _ => ?_)); clear Mx; have Mx := Mz; clear Mz) | ((with_reducible apply Wp.lr0 Mx); rfl) | ((with_reducible apply Wp.sa0 Mx); rfl; rfl; ((with_reducible assumption)); intro _ Mz; clear Mx; have Mx := Mz; clear Mz) | ((with_reducible apply Wp.mnew Mx); intro _ Mz; clear Mx; have Mx := Mz; clear Mz) | (with_reducible refine Wp.lett ?_) | ((with_reducible apply Wp.obind); (with_reducible first | exact hlen | exact avAgg_agg _)) | ((with_reducible refine Wp.iff ?_ ?_); ((with_reducible apply beq_f); omega)) | rw [newP_eq])
  exact Wp.ret ⟨rfl, Mx.pop⟩
end
abbrev TRd : Nat := 70
abbrev TSet : Nat := 38
def byteR : Except Nat (Nat × Nat) → Except (Int × Nat) (AV × Nat)
 | .ok (c, j) => .ok (.int .u8 (c : Int), j)
 | .error q => .error (6, q)
noncomputable def setR : Except Nat (List Nat × Nat) → Except (Int × Nat) (AV × Nat)
 | .ok (w, j) => .ok (.agg (wordsA w), j)
 | .error q => .error (6, q)
section
variable {n d b p q i : Nat} {h h0 : AHeap} {u : Bytes} {Q : ARes → AHeap → Prop} {S : List Nat} {xs : List RowT} {w : List Nat}
theorem at?_256 {c : Nat} (h : at? u i = some c) : c < 256 := by
 obtain ⟨hp, rfl⟩ := at?_some h
 exact UInt8.toNat_lt _
theorem memB2_ok {c j : Nat} (h : memB2 u i = .ok (c, j)) : c < 256 ∧ i < j ∧ j ≤ u.length := by
 unfold memB2 at h
 split at h
 ·cases h
 ·rename_i c' hc
  obtain ⟨hp, _⟩ := at?_some hc
  split at h
  ·split at h
   ·cases h
   ·rename_i e he
    obtain ⟨hp2, _⟩ := at?_some he
    cases h
    exact ⟨at?_256 he, by omega, by omega⟩
  ·split at h
   ·cases h
   ·cases h
    exact ⟨at?_256 hc, by omega, by omega⟩
theorem memB2_bad {q : Nat} (hi : i ≤ u.length) (h : memB2 u i = .error q) : q ≤ u.length := by
 unfold memB2 at h
 split at h
 ·cases h
  exact hi
 ·rename_i c' hc
  obtain ⟨hp, _⟩ := at?_some hc
  split at h
  ·split at h
   ·cases h
    omega
   ·cases h
  ·split at h
   ·cases h
    omega
   ·cases h
theorem memberF_ok {w' : List Nat} {j : Nat} (hw : WordsOk w) (h : memberF u w i = .ok (w', j)) : WordsOk w' ∧ i < j ∧ j ≤ u.length := by
 unfold memberF at h
 split at h
 ·cases h
 ·rename_i c j' h1
  obtain ⟨_, h2, h3⟩ := memB2_ok h1
  split at h
  ·split at h
   ·cases h
   ·rename_i e k h4
    obtain ⟨_, h5, h6⟩ := memB2_ok h4
    split at h
    ·cases h
    ·cases h
     exact ⟨spanW_ok _ hw _, by omega, h6⟩
  ·cases h
   exact ⟨spanW_ok _ hw _, h2, h3⟩
theorem memberF_bad {q : Nat} (hi : i ≤ u.length) (h : memberF u w i = .error q) : q ≤ u.length := by
 unfold memberF at h
 split at h
 ·rename_i h1
  cases h
  exact memB2_bad hi h1
 ·rename_i c j' h1
  split at h
  ·rename_i h45
   obtain ⟨hp, _⟩ := at?_some h45
   split at h
   ·rename_i h4
    cases h
    exact memB2_bad (by omega) h4
   ·rename_i e k h4
    obtain ⟨_, h5, h6⟩ := memB2_ok h4
    split at h
    ·cases h
     omega
    ·cases h
  ·cases h
theorem memberByte_r (k : Rd h b u i) (hb : b < h.next) (hi : i ≤ u.length) (hu : u.length ≤ 1000000) : Step b u h (world n (d + 3) 94 [.ptr b 0] h) (byteR (memB2 u i)) := by
 have hx := next_r (n := n) (d := d) k hb hi hu
 unfold memB2
 cases hc : at? u i with
 | none =>
  rw [hc] at hx
  refine Step.err_of ?_
  rw [w_pattern_reader_memberByte]
  unfold pattern_reader_memberByte
  exact Wp.stepE hx fun h' p' k1 k2 => ⟨rfl, p', k1, k2⟩
 | some c =>
  rw [hc] at hx
  obtain ⟨hp, _⟩ := at?_some hc
  have h256 := at?_256 hc
  by_cases h92 : c = 92
  ·show Step b u h _ (byteR (if c = 92 then _ else _))
   rw [if_pos h92]
   cases he : at? u (i + 1) with
   | none =>
    refine Step.err_of ?_
    rw [w_pattern_reader_memberByte]
    unfold pattern_reader_memberByte
    refine Wp.stepK hx fun h1 k1 t1 => ?_
    have hx2 := next_r (n := n) (d := d) k1 (lt_tch t1 hb) (by omega) hu
    rw [he] at hx2
    repeat (first | (with_reducible refine Wp.lett ?_) | ((with_reducible apply Wp.obind); (with_reducible exact avInt_int _ _)) | ((with_reducible refine Wp.ift ?_ ?_); ((with_reducible apply beq_t); omega)))
    exact Wp.stepE hx2 fun h' p' k2 t2 => ⟨rfl, p', k2, t1.trans t2⟩
   | some e =>
    refine Step.ok_of ?_
    rw [w_pattern_reader_memberByte]
    unfold pattern_reader_memberByte
    refine Wp.stepK hx fun h1 k1 t1 => ?_
    have hx2 := next_r (n := n) (d := d) k1 (lt_tch t1 hb) (by omega) hu
    rw [he] at hx2
    repeat (first | (with_reducible refine Wp.lett ?_) | ((with_reducible apply Wp.obind); (with_reducible exact avInt_int _ _)) | ((with_reducible refine Wp.ift ?_ ?_); ((with_reducible apply beq_t); omega)))
    refine Wp.stepK hx2 fun h2 k2 t2 => ?_
    repeat (((with_reducible apply Wp.obind); (with_reducible exact avInt_int _ _)))
    exact Wp.ret ⟨rfl, k2, t1.trans t2⟩
  ·show Step b u h _ (byteR (if c = 92 then _ else _))
   rw [if_neg h92]
   by_cases hs : c = 91 ∨ c = 93 ∨ c = 94 ∨ c = 45
   ·rw [if_pos hs]
    refine Step.err_of ?_
    rw [w_pattern_reader_memberByte]
    unfold pattern_reader_memberByte
    refine Wp.stepK hx fun h1 k1 t1 => ?_
    have hr := refuseLast_r (n := n) (d := d) k1 (by omega) hu
    rcases hs with hs | hs | hs | hs
    ·repeat (first | (with_reducible first | refine Wp.join0 (fun _ _ => ?_) | refine Wp.join1 (fun _ _ => ?_)) | (with_reducible refine Wp.lett ?_) | ((with_reducible apply Wp.obind); (with_reducible exact avInt_int _ _)) | ((with_reducible refine Wp.ift ?_ ?_); first | (with_reducible rfl) | ((with_reducible apply beq_t); omega)) | ((with_reducible refine Wp.iff ?_ ?_); ((with_reducible apply beq_f); omega)) | (with_reducible refine Wp.go1 (by assumption) ?_))
     exact Wp.callP hr ⟨rfl, _, k1, t1⟩
    ·repeat (first | (with_reducible first | refine Wp.join0 (fun _ _ => ?_) | refine Wp.join1 (fun _ _ => ?_)) | (with_reducible refine Wp.lett ?_) | ((with_reducible apply Wp.obind); (with_reducible exact avInt_int _ _)) | ((with_reducible refine Wp.ift ?_ ?_); first | (with_reducible rfl) | ((with_reducible apply beq_t); omega)) | ((with_reducible refine Wp.iff ?_ ?_); ((with_reducible apply beq_f); omega)) | (with_reducible refine Wp.go1 (by assumption) ?_))
     exact Wp.callP hr ⟨rfl, _, k1, t1⟩
    ·repeat (first | (with_reducible first | refine Wp.join0 (fun _ _ => ?_) | refine Wp.join1 (fun _ _ => ?_)) | (with_reducible refine Wp.lett ?_) | ((with_reducible apply Wp.obind); (with_reducible exact avInt_int _ _)) | ((with_reducible refine Wp.ift ?_ ?_); first | (with_reducible rfl) | ((with_reducible apply beq_t); omega)) | ((with_reducible refine Wp.iff ?_ ?_); ((with_reducible apply beq_f); omega)) | (with_reducible refine Wp.go1 (by assumption) ?_))
     exact Wp.callP hr ⟨rfl, _, k1, t1⟩
    ·have h45 : ((c : Int) == 45) = true := beq_t (by omega)
     repeat (first | (with_reducible first | refine Wp.join0 (fun _ _ => ?_) | refine Wp.join1 (fun _ _ => ?_)) | (with_reducible refine Wp.lett ?_) | ((with_reducible apply Wp.obind); (with_reducible exact avInt_int _ _)) | ((with_reducible refine Wp.ift ?_ ?_); (with_reducible assumption)) | ((with_reducible refine Wp.iff ?_ ?_); ((with_reducible apply beq_f); omega)) | (with_reducible refine Wp.go1 (by assumption) ?_))
     exact Wp.callP hr ⟨rfl, _, k1, t1⟩
   ·rw [if_neg hs]
    refine Step.ok_of ?_
    rw [w_pattern_reader_memberByte]
    unfold pattern_reader_memberByte
    refine Wp.stepK hx fun h1 k1 t1 => ?_
    have h45 : ((c : Int) == 45) = false := beq_f (by omega)
    repeat (first | (with_reducible first | refine Wp.join0 (fun _ _ => ?_) | refine Wp.join1 (fun _ _ => ?_)) | (with_reducible refine Wp.lett ?_) | ((with_reducible apply Wp.obind); (with_reducible exact avInt_int _ _)) | ((with_reducible refine Wp.iff ?_ ?_); first | (with_reducible assumption) | ((with_reducible apply beq_f); omega)) | (with_reducible first | refine Wp.go0 (by assumption) ?_ | refine Wp.go1 (by assumption) ?_))
    exact Wp.ret ⟨rfl, k1, t1⟩
def StepM (S : List Nat) (h0 : AHeap) (xs : List RowT) (b q : Nat) (u : Bytes) (x : R) : Except Nat (List Nat × Nat) → Prop
 | .ok (w', j) => ∃ h', x = some (.ret (.tup []), h') ∧ Mem S h0 h' ((b, TRd, rdP u j) :: (q, TSet, wordsA w') :: xs)
 | .error e => ∃ h' p, x = some (.panic (PanA 6 e), h') ∧ Rd h' b u p ∧ Tch S h0 h'
theorem StepM.ok_of {x : R} {w' : List Nat} {j : Nat} (k : Wp x fun r h' => r = .ret (.tup []) ∧ Mem S h0 h' ((b, TRd, rdP u j) :: (q, TSet, wordsA w') :: xs)) : StepM S h0 xs b q u x (.ok (w', j)) := k.ex
theorem StepM.err_of {x : R} {e : Nat} (k : Wp x fun r h' => r = .panic (PanA 6 e) ∧ ∃ p, Rd h' b u p ∧ Tch S h0 h') : StepM S h0 xs b q u x (.error e) := by
 obtain ⟨_, h', e1, rfl, p, k1, k2⟩ := k
 exact ⟨h', p, e1, k1, k2⟩
theorem addSpan_m (hn : 300 < n) {lo hi : Nat} (h1 : lo ≤ hi) (h2 : hi < 256) (hw : WordsOk w) {y : RowT} (M : Mem S h0 h (y :: (q, TSet, wordsA w) :: xs)) : ∃ h', world n (d + 1) 84 [.ptr q 0, .int .u8 (lo : Int), .int .u8 (hi : Int)] h = some (.ret (.tup []), h') ∧ Mem S h0 h' (y :: (q, TSet, wordsA (spanW w lo (hi + 1 - lo))) :: xs) := by
 have k0 : RowH h q TSet ([] ++ (wordsA w ++ [])) := by
  rw [List.nil_append, List.append_nil]
  exact M.at1.1
 obtain ⟨h', e, k1, t⟩ := addSpan_r (n := n) (d := d) rfl hn h1 h2 hw k0
 rw [List.nil_append, List.append_nil] at k1
 exact ⟨h', e, Mem.upd (xs := [y]) M t k1⟩
theorem member_r (hn : 300 < n) (hw : WordsOk w) (M : Mem S h0 h ((b, TRd, rdP u i) :: (q, TSet, wordsA w) :: xs)) (hi : i ≤ u.length) (hu : u.length ≤ 1000000) : StepM S h0 xs b q u (world n (d + 4) 93 [.ptr b 0, .ptr q 0] h) (memberF u w i) := by
 have hx := memberByte_r (n := n) (d := d) M.at0.1 M.at0.2.1 hi hu
 unfold memberF
 have bS := M.at0.2.2
 have up : ∀ {h1 : AHeap} {p : Nat}, Rd h1 b u p → Tch [b] h h1 → Tch S h0 h1 := fun k t => (Mem.upd (xs := []) M t k).tch
 cases hm : memB2 u i with
 | error e =>
  rw [hm] at hx
  refine StepM.err_of ?_
  rw [w_pattern_reader_member]
  unfold pattern_reader_member
  exact Wp.stepE hx fun h' p' k1 k2 => ⟨rfl, p', k1, up k1 k2⟩
 | ok cj =>
  obtain ⟨c, j⟩ := cj
  rw [hm] at hx
  obtain ⟨c1, c2, c3⟩ := memB2_ok hm
  by_cases h45 : at? u j = some 45
  ·show StepM S h0 xs b q u _ (if at? u j = some 45 then _ else _)
   rw [if_pos h45]
   obtain ⟨hj, _⟩ := at?_some h45
   cases hm2 : memB2 u (j + 1) with
   | error e =>
    refine StepM.err_of ?_
    rw [w_pattern_reader_member]
    unfold pattern_reader_member
    refine Wp.stepK hx fun h1 k1 t1 => ?_
    have hs := skips_r (n := n) (d := d) k1 (lt_tch t1 M.at0.2.1) c3 hu 45
    rw [if_pos h45, decide_eq_true h45] at hs
    repeat (((with_reducible apply Wp.obind); (with_reducible exact avInt_int _ _)))
    refine Wp.stepN hs fun h2 k2 t2 => ?_
    have hx2 := memberByte_r (n := n) (d := d) k2 (lt_tch (t1.trans t2) M.at0.2.1) (by omega) hu
    rw [hm2] at hx2
    repeat (first | (with_reducible refine Wp.join1 (fun _ _ => ?_)) | ((with_reducible apply Wp.obind); (with_reducible exact avBool_bool _)) | ((with_reducible refine Wp.ift ?_ ?_); (with_reducible rfl)))
    exact Wp.stepE hx2 fun h' p' k3 t3 => ⟨rfl, p', k3, up k3 ((t1.trans t2).trans t3)⟩
   | ok ek =>
    obtain ⟨e, k⟩ := ek
    obtain ⟨e1, e2, e3⟩ := memB2_ok hm2
    show StepM S h0 xs b q u _ (if e < c then _ else _)
    by_cases hlt : e < c
    ·rw [if_pos hlt]
     obtain ⟨k', rfl⟩ : ∃ k', k = k' + 1 := ⟨k - 1, by omega⟩
     refine StepM.err_of ?_
     rw [w_pattern_reader_member]
     unfold pattern_reader_member
     refine Wp.stepK hx fun h1 k1 t1 => ?_
     have hs := skips_r (n := n) (d := d) k1 (lt_tch t1 M.at0.2.1) c3 hu 45
     rw [if_pos h45, decide_eq_true h45] at hs
     repeat (((with_reducible apply Wp.obind); (with_reducible exact avInt_int _ _)))
     refine Wp.stepN hs fun h2 k2 t2 => ?_
     have hx2 := memberByte_r (n := n) (d := d) k2 (lt_tch (t1.trans t2) M.at0.2.1) (by omega) hu
     rw [hm2] at hx2
     repeat (first | (with_reducible refine Wp.join1 (fun _ _ => ?_)) | ((with_reducible apply Wp.obind); (with_reducible exact avBool_bool _)) | ((with_reducible refine Wp.ift ?_ ?_); (with_reducible rfl)))
     refine Wp.stepK hx2 fun h3 k3 t3 => ?_
     have hr := refuseLast_r (n := n) (d := d + 1) k3 (by omega) hu
     repeat (first | (with_reducible refine Wp.join0 (fun _ _ => ?_)) | (with_reducible refine Wp.lett ?_) | ((with_reducible apply Wp.obind); (with_reducible exact avInt_int _ _)) | ((with_reducible refine Wp.ift ?_ ?_); ((with_reducible apply decide_eq_true); omega)))
     exact Wp.callP hr ⟨rfl, _, k3, up k3 ((t1.trans t2).trans t3)⟩
    ·rw [if_neg hlt]
     refine StepM.ok_of ?_
     rw [w_pattern_reader_member]
     unfold pattern_reader_member
     refine Wp.stepK hx fun h1 k1 t1 => ?_
     have hs := skips_r (n := n) (d := d) k1 (lt_tch t1 M.at0.2.1) c3 hu 45
     rw [if_pos h45, decide_eq_true h45] at hs
     repeat (((with_reducible apply Wp.obind); (with_reducible exact avInt_int _ _)))
     refine Wp.stepN hs fun h2 k2 t2 => ?_
     have hx2 := memberByte_r (n := n) (d := d) k2 (lt_tch (t1.trans t2) M.at0.2.1) (by omega) hu
     rw [hm2] at hx2
     repeat (first | (with_reducible refine Wp.join1 (fun _ _ => ?_)) | ((with_reducible apply Wp.obind); (with_reducible exact avBool_bool _)) | ((with_reducible refine Wp.ift ?_ ?_); (with_reducible rfl)))
     refine Wp.stepK hx2 fun h3 k3 t3 => ?_
     obtain ⟨h4, e4, M4⟩ := addSpan_m (n := n) (d := d + 2) hn (by omega : c ≤ e) e1 hw (Mem.upd (xs := []) M ((t1.trans t2).trans t3) k3)
     repeat (first | (with_reducible refine Wp.join0 (fun _ _ => ?_)) | (with_reducible refine Wp.lett ?_) | ((with_reducible apply Wp.obind); (with_reducible exact avInt_int _ _)) | ((with_reducible refine Wp.iff ?_ ?_); ((with_reducible apply decide_eq_false); omega)) | ((with_reducible apply Wp.callN); (with_reducible assumption)) | (with_reducible first | refine Wp.go0 (by assumption) ?_ | refine Wp.go1 (by assumption) ?_))
     exact Wp.ret ⟨rfl, M4⟩
  ·show StepM S h0 xs b q u _ (if at? u j = some 45 then _ else _)
   rw [if_neg h45]
   refine StepM.ok_of ?_
   rw [w_pattern_reader_member]
   unfold pattern_reader_member
   refine Wp.stepK hx fun h1 k1 t1 => ?_
   have hs := skips_r (n := n) (d := d) k1 (lt_tch t1 M.at0.2.1) c3 hu 45
   rw [if_neg h45, decide_eq_false h45] at hs
   repeat (((with_reducible apply Wp.obind); (with_reducible exact avInt_int _ _)))
   refine Wp.stepN hs fun h2 k2 t2 => ?_
   obtain ⟨h4, e4, M4⟩ := addSpan_m (n := n) (d := d + 2) hn (Nat.le_refl c) c1 hw (Mem.upd (xs := []) M (t1.trans t2) k2)
   rw [show c + 1 - c = 1 by omega] at M4
   repeat (first | (with_reducible refine Wp.join1 (fun _ _ => ?_)) | ((with_reducible apply Wp.obind); (with_reducible exact avBool_bool _)) | ((with_reducible refine Wp.iff ?_ ?_); (with_reducible rfl)) | ((with_reducible apply Wp.callN); (with_reducible assumption)) | (with_reducible refine Wp.go1 (by assumption) ?_))
   exact Wp.ret ⟨rfl, M4⟩
end
section
variable {n d b p q i : Nat} {h h0 : AHeap} {u : Bytes} {Q : ARes → AHeap → Prop} {S : List Nat} {xs : List RowT} {w : List Nat}
theorem members_loop (hu : u.length ≤ 1000000) : ∀ (k j : Nat) (w : List Nat), j ≤ u.length → u.length - j < k → WordsOk w → ∃ r, LoopP u w j r ∧ (∀ w' j', r = .ok (w', j') → WordsOk w' ∧ j < j' ∧ j' ≤ u.length) ∧ (∀ e, r = .error e → e ≤ u.length) ∧
   ∀ {n d f b q : Nat} {S : List Nat} {h0 H hp0 : AHeap} {xs : List RowT} {k16 : AHeap → R} {Q : ARes → AHeap → Prop}, newP hp0 = .ptr q 0 → u.length - j < f → 300 < n → Mem S h0 H ((b, TRd, rdP u j) :: (q, TSet, wordsA w) :: xs) →
    (∀ w' j' H', r = .ok (w', j') → Mem S h0 H' ((b, TRd, rdP u j') :: (q, TSet, wordsA w') :: xs) → Wp (k16 H') Q) →
    (∀ e p H', r = .error e → Rd H' b u p → Tch S h0 H' → Q (.panic (PanA 6 e)) H') →
    Wp (pattern_reader_members_L1 (world n (d + 4)) (.ptr b 0) hp0 k16 f H) Q
 | 0, _, _, _, hk, _ => by omega
 | k + 1, j, w, hj, hk, hw => by
  by_cases h93 : at? u j = some 93
  ·obtain ⟨hp, _⟩ := at?_some h93
   refine ⟨.ok (w, j + 1), .done h93, ?_, ?_, ?_⟩
   ·intro w' j' e
    cases e
    exact ⟨hw, by omega, by omega⟩
   ·intro e he
    cases he
   ·intro n d f b q S h0 H hp0 xs k16 Q eq hf hn M hok hbad
    cases f with
    | zero => omega
    | succ f =>
     rw [pattern_reader_members_L1_s]
     unfold pattern_reader_members_L1b
     have hs := skips_r (n := n) (d := d + 1) M.at0.1 M.at0.2.1 hj hu 93
     rw [if_pos h93, decide_eq_true h93] at hs
     refine Wp.stepN hs fun h1 k1 t1 => ?_
     repeat (first | (with_reducible refine Wp.lett ?_) | ((with_reducible apply Wp.obind); (with_reducible exact avBool_bool _)) | ((with_reducible refine Wp.iff ?_ ?_); (with_reducible exact Bool.not_true)))
     exact hok w (j + 1) h1 rfl (Mem.upd (xs := []) M t1 k1)
  ·cases hm : memberF u w j with
   | error e =>
    refine ⟨.error e, .bad h93 hm, ?_, ?_, ?_⟩
    ·intro w' j' e
     cases e
    ·intro e' he
     cases he
     exact memberF_bad hj hm
    ·intro n d f b q S h0 H hp0 xs k16 Q eq hf hn M hok hbad
     cases f with
     | zero => omega
     | succ f =>
      rw [pattern_reader_members_L1_s]
      unfold pattern_reader_members_L1b
      have hs := skips_r (n := n) (d := d + 1) M.at0.1 M.at0.2.1 hj hu 93
      rw [if_neg h93, decide_eq_false h93] at hs
      refine Wp.stepN hs fun h1 k1 t1 => ?_
      have hx := member_r (n := n) (d := d) hn hw (Mem.upd (xs := []) M t1 k1) hj hu
      rw [hm] at hx
      obtain ⟨h2, p2, e2, k2, t2⟩ := hx
      rw [eq]
      repeat (first | (with_reducible refine Wp.lett ?_) | ((with_reducible apply Wp.obind); (with_reducible exact avBool_bool _)) | ((with_reducible refine Wp.ift ?_ ?_); (with_reducible exact Bool.not_false)))
      exact Wp.callP e2 (hbad e p2 h2 rfl k2 t2)
   | ok wj =>
    obtain ⟨w', j'⟩ := wj
    obtain ⟨m1, m2, m3⟩ := memberF_ok hw hm
    obtain ⟨r, r1, r2, r3, r4⟩ := members_loop hu k j' w' m3 (by omega) m1
    refine ⟨r, .more h93 hm r1, ?_, r3, ?_⟩
    ·intro w2 j2 e
     obtain ⟨a1, a2, a3⟩ := r2 w2 j2 e
     exact ⟨a1, by omega, a3⟩
    ·intro n d f b q S h0 H hp0 xs k16 Q eq hf hn M hok hbad
     cases f with
     | zero => omega
     | succ f =>
      rw [pattern_reader_members_L1_s]
      unfold pattern_reader_members_L1b
      have hs := skips_r (n := n) (d := d + 1) M.at0.1 M.at0.2.1 hj hu 93
      rw [if_neg h93, decide_eq_false h93] at hs
      refine Wp.stepN hs fun h1 k1 t1 => ?_
      have hx := member_r (n := n) (d := d) hn hw (Mem.upd (xs := []) M t1 k1) hj hu
      rw [hm] at hx
      obtain ⟨h2, e2, M2⟩ := hx
      rw [eq]
      repeat (first | (with_reducible refine Wp.lett ?_) | ((with_reducible apply Wp.obind); (with_reducible exact avBool_bool _)) | ((with_reducible refine Wp.ift ?_ ?_); (with_reducible exact Bool.not_false)) | ((with_reducible apply Wp.callK); (with_reducible assumption)))
      exact r4 eq (by omega) hn M2 hok hbad
theorem others_loop {hp0 : AHeap} {k29 : AHeap → R} {y : RowT} (eq : newP hp0 = .ptr q 0) : ∀ (v2 v1 : List Nat) (f : Nat) (H : AHeap), v2.length < f → v1.length + v2.length = 4 → (∀ x ∈ v2, x < 18446744073709551616) → Mem S h0 H (y :: (q, TSet, wordsA v1 ++ wordsA v2) :: xs) →
   (∀ H', Mem S h0 H' (y :: (q, TSet, wordsA v1 ++ wordsA (othersW v2)) :: xs) → Wp (k29 H') Q) → Wp (pattern_reader_members_L0 hp0 k29 f ((v1.length : Nat) : Int) H) Q
 | _, _, 0, _, hf, _, _, _, _ => by omega
 | [], v1, f + 1, H, hf, hl, hs, M, hk => by
  rw [pattern_reader_members_L0_s]
  unfold pattern_reader_members_L0b
  rw [List.length_nil] at hl
  repeat (first | (with_reducible refine Wp.lett ?_) | ((with_reducible refine Wp.iff ?_ ?_); ((with_reducible apply decide_eq_false); omega)))
  exact hk H M
 | x :: v2, v1, f + 1, H, hf, hl, hs, M, hk => by
  rw [pattern_reader_members_L0_s]
  unfold pattern_reader_members_L0b
  rw [List.length_cons] at hl hf
  have hx := hs x List.mem_cons_self
  rw [eq]
  have e1 := idxA_ptr (n := 4) (b := q) (o := 0) (i := v1.length) (by omega)
  rw [Nat.zero_add] at e1
  have hlv := wordsA_len v1
  have ho : (wordsA v1 ++ wordsA (x :: v2))[v1.length]? = some (.int .u64 (x : Int)) := by
   rw [List.getElem?_append_right (by omega), hlv, Nat.sub_self]
   rfl
  repeat (first | (with_reducible refine Wp.lett ?_) | ((with_reducible apply Wp.obind); (with_reducible exact e1)) | ((with_reducible refine Wp.ift ?_ ?_); ((with_reducible apply decide_eq_true); omega)))
  refine Wp.ld1 M ho ?_
  repeat (first | (with_reducible refine Wp.lett ?_) | ((with_reducible apply Wp.obind); (with_reducible first | exact e1 | exact avInt_int _ _)))
  rw [show (18446744073709551615 : Int) = ((18446744073709551615 : Nat) : Int) from rfl, xorI_nat hx (by omega)]
  refine Wp.ms1 M (by simp [wordsA_len]) rfl fun H' M' => ?_
  have es : (wordsA v1 ++ wordsA (x :: v2)).set v1.length (.int .u64 ((x ^^^ 18446744073709551615 : Nat) : Int)) = wordsA (v1 ++ [x ^^^ 18446744073709551615]) ++ wordsA v2 := by
   rw [List.set_append_right _ _ (by omega), hlv, Nat.sub_self]
   simp [wordsA]
  rw [es] at M'
  repeat (((with_reducible refine Wp.lettw ?_ ?_ ?_); omega; omega))
  have el : (v1.length : Int) + 1 = (((v1 ++ [x ^^^ 18446744073709551615]).length : Nat) : Int) := by simp
  rw [el]
  refine others_loop eq v2 (v1 ++ [x ^^^ 18446744073709551615]) f H' (by omega) (by simp; omega) (fun z hz => hs z (List.mem_cons_of_mem _ hz)) M' fun H2 M2 => hk H2 ?_
  have e2 : wordsA (v1 ++ [x ^^^ 18446744073709551615]) ++ wordsA (othersW v2) = wordsA v1 ++ wordsA (othersW (x :: v2)) := by simp [wordsA, othersW]
  rw [e2] at M2
  exact M2
theorem members_r (hu : u.length ≤ 1000000) (hi : i ≤ u.length) : ∃ r, SetP u i r ∧ (∀ w j, r = .ok (w, j) → WordsOk w ∧ i < j ∧ j ≤ u.length) ∧ (∀ e, r = .error e → e ≤ u.length) ∧
  ∀ {n d b : Nat} {h : AHeap}, 300 < n → u.length < n → Rd h b u i → b < h.next → Step b u h (world n (d + 5) 91 [.ptr b 0] h) (setR r) := by
 have hb1 : setB u i ≤ u.length ∧ i ≤ setB u i := by
  unfold setB
  by_cases h94 : at? u i = some 94
  ·obtain ⟨hp, _⟩ := at?_some h94
   rw [if_pos h94]
   omega
  ·rw [if_neg h94]
   omega
 cases hm : memberF u zeroW (setB u i) with
 | error e =>
  refine ⟨.error e, .bad hm, ?_, ?_, ?_⟩
  ·intro w j hh
   cases hh
  ·intro e' hh
   cases hh
   exact memberF_bad hb1.1 hm
  ·intro n d b h hn hn2 k hb
   refine Step.err_of ?_
   have hs := fun (h' : AHeap) (k' : Rd h' b u i) (hb' : b < h'.next) => skips_r (n := n) (d := d + 1) k' hb' hi hu 94
   rw [w_pattern_reader_members]
   unfold pattern_reader_members
   have Mx := Mem.one k hb
   repeat (first | ((with_reducible apply Wp.mnew Mx); intro _ Mz; clear Mx; have Mx := Mz; clear Mz) | rw [newP_eq])
   have hs1 := hs _ Mx.at1.1 Mx.at1.2.1
   refine Wp.stepN hs1 fun h1 k1 t1 => ?_
   have Mz := Mem.upd (xs := [_]) Mx t1 k1
   clear Mx
   have Mx := Mz
   clear Mz
   repeat (first | ((with_reducible apply Wp.obind); (with_reducible exact avBool_bool _)) | ((with_reducible apply Wp.mnew Mx); intro _ Mz; clear Mx; have Mx := Mz; clear Mz) | rw [newP_eq])
   have M2 : Mem _ _ _ ((b, TRd, rdP u (setB u i)) :: (h1.next, TSet, wordsA zeroW) :: [_]) := Mx.perm (List.perm_append_comm (l₁ := [_]) (l₂ := [_, _]))
   have hx := member_r (n := n) (d := d) hn zeroW_ok M2 hb1.1 hu
   rw [hm] at hx
   obtain ⟨h2, p2, e2, k2, t2⟩ := hx
   exact Wp.callP e2 ⟨rfl, p2, k2, t2⟩
 | ok wj =>
  obtain ⟨w, j⟩ := wj
  obtain ⟨m1, m2, m3⟩ := memberF_ok zeroW_ok hm
  obtain ⟨r, r1, r2, r3, r4⟩ := members_loop hu (u.length + 1) j w m3 (by omega) m1
  refine ⟨othersR u i r, .set hm r1, ?_, ?_, ?_⟩
  ·intro w' j' hh
   cases r with
   | error e => cases hh
   | ok wj2 =>
    obtain ⟨w2, j2⟩ := wj2
    obtain ⟨a1, a2, a3⟩ := r2 w2 j2 rfl
    cases hh
    refine ⟨?_, by omega, a3⟩
    split
    ·exact othersW_ok a1
    ·exact a1
  ·intro e hh
   cases r with
   | error e' =>
    cases hh
    exact r3 _ rfl
   | ok wj2 => cases hh
  ·intro n d b h hn hn2 k hb
   have main : ∀ Q : ARes → AHeap → Prop, (∀ w' j' H', r = .ok (w', j') → Rd H' b u j' → Tch [b] h H' → Q (.ret (.agg (wordsA (if at? u i = some 94 then othersW w' else w')))) H') → (∀ e p H', r = .error e → Rd H' b u p → Tch [b] h H' → Q (.panic (PanA 6 e)) H') → Wp (world n (d + 5) 91 [.ptr b 0] h) Q := by
    intro Q q1 q2
    have hs := fun (h' : AHeap) (k' : Rd h' b u i) (hb' : b < h'.next) => skips_r (n := n) (d := d + 1) k' hb' hi hu 94
    rw [w_pattern_reader_members]
    unfold pattern_reader_members
    have Mx := Mem.one k hb
    repeat (first | ((with_reducible apply Wp.mnew Mx); intro _ Mz; clear Mx; have Mx := Mz; clear Mz) | rw [newP_eq])
    have hs1 := hs _ Mx.at1.1 Mx.at1.2.1
    refine Wp.stepN hs1 fun h1 k1 t1 => ?_
    have Mz := Mem.upd (xs := [_]) Mx t1 k1
    clear Mx
    have Mx := Mz
    clear Mz
    repeat (first | ((with_reducible apply Wp.obind); (with_reducible exact avBool_bool _)) | ((with_reducible apply Wp.mnew Mx); intro _ Mz; clear Mx; have Mx := Mz; clear Mz) | rw [newP_eq])
    have M2 : Mem _ _ _ ((b, TRd, rdP u (setB u i)) :: (h1.next, TSet, wordsA zeroW) :: [_]) := Mx.perm (List.perm_append_comm (l₁ := [_]) (l₂ := [_, _]))
    have hx := member_r (n := n) (d := d) hn zeroW_ok M2 hb1.1 hu
    rw [hm] at hx
    obtain ⟨h2, e2, M3⟩ := hx
    refine Wp.callK e2 ?_
    ((with_reducible refine Wp.join0 (fun _ _ => ?_)))
    rename_i k16 ek16
    refine r4 (newP_eq h1) (by omega) hn M3 ?_ ?_
    ·intro w' j' H' hr M4
     obtain ⟨a1, a2, a3⟩ := r2 w' j' hr
     ((with_reducible refine Wp.go0 (by assumption) ?_))
     ((with_reducible refine Wp.join0 (fun _ _ => ?_)))
     rename_i k20 ek20
     have fin : ∀ {w2 : List Nat} {H2 : AHeap}, WordsOk w2 → w2 = (if at? u i = some 94 then othersW w' else w') → Mem [b] h H2 ((b, TRd, rdP u j') :: (h1.next, TSet, wordsA w2) :: [(h.next, TSet, [.int .u64 0, .int .u64 0, .int .u64 0, .int .u64 0])]) → Wp (k20 H2) Q := by
      intro w2 H2 o2 ew M5
      have hl : (wordsA w2).length = 4 := by rw [wordsA_len, o2.len]
      refine Wp.go0 ek20 ?_
      refine Wp.lr1 M5 hl ?_
      refine Wp.sa2 M5 hl rfl (wordsA_one _) fun H3 M6 => ?_
      refine Wp.lr2 M6 hl ?_
      rw [ew] at M6 ⊢
      exact Wp.ret (q1 w' j' H3 hr M6.at0.1 M6.tch)
     by_cases h94 : at? u i = some 94
     ·(((with_reducible refine Wp.ift ?_ ?_); ((with_reducible apply decide_eq_true); omega)))
      ((with_reducible refine Wp.join0 (fun _ _ => ?_)))
      rename_i k29 ek29
      have ho := others_loop (S := [b]) (h0 := h) (k29 := k29) (Q := Q) (newP_eq h1) w' [] n H' (by rw [a1.len]; omega) (by rw [a1.len]; rfl) a1.small (by exact M4)
      refine ho fun H2 M5 => ?_
      refine Wp.go0 ek29 ?_
      exact fin (othersW_ok a1) (by rw [if_pos h94]) M5
     ·(((with_reducible refine Wp.iff ?_ ?_); ((with_reducible apply decide_eq_false); omega)))
      exact fin a1 (by rw [if_neg h94]) M4
    ·intro e p H' hr k5 t5
     exact q2 e p H' hr k5 t5
   cases r with
   | error e => exact Step.err_of (main _ (fun w' j' H' hh => by cases hh) fun e' p H' hh k5 t5 => by cases hh; exact ⟨rfl, p, k5, t5⟩)
   | ok wj2 =>
    obtain ⟨w2, j2⟩ := wj2
    exact Step.ok_of (main _ (fun w' j' H' hh k5 t5 => by cases hh; exact ⟨rfl, k5, t5⟩) fun e' p H' hh => by cases hh)
end
def Bnd (u : Bytes) (i : Nat) : Res → Prop
 | .ok (_, j) => i ≤ j ∧ j ≤ u.length
 | .error q => q ≤ u.length
def Bnd1 (u : Bytes) (i : Nat) : Res → Prop
 | .ok (_, j) => i < j ∧ j ≤ u.length
 | .error q => q ≤ u.length
def AltOk (u : Bytes) (m : Nat) : Prop := ∀ i, i ≤ u.length → u.length - i ≤ m → ∃ r, AltP u [] i r ∧ Bnd u i r ∧
 ∀ {n D b : Nat} {h : AHeap}, 4 * m + 9 ≤ D → 300 < n → u.length + 5 < n → Rd h b u i → b < h.next → memB TNode h.ex = false → StepN b u h (world n D 61 [.ptr b 0] h) r
def RowOk (u : Bytes) (m : Nat) : Prop := ∀ i, i ≤ u.length → u.length - i ≤ m → ∃ r, RowP u [] i r ∧ Bnd u i r ∧
 ∀ {n D b : Nat} {h : AHeap}, 4 * m + 8 ≤ D → 300 < n → u.length + 5 < n → Rd h b u i → b < h.next → memB TNode h.ex = false → StepN b u h (world n D 79 [.ptr b 0] h) r
def PartOk (u : Bytes) (m : Nat) : Prop := ∀ i, i ≤ u.length → u.length - i ≤ m → ∃ r, PartP u i r ∧ Bnd1 u i r ∧
 ∀ {n D b : Nat} {h : AHeap}, 4 * m + 7 ≤ D → 300 < n → u.length + 5 < n → Rd h b u i → b < h.next → memB TNode h.ex = false → StepN b u h (world n D 85 [.ptr b 0] h) r
def AtomOk (u : Bytes) (m : Nat) : Prop := ∀ i, i ≤ u.length → u.length - i ≤ m → ∃ r, AtomP u i r ∧ Bnd1 u i r ∧
 ∀ {n D b : Nat} {h : AHeap}, 4 * m + 6 ≤ D → 300 < n → u.length + 5 < n → Rd h b u i → b < h.next → memB TNode h.ex = false → StepN b u h (world n D 88 [.ptr b 0] h) r
section
variable {n d b p q i : Nat} {h h0 : AHeap} {u : Bytes} {Q : ARes → AHeap → Prop} {S : List Nat} {xs rs T : List RowT} {w : List Nat} {x : R} {k : AV → AHeap → R} {t : Nd} {c : List AV} {v : AV}
theorem StepN.ok_of (kk : Wp x fun r h' => ∃ c T, r = .ret (.agg c) ∧ NodeT t c T ∧ Mem [b] h h' ((b, TRd, rdP u p) :: T)) : StepN b u h x (.ok (t, p)) := by
 obtain ⟨_, h', e, c, T, rfl, k1, k2⟩ := kk
 exact ⟨c, T, h', e, k1, k2⟩
theorem StepN.err_of (kk : Wp x fun r h' => r = .panic (PanA 6 q) ∧ ∃ p, Rd h' b u p ∧ Tch [b] h h') : StepN b u h x (.error q) := by
 obtain ⟨_, h', e, rfl, p, k1, k2⟩ := kk
 exact ⟨h', p, e, k1, k2⟩
theorem Wp.nodeK (hx : StepN b u h x (.ok (t, p))) (M : Mem S h0 h ((b, TRd, rdP u i) :: rs)) (hk : ∀ c T h', NodeT t c T → Mem S h0 h' ((b, TRd, rdP u p) :: (rs ++ T)) → Wp (k (.agg c) h') Q) : Wp (callK x k) Q := by
 obtain ⟨c, T, h', e, kt, M'⟩ := hx
 exact Wp.callK e (hk c T h' kt (Mem.frameT (xs := [_]) (ys := [_]) M M'))
theorem Wp.nodeE (hx : StepN b u h x (.error q)) (M : Mem S h0 h ((b, TRd, rdP u i) :: rs)) (hq : ∀ h' p, Rd h' b u p → Tch S h0 h' → Q (.panic (PanA 6 q)) h') : Wp (callK x k) Q := by
 obtain ⟨h', p, e, k1, k2⟩ := hx
 exact Wp.callP e (hq h' p k1 (Mem.upd (xs := []) M k2 k1).tch)
theorem Wp.rdK (hx : Step b u h x (.ok (v, p))) (M : Mem S h0 h ((b, TRd, rdP u i) :: rs)) (hk : ∀ h', Mem S h0 h' ((b, TRd, rdP u p) :: rs) → Wp (k v h') Q) : Wp (callK x k) Q :=
 Wp.stepK hx fun h' k1 t1 => hk h' (Mem.upd (xs := []) M t1 k1)
theorem Wp.rdN (hx : Step b u h x (.ok (v, p))) (M : Mem S h0 h ((b, TRd, rdP u i) :: rs)) (hk : ∀ h', Mem S h0 h' ((b, TRd, rdP u p) :: rs) → Wp (k v h') Q) : Wp (callN x k) Q :=
 Wp.stepN hx fun h' k1 t1 => hk h' (Mem.upd (xs := []) M t1 k1)
theorem Wp.rdE (hx : Step b u h x (.error (6, q))) (M : Mem S h0 h ((b, TRd, rdP u i) :: rs)) (hq : ∀ h' p, Rd h' b u p → Tch S h0 h' → Q (.panic (PanA 6 q)) h') : Wp (callK x k) Q :=
 Wp.stepE hx fun h' p k1 t1 => hq h' p k1 (Mem.upd (xs := []) M t1 k1).tch
theorem fin_node {r0 : Nat} {l : List AV} (M : Mem S h0 h ((b, TRd, rdP u p) :: (r0, TNode, l) :: T)) (hl : l.length = 6) (kt : NodeT t c T) : Wp (obind (stRow h 6 c (.ptr r0 0)) fun h1 => obind (ldRow h1 6 (.ptr r0 0)) fun w => some (.ret (.agg w), h1)) fun r h' => ∃ c T, r = .ret (.agg c) ∧ NodeT t c T ∧ Mem S h0 h' ((b, TRd, rdP u p) :: T) := by
 refine Wp.sa1 M kt.len hl kt.one fun h1 M1 => ?_
 refine Wp.lr1 M1 kt.len ?_
 exact Wp.ret ⟨c, T, rfl, kt, mem_mid (xs := [_]) (T0 := [_]) M1⟩
theorem atom_ok (hu : u.length ≤ 1000000) {m : Nat} (ih : ∀ m', m = m' + 1 → AltOk u m') : AtomOk u m := by
 intro i hi hm
 cases hc : at? u i with
 | none =>
  refine ⟨_, .none hc, hi, ?_⟩
  intro n D b h hD hn hn2 k0 hb hx
  obtain ⟨D, rfl⟩ : ∃ D', D = D' + 6 := ⟨D - 6, by omega⟩
  refine StepN.err_of ?_
  rw [w_pattern_reader_atom]
  unfold pattern_reader_atom
  have Mx := Mem.one k0 hb
  repeat (first | ((with_reducible apply Wp.mnew Mx); intro _ Mz; clear Mx; have Mx := Mz; clear Mz) | rw [newP_eq])
  have M1 := Mx.swap
  have hs := next_r (n := n) (d := D + 3) M1.at0.1 M1.at0.2.1 hi hu
  rw [hc] at hs
  exact Wp.rdE hs M1 fun h' p k1 t1 => ⟨rfl, p, k1, t1⟩
 | some c =>
  obtain ⟨hp, _⟩ := at?_some hc
  have h256 := at?_256 hc
  by_cases h40 : c = 40
  ·subst h40
   obtain ⟨m', rfl⟩ : ∃ m', m = m' + 1 := ⟨m - 1, by omega⟩
   obtain ⟨r, r1, r2, r3⟩ := ih m' rfl (i + 1) (by omega) (by omega)
   cases r with
   | error q =>
    refine ⟨_, .open_bad hc r1, r2, ?_⟩
    intro n D b h hD hn hn2 k0 hb hx
    obtain ⟨D, rfl⟩ : ∃ D', D = D' + 6 := ⟨D - 6, by omega⟩
    refine StepN.err_of ?_
    rw [w_pattern_reader_atom]
    unfold pattern_reader_atom
    have Mx := Mem.one k0 hb
    repeat (first | ((with_reducible apply Wp.mnew Mx); intro _ Mz; clear Mx; have Mx := Mz; clear Mz) | rw [newP_eq])
    have M1 := Mx.swap
    have hs := next_r (n := n) (d := D + 3) M1.at0.1 M1.at0.2.1 hi hu
    rw [hc] at hs
    refine Wp.rdK hs M1 fun h1 M2 => ?_
    have hs2 := r3 (n := n) (D := D + 5) (by omega) hn hn2 M2.at0.1 M2.at0.2.1 (by rw [M2.ex]; exact hx)
    repeat (first | (with_reducible refine Wp.lett ?_) | ((with_reducible apply Wp.obind); (with_reducible exact avInt_int _ _)) | ((with_reducible refine Wp.ift ?_ ?_); ((with_reducible apply beq_t); omega)))
    exact Wp.nodeE hs2 M2 fun h' p k1 t1 => ⟨rfl, p, k1, t1⟩
   | ok tj =>
    obtain ⟨t, j⟩ := tj
    obtain ⟨b1, b2⟩ := r2
    by_cases h41 : at? u j = some 41
    ·obtain ⟨hj, _⟩ := at?_some h41
     refine ⟨_, .group hc r1 h41, ⟨by omega, by omega⟩, ?_⟩
     intro n D b h hD hn hn2 k0 hb hx
     obtain ⟨D, rfl⟩ : ∃ D', D = D' + 6 := ⟨D - 6, by omega⟩
     refine StepN.ok_of ?_
     rw [w_pattern_reader_atom]
     unfold pattern_reader_atom
     have Mx := Mem.one k0 hb
     repeat (first | ((with_reducible apply Wp.mnew Mx); intro _ Mz; clear Mx; have Mx := Mz; clear Mz) | rw [newP_eq])
     have M1 := Mx.swap
     have hs := next_r (n := n) (d := D + 3) M1.at0.1 M1.at0.2.1 hi hu
     rw [hc] at hs
     refine Wp.rdK hs M1 fun h1 M2 => ?_
     have hs2 := r3 (n := n) (D := D + 5) (by omega) hn hn2 M2.at0.1 M2.at0.2.1 (by rw [M2.ex]; exact hx)
     repeat (first | (with_reducible refine Wp.lett ?_) | ((with_reducible apply Wp.obind); (with_reducible exact avInt_int _ _)) | ((with_reducible refine Wp.ift ?_ ?_); ((with_reducible apply beq_t); omega)))
     refine Wp.nodeK hs2 M2 fun c T h2 kt M3 => ?_
     (((with_reducible apply Wp.obind); (with_reducible exact avAgg_agg _)))
     refine Wp.mnew M3 fun h3 M4 => ?_
     rw [newP_eq]
     refine Wp.sa0 M4 kt.len rfl kt.one fun h4 M5 => ?_
     have M6 := M5.swap
     have hs3 := take_r (n := n) (d := D + 1) M6.at0.1 M6.at0.2.1 b2 hu 41
     rw [if_pos h41] at hs3
     refine Wp.rdK hs3 M6 fun h5 M7 => ?_
     refine Wp.lr1 M7 kt.len ?_
     exact fin_node (mem_mid (xs := [_]) (T0 := [_]) M7) rfl kt
    ·refine ⟨_, .open_end hc r1 h41, b2, ?_⟩
     intro n D b h hD hn hn2 k0 hb hx
     obtain ⟨D, rfl⟩ : ∃ D', D = D' + 6 := ⟨D - 6, by omega⟩
     refine StepN.err_of ?_
     rw [w_pattern_reader_atom]
     unfold pattern_reader_atom
     have Mx := Mem.one k0 hb
     repeat (first | ((with_reducible apply Wp.mnew Mx); intro _ Mz; clear Mx; have Mx := Mz; clear Mz) | rw [newP_eq])
     have M1 := Mx.swap
     have hs := next_r (n := n) (d := D + 3) M1.at0.1 M1.at0.2.1 hi hu
     rw [hc] at hs
     refine Wp.rdK hs M1 fun h1 M2 => ?_
     have hs2 := r3 (n := n) (D := D + 5) (by omega) hn hn2 M2.at0.1 M2.at0.2.1 (by rw [M2.ex]; exact hx)
     repeat (first | (with_reducible refine Wp.lett ?_) | ((with_reducible apply Wp.obind); (with_reducible exact avInt_int _ _)) | ((with_reducible refine Wp.ift ?_ ?_); ((with_reducible apply beq_t); omega)))
     refine Wp.nodeK hs2 M2 fun c T h2 kt M3 => ?_
     (((with_reducible apply Wp.obind); (with_reducible exact avAgg_agg _)))
     refine Wp.mnew M3 fun h3 M4 => ?_
     rw [newP_eq]
     refine Wp.sa0 M4 kt.len rfl kt.one fun h4 M5 => ?_
     have M6 := M5.swap
     have hs3 := take_r (n := n) (d := D + 1) M6.at0.1 M6.at0.2.1 b2 hu 41
     rw [if_neg h41] at hs3
     exact Wp.rdE hs3 M6 fun h' p k1 t1 => ⟨rfl, p, k1, t1⟩
  by_cases h46 : c = 46
  ·subst h46
   refine ⟨_, .any hc, ⟨by omega, by omega⟩, ?_⟩
   intro n D b h hD hn hn2 k0 hb hx
   obtain ⟨D, rfl⟩ : ∃ D', D = D' + 6 := ⟨D - 6, by omega⟩
   refine StepN.ok_of ?_
   rw [w_pattern_reader_atom]
   unfold pattern_reader_atom
   have Mx := Mem.one k0 hb
   repeat (first | ((with_reducible apply Wp.mnew Mx); intro _ Mz; clear Mx; have Mx := Mz; clear Mz) | rw [newP_eq])
   have M1 := Mx.swap
   have hs := next_r (n := n) (d := D + 3) M1.at0.1 M1.at0.2.1 hi hu
   rw [hc] at hs
   refine Wp.rdK hs M1 fun h1 M2 => ?_
   repeat (first | (with_reducible refine Wp.lett ?_) | ((with_reducible apply Wp.obind); (with_reducible first | exact avInt_int _ _ | exact avAgg_agg _)) | ((with_reducible refine Wp.ift ?_ ?_); ((with_reducible apply beq_t); omega)) | ((with_reducible refine Wp.iff ?_ ?_); ((with_reducible apply beq_f); omega)) | ((with_reducible apply Wp.callN); (with_reducible exact anyByte_w (d := D + 3) hn)))
   exact fin_node M2 rfl (NodeT.leaf 2 anyW_ok)
  by_cases h91 : c = 91
  ·subst h91
   obtain ⟨r, r1, r2, r2', r3⟩ := members_r hu (i := i + 1) (by omega)
   cases r with
   | error q =>
    refine ⟨_, .set_bad hc r1, r2' q rfl, ?_⟩
    intro n D b h hD hn hn2 k0 hb hx
    obtain ⟨D, rfl⟩ : ∃ D', D = D' + 6 := ⟨D - 6, by omega⟩
    refine StepN.err_of ?_
    rw [w_pattern_reader_atom]
    unfold pattern_reader_atom
    have Mx := Mem.one k0 hb
    repeat (first | ((with_reducible apply Wp.mnew Mx); intro _ Mz; clear Mx; have Mx := Mz; clear Mz) | rw [newP_eq])
    have M1 := Mx.swap
    have hs := next_r (n := n) (d := D + 3) M1.at0.1 M1.at0.2.1 hi hu
    rw [hc] at hs
    refine Wp.rdK hs M1 fun h1 M2 => ?_
    have hs2 := r3 (n := n) (d := D) hn (by omega) M2.at0.1 M2.at0.2.1
    repeat (first | (with_reducible refine Wp.lett ?_) | ((with_reducible apply Wp.obind); (with_reducible exact avInt_int _ _)) | ((with_reducible refine Wp.ift ?_ ?_); ((with_reducible apply beq_t); omega)) | ((with_reducible refine Wp.iff ?_ ?_); ((with_reducible apply beq_f); omega)))
    exact Wp.rdE hs2 M2 fun h' p k1 t1 => ⟨rfl, p, k1, t1⟩
   | ok wj =>
    obtain ⟨w, j⟩ := wj
    obtain ⟨o1, o2, o3⟩ := r2 w j rfl
    refine ⟨_, .set hc r1, ⟨by omega, o3⟩, ?_⟩
    intro n D b h hD hn hn2 k0 hb hx
    obtain ⟨D, rfl⟩ : ∃ D', D = D' + 6 := ⟨D - 6, by omega⟩
    refine StepN.ok_of ?_
    rw [w_pattern_reader_atom]
    unfold pattern_reader_atom
    have Mx := Mem.one k0 hb
    repeat (first | ((with_reducible apply Wp.mnew Mx); intro _ Mz; clear Mx; have Mx := Mz; clear Mz) | rw [newP_eq])
    have M1 := Mx.swap
    have hs := next_r (n := n) (d := D + 3) M1.at0.1 M1.at0.2.1 hi hu
    rw [hc] at hs
    refine Wp.rdK hs M1 fun h1 M2 => ?_
    have hs2 := r3 (n := n) (d := D) hn (by omega) M2.at0.1 M2.at0.2.1
    repeat (first | (with_reducible refine Wp.lett ?_) | ((with_reducible apply Wp.obind); (with_reducible exact avInt_int _ _)) | ((with_reducible refine Wp.ift ?_ ?_); ((with_reducible apply beq_t); omega)) | ((with_reducible refine Wp.iff ?_ ?_); ((with_reducible apply beq_f); omega)))
    refine Wp.rdK hs2 M2 fun h2 M3 => ?_
    have hb2 := setBld o1
    repeat (((with_reducible apply Wp.obind); (with_reducible first | exact hb2 | exact avAgg_agg _)))
    exact fin_node M3 rfl (NodeT.leaf 2 o1)
  by_cases h92 : c = 92
  ·subst h92
   cases he : at? u (i + 1) with
   | none =>
    refine ⟨_, .sl_end hc he, (by show i + 1 ≤ u.length; omega), ?_⟩
    intro n D b h hD hn hn2 k0 hb hx
    obtain ⟨D, rfl⟩ : ∃ D', D = D' + 6 := ⟨D - 6, by omega⟩
    refine StepN.err_of ?_
    rw [w_pattern_reader_atom]
    unfold pattern_reader_atom
    have Mx := Mem.one k0 hb
    repeat (first | ((with_reducible apply Wp.mnew Mx); intro _ Mz; clear Mx; have Mx := Mz; clear Mz) | rw [newP_eq])
    have M1 := Mx.swap
    have hs := next_r (n := n) (d := D + 3) M1.at0.1 M1.at0.2.1 hi hu
    rw [hc] at hs
    refine Wp.rdK hs M1 fun h1 M2 => ?_
    have hs2 := next_r (n := n) (d := D + 3) M2.at0.1 M2.at0.2.1 (by omega) hu
    rw [he] at hs2
    repeat (first | (with_reducible refine Wp.lett ?_) | ((with_reducible apply Wp.obind); (with_reducible exact avInt_int _ _)) | ((with_reducible refine Wp.ift ?_ ?_); ((with_reducible apply beq_t); omega)) | ((with_reducible refine Wp.iff ?_ ?_); ((with_reducible apply beq_f); omega)))
    exact Wp.rdE hs2 M2 fun h' p k1 t1 => ⟨rfl, p, k1, t1⟩
   | some e =>
    obtain ⟨hp2, _⟩ := at?_some he
    refine ⟨_, .sl hc he, ⟨by omega, by omega⟩, ?_⟩
    intro n D b h hD hn hn2 k0 hb hx
    obtain ⟨D, rfl⟩ : ∃ D', D = D' + 6 := ⟨D - 6, by omega⟩
    refine StepN.ok_of ?_
    rw [w_pattern_reader_atom]
    unfold pattern_reader_atom
    have Mx := Mem.one k0 hb
    repeat (first | ((with_reducible apply Wp.mnew Mx); intro _ Mz; clear Mx; have Mx := Mz; clear Mz) | rw [newP_eq])
    have M1 := Mx.swap
    have hs := next_r (n := n) (d := D + 3) M1.at0.1 M1.at0.2.1 hi hu
    rw [hc] at hs
    refine Wp.rdK hs M1 fun h1 M2 => ?_
    have hs2 := next_r (n := n) (d := D + 3) M2.at0.1 M2.at0.2.1 (by omega) hu
    rw [he] at hs2
    repeat (first | (with_reducible refine Wp.lett ?_) | ((with_reducible apply Wp.obind); (with_reducible exact avInt_int _ _)) | ((with_reducible refine Wp.ift ?_ ?_); ((with_reducible apply beq_t); omega)) | ((with_reducible refine Wp.iff ?_ ?_); ((with_reducible apply beq_f); omega)))
    refine Wp.rdK hs2 M2 fun h2 M3 => ?_
    repeat (first | ((with_reducible apply Wp.obind); (with_reducible first | exact avInt_int _ _ | exact avAgg_agg _)) | ((with_reducible apply Wp.callN); (with_reducible exact oneByte_w (d := D + 3) hn (at?_256 he))))
    exact fin_node M3 rfl (NodeT.leaf 2 (spanW_ok 1 zeroW_ok e))
  by_cases hbad : badAtom c
  ·refine ⟨_, .bad hc hbad, hi, ?_⟩
   intro n D b h hD hn hn2 k0 hb hx
   obtain ⟨D, rfl⟩ : ∃ D', D = D' + 6 := ⟨D - 6, by omega⟩
   refine StepN.err_of ?_
   rw [w_pattern_reader_atom]
   unfold pattern_reader_atom
   have Mx := Mem.one k0 hb
   repeat (first | ((with_reducible apply Wp.mnew Mx); intro _ Mz; clear Mx; have Mx := Mz; clear Mz) | rw [newP_eq])
   have M1 := Mx.swap
   have hs := next_r (n := n) (d := D + 3) M1.at0.1 M1.at0.2.1 hi hu
   rw [hc] at hs
   refine Wp.rdK hs M1 fun h1 M2 => ?_
   have hr := refuseLast_r (n := n) (d := D + 3) M2.at0.1 (by omega) hu
   rcases hbad with hs | hs | hs | hs | hs | hs
   ·repeat (first | (with_reducible first | refine Wp.join0 (fun _ _ => ?_) | refine Wp.join1 (fun _ _ => ?_)) | (with_reducible refine Wp.lett ?_) | ((with_reducible apply Wp.obind); (with_reducible exact avInt_int _ _)) | ((with_reducible refine Wp.ift ?_ ?_); first | (with_reducible rfl) | ((with_reducible apply beq_t); omega)) | ((with_reducible refine Wp.iff ?_ ?_); ((with_reducible apply beq_f); omega)) | (with_reducible refine Wp.go1 (by assumption) ?_))
    exact Wp.callP hr ⟨rfl, _, M2.at0.1, M2.tch⟩
   ·repeat (first | (with_reducible first | refine Wp.join0 (fun _ _ => ?_) | refine Wp.join1 (fun _ _ => ?_)) | (with_reducible refine Wp.lett ?_) | ((with_reducible apply Wp.obind); (with_reducible exact avInt_int _ _)) | ((with_reducible refine Wp.ift ?_ ?_); first | (with_reducible rfl) | ((with_reducible apply beq_t); omega)) | ((with_reducible refine Wp.iff ?_ ?_); ((with_reducible apply beq_f); omega)) | (with_reducible refine Wp.go1 (by assumption) ?_))
    exact Wp.callP hr ⟨rfl, _, M2.at0.1, M2.tch⟩
   ·repeat (first | (with_reducible first | refine Wp.join0 (fun _ _ => ?_) | refine Wp.join1 (fun _ _ => ?_)) | (with_reducible refine Wp.lett ?_) | ((with_reducible apply Wp.obind); (with_reducible exact avInt_int _ _)) | ((with_reducible refine Wp.ift ?_ ?_); first | (with_reducible rfl) | ((with_reducible apply beq_t); omega)) | ((with_reducible refine Wp.iff ?_ ?_); ((with_reducible apply beq_f); omega)) | (with_reducible refine Wp.go1 (by assumption) ?_))
    exact Wp.callP hr ⟨rfl, _, M2.at0.1, M2.tch⟩
   ·repeat (first | (with_reducible first | refine Wp.join0 (fun _ _ => ?_) | refine Wp.join1 (fun _ _ => ?_)) | (with_reducible refine Wp.lett ?_) | ((with_reducible apply Wp.obind); (with_reducible exact avInt_int _ _)) | ((with_reducible refine Wp.ift ?_ ?_); first | (with_reducible rfl) | ((with_reducible apply beq_t); omega)) | ((with_reducible refine Wp.iff ?_ ?_); ((with_reducible apply beq_f); omega)) | (with_reducible refine Wp.go1 (by assumption) ?_))
    exact Wp.callP hr ⟨rfl, _, M2.at0.1, M2.tch⟩
   ·repeat (first | (with_reducible first | refine Wp.join0 (fun _ _ => ?_) | refine Wp.join1 (fun _ _ => ?_)) | (with_reducible refine Wp.lett ?_) | ((with_reducible apply Wp.obind); (with_reducible exact avInt_int _ _)) | ((with_reducible refine Wp.ift ?_ ?_); first | (with_reducible rfl) | ((with_reducible apply beq_t); omega)) | ((with_reducible refine Wp.iff ?_ ?_); ((with_reducible apply beq_f); omega)) | (with_reducible refine Wp.go1 (by assumption) ?_))
    exact Wp.callP hr ⟨rfl, _, M2.at0.1, M2.tch⟩
   ·have h93 : ((c : Int) == 93) = true := beq_t (by omega)
    repeat (first | (with_reducible first | refine Wp.join0 (fun _ _ => ?_) | refine Wp.join1 (fun _ _ => ?_)) | (with_reducible refine Wp.lett ?_) | ((with_reducible apply Wp.obind); (with_reducible exact avInt_int _ _)) | ((with_reducible refine Wp.ift ?_ ?_); (with_reducible assumption)) | ((with_reducible refine Wp.iff ?_ ?_); ((with_reducible apply beq_f); omega)) | (with_reducible refine Wp.go1 (by assumption) ?_))
    exact Wp.callP hr ⟨rfl, _, M2.at0.1, M2.tch⟩
  ·refine ⟨_, .one hc hbad ⟨h40, h46, h91, h92⟩, ⟨by omega, by omega⟩, ?_⟩
   intro n D b h hD hn hn2 k0 hb hx
   obtain ⟨D, rfl⟩ : ∃ D', D = D' + 6 := ⟨D - 6, by omega⟩
   refine StepN.ok_of ?_
   rw [w_pattern_reader_atom]
   unfold pattern_reader_atom
   have Mx := Mem.one k0 hb
   repeat (first | ((with_reducible apply Wp.mnew Mx); intro _ Mz; clear Mx; have Mx := Mz; clear Mz) | rw [newP_eq])
   have M1 := Mx.swap
   have hs := next_r (n := n) (d := D + 3) M1.at0.1 M1.at0.2.1 hi hu
   rw [hc] at hs
   refine Wp.rdK hs M1 fun h1 M2 => ?_
   unfold badAtom at hbad
   have h93 : ((c : Int) == 93) = false := beq_f (by omega)
   repeat (first | (with_reducible first | refine Wp.join0 (fun _ _ => ?_) | refine Wp.join1 (fun _ _ => ?_)) | (with_reducible refine Wp.lett ?_) | ((with_reducible apply Wp.obind); (with_reducible first | exact avInt_int _ _ | exact avAgg_agg _)) | ((with_reducible refine Wp.iff ?_ ?_); first | (with_reducible assumption) | ((with_reducible apply beq_f); omega)) | ((with_reducible apply Wp.callN); (with_reducible exact oneByte_w (d := D + 3) hn h256)) | (with_reducible first | refine Wp.go0 (by assumption) ?_ | refine Wp.go1 (by assumption) ?_))
   exact fin_node M2 rfl (NodeT.leaf 2 (spanW_ok 1 zeroW_ok c))
end
end Go.Proofs.Yteibdplpbcobbaa
namespace Go.Proofs.Yteibdplpbcobbaa
open Go.RowKit Abs
section
variable {n d b p q i : Nat} {h h0 : AHeap} {u : Bytes} {Q : ARes → AHeap → Prop} {S : List Nat} {xs rs T : List RowT} {w : List Nat} {x : R} {t : Nd} {c : List AV} {v : AV}
theorem grow_one (c : List AV) (q : Nat) (hl : c.length = 6) (h1 : c.all AV.one = true) : GrowT TNode 6 [c] (.sl q 0 1 6) [(q, TNode, c)] := by
 refine ⟨fun r hr => ?_, .inr ⟨by simp, q, rfl, by simp⟩⟩
 rw [List.mem_singleton] at hr
 subst hr
 exact ⟨hl, h1⟩
theorem signed (kt : NodeT t c T) (op q : Nat) : NodeT (overN op [t]) (nodeC op zeroW (.sl q 0 1 6)) ([(q, TNode, c)] ++ (T ++ [])) :=
 NodeT.mk zeroW_ok (grow_one c q kt.len kt.one) (KidsT.cons kt .nil)
theorem signAt_some {c : Nat} (h : at? u i = some c) : signAt u i = signOp c := by
 unfold signAt
 rw [h]
theorem signAt_none (h42 : at? u i ≠ some 42) (h43 : at? u i ≠ some 43) (h63 : at? u i ≠ some 63) : signAt u i = 0 := by
 unfold signAt
 cases hc : at? u i with
 | none => rfl
 | some c =>
  show signOp c = 0
  rw [hc] at h42 h43 h63
  unfold signOp
  split
  ·exact absurd rfl h42
  ·exact absurd rfl h43
  ·exact absurd rfl h63
  ·rfl
theorem fin_sign {r0 n1 : Nat} {l : List AV} {D op : Nat} (M : Mem S h0 h ((b, TRd, rdP u p) :: (n1, TNode, c) :: (r0, TNode, l) :: T)) (hl : l.length = 6) (kt : NodeT t c T) (hex : memB TNode h0.ex = false) :
  Wp (obind (ldRow h 6 (.ptr n1 0)) fun t9 => outK (bldSl Try.prog h TNodes 1 [(0, .agg t9)]) fun v10 h20 => callN (world n (D + 1) 76 [.int .i64 (op : Int), v10] h20) fun r11 h22 => obind (avAgg r11) fun t11 => obind (stRow h22 6 t11 (.ptr r0 0)) fun h25 => obind (ldRow h25 6 (.ptr r0 0)) fun w => some (.ret (.agg w), h25)) fun r h' => ∃ c T, r = .ret (.agg c) ∧ NodeT (overN op [t]) c T ∧ Mem S h0 h' ((b, TRd, rdP u p) :: T) := by
 refine Wp.lr1 M kt.len ?_
 refine Wp.mnews M (kt.bld h) kt.one hex fun h1 M1 => ?_
 have g := grow_one c h.next kt.len kt.one
 obtain ⟨h2, e2, t2⟩ := over_r (n := n) (d := D) (h := h1) g op
 refine Wp.callN e2 ?_
 have M2 := M1.keep t2
 refine Wp.obind (avAgg_agg _) ?_
 have M3 : Mem S h0 h2 ((b, TRd, rdP u p) :: (r0, TNode, l) :: ([(h.next, TNode, c)] ++ (T ++ []))) := by
  rw [List.append_nil]
  have M4 := M2.perm (ys := [(n1, TNode, c)] ++ ((b, TRd, rdP u p) :: (r0, TNode, l) :: ([(h.next, TNode, c)] ++ T))) (by
   refine List.Perm.trans ?_ (List.perm_append_comm (l₁ := (b, TRd, rdP u p) :: (n1, TNode, c) :: (r0, TNode, l) :: T) (l₂ := [(h.next, TNode, c)]))
   refine (List.Perm.swap _ _ _).trans ?_
   refine List.Perm.cons _ (List.Perm.cons _ (List.Perm.cons _ ?_))
   exact List.perm_append_comm)
  exact Mem.drop M4
 exact fin_node M3 hl (signed kt op h.next)
theorem part_ok (hu : u.length ≤ 1000000) {m : Nat} (ih : AtomOk u m) : PartOk u m := by
 intro i hi hm
 obtain ⟨r, r1, r2, r3⟩ := ih i hi hm
 cases r with
 | error q =>
  refine ⟨_, .bad r1, r2, ?_⟩
  intro n D b h hD hn hn2 k0 hb hx
  obtain ⟨D, rfl⟩ : ∃ D', D = D' + 7 := ⟨D - 7, by omega⟩
  refine StepN.err_of ?_
  rw [w_pattern_reader_regularPart]
  unfold pattern_reader_regularPart
  have Mx := Mem.one k0 hb
  repeat (first | ((with_reducible apply Wp.mnew Mx); intro _ Mz; clear Mx; have Mx := Mz; clear Mz) | rw [newP_eq])
  have M1 := Mx.swap
  have hs := r3 (n := n) (D := D + 6) (by omega) hn hn2 M1.at0.1 M1.at0.2.1 (by rw [M1.ex]; exact hx)
  exact Wp.nodeE hs M1 fun h' p k1 t1 => ⟨rfl, p, k1, t1⟩
 | ok tj =>
  obtain ⟨t, j⟩ := tj
  obtain ⟨b1, b2⟩ := r2
  by_cases h42 : at? u j = some 42
  ·have hsg : signAt u j = 5 := signAt_some h42
   obtain ⟨hj, _⟩ := at?_some h42
   have rp := PartP.sign r1 (by rw [hsg]; decide)
   rw [hsg] at rp
   refine ⟨_, rp, ⟨by omega, by omega⟩, ?_⟩
   intro n D b h hD hn hn2 k0 hb hx
   obtain ⟨D, rfl⟩ : ∃ D', D = D' + 7 := ⟨D - 7, by omega⟩
   refine StepN.ok_of ?_
   rw [w_pattern_reader_regularPart]
   unfold pattern_reader_regularPart
   have Mx := Mem.one k0 hb
   repeat (first | ((with_reducible apply Wp.mnew Mx); intro _ Mz; clear Mx; have Mx := Mz; clear Mz) | rw [newP_eq])
   have M1 := Mx.swap
   have hs := r3 (n := n) (D := D + 6) (by omega) hn hn2 M1.at0.1 M1.at0.2.1 (by rw [M1.ex]; exact hx)
   refine Wp.nodeK hs M1 fun c T h2 kt M3 => ?_
   (((with_reducible apply Wp.obind); (with_reducible exact avAgg_agg _)))
   refine Wp.mnew M3 fun h3 M4 => ?_
   rw [newP_eq]
   refine Wp.sa0 M4 kt.len rfl kt.one fun h4 M5 => ?_
   have M6 := M5.swap
   have hs1 := skips_r (n := n) (d := D + 3) M6.at0.1 M6.at0.2.1 b2 hu 42
   rw [if_pos h42, decide_eq_true h42] at hs1
   refine Wp.rdN hs1 M6 fun h5 M7 => ?_
   repeat (first | ((with_reducible apply Wp.obind); (with_reducible exact avBool_bool _)) | ((with_reducible refine Wp.ift ?_ ?_); (with_reducible rfl)))
   exact fin_sign (D := D + 5) (op := 5) M7 rfl kt hx
  by_cases h43 : at? u j = some 43
  ·have hsg : signAt u j = 6 := signAt_some h43
   obtain ⟨hj, _⟩ := at?_some h43
   have rp := PartP.sign r1 (by rw [hsg]; decide)
   rw [hsg] at rp
   refine ⟨_, rp, ⟨by omega, by omega⟩, ?_⟩
   intro n D b h hD hn hn2 k0 hb hx
   obtain ⟨D, rfl⟩ : ∃ D', D = D' + 7 := ⟨D - 7, by omega⟩
   refine StepN.ok_of ?_
   rw [w_pattern_reader_regularPart]
   unfold pattern_reader_regularPart
   have Mx := Mem.one k0 hb
   repeat (first | ((with_reducible apply Wp.mnew Mx); intro _ Mz; clear Mx; have Mx := Mz; clear Mz) | rw [newP_eq])
   have M1 := Mx.swap
   have hs := r3 (n := n) (D := D + 6) (by omega) hn hn2 M1.at0.1 M1.at0.2.1 (by rw [M1.ex]; exact hx)
   refine Wp.nodeK hs M1 fun c T h2 kt M3 => ?_
   (((with_reducible apply Wp.obind); (with_reducible exact avAgg_agg _)))
   refine Wp.mnew M3 fun h3 M4 => ?_
   rw [newP_eq]
   refine Wp.sa0 M4 kt.len rfl kt.one fun h4 M5 => ?_
   have M6 := M5.swap
   have hs1 := skips_r (n := n) (d := D + 3) M6.at0.1 M6.at0.2.1 b2 hu 42
   rw [if_neg h42, decide_eq_false h42] at hs1
   refine Wp.rdN hs1 M6 fun h5 M7 => ?_
   have hs2 := skips_r (n := n) (d := D + 3) M7.at0.1 M7.at0.2.1 b2 hu 43
   rw [if_pos h43, decide_eq_true h43] at hs2
   repeat (first | ((with_reducible apply Wp.obind); (with_reducible exact avBool_bool _)) | ((with_reducible refine Wp.iff ?_ ?_); (with_reducible rfl)))
   refine Wp.rdN hs2 M7 fun h6 M8 => ?_
   repeat (first | ((with_reducible apply Wp.obind); (with_reducible exact avBool_bool _)) | ((with_reducible refine Wp.ift ?_ ?_); (with_reducible rfl)))
   exact fin_sign (D := D + 5) (op := 6) M8 rfl kt hx
  by_cases h63 : at? u j = some 63
  ·have hsg : signAt u j = 7 := signAt_some h63
   obtain ⟨hj, _⟩ := at?_some h63
   have rp := PartP.sign r1 (by rw [hsg]; decide)
   rw [hsg] at rp
   refine ⟨_, rp, ⟨by omega, by omega⟩, ?_⟩
   intro n D b h hD hn hn2 k0 hb hx
   obtain ⟨D, rfl⟩ : ∃ D', D = D' + 7 := ⟨D - 7, by omega⟩
   refine StepN.ok_of ?_
   rw [w_pattern_reader_regularPart]
   unfold pattern_reader_regularPart
   have Mx := Mem.one k0 hb
   repeat (first | ((with_reducible apply Wp.mnew Mx); intro _ Mz; clear Mx; have Mx := Mz; clear Mz) | rw [newP_eq])
   have M1 := Mx.swap
   have hs := r3 (n := n) (D := D + 6) (by omega) hn hn2 M1.at0.1 M1.at0.2.1 (by rw [M1.ex]; exact hx)
   refine Wp.nodeK hs M1 fun c T h2 kt M3 => ?_
   (((with_reducible apply Wp.obind); (with_reducible exact avAgg_agg _)))
   refine Wp.mnew M3 fun h3 M4 => ?_
   rw [newP_eq]
   refine Wp.sa0 M4 kt.len rfl kt.one fun h4 M5 => ?_
   have M6 := M5.swap
   have hs1 := skips_r (n := n) (d := D + 3) M6.at0.1 M6.at0.2.1 b2 hu 42
   rw [if_neg h42, decide_eq_false h42] at hs1
   refine Wp.rdN hs1 M6 fun h5 M7 => ?_
   have hs2 := skips_r (n := n) (d := D + 3) M7.at0.1 M7.at0.2.1 b2 hu 43
   rw [if_neg h43, decide_eq_false h43] at hs2
   repeat (first | ((with_reducible apply Wp.obind); (with_reducible exact avBool_bool _)) | ((with_reducible refine Wp.iff ?_ ?_); (with_reducible rfl)))
   refine Wp.rdN hs2 M7 fun h6 M8 => ?_
   have hs3 := skips_r (n := n) (d := D + 3) M8.at0.1 M8.at0.2.1 b2 hu 63
   rw [if_pos h63, decide_eq_true h63] at hs3
   repeat (first | ((with_reducible apply Wp.obind); (with_reducible exact avBool_bool _)) | ((with_reducible refine Wp.iff ?_ ?_); (with_reducible rfl)))
   refine Wp.rdN hs3 M8 fun h7 M9 => ?_
   repeat (first | ((with_reducible apply Wp.obind); (with_reducible exact avBool_bool _)) | ((with_reducible refine Wp.ift ?_ ?_); (with_reducible rfl)))
   exact fin_sign (D := D + 5) (op := 7) M9 rfl kt hx
  ·have hsg := signAt_none h42 h43 h63
   refine ⟨_, .bare r1 hsg, ⟨b1, b2⟩, ?_⟩
   intro n D b h hD hn hn2 k0 hb hx
   obtain ⟨D, rfl⟩ : ∃ D', D = D' + 7 := ⟨D - 7, by omega⟩
   refine StepN.ok_of ?_
   rw [w_pattern_reader_regularPart]
   unfold pattern_reader_regularPart
   have Mx := Mem.one k0 hb
   repeat (first | ((with_reducible apply Wp.mnew Mx); intro _ Mz; clear Mx; have Mx := Mz; clear Mz) | rw [newP_eq])
   have M1 := Mx.swap
   have hs := r3 (n := n) (D := D + 6) (by omega) hn hn2 M1.at0.1 M1.at0.2.1 (by rw [M1.ex]; exact hx)
   refine Wp.nodeK hs M1 fun c T h2 kt M3 => ?_
   (((with_reducible apply Wp.obind); (with_reducible exact avAgg_agg _)))
   refine Wp.mnew M3 fun h3 M4 => ?_
   rw [newP_eq]
   refine Wp.sa0 M4 kt.len rfl kt.one fun h4 M5 => ?_
   have M6 := M5.swap
   have hs1 := skips_r (n := n) (d := D + 3) M6.at0.1 M6.at0.2.1 b2 hu 42
   rw [if_neg h42, decide_eq_false h42] at hs1
   refine Wp.rdN hs1 M6 fun h5 M7 => ?_
   have hs2 := skips_r (n := n) (d := D + 3) M7.at0.1 M7.at0.2.1 b2 hu 43
   rw [if_neg h43, decide_eq_false h43] at hs2
   repeat (first | ((with_reducible apply Wp.obind); (with_reducible exact avBool_bool _)) | ((with_reducible refine Wp.iff ?_ ?_); (with_reducible rfl)))
   refine Wp.rdN hs2 M7 fun h6 M8 => ?_
   have hs3 := skips_r (n := n) (d := D + 3) M8.at0.1 M8.at0.2.1 b2 hu 63
   rw [if_neg h63, decide_eq_false h63] at hs3
   repeat (first | ((with_reducible apply Wp.obind); (with_reducible exact avBool_bool _)) | ((with_reducible refine Wp.iff ?_ ?_); (with_reducible rfl)))
   refine Wp.rdN hs3 M8 fun h7 M9 => ?_
   repeat (first | ((with_reducible apply Wp.obind); (with_reducible exact avBool_bool _)) | ((with_reducible refine Wp.iff ?_ ?_); (with_reducible rfl)))
   refine Wp.lr1 M9 kt.len ?_
   exact fin_node (mem_mid (xs := [_]) (T0 := [_]) M9) rfl kt
end
section
variable {n d b p q i m : Nat} {h h0 : AHeap} {u : Bytes} {Q : ARes → AHeap → Prop} {S : List Nat} {xs rs T T0 T1 : List RowT} {w : List Nat} {x : R} {t : Nd} {c : List AV} {v kv : AV} {l : List Nd} {kc : List (List AV)}
theorem StepN.of_main {r : Res} (main : ∀ Q : ARes → AHeap → Prop, (∀ t j c T H', r = .ok (t, j) → NodeT t c T → Mem [b] h H' ((b, TRd, rdP u j) :: T) → Q (.ret (.agg c)) H') → (∀ e p H', r = .error e → Rd H' b u p → Tch [b] h H' → Q (.panic (PanA 6 e)) H') → Wp x Q) : StepN b u h x r := by
 cases r with
 | error e => exact StepN.err_of (main _ (fun t j c T H' hh => by cases hh) fun e' p H' hh k5 t5 => by cases hh; exact ⟨rfl, p, k5, t5⟩)
 | ok tj =>
  obtain ⟨t, j⟩ := tj
  exact StepN.ok_of (main _ (fun t' j' c T H' hh k5 t5 => by cases hh; exact ⟨c, T, rfl, k5, t5⟩) fun e' p H' hh => by cases hh)
theorem Wp.nodeGrow {K : AV → AHeap → R} {y z : RowT} (M : Mem S h0 h (y :: ((z :: (T0 ++ T1)) ++ T))) (g : GrowT TNode 6 kc kv T0) (ks : KidsT l kc T1) (kt : NodeT t c T) (hex : memB TNode h0.ex = false) (hl : l.length ≤ 1000001)
  (hk : ∀ kv' h' T0', GrowT TNode 6 (kc ++ [c]) kv' T0' → KidsT (l ++ [t]) (kc ++ [c]) (T1 ++ T) → Mem S h0 h' (y :: z :: (T0' ++ (T1 ++ T))) → Wp (K kv' h') Q) :
  Wp (outK (bldSl Try.prog h TNodes 1 [(0, .agg c)]) fun v12 h29 => outK (opAppend Try.prog h29 TNodes TNodes kv v12) fun v13 h31 => K v13 h31) Q := by
 refine Wp.mnews M (kt.bld h) kt.one hex fun h1 M1 => ?_
 have M2 : Mem S h0 h1 ((h.next, TNode, c) :: (y :: z :: (T1 ++ T)) ++ T0) := M1.perm (by
  refine List.Perm.cons _ (List.Perm.cons _ (List.Perm.cons _ ?_))
  show ((T1 ++ T) ++ T0).Perm ((T0 ++ T1) ++ T)
  rw [List.append_assoc T0]
  exact List.perm_append_comm)
 have hkl := ks.len
 refine Wp.grow M2 g (by kernel_rfl) (by kernel_rfl) (by kernel_rfl) (B := 64) (by kernel_rfl) hex kt.len kt.one (by omega) (by omega) fun kv' h' T0' g' M3 => ?_
 refine hk kv' h' T0' g' (KidsT.snoc kt ks) (M3.perm ?_)
 exact List.Perm.cons _ (List.Perm.cons _ List.perm_append_comm)
theorem at?_none (h : at? u i = none) (hi : i ≤ u.length) : i = u.length := by
 by_cases hp : i < u.length
 ·rw [at?_lt hp] at h
  cases h
 ·omega
theorem row_loop (hu : u.length ≤ 1000000) (ih : PartOk u m) : ∀ (k i : Nat) (l : List Nd), i ≤ u.length → u.length - i ≤ m → u.length - i < k → l.length ≤ i → ∃ r, RowP u l i r ∧ Bnd u i r ∧
   ∀ {n D f b r0 : Nat} {S : List Nat} {h0 H : AHeap} {kc : List (List AV)} {kv : AV} {T0 T1 : List RowT} {z : List AV} {k7 : AV → AHeap → R} {Q : ARes → AHeap → Prop}, 4 * m + 7 ≤ D → 300 < n → u.length + 5 < n → u.length - i < f → GrowT TNode 6 kc kv T0 → KidsT l kc T1 → memB TNode h0.ex = false →
    Mem S h0 H ((b, TRd, rdP u i) :: (r0, TNode, z) :: (T0 ++ T1)) →
    (∀ l' j kc kv T0 T1 H', r = .ok (joinN 3 l', j) → GrowT TNode 6 kc kv T0 → KidsT l' kc T1 → Mem S h0 H' ((b, TRd, rdP u j) :: (r0, TNode, z) :: (T0 ++ T1)) → Wp (k7 kv H') Q) →
    (∀ e p H', r = .error e → Rd H' b u p → Tch S h0 H' → Q (.panic (PanA 6 e)) H') →
    Wp (pattern_reader_regularRow_L0 (world n D) (.ptr b 0) k7 f kv H) Q
 | 0, _, _, _, _, hk, _ => by omega
 | k + 1, i, l, hi, hm, hk, hli => by
  by_cases hst : stops u i
  ·refine ⟨_, .stop hst, ⟨Nat.le_refl _, hi⟩, ?_⟩
   intro n D f b r0 S h0 H kc kv T0 T1 z k7 Q hD hn hn2 hf g ks hex M hok hbad
   obtain ⟨D, rfl⟩ : ∃ D', D = D' + 7 := ⟨D - 7, by omega⟩
   cases f with
   | zero => omega
   | succ f =>
    have he := ended_r (n := n) (d := D + 6) M.at0.1
    have h1 : world n (D + 7) 68 [.ptr b 0, .int .u8 124] H = some (.ret (.bool (decide (at? u i = some 124))), H) := sees_r (n := n) (d := D + 5) M.at0.1 hi 124
    have h2 : world n (D + 7) 68 [.ptr b 0, .int .u8 41] H = some (.ret (.bool (decide (at? u i = some 41))), H) := sees_r (n := n) (d := D + 5) M.at0.1 hi 41
    have hfin := hok l i kc kv T0 T1 H rfl g ks M
    rw [pattern_reader_regularRow_L0_s]
    unfold pattern_reader_regularRow_L0b
    rcases hst with hc | hc | hc
    ·have := at?_none hc hi
     rw [decide_eq_true this] at he
     repeat (first | (with_reducible refine Wp.join1 (fun _ _ => ?_)) | (with_reducible refine Wp.lett ?_) | ((with_reducible apply Wp.obind); (with_reducible exact avBool_bool _)) | ((with_reducible refine Wp.iff ?_ ?_); (with_reducible first | rfl | exact Bool.not_true)) | ((with_reducible apply Wp.callN); (with_reducible assumption)) | (with_reducible refine Wp.go1 (by assumption) ?_))
     exact hfin
    ·obtain ⟨hp, _⟩ := at?_some hc
     rw [decide_eq_false (by omega)] at he
     rw [decide_eq_true hc] at h1
     repeat (first | (with_reducible refine Wp.join1 (fun _ _ => ?_)) | (with_reducible refine Wp.lett ?_) | ((with_reducible apply Wp.obind); (with_reducible exact avBool_bool _)) | ((with_reducible refine Wp.ift ?_ ?_); (with_reducible exact Bool.not_false)) | ((with_reducible refine Wp.iff ?_ ?_); (with_reducible first | rfl | exact Bool.not_true)) | ((with_reducible apply Wp.callN); (with_reducible assumption)) | (with_reducible refine Wp.go1 (by assumption) ?_))
     exact hfin
    ·obtain ⟨hp, _⟩ := at?_some hc
     rw [decide_eq_false (by omega)] at he
     rw [decide_eq_false (by rw [hc]; decide)] at h1
     rw [decide_eq_true hc] at h2
     repeat (first | (with_reducible refine Wp.join1 (fun _ _ => ?_)) | (with_reducible refine Wp.lett ?_) | ((with_reducible apply Wp.obind); (with_reducible exact avBool_bool _)) | ((with_reducible refine Wp.ift ?_ ?_); (with_reducible exact Bool.not_false)) | ((with_reducible refine Wp.iff ?_ ?_); (with_reducible exact Bool.not_true)) | ((with_reducible apply Wp.callN); (with_reducible assumption)) | (with_reducible refine Wp.go1 (by assumption) ?_))
     exact hfin
  ·have hlt : i < u.length := by
    rcases Nat.lt_or_ge i u.length with h | h
    ·exact h
    ·exact absurd (.inl (at?_ge h)) hst
   have n1 : at? u i ≠ some 124 := fun hh => hst (.inr (.inl hh))
   have n2 : at? u i ≠ some 41 := fun hh => hst (.inr (.inr hh))
   obtain ⟨r, r1, r2, r3⟩ := ih i hi hm
   cases r with
   | error e =>
    refine ⟨_, .bad hst r1, r2, ?_⟩
    intro n D f b r0 S h0 H kc kv T0 T1 z k7 Q hD hn hn2 hf g ks hex M hok hbad
    obtain ⟨D, rfl⟩ : ∃ D', D = D' + 7 := ⟨D - 7, by omega⟩
    cases f with
    | zero => omega
    | succ f =>
     have he := ended_r (n := n) (d := D + 6) M.at0.1
     have h1 : world n (D + 7) 68 [.ptr b 0, .int .u8 124] H = some (.ret (.bool (decide (at? u i = some 124))), H) := sees_r (n := n) (d := D + 5) M.at0.1 hi 124
     have h2 : world n (D + 7) 68 [.ptr b 0, .int .u8 41] H = some (.ret (.bool (decide (at? u i = some 41))), H) := sees_r (n := n) (d := D + 5) M.at0.1 hi 41
     rw [decide_eq_false (by omega)] at he
     rw [decide_eq_false n1] at h1
     rw [decide_eq_false n2] at h2
     have hs := r3 (n := n) (D := D + 7) (by omega) hn hn2 M.at0.1 M.at0.2.1 (by rw [M.ex]; exact hex)
     rw [pattern_reader_regularRow_L0_s]
     unfold pattern_reader_regularRow_L0b
     repeat (first | (with_reducible refine Wp.join1 (fun _ _ => ?_)) | (with_reducible refine Wp.lett ?_) | ((with_reducible apply Wp.obind); (with_reducible exact avBool_bool _)) | ((with_reducible refine Wp.ift ?_ ?_); (with_reducible exact Bool.not_false)) | ((with_reducible first | apply Wp.callN | apply Wp.callK); (with_reducible assumption)) | (with_reducible refine Wp.go1 (by assumption) ?_))
     exact Wp.nodeE hs M fun h' p k1 t1 => hbad e p h' rfl k1 t1
   | ok tj =>
    obtain ⟨t, j⟩ := tj
    obtain ⟨b1, b2⟩ := r2
    obtain ⟨r, q1, q2, q3⟩ := row_loop hu ih k j (l ++ [t]) b2 (by omega) (by omega) (by simp; omega)
    refine ⟨r, .more hst r1 q1, ?_, ?_⟩
    ·cases r with
     | error e => exact q2
     | ok tj2 =>
      obtain ⟨a1, a2⟩ := q2
      exact ⟨by omega, a2⟩
    ·intro n D f b r0 S h0 H kc kv T0 T1 z k7 Q hD hn hn2 hf g ks hex M hok hbad
     obtain ⟨D, rfl⟩ : ∃ D', D = D' + 7 := ⟨D - 7, by omega⟩
     cases f with
     | zero => omega
     | succ f =>
      have he := ended_r (n := n) (d := D + 6) M.at0.1
      have h1 : world n (D + 7) 68 [.ptr b 0, .int .u8 124] H = some (.ret (.bool (decide (at? u i = some 124))), H) := sees_r (n := n) (d := D + 5) M.at0.1 hi 124
      have h2 : world n (D + 7) 68 [.ptr b 0, .int .u8 41] H = some (.ret (.bool (decide (at? u i = some 41))), H) := sees_r (n := n) (d := D + 5) M.at0.1 hi 41
      rw [decide_eq_false (by omega)] at he
      rw [decide_eq_false n1] at h1
      rw [decide_eq_false n2] at h2
      have hs := r3 (n := n) (D := D + 7) (by omega) hn hn2 M.at0.1 M.at0.2.1 (by rw [M.ex]; exact hex)
      rw [pattern_reader_regularRow_L0_s]
      unfold pattern_reader_regularRow_L0b
      repeat (first | (with_reducible refine Wp.join1 (fun _ _ => ?_)) | (with_reducible refine Wp.lett ?_) | ((with_reducible apply Wp.obind); (with_reducible exact avBool_bool _)) | ((with_reducible refine Wp.ift ?_ ?_); (with_reducible exact Bool.not_false)) | ((with_reducible first | apply Wp.callN | apply Wp.callK); (with_reducible assumption)) | (with_reducible refine Wp.go1 (by assumption) ?_))
      refine Wp.nodeK hs M fun c T h2 kt M3 => ?_
      (((with_reducible apply Wp.obind); (with_reducible exact avAgg_agg _)))
      refine Wp.nodeGrow M3 g ks kt hex (by omega) fun kv' h' T0' g' ks' M4 => ?_
      exact q3 hD hn hn2 (by omega) g' ks' hex M4 hok hbad
theorem row_ok (hu : u.length ≤ 1000000) (ih : PartOk u m) : RowOk u m := by
 intro i hi hm
 obtain ⟨r, r1, r2, r3⟩ := row_loop hu ih (u.length + 1) i [] hi hm (by omega) (Nat.zero_le _)
 refine ⟨r, r1, r2, ?_⟩
 intro n D b h hD hn hn2 k0 hb hx
 obtain ⟨D, rfl⟩ : ∃ D', D = D' + 8 := ⟨D - 8, by omega⟩
 refine StepN.of_main fun Q q1 q2 => ?_
 rw [w_pattern_reader_regularRow]
 unfold pattern_reader_regularRow
 refine Wp.mnew (Mem.one k0 hb) fun h1 Mx => ?_
 rw [newP_eq]
 have M1 := Mx.swap
 ((with_reducible refine Wp.join1 (fun _ _ => ?_)))
 rename_i k7 ek7
 refine r3 (r0 := h.next) (by omega) hn hn2 (by omega) (GrowT.nil _ _) .nil hx M1 ?_ q2
 intro l' j kc kv T0 T1 H' hr g ks M2
 refine Wp.go1 ek7 ?_
 obtain ⟨c, T, h2, e2, kt, M3⟩ := inRow_r (n := n) (d := D + 5) (xs := [_, _]) M2 g ks
 repeat (first | ((with_reducible apply Wp.obind); (with_reducible exact avAgg_agg _)) | ((with_reducible apply Wp.callN); (with_reducible assumption)))
 refine (fin_node M3 rfl kt).mono ?_
 rintro _ h3 ⟨c3, T3, rfl, kt3, M4⟩
 exact q1 _ _ _ _ _ hr kt3 M4
end
section
variable {n d b p q i m : Nat} {h h0 : AHeap} {u : Bytes} {Q : ARes → AHeap → Prop} {S : List Nat} {xs rs T T0 T1 : List RowT} {w : List Nat} {x : R} {t : Nd} {c : List AV} {v kv : AV} {l : List Nd} {kc : List (List AV)}
theorem alt_loop (hu : u.length ≤ 1000000) (ih : RowOk u m) : ∀ (k j : Nat) (l : List Nd), j ≤ u.length → u.length - j ≤ m → u.length - j < k → l.length ≤ j + 1 → l ≠ [] → ∃ r, (at? u j = some 124 → AltP u l (j + 1) r) ∧ (at? u j ≠ some 124 → r = .ok (joinN 4 l, j)) ∧ Bnd u j r ∧
   ∀ {n D f b r0 : Nat} {S : List Nat} {h0 H : AHeap} {kc : List (List AV)} {kv : AV} {T0 T1 : List RowT} {z : List AV} {k12 : AV → AHeap → R} {Q : ARes → AHeap → Prop}, 4 * m + 8 ≤ D → 300 < n → u.length + 5 < n → u.length - j < f → GrowT TNode 6 kc kv T0 → KidsT l kc T1 → memB TNode h0.ex = false →
    Mem S h0 H ((b, TRd, rdP u j) :: (r0, TNode, z) :: (T0 ++ T1)) →
    (∀ l' j kc kv T0 T1 H', l' ≠ [] → r = .ok (joinN 4 l', j) → GrowT TNode 6 kc kv T0 → KidsT l' kc T1 → Mem S h0 H' ((b, TRd, rdP u j) :: (r0, TNode, z) :: (T0 ++ T1)) → Wp (k12 kv H') Q) →
    (∀ e p H', r = .error e → Rd H' b u p → Tch S h0 H' → Q (.panic (PanA 6 e)) H') →
    Wp (pattern_reader_alternatives_L0 (world n D) (.ptr b 0) k12 f kv H) Q
 | 0, _, _, _, _, hk, _, _ => by omega
 | k + 1, j, l, hi, hm, hk, hli, hne => by
  by_cases hst : at? u j = some 124
  ·obtain ⟨hp, _⟩ := at?_some hst
   obtain ⟨r, r1, r2, r3⟩ := ih (j + 1) (by omega) (by omega)
   cases r with
   | error e =>
    refine ⟨.error e, fun _ => .bad r1, fun hh => absurd hst hh, r2, ?_⟩
    intro n D f b r0 S h0 H kc kv T0 T1 z k12 Q hD hn hn2 hf g ks hex M hok hbad
    obtain ⟨D, rfl⟩ : ∃ D', D = D' + 8 := ⟨D - 8, by omega⟩
    cases f with
    | zero => omega
    | succ f =>
     rw [pattern_reader_alternatives_L0_s]
     unfold pattern_reader_alternatives_L0b
     have hs1 := skips_r (n := n) (d := D + 5) M.at0.1 M.at0.2.1 hi hu 124
     rw [if_pos hst, decide_eq_true hst] at hs1
     refine Wp.rdN hs1 M fun h1 M1 => ?_
     have hs := r3 (n := n) (D := D + 8) (by omega) hn hn2 M1.at0.1 M1.at0.2.1 (by rw [M1.ex]; exact hex)
     repeat (first | ((with_reducible apply Wp.obind); (with_reducible exact avBool_bool _)) | ((with_reducible refine Wp.ift ?_ ?_); (with_reducible rfl)))
     exact Wp.nodeE hs M1 fun h' p k1 t1 => hbad e p h' rfl k1 t1
   | ok tj =>
    obtain ⟨t, j2⟩ := tj
    obtain ⟨b1, b2⟩ := r2
    obtain ⟨r, q1, q2, q3, q4⟩ := alt_loop hu ih k j2 (l ++ [t]) b2 (by omega) (by omega) (by simp; omega) (by simp)
    refine ⟨r, fun _ => ?_, fun hh => absurd hst hh, ?_, ?_⟩
    ·by_cases h2 : at? u j2 = some 124
     ·exact .more r1 h2 (q1 h2)
     ·rw [q2 h2]
      exact .last r1 h2
    ·cases r with
     | error e => exact q3
     | ok tj2 =>
      obtain ⟨a1, a2⟩ := q3
      exact ⟨by omega, a2⟩
    ·intro n D f b r0 S h0 H kc kv T0 T1 z k12 Q hD hn hn2 hf g ks hex M hok hbad
     obtain ⟨D, rfl⟩ : ∃ D', D = D' + 8 := ⟨D - 8, by omega⟩
     cases f with
     | zero => omega
     | succ f =>
      rw [pattern_reader_alternatives_L0_s]
      unfold pattern_reader_alternatives_L0b
      have hs1 := skips_r (n := n) (d := D + 5) M.at0.1 M.at0.2.1 hi hu 124
      rw [if_pos hst, decide_eq_true hst] at hs1
      refine Wp.rdN hs1 M fun h1 M1 => ?_
      have hs := r3 (n := n) (D := D + 8) (by omega) hn hn2 M1.at0.1 M1.at0.2.1 (by rw [M1.ex]; exact hex)
      repeat (first | ((with_reducible apply Wp.obind); (with_reducible exact avBool_bool _)) | ((with_reducible refine Wp.ift ?_ ?_); (with_reducible rfl)))
      refine Wp.nodeK hs M1 fun c T h2 kt M3 => ?_
      (((with_reducible apply Wp.obind); (with_reducible exact avAgg_agg _)))
      refine Wp.nodeGrow M3 g ks kt hex (by omega) fun kv' h' T0' g' ks' M4 => ?_
      exact q4 hD hn hn2 (by omega) g' ks' hex M4 hok hbad
  ·refine ⟨.ok (joinN 4 l, j), fun hh => absurd hh hst, fun _ => rfl, ⟨Nat.le_refl _, hi⟩, ?_⟩
   intro n D f b r0 S h0 H kc kv T0 T1 z k12 Q hD hn hn2 hf g ks hex M hok hbad
   obtain ⟨D, rfl⟩ : ∃ D', D = D' + 8 := ⟨D - 8, by omega⟩
   cases f with
   | zero => omega
   | succ f =>
    rw [pattern_reader_alternatives_L0_s]
    unfold pattern_reader_alternatives_L0b
    have hs1 := skips_r (n := n) (d := D + 5) M.at0.1 M.at0.2.1 hi hu 124
    rw [if_neg hst, decide_eq_false hst] at hs1
    refine Wp.rdN hs1 M fun h1 M1 => ?_
    repeat (first | ((with_reducible apply Wp.obind); (with_reducible exact avBool_bool _)) | ((with_reducible refine Wp.iff ?_ ?_); (with_reducible rfl)))
    exact hok l j kc kv T0 T1 h1 hne rfl g ks M1
theorem alt_ok (hu : u.length ≤ 1000000) (ih : RowOk u m) : AltOk u m := by
 intro i hi hm
 obtain ⟨r, r1, r2, r3⟩ := ih i hi hm
 cases r with
 | error e =>
  refine ⟨.error e, .bad r1, r2, ?_⟩
  intro n D b h hD hn hn2 k0 hb hx
  obtain ⟨D, rfl⟩ : ∃ D', D = D' + 9 := ⟨D - 9, by omega⟩
  refine StepN.err_of ?_
  rw [w_pattern_reader_alternatives]
  unfold pattern_reader_alternatives
  refine Wp.mnew (Mem.one k0 hb) fun h1 Mx => ?_
  have M1 := Mx.swap
  have hs := r3 (n := n) (D := D + 8) (by omega) hn hn2 M1.at0.1 M1.at0.2.1 (by rw [M1.ex]; exact hx)
  exact Wp.nodeE hs M1 fun h' p k1 t1 => ⟨rfl, p, k1, t1⟩
 | ok tj =>
  obtain ⟨t, j⟩ := tj
  obtain ⟨b1, b2⟩ := r2
  obtain ⟨r, q1, q2, q3, q4⟩ := alt_loop hu ih (u.length + 1) j [t] b2 (by omega) (by omega) (by simp) (by simp)
  refine ⟨r, ?_, ?_, ?_⟩
  ·by_cases h2 : at? u j = some 124
   ·exact .more (l := []) r1 h2 (q1 h2)
   ·rw [q2 h2]
    exact .last (l := []) r1 h2
  ·cases r with
   | error e => exact q3
   | ok tj2 =>
    obtain ⟨a1, a2⟩ := q3
    exact ⟨by omega, a2⟩
  intro n D b h hD hn hn2 k0 hb hx
  obtain ⟨D, rfl⟩ : ∃ D', D = D' + 9 := ⟨D - 9, by omega⟩
  refine StepN.of_main fun Q o1 o2 => ?_
  rw [w_pattern_reader_alternatives]
  unfold pattern_reader_alternatives
  refine Wp.mnew (Mem.one k0 hb) fun h1 Mx => ?_
  have M1 := Mx.swap
  have hs := r3 (n := n) (D := D + 8) (by omega) hn hn2 M1.at0.1 M1.at0.2.1 (by rw [M1.ex]; exact hx)
  refine Wp.nodeK hs M1 fun c T h2 kt M3 => ?_
  (((with_reducible apply Wp.obind); (with_reducible exact avAgg_agg _)))
  refine Wp.mnews M3 (kt.bld h2) kt.one hx fun h3 M4 => ?_
  ((with_reducible refine Wp.join1 (fun _ _ => ?_)))
  rename_i k12 ek12
  have M5 : Mem [b] h h3 ((b, TRd, rdP u j) :: (h.next, TNode, [.int .i64 0, .int .u64 0, .int .u64 0, .int .u64 0, .int .u64 0, .nsl]) :: ([(h2.next, TNode, c)] ++ (T ++ []))) := M4.perm (by
   rw [List.append_nil]
   exact List.perm_append_comm_assoc [_, _] [_] T)
  refine q4 (r0 := h.next) (by omega) hn hn2 (by omega) (grow_one c h2.next kt.len kt.one) (KidsT.cons kt .nil) hx M5 ?_ o2
  intro l' j' kc kv T0 T1 H' hne hr g ks M6
  refine Wp.go1 ek12 ?_
  have hlen := g.len
  have hkl := ks.len
  match l', hne, hr, ks, hkl with
  | [t'], _, hr, ks, hkl =>
   obtain ⟨c', rfl, kt'⟩ := ks.one
   obtain ⟨q, rfl, rfl⟩ := grow_single g
   have ei : idxP 6 (.sl q 0 1 6) 0 = some (.ptr q 0) := idx0 q 0
   have hl1 : lenL (.sl q 0 1 6) = some 1 := rfl
   repeat (first | (with_reducible refine Wp.lett ?_) | ((with_reducible apply Wp.obind); (with_reducible first | exact hl1 | exact ei)) | ((with_reducible refine Wp.ift ?_ ?_); ((with_reducible apply beq_t); omega)) | rw [newP_eq])
   refine Wp.obind (RowH.ldAll (Mem.at (xs := [_, _]) M6).1 kt'.len) ?_
   refine (fin_node (mem_mid (xs := [_, _]) (T0 := [_]) M6) rfl kt').mono ?_
   rintro _ h3 ⟨c3, T3, rfl, kt3, M7⟩
   exact o1 _ _ _ _ _ hr kt3 M7
  | t1 :: t2 :: ts, _, hr, ks, hkl =>
   simp only [List.length_cons] at hkl
   have hl := nodeC_len (kv := kv) (op := 4) zeroW_ok
   have ho := nodeC_one (op := 4) (w := zeroW) g.one.1
   obtain ⟨h4, e4, t4⟩ := over_r (n := n) (d := D + 7) (h := H') g 4
   have kt4 : NodeT (joinN 4 (t1 :: t2 :: ts)) (nodeC 4 zeroW kv) (T0 ++ T1) := NodeT.mk zeroW_ok g ks
   have e5 : world n (D + 8) 76 [.int .i64 4, kv] H' = some (.ret (.agg (nodeC 4 zeroW kv)), h4) := e4
   repeat (first | (with_reducible refine Wp.lett ?_) | ((with_reducible apply Wp.obind); (with_reducible first | exact hlen | exact avAgg_agg _)) | ((with_reducible refine Wp.iff ?_ ?_); ((with_reducible apply beq_f); omega)) | ((with_reducible apply Wp.callN); (with_reducible exact e5)) | rw [newP_eq])
   refine (fin_node (M6.keep t4) rfl kt4).mono ?_
   rintro _ h3 ⟨c3, T3, rfl, kt3, M7⟩
   exact o1 _ _ _ _ _ hr kt3 M7
theorem alts_ok (hu : u.length ≤ 1000000) : ∀ m, AltOk u m
 | 0 => alt_ok hu (row_ok hu (part_ok hu (atom_ok hu fun m' hm => by omega)))
 | m + 1 => alt_ok hu (row_ok hu (part_ok hu (atom_ok hu fun m' hm => by
   obtain rfl : m = m' := by omega
   exact alts_ok hu m)))
end
def partL (u : Bytes) (i : Nat) : Res := match at? u i with
 | none => .error i
 | some c => .ok (oneN c, i + 1)
def partG (u : Bytes) (i : Nat) : Res := match at? u i with
 | none => .error i
 | some c => if c = 42 then .ok (overN 5 [anyN], i + 1) else if c = 63 then .ok (anyN, i + 1) else if c = 92 then (match at? u (i + 1) with
   | none => .error (i + 1)
   | some e => .ok (oneN e, i + 2))
  else .ok (oneN c, i + 1)
inductive FlatP (F : Nat → Res) (u : Bytes) : List Nd → Nat → Res → Prop
 | stop {l : List Nd} {i : Nat} (s : u.length ≤ i) : FlatP F u l i (.ok (joinN 3 l, i))
 | bad {l : List Nd} {i q : Nat} (s : i < u.length) (h : F i = .error q) : FlatP F u l i (.error q)
 | more {l : List Nd} {i j : Nat} {t : Nd} {r : Res} (s : i < u.length) (h : F i = .ok (t, j)) (m : FlatP F u (l ++ [t]) j r) : FlatP F u l i r
def PartF (u : Bytes) (fid : Nat) (F : Nat → Res) : Prop := (∀ i, i ≤ u.length → Bnd1 u i (F i)) ∧
 ∀ {n D b i : Nat} {h : AHeap}, 4 ≤ D → 300 < n → i ≤ u.length → Rd h b u i → b < h.next → memB TNode h.ex = false → StepN b u h (world n D fid [.ptr b 0] h) (F i)
theorem dynL (call : CallF) (b : Nat) (h : AHeap) : dynC Try.prog call (AV.fn 63 [.ptr b 0] []) [] h = call 63 [.ptr b 0] h := by
 have e : callV Try.prog h [] (some (AV.fn 63 [.ptr b 0] [])) = some (.call 63 [.ptr b 0], h) := by kernel_rfl
 unfold dynC
 rw [e]
theorem dynG (call : CallF) (b : Nat) (h : AHeap) : dynC Try.prog call (AV.fn 60 [.ptr b 0] []) [] h = call 60 [.ptr b 0] h := by
 have e : callV Try.prog h [] (some (AV.fn 60 [.ptr b 0] [])) = some (.call 60 [.ptr b 0], h) := by kernel_rfl
 unfold dynC
 rw [e]
section
variable {n d b p q i m : Nat} {h h0 : AHeap} {u : Bytes} {Q : ARes → AHeap → Prop} {S : List Nat} {xs rs T T0 T1 : List RowT} {w : List Nat} {x : R} {t : Nd} {c : List AV} {v kv : AV} {l : List Nd} {kc : List (List AV)}
theorem partL_f (hu : u.length ≤ 1000000) : PartF u 63 (partL u) := by
 refine ⟨fun i hi => ?_, ?_⟩
 ·unfold partL
  cases hc : at? u i with
  | none => exact hi
  | some c =>
   obtain ⟨hp, _⟩ := at?_some hc
   exact ⟨by omega, by omega⟩
 intro n D b i h hD hn hi k0 hb hx
 obtain ⟨D, rfl⟩ : ∃ D', D = D' + 4 := ⟨D - 4, by omega⟩
 unfold partL
 cases hc : at? u i with
 | none =>
  refine StepN.err_of ?_
  rw [w_pattern_reader_literalPart]
  unfold pattern_reader_literalPart
  refine Wp.mnew (Mem.one k0 hb) fun h1 Mx => ?_
  have M1 := Mx.swap
  have hs := next_r (n := n) (d := D + 1) M1.at0.1 M1.at0.2.1 hi hu
  rw [hc] at hs
  exact Wp.rdE hs M1 fun h' p k1 t1 => ⟨rfl, p, k1, t1⟩
 | some c =>
  have h256 := at?_256 hc
  refine StepN.ok_of ?_
  rw [w_pattern_reader_literalPart]
  unfold pattern_reader_literalPart
  refine Wp.mnew (Mem.one k0 hb) fun h1 Mx => ?_
  have M1 := Mx.swap
  have hs := next_r (n := n) (d := D + 1) M1.at0.1 M1.at0.2.1 hi hu
  rw [hc] at hs
  refine Wp.rdK hs M1 fun h2 M2 => ?_
  repeat (first | ((with_reducible apply Wp.obind); (with_reducible first | exact avInt_int _ _ | exact avAgg_agg _)) | ((with_reducible apply Wp.callN); (with_reducible exact oneByte_w (d := D + 1) hn h256)) | rw [newP_eq])
  exact fin_node M2 rfl (NodeT.leaf 2 (spanW_ok 1 zeroW_ok c))
theorem partG_f (hu : u.length ≤ 1000000) : PartF u 60 (partG u) := by
 refine ⟨fun i hi => ?_, ?_⟩
 ·unfold partG
  cases hc : at? u i with
  | none => exact hi
  | some c =>
   obtain ⟨hp, _⟩ := at?_some hc
   dsimp only
   split
   ·exact ⟨by omega, by omega⟩
   ·split
    ·exact ⟨by omega, by omega⟩
    ·split
     ·cases he : at? u (i + 1) with
      | none => exact (by omega : i + 1 ≤ u.length)
      | some e =>
       obtain ⟨hp2, _⟩ := at?_some he
       exact ⟨by omega, by omega⟩
     ·exact ⟨by omega, by omega⟩
 intro n D b i h hD hn hi k0 hb hx
 obtain ⟨D, rfl⟩ : ∃ D', D = D' + 4 := ⟨D - 4, by omega⟩
 unfold partG
 cases hc : at? u i with
 | none =>
  refine StepN.err_of ?_
  rw [w_pattern_reader_globPart]
  unfold pattern_reader_globPart
  refine Wp.mnew (Mem.one k0 hb) fun h1 Mx => ?_
  have M1 := Mx.swap
  have hs := next_r (n := n) (d := D + 1) M1.at0.1 M1.at0.2.1 hi hu
  rw [hc] at hs
  exact Wp.rdE hs M1 fun h' p k1 t1 => ⟨rfl, p, k1, t1⟩
 | some c =>
  obtain ⟨hp, _⟩ := at?_some hc
  have h256 := at?_256 hc
  dsimp only
  by_cases h42 : c = 42
  ·rw [if_pos h42]
   refine StepN.ok_of ?_
   rw [w_pattern_reader_globPart]
   unfold pattern_reader_globPart
   refine Wp.mnew (Mem.one k0 hb) fun h1 Mx => ?_
   have M1 := Mx.swap
   have hs := next_r (n := n) (d := D + 1) M1.at0.1 M1.at0.2.1 hi hu
   rw [hc] at hs
   refine Wp.rdK hs M1 fun h2 M2 => ?_
   have kt : NodeT anyN (nodeC 2 anyW .nsl) [] := NodeT.leaf 2 anyW_ok
   repeat (first | (with_reducible refine Wp.lett ?_) | ((with_reducible apply Wp.obind); (with_reducible first | exact avInt_int _ _ | exact avAgg_agg _)) | ((with_reducible refine Wp.ift ?_ ?_); ((with_reducible apply beq_t); omega)) | ((with_reducible apply Wp.callN); (with_reducible exact anyByte_w (d := D + 1) hn)) | rw [newP_eq])
   refine Wp.mnews M2 (kt.bld h2) kt.one hx fun h3 M3 => ?_
   obtain ⟨h4, e4, t4⟩ := over_r (n := n) (d := D + 2) (h := h3) (grow_one _ h2.next kt.len kt.one) 5
   refine Wp.callN e4 ?_
   have M4 := M3.keep t4
   refine Wp.obind (avAgg_agg _) ?_
   have M5 : Mem [b] h h4 ((b, TRd, rdP u (i + 1)) :: (h.next, TNode, [.int .i64 0, .int .u64 0, .int .u64 0, .int .u64 0, .int .u64 0, .nsl]) :: ([(h2.next, TNode, nodeC 2 anyW .nsl)] ++ ([] ++ []))) := M4.perm (List.perm_append_comm (l₁ := [_, _]) (l₂ := [_]))
   exact fin_node M5 rfl (signed kt 5 h2.next)
  rw [if_neg h42]
  by_cases h63 : c = 63
  ·rw [if_pos h63]
   refine StepN.ok_of ?_
   rw [w_pattern_reader_globPart]
   unfold pattern_reader_globPart
   refine Wp.mnew (Mem.one k0 hb) fun h1 Mx => ?_
   have M1 := Mx.swap
   have hs := next_r (n := n) (d := D + 1) M1.at0.1 M1.at0.2.1 hi hu
   rw [hc] at hs
   refine Wp.rdK hs M1 fun h2 M2 => ?_
   repeat (first | (with_reducible refine Wp.lett ?_) | ((with_reducible apply Wp.obind); (with_reducible first | exact avInt_int _ _ | exact avAgg_agg _)) | ((with_reducible refine Wp.ift ?_ ?_); ((with_reducible apply beq_t); omega)) | ((with_reducible refine Wp.iff ?_ ?_); ((with_reducible apply beq_f); omega)) | ((with_reducible apply Wp.callN); (with_reducible exact anyByte_w (d := D + 1) hn)) | rw [newP_eq])
   exact fin_node M2 rfl (NodeT.leaf 2 anyW_ok)
  rw [if_neg h63]
  by_cases h92 : c = 92
  ·rw [if_pos h92]
   cases he : at? u (i + 1) with
   | none =>
    refine StepN.err_of ?_
    rw [w_pattern_reader_globPart]
    unfold pattern_reader_globPart
    refine Wp.mnew (Mem.one k0 hb) fun h1 Mx => ?_
    have M1 := Mx.swap
    have hs := next_r (n := n) (d := D + 1) M1.at0.1 M1.at0.2.1 hi hu
    rw [hc] at hs
    refine Wp.rdK hs M1 fun h2 M2 => ?_
    have hs2 := next_r (n := n) (d := D + 1) M2.at0.1 M2.at0.2.1 (by omega) hu
    rw [he] at hs2
    repeat (first | (with_reducible refine Wp.lett ?_) | ((with_reducible apply Wp.obind); (with_reducible exact avInt_int _ _)) | ((with_reducible refine Wp.ift ?_ ?_); ((with_reducible apply beq_t); omega)) | ((with_reducible refine Wp.iff ?_ ?_); ((with_reducible apply beq_f); omega)) | rw [newP_eq])
    exact Wp.rdE hs2 M2 fun h' p k1 t1 => ⟨rfl, p, k1, t1⟩
   | some e =>
    refine StepN.ok_of ?_
    rw [w_pattern_reader_globPart]
    unfold pattern_reader_globPart
    refine Wp.mnew (Mem.one k0 hb) fun h1 Mx => ?_
    have M1 := Mx.swap
    have hs := next_r (n := n) (d := D + 1) M1.at0.1 M1.at0.2.1 hi hu
    rw [hc] at hs
    refine Wp.rdK hs M1 fun h2 M2 => ?_
    have hs2 := next_r (n := n) (d := D + 1) M2.at0.1 M2.at0.2.1 (by omega) hu
    rw [he] at hs2
    repeat (first | (with_reducible refine Wp.lett ?_) | ((with_reducible apply Wp.obind); (with_reducible exact avInt_int _ _)) | ((with_reducible refine Wp.ift ?_ ?_); ((with_reducible apply beq_t); omega)) | ((with_reducible refine Wp.iff ?_ ?_); ((with_reducible apply beq_f); omega)) | rw [newP_eq])
    refine Wp.rdK hs2 M2 fun h3 M3 => ?_
    repeat (first | ((with_reducible apply Wp.obind); (with_reducible first | exact avInt_int _ _ | exact avAgg_agg _)) | ((with_reducible apply Wp.callN); (with_reducible exact oneByte_w (d := D + 1) hn (at?_256 he))))
    exact fin_node M3 rfl (NodeT.leaf 2 (spanW_ok 1 zeroW_ok e))
  rw [if_neg h92]
  refine StepN.ok_of ?_
  rw [w_pattern_reader_globPart]
  unfold pattern_reader_globPart
  refine Wp.mnew (Mem.one k0 hb) fun h1 Mx => ?_
  have M1 := Mx.swap
  have hs := next_r (n := n) (d := D + 1) M1.at0.1 M1.at0.2.1 hi hu
  rw [hc] at hs
  refine Wp.rdK hs M1 fun h2 M2 => ?_
  repeat (first | (with_reducible refine Wp.lett ?_) | ((with_reducible apply Wp.obind); (with_reducible first | exact avInt_int _ _ | exact avAgg_agg _)) | ((with_reducible refine Wp.iff ?_ ?_); ((with_reducible apply beq_f); omega)) | ((with_reducible apply Wp.callN); (with_reducible exact oneByte_w (d := D + 1) hn h256)) | rw [newP_eq])
  exact fin_node M2 rfl (NodeT.leaf 2 (spanW_ok 1 zeroW_ok c))
theorem flat_loop {fid : Nat} {F : Nat → Res} (hu : u.length ≤ 1000000) (hF : PartF u fid F) (hdyn : ∀ (call : CallF) (b : Nat) (h : AHeap), dynC Try.prog call (AV.fn fid [.ptr b 0] []) [] h = call fid [.ptr b 0] h) : ∀ (k i : Nat) (l : List Nd), i ≤ u.length → u.length - i < k → l.length ≤ i → ∃ r, FlatP F u l i r ∧ Bnd u i r ∧
   ∀ {n D f b r0 : Nat} {S : List Nat} {h0 H : AHeap} {kc : List (List AV)} {kv : AV} {T0 T1 : List RowT} {z : List AV} {k7 : AV → AHeap → R} {Q : ARes → AHeap → Prop}, 4 ≤ D → 300 < n → u.length - i < f → GrowT TNode 6 kc kv T0 → KidsT l kc T1 → memB TNode h0.ex = false →
    Mem S h0 H ((b, TRd, rdP u i) :: (r0, TNode, z) :: (T0 ++ T1)) →
    (∀ l' j kc kv T0 T1 H', r = .ok (joinN 3 l', j) → GrowT TNode 6 kc kv T0 → KidsT l' kc T1 → Mem S h0 H' ((b, TRd, rdP u j) :: (r0, TNode, z) :: (T0 ++ T1)) → Wp (k7 kv H') Q) →
    (∀ e p H', r = .error e → Rd H' b u p → Tch S h0 H' → Q (.panic (PanA 6 e)) H') →
    Wp (pattern_reader_row_L0 (world n D) (.ptr b 0) (AV.fn fid [.ptr b 0] []) k7 f kv H) Q
 | 0, _, _, _, hk, _ => by omega
 | k + 1, i, l, hi, hk, hli => by
  by_cases hst : u.length ≤ i
  ·refine ⟨_, .stop hst, ⟨Nat.le_refl _, hi⟩, ?_⟩
   intro n D f b r0 S h0 H kc kv T0 T1 z k7 Q hD hn hf g ks hex M hok hbad
   obtain ⟨D, rfl⟩ : ∃ D', D = D' + 4 := ⟨D - 4, by omega⟩
   cases f with
   | zero => omega
   | succ f =>
    have he := ended_r (n := n) (d := D + 3) M.at0.1
    have hfin := hok l i kc kv T0 T1 H rfl g ks M
    rw [pattern_reader_row_L0_s]
    unfold pattern_reader_row_L0b
    rw [decide_eq_true (by omega)] at he
    repeat (first | (with_reducible refine Wp.lett ?_) | ((with_reducible apply Wp.obind); (with_reducible exact avBool_bool _)) | ((with_reducible refine Wp.iff ?_ ?_); (with_reducible exact Bool.not_true)) | ((with_reducible apply Wp.callN); (with_reducible assumption)))
    exact hfin
  ·have hb1 := hF.1 i hi
   cases hr : F i with
   | error e =>
    rw [hr] at hb1
    refine ⟨_, .bad (by omega) hr, hb1, ?_⟩
    intro n D f b r0 S h0 H kc kv T0 T1 z k7 Q hD hn hf g ks hex M hok hbad
    obtain ⟨D, rfl⟩ : ∃ D', D = D' + 4 := ⟨D - 4, by omega⟩
    cases f with
    | zero => omega
    | succ f =>
     have he := ended_r (n := n) (d := D + 3) M.at0.1
     rw [decide_eq_false (by omega)] at he
     have hs := hF.2 (n := n) (D := D + 4) (by omega) hn hi M.at0.1 M.at0.2.1 (by rw [M.ex]; exact hex)
     rw [hr] at hs
     rw [pattern_reader_row_L0_s]
     unfold pattern_reader_row_L0b
     repeat (first | (with_reducible refine Wp.lett ?_) | ((with_reducible apply Wp.obind); (with_reducible exact avBool_bool _)) | ((with_reducible refine Wp.ift ?_ ?_); (with_reducible exact Bool.not_false)) | ((with_reducible first | apply Wp.callN | apply Wp.callK); (with_reducible assumption)))
     rw [hdyn]
     exact Wp.nodeE hs M fun h' p k1 t1 => hbad e p h' rfl k1 t1
   | ok tj =>
    obtain ⟨t, j⟩ := tj
    rw [hr] at hb1
    obtain ⟨b1, b2⟩ := hb1
    obtain ⟨r, q1, q2, q3⟩ := flat_loop hu hF hdyn k j (l ++ [t]) b2 (by omega) (by simp; omega)
    refine ⟨r, .more (by omega) hr q1, ?_, ?_⟩
    ·cases r with
     | error e => exact q2
     | ok tj2 =>
      obtain ⟨a1, a2⟩ := q2
      exact ⟨by omega, a2⟩
    ·intro n D f b r0 S h0 H kc kv T0 T1 z k7 Q hD hn hf g ks hex M hok hbad
     obtain ⟨D, rfl⟩ : ∃ D', D = D' + 4 := ⟨D - 4, by omega⟩
     cases f with
     | zero => omega
     | succ f =>
      have he := ended_r (n := n) (d := D + 3) M.at0.1
      rw [decide_eq_false (by omega)] at he
      have hs := hF.2 (n := n) (D := D + 4) (by omega) hn hi M.at0.1 M.at0.2.1 (by rw [M.ex]; exact hex)
      rw [hr] at hs
      rw [pattern_reader_row_L0_s]
      unfold pattern_reader_row_L0b
      repeat (first | (with_reducible refine Wp.lett ?_) | ((with_reducible apply Wp.obind); (with_reducible exact avBool_bool _)) | ((with_reducible refine Wp.ift ?_ ?_); (with_reducible exact Bool.not_false)) | ((with_reducible first | apply Wp.callN | apply Wp.callK); (with_reducible assumption)))
      rw [hdyn]
      refine Wp.nodeK hs M fun c T h2 kt M3 => ?_
      (((with_reducible apply Wp.obind); (with_reducible exact avAgg_agg _)))
      refine Wp.nodeGrow M3 g ks kt hex (by omega) fun kv' h' T0' g' ks' M4 => ?_
      exact q3 hD hn (by omega) g' ks' hex M4 hok hbad
theorem flat_ok {fid : Nat} {F : Nat → Res} (hu : u.length ≤ 1000000) (hF : PartF u fid F) (hdyn : ∀ (call : CallF) (b : Nat) (h : AHeap), dynC Try.prog call (AV.fn fid [.ptr b 0] []) [] h = call fid [.ptr b 0] h) : ∃ r, FlatP F u [] 0 r ∧ Bnd u 0 r ∧
  ∀ {n D b : Nat} {h : AHeap}, 5 ≤ D → 300 < n → u.length < n → Rd h b u 0 → b < h.next → memB TNode h.ex = false → StepN b u h (world n D 59 [.ptr b 0, AV.fn fid [.ptr b 0] []] h) r := by
 obtain ⟨r, r1, r2, r3⟩ := flat_loop hu hF hdyn (u.length + 1) 0 [] (Nat.zero_le _) (by omega) (Nat.le_refl _)
 refine ⟨r, r1, r2, ?_⟩
 intro n D b h hD hn hn2 k0 hb hx
 obtain ⟨D, rfl⟩ : ∃ D', D = D' + 5 := ⟨D - 5, by omega⟩
 refine StepN.of_main fun Q q1 q2 => ?_
 rw [w_pattern_reader_row]
 unfold pattern_reader_row
 refine Wp.mnew (Mem.one k0 hb) fun h1 Mx => ?_
 rw [newP_eq]
 have M1 := Mx.swap
 ((with_reducible refine Wp.join1 (fun _ _ => ?_)))
 rename_i k7 ek7
 refine r3 (r0 := h.next) (by omega) hn (by omega) (GrowT.nil _ _) .nil hx M1 ?_ q2
 intro l' j kc kv T0 T1 H' hr g ks M2
 refine Wp.go1 ek7 ?_
 obtain ⟨c, T, h2, e2, kt, M3⟩ := inRow_r (n := n) (d := D + 2) (xs := [_, _]) M2 g ks
 repeat (first | ((with_reducible apply Wp.obind); (with_reducible exact avAgg_agg _)) | ((with_reducible apply Wp.callN); (with_reducible assumption)))
 refine (fin_node M3 rfl kt).mono ?_
 rintro _ h3 ⟨c3, T3, rfl, kt3, M4⟩
 exact q1 _ _ _ _ _ hr kt3 M4
end
def dropJ : Res → Except Nat Nd
 | .ok (t, _) => .ok t
 | .error q => .error q
inductive TreeP (u : Bytes) : Int → Except Nat Nd → Prop
 | lit {r : Res} (h : FlatP (partL u) u [] 0 r) : TreeP u 1 (dropJ r)
 | glob {r : Res} (h : FlatP (partG u) u [] 0 r) : TreeP u 2 (dropJ r)
 | re_bad {q : Nat} (h : AltP u [] 0 (.error q)) : TreeP u 3 (.error q)
 | re_end {t : Nd} {j : Nat} (h : AltP u [] 0 (.ok (t, j))) (n : j ≠ u.length) : TreeP u 3 (.error j)
 | re {t : Nd} (h : AltP u [] 0 (.ok (t, u.length))) : TreeP u 3 (.ok t)
def StepT (b : Nat) (u : Bytes) (h : AHeap) (x : R) : Except Nat Nd → Prop
 | .ok t => ∃ c T h' p, x = some (.ret (.agg c), h') ∧ NodeT t c T ∧ Mem [b] h h' ((b, TRd, rdP u p) :: T)
 | .error q => ∃ h' p, x = some (.panic (PanA 6 q), h') ∧ Rd h' b u p ∧ Tch [b] h h'
section
variable {n d b p q i m : Nat} {h h0 : AHeap} {u : Bytes} {Q : ARes → AHeap → Prop} {S : List Nat} {xs rs T T0 T1 : List RowT} {w : List Nat} {x : R} {t : Nd} {c : List AV} {v kv : AV} {l : List Nd} {kc : List (List AV)}
theorem StepT.ok_of (kk : Wp x fun r h' => ∃ c T p, r = .ret (.agg c) ∧ NodeT t c T ∧ Mem [b] h h' ((b, TRd, rdP u p) :: T)) : StepT b u h x (.ok t) := by
 obtain ⟨_, h', e, c, T, p, rfl, k1, k2⟩ := kk
 exact ⟨c, T, h', p, e, k1, k2⟩
theorem StepT.err_of (kk : Wp x fun r h' => r = .panic (PanA 6 q) ∧ ∃ p, Rd h' b u p ∧ Tch [b] h h') : StepT b u h x (.error q) := by
 obtain ⟨_, h', e, rfl, p, k1, k2⟩ := kk
 exact ⟨h', p, e, k1, k2⟩
theorem end_r (k : Rd h b u p) (hp : p = u.length) : world n (d + 2) 62 [.ptr b 0] h = some (.ret (.tup []), h) := by
 have he := ended_r (n := n) (d := d) k
 rw [decide_eq_true hp] at he
 apply Wp.eq
 rw [w_pattern_reader_end]
 unfold pattern_reader_end
 repeat (first | (with_reducible refine Wp.join0 (fun _ _ => ?_)) | (with_reducible refine Wp.lett ?_) | ((with_reducible apply Wp.obind); (with_reducible exact avBool_bool _)) | ((with_reducible refine Wp.iff ?_ ?_); (with_reducible exact Bool.not_true)) | ((with_reducible apply Wp.callN); (with_reducible assumption)) | (with_reducible refine Wp.go0 (by assumption) ?_))
 exact Wp.ret ⟨rfl, rfl⟩
theorem end_bad (k : Rd h b u p) (hp : p ≠ u.length) : world n (d + 2) 62 [.ptr b 0] h = some (.panic (PanA 6 p), h) := by
 have he := ended_r (n := n) (d := d) k
 rw [decide_eq_false hp] at he
 apply Wp.eq
 rw [w_pattern_reader_end]
 unfold pattern_reader_end
 have hr := refuse_r (n := n) (d := d) (h := h) 6 p
 have k0 : RowH h b 70 [strA u, .int .i64 (p : Int)] := k
 clear k
 repeat (first | (with_reducible refine Wp.join0 (fun _ _ => ?_)) | (with_reducible refine Wp.lett ?_) | ((with_reducible apply Wp.obind); first | (with_reducible first | exact avInt_int _ _ | exact avBool_bool _ | exact nilC_ptr _ _ | exact fldP_ptr _ _ _) | ((with_reducible apply RowH.cell'); (with_reducible assumption); rfl)) | ((with_reducible refine Wp.ift ?_ ?_); (with_reducible exact Bool.not_false)) | ((with_reducible first | apply Wp.callN | apply Wp.callK); (with_reducible assumption)))
 exact Wp.callP hr ⟨rfl, rfl⟩
theorem tree_r (hu : u.length ≤ 1000000) (kind : Int) (hk : kind = 1 ∨ kind = 2 ∨ kind = 3) : ∃ r, TreeP u kind r ∧ (∀ q, r = .error q → q ≤ u.length) ∧
  ∀ {n D b : Nat} {h : AHeap}, 4 * u.length + 12 ≤ D → 300 < n → u.length + 5 < n → Rd h b u 0 → b < h.next → memB TNode h.ex = false → StepT b u h (world n D 40 [.ptr b 0, .int .i64 kind] h) r := by
 rcases hk with rfl | rfl | rfl
 ·obtain ⟨r, r1, r2, r3⟩ := flat_ok hu (partL_f hu) dynL
  refine ⟨_, .lit r1, ?_, ?_⟩
  ·intro q hh
   cases r with
   | error e =>
    cases hh
    exact r2
   | ok tj => cases hh
  ·intro n D b h hD hn hn2 k0 hb hx
   obtain ⟨D, rfl⟩ : ∃ D', D = D' + 6 := ⟨D - 6, by omega⟩
   cases r with
   | error e =>
    refine StepT.err_of ?_
    rw [w_pattern_reader_tree]
    unfold pattern_reader_tree
    refine Wp.mnew (Mem.one k0 hb) fun h1 Mx => ?_
    have M1 := Mx.swap
    have hs := r3 (n := n) (D := D + 5) (by omega) hn (by omega) M1.at0.1 M1.at0.2.1 (by rw [M1.ex]; exact hx)
    repeat (first | (with_reducible refine Wp.lett ?_) | ((with_reducible refine Wp.iff ?_ ?_); ((with_reducible apply beq_f); omega)) | rw [newP_eq])
    exact Wp.nodeE hs M1 fun h' p k1 t1 => ⟨rfl, p, k1, t1⟩
   | ok tj =>
    obtain ⟨t, j⟩ := tj
    refine StepT.ok_of ?_
    rw [w_pattern_reader_tree]
    unfold pattern_reader_tree
    refine Wp.mnew (Mem.one k0 hb) fun h1 Mx => ?_
    have M1 := Mx.swap
    have hs := r3 (n := n) (D := D + 5) (by omega) hn (by omega) M1.at0.1 M1.at0.2.1 (by rw [M1.ex]; exact hx)
    repeat (first | (with_reducible refine Wp.lett ?_) | ((with_reducible refine Wp.iff ?_ ?_); ((with_reducible apply beq_f); omega)) | rw [newP_eq])
    refine Wp.nodeK hs M1 fun c T h2 kt M3 => ?_
    (((with_reducible apply Wp.obind); (with_reducible exact avAgg_agg _)))
    refine (fin_node M3 rfl kt).mono ?_
    rintro _ h3 ⟨c3, T3, rfl, kt3, M4⟩
    exact ⟨c3, T3, j, rfl, kt3, M4⟩
 ·obtain ⟨r, r1, r2, r3⟩ := flat_ok hu (partG_f hu) dynG
  refine ⟨_, .glob r1, ?_, ?_⟩
  ·intro q hh
   cases r with
   | error e =>
    cases hh
    exact r2
   | ok tj => cases hh
  ·intro n D b h hD hn hn2 k0 hb hx
   obtain ⟨D, rfl⟩ : ∃ D', D = D' + 6 := ⟨D - 6, by omega⟩
   cases r with
   | error e =>
    refine StepT.err_of ?_
    rw [w_pattern_reader_tree]
    unfold pattern_reader_tree
    refine Wp.mnew (Mem.one k0 hb) fun h1 Mx => ?_
    have M1 := Mx.swap
    have hs := r3 (n := n) (D := D + 5) (by omega) hn (by omega) M1.at0.1 M1.at0.2.1 (by rw [M1.ex]; exact hx)
    repeat (first | (with_reducible refine Wp.lett ?_) | ((with_reducible refine Wp.ift ?_ ?_); ((with_reducible apply beq_t); omega)) | rw [newP_eq])
    exact Wp.nodeE hs M1 fun h' p k1 t1 => ⟨rfl, p, k1, t1⟩
   | ok tj =>
    obtain ⟨t, j⟩ := tj
    refine StepT.ok_of ?_
    rw [w_pattern_reader_tree]
    unfold pattern_reader_tree
    refine Wp.mnew (Mem.one k0 hb) fun h1 Mx => ?_
    have M1 := Mx.swap
    have hs := r3 (n := n) (D := D + 5) (by omega) hn (by omega) M1.at0.1 M1.at0.2.1 (by rw [M1.ex]; exact hx)
    repeat (first | (with_reducible refine Wp.lett ?_) | ((with_reducible refine Wp.ift ?_ ?_); ((with_reducible apply beq_t); omega)) | rw [newP_eq])
    refine Wp.nodeK hs M1 fun c T h2 kt M3 => ?_
    (((with_reducible apply Wp.obind); (with_reducible exact avAgg_agg _)))
    refine (fin_node M3 rfl kt).mono ?_
    rintro _ h3 ⟨c3, T3, rfl, kt3, M4⟩
    exact ⟨c3, T3, j, rfl, kt3, M4⟩
 ·obtain ⟨r, r1, r2, r3⟩ := alts_ok hu u.length 0 (Nat.zero_le _) (by omega)
  cases r with
  | error e =>
   refine ⟨_, .re_bad r1, fun q hh => by cases hh; exact r2, ?_⟩
   intro n D b h hD hn hn2 k0 hb hx
   obtain ⟨D, rfl⟩ : ∃ D', D = D' + 6 := ⟨D - 6, by omega⟩
   refine StepT.err_of ?_
   rw [w_pattern_reader_tree]
   unfold pattern_reader_tree
   refine Wp.mnew (Mem.one k0 hb) fun h1 Mx => ?_
   have M1 := Mx.swap
   have hs := r3 (n := n) (D := D + 5) (by omega) hn hn2 M1.at0.1 M1.at0.2.1 (by rw [M1.ex]; exact hx)
   repeat (first | (with_reducible refine Wp.lett ?_) | ((with_reducible refine Wp.ift ?_ ?_); ((with_reducible apply beq_t); omega)) | ((with_reducible refine Wp.iff ?_ ?_); ((with_reducible apply beq_f); omega)) | rw [newP_eq])
   exact Wp.nodeE hs M1 fun h' p k1 t1 => ⟨rfl, p, k1, t1⟩
  | ok tj =>
   obtain ⟨t, j⟩ := tj
   by_cases hj : j = u.length
   ·subst hj
    refine ⟨_, .re r1, fun q hh => (by cases hh), ?_⟩
    intro n D b h hD hn hn2 k0 hb hx
    obtain ⟨D, rfl⟩ : ∃ D', D = D' + 6 := ⟨D - 6, by omega⟩
    refine StepT.ok_of ?_
    rw [w_pattern_reader_tree]
    unfold pattern_reader_tree
    refine Wp.mnew (Mem.one k0 hb) fun h1 Mx => ?_
    have M1 := Mx.swap
    have hs := r3 (n := n) (D := D + 5) (by omega) hn hn2 M1.at0.1 M1.at0.2.1 (by rw [M1.ex]; exact hx)
    repeat (first | (with_reducible refine Wp.lett ?_) | ((with_reducible refine Wp.ift ?_ ?_); ((with_reducible apply beq_t); omega)) | ((with_reducible refine Wp.iff ?_ ?_); ((with_reducible apply beq_f); omega)) | rw [newP_eq])
    refine Wp.nodeK hs M1 fun c T h2 kt M3 => ?_
    (((with_reducible apply Wp.obind); (with_reducible exact avAgg_agg _)))
    refine Wp.mnew M3 fun h3 M4 => ?_
    rw [newP_eq]
    refine Wp.sa0 M4 kt.len rfl kt.one fun h4 M5 => ?_
    have he := end_r (n := n) (d := D + 3) M5.at1.1 rfl
    refine Wp.callK he ?_
    refine Wp.lr0 M5 kt.len ?_
    refine (fin_node (mem_mid (xs := [_]) (T0 := [_]) M5.swap) rfl kt).mono ?_
    rintro _ h3 ⟨c3, T3, rfl, kt3, M6⟩
    exact ⟨c3, T3, _, rfl, kt3, M6⟩
   ·refine ⟨_, .re_end r1 hj, fun q hh => by cases hh; exact r2.2, ?_⟩
    intro n D b h hD hn hn2 k0 hb hx
    obtain ⟨D, rfl⟩ : ∃ D', D = D' + 6 := ⟨D - 6, by omega⟩
    refine StepT.err_of ?_
    rw [w_pattern_reader_tree]
    unfold pattern_reader_tree
    refine Wp.mnew (Mem.one k0 hb) fun h1 Mx => ?_
    have M1 := Mx.swap
    have hs := r3 (n := n) (D := D + 5) (by omega) hn hn2 M1.at0.1 M1.at0.2.1 (by rw [M1.ex]; exact hx)
    repeat (first | (with_reducible refine Wp.lett ?_) | ((with_reducible refine Wp.ift ?_ ?_); ((with_reducible apply beq_t); omega)) | ((with_reducible refine Wp.iff ?_ ?_); ((with_reducible apply beq_f); omega)) | rw [newP_eq])
    refine Wp.nodeK hs M1 fun c T h2 kt M3 => ?_
    (((with_reducible apply Wp.obind); (with_reducible exact avAgg_agg _)))
    refine Wp.mnew M3 fun h3 M4 => ?_
    rw [newP_eq]
    refine Wp.sa0 M4 kt.len rfl kt.one fun h4 M5 => ?_
    have he := end_bad (n := n) (d := D + 3) M5.at1.1 hj
    exact Wp.callP he ⟨rfl, _, M5.at1.1, M5.tch⟩
end
theorem callKd_eq_ret {x : R} {v : AV} {h : AHeap} {kp k : AV → AHeap → R} {Q : ARes → AHeap → Prop} (e : x = some (.ret v, h)) (hk : Wp (k v h) Q) : Wp (callKd x kp k) Q := by rw [e, callKd_ret]; exact hk
theorem callKd_eq_pan {x : R} {v : AV} {h : AHeap} {kp k : AV → AHeap → R} {Q : ARes → AHeap → Prop} (e : x = some (.panic v, h)) (hk : Wp (kp v h) Q) : Wp (callKd x kp k) Q := by rw [e, callKd_panic]; exact hk
theorem neqNil (h : AHeap) : opBin Try.prog h .neq 20 true (some .nifc) (some .nifc) = some (.val (.bool false), h) := by kernel_rfl
theorem neqPan (h : AHeap) (e : Int) (q : Nat) : opBin Try.prog h .neq 20 true (some (PanA e q)) (some .nifc) = some (.val (.bool true), h) := by kernel_rfl
theorem assertPan (h : AHeap) (e : Int) (q : Nat) : opAssert Try.prog h 91 true (some (PanA e q)) = some (.val (.tup [.agg [.int .i64 e, .int .i64 (q : Int)], .bool true]), h) := by kernel_rfl
abbrev TPtr : Nat := 68
abbrev TSpot : Nat := 27
section
variable {n d pc rd ft tx mo : Nat} {h h0 : AHeap} {u t : Bytes} {most : Int} {fc : List AV} {S : List Nat} {Q : ARes → AHeap → Prop} {ys : List RowT}
theorem recov_nil {call : CallF} {b : Nat} {H : AHeap} : pattern_guard_1_d call n (.ptr b 0) .nifc H = some (.ret (.tup []), H) := by
 apply Wp.eq
 unfold pattern_guard_1_d
 repeat (first | (with_reducible refine Wp.join0 (fun _ _ => ?_)) | ((with_reducible apply Wp.obind); (with_reducible exact avBool_bool _)) | ((with_reducible refine Wp.iff ?_ ?_); (with_reducible rfl)) | ((with_reducible apply Wp.outK); (with_reducible exact neqNil _)) | (with_reducible refine Wp.go0 (by assumption) ?_))
 exact Wp.ret ⟨rfl, rfl⟩
theorem recov_pan {call : CallF} {b : Nat} {H : AHeap} {l : List AV} (hl : l.length = 2) (Mx : Mem S h0 H ((b, TSpot, l) :: ys)) (e : Int) (q : Nat) : ∃ H', pattern_guard_1_d call n (.ptr b 0) (PanA e q) H = some (.ret (.tup []), H') ∧ Mem S h0 H' ((b, TSpot, [.int .i64 e, .int .i64 (q : Int)]) :: ys) := by
 apply Wp.ex
 unfold pattern_guard_1_d
 repeat (first | ((with_reducible apply Wp.obind); (with_reducible exact avBool_bool _)) | ((with_reducible apply Wp.lr0 Mx); rfl) | ((with_reducible apply Wp.sa0 Mx); rfl; rfl; (rfl); intro _ Mz; clear Mx; have Mx := Mz; clear Mz) | ((with_reducible apply Wp.mnew Mx); intro _ Mz; clear Mx; have Mx := Mz; clear Mz) | (with_reducible refine Wp.join0 (fun _ _ => ?_)) | (with_reducible refine Wp.lett ?_) | ((with_reducible apply Wp.obind); (with_reducible first | exact avAgg_agg _ | exact extT_0 _ _ | exact extT_1 _ _ _)) | ((with_reducible refine Wp.ift ?_ ?_); (with_reducible rfl)) | ((with_reducible refine Wp.iff ?_ ?_); (with_reducible exact Bool.not_true)) | ((with_reducible apply Wp.outK); (with_reducible first | exact neqPan _ _ _ | exact assertPan _ _ _)) | (with_reducible refine Wp.go0 (by assumption) ?_) | rw [newP_eq])
 refine Wp.sa1 Mx rfl hl rfl (fun h' M' => ?_)
 repeat ((with_reducible refine Wp.go0 (by assumption) ?_))
 exact Wp.ret ⟨rfl, M'.pop⟩
end
theorem dynT (call : CallF) (a b c : Nat) (h : AHeap) : dynC Try.prog call (AV.fn 39 [] [.ptr a 0, .ptr b 0, .ptr c 0]) [] h = call 39 [.ptr a 0, .ptr b 0, .ptr c 0] h := by
 have e : callV Try.prog h [] (some (AV.fn 39 [] [.ptr a 0, .ptr b 0, .ptr c 0])) = some (.call 39 [.ptr a 0, .ptr b 0, .ptr c 0], h) := by kernel_rfl
 unfold dynC
 rw [e]
section
variable {n D d b p q i m : Nat} {h h0 : AHeap} {u : Bytes} {Q : ARes → AHeap → Prop} {S : List Nat} {xs rs rs' T T0 T1 : List RowT} {w : List Nat} {x : R} {t : Nd} {c : List AV} {v kv fv : AV} {l : List Nd} {kc : List (List AV)}
noncomputable abbrev rowsT (pc rd sp nd pt p : Nat) (u : Bytes) (kind : Int) (c : List AV) : List RowT := [(pc, TPtr, [.ptr rd 0]), (rd, TRd, rdP u p), (sp, TSpot, [.int .i64 0, .int .i64 0]), (nd, TNode, c), (pt, 35, [.int .i64 kind, strA u])]
theorem t1_ok {pc rd sp nd pt : Nat} {kind : Int} {z : List AV} (hz : z.length = 6) (hs : ∀ (h : AHeap), Rd h rd u 0 → rd < h.next → memB TNode h.ex = false → StepT rd u h (world n D 40 [.ptr rd 0, .int .i64 kind] h) (.ok t)) (M : Mem S h0 h (rowsT pc rd sp nd pt 0 u kind z ++ xs)) (hx : memB TNode h0.ex = false) :
  ∃ c T h' p, world n (D + 1) 39 [.ptr pc 0, .ptr pt 0, .ptr nd 0] h = some (.ret (.tup []), h') ∧ NodeT t c T ∧ Mem S h0 h' (rowsT pc rd sp nd pt p u kind c ++ (xs ++ T)) := by
 have Mx : Mem S h0 h ((pc, TPtr, [.ptr rd 0]) :: (rd, TRd, rdP u 0) :: (sp, TSpot, [.int .i64 0, .int .i64 0]) :: (nd, TNode, z) :: (pt, 35, [.int .i64 kind, strA u]) :: xs) := M
 obtain ⟨c, T, h1, p, e1, kt, M1⟩ := hs h Mx.at1.1 Mx.at1.2.1 (by rw [Mx.ex]; exact hx)
 have M2 : Mem S h0 h1 ((rd, TRd, rdP u p) :: (pc, TPtr, [.ptr rd 0]) :: (sp, TSpot, [.int .i64 0, .int .i64 0]) :: (nd, TNode, z) :: (pt, 35, [.int .i64 kind, strA u]) :: (xs ++ T)) := Mem.frameT (xs := [_]) (ys := [_]) Mx.swap M1
 suffices hK : Wp (world n (D + 1) 39 [.ptr pc 0, .ptr pt 0, .ptr nd 0] h) fun r h' => r = .ret (.tup []) ∧ Mem S h0 h' (rowsT pc rd sp nd pt p u kind c ++ (xs ++ T)) by
  obtain ⟨_, h', e, rfl, M'⟩ := hK
  exact ⟨c, T, h', p, e, kt, M'⟩
 rw [w_pattern_Tree_1]
 unfold pattern_Tree_1
 repeat (first | ((with_reducible apply Wp.obind); (with_reducible first | exact avInt_int _ _ | exact fldP_ptr _ _ _)) | ((with_reducible apply Wp.ld0 Mx); rfl) | ((with_reducible apply Wp.ld4 Mx); rfl) | ((with_reducible apply Wp.obind); (with_reducible exact avAgg_agg _)) | ((with_reducible apply Wp.callK); (with_reducible assumption)))
 refine Wp.sa3 M2 kt.len hz kt.one fun h2 M3 => ?_
 exact Wp.ret ⟨rfl, M3.swap⟩
theorem t1_bad {pc rd sp nd pt : Nat} {kind : Int} {z : List AV} (hs : ∀ (h : AHeap), Rd h rd u 0 → rd < h.next → memB TNode h.ex = false → StepT rd u h (world n D 40 [.ptr rd 0, .int .i64 kind] h) (.error q)) (M : Mem S h0 h (rowsT pc rd sp nd pt 0 u kind z ++ xs)) (hx : memB TNode h0.ex = false) :
  ∃ h' p, world n (D + 1) 39 [.ptr pc 0, .ptr pt 0, .ptr nd 0] h = some (.panic (PanA 6 q), h') ∧ Mem S h0 h' (rowsT pc rd sp nd pt p u kind z ++ xs) := by
 have Mx : Mem S h0 h ((pc, TPtr, [.ptr rd 0]) :: (rd, TRd, rdP u 0) :: (sp, TSpot, [.int .i64 0, .int .i64 0]) :: (nd, TNode, z) :: (pt, 35, [.int .i64 kind, strA u]) :: xs) := M
 obtain ⟨h1, p, e1, k1, t1⟩ := hs h Mx.at1.1 Mx.at1.2.1 (by rw [Mx.ex]; exact hx)
 suffices hK : Wp (world n (D + 1) 39 [.ptr pc 0, .ptr pt 0, .ptr nd 0] h) fun r h' => r = .panic (PanA 6 q) ∧ Mem S h0 h' (rowsT pc rd sp nd pt p u kind z ++ xs) by
  obtain ⟨_, h', e, rfl, M'⟩ := hK
  exact ⟨h', p, e, M'⟩
 rw [w_pattern_Tree_1]
 unfold pattern_Tree_1
 repeat (first | ((with_reducible apply Wp.obind); (with_reducible first | exact avInt_int _ _ | exact fldP_ptr _ _ _)) | ((with_reducible apply Wp.ld0 Mx); rfl) | ((with_reducible apply Wp.ld4 Mx); rfl))
 exact Wp.callP e1 ⟨rfl, Mem.upd (xs := [_]) Mx t1 k1⟩
theorem loL_last : ∀ (l : List AV) (x : AV) (N : Nat), AV.loL N (l ++ [x]) = true → AV.lo N x = true
 | [], x, N, h => by
  have : (AV.lo N x && AV.loL N []) = true := h
  simpa [AV.loL] using this
 | y :: l, x, N, h => by
  have : (AV.lo N y && AV.loL N (l ++ [x])) = true := h
  rw [Bool.and_eq_true] at this
  exact loL_last l x N this.2
theorem NodeT.low {N : Nat} (k : NodeT t c T) (hn : ∀ y ∈ T, N ≤ y.1) (hl : AV.loL N c = true) : T = [] := by
 cases k with
 | mk hw g ks =>
  rename_i op w kids kc kv T0 T1
  have h2 := loL_last (.int .i64 (op : Int) :: wordsA w) kv N hl
  rcases g.2 with ⟨rfl, rfl, rfl⟩ | ⟨_, q, rfl, rfl⟩
  ·cases ks
   rfl
  ·have h3 := hn (q, TNode, kc.flatten) (by simp)
   have h4 : q < N := Nat.le_of_ble_eq_true h2
   exact absurd h3 (by show ¬ N ≤ q; omega)
end
section
variable {n D d b p q i m : Nat} {h h0 : AHeap} {u : Bytes} {Q : ARes → AHeap → Prop} {S : List Nat} {xs rs rs' T T0 T1 : List RowT} {w : List Nat} {x : R} {t : Nd} {c : List AV} {v kv fv : AV} {l : List Nd} {kc : List (List AV)}
theorem tree_guard_bad {pc rd sp nd pt : Nat} {kind : Int} {z : List AV} (hs : ∀ (h : AHeap), Rd h rd u 0 → rd < h.next → memB TNode h.ex = false → StepT rd u h (world n D 40 [.ptr rd 0, .int .i64 kind] h) (.error q)) (M : Mem S h0 h (rowsT pc rd sp nd pt 0 u kind z ++ xs)) (hx : memB TNode h0.ex = false) :
  ∃ h', world n (D + 2) 35 [AV.fn 39 [] [.ptr pc 0, .ptr pt 0, .ptr nd 0]] h = some (.ret (.agg [.int .i64 6, .int .i64 (q : Int)]), h') ∧ ∃ p, Mem S h0 h' (rowsT pc rd sp nd pt p u kind z ++ xs) := by
 apply Wp.ex
 rw [w_pattern_guard]
 unfold pattern_guard
 refine Wp.mnew M fun h1 M1 => ?_
 obtain ⟨h2, p, e2, M2⟩ := t1_bad (n := n) (D := D) (xs := xs ++ [(h.next, TSpot, [.int .i64 0, .int .i64 0])]) hs (M1.perm (by
  rw [← List.append_assoc]
  exact List.perm_append_comm (l₁ := rowsT pc rd sp nd pt 0 u kind z ++ xs) (l₂ := [_]))) hx
 have M3 : Mem S h0 h2 ((h.next, TSpot, [.int .i64 0, .int .i64 0]) :: (rowsT pc rd sp nd pt p u kind z ++ xs)) := M2.perm (by
  rw [← List.append_assoc]
  exact List.perm_append_comm (l₁ := [_]) (l₂ := rowsT pc rd sp nd pt p u kind z ++ xs))
 refine callKd_eq_pan ((dynT _ _ _ _ _).trans e2) ?_
 rw [newP_eq]
 obtain ⟨h3, e3, M4⟩ := recov_pan (n := n) (call := world n (D + 1)) rfl M3 6 q
 refine Wp.callN e3 ?_
 refine Wp.lr0 M4 rfl ?_
 exact Wp.ret ⟨rfl, p, M4.pop⟩
theorem tree_guard_ok {pc rd sp nd pt : Nat} {kind : Int} {z : List AV} (hz : z.length = 6) (hs : ∀ (h : AHeap), Rd h rd u 0 → rd < h.next → memB TNode h.ex = false → StepT rd u h (world n D 40 [.ptr rd 0, .int .i64 kind] h) (.ok t)) (M : Mem S h0 h (rowsT pc rd sp nd pt 0 u kind z ++ xs)) (hx : memB TNode h0.ex = false) :
  ∃ c T h' p, world n (D + 2) 35 [AV.fn 39 [] [.ptr pc 0, .ptr pt 0, .ptr nd 0]] h = some (.ret (.agg [.int .i64 0, .int .i64 0]), h') ∧ NodeT t c T ∧ Mem S h0 h' (rowsT pc rd sp nd pt p u kind c ++ (xs ++ T)) := by
 suffices hK : Wp (world n (D + 2) 35 [AV.fn 39 [] [.ptr pc 0, .ptr pt 0, .ptr nd 0]] h) fun r h' => ∃ c T p, r = .ret (.agg [.int .i64 0, .int .i64 0]) ∧ NodeT t c T ∧ Mem S h0 h' (rowsT pc rd sp nd pt p u kind c ++ (xs ++ T)) by
  obtain ⟨_, h', e, c, T, p, rfl, k1, k2⟩ := hK
  exact ⟨c, T, h', p, e, k1, k2⟩
 rw [w_pattern_guard]
 unfold pattern_guard
 refine Wp.mnew M fun h1 M1 => ?_
 obtain ⟨c, T, h2, p, e2, kt, M2⟩ := t1_ok (n := n) (D := D) (xs := [(h.next, TSpot, [.int .i64 0, .int .i64 0])] ++ xs) hz hs (M1.perm (List.perm_append_comm_assoc (rowsT pc rd sp nd pt 0 u kind z) [_] xs)) hx
 have M3 : Mem S h0 h2 ((h.next, TSpot, [.int .i64 0, .int .i64 0]) :: (rowsT pc rd sp nd pt p u kind c ++ (xs ++ T))) := M2.perm (by
  rw [List.append_assoc]
  exact List.perm_append_comm_assoc [_] (rowsT pc rd sp nd pt p u kind c) (xs ++ T))
 refine callKd_eq_ret ((dynT _ _ _ _ _).trans e2) ?_
 clear M1 M2
 have Mx := M3
 clear M3
 rw [newP_eq]
 repeat (first | ((with_reducible apply Wp.lr0 Mx); rfl) | ((with_reducible apply Wp.sa0 Mx); rfl; rfl; (rfl); intro _ Mz; clear Mx; have Mx := Mz; clear Mz) | ((with_reducible apply Wp.callN); (with_reducible exact recov_nil)))
 exact Wp.ret ⟨c, T, p, rfl, kt, Mx.pop⟩
theorem tree_kinds (hu : u.length ≤ 1000000) {kind : Int} (hk : kind = 1 ∨ kind = 2 ∨ kind = 3) : (64 < u.length → ∀ {n D : Nat} {h : AHeap}, 0 ≤ D → 300 < n → memB TNode h.ex = false → world n (D + 1) 21 [.agg [.int .i64 kind, strA u]] h = some (.ret (.tup [.agg (nodeC 0 zeroW .nsl), .agg [.int .i64 3, .int .i64 64]]), h)) ∧
  (u.length ≤ 64 → ∃ r, TreeP u kind r ∧ (∀ q, r = .error q → q ≤ u.length) ∧ ∀ {n D : Nat} {h : AHeap}, 300 ≤ D → 400 < n → memB TNode h.ex = false → match r with
   | .error q => world n (D + 3) 21 [.agg [.int .i64 kind, strA u]] h = some (.ret (.tup [.agg (nodeC 0 zeroW .nsl), .agg [.int .i64 6, .int .i64 (q : Int)]]), h)
   | .ok t => ∃ c T h', world n (D + 3) 21 [.agg [.int .i64 kind, strA u]] h = some (.ret (.tup [.agg c, .agg [.int .i64 0, .int .i64 0]]), h') ∧ NodeT t c T ∧ Mem [] h h' T) := by
 have hk' := hk
 rcases hk' with rfl | rfl | rfl
 ·-- kind 1
  refine ⟨?_, ?_⟩
  ·intro l n D h hD hn hx
   apply Wp.eq
   rw [w_pattern_Tree]
   refine Wp.gc ?_
   suffices hK : Wp (pattern_Tree (world n D) n [.int .i64 1, strA u] h) fun r h' => r = .ret (.tup [.agg (nodeC 0 zeroW .nsl), .agg [.int .i64 3, .int .i64 64]]) ∧ Tch [] h h' from hK.mono fun r h' ⟨e, t⟩ => ⟨t.above, by rw [e]; rfl, e, rfl⟩
   unfold pattern_Tree
   have ll := lenS_nat u
   have Mx := Mem.nil [] h
   repeat (first | ((with_reducible apply Wp.obind); (with_reducible first | exact avInt_int _ _ | exact avStr_str _ | exact fldP_ptr _ _ _)) | ((with_reducible apply Wp.lr0 Mx); rfl) | ((with_reducible apply Wp.sa0 Mx); rfl; rfl; (rfl); intro _ Mz; clear Mx; have Mx := Mz; clear Mz) | ((with_reducible apply Wp.lr1 Mx); rfl) | ((with_reducible apply Wp.sa1 Mx); rfl; rfl; (rfl); intro _ Mz; clear Mx; have Mx := Mz; clear Mz) | ((with_reducible apply Wp.ld2 Mx); rfl) | ((with_reducible apply Wp.mnew Mx); intro _ Mz; clear Mx; have Mx := Mz; clear Mz) | ((with_reducible apply Wp.mbox Mx); (rfl); intro _ Mz; clear Mx; have Mx := Mz; clear Mz) | (with_reducible refine Wp.join1 (fun _ _ => ?_)) | (with_reducible refine Wp.lett ?_) | ((with_reducible refine Wp.ift ?_ ?_); ((with_reducible first | apply decide_eq_true | apply bne_t); omega)) | ((with_reducible refine Wp.iff ?_ ?_); first | (with_reducible rfl) | ((with_reducible apply bne_f); omega)) | (with_reducible refine Wp.go1 (by assumption) ?_) | rw [newP_eq])
   exact Wp.ret ⟨rfl, Mx.tch⟩
  ·intro l
   obtain ⟨r, r1, r2, r3⟩ := tree_r hu 1 hk
   refine ⟨r, r1, r2, ?_⟩
   intro n D h hD hn hx
   have hs : ∀ (rd : Nat) (h : AHeap), Rd h rd u 0 → rd < h.next → memB TNode h.ex = false → StepT rd u h (world n D 40 [.ptr rd 0, .int .i64 1] h) r := fun rd h k1 k2 k3 => r3 (by omega) (by omega) (by omega) k1 k2 k3
   cases r with
   | error q =>
    apply Wp.eq
    rw [w_pattern_Tree]
    refine Wp.gc ?_
    suffices hK : Wp (pattern_Tree (world n (D + 2)) n [.int .i64 1, strA u] h) fun r h' => r = .ret (.tup [.agg (nodeC 0 zeroW .nsl), .agg [.int .i64 6, .int .i64 (q : Int)]]) ∧ Tch [] h h' from hK.mono fun r h' ⟨e, t⟩ => ⟨t.above, by rw [e]; rfl, e, rfl⟩
    unfold pattern_Tree
    have ll := lenS_nat u
    have Mx := Mem.nil [] h
    repeat (first | ((with_reducible apply Wp.obind); (with_reducible first | exact avInt_int _ _ | exact avStr_str _ | exact fldP_ptr _ _ _)) | ((with_reducible apply Wp.sa0 Mx); rfl; rfl; (rfl); intro _ Mz; clear Mx; have Mx := Mz; clear Mz) | ((with_reducible apply Wp.ld2 Mx); rfl) | ((with_reducible apply Wp.mnew Mx); intro _ Mz; clear Mx; have Mx := Mz; clear Mz) | ((with_reducible apply Wp.mbox Mx); (rfl); intro _ Mz; clear Mx; have Mx := Mz; clear Mz) | (with_reducible refine Wp.join1 (fun _ _ => ?_)) | (with_reducible refine Wp.lett ?_) | ((with_reducible refine Wp.iff ?_ ?_); first | (with_reducible rfl) | ((with_reducible first | apply decide_eq_false | apply bne_f); omega)) | (with_reducible refine Wp.go1 (by assumption) ?_) | rw [newP_eq])
    obtain ⟨h2, e2, p2, M2⟩ := tree_guard_bad (n := n) (D := D) (xs := []) (hs _) (by rw [List.append_nil]; exact Mx) hx
    refine Wp.callN e2 ?_
    clear Mx
    have Mx := M2
    repeat (first | ((with_reducible apply Wp.obind); (with_reducible exact avInt_int _ _)) | ((with_reducible apply Wp.ld2 Mx); rfl) | ((with_reducible apply Wp.lr2 Mx); rfl) | ((with_reducible apply Wp.sa2 Mx); rfl; rfl; (rfl); intro _ Mz; clear Mx; have Mx := Mz; clear Mz) | ((with_reducible apply Wp.lr3 Mx); rfl) | ((with_reducible apply Wp.sa3 Mx); rfl; rfl; (rfl); intro _ Mz; clear Mx; have Mx := Mz; clear Mz) | ((with_reducible refine Wp.chk ?_ ?_); focus ((repeat' (first | (with_reducible exact rfl) | (with_reducible apply and_t) | ((with_reducible apply Mem.rr2 Mx); kernel_rfl; kernel_rfl))); done)) | (with_reducible refine Wp.lett ?_) | ((with_reducible apply Wp.obind); (with_reducible exact avAgg_agg _)) | ((with_reducible refine Wp.ift ?_ ?_); ((with_reducible apply bne_t); omega)))
    exact Wp.ret ⟨rfl, Mx.tch⟩
   | ok t =>
    obtain ⟨c, T, h', e, kt, M'⟩ : ∃ c T h', pattern_Tree (world n (D + 2)) n [.int .i64 1, strA u] h = some (.ret (.tup [.agg c, .agg [.int .i64 0, .int .i64 0]]), h') ∧ NodeT t c T ∧ Mem [] h h' T := by
     suffices hK : Wp (pattern_Tree (world n (D + 2)) n [.int .i64 1, strA u] h) fun r h' => ∃ c T, r = .ret (.tup [.agg c, .agg [.int .i64 0, .int .i64 0]]) ∧ NodeT t c T ∧ Mem [] h h' T by
      obtain ⟨_, h', e, c, T, rfl, k1, k2⟩ := hK
      exact ⟨c, T, h', e, k1, k2⟩
     unfold pattern_Tree
     have ll := lenS_nat u
     have Mx := Mem.nil [] h
     repeat (first | ((with_reducible apply Wp.obind); (with_reducible first | exact avInt_int _ _ | exact avStr_str _ | exact fldP_ptr _ _ _)) | ((with_reducible apply Wp.sa0 Mx); rfl; rfl; (rfl); intro _ Mz; clear Mx; have Mx := Mz; clear Mz) | ((with_reducible apply Wp.ld2 Mx); rfl) | ((with_reducible apply Wp.mnew Mx); intro _ Mz; clear Mx; have Mx := Mz; clear Mz) | ((with_reducible apply Wp.mbox Mx); (rfl); intro _ Mz; clear Mx; have Mx := Mz; clear Mz) | (with_reducible refine Wp.join1 (fun _ _ => ?_)) | (with_reducible refine Wp.lett ?_) | ((with_reducible refine Wp.iff ?_ ?_); first | (with_reducible rfl) | ((with_reducible first | apply decide_eq_false | apply bne_f); omega)) | (with_reducible refine Wp.go1 (by assumption) ?_) | rw [newP_eq])
     obtain ⟨c, T, h2, p2, e2, kt, M2⟩ := tree_guard_ok (n := n) (D := D) (xs := []) rfl (hs _) (by rw [List.append_nil]; exact Mx) hx
     refine Wp.callN e2 ?_
     clear Mx
     have Mx := M2
     have hl := kt.len
     have ho := kt.one
     repeat (first | ((with_reducible apply Wp.obind); (with_reducible exact avInt_int _ _)) | ((with_reducible apply Wp.ld2 Mx); rfl) | ((with_reducible apply Wp.sa2 Mx); rfl; rfl; (rfl); intro _ Mz; clear Mx; have Mx := Mz; clear Mz) | (with_reducible refine Wp.lett ?_) | ((with_reducible apply Wp.obind); (with_reducible exact avAgg_agg _)) | ((with_reducible refine Wp.iff ?_ ?_); ((with_reducible apply bne_f); omega)))
     refine Wp.lr3 Mx hl ?_
     repeat (((with_reducible apply Wp.lr2 Mx); rfl))
     refine Wp.sa3 Mx hl hl ho fun _ Mz => ?_
     clear Mx
     have Mx := Mz
     clear Mz
     repeat (first | ((with_reducible apply Wp.sa2 Mx); rfl; rfl; (rfl); intro _ Mz; clear Mx; have Mx := Mz; clear Mz) | ((with_reducible refine Wp.chk ?_ ?_); focus ((repeat' (first | (with_reducible exact rfl) | (with_reducible apply and_t) | ((with_reducible apply Mem.rr2 Mx); kernel_rfl; kernel_rfl))); done)))
     refine Wp.lr3 Mx hl ?_
     repeat (((with_reducible apply Wp.lr2 Mx); rfl))
     exact Wp.ret ⟨c, T, rfl, kt, Mx.pop.pop.pop.pop.pop⟩
    have M2 := M'
    suffices hK : Wp (gcR h (pattern_Tree (world n (D + 2)) n [.int .i64 1, strA u] h)) fun r h' => ∃ T, r = .ret (.tup [.agg c, .agg [.int .i64 0, .int .i64 0]]) ∧ NodeT t c T ∧ Mem [] h h' T by
     obtain ⟨_, h', e, T, rfl, k1, k2⟩ := hK
     rw [← w_pattern_Tree] at e
     exact ⟨c, T, h', e, k1, k2⟩
    refine Wp.gc2 ⟨_, h', e, ⟨T, rfl, kt, M'⟩, fun _ hl => ?_⟩
    have h1 : AV.loL h.next c = true := by
     have : (AV.loL h.next c && (AV.loL h.next [.int .i64 0, .int .i64 0] && AV.loL h.next [])) = true := hl
     rw [Bool.and_eq_true] at this
     exact this.1
    have hT : T = [] := kt.low (fun y hy => (M'.row y hy).2.2.resolve_left (by simp)) h1
    subst hT
    exact ⟨[], rfl, kt, Mem.nil _ _⟩
 ·-- kind 2
  refine ⟨?_, ?_⟩
  ·intro l n D h hD hn hx
   apply Wp.eq
   rw [w_pattern_Tree]
   refine Wp.gc ?_
   suffices hK : Wp (pattern_Tree (world n D) n [.int .i64 2, strA u] h) fun r h' => r = .ret (.tup [.agg (nodeC 0 zeroW .nsl), .agg [.int .i64 3, .int .i64 64]]) ∧ Tch [] h h' from hK.mono fun r h' ⟨e, t⟩ => ⟨t.above, by rw [e]; rfl, e, rfl⟩
   unfold pattern_Tree
   have ll := lenS_nat u
   have Mx := Mem.nil [] h
   repeat (first | ((with_reducible apply Wp.obind); (with_reducible first | exact avInt_int _ _ | exact avStr_str _ | exact fldP_ptr _ _ _)) | ((with_reducible apply Wp.lr0 Mx); rfl) | ((with_reducible apply Wp.sa0 Mx); rfl; rfl; (rfl); intro _ Mz; clear Mx; have Mx := Mz; clear Mz) | ((with_reducible apply Wp.lr1 Mx); rfl) | ((with_reducible apply Wp.sa1 Mx); rfl; rfl; (rfl); intro _ Mz; clear Mx; have Mx := Mz; clear Mz) | ((with_reducible apply Wp.ld2 Mx); rfl) | ((with_reducible apply Wp.mnew Mx); intro _ Mz; clear Mx; have Mx := Mz; clear Mz) | ((with_reducible apply Wp.mbox Mx); (rfl); intro _ Mz; clear Mx; have Mx := Mz; clear Mz) | (with_reducible refine Wp.join1 (fun _ _ => ?_)) | (with_reducible refine Wp.lett ?_) | ((with_reducible refine Wp.ift ?_ ?_); ((with_reducible first | apply decide_eq_true | apply bne_t); omega)) | ((with_reducible refine Wp.iff ?_ ?_); first | (with_reducible rfl) | ((with_reducible apply bne_f); omega)) | (with_reducible refine Wp.go1 (by assumption) ?_) | rw [newP_eq])
   exact Wp.ret ⟨rfl, Mx.tch⟩
  ·intro l
   obtain ⟨r, r1, r2, r3⟩ := tree_r hu 2 hk
   refine ⟨r, r1, r2, ?_⟩
   intro n D h hD hn hx
   have hs : ∀ (rd : Nat) (h : AHeap), Rd h rd u 0 → rd < h.next → memB TNode h.ex = false → StepT rd u h (world n D 40 [.ptr rd 0, .int .i64 2] h) r := fun rd h k1 k2 k3 => r3 (by omega) (by omega) (by omega) k1 k2 k3
   cases r with
   | error q =>
    apply Wp.eq
    rw [w_pattern_Tree]
    refine Wp.gc ?_
    suffices hK : Wp (pattern_Tree (world n (D + 2)) n [.int .i64 2, strA u] h) fun r h' => r = .ret (.tup [.agg (nodeC 0 zeroW .nsl), .agg [.int .i64 6, .int .i64 (q : Int)]]) ∧ Tch [] h h' from hK.mono fun r h' ⟨e, t⟩ => ⟨t.above, by rw [e]; rfl, e, rfl⟩
    unfold pattern_Tree
    have ll := lenS_nat u
    have Mx := Mem.nil [] h
    repeat (first | ((with_reducible apply Wp.obind); (with_reducible first | exact avInt_int _ _ | exact avStr_str _ | exact fldP_ptr _ _ _)) | ((with_reducible apply Wp.sa0 Mx); rfl; rfl; (rfl); intro _ Mz; clear Mx; have Mx := Mz; clear Mz) | ((with_reducible apply Wp.ld2 Mx); rfl) | ((with_reducible apply Wp.mnew Mx); intro _ Mz; clear Mx; have Mx := Mz; clear Mz) | ((with_reducible apply Wp.mbox Mx); (rfl); intro _ Mz; clear Mx; have Mx := Mz; clear Mz) | (with_reducible refine Wp.join1 (fun _ _ => ?_)) | (with_reducible refine Wp.lett ?_) | ((with_reducible refine Wp.ift ?_ ?_); ((with_reducible first | apply decide_eq_true | apply bne_t); omega)) | ((with_reducible refine Wp.iff ?_ ?_); first | (with_reducible rfl) | ((with_reducible first | apply decide_eq_false | apply bne_f); omega)) | (with_reducible refine Wp.go1 (by assumption) ?_) | rw [newP_eq])
    obtain ⟨h2, e2, p2, M2⟩ := tree_guard_bad (n := n) (D := D) (xs := []) (hs _) (by rw [List.append_nil]; exact Mx) hx
    refine Wp.callN e2 ?_
    clear Mx
    have Mx := M2
    repeat (first | ((with_reducible apply Wp.obind); (with_reducible exact avInt_int _ _)) | ((with_reducible apply Wp.ld2 Mx); rfl) | ((with_reducible apply Wp.lr2 Mx); rfl) | ((with_reducible apply Wp.sa2 Mx); rfl; rfl; (rfl); intro _ Mz; clear Mx; have Mx := Mz; clear Mz) | ((with_reducible apply Wp.lr3 Mx); rfl) | ((with_reducible apply Wp.sa3 Mx); rfl; rfl; (rfl); intro _ Mz; clear Mx; have Mx := Mz; clear Mz) | ((with_reducible refine Wp.chk ?_ ?_); focus ((repeat' (first | (with_reducible exact rfl) | (with_reducible apply and_t) | ((with_reducible apply Mem.rr2 Mx); kernel_rfl; kernel_rfl))); done)) | (with_reducible refine Wp.lett ?_) | ((with_reducible apply Wp.obind); (with_reducible exact avAgg_agg _)) | ((with_reducible refine Wp.ift ?_ ?_); ((with_reducible apply bne_t); omega)))
    exact Wp.ret ⟨rfl, Mx.tch⟩
   | ok t =>
    obtain ⟨c, T, h', e, kt, M'⟩ : ∃ c T h', pattern_Tree (world n (D + 2)) n [.int .i64 2, strA u] h = some (.ret (.tup [.agg c, .agg [.int .i64 0, .int .i64 0]]), h') ∧ NodeT t c T ∧ Mem [] h h' T := by
     suffices hK : Wp (pattern_Tree (world n (D + 2)) n [.int .i64 2, strA u] h) fun r h' => ∃ c T, r = .ret (.tup [.agg c, .agg [.int .i64 0, .int .i64 0]]) ∧ NodeT t c T ∧ Mem [] h h' T by
      obtain ⟨_, h', e, c, T, rfl, k1, k2⟩ := hK
      exact ⟨c, T, h', e, k1, k2⟩
     unfold pattern_Tree
     have ll := lenS_nat u
     have Mx := Mem.nil [] h
     repeat (first | ((with_reducible apply Wp.obind); (with_reducible first | exact avInt_int _ _ | exact avStr_str _ | exact fldP_ptr _ _ _)) | ((with_reducible apply Wp.sa0 Mx); rfl; rfl; (rfl); intro _ Mz; clear Mx; have Mx := Mz; clear Mz) | ((with_reducible apply Wp.ld2 Mx); rfl) | ((with_reducible apply Wp.mnew Mx); intro _ Mz; clear Mx; have Mx := Mz; clear Mz) | ((with_reducible apply Wp.mbox Mx); (rfl); intro _ Mz; clear Mx; have Mx := Mz; clear Mz) | (with_reducible refine Wp.join1 (fun _ _ => ?_)) | (with_reducible refine Wp.lett ?_) | ((with_reducible refine Wp.ift ?_ ?_); ((with_reducible first | apply decide_eq_true | apply bne_t); omega)) | ((with_reducible refine Wp.iff ?_ ?_); first | (with_reducible rfl) | ((with_reducible first | apply decide_eq_false | apply bne_f); omega)) | (with_reducible refine Wp.go1 (by assumption) ?_) | rw [newP_eq])
     obtain ⟨c, T, h2, p2, e2, kt, M2⟩ := tree_guard_ok (n := n) (D := D) (xs := []) rfl (hs _) (by rw [List.append_nil]; exact Mx) hx
     refine Wp.callN e2 ?_
     clear Mx
     have Mx := M2
     have hl := kt.len
     have ho := kt.one
     repeat (first | ((with_reducible apply Wp.obind); (with_reducible exact avInt_int _ _)) | ((with_reducible apply Wp.ld2 Mx); rfl) | ((with_reducible apply Wp.sa2 Mx); rfl; rfl; (rfl); intro _ Mz; clear Mx; have Mx := Mz; clear Mz) | (with_reducible refine Wp.lett ?_) | ((with_reducible apply Wp.obind); (with_reducible exact avAgg_agg _)) | ((with_reducible refine Wp.iff ?_ ?_); ((with_reducible apply bne_f); omega)))
     refine Wp.lr3 Mx hl ?_
     repeat (((with_reducible apply Wp.lr2 Mx); rfl))
     refine Wp.sa3 Mx hl hl ho fun _ Mz => ?_
     clear Mx
     have Mx := Mz
     clear Mz
     repeat (first | ((with_reducible apply Wp.sa2 Mx); rfl; rfl; (rfl); intro _ Mz; clear Mx; have Mx := Mz; clear Mz) | ((with_reducible refine Wp.chk ?_ ?_); focus ((repeat' (first | (with_reducible exact rfl) | (with_reducible apply and_t) | ((with_reducible apply Mem.rr2 Mx); kernel_rfl; kernel_rfl))); done)))
     refine Wp.lr3 Mx hl ?_
     repeat (((with_reducible apply Wp.lr2 Mx); rfl))
     exact Wp.ret ⟨c, T, rfl, kt, Mx.pop.pop.pop.pop.pop⟩
    have M2 := M'
    suffices hK : Wp (gcR h (pattern_Tree (world n (D + 2)) n [.int .i64 2, strA u] h)) fun r h' => ∃ T, r = .ret (.tup [.agg c, .agg [.int .i64 0, .int .i64 0]]) ∧ NodeT t c T ∧ Mem [] h h' T by
     obtain ⟨_, h', e, T, rfl, k1, k2⟩ := hK
     rw [← w_pattern_Tree] at e
     exact ⟨c, T, h', e, k1, k2⟩
    refine Wp.gc2 ⟨_, h', e, ⟨T, rfl, kt, M'⟩, fun _ hl => ?_⟩
    have h1 : AV.loL h.next c = true := by
     have : (AV.loL h.next c && (AV.loL h.next [.int .i64 0, .int .i64 0] && AV.loL h.next [])) = true := hl
     rw [Bool.and_eq_true] at this
     exact this.1
    have hT : T = [] := kt.low (fun y hy => (M'.row y hy).2.2.resolve_left (by simp)) h1
    subst hT
    exact ⟨[], rfl, kt, Mem.nil _ _⟩
 ·-- kind 3
  refine ⟨?_, ?_⟩
  ·intro l n D h hD hn hx
   apply Wp.eq
   rw [w_pattern_Tree]
   refine Wp.gc ?_
   suffices hK : Wp (pattern_Tree (world n D) n [.int .i64 3, strA u] h) fun r h' => r = .ret (.tup [.agg (nodeC 0 zeroW .nsl), .agg [.int .i64 3, .int .i64 64]]) ∧ Tch [] h h' from hK.mono fun r h' ⟨e, t⟩ => ⟨t.above, by rw [e]; rfl, e, rfl⟩
   unfold pattern_Tree
   have ll := lenS_nat u
   have Mx := Mem.nil [] h
   repeat (first | ((with_reducible apply Wp.obind); (with_reducible first | exact avInt_int _ _ | exact avStr_str _ | exact fldP_ptr _ _ _)) | ((with_reducible apply Wp.lr0 Mx); rfl) | ((with_reducible apply Wp.sa0 Mx); rfl; rfl; (rfl); intro _ Mz; clear Mx; have Mx := Mz; clear Mz) | ((with_reducible apply Wp.lr1 Mx); rfl) | ((with_reducible apply Wp.sa1 Mx); rfl; rfl; (rfl); intro _ Mz; clear Mx; have Mx := Mz; clear Mz) | ((with_reducible apply Wp.ld2 Mx); rfl) | ((with_reducible apply Wp.mnew Mx); intro _ Mz; clear Mx; have Mx := Mz; clear Mz) | ((with_reducible apply Wp.mbox Mx); (rfl); intro _ Mz; clear Mx; have Mx := Mz; clear Mz) | (with_reducible refine Wp.join1 (fun _ _ => ?_)) | (with_reducible refine Wp.lett ?_) | ((with_reducible refine Wp.ift ?_ ?_); ((with_reducible first | apply decide_eq_true | apply bne_t); omega)) | ((with_reducible refine Wp.iff ?_ ?_); ((with_reducible apply bne_f); omega)) | (with_reducible refine Wp.go1 (by assumption) ?_) | rw [newP_eq])
   exact Wp.ret ⟨rfl, Mx.tch⟩
  ·intro l
   obtain ⟨r, r1, r2, r3⟩ := tree_r hu 3 hk
   refine ⟨r, r1, r2, ?_⟩
   intro n D h hD hn hx
   have hs : ∀ (rd : Nat) (h : AHeap), Rd h rd u 0 → rd < h.next → memB TNode h.ex = false → StepT rd u h (world n D 40 [.ptr rd 0, .int .i64 3] h) r := fun rd h k1 k2 k3 => r3 (by omega) (by omega) (by omega) k1 k2 k3
   cases r with
   | error q =>
    apply Wp.eq
    rw [w_pattern_Tree]
    refine Wp.gc ?_
    suffices hK : Wp (pattern_Tree (world n (D + 2)) n [.int .i64 3, strA u] h) fun r h' => r = .ret (.tup [.agg (nodeC 0 zeroW .nsl), .agg [.int .i64 6, .int .i64 (q : Int)]]) ∧ Tch [] h h' from hK.mono fun r h' ⟨e, t⟩ => ⟨t.above, by rw [e]; rfl, e, rfl⟩
    unfold pattern_Tree
    have ll := lenS_nat u
    have Mx := Mem.nil [] h
    repeat (first | ((with_reducible apply Wp.obind); (with_reducible first | exact avInt_int _ _ | exact avStr_str _ | exact fldP_ptr _ _ _)) | ((with_reducible apply Wp.sa0 Mx); rfl; rfl; (rfl); intro _ Mz; clear Mx; have Mx := Mz; clear Mz) | ((with_reducible apply Wp.ld2 Mx); rfl) | ((with_reducible apply Wp.mnew Mx); intro _ Mz; clear Mx; have Mx := Mz; clear Mz) | ((with_reducible apply Wp.mbox Mx); (rfl); intro _ Mz; clear Mx; have Mx := Mz; clear Mz) | (with_reducible refine Wp.join1 (fun _ _ => ?_)) | (with_reducible refine Wp.lett ?_) | ((with_reducible refine Wp.ift ?_ ?_); ((with_reducible first | apply decide_eq_true | apply bne_t); omega)) | ((with_reducible refine Wp.iff ?_ ?_); ((with_reducible first | apply decide_eq_false | apply bne_f); omega)) | (with_reducible refine Wp.go1 (by assumption) ?_) | rw [newP_eq])
    obtain ⟨h2, e2, p2, M2⟩ := tree_guard_bad (n := n) (D := D) (xs := []) (hs _) (by rw [List.append_nil]; exact Mx) hx
    refine Wp.callN e2 ?_
    clear Mx
    have Mx := M2
    repeat (first | ((with_reducible apply Wp.obind); (with_reducible exact avInt_int _ _)) | ((with_reducible apply Wp.ld2 Mx); rfl) | ((with_reducible apply Wp.lr2 Mx); rfl) | ((with_reducible apply Wp.sa2 Mx); rfl; rfl; (rfl); intro _ Mz; clear Mx; have Mx := Mz; clear Mz) | ((with_reducible apply Wp.lr3 Mx); rfl) | ((with_reducible apply Wp.sa3 Mx); rfl; rfl; (rfl); intro _ Mz; clear Mx; have Mx := Mz; clear Mz) | ((with_reducible refine Wp.chk ?_ ?_); focus ((repeat' (first | (with_reducible exact rfl) | (with_reducible apply and_t) | ((with_reducible apply Mem.rr2 Mx); kernel_rfl; kernel_rfl))); done)) | (with_reducible refine Wp.lett ?_) | ((with_reducible apply Wp.obind); (with_reducible exact avAgg_agg _)) | ((with_reducible refine Wp.ift ?_ ?_); ((with_reducible apply bne_t); omega)))
    exact Wp.ret ⟨rfl, Mx.tch⟩
   | ok t =>
    obtain ⟨c, T, h', e, kt, M'⟩ : ∃ c T h', pattern_Tree (world n (D + 2)) n [.int .i64 3, strA u] h = some (.ret (.tup [.agg c, .agg [.int .i64 0, .int .i64 0]]), h') ∧ NodeT t c T ∧ Mem [] h h' T := by
     suffices hK : Wp (pattern_Tree (world n (D + 2)) n [.int .i64 3, strA u] h) fun r h' => ∃ c T, r = .ret (.tup [.agg c, .agg [.int .i64 0, .int .i64 0]]) ∧ NodeT t c T ∧ Mem [] h h' T by
      obtain ⟨_, h', e, c, T, rfl, k1, k2⟩ := hK
      exact ⟨c, T, h', e, k1, k2⟩
     unfold pattern_Tree
     have ll := lenS_nat u
     have Mx := Mem.nil [] h
     repeat (first | ((with_reducible apply Wp.obind); (with_reducible first | exact avInt_int _ _ | exact avStr_str _ | exact fldP_ptr _ _ _)) | ((with_reducible apply Wp.sa0 Mx); rfl; rfl; (rfl); intro _ Mz; clear Mx; have Mx := Mz; clear Mz) | ((with_reducible apply Wp.ld2 Mx); rfl) | ((with_reducible apply Wp.mnew Mx); intro _ Mz; clear Mx; have Mx := Mz; clear Mz) | ((with_reducible apply Wp.mbox Mx); (rfl); intro _ Mz; clear Mx; have Mx := Mz; clear Mz) | (with_reducible refine Wp.join1 (fun _ _ => ?_)) | (with_reducible refine Wp.lett ?_) | ((with_reducible refine Wp.ift ?_ ?_); ((with_reducible first | apply decide_eq_true | apply bne_t); omega)) | ((with_reducible refine Wp.iff ?_ ?_); ((with_reducible first | apply decide_eq_false | apply bne_f); omega)) | (with_reducible refine Wp.go1 (by assumption) ?_) | rw [newP_eq])
     obtain ⟨c, T, h2, p2, e2, kt, M2⟩ := tree_guard_ok (n := n) (D := D) (xs := []) rfl (hs _) (by rw [List.append_nil]; exact Mx) hx
     refine Wp.callN e2 ?_
     clear Mx
     have Mx := M2
     have hl := kt.len
     have ho := kt.one
     repeat (first | ((with_reducible apply Wp.obind); (with_reducible exact avInt_int _ _)) | ((with_reducible apply Wp.ld2 Mx); rfl) | ((with_reducible apply Wp.sa2 Mx); rfl; rfl; (rfl); intro _ Mz; clear Mx; have Mx := Mz; clear Mz) | (with_reducible refine Wp.lett ?_) | ((with_reducible apply Wp.obind); (with_reducible exact avAgg_agg _)) | ((with_reducible refine Wp.iff ?_ ?_); ((with_reducible apply bne_f); omega)))
     refine Wp.lr3 Mx hl ?_
     repeat (((with_reducible apply Wp.lr2 Mx); rfl))
     refine Wp.sa3 Mx hl hl ho fun _ Mz => ?_
     clear Mx
     have Mx := Mz
     clear Mz
     repeat (first | ((with_reducible apply Wp.sa2 Mx); rfl; rfl; (rfl); intro _ Mz; clear Mx; have Mx := Mz; clear Mz) | ((with_reducible refine Wp.chk ?_ ?_); focus ((repeat' (first | (with_reducible exact rfl) | (with_reducible apply and_t) | ((with_reducible apply Mem.rr2 Mx); kernel_rfl; kernel_rfl))); done)))
     refine Wp.lr3 Mx hl ?_
     repeat (((with_reducible apply Wp.lr2 Mx); rfl))
     exact Wp.ret ⟨c, T, rfl, kt, Mx.pop.pop.pop.pop.pop⟩
    have M2 := M'
    suffices hK : Wp (gcR h (pattern_Tree (world n (D + 2)) n [.int .i64 3, strA u] h)) fun r h' => ∃ T, r = .ret (.tup [.agg c, .agg [.int .i64 0, .int .i64 0]]) ∧ NodeT t c T ∧ Mem [] h h' T by
     obtain ⟨_, h', e, T, rfl, k1, k2⟩ := hK
     rw [← w_pattern_Tree] at e
     exact ⟨c, T, h', e, k1, k2⟩
    refine Wp.gc2 ⟨_, h', e, ⟨T, rfl, kt, M'⟩, fun _ hl => ?_⟩
    have h1 : AV.loL h.next c = true := by
     have : (AV.loL h.next c && (AV.loL h.next [.int .i64 0, .int .i64 0] && AV.loL h.next [])) = true := hl
     rw [Bool.and_eq_true] at this
     exact this.1
    have hT : T = [] := kt.low (fun y hy => (M'.row y hy).2.2.resolve_left (by simp)) h1
    subst hT
    exact ⟨[], rfl, kt, Mem.nil _ _⟩
end
end Go.Proofs.Yteibdplpbcobbaa
namespace Go.Proofs.Yteibdplpbcobbaa
open Go.RowKit Abs
theorem eqElems_ints {P : Program} {e : TypeId} (he : kindT P e = 1) (ws : List Nat) : ∀ (m d i : Nat), m + 1 < d → i + m ≤ ws.length → eqElems P d e 1 m i (wordsA ws) (wordsA ws) = some true
 | _, 0, _, hd, _ => by omega
 | 0, _ + 1, _, _, _ => by
  unfold eqElems
  rfl
 | m + 1, d + 1, i, hd, hi => by
  have hx : (wordsA ws)[i * 1]? = some (.int .u64 (ws.getD i 0 : Int)) := by
   have := get_words (pre := []) (post := []) (w := ws) (i := i) (by omega)
   simpa using this
  have h1 := partA_cell (P := P) (t := e) (l := wordsA ws) (o := i * 1) (by omega) hx
  cases d with
  | zero => omega
  | succ d =>
   have h2 : eqA P (d + 1) e (.int .u64 (ws.getD i 0 : Int)) (.int .u64 (ws.getD i 0 : Int)) = some true := by
    have := eqA_cell (P := P) (d := d) (t := e) (b := ((ws.getD i 0 : Int) == (ws.getD i 0 : Int))) (x := .int .u64 (ws.getD i 0 : Int)) (y := .int .u64 (ws.getD i 0 : Int)) he.symm (eqCell_int _ _ _)
    rw [this]
    simp
   unfold eqElems
   rw [h1]
   dsimp only
   rw [h2]
   dsimp only
   exact eqElems_ints he ws m (d + 1) (i + 1) (by omega) (by omega)
theorem eqSet {w : List Nat} (hw : WordsOk w) : eqOther Try.prog TSet (.agg (wordsA w)) (.agg (wordsA w)) = some true := by
 have h0 : Try.prog.eqGuardType Try.prog.depth TSet = false := by kernel_rfl
 have h1 : Try.prog.underlying TSet = some (.array 4 36) := by kernel_rfl
 have h2 : (Try.prog.info? 36).isSome = true := by kernel_rfl
 have h3 : kindT Try.prog 36 = 1 := by kernel_rfl
 have h4 : Try.prog.cellsOf 36 = 1 := by kernel_rfl
 show (if Try.prog.eqGuardType Try.prog.depth TSet then none else eqA Try.prog 2000 TSet (.agg (wordsA w)) (.agg (wordsA w))) = some true
 rw [h0, if_neg (by decide)]
 unfold eqA
 rw [h1]
 dsimp only
 obtain ⟨z, hz⟩ := Option.isSome_iff_exists.1 h2
 rw [hz]
 dsimp only
 rw [h4]
 exact eqElems_ints h3 w 4 1999 0 (by omega) (by rw [hw.len]; omega)
mutual
def Nd.sz : Nd → Nat
 | .mk _ _ ks => szL ks + 1
def szL : List Nd → Nat
 | [] => 0
 | k :: ks => Nd.sz k + szL ks + 1
end
theorem szL_len : ∀ ks : List Nd, ks.length ≤ szL ks
 | [] => Nat.zero_le _
 | k :: ks => by
  have := szL_len ks
  rw [List.length_cons, szL]
  omega
def RowsAt (h : AHeap) (T : List RowT) : Prop := ∀ y ∈ T, RowH h y.1 y.2.1 y.2.2 ∧ y.1 < h.next
theorem RowsAt.keep {h h' : AHeap} {T : List RowT} (k : RowsAt h T) (t : Tch [] h h') : RowsAt h' T := fun y hy => ⟨(k y hy).1.tch t (k y hy).2 (by simp), Nat.lt_of_lt_of_le (k y hy).2 t.1⟩
theorem RowsAt.left {h : AHeap} {T T' : List RowT} (k : RowsAt h (T ++ T')) : RowsAt h T := fun y hy => k y (List.mem_append_left _ hy)
theorem RowsAt.right {h : AHeap} {T T' : List RowT} (k : RowsAt h (T ++ T')) : RowsAt h T' := fun y hy => k y (List.mem_append_right _ hy)
theorem grow_sli {h : AHeap} {kc : List (List AV)} {kv : AV} {T : List RowT} (g : GrowT TNode 6 kc kv T) (k : RowsAt h T) : Slc h.next h 6 kv kc := by
 refine Sli.slc (e := TNode) (lo := 0) ⟨fun r hr => g.1 r hr, ?_⟩
 rcases g.2 with ⟨h1, h2, _⟩ | ⟨h1, c, h2, rfl⟩
 ·exact .inl ⟨h1, h2⟩
 ·obtain ⟨k1, k2⟩ := k (c, TNode, kc.flatten) (by simp)
  exact .inr ⟨c, h1, h2, Nat.zero_le _, k2, k1⟩
inductive KidAt (h : AHeap) (D n : Nat) : List (List AV) → List (List AV) → Prop
 | nil : KidAt h D n [] []
 | cons {c1 c2 : List AV} {l1 l2 : List (List AV)} (e : ∀ h', Tch [] h h' → world n D 23 [.agg c1, .agg c2] h' = some (.ret (.bool true), h')) (k : KidAt h D n l1 l2) : KidAt h D n (c1 :: l1) (c2 :: l2)
theorem same_loop {h0 H : AHeap} {n D b1 b2 : Nat} {v1 v2 : AV} {pc1 pc2 : List AV} {K1 K2 : List (List AV)} {k25 : AHeap → R} {Q : ARes → AHeap → Prop} (ht : Tch [] h0 H) (q1 : RowH H b1 TNode pc1) (q2 : RowH H b2 TNode pc2) (e1 : pc1[5]? = some v1) (e2 : pc2[5]? = some v2) (s1 : Slc h0.next h0 6 v1 K1) (s2 : Slc h0.next h0 6 v2 K2) (s1' : Slc H.next H 6 v1 K1) (s2' : Slc H.next H 6 v2 K2) (hk : Wp (k25 H) Q) (hn : K1.length < 1000000) (hlen : K1.length = K2.length) :
  ∀ (l1 l2 : List (List AV)) (i f : Nat), KidAt h0 D n l1 l2 → K1.drop i = l1 → K2.drop i = l2 → i ≤ K1.length → K1.length - i < f → Wp (ref09_Same_L0 (world n D) (.ptr b1 0) (.ptr b2 0) k25 f (i : Int) H) Q
 | _, _, _, 0, _, _, _, _, hf => by omega
 | l1, l2, i, f + 1, kk, d1, d2, hi, hf => by
  rw [ref09_Same_L0_s]
  unfold ref09_Same_L0b
  have hl := s1'.len
  have c1 : ldCell H (.ptr b1 (0 + 5)) = some v1 := RowH.cell' q1 e1
  have c2 : ldCell H (.ptr b2 (0 + 5)) = some v2 := RowH.cell' q2 e2
  cases kk with
  | nil =>
   have : K1.length ≤ i := by
    have := congrArg List.length d1
    rw [List.length_drop, List.length_nil] at this
    omega
   repeat (first | (with_reducible refine Wp.lett ?_) | ((with_reducible apply Wp.obind); (with_reducible first | exact c1 | exact hl | exact fldP_ptr _ _ _)) | ((with_reducible refine Wp.iff ?_ ?_); ((with_reducible apply decide_eq_false); omega)))
   exact hk
  | cons e k =>
   rename_i a1 a2 m1 m2
   have hi1 : i < K1.length := by
    have := congrArg List.length d1
    rw [List.length_drop, List.length_cons] at this
    omega
   obtain ⟨p1, _, x1, y1⟩ := s1'.row hi1
   obtain ⟨p2, _, x2, y2⟩ := s2'.row (i := i) (by omega)
   have g1 := List.drop_eq_getElem_cons hi1
   have g2 := List.drop_eq_getElem_cons (l := K2) (i := i) (by omega)
   rw [d1] at g1
   rw [d2] at g2
   simp only [List.cons.injEq] at g1 g2
   rw [← g1.1] at y1
   rw [← g2.1] at y2
   have es := e H ht
   repeat (first | ((with_reducible refine Wp.lettw ?_ ?_ ?_); omega; omega) | (with_reducible refine Wp.lett ?_) | ((with_reducible apply Wp.obind); (with_reducible first | exact c1 | exact c2 | exact hl | exact x1 | exact y1 | exact x2 | exact y2 | exact avBool_bool _ | exact fldP_ptr _ _ _)) | ((with_reducible refine Wp.ift ?_ ?_); ((with_reducible apply decide_eq_true); omega)) | ((with_reducible refine Wp.iff ?_ ?_); (with_reducible exact Bool.not_true)) | ((with_reducible apply Wp.callN); (with_reducible assumption)))
   have ei : (i : Int) + 1 = ((i + 1 : Nat) : Int) := by omega
   rw [ei]
   exact same_loop ht q1 q2 e1 e2 s1 s2 s1' s2' hk hn hlen m1 m2 (i + 1) f k g1.2.symm g2.2.symm (by omega) (by omega)
mutual
theorem same_ok : ∀ (t : Nd) {c1 c2 : List AV} {T1 T2 : List RowT} {D n : Nat} {h : AHeap}, NodeT t c1 T1 → NodeT t c2 T2 → RowsAt h T1 → RowsAt h T2 → t.sz ≤ D → t.sz < n → t.sz < 1000000 → world n D 23 [.agg c1, .agg c2] h = some (.ret (.bool true), h)
 | .mk op w ks, _, _, _, _, 0, n, h, _, _, _, _, hD, _, _ => by
  rw [Nd.sz] at hD
  omega
 | .mk op w ks, c1, c2, T1, T2, D + 1, n, h, k1, k2, r1, r2, hD, hn, hN => by
  rw [Nd.sz] at hD hn hN
  have hsl := szL_len ks
  cases k1 with
  | mk hw g1 ks1 =>
   rename_i kc1 kv1 T01 T11
   cases k2 with
   | mk hw2 g2 ks2 =>
    rename_i kc2 kv2 T02 T12
    have kk := sameL_ok ks (D := D) (n := n) ks1 ks2 r1.right r2.right (by omega) (by omega) (by omega)
    have hl1 := ks1.len
    have hl2 := ks2.len
    have he := eqSet hw
    obtain ⟨a, b, c, d, rfl⟩ := words4 hw
    apply Wp.eq
    rw [w_ref09_Same]
    refine Wp.gc ?_
    suffices hK : Wp (ref09_Same (world n D) n (nodeC op [a, b, c, d] kv1) (nodeC op [a, b, c, d] kv2) h) fun r h' => r = .ret (.bool true) ∧ Tch [] h h' from hK.mono fun r h' ⟨e, t⟩ => ⟨t.above, by rw [e]; rfl, e, rfl⟩
    unfold ref09_Same
    have Mx := Mem.nil [] h
    have o1 := nodeC_one (op := op) (w := [a, b, c, d]) g1.one.1
    have o2 := nodeC_one (op := op) (w := [a, b, c, d]) g2.one.1
    have len1 := g1.len
    have len2 := g2.len
    refine Wp.mbox Mx o1 fun h1 M1 => ?_
    refine Wp.mbox M1 o2 fun h2 M2 => ?_
    clear Mx M1
    have Mx := M2
    clear M2
    have p1 : ldRow h2 4 (.ptr h.next (0 + 1)) = some (wordsA [a, b, c, d]) := RowH.ld (o := 1) (n := 4) Mx.at1.1 (Nat.le_of_ble_eq_true rfl)
    have p2 : ldRow h2 4 (.ptr h1.next (0 + 1)) = some (wordsA [a, b, c, d]) := RowH.ld (o := 1) (n := 4) Mx.at0.1 (Nat.le_of_ble_eq_true rfl)
    repeat (first | ((with_reducible apply Wp.obind); (with_reducible first | exact avInt_int _ _ | exact fldP_ptr _ _ _)) | ((with_reducible apply Wp.ld0 Mx); rfl) | ((with_reducible apply Wp.ld1 Mx); rfl) | (with_reducible first | refine Wp.join0 (fun _ _ => ?_) | refine Wp.join1 (fun _ _ => ?_)) | (with_reducible refine Wp.lett ?_) | ((with_reducible apply Wp.obind); (with_reducible first | exact p1 | exact p2 | exact he | exact len1 | exact len2)) | ((with_reducible refine Wp.iff ?_ ?_); first | (with_reducible exact Bool.not_true) | ((with_reducible apply bne_f); omega)) | (with_reducible refine Wp.go1 (by assumption) ?_))
    refine same_loop (h0 := h) Mx.tch Mx.at1.1 Mx.at0.1 rfl rfl (grow_sli g1 r1.left) (grow_sli g2 r2.left) (grow_sli g1 (r1.left.keep Mx.tch)) (grow_sli g2 (r2.left.keep Mx.tch)) ?_ (by omega) (by omega) kc1 kc2 0 n kk List.drop_zero List.drop_zero (Nat.zero_le _) (by omega)
    refine Wp.go0 (by assumption) ?_
    exact Wp.ret ⟨rfl, Mx.tch⟩
theorem sameL_ok : ∀ (ks : List Nd) {k1 k2 : List (List AV)} {T1 T2 : List RowT} {D n : Nat} {h : AHeap}, KidsT ks k1 T1 → KidsT ks k2 T2 → RowsAt h T1 → RowsAt h T2 → szL ks ≤ D → szL ks < n → szL ks < 1000000 → KidAt h D n k1 k2
 | [], _, _, _, _, _, _, _, k1, k2, _, _, _, _, _ => by
  cases k1
  cases k2
  exact .nil
 | t :: ks, _, _, _, _, D, n, h, k1, k2, r1, r2, hD, hn, hN => by
  rw [szL] at hD hn hN
  cases k1 with
  | cons a1 b1 =>
   cases k2 with
   | cons a2 b2 => exact .cons (fun h' th => same_ok t a1 a2 (r1.left.keep th) (r2.left.keep th) (by omega) (by omega) (by omega)) (sameL_ok ks b1 b2 r1.right r2.right (by omega) (by omega) (by omega))
end
def oneB (c : UInt8) : Nd := oneN c.toNat
def escB : Bytes → Bytes
 | [] => []
 | c :: s => 92 :: c :: escB s
theorem escB_len : ∀ s : Bytes, (escB s).length = 2 * s.length
 | [] => rfl
 | c :: s => by
  rw [escB, List.length_cons, List.length_cons, escB_len s, List.length_cons]
  omega
theorem at?_app (pre rest : Bytes) (i : Nat) : at? (pre ++ rest) (pre.length + i) = (rest[i]?).map UInt8.toNat := by
 unfold at?
 rw [List.getElem?_append_right (by omega), show pre.length + i - pre.length = i by omega]
section
variable {u : Bytes} {l : List Nd} {i : Nat} {r : Res}
theorem flat_lit {r : Res} : ∀ (rest pre : Bytes) (l : List Nd), FlatP (partL (pre ++ rest)) (pre ++ rest) l pre.length r → r = .ok (joinN 3 (l ++ rest.map oneB), (pre ++ rest).length)
 | [], pre, l, k => by
  cases k with
  | stop s => simp
  | bad s h => simp at s
  | more s h m => simp at s
 | c :: rest, pre, l, k => by
  have hc := at?_app pre (c :: rest) 0
  rw [Nat.add_zero] at hc
  have hp : partL (pre ++ c :: rest) pre.length = .ok (oneN c.toNat, pre.length + 1) := by
   unfold partL
   rw [hc]
   rfl
  cases k with
  | stop s => simp at s; omega
  | bad s h => rw [hp] at h; cases h
  | more s h m =>
   rw [hp] at h
   cases h
   have e : pre ++ c :: rest = (pre ++ [c]) ++ rest := by simp
   have m' : FlatP (partL ((pre ++ [c]) ++ rest)) ((pre ++ [c]) ++ rest) (l ++ [oneB c]) (pre ++ [c]).length r := by
    rw [← e, List.length_append]
    exact m
   have := flat_lit rest (pre ++ [c]) (l ++ [oneB c]) m'
   rw [this, ← e]
   simp
theorem flat_bare {r : Res} : ∀ (rest pre : Bytes) (l : List Nd), (∀ c ∈ rest, c.toNat ≠ 42 ∧ c.toNat ≠ 63 ∧ c.toNat ≠ 92) → FlatP (partG (pre ++ rest)) (pre ++ rest) l pre.length r → r = .ok (joinN 3 (l ++ rest.map oneB), (pre ++ rest).length)
 | [], pre, l, _, k => by
  cases k with
  | stop s => simp
  | bad s h => simp at s
  | more s h m => simp at s
 | c :: rest, pre, l, hb, k => by
  obtain ⟨b1, b2, b3⟩ := hb c List.mem_cons_self
  have hc := at?_app pre (c :: rest) 0
  rw [Nat.add_zero] at hc
  have hc : at? (pre ++ c :: rest) pre.length = some c.toNat := hc
  have hp : partG (pre ++ c :: rest) pre.length = .ok (oneN c.toNat, pre.length + 1) := by
   unfold partG
   rw [hc]
   dsimp only
   rw [if_neg b1, if_neg b2, if_neg b3]
  cases k with
  | stop s => simp at s; omega
  | bad s h => rw [hp] at h; cases h
  | more s h m =>
   rw [hp] at h
   cases h
   have e : pre ++ c :: rest = (pre ++ [c]) ++ rest := by simp
   have m' : FlatP (partG ((pre ++ [c]) ++ rest)) ((pre ++ [c]) ++ rest) (l ++ [oneB c]) (pre ++ [c]).length r := by
    rw [← e, List.length_append]
    exact m
   have := flat_bare rest (pre ++ [c]) (l ++ [oneB c]) (fun x hx => hb x (List.mem_cons_of_mem _ hx)) m'
   rw [this, ← e]
   simp
theorem flat_esc {r : Res} : ∀ (rest pre : Bytes) (l : List Nd), FlatP (partG (pre ++ escB rest)) (pre ++ escB rest) l pre.length r → r = .ok (joinN 3 (l ++ rest.map oneB), (pre ++ escB rest).length)
 | [], pre, l, k => by
  cases k with
  | stop s => simp [escB]
  | bad s h => simp [escB] at s
  | more s h m => simp [escB] at s
 | c :: rest, pre, l, k => by
  rw [escB] at k ⊢
  have hc := at?_app pre (92 :: c :: escB rest) 0
  have hd := at?_app pre (92 :: c :: escB rest) 1
  rw [Nat.add_zero] at hc
  have hc : at? (pre ++ 92 :: c :: escB rest) pre.length = some 92 := hc
  have hd : at? (pre ++ 92 :: c :: escB rest) (pre.length + 1) = some c.toNat := hd
  have hp : partG (pre ++ 92 :: c :: escB rest) pre.length = .ok (oneN c.toNat, pre.length + 2) := by
   unfold partG
   rw [hc]
   dsimp only
   rw [if_neg (by decide), if_neg (by decide), if_pos rfl, hd]
  cases k with
  | stop s => simp at s; omega
  | bad s h => rw [hp] at h; cases h
  | more s h m =>
   rw [hp] at h
   cases h
   have e : pre ++ 92 :: c :: escB rest = (pre ++ [92, c]) ++ escB rest := by simp
   have m' : FlatP (partG ((pre ++ [92, c]) ++ escB rest)) ((pre ++ [92, c]) ++ escB rest) (l ++ [oneB c]) (pre ++ [92, c]).length r := by
    rw [← e, List.length_append]
    exact m
   have := flat_esc rest (pre ++ [92, c]) (l ++ [oneB c]) m'
   rw [this, ← e]
   simp
theorem atom_esc {c : Nat} {r : Res} (h1 : at? u i = some 92) (h2 : at? u (i + 1) = some c) (k : AtomP u i r) : r = .ok (oneN c, i + 2) := by
 cases k with
 | none h => rw [h1] at h; cases h
 | open_bad h m => rw [h1] at h; cases h
 | open_end h m n => rw [h1] at h; cases h
 | group h m n => rw [h1] at h; cases h
 | any h => rw [h1] at h; cases h
 | set_bad h m => rw [h1] at h; cases h
 | set h m => rw [h1] at h; cases h
 | sl_end h n => rw [h2] at n; cases n
 | sl h n =>
  rw [h2] at n
  cases n
  rfl
 | bad h b =>
  rw [h1] at h
  cases h
  unfold badAtom at b
  omega
 | one h b n =>
  rw [h1] at h
  cases h
  exact absurd rfl n.2.2.2
theorem row_esc {r : Res} : ∀ (rest pre : Bytes) (l : List Nd), RowP (pre ++ escB rest) l pre.length r → r = .ok (joinN 3 (l ++ rest.map oneB), (pre ++ escB rest).length)
 | [], pre, l, k => by
  have hst : stops (pre ++ escB []) pre.length := .inl (at?_ge (by simp [escB]))
  cases k with
  | stop s => simp [escB]
  | bad s h => exact absurd hst s
  | more s h m => exact absurd hst s
 | c :: rest, pre, l, k => by
  rw [escB] at k ⊢
  have hc := at?_app pre (92 :: c :: escB rest) 0
  have hd := at?_app pre (92 :: c :: escB rest) 1
  have he := at?_app pre (92 :: c :: escB rest) 2
  rw [Nat.add_zero] at hc
  have hc : at? (pre ++ 92 :: c :: escB rest) pre.length = some 92 := hc
  have hd : at? (pre ++ 92 :: c :: escB rest) (pre.length + 1) = some c.toNat := hd
  have hs : signAt (pre ++ 92 :: c :: escB rest) (pre.length + 2) = 0 := by
   unfold signAt
   rw [he]
   cases rest with
   | nil => rfl
   | cons c2 rest2 => rfl
  have hp : ∀ {q : Res}, PartP (pre ++ 92 :: c :: escB rest) pre.length q → q = .ok (oneN c.toNat, pre.length + 2) := by
   intro q kq
   cases kq with
   | bad h => exact absurd (atom_esc hc hd h) (by simp)
   | bare h n => exact atom_esc hc hd h
   | sign h n =>
    have := atom_esc hc hd h
    cases this
    exact absurd hs n
  cases k with
  | stop s =>
   rcases s with s | s | s <;> rw [hc] at s <;> cases s
  | bad s h => exact absurd (hp h) (by simp)
  | more s h m =>
   have := hp h
   cases this
   have e : pre ++ 92 :: c :: escB rest = (pre ++ [92, c]) ++ escB rest := by simp
   have m' : RowP ((pre ++ [92, c]) ++ escB rest) (l ++ [oneB c]) (pre ++ [92, c]).length r := by
    rw [← e, List.length_append]
    exact m
   have := row_esc rest (pre ++ [92, c]) (l ++ [oneB c]) m'
   rw [this, ← e]
   simp
theorem alt_esc {s : Bytes} {r : Res} (k : AltP (escB s) [] 0 r) : r = .ok (joinN 3 (s.map oneB), (escB s).length) := by
 cases k with
 | bad h => exact absurd (row_esc s [] [] h) (by simp)
 | last h n =>
  have := row_esc s [] [] h
  cases this
  simp [joinN]
 | more h n m =>
  have := row_esc s [] [] h
  cases this
  rw [at?_ge (by simp)] at n
  cases n
theorem tree_lit {s : Bytes} {r : Except Nat Nd} (k : TreeP s 1 r) : r = .ok (joinN 3 (s.map oneB)) := by
 cases k with
 | lit h =>
  have := flat_lit s [] [] h
  cases this
  rfl
theorem tree_globE {s : Bytes} {r : Except Nat Nd} (k : TreeP (escB s) 2 r) : r = .ok (joinN 3 (s.map oneB)) := by
 cases k with
 | glob h =>
  have := flat_esc s [] [] h
  cases this
  rfl
theorem tree_globB {s : Bytes} {r : Except Nat Nd} (hb : ∀ c ∈ s, c.toNat ≠ 42 ∧ c.toNat ≠ 63 ∧ c.toNat ≠ 92) (k : TreeP s 2 r) : r = .ok (joinN 3 (s.map oneB)) := by
 cases k with
 | glob h =>
  have := flat_bare s [] [] hb h
  cases this
  rfl
theorem tree_reE {s : Bytes} {r : Except Nat Nd} (k : TreeP (escB s) 3 r) : r = .ok (joinN 3 (s.map oneB)) := by
 cases k with
 | re_bad h => exact absurd (alt_esc h) (by simp)
 | re_end h n =>
  have := alt_esc h
  cases this
  exact absurd rfl n
 | re h =>
  have := alt_esc h
  cases this
  rfl
end
set_option maxHeartbeats 4000000
set_option maxRecDepth 20000
noncomputable def law09_PatternEscapes_L0b (t0 : Bytes) (k18 : AV → Bool → AHeap → R) (self : AV → Bool → Int → AHeap → R) (t3_139 : AV) (t4_140 : Bool) (t5 : Int) (h_141 : AHeap) : R :=
 lett (decide (t5 < (lenS t0))) fun (t22 : Bool) =>
 ifB t22
 (
  obind (idxS t0 t5) fun t28 =>
  outK (bldSl Pg h_141 50 2 [(0, .int .u8 92), (1, .int .u8 t28)]) fun v29 h_149 =>
  outK (opAppend Pg h_149 50 50 t3_139 v29) fun v30 h_151 =>
  lett (fun (t37 : Bool) (h_153 : AHeap) =>
   lett (fun (t43 : Bool) (h_156 : AHeap) =>
    lett (fun (t49 : Bool) (h_159 : AHeap) =>
     lett (IntKind.i64.wrap (t5 + 1)) fun (t24 : Int) =>
     self v30 t49 t24 h_159) fun j49 =>
    ifB t43
    (
     obind (idxS t0 t5) fun t47 =>
     lett ((t47 : Int) != 92) fun (t48 : Bool) =>
     j49 t48 h_156)
    (
     j49 false h_156)) fun j43 =>
   ifB t37
   (
    obind (idxS t0 t5) fun t41 =>
    lett ((t41 : Int) != 63) fun (t42 : Bool) =>
    j43 t42 h_153)
   (
    j43 false h_153)) fun j37 =>
  ifB t4_140
  (
   obind (idxS t0 t5) fun t35 =>
   lett ((t35 : Int) != 42) fun (t36 : Bool) =>
   j37 t36 h_151)
  (
   j37 false h_151))
 (
  k18 t3_139 t4_140 h_141)
noncomputable def law09_PatternEscapes_L0 (t0 : Bytes) (k18 : AV → Bool → AHeap → R) : Nat → AV → Bool → Int → AHeap → R := iterR (fun _ _ _ _ => none) (law09_PatternEscapes_L0b t0 k18)
theorem law09_PatternEscapes_L0_s (t0 : Bytes) (k18 : AV → Bool → AHeap → R) (m : Nat) : law09_PatternEscapes_L0 t0 k18 (m + 1) = law09_PatternEscapes_L0b t0 k18 (law09_PatternEscapes_L0 t0 k18 m) := rfl
noncomputable def law09_PatternEscapes (call : CallF) (n : Nat) (t0 : Bytes) (h : AHeap) : R :=
 callN (call 13 [] h) fun r14 h_4 =>
 obind (avBool r14) fun t14 =>
 lett (!t14) fun (t15 : Bool) =>
 ifB t15
 (
  some (.ret (.bool false), h_4))
 (
  lett (decide ((lenS t0) > 32)) fun (t18 : Bool) =>
  ifB t18
  (
   some (.ret (.bool true), h_4))
  (
   lett (fun (t3 : AV) (t4 : Bool) (h_19 : AHeap) =>
    callN (call 21 [.agg ([.int .i64 1, strA t0] : List AV)] h_19) fun r53 h_21 =>
    obind (extT 0 r53) fun v54 =>
    obind (avAgg v54) fun t54 =>
    obind (extT 1 r53) fun v55 =>
    obind (avAgg v55) fun t55 =>
    lett (newH h_21 41 [.int .i64 0, .int .u64 0, .int .u64 0, .int .u64 0, .int .u64 0, .nsl]) fun h_27 =>
    lett (newH h_27 27 [.int .i64 0, .int .i64 0]) fun h_29 =>
    obind (stRow h_29 6 t54 (newP h_21)) fun h_31 =>
    obind (stRow h_31 2 t55 (newP h_27)) fun h_33 =>
    outK (opConv Pg h_33 50 9 (some t3)) fun v58 h_36 =>
    obind (avStr v58) fun t58 =>
    callN (call 21 [.agg ([.int .i64 2, strA t58] : List AV)] h_36) fun r60 h_39 =>
    obind (extT 0 r60) fun v61 =>
    obind (avAgg v61) fun t61 =>
    obind (extT 1 r60) fun v62 =>
    obind (avAgg v62) fun t62 =>
    lett (newH h_39 41 [.int .i64 0, .int .u64 0, .int .u64 0, .int .u64 0, .int .u64 0, .nsl]) fun h_45 =>
    lett (newH h_45 27 [.int .i64 0, .int .i64 0]) fun h_47 =>
    obind (stRow h_47 6 t61 (newP h_39)) fun h_49 =>
    obind (stRow h_49 2 t62 (newP h_45)) fun h_51 =>
    outK (opConv Pg h_51 50 9 (some t3)) fun v65 h_54 =>
    obind (avStr v65) fun t65 =>
    callN (call 21 [.agg ([.int .i64 3, strA t65] : List AV)] h_54) fun r67 h_57 =>
    obind (extT 0 r67) fun v68 =>
    obind (avAgg v68) fun t68 =>
    obind (extT 1 r67) fun v69 =>
    obind (avAgg v69) fun t69 =>
    lett (newH h_57 41 [.int .i64 0, .int .u64 0, .int .u64 0, .int .u64 0, .int .u64 0, .nsl]) fun h_63 =>
    lett (newH h_63 27 [.int .i64 0, .int .i64 0]) fun h_65 =>
    obind (stRow h_65 6 t68 (newP h_57)) fun h_67 =>
    obind (stRow h_67 2 t69 (newP h_63)) fun h_69 =>
    obind (ldCell h_69 (AV.ptr (AHeap.next h_27) 0)) fun v71 =>
    obind (avInt .i64 v71) fun t71 =>
    lett ((t71 : Int) != 0) fun (t72 : Bool) =>
    lett (fun (t77 : Bool) (h_76 : AHeap) =>
     lett (fun (t82 : Bool) (h_79 : AHeap) =>
      lett (fun (t88 : Bool) (h_82 : AHeap) =>
       lett (fun (t94 : Bool) (h_85 : AHeap) =>
        ifB t94
        (
         some (.ret (.bool false), h_85))
        (
         callN (call 21 [.agg ([.int .i64 2, strA t0] : List AV)] h_85) fun r98 h_90 =>
         obind (extT 0 r98) fun v99 =>
         obind (avAgg v99) fun t99 =>
         obind (extT 1 r98) fun v100 =>
         obind (avAgg v100) fun t100 =>
         lett (newH h_90 41 [.int .i64 0, .int .u64 0, .int .u64 0, .int .u64 0, .int .u64 0, .nsl]) fun h_96 =>
         lett (newH h_96 27 [.int .i64 0, .int .i64 0]) fun h_98 =>
         obind (stRow h_98 6 t99 (newP h_90)) fun h_100 =>
         obind (stRow h_100 2 t100 (newP h_96)) fun h_102 =>
         lett (!t4) fun (t102 : Bool) =>
         lett (fun (t112 : Bool) (h_106 : AHeap) =>
          some (.ret (.bool t112), h_106)) fun j112 =>
         ifB t102
         (
          j112 true h_102)
         (
          obind (ldCell h_102 (AV.ptr (AHeap.next h_96) 0)) fun v105 =>
          obind (avInt .i64 v105) fun t105 =>
          lett ((t105 : Int) == 0) fun (t106 : Bool) =>
          lett (fun (t111 : Bool) (h_112 : AHeap) =>
           j112 t111 h_112) fun j111 =>
          ifB t106
          (
           obind (ldRow h_102 6 (newP h_21)) fun t108 =>
           obind (ldRow h_102 6 (newP h_90)) fun t109 =>
           callN (call 23 [.agg t108, .agg t109] h_102) fun r110 h_117 =>
           obind (avBool r110) fun t110 =>
           j111 t110 h_117)
          (
           j111 false h_102)))) fun j94 =>
       ifB t88
       (
        j94 true h_82)
       (
        obind (ldRow h_82 6 (newP h_21)) fun t90 =>
        obind (ldRow h_82 6 (newP h_57)) fun t91 =>
        callN (call 23 [.agg t90, .agg t91] h_82) fun r92 h_122 =>
        obind (avBool r92) fun t92 =>
        lett (!t92) fun (t93 : Bool) =>
        j94 t93 h_122)) fun j88 =>
      ifB t82
      (
       j88 true h_79)
      (
       obind (ldRow h_79 6 (newP h_21)) fun t84 =>
       obind (ldRow h_79 6 (newP h_39)) fun t85 =>
       callN (call 23 [.agg t84, .agg t85] h_79) fun r86 h_128 =>
       obind (avBool r86) fun t86 =>
       lett (!t86) fun (t87 : Bool) =>
       j88 t87 h_128)) fun j82 =>
     ifB t77
     (
      j82 true h_76)
     (
      obind (ldCell h_76 (AV.ptr (AHeap.next h_63) 0)) fun v80 =>
      obind (avInt .i64 v80) fun t80 =>
      lett ((t80 : Int) != 0) fun (t81 : Bool) =>
      j82 t81 h_76)) fun j77 =>
    ifB t72
    (
     j77 true h_69)
    (
     obind (ldCell h_69 (AV.ptr (AHeap.next h_45) 0)) fun v75 =>
     obind (avInt .i64 v75) fun t75 =>
     lett ((t75 : Int) != 0) fun (t76 : Bool) =>
     j77 t76 h_69)) fun k18 =>
   law09_PatternEscapes_L0 t0 k18 n AV.nsl true 0 h_4))
theorem law09_PatternEscapes_ok {call : CallF} (hc : SaysAll Pg call) {n : Nat} {t0 : Bytes} {h : AHeap} {rR : ARes} {hR : AHeap} (z : law09_PatternEscapes call n t0 h = some (rR, hR)) : Says Pg 10 [strA t0] h rR hR := by
 unfold law09_PatternEscapes at z
 refine says_of (fn := Try.f10) Try.func10 (c := codeOf Try.f10) (by kernel_rfl) (by kernel_rfl) (fun w0 m0 => ?_)
 refine W.weaken (l' := [(0, strA t0)]) (Fr.c Fr.n) ?_
 refine W.s (fun _ n1 _ _ p1 => ?_)
 refine W.r ?_
 refine WL.a (some 2) (.bool false) h ?_
 refine WL.n ?_
 refine Go.weaken (l' := [(0, strA t0)]) (Fr.c Fr.n) ?_
 refine n1 ?_
 refine W.s (fun _ n2 _ q2 p2 => ?_)
 refine W.s (fun _ n3 _ _ _ => ?_)
 refine W.r ?_
 replace z := callN_some z; obtain ⟨r14, h_4, e5, z⟩ := z
 replace z := oS z; obtain ⟨t14, c6, z⟩ := z
 have c6 := avBool_some c6
 subst c6
 refine WL.c (hc.ok w0) (some 14) e5 ?_
 replace z := lS z; obtain ⟨t15, e7, z⟩ := z
 refine WL.val (d := (some 15)) (v := .bool t15) (h' := h_4) (by kernel_rfl) (by kernel_rfl) (val_of AV.bool e7 (by kernel_rfl)) ?_
 refine WL.n ?_
 refine Go.weaken (l' := [(0, strA t0), (15, .bool t15)]) (Fr.c (Fr.c Fr.n)) ?_
 refine n3 ?_
 cases t15 with
 | true =>
  replace z := ifB_t z
  refine W.t ?_
  refine W.s (fun _ n8 _ _ _ => ?_)
  refine W.r ?_
  refine WL.a (some 2) (.bool false) h_4 ?_
  refine WL.n ?_
  refine Go.weaken (l' := [(2, .bool false)]) (Fr.c Fr.n) ?_
  refine n8 ?_
  refine W.ret (by kernel_rfl) ?_
  refine q2 ?_
  obtain ⟨z, hF2⟩ := ret_inj z; subst z; subst hF2
  exact leave_of (rs := [.tmp 2]) (vs := [.bool false]) (by kernel_rfl) (res_tmp (by kernel_rfl) res_nil) (by kernel_rfl)
 | false =>
  replace z := ifB_f z
  refine W.f ?_
  refine W.skip (by kernel_rfl) ?_
  refine n2 ?_
  refine W.s (fun _ n9 _ q9 _ => ?_)
  refine W.s (fun _ n10 _ _ _ => ?_)
  refine W.r ?_
  refine WL.a (some 16) (strA t0) h_4 ?_
  refine WL.a (some 17) (.int .i64 (lenS t0)) h_4 ?_
  replace z := lS z; obtain ⟨t18, e11, z⟩ := z
  refine WL.val (d := (some 18)) (v := .bool t18) (h' := h_4) (by kernel_rfl) (by kernel_rfl) (val_of AV.bool e11 (by kernel_rfl)) ?_
  refine WL.n ?_
  refine Go.weaken (l' := [(0, strA t0), (18, .bool t18)]) (Fr.c (Fr.c Fr.n)) ?_
  refine n10 ?_
  cases t18 with
  | true =>
   replace z := ifB_t z
   refine W.t ?_
   refine W.s (fun _ n12 _ _ _ => ?_)
   refine W.r ?_
   refine WL.a (some 2) (.bool true) h_4 ?_
   refine WL.n ?_
   refine Go.weaken (l' := [(2, .bool true)]) (Fr.c Fr.n) ?_
   refine n12 ?_
   refine W.ret (by kernel_rfl) ?_
   refine q9 ?_
   obtain ⟨z, hF2⟩ := ret_inj z; subst z; subst hF2
   exact leave_of (rs := [.tmp 2]) (vs := [.bool true]) (by kernel_rfl) (res_tmp (by kernel_rfl) res_nil) (by kernel_rfl)
  | false =>
   replace z := ifB_f z
   refine W.f ?_
   refine W.skip (by kernel_rfl) ?_
   refine n9 ?_
   refine W.s (fun _ n13 _ _ _ => ?_)
   refine W.r ?_
   refine WL.a (some 3) AV.nsl h_4 ?_
   refine WL.n ?_
   refine Go.weaken (l' := [(0, strA t0), (3, AV.nsl)]) (Fr.c (Fr.c Fr.n)) ?_
   refine n13 ?_
   refine W.s (fun _ n14 _ _ _ => ?_)
   refine W.r ?_
   refine WL.a (some 4) (.bool true) h_4 ?_
   refine WL.n ?_
   refine Go.weaken (l' := [(0, strA t0), (3, AV.nsl), (4, .bool true)]) (Fr.c (Fr.c (Fr.c Fr.n))) ?_
   refine n14 ?_
   refine W.s (fun K15 n15 _ _ _ => ?_)
   refine W.s (fun _ n16 _ _ _ => ?_)
   refine W.r ?_
   refine WL.a (some 5) (.int .i64 0) h_4 ?_
   refine WL.n ?_
   refine Go.weaken (l' := [(0, strA t0), (3, AV.nsl), (4, .bool true), (5, .int .i64 0)]) (Fr.c (Fr.c (Fr.c (Fr.c Fr.n)))) ?_
   refine n16 ?_
   replace z := lS z; obtain ⟨k18, e18, z⟩ := z
   have J18 : ∀ (t3 : AV) (t4 : Bool) (h_19 : AHeap), k18 t3 t4 h_19 = some (rR, hR) → Go w0 m0 (Func.ntmps Try.f10) (K15 .normal) [(0, strA t0), (3, t3), (4, .bool t4)] [] h_19 := by
    intro t3 t4 h_19 z
    rw [e18] at z
    refine n15 ?_
    refine W.s (fun _ n20 _ _ _ => ?_)
    refine W.r ?_
    refine WL.a (some 51) (strA t0) h_19 ?_
    refine WL.a (some 52) (.agg ([.int .i64 1, strA t0] : List AV)) h_19 ?_
    replace z := callN_some z; obtain ⟨r53, h_21, e22, z⟩ := z
    refine WL.c (hc.ok w0) (some 53) e22 ?_
    refine WL.a (some 50) r53 h_21 ?_
    replace z := oS z; obtain ⟨v54, e23, z⟩ := z
    replace z := oS z; obtain ⟨t54, c24, z⟩ := z
    have c24 := avAgg_some c24
    subst c24
    refine WL.b (some 54) (.agg t54) h_21 (extract_tup (h := h_21) e23) ?_
    replace z := oS z; obtain ⟨v55, e25, z⟩ := z
    replace z := oS z; obtain ⟨t55, c26, z⟩ := z
    have c26 := avAgg_some c26
    subst c26
    refine WL.b (some 55) (.agg t55) h_21 (extract_tup (h := h_21) e25) ?_
    replace z := lS z; obtain ⟨h_27, e28, z⟩ := z
    refine WL.val (d := (some 6)) (v := (newP h_21)) (h' := h_27) (by kernel_rfl) (by kernel_rfl) (val_ofH e28 (by kernel_rfl)) ?_
    replace z := lS z; obtain ⟨h_29, e30, z⟩ := z
    refine WL.val (d := (some 7)) (v := (newP h_27)) (h' := h_29) (by kernel_rfl) (by kernel_rfl) (val_ofH e30 (by kernel_rfl)) ?_
    replace z := oS z; obtain ⟨h_31, e32, z⟩ := z
    refine WL.e h_31 (store_row (P := Pg) (h := h_29) (t := 41) (v := (.agg t54)) (by kernel_rfl) (by kernel_rfl) e32) ?_
    replace z := oS z; obtain ⟨h_33, e34, z⟩ := z
    refine WL.e h_33 (store_row (P := Pg) (h := h_31) (t := 27) (v := (.agg t55)) (by kernel_rfl) (by kernel_rfl) e34) ?_
    refine WL.n ?_
    refine Go.weaken (l' := [(0, strA t0), (3, t3), (4, .bool t4), (6, newP h_21), (7, newP h_27)]) (Fr.c (Fr.c (Fr.c (Fr.c (Fr.c Fr.n))))) ?_
    refine n20 ?_
    refine W.s (fun _ n35 _ _ _ => ?_)
    refine W.r ?_
    refine WL.a (some 57) t3 h_33 ?_
    replace z := outK_some z; obtain ⟨v58, h_36, e37, z⟩ := z
    replace z := oS z; obtain ⟨t58, c38, z⟩ := z
    have c38 := avStr_some c38
    subst c38
    refine WL.b (some 58) (strA t58) h_36 e37 ?_
    refine WL.a (some 59) (.agg ([.int .i64 2, strA t58] : List AV)) h_36 ?_
    replace z := callN_some z; obtain ⟨r60, h_39, e40, z⟩ := z
    refine WL.c (hc.ok w0) (some 60) e40 ?_
    refine WL.a (some 56) r60 h_39 ?_
    replace z := oS z; obtain ⟨v61, e41, z⟩ := z
    replace z := oS z; obtain ⟨t61, c42, z⟩ := z
    have c42 := avAgg_some c42
    subst c42
    refine WL.b (some 61) (.agg t61) h_39 (extract_tup (h := h_39) e41) ?_
    replace z := oS z; obtain ⟨v62, e43, z⟩ := z
    replace z := oS z; obtain ⟨t62, c44, z⟩ := z
    have c44 := avAgg_some c44
    subst c44
    refine WL.b (some 62) (.agg t62) h_39 (extract_tup (h := h_39) e43) ?_
    replace z := lS z; obtain ⟨h_45, e46, z⟩ := z
    refine WL.val (d := (some 8)) (v := (newP h_39)) (h' := h_45) (by kernel_rfl) (by kernel_rfl) (val_ofH e46 (by kernel_rfl)) ?_
    replace z := lS z; obtain ⟨h_47, e48, z⟩ := z
    refine WL.val (d := (some 9)) (v := (newP h_45)) (h' := h_47) (by kernel_rfl) (by kernel_rfl) (val_ofH e48 (by kernel_rfl)) ?_
    replace z := oS z; obtain ⟨h_49, e50, z⟩ := z
    refine WL.e h_49 (store_row (P := Pg) (h := h_47) (t := 41) (v := (.agg t61)) (by kernel_rfl) (by kernel_rfl) e50) ?_
    replace z := oS z; obtain ⟨h_51, e52, z⟩ := z
    refine WL.e h_51 (store_row (P := Pg) (h := h_49) (t := 27) (v := (.agg t62)) (by kernel_rfl) (by kernel_rfl) e52) ?_
    refine WL.n ?_
    refine Go.weaken (l' := [(0, strA t0), (3, t3), (4, .bool t4), (6, newP h_21), (7, newP h_27), (8, newP h_39), (9, newP h_45)]) (Fr.c (Fr.c (Fr.c (Fr.c (Fr.c (Fr.c (Fr.c Fr.n))))))) ?_
    refine n35 ?_
    refine W.s (fun _ n53 _ _ _ => ?_)
    refine W.r ?_
    refine WL.a (some 64) t3 h_51 ?_
    replace z := outK_some z; obtain ⟨v65, h_54, e55, z⟩ := z
    replace z := oS z; obtain ⟨t65, c56, z⟩ := z
    have c56 := avStr_some c56
    subst c56
    refine WL.b (some 65) (strA t65) h_54 e55 ?_
    refine WL.a (some 66) (.agg ([.int .i64 3, strA t65] : List AV)) h_54 ?_
    replace z := callN_some z; obtain ⟨r67, h_57, e58, z⟩ := z
    refine WL.c (hc.ok w0) (some 67) e58 ?_
    refine WL.a (some 63) r67 h_57 ?_
    replace z := oS z; obtain ⟨v68, e59, z⟩ := z
    replace z := oS z; obtain ⟨t68, c60, z⟩ := z
    have c60 := avAgg_some c60
    subst c60
    refine WL.b (some 68) (.agg t68) h_57 (extract_tup (h := h_57) e59) ?_
    replace z := oS z; obtain ⟨v69, e61, z⟩ := z
    replace z := oS z; obtain ⟨t69, c62, z⟩ := z
    have c62 := avAgg_some c62
    subst c62
    refine WL.b (some 69) (.agg t69) h_57 (extract_tup (h := h_57) e61) ?_
    replace z := lS z; obtain ⟨h_63, e64, z⟩ := z
    refine WL.val (d := (some 10)) (v := (newP h_57)) (h' := h_63) (by kernel_rfl) (by kernel_rfl) (val_ofH e64 (by kernel_rfl)) ?_
    replace z := lS z; obtain ⟨h_65, e66, z⟩ := z
    refine WL.val (d := (some 11)) (v := (newP h_63)) (h' := h_65) (by kernel_rfl) (by kernel_rfl) (val_ofH e66 (by kernel_rfl)) ?_
    replace z := oS z; obtain ⟨h_67, e68, z⟩ := z
    refine WL.e h_67 (store_row (P := Pg) (h := h_65) (t := 41) (v := (.agg t68)) (by kernel_rfl) (by kernel_rfl) e68) ?_
    replace z := oS z; obtain ⟨h_69, e70, z⟩ := z
    refine WL.e h_69 (store_row (P := Pg) (h := h_67) (t := 27) (v := (.agg t69)) (by kernel_rfl) (by kernel_rfl) e70) ?_
    refine WL.n ?_
    refine Go.weaken (l' := [(0, strA t0), (4, .bool t4), (6, newP h_21), (7, newP h_27), (8, newP h_39), (9, newP h_45), (10, newP h_57), (11, newP h_63)]) (Fr.c (Fr.c (Fr.c (Fr.c (Fr.c (Fr.c (Fr.c (Fr.c Fr.n)))))))) ?_
    refine n53 ?_
    refine W.s (fun _ n71 _ q71 _ => ?_)
    refine W.s (fun K72 n72 _ _ _ => ?_)
    refine W.r ?_
    refine WL.a (some 70) (AV.ptr (AHeap.next h_27) 0) h_69 ?_
    replace z := oS z; obtain ⟨v71, e73, z⟩ := z
    replace z := oS z; obtain ⟨t71, c74, z⟩ := z
    have c74 := avInt_some c74
    subst c74
    refine WL.b (some 71) (.int .i64 t71) h_69 (load_cell (P := Pg) (h := h_69) (t := 25) (by kernel_rfl) e73) ?_
    replace z := lS z; obtain ⟨t72, e75, z⟩ := z
    refine WL.val (d := (some 72)) (v := .bool t72) (h' := h_69) (by kernel_rfl) (by kernel_rfl) (val_of AV.bool e75 (by kernel_rfl)) ?_
    refine WL.a (some 73) (.bool t72) h_69 ?_
    replace z := lS z; obtain ⟨j77, e77, z⟩ := z
    have J78 : ∀ (t77 : Bool) (h_76 : AHeap), j77 t77 h_76 = some (rR, hR) → WL Pg w0 m0 (Func.ntmps Try.f10) (Code.ops (Code.p1 (Code.p1 (Code.p2 (Code.p2 (Code.p2 (Code.p2 (Code.p2 (Code.p2 (Code.p2 (Code.p2 (Code.p2 (codeOf Try.f10))))))))))))) 8 K72 [(0, strA t0), (4, .bool t4), (6, newP h_21), (8, newP h_39), (10, newP h_57), (11, newP h_63), (77, .bool t77)] [] h_76 := by
     intro t77 h_76 z
     rw [e77] at z
     refine WL.a (some 78) (.bool t77) h_76 ?_
     replace z := lS z; obtain ⟨j82, e80, z⟩ := z
     have J81 : ∀ (t82 : Bool) (h_79 : AHeap), j82 t82 h_79 = some (rR, hR) → WL Pg w0 m0 (Func.ntmps Try.f10) (Code.ops (Code.p1 (Code.p1 (Code.p2 (Code.p2 (Code.p2 (Code.p2 (Code.p2 (Code.p2 (Code.p2 (Code.p2 (Code.p2 (codeOf Try.f10))))))))))))) 13 K72 [(0, strA t0), (4, .bool t4), (6, newP h_21), (8, newP h_39), (10, newP h_57), (82, .bool t82)] [] h_79 := by
      intro t82 h_79 z
      rw [e80] at z
      refine WL.a (some 83) (.bool t82) h_79 ?_
      replace z := lS z; obtain ⟨j88, e83, z⟩ := z
      have J84 : ∀ (t88 : Bool) (h_82 : AHeap), j88 t88 h_82 = some (rR, hR) → WL Pg w0 m0 (Func.ntmps Try.f10) (Code.ops (Code.p1 (Code.p1 (Code.p2 (Code.p2 (Code.p2 (Code.p2 (Code.p2 (Code.p2 (Code.p2 (Code.p2 (Code.p2 (codeOf Try.f10))))))))))))) 19 K72 [(0, strA t0), (4, .bool t4), (6, newP h_21), (10, newP h_57), (88, .bool t88)] [] h_82 := by
       intro t88 h_82 z
       rw [e83] at z
       refine WL.a (some 89) (.bool t88) h_82 ?_
       replace z := lS z; obtain ⟨j94, e86, z⟩ := z
       have J87 : ∀ (t94 : Bool) (h_85 : AHeap), j94 t94 h_85 = some (rR, hR) → WL Pg w0 m0 (Func.ntmps Try.f10) (Code.ops (Code.p1 (Code.p1 (Code.p2 (Code.p2 (Code.p2 (Code.p2 (Code.p2 (Code.p2 (Code.p2 (Code.p2 (Code.p2 (codeOf Try.f10))))))))))))) 25 K72 [(0, strA t0), (4, .bool t4), (6, newP h_21), (94, .bool t94)] [] h_85 := by
        intro t94 h_85 z
        rw [e86] at z
        refine WL.n ?_
        refine Go.weaken (l' := [(0, strA t0), (4, .bool t4), (6, newP h_21), (94, .bool t94)]) (Fr.c (Fr.c (Fr.c (Fr.c Fr.n)))) ?_
        refine n72 ?_
        cases t94 with
        | true =>
         replace z := ifB_t z
         refine W.t ?_
         refine W.s (fun _ n88 _ _ _ => ?_)
         refine W.r ?_
         refine WL.a (some 2) (.bool false) h_85 ?_
         refine WL.n ?_
         refine Go.weaken (l' := [(2, .bool false)]) (Fr.c Fr.n) ?_
         refine n88 ?_
         refine W.ret (by kernel_rfl) ?_
         refine q71 ?_
         obtain ⟨z, hF2⟩ := ret_inj z; subst z; subst hF2
         exact leave_of (rs := [.tmp 2]) (vs := [.bool false]) (by kernel_rfl) (res_tmp (by kernel_rfl) res_nil) (by kernel_rfl)
        | false =>
         replace z := ifB_f z
         refine W.f ?_
         refine W.skip (by kernel_rfl) ?_
         refine n71 ?_
         refine W.s (fun _ n89 _ _ _ => ?_)
         refine W.r ?_
         refine WL.a (some 96) (strA t0) h_85 ?_
         refine WL.a (some 97) (.agg ([.int .i64 2, strA t0] : List AV)) h_85 ?_
         replace z := callN_some z; obtain ⟨r98, h_90, e91, z⟩ := z
         refine WL.c (hc.ok w0) (some 98) e91 ?_
         refine WL.a (some 95) r98 h_90 ?_
         replace z := oS z; obtain ⟨v99, e92, z⟩ := z
         replace z := oS z; obtain ⟨t99, c93, z⟩ := z
         have c93 := avAgg_some c93
         subst c93
         refine WL.b (some 99) (.agg t99) h_90 (extract_tup (h := h_90) e92) ?_
         replace z := oS z; obtain ⟨v100, e94, z⟩ := z
         replace z := oS z; obtain ⟨t100, c95, z⟩ := z
         have c95 := avAgg_some c95
         subst c95
         refine WL.b (some 100) (.agg t100) h_90 (extract_tup (h := h_90) e94) ?_
         replace z := lS z; obtain ⟨h_96, e97, z⟩ := z
         refine WL.val (d := (some 12)) (v := (newP h_90)) (h' := h_96) (by kernel_rfl) (by kernel_rfl) (val_ofH e97 (by kernel_rfl)) ?_
         replace z := lS z; obtain ⟨h_98, e99, z⟩ := z
         refine WL.val (d := (some 13)) (v := (newP h_96)) (h' := h_98) (by kernel_rfl) (by kernel_rfl) (val_ofH e99 (by kernel_rfl)) ?_
         replace z := oS z; obtain ⟨h_100, e101, z⟩ := z
         refine WL.e h_100 (store_row (P := Pg) (h := h_98) (t := 41) (v := (.agg t99)) (by kernel_rfl) (by kernel_rfl) e101) ?_
         replace z := oS z; obtain ⟨h_102, e103, z⟩ := z
         refine WL.e h_102 (store_row (P := Pg) (h := h_100) (t := 27) (v := (.agg t100)) (by kernel_rfl) (by kernel_rfl) e103) ?_
         refine WL.n ?_
         refine Go.weaken (l' := [(4, .bool t4), (6, newP h_21), (12, newP h_90), (13, newP h_96)]) (Fr.c (Fr.c (Fr.c (Fr.c Fr.n)))) ?_
         refine n89 ?_
         refine W.s (fun K104 n104 _ _ _ => ?_)
         refine W.r ?_
         refine WL.a (some 101) (.bool t4) h_102 ?_
         replace z := lS z; obtain ⟨t102, e105, z⟩ := z
         refine WL.val (d := (some 102)) (v := .bool t102) (h' := h_102) (by kernel_rfl) (by kernel_rfl) (val_of AV.bool e105 (by kernel_rfl)) ?_
         refine WL.a (some 103) (.bool t102) h_102 ?_
         replace z := lS z; obtain ⟨j112, e107, z⟩ := z
         have J108 : ∀ (t112 : Bool) (h_106 : AHeap), j112 t112 h_106 = some (rR, hR) → WL Pg w0 m0 (Func.ntmps Try.f10) (Code.ops (Code.p1 (Code.p2 (Code.p2 (Code.p2 (Code.p2 (Code.p2 (Code.p2 (Code.p2 (Code.p2 (Code.p2 (Code.p2 (Code.p2 (codeOf Try.f10)))))))))))))) 12 K104 [(112, .bool t112)] [] h_106 := by
          intro t112 h_106 z
          rw [e107] at z
          refine WL.a (some 2) (.bool t112) h_106 ?_
          refine WL.n ?_
          refine Go.weaken (l' := [(2, .bool t112)]) (Fr.c Fr.n) ?_
          refine n104 ?_
          refine W.ret (by kernel_rfl) ?_
          obtain ⟨z, hF2⟩ := ret_inj z; subst z; subst hF2
          exact leave_of (rs := [.tmp 2]) (vs := [.bool t112]) (by kernel_rfl) (res_tmp (by kernel_rfl) res_nil) (by kernel_rfl)
         cases t102 with
         | true =>
          replace z := ifB_t z
          refine WL.o (some 104) ?_
          refine WL.o (some 105) ?_
          refine WL.o (some 106) ?_
          refine WL.o (some 107) ?_
          refine WL.o (some 108) ?_
          refine WL.o (some 109) ?_
          refine WL.o (some 110) ?_
          refine WL.o (some 111) ?_
          refine WL.a (some 112) (.bool true) h_102 ?_
          exact WL.weaken (Fr.c Fr.n) (J108 _ _ z)
         | false =>
          replace z := ifB_f z
          refine WL.a (some 104) (AV.ptr (AHeap.next h_96) 0) h_102 ?_
          replace z := oS z; obtain ⟨v105, e109, z⟩ := z
          replace z := oS z; obtain ⟨t105, c110, z⟩ := z
          have c110 := avInt_some c110
          subst c110
          refine WL.b (some 105) (.int .i64 t105) h_102 (load_cell (P := Pg) (h := h_102) (t := 25) (by kernel_rfl) e109) ?_
          replace z := lS z; obtain ⟨t106, e111, z⟩ := z
          refine WL.val (d := (some 106)) (v := .bool t106) (h' := h_102) (by kernel_rfl) (by kernel_rfl) (val_of AV.bool e111 (by kernel_rfl)) ?_
          refine WL.a (some 107) (.bool t106) h_102 ?_
          replace z := lS z; obtain ⟨j111, e113, z⟩ := z
          have J114 : ∀ (t111 : Bool) (h_112 : AHeap), j111 t111 h_112 = some (rR, hR) → WL Pg w0 m0 (Func.ntmps Try.f10) (Code.ops (Code.p1 (Code.p2 (Code.p2 (Code.p2 (Code.p2 (Code.p2 (Code.p2 (Code.p2 (Code.p2 (Code.p2 (Code.p2 (Code.p2 (codeOf Try.f10)))))))))))))) 11 K104 [(103, .bool false), (111, .bool t111)] [] h_112 := by
           intro t111 h_112 z
           rw [e113] at z
           refine WL.a (some 112) (.bool t111) h_112 ?_
           exact WL.weaken (Fr.c Fr.n) (J108 _ _ z)
          cases t106 with
          | true =>
           replace z := ifB_t z
           replace z := oS z; obtain ⟨t108, e115, z⟩ := z
           refine WL.b (some 108) (.agg t108) h_102 (load_row (P := Pg) (h := h_102) (t := 41) (by kernel_rfl) (by kernel_rfl) e115) ?_
           replace z := oS z; obtain ⟨t109, e116, z⟩ := z
           refine WL.b (some 109) (.agg t109) h_102 (load_row (P := Pg) (h := h_102) (t := 41) (by kernel_rfl) (by kernel_rfl) e116) ?_
           replace z := callN_some z; obtain ⟨r110, h_117, e118, z⟩ := z
           replace z := oS z; obtain ⟨t110, c119, z⟩ := z
           have c119 := avBool_some c119
           subst c119
           refine WL.c (hc.ok w0) (some 110) e118 ?_
           refine WL.a (some 111) (.bool t110) h_117 ?_
           exact WL.weaken (Fr.c (Fr.c Fr.n)) (J114 _ _ z)
          | false =>
           replace z := ifB_f z
           refine WL.o (some 108) ?_
           refine WL.o (some 109) ?_
           refine WL.o (some 110) ?_
           refine WL.a (some 111) (.bool false) h_102 ?_
           exact WL.weaken (Fr.c (Fr.c Fr.n)) (J114 _ _ z)
       cases t88 with
       | true =>
        replace z := ifB_t z
        refine WL.o (some 90) ?_
        refine WL.o (some 91) ?_
        refine WL.o (some 92) ?_
        refine WL.o (some 93) ?_
        refine WL.a (some 94) (.bool true) h_82 ?_
        exact WL.weaken (Fr.c (Fr.c (Fr.c (Fr.c Fr.n)))) (J87 _ _ z)
       | false =>
        replace z := ifB_f z
        replace z := oS z; obtain ⟨t90, e120, z⟩ := z
        refine WL.b (some 90) (.agg t90) h_82 (load_row (P := Pg) (h := h_82) (t := 41) (by kernel_rfl) (by kernel_rfl) e120) ?_
        replace z := oS z; obtain ⟨t91, e121, z⟩ := z
        refine WL.b (some 91) (.agg t91) h_82 (load_row (P := Pg) (h := h_82) (t := 41) (by kernel_rfl) (by kernel_rfl) e121) ?_
        replace z := callN_some z; obtain ⟨r92, h_122, e123, z⟩ := z
        replace z := oS z; obtain ⟨t92, c124, z⟩ := z
        have c124 := avBool_some c124
        subst c124
        refine WL.c (hc.ok w0) (some 92) e123 ?_
        replace z := lS z; obtain ⟨t93, e125, z⟩ := z
        refine WL.val (d := (some 93)) (v := .bool t93) (h' := h_122) (by kernel_rfl) (by kernel_rfl) (val_of AV.bool e125 (by kernel_rfl)) ?_
        refine WL.a (some 94) (.bool t93) h_122 ?_
        exact WL.weaken (Fr.c (Fr.c (Fr.c (Fr.c Fr.n)))) (J87 _ _ z)
      cases t82 with
      | true =>
       replace z := ifB_t z
       refine WL.o (some 84) ?_
       refine WL.o (some 85) ?_
       refine WL.o (some 86) ?_
       refine WL.o (some 87) ?_
       refine WL.a (some 88) (.bool true) h_79 ?_
       exact WL.weaken (Fr.c (Fr.c (Fr.c (Fr.c (Fr.c Fr.n))))) (J84 _ _ z)
      | false =>
       replace z := ifB_f z
       replace z := oS z; obtain ⟨t84, e126, z⟩ := z
       refine WL.b (some 84) (.agg t84) h_79 (load_row (P := Pg) (h := h_79) (t := 41) (by kernel_rfl) (by kernel_rfl) e126) ?_
       replace z := oS z; obtain ⟨t85, e127, z⟩ := z
       refine WL.b (some 85) (.agg t85) h_79 (load_row (P := Pg) (h := h_79) (t := 41) (by kernel_rfl) (by kernel_rfl) e127) ?_
       replace z := callN_some z; obtain ⟨r86, h_128, e129, z⟩ := z
       replace z := oS z; obtain ⟨t86, c130, z⟩ := z
       have c130 := avBool_some c130
       subst c130
       refine WL.c (hc.ok w0) (some 86) e129 ?_
       replace z := lS z; obtain ⟨t87, e131, z⟩ := z
       refine WL.val (d := (some 87)) (v := .bool t87) (h' := h_128) (by kernel_rfl) (by kernel_rfl) (val_of AV.bool e131 (by kernel_rfl)) ?_
       refine WL.a (some 88) (.bool t87) h_128 ?_
       exact WL.weaken (Fr.c (Fr.c (Fr.c (Fr.c (Fr.c Fr.n))))) (J84 _ _ z)
     cases t77 with
     | true =>
      replace z := ifB_t z
      refine WL.o (some 79) ?_
      refine WL.o (some 80) ?_
      refine WL.o (some 81) ?_
      refine WL.a (some 82) (.bool true) h_76 ?_
      exact WL.weaken (Fr.c (Fr.c (Fr.c (Fr.c (Fr.c (Fr.c Fr.n)))))) (J81 _ _ z)
     | false =>
      replace z := ifB_f z
      refine WL.a (some 79) (AV.ptr (AHeap.next h_63) 0) h_76 ?_
      replace z := oS z; obtain ⟨v80, e132, z⟩ := z
      replace z := oS z; obtain ⟨t80, c133, z⟩ := z
      have c133 := avInt_some c133
      subst c133
      refine WL.b (some 80) (.int .i64 t80) h_76 (load_cell (P := Pg) (h := h_76) (t := 25) (by kernel_rfl) e132) ?_
      replace z := lS z; obtain ⟨t81, e134, z⟩ := z
      refine WL.val (d := (some 81)) (v := .bool t81) (h' := h_76) (by kernel_rfl) (by kernel_rfl) (val_of AV.bool e134 (by kernel_rfl)) ?_
      refine WL.a (some 82) (.bool t81) h_76 ?_
      exact WL.weaken (Fr.c (Fr.c (Fr.c (Fr.c (Fr.c (Fr.c Fr.n)))))) (J81 _ _ z)
    cases t72 with
    | true =>
     replace z := ifB_t z
     refine WL.o (some 74) ?_
     refine WL.o (some 75) ?_
     refine WL.o (some 76) ?_
     refine WL.a (some 77) (.bool true) h_69 ?_
     exact WL.weaken (Fr.c (Fr.c (Fr.c (Fr.c (Fr.c (Fr.c (Fr.c Fr.n))))))) (J78 _ _ z)
    | false =>
     replace z := ifB_f z
     refine WL.a (some 74) (AV.ptr (AHeap.next h_45) 0) h_69 ?_
     replace z := oS z; obtain ⟨v75, e135, z⟩ := z
     replace z := oS z; obtain ⟨t75, c136, z⟩ := z
     have c136 := avInt_some c136
     subst c136
     refine WL.b (some 75) (.int .i64 t75) h_69 (load_cell (P := Pg) (h := h_69) (t := 25) (by kernel_rfl) e135) ?_
     replace z := lS z; obtain ⟨t76, e137, z⟩ := z
     refine WL.val (d := (some 76)) (v := .bool t76) (h' := h_69) (by kernel_rfl) (by kernel_rfl) (val_of AV.bool e137 (by kernel_rfl)) ?_
     refine WL.a (some 77) (.bool t76) h_69 ?_
     exact WL.weaken (Fr.c (Fr.c (Fr.c (Fr.c (Fr.c (Fr.c (Fr.c Fr.n))))))) (J78 _ _ z)
   refine W.blockK (by kernel_rfl) (fun K17 n17 s17 o17 q17 p17 => ?_)
   refine W.loopK (by kernel_rfl) (fun I138 K138 b138 n138 e138 q138 p138 => ?_)
   have L138 : ∀ (m : Nat) (t3_139 : AV) (t4_140 : Bool) (t5 : Int) (h_141 : AHeap), law09_PatternEscapes_L0 t0 k18 m t3_139 t4_140 t5 h_141 = some (rR, hR) → Go w0 m0 (Func.ntmps Try.f10) I138 [(0, strA t0), (3, t3_139), (4, .bool t4_140), (5, .int .i64 t5)] [] h_141 := by
    intro m
    induction m with
    | zero => intro t3_139 t4_140 t5 h_141 z; cases z
    | succ m ih138 =>
     intro t3_139 t4_140 t5 h_141 z
     rw [law09_PatternEscapes_L0_s] at z; unfold law09_PatternEscapes_L0b at z
     refine b138 ?_
     refine W.s (fun _ n142 e142 _ _ => ?_)
     refine W.s (fun _ n143 _ _ _ => ?_)
     refine W.r ?_
     refine WL.a (some 19) (.int .i64 t5) h_141 ?_
     refine WL.a (some 20) (strA t0) h_141 ?_
     refine WL.a (some 21) (.int .i64 (lenS t0)) h_141 ?_
     replace z := lS z; obtain ⟨t22, e144, z⟩ := z
     refine WL.val (d := (some 22)) (v := .bool t22) (h' := h_141) (by kernel_rfl) (by kernel_rfl) (val_of AV.bool e144 (by kernel_rfl)) ?_
     refine WL.n ?_
     refine Go.weaken (l' := [(0, strA t0), (3, t3_139), (4, .bool t4_140), (5, .int .i64 t5), (22, .bool t22)]) (Fr.c (Fr.c (Fr.c (Fr.c (Fr.c Fr.n))))) ?_
     refine n143 ?_
     cases t22 with
     | true =>
      replace z := ifB_t z
      refine W.t ?_
      refine W.skip (by kernel_rfl) ?_
      refine n142 ?_
      refine W.s (fun _ n145 _ _ _ => ?_)
      refine W.blockK (by kernel_rfl) (fun K146 n146 s146 o146 q146 p146 => ?_)
      refine W.s (fun _ n147 _ _ _ => ?_)
      refine W.r ?_
      refine WL.a (some 25) t3_139 h_141 ?_
      refine WL.a (some 26) (strA t0) h_141 ?_
      refine WL.a (some 27) (.int .i64 t5) h_141 ?_
      replace z := oS z; obtain ⟨t28, e148, z⟩ := z
      refine WL.b (some 28) (.int .u8 t28) h_141 (index_str (P := Pg) (h := h_141) (t := 9) (k := .i64) (by kernel_rfl) e148) ?_
      replace z := outK_some z; obtain ⟨v29, h_149, e150, z⟩ := z
      refine WL.b (some 29) v29 h_149 e150 ?_
      replace z := outK_some z; obtain ⟨v30, h_151, e152, z⟩ := z
      refine WL.b (some 30) v30 h_151 e152 ?_
      refine WL.a (some 3) v30 h_151 ?_
      refine WL.n ?_
      refine Go.weaken (l' := [(0, strA t0), (3, v30), (4, .bool t4_140), (5, .int .i64 t5)]) (Fr.c (Fr.c (Fr.c (Fr.c Fr.n)))) ?_
      refine n147 ?_
      refine W.r ?_
      refine WL.a (some 31) (.bool t4_140) h_151 ?_
      refine WL.a (some 32) (.bool t4_140) h_151 ?_
      replace z := lS z; obtain ⟨j37, e154, z⟩ := z
      have J155 : ∀ (t37 : Bool) (h_153 : AHeap), j37 t37 h_153 = some (rR, hR) → WL Pg w0 m0 (Func.ntmps Try.f10) (Code.ops (Code.p2 (Code.p1 (Code.p1 (Code.p2 (Code.p1 (Code.p1 (Code.p2 (Code.p1 (Code.p2 (Code.p2 (Code.p2 (Code.p2 (Code.p2 (codeOf Try.f10))))))))))))))) 7 K146 [(0, strA t0), (3, v30), (5, .int .i64 t5), (37, .bool t37)] [] h_153 := by
       intro t37 h_153 z
       rw [e154] at z
       refine WL.a (some 38) (.bool t37) h_153 ?_
       replace z := lS z; obtain ⟨j43, e157, z⟩ := z
       have J158 : ∀ (t43 : Bool) (h_156 : AHeap), j43 t43 h_156 = some (rR, hR) → WL Pg w0 m0 (Func.ntmps Try.f10) (Code.ops (Code.p2 (Code.p1 (Code.p1 (Code.p2 (Code.p1 (Code.p1 (Code.p2 (Code.p1 (Code.p2 (Code.p2 (Code.p2 (Code.p2 (Code.p2 (codeOf Try.f10))))))))))))))) 13 K146 [(0, strA t0), (3, v30), (5, .int .i64 t5), (43, .bool t43)] [] h_156 := by
        intro t43 h_156 z
        rw [e157] at z
        refine WL.a (some 44) (.bool t43) h_156 ?_
        replace z := lS z; obtain ⟨j49, e160, z⟩ := z
        have J161 : ∀ (t49 : Bool) (h_159 : AHeap), j49 t49 h_159 = some (rR, hR) → WL Pg w0 m0 (Func.ntmps Try.f10) (Code.ops (Code.p2 (Code.p1 (Code.p1 (Code.p2 (Code.p1 (Code.p1 (Code.p2 (Code.p1 (Code.p2 (Code.p2 (Code.p2 (Code.p2 (Code.p2 (codeOf Try.f10))))))))))))))) 19 K146 [(0, strA t0), (3, v30), (5, .int .i64 t5), (49, .bool t49)] [] h_159 := by
         intro t49 h_159 z
         rw [e160] at z
         refine WL.a (some 4) (.bool t49) h_159 ?_
         refine WL.n ?_
         refine Go.weaken (l' := [(0, strA t0), (3, v30), (4, .bool t49), (5, .int .i64 t5)]) (Fr.c (Fr.c (Fr.c (Fr.c Fr.n)))) ?_
         refine n146 ?_
         refine n145 ?_
         refine W.r ?_
         refine WL.a (some 23) (.int .i64 t5) h_159 ?_
         replace z := lS z; obtain ⟨t24, e162, z⟩ := z
         refine WL.val (d := (some 24)) (v := .int .i64 t24) (h' := h_159) (by kernel_rfl) (by kernel_rfl) (val_of (AV.int .i64) e162 (by kernel_rfl)) ?_
         refine WL.a (some 5) (.int .i64 t24) h_159 ?_
         refine WL.n ?_
         refine Go.weaken (l' := [(0, strA t0), (3, v30), (4, .bool t49), (5, .int .i64 t24)]) (Fr.c (Fr.c (Fr.c (Fr.c Fr.n)))) ?_
         refine n138 ?_
         exact Go.weaken (Fr.c (Fr.c (Fr.c (Fr.c Fr.n)))) (ih138 _ _ _ _ z)
        cases t43 with
        | true =>
         replace z := ifB_t z
         refine WL.a (some 45) (strA t0) h_156 ?_
         refine WL.a (some 46) (.int .i64 t5) h_156 ?_
         replace z := oS z; obtain ⟨t47, e163, z⟩ := z
         refine WL.b (some 47) (.int .u8 t47) h_156 (index_str (P := Pg) (h := h_156) (t := 9) (k := .i64) (by kernel_rfl) e163) ?_
         replace z := lS z; obtain ⟨t48, e164, z⟩ := z
         refine WL.val (d := (some 48)) (v := .bool t48) (h' := h_156) (by kernel_rfl) (by kernel_rfl) (val_of AV.bool e164 (by kernel_rfl)) ?_
         refine WL.a (some 49) (.bool t48) h_156 ?_
         exact WL.weaken (Fr.c (Fr.c (Fr.c (Fr.c Fr.n)))) (J161 _ _ z)
        | false =>
         replace z := ifB_f z
         refine WL.o (some 45) ?_
         refine WL.o (some 46) ?_
         refine WL.o (some 47) ?_
         refine WL.o (some 48) ?_
         refine WL.a (some 49) (.bool false) h_156 ?_
         exact WL.weaken (Fr.c (Fr.c (Fr.c (Fr.c Fr.n)))) (J161 _ _ z)
       cases t37 with
       | true =>
        replace z := ifB_t z
        refine WL.a (some 39) (strA t0) h_153 ?_
        refine WL.a (some 40) (.int .i64 t5) h_153 ?_
        replace z := oS z; obtain ⟨t41, e165, z⟩ := z
        refine WL.b (some 41) (.int .u8 t41) h_153 (index_str (P := Pg) (h := h_153) (t := 9) (k := .i64) (by kernel_rfl) e165) ?_
        replace z := lS z; obtain ⟨t42, e166, z⟩ := z
        refine WL.val (d := (some 42)) (v := .bool t42) (h' := h_153) (by kernel_rfl) (by kernel_rfl) (val_of AV.bool e166 (by kernel_rfl)) ?_
        refine WL.a (some 43) (.bool t42) h_153 ?_
        exact WL.weaken (Fr.c (Fr.c (Fr.c (Fr.c Fr.n)))) (J158 _ _ z)
       | false =>
        replace z := ifB_f z
        refine WL.o (some 39) ?_
        refine WL.o (some 40) ?_
        refine WL.o (some 41) ?_
        refine WL.o (some 42) ?_
        refine WL.a (some 43) (.bool false) h_153 ?_
        exact WL.weaken (Fr.c (Fr.c (Fr.c (Fr.c Fr.n)))) (J158 _ _ z)
      cases t4_140 with
      | true =>
       replace z := ifB_t z
       refine WL.a (some 33) (strA t0) h_151 ?_
       refine WL.a (some 34) (.int .i64 t5) h_151 ?_
       replace z := oS z; obtain ⟨t35, e167, z⟩ := z
       refine WL.b (some 35) (.int .u8 t35) h_151 (index_str (P := Pg) (h := h_151) (t := 9) (k := .i64) (by kernel_rfl) e167) ?_
       replace z := lS z; obtain ⟨t36, e168, z⟩ := z
       refine WL.val (d := (some 36)) (v := .bool t36) (h' := h_151) (by kernel_rfl) (by kernel_rfl) (val_of AV.bool e168 (by kernel_rfl)) ?_
       refine WL.a (some 37) (.bool t36) h_151 ?_
       exact WL.weaken (Fr.c (Fr.c (Fr.c (Fr.c Fr.n)))) (J155 _ _ z)
      | false =>
       replace z := ifB_f z
       refine WL.o (some 33) ?_
       refine WL.o (some 34) ?_
       refine WL.o (some 35) ?_
       refine WL.o (some 36) ?_
       refine WL.a (some 37) (.bool false) h_151 ?_
       exact WL.weaken (Fr.c (Fr.c (Fr.c (Fr.c Fr.n)))) (J155 _ _ z)
     | false =>
      replace z := ifB_f z
      refine W.f ?_
      refine W.exit (by kernel_rfl) ?_
      refine e142 ?_
      refine e138 ?_
      refine s17 (by kernel_rfl) ?_
      exact Go.weaken (Fr.c (Fr.c (Fr.c Fr.n))) (J18 _ _ _ z)
   exact Go.weaken (Fr.c (Fr.c (Fr.c (Fr.c Fr.n)))) (L138 _ _ _ _ _ z)
abbrev TBytes : Nat := 50
def BytT (l : Bytes) (v : AV) (T : List RowT) : Prop := (l = [] ∧ v = .nsl ∧ T = []) ∨ (l ≠ [] ∧ ∃ c, v = .sl c 0 l.length 1 ∧ T = [(c, TU8, bytesC l)])
theorem bldB2 (h : AHeap) (x y : Int) : bldSl Try.prog h TBytes 2 [(0, .int .u8 x), (1, .int .u8 y)] = outNewS h TU8 [.int .u8 x, .int .u8 y] 2 1 := by kernel_rfl
section
variable {S : List Nat} {h h0 : AHeap} {xs T : List RowT} {l : Bytes} {v : AV} {Q : ARes → AHeap → Prop}
theorem byt_grow {K : AV → AHeap → R} (M : Mem S h0 h (xs ++ T)) (g : BytT l v T) (hex : memB TU8 h0.ex = false) (a b : UInt8) (hl : l.length ≤ 1000) (hk : ∀ v' h' T', BytT (l ++ [a, b]) v' T' → Mem S h0 h' (xs ++ T') → Wp (K v' h') Q) :
  Wp (outK (bldSl Try.prog h TBytes 2 [(0, .int .u8 (a.toNat : Int)), (1, .int .u8 (b.toNat : Int))]) fun v29 h149 => outK (opAppend Try.prog h149 TBytes TBytes v v29) fun v30 h151 => K v30 h151) Q := by
 refine Wp.mnews M (bldB2 h _ _) rfl hex fun h1 M1 => ?_
 have hex1 : memB TU8 h1.ex = false := by rw [M1.ex]; exact hex
 have hn : bytesC [a, b] = [.int .u8 (a.toNat : Int), .int .u8 (b.toNat : Int)] := rfl
 have hf : firstA h1 1 (1 + 1) (.sl h.next 0 2 1) = some (bytesC [a, b]) := by
  rw [firstA_of_row (Nat.le_refl 2)]
  exact M1.at0.1.part (o := 0) (n := 2) (Nat.le_refl 2)
 have hfit : ∀ k, k ≤ 1000000 → bytesFit Try.prog TU8 k = true := fun k hk => bytesFit_of (B := 1) (by kernel_rfl) (by omega) (by omega)
 rcases g with ⟨rfl, rfl, rfl⟩ | ⟨h1l, c, rfl, rfl⟩
 ·have a1 := append_new (P := Try.prog) (h := h1) (t := TBytes) (u := TBytes) (n := 1) (sz := 1) (e := TU8) (x := .sl h.next 0 2 1) (by kernel_rfl) (by kernel_rfl) (by kernel_rfl) rfl hf (hfit _ (by omega)) (bytesC_one _) hex1
  refine Wp.outK a1 (hk _ _ [(h1.next, TU8, bytesC [a, b])] (.inr ⟨by simp, h1.next, rfl, rfl⟩) ?_)
  have M2 := M1.newH TU8 (bytesC [a, b])
  rw [List.append_nil] at M2
  exact (Mem.pop M2.swap).perm List.perm_append_comm
 ·have M1' : Mem S h0 h1 (((h.next, TU8, bytesC [a, b]) :: xs) ++ [(c, TU8, bytesC l)]) := M1
  have hc := M1'.at
  have hlen := bytesC_length l
  have a1 := append_more (P := Try.prog) (h := h1) (t := TBytes) (u := TBytes) (b := c) (o := 0) (m := l.length) (n := 1) (sz := 1) (e := TU8) (x := .sl h.next 0 2 1) (cs := bytesC l) (by kernel_rfl) (by kernel_rfl) (by kernel_rfl) rfl hf (hfit _ (by omega)) (bytesC_one _) hex1 (by
   have := hc.1.part (o := 0) (n := (bytesC l).length) (by omega)
   rw [List.drop_zero, List.take_length] at this
   rw [Nat.mul_one, ← hlen]
   exact this) hc.1.type
  have M2 := M1'.kill
  refine Wp.outK a1 (hk _ _ [(h1.next, TU8, bytesC (l ++ [a, b]))] (.inr ⟨by simp, h1.next, by simp, rfl⟩) ?_)
  rw [bytesC_append]
  have M3 := (Mem.pop M2).newH TU8 (bytesC l ++ bytesC [a, b])
  exact M3.perm List.perm_append_comm
theorem byt_conv (g : BytT l v T) (hl : l.length ≤ 1000) (k : RowsAt h T) : opConv Try.prog h TBytes 9 (some v) = some (.val (strA l), h) := by
 rcases g with ⟨rfl, rfl, rfl⟩ | ⟨h1, c, rfl, rfl⟩
 ·kernel_rfl
 ·obtain ⟨k1, k2⟩ := k (c, TU8, bytesC l) (by simp)
  refine conv_bytes (U8 := TU8) (lo := 0) (by kernel_rfl) (by kernel_rfl) ⟨c, rfl, h1, Nat.zero_le _, k2, ?_, k1.type⟩
  have hlen := bytesC_length l
  have := k1.part (o := 0) (n := (bytesC l).length) (Nat.le_of_eq (Nat.zero_add _))
  rw [List.drop_zero, List.take_length, hlen] at this
  exact this
end
def bareF (c : UInt8) : Bool := decide (c.toNat ≠ 42 ∧ c.toNat ≠ 63 ∧ c.toNat ≠ 92)
theorem escB_snoc (c : UInt8) : ∀ l : Bytes, escB (l ++ [c]) = escB l ++ [92, c]
 | [] => rfl
 | x :: l => by
  rw [List.cons_append, escB, escB, escB_snoc c l]
  rfl
theorem treeE {u : Bytes} {t : Nd} {kind : Int} (hk : kind = 1 ∨ kind = 2 ∨ kind = 3) (hl : u.length ≤ 64) (ht : ∀ r, TreeP u kind r → r = .ok t) {n D : Nat} {h : AHeap} (hD : 300 ≤ D) (hn : 400 < n) (hx : memB TNode h.ex = false) : ∃ c T h', world n (D + 3) 21 [.agg [.int .i64 kind, strA u]] h = some (.ret (.tup [.agg c, .agg [.int .i64 0, .int .i64 0]]), h') ∧ NodeT t c T ∧ Mem [] h h' T := by
 obtain ⟨r, r1, _, r3⟩ := (tree_kinds (u := u) (by omega) hk).2 hl
 have := ht r r1
 subst this
 exact r3 hD hn hx
theorem treeX {u : Bytes} {kind : Int} (hk : kind = 1 ∨ kind = 2 ∨ kind = 3) (hl : u.length ≤ 64) {n D : Nat} {h : AHeap} (hD : 300 ≤ D) (hn : 400 < n) (hx : memB TNode h.ex = false) : ∃ c e q T h', world n (D + 3) 21 [.agg [.int .i64 kind, strA u]] h = some (.ret (.tup [.agg c, .agg [.int .i64 e, .int .i64 q]]), h') ∧ c.length = 6 ∧ c.all AV.one = true ∧ Mem [] h h' T := by
 obtain ⟨r, r1, _, r3⟩ := (tree_kinds (u := u) (by omega) hk).2 hl
 have r4 := r3 (n := n) (D := D) (h := h) hD hn hx
 cases r with
 | error q => exact ⟨_, _, _, [], h, r4, rfl, rfl, Mem.nil _ _⟩
 | ok t =>
  obtain ⟨c, T, h', e, kt, M⟩ := r4
  exact ⟨c, 0, 0, T, h', e, kt.len, kt.one, M⟩
theorem esc_loop {s : Bytes} {h0 : AHeap} {k18 : AV → Bool → AHeap → R} {Q : ARes → AHeap → Prop} (hs : s.length ≤ 32) (hex : memB TU8 h0.ex = false) : ∀ (rest pre : Bytes) (f : Nat) (v : AV) (T : List RowT) (H : AHeap), s = pre ++ rest → rest.length < f → BytT (escB pre) v T → Mem [] h0 H T →
   (∀ v' T' H', BytT (escB s) v' T' → Mem [] h0 H' T' → Wp (k18 v' (s.all bareF) H') Q) → Wp (law09_PatternEscapes_L0 s k18 f v (pre.all bareF) ((pre.length : Nat) : Int) H) Q
 | _, _, 0, _, _, _, _, hf, _, _, _ => by omega
 | [], pre, f + 1, v, T, H, he, hf, g, M, hk => by
  rw [law09_PatternEscapes_L0_s]
  unfold law09_PatternEscapes_L0b
  have ll := lenS_nat s
  have : s.length = pre.length := by rw [he]; simp
  repeat (first | (with_reducible refine Wp.lett ?_) | ((with_reducible refine Wp.iff ?_ ?_); ((with_reducible apply decide_eq_false); omega)))
  rw [List.append_nil] at he
  rw [he] at hk
  exact hk v T H g M
 | c :: rest, pre, f + 1, v, T, H, he, hf, g, M, hk => by
  rw [law09_PatternEscapes_L0_s]
  unfold law09_PatternEscapes_L0b
  have ll := lenS_nat s
  have hl : s.length = pre.length + (rest.length + 1) := by rw [he]; simp
  have hx : idxS s ((pre.length : Nat) : Int) = some ((c.toNat : Nat) : Int) := by
   have h1 := idxS_nat (l := s) (i := pre.length) (by omega)
   rw [h1]
   congr 2
   simp [he]
  rw [List.length_cons] at hf
  repeat (first | (with_reducible refine Wp.lett ?_) | ((with_reducible apply Wp.obind); (with_reducible exact hx)) | ((with_reducible refine Wp.ift ?_ ?_); ((with_reducible apply decide_eq_true); omega)))
  refine byt_grow (xs := []) (a := 92) (b := c) M g hex (by rw [escB_len]; omega) fun v' H' T' g' M' => ?_
  rw [← escB_snoc] at g'
  have hrec : Wp (law09_PatternEscapes_L0 s k18 f v' ((pre ++ [c]).all bareF) (((pre ++ [c]).length : Nat) : Int) H') Q := esc_loop hs hex rest (pre ++ [c]) f v' T' H' (by rw [he]; simp) (by omega) g' M' hk
  rw [List.all_append, List.length_append] at hrec
  have hb1 : [c].all bareF = bareF c := by simp
  rw [hb1] at hrec
  have el : (pre.length : Int) + 1 = ((pre.length + [c].length : Nat) : Int) := by simp
  by_cases hp : pre.all bareF = true
  ·rw [hp] at hrec ⊢
   rw [Bool.true_and] at hrec
   by_cases b1 : c.toNat = 42
   ·have : bareF c = false := by simp [bareF, b1]
    rw [this] at hrec
    repeat (first | (with_reducible refine Wp.join1 (fun _ _ => ?_)) | ((with_reducible refine Wp.lettw ?_ ?_ ?_); omega; omega) | (with_reducible refine Wp.lett ?_) | ((with_reducible apply Wp.obind); (with_reducible exact hx)) | ((with_reducible refine Wp.ift ?_ ?_); (with_reducible rfl)) | ((with_reducible refine Wp.iff ?_ ?_); first | (with_reducible rfl) | ((with_reducible apply bne_f); omega)) | (with_reducible refine Wp.go1 (by assumption) ?_))
    rw [el]
    exact hrec
   by_cases b2 : c.toNat = 63
   ·have : bareF c = false := by simp [bareF, b2]
    rw [this] at hrec
    repeat (first | (with_reducible refine Wp.join1 (fun _ _ => ?_)) | ((with_reducible refine Wp.lettw ?_ ?_ ?_); omega; omega) | (with_reducible refine Wp.lett ?_) | ((with_reducible apply Wp.obind); (with_reducible exact hx)) | ((with_reducible refine Wp.ift ?_ ?_); first | (with_reducible rfl) | ((with_reducible apply bne_t); omega)) | ((with_reducible refine Wp.iff ?_ ?_); ((with_reducible apply bne_f); omega)) | (with_reducible refine Wp.go1 (by assumption) ?_))
    rw [el]
    exact hrec
   by_cases b3 : c.toNat = 92
   ·have : bareF c = false := by simp [bareF, b3]
    rw [this] at hrec
    have e92 : ((c.toNat : Int) != 92) = false := bne_f (by omega)
    repeat (first | (with_reducible refine Wp.join1 (fun _ _ => ?_)) | ((with_reducible refine Wp.lettw ?_ ?_ ?_); omega; omega) | (with_reducible refine Wp.lett ?_) | ((with_reducible apply Wp.obind); (with_reducible exact hx)) | ((with_reducible refine Wp.ift ?_ ?_); first | (with_reducible rfl) | ((with_reducible apply bne_t); omega)) | (with_reducible refine Wp.go1 (by assumption) ?_))
    rw [el, e92]
    exact hrec
   ·have : bareF c = true := by simp [bareF, b1, b2, b3]
    rw [this] at hrec
    have e92 : ((c.toNat : Int) != 92) = true := bne_t (by omega)
    repeat (first | (with_reducible refine Wp.join1 (fun _ _ => ?_)) | ((with_reducible refine Wp.lettw ?_ ?_ ?_); omega; omega) | (with_reducible refine Wp.lett ?_) | ((with_reducible apply Wp.obind); (with_reducible exact hx)) | ((with_reducible refine Wp.ift ?_ ?_); first | (with_reducible rfl) | ((with_reducible apply bne_t); omega)) | (with_reducible refine Wp.go1 (by assumption) ?_))
    rw [el, e92]
    exact hrec
  ·have hp : pre.all bareF = false := by simpa using hp
   rw [hp] at hrec ⊢
   rw [Bool.false_and] at hrec
   repeat (first | (with_reducible refine Wp.join1 (fun _ _ => ?_)) | ((with_reducible refine Wp.lettw ?_ ?_ ?_); omega; omega) | ((with_reducible refine Wp.iff ?_ ?_); (with_reducible rfl)) | (with_reducible refine Wp.go1 (by assumption) ?_))
   rw [el]
   exact hrec
theorem works_w (n d : Nat) (h : AHeap) : world n (d + 1) 13 [] h = some (.ret (.bool true), h) := by kernel_rfl
theorem Mem.rows {S : List Nat} {h0 h : AHeap} {xs T ys : List RowT} (M : Abs.Mem S h0 h (xs ++ (T ++ ys))) : RowsAt h T := fun y hy => ⟨(M.row y (by simp [hy])).1, (M.row y (by simp [hy])).2.1⟩
theorem szL_map : ∀ s : Bytes, szL (s.map oneB) = 2 * s.length
 | [] => rfl
 | c :: s => by
  rw [List.map_cons, szL, szL_map s, List.length_cons]
  have : (oneB c).sz = 1 := rfl
  omega
theorem join_sz (s : Bytes) : (joinN 3 (s.map oneB)).sz ≤ 2 * s.length + 1 := by
 have h := szL_map s
 generalize s.map oneB = l at h
 match l, h with
 | [], h => exact Nat.le_add_left 1 _
 | [t], h =>
  rw [szL, szL] at h
  show t.sz ≤ _
  omega
 | a :: b :: l, h =>
  show szL (a :: b :: l) + 1 ≤ _
  omega
set_option maxRecDepth 100000 in
theorem patternEscapes_says (h : AHeap) (hX : h.ex = [57]) (xs : List AV) (hP : ArgsP Try.prog h.next h 12 [9] xs) : ∃ h', Says Try.prog 10 xs h (.ret (.bool true)) h' := by
 obtain ⟨_, _, rfl, hp0, hP⟩ := args_cons hP
 obtain rfl := args0 hP
 obtain ⟨s, rfl, hs⟩ := hp0.str Try.underlying9
 obtain ⟨n, hn⟩ : ∃ n, 1000000 < n := ⟨1000001, Nat.lt_succ_self _⟩
 obtain ⟨D, hD⟩ : ∃ D, D = 300 + (joinN 3 (s.map oneB)).sz := ⟨_, rfl⟩
 obtain ⟨N, hN⟩ : ∃ N, N = n + (joinN 3 (s.map oneB)).sz := ⟨_, rfl⟩
 suffices hK : Wp (law09_PatternEscapes (world N (D + 3)) N s h) fun r _ => r = .ret (.bool true) by
  obtain ⟨_, h', e, rfl⟩ := hK
  exact ⟨h', law09_PatternEscapes_ok (world_ok N (D + 3)) e⟩
 unfold law09_PatternEscapes
 have ls := lenS_nat s
 have hwk := works_w N (D + 2) h
 by_cases hl : s.length > 32
 ·repeat (first | (with_reducible refine Wp.lett ?_) | ((with_reducible apply Wp.obind); (with_reducible exact avBool_bool _)) | ((with_reducible refine Wp.ift ?_ ?_); ((with_reducible apply decide_eq_true); omega)) | ((with_reducible refine Wp.iff ?_ ?_); (with_reducible exact Bool.not_true)) | ((with_reducible apply Wp.callN); (with_reducible assumption)))
  exact Wp.ret rfl
 have hx8 : memB TU8 h.ex = false := by rw [hX]; rfl
 have hxN : ∀ {h1 : AHeap} {rs : List RowT}, Abs.Mem [] h h1 rs → memB TNode h1.ex = false := fun M => by rw [M.ex, hX]; rfl
 repeat (first | (with_reducible refine Wp.join2 (fun _ _ => ?_)) | (with_reducible refine Wp.lett ?_) | ((with_reducible apply Wp.obind); (with_reducible exact avBool_bool _)) | ((with_reducible refine Wp.iff ?_ ?_); first | (with_reducible exact Bool.not_true) | ((with_reducible apply decide_eq_false); omega)) | ((with_reducible apply Wp.callN); (with_reducible assumption)))
 rename_i k18 ek18
 refine esc_loop (by omega) hx8 s [] N .nsl [] h rfl (by omega) (.inl ⟨rfl, rfl, rfl⟩) (Mem.nil _ _) fun v Tb H g M0 => ?_
 refine Wp.go2 ek18 ?_
 have hle := escB_len s
 obtain ⟨c1, T1, H1, e1, kt1, M1⟩ := treeE (n := N) (D := D) (h := H) (.inl rfl) (by omega) (fun r => tree_lit (s := s)) (by omega) (by omega) (hxN M0)
 refine Wp.callN e1 ?_
 have M2 : Abs.Mem [] h H1 (T1 ++ Tb) := Mem.frame (xs := []) M0 M1
 refine Wp.obind (extT_0 _ _) (Wp.obind (avAgg_agg _) (Wp.obind (extT_1 _ _ _) (Wp.obind (avAgg_agg _) ?_)))
 refine Wp.mnew M2 fun h27 M3 => Wp.mnew M3 fun h29 M4 => ?_
 rw [newP_eq, newP_eq]
 refine Wp.sa1 M4 kt1.len rfl kt1.one fun h31 M5 => Wp.sa0 M5 rfl rfl rfl fun h33 M6 => ?_
 refine Wp.outK (byt_conv g (by omega) (Mem.rows (xs := _ :: _ :: T1) (ys := []) (by simpa using M6))) ?_
 refine Wp.obind (avStr_str _) ?_
 obtain ⟨c2, T2, H2, e2, kt2, M7⟩ := treeE (n := N) (D := D) (h := h33) (kind := 2) (u := escB s) (.inr (.inl rfl)) (by omega) (fun r => tree_globE (s := s)) (by omega) (by omega) (hxN M6)
 refine Wp.callN e2 ?_
 have M8 := Mem.frame (xs := []) M6 M7
 refine Wp.obind (extT_0 _ _) (Wp.obind (avAgg_agg _) (Wp.obind (extT_1 _ _ _) (Wp.obind (avAgg_agg _) ?_)))
 have M9 := M8.perm (ys := (h27.next, TSpot, [.int .i64 0, .int .i64 0]) :: (H1.next, TNode, c1) :: (T1 ++ (Tb ++ T2))) (by
  have := List.perm_append_comm (l₁ := (h27.next, TSpot, [AV.int .i64 0, AV.int .i64 0]) :: (H1.next, TNode, c1) :: (T1 ++ Tb)) (l₂ := T2)
  simpa [List.append_assoc] using this)
 refine Wp.mnew M9 fun h45 M10 => Wp.mnew M10 fun h47 M11 => ?_
 rw [newP_eq, newP_eq]
 refine Wp.sa1 M11 kt2.len rfl kt2.one fun h49 M12 => Wp.sa0 M12 rfl rfl rfl fun h51 M13 => ?_
 refine Wp.outK (byt_conv g (by omega) (Mem.rows (xs := _ :: _ :: _ :: _ :: T1) (ys := T2) (by simpa using M13))) ?_
 refine Wp.obind (avStr_str _) ?_
 obtain ⟨c3, T3, H3, e3, kt3, M14⟩ := treeE (n := N) (D := D) (h := h51) (kind := 3) (u := escB s) (.inr (.inr rfl)) (by omega) (fun r => tree_reE (s := s)) (by omega) (by omega) (hxN M13)
 refine Wp.callN e3 ?_
 have M15 := Mem.frame (xs := []) M13 M14
 refine Wp.obind (extT_0 _ _) (Wp.obind (avAgg_agg _) (Wp.obind (extT_1 _ _ _) (Wp.obind (avAgg_agg _) ?_)))
 have M16 := M15.perm (ys := (h45.next, TSpot, [.int .i64 0, .int .i64 0]) :: (H2.next, TNode, c2) :: (h27.next, TSpot, [.int .i64 0, .int .i64 0]) :: (H1.next, TNode, c1) :: (T1 ++ (Tb ++ (T2 ++ T3)))) (by
  have := List.perm_append_comm (l₁ := (h45.next, TSpot, [AV.int .i64 0, AV.int .i64 0]) :: (H2.next, TNode, c2) :: (h27.next, TSpot, [AV.int .i64 0, AV.int .i64 0]) :: (H1.next, TNode, c1) :: (T1 ++ (Tb ++ T2))) (l₂ := T3)
  simpa [List.append_assoc] using this)
 refine Wp.mnew M16 fun h63 M17 => Wp.mnew M17 fun h65 M18 => ?_
 rw [newP_eq, newP_eq]
 refine Wp.sa1 M18 kt3.len rfl kt3.one fun h67 M19 => Wp.sa0 M19 rfl rfl rfl fun h69 M20 => ?_
 have r1 : RowsAt h69 T1 := Mem.rows (xs := _ :: _ :: _ :: _ :: _ :: [_]) (T := T1) (ys := Tb ++ (T2 ++ T3)) M20
 have r2 : RowsAt h69 T2 := Mem.rows (xs := _ :: _ :: _ :: _ :: _ :: _ :: (T1 ++ Tb)) (T := T2) (ys := T3) (by simpa using M20)
 have r3 : RowsAt h69 T3 := Mem.rows (xs := _ :: _ :: _ :: _ :: _ :: _ :: (T1 ++ (Tb ++ T2))) (T := T3) (ys := []) (by simpa using M20)
 have hsz := join_sz s
 have s12 := same_ok (D := D + 3) (n := N) _ kt1 kt2 r1 r2 (by omega) (by omega) (by omega)
 have s13 := same_ok (D := D + 3) (n := N) _ kt1 kt3 r1 r3 (by omega) (by omega) (by omega)
 have f1 : ldRow h69 6 (.ptr H1.next 0) = some c1 := RowH.ldAll M20.at5.1 kt1.len
 have f2 : ldRow h69 6 (.ptr H2.next 0) = some c2 := RowH.ldAll M20.at3.1 kt2.len
 have f3 : ldRow h69 6 (.ptr H3.next 0) = some c3 := RowH.ldAll M20.at1.1 kt3.len
 clear M0 M1 M2 M3 M4 M5 M6 M7 M8 M9 M10 M11 M12 M13 M14 M15 M16 M17 M18 M19
 have Mx := M20
 repeat (first | ((with_reducible apply Wp.obind); (with_reducible first | exact avInt_int _ _ | exact avBool_bool _)) | ((with_reducible apply Wp.ld0 Mx); rfl) | ((with_reducible apply Wp.ld2 Mx); rfl) | ((with_reducible apply Wp.ld4 Mx); rfl) | (with_reducible refine Wp.join1 (fun _ _ => ?_)) | (with_reducible refine Wp.lett ?_) | ((with_reducible apply Wp.obind); (with_reducible first | exact f1 | exact f2 | exact f3)) | ((with_reducible refine Wp.iff ?_ ?_); first | (with_reducible exact Bool.not_true) | ((with_reducible apply bne_f); omega)) | ((with_reducible apply Wp.callN); (with_reducible first | exact s12 | exact s13)) | (with_reducible refine Wp.go1 (by assumption) ?_))
 by_cases hb : s.all bareF = true
 ·obtain ⟨c4, T4, H4, e4, kt4, M21⟩ := treeE (n := N) (D := D) (h := h69) (kind := 2) (u := s) (.inr (.inl rfl)) (by omega) (fun r => tree_globB (s := s) (fun c hc => by
   have := List.all_eq_true.1 hb c hc
   unfold bareF at this
   exact of_decide_eq_true this)) (by omega) (by omega) (hxN M20)
  refine Wp.callN e4 ?_
  have M22 := Mem.frame (xs := []) M20 M21
  refine Wp.obind (extT_0 _ _) (Wp.obind (avAgg_agg _) (Wp.obind (extT_1 _ _ _) (Wp.obind (avAgg_agg _) ?_)))
  refine Wp.mnew M22 fun h96 M23 => Wp.mnew M23 fun h98 M24 => ?_
  rw [newP_eq, newP_eq]
  refine Wp.sa1 M24 kt4.len rfl kt4.one fun h100 M25 => Wp.sa0 M25 rfl rfl rfl fun h102 M26 => ?_
  have r4 : RowsAt h102 T4 := Mem.rows (xs := _ :: [_]) (T := T4) M26
  have r1' : RowsAt h102 T1 := Mem.rows (xs := _ :: _ :: (T4 ++ (_ :: _ :: _ :: _ :: _ :: [_]))) (T := T1) (ys := Tb ++ (T2 ++ T3)) (by simpa using M26)
  have s14 := same_ok (D := D + 3) (n := N) _ kt1 kt4 r1' r4 (by omega) (by omega) (by omega)
  have g4 : ldRow h102 6 (.ptr H4.next 0) = some c4 := RowH.ldAll M26.at1.1 kt4.len
  have g1 : ldRow h102 6 (.ptr H1.next 0) = some c1 := RowH.ldAll (Mem.at (xs := _ :: _ :: (T4 ++ (_ :: _ :: _ :: _ :: [_]))) (by simpa using M26)).1 kt1.len
  rw [hb]
  clear Mx M20 M21 M22 M23 M24 M25
  have Mx := M26
  repeat (first | ((with_reducible apply Wp.obind); (with_reducible first | exact avInt_int _ _ | exact avBool_bool _)) | ((with_reducible apply Wp.ld0 Mx); rfl) | (with_reducible refine Wp.join1 (fun _ _ => ?_)) | (with_reducible refine Wp.lett ?_) | ((with_reducible apply Wp.obind); (with_reducible first | exact g1 | exact g4)) | ((with_reducible refine Wp.ift ?_ ?_); ((with_reducible apply beq_t); omega)) | ((with_reducible refine Wp.iff ?_ ?_); (with_reducible exact Bool.not_true)) | ((with_reducible apply Wp.callN); (with_reducible exact s14)) | (with_reducible refine Wp.go1 (by assumption) ?_))
  exact Wp.ret rfl
 ·have hb : s.all bareF = false := by simpa using hb
  obtain ⟨c4, e, q, T4, H4, e4, l4, o4, M21⟩ := treeX (n := N) (D := D) (h := h69) (kind := 2) (u := s) (.inr (.inl rfl)) (by omega) (by omega) (by omega) (hxN M20)
  refine Wp.callN e4 ?_
  have M22 := Mem.frame (xs := []) M20 M21
  refine Wp.obind (extT_0 _ _) (Wp.obind (avAgg_agg _) (Wp.obind (extT_1 _ _ _) (Wp.obind (avAgg_agg _) ?_)))
  refine Wp.mnew M22 fun h96 M23 => Wp.mnew M23 fun h98 M24 => ?_
  rw [newP_eq, newP_eq]
  refine Wp.sa1 M24 l4 rfl o4 fun h100 M25 => Wp.sa0 M25 rfl rfl rfl fun h102 M26 => ?_
  rw [hb]
  repeat (first | (with_reducible refine Wp.join1 (fun _ _ => ?_)) | (with_reducible refine Wp.lett ?_) | ((with_reducible refine Wp.ift ?_ ?_); (with_reducible exact Bool.not_false)) | (with_reducible refine Wp.go1 (by assumption) ?_))
  exact Wp.ret rfl
end Go.Proofs.Yteibdplpbcobbaa
