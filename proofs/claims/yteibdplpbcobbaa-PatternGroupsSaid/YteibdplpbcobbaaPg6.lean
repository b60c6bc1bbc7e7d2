/- What patternGroups_proved stands on, part 6 of 6. -/
import Derived.Test.YteibdplpbcobbaaPg5
namespace Go.Proofs.Yteibdplpbcobbaa
open Go.RowKit Abs
theorem orI_nat {x y : Nat} (hx : x < 18446744073709551616) (hy : y < 18446744073709551616) : orI .u64 (x : Int) (y : Int) = ((x ||| y : Nat) : Int) := by
 have e : (BitVec.ofInt 64 (x : Int) ||| BitVec.ofInt 64 (y : Int)).toNat = x ||| y := by
  rw [BitVec.toNat_or, BitVec.toNat_ofInt, BitVec.toNat_ofInt]
  congr 1 <;> omega
 unfold orI
 show IntKind.u64.wrap (((BitVec.ofInt 64 (x : Int) ||| BitVec.ofInt 64 (y : Int)).toNat : Nat) : Int) = _
 rw [e, wrap_u64_mod]
 have := or_small hx hy
 omega
theorem xorI_nat {x y : Nat} (hx : x < 18446744073709551616) (hy : y < 18446744073709551616) : xorI .u64 (x : Int) (y : Int) = ((x ^^^ y : Nat) : Int) := by
 have e : (BitVec.ofInt 64 (x : Int) ^^^ BitVec.ofInt 64 (y : Int)).toNat = x ^^^ y := by
  rw [BitVec.toNat_xor, BitVec.toNat_ofInt, BitVec.toNat_ofInt]
  congr 1 <;> omega
 unfold xorI
 show IntKind.u64.wrap (((BitVec.ofInt 64 (x : Int) ^^^ BitVec.ofInt 64 (y : Int)).toNat : Nat) : Int) = _
 rw [e, wrap_u64_mod]
 have := Nat.xor_lt_two_pow (n := 64) (x := x) (y := y) (by omega) (by omega)
 omega
theorem shlI_one {k : Nat} (h : k < 64) : shlI .u64 1 (k : Int) = some ((2 ^ k : Nat) : Int) := by
 unfold shlI
 rw [if_neg (by omega)]
 have e : min ((k : Int).toNat) IntKind.u64.bits = k := by
  show min ((k : Int).toNat) 64 = k
  omega
 rw [e, wrap_u64_mod, Int.one_mul]
 have := pow_small h
 have e2 : ((2 : Int) ^ k) = ((2 ^ k : Nat) : Int) := by push_cast; rfl
 rw [e2]
 generalize 2 ^ k = z at this
 congr 1
 omega
theorem quoI_64 {c : Nat} (h : c < 1000) : quoI .i64 (c : Int) 64 = some ((c / 64 : Nat) : Int) := by
 unfold quoI
 rw [if_neg (by decide), Int.tdiv_eq_ediv_of_nonneg (by omega), wrap_i64 (by omega) (by omega)]
 congr 1
theorem remI_64 {c : Nat} : remI .i64 (c : Int) 64 = some ((c % 64 : Nat) : Int) := by
 unfold remI
 rw [if_neg (by decide), Int.tmod_eq_emod_of_nonneg (by omega)]
 congr 1
theorem idxA_ptr {n b o i : Nat} (h : i < n) : idxA n 1 (.ptr b o) (i : Int) = some (.ptr b (o + i)) := by
 have e : Nat.blt i n = true := by simpa using h
 show (match Nat.blt i n with | true => some (AV.ptr b (o + i * 1)) | false => none) = _
 rw [e, Nat.mul_one]
section
variable {n d b o p : Nat} {h : AHeap} {u : Bytes} {Q : ARes → AHeap → Prop} {pre post : List AV} {w : List Nat} {e : TypeId}
theorem get_words {i : Nat} (hi : i < w.length) : (pre ++ (wordsA w ++ post))[pre.length + i]? = some (.int .u64 (w.getD i 0 : Int)) := by
 rw [List.getElem?_append_right (by omega), show pre.length + i - pre.length = i by omega, List.getElem?_append_left (by rw [wordsA_len]; exact hi)]
 unfold wordsA
 rw [List.getElem?_map, List.getD_eq_getElem?_getD, List.getElem?_eq_getElem hi]
 rfl
theorem set_words {i x : Nat} (hi : i < w.length) : (pre ++ (wordsA w ++ post)).set (pre.length + i) (.int .u64 (x : Int)) = pre ++ (wordsA (w.set i x) ++ post) := by
 rw [List.set_append_right _ _ (by omega), show pre.length + i - pre.length = i by omega, List.set_append_left _ _ (by rw [wordsA_len]; exact hi)]
 unfold wordsA
 rw [List.map_set]
theorem span_loop {k4 : AHeap → R} (hpre : pre.length = o) : ∀ (m f lo : Nat) (w : List Nat) (H : AHeap), m < f → lo + m ≤ 256 → WordsOk w → RowH H b e (pre ++ (wordsA w ++ post)) →
   (∀ H', RowH H' b e (pre ++ (wordsA (spanW w lo m) ++ post)) → Tch [b] H H' → Wp (k4 H') Q) → Wp (pattern_addSpan_L0 (.ptr b o) ((lo + m : Nat) - 1 : Int) k4 f (lo : Int) H) Q
 | _, 0, _, _, _, hf, _, _, _, _ => by omega
 | 0, f + 1, lo, w, H, hf, hm, hw, k, hk => by
  rw [pattern_addSpan_L0_s]
  unfold pattern_addSpan_L0b
  repeat (first | ((with_reducible refine Wp.lettw ?_ ?_ ?_); omega; omega) | (with_reducible refine Wp.lett ?_) | ((with_reducible refine Wp.iff ?_ ?_); ((with_reducible apply decide_eq_false); omega)))
  exact hk H k (Tch.refl _ _)
 | m + 1, f + 1, lo, w, H, hf, hm, hw, k, hk => by
  rw [pattern_addSpan_L0_s]
  unfold pattern_addSpan_L0b
  have hi : lo / 64 < 4 := by omega
  have hl : lo / 64 < w.length := by rw [hw.len]; exact hi
  have hc := get_words (pre := pre) (post := post) hl
  have e1 := quoI_64 (c := lo) (by omega)
  have e2 := idxA_ptr (b := b) (o := o) hi
  have e3 := remI_64 (c := lo)
  have e4 := shlI_one (k := lo % 64) (Nat.mod_lt _ (by decide))
  rw [hpre] at hc
  have e5 := RowH.cell' k hc
  repeat (first | ((with_reducible refine Wp.lettw ?_ ?_ ?_); omega; omega) | (with_reducible refine Wp.lett ?_) | ((with_reducible apply Wp.obind); (with_reducible first | exact e1 | exact e2 | exact e3 | exact e4 | exact e5 | exact avInt_int _ _ | exact nilC_ptr _ _)) | ((with_reducible refine Wp.ift ?_ ?_); ((with_reducible apply decide_eq_true); omega)))
  rw [orI_nat (hw.get _) (pow_small (Nat.mod_lt _ (by decide)))]
  refine Wp.st1 k (by simp [wordsA_len]; omega) rfl fun h' k' t' _ => ?_
  rw [← hpre, set_words hl] at k'
  repeat (((with_reducible refine Wp.lettw ?_ ?_ ?_); omega; omega))
  have eh : ((lo + (m + 1) : Nat) - 1 : Int) = ((lo + 1 + m : Nat) - 1 : Int) := by omega
  have el : (lo : Int) + 1 = ((lo + 1 : Nat) : Int) := by omega
  rw [eh, el]
  exact span_loop hpre m f (lo + 1) (addW w lo) h' (by omega) (by omega) (addW_ok hw lo) k' fun H' k2 t2 => hk H' k2 (t'.trans t2)
theorem addSpan_r (hpre : pre.length = o) (hn : 300 < n) {lo hi : Nat} (h1 : lo ≤ hi) (h2 : hi < 256) (hw : WordsOk w) (k : RowH h b e (pre ++ (wordsA w ++ post))) : ∃ h', world n (d + 1) 84 [.ptr b o, .int .u8 (lo : Int), .int .u8 (hi : Int)] h = some (.ret (.tup []), h') ∧ RowH h' b e (pre ++ (wordsA (spanW w lo (hi + 1 - lo)) ++ post)) ∧ Tch [b] h h' := by
 apply Wp.ex
 rw [w_pattern_addSpan]
 unfold pattern_addSpan
 (((with_reducible refine Wp.lettw ?_ ?_ ?_); omega; omega))
 ((with_reducible refine Wp.join0 (fun _ _ => ?_)))
 rename_i k4 ek4
 have eh : (hi : Int) = ((lo + (hi + 1 - lo) : Nat) - 1 : Int) := by omega
 rw [eh]
 refine span_loop hpre (hi + 1 - lo) n lo w h (by omega) (by omega) hw k fun H' k2 t2 => ?_
 repeat ((with_reducible refine Wp.go0 (by assumption) ?_))
 exact Wp.ret ⟨rfl, k2, t2⟩
end
theorem Step.ok_of {b p : Nat} {u : Bytes} {h : AHeap} {x : R} {v : AV} (k : Wp x fun r h' => r = .ret v ∧ Rd h' b u p ∧ Tch [b] h h') : Step b u h x (.ok (v, p)) := k.ex
theorem Step.err_of {b q : Nat} {e : Int} {u : Bytes} {h : AHeap} {x : R} (k : Wp x fun r h' => r = .panic (PanA e q) ∧ ∃ p, Rd h' b u p ∧ Tch [b] h h') : Step b u h x (.error (e, q)) := by
 obtain ⟨_, h', e1, rfl, p, k1, k2⟩ := k
 exact ⟨h', p, e1, k1, k2⟩
theorem Wp.stepK {b : Nat} {u : Bytes} {h : AHeap} {x : R} {k : AV → AHeap → R} {Q : ARes → AHeap → Prop} {v : AV} {p : Nat} (hx : Step b u h x (.ok (v, p))) (hk : ∀ h', Rd h' b u p → Tch [b] h h' → Wp (k v h') Q) : Wp (callK x k) Q := by
 obtain ⟨h', e, k1, k2⟩ := hx
 exact Wp.callK e (hk h' k1 k2)
theorem Wp.stepN {b : Nat} {u : Bytes} {h : AHeap} {x : R} {k : AV → AHeap → R} {Q : ARes → AHeap → Prop} {v : AV} {p : Nat} (hx : Step b u h x (.ok (v, p))) (hk : ∀ h', Rd h' b u p → Tch [b] h h' → Wp (k v h') Q) : Wp (callN x k) Q := by
 obtain ⟨h', e, k1, k2⟩ := hx
 exact Wp.callN e (hk h' k1 k2)
theorem Wp.stepE {b q : Nat} {e : Int} {u : Bytes} {h : AHeap} {x : R} {k : AV → AHeap → R} {Q : ARes → AHeap → Prop} (hx : Step b u h x (.error (e, q))) (hk : ∀ h' p, Rd h' b u p → Tch [b] h h' → Q (.panic (PanA e q)) h') : Wp (callK x k) Q := by
 obtain ⟨h', p, e1, k1, k2⟩ := hx
 exact Wp.callP e1 (hk h' p k1 k2)
theorem lt_tch {S : List Nat} {h h' : AHeap} {b : Nat} (t : Tch S h h') (hb : b < h.next) : b < h'.next := Nat.lt_of_lt_of_le hb t.1
section
variable {n d b p : Nat} {h : AHeap} {u : Bytes} {Q : ARes → AHeap → Prop}
end
section
variable {n d b c : Nat} {h : AHeap} {l : Bytes} {Q : ARes → AHeap → Prop}
end
section
variable {n d b p : Nat} {h : AHeap} {u : Bytes} {Q : ARes → AHeap → Prop}
theorem take_r (k : Rd h b u p) (hb : b < h.next) (hp : p ≤ u.length) (hu : u.length ≤ 1000000) (c : Nat) : Step b u h (world n (d + 4) 54 [.ptr b 0, .int .u8 (c : Int)] h) (if at? u p = some c then .ok (.tup [], p + 1) else .error (6, p)) := by
 have hs := skips_r (n := n) (d := d) k hb hp hu c
 by_cases hc : at? u p = some c
 ·rw [if_pos hc, decide_eq_true hc] at hs
  rw [if_pos hc]
  refine Step.ok_of ?_
  rw [w_pattern_reader_take]
  unfold pattern_reader_take
  refine Wp.stepN hs fun h' k1 k2 => ?_
  repeat (first | (with_reducible refine Wp.join0 (fun _ _ => ?_)) | (with_reducible refine Wp.lett ?_) | ((with_reducible apply Wp.obind); (with_reducible exact avBool_bool _)) | ((with_reducible refine Wp.iff ?_ ?_); (with_reducible exact Bool.not_true)) | (with_reducible refine Wp.go0 (by assumption) ?_))
  exact Wp.ret ⟨rfl, k1, k2⟩
 ·rw [if_neg hc, decide_eq_false hc] at hs
  rw [if_neg hc]
  refine Step.err_of ?_
  rw [w_pattern_reader_take]
  unfold pattern_reader_take
  refine Wp.stepN hs fun h' k1 k2 => ?_
  have hr := refuse_r (n := n) (d := d + 2) (h := h') 6 p
  repeat (first | (with_reducible refine Wp.join0 (fun _ _ => ?_)) | (with_reducible refine Wp.lett ?_) | ((with_reducible apply Wp.obind); first | (with_reducible first | exact avInt_int _ _ | exact avBool_bool _ | exact nilC_ptr _ _ | exact fldP_ptr _ _ _) | ((with_reducible apply RowH.cell'); (with_reducible assumption); rfl)) | ((with_reducible refine Wp.ift ?_ ?_); (with_reducible exact Bool.not_false)))
  exact Wp.callP hr ⟨rfl, p, k1, k2⟩
end
abbrev TNodes : Nat := 39
theorem wordsA_scal : ∀ (w : List Nat), AV.scalL (wordsA w ++ [.nsl]) = true
 | [] => rfl
 | _ :: w => wordsA_scal w
theorem nodeC_scal (op : Nat) (w : List Nat) : (AV.agg (nodeC op w .nsl)).scal = true := wordsA_scal w
theorem bldOver0 (op : Int) : bldS Try.prog TNode [(0, .int .i64 op), (2, .nsl)] = some [.int .i64 op, .int .u64 0, .int .u64 0, .int .u64 0, .int .u64 0, .nsl] := by kernel_rfl
theorem bldOver1 (op : Int) (c m : Nat) : bldS Try.prog TNode [(0, .int .i64 op), (2, .sl c 0 m 6)] = some [.int .i64 op, .int .u64 0, .int .u64 0, .int .u64 0, .int .u64 0, .sl c 0 m 6] := by kernel_rfl
theorem bldSet (a b c d : Int) : bldS Try.prog TNode [(0, .int .i64 2), (1, .agg [.int .u64 a, .int .u64 b, .int .u64 c, .int .u64 d])] = some [.int .i64 2, .int .u64 a, .int .u64 b, .int .u64 c, .int .u64 d, .nsl] := by kernel_rfl
theorem bldNode (h : AHeap) (op a b c d : Int) (kv : AV) : bldSl Try.prog h TNodes 1 [(0, .agg [.int .i64 op, .int .u64 a, .int .u64 b, .int .u64 c, .int .u64 d, kv])] = outNewS h TNode [.int .i64 op, .int .u64 a, .int .u64 b, .int .u64 c, .int .u64 d, kv] 1 6 := by kernel_rfl
theorem words4 {w : List Nat} (k : WordsOk w) : ∃ a b c d, w = [a, b, c, d] := by
 match w, k.len with
 | [a, b, c, d], _ => exact ⟨a, b, c, d, rfl⟩
theorem NodeT.bld {t : Nd} {c : List AV} {T : List RowT} (k : NodeT t c T) (h : AHeap) : bldSl Try.prog h TNodes 1 [(0, .agg c)] = outNewS h TNode c 1 6 := by
 cases k with
 | mk hw g ks =>
  obtain ⟨a, b, c, d, rfl⟩ := words4 hw
  exact bldNode h _ _ _ _ _ _
theorem setBld {w : List Nat} (k : WordsOk w) : bldS Try.prog TNode [(0, .int .i64 2), (1, .agg (wordsA w))] = some (nodeC 2 w .nsl) := by
 obtain ⟨a, b, c, d, rfl⟩ := words4 k
 exact bldSet _ _ _ _
section
variable {n d b p : Nat} {h h0 : AHeap} {u : Bytes} {Q : ARes → AHeap → Prop} {S : List Nat} {xs T T0 T1 : List RowT} {kc : List (List AV)} {kv : AV} {l : List Nd}
theorem overBld (g : GrowT TNode 6 kc kv T) (op : Nat) : bldS Try.prog TNode [(0, .int .i64 (op : Int)), (2, kv)] = some (nodeC op zeroW kv) := by
 rcases g.2 with ⟨_, rfl, _⟩ | ⟨_, c, rfl, _⟩
 ·exact bldOver0 _
 ·exact bldOver1 _ _ _
theorem nodeC_len {op : Nat} {w : List Nat} (hw : WordsOk w) : (nodeC op w kv).length = 6 := by simp [nodeC, wordsA_len, hw.len]
theorem nodeC_one {op : Nat} {w : List Nat} (hk : kv.one = true) : (nodeC op w kv).all AV.one = true := by
 simp only [nodeC, List.all_cons, List.all_append, wordsA_one, hk, List.all_nil, Bool.and_true]
 rfl
theorem oneByte_w (hn : 300 < n) {c : Nat} (hc : c < 256) : world n (d + 2) 78 [.int .u8 (c : Int)] h = some (.ret (.agg (nodeC 2 (spanW zeroW c 1) .nsl)), h) := by
 apply Wp.eq
 rw [w_pattern_oneByte]
 refine Wp.gc ?_
 suffices hK : Wp (pattern_oneByte (world n (d + 1)) n c h) fun r h' => r = .ret (.agg (nodeC 2 (spanW zeroW c 1) .nsl)) ∧ Tch [] h h' from hK.mono fun r h' ⟨e, t⟩ => ⟨t.above, by rw [e]; exact nodeC_scal _ _, e, rfl⟩
 unfold pattern_oneByte
 have Mx := Mem.nil [] h
 repeat (first | ((with_reducible apply Wp.sa0 Mx); rfl; rfl; (rfl); intro _ Mz; clear Mx; have Mx := Mz; clear Mz) | ((with_reducible apply Wp.mnew Mx); intro _ Mz; clear Mx; have Mx := Mz; clear Mz) | rw [newP_eq])
 have k0 : RowH _ _ _ ([AV.int .i64 2] ++ (wordsA zeroW ++ [.nsl])) := Mx.at0.1
 obtain ⟨h5, e5, k5, t5⟩ := addSpan_r (n := n) (d := d) rfl hn (Nat.le_refl c) hc zeroW_ok k0
 refine Wp.callN e5 ?_
 have Mz := Mem.upd (xs := []) Mx t5 k5
 clear Mx
 have Mx := Mz
 clear Mz k0 k5
 rw [show c + 1 - c = 1 by omega] at Mx
 have ho := nodeC_one (kv := .nsl) (op := 2) (w := spanW zeroW c 1) rfl
 have hl : ([AV.int .i64 2] ++ (wordsA (spanW zeroW c 1) ++ [AV.nsl])).length = 6 := nodeC_len (op := 2) (spanW_ok 1 zeroW_ok c)
 refine Wp.lr0 Mx hl ?_
 refine Wp.sa1 Mx hl rfl ho fun h6 Mz => ?_
 refine Wp.lr1 Mz hl ?_
 exact Wp.ret ⟨rfl, Mz.tch⟩
theorem anyByte_w (hn : 300 < n) : world n (d + 2) 77 [] h = some (.ret (.agg (nodeC 2 (anyW) .nsl)), h) := by
 apply Wp.eq
 rw [w_pattern_anyByte]
 refine Wp.gc ?_
 suffices hK : Wp (pattern_anyByte (world n (d + 1)) n h) fun r h' => r = .ret (.agg (nodeC 2 (anyW) .nsl)) ∧ Tch [] h h' from hK.mono fun r h' ⟨e, t⟩ => ⟨t.above, by rw [e]; exact nodeC_scal _ _, e, rfl⟩
 unfold pattern_anyByte
 have Mx := Mem.nil [] h
 repeat (first | ((with_reducible apply Wp.sa0 Mx); rfl; rfl; (rfl); intro _ Mz; clear Mx; have Mx := Mz; clear Mz) | ((with_reducible apply Wp.mnew Mx); intro _ Mz; clear Mx; have Mx := Mz; clear Mz) | rw [newP_eq])
 have k0 : RowH _ _ _ ([AV.int .i64 2] ++ (wordsA zeroW ++ [.nsl])) := Mx.at0.1
 obtain ⟨h5, e5, k5, t5⟩ := addSpan_r (n := n) (d := d) (lo := 0) (hi := 255) rfl hn (by omega) (by omega) zeroW_ok k0
 refine Wp.callN e5 ?_
 have Mz := Mem.upd (xs := []) Mx t5 k5
 clear Mx
 have Mx := Mz
 clear Mz k0 k5
 rw [anyW_eq] at Mx
 have ho := nodeC_one (kv := .nsl) (op := 2) (w := anyW) rfl
 have hl : ([AV.int .i64 2] ++ (wordsA (anyW) ++ [AV.nsl])).length = 6 := nodeC_len (op := 2) anyW_ok
 refine Wp.lr0 Mx hl ?_
 refine Wp.sa1 Mx hl rfl ho fun h6 Mz => ?_
 refine Wp.lr1 Mz hl ?_
 exact Wp.ret ⟨rfl, Mz.tch⟩
theorem over_r (g : GrowT TNode 6 kc kv T) (op : Nat) : ∃ h', world n (d + 1) 76 [.int .i64 (op : Int), kv] h = some (.ret (.agg (nodeC op zeroW kv)), h') ∧ Tch [] h h' := by
 apply Wp.ex
 rw [w_pattern_over]
 unfold pattern_over
 have Mx := Mem.nil [] h
 have hl := nodeC_len (kv := kv) (op := op) zeroW_ok
 have ho := nodeC_one (op := op) (w := zeroW) g.one.1
 have hb := overBld g op
 repeat (first | ((with_reducible apply Wp.lr0 Mx); rfl) | ((with_reducible apply Wp.sa0 Mx); rfl; rfl; ((with_reducible assumption)); intro _ Mz; clear Mx; have Mx := Mz; clear Mz) | ((with_reducible apply Wp.mnew Mx); intro _ Mz; clear Mx; have Mx := Mz; clear Mz) | ((with_reducible apply Wp.obind); (with_reducible exact hb)) | rw [newP_eq])
 exact Wp.ret ⟨rfl, Mx.tch⟩
theorem mem_mid (M : Mem S h0 h (xs ++ (T0 ++ T1))) : Mem S h0 h (xs ++ T1) := Mem.drop (xs := T0) (M.perm (List.perm_append_comm_assoc T0 xs T1))
theorem idx0 (c m : Nat) : idxP 6 (.sl c 0 (m + 1) 6) 0 = some (.ptr c 0) := by
 have := idxP_sl (sz := 6) (b := c) (o := 0) (n := m + 1) (k := 6) (i := 0) (by omega)
 simpa using this
theorem grow_single {c : List AV} (g : GrowT TNode 6 [c] kv T0) : ∃ q, kv = .sl q 0 1 6 ∧ T0 = [(q, TNode, c)] := by
 rcases g.2 with ⟨hh, _⟩ | ⟨_, q, rfl, rfl⟩
 ·cases hh
 ·exact ⟨q, rfl, by simp⟩
theorem inRow_r (Mx : Mem S h0 h (xs ++ (T0 ++ T1))) (g : GrowT TNode 6 kc kv T0) (k : KidsT l kc T1) : ∃ c T h', world n (d + 2) 75 [kv] h = some (.ret (.agg c), h') ∧ NodeT (joinN 3 l) c T ∧ Mem S h0 h' (xs ++ T) := by
 have hkl := k.len
 match l, k, hkl with
 | [], k, hkl =>
  cases k
  rcases g.2 with ⟨_, rfl, rfl⟩ | ⟨hh, _⟩
  ·refine ⟨nodeC 1 zeroW .nsl, [], ?_⟩
   suffices hK : ∃ h', world n (d + 2) 75 [.nsl] h = some (.ret (.agg (nodeC 1 zeroW .nsl)), h') ∧ Mem S h0 h' (xs ++ ([] ++ [])) by
    obtain ⟨h', e, M'⟩ := hK
    exact ⟨h', e, NodeT.leaf 1 zeroW_ok, M'⟩
   apply Wp.ex
   rw [w_pattern_inRow]
   unfold pattern_inRow
   have hlen : lenL .nsl = some 0 := rfl
   repeat (first | ((with_reducible apply Wp.lr0 Mx); rfl) | ((with_reducible apply Wp.sa0 Mx); rfl; rfl; (rfl); intro _ Mz; clear Mx; have Mx := Mz; clear Mz) | ((with_reducible apply Wp.mnew Mx); intro _ Mz; clear Mx; have Mx := Mz; clear Mz) | (with_reducible refine Wp.lett ?_) | ((with_reducible apply Wp.obind); (with_reducible exact hlen)) | ((with_reducible refine Wp.ift ?_ ?_); ((with_reducible apply beq_t); omega)) | rw [newP_eq])
   exact Wp.ret ⟨rfl, Mx.pop⟩
  ·exact absurd rfl hh
 | [t], k, hkl =>
  obtain ⟨c, rfl, kt⟩ := k.one
  obtain ⟨q, rfl, rfl⟩ := grow_single g
  refine ⟨c, T1, ?_⟩
  suffices hK : ∃ h', world n (d + 2) 75 [.sl q 0 1 6] h = some (.ret (.agg c), h') ∧ Mem S h0 h' (xs ++ ([(q, TNode, c)] ++ T1)) by
   obtain ⟨h', e, M'⟩ := hK
   exact ⟨h', e, kt, mem_mid M'⟩
  apply Wp.ex
  rw [w_pattern_inRow]
  unfold pattern_inRow
  have hlen : lenL (.sl q 0 1 6) = some 1 := rfl
  have ei : idxP 6 (.sl q 0 1 6) 0 = some (.ptr q 0) := idx0 q 0
  repeat (first | ((with_reducible apply Wp.mnew Mx); intro _ Mz; clear Mx; have Mx := Mz; clear Mz) | (with_reducible refine Wp.lett ?_) | ((with_reducible apply Wp.obind); (with_reducible first | exact hlen | exact ei)) | ((with_reducible refine Wp.ift ?_ ?_); ((with_reducible apply beq_t); omega)) | ((with_reducible refine Wp.iff ?_ ?_); ((with_reducible apply beq_f); omega)) | rw [newP_eq])
  refine Wp.obind (RowH.ldAll (Mem.at (xs := _ :: xs) Mx).1 kt.len) ?_
  refine Wp.sa0 Mx kt.len rfl kt.one fun h6 Mz => ?_
  refine Wp.lr0 Mz kt.len ?_
  exact Wp.ret ⟨rfl, Mz.pop⟩
 | t :: t' :: ts, k, hkl =>
  refine ⟨nodeC 3 zeroW kv, T0 ++ T1, ?_⟩
  suffices hK : ∃ h', world n (d + 2) 75 [kv] h = some (.ret (.agg (nodeC 3 zeroW kv)), h') ∧ Mem S h0 h' (xs ++ (T0 ++ T1)) by
   obtain ⟨h', e, M'⟩ := hK
   exact ⟨h', e, NodeT.mk zeroW_ok g k, M'⟩
  apply Wp.ex
  rw [w_pattern_inRow]
  unfold pattern_inRow
  have hlen := g.len
  simp only [List.length_cons] at hkl
  have hl := nodeC_len (kv := kv) (op := 3) zeroW_ok
  have ho := nodeC_one (op := 3) (w := zeroW) g.one.1
  repeat (first | ((with_reducible refine Wp.mcall (over_r (n := n) (d := d) g 3) Mx (fun _ Mz _ => ?_)); clear Mx; have Mx := Mz; clear Mz) | ((with_reducible apply Wp.lr0 Mx); rfl) | ((with_reducible apply Wp.sa0 Mx); rfl; rfl; ((with_reducible assumption)); intro _ Mz; clear Mx; have Mx := Mz; clear Mz) | ((with_reducible apply Wp.mnew Mx); intro _ Mz; clear Mx; have Mx := Mz; clear Mz) | (with_reducible refine Wp.lett ?_) | ((with_reducible apply Wp.obind); (with_reducible first | exact hlen | exact avAgg_agg _)) | ((with_reducible refine Wp.iff ?_ ?_); ((with_reducible apply beq_f); omega)) | rw [newP_eq])
  exact Wp.ret ⟨rfl, Mx.pop⟩
end
abbrev TRd : Nat := 70
abbrev TSet : Nat := 38
def byteR : Except Nat (Nat × Nat) → Except (Int × Nat) (AV × Nat)
 | .ok (c, j) => .ok (.int .u8 (c : Int), j)
 | .error q => .error (6, q)
noncomputable def setR : Except Nat (List Nat × Nat) → Except (Int × Nat) (AV × Nat)
 | .ok (w, j) => .ok (.agg (wordsA w), j)
 | .error q => .error (6, q)
section
variable {n d b p q i : Nat} {h h0 : AHeap} {u : Bytes} {Q : ARes → AHeap → Prop} {S : List Nat} {xs : List RowT} {w : List Nat}
theorem at?_256 {c : Nat} (h : at? u i = some c) : c < 256 := by
 obtain ⟨hp, rfl⟩ := at?_some h
 exact UInt8.toNat_lt _
theorem memB2_ok {c j : Nat} (h : memB2 u i = .ok (c, j)) : c < 256 ∧ i < j ∧ j ≤ u.length := by
 unfold memB2 at h
 split at h
 ·cases h
 ·rename_i c' hc
  obtain ⟨hp, _⟩ := at?_some hc
  split at h
  ·split at h
   ·cases h
   ·rename_i e he
    obtain ⟨hp2, _⟩ := at?_some he
    cases h
    exact ⟨at?_256 he, by omega, by omega⟩
  ·split at h
   ·cases h
   ·cases h
    exact ⟨at?_256 hc, by omega, by omega⟩
theorem memB2_bad {q : Nat} (hi : i ≤ u.length) (h : memB2 u i = .error q) : q ≤ u.length := by
 unfold memB2 at h
 split at h
 ·cases h
  exact hi
 ·rename_i c' hc
  obtain ⟨hp, _⟩ := at?_some hc
  split at h
  ·split at h
   ·cases h
    omega
   ·cases h
  ·split at h
   ·cases h
    omega
   ·cases h
theorem memberF_ok {w' : List Nat} {j : Nat} (hw : WordsOk w) (h : memberF u w i = .ok (w', j)) : WordsOk w' ∧ i < j ∧ j ≤ u.length := by
 unfold memberF at h
 split at h
 ·cases h
 ·rename_i c j' h1
  obtain ⟨_, h2, h3⟩ := memB2_ok h1
  split at h
  ·split at h
   ·cases h
   ·rename_i e k h4
    obtain ⟨_, h5, h6⟩ := memB2_ok h4
    split at h
    ·cases h
    ·cases h
     exact ⟨spanW_ok _ hw _, by omega, h6⟩
  ·cases h
   exact ⟨spanW_ok _ hw _, h2, h3⟩
theorem memberF_bad {q : Nat} (hi : i ≤ u.length) (h : memberF u w i = .error q) : q ≤ u.length := by
 unfold memberF at h
 split at h
 ·rename_i h1
  cases h
  exact memB2_bad hi h1
 ·rename_i c j' h1
  split at h
  ·rename_i h45
   obtain ⟨hp, _⟩ := at?_some h45
   split at h
   ·rename_i h4
    cases h
    exact memB2_bad (by omega) h4
   ·rename_i e k h4
    obtain ⟨_, h5, h6⟩ := memB2_ok h4
    split at h
    ·cases h
     omega
    ·cases h
  ·cases h
theorem memberByte_r (k : Rd h b u i) (hb : b < h.next) (hi : i ≤ u.length) (hu : u.length ≤ 1000000) : Step b u h (world n (d + 3) 94 [.ptr b 0] h) (byteR (memB2 u i)) := by
 have hx := next_r (n := n) (d := d) k hb hi hu
 unfold memB2
 cases hc : at? u i with
 | none =>
  rw [hc] at hx
  refine Step.err_of ?_
  rw [w_pattern_reader_memberByte]
  unfold pattern_reader_memberByte
  exact Wp.stepE hx fun h' p' k1 k2 => ⟨rfl, p', k1, k2⟩
 | some c =>
  rw [hc] at hx
  obtain ⟨hp, _⟩ := at?_some hc
  have h256 := at?_256 hc
  by_cases h92 : c = 92
  ·show Step b u h _ (byteR (if c = 92 then _ else _))
   rw [if_pos h92]
   cases he : at? u (i + 1) with
   | none =>
    refine Step.err_of ?_
    rw [w_pattern_reader_memberByte]
    unfold pattern_reader_memberByte
    refine Wp.stepK hx fun h1 k1 t1 => ?_
    have hx2 := next_r (n := n) (d := d) k1 (lt_tch t1 hb) (by omega) hu
    rw [he] at hx2
    repeat (first | (with_reducible refine Wp.lett ?_) | ((with_reducible apply Wp.obind); (with_reducible exact avInt_int _ _)) | ((with_reducible refine Wp.ift ?_ ?_); ((with_reducible apply beq_t); omega)))
    exact Wp.stepE hx2 fun h' p' k2 t2 => ⟨rfl, p', k2, t1.trans t2⟩
   | some e =>
    refine Step.ok_of ?_
    rw [w_pattern_reader_memberByte]
    unfold pattern_reader_memberByte
    refine Wp.stepK hx fun h1 k1 t1 => ?_
    have hx2 := next_r (n := n) (d := d) k1 (lt_tch t1 hb) (by omega) hu
    rw [he] at hx2
    repeat (first | (with_reducible refine Wp.lett ?_) | ((with_reducible apply Wp.obind); (with_reducible exact avInt_int _ _)) | ((with_reducible refine Wp.ift ?_ ?_); ((with_reducible apply beq_t); omega)))
    refine Wp.stepK hx2 fun h2 k2 t2 => ?_
    repeat (((with_reducible apply Wp.obind); (with_reducible exact avInt_int _ _)))
    exact Wp.ret ⟨rfl, k2, t1.trans t2⟩
  ·show Step b u h _ (byteR (if c = 92 then _ else _))
   rw [if_neg h92]
   by_cases hs : c = 91 ∨ c = 93 ∨ c = 94 ∨ c = 45
   ·rw [if_pos hs]
    refine Step.err_of ?_
    rw [w_pattern_reader_memberByte]
    unfold pattern_reader_memberByte
    refine Wp.stepK hx fun h1 k1 t1 => ?_
    have hr := refuseLast_r (n := n) (d := d) k1 (by omega) hu
    rcases hs with hs | hs | hs | hs
    ·repeat (first | (with_reducible first | refine Wp.join0 (fun _ _ => ?_) | refine Wp.join1 (fun _ _ => ?_)) | (with_reducible refine Wp.lett ?_) | ((with_reducible apply Wp.obind); (with_reducible exact avInt_int _ _)) | ((with_reducible refine Wp.ift ?_ ?_); first | (with_reducible rfl) | ((with_reducible apply beq_t); omega)) | ((with_reducible refine Wp.iff ?_ ?_); ((with_reducible apply beq_f); omega)) | (with_reducible refine Wp.go1 (by assumption) ?_))
     exact Wp.callP hr ⟨rfl, _, k1, t1⟩
    ·repeat (first | (with_reducible first | refine Wp.join0 (fun _ _ => ?_) | refine Wp.join1 (fun _ _ => ?_)) | (with_reducible refine Wp.lett ?_) | ((with_reducible apply Wp.obind); (with_reducible exact avInt_int _ _)) | ((with_reducible refine Wp.ift ?_ ?_); first | (with_reducible rfl) | ((with_reducible apply beq_t); omega)) | ((with_reducible refine Wp.iff ?_ ?_); ((with_reducible apply beq_f); omega)) | (with_reducible refine Wp.go1 (by assumption) ?_))
     exact Wp.callP hr ⟨rfl, _, k1, t1⟩
    ·repeat (first | (with_reducible first | refine Wp.join0 (fun _ _ => ?_) | refine Wp.join1 (fun _ _ => ?_)) | (with_reducible refine Wp.lett ?_) | ((with_reducible apply Wp.obind); (with_reducible exact avInt_int _ _)) | ((with_reducible refine Wp.ift ?_ ?_); first | (with_reducible rfl) | ((with_reducible apply beq_t); omega)) | ((with_reducible refine Wp.iff ?_ ?_); ((with_reducible apply beq_f); omega)) | (with_reducible refine Wp.go1 (by assumption) ?_))
     exact Wp.callP hr ⟨rfl, _, k1, t1⟩
    ·have h45 : ((c : Int) == 45) = true := beq_t (by omega)
     repeat (first | (with_reducible first | refine Wp.join0 (fun _ _ => ?_) | refine Wp.join1 (fun _ _ => ?_)) | (with_reducible refine Wp.lett ?_) | ((with_reducible apply Wp.obind); (with_reducible exact avInt_int _ _)) | ((with_reducible refine Wp.ift ?_ ?_); (with_reducible assumption)) | ((with_reducible refine Wp.iff ?_ ?_); ((with_reducible apply beq_f); omega)) | (with_reducible refine Wp.go1 (by assumption) ?_))
     exact Wp.callP hr ⟨rfl, _, k1, t1⟩
   ·rw [if_neg hs]
    refine Step.ok_of ?_
    rw [w_pattern_reader_memberByte]
    unfold pattern_reader_memberByte
    refine Wp.stepK hx fun h1 k1 t1 => ?_
    have h45 : ((c : Int) == 45) = false := beq_f (by omega)
    repeat (first | (with_reducible first | refine Wp.join0 (fun _ _ => ?_) | refine Wp.join1 (fun _ _ => ?_)) | (with_reducible refine Wp.lett ?_) | ((with_reducible apply Wp.obind); (with_reducible exact avInt_int _ _)) | ((with_reducible refine Wp.iff ?_ ?_); first | (with_reducible assumption) | ((with_reducible apply beq_f); omega)) | (with_reducible first | refine Wp.go0 (by assumption) ?_ | refine Wp.go1 (by assumption) ?_))
    exact Wp.ret ⟨rfl, k1, t1⟩
def StepM (S : List Nat) (h0 : AHeap) (xs : List RowT) (b q : Nat) (u : Bytes) (x : R) : Except Nat (List Nat × Nat) → Prop
 | .ok (w', j) => ∃ h', x = some (.ret (.tup []), h') ∧ Mem S h0 h' ((b, TRd, rdP u j) :: (q, TSet, wordsA w') :: xs)
 | .error e => ∃ h' p, x = some (.panic (PanA 6 e), h') ∧ Rd h' b u p ∧ Tch S h0 h'
theorem StepM.ok_of {x : R} {w' : List Nat} {j : Nat} (k : Wp x fun r h' => r = .ret (.tup []) ∧ Mem S h0 h' ((b, TRd, rdP u j) :: (q, TSet, wordsA w') :: xs)) : StepM S h0 xs b q u x (.ok (w', j)) := k.ex
theorem StepM.err_of {x : R} {e : Nat} (k : Wp x fun r h' => r = .panic (PanA 6 e) ∧ ∃ p, Rd h' b u p ∧ Tch S h0 h') : StepM S h0 xs b q u x (.error e) := by
 obtain ⟨_, h', e1, rfl, p, k1, k2⟩ := k
 exact ⟨h', p, e1, k1, k2⟩
theorem addSpan_m (hn : 300 < n) {lo hi : Nat} (h1 : lo ≤ hi) (h2 : hi < 256) (hw : WordsOk w) {y : RowT} (M : Mem S h0 h (y :: (q, TSet, wordsA w) :: xs)) : ∃ h', world n (d + 1) 84 [.ptr q 0, .int .u8 (lo : Int), .int .u8 (hi : Int)] h = some (.ret (.tup []), h') ∧ Mem S h0 h' (y :: (q, TSet, wordsA (spanW w lo (hi + 1 - lo))) :: xs) := by
 have k0 : RowH h q TSet ([] ++ (wordsA w ++ [])) := by
  rw [List.nil_append, List.append_nil]
  exact M.at1.1
 obtain ⟨h', e, k1, t⟩ := addSpan_r (n := n) (d := d) rfl hn h1 h2 hw k0
 rw [List.nil_append, List.append_nil] at k1
 exact ⟨h', e, Mem.upd (xs := [y]) M t k1⟩
theorem member_r (hn : 300 < n) (hw : WordsOk w) (M : Mem S h0 h ((b, TRd, rdP u i) :: (q, TSet, wordsA w) :: xs)) (hi : i ≤ u.length) (hu : u.length ≤ 1000000) : StepM S h0 xs b q u (world n (d + 4) 93 [.ptr b 0, .ptr q 0] h) (memberF u w i) := by
 have hx := memberByte_r (n := n) (d := d) M.at0.1 M.at0.2.1 hi hu
 unfold memberF
 have bS := M.at0.2.2
 have up : ∀ {h1 : AHeap} {p : Nat}, Rd h1 b u p → Tch [b] h h1 → Tch S h0 h1 := fun k t => (Mem.upd (xs := []) M t k).tch
 cases hm : memB2 u i with
 | error e =>
  rw [hm] at hx
  refine StepM.err_of ?_
  rw [w_pattern_reader_member]
  unfold pattern_reader_member
  exact Wp.stepE hx fun h' p' k1 k2 => ⟨rfl, p', k1, up k1 k2⟩
 | ok cj =>
  obtain ⟨c, j⟩ := cj
  rw [hm] at hx
  obtain ⟨c1, c2, c3⟩ := memB2_ok hm
  by_cases h45 : at? u j = some 45
  ·show StepM S h0 xs b q u _ (if at? u j = some 45 then _ else _)
   rw [if_pos h45]
   obtain ⟨hj, _⟩ := at?_some h45
   cases hm2 : memB2 u (j + 1) with
   | error e =>
    refine StepM.err_of ?_
    rw [w_pattern_reader_member]
    unfold pattern_reader_member
    refine Wp.stepK hx fun h1 k1 t1 => ?_
    have hs := skips_r (n := n) (d := d) k1 (lt_tch t1 M.at0.2.1) c3 hu 45
    rw [if_pos h45, decide_eq_true h45] at hs
    repeat (((with_reducible apply Wp.obind); (with_reducible exact avInt_int _ _)))
    refine Wp.stepN hs fun h2 k2 t2 => ?_
    have hx2 := memberByte_r (n := n) (d := d) k2 (lt_tch (t1.trans t2) M.at0.2.1) (by omega) hu
    rw [hm2] at hx2
    repeat (first | (with_reducible refine Wp.join1 (fun _ _ => ?_)) | ((with_reducible apply Wp.obind); (with_reducible exact avBool_bool _)) | ((with_reducible refine Wp.ift ?_ ?_); (with_reducible rfl)))
    exact Wp.stepE hx2 fun h' p' k3 t3 => ⟨rfl, p', k3, up k3 ((t1.trans t2).trans t3)⟩
   | ok ek =>
    obtain ⟨e, k⟩ := ek
    obtain ⟨e1, e2, e3⟩ := memB2_ok hm2
    show StepM S h0 xs b q u _ (if e < c then _ else _)
    by_cases hlt : e < c
    ·rw [if_pos hlt]
     obtain ⟨k', rfl⟩ : ∃ k', k = k' + 1 := ⟨k - 1, by omega⟩
     refine StepM.err_of ?_
     rw [w_pattern_reader_member]
     unfold pattern_reader_member
     refine Wp.stepK hx fun h1 k1 t1 => ?_
     have hs := skips_r (n := n) (d := d) k1 (lt_tch t1 M.at0.2.1) c3 hu 45
     rw [if_pos h45, decide_eq_true h45] at hs
     repeat (((with_reducible apply Wp.obind); (with_reducible exact avInt_int _ _)))
     refine Wp.stepN hs fun h2 k2 t2 => ?_
     have hx2 := memberByte_r (n := n) (d := d) k2 (lt_tch (t1.trans t2) M.at0.2.1) (by omega) hu
     rw [hm2] at hx2
     repeat (first | (with_reducible refine Wp.join1 (fun _ _ => ?_)) | ((with_reducible apply Wp.obind); (with_reducible exact avBool_bool _)) | ((with_reducible refine Wp.ift ?_ ?_); (with_reducible rfl)))
     refine Wp.stepK hx2 fun h3 k3 t3 => ?_
     have hr := refuseLast_r (n := n) (d := d + 1) k3 (by omega) hu
     repeat (first | (with_reducible refine Wp.join0 (fun _ _ => ?_)) | (with_reducible refine Wp.lett ?_) | ((with_reducible apply Wp.obind); (with_reducible exact avInt_int _ _)) | ((with_reducible refine Wp.ift ?_ ?_); ((with_reducible apply decide_eq_true); omega)))
     exact Wp.callP hr ⟨rfl, _, k3, up k3 ((t1.trans t2).trans t3)⟩
    ·rw [if_neg hlt]
     refine StepM.ok_of ?_
     rw [w_pattern_reader_member]
     unfold pattern_reader_member
     refine Wp.stepK hx fun h1 k1 t1 => ?_
     have hs := skips_r (n := n) (d := d) k1 (lt_tch t1 M.at0.2.1) c3 hu 45
     rw [if_pos h45, decide_eq_true h45] at hs
     repeat (((with_reducible apply Wp.obind); (with_reducible exact avInt_int _ _)))
     refine Wp.stepN hs fun h2 k2 t2 => ?_
     have hx2 := memberByte_r (n := n) (d := d) k2 (lt_tch (t1.trans t2) M.at0.2.1) (by omega) hu
     rw [hm2] at hx2
     repeat (first | (with_reducible refine Wp.join1 (fun _ _ => ?_)) | ((with_reducible apply Wp.obind); (with_reducible exact avBool_bool _)) | ((with_reducible refine Wp.ift ?_ ?_); (with_reducible rfl)))
     refine Wp.stepK hx2 fun h3 k3 t3 => ?_
     obtain ⟨h4, e4, M4⟩ := addSpan_m (n := n) (d := d + 2) hn (by omega : c ≤ e) e1 hw (Mem.upd (xs := []) M ((t1.trans t2).trans t3) k3)
     repeat (first | (with_reducible refine Wp.join0 (fun _ _ => ?_)) | (with_reducible refine Wp.lett ?_) | ((with_reducible apply Wp.obind); (with_reducible exact avInt_int _ _)) | ((with_reducible refine Wp.iff ?_ ?_); ((with_reducible apply decide_eq_false); omega)) | ((with_reducible apply Wp.callN); (with_reducible assumption)) | (with_reducible first | refine Wp.go0 (by assumption) ?_ | refine Wp.go1 (by assumption) ?_))
     exact Wp.ret ⟨rfl, M4⟩
  ·show StepM S h0 xs b q u _ (if at? u j = some 45 then _ else _)
   rw [if_neg h45]
   refine StepM.ok_of ?_
   rw [w_pattern_reader_member]
   unfold pattern_reader_member
   refine Wp.stepK hx fun h1 k1 t1 => ?_
   have hs := skips_r (n := n) (d := d) k1 (lt_tch t1 M.at0.2.1) c3 hu 45
   rw [if_neg h45, decide_eq_false h45] at hs
   repeat (((with_reducible apply Wp.obind); (with_reducible exact avInt_int _ _)))
   refine Wp.stepN hs fun h2 k2 t2 => ?_
   obtain ⟨h4, e4, M4⟩ := addSpan_m (n := n) (d := d + 2) hn (Nat.le_refl c) c1 hw (Mem.upd (xs := []) M (t1.trans t2) k2)
   rw [show c + 1 - c = 1 by omega] at M4
   repeat (first | (with_reducible refine Wp.join1 (fun _ _ => ?_)) | ((with_reducible apply Wp.obind); (with_reducible exact avBool_bool _)) | ((with_reducible refine Wp.iff ?_ ?_); (with_reducible rfl)) | ((with_reducible apply Wp.callN); (with_reducible assumption)) | (with_reducible refine Wp.go1 (by assumption) ?_))
   exact Wp.ret ⟨rfl, M4⟩
end
section
variable {n d b p q i : Nat} {h h0 : AHeap} {u : Bytes} {Q : ARes → AHeap → Prop} {S : List Nat} {xs : List RowT} {w : List Nat}
theorem members_loop (hu : u.length ≤ 1000000) : ∀ (k j : Nat) (w : List Nat), j ≤ u.length → u.length - j < k → WordsOk w → ∃ r, LoopP u w j r ∧ (∀ w' j', r = .ok (w', j') → WordsOk w' ∧ j < j' ∧ j' ≤ u.length) ∧ (∀ e, r = .error e → e ≤ u.length) ∧
   ∀ {n d f b q : Nat} {S : List Nat} {h0 H hp0 : AHeap} {xs : List RowT} {k16 : AHeap → R} {Q : ARes → AHeap → Prop}, newP hp0 = .ptr q 0 → u.length - j < f → 300 < n → Mem S h0 H ((b, TRd, rdP u j) :: (q, TSet, wordsA w) :: xs) →
    (∀ w' j' H', r = .ok (w', j') → Mem S h0 H' ((b, TRd, rdP u j') :: (q, TSet, wordsA w') :: xs) → Wp (k16 H') Q) →
    (∀ e p H', r = .error e → Rd H' b u p → Tch S h0 H' → Q (.panic (PanA 6 e)) H') →
    Wp (pattern_reader_members_L1 (world n (d + 4)) (.ptr b 0) hp0 k16 f H) Q
 | 0, _, _, _, hk, _ => by omega
 | k + 1, j, w, hj, hk, hw => by
  by_cases h93 : at? u j = some 93
  ·obtain ⟨hp, _⟩ := at?_some h93
   refine ⟨.ok (w, j + 1), .done h93, ?_, ?_, ?_⟩
   ·intro w' j' e
    cases e
    exact ⟨hw, by omega, by omega⟩
   ·intro e he
    cases he
   ·intro n d f b q S h0 H hp0 xs k16 Q eq hf hn M hok hbad
    cases f with
    | zero => omega
    | succ f =>
     rw [pattern_reader_members_L1_s]
     unfold pattern_reader_members_L1b
     have hs := skips_r (n := n) (d := d + 1) M.at0.1 M.at0.2.1 hj hu 93
     rw [if_pos h93, decide_eq_true h93] at hs
     refine Wp.stepN hs fun h1 k1 t1 => ?_
     repeat (first | (with_reducible refine Wp.lett ?_) | ((with_reducible apply Wp.obind); (with_reducible exact avBool_bool _)) | ((with_reducible refine Wp.iff ?_ ?_); (with_reducible exact Bool.not_true)))
     exact hok w (j + 1) h1 rfl (Mem.upd (xs := []) M t1 k1)
  ·cases hm : memberF u w j with
   | error e =>
    refine ⟨.error e, .bad h93 hm, ?_, ?_, ?_⟩
    ·intro w' j' e
     cases e
    ·intro e' he
     cases he
     exact memberF_bad hj hm
    ·intro n d f b q S h0 H hp0 xs k16 Q eq hf hn M hok hbad
     cases f with
     | zero => omega
     | succ f =>
      rw [pattern_reader_members_L1_s]
      unfold pattern_reader_members_L1b
      have hs := skips_r (n := n) (d := d + 1) M.at0.1 M.at0.2.1 hj hu 93
      rw [if_neg h93, decide_eq_false h93] at hs
      refine Wp.stepN hs fun h1 k1 t1 => ?_
      have hx := member_r (n := n) (d := d) hn hw (Mem.upd (xs := []) M t1 k1) hj hu
      rw [hm] at hx
      obtain ⟨h2, p2, e2, k2, t2⟩ := hx
      rw [eq]
      repeat (first | (with_reducible refine Wp.lett ?_) | ((with_reducible apply Wp.obind); (with_reducible exact avBool_bool _)) | ((with_reducible refine Wp.ift ?_ ?_); (with_reducible exact Bool.not_false)))
      exact Wp.callP e2 (hbad e p2 h2 rfl k2 t2)
   | ok wj =>
    obtain ⟨w', j'⟩ := wj
    obtain ⟨m1, m2, m3⟩ := memberF_ok hw hm
    obtain ⟨r, r1, r2, r3, r4⟩ := members_loop hu k j' w' m3 (by omega) m1
    refine ⟨r, .more h93 hm r1, ?_, r3, ?_⟩
    ·intro w2 j2 e
     obtain ⟨a1, a2, a3⟩ := r2 w2 j2 e
     exact ⟨a1, by omega, a3⟩
    ·intro n d f b q S h0 H hp0 xs k16 Q eq hf hn M hok hbad
     cases f with
     | zero => omega
     | succ f =>
      rw [pattern_reader_members_L1_s]
      unfold pattern_reader_members_L1b
      have hs := skips_r (n := n) (d := d + 1) M.at0.1 M.at0.2.1 hj hu 93
      rw [if_neg h93, decide_eq_false h93] at hs
      refine Wp.stepN hs fun h1 k1 t1 => ?_
      have hx := member_r (n := n) (d := d) hn hw (Mem.upd (xs := []) M t1 k1) hj hu
      rw [hm] at hx
      obtain ⟨h2, e2, M2⟩ := hx
      rw [eq]
      repeat (first | (with_reducible refine Wp.lett ?_) | ((with_reducible apply Wp.obind); (with_reducible exact avBool_bool _)) | ((with_reducible refine Wp.ift ?_ ?_); (with_reducible exact Bool.not_false)) | ((with_reducible apply Wp.callK); (with_reducible assumption)))
      exact r4 eq (by omega) hn M2 hok hbad
theorem others_loop {hp0 : AHeap} {k29 : AHeap → R} {y : RowT} (eq : newP hp0 = .ptr q 0) : ∀ (v2 v1 : List Nat) (f : Nat) (H : AHeap), v2.length < f → v1.length + v2.length = 4 → (∀ x ∈ v2, x < 18446744073709551616) → Mem S h0 H (y :: (q, TSet, wordsA v1 ++ wordsA v2) :: xs) →
   (∀ H', Mem S h0 H' (y :: (q, TSet, wordsA v1 ++ wordsA (othersW v2)) :: xs) → Wp (k29 H') Q) → Wp (pattern_reader_members_L0 hp0 k29 f ((v1.length : Nat) : Int) H) Q
 | _, _, 0, _, hf, _, _, _, _ => by omega
 | [], v1, f + 1, H, hf, hl, hs, M, hk => by
  rw [pattern_reader_members_L0_s]
  unfold pattern_reader_members_L0b
  rw [List.length_nil] at hl
  repeat (first | (with_reducible refine Wp.lett ?_) | ((with_reducible refine Wp.iff ?_ ?_); ((with_reducible apply decide_eq_false); omega)))
  exact hk H M
 | x :: v2, v1, f + 1, H, hf, hl, hs, M, hk => by
  rw [pattern_reader_members_L0_s]
  unfold pattern_reader_members_L0b
  rw [List.length_cons] at hl hf
  have hx := hs x List.mem_cons_self
  rw [eq]
  have e1 := idxA_ptr (n := 4) (b := q) (o := 0) (i := v1.length) (by omega)
  rw [Nat.zero_add] at e1
  have hlv := wordsA_len v1
  have ho : (wordsA v1 ++ wordsA (x :: v2))[v1.length]? = some (.int .u64 (x : Int)) := by
   rw [List.getElem?_append_right (by omega), hlv, Nat.sub_self]
   rfl
  repeat (first | (with_reducible refine Wp.lett ?_) | ((with_reducible apply Wp.obind); (with_reducible exact e1)) | ((with_reducible refine Wp.ift ?_ ?_); ((with_reducible apply decide_eq_true); omega)))
  refine Wp.ld1 M ho ?_
  repeat (first | (with_reducible refine Wp.lett ?_) | ((with_reducible apply Wp.obind); (with_reducible first | exact e1 | exact avInt_int _ _)))
  rw [show (18446744073709551615 : Int) = ((18446744073709551615 : Nat) : Int) from rfl, xorI_nat hx (by omega)]
  refine Wp.ms1 M (by simp [wordsA_len]) rfl fun H' M' => ?_
  have es : (wordsA v1 ++ wordsA (x :: v2)).set v1.length (.int .u64 ((x ^^^ 18446744073709551615 : Nat) : Int)) = wordsA (v1 ++ [x ^^^ 18446744073709551615]) ++ wordsA v2 := by
   rw [List.set_append_right _ _ (by omega), hlv, Nat.sub_self]
   simp [wordsA]
  rw [es] at M'
  repeat (((with_reducible refine Wp.lettw ?_ ?_ ?_); omega; omega))
  have el : (v1.length : Int) + 1 = (((v1 ++ [x ^^^ 18446744073709551615]).length : Nat) : Int) := by simp
  rw [el]
  refine others_loop eq v2 (v1 ++ [x ^^^ 18446744073709551615]) f H' (by omega) (by simp; omega) (fun z hz => hs z (List.mem_cons_of_mem _ hz)) M' fun H2 M2 => hk H2 ?_
  have e2 : wordsA (v1 ++ [x ^^^ 18446744073709551615]) ++ wordsA (othersW v2) = wordsA v1 ++ wordsA (othersW (x :: v2)) := by simp [wordsA, othersW]
  rw [e2] at M2
  exact M2
theorem members_r (hu : u.length ≤ 1000000) (hi : i ≤ u.length) : ∃ r, SetP u i r ∧ (∀ w j, r = .ok (w, j) → WordsOk w ∧ i < j ∧ j ≤ u.length) ∧ (∀ e, r = .error e → e ≤ u.length) ∧
  ∀ {n d b : Nat} {h : AHeap}, 300 < n → u.length < n → Rd h b u i → b < h.next → Step b u h (world n (d + 5) 91 [.ptr b 0] h) (setR r) := by
 have hb1 : setB u i ≤ u.length ∧ i ≤ setB u i := by
  unfold setB
  by_cases h94 : at? u i = some 94
  ·obtain ⟨hp, _⟩ := at?_some h94
   rw [if_pos h94]
   omega
  ·rw [if_neg h94]
   omega
 cases hm : memberF u zeroW (setB u i) with
 | error e =>
  refine ⟨.error e, .bad hm, ?_, ?_, ?_⟩
  ·intro w j hh
   cases hh
  ·intro e' hh
   cases hh
   exact memberF_bad hb1.1 hm
  ·intro n d b h hn hn2 k hb
   refine Step.err_of ?_
   have hs := fun (h' : AHeap) (k' : Rd h' b u i) (hb' : b < h'.next) => skips_r (n := n) (d := d + 1) k' hb' hi hu 94
   rw [w_pattern_reader_members]
   unfold pattern_reader_members
   have Mx := Mem.one k hb
   repeat (first | ((with_reducible apply Wp.mnew Mx); intro _ Mz; clear Mx; have Mx := Mz; clear Mz) | rw [newP_eq])
   have hs1 := hs _ Mx.at1.1 Mx.at1.2.1
   refine Wp.stepN hs1 fun h1 k1 t1 => ?_
   have Mz := Mem.upd (xs := [_]) Mx t1 k1
   clear Mx
   have Mx := Mz
   clear Mz
   repeat (first | ((with_reducible apply Wp.obind); (with_reducible exact avBool_bool _)) | ((with_reducible apply Wp.mnew Mx); intro _ Mz; clear Mx; have Mx := Mz; clear Mz) | rw [newP_eq])
   have M2 : Mem _ _ _ ((b, TRd, rdP u (setB u i)) :: (h1.next, TSet, wordsA zeroW) :: [_]) := Mx.perm (List.perm_append_comm (l₁ := [_]) (l₂ := [_, _]))
   have hx := member_r (n := n) (d := d) hn zeroW_ok M2 hb1.1 hu
   rw [hm] at hx
   obtain ⟨h2, p2, e2, k2, t2⟩ := hx
   exact Wp.callP e2 ⟨rfl, p2, k2, t2⟩
 | ok wj =>
  obtain ⟨w, j⟩ := wj
  obtain ⟨m1, m2, m3⟩ := memberF_ok zeroW_ok hm
  obtain ⟨r, r1, r2, r3, r4⟩ := members_loop hu (u.length + 1) j w m3 (by omega) m1
  refine ⟨othersR u i r, .set hm r1, ?_, ?_, ?_⟩
  ·intro w' j' hh
   cases r with
   | error e => cases hh
   | ok wj2 =>
    obtain ⟨w2, j2⟩ := wj2
    obtain ⟨a1, a2, a3⟩ := r2 w2 j2 rfl
    cases hh
    refine ⟨?_, by omega, a3⟩
    split
    ·exact othersW_ok a1
    ·exact a1
  ·intro e hh
   cases r with
   | error e' =>
    cases hh
    exact r3 _ rfl
   | ok wj2 => cases hh
  ·intro n d b h hn hn2 k hb
   have main : ∀ Q : ARes → AHeap → Prop, (∀ w' j' H', r = .ok (w', j') → Rd H' b u j' → Tch [b] h H' → Q (.ret (.agg (wordsA (if at? u i = some 94 then othersW w' else w')))) H') → (∀ e p H', r = .error e → Rd H' b u p → Tch [b] h H' → Q (.panic (PanA 6 e)) H') → Wp (world n (d + 5) 91 [.ptr b 0] h) Q := by
    intro Q q1 q2
    have hs := fun (h' : AHeap) (k' : Rd h' b u i) (hb' : b < h'.next) => skips_r (n := n) (d := d + 1) k' hb' hi hu 94
    rw [w_pattern_reader_members]
    unfold pattern_reader_members
    have Mx := Mem.one k hb
    repeat (first | ((with_reducible apply Wp.mnew Mx); intro _ Mz; clear Mx; have Mx := Mz; clear Mz) | rw [newP_eq])
    have hs1 := hs _ Mx.at1.1 Mx.at1.2.1
    refine Wp.stepN hs1 fun h1 k1 t1 => ?_
    have Mz := Mem.upd (xs := [_]) Mx t1 k1
    clear Mx
    have Mx := Mz
    clear Mz
    repeat (first | ((with_reducible apply Wp.obind); (with_reducible exact avBool_bool _)) | ((with_reducible apply Wp.mnew Mx); intro _ Mz; clear Mx; have Mx := Mz; clear Mz) | rw [newP_eq])
    have M2 : Mem _ _ _ ((b, TRd, rdP u (setB u i)) :: (h1.next, TSet, wordsA zeroW) :: [_]) := Mx.perm (List.perm_append_comm (l₁ := [_]) (l₂ := [_, _]))
    have hx := member_r (n := n) (d := d) hn zeroW_ok M2 hb1.1 hu
    rw [hm] at hx
    obtain ⟨h2, e2, M3⟩ := hx
    refine Wp.callK e2 ?_
    ((with_reducible refine Wp.join0 (fun _ _ => ?_)))
    rename_i k16 ek16
    refine r4 (newP_eq h1) (by omega) hn M3 ?_ ?_
    ·intro w' j' H' hr M4
     obtain ⟨a1, a2, a3⟩ := r2 w' j' hr
     ((with_reducible refine Wp.go0 (by assumption) ?_))
     ((with_reducible refine Wp.join0 (fun _ _ => ?_)))
     rename_i k20 ek20
     have fin : ∀ {w2 : List Nat} {H2 : AHeap}, WordsOk w2 → w2 = (if at? u i = some 94 then othersW w' else w') → Mem [b] h H2 ((b, TRd, rdP u j') :: (h1.next, TSet, wordsA w2) :: [(h.next, TSet, [.int .u64 0, .int .u64 0, .int .u64 0, .int .u64 0])]) → Wp (k20 H2) Q := by
      intro w2 H2 o2 ew M5
      have hl : (wordsA w2).length = 4 := by rw [wordsA_len, o2.len]
      refine Wp.go0 ek20 ?_
      refine Wp.lr1 M5 hl ?_
      refine Wp.sa2 M5 hl rfl (wordsA_one _) fun H3 M6 => ?_
      refine Wp.lr2 M6 hl ?_
      rw [ew] at M6 ⊢
      exact Wp.ret (q1 w' j' H3 hr M6.at0.1 M6.tch)
     by_cases h94 : at? u i = some 94
     ·(((with_reducible refine Wp.ift ?_ ?_); ((with_reducible apply decide_eq_true); omega)))
      ((with_reducible refine Wp.join0 (fun _ _ => ?_)))
      rename_i k29 ek29
      have ho := others_loop (S := [b]) (h0 := h) (k29 := k29) (Q := Q) (newP_eq h1) w' [] n H' (by rw [a1.len]; omega) (by rw [a1.len]; rfl) a1.small (by exact M4)
      refine ho fun H2 M5 => ?_
      refine Wp.go0 ek29 ?_
      exact fin (othersW_ok a1) (by rw [if_pos h94]) M5
     ·(((with_reducible refine Wp.iff ?_ ?_); ((with_reducible apply decide_eq_false); omega)))
      exact fin a1 (by rw [if_neg h94]) M4
    ·intro e p H' hr k5 t5
     exact q2 e p H' hr k5 t5
   cases r with
   | error e => exact Step.err_of (main _ (fun w' j' H' hh => by cases hh) fun e' p H' hh k5 t5 => by cases hh; exact ⟨rfl, p, k5, t5⟩)
   | ok wj2 =>
    obtain ⟨w2, j2⟩ := wj2
    exact Step.ok_of (main _ (fun w' j' H' hh k5 t5 => by cases hh; exact ⟨rfl, k5, t5⟩) fun e' p H' hh => by cases hh)
end
def Bnd (u : Bytes) (i : Nat) : Res → Prop
 | .ok (_, j) => i ≤ j ∧ j ≤ u.length
 | .error q => q ≤ u.length
def Bnd1 (u : Bytes) (i : Nat) : Res → Prop
 | .ok (_, j) => i < j ∧ j ≤ u.length
 | .error q => q ≤ u.length
def AltOk (u : Bytes) (m : Nat) : Prop := ∀ i, i ≤ u.length → u.length - i ≤ m → ∃ r, AltP u [] i r ∧ Bnd u i r ∧
 ∀ {n D b : Nat} {h : AHeap}, 4 * m + 9 ≤ D → 300 < n → u.length + 5 < n → Rd h b u i → b < h.next → memB TNode h.ex = false → StepN b u h (world n D 61 [.ptr b 0] h) r
def RowOk (u : Bytes) (m : Nat) : Prop := ∀ i, i ≤ u.length → u.length - i ≤ m → ∃ r, RowP u [] i r ∧ Bnd u i r ∧
 ∀ {n D b : Nat} {h : AHeap}, 4 * m + 8 ≤ D → 300 < n → u.length + 5 < n → Rd h b u i → b < h.next → memB TNode h.ex = false → StepN b u h (world n D 79 [.ptr b 0] h) r
def PartOk (u : Bytes) (m : Nat) : Prop := ∀ i, i ≤ u.length → u.length - i ≤ m → ∃ r, PartP u i r ∧ Bnd1 u i r ∧
 ∀ {n D b : Nat} {h : AHeap}, 4 * m + 7 ≤ D → 300 < n → u.length + 5 < n → Rd h b u i → b < h.next → memB TNode h.ex = false → StepN b u h (world n D 85 [.ptr b 0] h) r
def AtomOk (u : Bytes) (m : Nat) : Prop := ∀ i, i ≤ u.length → u.length - i ≤ m → ∃ r, AtomP u i r ∧ Bnd1 u i r ∧
 ∀ {n D b : Nat} {h : AHeap}, 4 * m + 6 ≤ D → 300 < n → u.length + 5 < n → Rd h b u i → b < h.next → memB TNode h.ex = false → StepN b u h (world n D 88 [.ptr b 0] h) r
section
variable {n d b p q i : Nat} {h h0 : AHeap} {u : Bytes} {Q : ARes → AHeap → Prop} {S : List Nat} {xs rs T : List RowT} {w : List Nat} {x : R} {k : AV → AHeap → R} {t : Nd} {c : List AV} {v : AV}
theorem StepN.ok_of (kk : Wp x fun r h' => ∃ c T, r = .ret (.agg c) ∧ NodeT t c T ∧ Mem [b] h h' ((b, TRd, rdP u p) :: T)) : StepN b u h x (.ok (t, p)) := by
 obtain ⟨_, h', e, c, T, rfl, k1, k2⟩ := kk
 exact ⟨c, T, h', e, k1, k2⟩
theorem StepN.err_of (kk : Wp x fun r h' => r = .panic (PanA 6 q) ∧ ∃ p, Rd h' b u p ∧ Tch [b] h h') : StepN b u h x (.error q) := by
 obtain ⟨_, h', e, rfl, p, k1, k2⟩ := kk
 exact ⟨h', p, e, k1, k2⟩
theorem Wp.nodeK (hx : StepN b u h x (.ok (t, p))) (M : Mem S h0 h ((b, TRd, rdP u i) :: rs)) (hk : ∀ c T h', NodeT t c T → Mem S h0 h' ((b, TRd, rdP u p) :: (rs ++ T)) → Wp (k (.agg c) h') Q) : Wp (callK x k) Q := by
 obtain ⟨c, T, h', e, kt, M'⟩ := hx
 exact Wp.callK e (hk c T h' kt (Mem.frameT (xs := [_]) (ys := [_]) M M'))
theorem Wp.nodeE (hx : StepN b u h x (.error q)) (M : Mem S h0 h ((b, TRd, rdP u i) :: rs)) (hq : ∀ h' p, Rd h' b u p → Tch S h0 h' → Q (.panic (PanA 6 q)) h') : Wp (callK x k) Q := by
 obtain ⟨h', p, e, k1, k2⟩ := hx
 exact Wp.callP e (hq h' p k1 (Mem.upd (xs := []) M k2 k1).tch)
theorem Wp.rdK (hx : Step b u h x (.ok (v, p))) (M : Mem S h0 h ((b, TRd, rdP u i) :: rs)) (hk : ∀ h', Mem S h0 h' ((b, TRd, rdP u p) :: rs) → Wp (k v h') Q) : Wp (callK x k) Q :=
 Wp.stepK hx fun h' k1 t1 => hk h' (Mem.upd (xs := []) M t1 k1)
theorem Wp.rdN (hx : Step b u h x (.ok (v, p))) (M : Mem S h0 h ((b, TRd, rdP u i) :: rs)) (hk : ∀ h', Mem S h0 h' ((b, TRd, rdP u p) :: rs) → Wp (k v h') Q) : Wp (callN x k) Q :=
 Wp.stepN hx fun h' k1 t1 => hk h' (Mem.upd (xs := []) M t1 k1)
theorem Wp.rdE (hx : Step b u h x (.error (6, q))) (M : Mem S h0 h ((b, TRd, rdP u i) :: rs)) (hq : ∀ h' p, Rd h' b u p → Tch S h0 h' → Q (.panic (PanA 6 q)) h') : Wp (callK x k) Q :=
 Wp.stepE hx fun h' p k1 t1 => hq h' p k1 (Mem.upd (xs := []) M t1 k1).tch
theorem fin_node {r0 : Nat} {l : List AV} (M : Mem S h0 h ((b, TRd, rdP u p) :: (r0, TNode, l) :: T)) (hl : l.length = 6) (kt : NodeT t c T) : Wp (obind (stRow h 6 c (.ptr r0 0)) fun h1 => obind (ldRow h1 6 (.ptr r0 0)) fun w => some (.ret (.agg w), h1)) fun r h' => ∃ c T, r = .ret (.agg c) ∧ NodeT t c T ∧ Mem S h0 h' ((b, TRd, rdP u p) :: T) := by
 refine Wp.sa1 M kt.len hl kt.one fun h1 M1 => ?_
 refine Wp.lr1 M1 kt.len ?_
 exact Wp.ret ⟨c, T, rfl, kt, mem_mid (xs := [_]) (T0 := [_]) M1⟩
theorem atom_ok (hu : u.length ≤ 1000000) {m : Nat} (ih : ∀ m', m = m' + 1 → AltOk u m') : AtomOk u m := by
 intro i hi hm
 cases hc : at? u i with
 | none =>
  refine ⟨_, .none hc, hi, ?_⟩
  intro n D b h hD hn hn2 k0 hb hx
  obtain ⟨D, rfl⟩ : ∃ D', D = D' + 6 := ⟨D - 6, by omega⟩
  refine StepN.err_of ?_
  rw [w_pattern_reader_atom]
  unfold pattern_reader_atom
  have Mx := Mem.one k0 hb
  repeat (first | ((with_reducible apply Wp.mnew Mx); intro _ Mz; clear Mx; have Mx := Mz; clear Mz) | rw [newP_eq])
  have M1 := Mx.swap
  have hs := next_r (n := n) (d := D + 3) M1.at0.1 M1.at0.2.1 hi hu
  rw [hc] at hs
  exact Wp.rdE hs M1 fun h' p k1 t1 => ⟨rfl, p, k1, t1⟩
 | some c =>
  obtain ⟨hp, _⟩ := at?_some hc
  have h256 := at?_256 hc
  by_cases h40 : c = 40
  ·subst h40
   obtain ⟨m', rfl⟩ : ∃ m', m = m' + 1 := ⟨m - 1, by omega⟩
   obtain ⟨r, r1, r2, r3⟩ := ih m' rfl (i + 1) (by omega) (by omega)
   cases r with
   | error q =>
    refine ⟨_, .open_bad hc r1, r2, ?_⟩
    intro n D b h hD hn hn2 k0 hb hx
    obtain ⟨D, rfl⟩ : ∃ D', D = D' + 6 := ⟨D - 6, by omega⟩
    refine StepN.err_of ?_
    rw [w_pattern_reader_atom]
    unfold pattern_reader_atom
    have Mx := Mem.one k0 hb
    repeat (first | ((with_reducible apply Wp.mnew Mx); intro _ Mz; clear Mx; have Mx := Mz; clear Mz) | rw [newP_eq])
    have M1 := Mx.swap
    have hs := next_r (n := n) (d := D + 3) M1.at0.1 M1.at0.2.1 hi hu
    rw [hc] at hs
    refine Wp.rdK hs M1 fun h1 M2 => ?_
    have hs2 := r3 (n := n) (D := D + 5) (by omega) hn hn2 M2.at0.1 M2.at0.2.1 (by rw [M2.ex]; exact hx)
    repeat (first | (with_reducible refine Wp.lett ?_) | ((with_reducible apply Wp.obind); (with_reducible exact avInt_int _ _)) | ((with_reducible refine Wp.ift ?_ ?_); ((with_reducible apply beq_t); omega)))
    exact Wp.nodeE hs2 M2 fun h' p k1 t1 => ⟨rfl, p, k1, t1⟩
   | ok tj =>
    obtain ⟨t, j⟩ := tj
    obtain ⟨b1, b2⟩ := r2
    by_cases h41 : at? u j = some 41
    ·obtain ⟨hj, _⟩ := at?_some h41
     refine ⟨_, .group hc r1 h41, ⟨by omega, by omega⟩, ?_⟩
     intro n D b h hD hn hn2 k0 hb hx
     obtain ⟨D, rfl⟩ : ∃ D', D = D' + 6 := ⟨D - 6, by omega⟩
     refine StepN.ok_of ?_
     rw [w_pattern_reader_atom]
     unfold pattern_reader_atom
     have Mx := Mem.one k0 hb
     repeat (first | ((with_reducible apply Wp.mnew Mx); intro _ Mz; clear Mx; have Mx := Mz; clear Mz) | rw [newP_eq])
     have M1 := Mx.swap
     have hs := next_r (n := n) (d := D + 3) M1.at0.1 M1.at0.2.1 hi hu
     rw [hc] at hs
     refine Wp.rdK hs M1 fun h1 M2 => ?_
     have hs2 := r3 (n := n) (D := D + 5) (by omega) hn hn2 M2.at0.1 M2.at0.2.1 (by rw [M2.ex]; exact hx)
     repeat (first | (with_reducible refine Wp.lett ?_) | ((with_reducible apply Wp.obind); (with_reducible exact avInt_int _ _)) | ((with_reducible refine Wp.ift ?_ ?_); ((with_reducible apply beq_t); omega)))
     refine Wp.nodeK hs2 M2 fun c T h2 kt M3 => ?_
     (((with_reducible apply Wp.obind); (with_reducible exact avAgg_agg _)))
     refine Wp.mnew M3 fun h3 M4 => ?_
     rw [newP_eq]
     refine Wp.sa0 M4 kt.len rfl kt.one fun h4 M5 => ?_
     have M6 := M5.swap
     have hs3 := take_r (n := n) (d := D + 1) M6.at0.1 M6.at0.2.1 b2 hu 41
     rw [if_pos h41] at hs3
     refine Wp.rdK hs3 M6 fun h5 M7 => ?_
     refine Wp.lr1 M7 kt.len ?_
     exact fin_node (mem_mid (xs := [_]) (T0 := [_]) M7) rfl kt
    ·refine ⟨_, .open_end hc r1 h41, b2, ?_⟩
     intro n D b h hD hn hn2 k0 hb hx
     obtain ⟨D, rfl⟩ : ∃ D', D = D' + 6 := ⟨D - 6, by omega⟩
     refine StepN.err_of ?_
     rw [w_pattern_reader_atom]
     unfold pattern_reader_atom
     have Mx := Mem.one k0 hb
     repeat (first | ((with_reducible apply Wp.mnew Mx); intro _ Mz; clear Mx; have Mx := Mz; clear Mz) | rw [newP_eq])
     have M1 := Mx.swap
     have hs := next_r (n := n) (d := D + 3) M1.at0.1 M1.at0.2.1 hi hu
     rw [hc] at hs
     refine Wp.rdK hs M1 fun h1 M2 => ?_
     have hs2 := r3 (n := n) (D := D + 5) (by omega) hn hn2 M2.at0.1 M2.at0.2.1 (by rw [M2.ex]; exact hx)
     repeat (first | (with_reducible refine Wp.lett ?_) | ((with_reducible apply Wp.obind); (with_reducible exact avInt_int _ _)) | ((with_reducible refine Wp.ift ?_ ?_); ((with_reducible apply beq_t); omega)))
     refine Wp.nodeK hs2 M2 fun c T h2 kt M3 => ?_
     (((with_reducible apply Wp.obind); (with_reducible exact avAgg_agg _)))
     refine Wp.mnew M3 fun h3 M4 => ?_
     rw [newP_eq]
     refine Wp.sa0 M4 kt.len rfl kt.one fun h4 M5 => ?_
     have M6 := M5.swap
     have hs3 := take_r (n := n) (d := D + 1) M6.at0.1 M6.at0.2.1 b2 hu 41
     rw [if_neg h41] at hs3
     exact Wp.rdE hs3 M6 fun h' p k1 t1 => ⟨rfl, p, k1, t1⟩
  by_cases h46 : c = 46
  ·subst h46
   refine ⟨_, .any hc, ⟨by omega, by omega⟩, ?_⟩
   intro n D b h hD hn hn2 k0 hb hx
   obtain ⟨D, rfl⟩ : ∃ D', D = D' + 6 := ⟨D - 6, by omega⟩
   refine StepN.ok_of ?_
   rw [w_pattern_reader_atom]
   unfold pattern_reader_atom
   have Mx := Mem.one k0 hb
   repeat (first | ((with_reducible apply Wp.mnew Mx); intro _ Mz; clear Mx; have Mx := Mz; clear Mz) | rw [newP_eq])
   have M1 := Mx.swap
   have hs := next_r (n := n) (d := D + 3) M1.at0.1 M1.at0.2.1 hi hu
   rw [hc] at hs
   refine Wp.rdK hs M1 fun h1 M2 => ?_
   repeat (first | (with_reducible refine Wp.lett ?_) | ((with_reducible apply Wp.obind); (with_reducible first | exact avInt_int _ _ | exact avAgg_agg _)) | ((with_reducible refine Wp.ift ?_ ?_); ((with_reducible apply beq_t); omega)) | ((with_reducible refine Wp.iff ?_ ?_); ((with_reducible apply beq_f); omega)) | ((with_reducible apply Wp.callN); (with_reducible exact anyByte_w (d := D + 3) hn)))
   exact fin_node M2 rfl (NodeT.leaf 2 anyW_ok)
  by_cases h91 : c = 91
  ·subst h91
   obtain ⟨r, r1, r2, r2', r3⟩ := members_r hu (i := i + 1) (by omega)
   cases r with
   | error q =>
    refine ⟨_, .set_bad hc r1, r2' q rfl, ?_⟩
    intro n D b h hD hn hn2 k0 hb hx
    obtain ⟨D, rfl⟩ : ∃ D', D = D' + 6 := ⟨D - 6, by omega⟩
    refine StepN.err_of ?_
    rw [w_pattern_reader_atom]
    unfold pattern_reader_atom
    have Mx := Mem.one k0 hb
    repeat (first | ((with_reducible apply Wp.mnew Mx); intro _ Mz; clear Mx; have Mx := Mz; clear Mz) | rw [newP_eq])
    have M1 := Mx.swap
    have hs := next_r (n := n) (d := D + 3) M1.at0.1 M1.at0.2.1 hi hu
    rw [hc] at hs
    refine Wp.rdK hs M1 fun h1 M2 => ?_
    have hs2 := r3 (n := n) (d := D) hn (by omega) M2.at0.1 M2.at0.2.1
    repeat (first | (with_reducible refine Wp.lett ?_) | ((with_reducible apply Wp.obind); (with_reducible exact avInt_int _ _)) | ((with_reducible refine Wp.ift ?_ ?_); ((with_reducible apply beq_t); omega)) | ((with_reducible refine Wp.iff ?_ ?_); ((with_reducible apply beq_f); omega)))
    exact Wp.rdE hs2 M2 fun h' p k1 t1 => ⟨rfl, p, k1, t1⟩
   | ok wj =>
    obtain ⟨w, j⟩ := wj
    obtain ⟨o1, o2, o3⟩ := r2 w j rfl
    refine ⟨_, .set hc r1, ⟨by omega, o3⟩, ?_⟩
    intro n D b h hD hn hn2 k0 hb hx
    obtain ⟨D, rfl⟩ : ∃ D', D = D' + 6 := ⟨D - 6, by omega⟩
    refine StepN.ok_of ?_
    rw [w_pattern_reader_atom]
    unfold pattern_reader_atom
    have Mx := Mem.one k0 hb
    repeat (first | ((with_reducible apply Wp.mnew Mx); intro _ Mz; clear Mx; have Mx := Mz; clear Mz) | rw [newP_eq])
    have M1 := Mx.swap
    have hs := next_r (n := n) (d := D + 3) M1.at0.1 M1.at0.2.1 hi hu
    rw [hc] at hs
    refine Wp.rdK hs M1 fun h1 M2 => ?_
    have hs2 := r3 (n := n) (d := D) hn (by omega) M2.at0.1 M2.at0.2.1
    repeat (first | (with_reducible refine Wp.lett ?_) | ((with_reducible apply Wp.obind); (with_reducible exact avInt_int _ _)) | ((with_reducible refine Wp.ift ?_ ?_); ((with_reducible apply beq_t); omega)) | ((with_reducible refine Wp.iff ?_ ?_); ((with_reducible apply beq_f); omega)))
    refine Wp.rdK hs2 M2 fun h2 M3 => ?_
    have hb2 := setBld o1
    repeat (((with_reducible apply Wp.obind); (with_reducible first | exact hb2 | exact avAgg_agg _)))
    exact fin_node M3 rfl (NodeT.leaf 2 o1)
  by_cases h92 : c = 92
  ·subst h92
   cases he : at? u (i + 1) with
   | none =>
    refine ⟨_, .sl_end hc he, (by show i + 1 ≤ u.length; omega), ?_⟩
    intro n D b h hD hn hn2 k0 hb hx
    obtain ⟨D, rfl⟩ : ∃ D', D = D' + 6 := ⟨D - 6, by omega⟩
    refine StepN.err_of ?_
    rw [w_pattern_reader_atom]
    unfold pattern_reader_atom
    have Mx := Mem.one k0 hb
    repeat (first | ((with_reducible apply Wp.mnew Mx); intro _ Mz; clear Mx; have Mx := Mz; clear Mz) | rw [newP_eq])
    have M1 := Mx.swap
    have hs := next_r (n := n) (d := D + 3) M1.at0.1 M1.at0.2.1 hi hu
    rw [hc] at hs
    refine Wp.rdK hs M1 fun h1 M2 => ?_
    have hs2 := next_r (n := n) (d := D + 3) M2.at0.1 M2.at0.2.1 (by omega) hu
    rw [he] at hs2
    repeat (first | (with_reducible refine Wp.lett ?_) | ((with_reducible apply Wp.obind); (with_reducible exact avInt_int _ _)) | ((with_reducible refine Wp.ift ?_ ?_); ((with_reducible apply beq_t); omega)) | ((with_reducible refine Wp.iff ?_ ?_); ((with_reducible apply beq_f); omega)))
    exact Wp.rdE hs2 M2 fun h' p k1 t1 => ⟨rfl, p, k1, t1⟩
   | some e =>
    obtain ⟨hp2, _⟩ := at?_some he
    refine ⟨_, .sl hc he, ⟨by omega, by omega⟩, ?_⟩
    intro n D b h hD hn hn2 k0 hb hx
    obtain ⟨D, rfl⟩ : ∃ D', D = D' + 6 := ⟨D - 6, by omega⟩
    refine StepN.ok_of ?_
    rw [w_pattern_reader_atom]
    unfold pattern_reader_atom
    have Mx := Mem.one k0 hb
    repeat (first | ((with_reducible apply Wp.mnew Mx); intro _ Mz; clear Mx; have Mx := Mz; clear Mz) | rw [newP_eq])
    have M1 := Mx.swap
    have hs := next_r (n := n) (d := D + 3) M1.at0.1 M1.at0.2.1 hi hu
    rw [hc] at hs
    refine Wp.rdK hs M1 fun h1 M2 => ?_
    have hs2 := next_r (n := n) (d := D + 3) M2.at0.1 M2.at0.2.1 (by omega) hu
    rw [he] at hs2
    repeat (first | (with_reducible refine Wp.lett ?_) | ((with_reducible apply Wp.obind); (with_reducible exact avInt_int _ _)) | ((with_reducible refine Wp.ift ?_ ?_); ((with_reducible apply beq_t); omega)) | ((with_reducible refine Wp.iff ?_ ?_); ((with_reducible apply beq_f); omega)))
    refine Wp.rdK hs2 M2 fun h2 M3 => ?_
    repeat (first | ((with_reducible apply Wp.obind); (with_reducible first | exact avInt_int _ _ | exact avAgg_agg _)) | ((with_reducible apply Wp.callN); (with_reducible exact oneByte_w (d := D + 3) hn (at?_256 he))))
    exact fin_node M3 rfl (NodeT.leaf 2 (spanW_ok 1 zeroW_ok e))
  by_cases hbad : badAtom c
  ·refine ⟨_, .bad hc hbad, hi, ?_⟩
   intro n D b h hD hn hn2 k0 hb hx
   obtain ⟨D, rfl⟩ : ∃ D', D = D' + 6 := ⟨D - 6, by omega⟩
   refine StepN.err_of ?_
   rw [w_pattern_reader_atom]
   unfold pattern_reader_atom
   have Mx := Mem.one k0 hb
   repeat (first | ((with_reducible apply Wp.mnew Mx); intro _ Mz; clear Mx; have Mx := Mz; clear Mz) | rw [newP_eq])
   have M1 := Mx.swap
   have hs := next_r (n := n) (d := D + 3) M1.at0.1 M1.at0.2.1 hi hu
   rw [hc] at hs
   refine Wp.rdK hs M1 fun h1 M2 => ?_
   have hr := refuseLast_r (n := n) (d := D + 3) M2.at0.1 (by omega) hu
   rcases hbad with hs | hs | hs | hs | hs | hs
   ·repeat (first | (with_reducible first | refine Wp.join0 (fun _ _ => ?_) | refine Wp.join1 (fun _ _ => ?_)) | (with_reducible refine Wp.lett ?_) | ((with_reducible apply Wp.obind); (with_reducible exact avInt_int _ _)) | ((with_reducible refine Wp.ift ?_ ?_); first | (with_reducible rfl) | ((with_reducible apply beq_t); omega)) | ((with_reducible refine Wp.iff ?_ ?_); ((with_reducible apply beq_f); omega)) | (with_reducible refine Wp.go1 (by assumption) ?_))
    exact Wp.callP hr ⟨rfl, _, M2.at0.1, M2.tch⟩
   ·repeat (first | (with_reducible first | refine Wp.join0 (fun _ _ => ?_) | refine Wp.join1 (fun _ _ => ?_)) | (with_reducible refine Wp.lett ?_) | ((with_reducible apply Wp.obind); (with_reducible exact avInt_int _ _)) | ((with_reducible refine Wp.ift ?_ ?_); first | (with_reducible rfl) | ((with_reducible apply beq_t); omega)) | ((with_reducible refine Wp.iff ?_ ?_); ((with_reducible apply beq_f); omega)) | (with_reducible refine Wp.go1 (by assumption) ?_))
    exact Wp.callP hr ⟨rfl, _, M2.at0.1, M2.tch⟩
   ·repeat (first | (with_reducible first | refine Wp.join0 (fun _ _ => ?_) | refine Wp.join1 (fun _ _ => ?_)) | (with_reducible refine Wp.lett ?_) | ((with_reducible apply Wp.obind); (with_reducible exact avInt_int _ _)) | ((with_reducible refine Wp.ift ?_ ?_); first | (with_reducible rfl) | ((with_reducible apply beq_t); omega)) | ((with_reducible refine Wp.iff ?_ ?_); ((with_reducible apply beq_f); omega)) | (with_reducible refine Wp.go1 (by assumption) ?_))
    exact Wp.callP hr ⟨rfl, _, M2.at0.1, M2.tch⟩
   ·repeat (first | (with_reducible first | refine Wp.join0 (fun _ _ => ?_) | refine Wp.join1 (fun _ _ => ?_)) | (with_reducible refine Wp.lett ?_) | ((with_reducible apply Wp.obind); (with_reducible exact avInt_int _ _)) | ((with_reducible refine Wp.ift ?_ ?_); first | (with_reducible rfl) | ((with_reducible apply beq_t); omega)) | ((with_reducible refine Wp.iff ?_ ?_); ((with_reducible apply beq_f); omega)) | (with_reducible refine Wp.go1 (by assumption) ?_))
    exact Wp.callP hr ⟨rfl, _, M2.at0.1, M2.tch⟩
   ·repeat (first | (with_reducible first | refine Wp.join0 (fun _ _ => ?_) | refine Wp.join1 (fun _ _ => ?_)) | (with_reducible refine Wp.lett ?_) | ((with_reducible apply Wp.obind); (with_reducible exact avInt_int _ _)) | ((with_reducible refine Wp.ift ?_ ?_); first | (with_reducible rfl) | ((with_reducible apply beq_t); omega)) | ((with_reducible refine Wp.iff ?_ ?_); ((with_reducible apply beq_f); omega)) | (with_reducible refine Wp.go1 (by assumption) ?_))
    exact Wp.callP hr ⟨rfl, _, M2.at0.1, M2.tch⟩
   ·have h93 : ((c : Int) == 93) = true := beq_t (by omega)
    repeat (first | (with_reducible first | refine Wp.join0 (fun _ _ => ?_) | refine Wp.join1 (fun _ _ => ?_)) | (with_reducible refine Wp.lett ?_) | ((with_reducible apply Wp.obind); (with_reducible exact avInt_int _ _)) | ((with_reducible refine Wp.ift ?_ ?_); (with_reducible assumption)) | ((with_reducible refine Wp.iff ?_ ?_); ((with_reducible apply beq_f); omega)) | (with_reducible refine Wp.go1 (by assumption) ?_))
    exact Wp.callP hr ⟨rfl, _, M2.at0.1, M2.tch⟩
  ·refine ⟨_, .one hc hbad ⟨h40, h46, h91, h92⟩, ⟨by omega, by omega⟩, ?_⟩
   intro n D b h hD hn hn2 k0 hb hx
   obtain ⟨D, rfl⟩ : ∃ D', D = D' + 6 := ⟨D - 6, by omega⟩
   refine StepN.ok_of ?_
   rw [w_pattern_reader_atom]
   unfold pattern_reader_atom
   have Mx := Mem.one k0 hb
   repeat (first | ((with_reducible apply Wp.mnew Mx); intro _ Mz; clear Mx; have Mx := Mz; clear Mz) | rw [newP_eq])
   have M1 := Mx.swap
   have hs := next_r (n := n) (d := D + 3) M1.at0.1 M1.at0.2.1 hi hu
   rw [hc] at hs
   refine Wp.rdK hs M1 fun h1 M2 => ?_
   unfold badAtom at hbad
   have h93 : ((c : Int) == 93) = false := beq_f (by omega)
   repeat (first | (with_reducible first | refine Wp.join0 (fun _ _ => ?_) | refine Wp.join1 (fun _ _ => ?_)) | (with_reducible refine Wp.lett ?_) | ((with_reducible apply Wp.obind); (with_reducible first | exact avInt_int _ _ | exact avAgg_agg _)) | ((with_reducible refine Wp.iff ?_ ?_); first | (with_reducible assumption) | ((with_reducible apply beq_f); omega)) | ((with_reducible apply Wp.callN); (with_reducible exact oneByte_w (d := D + 3) hn h256)) | (with_reducible first | refine Wp.go0 (by assumption) ?_ | refine Wp.go1 (by assumption) ?_))
   exact fin_node M2 rfl (NodeT.leaf 2 (spanW_ok 1 zeroW_ok c))
end
end Go.Proofs.Yteibdplpbcobbaa
namespace Go.Proofs.Yteibdplpbcobbaa
open Go.RowKit Abs
section
variable {n d b p q i : Nat} {h h0 : AHeap} {u : Bytes} {Q : ARes → AHeap → Prop} {S : List Nat} {xs rs T : List RowT} {w : List Nat} {x : R} {t : Nd} {c : List AV} {v : AV}
theorem grow_one (c : List AV) (q : Nat) (hl : c.length = 6) (h1 : c.all AV.one = true) : GrowT TNode 6 [c] (.sl q 0 1 6) [(q, TNode, c)] := by
 refine ⟨fun r hr => ?_, .inr ⟨by simp, q, rfl, by simp⟩⟩
 rw [List.mem_singleton] at hr
 subst hr
 exact ⟨hl, h1⟩
theorem signed (kt : NodeT t c T) (op q : Nat) : NodeT (overN op [t]) (nodeC op zeroW (.sl q 0 1 6)) ([(q, TNode, c)] ++ (T ++ [])) :=
 NodeT.mk zeroW_ok (grow_one c q kt.len kt.one) (KidsT.cons kt .nil)
theorem signAt_some {c : Nat} (h : at? u i = some c) : signAt u i = signOp c := by
 unfold signAt
 rw [h]
theorem signAt_none (h42 : at? u i ≠ some 42) (h43 : at? u i ≠ some 43) (h63 : at? u i ≠ some 63) : signAt u i = 0 := by
 unfold signAt
 cases hc : at? u i with
 | none => rfl
 | some c =>
  show signOp c = 0
  rw [hc] at h42 h43 h63
  unfold signOp
  split
  ·exact absurd rfl h42
  ·exact absurd rfl h43
  ·exact absurd rfl h63
  ·rfl
theorem fin_sign {r0 n1 : Nat} {l : List AV} {D op : Nat} (M : Mem S h0 h ((b, TRd, rdP u p) :: (n1, TNode, c) :: (r0, TNode, l) :: T)) (hl : l.length = 6) (kt : NodeT t c T) (hex : memB TNode h0.ex = false) :
  Wp (obind (ldRow h 6 (.ptr n1 0)) fun t9 => outK (bldSl Try.prog h TNodes 1 [(0, .agg t9)]) fun v10 h20 => callN (world n (D + 1) 76 [.int .i64 (op : Int), v10] h20) fun r11 h22 => obind (avAgg r11) fun t11 => obind (stRow h22 6 t11 (.ptr r0 0)) fun h25 => obind (ldRow h25 6 (.ptr r0 0)) fun w => some (.ret (.agg w), h25)) fun r h' => ∃ c T, r = .ret (.agg c) ∧ NodeT (overN op [t]) c T ∧ Mem S h0 h' ((b, TRd, rdP u p) :: T) := by
 refine Wp.lr1 M kt.len ?_
 refine Wp.mnews M (kt.bld h) kt.one hex fun h1 M1 => ?_
 have g := grow_one c h.next kt.len kt.one
 obtain ⟨h2, e2, t2⟩ := over_r (n := n) (d := D) (h := h1) g op
 refine Wp.callN e2 ?_
 have M2 := M1.keep t2
 refine Wp.obind (avAgg_agg _) ?_
 have M3 : Mem S h0 h2 ((b, TRd, rdP u p) :: (r0, TNode, l) :: ([(h.next, TNode, c)] ++ (T ++ []))) := by
  rw [List.append_nil]
  have M4 := M2.perm (ys := [(n1, TNode, c)] ++ ((b, TRd, rdP u p) :: (r0, TNode, l) :: ([(h.next, TNode, c)] ++ T))) (by
   refine List.Perm.trans ?_ (List.perm_append_comm (l₁ := (b, TRd, rdP u p) :: (n1, TNode, c) :: (r0, TNode, l) :: T) (l₂ := [(h.next, TNode, c)]))
   refine (List.Perm.swap _ _ _).trans ?_
   refine List.Perm.cons _ (List.Perm.cons _ (List.Perm.cons _ ?_))
   exact List.perm_append_comm)
  exact Mem.drop M4
 exact fin_node M3 hl (signed kt op h.next)
theorem part_ok (hu : u.length ≤ 1000000) {m : Nat} (ih : AtomOk u m) : PartOk u m := by
 intro i hi hm
 obtain ⟨r, r1, r2, r3⟩ := ih i hi hm
 cases r with
 | error q =>
  refine ⟨_, .bad r1, r2, ?_⟩
  intro n D b h hD hn hn2 k0 hb hx
  obtain ⟨D, rfl⟩ : ∃ D', D = D' + 7 := ⟨D - 7, by omega⟩
  refine StepN.err_of ?_
  rw [w_pattern_reader_regularPart]
  unfold pattern_reader_regularPart
  have Mx := Mem.one k0 hb
  repeat (first | ((with_reducible apply Wp.mnew Mx); intro _ Mz; clear Mx; have Mx := Mz; clear Mz) | rw [newP_eq])
  have M1 := Mx.swap
  have hs := r3 (n := n) (D := D + 6) (by omega) hn hn2 M1.at0.1 M1.at0.2.1 (by rw [M1.ex]; exact hx)
  exact Wp.nodeE hs M1 fun h' p k1 t1 => ⟨rfl, p, k1, t1⟩
 | ok tj =>
  obtain ⟨t, j⟩ := tj
  obtain ⟨b1, b2⟩ := r2
  by_cases h42 : at? u j = some 42
  ·have hsg : signAt u j = 5 := signAt_some h42
   obtain ⟨hj, _⟩ := at?_some h42
   have rp := PartP.sign r1 (by rw [hsg]; decide)
   rw [hsg] at rp
   refine ⟨_, rp, ⟨by omega, by omega⟩, ?_⟩
   intro n D b h hD hn hn2 k0 hb hx
   obtain ⟨D, rfl⟩ : ∃ D', D = D' + 7 := ⟨D - 7, by omega⟩
   refine StepN.ok_of ?_
   rw [w_pattern_reader_regularPart]
   unfold pattern_reader_regularPart
   have Mx := Mem.one k0 hb
   repeat (first | ((with_reducible apply Wp.mnew Mx); intro _ Mz; clear Mx; have Mx := Mz; clear Mz) | rw [newP_eq])
   have M1 := Mx.swap
   have hs := r3 (n := n) (D := D + 6) (by omega) hn hn2 M1.at0.1 M1.at0.2.1 (by rw [M1.ex]; exact hx)
   refine Wp.nodeK hs M1 fun c T h2 kt M3 => ?_
   (((with_reducible apply Wp.obind); (with_reducible exact avAgg_agg _)))
   refine Wp.mnew M3 fun h3 M4 => ?_
   rw [newP_eq]
   refine Wp.sa0 M4 kt.len rfl kt.one fun h4 M5 => ?_
   have M6 := M5.swap
   have hs1 := skips_r (n := n) (d := D + 3) M6.at0.1 M6.at0.2.1 b2 hu 42
   rw [if_pos h42, decide_eq_true h42] at hs1
   refine Wp.rdN hs1 M6 fun h5 M7 => ?_
   repeat (first | ((with_reducible apply Wp.obind); (with_reducible exact avBool_bool _)) | ((with_reducible refine Wp.ift ?_ ?_); (with_reducible rfl)))
   exact fin_sign (D := D + 5) (op := 5) M7 rfl kt hx
  by_cases h43 : at? u j = some 43
  ·have hsg : signAt u j = 6 := signAt_some h43
   obtain ⟨hj, _⟩ := at?_some h43
   have rp := PartP.sign r1 (by rw [hsg]; decide)
   rw [hsg] at rp
   refine ⟨_, rp, ⟨by omega, by omega⟩, ?_⟩
   intro n D b h hD hn hn2 k0 hb hx
   obtain ⟨D, rfl⟩ : ∃ D', D = D' + 7 := ⟨D - 7, by omega⟩
   refine StepN.ok_of ?_
   rw [w_pattern_reader_regularPart]
   unfold pattern_reader_regularPart
   have Mx := Mem.one k0 hb
   repeat (first | ((with_reducible apply Wp.mnew Mx); intro _ Mz; clear Mx; have Mx := Mz; clear Mz) | rw [newP_eq])
   have M1 := Mx.swap
   have hs := r3 (n := n) (D := D + 6) (by omega) hn hn2 M1.at0.1 M1.at0.2.1 (by rw [M1.ex]; exact hx)
   refine Wp.nodeK hs M1 fun c T h2 kt M3 => ?_
   (((with_reducible apply Wp.obind); (with_reducible exact avAgg_agg _)))
   refine Wp.mnew M3 fun h3 M4 => ?_
   rw [newP_eq]
   refine Wp.sa0 M4 kt.len rfl kt.one fun h4 M5 => ?_
   have M6 := M5.swap
   have hs1 := skips_r (n := n) (d := D + 3) M6.at0.1 M6.at0.2.1 b2 hu 42
   rw [if_neg h42, decide_eq_false h42] at hs1
   refine Wp.rdN hs1 M6 fun h5 M7 => ?_
   have hs2 := skips_r (n := n) (d := D + 3) M7.at0.1 M7.at0.2.1 b2 hu 43
   rw [if_pos h43, decide_eq_true h43] at hs2
   repeat (first | ((with_reducible apply Wp.obind); (with_reducible exact avBool_bool _)) | ((with_reducible refine Wp.iff ?_ ?_); (with_reducible rfl)))
   refine Wp.rdN hs2 M7 fun h6 M8 => ?_
   repeat (first | ((with_reducible apply Wp.obind); (with_reducible exact avBool_bool _)) | ((with_reducible refine Wp.ift ?_ ?_); (with_reducible rfl)))
   exact fin_sign (D := D + 5) (op := 6) M8 rfl kt hx
  by_cases h63 : at? u j = some 63
  ·have hsg : signAt u j = 7 := signAt_some h63
   obtain ⟨hj, _⟩ := at?_some h63
   have rp := PartP.sign r1 (by rw [hsg]; decide)
   rw [hsg] at rp
   refine ⟨_, rp, ⟨by omega, by omega⟩, ?_⟩
   intro n D b h hD hn hn2 k0 hb hx
   obtain ⟨D, rfl⟩ : ∃ D', D = D' + 7 := ⟨D - 7, by omega⟩
   refine StepN.ok_of ?_
   rw [w_pattern_reader_regularPart]
   unfold pattern_reader_regularPart
   have Mx := Mem.one k0 hb
   repeat (first | ((with_reducible apply Wp.mnew Mx); intro _ Mz; clear Mx; have Mx := Mz; clear Mz) | rw [newP_eq])
   have M1 := Mx.swap
   have hs := r3 (n := n) (D := D + 6) (by omega) hn hn2 M1.at0.1 M1.at0.2.1 (by rw [M1.ex]; exact hx)
   refine Wp.nodeK hs M1 fun c T h2 kt M3 => ?_
   (((with_reducible apply Wp.obind); (with_reducible exact avAgg_agg _)))
   refine Wp.mnew M3 fun h3 M4 => ?_
   rw [newP_eq]
   refine Wp.sa0 M4 kt.len rfl kt.one fun h4 M5 => ?_
   have M6 := M5.swap
   have hs1 := skips_r (n := n) (d := D + 3) M6.at0.1 M6.at0.2.1 b2 hu 42
   rw [if_neg h42, decide_eq_false h42] at hs1
   refine Wp.rdN hs1 M6 fun h5 M7 => ?_
   have hs2 := skips_r (n := n) (d := D + 3) M7.at0.1 M7.at0.2.1 b2 hu 43
   rw [if_neg h43, decide_eq_false h43] at hs2
   repeat (first | ((with_reducible apply Wp.obind); (with_reducible exact avBool_bool _)) | ((with_reducible refine Wp.iff ?_ ?_); (with_reducible rfl)))
   refine Wp.rdN hs2 M7 fun h6 M8 => ?_
   have hs3 := skips_r (n := n) (d := D + 3) M8.at0.1 M8.at0.2.1 b2 hu 63
   rw [if_pos h63, decide_eq_true h63] at hs3
   repeat (first | ((with_reducible apply Wp.obind); (with_reducible exact avBool_bool _)) | ((with_reducible refine Wp.iff ?_ ?_); (with_reducible rfl)))
   refine Wp.rdN hs3 M8 fun h7 M9 => ?_
   repeat (first | ((with_reducible apply Wp.obind); (with_reducible exact avBool_bool _)) | ((with_reducible refine Wp.ift ?_ ?_); (with_reducible rfl)))
   exact fin_sign (D := D + 5) (op := 7) M9 rfl kt hx
  ·have hsg := signAt_none h42 h43 h63
   refine ⟨_, .bare r1 hsg, ⟨b1, b2⟩, ?_⟩
   intro n D b h hD hn hn2 k0 hb hx
   obtain ⟨D, rfl⟩ : ∃ D', D = D' + 7 := ⟨D - 7, by omega⟩
   refine StepN.ok_of ?_
   rw [w_pattern_reader_regularPart]
   unfold pattern_reader_regularPart
   have Mx := Mem.one k0 hb
   repeat (first | ((with_reducible apply Wp.mnew Mx); intro _ Mz; clear Mx; have Mx := Mz; clear Mz) | rw [newP_eq])
   have M1 := Mx.swap
   have hs := r3 (n := n) (D := D + 6) (by omega) hn hn2 M1.at0.1 M1.at0.2.1 (by rw [M1.ex]; exact hx)
   refine Wp.nodeK hs M1 fun c T h2 kt M3 => ?_
   (((with_reducible apply Wp.obind); (with_reducible exact avAgg_agg _)))
   refine Wp.mnew M3 fun h3 M4 => ?_
   rw [newP_eq]
   refine Wp.sa0 M4 kt.len rfl kt.one fun h4 M5 => ?_
   have M6 := M5.swap
   have hs1 := skips_r (n := n) (d := D + 3) M6.at0.1 M6.at0.2.1 b2 hu 42
   rw [if_neg h42, decide_eq_false h42] at hs1
   refine Wp.rdN hs1 M6 fun h5 M7 => ?_
   have hs2 := skips_r (n := n) (d := D + 3) M7.at0.1 M7.at0.2.1 b2 hu 43
   rw [if_neg h43, decide_eq_false h43] at hs2
   repeat (first | ((with_reducible apply Wp.obind); (with_reducible exact avBool_bool _)) | ((with_reducible refine Wp.iff ?_ ?_); (with_reducible rfl)))
   refine Wp.rdN hs2 M7 fun h6 M8 => ?_
   have hs3 := skips_r (n := n) (d := D + 3) M8.at0.1 M8.at0.2.1 b2 hu 63
   rw [if_neg h63, decide_eq_false h63] at hs3
   repeat (first | ((with_reducible apply Wp.obind); (with_reducible exact avBool_bool _)) | ((with_reducible refine Wp.iff ?_ ?_); (with_reducible rfl)))
   refine Wp.rdN hs3 M8 fun h7 M9 => ?_
   repeat (first | ((with_reducible apply Wp.obind); (with_reducible exact avBool_bool _)) | ((with_reducible refine Wp.iff ?_ ?_); (with_reducible rfl)))
   refine Wp.lr1 M9 kt.len ?_
   exact fin_node (mem_mid (xs := [_]) (T0 := [_]) M9) rfl kt
end
section
variable {n d b p q i m : Nat} {h h0 : AHeap} {u : Bytes} {Q : ARes → AHeap → Prop} {S : List Nat} {xs rs T T0 T1 : List RowT} {w : List Nat} {x : R} {t : Nd} {c : List AV} {v kv : AV} {l : List Nd} {kc : List (List AV)}
theorem StepN.of_main {r : Res} (main : ∀ Q : ARes → AHeap → Prop, (∀ t j c T H', r = .ok (t, j) → NodeT t c T → Mem [b] h H' ((b, TRd, rdP u j) :: T) → Q (.ret (.agg c)) H') → (∀ e p H', r = .error e → Rd H' b u p → Tch [b] h H' → Q (.panic (PanA 6 e)) H') → Wp x Q) : StepN b u h x r := by
 cases r with
 | error e => exact StepN.err_of (main _ (fun t j c T H' hh => by cases hh) fun e' p H' hh k5 t5 => by cases hh; exact ⟨rfl, p, k5, t5⟩)
 | ok tj =>
  obtain ⟨t, j⟩ := tj
  exact StepN.ok_of (main _ (fun t' j' c T H' hh k5 t5 => by cases hh; exact ⟨c, T, rfl, k5, t5⟩) fun e' p H' hh => by cases hh)
theorem Wp.nodeGrow {K : AV → AHeap → R} {y z : RowT} (M : Mem S h0 h (y :: ((z :: (T0 ++ T1)) ++ T))) (g : GrowT TNode 6 kc kv T0) (ks : KidsT l kc T1) (kt : NodeT t c T) (hex : memB TNode h0.ex = false) (hl : l.length ≤ 1000001)
  (hk : ∀ kv' h' T0', GrowT TNode 6 (kc ++ [c]) kv' T0' → KidsT (l ++ [t]) (kc ++ [c]) (T1 ++ T) → Mem S h0 h' (y :: z :: (T0' ++ (T1 ++ T))) → Wp (K kv' h') Q) :
  Wp (outK (bldSl Try.prog h TNodes 1 [(0, .agg c)]) fun v12 h29 => outK (opAppend Try.prog h29 TNodes TNodes kv v12) fun v13 h31 => K v13 h31) Q := by
 refine Wp.mnews M (kt.bld h) kt.one hex fun h1 M1 => ?_
 have M2 : Mem S h0 h1 ((h.next, TNode, c) :: (y :: z :: (T1 ++ T)) ++ T0) := M1.perm (by
  refine List.Perm.cons _ (List.Perm.cons _ (List.Perm.cons _ ?_))
  show ((T1 ++ T) ++ T0).Perm ((T0 ++ T1) ++ T)
  rw [List.append_assoc T0]
  exact List.perm_append_comm)
 have hkl := ks.len
 refine Wp.grow M2 g (by kernel_rfl) (by kernel_rfl) (by kernel_rfl) (B := 64) (by kernel_rfl) hex kt.len kt.one (by omega) (by omega) fun kv' h' T0' g' M3 => ?_
 refine hk kv' h' T0' g' (KidsT.snoc kt ks) (M3.perm ?_)
 exact List.Perm.cons _ (List.Perm.cons _ List.perm_append_comm)
theorem at?_none (h : at? u i = none) (hi : i ≤ u.length) : i = u.length := by
 by_cases hp : i < u.length
 ·rw [at?_lt hp] at h
  cases h
 ·omega
theorem row_loop (hu : u.length ≤ 1000000) (ih : PartOk u m) : ∀ (k i : Nat) (l : List Nd), i ≤ u.length → u.length - i ≤ m → u.length - i < k → l.length ≤ i → ∃ r, RowP u l i r ∧ Bnd u i r ∧
   ∀ {n D f b r0 : Nat} {S : List Nat} {h0 H : AHeap} {kc : List (List AV)} {kv : AV} {T0 T1 : List RowT} {z : List AV} {k7 : AV → AHeap → R} {Q : ARes → AHeap → Prop}, 4 * m + 7 ≤ D → 300 < n → u.length + 5 < n → u.length - i < f → GrowT TNode 6 kc kv T0 → KidsT l kc T1 → memB TNode h0.ex = false →
    Mem S h0 H ((b, TRd, rdP u i) :: (r0, TNode, z) :: (T0 ++ T1)) →
    (∀ l' j kc kv T0 T1 H', r = .ok (joinN 3 l', j) → GrowT TNode 6 kc kv T0 → KidsT l' kc T1 → Mem S h0 H' ((b, TRd, rdP u j) :: (r0, TNode, z) :: (T0 ++ T1)) → Wp (k7 kv H') Q) →
    (∀ e p H', r = .error e → Rd H' b u p → Tch S h0 H' → Q (.panic (PanA 6 e)) H') →
    Wp (pattern_reader_regularRow_L0 (world n D) (.ptr b 0) k7 f kv H) Q
 | 0, _, _, _, _, hk, _ => by omega
 | k + 1, i, l, hi, hm, hk, hli => by
  by_cases hst : stops u i
  ·refine ⟨_, .stop hst, ⟨Nat.le_refl _, hi⟩, ?_⟩
   intro n D f b r0 S h0 H kc kv T0 T1 z k7 Q hD hn hn2 hf g ks hex M hok hbad
   obtain ⟨D, rfl⟩ : ∃ D', D = D' + 7 := ⟨D - 7, by omega⟩
   cases f with
   | zero => omega
   | succ f =>
    have he := ended_r (n := n) (d := D + 6) M.at0.1
    have h1 : world n (D + 7) 68 [.ptr b 0, .int .u8 124] H = some (.ret (.bool (decide (at? u i = some 124))), H) := sees_r (n := n) (d := D + 5) M.at0.1 hi 124
    have h2 : world n (D + 7) 68 [.ptr b 0, .int .u8 41] H = some (.ret (.bool (decide (at? u i = some 41))), H) := sees_r (n := n) (d := D + 5) M.at0.1 hi 41
    have hfin := hok l i kc kv T0 T1 H rfl g ks M
    rw [pattern_reader_regularRow_L0_s]
    unfold pattern_reader_regularRow_L0b
    rcases hst with hc | hc | hc
    ·have := at?_none hc hi
     rw [decide_eq_true this] at he
     repeat (first | (with_reducible refine Wp.join1 (fun _ _ => ?_)) | (with_reducible refine Wp.lett ?_) | ((with_reducible apply Wp.obind); (with_reducible exact avBool_bool _)) | ((with_reducible refine Wp.iff ?_ ?_); (with_reducible first | rfl | exact Bool.not_true)) | ((with_reducible apply Wp.callN); (with_reducible assumption)) | (with_reducible refine Wp.go1 (by assumption) ?_))
     exact hfin
    ·obtain ⟨hp, _⟩ := at?_some hc
     rw [decide_eq_false (by omega)] at he
     rw [decide_eq_true hc] at h1
     repeat (first | (with_reducible refine Wp.join1 (fun _ _ => ?_)) | (with_reducible refine Wp.lett ?_) | ((with_reducible apply Wp.obind); (with_reducible exact avBool_bool _)) | ((with_reducible refine Wp.ift ?_ ?_); (with_reducible exact Bool.not_false)) | ((with_reducible refine Wp.iff ?_ ?_); (with_reducible first | rfl | exact Bool.not_true)) | ((with_reducible apply Wp.callN); (with_reducible assumption)) | (with_reducible refine Wp.go1 (by assumption) ?_))
     exact hfin
    ·obtain ⟨hp, _⟩ := at?_some hc
     rw [decide_eq_false (by omega)] at he
     rw [decide_eq_false (by rw [hc]; decide)] at h1
     rw [decide_eq_true hc] at h2
     repeat (first | (with_reducible refine Wp.join1 (fun _ _ => ?_)) | (with_reducible refine Wp.lett ?_) | ((with_reducible apply Wp.obind); (with_reducible exact avBool_bool _)) | ((with_reducible refine Wp.ift ?_ ?_); (with_reducible exact Bool.not_false)) | ((with_reducible refine Wp.iff ?_ ?_); (with_reducible exact Bool.not_true)) | ((with_reducible apply Wp.callN); (with_reducible assumption)) | (with_reducible refine Wp.go1 (by assumption) ?_))
     exact hfin
  ·have hlt : i < u.length := by
    rcases Nat.lt_or_ge i u.length with h | h
    ·exact h
    ·exact absurd (.inl (at?_ge h)) hst
   have n1 : at? u i ≠ some 124 := fun hh => hst (.inr (.inl hh))
   have n2 : at? u i ≠ some 41 := fun hh => hst (.inr (.inr hh))
   obtain ⟨r, r1, r2, r3⟩ := ih i hi hm
   cases r with
   | error e =>
    refine ⟨_, .bad hst r1, r2, ?_⟩
    intro n D f b r0 S h0 H kc kv T0 T1 z k7 Q hD hn hn2 hf g ks hex M hok hbad
    obtain ⟨D, rfl⟩ : ∃ D', D = D' + 7 := ⟨D - 7, by omega⟩
    cases f with
    | zero => omega
    | succ f =>
     have he := ended_r (n := n) (d := D + 6) M.at0.1
     have h1 : world n (D + 7) 68 [.ptr b 0, .int .u8 124] H = some (.ret (.bool (decide (at? u i = some 124))), H) := sees_r (n := n) (d := D + 5) M.at0.1 hi 124
     have h2 : world n (D + 7) 68 [.ptr b 0, .int .u8 41] H = some (.ret (.bool (decide (at? u i = some 41))), H) := sees_r (n := n) (d := D + 5) M.at0.1 hi 41
     rw [decide_eq_false (by omega)] at he
     rw [decide_eq_false n1] at h1
     rw [decide_eq_false n2] at h2
     have hs := r3 (n := n) (D := D + 7) (by omega) hn hn2 M.at0.1 M.at0.2.1 (by rw [M.ex]; exact hex)
     rw [pattern_reader_regularRow_L0_s]
     unfold pattern_reader_regularRow_L0b
     repeat (first | (with_reducible refine Wp.join1 (fun _ _ => ?_)) | (with_reducible refine Wp.lett ?_) | ((with_reducible apply Wp.obind); (with_reducible exact avBool_bool _)) | ((with_reducible refine Wp.ift ?_ ?_); (with_reducible exact Bool.not_false)) | ((with_reducible first | apply Wp.callN | apply Wp.callK); (with_reducible assumption)) | (with_reducible refine Wp.go1 (by assumption) ?_))
     exact Wp.nodeE hs M fun h' p k1 t1 => hbad e p h' rfl k1 t1
   | ok tj =>
    obtain ⟨t, j⟩ := tj
    obtain ⟨b1, b2⟩ := r2
    obtain ⟨r, q1, q2, q3⟩ := row_loop hu ih k j (l ++ [t]) b2 (by omega) (by omega) (by simp; omega)
    refine ⟨r, .more hst r1 q1, ?_, ?_⟩
    ·cases r with
     | error e => exact q2
     | ok tj2 =>
      obtain ⟨a1, a2⟩ := q2
      exact ⟨by omega, a2⟩
    ·intro n D f b r0 S h0 H kc kv T0 T1 z k7 Q hD hn hn2 hf g ks hex M hok hbad
     obtain ⟨D, rfl⟩ : ∃ D', D = D' + 7 := ⟨D - 7, by omega⟩
     cases f with
     | zero => omega
     | succ f =>
      have he := ended_r (n := n) (d := D + 6) M.at0.1
      have h1 : world n (D + 7) 68 [.ptr b 0, .int .u8 124] H = some (.ret (.bool (decide (at? u i = some 124))), H) := sees_r (n := n) (d := D + 5) M.at0.1 hi 124
      have h2 : world n (D + 7) 68 [.ptr b 0, .int .u8 41] H = some (.ret (.bool (decide (at? u i = some 41))), H) := sees_r (n := n) (d := D + 5) M.at0.1 hi 41
      rw [decide_eq_false (by omega)] at he
      rw [decide_eq_false n1] at h1
      rw [decide_eq_false n2] at h2
      have hs := r3 (n := n) (D := D + 7) (by omega) hn hn2 M.at0.1 M.at0.2.1 (by rw [M.ex]; exact hex)
      rw [pattern_reader_regularRow_L0_s]
      unfold pattern_reader_regularRow_L0b
      repeat (first | (with_reducible refine Wp.join1 (fun _ _ => ?_)) | (with_reducible refine Wp.lett ?_) | ((with_reducible apply Wp.obind); (with_reducible exact avBool_bool _)) | ((with_reducible refine Wp.ift ?_ ?_); (with_reducible exact Bool.not_false)) | ((with_reducible first | apply Wp.callN | apply Wp.callK); (with_reducible assumption)) | (with_reducible refine Wp.go1 (by assumption) ?_))
      refine Wp.nodeK hs M fun c T h2 kt M3 => ?_
      (((with_reducible apply Wp.obind); (with_reducible exact avAgg_agg _)))
      refine Wp.nodeGrow M3 g ks kt hex (by omega) fun kv' h' T0' g' ks' M4 => ?_
      exact q3 hD hn hn2 (by omega) g' ks' hex M4 hok hbad
theorem row_ok (hu : u.length ≤ 1000000) (ih : PartOk u m) : RowOk u m := by
 intro i hi hm
 obtain ⟨r, r1, r2, r3⟩ := row_loop hu ih (u.length + 1) i [] hi hm (by omega) (Nat.zero_le _)
 refine ⟨r, r1, r2, ?_⟩
 intro n D b h hD hn hn2 k0 hb hx
 obtain ⟨D, rfl⟩ : ∃ D', D = D' + 8 := ⟨D - 8, by omega⟩
 refine StepN.of_main fun Q q1 q2 => ?_
 rw [w_pattern_reader_regularRow]
 unfold pattern_reader_regularRow
 refine Wp.mnew (Mem.one k0 hb) fun h1 Mx => ?_
 rw [newP_eq]
 have M1 := Mx.swap
 ((with_reducible refine Wp.join1 (fun _ _ => ?_)))
 rename_i k7 ek7
 refine r3 (r0 := h.next) (by omega) hn hn2 (by omega) (GrowT.nil _ _) .nil hx M1 ?_ q2
 intro l' j kc kv T0 T1 H' hr g ks M2
 refine Wp.go1 ek7 ?_
 obtain ⟨c, T, h2, e2, kt, M3⟩ := inRow_r (n := n) (d := D + 5) (xs := [_, _]) M2 g ks
 repeat (first | ((with_reducible apply Wp.obind); (with_reducible exact avAgg_agg _)) | ((with_reducible apply Wp.callN); (with_reducible assumption)))
 refine (fin_node M3 rfl kt).mono ?_
 rintro _ h3 ⟨c3, T3, rfl, kt3, M4⟩
 exact q1 _ _ _ _ _ hr kt3 M4
end
section
variable {n d b p q i m : Nat} {h h0 : AHeap} {u : Bytes} {Q : ARes → AHeap → Prop} {S : List Nat} {xs rs T T0 T1 : List RowT} {w : List Nat} {x : R} {t : Nd} {c : List AV} {v kv : AV} {l : List Nd} {kc : List (List AV)}
theorem alt_loop (hu : u.length ≤ 1000000) (ih : RowOk u m) : ∀ (k j : Nat) (l : List Nd), j ≤ u.length → u.length - j ≤ m → u.length - j < k → l.length ≤ j + 1 → l ≠ [] → ∃ r, (at? u j = some 124 → AltP u l (j + 1) r) ∧ (at? u j ≠ some 124 → r = .ok (joinN 4 l, j)) ∧ Bnd u j r ∧
   ∀ {n D f b r0 : Nat} {S : List Nat} {h0 H : AHeap} {kc : List (List AV)} {kv : AV} {T0 T1 : List RowT} {z : List AV} {k12 : AV → AHeap → R} {Q : ARes → AHeap → Prop}, 4 * m + 8 ≤ D → 300 < n → u.length + 5 < n → u.length - j < f → GrowT TNode 6 kc kv T0 → KidsT l kc T1 → memB TNode h0.ex = false →
    Mem S h0 H ((b, TRd, rdP u j) :: (r0, TNode, z) :: (T0 ++ T1)) →
    (∀ l' j kc kv T0 T1 H', l' ≠ [] → r = .ok (joinN 4 l', j) → GrowT TNode 6 kc kv T0 → KidsT l' kc T1 → Mem S h0 H' ((b, TRd, rdP u j) :: (r0, TNode, z) :: (T0 ++ T1)) → Wp (k12 kv H') Q) →
    (∀ e p H', r = .error e → Rd H' b u p → Tch S h0 H' → Q (.panic (PanA 6 e)) H') →
    Wp (pattern_reader_alternatives_L0 (world n D) (.ptr b 0) k12 f kv H) Q
 | 0, _, _, _, _, hk, _, _ => by omega
 | k + 1, j, l, hi, hm, hk, hli, hne => by
  by_cases hst : at? u j = some 124
  ·obtain ⟨hp, _⟩ := at?_some hst
   obtain ⟨r, r1, r2, r3⟩ := ih (j + 1) (by omega) (by omega)
   cases r with
   | error e =>
    refine ⟨.error e, fun _ => .bad r1, fun hh => absurd hst hh, r2, ?_⟩
    intro n D f b r0 S h0 H kc kv T0 T1 z k12 Q hD hn hn2 hf g ks hex M hok hbad
    obtain ⟨D, rfl⟩ : ∃ D', D = D' + 8 := ⟨D - 8, by omega⟩
    cases f with
    | zero => omega
    | succ f =>
     rw [pattern_reader_alternatives_L0_s]
     unfold pattern_reader_alternatives_L0b
     have hs1 := skips_r (n := n) (d := D + 5) M.at0.1 M.at0.2.1 hi hu 124
     rw [if_pos hst, decide_eq_true hst] at hs1
     refine Wp.rdN hs1 M fun h1 M1 => ?_
     have hs := r3 (n := n) (D := D + 8) (by omega) hn hn2 M1.at0.1 M1.at0.2.1 (by rw [M1.ex]; exact hex)
     repeat (first | ((with_reducible apply Wp.obind); (with_reducible exact avBool_bool _)) | ((with_reducible refine Wp.ift ?_ ?_); (with_reducible rfl)))
     exact Wp.nodeE hs M1 fun h' p k1 t1 => hbad e p h' rfl k1 t1
   | ok tj =>
    obtain ⟨t, j2⟩ := tj
    obtain ⟨b1, b2⟩ := r2
    obtain ⟨r, q1, q2, q3, q4⟩ := alt_loop hu ih k j2 (l ++ [t]) b2 (by omega) (by omega) (by simp; omega) (by simp)
    refine ⟨r, fun _ => ?_, fun hh => absurd hst hh, ?_, ?_⟩
    ·by_cases h2 : at? u j2 = some 124
     ·exact .more r1 h2 (q1 h2)
     ·rw [q2 h2]
      exact .last r1 h2
    ·cases r with
     | error e => exact q3
     | ok tj2 =>
      obtain ⟨a1, a2⟩ := q3
      exact ⟨by omega, a2⟩
    ·intro n D f b r0 S h0 H kc kv T0 T1 z k12 Q hD hn hn2 hf g ks hex M hok hbad
     obtain ⟨D, rfl⟩ : ∃ D', D = D' + 8 := ⟨D - 8, by omega⟩
     cases f with
     | zero => omega
     | succ f =>
      rw [pattern_reader_alternatives_L0_s]
      unfold pattern_reader_alternatives_L0b
      have hs1 := skips_r (n := n) (d := D + 5) M.at0.1 M.at0.2.1 hi hu 124
      rw [if_pos hst, decide_eq_true hst] at hs1
      refine Wp.rdN hs1 M fun h1 M1 => ?_
      have hs := r3 (n := n) (D := D + 8) (by omega) hn hn2 M1.at0.1 M1.at0.2.1 (by rw [M1.ex]; exact hex)
      repeat (first | ((with_reducible apply Wp.obind); (with_reducible exact avBool_bool _)) | ((with_reducible refine Wp.ift ?_ ?_); (with_reducible rfl)))
      refine Wp.nodeK hs M1 fun c T h2 kt M3 => ?_
      (((with_reducible apply Wp.obind); (with_reducible exact avAgg_agg _)))
      refine Wp.nodeGrow M3 g ks kt hex (by omega) fun kv' h' T0' g' ks' M4 => ?_
      exact q4 hD hn hn2 (by omega) g' ks' hex M4 hok hbad
  ·refine ⟨.ok (joinN 4 l, j), fun hh => absurd hh hst, fun _ => rfl, ⟨Nat.le_refl _, hi⟩, ?_⟩
   intro n D f b r0 S h0 H kc kv T0 T1 z k12 Q hD hn hn2 hf g ks hex M hok hbad
   obtain ⟨D, rfl⟩ : ∃ D', D = D' + 8 := ⟨D - 8, by omega⟩
   cases f with
   | zero => omega
   | succ f =>
    rw [pattern_reader_alternatives_L0_s]
    unfold pattern_reader_alternatives_L0b
    have hs1 := skips_r (n := n) (d := D + 5) M.at0.1 M.at0.2.1 hi hu 124
    rw [if_neg hst, decide_eq_false hst] at hs1
    refine Wp.rdN hs1 M fun h1 M1 => ?_
    repeat (first | ((with_reducible apply Wp.obind); (with_reducible exact avBool_bool _)) | ((with_reducible refine Wp.iff ?_ ?_); (with_reducible rfl)))
    exact hok l j kc kv T0 T1 h1 hne rfl g ks M1
theorem alt_ok (hu : u.length ≤ 1000000) (ih : RowOk u m) : AltOk u m := by
 intro i hi hm
 obtain ⟨r, r1, r2, r3⟩ := ih i hi hm
 cases r with
 | error e =>
  refine ⟨.error e, .bad r1, r2, ?_⟩
  intro n D b h hD hn hn2 k0 hb hx
  obtain ⟨D, rfl⟩ : ∃ D', D = D' + 9 := ⟨D - 9, by omega⟩
  refine StepN.err_of ?_
  rw [w_pattern_reader_alternatives]
  unfold pattern_reader_alternatives
  refine Wp.mnew (Mem.one k0 hb) fun h1 Mx => ?_
  have M1 := Mx.swap
  have hs := r3 (n := n) (D := D + 8) (by omega) hn hn2 M1.at0.1 M1.at0.2.1 (by rw [M1.ex]; exact hx)
  exact Wp.nodeE hs M1 fun h' p k1 t1 => ⟨rfl, p, k1, t1⟩
 | ok tj =>
  obtain ⟨t, j⟩ := tj
  obtain ⟨b1, b2⟩ := r2
  obtain ⟨r, q1, q2, q3, q4⟩ := alt_loop hu ih (u.length + 1) j [t] b2 (by omega) (by omega) (by simp) (by simp)
  refine ⟨r, ?_, ?_, ?_⟩
  ·by_cases h2 : at? u j = some 124
   ·exact .more (l := []) r1 h2 (q1 h2)
   ·rw [q2 h2]
    exact .last (l := []) r1 h2
  ·cases r with
   | error e => exact q3
   | ok tj2 =>
    obtain ⟨a1, a2⟩ := q3
    exact ⟨by omega, a2⟩
  intro n D b h hD hn hn2 k0 hb hx
  obtain ⟨D, rfl⟩ : ∃ D', D = D' + 9 := ⟨D - 9, by omega⟩
  refine StepN.of_main fun Q o1 o2 => ?_
  rw [w_pattern_reader_alternatives]
  unfold pattern_reader_alternatives
  refine Wp.mnew (Mem.one k0 hb) fun h1 Mx => ?_
  have M1 := Mx.swap
  have hs := r3 (n := n) (D := D + 8) (by omega) hn hn2 M1.at0.1 M1.at0.2.1 (by rw [M1.ex]; exact hx)
  refine Wp.nodeK hs M1 fun c T h2 kt M3 => ?_
  (((with_reducible apply Wp.obind); (with_reducible exact avAgg_agg _)))
  refine Wp.mnews M3 (kt.bld h2) kt.one hx fun h3 M4 => ?_
  ((with_reducible refine Wp.join1 (fun _ _ => ?_)))
  rename_i k12 ek12
  have M5 : Mem [b] h h3 ((b, TRd, rdP u j) :: (h.next, TNode, [.int .i64 0, .int .u64 0, .int .u64 0, .int .u64 0, .int .u64 0, .nsl]) :: ([(h2.next, TNode, c)] ++ (T ++ []))) := M4.perm (by
   rw [List.append_nil]
   exact List.perm_append_comm_assoc [_, _] [_] T)
  refine q4 (r0 := h.next) (by omega) hn hn2 (by omega) (grow_one c h2.next kt.len kt.one) (KidsT.cons kt .nil) hx M5 ?_ o2
  intro l' j' kc kv T0 T1 H' hne hr g ks M6
  refine Wp.go1 ek12 ?_
  have hlen := g.len
  have hkl := ks.len
  match l', hne, hr, ks, hkl with
  | [t'], _, hr, ks, hkl =>
   obtain ⟨c', rfl, kt'⟩ := ks.one
   obtain ⟨q, rfl, rfl⟩ := grow_single g
   have ei : idxP 6 (.sl q 0 1 6) 0 = some (.ptr q 0) := idx0 q 0
   have hl1 : lenL (.sl q 0 1 6) = some 1 := rfl
   repeat (first | (with_reducible refine Wp.lett ?_) | ((with_reducible apply Wp.obind); (with_reducible first | exact hl1 | exact ei)) | ((with_reducible refine Wp.ift ?_ ?_); ((with_reducible apply beq_t); omega)) | rw [newP_eq])
   refine Wp.obind (RowH.ldAll (Mem.at (xs := [_, _]) M6).1 kt'.len) ?_
   refine (fin_node (mem_mid (xs := [_, _]) (T0 := [_]) M6) rfl kt').mono ?_
   rintro _ h3 ⟨c3, T3, rfl, kt3, M7⟩
   exact o1 _ _ _ _ _ hr kt3 M7
  | t1 :: t2 :: ts, _, hr, ks, hkl =>
   simp only [List.length_cons] at hkl
   have hl := nodeC_len (kv := kv) (op := 4) zeroW_ok
   have ho := nodeC_one (op := 4) (w := zeroW) g.one.1
   obtain ⟨h4, e4, t4⟩ := over_r (n := n) (d := D + 7) (h := H') g 4
   have kt4 : NodeT (joinN 4 (t1 :: t2 :: ts)) (nodeC 4 zeroW kv) (T0 ++ T1) := NodeT.mk zeroW_ok g ks
   have e5 : world n (D + 8) 76 [.int .i64 4, kv] H' = some (.ret (.agg (nodeC 4 zeroW kv)), h4) := e4
   repeat (first | (with_reducible refine Wp.lett ?_) | ((with_reducible apply Wp.obind); (with_reducible first | exact hlen | exact avAgg_agg _)) | ((with_reducible refine Wp.iff ?_ ?_); ((with_reducible apply beq_f); omega)) | ((with_reducible apply Wp.callN); (with_reducible exact e5)) | rw [newP_eq])
   refine (fin_node (M6.keep t4) rfl kt4).mono ?_
   rintro _ h3 ⟨c3, T3, rfl, kt3, M7⟩
   exact o1 _ _ _ _ _ hr kt3 M7
theorem alts_ok (hu : u.length ≤ 1000000) : ∀ m, AltOk u m
 | 0 => alt_ok hu (row_ok hu (part_ok hu (atom_ok hu fun m' hm => by omega)))
 | m + 1 => alt_ok hu (row_ok hu (part_ok hu (atom_ok hu fun m' hm => by
   obtain rfl : m = m' := by omega
   exact alts_ok hu m)))
end
def partL (u : Bytes) (i : Nat) : Res := match at? u i with
 | none => .error i
 | some c => .ok (oneN c, i + 1)
def partG (u : Bytes) (i : Nat) : Res := match at? u i with
 | none => .error i
 | some c => if c = 42 then .ok (overN 5 [anyN], i + 1) else if c = 63 then .ok (anyN, i + 1) else if c = 92 then (match at? u (i + 1) with
   | none => .error (i + 1)
   | some e => .ok (oneN e, i + 2))
  else .ok (oneN c, i + 1)
inductive FlatP (F : Nat → Res) (u : Bytes) : List Nd → Nat → Res → Prop
 | stop {l : List Nd} {i : Nat} (s : u.length ≤ i) : FlatP F u l i (.ok (joinN 3 l, i))
 | bad {l : List Nd} {i q : Nat} (s : i < u.length) (h : F i = .error q) : FlatP F u l i (.error q)
 | more {l : List Nd} {i j : Nat} {t : Nd} {r : Res} (s : i < u.length) (h : F i = .ok (t, j)) (m : FlatP F u (l ++ [t]) j r) : FlatP F u l i r
def PartF (u : Bytes) (fid : Nat) (F : Nat → Res) : Prop := (∀ i, i ≤ u.length → Bnd1 u i (F i)) ∧
 ∀ {n D b i : Nat} {h : AHeap}, 4 ≤ D → 300 < n → i ≤ u.length → Rd h b u i → b < h.next → memB TNode h.ex = false → StepN b u h (world n D fid [.ptr b 0] h) (F i)
theorem dynL (call : CallF) (b : Nat) (h : AHeap) : dynC Try.prog call (AV.fn 63 [.ptr b 0] []) [] h = call 63 [.ptr b 0] h := by
 have e : callV Try.prog h [] (some (AV.fn 63 [.ptr b 0] [])) = some (.call 63 [.ptr b 0], h) := by kernel_rfl
 unfold dynC
 rw [e]
theorem dynG (call : CallF) (b : Nat) (h : AHeap) : dynC Try.prog call (AV.fn 60 [.ptr b 0] []) [] h = call 60 [.ptr b 0] h := by
 have e : callV Try.prog h [] (some (AV.fn 60 [.ptr b 0] [])) = some (.call 60 [.ptr b 0], h) := by kernel_rfl
 unfold dynC
 rw [e]
section
variable {n d b p q i m : Nat} {h h0 : AHeap} {u : Bytes} {Q : ARes → AHeap → Prop} {S : List Nat} {xs rs T T0 T1 : List RowT} {w : List Nat} {x : R} {t : Nd} {c : List AV} {v kv : AV} {l : List Nd} {kc : List (List AV)}
theorem partL_f (hu : u.length ≤ 1000000) : PartF u 63 (partL u) := by
 refine ⟨fun i hi => ?_, ?_⟩
 ·unfold partL
  cases hc : at? u i with
  | none => exact hi
  | some c =>
   obtain ⟨hp, _⟩ := at?_some hc
   exact ⟨by omega, by omega⟩
 intro n D b i h hD hn hi k0 hb hx
 obtain ⟨D, rfl⟩ : ∃ D', D = D' + 4 := ⟨D - 4, by omega⟩
 unfold partL
 cases hc : at? u i with
 | none =>
  refine StepN.err_of ?_
  rw [w_pattern_reader_literalPart]
  unfold pattern_reader_literalPart
  refine Wp.mnew (Mem.one k0 hb) fun h1 Mx => ?_
  have M1 := Mx.swap
  have hs := next_r (n := n) (d := D + 1) M1.at0.1 M1.at0.2.1 hi hu
  rw [hc] at hs
  exact Wp.rdE hs M1 fun h' p k1 t1 => ⟨rfl, p, k1, t1⟩
 | some c =>
  have h256 := at?_256 hc
  refine StepN.ok_of ?_
  rw [w_pattern_reader_literalPart]
  unfold pattern_reader_literalPart
  refine Wp.mnew (Mem.one k0 hb) fun h1 Mx => ?_
  have M1 := Mx.swap
  have hs := next_r (n := n) (d := D + 1) M1.at0.1 M1.at0.2.1 hi hu
  rw [hc] at hs
  refine Wp.rdK hs M1 fun h2 M2 => ?_
  repeat (first | ((with_reducible apply Wp.obind); (with_reducible first | exact avInt_int _ _ | exact avAgg_agg _)) | ((with_reducible apply Wp.callN); (with_reducible exact oneByte_w (d := D + 1) hn h256)) | rw [newP_eq])
  exact fin_node M2 rfl (NodeT.leaf 2 (spanW_ok 1 zeroW_ok c))
theorem partG_f (hu : u.length ≤ 1000000) : PartF u 60 (partG u) := by
 refine ⟨fun i hi => ?_, ?_⟩
 ·unfold partG
  cases hc : at? u i with
  | none => exact hi
  | some c =>
   obtain ⟨hp, _⟩ := at?_some hc
   dsimp only
   split
   ·exact ⟨by omega, by omega⟩
   ·split
    ·exact ⟨by omega, by omega⟩
    ·split
     ·cases he : at? u (i + 1) with
      | none => exact (by omega : i + 1 ≤ u.length)
      | some e =>
       obtain ⟨hp2, _⟩ := at?_some he
       exact ⟨by omega, by omega⟩
     ·exact ⟨by omega, by omega⟩
 intro n D b i h hD hn hi k0 hb hx
 obtain ⟨D, rfl⟩ : ∃ D', D = D' + 4 := ⟨D - 4, by omega⟩
 unfold partG
 cases hc : at? u i with
 | none =>
  refine StepN.err_of ?_
  rw [w_pattern_reader_globPart]
  unfold pattern_reader_globPart
  refine Wp.mnew (Mem.one k0 hb) fun h1 Mx => ?_
  have M1 := Mx.swap
  have hs := next_r (n := n) (d := D + 1) M1.at0.1 M1.at0.2.1 hi hu
  rw [hc] at hs
  exact Wp.rdE hs M1 fun h' p k1 t1 => ⟨rfl, p, k1, t1⟩
 | some c =>
  obtain ⟨hp, _⟩ := at?_some hc
  have h256 := at?_256 hc
  dsimp only
  by_cases h42 : c = 42
  ·rw [if_pos h42]
   refine StepN.ok_of ?_
   rw [w_pattern_reader_globPart]
   unfold pattern_reader_globPart
   refine Wp.mnew (Mem.one k0 hb) fun h1 Mx => ?_
   have M1 := Mx.swap
   have hs := next_r (n := n) (d := D + 1) M1.at0.1 M1.at0.2.1 hi hu
   rw [hc] at hs
   refine Wp.rdK hs M1 fun h2 M2 => ?_
   have kt : NodeT anyN (nodeC 2 anyW .nsl) [] := NodeT.leaf 2 anyW_ok
   repeat (first | (with_reducible refine Wp.lett ?_) | ((with_reducible apply Wp.obind); (with_reducible first | exact avInt_int _ _ | exact avAgg_agg _)) | ((with_reducible refine Wp.ift ?_ ?_); ((with_reducible apply beq_t); omega)) | ((with_reducible apply Wp.callN); (with_reducible exact anyByte_w (d := D + 1) hn)) | rw [newP_eq])
   refine Wp.mnews M2 (kt.bld h2) kt.one hx fun h3 M3 => ?_
   obtain ⟨h4, e4, t4⟩ := over_r (n := n) (d := D + 2) (h := h3) (grow_one _ h2.next kt.len kt.one) 5
   refine Wp.callN e4 ?_
   have M4 := M3.keep t4
   refine Wp.obind (avAgg_agg _) ?_
   have M5 : Mem [b] h h4 ((b, TRd, rdP u (i + 1)) :: (h.next, TNode, [.int .i64 0, .int .u64 0, .int .u64 0, .int .u64 0, .int .u64 0, .nsl]) :: ([(h2.next, TNode, nodeC 2 anyW .nsl)] ++ ([] ++ []))) := M4.perm (List.perm_append_comm (l₁ := [_, _]) (l₂ := [_]))
   exact fin_node M5 rfl (signed kt 5 h2.next)
  rw [if_neg h42]
  by_cases h63 : c = 63
  ·rw [if_pos h63]
   refine StepN.ok_of ?_
   rw [w_pattern_reader_globPart]
   unfold pattern_reader_globPart
   refine Wp.mnew (Mem.one k0 hb) fun h1 Mx => ?_
   have M1 := Mx.swap
   have hs := next_r (n := n) (d := D + 1) M1.at0.1 M1.at0.2.1 hi hu
   rw [hc] at hs
   refine Wp.rdK hs M1 fun h2 M2 => ?_
   repeat (first | (with_reducible refine Wp.lett ?_) | ((with_reducible apply Wp.obind); (with_reducible first | exact avInt_int _ _ | exact avAgg_agg _)) | ((with_reducible refine Wp.ift ?_ ?_); ((with_reducible apply beq_t); omega)) | ((with_reducible refine Wp.iff ?_ ?_); ((with_reducible apply beq_f); omega)) | ((with_reducible apply Wp.callN); (with_reducible exact anyByte_w (d := D + 1) hn)) | rw [newP_eq])
   exact fin_node M2 rfl (NodeT.leaf 2 anyW_ok)
  rw [if_neg h63]
  by_cases h92 : c = 92
  ·rw [if_pos h92]
   cases he : at? u (i + 1) with
   | none =>
    refine StepN.err_of ?_
    rw [w_pattern_reader_globPart]
    unfold pattern_reader_globPart
    refine Wp.mnew (Mem.one k0 hb) fun h1 Mx => ?_
    have M1 := Mx.swap
    have hs := next_r (n := n) (d := D + 1) M1.at0.1 M1.at0.2.1 hi hu
    rw [hc] at hs
    refine Wp.rdK hs M1 fun h2 M2 => ?_
    have hs2 := next_r (n := n) (d := D + 1) M2.at0.1 M2.at0.2.1 (by omega) hu
    rw [he] at hs2
    repeat (first | (with_reducible refine Wp.lett ?_) | ((with_reducible apply Wp.obind); (with_reducible exact avInt_int _ _)) | ((with_reducible refine Wp.ift ?_ ?_); ((with_reducible apply beq_t); omega)) | ((with_reducible refine Wp.iff ?_ ?_); ((with_reducible apply beq_f); omega)) | rw [newP_eq])
    exact Wp.rdE hs2 M2 fun h' p k1 t1 => ⟨rfl, p, k1, t1⟩
   | some e =>
    refine StepN.ok_of ?_
    rw [w_pattern_reader_globPart]
    unfold pattern_reader_globPart
    refine Wp.mnew (Mem.one k0 hb) fun h1 Mx => ?_
    have M1 := Mx.swap
    have hs := next_r (n := n) (d := D + 1) M1.at0.1 M1.at0.2.1 hi hu
    rw [hc] at hs
    refine Wp.rdK hs M1 fun h2 M2 => ?_
    have hs2 := next_r (n := n) (d := D + 1) M2.at0.1 M2.at0.2.1 (by omega) hu
    rw [he] at hs2
    repeat (first | (with_reducible refine Wp.lett ?_) | ((with_reducible apply Wp.obind); (with_reducible exact avInt_int _ _)) | ((with_reducible refine Wp.ift ?_ ?_); ((with_reducible apply beq_t); omega)) | ((with_reducible refine Wp.iff ?_ ?_); ((with_reducible apply beq_f); omega)) | rw [newP_eq])
    refine Wp.rdK hs2 M2 fun h3 M3 => ?_
    repeat (first | ((with_reducible apply Wp.obind); (with_reducible first | exact avInt_int _ _ | exact avAgg_agg _)) | ((with_reducible apply Wp.callN); (with_reducible exact oneByte_w (d := D + 1) hn (at?_256 he))))
    exact fin_node M3 rfl (NodeT.leaf 2 (spanW_ok 1 zeroW_ok e))
  rw [if_neg h92]
  refine StepN.ok_of ?_
  rw [w_pattern_reader_globPart]
  unfold pattern_reader_globPart
  refine Wp.mnew (Mem.one k0 hb) fun h1 Mx => ?_
  have M1 := Mx.swap
  have hs := next_r (n := n) (d := D + 1) M1.at0.1 M1.at0.2.1 hi hu
  rw [hc] at hs
  refine Wp.rdK hs M1 fun h2 M2 => ?_
  repeat (first | (with_reducible refine Wp.lett ?_) | ((with_reducible apply Wp.obind); (with_reducible first | exact avInt_int _ _ | exact avAgg_agg _)) | ((with_reducible refine Wp.iff ?_ ?_); ((with_reducible apply beq_f); omega)) | ((with_reducible apply Wp.callN); (with_reducible exact oneByte_w (d := D + 1) hn h256)) | rw [newP_eq])
  exact fin_node M2 rfl (NodeT.leaf 2 (spanW_ok 1 zeroW_ok c))
theorem flat_loop {fid : Nat} {F : Nat → Res} (hu : u.length ≤ 1000000) (hF : PartF u fid F) (hdyn : ∀ (call : CallF) (b : Nat) (h : AHeap), dynC Try.prog call (AV.fn fid [.ptr b 0] []) [] h = call fid [.ptr b 0] h) : ∀ (k i : Nat) (l : List Nd), i ≤ u.length → u.length - i < k → l.length ≤ i → ∃ r, FlatP F u l i r ∧ Bnd u i r ∧
   ∀ {n D f b r0 : Nat} {S : List Nat} {h0 H : AHeap} {kc : List (List AV)} {kv : AV} {T0 T1 : List RowT} {z : List AV} {k7 : AV → AHeap → R} {Q : ARes → AHeap → Prop}, 4 ≤ D → 300 < n → u.length - i < f → GrowT TNode 6 kc kv T0 → KidsT l kc T1 → memB TNode h0.ex = false →
    Mem S h0 H ((b, TRd, rdP u i) :: (r0, TNode, z) :: (T0 ++ T1)) →
    (∀ l' j kc kv T0 T1 H', r = .ok (joinN 3 l', j) → GrowT TNode 6 kc kv T0 → KidsT l' kc T1 → Mem S h0 H' ((b, TRd, rdP u j) :: (r0, TNode, z) :: (T0 ++ T1)) → Wp (k7 kv H') Q) →
    (∀ e p H', r = .error e → Rd H' b u p → Tch S h0 H' → Q (.panic (PanA 6 e)) H') →
    Wp (pattern_reader_row_L0 (world n D) (.ptr b 0) (AV.fn fid [.ptr b 0] []) k7 f kv H) Q
 | 0, _, _, _, hk, _ => by omega
 | k + 1, i, l, hi, hk, hli => by
  by_cases hst : u.length ≤ i
  ·refine ⟨_, .stop hst, ⟨Nat.le_refl _, hi⟩, ?_⟩
   intro n D f b r0 S h0 H kc kv T0 T1 z k7 Q hD hn hf g ks hex M hok hbad
   obtain ⟨D, rfl⟩ : ∃ D', D = D' + 4 := ⟨D - 4, by omega⟩
   cases f with
   | zero => omega
   | succ f =>
    have he := ended_r (n := n) (d := D + 3) M.at0.1
    have hfin := hok l i kc kv T0 T1 H rfl g ks M
    rw [pattern_reader_row_L0_s]
    unfold pattern_reader_row_L0b
    rw [decide_eq_true (by omega)] at he
    repeat (first | (with_reducible refine Wp.lett ?_) | ((with_reducible apply Wp.obind); (with_reducible exact avBool_bool _)) | ((with_reducible refine Wp.iff ?_ ?_); (with_reducible exact Bool.not_true)) | ((with_reducible apply Wp.callN); (with_reducible assumption)))
    exact hfin
  ·have hb1 := hF.1 i hi
   cases hr : F i with
   | error e =>
    rw [hr] at hb1
    refine ⟨_, .bad (by omega) hr, hb1, ?_⟩
    intro n D f b r0 S h0 H kc kv T0 T1 z k7 Q hD hn hf g ks hex M hok hbad
    obtain ⟨D, rfl⟩ : ∃ D', D = D' + 4 := ⟨D - 4, by omega⟩
    cases f with
    | zero => omega
    | succ f =>
     have he := ended_r (n := n) (d := D + 3) M.at0.1
     rw [decide_eq_false (by omega)] at he
     have hs := hF.2 (n := n) (D := D + 4) (by omega) hn hi M.at0.1 M.at0.2.1 (by rw [M.ex]; exact hex)
     rw [hr] at hs
     rw [pattern_reader_row_L0_s]
     unfold pattern_reader_row_L0b
     repeat (first | (with_reducible refine Wp.lett ?_) | ((with_reducible apply Wp.obind); (with_reducible exact avBool_bool _)) | ((with_reducible refine Wp.ift ?_ ?_); (with_reducible exact Bool.not_false)) | ((with_reducible first | apply Wp.callN | apply Wp.callK); (with_reducible assumption)))
     rw [hdyn]
     exact Wp.nodeE hs M fun h' p k1 t1 => hbad e p h' rfl k1 t1
   | ok tj =>
    obtain ⟨t, j⟩ := tj
    rw [hr] at hb1
    obtain ⟨b1, b2⟩ := hb1
    obtain ⟨r, q1, q2, q3⟩ := flat_loop hu hF hdyn k j (l ++ [t]) b2 (by omega) (by simp; omega)
    refine ⟨r, .more (by omega) hr q1, ?_, ?_⟩
    ·cases r with
     | error e => exact q2
     | ok tj2 =>
      obtain ⟨a1, a2⟩ := q2
      exact ⟨by omega, a2⟩
    ·intro n D f b r0 S h0 H kc kv T0 T1 z k7 Q hD hn hf g ks hex M hok hbad
     obtain ⟨D, rfl⟩ : ∃ D', D = D' + 4 := ⟨D - 4, by omega⟩
     cases f with
     | zero => omega
     | succ f =>
      have he := ended_r (n := n) (d := D + 3) M.at0.1
      rw [decide_eq_false (by omega)] at he
      have hs := hF.2 (n := n) (D := D + 4) (by omega) hn hi M.at0.1 M.at0.2.1 (by rw [M.ex]; exact hex)
      rw [hr] at hs
      rw [pattern_reader_row_L0_s]
      unfold pattern_reader_row_L0b
      repeat (first | (with_reducible refine Wp.lett ?_) | ((with_reducible apply Wp.obind); (with_reducible exact avBool_bool _)) | ((with_reducible refine Wp.ift ?_ ?_); (with_reducible exact Bool.not_false)) | ((with_reducible first | apply Wp.callN | apply Wp.callK); (with_reducible assumption)))
      rw [hdyn]
      refine Wp.nodeK hs M fun c T h2 kt M3 => ?_
      (((with_reducible apply Wp.obind); (with_reducible exact avAgg_agg _)))
      refine Wp.nodeGrow M3 g ks kt hex (by omega) fun kv' h' T0' g' ks' M4 => ?_
      exact q3 hD hn (by omega) g' ks' hex M4 hok hbad
theorem flat_ok {fid : Nat} {F : Nat → Res} (hu : u.length ≤ 1000000) (hF : PartF u fid F) (hdyn : ∀ (call : CallF) (b : Nat) (h : AHeap), dynC Try.prog call (AV.fn fid [.ptr b 0] []) [] h = call fid [.ptr b 0] h) : ∃ r, FlatP F u [] 0 r ∧ Bnd u 0 r ∧
  ∀ {n D b : Nat} {h : AHeap}, 5 ≤ D → 300 < n → u.length < n → Rd h b u 0 → b < h.next → memB TNode h.ex = false → StepN b u h (world n D 59 [.ptr b 0, AV.fn fid [.ptr b 0] []] h) r := by
 obtain ⟨r, r1, r2, r3⟩ := flat_loop hu hF hdyn (u.length + 1) 0 [] (Nat.zero_le _) (by omega) (Nat.le_refl _)
 refine ⟨r, r1, r2, ?_⟩
 intro n D b h hD hn hn2 k0 hb hx
 obtain ⟨D, rfl⟩ : ∃ D', D = D' + 5 := ⟨D - 5, by omega⟩
 refine StepN.of_main fun Q q1 q2 => ?_
 rw [w_pattern_reader_row]
 unfold pattern_reader_row
 refine Wp.mnew (Mem.one k0 hb) fun h1 Mx => ?_
 rw [newP_eq]
 have M1 := Mx.swap
 ((with_reducible refine Wp.join1 (fun _ _ => ?_)))
 rename_i k7 ek7
 refine r3 (r0 := h.next) (by omega) hn (by omega) (GrowT.nil _ _) .nil hx M1 ?_ q2
 intro l' j kc kv T0 T1 H' hr g ks M2
 refine Wp.go1 ek7 ?_
 obtain ⟨c, T, h2, e2, kt, M3⟩ := inRow_r (n := n) (d := D + 2) (xs := [_, _]) M2 g ks
 repeat (first | ((with_reducible apply Wp.obind); (with_reducible exact avAgg_agg _)) | ((with_reducible apply Wp.callN); (with_reducible assumption)))
 refine (fin_node M3 rfl kt).mono ?_
 rintro _ h3 ⟨c3, T3, rfl, kt3, M4⟩
 exact q1 _ _ _ _ _ hr kt3 M4
end
def dropJ : Res → Except Nat Nd
 | .ok (t, _) => .ok t
 | .error q => .error q
inductive TreeP (u : Bytes) : Int → Except Nat Nd → Prop
 | lit {r : Res} (h : FlatP (partL u) u [] 0 r) : TreeP u 1 (dropJ r)
 | glob {r : Res} (h : FlatP (partG u) u [] 0 r) : TreeP u 2 (dropJ r)
 | re_bad {q : Nat} (h : AltP u [] 0 (.error q)) : TreeP u 3 (.error q)
 | re_end {t : Nd} {j : Nat} (h : AltP u [] 0 (.ok (t, j))) (n : j ≠ u.length) : TreeP u 3 (.error j)
 | re {t : Nd} (h : AltP u [] 0 (.ok (t, u.length))) : TreeP u 3 (.ok t)
def StepT (b : Nat) (u : Bytes) (h : AHeap) (x : R) : Except Nat Nd → Prop
 | .ok t => ∃ c T h' p, x = some (.ret (.agg c), h') ∧ NodeT t c T ∧ Mem [b] h h' ((b, TRd, rdP u p) :: T)
 | .error q => ∃ h' p, x = some (.panic (PanA 6 q), h') ∧ Rd h' b u p ∧ Tch [b] h h'
section
variable {n d b p q i m : Nat} {h h0 : AHeap} {u : Bytes} {Q : ARes → AHeap → Prop} {S : List Nat} {xs rs T T0 T1 : List RowT} {w : List Nat} {x : R} {t : Nd} {c : List AV} {v kv : AV} {l : List Nd} {kc : List (List AV)}
theorem StepT.ok_of (kk : Wp x fun r h' => ∃ c T p, r = .ret (.agg c) ∧ NodeT t c T ∧ Mem [b] h h' ((b, TRd, rdP u p) :: T)) : StepT b u h x (.ok t) := by
 obtain ⟨_, h', e, c, T, p, rfl, k1, k2⟩ := kk
 exact ⟨c, T, h', p, e, k1, k2⟩
theorem StepT.err_of (kk : Wp x fun r h' => r = .panic (PanA 6 q) ∧ ∃ p, Rd h' b u p ∧ Tch [b] h h') : StepT b u h x (.error q) := by
 obtain ⟨_, h', e, rfl, p, k1, k2⟩ := kk
 exact ⟨h', p, e, k1, k2⟩
theorem end_r (k : Rd h b u p) (hp : p = u.length) : world n (d + 2) 62 [.ptr b 0] h = some (.ret (.tup []), h) := by
 have he := ended_r (n := n) (d := d) k
 rw [decide_eq_true hp] at he
 apply Wp.eq
 rw [w_pattern_reader_end]
 unfold pattern_reader_end
 repeat (first | (with_reducible refine Wp.join0 (fun _ _ => ?_)) | (with_reducible refine Wp.lett ?_) | ((with_reducible apply Wp.obind); (with_reducible exact avBool_bool _)) | ((with_reducible refine Wp.iff ?_ ?_); (with_reducible exact Bool.not_true)) | ((with_reducible apply Wp.callN); (with_reducible assumption)) | (with_reducible refine Wp.go0 (by assumption) ?_))
 exact Wp.ret ⟨rfl, rfl⟩
theorem end_bad (k : Rd h b u p) (hp : p ≠ u.length) : world n (d + 2) 62 [.ptr b 0] h = some (.panic (PanA 6 p), h) := by
 have he := ended_r (n := n) (d := d) k
 rw [decide_eq_false hp] at he
 apply Wp.eq
 rw [w_pattern_reader_end]
 unfold pattern_reader_end
 have hr := refuse_r (n := n) (d := d) (h := h) 6 p
 have k0 : RowH h b 70 [strA u, .int .i64 (p : Int)] := k
 clear k
 repeat (first | (with_reducible refine Wp.join0 (fun _ _ => ?_)) | (with_reducible refine Wp.lett ?_) | ((with_reducible apply Wp.obind); first | (with_reducible first | exact avInt_int _ _ | exact avBool_bool _ | exact nilC_ptr _ _ | exact fldP_ptr _ _ _) | ((with_reducible apply RowH.cell'); (with_reducible assumption); rfl)) | ((with_reducible refine Wp.ift ?_ ?_); (with_reducible exact Bool.not_false)) | ((with_reducible first | apply Wp.callN | apply Wp.callK); (with_reducible assumption)))
 exact Wp.callP hr ⟨rfl, rfl⟩
theorem tree_r (hu : u.length ≤ 1000000) (kind : Int) (hk : kind = 1 ∨ kind = 2 ∨ kind = 3) : ∃ r, TreeP u kind r ∧ (∀ q, r = .error q → q ≤ u.length) ∧
  ∀ {n D b : Nat} {h : AHeap}, 4 * u.length + 12 ≤ D → 300 < n → u.length + 5 < n → Rd h b u 0 → b < h.next → memB TNode h.ex = false → StepT b u h (world n D 40 [.ptr b 0, .int .i64 kind] h) r := by
 rcases hk with rfl | rfl | rfl
 ·obtain ⟨r, r1, r2, r3⟩ := flat_ok hu (partL_f hu) dynL
  refine ⟨_, .lit r1, ?_, ?_⟩
  ·intro q hh
   cases r with
   | error e =>
    cases hh
    exact r2
   | ok tj => cases hh
  ·intro n D b h hD hn hn2 k0 hb hx
   obtain ⟨D, rfl⟩ : ∃ D', D = D' + 6 := ⟨D - 6, by omega⟩
   cases r with
   | error e =>
    refine StepT.err_of ?_
    rw [w_pattern_reader_tree]
    unfold pattern_reader_tree
    refine Wp.mnew (Mem.one k0 hb) fun h1 Mx => ?_
    have M1 := Mx.swap
    have hs := r3 (n := n) (D := D + 5) (by omega) hn (by omega) M1.at0.1 M1.at0.2.1 (by rw [M1.ex]; exact hx)
    repeat (first | (with_reducible refine Wp.lett ?_) | ((with_reducible refine Wp.iff ?_ ?_); ((with_reducible apply beq_f); omega)) | rw [newP_eq])
    exact Wp.nodeE hs M1 fun h' p k1 t1 => ⟨rfl, p, k1, t1⟩
   | ok tj =>
    obtain ⟨t, j⟩ := tj
    refine StepT.ok_of ?_
    rw [w_pattern_reader_tree]
    unfold pattern_reader_tree
    refine Wp.mnew (Mem.one k0 hb) fun h1 Mx => ?_
    have M1 := Mx.swap
    have hs := r3 (n := n) (D := D + 5) (by omega) hn (by omega) M1.at0.1 M1.at0.2.1 (by rw [M1.ex]; exact hx)
    repeat (first | (with_reducible refine Wp.lett ?_) | ((with_reducible refine Wp.iff ?_ ?_); ((with_reducible apply beq_f); omega)) | rw [newP_eq])
    refine Wp.nodeK hs M1 fun c T h2 kt M3 => ?_
    (((with_reducible apply Wp.obind); (with_reducible exact avAgg_agg _)))
    refine (fin_node M3 rfl kt).mono ?_
    rintro _ h3 ⟨c3, T3, rfl, kt3, M4⟩
    exact ⟨c3, T3, j, rfl, kt3, M4⟩
 ·obtain ⟨r, r1, r2, r3⟩ := flat_ok hu (partG_f hu) dynG
  refine ⟨_, .glob r1, ?_, ?_⟩
  ·intro q hh
   cases r with
   | error e =>
    cases hh
    exact r2
   | ok tj => cases hh
  ·intro n D b h hD hn hn2 k0 hb hx
   obtain ⟨D, rfl⟩ : ∃ D', D = D' + 6 := ⟨D - 6, by omega⟩
   cases r with
   | error e =>
    refine StepT.err_of ?_
    rw [w_pattern_reader_tree]
    unfold pattern_reader_tree
    refine Wp.mnew (Mem.one k0 hb) fun h1 Mx => ?_
    have M1 := Mx.swap
    have hs := r3 (n := n) (D := D + 5) (by omega) hn (by omega) M1.at0.1 M1.at0.2.1 (by rw [M1.ex]; exact hx)
    repeat (first | (with_reducible refine Wp.lett ?_) | ((with_reducible refine Wp.ift ?_ ?_); ((with_reducible apply beq_t); omega)) | rw [newP_eq])
    exact Wp.nodeE hs M1 fun h' p k1 t1 => ⟨rfl, p, k1, t1⟩
   | ok tj =>
    obtain ⟨t, j⟩ := tj
    refine StepT.ok_of ?_
    rw [w_pattern_reader_tree]
    unfold pattern_reader_tree
    refine Wp.mnew (Mem.one k0 hb) fun h1 Mx => ?_
    have M1 := Mx.swap
    have hs := r3 (n := n) (D := D + 5) (by omega) hn (by omega) M1.at0.1 M1.at0.2.1 (by rw [M1.ex]; exact hx)
    repeat (first | (with_reducible refine Wp.lett ?_) | ((with_reducible refine Wp.ift ?_ ?_); ((with_reducible apply beq_t); omega)) | rw [newP_eq])
    refine Wp.nodeK hs M1 fun c T h2 kt M3 => ?_
    (((with_reducible apply Wp.obind); (with_reducible exact avAgg_agg _)))
    refine (fin_node M3 rfl kt).mono ?_
    rintro _ h3 ⟨c3, T3, rfl, kt3, M4⟩
    exact ⟨c3, T3, j, rfl, kt3, M4⟩
 ·obtain ⟨r, r1, r2, r3⟩ := alts_ok hu u.length 0 (Nat.zero_le _) (by omega)
  cases r with
  | error e =>
   refine ⟨_, .re_bad r1, fun q hh => by cases hh; exact r2, ?_⟩
   intro n D b h hD hn hn2 k0 hb hx
   obtain ⟨D, rfl⟩ : ∃ D', D = D' + 6 := ⟨D - 6, by omega⟩
   refine StepT.err_of ?_
   rw [w_pattern_reader_tree]
   unfold pattern_reader_tree
   refine Wp.mnew (Mem.one k0 hb) fun h1 Mx => ?_
   have M1 := Mx.swap
   have hs := r3 (n := n) (D := D + 5) (by omega) hn hn2 M1.at0.1 M1.at0.2.1 (by rw [M1.ex]; exact hx)
   repeat (first | (with_reducible refine Wp.lett ?_) | ((with_reducible refine Wp.ift ?_ ?_); ((with_reducible apply beq_t); omega)) | ((with_reducible refine Wp.iff ?_ ?_); ((with_reducible apply beq_f); omega)) | rw [newP_eq])
   exact Wp.nodeE hs M1 fun h' p k1 t1 => ⟨rfl, p, k1, t1⟩
  | ok tj =>
   obtain ⟨t, j⟩ := tj
   by_cases hj : j = u.length
   ·subst hj
    refine ⟨_, .re r1, fun q hh => (by cases hh), ?_⟩
    intro n D b h hD hn hn2 k0 hb hx
    obtain ⟨D, rfl⟩ : ∃ D', D = D' + 6 := ⟨D - 6, by omega⟩
    refine StepT.ok_of ?_
    rw [w_pattern_reader_tree]
    unfold pattern_reader_tree
    refine Wp.mnew (Mem.one k0 hb) fun h1 Mx => ?_
    have M1 := Mx.swap
    have hs := r3 (n := n) (D := D + 5) (by omega) hn hn2 M1.at0.1 M1.at0.2.1 (by rw [M1.ex]; exact hx)
    repeat (first | (with_reducible refine Wp.lett ?_) | ((with_reducible refine Wp.ift ?_ ?_); ((with_reducible apply beq_t); omega)) | ((with_reducible refine Wp.iff ?_ ?_); ((with_reducible apply beq_f); omega)) | rw [newP_eq])
    refine Wp.nodeK hs M1 fun c T h2 kt M3 => ?_
    (((with_reducible apply Wp.obind); (with_reducible exact avAgg_agg _)))
    refine Wp.mnew M3 fun h3 M4 => ?_
    rw [newP_eq]
    refine Wp.sa0 M4 kt.len rfl kt.one fun h4 M5 => ?_
    have he := end_r (n := n) (d := D + 3) M5.at1.1 rfl
    refine Wp.callK he ?_
    refine Wp.lr0 M5 kt.len ?_
    refine (fin_node (mem_mid (xs := [_]) (T0 := [_]) M5.swap) rfl kt).mono ?_
    rintro _ h3 ⟨c3, T3, rfl, kt3, M6⟩
    exact ⟨c3, T3, _, rfl, kt3, M6⟩
   ·refine ⟨_, .re_end r1 hj, fun q hh => by cases hh; exact r2.2, ?_⟩
    intro n D b h hD hn hn2 k0 hb hx
    obtain ⟨D, rfl⟩ : ∃ D', D = D' + 6 := ⟨D - 6, by omega⟩
    refine StepT.err_of ?_
    rw [w_pattern_reader_tree]
    unfold pattern_reader_tree
    refine Wp.mnew (Mem.one k0 hb) fun h1 Mx => ?_
    have M1 := Mx.swap
    have hs := r3 (n := n) (D := D + 5) (by omega) hn hn2 M1.at0.1 M1.at0.2.1 (by rw [M1.ex]; exact hx)
    repeat (first | (with_reducible refine Wp.lett ?_) | ((with_reducible refine Wp.ift ?_ ?_); ((with_reducible apply beq_t); omega)) | ((with_reducible refine Wp.iff ?_ ?_); ((with_reducible apply beq_f); omega)) | rw [newP_eq])
    refine Wp.nodeK hs M1 fun c T h2 kt M3 => ?_
    (((with_reducible apply Wp.obind); (with_reducible exact avAgg_agg _)))
    refine Wp.mnew M3 fun h3 M4 => ?_
    rw [newP_eq]
    refine Wp.sa0 M4 kt.len rfl kt.one fun h4 M5 => ?_
    have he := end_bad (n := n) (d := D + 3) M5.at1.1 hj
    exact Wp.callP he ⟨rfl, _, M5.at1.1, M5.tch⟩
end
theorem callKd_eq_ret {x : R} {v : AV} {h : AHeap} {kp k : AV → AHeap → R} {Q : ARes → AHeap → Prop} (e : x = some (.ret v, h)) (hk : Wp (k v h) Q) : Wp (callKd x kp k) Q := by rw [e, callKd_ret]; exact hk
theorem callKd_eq_pan {x : R} {v : AV} {h : AHeap} {kp k : AV → AHeap → R} {Q : ARes → AHeap → Prop} (e : x = some (.panic v, h)) (hk : Wp (kp v h) Q) : Wp (callKd x kp k) Q := by rw [e, callKd_panic]; exact hk
theorem neqNil (h : AHeap) : opBin Try.prog h .neq 20 true (some .nifc) (some .nifc) = some (.val (.bool false), h) := by kernel_rfl
theorem neqPan (h : AHeap) (e : Int) (q : Nat) : opBin Try.prog h .neq 20 true (some (PanA e q)) (some .nifc) = some (.val (.bool true), h) := by kernel_rfl
theorem assertPan (h : AHeap) (e : Int) (q : Nat) : opAssert Try.prog h 91 true (some (PanA e q)) = some (.val (.tup [.agg [.int .i64 e, .int .i64 (q : Int)], .bool true]), h) := by kernel_rfl
abbrev TPtr : Nat := 68
abbrev TSpot : Nat := 27
section
variable {n d pc rd ft tx mo : Nat} {h h0 : AHeap} {u t : Bytes} {most : Int} {fc : List AV} {S : List Nat} {Q : ARes → AHeap → Prop} {ys : List RowT}
theorem recov_nil {call : CallF} {b : Nat} {H : AHeap} : pattern_guard_1_d call n (.ptr b 0) .nifc H = some (.ret (.tup []), H) := by
 apply Wp.eq
 unfold pattern_guard_1_d
 repeat (first | (with_reducible first | refine Wp.join0 (fun _ _ => ?_) | refine Wp.join1 (fun _ _ => ?_) | refine Wp.join2 (fun _ _ => ?_)) | ((with_reducible first | refine Wp.lettw ?_ ?_ ?_ | refine Wp.lettu64 ?_ ?_ ?_ | refine Wp.lettu8 ?_ ?_ ?_ | refine Wp.lettu32 ?_ ?_ ?_); omega; omega) | (with_reducible refine Wp.lett ?_) | ((with_reducible apply Wp.obind); first | (with_reducible first | exact avInt_int _ _ | exact avBool_bool _ | exact avStr_str _ | exact nilC_ptr _ _ | exact fldP_ptr _ _ _ | exact avAgg_agg _ | exact extT_0 _ _ | exact extT_1 _ _ _ | exact extT_2 _ _ _ _ | assumption) | ((with_reducible first | apply RowH.cell' | apply RowH.ldAll); (with_reducible assumption); rfl)) | ((with_reducible refine Wp.ift ?_ ?_); first | (with_reducible first | rfl | assumption | exact Bool.not_false) | ((with_reducible first | apply decide_eq_true | apply not_df | apply bne_t | apply beq_t); omega)) | ((with_reducible refine Wp.iff ?_ ?_); first | (with_reducible first | rfl | assumption | exact Bool.not_true) | ((with_reducible first | apply decide_eq_false | apply not_dt | apply bne_f | apply beq_f); omega)) | ((with_reducible first | apply Wp.callN | apply Wp.callK); (with_reducible assumption)) | ((with_reducible apply Wp.outK); (with_reducible first | exact neqNil _ | assumption)) | (with_reducible first | refine Wp.go0 (by assumption) ?_ | refine Wp.go1 (by assumption) ?_ | refine Wp.go2 (by assumption) ?_) | rw [newP_eq])
 exact Wp.ret ⟨rfl, rfl⟩
theorem recov_pan {call : CallF} {b : Nat} {H : AHeap} {l : List AV} (hl : l.length = 2) (Mx : Mem S h0 H ((b, TSpot, l) :: ys)) (e : Int) (q : Nat) : ∃ H', pattern_guard_1_d call n (.ptr b 0) (PanA e q) H = some (.ret (.tup []), H') ∧ Mem S h0 H' ((b, TSpot, [.int .i64 e, .int .i64 (q : Int)]) :: ys) := by
 apply Wp.ex
 unfold pattern_guard_1_d
 repeat (first | ((with_reducible apply Wp.obind); (with_reducible first | exact avInt_int _ _ | exact avBool_bool _ | exact avStr_str _ | exact nilC_ptr _ _ | exact fldP_ptr _ _ _)) | ((with_reducible apply Wp.ld0 Mx); rfl) | ((with_reducible apply Wp.lr0 Mx); rfl) | ((with_reducible apply Wp.ms0 Mx); exact Nat.le_of_ble_eq_true rfl; rfl; intro _ Mz; clear Mx; have Mx := Mz; clear Mz) | ((with_reducible apply Wp.sa0 Mx); rfl; rfl; (first | (with_reducible assumption) | rfl); intro _ Mz; clear Mx; have Mx := Mz; clear Mz) | ((with_reducible apply Wp.ld1 Mx); rfl) | ((with_reducible apply Wp.lr1 Mx); rfl) | ((with_reducible apply Wp.ms1 Mx); exact Nat.le_of_ble_eq_true rfl; rfl; intro _ Mz; clear Mx; have Mx := Mz; clear Mz) | ((with_reducible apply Wp.sa1 Mx); rfl; rfl; (first | (with_reducible assumption) | rfl); intro _ Mz; clear Mx; have Mx := Mz; clear Mz) | ((with_reducible apply Wp.mnew Mx); intro _ Mz; clear Mx; have Mx := Mz; clear Mz) | ((with_reducible apply Wp.mbox Mx); (first | (with_reducible assumption) | rfl); intro _ Mz; clear Mx; have Mx := Mz; clear Mz) | ((with_reducible refine Wp.chk ?_ ?_); focus ((repeat' (first | (with_reducible exact rfl) | (with_reducible apply and_t) | ((with_reducible apply Mem.re0 Mx); kernel_rfl; rfl) | ((with_reducible apply Mem.rr0 Mx); kernel_rfl; kernel_rfl) | ((with_reducible apply Mem.re1 Mx); kernel_rfl; rfl) | ((with_reducible apply Mem.rr1 Mx); kernel_rfl; kernel_rfl))); done)) | (with_reducible first | refine Wp.join0 (fun _ _ => ?_) | refine Wp.join1 (fun _ _ => ?_) | refine Wp.join2 (fun _ _ => ?_)) | ((with_reducible first | refine Wp.lettw ?_ ?_ ?_ | refine Wp.lettu64 ?_ ?_ ?_ | refine Wp.lettu8 ?_ ?_ ?_ | refine Wp.lettu32 ?_ ?_ ?_); omega; omega) | (with_reducible refine Wp.lett ?_) | ((with_reducible apply Wp.obind); first | (with_reducible first | exact avInt_int _ _ | exact avBool_bool _ | exact avStr_str _ | exact nilC_ptr _ _ | exact fldP_ptr _ _ _ | exact avAgg_agg _ | exact extT_0 _ _ | exact extT_1 _ _ _ | exact extT_2 _ _ _ _ | assumption) | ((with_reducible first | apply RowH.cell' | apply RowH.ldAll); (with_reducible assumption); rfl)) | ((with_reducible refine Wp.ift ?_ ?_); first | (with_reducible first | rfl | assumption | exact Bool.not_false) | ((with_reducible first | apply decide_eq_true | apply not_df | apply bne_t | apply beq_t); omega)) | ((with_reducible refine Wp.iff ?_ ?_); first | (with_reducible first | rfl | assumption | exact Bool.not_true) | ((with_reducible first | apply decide_eq_false | apply not_dt | apply bne_f | apply beq_f); omega)) | ((with_reducible first | apply Wp.callN | apply Wp.callK); (with_reducible assumption)) | ((with_reducible apply Wp.outK); (with_reducible first | exact neqPan _ _ _ | exact assertPan _ _ _ | assumption)) | (with_reducible first | refine Wp.go0 (by assumption) ?_ | refine Wp.go1 (by assumption) ?_ | refine Wp.go2 (by assumption) ?_) | rw [newP_eq])
 refine Wp.sa1 Mx rfl hl rfl (fun h' M' => ?_)
 repeat (first | (with_reducible first | refine Wp.join0 (fun _ _ => ?_) | refine Wp.join1 (fun _ _ => ?_) | refine Wp.join2 (fun _ _ => ?_)) | ((with_reducible first | refine Wp.lettw ?_ ?_ ?_ | refine Wp.lettu64 ?_ ?_ ?_ | refine Wp.lettu8 ?_ ?_ ?_ | refine Wp.lettu32 ?_ ?_ ?_); omega; omega) | (with_reducible refine Wp.lett ?_) | ((with_reducible apply Wp.obind); first | (with_reducible first | exact avInt_int _ _ | exact avBool_bool _ | exact avStr_str _ | exact nilC_ptr _ _ | exact fldP_ptr _ _ _ | exact avAgg_agg _ | exact extT_0 _ _ | exact extT_1 _ _ _ | exact extT_2 _ _ _ _ | assumption) | ((with_reducible first | apply RowH.cell' | apply RowH.ldAll); (with_reducible assumption); rfl)) | ((with_reducible refine Wp.ift ?_ ?_); first | (with_reducible first | rfl | assumption | exact Bool.not_false) | ((with_reducible first | apply decide_eq_true | apply not_df | apply bne_t | apply beq_t); omega)) | ((with_reducible refine Wp.iff ?_ ?_); first | (with_reducible first | rfl | assumption | exact Bool.not_true) | ((with_reducible first | apply decide_eq_false | apply not_dt | apply bne_f | apply beq_f); omega)) | ((with_reducible first | apply Wp.callN | apply Wp.callK); (with_reducible assumption)) | ((with_reducible apply Wp.outK); (with_reducible assumption)) | (with_reducible first | refine Wp.go0 (by assumption) ?_ | refine Wp.go1 (by assumption) ?_ | refine Wp.go2 (by assumption) ?_) | rw [newP_eq])
 exact Wp.ret ⟨rfl, M'.pop⟩
end
theorem dynT (call : CallF) (a b c : Nat) (h : AHeap) : dynC Try.prog call (AV.fn 39 [] [.ptr a 0, .ptr b 0, .ptr c 0]) [] h = call 39 [.ptr a 0, .ptr b 0, .ptr c 0] h := by
 have e : callV Try.prog h [] (some (AV.fn 39 [] [.ptr a 0, .ptr b 0, .ptr c 0])) = some (.call 39 [.ptr a 0, .ptr b 0, .ptr c 0], h) := by kernel_rfl
 unfold dynC
 rw [e]
section
variable {n D d b p q i m : Nat} {h h0 : AHeap} {u : Bytes} {Q : ARes → AHeap → Prop} {S : List Nat} {xs rs rs' T T0 T1 : List RowT} {w : List Nat} {x : R} {t : Nd} {c : List AV} {v kv fv : AV} {l : List Nd} {kc : List (List AV)}
noncomputable abbrev rowsT (pc rd sp nd pt p : Nat) (u : Bytes) (kind : Int) (c : List AV) : List RowT := [(pc, TPtr, [.ptr rd 0]), (rd, TRd, rdP u p), (sp, TSpot, [.int .i64 0, .int .i64 0]), (nd, TNode, c), (pt, 35, [.int .i64 kind, strA u])]
theorem t1_ok {pc rd sp nd pt : Nat} {kind : Int} {z : List AV} (hz : z.length = 6) (hs : ∀ (h : AHeap), Rd h rd u 0 → rd < h.next → memB TNode h.ex = false → StepT rd u h (world n D 40 [.ptr rd 0, .int .i64 kind] h) (.ok t)) (M : Mem S h0 h (rowsT pc rd sp nd pt 0 u kind z ++ xs)) (hx : memB TNode h0.ex = false) :
  ∃ c T h' p, world n (D + 1) 39 [.ptr pc 0, .ptr pt 0, .ptr nd 0] h = some (.ret (.tup []), h') ∧ NodeT t c T ∧ Mem S h0 h' (rowsT pc rd sp nd pt p u kind c ++ (xs ++ T)) := by
 have Mx : Mem S h0 h ((pc, TPtr, [.ptr rd 0]) :: (rd, TRd, rdP u 0) :: (sp, TSpot, [.int .i64 0, .int .i64 0]) :: (nd, TNode, z) :: (pt, 35, [.int .i64 kind, strA u]) :: xs) := M
 obtain ⟨c, T, h1, p, e1, kt, M1⟩ := hs h Mx.at1.1 Mx.at1.2.1 (by rw [Mx.ex]; exact hx)
 have M2 : Mem S h0 h1 ((rd, TRd, rdP u p) :: (pc, TPtr, [.ptr rd 0]) :: (sp, TSpot, [.int .i64 0, .int .i64 0]) :: (nd, TNode, z) :: (pt, 35, [.int .i64 kind, strA u]) :: (xs ++ T)) := Mem.frameT (xs := [_]) (ys := [_]) Mx.swap M1
 suffices hK : Wp (world n (D + 1) 39 [.ptr pc 0, .ptr pt 0, .ptr nd 0] h) fun r h' => r = .ret (.tup []) ∧ Mem S h0 h' (rowsT pc rd sp nd pt p u kind c ++ (xs ++ T)) by
  obtain ⟨_, h', e, rfl, M'⟩ := hK
  exact ⟨c, T, h', p, e, kt, M'⟩
 rw [w_pattern_Tree_1]
 unfold pattern_Tree_1
 repeat (first | ((with_reducible apply Wp.obind); (with_reducible first | exact avInt_int _ _ | exact fldP_ptr _ _ _)) | ((with_reducible apply Wp.ld0 Mx); rfl) | ((with_reducible apply Wp.ld4 Mx); rfl) | ((with_reducible apply Wp.obind); (with_reducible exact avAgg_agg _)) | ((with_reducible apply Wp.callK); (with_reducible assumption)))
 refine Wp.sa3 M2 kt.len hz kt.one fun h2 M3 => ?_
 exact Wp.ret ⟨rfl, M3.swap⟩
theorem t1_bad {pc rd sp nd pt : Nat} {kind : Int} {z : List AV} (hs : ∀ (h : AHeap), Rd h rd u 0 → rd < h.next → memB TNode h.ex = false → StepT rd u h (world n D 40 [.ptr rd 0, .int .i64 kind] h) (.error q)) (M : Mem S h0 h (rowsT pc rd sp nd pt 0 u kind z ++ xs)) (hx : memB TNode h0.ex = false) :
  ∃ h' p, world n (D + 1) 39 [.ptr pc 0, .ptr pt 0, .ptr nd 0] h = some (.panic (PanA 6 q), h') ∧ Mem S h0 h' (rowsT pc rd sp nd pt p u kind z ++ xs) := by
 have Mx : Mem S h0 h ((pc, TPtr, [.ptr rd 0]) :: (rd, TRd, rdP u 0) :: (sp, TSpot, [.int .i64 0, .int .i64 0]) :: (nd, TNode, z) :: (pt, 35, [.int .i64 kind, strA u]) :: xs) := M
 obtain ⟨h1, p, e1, k1, t1⟩ := hs h Mx.at1.1 Mx.at1.2.1 (by rw [Mx.ex]; exact hx)
 suffices hK : Wp (world n (D + 1) 39 [.ptr pc 0, .ptr pt 0, .ptr nd 0] h) fun r h' => r = .panic (PanA 6 q) ∧ Mem S h0 h' (rowsT pc rd sp nd pt p u kind z ++ xs) by
  obtain ⟨_, h', e, rfl, M'⟩ := hK
  exact ⟨h', p, e, M'⟩
 rw [w_pattern_Tree_1]
 unfold pattern_Tree_1
 repeat (first | ((with_reducible apply Wp.obind); (with_reducible first | exact avInt_int _ _ | exact fldP_ptr _ _ _)) | ((with_reducible apply Wp.ld0 Mx); rfl) | ((with_reducible apply Wp.ld4 Mx); rfl))
 exact Wp.callP e1 ⟨rfl, Mem.upd (xs := [_]) Mx t1 k1⟩
theorem loL_last : ∀ (l : List AV) (x : AV) (N : Nat), AV.loL N (l ++ [x]) = true → AV.lo N x = true
 | [], x, N, h => by
  have : (AV.lo N x && AV.loL N []) = true := h
  simpa [AV.loL] using this
 | y :: l, x, N, h => by
  have : (AV.lo N y && AV.loL N (l ++ [x])) = true := h
  rw [Bool.and_eq_true] at this
  exact loL_last l x N this.2
theorem NodeT.low {N : Nat} (k : NodeT t c T) (hn : ∀ y ∈ T, N ≤ y.1) (hl : AV.loL N c = true) : T = [] := by
 cases k with
 | mk hw g ks =>
  rename_i op w kids kc kv T0 T1
  have h2 := loL_last (.int .i64 (op : Int) :: wordsA w) kv N hl
  rcases g.2 with ⟨rfl, rfl, rfl⟩ | ⟨_, q, rfl, rfl⟩
  ·cases ks
   rfl
  ·have h3 := hn (q, TNode, kc.flatten) (by simp)
   have h4 : q < N := Nat.le_of_ble_eq_true h2
   exact absurd h3 (by show ¬ N ≤ q; omega)
end
section
variable {n D d b p q i m : Nat} {h h0 : AHeap} {u : Bytes} {Q : ARes → AHeap → Prop} {S : List Nat} {xs rs rs' T T0 T1 : List RowT} {w : List Nat} {x : R} {t : Nd} {c : List AV} {v kv fv : AV} {l : List Nd} {kc : List (List AV)}
theorem tree_guard_bad {pc rd sp nd pt : Nat} {kind : Int} {z : List AV} (hs : ∀ (h : AHeap), Rd h rd u 0 → rd < h.next → memB TNode h.ex = false → StepT rd u h (world n D 40 [.ptr rd 0, .int .i64 kind] h) (.error q)) (M : Mem S h0 h (rowsT pc rd sp nd pt 0 u kind z ++ xs)) (hx : memB TNode h0.ex = false) :
  ∃ h', world n (D + 2) 35 [AV.fn 39 [] [.ptr pc 0, .ptr pt 0, .ptr nd 0]] h = some (.ret (.agg [.int .i64 6, .int .i64 (q : Int)]), h') ∧ ∃ p, Mem S h0 h' (rowsT pc rd sp nd pt p u kind z ++ xs) := by
 apply Wp.ex
 rw [w_pattern_guard]
 unfold pattern_guard
 refine Wp.mnew M fun h1 M1 => ?_
 obtain ⟨h2, p, e2, M2⟩ := t1_bad (n := n) (D := D) (xs := xs ++ [(h.next, TSpot, [.int .i64 0, .int .i64 0])]) hs (M1.perm (by
  rw [← List.append_assoc]
  exact List.perm_append_comm (l₁ := rowsT pc rd sp nd pt 0 u kind z ++ xs) (l₂ := [_]))) hx
 have M3 : Mem S h0 h2 ((h.next, TSpot, [.int .i64 0, .int .i64 0]) :: (rowsT pc rd sp nd pt p u kind z ++ xs)) := M2.perm (by
  rw [← List.append_assoc]
  exact List.perm_append_comm (l₁ := [_]) (l₂ := rowsT pc rd sp nd pt p u kind z ++ xs))
 refine callKd_eq_pan ((dynT _ _ _ _ _).trans e2) ?_
 rw [newP_eq]
 obtain ⟨h3, e3, M4⟩ := recov_pan (n := n) (call := world n (D + 1)) rfl M3 6 q
 refine Wp.callN e3 ?_
 refine Wp.lr0 M4 rfl ?_
 exact Wp.ret ⟨rfl, p, M4.pop⟩
theorem tree_guard_ok {pc rd sp nd pt : Nat} {kind : Int} {z : List AV} (hz : z.length = 6) (hs : ∀ (h : AHeap), Rd h rd u 0 → rd < h.next → memB TNode h.ex = false → StepT rd u h (world n D 40 [.ptr rd 0, .int .i64 kind] h) (.ok t)) (M : Mem S h0 h (rowsT pc rd sp nd pt 0 u kind z ++ xs)) (hx : memB TNode h0.ex = false) :
  ∃ c T h' p, world n (D + 2) 35 [AV.fn 39 [] [.ptr pc 0, .ptr pt 0, .ptr nd 0]] h = some (.ret (.agg [.int .i64 0, .int .i64 0]), h') ∧ NodeT t c T ∧ Mem S h0 h' (rowsT pc rd sp nd pt p u kind c ++ (xs ++ T)) := by
 suffices hK : Wp (world n (D + 2) 35 [AV.fn 39 [] [.ptr pc 0, .ptr pt 0, .ptr nd 0]] h) fun r h' => ∃ c T p, r = .ret (.agg [.int .i64 0, .int .i64 0]) ∧ NodeT t c T ∧ Mem S h0 h' (rowsT pc rd sp nd pt p u kind c ++ (xs ++ T)) by
  obtain ⟨_, h', e, c, T, p, rfl, k1, k2⟩ := hK
  exact ⟨c, T, h', p, e, k1, k2⟩
 rw [w_pattern_guard]
 unfold pattern_guard
 refine Wp.mnew M fun h1 M1 => ?_
 obtain ⟨c, T, h2, p, e2, kt, M2⟩ := t1_ok (n := n) (D := D) (xs := [(h.next, TSpot, [.int .i64 0, .int .i64 0])] ++ xs) hz hs (M1.perm (List.perm_append_comm_assoc (rowsT pc rd sp nd pt 0 u kind z) [_] xs)) hx
 have M3 : Mem S h0 h2 ((h.next, TSpot, [.int .i64 0, .int .i64 0]) :: (rowsT pc rd sp nd pt p u kind c ++ (xs ++ T))) := M2.perm (by
  rw [List.append_assoc]
  exact List.perm_append_comm_assoc [_] (rowsT pc rd sp nd pt p u kind c) (xs ++ T))
 refine callKd_eq_ret ((dynT _ _ _ _ _).trans e2) ?_
 clear M1 M2
 have Mx := M3
 clear M3
 rw [newP_eq]
 repeat (first | ((with_reducible apply Wp.lr0 Mx); rfl) | ((with_reducible apply Wp.sa0 Mx); rfl; rfl; (rfl); intro _ Mz; clear Mx; have Mx := Mz; clear Mz) | ((with_reducible apply Wp.callN); (with_reducible exact recov_nil)))
 exact Wp.ret ⟨c, T, p, rfl, kt, Mx.pop⟩
theorem tree_kinds (hu : u.length ≤ 1000000) {kind : Int} (hk : kind = 1 ∨ kind = 2 ∨ kind = 3) : (64 < u.length → ∀ {n D : Nat} {h : AHeap}, 0 ≤ D → 300 < n → memB TNode h.ex = false → world n (D + 1) 21 [.agg [.int .i64 kind, strA u]] h = some (.ret (.tup [.agg (nodeC 0 zeroW .nsl), .agg [.int .i64 3, .int .i64 64]]), h)) ∧
  (u.length ≤ 64 → ∃ r, TreeP u kind r ∧ (∀ q, r = .error q → q ≤ u.length) ∧ ∀ {n D : Nat} {h : AHeap}, 300 ≤ D → 400 < n → memB TNode h.ex = false → match r with
   | .error q => world n (D + 3) 21 [.agg [.int .i64 kind, strA u]] h = some (.ret (.tup [.agg (nodeC 0 zeroW .nsl), .agg [.int .i64 6, .int .i64 (q : Int)]]), h)
   | .ok t => ∃ c T h', world n (D + 3) 21 [.agg [.int .i64 kind, strA u]] h = some (.ret (.tup [.agg c, .agg [.int .i64 0, .int .i64 0]]), h') ∧ NodeT t c T ∧ Mem [] h h' T) := by
 have hk' := hk
 rcases hk' with rfl | rfl | rfl
 ·-- kind 1
  refine ⟨?_, ?_⟩
  ·intro l n D h hD hn hx
   apply Wp.eq
   rw [w_pattern_Tree]
   refine Wp.gc ?_
   suffices hK : Wp (pattern_Tree (world n D) n [.int .i64 1, strA u] h) fun r h' => r = .ret (.tup [.agg (nodeC 0 zeroW .nsl), .agg [.int .i64 3, .int .i64 64]]) ∧ Tch [] h h' from hK.mono fun r h' ⟨e, t⟩ => ⟨t.above, by rw [e]; rfl, e, rfl⟩
   unfold pattern_Tree
   have ll := lenS_nat u
   have Mx := Mem.nil [] h
   repeat (first | ((with_reducible apply Wp.obind); (with_reducible first | exact avInt_int _ _ | exact avStr_str _ | exact fldP_ptr _ _ _)) | ((with_reducible apply Wp.lr0 Mx); rfl) | ((with_reducible apply Wp.sa0 Mx); rfl; rfl; (rfl); intro _ Mz; clear Mx; have Mx := Mz; clear Mz) | ((with_reducible apply Wp.lr1 Mx); rfl) | ((with_reducible apply Wp.sa1 Mx); rfl; rfl; (rfl); intro _ Mz; clear Mx; have Mx := Mz; clear Mz) | ((with_reducible apply Wp.ld2 Mx); rfl) | ((with_reducible apply Wp.mnew Mx); intro _ Mz; clear Mx; have Mx := Mz; clear Mz) | ((with_reducible apply Wp.mbox Mx); (rfl); intro _ Mz; clear Mx; have Mx := Mz; clear Mz) | (with_reducible refine Wp.join1 (fun _ _ => ?_)) | (with_reducible refine Wp.lett ?_) | ((with_reducible refine Wp.ift ?_ ?_); ((with_reducible first | apply decide_eq_true | apply bne_t); omega)) | ((with_reducible refine Wp.iff ?_ ?_); first | (with_reducible rfl) | ((with_reducible apply bne_f); omega)) | (with_reducible refine Wp.go1 (by assumption) ?_) | rw [newP_eq])
   exact Wp.ret ⟨rfl, Mx.tch⟩
  ·intro l
   obtain ⟨r, r1, r2, r3⟩ := tree_r hu 1 hk
   refine ⟨r, r1, r2, ?_⟩
   intro n D h hD hn hx
   have hs : ∀ (rd : Nat) (h : AHeap), Rd h rd u 0 → rd < h.next → memB TNode h.ex = false → StepT rd u h (world n D 40 [.ptr rd 0, .int .i64 1] h) r := fun rd h k1 k2 k3 => r3 (by omega) (by omega) (by omega) k1 k2 k3
   cases r with
   | error q =>
    apply Wp.eq
    rw [w_pattern_Tree]
    refine Wp.gc ?_
    suffices hK : Wp (pattern_Tree (world n (D + 2)) n [.int .i64 1, strA u] h) fun r h' => r = .ret (.tup [.agg (nodeC 0 zeroW .nsl), .agg [.int .i64 6, .int .i64 (q : Int)]]) ∧ Tch [] h h' from hK.mono fun r h' ⟨e, t⟩ => ⟨t.above, by rw [e]; rfl, e, rfl⟩
    unfold pattern_Tree
    have ll := lenS_nat u
    have Mx := Mem.nil [] h
    repeat (first | ((with_reducible apply Wp.obind); (with_reducible first | exact avInt_int _ _ | exact avStr_str _ | exact fldP_ptr _ _ _)) | ((with_reducible apply Wp.sa0 Mx); rfl; rfl; (rfl); intro _ Mz; clear Mx; have Mx := Mz; clear Mz) | ((with_reducible apply Wp.ld2 Mx); rfl) | ((with_reducible apply Wp.mnew Mx); intro _ Mz; clear Mx; have Mx := Mz; clear Mz) | ((with_reducible apply Wp.mbox Mx); (rfl); intro _ Mz; clear Mx; have Mx := Mz; clear Mz) | (with_reducible refine Wp.join1 (fun _ _ => ?_)) | (with_reducible refine Wp.lett ?_) | ((with_reducible refine Wp.iff ?_ ?_); first | (with_reducible rfl) | ((with_reducible first | apply decide_eq_false | apply bne_f); omega)) | (with_reducible refine Wp.go1 (by assumption) ?_) | rw [newP_eq])
    obtain ⟨h2, e2, p2, M2⟩ := tree_guard_bad (n := n) (D := D) (xs := []) (hs _) (by rw [List.append_nil]; exact Mx) hx
    refine Wp.callN e2 ?_
    clear Mx
    have Mx := M2
    repeat (first | ((with_reducible apply Wp.obind); (with_reducible exact avInt_int _ _)) | ((with_reducible apply Wp.ld2 Mx); rfl) | ((with_reducible apply Wp.lr2 Mx); rfl) | ((with_reducible apply Wp.sa2 Mx); rfl; rfl; (rfl); intro _ Mz; clear Mx; have Mx := Mz; clear Mz) | ((with_reducible apply Wp.lr3 Mx); rfl) | ((with_reducible apply Wp.sa3 Mx); rfl; rfl; (rfl); intro _ Mz; clear Mx; have Mx := Mz; clear Mz) | ((with_reducible refine Wp.chk ?_ ?_); focus ((repeat' (first | (with_reducible exact rfl) | (with_reducible apply and_t) | ((with_reducible apply Mem.rr2 Mx); kernel_rfl; kernel_rfl))); done)) | (with_reducible refine Wp.lett ?_) | ((with_reducible apply Wp.obind); (with_reducible exact avAgg_agg _)) | ((with_reducible refine Wp.ift ?_ ?_); ((with_reducible apply bne_t); omega)))
    exact Wp.ret ⟨rfl, Mx.tch⟩
   | ok t =>
    obtain ⟨c, T, h', e, kt, M'⟩ : ∃ c T h', pattern_Tree (world n (D + 2)) n [.int .i64 1, strA u] h = some (.ret (.tup [.agg c, .agg [.int .i64 0, .int .i64 0]]), h') ∧ NodeT t c T ∧ Mem [] h h' T := by
     suffices hK : Wp (pattern_Tree (world n (D + 2)) n [.int .i64 1, strA u] h) fun r h' => ∃ c T, r = .ret (.tup [.agg c, .agg [.int .i64 0, .int .i64 0]]) ∧ NodeT t c T ∧ Mem [] h h' T by
      obtain ⟨_, h', e, c, T, rfl, k1, k2⟩ := hK
      exact ⟨c, T, h', e, k1, k2⟩
     unfold pattern_Tree
     have ll := lenS_nat u
     have Mx := Mem.nil [] h
     repeat (first | ((with_reducible apply Wp.obind); (with_reducible first | exact avInt_int _ _ | exact avStr_str _ | exact fldP_ptr _ _ _)) | ((with_reducible apply Wp.sa0 Mx); rfl; rfl; (rfl); intro _ Mz; clear Mx; have Mx := Mz; clear Mz) | ((with_reducible apply Wp.ld2 Mx); rfl) | ((with_reducible apply Wp.mnew Mx); intro _ Mz; clear Mx; have Mx := Mz; clear Mz) | ((with_reducible apply Wp.mbox Mx); (rfl); intro _ Mz; clear Mx; have Mx := Mz; clear Mz) | (with_reducible refine Wp.join1 (fun _ _ => ?_)) | (with_reducible refine Wp.lett ?_) | ((with_reducible refine Wp.iff ?_ ?_); first | (with_reducible rfl) | ((with_reducible first | apply decide_eq_false | apply bne_f); omega)) | (with_reducible refine Wp.go1 (by assumption) ?_) | rw [newP_eq])
     obtain ⟨c, T, h2, p2, e2, kt, M2⟩ := tree_guard_ok (n := n) (D := D) (xs := []) rfl (hs _) (by rw [List.append_nil]; exact Mx) hx
     refine Wp.callN e2 ?_
     clear Mx
     have Mx := M2
     have hl := kt.len
     have ho := kt.one
     repeat (first | ((with_reducible apply Wp.obind); (with_reducible exact avInt_int _ _)) | ((with_reducible apply Wp.ld2 Mx); rfl) | ((with_reducible apply Wp.sa2 Mx); rfl; rfl; (rfl); intro _ Mz; clear Mx; have Mx := Mz; clear Mz) | (with_reducible refine Wp.lett ?_) | ((with_reducible apply Wp.obind); (with_reducible exact avAgg_agg _)) | ((with_reducible refine Wp.iff ?_ ?_); ((with_reducible apply bne_f); omega)))
     refine Wp.lr3 Mx hl ?_
     repeat (((with_reducible apply Wp.lr2 Mx); rfl))
     refine Wp.sa3 Mx hl hl ho fun _ Mz => ?_
     clear Mx
     have Mx := Mz
     clear Mz
     repeat (first | ((with_reducible apply Wp.sa2 Mx); rfl; rfl; (rfl); intro _ Mz; clear Mx; have Mx := Mz; clear Mz) | ((with_reducible refine Wp.chk ?_ ?_); focus ((repeat' (first | (with_reducible exact rfl) | (with_reducible apply and_t) | ((with_reducible apply Mem.rr2 Mx); kernel_rfl; kernel_rfl))); done)))
     refine Wp.lr3 Mx hl ?_
     repeat (((with_reducible apply Wp.lr2 Mx); rfl))
     exact Wp.ret ⟨c, T, rfl, kt, Mx.pop.pop.pop.pop.pop⟩
    have M2 := M'
    suffices hK : Wp (gcR h (pattern_Tree (world n (D + 2)) n [.int .i64 1, strA u] h)) fun r h' => ∃ T, r = .ret (.tup [.agg c, .agg [.int .i64 0, .int .i64 0]]) ∧ NodeT t c T ∧ Mem [] h h' T by
     obtain ⟨_, h', e, T, rfl, k1, k2⟩ := hK
     rw [← w_pattern_Tree] at e
     exact ⟨c, T, h', e, k1, k2⟩
    refine Wp.gc2 ⟨_, h', e, ⟨T, rfl, kt, M'⟩, fun _ hl => ?_⟩
    have h1 : AV.loL h.next c = true := by
     have : (AV.loL h.next c && (AV.loL h.next [.int .i64 0, .int .i64 0] && AV.loL h.next [])) = true := hl
     rw [Bool.and_eq_true] at this
     exact this.1
    have hT : T = [] := kt.low (fun y hy => (M'.row y hy).2.2.resolve_left (by simp)) h1
    subst hT
    exact ⟨[], rfl, kt, Mem.nil _ _⟩
 ·-- kind 2
  refine ⟨?_, ?_⟩
  ·intro l n D h hD hn hx
   apply Wp.eq
   rw [w_pattern_Tree]
   refine Wp.gc ?_
   suffices hK : Wp (pattern_Tree (world n D) n [.int .i64 2, strA u] h) fun r h' => r = .ret (.tup [.agg (nodeC 0 zeroW .nsl), .agg [.int .i64 3, .int .i64 64]]) ∧ Tch [] h h' from hK.mono fun r h' ⟨e, t⟩ => ⟨t.above, by rw [e]; rfl, e, rfl⟩
   unfold pattern_Tree
   have ll := lenS_nat u
   have Mx := Mem.nil [] h
   repeat (first | ((with_reducible apply Wp.obind); (with_reducible first | exact avInt_int _ _ | exact avStr_str _ | exact fldP_ptr _ _ _)) | ((with_reducible apply Wp.lr0 Mx); rfl) | ((with_reducible apply Wp.sa0 Mx); rfl; rfl; (rfl); intro _ Mz; clear Mx; have Mx := Mz; clear Mz) | ((with_reducible apply Wp.lr1 Mx); rfl) | ((with_reducible apply Wp.sa1 Mx); rfl; rfl; (rfl); intro _ Mz; clear Mx; have Mx := Mz; clear Mz) | ((with_reducible apply Wp.ld2 Mx); rfl) | ((with_reducible apply Wp.mnew Mx); intro _ Mz; clear Mx; have Mx := Mz; clear Mz) | ((with_reducible apply Wp.mbox Mx); (rfl); intro _ Mz; clear Mx; have Mx := Mz; clear Mz) | (with_reducible refine Wp.join1 (fun _ _ => ?_)) | (with_reducible refine Wp.lett ?_) | ((with_reducible refine Wp.ift ?_ ?_); ((with_reducible first | apply decide_eq_true | apply bne_t); omega)) | ((with_reducible refine Wp.iff ?_ ?_); first | (with_reducible rfl) | ((with_reducible apply bne_f); omega)) | (with_reducible refine Wp.go1 (by assumption) ?_) | rw [newP_eq])
   exact Wp.ret ⟨rfl, Mx.tch⟩
  ·intro l
   obtain ⟨r, r1, r2, r3⟩ := tree_r hu 2 hk
   refine ⟨r, r1, r2, ?_⟩
   intro n D h hD hn hx
   have hs : ∀ (rd : Nat) (h : AHeap), Rd h rd u 0 → rd < h.next → memB TNode h.ex = false → StepT rd u h (world n D 40 [.ptr rd 0, .int .i64 2] h) r := fun rd h k1 k2 k3 => r3 (by omega) (by omega) (by omega) k1 k2 k3
   cases r with
   | error q =>
    apply Wp.eq
    rw [w_pattern_Tree]
    refine Wp.gc ?_
    suffices hK : Wp (pattern_Tree (world n (D + 2)) n [.int .i64 2, strA u] h) fun r h' => r = .ret (.tup [.agg (nodeC 0 zeroW .nsl), .agg [.int .i64 6, .int .i64 (q : Int)]]) ∧ Tch [] h h' from hK.mono fun r h' ⟨e, t⟩ => ⟨t.above, by rw [e]; rfl, e, rfl⟩
    unfold pattern_Tree
    have ll := lenS_nat u
    have Mx := Mem.nil [] h
    repeat (first | ((with_reducible apply Wp.obind); (with_reducible first | exact avInt_int _ _ | exact avStr_str _ | exact fldP_ptr _ _ _)) | ((with_reducible apply Wp.sa0 Mx); rfl; rfl; (rfl); intro _ Mz; clear Mx; have Mx := Mz; clear Mz) | ((with_reducible apply Wp.ld2 Mx); rfl) | ((with_reducible apply Wp.mnew Mx); intro _ Mz; clear Mx; have Mx := Mz; clear Mz) | ((with_reducible apply Wp.mbox Mx); (rfl); intro _ Mz; clear Mx; have Mx := Mz; clear Mz) | (with_reducible refine Wp.join1 (fun _ _ => ?_)) | (with_reducible refine Wp.lett ?_) | ((with_reducible refine Wp.ift ?_ ?_); ((with_reducible first | apply decide_eq_true | apply bne_t); omega)) | ((with_reducible refine Wp.iff ?_ ?_); first | (with_reducible rfl) | ((with_reducible first | apply decide_eq_false | apply bne_f); omega)) | (with_reducible refine Wp.go1 (by assumption) ?_) | rw [newP_eq])
    obtain ⟨h2, e2, p2, M2⟩ := tree_guard_bad (n := n) (D := D) (xs := []) (hs _) (by rw [List.append_nil]; exact Mx) hx
    refine Wp.callN e2 ?_
    clear Mx
    have Mx := M2
    repeat (first | ((with_reducible apply Wp.obind); (with_reducible exact avInt_int _ _)) | ((with_reducible apply Wp.ld2 Mx); rfl) | ((with_reducible apply Wp.lr2 Mx); rfl) | ((with_reducible apply Wp.sa2 Mx); rfl; rfl; (rfl); intro _ Mz; clear Mx; have Mx := Mz; clear Mz) | ((with_reducible apply Wp.lr3 Mx); rfl) | ((with_reducible apply Wp.sa3 Mx); rfl; rfl; (rfl); intro _ Mz; clear Mx; have Mx := Mz; clear Mz) | ((with_reducible refine Wp.chk ?_ ?_); focus ((repeat' (first | (with_reducible exact rfl) | (with_reducible apply and_t) | ((with_reducible apply Mem.rr2 Mx); kernel_rfl; kernel_rfl))); done)) | (with_reducible refine Wp.lett ?_) | ((with_reducible apply Wp.obind); (with_reducible exact avAgg_agg _)) | ((with_reducible refine Wp.ift ?_ ?_); ((with_reducible apply bne_t); omega)))
    exact Wp.ret ⟨rfl, Mx.tch⟩
   | ok t =>
    obtain ⟨c, T, h', e, kt, M'⟩ : ∃ c T h', pattern_Tree (world n (D + 2)) n [.int .i64 2, strA u] h = some (.ret (.tup [.agg c, .agg [.int .i64 0, .int .i64 0]]), h') ∧ NodeT t c T ∧ Mem [] h h' T := by
     suffices hK : Wp (pattern_Tree (world n (D + 2)) n [.int .i64 2, strA u] h) fun r h' => ∃ c T, r = .ret (.tup [.agg c, .agg [.int .i64 0, .int .i64 0]]) ∧ NodeT t c T ∧ Mem [] h h' T by
      obtain ⟨_, h', e, c, T, rfl, k1, k2⟩ := hK
      exact ⟨c, T, h', e, k1, k2⟩
     unfold pattern_Tree
     have ll := lenS_nat u
     have Mx := Mem.nil [] h
     repeat (first | ((with_reducible apply Wp.obind); (with_reducible first | exact avInt_int _ _ | exact avStr_str _ | exact fldP_ptr _ _ _)) | ((with_reducible apply Wp.sa0 Mx); rfl; rfl; (rfl); intro _ Mz; clear Mx; have Mx := Mz; clear Mz) | ((with_reducible apply Wp.ld2 Mx); rfl) | ((with_reducible apply Wp.mnew Mx); intro _ Mz; clear Mx; have Mx := Mz; clear Mz) | ((with_reducible apply Wp.mbox Mx); (rfl); intro _ Mz; clear Mx; have Mx := Mz; clear Mz) | (with_reducible refine Wp.join1 (fun _ _ => ?_)) | (with_reducible refine Wp.lett ?_) | ((with_reducible refine Wp.ift ?_ ?_); ((with_reducible first | apply decide_eq_true | apply bne_t); omega)) | ((with_reducible refine Wp.iff ?_ ?_); first | (with_reducible rfl) | ((with_reducible first | apply decide_eq_false | apply bne_f); omega)) | (with_reducible refine Wp.go1 (by assumption) ?_) | rw [newP_eq])
     obtain ⟨c, T, h2, p2, e2, kt, M2⟩ := tree_guard_ok (n := n) (D := D) (xs := []) rfl (hs _) (by rw [List.append_nil]; exact Mx) hx
     refine Wp.callN e2 ?_
     clear Mx
     have Mx := M2
     have hl := kt.len
     have ho := kt.one
     repeat (first | ((with_reducible apply Wp.obind); (with_reducible exact avInt_int _ _)) | ((with_reducible apply Wp.ld2 Mx); rfl) | ((with_reducible apply Wp.sa2 Mx); rfl; rfl; (rfl); intro _ Mz; clear Mx; have Mx := Mz; clear Mz) | (with_reducible refine Wp.lett ?_) | ((with_reducible apply Wp.obind); (with_reducible exact avAgg_agg _)) | ((with_reducible refine Wp.iff ?_ ?_); ((with_reducible apply bne_f); omega)))
     refine Wp.lr3 Mx hl ?_
     repeat (((with_reducible apply Wp.lr2 Mx); rfl))
     refine Wp.sa3 Mx hl hl ho fun _ Mz => ?_
     clear Mx
     have Mx := Mz
     clear Mz
     repeat (first | ((with_reducible apply Wp.sa2 Mx); rfl; rfl; (rfl); intro _ Mz; clear Mx; have Mx := Mz; clear Mz) | ((with_reducible refine Wp.chk ?_ ?_); focus ((repeat' (first | (with_reducible exact rfl) | (with_reducible apply and_t) | ((with_reducible apply Mem.rr2 Mx); kernel_rfl; kernel_rfl))); done)))
     refine Wp.lr3 Mx hl ?_
     repeat (((with_reducible apply Wp.lr2 Mx); rfl))
     exact Wp.ret ⟨c, T, rfl, kt, Mx.pop.pop.pop.pop.pop⟩
    have M2 := M'
    suffices hK : Wp (gcR h (pattern_Tree (world n (D + 2)) n [.int .i64 2, strA u] h)) fun r h' => ∃ T, r = .ret (.tup [.agg c, .agg [.int .i64 0, .int .i64 0]]) ∧ NodeT t c T ∧ Mem [] h h' T by
     obtain ⟨_, h', e, T, rfl, k1, k2⟩ := hK
     rw [← w_pattern_Tree] at e
     exact ⟨c, T, h', e, k1, k2⟩
    refine Wp.gc2 ⟨_, h', e, ⟨T, rfl, kt, M'⟩, fun _ hl => ?_⟩
    have h1 : AV.loL h.next c = true := by
     have : (AV.loL h.next c && (AV.loL h.next [.int .i64 0, .int .i64 0] && AV.loL h.next [])) = true := hl
     rw [Bool.and_eq_true] at this
     exact this.1
    have hT : T = [] := kt.low (fun y hy => (M'.row y hy).2.2.resolve_left (by simp)) h1
    subst hT
    exact ⟨[], rfl, kt, Mem.nil _ _⟩
 ·-- kind 3
  refine ⟨?_, ?_⟩
  ·intro l n D h hD hn hx
   apply Wp.eq
   rw [w_pattern_Tree]
   refine Wp.gc ?_
   suffices hK : Wp (pattern_Tree (world n D) n [.int .i64 3, strA u] h) fun r h' => r = .ret (.tup [.agg (nodeC 0 zeroW .nsl), .agg [.int .i64 3, .int .i64 64]]) ∧ Tch [] h h' from hK.mono fun r h' ⟨e, t⟩ => ⟨t.above, by rw [e]; rfl, e, rfl⟩
   unfold pattern_Tree
   have ll := lenS_nat u
   have Mx := Mem.nil [] h
   repeat (first | ((with_reducible apply Wp.obind); (with_reducible first | exact avInt_int _ _ | exact avStr_str _ | exact fldP_ptr _ _ _)) | ((with_reducible apply Wp.lr0 Mx); rfl) | ((with_reducible apply Wp.sa0 Mx); rfl; rfl; (rfl); intro _ Mz; clear Mx; have Mx := Mz; clear Mz) | ((with_reducible apply Wp.lr1 Mx); rfl) | ((with_reducible apply Wp.sa1 Mx); rfl; rfl; (rfl); intro _ Mz; clear Mx; have Mx := Mz; clear Mz) | ((with_reducible apply Wp.ld2 Mx); rfl) | ((with_reducible apply Wp.mnew Mx); intro _ Mz; clear Mx; have Mx := Mz; clear Mz) | ((with_reducible apply Wp.mbox Mx); (rfl); intro _ Mz; clear Mx; have Mx := Mz; clear Mz) | (with_reducible refine Wp.join1 (fun _ _ => ?_)) | (with_reducible refine Wp.lett ?_) | ((with_reducible refine Wp.ift ?_ ?_); ((with_reducible first | apply decide_eq_true | apply bne_t); omega)) | ((with_reducible refine Wp.iff ?_ ?_); ((with_reducible apply bne_f); omega)) | (with_reducible refine Wp.go1 (by assumption) ?_) | rw [newP_eq])
   exact Wp.ret ⟨rfl, Mx.tch⟩
  ·intro l
   obtain ⟨r, r1, r2, r3⟩ := tree_r hu 3 hk
   refine ⟨r, r1, r2, ?_⟩
   intro n D h hD hn hx
   have hs : ∀ (rd : Nat) (h : AHeap), Rd h rd u 0 → rd < h.next → memB TNode h.ex = false → StepT rd u h (world n D 40 [.ptr rd 0, .int .i64 3] h) r := fun rd h k1 k2 k3 => r3 (by omega) (by omega) (by omega) k1 k2 k3
   cases r with
   | error q =>
    apply Wp.eq
    rw [w_pattern_Tree]
    refine Wp.gc ?_
    suffices hK : Wp (pattern_Tree (world n (D + 2)) n [.int .i64 3, strA u] h) fun r h' => r = .ret (.tup [.agg (nodeC 0 zeroW .nsl), .agg [.int .i64 6, .int .i64 (q : Int)]]) ∧ Tch [] h h' from hK.mono fun r h' ⟨e, t⟩ => ⟨t.above, by rw [e]; rfl, e, rfl⟩
    unfold pattern_Tree
    have ll := lenS_nat u
    have Mx := Mem.nil [] h
    repeat (first | ((with_reducible apply Wp.obind); (with_reducible first | exact avInt_int _ _ | exact avStr_str _ | exact fldP_ptr _ _ _)) | ((with_reducible apply Wp.sa0 Mx); rfl; rfl; (rfl); intro _ Mz; clear Mx; have Mx := Mz; clear Mz) | ((with_reducible apply Wp.ld2 Mx); rfl) | ((with_reducible apply Wp.mnew Mx); intro _ Mz; clear Mx; have Mx := Mz; clear Mz) | ((with_reducible apply Wp.mbox Mx); (rfl); intro _ Mz; clear Mx; have Mx := Mz; clear Mz) | (with_reducible refine Wp.join1 (fun _ _ => ?_)) | (with_reducible refine Wp.lett ?_) | ((with_reducible refine Wp.ift ?_ ?_); ((with_reducible first | apply decide_eq_true | apply bne_t); omega)) | ((with_reducible refine Wp.iff ?_ ?_); ((with_reducible first | apply decide_eq_false | apply bne_f); omega)) | (with_reducible refine Wp.go1 (by assumption) ?_) | rw [newP_eq])
    obtain ⟨h2, e2, p2, M2⟩ := tree_guard_bad (n := n) (D := D) (xs := []) (hs _) (by rw [List.append_nil]; exact Mx) hx
    refine Wp.callN e2 ?_
    clear Mx
    have Mx := M2
    repeat (first | ((with_reducible apply Wp.obind); (with_reducible exact avInt_int _ _)) | ((with_reducible apply Wp.ld2 Mx); rfl) | ((with_reducible apply Wp.lr2 Mx); rfl) | ((with_reducible apply Wp.sa2 Mx); rfl; rfl; (rfl); intro _ Mz; clear Mx; have Mx := Mz; clear Mz) | ((with_reducible apply Wp.lr3 Mx); rfl) | ((with_reducible apply Wp.sa3 Mx); rfl; rfl; (rfl); intro _ Mz; clear Mx; have Mx := Mz; clear Mz) | ((with_reducible refine Wp.chk ?_ ?_); focus ((repeat' (first | (with_reducible exact rfl) | (with_reducible apply and_t) | ((with_reducible apply Mem.rr2 Mx); kernel_rfl; kernel_rfl))); done)) | (with_reducible refine Wp.lett ?_) | ((with_reducible apply Wp.obind); (with_reducible exact avAgg_agg _)) | ((with_reducible refine Wp.ift ?_ ?_); ((with_reducible apply bne_t); omega)))
    exact Wp.ret ⟨rfl, Mx.tch⟩
   | ok t =>
    obtain ⟨c, T, h', e, kt, M'⟩ : ∃ c T h', pattern_Tree (world n (D + 2)) n [.int .i64 3, strA u] h = some (.ret (.tup [.agg c, .agg [.int .i64 0, .int .i64 0]]), h') ∧ NodeT t c T ∧ Mem [] h h' T := by
     suffices hK : Wp (pattern_Tree (world n (D + 2)) n [.int .i64 3, strA u] h) fun r h' => ∃ c T, r = .ret (.tup [.agg c, .agg [.int .i64 0, .int .i64 0]]) ∧ NodeT t c T ∧ Mem [] h h' T by
      obtain ⟨_, h', e, c, T, rfl, k1, k2⟩ := hK
      exact ⟨c, T, h', e, k1, k2⟩
     unfold pattern_Tree
     have ll := lenS_nat u
     have Mx := Mem.nil [] h
     repeat (first | ((with_reducible apply Wp.obind); (with_reducible first | exact avInt_int _ _ | exact avStr_str _ | exact fldP_ptr _ _ _)) | ((with_reducible apply Wp.sa0 Mx); rfl; rfl; (rfl); intro _ Mz; clear Mx; have Mx := Mz; clear Mz) | ((with_reducible apply Wp.ld2 Mx); rfl) | ((with_reducible apply Wp.mnew Mx); intro _ Mz; clear Mx; have Mx := Mz; clear Mz) | ((with_reducible apply Wp.mbox Mx); (rfl); intro _ Mz; clear Mx; have Mx := Mz; clear Mz) | (with_reducible refine Wp.join1 (fun _ _ => ?_)) | (with_reducible refine Wp.lett ?_) | ((with_reducible refine Wp.ift ?_ ?_); ((with_reducible first | apply decide_eq_true | apply bne_t); omega)) | ((with_reducible refine Wp.iff ?_ ?_); ((with_reducible first | apply decide_eq_false | apply bne_f); omega)) | (with_reducible refine Wp.go1 (by assumption) ?_) | rw [newP_eq])
     obtain ⟨c, T, h2, p2, e2, kt, M2⟩ := tree_guard_ok (n := n) (D := D) (xs := []) rfl (hs _) (by rw [List.append_nil]; exact Mx) hx
     refine Wp.callN e2 ?_
     clear Mx
     have Mx := M2
     have hl := kt.len
     have ho := kt.one
     repeat (first | ((with_reducible apply Wp.obind); (with_reducible exact avInt_int _ _)) | ((with_reducible apply Wp.ld2 Mx); rfl) | ((with_reducible apply Wp.sa2 Mx); rfl; rfl; (rfl); intro _ Mz; clear Mx; have Mx := Mz; clear Mz) | (with_reducible refine Wp.lett ?_) | ((with_reducible apply Wp.obind); (with_reducible exact avAgg_agg _)) | ((with_reducible refine Wp.iff ?_ ?_); ((with_reducible apply bne_f); omega)))
     refine Wp.lr3 Mx hl ?_
     repeat (((with_reducible apply Wp.lr2 Mx); rfl))
     refine Wp.sa3 Mx hl hl ho fun _ Mz => ?_
     clear Mx
     have Mx := Mz
     clear Mz
     repeat (first | ((with_reducible apply Wp.sa2 Mx); rfl; rfl; (rfl); intro _ Mz; clear Mx; have Mx := Mz; clear Mz) | ((with_reducible refine Wp.chk ?_ ?_); focus ((repeat' (first | (with_reducible exact rfl) | (with_reducible apply and_t) | ((with_reducible apply Mem.rr2 Mx); kernel_rfl; kernel_rfl))); done)))
     refine Wp.lr3 Mx hl ?_
     repeat (((with_reducible apply Wp.lr2 Mx); rfl))
     exact Wp.ret ⟨c, T, rfl, kt, Mx.pop.pop.pop.pop.pop⟩
    have M2 := M'
    suffices hK : Wp (gcR h (pattern_Tree (world n (D + 2)) n [.int .i64 3, strA u] h)) fun r h' => ∃ T, r = .ret (.tup [.agg c, .agg [.int .i64 0, .int .i64 0]]) ∧ NodeT t c T ∧ Mem [] h h' T by
     obtain ⟨_, h', e, T, rfl, k1, k2⟩ := hK
     rw [← w_pattern_Tree] at e
     exact ⟨c, T, h', e, k1, k2⟩
    refine Wp.gc2 ⟨_, h', e, ⟨T, rfl, kt, M'⟩, fun _ hl => ?_⟩
    have h1 : AV.loL h.next c = true := by
     have : (AV.loL h.next c && (AV.loL h.next [.int .i64 0, .int .i64 0] && AV.loL h.next [])) = true := hl
     rw [Bool.and_eq_true] at this
     exact this.1
    have hT : T = [] := kt.low (fun y hy => (M'.row y hy).2.2.resolve_left (by simp)) h1
    subst hT
    exact ⟨[], rfl, kt, Mem.nil _ _⟩
end
end Go.Proofs.Yteibdplpbcobbaa
namespace Go.Proofs.Yteibdplpbcobbaa
open Go.RowKit Abs
theorem eqElems_ints {P : Program} {e : TypeId} (he : kindT P e = 1) (ws : List Nat) : ∀ (m d i : Nat), m + 1 < d → i + m ≤ ws.length → eqElems P d e 1 m i (wordsA ws) (wordsA ws) = some true
 | _, 0, _, hd, _ => by omega
 | 0, _ + 1, _, _, _ => by
  unfold eqElems
  rfl
 | m + 1, d + 1, i, hd, hi => by
  have hx : (wordsA ws)[i * 1]? = some (.int .u64 (ws.getD i 0 : Int)) := by
   have := get_words (pre := []) (post := []) (w := ws) (i := i) (by omega)
   simpa using this
  have h1 := partA_cell (P := P) (t := e) (l := wordsA ws) (o := i * 1) (by omega) hx
  cases d with
  | zero => omega
  | succ d =>
   have h2 : eqA P (d + 1) e (.int .u64 (ws.getD i 0 : Int)) (.int .u64 (ws.getD i 0 : Int)) = some true := by
    have := eqA_cell (P := P) (d := d) (t := e) (b := ((ws.getD i 0 : Int) == (ws.getD i 0 : Int))) (x := .int .u64 (ws.getD i 0 : Int)) (y := .int .u64 (ws.getD i 0 : Int)) he.symm (eqCell_int _ _ _)
    rw [this]
    simp
   unfold eqElems
   rw [h1]
   dsimp only
   rw [h2]
   dsimp only
   exact eqElems_ints he ws m (d + 1) (i + 1) (by omega) (by omega)
theorem eqSet {w : List Nat} (hw : WordsOk w) : eqOther Try.prog TSet (.agg (wordsA w)) (.agg (wordsA w)) = some true := by
 have h0 : Try.prog.eqGuardType Try.prog.depth TSet = false := by kernel_rfl
 have h1 : Try.prog.underlying TSet = some (.array 4 36) := by kernel_rfl
 have h2 : (Try.prog.info? 36).isSome = true := by kernel_rfl
 have h3 : kindT Try.prog 36 = 1 := by kernel_rfl
 have h4 : Try.prog.cellsOf 36 = 1 := by kernel_rfl
 show (if Try.prog.eqGuardType Try.prog.depth TSet then none else eqA Try.prog 2000 TSet (.agg (wordsA w)) (.agg (wordsA w))) = some true
 rw [h0, if_neg (by decide)]
 unfold eqA
 rw [h1]
 dsimp only
 obtain ⟨z, hz⟩ := Option.isSome_iff_exists.1 h2
 rw [hz]
 dsimp only
 rw [h4]
 exact eqElems_ints h3 w 4 1999 0 (by omega) (by rw [hw.len]; omega)
mutual
def Nd.sz : Nd → Nat
 | .mk _ _ ks => szL ks + 1
def szL : List Nd → Nat
 | [] => 0
 | k :: ks => Nd.sz k + szL ks + 1
end
theorem szL_len : ∀ ks : List Nd, ks.length ≤ szL ks
 | [] => Nat.zero_le _
 | k :: ks => by
  have := szL_len ks
  rw [List.length_cons, szL]
  omega
def RowsAt (h : AHeap) (T : List RowT) : Prop := ∀ y ∈ T, RowH h y.1 y.2.1 y.2.2 ∧ y.1 < h.next
theorem RowsAt.keep {h h' : AHeap} {T : List RowT} (k : RowsAt h T) (t : Tch [] h h') : RowsAt h' T := fun y hy => ⟨(k y hy).1.tch t (k y hy).2 (by simp), Nat.lt_of_lt_of_le (k y hy).2 t.1⟩
theorem RowsAt.left {h : AHeap} {T T' : List RowT} (k : RowsAt h (T ++ T')) : RowsAt h T := fun y hy => k y (List.mem_append_left _ hy)
theorem RowsAt.right {h : AHeap} {T T' : List RowT} (k : RowsAt h (T ++ T')) : RowsAt h T' := fun y hy => k y (List.mem_append_right _ hy)
theorem grow_sli {h : AHeap} {kc : List (List AV)} {kv : AV} {T : List RowT} (g : GrowT TNode 6 kc kv T) (k : RowsAt h T) : Slc h.next h 6 kv kc := by
 refine Sli.slc (e := TNode) (lo := 0) ⟨fun r hr => g.1 r hr, ?_⟩
 rcases g.2 with ⟨h1, h2, _⟩ | ⟨h1, c, h2, rfl⟩
 ·exact .inl ⟨h1, h2⟩
 ·obtain ⟨k1, k2⟩ := k (c, TNode, kc.flatten) (by simp)
  exact .inr ⟨c, h1, h2, Nat.zero_le _, k2, k1⟩
inductive KidAt (h : AHeap) (D n : Nat) : List (List AV) → List (List AV) → Prop
 | nil : KidAt h D n [] []
 | cons {c1 c2 : List AV} {l1 l2 : List (List AV)} (e : ∀ h', Tch [] h h' → world n D 23 [.agg c1, .agg c2] h' = some (.ret (.bool true), h')) (k : KidAt h D n l1 l2) : KidAt h D n (c1 :: l1) (c2 :: l2)
theorem same_loop {h0 H : AHeap} {n D b1 b2 : Nat} {v1 v2 : AV} {pc1 pc2 : List AV} {K1 K2 : List (List AV)} {k25 : AHeap → R} {Q : ARes → AHeap → Prop} (ht : Tch [] h0 H) (q1 : RowH H b1 TNode pc1) (q2 : RowH H b2 TNode pc2) (e1 : pc1[5]? = some v1) (e2 : pc2[5]? = some v2) (s1 : Slc h0.next h0 6 v1 K1) (s2 : Slc h0.next h0 6 v2 K2) (s1' : Slc H.next H 6 v1 K1) (s2' : Slc H.next H 6 v2 K2) (hk : Wp (k25 H) Q) (hn : K1.length < 1000000) (hlen : K1.length = K2.length) :
  ∀ (l1 l2 : List (List AV)) (i f : Nat), KidAt h0 D n l1 l2 → K1.drop i = l1 → K2.drop i = l2 → i ≤ K1.length → K1.length - i < f → Wp (ref09_Same_L0 (world n D) (.ptr b1 0) (.ptr b2 0) k25 f (i : Int) H) Q
 | _, _, _, 0, _, _, _, _, hf => by omega
 | l1, l2, i, f + 1, kk, d1, d2, hi, hf => by
  rw [ref09_Same_L0_s]
  unfold ref09_Same_L0b
  have hl := s1'.len
  have c1 : ldCell H (.ptr b1 (0 + 5)) = some v1 := RowH.cell' q1 e1
  have c2 : ldCell H (.ptr b2 (0 + 5)) = some v2 := RowH.cell' q2 e2
  cases kk with
  | nil =>
   have : K1.length ≤ i := by
    have := congrArg List.length d1
    rw [List.length_drop, List.length_nil] at this
    omega
   repeat (first | (with_reducible refine Wp.lett ?_) | ((with_reducible apply Wp.obind); (with_reducible first | exact c1 | exact hl | exact fldP_ptr _ _ _)) | ((with_reducible refine Wp.iff ?_ ?_); ((with_reducible apply decide_eq_false); omega)))
   exact hk
  | cons e k =>
   rename_i a1 a2 m1 m2
   have hi1 : i < K1.length := by
    have := congrArg List.length d1
    rw [List.length_drop, List.length_cons] at this
    omega
   obtain ⟨p1, _, x1, y1⟩ := s1'.row hi1
   obtain ⟨p2, _, x2, y2⟩ := s2'.row (i := i) (by omega)
   have g1 := List.drop_eq_getElem_cons hi1
   have g2 := List.drop_eq_getElem_cons (l := K2) (i := i) (by omega)
   rw [d1] at g1
   rw [d2] at g2
   simp only [List.cons.injEq] at g1 g2
   rw [← g1.1] at y1
   rw [← g2.1] at y2
   have es := e H ht
   repeat (first | ((with_reducible refine Wp.lettw ?_ ?_ ?_); omega; omega) | (with_reducible refine Wp.lett ?_) | ((with_reducible apply Wp.obind); (with_reducible first | exact c1 | exact c2 | exact hl | exact x1 | exact y1 | exact x2 | exact y2 | exact avBool_bool _ | exact fldP_ptr _ _ _)) | ((with_reducible refine Wp.ift ?_ ?_); ((with_reducible apply decide_eq_true); omega)) | ((with_reducible refine Wp.iff ?_ ?_); (with_reducible exact Bool.not_true)) | ((with_reducible apply Wp.callN); (with_reducible assumption)))
   have ei : (i : Int) + 1 = ((i + 1 : Nat) : Int) := by omega
   rw [ei]
   exact same_loop ht q1 q2 e1 e2 s1 s2 s1' s2' hk hn hlen m1 m2 (i + 1) f k g1.2.symm g2.2.symm (by omega) (by omega)
mutual
theorem same_ok : ∀ (t : Nd) {c1 c2 : List AV} {T1 T2 : List RowT} {D n : Nat} {h : AHeap}, NodeT t c1 T1 → NodeT t c2 T2 → RowsAt h T1 → RowsAt h T2 → t.sz ≤ D → t.sz < n → t.sz < 1000000 → world n D 23 [.agg c1, .agg c2] h = some (.ret (.bool true), h)
 | .mk op w ks, _, _, _, _, 0, n, h, _, _, _, _, hD, _, _ => by
  rw [Nd.sz] at hD
  omega
 | .mk op w ks, c1, c2, T1, T2, D + 1, n, h, k1, k2, r1, r2, hD, hn, hN => by
  rw [Nd.sz] at hD hn hN
  have hsl := szL_len ks
  cases k1 with
  | mk hw g1 ks1 =>
   rename_i kc1 kv1 T01 T11
   cases k2 with
   | mk hw2 g2 ks2 =>
    rename_i kc2 kv2 T02 T12
    have kk := sameL_ok ks (D := D) (n := n) ks1 ks2 r1.right r2.right (by omega) (by omega) (by omega)
    have hl1 := ks1.len
    have hl2 := ks2.len
    have he := eqSet hw
    obtain ⟨a, b, c, d, rfl⟩ := words4 hw
    apply Wp.eq
    rw [w_ref09_Same]
    refine Wp.gc ?_
    suffices hK : Wp (ref09_Same (world n D) n (nodeC op [a, b, c, d] kv1) (nodeC op [a, b, c, d] kv2) h) fun r h' => r = .ret (.bool true) ∧ Tch [] h h' from hK.mono fun r h' ⟨e, t⟩ => ⟨t.above, by rw [e]; rfl, e, rfl⟩
    unfold ref09_Same
    have Mx := Mem.nil [] h
    have o1 := nodeC_one (op := op) (w := [a, b, c, d]) g1.one.1
    have o2 := nodeC_one (op := op) (w := [a, b, c, d]) g2.one.1
    have len1 := g1.len
    have len2 := g2.len
    refine Wp.mbox Mx o1 fun h1 M1 => ?_
    refine Wp.mbox M1 o2 fun h2 M2 => ?_
    clear Mx M1
    have Mx := M2
    clear M2
    have p1 : ldRow h2 4 (.ptr h.next (0 + 1)) = some (wordsA [a, b, c, d]) := RowH.ld (o := 1) (n := 4) Mx.at1.1 (Nat.le_of_ble_eq_true rfl)
    have p2 : ldRow h2 4 (.ptr h1.next (0 + 1)) = some (wordsA [a, b, c, d]) := RowH.ld (o := 1) (n := 4) Mx.at0.1 (Nat.le_of_ble_eq_true rfl)
    repeat (first | ((with_reducible apply Wp.obind); (with_reducible first | exact avInt_int _ _ | exact fldP_ptr _ _ _)) | ((with_reducible apply Wp.ld0 Mx); rfl) | ((with_reducible apply Wp.ld1 Mx); rfl) | (with_reducible first | refine Wp.join0 (fun _ _ => ?_) | refine Wp.join1 (fun _ _ => ?_)) | (with_reducible refine Wp.lett ?_) | ((with_reducible apply Wp.obind); (with_reducible first | exact p1 | exact p2 | exact he | exact len1 | exact len2)) | ((with_reducible refine Wp.iff ?_ ?_); first | (with_reducible exact Bool.not_true) | ((with_reducible apply bne_f); omega)) | (with_reducible refine Wp.go1 (by assumption) ?_))
    refine same_loop (h0 := h) Mx.tch Mx.at1.1 Mx.at0.1 rfl rfl (grow_sli g1 r1.left) (grow_sli g2 r2.left) (grow_sli g1 (r1.left.keep Mx.tch)) (grow_sli g2 (r2.left.keep Mx.tch)) ?_ (by omega) (by omega) kc1 kc2 0 n kk List.drop_zero List.drop_zero (Nat.zero_le _) (by omega)
    refine Wp.go0 (by assumption) ?_
    exact Wp.ret ⟨rfl, Mx.tch⟩
theorem sameL_ok : ∀ (ks : List Nd) {k1 k2 : List (List AV)} {T1 T2 : List RowT} {D n : Nat} {h : AHeap}, KidsT ks k1 T1 → KidsT ks k2 T2 → RowsAt h T1 → RowsAt h T2 → szL ks ≤ D → szL ks < n → szL ks < 1000000 → KidAt h D n k1 k2
 | [], _, _, _, _, _, _, _, k1, k2, _, _, _, _, _ => by
  cases k1
  cases k2
  exact .nil
 | t :: ks, _, _, _, _, D, n, h, k1, k2, r1, r2, hD, hn, hN => by
  rw [szL] at hD hn hN
  cases k1 with
  | cons a1 b1 =>
   cases k2 with
   | cons a2 b2 => exact .cons (fun h' th => same_ok t a1 a2 (r1.left.keep th) (r2.left.keep th) (by omega) (by omega) (by omega)) (sameL_ok ks b1 b2 r1.right r2.right (by omega) (by omega) (by omega))
end
theorem at?_app (pre rest : Bytes) (i : Nat) : at? (pre ++ rest) (pre.length + i) = (rest[i]?).map UInt8.toNat := by
 unfold at?
 rw [List.getElem?_append_right (by omega), show pre.length + i - pre.length = i by omega]
section
variable {u : Bytes} {l : List Nd} {i : Nat} {r : Res}
theorem atom_esc {c : Nat} {r : Res} (h1 : at? u i = some 92) (h2 : at? u (i + 1) = some c) (k : AtomP u i r) : r = .ok (oneN c, i + 2) := by
 cases k with
 | none h => rw [h1] at h; cases h
 | open_bad h m => rw [h1] at h; cases h
 | open_end h m n => rw [h1] at h; cases h
 | group h m n => rw [h1] at h; cases h
 | any h => rw [h1] at h; cases h
 | set_bad h m => rw [h1] at h; cases h
 | set h m => rw [h1] at h; cases h
 | sl_end h n => rw [h2] at n; cases n
 | sl h n =>
  rw [h2] at n
  cases n
  rfl
 | bad h b =>
  rw [h1] at h
  cases h
  unfold badAtom at b
  omega
 | one h b n =>
  rw [h1] at h
  cases h
  exact absurd rfl n.2.2.2
end
section
variable {u : Bytes}
theorem loopP_one {w : List Nat} {j : Nat} {r : Except Nat (List Nat × Nat)} (a : LoopP u w j r) : ∀ {r' : Except Nat (List Nat × Nat)}, LoopP u w j r' → r = r' := by
 induction a with
 | done n =>
  intro r' b
  cases b with
  | done _ => rfl
  | bad n' _ => exact absurd n n'
  | more n' _ _ => exact absurd n n'
 | bad n h =>
  intro r' b
  cases b with
  | done n' => exact absurd n' n
  | bad n' h' =>
   rw [h] at h'
   cases h'
   rfl
  | more n' h' _ =>
   rw [h] at h'
   cases h'
 | more n h m ih =>
  intro r' b
  cases b with
  | done n' => exact absurd n' n
  | bad n' h' =>
   rw [h] at h'
   cases h'
  | more n' h' m' =>
   rw [h] at h'
   cases h'
   exact ih m'
theorem setP_one {i : Nat} {r r' : Except Nat (List Nat × Nat)} (a : SetP u i r) (b : SetP u i r') : r = r' := by
 cases a with
 | bad h =>
  cases b with
  | bad h' =>
   rw [h] at h'
   cases h'
   rfl
  | set h' _ =>
   rw [h] at h'
   cases h'
 | set h m =>
  cases b with
  | bad h' =>
   rw [h] at h'
   cases h'
  | set h' m' =>
   rw [h] at h'
   cases h'
   rw [loopP_one m m']
mutual
theorem altP_one : ∀ {l : List Nd} {i : Nat} {r r' : Res}, AltP u l i r → AltP u l i r' → r = r'
 | _, _, _, _, .bad h, .bad h' => by
  cases rowP_one h h'
  rfl
 | _, _, _, _, .bad h, .last h' _ => by cases rowP_one h h'
 | _, _, _, _, .bad h, .more h' _ _ => by cases rowP_one h h'
 | _, _, _, _, .last h _, .bad h' => by cases rowP_one h h'
 | _, _, _, _, .last h _, .last h' _ => by
  cases rowP_one h h'
  rfl
 | _, _, _, _, .last h n, .more h' n' _ => by
  cases rowP_one h h'
  exact absurd n' n
 | _, _, _, _, .more h _ _, .bad h' => by cases rowP_one h h'
 | _, _, _, _, .more h n _, .last h' n' => by
  cases rowP_one h h'
  exact absurd n n'
 | _, _, _, _, .more h n m, .more h' n' m' => by
  cases rowP_one h h'
  exact altP_one m m'
termination_by structural _ _ _ _ a => a
theorem rowP_one : ∀ {l : List Nd} {i : Nat} {r r' : Res}, RowP u l i r → RowP u l i r' → r = r'
 | _, _, _, _, .stop s, .stop _ => rfl
 | _, _, _, _, .stop s, .bad s' _ => absurd s s'
 | _, _, _, _, .stop s, .more s' _ _ => absurd s s'
 | _, _, _, _, .bad s _, .stop s' => absurd s' s
 | _, _, _, _, .bad _ h, .bad _ h' => by
  cases partP_one h h'
  rfl
 | _, _, _, _, .bad _ h, .more _ h' _ => by cases partP_one h h'
 | _, _, _, _, .more s _ _, .stop s' => absurd s' s
 | _, _, _, _, .more _ h _, .bad _ h' => by cases partP_one h h'
 | _, _, _, _, .more _ h m, .more _ h' m' => by
  cases partP_one h h'
  exact rowP_one m m'
termination_by structural _ _ _ _ a => a
theorem partP_one : ∀ {i : Nat} {r r' : Res}, PartP u i r → PartP u i r' → r = r'
 | _, _, _, .bad h, .bad h' => by
  cases atomP_one h h'
  rfl
 | _, _, _, .bad h, .bare h' _ => by cases atomP_one h h'
 | _, _, _, .bad h, .sign h' _ => by cases atomP_one h h'
 | _, _, _, .bare h _, .bad h' => by cases atomP_one h h'
 | _, _, _, .bare h _, .bare h' _ => by
  cases atomP_one h h'
  rfl
 | _, _, _, .bare h n, .sign h' n' => by
  cases atomP_one h h'
  exact absurd n n'
 | _, _, _, .sign h _, .bad h' => by cases atomP_one h h'
 | _, _, _, .sign h n, .bare h' n' => by
  cases atomP_one h h'
  exact absurd n' n
 | _, _, _, .sign h _, .sign h' _ => by
  cases atomP_one h h'
  rfl
termination_by structural _ _ _ a => a
theorem atomP_one : ∀ {i : Nat} {r r' : Res}, AtomP u i r → AtomP u i r' → r = r'
 | _, _, _, .none h, b => by
  cases b <;> first | rfl | (rename_i h' _; rw [h] at h'; cases h'; done) | (rename_i h' _ _; rw [h] at h'; cases h'; done) | (rename_i h'; rw [h] at h'; cases h'; done)
 | _, _, _, .open_bad h m, b => by
  cases b with
  | open_bad h' m' =>
   cases altP_one m m'
   rfl
  | open_end h' m' n' => cases altP_one m m'
  | group h' m' n' => cases altP_one m m'
  | none h' => rw [h] at h'; cases h'
  | any h' => rw [h] at h'; cases h'
  | set_bad h' _ => rw [h] at h'; cases h'
  | set h' _ => rw [h] at h'; cases h'
  | sl_end h' _ => rw [h] at h'; cases h'
  | sl h' _ => rw [h] at h'; cases h'
  | bad h' b' => rw [h] at h'; cases h'; unfold badAtom at b'; omega
  | one h' _ n' => rw [h] at h'; cases h'; exact absurd rfl n'.1
 | _, _, _, .open_end h m n, b => by
  cases b with
  | open_bad h' m' => cases altP_one m m'
  | open_end h' m' n' =>
   cases altP_one m m'
   rfl
  | group h' m' n' =>
   cases altP_one m m'
   exact absurd n' n
  | none h' => rw [h] at h'; cases h'
  | any h' => rw [h] at h'; cases h'
  | set_bad h' _ => rw [h] at h'; cases h'
  | set h' _ => rw [h] at h'; cases h'
  | sl_end h' _ => rw [h] at h'; cases h'
  | sl h' _ => rw [h] at h'; cases h'
  | bad h' b' => rw [h] at h'; cases h'; unfold badAtom at b'; omega
  | one h' _ n' => rw [h] at h'; cases h'; exact absurd rfl n'.1
 | _, _, _, .group h m n, b => by
  cases b with
  | open_bad h' m' => cases altP_one m m'
  | open_end h' m' n' =>
   cases altP_one m m'
   exact absurd n n'
  | group h' m' n' =>
   cases altP_one m m'
   rfl
  | none h' => rw [h] at h'; cases h'
  | any h' => rw [h] at h'; cases h'
  | set_bad h' _ => rw [h] at h'; cases h'
  | set h' _ => rw [h] at h'; cases h'
  | sl_end h' _ => rw [h] at h'; cases h'
  | sl h' _ => rw [h] at h'; cases h'
  | bad h' b' => rw [h] at h'; cases h'; unfold badAtom at b'; omega
  | one h' _ n' => rw [h] at h'; cases h'; exact absurd rfl n'.1
 | _, _, _, .any h, b => by
  cases b with
  | any h' => rfl
  | none h' => rw [h] at h'; cases h'
  | open_bad h' _ => rw [h] at h'; cases h'
  | open_end h' _ _ => rw [h] at h'; cases h'
  | group h' _ _ => rw [h] at h'; cases h'
  | set_bad h' _ => rw [h] at h'; cases h'
  | set h' _ => rw [h] at h'; cases h'
  | sl_end h' _ => rw [h] at h'; cases h'
  | sl h' _ => rw [h] at h'; cases h'
  | bad h' b' => rw [h] at h'; cases h'; unfold badAtom at b'; omega
  | one h' _ n' => rw [h] at h'; cases h'; exact absurd rfl n'.2.1
 | _, _, _, .set_bad h m, b => by
  cases b with
  | set_bad h' m' => cases setP_one m m'; rfl
  | set h' m' => cases setP_one m m'
  | any h' => rw [h] at h'; cases h'
  | none h' => rw [h] at h'; cases h'
  | open_bad h' _ => rw [h] at h'; cases h'
  | open_end h' _ _ => rw [h] at h'; cases h'
  | group h' _ _ => rw [h] at h'; cases h'
  | sl_end h' _ => rw [h] at h'; cases h'
  | sl h' _ => rw [h] at h'; cases h'
  | bad h' b' => rw [h] at h'; cases h'; unfold badAtom at b'; omega
  | one h' _ n' => rw [h] at h'; cases h'; exact absurd rfl n'.2.2.1
 | _, _, _, .set h m, b => by
  cases b with
  | set_bad h' m' => cases setP_one m m'
  | set h' m' => cases setP_one m m'; rfl
  | any h' => rw [h] at h'; cases h'
  | none h' => rw [h] at h'; cases h'
  | open_bad h' _ => rw [h] at h'; cases h'
  | open_end h' _ _ => rw [h] at h'; cases h'
  | group h' _ _ => rw [h] at h'; cases h'
  | sl_end h' _ => rw [h] at h'; cases h'
  | sl h' _ => rw [h] at h'; cases h'
  | bad h' b' => rw [h] at h'; cases h'; unfold badAtom at b'; omega
  | one h' _ n' => rw [h] at h'; cases h'; exact absurd rfl n'.2.2.1
 | _, _, _, .sl_end h m, b => by
  cases b with
  | sl_end h' _ => rfl
  | sl h' m' => rw [m] at m'; cases m'
  | set_bad h' m' => rw [h] at h'; cases h'
  | set h' m' => rw [h] at h'; cases h'
  | any h' => rw [h] at h'; cases h'
  | none h' => rw [h] at h'; cases h'
  | open_bad h' _ => rw [h] at h'; cases h'
  | open_end h' _ _ => rw [h] at h'; cases h'
  | group h' _ _ => rw [h] at h'; cases h'
  | bad h' b' => rw [h] at h'; cases h'; unfold badAtom at b'; omega
  | one h' _ n' => rw [h] at h'; cases h'; exact absurd rfl n'.2.2.2
 | _, _, _, .sl h m, b => (atom_esc h m b).symm
 | _, _, _, .bad h b1, b => by
  unfold badAtom at b1
  cases b with
  | bad h' b' => rfl
  | one h' b' n' => rw [h] at h'; cases h'; exact absurd b1 b'
  | sl_end h' _ => rw [h] at h'; cases h'; omega
  | sl h' m' => rw [h] at h'; cases h'; omega
  | set_bad h' m' => rw [h] at h'; cases h'; omega
  | set h' m' => rw [h] at h'; cases h'; omega
  | any h' => rw [h] at h'; cases h'; omega
  | none _ => rfl
  | open_bad h' _ => rw [h] at h'; cases h'; omega
  | open_end h' _ _ => rw [h] at h'; cases h'; omega
  | group h' _ _ => rw [h] at h'; cases h'; omega
 | _, _, _, .one h b1 n, b => by
  obtain ⟨n1, n2, n3, n4⟩ := n
  cases b with
  | bad h' b' => rw [h] at h'; cases h'; exact absurd b' b1
  | one h' b' n' => rw [h] at h'; cases h'; rfl
  | sl_end h' _ => rw [h] at h'; cases h'; exact absurd rfl n4
  | sl h' m' => rw [h] at h'; cases h'; exact absurd rfl n4
  | set_bad h' m' => rw [h] at h'; cases h'; exact absurd rfl n3
  | set h' m' => rw [h] at h'; cases h'; exact absurd rfl n3
  | any h' => rw [h] at h'; cases h'; exact absurd rfl n2
  | none h' => rw [h] at h'; cases h'
  | open_bad h' _ => rw [h] at h'; cases h'; exact absurd rfl n1
  | open_end h' _ _ => rw [h] at h'; cases h'; exact absurd rfl n1
  | group h' _ _ => rw [h] at h'; cases h'; exact absurd rfl n1
termination_by structural _ _ _ a => a
end
end
section
variable {a u : Bytes} {k : Nat}
theorem memb_ok {w w' : List Nat} {i j : Nat} (h : memberF a w i = .ok (w', j)) : i < j ∧ j ≤ a.length := by
 unfold memberF at h
 split at h
 ·cases h
 ·rename_i c j' h1
  obtain ⟨_, h2, h3⟩ := memB2_ok h1
  split at h
  ·split at h
   ·cases h
   ·rename_i e k h4
    obtain ⟨_, h5, h6⟩ := memB2_ok h4
    split at h
    ·cases h
    ·cases h
     exact ⟨by omega, h6⟩
  ·cases h
   exact ⟨h2, h3⟩
theorem loopP_bnd {w : List Nat} {j : Nat} {r : Except Nat (List Nat × Nat)} (x : LoopP a w j r) : j ≤ a.length → (∀ w' j', r = .ok (w', j') → j < j' ∧ j' ≤ a.length) ∧ ∀ e, r = .error e → e ≤ a.length := by
 induction x with
 | done n =>
  intro hj
  obtain ⟨hp, _⟩ := at?_some n
  refine ⟨fun w' j' e => ?_, fun e he => by cases he⟩
  cases e
  exact ⟨by omega, by omega⟩
 | bad n h =>
  intro hj
  refine ⟨fun w' j' e => (by cases e), fun e he => ?_⟩
  cases he
  exact memberF_bad hj h
 | more n h m ih =>
  intro hj
  obtain ⟨b1, b2⟩ := memb_ok h
  obtain ⟨c1, c2⟩ := ih b2
  refine ⟨fun w' j' e => ?_, c2⟩
  obtain ⟨d1, d2⟩ := c1 w' j' e
  exact ⟨by omega, d2⟩
theorem setB_bnd {i : Nat} (hi : i ≤ a.length) : i ≤ setB a i ∧ setB a i ≤ a.length := by
 unfold setB
 by_cases h94 : at? a i = some 94
 ·obtain ⟨hp, _⟩ := at?_some h94
  rw [if_pos h94]
  omega
 ·rw [if_neg h94]
  omega
theorem setP_bad {i e : Nat} (x : SetP a i (.error e)) (hi : i ≤ a.length) : e ≤ a.length := by
 obtain ⟨s1, s2⟩ := setB_bnd hi
 generalize hr : Except.error e = r at x
 cases x with
 | bad h =>
  cases hr
  exact memberF_bad s2 h
 | set h m =>
  rename_i w j r
  obtain ⟨b1, b2⟩ := memb_ok h
  cases r with
  | error e' =>
   cases hr
   exact (loopP_bnd m b2).2 _ rfl
  | ok wj => cases hr
theorem setP_okb {i j : Nat} {w : List Nat} (x : SetP a i (.ok (w, j))) (hi : i ≤ a.length) : i < j ∧ j ≤ a.length := by
 obtain ⟨s1, s2⟩ := setB_bnd hi
 generalize hr : Except.ok (w, j) = r at x
 cases x with
 | bad h => cases hr
 | set h m =>
  rename_i w' j' r
  obtain ⟨b1, b2⟩ := memb_ok h
  cases r with
  | error e' => cases hr
  | ok wj =>
   obtain ⟨w2, j2⟩ := wj
   cases hr
   obtain ⟨c1, c2⟩ := (loopP_bnd m b2).1 _ _ rfl
   exact ⟨by omega, c2⟩
mutual
theorem altP_bnd : ∀ {l : List Nd} {i : Nat} {r : Res}, AltP a l i r → i ≤ a.length → Bnd a i r
 | _, _, _, .bad h, hi => rowP_bnd h hi
 | _, _, _, .last h _, hi => by
  obtain ⟨b1, b2⟩ := rowP_bnd h hi
  exact ⟨b1, b2⟩
 | _, _, r, .more h n m, hi => by
  have h1 := rowP_bnd h hi
  obtain ⟨hp, _⟩ := at?_some n
  have h2 := altP_bnd m (by omega)
  cases r with
  | error e => exact h2
  | ok tj =>
   obtain ⟨b1, b2⟩ := h1
   obtain ⟨b3, b4⟩ := h2
   exact ⟨by omega, b4⟩
termination_by structural _ _ _ x => x
theorem rowP_bnd : ∀ {l : List Nd} {i : Nat} {r : Res}, RowP a l i r → i ≤ a.length → Bnd a i r
 | _, _, _, .stop _, hi => ⟨Nat.le_refl _, hi⟩
 | _, _, _, .bad _ h, hi => partP_bnd h hi
 | _, _, r, .more _ h m, hi => by
  obtain ⟨b1, b2⟩ := partP_bnd h hi
  have h2 := rowP_bnd m b2
  cases r with
  | error e => exact h2
  | ok tj =>
   obtain ⟨b3, b4⟩ := h2
   exact ⟨by omega, b4⟩
termination_by structural _ _ _ x => x
theorem partP_bnd : ∀ {i : Nat} {r : Res}, PartP a i r → i ≤ a.length → Bnd1 a i r
 | _, _, .bad h, hi => atomP_bnd h hi
 | _, _, .bare h _, hi => atomP_bnd h hi
 | _, _, .sign (j := j) h n, hi => by
  obtain ⟨b1, b2⟩ := atomP_bnd h hi
  have : j < a.length := by
   rcases Nat.lt_or_ge j a.length with h | h
   ·exact h
   ·exfalso
    apply n
    unfold signAt
    rw [at?_ge h]
  exact ⟨by omega, by omega⟩
termination_by structural _ _ x => x
theorem atomP_bnd : ∀ {i : Nat} {r : Res}, AtomP a i r → i ≤ a.length → Bnd1 a i r
 | _, _, .none _, hi => hi
 | _, _, .open_bad h m, hi => by
  obtain ⟨hp, _⟩ := at?_some h
  exact altP_bnd m (by omega)
 | _, _, .open_end h m _, hi => by
  obtain ⟨hp, _⟩ := at?_some h
  exact (altP_bnd m (by omega)).2
 | _, _, .group h m n, hi => by
  obtain ⟨hp, _⟩ := at?_some h
  obtain ⟨b1, _⟩ := altP_bnd m (by omega)
  obtain ⟨hp2, _⟩ := at?_some n
  exact ⟨by omega, by omega⟩
 | _, _, .any h, hi => by
  obtain ⟨hp, _⟩ := at?_some h
  exact ⟨by omega, by omega⟩
 | _, _, .set_bad h m, hi => by
  obtain ⟨hp, _⟩ := at?_some h
  exact setP_bad m (by omega)
 | _, _, .set h m, hi => by
  obtain ⟨hp, _⟩ := at?_some h
  obtain ⟨b1, b2⟩ := setP_okb m (by omega)
  exact ⟨by omega, b2⟩
 | _, _, .sl_end h _, hi => by
  obtain ⟨hp, _⟩ := at?_some h
  exact hp
 | _, _, .sl h n, hi => by
  obtain ⟨hp, _⟩ := at?_some n
  exact ⟨by omega, by omega⟩
 | _, _, .bad h _, hi => hi
 | _, _, .one h _ _, hi => by
  obtain ⟨hp, _⟩ := at?_some h
  exact ⟨by omega, by omega⟩
termination_by structural _ _ x => x
end
structure LiesIn (a u : Bytes) (k : Nat) : Prop where
 same : ∀ i, i < a.length → at? u (k + i) = at? a i
 stop : at? u (k + a.length) = some 41
theorem LiesIn.some (s : LiesIn a u k) {i c : Nat} (h : at? a i = some c) : at? u (k + i) = some c := by
 obtain ⟨hp, _⟩ := at?_some h
 rw [s.same i hp, h]
theorem LiesIn.ne (s : LiesIn a u k) {i c : Nat} (hi : i ≤ a.length) (hc : c ≠ 41) (h : at? a i ≠ Option.some c) : at? u (k + i) ≠ Option.some c := by
 rcases Nat.lt_or_ge i a.length with h1 | h1
 ·rw [s.same i h1]
  exact h
 ·obtain rfl : i = a.length := by omega
  rw [s.stop]
  intro hh
  cases hh
  exact hc rfl
theorem memB2_in (s : LiesIn a u k) {i c j : Nat} (h : memB2 a i = .ok (c, j)) : memB2 u (k + i) = .ok (c, k + j) := by
 unfold memB2 at h ⊢
 split at h
 ·cases h
 ·rename_i c' hc
  rw [s.some hc]
  dsimp only
  split at h
  ·rename_i h92
   rw [if_pos h92]
   split at h
   ·cases h
   ·rename_i e he
    have := s.some he
    rw [← Nat.add_assoc] at this
    rw [this]
    cases h
    rfl
  ·rename_i h92
   rw [if_neg h92]
   split at h
   ·cases h
   ·rename_i hx
    rw [if_neg hx]
    cases h
    rfl
theorem memberF_in (s : LiesIn a u k) {w w' : List Nat} {i j : Nat} (h : memberF a w i = .ok (w', j)) : memberF u w (k + i) = .ok (w', k + j) := by
 unfold memberF at h ⊢
 split at h
 ·cases h
 ·rename_i c j' h1
  obtain ⟨_, _, hj⟩ := memB2_ok h1
  rw [memB2_in s h1]
  dsimp only
  split at h
  ·rename_i h45
   rw [if_pos (s.some h45)]
   split at h
   ·cases h
   ·rename_i e k' h4
    have := memB2_in s h4
    rw [← Nat.add_assoc] at this
    rw [this]
    dsimp only
    split at h
    ·cases h
    ·rename_i hlt
     rw [if_neg hlt]
     cases h
     rfl
  ·rename_i h45
   rw [if_neg (s.ne hj (by decide) h45)]
   cases h
   rfl
theorem loopP_in (s : LiesIn a u k) {w : List Nat} {j : Nat} {r : Except Nat (List Nat × Nat)} (x : LoopP a w j r) : j ≤ a.length → ∀ w' j', r = .ok (w', j') → LoopP u w (k + j) (.ok (w', k + j')) := by
 induction x with
 | done n =>
  intro hj w' j' e
  cases e
  exact .done (s.some n)
 | bad n h =>
  intro hj w' j' e
  cases e
 | more n h m ih =>
  intro hj w' j' e
  obtain ⟨b1, b2⟩ := memb_ok h
  exact .more (s.ne hj (by decide) n) (memberF_in s h) (ih b2 w' j' e)
theorem setB_in (s : LiesIn a u k) {i : Nat} (hi : i ≤ a.length) : setB u (k + i) = k + setB a i := by
 unfold setB
 by_cases h94 : at? a i = some 94
 ·rw [if_pos h94, if_pos (s.some h94)]
  rfl
 ·rw [if_neg h94, if_neg (s.ne hi (by decide) h94)]
theorem setP_in (s : LiesIn a u k) {i j : Nat} {w : List Nat} (x : SetP a i (.ok (w, j))) (hi : i ≤ a.length) : SetP u (k + i) (.ok (w, k + j)) := by
 obtain ⟨s1, s2⟩ := setB_bnd hi
 generalize hr : Except.ok (w, j) = r at x
 cases x with
 | bad h => cases hr
 | set h m =>
  rename_i w' j' r
  obtain ⟨b1, b2⟩ := memb_ok h
  cases r with
  | error e' => cases hr
  | ok wj =>
   obtain ⟨w2, j2⟩ := wj
   cases hr
   have h2 := memberF_in s h
   rw [← setB_in s hi] at h2
   have h3 := SetP.set h2 (loopP_in s m b2 _ _ rfl)
   have h4 : (at? u (k + i) = some 94) ↔ (at? a i = some 94) := ⟨fun hh => Classical.byContradiction fun hn => s.ne hi (by decide) hn hh, fun hh => s.some hh⟩
   unfold othersR at h3
   simp only [h4] at h3
   exact h3
end
section
variable {a u : Bytes} {k : Nat}
theorem stops_in (s : LiesIn a u k) {i : Nat} (hi : i ≤ a.length) (h : stops a i) : stops u (k + i) := by
 rcases h with h | h | h
 ·have := at?_none h hi
  subst this
  exact .inr (.inr s.stop)
 ·exact .inr (.inl (s.some h))
 ·exact .inr (.inr (s.some h))
theorem nstops_in (s : LiesIn a u k) {i : Nat} (h : ¬ stops a i) : ¬ stops u (k + i) := by
 have hlt : i < a.length := by
  rcases Nat.lt_or_ge i a.length with h1 | h1
  ·exact h1
  ·exact absurd (.inl (at?_ge h1)) h
 unfold stops at h ⊢
 rw [s.same i hlt]
 exact h
theorem signAt_in (s : LiesIn a u k) {j : Nat} (hj : j ≤ a.length) : signAt u (k + j) = signAt a j := by
 unfold signAt
 rcases Nat.lt_or_ge j a.length with h1 | h1
 ·rw [s.same j h1]
 ·obtain rfl : j = a.length := by omega
  rw [s.stop, at?_ge (Nat.le_refl _)]
  rfl
mutual
theorem altP_in (s : LiesIn a u k) : ∀ {l : List Nd} {i : Nat} {r : Res}, AltP a l i r → ∀ t j, r = .ok (t, j) → i ≤ a.length → AltP u l (k + i) (.ok (t, k + j))
 | _, _, _, .bad h, t, j, e, hi => by cases e
 | _, _, _, .last h n, t, j, e, hi => by
  obtain ⟨_, b2⟩ := rowP_bnd h hi
  have h1 := rowP_in s h _ _ rfl hi
  cases e
  exact .last h1 (s.ne b2 (by decide) n)
 | _, _, _, .more h n m, t, j, e, hi => by
  obtain ⟨hp, _⟩ := at?_some n
  have h1 := rowP_in s h _ _ rfl hi
  have h2 := altP_in s m t j e (by omega)
  rw [← Nat.add_assoc] at h2
  exact .more h1 (s.some n) h2
termination_by structural _ _ _ x => x
theorem rowP_in (s : LiesIn a u k) : ∀ {l : List Nd} {i : Nat} {r : Res}, RowP a l i r → ∀ t j, r = .ok (t, j) → i ≤ a.length → RowP u l (k + i) (.ok (t, k + j))
 | _, _, _, .stop h, t, j, e, hi => by
  cases e
  exact .stop (stops_in s hi h)
 | _, _, _, .bad _ h, t, j, e, hi => by cases e
 | _, _, _, .more n h m, t, j, e, hi => by
  obtain ⟨_, b2⟩ := partP_bnd h hi
  exact .more (nstops_in s n) (partP_in s h _ _ rfl hi) (rowP_in s m t j e b2)
termination_by structural _ _ _ x => x
theorem partP_in (s : LiesIn a u k) : ∀ {i : Nat} {r : Res}, PartP a i r → ∀ t j, r = .ok (t, j) → i ≤ a.length → PartP u (k + i) (.ok (t, k + j))
 | _, _, .bad h, t, j, e, hi => by cases e
 | _, _, .bare h n, t, j, e, hi => by
  obtain ⟨_, b2⟩ := atomP_bnd h hi
  have h1 := atomP_in s h _ _ rfl hi
  cases e
  exact .bare h1 (by rw [signAt_in s b2]; exact n)
 | _, _, .sign h n, t, j, e, hi => by
  obtain ⟨_, b2⟩ := atomP_bnd h hi
  have h1 := atomP_in s h _ _ rfl hi
  cases e
  have h2 := PartP.sign h1 (by rw [signAt_in s b2]; exact n)
  rw [signAt_in s b2] at h2
  exact h2
termination_by structural _ _ x => x
theorem atomP_in (s : LiesIn a u k) : ∀ {i : Nat} {r : Res}, AtomP a i r → ∀ t j, r = .ok (t, j) → i ≤ a.length → AtomP u (k + i) (.ok (t, k + j))
 | _, _, .none _, t, j, e, hi => by cases e
 | _, _, .open_bad h m, t, j, e, hi => by cases e
 | _, _, .open_end h m _, t, j, e, hi => by cases e
 | _, _, .group h m n, t, j, e, hi => by
  obtain ⟨hp, _⟩ := at?_some h
  have h1 := altP_in s m _ _ rfl (by omega)
  rw [← Nat.add_assoc] at h1
  cases e
  exact .group (s.some h) h1 (s.some n)
 | _, _, .any h, t, j, e, hi => by
  cases e
  exact .any (s.some h)
 | _, _, .set_bad h m, t, j, e, hi => by cases e
 | _, _, .set h m, t, j, e, hi => by
  obtain ⟨hp, _⟩ := at?_some h
  have h1 := setP_in s m (by omega)
  rw [← Nat.add_assoc] at h1
  cases e
  exact .set (s.some h) h1
 | _, _, .sl_end h _, t, j, e, hi => by cases e
 | _, _, .sl h n, t, j, e, hi => by
  have h1 := s.some n
  rw [← Nat.add_assoc] at h1
  cases e
  exact .sl (s.some h) h1
 | _, _, .bad h _, t, j, e, hi => by cases e
 | _, _, .one h b n, t, j, e, hi => by
  cases e
  exact .one (s.some h) b n
termination_by structural _ _ x => x
end
theorem group_in {pre post : Bytes} {t : Nd} (h : AltP a [] 0 (.ok (t, a.length))) (hu : u = pre ++ (40 :: a ++ 41 :: post)) : AtomP u pre.length (.ok (t, pre.length + a.length + 2)) := by
 subst hu
 have s : LiesIn a (pre ++ (40 :: a ++ 41 :: post)) (pre.length + 1) := by
  refine ⟨fun i hi => ?_, ?_⟩
  ·have := at?_app pre (40 :: a ++ 41 :: post) (i + 1)
   rw [show pre.length + 1 + i = pre.length + (i + 1) by omega, this, List.cons_append, List.getElem?_cons_succ, List.getElem?_append_left hi]
   rfl
  ·have := at?_app pre (40 :: a ++ 41 :: post) (a.length + 1)
   rw [show pre.length + 1 + a.length = pre.length + (a.length + 1) by omega, this, List.cons_append, List.getElem?_cons_succ, List.getElem?_append_right (Nat.le_refl _), Nat.sub_self]
   rfl
 have h0 := at?_app pre (40 :: a ++ 41 :: post) 0
 rw [Nat.add_zero] at h0
 have h1 := altP_in s h _ _ rfl (Nat.zero_le _)
 rw [Nat.add_zero] at h1
 have h2 := AtomP.group (u := pre ++ (40 :: a ++ 41 :: post)) (i := pre.length) h0 h1 s.stop
 rw [show pre.length + 1 + a.length + 1 = pre.length + a.length + 2 by omega] at h2
 exact h2
end
section
variable {a b u : Bytes} {x y : Nd}
theorem re_tree {t : Nd} (h : AltP u [] 0 (.ok (t, u.length))) {r : Except Nat Nd} (k : TreeP u 3 r) : r = .ok t := by
 cases k with
 | re_bad h' => cases altP_one h h'
 | re_end h' n =>
  cases altP_one h h'
  exact absurd rfl n
 | re h' =>
  cases altP_one h h'
  rfl
theorem nstop40 {i : Nat} (h : at? u i = some 40) : ¬ stops u i := by
 unfold stops
 rw [h]
 intro hh
 rcases hh with hh | hh | hh <;> cases hh
theorem stop_end {i : Nat} (h : i = u.length) : stops u i := .inl (at?_ge (by omega))
theorem sign_end {i : Nat} (h : i = u.length) : signAt u i = 0 := by
 unfold signAt
 rw [at?_ge (by omega)]
theorem one_row {i j : Nat} {t : Nd} (h : PartP u i (.ok (t, j))) (n : at? u i = some 40) (e : stops u j) : RowP u [] i (.ok (t, j)) := RowP.more (nstop40 n) h (RowP.stop (l := [] ++ [t]) e)
theorem one_alt {i : Nat} {t : Nd} (h : RowP u [] i (.ok (t, u.length))) : AltP u [] i (.ok (t, u.length)) := AltP.last (l := []) h (by rw [at?_ge (Nat.le_refl _)]; simp)
theorem groups_1 (h : AltP a [] 0 (.ok (x, a.length))) (hu : u = [] ++ (40 :: a ++ 41 :: [])) {r : Except Nat Nd} (k : TreeP u 3 r) : r = .ok x := by
 have g := group_in h hu
 have hl : u.length = a.length + 2 := by rw [hu]; simp
 have n0 : at? u 0 = some 40 := by rw [hu]; rfl
 have e : ([] : Bytes).length + a.length + 2 = u.length := by simp [hl]
 rw [e] at g
 exact re_tree (one_alt (one_row (.bare g (sign_end rfl)) n0 (stop_end rfl))) k
theorem groups_s {c : UInt8} {op : Nat} (hop : signOp c.toNat = op) (h0 : op ≠ 0) (h : AltP a [] 0 (.ok (x, a.length))) (hu : u = [] ++ (40 :: a ++ 41 :: [c])) {r : Except Nat Nd} (k : TreeP u 3 r) : r = .ok (overN op [x]) := by
 have g := group_in h hu
 have hl : u.length = a.length + 3 := by rw [hu]; simp
 have n0 : at? u 0 = some 40 := by rw [hu]; rfl
 have e : ([] : Bytes).length + a.length + 2 = a.length + 2 := by simp
 rw [e] at g
 have hc : at? u (a.length + 2) = some c.toNat := by
  rw [hu]
  unfold at?
  simp
 have hs : signAt u (a.length + 2) = op := by rw [signAt_some hc, hop]
 have p := PartP.sign g (by rw [hs]; exact h0)
 rw [hs, show a.length + 2 + 1 = u.length by omega] at p
 exact re_tree (one_alt (one_row p n0 (stop_end rfl))) k
theorem groups_c (h : AltP a [] 0 (.ok (x, a.length))) (h2 : AltP b [] 0 (.ok (y, b.length))) (hu : u = [] ++ (40 :: a ++ 41 :: (40 :: b ++ 41 :: []))) {r : Except Nat Nd} (k : TreeP u 3 r) : r = .ok (overN 3 [x, y]) := by
 have g := group_in h hu
 have hu2 : u = (40 :: a ++ [41]) ++ (40 :: b ++ 41 :: []) := by rw [hu]; simp
 have g2 := group_in h2 hu2
 have hl : u.length = a.length + 2 + (b.length + 2) := by rw [hu]; simp; omega
 have n0 : at? u 0 = some 40 := by rw [hu]; rfl
 have e : ([] : Bytes).length + a.length + 2 = a.length + 2 := by simp
 have e2 : (40 :: a ++ [41] : Bytes).length = a.length + 2 := by simp
 rw [e] at g
 rw [e2, show a.length + 2 + b.length + 2 = u.length by omega] at g2
 have n1 : at? u (a.length + 2) = some 40 := by
  have := at?_app (40 :: a ++ [41]) (40 :: b ++ 41 :: []) 0
  rw [← hu2, e2, Nat.add_zero] at this
  exact this
 have s1 : signAt u (a.length + 2) = 0 := by
  rw [signAt_some n1]
  rfl
 have r2 : RowP u [x] (a.length + 2) (.ok (overN 3 [x, y], u.length)) := RowP.more (nstop40 n1) (.bare g2 (sign_end rfl)) (RowP.stop (l := [x] ++ [y]) (stop_end rfl))
 exact re_tree (one_alt (RowP.more (nstop40 n0) (.bare g s1) r2)) k
theorem groups_a (h : AltP a [] 0 (.ok (x, a.length))) (h2 : AltP b [] 0 (.ok (y, b.length))) (hu : u = [] ++ (40 :: a ++ 41 :: (124 :: 40 :: b ++ 41 :: []))) {r : Except Nat Nd} (k : TreeP u 3 r) : r = .ok (overN 4 [x, y]) := by
 have g := group_in h hu
 have hu2 : u = (40 :: a ++ [41, 124]) ++ (40 :: b ++ 41 :: []) := by rw [hu]; simp
 have g2 := group_in h2 hu2
 have hl : u.length = a.length + 3 + (b.length + 2) := by rw [hu]; simp; omega
 have n0 : at? u 0 = some 40 := by rw [hu]; rfl
 have e : ([] : Bytes).length + a.length + 2 = a.length + 2 := by simp
 have e2 : (40 :: a ++ [41, 124] : Bytes).length = a.length + 3 := by simp
 rw [e] at g
 rw [e2, show a.length + 3 + b.length + 2 = u.length by omega] at g2
 have n1 : at? u (a.length + 3) = some 40 := by
  have := at?_app (40 :: a ++ [41, 124]) (40 :: b ++ 41 :: []) 0
  rw [← hu2, e2, Nat.add_zero] at this
  exact this
 have nb : at? u (a.length + 2) = some 124 := by
  rw [hu]
  unfold at?
  simp
 have s1 : signAt u (a.length + 2) = 0 := by
  rw [signAt_some nb]
  rfl
 have ra := one_row (.bare g s1) n0 (.inr (.inl nb))
 have rb := one_row (.bare g2 (sign_end rfl)) n1 (stop_end rfl)
 have al : AltP u ([] ++ [x]) (a.length + 2 + 1) (.ok (joinN 4 ([x] ++ [y]), u.length)) := AltP.last (l := [x]) rb (by rw [at?_ge (Nat.le_refl _)]; simp)
 exact re_tree (AltP.more ra nb al) k
end
theorem szL_snoc : ∀ (l : List Nd) (t : Nd), szL (l ++ [t]) = szL l + t.sz + 1
 | [], t => by
  simp only [List.nil_append, szL]
  omega
 | k :: l, t => by
  rw [List.cons_append, szL, szL_snoc l t, szL]
  omega
theorem joinN_sz (op : Nat) : ∀ l : List Nd, (joinN op l).sz ≤ szL l + 1
 | [] => Nat.le_add_left 1 _
 | [t] => by
  rw [szL, szL]
  show t.sz ≤ _
  omega
 | _ :: _ :: _ => Nat.le_refl _
section
variable {a : Bytes}
mutual
theorem altP_sz : ∀ {l : List Nd} {i : Nat} {r : Res}, AltP a l i r → ∀ t j, r = .ok (t, j) → i ≤ a.length → t.sz ≤ szL l + 6 * (j - i) + (if l = [] then 1 else 3)
 | _, _, _, .bad h, t, j, e, hi => by cases e
 | l, _, _, .last h n, t, j, e, hi => by
  have h1 := rowP_sz h _ _ rfl hi
  rw [szL] at h1
  cases e
  by_cases hl : l = []
  ·subst hl
   rw [if_pos rfl]
   show Nd.sz _ ≤ _
   simp only [List.nil_append, joinN, szL]
   omega
  ·rw [if_neg hl]
   refine Nat.le_trans (joinN_sz 4 _) ?_
   rw [szL_snoc]
   omega
 | l, _, _, .more h n m, t, j, e, hi => by
  obtain ⟨hp, _⟩ := at?_some n
  have h1 := rowP_sz h _ _ rfl hi
  obtain ⟨c1, _⟩ := rowP_bnd h hi
  rw [szL] at h1
  have h2 := altP_sz m t j e (by omega)
  have hb := altP_bnd m (by omega)
  subst e
  obtain ⟨c2, _⟩ := hb
  rw [if_neg (by simp), szL_snoc] at h2
  split <;> omega
termination_by structural _ _ _ x => x
theorem rowP_sz : ∀ {l : List Nd} {i : Nat} {r : Res}, RowP a l i r → ∀ t j, r = .ok (t, j) → i ≤ a.length → t.sz ≤ szL l + 6 * (j - i) + 1
 | l, _, _, .stop h, t, j, e, hi => by
  cases e
  have := joinN_sz 3 l
  omega
 | _, _, _, .bad _ h, t, j, e, hi => by cases e
 | l, _, _, .more n h m, t, j, e, hi => by
  obtain ⟨b1, b2⟩ := partP_bnd h hi
  have h1 := partP_sz h _ _ rfl hi
  have h2 := rowP_sz m t j e b2
  have hb := rowP_bnd m b2
  subst e
  obtain ⟨c2, _⟩ := hb
  rw [szL_snoc] at h2
  omega
termination_by structural _ _ _ x => x
theorem partP_sz : ∀ {i : Nat} {r : Res}, PartP a i r → ∀ t j, r = .ok (t, j) → i ≤ a.length → t.sz + 3 ≤ 6 * (j - i)
 | _, _, .bad h, t, j, e, hi => by cases e
 | _, _, .bare h n, t, j, e, hi => atomP_sz h t j e hi
 | _, _, .sign h n, t, j, e, hi => by
  obtain ⟨b1, b2⟩ := atomP_bnd h hi
  have h1 := atomP_sz h _ _ rfl hi
  cases e
  simp only [overN, Nd.sz, szL]
  omega
termination_by structural _ _ x => x
theorem atomP_sz : ∀ {i : Nat} {r : Res}, AtomP a i r → ∀ t j, r = .ok (t, j) → i ≤ a.length → t.sz + 3 ≤ 6 * (j - i)
 | _, _, .none _, t, j, e, hi => by cases e
 | _, _, .open_bad h m, t, j, e, hi => by cases e
 | _, _, .open_end h m _, t, j, e, hi => by cases e
 | _, _, .group h m n, t, j, e, hi => by
  obtain ⟨hp, _⟩ := at?_some h
  have h1 := altP_sz m _ _ rfl (by omega)
  obtain ⟨b1, _⟩ := altP_bnd m (by omega)
  rw [if_pos rfl, szL] at h1
  cases e
  omega
 | _, _, .any h, t, j, e, hi => by
  cases e
  simp only [anyN, Nd.sz, szL]
  omega
 | _, _, .set_bad h m, t, j, e, hi => by cases e
 | _, _, .set h m, t, j, e, hi => by
  obtain ⟨hp, _⟩ := at?_some h
  obtain ⟨b1, b2⟩ := setP_okb m (by omega)
  cases e
  simp only [Nd.sz, szL]
  omega
 | _, _, .sl_end h _, t, j, e, hi => by cases e
 | _, _, .sl h n, t, j, e, hi => by
  cases e
  simp only [oneN, Nd.sz, szL]
  omega
 | _, _, .bad h _, t, j, e, hi => by cases e
 | _, _, .one h b n, t, j, e, hi => by
  cases e
  simp only [oneN, Nd.sz, szL]
  omega
termination_by structural _ _ x => x
end
theorem altP_small {t : Nd} {j : Nat} (h : AltP a [] 0 (.ok (t, j))) : t.sz ≤ 6 * a.length + 1 := by
 have h1 := altP_sz h t j rfl (Nat.zero_le _)
 obtain ⟨_, b2⟩ := altP_bnd h (Nat.zero_le _)
 rw [if_pos rfl, szL] at h1
 omega
end
section
variable {N : Nat} {h : AHeap} {x : AV} {K : List (List AV)}
theorem made_at (hs : Slc N h 7 x K) {i : Nat} (hi : i < K.length) {v : AV} {c : List AV} (hk : K[i] = v :: c) : ∃ b, idxP 7 x (i : Int) = some (.ptr b (i * 7)) ∧ ldCell h (.ptr b (i * 7 + 0)) = some v ∧ ldRow h 6 (.ptr b (i * 7 + 1)) = some c := by
 obtain ⟨b, _, h1, h2⟩ := hs.at hi
 have hl := len_same K hs.1
 have h3 : i * 7 + 7 ≤ K.flatten.length := by
  rw [hl]
  omega
 have h4 := flat_part K i hi hs.1
 rw [hk] at h4
 refine ⟨b, h1, ?_, ?_⟩
 ·rw [h2.cell (by omega)]
  have h5 := congrArg (fun l => l[0]?) h4
  simp only [List.getElem?_take, List.getElem?_drop] at h5
  rw [if_pos (by omega), List.getElem?_eq_getElem (by omega)] at h5
  exact h5
 ·show rowGet h b (i * 7 + 1) 6 = _
  rw [h2.part (by omega)]
  have h5 := congrArg (List.drop 1) h4
  rw [List.drop_take, List.drop_drop] at h5
  exact congrArg some h5
end
end Go.Proofs.Yteibdplpbcobbaa
namespace Go.Proofs.Yteibdplpbcobbaa
open Go.RowKit Abs
end Go.Proofs.Yteibdplpbcobbaa
namespace Go.Proofs.Yteibdplpbcobbaa
open Go.RowKit Abs
section
variable {S : List Nat} {h h0 : AHeap} {xs T : List RowT} {l : Bytes} {v : AV} {Q : ARes → AHeap → Prop}
end
theorem treeE {u : Bytes} {t : Nd} {kind : Int} (hk : kind = 1 ∨ kind = 2 ∨ kind = 3) (hl : u.length ≤ 64) (ht : ∀ r, TreeP u kind r → r = .ok t) {n D : Nat} {h : AHeap} (hD : 300 ≤ D) (hn : 400 < n) (hx : memB TNode h.ex = false) : ∃ c T h', world n (D + 3) 21 [.agg [.int .i64 kind, strA u]] h = some (.ret (.tup [.agg c, .agg [.int .i64 0, .int .i64 0]]), h') ∧ NodeT t c T ∧ Mem [] h h' T := by
 obtain ⟨r, r1, _, r3⟩ := (tree_kinds (u := u) (by omega) hk).2 hl
 have := ht r r1
 subst this
 exact r3 hD hn hx
set_option maxHeartbeats 4000000
set_option maxRecDepth 20000
noncomputable def law09_PatternGroups_L0b (call : CallF) (v92 : AV) (k102 : AHeap → R) (self : Int → AHeap → R) (t10 : Int) (h_106 : AHeap) : R :=
 obind (lenL v92) fun t95 =>
 lett (decide (t10 < t95)) fun (t96 : Bool) =>
 ifB t96
 (
  obind (idxP 7 v92 t10) fun t102 =>
  obind (fldP 0 t102) fun t103 =>
  obind (ldCell h_106 t103) fun v104 =>
  obind (avStr v104) fun t104 =>
  callN (call 21 [.agg ([.int .i64 3, strA t104] : List AV)] h_106) fun r106 h_118 =>
  obind (extT 0 r106) fun v107 =>
  obind (avAgg v107) fun t107 =>
  obind (extT 1 r106) fun v108 =>
  obind (avAgg v108) fun t108 =>
  lett (newH h_118 41 [.int .i64 0, .int .u64 0, .int .u64 0, .int .u64 0, .int .u64 0, .nsl]) fun h_124 =>
  lett (newH h_124 27 [.int .i64 0, .int .i64 0]) fun h_126 =>
  obind (stRow h_126 6 t107 (newP h_118)) fun h_128 =>
  obind (stRow h_128 2 t108 (newP h_124)) fun h_130 =>
  lett (fun (t121 : Bool) (h_134 : AHeap) =>
   ifB t121
   (
    some (.ret (.bool false), h_134))
   (
    lett (IntKind.i64.wrap (t10 + 1)) fun (t98 : Int) =>
    self t98 h_134)) fun k133 =>
  obind (ldRow h_130 2 (newP h_124)) fun t109 =>
  obind (eqOther Pg 27 (.agg t109) (.agg ([.int .i64 0, .int .i64 0] : List AV))) fun t111 =>
  lett (!t111) fun (t111_139 : Bool) =>
  ifB t111_139
  (
   k133 true h_130)
  (
   obind (ldRow h_130 6 (newP h_118)) fun t113 =>
   obind (idxP 7 v92 t10) fun t116 =>
   obind (fldP 1 t116) fun t117 =>
   obind (ldRow h_130 6 t117) fun t118 =>
   callN (call 23 [.agg t113, .agg t118] h_130) fun r119 h_145 =>
   obind (avBool r119) fun t119 =>
   lett (!t119) fun (t120 : Bool) =>
   k133 t120 h_145))
 (
  k102 h_106)
noncomputable def law09_PatternGroups_L0 (call : CallF) (v92 : AV) (k102 : AHeap → R) : Nat → Int → AHeap → R := iterR (fun _ _ => none) (law09_PatternGroups_L0b call v92 k102)
theorem law09_PatternGroups_L0_s (call : CallF) (v92 : AV) (k102 : AHeap → R) (m : Nat) : law09_PatternGroups_L0 call v92 k102 (m + 1) = law09_PatternGroups_L0b call v92 k102 (law09_PatternGroups_L0 call v92 k102 m) := rfl
noncomputable def law09_PatternGroups (call : CallF) (n : Nat) (t0 : Bytes) (t1 : Bytes) (h : AHeap) : R :=
 callN (call 13 [] h) fun r13 h_4 =>
 obind (avBool r13) fun t13 =>
 lett (!t13) fun (t14 : Bool) =>
 ifB t14
 (
  some (.ret (.bool false), h_4))
 (
  callN (call 21 [.agg ([.int .i64 3, strA t0] : List AV)] h_4) fun r18 h_10 =>
  obind (extT 0 r18) fun v19 =>
  obind (avAgg v19) fun t19 =>
  obind (extT 1 r18) fun v20 =>
  obind (avAgg v20) fun t20 =>
  lett (newH h_10 41 [.int .i64 0, .int .u64 0, .int .u64 0, .int .u64 0, .int .u64 0, .nsl]) fun h_16 =>
  lett (newH h_16 27 [.int .i64 0, .int .i64 0]) fun h_18 =>
  obind (stRow h_18 6 t19 (newP h_10)) fun h_20 =>
  obind (stRow h_20 2 t20 (newP h_16)) fun h_22 =>
  callN (call 21 [.agg ([.int .i64 3, strA t1] : List AV)] h_22) fun r24 h_25 =>
  obind (extT 0 r24) fun v25 =>
  obind (avAgg v25) fun t25 =>
  obind (extT 1 r24) fun v26 =>
  obind (avAgg v26) fun t26 =>
  lett (newH h_25 41 [.int .i64 0, .int .u64 0, .int .u64 0, .int .u64 0, .int .u64 0, .nsl]) fun h_31 =>
  lett (newH h_31 27 [.int .i64 0, .int .i64 0]) fun h_33 =>
  obind (stRow h_33 6 t25 (newP h_25)) fun h_35 =>
  obind (stRow h_35 2 t26 (newP h_31)) fun h_37 =>
  obind (ldCell h_37 (AV.ptr (AHeap.next h_16) 0)) fun v28 =>
  obind (avInt .i64 v28) fun t28 =>
  lett ((t28 : Int) != 0) fun (t29 : Bool) =>
  lett (fun (t34 : Bool) (h_44 : AHeap) =>
   lett (fun (t43 : Bool) (h_47 : AHeap) =>
    ifB t43
    (
     some (.ret (.bool true), h_47))
    (
     obind (addS ([40] : Bytes) t0) fun t45 =>
     obind (addS t45 ([41] : Bytes)) fun t46 =>
     obind (ldRow h_47 6 (newP h_10)) fun t47 =>
     obind (bldS Pg 52 [(0, strA t46), (1, .agg t47)]) fun t48 =>
     obind (addS ([40] : Bytes) t0) fun t50 =>
     obind (addS t50 ([41, 42] : Bytes)) fun t51 =>
     obind (ldRow h_47 6 (newP h_10)) fun t52 =>
     outK (bldSl Pg h_47 39 1 [(0, .agg t52)]) fun v53 h_59 =>
     obind (bldS Pg 41 [(0, .int .i64 5), (2, v53)]) fun t54 =>
     obind (bldS Pg 52 [(0, strA t51), (1, .agg t54)]) fun t55 =>
     obind (addS ([40] : Bytes) t0) fun t57 =>
     obind (addS t57 ([41, 43] : Bytes)) fun t58 =>
     obind (ldRow h_59 6 (newP h_10)) fun t59 =>
     outK (bldSl Pg h_59 39 1 [(0, .agg t59)]) fun v60 h_66 =>
     obind (bldS Pg 41 [(0, .int .i64 6), (2, v60)]) fun t61 =>
     obind (bldS Pg 52 [(0, strA t58), (1, .agg t61)]) fun t62 =>
     obind (addS ([40] : Bytes) t0) fun t64 =>
     obind (addS t64 ([41, 63] : Bytes)) fun t65 =>
     obind (ldRow h_66 6 (newP h_10)) fun t66 =>
     outK (bldSl Pg h_66 39 1 [(0, .agg t66)]) fun v67 h_73 =>
     obind (bldS Pg 41 [(0, .int .i64 7), (2, v67)]) fun t68 =>
     obind (bldS Pg 52 [(0, strA t65), (1, .agg t68)]) fun t69 =>
     obind (addS ([40] : Bytes) t0) fun t71 =>
     obind (addS t71 ([41, 40] : Bytes)) fun t72 =>
     obind (addS t72 t1) fun t74 =>
     obind (addS t74 ([41] : Bytes)) fun t75 =>
     obind (ldRow h_73 6 (newP h_10)) fun t76 =>
     obind (ldRow h_73 6 (newP h_25)) fun t77 =>
     outK (bldSl Pg h_73 39 2 [(0, .agg t76), (1, .agg t77)]) fun v78 h_83 =>
     obind (bldS Pg 41 [(0, .int .i64 3), (2, v78)]) fun t79 =>
     obind (bldS Pg 52 [(0, strA t75), (1, .agg t79)]) fun t80 =>
     obind (addS ([40] : Bytes) t0) fun t82 =>
     obind (addS t82 ([41, 124, 40] : Bytes)) fun t83 =>
     obind (addS t83 t1) fun t85 =>
     obind (addS t85 ([41] : Bytes)) fun t86 =>
     obind (ldRow h_83 6 (newP h_10)) fun t87 =>
     obind (ldRow h_83 6 (newP h_25)) fun t88 =>
     outK (bldSl Pg h_83 39 2 [(0, .agg t87), (1, .agg t88)]) fun v89 h_93 =>
     obind (bldS Pg 41 [(0, .int .i64 4), (2, v89)]) fun t90 =>
     obind (bldS Pg 52 [(0, strA t86), (1, .agg t90)]) fun t91 =>
     outK (bldSl Pg h_93 53 6 [(0, .agg t48), (1, .agg t55), (2, .agg t62), (3, .agg t69), (4, .agg t80), (5, .agg t91)]) fun v92 h_97 =>
     lett (fun  (h_103 : AHeap) =>
      some (.ret (.bool true), h_103)) fun k102 =>
     law09_PatternGroups_L0 call v92 k102 n 0 h_97)) fun j43 =>
   ifB t34
   (
    j43 true h_44)
   (
    lett (IntKind.i64.wrap ((lenS t0) + (lenS t1))) fun (t40 : Int) =>
    lett (IntKind.i64.wrap (t40 + 5)) fun (t41 : Int) =>
    lett (decide (t41 > 64)) fun (t42 : Bool) =>
    j43 t42 h_44)) fun j34 =>
  ifB t29
  (
   j34 true h_37)
  (
   obind (ldCell h_37 (AV.ptr (AHeap.next h_31) 0)) fun v32 =>
   obind (avInt .i64 v32) fun t32 =>
   lett ((t32 : Int) != 0) fun (t33 : Bool) =>
   j34 t33 h_37))
theorem law09_PatternGroups_ok {call : CallF} (hc : SaysAll Pg call) {n : Nat} {t0 : Bytes} {t1 : Bytes} {h : AHeap} {rR : ARes} {hR : AHeap} (z : law09_PatternGroups call n t0 t1 h = some (rR, hR)) : Says Pg 11 [strA t0, strA t1] h rR hR := by
 unfold law09_PatternGroups at z
 refine says_of (fn := Try.f11) Try.func11 (c := codeOf Try.f11) (by kernel_rfl) (by kernel_rfl) (fun w0 m0 => ?_)
 refine W.weaken (l' := [(0, strA t0), (1, strA t1)]) (Fr.c (Fr.c Fr.n)) ?_
 refine W.s (fun _ n1 _ _ p1 => ?_)
 refine W.r ?_
 refine WL.a (some 4) (.bool false) h ?_
 refine WL.n ?_
 refine Go.weaken (l' := [(0, strA t0), (1, strA t1)]) (Fr.c (Fr.c Fr.n)) ?_
 refine n1 ?_
 refine W.s (fun _ n2 _ q2 p2 => ?_)
 refine W.s (fun _ n3 _ _ _ => ?_)
 refine W.r ?_
 replace z := callN_some z; obtain ⟨r13, h_4, e5, z⟩ := z
 replace z := oS z; obtain ⟨t13, c6, z⟩ := z
 have c6 := avBool_some c6
 subst c6
 refine WL.c (hc.ok w0) (some 13) e5 ?_
 replace z := lS z; obtain ⟨t14, e7, z⟩ := z
 refine WL.val (d := (some 14)) (v := .bool t14) (h' := h_4) (by kernel_rfl) (by kernel_rfl) (val_of AV.bool e7 (by kernel_rfl)) ?_
 refine WL.n ?_
 refine Go.weaken (l' := [(0, strA t0), (1, strA t1), (14, .bool t14)]) (Fr.c (Fr.c (Fr.c Fr.n))) ?_
 refine n3 ?_
 cases t14 with
 | true =>
  replace z := ifB_t z
  refine W.t ?_
  refine W.s (fun _ n8 _ _ _ => ?_)
  refine W.r ?_
  refine WL.a (some 4) (.bool false) h_4 ?_
  refine WL.n ?_
  refine Go.weaken (l' := [(4, .bool false)]) (Fr.c Fr.n) ?_
  refine n8 ?_
  refine W.ret (by kernel_rfl) ?_
  refine q2 ?_
  obtain ⟨z, hF2⟩ := ret_inj z; subst z; subst hF2
  exact leave_of (rs := [.tmp 4]) (vs := [.bool false]) (by kernel_rfl) (res_tmp (by kernel_rfl) res_nil) (by kernel_rfl)
 | false =>
  replace z := ifB_f z
  refine W.f ?_
  refine W.skip (by kernel_rfl) ?_
  refine n2 ?_
  refine W.s (fun _ n9 _ _ _ => ?_)
  refine W.r ?_
  refine WL.a (some 16) (strA t0) h_4 ?_
  refine WL.a (some 17) (.agg ([.int .i64 3, strA t0] : List AV)) h_4 ?_
  replace z := callN_some z; obtain ⟨r18, h_10, e11, z⟩ := z
  refine WL.c (hc.ok w0) (some 18) e11 ?_
  refine WL.a (some 15) r18 h_10 ?_
  replace z := oS z; obtain ⟨v19, e12, z⟩ := z
  replace z := oS z; obtain ⟨t19, c13, z⟩ := z
  have c13 := avAgg_some c13
  subst c13
  refine WL.b (some 19) (.agg t19) h_10 (extract_tup (h := h_10) e12) ?_
  replace z := oS z; obtain ⟨v20, e14, z⟩ := z
  replace z := oS z; obtain ⟨t20, c15, z⟩ := z
  have c15 := avAgg_some c15
  subst c15
  refine WL.b (some 20) (.agg t20) h_10 (extract_tup (h := h_10) e14) ?_
  replace z := lS z; obtain ⟨h_16, e17, z⟩ := z
  refine WL.val (d := (some 5)) (v := (newP h_10)) (h' := h_16) (by kernel_rfl) (by kernel_rfl) (val_ofH e17 (by kernel_rfl)) ?_
  replace z := lS z; obtain ⟨h_18, e19, z⟩ := z
  refine WL.val (d := (some 6)) (v := (newP h_16)) (h' := h_18) (by kernel_rfl) (by kernel_rfl) (val_ofH e19 (by kernel_rfl)) ?_
  replace z := oS z; obtain ⟨h_20, e21, z⟩ := z
  refine WL.e h_20 (store_row (P := Pg) (h := h_18) (t := 41) (v := (.agg t19)) (by kernel_rfl) (by kernel_rfl) e21) ?_
  replace z := oS z; obtain ⟨h_22, e23, z⟩ := z
  refine WL.e h_22 (store_row (P := Pg) (h := h_20) (t := 27) (v := (.agg t20)) (by kernel_rfl) (by kernel_rfl) e23) ?_
  refine WL.n ?_
  refine Go.weaken (l' := [(0, strA t0), (1, strA t1), (5, newP h_10), (6, newP h_16)]) (Fr.c (Fr.c (Fr.c (Fr.c Fr.n)))) ?_
  refine n9 ?_
  refine W.s (fun _ n24 _ _ _ => ?_)
  refine W.r ?_
  refine WL.a (some 22) (strA t1) h_22 ?_
  refine WL.a (some 23) (.agg ([.int .i64 3, strA t1] : List AV)) h_22 ?_
  replace z := callN_some z; obtain ⟨r24, h_25, e26, z⟩ := z
  refine WL.c (hc.ok w0) (some 24) e26 ?_
  refine WL.a (some 21) r24 h_25 ?_
  replace z := oS z; obtain ⟨v25, e27, z⟩ := z
  replace z := oS z; obtain ⟨t25, c28, z⟩ := z
  have c28 := avAgg_some c28
  subst c28
  refine WL.b (some 25) (.agg t25) h_25 (extract_tup (h := h_25) e27) ?_
  replace z := oS z; obtain ⟨v26, e29, z⟩ := z
  replace z := oS z; obtain ⟨t26, c30, z⟩ := z
  have c30 := avAgg_some c30
  subst c30
  refine WL.b (some 26) (.agg t26) h_25 (extract_tup (h := h_25) e29) ?_
  replace z := lS z; obtain ⟨h_31, e32, z⟩ := z
  refine WL.val (d := (some 7)) (v := (newP h_25)) (h' := h_31) (by kernel_rfl) (by kernel_rfl) (val_ofH e32 (by kernel_rfl)) ?_
  replace z := lS z; obtain ⟨h_33, e34, z⟩ := z
  refine WL.val (d := (some 8)) (v := (newP h_31)) (h' := h_33) (by kernel_rfl) (by kernel_rfl) (val_ofH e34 (by kernel_rfl)) ?_
  replace z := oS z; obtain ⟨h_35, e36, z⟩ := z
  refine WL.e h_35 (store_row (P := Pg) (h := h_33) (t := 41) (v := (.agg t25)) (by kernel_rfl) (by kernel_rfl) e36) ?_
  replace z := oS z; obtain ⟨h_37, e38, z⟩ := z
  refine WL.e h_37 (store_row (P := Pg) (h := h_35) (t := 27) (v := (.agg t26)) (by kernel_rfl) (by kernel_rfl) e38) ?_
  refine WL.n ?_
  refine Go.weaken (l' := [(0, strA t0), (1, strA t1), (5, newP h_10), (6, newP h_16), (7, newP h_25), (8, newP h_31)]) (Fr.c (Fr.c (Fr.c (Fr.c (Fr.c (Fr.c Fr.n)))))) ?_
  refine n24 ?_
  refine W.s (fun _ n39 _ q39 _ => ?_)
  refine W.s (fun K40 n40 _ _ _ => ?_)
  refine W.r ?_
  refine WL.a (some 27) (AV.ptr (AHeap.next h_16) 0) h_37 ?_
  replace z := oS z; obtain ⟨v28, e41, z⟩ := z
  replace z := oS z; obtain ⟨t28, c42, z⟩ := z
  have c42 := avInt_some c42
  subst c42
  refine WL.b (some 28) (.int .i64 t28) h_37 (load_cell (P := Pg) (h := h_37) (t := 25) (by kernel_rfl) e41) ?_
  replace z := lS z; obtain ⟨t29, e43, z⟩ := z
  refine WL.val (d := (some 29)) (v := .bool t29) (h' := h_37) (by kernel_rfl) (by kernel_rfl) (val_of AV.bool e43 (by kernel_rfl)) ?_
  refine WL.a (some 30) (.bool t29) h_37 ?_
  replace z := lS z; obtain ⟨j34, e45, z⟩ := z
  have J46 : ∀ (t34 : Bool) (h_44 : AHeap), j34 t34 h_44 = some (rR, hR) → WL Pg w0 m0 (Func.ntmps Try.f11) (Code.ops (Code.p1 (Code.p1 (Code.p2 (Code.p2 (Code.p2 (Code.p2 (codeOf Try.f11)))))))) 8 K40 [(0, strA t0), (1, strA t1), (5, newP h_10), (7, newP h_25), (34, .bool t34)] [] h_44 := by
   intro t34 h_44 z
   rw [e45] at z
   refine WL.a (some 35) (.bool t34) h_44 ?_
   replace z := lS z; obtain ⟨j43, e48, z⟩ := z
   have J49 : ∀ (t43 : Bool) (h_47 : AHeap), j43 t43 h_47 = some (rR, hR) → WL Pg w0 m0 (Func.ntmps Try.f11) (Code.ops (Code.p1 (Code.p1 (Code.p2 (Code.p2 (Code.p2 (Code.p2 (codeOf Try.f11)))))))) 17 K40 [(0, strA t0), (1, strA t1), (5, newP h_10), (7, newP h_25), (43, .bool t43)] [] h_47 := by
    intro t43 h_47 z
    rw [e48] at z
    refine WL.n ?_
    refine Go.weaken (l' := [(0, strA t0), (1, strA t1), (5, newP h_10), (7, newP h_25), (43, .bool t43)]) (Fr.c (Fr.c (Fr.c (Fr.c (Fr.c Fr.n))))) ?_
    refine n40 ?_
    cases t43 with
    | true =>
     replace z := ifB_t z
     refine W.t ?_
     refine W.s (fun _ n50 _ _ _ => ?_)
     refine W.r ?_
     refine WL.a (some 4) (.bool true) h_47 ?_
     refine WL.n ?_
     refine Go.weaken (l' := [(4, .bool true)]) (Fr.c Fr.n) ?_
     refine n50 ?_
     refine W.ret (by kernel_rfl) ?_
     refine q39 ?_
     obtain ⟨z, hF2⟩ := ret_inj z; subst z; subst hF2
     exact leave_of (rs := [.tmp 4]) (vs := [.bool true]) (by kernel_rfl) (res_tmp (by kernel_rfl) res_nil) (by kernel_rfl)
    | false =>
     replace z := ifB_f z
     refine W.f ?_
     refine W.skip (by kernel_rfl) ?_
     refine n39 ?_
     refine W.s (fun _ n51 _ _ _ => ?_)
     refine W.r ?_
     refine WL.a (some 44) (strA t0) h_47 ?_
     replace z := oS z; obtain ⟨t45, e52, z⟩ := z
     refine WL.b (some 45) (strA t45) h_47 (add_str (P := Pg) (h := h_47) (t := 9) (lit := true) e52) ?_
     replace z := oS z; obtain ⟨t46, e53, z⟩ := z
     refine WL.b (some 46) (strA t46) h_47 (add_str (P := Pg) (h := h_47) (t := 9) (lit := true) e53) ?_
     replace z := oS z; obtain ⟨t47, e54, z⟩ := z
     refine WL.b (some 47) (.agg t47) h_47 (load_row (P := Pg) (h := h_47) (t := 41) (by kernel_rfl) (by kernel_rfl) e54) ?_
     replace z := oS z; obtain ⟨t48, e55, z⟩ := z
     refine WL.val (d := (some 48)) (v := .agg t48) (h' := h_47) (by kernel_rfl) (by kernel_rfl) (bld_ok (by kernel_rfl) e55) ?_
     refine WL.a (some 49) (strA t0) h_47 ?_
     replace z := oS z; obtain ⟨t50, e56, z⟩ := z
     refine WL.b (some 50) (strA t50) h_47 (add_str (P := Pg) (h := h_47) (t := 9) (lit := true) e56) ?_
     replace z := oS z; obtain ⟨t51, e57, z⟩ := z
     refine WL.b (some 51) (strA t51) h_47 (add_str (P := Pg) (h := h_47) (t := 9) (lit := true) e57) ?_
     replace z := oS z; obtain ⟨t52, e58, z⟩ := z
     refine WL.b (some 52) (.agg t52) h_47 (load_row (P := Pg) (h := h_47) (t := 41) (by kernel_rfl) (by kernel_rfl) e58) ?_
     replace z := outK_some z; obtain ⟨v53, h_59, e60, z⟩ := z
     refine WL.b (some 53) v53 h_59 e60 ?_
     replace z := oS z; obtain ⟨t54, e61, z⟩ := z
     refine WL.val (d := (some 54)) (v := .agg t54) (h' := h_59) (by kernel_rfl) (by kernel_rfl) (bld_ok (by kernel_rfl) e61) ?_
     replace z := oS z; obtain ⟨t55, e62, z⟩ := z
     refine WL.val (d := (some 55)) (v := .agg t55) (h' := h_59) (by kernel_rfl) (by kernel_rfl) (bld_ok (by kernel_rfl) e62) ?_
     refine WL.a (some 56) (strA t0) h_59 ?_
     replace z := oS z; obtain ⟨t57, e63, z⟩ := z
     refine WL.b (some 57) (strA t57) h_59 (add_str (P := Pg) (h := h_59) (t := 9) (lit := true) e63) ?_
     replace z := oS z; obtain ⟨t58, e64, z⟩ := z
     refine WL.b (some 58) (strA t58) h_59 (add_str (P := Pg) (h := h_59) (t := 9) (lit := true) e64) ?_
     replace z := oS z; obtain ⟨t59, e65, z⟩ := z
     refine WL.b (some 59) (.agg t59) h_59 (load_row (P := Pg) (h := h_59) (t := 41) (by kernel_rfl) (by kernel_rfl) e65) ?_
     replace z := outK_some z; obtain ⟨v60, h_66, e67, z⟩ := z
     refine WL.b (some 60) v60 h_66 e67 ?_
     replace z := oS z; obtain ⟨t61, e68, z⟩ := z
     refine WL.val (d := (some 61)) (v := .agg t61) (h' := h_66) (by kernel_rfl) (by kernel_rfl) (bld_ok (by kernel_rfl) e68) ?_
     replace z := oS z; obtain ⟨t62, e69, z⟩ := z
     refine WL.val (d := (some 62)) (v := .agg t62) (h' := h_66) (by kernel_rfl) (by kernel_rfl) (bld_ok (by kernel_rfl) e69) ?_
     refine WL.a (some 63) (strA t0) h_66 ?_
     replace z := oS z; obtain ⟨t64, e70, z⟩ := z
     refine WL.b (some 64) (strA t64) h_66 (add_str (P := Pg) (h := h_66) (t := 9) (lit := true) e70) ?_
     replace z := oS z; obtain ⟨t65, e71, z⟩ := z
     refine WL.b (some 65) (strA t65) h_66 (add_str (P := Pg) (h := h_66) (t := 9) (lit := true) e71) ?_
     replace z := oS z; obtain ⟨t66, e72, z⟩ := z
     refine WL.b (some 66) (.agg t66) h_66 (load_row (P := Pg) (h := h_66) (t := 41) (by kernel_rfl) (by kernel_rfl) e72) ?_
     replace z := outK_some z; obtain ⟨v67, h_73, e74, z⟩ := z
     refine WL.b (some 67) v67 h_73 e74 ?_
     replace z := oS z; obtain ⟨t68, e75, z⟩ := z
     refine WL.val (d := (some 68)) (v := .agg t68) (h' := h_73) (by kernel_rfl) (by kernel_rfl) (bld_ok (by kernel_rfl) e75) ?_
     replace z := oS z; obtain ⟨t69, e76, z⟩ := z
     refine WL.val (d := (some 69)) (v := .agg t69) (h' := h_73) (by kernel_rfl) (by kernel_rfl) (bld_ok (by kernel_rfl) e76) ?_
     refine WL.a (some 70) (strA t0) h_73 ?_
     replace z := oS z; obtain ⟨t71, e77, z⟩ := z
     refine WL.b (some 71) (strA t71) h_73 (add_str (P := Pg) (h := h_73) (t := 9) (lit := true) e77) ?_
     replace z := oS z; obtain ⟨t72, e78, z⟩ := z
     refine WL.b (some 72) (strA t72) h_73 (add_str (P := Pg) (h := h_73) (t := 9) (lit := true) e78) ?_
     refine WL.a (some 73) (strA t1) h_73 ?_
     replace z := oS z; obtain ⟨t74, e79, z⟩ := z
     refine WL.b (some 74) (strA t74) h_73 (add_str (P := Pg) (h := h_73) (t := 9) (lit := false) e79) ?_
     replace z := oS z; obtain ⟨t75, e80, z⟩ := z
     refine WL.b (some 75) (strA t75) h_73 (add_str (P := Pg) (h := h_73) (t := 9) (lit := true) e80) ?_
     replace z := oS z; obtain ⟨t76, e81, z⟩ := z
     refine WL.b (some 76) (.agg t76) h_73 (load_row (P := Pg) (h := h_73) (t := 41) (by kernel_rfl) (by kernel_rfl) e81) ?_
     replace z := oS z; obtain ⟨t77, e82, z⟩ := z
     refine WL.b (some 77) (.agg t77) h_73 (load_row (P := Pg) (h := h_73) (t := 41) (by kernel_rfl) (by kernel_rfl) e82) ?_
     replace z := outK_some z; obtain ⟨v78, h_83, e84, z⟩ := z
     refine WL.b (some 78) v78 h_83 e84 ?_
     replace z := oS z; obtain ⟨t79, e85, z⟩ := z
     refine WL.val (d := (some 79)) (v := .agg t79) (h' := h_83) (by kernel_rfl) (by kernel_rfl) (bld_ok (by kernel_rfl) e85) ?_
     replace z := oS z; obtain ⟨t80, e86, z⟩ := z
     refine WL.val (d := (some 80)) (v := .agg t80) (h' := h_83) (by kernel_rfl) (by kernel_rfl) (bld_ok (by kernel_rfl) e86) ?_
     refine WL.a (some 81) (strA t0) h_83 ?_
     replace z := oS z; obtain ⟨t82, e87, z⟩ := z
     refine WL.b (some 82) (strA t82) h_83 (add_str (P := Pg) (h := h_83) (t := 9) (lit := true) e87) ?_
     replace z := oS z; obtain ⟨t83, e88, z⟩ := z
     refine WL.b (some 83) (strA t83) h_83 (add_str (P := Pg) (h := h_83) (t := 9) (lit := true) e88) ?_
     refine WL.a (some 84) (strA t1) h_83 ?_
     replace z := oS z; obtain ⟨t85, e89, z⟩ := z
     refine WL.b (some 85) (strA t85) h_83 (add_str (P := Pg) (h := h_83) (t := 9) (lit := false) e89) ?_
     replace z := oS z; obtain ⟨t86, e90, z⟩ := z
     refine WL.b (some 86) (strA t86) h_83 (add_str (P := Pg) (h := h_83) (t := 9) (lit := true) e90) ?_
     replace z := oS z; obtain ⟨t87, e91, z⟩ := z
     refine WL.b (some 87) (.agg t87) h_83 (load_row (P := Pg) (h := h_83) (t := 41) (by kernel_rfl) (by kernel_rfl) e91) ?_
     replace z := oS z; obtain ⟨t88, e92, z⟩ := z
     refine WL.b (some 88) (.agg t88) h_83 (load_row (P := Pg) (h := h_83) (t := 41) (by kernel_rfl) (by kernel_rfl) e92) ?_
     replace z := outK_some z; obtain ⟨v89, h_93, e94, z⟩ := z
     refine WL.b (some 89) v89 h_93 e94 ?_
     replace z := oS z; obtain ⟨t90, e95, z⟩ := z
     refine WL.val (d := (some 90)) (v := .agg t90) (h' := h_93) (by kernel_rfl) (by kernel_rfl) (bld_ok (by kernel_rfl) e95) ?_
     replace z := oS z; obtain ⟨t91, e96, z⟩ := z
     refine WL.val (d := (some 91)) (v := .agg t91) (h' := h_93) (by kernel_rfl) (by kernel_rfl) (bld_ok (by kernel_rfl) e96) ?_
     replace z := outK_some z; obtain ⟨v92, h_97, e98, z⟩ := z
     refine WL.b (some 92) v92 h_97 e98 ?_
     refine WL.a (some 9) v92 h_97 ?_
     refine WL.n ?_
     refine Go.weaken (l' := [(9, v92)]) (Fr.c Fr.n) ?_
     refine n51 ?_
     refine W.s (fun K99 n99 _ q99 _ => ?_)
     refine W.s (fun _ n100 _ _ _ => ?_)
     refine W.r ?_
     refine WL.a (some 10) (.int .i64 0) h_97 ?_
     refine WL.n ?_
     refine Go.weaken (l' := [(9, v92), (10, .int .i64 0)]) (Fr.c (Fr.c Fr.n)) ?_
     refine n100 ?_
     replace z := lS z; obtain ⟨k102, e102, z⟩ := z
     have J102 : ∀  (h_103 : AHeap), k102 h_103 = some (rR, hR) → Go w0 m0 (Func.ntmps Try.f11) (K99 .normal) [] [] h_103 := by
      intro  h_103 z
      rw [e102] at z
      refine n99 ?_
      refine W.s (fun _ n104 _ _ _ => ?_)
      refine W.r ?_
      refine WL.a (some 4) (.bool true) h_103 ?_
      refine WL.n ?_
      refine Go.weaken (l' := [(4, .bool true)]) (Fr.c Fr.n) ?_
      refine n104 ?_
      refine W.ret (by kernel_rfl) ?_
      obtain ⟨z, hF2⟩ := ret_inj z; subst z; subst hF2
      exact leave_of (rs := [.tmp 4]) (vs := [.bool true]) (by kernel_rfl) (res_tmp (by kernel_rfl) res_nil) (by kernel_rfl)
     refine W.blockK (by kernel_rfl) (fun K101 n101 s101 o101 q101 p101 => ?_)
     refine W.loopK (by kernel_rfl) (fun I105 K105 b105 n105 e105 q105 p105 => ?_)
     have L105 : ∀ (m : Nat) (t10 : Int) (h_106 : AHeap), law09_PatternGroups_L0 call v92 k102 m t10 h_106 = some (rR, hR) → Go w0 m0 (Func.ntmps Try.f11) I105 [(9, v92), (10, .int .i64 t10)] [] h_106 := by
      intro m
      induction m with
      | zero => intro t10 h_106 z; cases z
      | succ m ih105 =>
       intro t10 h_106 z
       rw [law09_PatternGroups_L0_s] at z; unfold law09_PatternGroups_L0b at z
       refine b105 ?_
       refine W.s (fun _ n107 e107 _ _ => ?_)
       refine W.s (fun _ n108 _ _ _ => ?_)
       refine W.r ?_
       refine WL.a (some 93) (.int .i64 t10) h_106 ?_
       refine WL.a (some 94) v92 h_106 ?_
       replace z := oS z; obtain ⟨t95, e109, z⟩ := z
       refine WL.b (some 95) (.int .i64 t95) h_106 (len_row (P := Pg) (h := h_106) (t := 53) (e' := 52) (by kernel_rfl) e109) ?_
       replace z := lS z; obtain ⟨t96, e110, z⟩ := z
       refine WL.val (d := (some 96)) (v := .bool t96) (h' := h_106) (by kernel_rfl) (by kernel_rfl) (val_of AV.bool e110 (by kernel_rfl)) ?_
       refine WL.n ?_
       refine Go.weaken (l' := [(9, v92), (10, .int .i64 t10), (96, .bool t96)]) (Fr.c (Fr.c (Fr.c Fr.n))) ?_
       refine n108 ?_
       cases t96 with
       | true =>
        replace z := ifB_t z
        refine W.t ?_
        refine W.skip (by kernel_rfl) ?_
        refine n107 ?_
        refine W.s (fun _ n111 _ q111 _ => ?_)
        refine W.blockK (by kernel_rfl) (fun K112 n112 s112 o112 q112 p112 => ?_)
        refine W.s (fun _ n113 _ _ _ => ?_)
        refine W.r ?_
        refine WL.a (some 100) v92 h_106 ?_
        refine WL.a (some 101) (.int .i64 t10) h_106 ?_
        replace z := oS z; obtain ⟨t102, e114, z⟩ := z
        refine WL.b (some 102) t102 h_106 (index_row (P := Pg) (h := h_106) (t := 53) (e' := 52) (k := .i64) (by kernel_rfl) (by kernel_rfl) (by kernel_rfl) e114) ?_
        replace z := oS z; obtain ⟨t103, e115, z⟩ := z
        refine WL.b (some 103) t103 h_106 (field_ptr (P := Pg) (h := h_106) (s := 52) (f := 0) (by kernel_rfl) e115) ?_
        replace z := oS z; obtain ⟨v104, e116, z⟩ := z
        replace z := oS z; obtain ⟨t104, c117, z⟩ := z
        have c117 := avStr_some c117
        subst c117
        refine WL.b (some 104) (strA t104) h_106 (load_cell (P := Pg) (h := h_106) (t := 9) (by kernel_rfl) e116) ?_
        refine WL.a (some 105) (.agg ([.int .i64 3, strA t104] : List AV)) h_106 ?_
        replace z := callN_some z; obtain ⟨r106, h_118, e119, z⟩ := z
        refine WL.c (hc.ok w0) (some 106) e119 ?_
        refine WL.a (some 99) r106 h_118 ?_
        replace z := oS z; obtain ⟨v107, e120, z⟩ := z
        replace z := oS z; obtain ⟨t107, c121, z⟩ := z
        have c121 := avAgg_some c121
        subst c121
        refine WL.b (some 107) (.agg t107) h_118 (extract_tup (h := h_118) e120) ?_
        replace z := oS z; obtain ⟨v108, e122, z⟩ := z
        replace z := oS z; obtain ⟨t108, c123, z⟩ := z
        have c123 := avAgg_some c123
        subst c123
        refine WL.b (some 108) (.agg t108) h_118 (extract_tup (h := h_118) e122) ?_
        replace z := lS z; obtain ⟨h_124, e125, z⟩ := z
        refine WL.val (d := (some 11)) (v := (newP h_118)) (h' := h_124) (by kernel_rfl) (by kernel_rfl) (val_ofH e125 (by kernel_rfl)) ?_
        replace z := lS z; obtain ⟨h_126, e127, z⟩ := z
        refine WL.val (d := (some 12)) (v := (newP h_124)) (h' := h_126) (by kernel_rfl) (by kernel_rfl) (val_ofH e127 (by kernel_rfl)) ?_
        replace z := oS z; obtain ⟨h_128, e129, z⟩ := z
        refine WL.e h_128 (store_row (P := Pg) (h := h_126) (t := 41) (v := (.agg t107)) (by kernel_rfl) (by kernel_rfl) e129) ?_
        replace z := oS z; obtain ⟨h_130, e131, z⟩ := z
        refine WL.e h_130 (store_row (P := Pg) (h := h_128) (t := 27) (v := (.agg t108)) (by kernel_rfl) (by kernel_rfl) e131) ?_
        refine WL.n ?_
        refine Go.weaken (l' := [(9, v92), (10, .int .i64 t10), (11, newP h_118), (12, newP h_124)]) (Fr.c (Fr.c (Fr.c (Fr.c Fr.n)))) ?_
        refine n113 ?_
        refine W.s (fun K132 n132 _ _ _ => ?_)
        replace z := lS z; obtain ⟨k133, e133, z⟩ := z
        have J133 : ∀ (t121 : Bool) (h_134 : AHeap), k133 t121 h_134 = some (rR, hR) → Go w0 m0 (Func.ntmps Try.f11) (K132 .normal) [(9, v92), (10, .int .i64 t10), (121, .bool t121)] [] h_134 := by
         intro t121 h_134 z
         rw [e133] at z
         refine n132 ?_
         cases t121 with
         | true =>
          replace z := ifB_t z
          refine W.t ?_
          refine W.s (fun _ n135 _ _ _ => ?_)
          refine W.r ?_
          refine WL.a (some 4) (.bool false) h_134 ?_
          refine WL.n ?_
          refine Go.weaken (l' := [(4, .bool false)]) (Fr.c Fr.n) ?_
          refine n135 ?_
          refine W.ret (by kernel_rfl) ?_
          refine q112 ?_
          refine q111 ?_
          refine q105 ?_
          refine q101 ?_
          refine q99 ?_
          obtain ⟨z, hF2⟩ := ret_inj z; subst z; subst hF2
          exact leave_of (rs := [.tmp 4]) (vs := [.bool false]) (by kernel_rfl) (res_tmp (by kernel_rfl) res_nil) (by kernel_rfl)
         | false =>
          replace z := ifB_f z
          refine W.f ?_
          refine W.skip (by kernel_rfl) ?_
          refine n112 ?_
          refine n111 ?_
          refine W.r ?_
          refine WL.a (some 97) (.int .i64 t10) h_134 ?_
          replace z := lS z; obtain ⟨t98, e136, z⟩ := z
          refine WL.val (d := (some 98)) (v := .int .i64 t98) (h' := h_134) (by kernel_rfl) (by kernel_rfl) (val_of (AV.int .i64) e136 (by kernel_rfl)) ?_
          refine WL.a (some 10) (.int .i64 t98) h_134 ?_
          refine WL.n ?_
          refine Go.weaken (l' := [(9, v92), (10, .int .i64 t98)]) (Fr.c (Fr.c Fr.n)) ?_
          refine n105 ?_
          exact Go.weaken (Fr.c (Fr.c Fr.n)) (ih105 _ _ z)
        refine W.draw (by kernel_rfl) (hc.ok w0) (plan := [0, 1, 2, 3, 4, 5, 6, 7, 8, 9, 10, 11, 12]) (by kernel_rfl) (by kernel_rfl) (by kernel_rfl) ?_
        replace z := oS z; obtain ⟨t109, e137, z⟩ := z
        refine WD.b 1 (some 109) (.agg t109) h_130 (load_row (P := Pg) (h := h_130) (t := 27) (by kernel_rfl) (by kernel_rfl) e137) ?_
        refine WD.a 0 (some 110) (.agg ([.int .i64 0, .int .i64 0] : List AV)) h_130 ?_
        replace z := oS z; obtain ⟨t111, e138, z⟩ := z
        replace z := lS z; obtain ⟨t111_139, e140, z⟩ := z
        refine WD.val (d := (some 111)) (v := .bool t111_139) (h' := h_130) (by kernel_rfl) (by kernel_rfl) (val_of AV.bool e140 (Eq.trans (by kernel_rfl) (neq_other (P := Pg) (h := h_130) (t := 27) (lit := false) (by kernel_rfl) e138))) (k := 0) (by kernel_rfl) (fun e => absurd e (by decide)) (by decide) ?_
        refine WD.a 0 (some 112) (.bool t111_139) h_130 ?_
        cases t111_139 with
        | true =>
         replace z := ifB_t z
         refine WD.not (d := (some 113)) (by kernel_rfl) (by kernel_rfl) (k := 1) (by kernel_rfl) (fun e => absurd e (by decide)) (by decide) ?_
         refine WD.not (d := (some 114)) (by kernel_rfl) (by kernel_rfl) (k := 0) (by kernel_rfl) (fun e => absurd e (by decide)) (by decide) ?_
         refine WD.not (d := (some 115)) (by kernel_rfl) (by kernel_rfl) (k := 0) (by kernel_rfl) (fun e => absurd e (by decide)) (by decide) ?_
         refine WD.not (d := (some 116)) (by kernel_rfl) (by kernel_rfl) (k := 0) (by kernel_rfl) (fun e => absurd e (by decide)) (by decide) ?_
         refine WD.not (d := (some 117)) (by kernel_rfl) (by kernel_rfl) (k := 0) (by kernel_rfl) (fun e => absurd e (by decide)) (by decide) ?_
         refine WD.not (d := (some 118)) (by kernel_rfl) (by kernel_rfl) (k := 1) (by kernel_rfl) (fun e => absurd e (by decide)) (by decide) ?_
         refine WD.not (d := (some 119)) (by kernel_rfl) (by kernel_rfl) (k := 2) (by kernel_rfl) (fun _ => (by kernel_rfl)) (by decide) ?_
         refine WD.not (d := (some 120)) (by kernel_rfl) (by kernel_rfl) (k := 0) (by kernel_rfl) (fun e => absurd e (by decide)) (by decide) ?_
         refine WD.a 0 (some 121) (.bool true) h_130 ?_
         refine WD.nil ?_
         exact Go.weaken (Fr.c (Fr.c (Fr.c Fr.n))) (J133 _ _ z)
        | false =>
         replace z := ifB_f z
         replace z := oS z; obtain ⟨t113, e141, z⟩ := z
         refine WD.b 1 (some 113) (.agg t113) h_130 (load_row (P := Pg) (h := h_130) (t := 41) (by kernel_rfl) (by kernel_rfl) e141) ?_
         refine WD.a 0 (some 114) v92 h_130 ?_
         refine WD.a 0 (some 115) (.int .i64 t10) h_130 ?_
         replace z := oS z; obtain ⟨t116, e142, z⟩ := z
         refine WD.b 0 (some 116) t116 h_130 (index_row (P := Pg) (h := h_130) (t := 53) (e' := 52) (k := .i64) (by kernel_rfl) (by kernel_rfl) (by kernel_rfl) e142) ?_
         replace z := oS z; obtain ⟨t117, e143, z⟩ := z
         refine WD.b 0 (some 117) t117 h_130 (field_ptr (P := Pg) (h := h_130) (s := 52) (f := 1) (by kernel_rfl) e143) ?_
         replace z := oS z; obtain ⟨t118, e144, z⟩ := z
         refine WD.b 1 (some 118) (.agg t118) h_130 (load_row (P := Pg) (h := h_130) (t := 41) (by kernel_rfl) (by kernel_rfl) e144) ?_
         replace z := callN_some z; obtain ⟨r119, h_145, e146, z⟩ := z
         replace z := oS z; obtain ⟨t119, c147, z⟩ := z
         have c147 := avBool_some c147
         subst c147
         refine WD.call (d := (some 119)) (by kernel_rfl) (by kernel_rfl) (by kernel_rfl) e146 (k := 2) (by kernel_rfl) (fun _ => (by kernel_rfl)) (by decide) ?_
         replace z := lS z; obtain ⟨t120, e148, z⟩ := z
         refine WD.val (d := (some 120)) (v := .bool t120) (h' := h_145) (by kernel_rfl) (by kernel_rfl) (val_of AV.bool e148 (by kernel_rfl)) (k := 0) (by kernel_rfl) (fun e => absurd e (by decide)) (by decide) ?_
         refine WD.a 0 (some 121) (.bool t120) h_145 ?_
         refine WD.nil ?_
         exact Go.weaken (Fr.c (Fr.c (Fr.c Fr.n))) (J133 _ _ z)
       | false =>
        replace z := ifB_f z
        refine W.f ?_
        refine W.exit (by kernel_rfl) ?_
        refine e107 ?_
        refine e105 ?_
        refine s101 (by kernel_rfl) ?_
        exact Go.weaken Fr.n (J102 _ z)
     exact Go.weaken (Fr.c (Fr.c Fr.n)) (L105 _ _ _ z)
   cases t34 with
   | true =>
    replace z := ifB_t z
    refine WL.o (some 36) ?_
    refine WL.o (some 37) ?_
    refine WL.o (some 38) ?_
    refine WL.o (some 39) ?_
    refine WL.o (some 40) ?_
    refine WL.o (some 41) ?_
    refine WL.o (some 42) ?_
    refine WL.a (some 43) (.bool true) h_44 ?_
    exact WL.weaken (Fr.c (Fr.c (Fr.c (Fr.c (Fr.c Fr.n))))) (J49 _ _ z)
   | false =>
    replace z := ifB_f z
    refine WL.a (some 36) (strA t0) h_44 ?_
    refine WL.a (some 37) (.int .i64 (lenS t0)) h_44 ?_
    refine WL.a (some 38) (strA t1) h_44 ?_
    refine WL.a (some 39) (.int .i64 (lenS t1)) h_44 ?_
    replace z := lS z; obtain ⟨t40, e149, z⟩ := z
    refine WL.val (d := (some 40)) (v := .int .i64 t40) (h' := h_44) (by kernel_rfl) (by kernel_rfl) (val_of (AV.int .i64) e149 (by kernel_rfl)) ?_
    replace z := lS z; obtain ⟨t41, e150, z⟩ := z
    refine WL.val (d := (some 41)) (v := .int .i64 t41) (h' := h_44) (by kernel_rfl) (by kernel_rfl) (val_of (AV.int .i64) e150 (by kernel_rfl)) ?_
    replace z := lS z; obtain ⟨t42, e151, z⟩ := z
    refine WL.val (d := (some 42)) (v := .bool t42) (h' := h_44) (by kernel_rfl) (by kernel_rfl) (val_of AV.bool e151 (by kernel_rfl)) ?_
    refine WL.a (some 43) (.bool t42) h_44 ?_
    exact WL.weaken (Fr.c (Fr.c (Fr.c (Fr.c (Fr.c Fr.n))))) (J49 _ _ z)
  cases t29 with
  | true =>
   replace z := ifB_t z
   refine WL.o (some 31) ?_
   refine WL.o (some 32) ?_
   refine WL.o (some 33) ?_
   refine WL.a (some 34) (.bool true) h_37 ?_
   exact WL.weaken (Fr.c (Fr.c (Fr.c (Fr.c (Fr.c Fr.n))))) (J46 _ _ z)
  | false =>
   replace z := ifB_f z
   refine WL.a (some 31) (AV.ptr (AHeap.next h_31) 0) h_37 ?_
   replace z := oS z; obtain ⟨v32, e152, z⟩ := z
   replace z := oS z; obtain ⟨t32, c153, z⟩ := z
   have c153 := avInt_some c153
   subst c153
   refine WL.b (some 32) (.int .i64 t32) h_37 (load_cell (P := Pg) (h := h_37) (t := 25) (by kernel_rfl) e152) ?_
   replace z := lS z; obtain ⟨t33, e154, z⟩ := z
   refine WL.val (d := (some 33)) (v := .bool t33) (h' := h_37) (by kernel_rfl) (by kernel_rfl) (val_of AV.bool e154 (by kernel_rfl)) ?_
   refine WL.a (some 34) (.bool t33) h_37 ?_
   exact WL.weaken (Fr.c (Fr.c (Fr.c (Fr.c (Fr.c Fr.n))))) (J46 _ _ z)
theorem eqSpot0 : eqOther Try.prog TSpot (.agg [.int .i64 0, .int .i64 0]) (.agg [.int .i64 0, .int .i64 0]) = some true := by kernel_rfl
theorem Mem.rows2 {S : List Nat} {h0 h : AHeap} {xs T ys : List RowT} (M : Abs.Mem S h0 h (xs ++ (T ++ ys))) : RowsAt h T := fun y hy => ⟨(M.row y (by simp [hy])).1, (M.row y (by simp [hy])).2.1⟩
def MadeOk (k : List AV) (T : List RowT) : Prop := ∃ u c t, k = strA u :: c ∧ NodeT t c T ∧ u.length ≤ 64 ∧ (∀ r, TreeP u 3 r → r = .ok t) ∧ t.sz ≤ 1000
theorem groups_loop {n D e lo : Nat} (hD : 1000 ≤ D) (hn : 1000000 < n) {h0 : AHeap} (hx : memB TNode h0.ex = false) {v : AV} {K : List (List AV)} {k102 : AHeap → R} {Q : ARes → AHeap → Prop} (hK : K.length ≤ 1000) (hk : ∀ H, Wp (k102 H) Q) : ∀ (m i f : Nat) (H : AHeap), i + m = K.length → m < f → Tch [] h0 H → Sli e 7 lo H v K → (∀ k ∈ K, ∃ T, MadeOk k T ∧ RowsAt H T) → Wp (law09_PatternGroups_L0 (world n (D + 3)) v k102 f (i : Int) H) Q
 | _, _, 0, _, _, hf, _, _, _ => by omega
 | 0, i, f + 1, H, hi, hf, t, s, hm => by
  rw [law09_PatternGroups_L0_s]
  unfold law09_PatternGroups_L0b
  have hl := s.len
  repeat (first | (with_reducible refine Wp.lett ?_) | ((with_reducible apply Wp.obind); (with_reducible exact hl)) | ((with_reducible refine Wp.iff ?_ ?_); ((with_reducible apply decide_eq_false); omega)))
  exact hk H
 | m + 1, i, f + 1, H, hi, hf, t, s, hm => by
  rw [law09_PatternGroups_L0_s]
  unfold law09_PatternGroups_L0b
  have hl := s.len
  have hlt : i < K.length := by omega
  obtain ⟨T, ⟨u, c, tr, ek, kt, hu, htr, hsz⟩, hr⟩ := hm K[i] (List.getElem_mem hlt)
  obtain ⟨b, x1, x2, _⟩ := made_at s.slc hlt ek
  repeat (first | (with_reducible refine Wp.lett ?_) | ((with_reducible apply Wp.obind); (with_reducible first | exact hl | exact x1 | exact x2 | exact avStr_str _ | exact fldP_ptr _ _ _)) | ((with_reducible refine Wp.ift ?_ ?_); ((with_reducible apply decide_eq_true); omega)))
  obtain ⟨c1, T1, H1, e1, kt1, M1⟩ := treeE (n := n) (D := D) (h := H) (kind := 3) (u := u) (.inr (.inr rfl)) hu htr (by omega) (by omega) (by rw [t.2.1]; exact hx)
  refine Wp.callN e1 ?_
  refine Wp.obind (extT_0 _ _) (Wp.obind (avAgg_agg _) (Wp.obind (extT_1 _ _ _) (Wp.obind (avAgg_agg _) ?_)))
  refine Wp.mnew M1 fun h2 M2 => Wp.mnew M2 fun h3 M3 => ?_
  rw [newP_eq, newP_eq]
  refine Wp.sa1 M3 kt1.len rfl kt1.one fun h4 M4 => Wp.sa0 M4 rfl rfl rfl fun h5 M5 => ?_
  have th := M5.tch
  have s5 := s.tch th (by simp)
  obtain ⟨b5, y1, _, y3⟩ := made_at s5.slc hlt ek
  have r1 : RowsAt h5 T1 := Mem.rows2 (xs := _ :: [_]) (T := T1) (ys := []) (by simpa using M5)
  have sm := same_ok (D := D + 3) (n := n) tr kt1 kt r1 (hr.keep th) (by omega) (by omega) (by omega)
  have g1 : ldRow h5 6 (.ptr H1.next 0) = some c1 := RowH.ldAll M5.at1.1 kt1.len
  have Mx := M5
  repeat (first | ((with_reducible apply Wp.obind); (with_reducible first | exact avBool_bool _ | exact fldP_ptr _ _ _)) | ((with_reducible apply Wp.lr0 Mx); rfl) | (with_reducible refine Wp.join1 (fun _ _ => ?_)) | ((with_reducible refine Wp.lettw ?_ ?_ ?_); omega; omega) | (with_reducible refine Wp.lett ?_) | ((with_reducible apply Wp.obind); (with_reducible first | exact eqSpot0 | exact g1 | exact y1 | exact y3)) | ((with_reducible refine Wp.iff ?_ ?_); (with_reducible exact Bool.not_true)) | ((with_reducible apply Wp.callN); (with_reducible exact sm)) | (with_reducible refine Wp.go1 (by assumption) ?_))
  have ei : (i : Int) + 1 = ((i + 1 : Nat) : Int) := by omega
  rw [ei]
  exact groups_loop hD hn hx hK hk m (i + 1) f h5 (by omega) (by omega) (t.trans th) s5 fun k hk => by
   obtain ⟨T, h1, h2⟩ := hm k hk
   exact ⟨T, h1, h2.keep th⟩
theorem tree_long {u : Bytes} (l : 64 < u.length) {kind : Int} (hk : kind = 1 ∨ kind = 2 ∨ kind = 3) {n D : Nat} {h : AHeap} : world n (D + 1) 21 [.agg [.int .i64 kind, strA u]] h = some (.ret (.tup [.agg (nodeC 0 zeroW .nsl), .agg [.int .i64 3, .int .i64 64]]), h) := by
 rcases hk with rfl | rfl | rfl
 ·apply Wp.eq
  rw [w_pattern_Tree]
  refine Wp.gc ?_
  suffices hK : Wp (pattern_Tree (world n D) n [.int .i64 1, strA u] h) fun r h' => r = .ret (.tup [.agg (nodeC 0 zeroW .nsl), .agg [.int .i64 3, .int .i64 64]]) ∧ Tch [] h h' from hK.mono fun r h' ⟨e, t⟩ => ⟨t.above, by rw [e]; rfl, e, rfl⟩
  unfold pattern_Tree
  have ll := lenS_nat u
  have Mx := Mem.nil [] h
  repeat (first | ((with_reducible apply Wp.obind); (with_reducible first | exact avInt_int _ _ | exact avStr_str _ | exact fldP_ptr _ _ _)) | ((with_reducible apply Wp.lr0 Mx); rfl) | ((with_reducible apply Wp.sa0 Mx); rfl; rfl; (rfl); intro _ Mz; clear Mx; have Mx := Mz; clear Mz) | ((with_reducible apply Wp.lr1 Mx); rfl) | ((with_reducible apply Wp.sa1 Mx); rfl; rfl; (rfl); intro _ Mz; clear Mx; have Mx := Mz; clear Mz) | ((with_reducible apply Wp.ld2 Mx); rfl) | ((with_reducible apply Wp.mnew Mx); intro _ Mz; clear Mx; have Mx := Mz; clear Mz) | ((with_reducible apply Wp.mbox Mx); (rfl); intro _ Mz; clear Mx; have Mx := Mz; clear Mz) | (with_reducible refine Wp.join1 (fun _ _ => ?_)) | (with_reducible refine Wp.lett ?_) | ((with_reducible refine Wp.ift ?_ ?_); ((with_reducible first | apply decide_eq_true | apply bne_t); omega)) | ((with_reducible refine Wp.iff ?_ ?_); first | (with_reducible rfl) | ((with_reducible apply bne_f); omega)) | (with_reducible refine Wp.go1 (by assumption) ?_) | rw [newP_eq])
  exact Wp.ret ⟨rfl, Mx.tch⟩
 ·apply Wp.eq
  rw [w_pattern_Tree]
  refine Wp.gc ?_
  suffices hK : Wp (pattern_Tree (world n D) n [.int .i64 2, strA u] h) fun r h' => r = .ret (.tup [.agg (nodeC 0 zeroW .nsl), .agg [.int .i64 3, .int .i64 64]]) ∧ Tch [] h h' from hK.mono fun r h' ⟨e, t⟩ => ⟨t.above, by rw [e]; rfl, e, rfl⟩
  unfold pattern_Tree
  have ll := lenS_nat u
  have Mx := Mem.nil [] h
  repeat (first | ((with_reducible apply Wp.obind); (with_reducible first | exact avInt_int _ _ | exact avStr_str _ | exact fldP_ptr _ _ _)) | ((with_reducible apply Wp.lr0 Mx); rfl) | ((with_reducible apply Wp.sa0 Mx); rfl; rfl; (rfl); intro _ Mz; clear Mx; have Mx := Mz; clear Mz) | ((with_reducible apply Wp.lr1 Mx); rfl) | ((with_reducible apply Wp.sa1 Mx); rfl; rfl; (rfl); intro _ Mz; clear Mx; have Mx := Mz; clear Mz) | ((with_reducible apply Wp.ld2 Mx); rfl) | ((with_reducible apply Wp.mnew Mx); intro _ Mz; clear Mx; have Mx := Mz; clear Mz) | ((with_reducible apply Wp.mbox Mx); (rfl); intro _ Mz; clear Mx; have Mx := Mz; clear Mz) | (with_reducible refine Wp.join1 (fun _ _ => ?_)) | (with_reducible refine Wp.lett ?_) | ((with_reducible refine Wp.ift ?_ ?_); ((with_reducible first | apply decide_eq_true | apply bne_t); omega)) | ((with_reducible refine Wp.iff ?_ ?_); first | (with_reducible rfl) | ((with_reducible apply bne_f); omega)) | (with_reducible refine Wp.go1 (by assumption) ?_) | rw [newP_eq])
  exact Wp.ret ⟨rfl, Mx.tch⟩
 ·apply Wp.eq
  rw [w_pattern_Tree]
  refine Wp.gc ?_
  suffices hK : Wp (pattern_Tree (world n D) n [.int .i64 3, strA u] h) fun r h' => r = .ret (.tup [.agg (nodeC 0 zeroW .nsl), .agg [.int .i64 3, .int .i64 64]]) ∧ Tch [] h h' from hK.mono fun r h' ⟨e, t⟩ => ⟨t.above, by rw [e]; rfl, e, rfl⟩
  unfold pattern_Tree
  have ll := lenS_nat u
  have Mx := Mem.nil [] h
  repeat (first | ((with_reducible apply Wp.obind); (with_reducible first | exact avInt_int _ _ | exact avStr_str _ | exact fldP_ptr _ _ _)) | ((with_reducible apply Wp.lr0 Mx); rfl) | ((with_reducible apply Wp.sa0 Mx); rfl; rfl; (rfl); intro _ Mz; clear Mx; have Mx := Mz; clear Mz) | ((with_reducible apply Wp.lr1 Mx); rfl) | ((with_reducible apply Wp.sa1 Mx); rfl; rfl; (rfl); intro _ Mz; clear Mx; have Mx := Mz; clear Mz) | ((with_reducible apply Wp.ld2 Mx); rfl) | ((with_reducible apply Wp.mnew Mx); intro _ Mz; clear Mx; have Mx := Mz; clear Mz) | ((with_reducible apply Wp.mbox Mx); (rfl); intro _ Mz; clear Mx; have Mx := Mz; clear Mz) | (with_reducible refine Wp.join1 (fun _ _ => ?_)) | (with_reducible refine Wp.lett ?_) | ((with_reducible refine Wp.ift ?_ ?_); ((with_reducible first | apply decide_eq_true | apply bne_t); omega)) | ((with_reducible refine Wp.iff ?_ ?_); ((with_reducible apply bne_f); omega)) | (with_reducible refine Wp.go1 (by assumption) ?_) | rw [newP_eq])
  exact Wp.ret ⟨rfl, Mx.tch⟩
theorem treeRe (u : Bytes) : ∃ (e : Int) (g : Prop) (tr : Nd), (g ∨ e ≠ 0) ∧ (g → e = 0 ∧ u.length ≤ 64 ∧ AltP u [] 0 (.ok (tr, u.length))) ∧ ∀ {n D : Nat} {h : AHeap}, 300 ≤ D → 400 < n → memB TNode h.ex = false → ∃ c q T h', world n (D + 3) 21 [.agg [.int .i64 3, strA u]] h = some (.ret (.tup [.agg c, .agg [.int .i64 e, .int .i64 q]]), h') ∧ c.length = 6 ∧ c.all AV.one = true ∧ (g → NodeT tr c T) ∧ Mem [] h h' T := by
 by_cases hl : 64 < u.length
 ·exact ⟨3, False, .mk 0 [] [], .inr (by decide), fun hh => hh.elim, fun {n D h} hD hn hx => ⟨_, _, [], h, tree_long hl (.inr (.inr rfl)) (D := D + 2), rfl, rfl, fun hh => hh.elim, Mem.nil _ _⟩⟩
 ·obtain ⟨r, r1, _, r3⟩ := (tree_kinds (u := u) (by omega) (.inr (.inr rfl))).2 (by omega)
  cases r with
  | error q => exact ⟨6, False, .mk 0 [] [], .inr (by decide), fun hh => hh.elim, fun {n D h} hD hn hx => ⟨_, _, [], h, r3 hD hn hx, rfl, rfl, fun hh => hh.elim, Mem.nil _ _⟩⟩
  | ok t =>
   refine ⟨0, True, t, .inl trivial, fun _ => ⟨rfl, by omega, ?_⟩, fun {n D h} hD hn hx => ?_⟩
   ·cases r1 with
    | re h => exact h
   ·obtain ⟨c, T, h', e, kt, M⟩ := r3 (n := n) (D := D) (h := h) hD hn hx
    exact ⟨c, 0, T, h', e, kt.len, kt.one, fun _ => kt, M⟩
abbrev TMade : Nat := 52
abbrev TMades : Nat := 53
theorem bldMade (u : Bytes) (op a b c d : Int) (kv : AV) : bldS Try.prog TMade [(0, strA u), (1, .agg [.int .i64 op, .int .u64 a, .int .u64 b, .int .u64 c, .int .u64 d, kv])] = some [strA u, .int .i64 op, .int .u64 a, .int .u64 b, .int .u64 c, .int .u64 d, kv] := by kernel_rfl
theorem NodeT.made {t : Nd} {c : List AV} {T : List RowT} (k : NodeT t c T) (u : Bytes) : bldS Try.prog TMade [(0, strA u), (1, .agg c)] = some (strA u :: c) := by
 cases k with
 | mk hw g ks =>
  obtain ⟨a, b, c, d, rfl⟩ := words4 hw
  exact bldMade u _ _ _ _ _ _
theorem bldNode2 (h : AHeap) (op a b c d : Int) (kv : AV) (op' a' b' c' d' : Int) (kv' : AV) : bldSl Try.prog h TNodes 2 [(0, .agg [.int .i64 op, .int .u64 a, .int .u64 b, .int .u64 c, .int .u64 d, kv]), (1, .agg [.int .i64 op', .int .u64 a', .int .u64 b', .int .u64 c', .int .u64 d', kv'])] = outNewS h TNode [.int .i64 op, .int .u64 a, .int .u64 b, .int .u64 c, .int .u64 d, kv, .int .i64 op', .int .u64 a', .int .u64 b', .int .u64 c', .int .u64 d', kv'] 2 6 := by kernel_rfl
theorem NodeT.bld2 {t y : Nd} {c c2 : List AV} {T T2 : List RowT} (k : NodeT t c T) (k2 : NodeT y c2 T2) (h : AHeap) : bldSl Try.prog h TNodes 2 [(0, .agg c), (1, .agg c2)] = outNewS h TNode (c ++ c2) 2 6 := by
 cases k with
 | mk hw g ks =>
  cases k2 with
  | mk hw2 g2 ks2 =>
   obtain ⟨a, b, c, d, rfl⟩ := words4 hw
   obtain ⟨a, b, c, d, rfl⟩ := words4 hw2
   exact bldNode2 h _ _ _ _ _ _ _ _ _ _ _ _
theorem bldN1 (op : Nat) (b m : Nat) : bldS Try.prog TNode [(0, .int .i64 (op : Int)), (2, .sl b 0 m 6)] = some (nodeC op zeroW (.sl b 0 m 6)) := bldOver1 _ _ _
theorem bldMadeN (u : Bytes) (op : Nat) (kv : AV) : bldS Try.prog TMade [(0, strA u), (1, .agg (nodeC op zeroW kv))] = some (strA u :: nodeC op zeroW kv) := bldMade u _ _ _ _ _ _
theorem bldMades0 (h : AHeap) (u1 u2 u3 u4 u5 u6 : Bytes) (op a b c d : Int) (kv : AV) (o2 o3 o4 o5 o6 : Int) (k2 k3 k4 k5 k6 : AV) : bldSl Try.prog h TMades 6 [(0, .agg [strA u1, .int .i64 op, .int .u64 a, .int .u64 b, .int .u64 c, .int .u64 d, kv]), (1, .agg [strA u2, .int .i64 o2, .int .u64 0, .int .u64 0, .int .u64 0, .int .u64 0, k2]), (2, .agg [strA u3, .int .i64 o3, .int .u64 0, .int .u64 0, .int .u64 0, .int .u64 0, k3]), (3, .agg [strA u4, .int .i64 o4, .int .u64 0, .int .u64 0, .int .u64 0, .int .u64 0, k4]), (4, .agg [strA u5, .int .i64 o5, .int .u64 0, .int .u64 0, .int .u64 0, .int .u64 0, k5]), (5, .agg [strA u6, .int .i64 o6, .int .u64 0, .int .u64 0, .int .u64 0, .int .u64 0, k6])] =
  outNewS h TMade [strA u1, .int .i64 op, .int .u64 a, .int .u64 b, .int .u64 c, .int .u64 d, kv, strA u2, .int .i64 o2, .int .u64 0, .int .u64 0, .int .u64 0, .int .u64 0, k2, strA u3, .int .i64 o3, .int .u64 0, .int .u64 0, .int .u64 0, .int .u64 0, k3, strA u4, .int .i64 o4, .int .u64 0, .int .u64 0, .int .u64 0, .int .u64 0, k4, strA u5, .int .i64 o5, .int .u64 0, .int .u64 0, .int .u64 0, .int .u64 0, k5, strA u6, .int .i64 o6, .int .u64 0, .int .u64 0, .int .u64 0, .int .u64 0, k6] 6 7 := by kernel_rfl
theorem NodeT.mades {t : Nd} {c : List AV} {T : List RowT} (k : NodeT t c T) (h : AHeap) (u1 u2 u3 u4 u5 u6 : Bytes) (o2 o3 o4 o5 o6 : Nat) (k2 k3 k4 k5 k6 : AV) : bldSl Try.prog h TMades 6 [(0, .agg (strA u1 :: c)), (1, .agg (strA u2 :: nodeC o2 zeroW k2)), (2, .agg (strA u3 :: nodeC o3 zeroW k3)), (3, .agg (strA u4 :: nodeC o4 zeroW k4)), (4, .agg (strA u5 :: nodeC o5 zeroW k5)), (5, .agg (strA u6 :: nodeC o6 zeroW k6))] =
  outNewS h TMade [strA u1 :: c, strA u2 :: nodeC o2 zeroW k2, strA u3 :: nodeC o3 zeroW k3, strA u4 :: nodeC o4 zeroW k4, strA u5 :: nodeC o5 zeroW k5, strA u6 :: nodeC o6 zeroW k6].flatten 6 7 := by
 cases k with
 | mk hw g ks =>
  obtain ⟨a, b, c, d, rfl⟩ := words4 hw
  exact bldMades0 h u1 u2 u3 u4 u5 u6 _ _ _ _ _ _ _ _ _ _ _ _ _ _ _ _
theorem over1T {t : Nd} {c : List AV} {T : List RowT} (k : NodeT t c T) (op b : Nat) : NodeT (overN op [t]) (nodeC op zeroW (.sl b 0 1 6)) ((b, TNode, c) :: T) := by
 have g : GrowT TNode 6 [c] (.sl b 0 1 6) [(b, TNode, c)] := ⟨by simpa using ⟨k.len, fun x hx => List.all_eq_true.1 k.one x hx⟩, .inr ⟨by simp, b, rfl, by simp⟩⟩
 have := NodeT.mk (op := op) zeroW_ok g (KidsT.cons k .nil)
 simpa [overN] using this
theorem over2T {t y : Nd} {c c2 : List AV} {T T2 : List RowT} (k : NodeT t c T) (k2 : NodeT y c2 T2) (op b : Nat) : NodeT (overN op [t, y]) (nodeC op zeroW (.sl b 0 2 6)) ((b, TNode, c ++ c2) :: (T ++ T2)) := by
 have g : GrowT TNode 6 [c, c2] (.sl b 0 2 6) [(b, TNode, c ++ c2)] := ⟨by
  intro r hr
  simp only [List.mem_cons, List.not_mem_nil, or_false] at hr
  rcases hr with rfl | rfl
  ·exact ⟨k.len, k.one⟩
  ·exact ⟨k2.len, k2.one⟩, .inr ⟨by simp, b, rfl, by simp⟩⟩
 have := NodeT.mk (op := op) zeroW_ok g (KidsT.cons k (KidsT.cons k2 .nil))
 simpa [overN] using this
theorem rowsAt_of {S : List Nat} {h0 h : AHeap} {rs T : List RowT} (M : Abs.Mem S h0 h rs) (hs : ∀ y ∈ T, y ∈ rs) : RowsAt h T := fun y hy => ⟨(M.row y (hs y hy)).1, (M.row y (hs y hy)).2.1⟩
theorem worksG_w (n d : Nat) (h : AHeap) : world n (d + 1) 13 [] h = some (.ret (.bool true), h) := by kernel_rfl
theorem madeOk1 {a u : Bytes} {x : Nd} {c : List AV} {T : List RowT} (h : AltP a [] 0 (.ok (x, a.length))) (k : NodeT x c T) (hu : u = [] ++ (40 :: a ++ 41 :: [])) (hl : a.length ≤ 61) : MadeOk (strA u :: c) T := by
 have h1 := altP_small h
 exact ⟨u, c, x, rfl, k, by rw [hu]; simp; omega, fun r hr => groups_1 h hu hr, by omega⟩
theorem madeOkS {a u : Bytes} {x : Nd} {c : List AV} {T : List RowT} {s : UInt8} {op : Nat} (hop : signOp s.toNat = op) (h0 : op ≠ 0) (b : Nat) (h : AltP a [] 0 (.ok (x, a.length))) (k : NodeT x c T) (hu : u = [] ++ (40 :: a ++ 41 :: [s])) (hl : a.length ≤ 61) : MadeOk (strA u :: nodeC op zeroW (.sl b 0 1 6)) ((b, TNode, c) :: T) := by
 have h1 := altP_small h
 exact ⟨u, _, _, rfl, over1T k op b, by rw [hu]; simp; omega, fun r hr => groups_s hop h0 h hu hr, by simp only [overN, Nd.sz, szL]; omega⟩
theorem madeOkC {a b u : Bytes} {x y : Nd} {c c2 : List AV} {T T2 : List RowT} (bb : Nat) (h : AltP a [] 0 (.ok (x, a.length))) (h2 : AltP b [] 0 (.ok (y, b.length))) (k : NodeT x c T) (k2 : NodeT y c2 T2) (hu : u = [] ++ (40 :: a ++ 41 :: (40 :: b ++ 41 :: []))) (hl : a.length + b.length ≤ 59) : MadeOk (strA u :: nodeC 3 zeroW (.sl bb 0 2 6)) ((bb, TNode, c ++ c2) :: (T ++ T2)) := by
 have h1 := altP_small h
 have h3 := altP_small h2
 exact ⟨u, _, _, rfl, over2T k k2 3 bb, by rw [hu]; simp; omega, fun r hr => groups_c h h2 hu hr, by simp only [overN, Nd.sz, szL]; omega⟩
theorem madeOkA {a b u : Bytes} {x y : Nd} {c c2 : List AV} {T T2 : List RowT} (bb : Nat) (h : AltP a [] 0 (.ok (x, a.length))) (h2 : AltP b [] 0 (.ok (y, b.length))) (k : NodeT x c T) (k2 : NodeT y c2 T2) (hu : u = [] ++ (40 :: a ++ 41 :: (124 :: 40 :: b ++ 41 :: []))) (hl : a.length + b.length ≤ 59) : MadeOk (strA u :: nodeC 4 zeroW (.sl bb 0 2 6)) ((bb, TNode, c ++ c2) :: (T ++ T2)) := by
 have h1 := altP_small h
 have h3 := altP_small h2
 exact ⟨u, _, _, rfl, over2T k k2 4 bb, by rw [hu]; simp; omega, fun r hr => groups_a h h2 hu hr, by simp only [overN, Nd.sz, szL]; omega⟩
set_option maxRecDepth 100000 in
theorem patternGroups_says (h : AHeap) (hX : h.ex = [57]) (xs : List AV) (hP : ArgsP Try.prog h.next h 12 [9, 9] xs) : ∃ h', Says Try.prog 11 xs h (.ret (.bool true)) h' := by
 obtain ⟨_, _, rfl, hp0, hP⟩ := args_cons hP
 obtain ⟨_, _, rfl, hp1, hP⟩ := args_cons hP
 obtain rfl := args0 hP
 obtain ⟨a, rfl, ha⟩ := hp0.str Try.underlying9
 obtain ⟨b, rfl, hb⟩ := hp1.str Try.underlying9
 obtain ⟨n, hn⟩ : ∃ n, 1000000 < n := ⟨1000001, Nat.lt_succ_self _⟩
 obtain ⟨D, hD⟩ : ∃ D, 1000 ≤ D := ⟨1000, Nat.le_refl _⟩
 suffices hK : Wp (law09_PatternGroups (world n (D + 3)) n a b h) fun r _ => r = .ret (.bool true) by
  obtain ⟨_, h', e, rfl⟩ := hK
  exact ⟨h', law09_PatternGroups_ok (world_ok n (D + 3)) e⟩
 unfold law09_PatternGroups
 have la := lenS_nat a
 have lb := lenS_nat b
 have hwk := worksG_w n (D + 2) h
 have hxN : ∀ {h1 : AHeap} {rs : List RowT}, Abs.Mem [] h h1 rs → memB TNode h1.ex = false := fun M => by rw [M.ex, hX]; rfl
 have hxM : memB TMade h.ex = false := by rw [hX]; rfl
 have hxN0 : memB TNode h.ex = false := by rw [hX]; rfl
 obtain ⟨e1, g1, x, o1, p1, w1⟩ := treeRe a
 obtain ⟨e2, g2, y, o2, p2, w2⟩ := treeRe b
 repeat (first | (with_reducible refine Wp.lett ?_) | ((with_reducible apply Wp.obind); (with_reducible exact avBool_bool _)) | ((with_reducible refine Wp.iff ?_ ?_); (with_reducible exact Bool.not_true)) | ((with_reducible apply Wp.callN); (with_reducible assumption)))
 obtain ⟨c1, q1, T1, H1, x1, l1, a1, k1, M1⟩ := w1 (n := n) (D := D) (h := h) (by omega) (by omega) hxN0
 refine Wp.callN x1 ?_
 refine Wp.obind (extT_0 _ _) (Wp.obind (avAgg_agg _) (Wp.obind (extT_1 _ _ _) (Wp.obind (avAgg_agg _) ?_)))
 refine Wp.mnew M1 fun h16 M3 => Wp.mnew M3 fun h18 M4 => ?_
 rw [newP_eq, newP_eq]
 refine Wp.sa1 M4 l1 rfl a1 fun h20 M5 => Wp.sa0 M5 rfl rfl rfl fun h22 M6 => ?_
 obtain ⟨c2, q2, T2, H2, x2, l2, a2, k2, M7⟩ := w2 (n := n) (D := D) (h := h22) (by omega) (by omega) (hxN M6)
 refine Wp.callN x2 ?_
 have M8 := Mem.frame (xs := []) M6 M7
 refine Wp.obind (extT_0 _ _) (Wp.obind (avAgg_agg _) (Wp.obind (extT_1 _ _ _) (Wp.obind (avAgg_agg _) ?_)))
 have M9 := M8.perm (ys := (h16.next, TSpot, [.int .i64 e1, .int .i64 q1]) :: (H1.next, TNode, c1) :: (T1 ++ T2)) (by
  have := List.perm_append_comm (l₁ := (h16.next, TSpot, [AV.int .i64 e1, AV.int .i64 q1]) :: (H1.next, TNode, c1) :: T1) (l₂ := T2)
  simpa [List.append_assoc] using this)
 refine Wp.mnew M9 fun h31 M10 => Wp.mnew M10 fun h33 M11 => ?_
 rw [newP_eq, newP_eq]
 refine Wp.sa1 M11 l2 rfl a2 fun h35 M12 => Wp.sa0 M12 rfl rfl rfl fun h37 M13 => ?_
 clear M1 M3 M4 M5 M6 M7 M8 M9 M10 M11 M12
 have Mx := M13
 clear M13
 by_cases hf1 : e1 ≠ 0
 ·repeat (first | ((with_reducible apply Wp.obind); (with_reducible exact avInt_int _ _)) | ((with_reducible apply Wp.ld2 Mx); rfl) | (with_reducible refine Wp.join1 (fun _ _ => ?_)) | (with_reducible refine Wp.lett ?_) | ((with_reducible refine Wp.ift ?_ ?_); first | (with_reducible rfl) | ((with_reducible apply bne_t); omega)) | (with_reducible refine Wp.go1 (by assumption) ?_))
  exact Wp.ret rfl
 have he1 : e1 = 0 := Classical.byContradiction hf1
 by_cases hf2 : e2 ≠ 0
 ·repeat (first | ((with_reducible apply Wp.obind); (with_reducible exact avInt_int _ _)) | ((with_reducible apply Wp.ld0 Mx); rfl) | ((with_reducible apply Wp.ld2 Mx); rfl) | (with_reducible refine Wp.join1 (fun _ _ => ?_)) | (with_reducible refine Wp.lett ?_) | ((with_reducible refine Wp.ift ?_ ?_); first | (with_reducible rfl) | ((with_reducible apply bne_t); omega)) | ((with_reducible refine Wp.iff ?_ ?_); ((with_reducible apply bne_f); omega)) | (with_reducible refine Wp.go1 (by assumption) ?_))
  exact Wp.ret rfl
 have he2 : e2 = 0 := Classical.byContradiction hf2
 obtain ⟨_, la6, alt1⟩ := p1 (o1.resolve_right (fun hh => hh he1))
 obtain ⟨_, lb6, alt2⟩ := p2 (o2.resolve_right (fun hh => hh he2))
 have kt1 := k1 (o1.resolve_right (fun hh => hh he1))
 have kt2 := k2 (o2.resolve_right (fun hh => hh he2))
 clear w1 w2 p1 p2 k1 k2 o1 o2
 by_cases hl : a.length + b.length + 5 > 64
 ·repeat (first | ((with_reducible apply Wp.obind); (with_reducible exact avInt_int _ _)) | ((with_reducible apply Wp.ld0 Mx); rfl) | ((with_reducible apply Wp.ld2 Mx); rfl) | (with_reducible refine Wp.join1 (fun _ _ => ?_)) | ((with_reducible refine Wp.lettw ?_ ?_ ?_); omega; omega) | (with_reducible refine Wp.lett ?_) | ((with_reducible refine Wp.ift ?_ ?_); ((with_reducible first | apply decide_eq_true | apply bne_t); omega)) | ((with_reducible refine Wp.iff ?_ ?_); ((with_reducible apply bne_f); omega)) | (with_reducible refine Wp.go1 (by assumption) ?_))
  exact Wp.ret rfl
 have A1 : addS [40] a = some ([40] ++ a) := addS_val (by simp; omega)
 have A2 : addS ([40] ++ a) [41] = some ([40] ++ a ++ [41]) := addS_val (by simp; omega)
 have A3 : addS ([40] ++ a) [41, 42] = some ([40] ++ a ++ [41, 42]) := addS_val (by simp; omega)
 have A4 : addS ([40] ++ a) [41, 43] = some ([40] ++ a ++ [41, 43]) := addS_val (by simp; omega)
 have A5 : addS ([40] ++ a) [41, 63] = some ([40] ++ a ++ [41, 63]) := addS_val (by simp; omega)
 have A6 : addS ([40] ++ a) [41, 40] = some ([40] ++ a ++ [41, 40]) := addS_val (by simp; omega)
 have A7 : addS ([40] ++ a ++ [41, 40]) b = some ([40] ++ a ++ [41, 40] ++ b) := addS_val (by simp; omega)
 have A8 : addS ([40] ++ a ++ [41, 40] ++ b) [41] = some ([40] ++ a ++ [41, 40] ++ b ++ [41]) := addS_val (by simp; omega)
 have A9 : addS ([40] ++ a) [41, 124, 40] = some ([40] ++ a ++ [41, 124, 40]) := addS_val (by simp; omega)
 have A10 : addS ([40] ++ a ++ [41, 124, 40]) b = some ([40] ++ a ++ [41, 124, 40] ++ b) := addS_val (by simp; omega)
 have A11 : addS ([40] ++ a ++ [41, 124, 40] ++ b) [41] = some ([40] ++ a ++ [41, 124, 40] ++ b ++ [41]) := addS_val (by simp; omega)
 have gN : ∀ {H : AHeap} {rs : List RowT}, Abs.Mem [] h H rs → (H1.next, TNode, c1) ∈ rs → ldRow H 6 (.ptr H1.next 0) = some c1 := fun M hm => RowH.ldAll (M.row _ hm).1 l1
 have gM : ∀ {H : AHeap} {rs : List RowT}, Abs.Mem [] h H rs → (H2.next, TNode, c2) ∈ rs → ldRow H 6 (.ptr H2.next 0) = some c2 := fun M hm => RowH.ldAll (M.row _ hm).1 l2
 repeat (first | ((with_reducible apply Wp.obind); (with_reducible exact avInt_int _ _)) | ((with_reducible apply Wp.ld0 Mx); rfl) | ((with_reducible apply Wp.ld2 Mx); rfl) | (with_reducible refine Wp.join1 (fun _ _ => ?_)) | ((with_reducible refine Wp.lettw ?_ ?_ ?_); omega; omega) | (with_reducible refine Wp.lett ?_) | ((with_reducible apply Wp.obind); (with_reducible first | exact A1 | exact A2 | exact A3 | exact gN Mx (by simp) | exact kt1.made _)) | ((with_reducible refine Wp.iff ?_ ?_); ((with_reducible first | apply decide_eq_false | apply bne_f); omega)) | (with_reducible refine Wp.go1 (by assumption) ?_))
 refine Wp.mnews Mx (kt1.bld _) a1 hxN0 fun h59 My => ?_
 clear Mx
 have Mx := My
 clear My
 refine Wp.obind (bldN1 5 _ _) (Wp.obind (bldMadeN _ _ _) ?_)
 repeat (((with_reducible apply Wp.obind); (with_reducible first | exact A1 | exact A4 | exact gN Mx (by simp))))
 refine Wp.mnews Mx (kt1.bld _) a1 hxN0 fun h66 My => ?_
 clear Mx
 have Mx := My
 clear My
 refine Wp.obind (bldN1 6 _ _) (Wp.obind (bldMadeN _ _ _) ?_)
 repeat (((with_reducible apply Wp.obind); (with_reducible first | exact A1 | exact A5 | exact gN Mx (by simp))))
 refine Wp.mnews Mx (kt1.bld _) a1 hxN0 fun h73 My => ?_
 clear Mx
 have Mx := My
 clear My
 refine Wp.obind (bldN1 7 _ _) (Wp.obind (bldMadeN _ _ _) ?_)
 repeat (((with_reducible apply Wp.obind); (with_reducible first | exact A1 | exact A6 | exact A7 | exact A8 | exact gN Mx (by simp) | exact gM Mx (by simp))))
 refine Wp.mnews Mx (kt1.bld2 kt2 _) (by rw [List.all_append, a1, a2]; rfl) hxN0 fun h83 My => ?_
 clear Mx
 have Mx := My
 clear My
 refine Wp.obind (bldN1 3 _ _) (Wp.obind (bldMadeN _ _ _) ?_)
 repeat (((with_reducible apply Wp.obind); (with_reducible first | exact A1 | exact A9 | exact A10 | exact A11 | exact gN Mx (by simp) | exact gM Mx (by simp))))
 refine Wp.mnews Mx (kt1.bld2 kt2 _) (by rw [List.all_append, a1, a2]; rfl) hxN0 fun h93 My => ?_
 clear Mx
 have Mx := My
 clear My
 refine Wp.obind (bldN1 4 _ _) (Wp.obind (bldMadeN _ _ _) ?_)
 have hone : ∀ (op b m : Nat), (nodeC op zeroW (.sl b 0 m 6)).all AV.one = true := fun _ _ _ => rfl
 have hall : ∀ (u : Bytes) (c : List AV), c.length = 6 → c.all AV.one = true → (strA u :: c).length = 7 ∧ (strA u :: c).all AV.one = true := fun u c h1 h2 => ⟨by rw [List.length_cons, h1], by rw [List.all_cons, h2]; rfl⟩
 have hK7 : ∀ r ∈ [strA ([40] ++ a ++ [41]) :: c1, strA ([40] ++ a ++ [41, 42]) :: nodeC 5 zeroW (.sl h37.next 0 1 6), strA ([40] ++ a ++ [41, 43]) :: nodeC 6 zeroW (.sl h59.next 0 1 6), strA ([40] ++ a ++ [41, 63]) :: nodeC 7 zeroW (.sl h66.next 0 1 6), strA ([40] ++ a ++ [41, 40] ++ b ++ [41]) :: nodeC 3 zeroW (.sl h73.next 0 2 6), strA ([40] ++ a ++ [41, 124, 40] ++ b ++ [41]) :: nodeC 4 zeroW (.sl h83.next 0 2 6)], r.length = 7 ∧ r.all AV.one = true := by
  intro k hk
  simp only [List.mem_cons, List.not_mem_nil, or_false] at hk
  rcases hk with rfl | rfl | rfl | rfl | rfl | rfl
  ·exact hall _ _ l1 a1
  ·exact hall _ _ rfl (hone _ _ _)
  ·exact hall _ _ rfl (hone _ _ _)
  ·exact hall _ _ rfl (hone _ _ _)
  ·exact hall _ _ rfl (hone _ _ _)
  ·exact hall _ _ rfl (hone _ _ _)
 refine Wp.mnews Mx (kt1.mades _ _ _ _ _ _ _ 5 6 7 3 4 _ _ _ _ _) (flat_all hK7) hxM fun h97 My => ?_
 have hrows : ∀ k ∈ [strA ([40] ++ a ++ [41]) :: c1, strA ([40] ++ a ++ [41, 42]) :: nodeC 5 zeroW (.sl h37.next 0 1 6), strA ([40] ++ a ++ [41, 43]) :: nodeC 6 zeroW (.sl h59.next 0 1 6), strA ([40] ++ a ++ [41, 63]) :: nodeC 7 zeroW (.sl h66.next 0 1 6), strA ([40] ++ a ++ [41, 40] ++ b ++ [41]) :: nodeC 3 zeroW (.sl h73.next 0 2 6), strA ([40] ++ a ++ [41, 124, 40] ++ b ++ [41]) :: nodeC 4 zeroW (.sl h83.next 0 2 6)], ∃ T, MadeOk k T ∧ RowsAt h97 T := by
  intro k hk
  simp only [List.mem_cons, List.not_mem_nil, or_false] at hk
  rcases hk with rfl | rfl | rfl | rfl | rfl | rfl
  ·exact ⟨_, madeOk1 alt1 kt1 (by simp) (by omega), rowsAt_of My (fun y hy => by simp [hy])⟩
  ·exact ⟨_, madeOkS (s := 42) rfl (by decide) _ alt1 kt1 (by simp) (by omega), rowsAt_of My (fun y hy => by
    rcases List.mem_cons.1 hy with rfl | hy <;> simp [*])⟩
  ·exact ⟨_, madeOkS (s := 43) rfl (by decide) _ alt1 kt1 (by simp) (by omega), rowsAt_of My (fun y hy => by
    rcases List.mem_cons.1 hy with rfl | hy <;> simp [*])⟩
  ·exact ⟨_, madeOkS (s := 63) rfl (by decide) _ alt1 kt1 (by simp) (by omega), rowsAt_of My (fun y hy => by
    rcases List.mem_cons.1 hy with rfl | hy <;> simp [*])⟩
  ·exact ⟨_, madeOkC _ alt1 alt2 kt1 kt2 (by simp) (by omega), rowsAt_of My (fun y hy => by
    rcases List.mem_cons.1 hy with rfl | hy
    ·simp
    ·rcases List.mem_append.1 hy with hy | hy <;> simp [hy])⟩
  ·exact ⟨_, madeOkA _ alt1 alt2 kt1 kt2 (by simp) (by omega), rowsAt_of My (fun y hy => by
    rcases List.mem_cons.1 hy with rfl | hy
    ·simp
    ·rcases List.mem_append.1 hy with hy | hy <;> simp [hy])⟩
 refine Wp.join0 (fun k102 ek => ?_)
 refine groups_loop (i := 0) (m := 6) (lo := 0) (e := TMade) hD hn (h0 := h97) (hxN My) (Nat.le_of_ble_eq_true rfl) (fun H => Wp.go0 ek (Wp.ret rfl)) n h97 rfl (by omega) (Tch.refl _ _) ⟨hK7, .inr ⟨_, by simp, rfl, Nat.zero_le _, My.at0.2.1, My.at0.1⟩⟩ fun k hk => ?_
 exact hrows k hk
end Go.Proofs.Yteibdplpbcobbaa
