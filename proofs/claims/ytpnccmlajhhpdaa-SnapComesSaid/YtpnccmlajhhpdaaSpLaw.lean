/- SnapPieces: the loops. -/
import Derived.Test.YtpnccmlajhhpdaaWo
import Derived.Test.YtpnccmlajhhpdaaSp
namespace Go.Proofs.Ytpnccmlajhhpdaa
open Go.RowKit Abs
theorem works_w (n d : Nat) (h : AHeap) : world n (d + 1) 8 [] h = some (.ret (.bool true), h) := w_true n d [] h
section
variable {n d : Nat} {h : AHeap}
theorem chunk_w (x : Bytes) : world n (d + 1) 37 [strA x] h = some (.ret (strA (x.take 2048)), h) := by
  rw [w_snap_chunk]
  unfold snap_chunk
  have e : sliceS x 0 (if 2048 < lenS x then 2048 else lenS x) = some (x.take 2048) := by
    rw [lenS_nat]
    split
    · have := sliceS_nat (l := x) (a := 0) (b := 2048) (by omega) (by omega)
      simpa using this
    · have := sliceS_nat (l := x) (a := 0) (b := x.length) (by omega) (Nat.le_refl _)
      rw [List.take_of_length_le (show x.length ≤ 2048 by omega)]
      simpa using this
  rw [lett_eq, e, obind_val]
  exact gcR_self
theorem piece_bad {t : Bytes} {a : Int} (hb : a < 0 ∨ a > t.length) : world n (d + 2) 10 [strA t, .int .i64 a] h = some (.ret (.tup [strA [], .int .i64 5]), h) := by
  rw [w_snap_Piece]
  unfold snap_Piece
  refine (congrArg (gcR h) ?_).trans gcR_self
  rw [lett_eq]
  refine lett_gen fun j13 hj => ?_
  have k : j13 true h = some (.ret (.tup [strA [], .int .i64 5]), h) := by rw [hj]; rfl
  by_cases h1 : a < 0
  · rw [decide_eq_true h1, ifB_true]
    exact k
  · rw [decide_eq_false h1, ifB_false, lett_eq, lenS_nat, decide_eq_true (by omega)]
    exact k
theorem piece_ok {t : Bytes} {a : Nat} (ha : a ≤ t.length) : world n (d + 2) 10 [strA t, .int .i64 (a : Int)] h = some (.ret (.tup [strA ((t.drop a).take 2048), .int .i64 0]), h) := by
  rw [w_snap_Piece]
  unfold snap_Piece
  refine (congrArg (gcR h) ?_).trans gcR_self
  rw [lett_eq]
  refine lett_gen fun j13 hj => ?_
  rw [decide_eq_false (show ¬ (a : Int) < 0 by omega), ifB_false, lett_eq, lenS_nat, decide_eq_false (show ¬ (a : Int) > (t.length : Int) by omega), hj]
  show ifB false _ _ = _
  rw [ifB_false, lenS_nat, sliceS_nat ha (Nat.le_refl _), obind_val, List.take_of_length_le (show (t.drop a).length ≤ t.length - a by rw [List.length_drop]; omega), chunk_w, callN_ret, avStr_str, obind_val]
theorem inbox_w : world n (d + 1) 11 [] h = some (.ret (newP h), newH h 98 [.int .i64 0, .int .i64 0, .int .i64 0, .nsl]) := by
  rw [w_snap_NewInbox]
  unfold snap_NewInbox
  rw [box_agg rfl, outK_val]
  exact gcR_some (blt_self _)
end
theorem slc_one {N sz : Nat} {h : AHeap} {x : AV} {ls : List (List AV)} (hs : Slc N h sz x ls) : x.one = true := by
  rcases hs.2 with ⟨_, rfl | rfl⟩ | ⟨b, _, _, rfl, _⟩ <;> rfl
set_option maxRecDepth 100000 in
theorem cells35 : Try.prog.cellsOf 35 = 22 := by kernel_rfl
set_option maxRecDepth 100000 in
theorem msgs_of {h : AHeap} {x : AV} (hp : ArgP Try.prog h.next h 12 47 x) : ∃ ls : List (List AV), Slc h.next h 22 x ls ∧ ls.length * Try.prog.bytesOf 35 ≤ reachBytes ∧ ∀ l ∈ ls, ∃ ix lt at' tot d, Msg l ix lt at' tot d := by
  obtain ⟨ms, hs, hb, h3⟩ := hp.slice Try.underlying47
  rw [cells35] at hs
  refine ⟨ms, hs, hb, fun l hl => ?_⟩
  obtain ⟨ls, rfl, h1, h2⟩ := (h3 l hl).structEach Try.underlying35
  have h1 : ls.length = 21 := h1
  match ls, h1 with
  | [a0, a1, a2, a3, a4, a5, a6, a7, a8, a9, a10, a11, a12, a13, a14, a15, a16, a17, a18, a19, a20], _ =>
    obtain ⟨z0, rfl, _⟩ := (h2 0 _ a0 rfl rfl).int Try.underlying5
    obtain ⟨z1, rfl, _⟩ := (h2 1 _ a1 rfl rfl).int Try.underlying3
    obtain ⟨z2, rfl, _⟩ := (h2 2 _ a2 rfl rfl).int Try.underlying3
    obtain ⟨z3, rfl, _⟩ := (h2 3 _ a3 rfl rfl).int Try.underlying3
    obtain ⟨z4, rfl, _⟩ := (h2 4 _ a4 rfl rfl).int Try.underlying3
    obtain ⟨z5, rfl, _⟩ := (h2 5 _ a5 rfl rfl).int Try.underlying3
    obtain ⟨z6, rfl, _⟩ := (h2 6 _ a6 rfl rfl).int Try.underlying3
    obtain ⟨z7, rfl, _⟩ := (h2 7 _ a7 rfl rfl).int Try.underlying3
    obtain ⟨z8, rfl⟩ := (h2 8 _ a8 rfl rfl).bool Try.underlying4
    obtain ⟨z9, _, rfl, s9, _⟩ := (h2 9 _ a9 rfl rfl).slice Try.underlying31
    obtain ⟨z10, rfl, _⟩ := (h2 10 _ a10 rfl rfl).int Try.underlying3
    obtain ⟨z11, rfl, _⟩ := (h2 11 _ a11 rfl rfl).int Try.underlying3
    obtain ⟨z12, rfl, _⟩ := (h2 12 _ a12 rfl rfl).str Try.underlying9
    obtain ⟨z13, rfl, _⟩ := (h2 13 _ a13 rfl rfl).int Try.underlying3
    obtain ⟨y1, y2, rfl, p1, p2⟩ := (h2 14 _ a14 rfl rfl).struct2 Try.underlying33
    obtain ⟨z14, rfl, _⟩ := p1.int Try.underlying3
    obtain ⟨w14, rfl, _⟩ := p2.int Try.underlying3
    obtain ⟨z15, rfl, _⟩ := (h2 15 _ a15 rfl rfl).int Try.underlying3
    obtain ⟨z16, rfl, _⟩ := (h2 16 _ a16 rfl rfl).int Try.underlying3
    obtain ⟨z17, rfl, _⟩ := (h2 17 _ a17 rfl rfl).int Try.underlying3
    obtain ⟨z18, rfl, _⟩ := (h2 18 _ a18 rfl rfl).int Try.underlying5
    obtain ⟨z19, rfl, _⟩ := (h2 19 _ a19 rfl rfl).int Try.underlying24
    obtain ⟨z20, rfl, _⟩ := (h2 20 _ a20 rfl rfl).int Try.underlying3
    refine ⟨z4, z5, z10, z11, z12, rfl, ?_, rfl, rfl, rfl, rfl, rfl⟩
    have := slc_one s9
    simp only [List.flatten_cons, List.flatten_nil, List.cons_append, List.nil_append, List.append_nil, List.all_cons, List.all_nil, this]
    rfl
def zeros22 : List AV := [.int .u8 0, .int .i64 0, .int .i64 0, .int .i64 0, .int .i64 0, .int .i64 0, .int .i64 0, .int .i64 0, .bool false, .nsl, .int .i64 0, .int .i64 0, .str 0 0, .int .i64 0, .int .i64 0, .int .i64 0, .int .i64 0, .int .i64 0, .int .i64 0, .int .u8 0, .int .i64 0, .int .i64 0]
section
variable {t2 : AV} {ls : List (List AV)} {N : Nat} {h0 : AHeap}
theorem loop1 {t27 : Int} {k14 : Int → AHeap → R} (hs : Slc N h0 22 t2 ls) (hN : N ≤ h0.next) (hm : ∀ l ∈ ls, ∃ ix lt at' tot d, Msg l ix lt at' tot d) (hlen : t27 = (ls.length : Int)) (hbig : ls.length < 4000000000000000000) :
    ∀ (f i : Nat) (t7 : Int) (h : AHeap), ls.length < f + i → i ≤ ls.length → Tch [] h0 h → (∃ h', law19_SnapPieces_L1 t2 t27 k14 f t7 (i : Int) h = some (.ret (.bool true), h')) ∨ ∃ t7' h', law19_SnapPieces_L1 t2 t27 k14 f t7 (i : Int) h = k14 t7' h' ∧ Tch [] h0 h' := by
  intro f
  induction f with
  | zero => intro i t7 h h1 h2; omega
  | succ f ih =>
    intro i t7 h hf hi0 ht
    subst hlen
    rw [law19_SnapPieces_L1_s]
    unfold law19_SnapPieces_L1b
    rw [lett_eq]
    by_cases hi : i < ls.length
    · rw [lt_true (show (i : Int) < (ls.length : Int) by omega), ifB_true]
      obtain ⟨b, hb, e1, e2⟩ := (hs.tch ht hN (by simp)).row hi
      obtain ⟨ix, lt, at', tot, d, M⟩ := hm _ (List.getElem_mem hi)
      have r0 := RowH.new h 35 zeros22
      have ht1 : Tch [] h0 (newH h 35 zeros22) := ht.trans (Tch.newH _ _ _ _)
      obtain ⟨h2, a1, a2, a3, a4, a5⟩ := r0.stAll (n := 22) (vs := ls[i]) M.len rfl M.one
      have c12 := a2.cell' M.f12
      have ht2 : Tch [] h0 h2 := ht1.trans' (tch_of (S := [h.next]) a3 a4 a5 (.inl (by simp))) (by intro b hb; simp at hb; subst hb; exact .inr ht.1)
      rw [e1, obind_val, e2, obind_val, lett_eq]
      change ((∃ h', (obind (stRow (newH h 35 zeros22) 22 ls[i] (.ptr h.next 0)) _) = _) ∨ ∃ t7' h', (obind (stRow (newH h 35 zeros22) 22 ls[i] (.ptr h.next 0)) _) = _ ∧ _)
      rw [a1, obind_val, c12, obind_val, avStr_str, obind_val, lett_eq, lett_eq, lett_eq]
      generalize decide (IntKind.i64.wrap (t7 + (if 262144 < lenS d then 262144 else lenS d)) > 131072) = bb
      cases bb with
      | true => exact .inl ⟨_, rfl⟩
      | false =>
        rw [ifB_false, lett_eq, wrap_succ (by omega)]
        exact ih (i + 1) _ h2 (by omega) (by omega) ht2
    · rw [lt_false (show (ls.length : Int) ≤ (i : Int) by omega), ifB_false]
      exact .inr ⟨t7, h, rfl, ht⟩
end
theorem told_three (s : St) : ∃ (r1 : Int) (r2 : Bytes) (r3 : Bool), told s = [.int .i64 r1, strA r2, .bool r3] := by
  unfold told
  split <;> exact ⟨_, _, _, rfl⟩
section
variable {call : CallF} {n X W lo c : Nat} {h : AHeap} {m : List AV} {ix lt at' tot : Int} {d : Bytes} {s : St}
theorem step (hm : Msg m ix lt at' tot d) (hs : s.ok) (k : InAt lo c X h s) (hX : X < lo) (hXc : X ≠ c) (hlo : lo ≤ h.next) (hex : memB 5 h.ex = false) :
    ∃ (r1 : Int) (r2 : Bytes) (r3 : Bool) (s' : St), s'.ok ∧ (∃ h3 c', snap_Inbox_Put call n (.ptr X 0) m h = some (.ret (.tup [.int .i64 r1, strA r2, .bool r3]), h3) ∧ (c' = c ∨ h.next ≤ c') ∧ InAt lo c' X h3 s' ∧ Ef c X h h3) ∧
      ∀ h3, RowH h3 W 50 (refC s) → W < h3.next → ∃ h4, ref19_Inbox_Put call n (.ptr W 0) m h3 = some (.ret (.tup [.int .i64 r1, strA r2, .bool r3]), h4) ∧ RowH h4 W 50 (refC s') ∧ Tch [W] h3 h4 := by
  by_cases hb : bad ix at' tot
  · refine ⟨0, [], false, s, hs, ⟨_, c, inPut_bad hm hb, .inl rfl, ?_, (Ef.refl c X h).newH _ _⟩, fun h3 k3 h3n => ⟨_, refPut_bad hm hb, k3.tch (Tch.newH [] h3 35 m) h3n (by simp), Tch.newH _ _ _ _⟩⟩
    obtain ⟨cv, k1, k2⟩ := k
    exact ⟨cv, k1.tch (Tch.newH [] h 35 m) (by omega) (by simp), k2.newH _ _⟩
  · obtain ⟨r1, r2, r3, e⟩ := told_three (addT (rst s ix lt tot) at' d)
    obtain ⟨h3, q1, ⟨c', q2, q3⟩, q4⟩ := inPut_good (call := call) (n := n) hm hb hs k hX hXc hlo hex
    rw [e] at q1
    refine ⟨r1, r2, r3, _, addT_ok (rst_ok hs hb), ⟨h3, c', q1, q2, q3, q4⟩, fun h3 k3 h3n => ?_⟩
    obtain ⟨h4, p1, p2, p3⟩ := refPut_good (call := call) (n := n) hm hb hs k3 h3n
    rw [e] at p1
    exact ⟨h4, p1, p2, p3⟩
theorem InAt.pick (k : InAt lo c X h s) (B : Nat) : ∃ c1, InAt lo c1 X h s ∧ ((lo ≤ c1 ∧ c1 < h.next) ∨ c1 = B) := by
  obtain ⟨cv, k1, k2⟩ := k
  rcases k2 with k2 | k2
  · exact ⟨B, ⟨cv, k1, .inl k2⟩, .inr rfl⟩
  · exact ⟨c, ⟨cv, k1, .inr k2⟩, .inl ⟨k2.2.1, k2.2.2.1⟩⟩
end
section
variable {t2 : AV} {ls : List (List AV)} {N X W lo : Nat}
theorem loop2 {n d : Nat} {t88 : Int} {k48 : AHeap → R} (hm : ∀ l ∈ ls, ∃ ix lt at' tot d, Msg l ix lt at' tot d) (hlen : t88 = (ls.length : Int)) (hbig : ls.length < 4000000000000000000) (hNX : N ≤ X) (hNW : N ≤ W) (hX : X < lo) (hW : W < lo) (hXW : X ≠ W) :
    ∀ (f i : Nat) (h : AHeap) (s : St), ls.length < f + i → i ≤ ls.length → Slc N h 22 t2 ls → s.ok → (∃ c, InAt lo c X h s) → RowH h W 50 (refC s) → lo ≤ h.next → memB 5 h.ex = false →
      ∃ h', law19_SnapPieces_L0 (world n (d + 1)) t2 (.ptr X 0) (.ptr W 0) t88 k48 f (i : Int) h = k48 h' := by
  intro f
  induction f with
  | zero => intro i h s h1 h2; omega
  | succ f ih =>
    intro i h s hf hi0 hs hok hin href hlo hex
    have hlen0 := hlen
    subst hlen
    rw [law19_SnapPieces_L0_s]
    unfold law19_SnapPieces_L0b
    rw [lett_eq]
    by_cases hi : i < ls.length
    · rw [lt_true (show (i : Int) < (ls.length : Int) by omega), ifB_true]
      obtain ⟨c0, hin⟩ := hin
      obtain ⟨c, hin, hc⟩ := hin.pick (h.next + lo + 9)
      obtain ⟨b, hb, e1, e2⟩ := hs.row hi
      obtain ⟨ix, lt, at', tot, d', M⟩ := hm _ (List.getElem_mem hi)
      have r0 := RowH.new h 35 zeros22
      have t1 : Tch [] h (newH h 35 zeros22) := Tch.newH _ _ _ _
      obtain ⟨h2, a1, a2, a3, a4, a5⟩ := r0.stAll (n := 22) (vs := ls[i]) M.len rfl M.one
      have hn2 : h2.next = h.next + 1 := a3
      have ht : Tch [] h h2 := t1.trans' (tch_of (S := [h.next]) a3 a4 a5 (.inl (by simp))) (by intro b hb; simp at hb; subst hb; exact .inr (Nat.le_refl _))
      have l2 := a2.ldAll M.len
      have in2 : InAt lo c X h2 s := by
        obtain ⟨cv, k1, k2⟩ := hin
        exact ⟨cv, k1.tch ht (by omega) (by simp), k2.keep (by omega) fun hb _ => ht.2.2 c hb (by simp)⟩
      have ex2 : memB 5 h2.ex = false := by rw [ht.2.1]; exact hex
      obtain ⟨r1, r2, r3, s', hok', ⟨h3, c', q1, q2, q3, q4⟩, hr⟩ := step (call := world n d) (n := n) (W := W) M hok in2 hX (by omega) (by omega) ex2
      have W3 : RowH h3 W 50 (refC s) := (href.tch ht (by omega) (by simp)).same (q4.get W (by omega) (Ne.symm hXW) (by omega))
      have hn3 := q4.next
      obtain ⟨h4, p1, p2, p3⟩ := hr h3 W3 (by omega)
      have l3 : ldRow h3 22 (.ptr h.next 0) = some ls[i] := (a2.same (q4.get h.next (by omega) (by omega) (by omega))).ldAll M.len
      have q1' : world n (d + 1) 12 [.ptr X 0, .agg ls[i]] h2 = some (.ret (.tup [.int .i64 r1, strA r2, .bool r3]), h3) := by rw [w_snap_Inbox_Put]; exact q1
      have p1' : world n (d + 1) 18 [.ptr W 0, .agg ls[i]] h3 = some (.ret (.tup [.int .i64 r1, strA r2, .bool r3]), h4) := by rw [w_ref19_Inbox_Put]; exact p1
      rw [e1, obind_val, e2, obind_val, lett_eq]
      change ∃ h', (obind (stRow (newH h 35 zeros22) 22 ls[i] (.ptr h.next 0)) _) = _
      have eP : newP h = .ptr h.next 0 := rfl
      rw [a1, obind_val]
      simp only [eP, l2, obind_val, q1', callN_ret, extT_0, extT_1, extT_2, avInt_int, avStr_str, avBool_bool, l3, p1']
      simp only [lett_eq, bne_self_eq_false, ifB_false, eqS_eq, beq_self_eq_true, Bool.not_true, wrap_succ (show i + 1 < 9223372036854775808 by omega)]
      have hn4 := p3.1
      refine ih (i + 1) h4 s' (by omega) (by omega) ?_ hok' ⟨c', ?_⟩ p2 (by omega) (by rw [p3.2.1, q4.ex]; exact ex2)
      · refine ((hs.tch ht (by omega) (by simp)).keep (Nat.le_refl _) fun b o hb hg => ?_)
        rw [p3.2.2 b (by omega) (by simp; omega), q4.get b (by omega) (by omega) (by omega)]
        exact hg
      · obtain ⟨cv, k1, k2⟩ := q3
        refine ⟨cv, k1.tch p3 (by omega) (by simp; omega), k2.keep (by omega) fun hb hl => p3.2.2 c' hb (by simp; omega)⟩
    · rw [lt_false (show (ls.length : Int) ≤ (i : Int) by omega), ifB_false]
      exact ⟨h, rfl⟩
end
set_option maxRecDepth 100000 in
theorem bytes35a : Nat.ble 1 (Try.prog.bytesOf 35) = true := by kernel_rfl
theorem one_le {x : Nat} (h : Nat.ble 1 x = true) : 1 ≤ x := Nat.le_of_ble_eq_true h
theorem bytes35 : 1 ≤ Try.prog.bytesOf 35 := one_le bytes35a
theorem ref_new : refC ⟨0, 0, 0, []⟩ = [.int .i64 0, .int .i64 0, .int .i64 0, .str 0 0] := rfl
set_option maxRecDepth 100000 in
/-- the law of pieces -/
theorem snapPieces_says (h : AHeap) (hX : h.ex = [89]) (xs : List AV) (hP : ArgsP Try.prog h.next h 12 [9, 3, 47] xs) : ∃ h', Says Try.prog 4 xs h (.ret (.bool true)) h' := by
  obtain ⟨_, _, rfl, hp0, hP⟩ := args_cons hP
  obtain ⟨_, _, rfl, hp1, hP⟩ := args_cons hP
  obtain ⟨x, _, rfl, hp2, hP⟩ := args_cons hP
  obtain rfl := args0 hP
  obtain ⟨t, rfl, htl⟩ := hp0.str Try.underlying9
  obtain ⟨a, rfl, _⟩ := hp1.int Try.underlying3
  obtain ⟨ls, hs, hb, hmm⟩ := msgs_of hp2
  have hbig : ls.length < 4000000000000000000 := by
    have h1 := bytes35
    generalize Try.prog.bytesOf 35 = B at hb h1
    have h2 : ls.length ≤ ls.length * B := Nat.le_mul_of_pos_right _ h1
    have h3 : reachBytes = 140737488351232 := rfl
    omega
  obtain ⟨n, hn⟩ : ∃ n, n = ls.length + 5 := ⟨_, rfl⟩
  have key : ∃ h', world n 4 4 [strA t, .int .i64 a, x] h = some (.ret (.bool true), h') := by
    rw [w_law19_SnapPieces]
    unfold law19_SnapPieces
    rw [works_w, callK_ret, avBool_bool, obind_val, lett_eq, Bool.not_true, ifB_false, hs.len, obind_val]
    suffices hK : ∀ k14, k14 = _ → ∃ h', law19_SnapPieces_L1 x (ls.length : Int) k14 n (lenS t) ((0 : Nat) : Int) h = some (.ret (.bool true), h') from hK _ rfl
    intro k14 hk14
    rcases loop1 (k14 := k14) hs (Nat.le_refl _) hmm rfl hbig n 0 (lenS t) h (by omega) (by omega) (Tch.refl _ _) with hl | ⟨t7, h1, hl, ht1⟩
    · exact hl
    · rw [hl, hk14]
      have hn1 := ht1.1
      have toE : ∀ x : R, Ends x (.bool true) (fun _ => True) → ∃ h', x = some (.ret (.bool true), h') := fun x ⟨h', e, _⟩ => ⟨h', e⟩
      refine toE _ ?_
      show Ends (lett (decide (t7 > 131072)) _) _ _
      rw [lett_eq]
      refine Ends.lett fun j47 hj47 => ?_
      have k47 : ∀ b, Ends (j47 b h1) (.bool true) (fun _ => True) := by
        intro b
        rw [hj47]
        cases b with
        | true => exact ⟨h1, rfl, trivial⟩
        | false =>
          show Ends (ifB false _ _) _ _
          rw [ifB_false]
          have K : ∀ k37 : AHeap → R, k37 = (fun h_38 => callN (world n 3 11 [] h_38) fun r84 h_40 => outK (opBox h_40 50 (some (.agg ([.int .i64 0, .int .i64 0, .int .i64 0, .str 0 0] : List AV)))) fun v86 h_42 => lett (fun (h_49 : AHeap) => (some (.ret (.bool true), h_49) : R)) fun k48 => law19_SnapPieces_L0 (world n 3) x r84 v86 (ls.length : Int) k48 n 0 h_42) → Ends (k37 h1) (.bool true) (fun _ => True) := by
            intro k37 hk37
            rw [hk37]
            show Ends (callN (world n 3 11 [] h1) _) _ _
            rw [inbox_w, callN_ret, box_agg rfl, outK_val]
            refine Ends.lett fun k48 hk48 => ?_
            have tA : Tch [] h (newH h1 98 [.int .i64 0, .int .i64 0, .int .i64 0, .nsl]) := ht1.trans (Tch.newH _ _ _ _)
            have rA := RowH.new h1 98 [.int .i64 0, .int .i64 0, .int .i64 0, .nsl]
            have nA : (newH h1 98 [.int .i64 0, .int .i64 0, .int .i64 0, .nsl]).next = h1.next + 1 := rfl
            have pA : newP h1 = .ptr h1.next 0 := rfl
            generalize newH h1 98 [.int .i64 0, .int .i64 0, .int .i64 0, .nsl] = hA at *
            have tB1 : Tch [] hA (newH hA 50 [.int .i64 0, .int .i64 0, .int .i64 0, .str 0 0]) := Tch.newH _ _ _ _
            have rB := RowH.new hA 50 [.int .i64 0, .int .i64 0, .int .i64 0, .str 0 0]
            have nB : (newH hA 50 [.int .i64 0, .int .i64 0, .int .i64 0, .str 0 0]).next = hA.next + 1 := rfl
            have pB : newP hA = .ptr hA.next 0 := rfl
            generalize newH hA 50 [.int .i64 0, .int .i64 0, .int .i64 0, .str 0 0] = hB at *
            have tB := tA.trans tB1
            rw [pA, pB]
            obtain ⟨h', e⟩ := loop2 (n := n) (d := 2) (k48 := k48) (t2 := x) (N := h.next) (X := h1.next) (W := hA.next) (lo := hB.next) hmm rfl hbig (by omega) (by omega) (by omega) (by omega) (by omega) n 0 hB ⟨0, 0, 0, []⟩ (by omega) (by omega) (hs.tch tB (Nat.le_refl _) (by simp))
              ⟨Int.le_refl _, by decide⟩ ⟨0, .nsl, rA.tch tB1 (by omega) (by simp), .inl ⟨rfl, rfl⟩⟩ (by rw [ref_new]; exact rB) (Nat.le_refl _) (by rw [tB.2.1, hX]; rfl)
            rw [show ((0 : Int)) = ((0 : Nat) : Int) from rfl, e, hk48]
            exact ⟨h', rfl, trivial⟩
          by_cases hbad : a < 0 ∨ a > t.length
          · rw [piece_bad hbad, callN_ret]
            simp only [extT_0, extT_1, obind_val, avStr_str, avInt_int]
            rw [lett_eq]
            refine Ends.lett fun j62 hj62 => ?_
            have kk : Ends (j62 true h1) (.bool true) (fun _ => True) := by
              rw [hj62]
              refine Ends.lett fun k37 hk37 => ?_
              rw [ifB_true, eqS_eq, beq_self_eq_true, Bool.not_true, lett_eq]
              refine Ends.lett fun j68 hj68 => ?_
              rw [ifB_false, lett_eq, show ((5 : Int) != 5) = false from rfl, hj68]
              show Ends (ifB false _ _) _ _
              rw [ifB_false]
              exact K k37 hk37
            by_cases h0 : a < 0
            · rw [decide_eq_true h0, ifB_true]
              exact kk
            · rw [decide_eq_false h0, ifB_false, lett_eq, lenS_nat, decide_eq_true (show a > (t.length : Int) by omega)]
              exact kk
          · obtain ⟨p, rfl⟩ := Int.eq_ofNat_of_zero_le (show 0 ≤ a by omega)
            have hp : p ≤ t.length := by omega
            have h3 : reachBytes = 140737488351232 := rfl
            rw [piece_ok hp, callN_ret]
            simp only [extT_0, extT_1, obind_val, avStr_str, avInt_int]
            rw [lett_eq]
            refine Ends.lett fun j62 hj62 => ?_
            rw [decide_eq_false (show ¬ (p : Int) < 0 by omega), ifB_false, lett_eq, lenS_nat, decide_eq_false (show ¬ (p : Int) > (t.length : Int) by omega), hj62]
            refine Ends.lett fun k37 hk37 => ?_
            rw [ifB_false, lett_eq]
            refine Ends.lett fun j83 hj83 => ?_
            have ew : IntKind.i64.wrap ((p : Int) + 2048) = ((p + 2048 : Nat) : Int) := by rw [wrap_i64 (by omega) (by omega)]; omega
            have es : sliceS t (p : Int) (if (t.length : Int) < ((p + 2048 : Nat) : Int) then (t.length : Int) else ((p + 2048 : Nat) : Int)) = some ((t.drop p).take 2048) := by
              split
              · rw [sliceS_nat hp (Nat.le_refl _)]
                rw [List.take_of_length_le (show (t.drop p).length ≤ t.length - p by rw [List.length_drop]; omega), List.take_of_length_le (show (t.drop p).length ≤ 2048 by rw [List.length_drop]; omega)]
              · rw [sliceS_nat (by omega) (by omega), show p + 2048 - p = 2048 by omega]
            rw [show ((0 : Int) != 0) = false from rfl, ifB_false, lett_eq, ew, lett_eq, lenS_nat, es, obind_val, eqS_eq, beq_self_eq_true, Bool.not_true, lett_eq, hj83]
            show Ends (ifB false _ _) _ _
            rw [ifB_false]
            exact K k37 hk37
      cases decide (t7 > 131072) with
      | true => rw [ifB_true]; exact k47 true
      | false =>
        rw [ifB_false, obind_val, lett_eq]
        exact k47 _
  obtain ⟨h', hk⟩ := key
  exact ⟨h', world_ok _ _ _ _ _ _ _ hk⟩
end Go.Proofs.Ytpnccmlajhhpdaa
