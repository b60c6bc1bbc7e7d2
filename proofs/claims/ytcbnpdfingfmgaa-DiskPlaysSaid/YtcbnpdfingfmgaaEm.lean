/- The document's disk: states, changes, what is seen. -/
import Derived.Test.YtcbnpdfingfmgaaEi
namespace Go.Proofs.Ytcbnpdfingfmgaa
open Go.RowKit Abs
abbrev TSt : Nat := 70
abbrev TFi : Nat := 73
abbrev TRD : Nat := 76
abbrev TCr : Nat := 79
abbrev TCrs : Nat := 71
noncomputable def contC (x : Cont) : List AV := [.bool x.th, strA x.u]
noncomputable def chgR (c : Chg) : List AV := [.int .i64 ((c.k : Int) + 1), strA c.s, .int .i64 c.n]
def doR (x : Cont) (c : Chg) : Cont := if c.k = 0 then ⟨true, x.u ++ c.s⟩ else if c.k = 1 then ⟨true, x.u.take c.n.toNat⟩ else ⟨false, []⟩
def LegalT : Cont → List Chg → Prop
  | _, [] => True
  | x, c :: l => (c.k = 1 → x.th = true) ∧ LegalT (do1 x c) l
theorem doR_eq {x : Cont} {c : Chg} (h : c.k = 1 → x.th = true) : doR x c = do1 x c := by
  unfold doR do1
  split
  · rfl
  · split
    · rename_i h1
      rw [h h1]
    · rfl
theorem LegalT_snoc : ∀ (l : List Chg) (x : Cont) (c : Chg), LegalT x l → (c.k = 1 → (doL x l).th = true) → LegalT x (l ++ [c])
  | [], _, _, _, h => ⟨h, trivial⟩
  | a :: l, x, c, h1, h2 => ⟨h1.1, LegalT_snoc l (do1 x a) c h1.2 h2⟩
theorem LegalT_at : ∀ (l : List Chg) (x : Cont) (i : Nat) (hi : i < l.length), LegalT x l → (l[i].k = 1 → (doL x (l.take i)).th = true)
  | [], _, _, hi, _ => absurd hi (Nat.not_lt_zero _)
  | _ :: _, _, 0, _, h => h.1
  | a :: l, x, i + 1, hi, h => LegalT_at l (do1 x a) i (Nat.lt_of_succ_lt_succ hi) h.2
theorem Legal_at : ∀ (l : List Chg) (x : Cont) (i : Nat) (hi : i < l.length), Legal x l → legal (doL x (l.take i)) l[i]
  | [], _, _, hi, _ => absurd hi (Nat.not_lt_zero _)
  | _ :: _, _, 0, _, h => h.1
  | a :: l, x, i + 1, hi, h => Legal_at l (do1 x a) i (Nat.lt_of_succ_lt_succ hi) h.2
section
variable {n d : Nat} {h : AHeap} {x : Cont} {c : Chg}
theorem done_r (hL : legal x c) (hb : x.u.length + c.s.length ≤ 1000000000) : world n (d + 1) 45 [.agg (contC x), .agg (chgR c)] h = some (.ret (.agg (contC (doR x c))), h) := by
  apply Wp.eq
  rw [w_ref04_Done]
  refine Wp.gc ?_
  suffices hK : Wp (ref04_Done (world n d) n (contC x) (chgR c) h) fun r h' => r = .ret (.agg (contC (doR x c))) ∧ Tch [] h h' from hK.mono fun r h' ⟨e, t⟩ => ⟨t.above, by rw [e]; rfl, e, rfl⟩
  unfold ref04_Done
  refine Wp.mbox (Mem.nil [] h) rfl fun h2 M2 => Wp.mbox M2 rfl fun h3 M3 => Wp.mnew M3 fun h4 M4 => ?_
  have g0 : (chgR c)[0]? = some (.int .i64 ((c.k : Int) + 1)) := rfl
  have g1 : (chgR c)[1]? = some (strA c.s) := rfl
  have g2 : (chgR c)[2]? = some (.int .i64 c.n) := rfl
  have q1 : (contC x)[1]? = some (strA x.u) := rfl
  refine Wp.obind (fldP_ptr _ _ _) (Wp.ld1 M4 g0 (Wp.obind (avInt_int _ _) (Wp.lett ?_)))
  rcases hL with h0 | ⟨h1, hc0, hc1⟩ | h2
  · have e : doR x c = ⟨true, x.u ++ c.s⟩ := if_pos h0
    rw [e]
    refine Wp.ift (beq_t (by omega)) (Wp.obind (fldP_ptr _ _ _) (Wp.ld2 M4 q1 (Wp.obind (avStr_str _) (Wp.obind (fldP_ptr _ _ _) (Wp.ld1 M4 g1 (Wp.obind (avStr_str _) (Wp.obind (addS_val hb) ?_)))))))
    rw [newP_eq]
    refine Wp.sa0 M4 rfl rfl rfl fun h5 M5 => Wp.lr0 M5 rfl ?_
    exact Wp.ret ⟨rfl, M5.tch⟩
  · have e : doR x c = ⟨true, x.u.take c.n.toNat⟩ := by
      unfold doR
      rw [if_neg (by omega), if_pos h1]
    rw [e]
    have hsl := sliceS_int (l := x.u) (a := 0) (b := c.n) (Int.le_refl _) hc0 hc1
    rw [show (0 : Int).toNat = 0 from rfl, List.drop_zero, Nat.sub_zero] at hsl
    refine Wp.iff (beq_f (by omega)) (Wp.lett (Wp.ift (beq_t (by omega)) ?_))
    refine Wp.obind (fldP_ptr _ _ _) (Wp.ld2 M4 q1 (Wp.obind (avStr_str _) (Wp.obind (fldP_ptr _ _ _) (Wp.ld1 M4 g2 (Wp.obind (avInt_int _ _) (Wp.obind hsl ?_))))))
    rw [newP_eq]
    refine Wp.sa0 M4 rfl rfl rfl fun h5 M5 => Wp.lr0 M5 rfl ?_
    exact Wp.ret ⟨rfl, M5.tch⟩
  · have e : doR x c = ⟨false, []⟩ := by
      unfold doR
      rw [if_neg (by omega), if_neg (by omega)]
    rw [e]
    refine Wp.iff (beq_f (by omega)) (Wp.lett (Wp.iff (beq_f (by omega)) ?_))
    rw [newP_eq]
    refine Wp.sa0 M4 rfl rfl rfl fun h5 M5 => Wp.lr0 M5 rfl ?_
    exact Wp.ret ⟨rfl, M5.tch⟩
end
/-- loose changes as the document has them -/
def RL (h : AHeap) (v : AV) (l : List Chg) : Prop := (v = .nsl ∧ l = []) ∨ ∃ b, v = .sl b 0 l.length 3 ∧ l ≠ [] ∧ RowH h b TCr (l.map chgR).flatten ∧ b < h.next
theorem chgsR_len (l : List Chg) : (l.map chgR).flatten.length = l.length * 3 := by
  have := len_same (sz := 3) (l.map chgR) (fun r hr => by
    obtain ⟨c, _, rfl⟩ := List.mem_map.1 hr
    rfl)
  rw [List.length_map] at this
  exact this
theorem chgsR_one (l : List Chg) : (l.map chgR).flatten.all AV.one = true := by
  rw [List.all_eq_true]
  intro x hx
  obtain ⟨r, hr, hxr⟩ := List.mem_flatten.1 hx
  obtain ⟨c, _, rfl⟩ := List.mem_map.1 hr
  rcases List.mem_cons.1 hxr with rfl | hxr
  · rfl
  · rcases List.mem_cons.1 hxr with rfl | hxr
    · rfl
    · rw [List.mem_singleton.1 hxr]
      rfl
section
variable {h h' : AHeap} {v : AV} {l : List Chg}
theorem RL.tch {S : List Nat} (k : RL h v l) (t : Tch S h h') (hS : ∀ b ∈ blkV v, b ∉ S) : RL h' v l := by
  rcases k with k | ⟨c, rfl, h1, h2, h3⟩
  · exact .inl k
  · exact .inr ⟨c, rfl, h1, h2.tch t h3 (hS c (List.mem_singleton.2 rfl)), Nat.lt_of_lt_of_le h3 t.1⟩
theorem RL.len (k : RL h v l) : lenL v = some (l.length : Int) := by
  rcases k with ⟨rfl, rfl⟩ | ⟨c, rfl, _⟩ <;> rfl
theorem RL.lt (k : RL h v l) : ∀ b ∈ blkV v, b < h.next := by
  rcases k with ⟨rfl, _⟩ | ⟨c, rfl, _, _, h3⟩
  · exact fun b hb => (nomatch hb)
  · intro b hb
    rw [List.mem_singleton.1 hb]
    exact h3
theorem RL.at (k : RL h v l) {i : Nat} (hi : i < l.length) : ∃ b o, blkV v = [b] ∧ idxP 3 v (i : Int) = some (.ptr b o) ∧ ldRow h 3 (.ptr b o) = some (chgR l[i]) ∧ ldCell h (.ptr b o) = some (.int .i64 ((l[i].k : Int) + 1)) ∧ ldCell h (.ptr b (o + 1)) = some (strA l[i].s) := by
  rcases k with ⟨rfl, rfl⟩ | ⟨b, rfl, h1, h2, h3⟩
  · exact absurd hi (Nat.not_lt_zero _)
  · have hl := chgsR_len l
    have hp := flat_part (sz := 3) (l.map chgR) i (by rw [List.length_map]; exact hi) (fun r hr => by
      obtain ⟨c, _, rfl⟩ := List.mem_map.1 hr
      rfl)
    have e : ((l.map chgR).flatten.drop (0 + i * 3)).take 3 = chgR l[i] := by
      rw [Nat.zero_add, hp, List.getElem_map]
    have hg : ∀ j, j < 3 → (l.map chgR).flatten[0 + i * 3 + j]? = (chgR l[i])[j]? := fun j hj => by
      rw [← e, List.getElem?_take_of_lt hj, List.getElem?_drop]
    refine ⟨b, 0 + i * 3, rfl, idx3 hi, ?_, RowH.cell' h2 (hg 0 (by decide)), RowH.cell' h2 (hg 1 (by decide))⟩
    rw [h2.ld (by omega), e]
theorem fitChR : fitB Try.prog TCr 32 = true := by kernel_rfl
theorem bldSlR (h : AHeap) (k : Int) (s : Bytes) (n : Int) : bldSl Try.prog h TCrs 1 [(0, .agg [.int .i64 k, strA s, .int .i64 n])] = outNewS h TCr [.int .i64 k, strA s, .int .i64 n] 1 3 := by kernel_rfl
/-- a list of its own -/
theorem RL.copy (k : RL h v l) (hm : l.length < 20000000) (hx : h.ex = []) : ∃ v' h', opAppend Try.prog h TCrs TCrs .nsl v = some (.val v', h') ∧ RL h' v' l ∧ Tch [] h h' ∧ ∀ b ∈ blkV v', h.next ≤ b := by
  have he : Abs.elemOf Try.prog TCrs = some TCr := by kernel_rfl
  have hu : notInt Try.prog TCrs = true := by kernel_rfl
  have hsz : Try.prog.cellsOf TCr = 3 := by kernel_rfl
  have hex : memB TCr h.ex = false := by rw [hx]; rfl
  rcases k with ⟨rfl, rfl⟩ | ⟨b, rfl, h1, h2, h3⟩
  · refine ⟨.nsl, h, ?_, .inl ⟨rfl, rfl⟩, Tch.refl _ _, fun _ h => (nomatch h)⟩
    have hfit := bytesFit_of (P := Try.prog) (e := TCr) (B := 32) (k := 0 + 0) fitChR (by omega) (by omega)
    have hf : firstA h 3 0 .nsl = some [] := rfl
    have hl : lenA .nsl = some 0 := rfl
    unfold notInt at hu
    unfold opAppend
    split at hu
    · cases hu
    · rename_i ud hni heq
      simp only [he, hl, heq, hsz, hf, hfit, hex, List.all_nil, and_self, if_true]
      rfl
    · cases hu
  · obtain ⟨m, hm2⟩ : ∃ m, l.length = m + 1 := by
      cases l with
      | nil => exact absurd rfl h1
      | cons a t => exact ⟨t.length, rfl⟩
    have hl := chgsR_len l
    have hf : firstA h 3 (m + 1) (.sl b 0 l.length 3) = some (l.map chgR).flatten := by
      rw [firstA_of_row (by omega)]
      have := h2.part (o := 0) (n := (l.map chgR).flatten.length) (by omega)
      rw [List.drop_zero, List.take_length] at this
      rw [show (m + 1) * 3 = (l.map chgR).flatten.length by omega]
      exact this
    have a1 := append_new (P := Try.prog) (h := h) (t := TCrs) (u := TCrs) (n := m) (x := .sl b 0 l.length 3) he hu hsz (by rw [hm2]; rfl) hf (bytesFit_of fitChR (by omega) (by omega)) (chgsR_one l) hex
    refine ⟨_, _, a1, .inr ⟨h.next, by rw [hm2], h1, RowH.new _ _ _, Nat.lt_succ_self _⟩, Tch.newH _ _ _ _, fun b hb => by rw [List.mem_singleton.1 hb]; exact Nat.le_refl _⟩
theorem RL.push {b1 : Nat} {c : Chg} (k : RL h v l) (kr : RowH h b1 TCr (chgR c)) (hm : l.length < 20000000) (hx : h.ex = []) :
    ∃ h', opAppend Try.prog h TCrs TCrs v (.sl b1 0 1 3) = some (.val (.sl h.next 0 (l.length + 1) 3), h') ∧ RL h' (.sl h.next 0 (l.length + 1) 3) (l ++ [c]) ∧ Tch (blkV v) h h' := by
  have he : Abs.elemOf Try.prog TCrs = some TCr := by kernel_rfl
  have hu : notInt Try.prog TCrs = true := by kernel_rfl
  have hsz : Try.prog.cellsOf TCr = 3 := by kernel_rfl
  have hex : memB TCr h.ex = false := by rw [hx]; rfl
  have eb : ((l ++ [c]).map chgR).flatten = (l.map chgR).flatten ++ chgR c := by
    rw [List.map_append, List.flatten_append]
    show _ ++ (chgR c ++ []) = _
    rw [List.append_nil]
  have el : l.length + 1 = (l ++ [c]).length := by rw [List.length_append, List.length_singleton]
  have hne : l ++ [c] ≠ [] := by
    intro h
    have := congrArg List.length h
    rw [List.length_append, List.length_singleton] at this
    exact absurd this (Nat.succ_ne_zero _)
  rcases k with ⟨rfl, rfl⟩ | ⟨b, rfl, h1, h2, h3⟩
  · have a1 := append_new (P := Try.prog) (h := h) (t := TCrs) (u := TCrs) (n := 0) (x := .sl b1 0 1 3) he hu hsz rfl (firstRow kr rfl) (bytesFit_of fitChR (by omega) (by omega)) rfl hex
    refine ⟨_, a1, .inr ⟨h.next, by rw [el], hne, ?_, Nat.lt_succ_self _⟩, Tch.newH _ _ _ _⟩
    rw [eb]
    exact RowH.new _ _ _
  · have hcl := chgsR_len l
    have a1 := append_more (P := Try.prog) (h := h) (t := TCrs) (u := TCrs) (b := b) (o := 0) (m := l.length) (n := 0) (x := .sl b1 0 1 3) (cs := (l.map chgR).flatten) he hu hsz rfl (firstRow kr rfl) (bytesFit_of fitChR (by omega) (by omega)) rfl hex (by
      have := h2.part (o := 0) (n := (l.map chgR).flatten.length) (by omega)
      rw [List.drop_zero, List.take_length] at this
      rw [show l.length * 3 = (l.map chgR).flatten.length by omega]
      exact this) h2.type
    refine ⟨_, a1, .inr ⟨h.next, by rw [el], hne, ?_, Nat.lt_succ_self _⟩, (Tch.put (S := [b]) (.inl (List.mem_singleton.2 rfl)) _).trans (Tch.newH _ _ _ _)⟩
    rw [eb]
    exact RowH.new (h.put b .dead) _ _
end
/-- what is seen of a file -/
def SeenOk (x : Cont) (l : List Chg) (B : Nat) : Prop := Legal x l ∧ LegalT x l ∧ x.u.length + sumL l ≤ B ∧ l.length ≤ B
section
variable {n d B : Nat} {h : AHeap} {x : Cont} {l : List Chg} {v : AV}
theorem doL_take (x : Cont) (l : List Chg) {i : Nat} (hi : i < l.length) : doL x (l.take (i + 1)) = do1 (doL x (l.take i)) l[i] := by
  rw [List.take_succ_eq_append_getElem hi, doL_snoc]
theorem seen_loop (ok : SeenOk x l B) (hB : B < 1000000) (rl : RL h v l) {h4 : AHeap} {b1 b2 : Nat} {k16 : AHeap → R} {Q : ARes → AHeap → Prop} {y2 : List AV}
    (hk : ∀ H, Abs.Mem [] h H [(h4.next, TSt, contC (doL x l)), (b2, TSt, y2), (b1, TFi, contC x ++ [v])] → Wp (k16 H) Q) :
    ∀ (r i fu : Nat) (H : AHeap), r + i = l.length → r < fu → Abs.Mem [] h H [(h4.next, TSt, contC (doL x (l.take i))), (b2, TSt, y2), (b1, TFi, contC x ++ [v])] → Wp (ref04_Seen_L0 (world n (d + 1)) (.ptr b1 0) h4 k16 fu (i : Int) H) Q
  | _, _, 0, _, _, hf, _ => by omega
  | 0, i, fu + 1, H, hi, _, M => by
    rw [ref04_Seen_L0_s]
    unfold ref04_Seen_L0b
    refine Wp.obind (fldP_ptr _ _ _) (Wp.ld2 M (show (contC x ++ [v])[2]? = some v from rfl) (Wp.obind rl.len (Wp.lett (Wp.iff (by rw [decide_eq_false_iff_not]; omega) ?_))))
    rw [List.take_of_length_le (by omega)] at M
    exact hk H M
  | r + 1, i, fu + 1, H, hi, hf, M => by
    have hil : i < l.length := by omega
    obtain ⟨o1, o2, o3, o4⟩ := ok
    have hst := sumL_at l i hil
    have hdl := doL_len (l.take i) x
    obtain ⟨b, o, hb, i1, r1, _⟩ := (rl.tch M.tch (fun _ _ h => (nomatch h))).at hil
    rw [ref04_Seen_L0_s]
    unfold ref04_Seen_L0b
    refine Wp.obind (fldP_ptr _ _ _) (Wp.ld2 M (show (contC x ++ [v])[2]? = some v from rfl) (Wp.obind rl.len (Wp.lett (Wp.ift (by rw [decide_eq_true_eq]; omega) ?_))))
    rw [newP_eq]
    refine Wp.lr0 M rfl (Wp.obind (fldP_ptr _ _ _) (Wp.ld2 M (show (contC x ++ [v])[2]? = some v from rfl) (Wp.obind i1 (Wp.obind r1 ?_))))
    refine Wp.callN (done_r (n := n) (d := d) (Legal_at l x i hil o1) (by omega)) (Wp.obind (avAgg_agg _) ?_)
    refine Wp.sa0 M rfl rfl rfl fun h5 M5 => Wp.lettw (by omega) (by omega) ?_
    rw [doR_eq (LegalT_at l x i hil o2), ← doL_take x l hil] at M5
    rw [show (i : Int) + 1 = ((i + 1 : Nat) : Int) by omega]
    exact seen_loop ⟨o1, o2, o3, o4⟩ hB rl hk r (i + 1) fu h5 (by omega) (by omega) M5
theorem seen_r (hn : 1000000 < n) (ok : SeenOk x l B) (hB : B < 1000000) (rl : RL h v l) : world n (d + 2) 44 [.agg (contC x ++ [v])] h = some (.ret (.agg (contC (doL x l))), h) := by
  apply Wp.eq
  rw [w_ref04_Seen]
  refine Wp.gc ?_
  suffices hK : Wp (ref04_Seen (world n (d + 1)) n (contC x ++ [v]) h) fun r h' => r = .ret (.agg (contC (doL x l))) ∧ Tch [] h h' from hK.mono fun r h' ⟨e, t⟩ => ⟨t.above, by rw [e]; rfl, e, rfl⟩
  unfold ref04_Seen
  have hv : v.one = true := by rcases rl with ⟨rfl, _⟩ | ⟨b, rfl, _⟩ <;> rfl
  have hall : (contC x ++ [v]).all AV.one = true := by
    show (true && (true && (v.one && true))) = true
    rw [hv]
    rfl
  refine Wp.mbox (Mem.nil [] h) hall fun h2 M2 => Wp.mnew M2 fun h4 M4 => ?_
  have hr : ∀ H, Abs.Mem [] h H [(h2.next, TSt, [AV.bool false, AV.str 0 0]), (h.next, TFi, contC x ++ [v])] → ldRow H 2 (.ptr h.next 0) = some (contC x) := fun H M => by
    have := M.at1.1.ld (o := 0) (n := 2) (by show 2 ≤ 3; decide)
    exact this
  refine Wp.obind (fldP_ptr _ _ _) (Wp.obind (hr _ M4) (Wp.mnew M4 fun h5 M5 => ?_))
  rw [newP_eq, newP_eq]
  refine Wp.sa0 M5 rfl rfl rfl fun h6 M6 => Wp.lettG fun k16 ek => ?_
  obtain ⟨_, _, _, o4⟩ := id ok
  refine seen_loop (h4 := h4) (b1 := h.next) (b2 := h2.next) ok hB rl (fun H M => ?_) l.length 0 n h6 (Nat.add_zero _) (by omega) M6
  rw [ek]
  refine Wp.lr0 M rfl (Wp.sa1 M rfl rfl rfl fun h7 M7 => Wp.lr1 M7 rfl ?_)
  exact Wp.ret ⟨rfl, M7.tch⟩
end
end Go.Proofs.Ytcbnpdfingfmgaa
