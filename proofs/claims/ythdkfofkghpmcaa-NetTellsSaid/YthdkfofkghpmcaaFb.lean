/- Nets: a net's row; links. -/
import Derived.Test.YthdkfofkghpmcaaFa
namespace Go.Proofs.Ythdkfofkghpmcaa
open Go.RowKit Abs
structure NS where
  ls : List Lt
  last : Nat
  cuts : List (Int × Int)
structure NetD (lo : Nat → Prop) (h : AHeap) (nb : Nat) (fv : AV) (mb : Nat) (s : NS) : Prop where
  row : RowH h nb TNet [fv, .int .i64 (s.last : Int), .mp mb]
  hnb : nb < h.next
  fl : LAt h fv s.ls
  mp : h.get mb = some (.map (esOf s.cuts))
  hmb : mb < h.next
  l1 : lo nb
  l2 : lo mb
  l3 : ∀ b ∈ blkV fv, lo b
  nw : ∀ b, h.next ≤ b → lo b
  ex : h.ex = []
  srt : s.ls.Pairwise fun x y => x.id < y.id
  bnd : ∀ l ∈ s.ls, 1 ≤ l.id ∧ l.id ≤ (s.last : Int)
  len : s.ls.length ≤ 256
  big : s.last ≤ 1000000
def NetAt (lo : Nat → Prop) (h : AHeap) (nb : Nat) (s : NS) : Prop := ∃ fv mb, NetD lo h nb fv mb s
def shr (lo : Nat → Prop) (a b : Nat) : Nat → Prop := fun i => lo i ∧ (i < a ∨ b ≤ i)
theorem map_tch {S : List Nat} {h h' : AHeap} {b : Nat} {o : AObj} (t : Tch S h h') (k : h.get b = some o) (hb : b < h.next) (hS : b ∉ S) : h'.get b = some o := by
  rw [t.2.2 b hb hS]
  exact k
section
variable {lo : Nat → Prop} {n d nb mb : Nat} {h h' : AHeap} {fv : AV} {s : NS}
theorem NetD.ne1 (K : NetD lo h nb fv mb s) : nb ≠ mb := RowH.ne_map K.row K.mp
theorem NetD.ne2 (K : NetD lo h nb fv mb s) : ∀ b ∈ blkV fv, b ≠ nb ∧ b ≠ mb := by
  intro b hb
  rcases K.fl with ⟨e, _⟩ | ⟨c, rest, e, k, _⟩
  · rw [e] at hb
    exact nomatch hb
  · rw [e] at hb
    obtain rfl := List.mem_singleton.1 hb
    exact ⟨RowH.ne k K.row (by decide), RowH.ne_map k K.mp⟩
theorem NetD.tch {S : List Nat} (K : NetD lo h nb fv mb s) (t : Tch S h h') (hS : ∀ b ∈ S, ¬ lo b ∨ h.next ≤ b) : NetD lo h' nb fv mb s := by
  have out : ∀ b, lo b → b < h.next → b ∉ S := fun b h1 h2 h3 => by
    rcases hS b h3 with h | h
    · exact h h1
    · omega
  exact ⟨K.row.tch t K.hnb (out _ K.l1 K.hnb), Nat.lt_of_lt_of_le K.hnb t.1, K.fl.tch t fun b hb => out b (K.l3 b hb) (K.fl.lt b hb), map_tch t K.mp K.hmb (out _ K.l2 K.hmb), Nat.lt_of_lt_of_le K.hmb t.1, K.l1, K.l2, K.l3, fun b hb => K.nw b (Nat.le_trans t.1 hb), by rw [t.2.1, K.ex], K.srt, K.bnd, K.len, K.big⟩
theorem NetAt.tch {S : List Nat} (K : NetAt lo h nb s) (t : Tch S h h') (hS : ∀ b ∈ S, ¬ lo b ∨ h.next ≤ b) : NetAt lo h' nb s := by
  obtain ⟨fv, mb, K⟩ := K
  exact ⟨fv, mb, K.tch t hS⟩
theorem NetAt.part {S : List Nat} (K : NetAt lo h nb s) (t : Tch S h h') (hS : ∀ b ∈ S, ¬ lo b ∨ h.next ≤ b) : NetAt (shr lo h.next h'.next) h' nb s := by
  obtain ⟨fv, mb, K⟩ := K
  have K' := K.tch t hS
  exact ⟨fv, mb, K'.row, K'.hnb, K'.fl, K'.mp, K'.hmb, ⟨K'.l1, .inl K.hnb⟩, ⟨K'.l2, .inl K.hmb⟩, fun b hb => ⟨K'.l3 b hb, .inl (K.fl.lt b hb)⟩, fun b hb => ⟨K'.nw b hb, .inr hb⟩, K'.ex, K'.srt, K'.bnd, K'.len, K'.big⟩
theorem NetAt.ex (K : NetAt lo h nb s) : h.ex = [] := by
  obtain ⟨fv, mb, K⟩ := K
  exact K.ex
theorem NetAt.lt (K : NetAt lo h nb s) : nb < h.next := by
  obtain ⟨fv, mb, K⟩ := K
  exact K.hnb
/-- what a call comes to -/
def DoesN (lo : Nat → Prop) (nb : Nat) (h : AHeap) (x : R) (v : AV) (s' : NS) : Prop := ∃ h' S, x = some (.ret v, h') ∧ NetAt lo h' nb s' ∧ Tch S h h' ∧ ∀ b ∈ S, lo b
theorem DoesN.of {x : R} {v : AV} {s' : NS} (k : Wp x fun r h' => r = .ret v ∧ ∃ S, NetAt lo h' nb s' ∧ Tch S h h' ∧ ∀ b ∈ S, lo b) : DoesN lo nb h x v s' := by
  obtain ⟨_, h', e, rfl, S, k⟩ := k
  exact ⟨h', S, e, k⟩
theorem eqNet (b o : Nat) (h : AHeap) : opBin Try.prog h .eql 25 true (some (.ptr b o)) (some AV.nilp) = some (.val (.bool false), h) := by kernel_rfl
abbrev newN : NS := ⟨[], 0, []⟩
theorem new_ok (hx : h.ex = []) : ∃ h', world n (d + 1) 11 [] h = some (.ret (.ptr (h.next + 1) 0), h') ∧ NetAt (fun b => h.next ≤ b) h' (h.next + 1) newN ∧ Tch [] h h' := by
  suffices hK : Wp (net_New (world n d) n h) fun r h' => r = .ret (.ptr (h.next + 1) 0) ∧ NetAt (fun b => h.next ≤ b) h' (h.next + 1) newN ∧ Tch [] h h' by
    obtain ⟨r, h', e, rfl, k⟩ := hK
    refine ⟨h', ?_, k⟩
    rw [w_net_New, e]
    refine gcR_some ?_
    show Nat.blt (h.next + 1) h.next = false
    cases e : Nat.blt (h.next + 1) h.next with
    | false => rfl
    | true =>
      have := blt_lt' e
      omega
  unfold net_New
  refine Wp.lett (Wp.obind (show bldS Try.prog TNet [(2, .mp h.next)] = some [.nsl, .int .i64 0, .mp h.next] by kernel_rfl) (Wp.outK (box_agg rfl) ?_))
  have t1 : Tch [] h (h.new (.map [])) := Tch.new _ _ _
  have t2 : Tch [] (h.new (.map [])) (newH (h.new (.map [])) TNet [.nsl, .int .i64 0, .mp h.next]) := Tch.newH _ _ _ _
  refine Wp.ret ⟨rfl, ⟨.nsl, h.next, RowH.new _ _ _, Nat.lt_succ_self _, .inl ⟨rfl, rfl⟩, ?_, Nat.lt_trans (Nat.lt_succ_self _) (Nat.lt_succ_self _), Nat.le_succ _, Nat.le_refl _, (fun _ hb => (nomatch hb)), fun b hb => ?_, hx, List.Pairwise.nil, (fun _ hb => (nomatch hb)), Nat.zero_le _, Nat.zero_le _⟩, t1.trans t2⟩
  · refine map_tch t2 (o := .map []) ?_ (Nat.lt_succ_self _) (fun h => nomatch h)
    exact get_new_same _
  · exact Nat.le_trans (t1.trans t2).1 hb
def addr (z : Int) : Prop := 0 ≤ z ∧ z < 16
instance (z : Int) : Decidable (addr z) := inferInstanceAs (Decidable (0 ≤ z ∧ z < 16))
def lnk (a b : Int) : Int × Int := (if b < a then b else a, if b > a then b else a)
theorem isAddress_w (z : Int) : world n (d + 1) 32 [.int .i64 z] h = some (.ret (.bool (decide (addr z))), h) := by
  apply Wp.eq
  rw [w_net_isAddress]
  refine Wp.gc ?_
  suffices hK : Wp (net_isAddress (world n d) n z h) fun r h' => r = .ret (.bool (decide (addr z))) ∧ h' = h from hK.mono fun r h' ⟨e, t⟩ => ⟨by rw [t]; exact (Tch.refl [] h).above, by rw [e]; rfl, e, rfl⟩
  unfold net_isAddress
  refine Wp.lett (Wp.lettG fun j8 ej => ?_)
  by_cases h0 : 0 ≤ z
  · refine Wp.ift (by rw [decide_eq_true_eq]; exact h0) (Wp.lett ?_)
    rw [ej]
    have e : decide (z < 16) = decide (addr z) := decide_eq_decide.2 ⟨fun h => ⟨h0, h⟩, fun h => h.2⟩
    rw [e]
    exact Wp.ret ⟨rfl, rfl⟩
  · refine Wp.iff (by rw [decide_eq_false_iff_not]; exact h0) ?_
    rw [ej, decide_eq_false (show ¬ addr z from fun h => h0 h.1)]
    exact Wp.ret ⟨rfl, rfl⟩
theorem between_w (a b : Int) : world n (d + 1) 37 [.int .i64 a, .int .i64 b] h = some (.ret (kC (lnk a b)), h) := by
  apply Wp.eq
  rw [w_net_between]
  refine Wp.gc ?_
  suffices hK : Wp (net_between (world n d) n a b h) fun r h' => r = .ret (kC (lnk a b)) ∧ Tch [] h h' from hK.mono fun r h' ⟨e, t⟩ => ⟨t.above, by rw [e]; rfl, e, rfl⟩
  unfold net_between
  refine Wp.mnew (Mem.nil [] h) fun h2 M2 => Wp.lett (Wp.lett ?_)
  rw [newP_eq]
  refine Wp.sa0 M2 rfl rfl rfl fun h3 M3 => Wp.lr0 M3 rfl ?_
  exact Wp.ret ⟨rfl, M3.tch⟩
/-- why nothing may be done with a link -/
def refN (a b : Int) : Int := if addr a ∧ addr b ∧ a ≠ b then 0 else 2
theorem refuses_w (a b : Int) : world n (d + 2) 36 [.ptr nb 0, .int .i64 a, .int .i64 b] h = some (.ret (.int .i64 (refN a b)), h) := by
  apply Wp.eq
  rw [w_net_Net_refuses]
  unfold net_Net_refuses
  refine Wp.outK (eqNet nb 0 h) (Wp.obind (avBool_bool _) (Wp.iff rfl ?_))
  refine Wp.callN (isAddress_w a) (Wp.obind (avBool_bool _) (Wp.lett (Wp.lettG fun j16 e16 => ?_)))
  unfold refN
  by_cases h1 : addr a
  · rw [decide_eq_true h1]
    refine Wp.iff rfl (Wp.callN (isAddress_w b) (Wp.obind (avBool_bool _) (Wp.lett ?_)))
    by_cases h2 : addr b
    · rw [decide_eq_true h2, e16]
      refine Wp.lettG fun j21 e21 => Wp.iff rfl (Wp.lett ?_)
      by_cases h3 : a = b
      · rw [beq_t h3, if_neg (fun h => h.2.2 h3), e21]
        exact Wp.ift rfl (Wp.ret ⟨rfl, rfl⟩)
      · rw [beq_f h3, if_pos ⟨h1, h2, h3⟩, e21]
        exact Wp.iff rfl (Wp.ret ⟨rfl, rfl⟩)
    · rw [decide_eq_false h2, e16, if_neg (fun h => h2 h.2.1)]
      refine Wp.lettG fun j21 e21 => Wp.ift rfl ?_
      rw [e21]
      exact Wp.ift rfl (Wp.ret ⟨rfl, rfl⟩)
  · rw [decide_eq_false h1, if_neg (fun h => h1 h.1)]
    refine Wp.ift rfl ?_
    rw [e16]
    refine Wp.lettG fun j21 e21 => Wp.ift rfl ?_
    rw [e21]
    exact Wp.ift rfl (Wp.ret ⟨rfl, rfl⟩)
theorem rowSame_nil {b e : Nat} (k : RowH h b e []) : rowSame h b e [] = true := by
  obtain ⟨t, h1, _⟩ := k
  have h1 : h.get b = some (.row 0 t e) := h1
  unfold rowSame
  rw [h1]
  simp [T.take, sameLO]
  rfl
theorem isCut_w (K : NetAt lo h nb s) (a b : Int) : ∃ h', world n (d + 2) 33 [.ptr nb 0, .int .i64 a, .int .i64 b] h = some (.ret (.bool (decide (lnk a b ∈ s.cuts))), h') ∧ Tch [] h h' := by
  suffices hK : Wp (world n (d + 2) 33 [.ptr nb 0, .int .i64 a, .int .i64 b] h) fun r h' => r = .ret (.bool (decide (lnk a b ∈ s.cuts))) ∧ Tch [] h h' by
    obtain ⟨_, h', e, rfl, k⟩ := hK
    exact ⟨h', e, k⟩
  obtain ⟨fv, mb, K⟩ := K
  rw [w_net_Net_isCut]
  unfold net_Net_isCut
  refine Wp.obind (nilC_ptr _ _) (Wp.obind (fldP_ptr _ _ _) (Wp.obind (RowH.cell' K.row (show [fv, AV.int .i64 (s.last : Int), .mp mb][0 + 2]? = some (.mp mb) from rfl)) (Wp.mnew (Mem.nil [] h) fun h2 M2 => ?_)))
  have t2 := M2.tch
  have K2 := K.tch t2 (fun _ h => nomatch h)
  refine Wp.callN (between_w a b) (Wp.obind (show avAgg (kC (lnk a b)) = some [.int .i64 (lnk a b).1, .int .i64 (lnk a b).2] from rfl) ?_)
  refine Wp.chk (and_t (rowSame_nil M2.at0.1) (and_t (reLoad_c (by kernel_rfl) (RowH.cell' K2.row (show [fv, AV.int .i64 (s.last : Int), .mp mb][0 + 2]? = some (.mp mb) from rfl))) rfl)) ?_
  have hz : zeroA Try.prog 76 = some (.agg []) := by kernel_rfl
  have hu : Try.prog.underlying TMap = some (.map TLink 76) := by kernel_rfl
  have hlook : opLookup Try.prog h2 TMap true (some (.mp mb)) (some (kC (lnk a b))) = some (.val (.tup [.agg [], .bool (decide (lnk a b ∈ s.cuts))]), h2) := by
    unfold opLookup
    rw [hu]
    dsimp only
    rw [keyT_link, if_pos rfl]
    have hm : mapGet h2 (.mp mb) = some (esOf s.cuts) := by
      unfold mapGet
      dsimp only
      rw [K2.mp]
    rw [hm]
    dsimp only
    rw [find_link]
    by_cases hc : lnk a b ∈ s.cuts
    · rw [if_pos hc, decide_eq_true hc]
      rfl
    · rw [if_neg hc, decide_eq_false hc]
      unfold lookOut
      dsimp only
      rw [hz]
      rfl
  refine Wp.outK hlook (Wp.obind (extT_0 _ _) (Wp.obind (avAgg_agg _) (Wp.obind (extT_1 _ _ _) (Wp.obind (avBool_bool _) ?_))))
  rw [newP_eq]
  refine Wp.stN M2.at0.1 (rfl : ([] : List AV).length = 0) (Nat.le_refl _) rfl fun h3 k3 t3 n3 => ?_
  exact Wp.ret ⟨rfl, t2.trans' t3 fun b hb => .inr (by rw [List.mem_singleton.1 hb]; exact Nat.le_refl _)⟩
theorem Tch.putM {b : Nat} (es : List (AV × AV)) : Tch [b] h (h.put b (.map es)) := Tch.put (.inl (List.mem_singleton.2 rfl)) _
theorem NetD.setM (K : NetD lo h nb fv mb s) (c : List (Int × Int)) : NetD lo (h.put mb (.map (esOf c))) nb fv mb ⟨s.ls, s.last, c⟩ := by
  have t : Tch [mb] h (h.put mb (.map (esOf c))) := Tch.putM _
  exact ⟨K.row.tch t K.hnb (fun hm => K.ne1 (List.mem_singleton.1 hm)), K.hnb, K.fl.tch t fun b hb hm => (K.ne2 b hb).2 (List.mem_singleton.1 hm), get_put_same _ _, K.hmb, K.l1, K.l2, K.l3, K.nw, K.ex, K.srt, K.bnd, K.len, K.big⟩
theorem cut_ok (K : NetAt lo h nb s) (a b : Int) : DoesN lo nb h (world n (d + 3) 20 [.ptr nb 0, .int .i64 a, .int .i64 b] h) (.int .i64 (refN a b)) (if refN a b = 0 then ⟨s.ls, s.last, putL (lnk a b) s.cuts⟩ else s) := by
  apply DoesN.of
  have KA := K
  obtain ⟨fv, mb, K⟩ := K
  rw [w_net_Net_Cut]
  unfold net_Net_Cut
  refine Wp.callN (refuses_w a b) (Wp.obind (avInt_int _ _) (Wp.lett ?_))
  by_cases h0 : refN a b = 0
  · rw [if_pos h0]
    refine Wp.iff (bne_f h0) (Wp.obind (nilC_ptr _ _) (Wp.obind (fldP_ptr _ _ _) (Wp.obind (RowH.cell' K.row (show [fv, AV.int .i64 (s.last : Int), .mp mb][0 + 2]? = some (.mp mb) from rfl)) ?_)))
    refine Wp.callN (between_w a b) (Wp.obind (show avAgg (kC (lnk a b)) = some [.int .i64 (lnk a b).1, .int .i64 (lnk a b).2] from rfl) (Wp.chk (and_t (reLoad_c (by kernel_rfl) (RowH.cell' K.row (show [fv, AV.int .i64 (s.last : Int), .mp mb][0 + 2]? = some (.mp mb) from rfl))) rfl) ?_))
    have hu : Try.prog.underlying TMap = some (.map TLink 76) := by kernel_rfl
    have hup : opMapUpdate Try.prog h TMap (some (.mp mb)) (some (kC (lnk a b))) (some (.agg [])) = some (.skip, h.put mb (.map (esOf (putL (lnk a b) s.cuts)))) := by
      unfold opMapUpdate
      rw [hu]
      dsimp only
      rw [keyT_link, if_pos rfl]
      have hm : mapGet h (.mp mb) = some (esOf s.cuts) := by
        unfold mapGet
        dsimp only
        rw [K.mp]
      rw [hm]
      dsimp only
      rw [put_link]
      rfl
    refine Wp.effK hup ?_
    exact Wp.ret ⟨by rw [h0], [mb], ⟨fv, mb, K.setM _⟩, Tch.putM _, fun b hb => by rw [List.mem_singleton.1 hb]; exact K.l2⟩
  · rw [if_neg h0]
    exact Wp.ift (bne_t h0) (Wp.ret ⟨rfl, [], KA, Tch.refl _ _, fun _ h => nomatch h⟩)
theorem heal_ok (K : NetAt lo h nb s) (a b : Int) : DoesN lo nb h (world n (d + 3) 23 [.ptr nb 0, .int .i64 a, .int .i64 b] h) (.int .i64 (refN a b)) (if refN a b = 0 then ⟨s.ls, s.last, delL (lnk a b) s.cuts⟩ else s) := by
  apply DoesN.of
  have KA := K
  obtain ⟨fv, mb, K⟩ := K
  rw [w_net_Net_Heal]
  unfold net_Net_Heal
  refine Wp.callN (refuses_w a b) (Wp.obind (avInt_int _ _) (Wp.lett ?_))
  by_cases h0 : refN a b = 0
  · rw [if_pos h0]
    refine Wp.iff (bne_f h0) (Wp.obind (nilC_ptr _ _) (Wp.obind (fldP_ptr _ _ _) (Wp.obind (RowH.cell' K.row (show [fv, AV.int .i64 (s.last : Int), .mp mb][0 + 2]? = some (.mp mb) from rfl)) ?_)))
    refine Wp.callN (between_w a b) (Wp.obind (show avAgg (kC (lnk a b)) = some [.int .i64 (lnk a b).1, .int .i64 (lnk a b).2] from rfl) (Wp.chk (and_t (reLoad_c (by kernel_rfl) (RowH.cell' K.row (show [fv, AV.int .i64 (s.last : Int), .mp mb][0 + 2]? = some (.mp mb) from rfl))) rfl) ?_))
    have hu : Try.prog.underlying TMap = some (.map TLink 76) := by kernel_rfl
    have hup : opDelete Try.prog h TMap (.mp mb) (kC (lnk a b)) = some (.val (.tup []), h.put mb (.map (esOf (delL (lnk a b) s.cuts)))) := by
      unfold opDelete
      rw [hu]
      dsimp only
      rw [keyT_link, if_pos rfl]
      have hm : mapGet h (.mp mb) = some (esOf s.cuts) := by
        unfold mapGet
        dsimp only
        rw [K.mp]
      rw [hm]
      dsimp only
      rw [del_link]
    refine Wp.outK hup ?_
    exact Wp.ret ⟨by rw [h0], [mb], ⟨fv, mb, K.setM _⟩, Tch.putM _, fun b hb => by rw [List.mem_singleton.1 hb]; exact K.l2⟩
  · rw [if_neg h0]
    exact Wp.ift (bne_t h0) (Wp.ret ⟨rfl, [], KA, Tch.refl _ _, fun _ h => nomatch h⟩)
end
end Go.Proofs.Ythdkfofkghpmcaa
