/- Both disks copied, and made; whole numbers of the call's own. -/
import Derived.Test.YtcbnpdfingfmgaaEp
namespace Go.Proofs.Ytcbnpdfingfmgaa
open Go.RowKit Abs
section
variable {h h' : AHeap} {v : AV} {l : List Chg}
theorem eqCh_sl (b m : Nat) (h : AHeap) : opBin Try.prog h .eql TChgs true (some (.sl b 0 m 3)) (some AV.nsl) = some (.val (.bool false), h) := by kernel_rfl
theorem eqCh_nil (h : AHeap) : opBin Try.prog h .eql TChgs true (some .nsl) (some AV.nsl) = some (.val (.bool true), h) := by kernel_rfl
theorem bldCh0 (h : AHeap) : bldSl Try.prog h TChgs 0 [] = outNewS h TChg [] 0 3 := by kernel_rfl
theorem chgsC_one : ∀ l : List Chg, (chgsC l).all AV.one = true
  | [] => rfl
  | c :: l => by
    rw [chgsC, List.all_append, chgsC_one l]
    rfl
theorem cloneC_ok {n d : Nat} (k : LooseAt h v l) (hx : h.ex = []) (hm : l.length ≤ 1000000) : ∃ h' v', world n (d + 1) 34 [v] h = some (.ret v', h') ∧ LooseAt h' v' l ∧ Tch [] h h' ∧ ∀ b ∈ blkV v', h.next ≤ b := by
  suffices hK : Wp (world n (d + 1) 34 [v] h) fun r h' => ∃ v', r = .ret v' ∧ LooseAt h' v' l ∧ Tch [] h h' ∧ ∀ b ∈ blkV v', h.next ≤ b by
    obtain ⟨_, h', e, v', rfl, k⟩ := hK
    exact ⟨h', v', e, k⟩
  rw [w_slices_Clone___disk_change_disk_change_]
  unfold slices_Clone___disk_change_disk_change_
  have he : Abs.elemOf Try.prog TChgs = some TChg := by kernel_rfl
  have hu : notInt Try.prog TChgs = true := by kernel_rfl
  have hsz : Try.prog.cellsOf TChg = 3 := by kernel_rfl
  rcases k with ⟨rfl, rfl⟩ | ⟨c, rfl, h2, h3⟩
  · refine Wp.outK (eqCh_nil h) (Wp.obind (avBool_bool _) (Wp.ift rfl ?_))
    exact Wp.ret ⟨_, rfl, .inl ⟨rfl, rfl⟩, Tch.refl _ _, fun _ h => nomatch h⟩
  · refine Wp.outK (eqCh_sl c l.length h) (Wp.obind (avBool_bool _) (Wp.iff rfl ?_))
    refine Wp.mnews0 (bldCh0 h) (by rw [hx]; rfl) ?_
    have hex : memB TChg (newH h TChg []).ex = false := by rw [ex_newH, hx]; rfl
    have kn := RowH.new h TChg []
    have hcl := chgsC_len l
    have k2 : RowH (newH h TChg []) c TChg (chgsC l) := h2.tch (Tch.newH [] h _ _) h3 (fun h => nomatch h)
    have hfit := bytesFit_of (P := Try.prog) (e := TChg) (B := 32) (k := 0 + l.length) fitChg (by omega) (by omega)
    have hpart : rowGet (newH h TChg []) c 0 (chgsC l).length = some (chgsC l) := by
      have := k2.part (o := 0) (n := (chgsC l).length) (by omega)
      rw [List.drop_zero, List.take_length] at this
      exact this
    have hfirst : ∀ m, m = l.length → firstA (newH h TChg []) 3 m (.sl c 0 l.length 3) = some (chgsC l) := by
      intro m hm
      rw [firstA_of_row (by omega), hm, show l.length * 3 = (chgsC l).length by omega]
      exact hpart
    by_cases h0 : l = []
    · subst h0
      refine Wp.outK (append_zero (b := h.next) (o := 0) (m := 0) (n := 0) he hu hsz rfl rfl (hfirst 0 rfl) hfit hex) ?_
      exact Wp.ret ⟨_, rfl, .inr ⟨h.next, rfl, kn, Nat.lt_succ_self _⟩, Tch.newH _ _ _ _, fun b hb => by rw [List.mem_singleton.1 hb]; exact Nat.le_refl _⟩
    · obtain ⟨m, hm2⟩ : ∃ m, l.length = m + 1 := by
        cases l with
        | nil => exact absurd rfl h0
        | cons a l => exact ⟨l.length, rfl⟩
      have hlen : lenA (.sl c 0 l.length 3) = some (m + 1) := by rw [hm2]; rfl
      have a1 := append_more (P := Try.prog) (h := newH h TChg []) (t := TChgs) (u := TChgs) (b := h.next) (o := 0) (m := 0) (n := m) (x := .sl c 0 l.length 3) (cs := []) he hu hsz hlen (hfirst _ hm2.symm) (by rw [← hm2]; exact hfit) (chgsC_one l) hex (by
        have := kn.part (o := 0) (n := 0) (Nat.le_refl _)
        exact this) kn.type
      refine Wp.outK a1 ?_
      refine Wp.ret ⟨_, rfl, .inr ⟨h.next + 1, by rw [hm2, Nat.zero_add]; rfl, ?_, Nat.lt_succ_self _⟩, ((Tch.newH [] h _ _).trans' (Tch.put (S := [h.next]) (.inl (List.mem_singleton.2 rfl)) .dead) fun b hb => .inr (by rw [List.mem_singleton.1 hb]; exact Nat.le_refl _)).trans (Tch.newH _ _ _ _), fun b hb => ?_⟩
      · exact RowH.new ((newH h TChg []).put h.next .dead) _ _
      · have hb2 : b = h.next + 1 := List.mem_singleton.1 hb
        omega
end
theorem laid5 {l : List AV} {o : Nat} {a b c d e : AV} (h : o + 4 < l.length) : (laid l o [a, b, c, d, e]).length = l.length ∧ (laid l o [a, b, c, d, e])[o]? = some a ∧ (laid l o [a, b, c, d, e])[o + 1]? = some b ∧ (laid l o [a, b, c, d, e])[o + 2]? = some c ∧ (laid l o [a, b, c, d, e])[o + 3]? = some d ∧ (laid l o [a, b, c, d, e])[o + 4]? = some e ∧ ∀ i, (i < o ∨ o + 5 ≤ i) → (laid l o [a, b, c, d, e])[i]? = l[i]? := by
  have h3 : o + [a, b, c, d, e].length ≤ l.length := h
  have key : ∀ j, j < 5 → (laid l o [a, b, c, d, e])[o + j]? = [a, b, c, d, e][j]? := fun j hj => by
    rw [laid_get h3, if_pos ⟨by omega, by show o + j < o + 5; omega⟩, show o + j - o = j by omega]
  refine ⟨laid_length h3, key 0 (by decide), key 1 (by decide), key 2 (by decide), key 3 (by decide), key 4 (by decide), fun i hi => ?_⟩
  rw [laid_get h3, if_neg (fun hh => by have : i < o + 5 := hh.2; omega)]
section
variable {lo : Nat → Prop} {n d db B : Nat} {h : AHeap} {D : List AV} {fs : Nat → FileS} {vs : Nat → Nat → AV} {p : Int} {ops : Nat} {s : DS}
def copyTo (fs : Nat → FileS) (i : Nat) : Nat → FileS := fun f => if f < i then fs f else emptyF
theorem copyTo_succ (fs : Nat → FileS) (i : Nat) : upd (copyTo fs i) i (fs i) = copyTo fs (i + 1) := by
  funext j
  unfold copyTo Go.Proofs.Ytcbnpdfingfmgaa.upd
  by_cases e : j = i
  · subst e
    rw [if_pos rfl, if_pos (Nat.lt_succ_self _)]
  · rw [if_neg e]
    dsimp only
    by_cases e2 : j < i
    · rw [if_pos e2, if_pos (by omega)]
    · rw [if_neg e2, if_neg (by omega)]
theorem bldF5 {h : AHeap} {a b : Bool} {v1 v2 v3 : AV} {u1 u2 : Bytes} {l : List Chg} {h2 h3 : AHeap} (k1 : BufAt h v1 u1) (k2 : BufAt h2 v2 u2) (k3 : LooseAt h3 v3 l) : bldS Try.prog 54 [(0, .agg [.bool a, v1]), (1, .agg [.bool b, v2]), (2, v3)] = some [.bool a, v1, .bool b, v2, v3] := by
  rcases k1 with ⟨rfl, _⟩ | ⟨c1, r1, rfl, _⟩ <;> rcases k2 with ⟨rfl, _⟩ | ⟨c2, r2, rfl, _⟩ <;> rcases k3 with ⟨rfl, _⟩ | ⟨c3, rfl, _⟩ <;> kernel_rfl
set_option maxHeartbeats 1000000 in
theorem copy_loop (K : DiskAt lo h db D fs vs p ops B) (hB : B < 900000) {d2 : Nat} (hd2 : h.next ≤ d2) {k22 : AHeap → R} {Q : ARes → AHeap → Prop}
    (hk : ∀ H, Tch [d2] h H → At (fun b => h.next ≤ b) H d2 ⟨copyTo fs 32, p, ops⟩ B → Wp (k22 H) Q) :
    ∀ (r i fu : Nat) (H : AHeap), r + i = 32 → r < fu → Tch [d2] h H → At (fun b => h.next ≤ b) H d2 ⟨copyTo fs i, p, ops⟩ B → Wp (disk_Disk_Copy_L0 (world n (d + 2)) (.ptr db 0) (.ptr d2 0) k22 fu (i : Int) H) Q
  | _, _, 0, _, _, hf, _, _ => by omega
  | 0, i, fu + 1, H, hi, _, t, K2 => by
    obtain rfl : i = 32 := by omega
    rw [disk_Disk_Copy_L0_s]
    unfold disk_Disk_Copy_L0b
    refine Wp.lett (Wp.iff rfl ?_)
    exact hk H t K2
  | r + 1, i, fu + 1, H, hi, hf, t, K2 => by
    obtain ⟨D2, vs2, K2⟩ := K2
    have hi32 : i < 32 := by omega
    have KH : DiskAt lo H db D fs vs p ops B := K.tch t (fun b hb => .inr (by rw [List.mem_singleton.1 hb]; exact hd2))
    have C := KH.cells i hi32
    have Mf := KH.mem i hi32
    have hdb := KH.hdb
    have hnH := t.1
    obtain ⟨o1, o2, o3, o4⟩ := KH.ok i hi32
    have hsl := doL_len (fs i).loose (fs i).sure
    rw [← o1] at hsl
    rw [disk_Disk_Copy_L0_s]
    unfold disk_Disk_Copy_L0b
    refine Wp.lett (Wp.ift (by rw [decide_eq_true_eq]; omega) ?_)
    refine Wp.obind (nilC_ptr _ _) (Wp.obind (fldP_ptr _ _ _) (Wp.obind (idxF hi32) (Wp.obind (nilC_ptr _ _) (Wp.obind (fldP_ptr _ _ _) (Wp.obind (nilC_ptr _ _) (Wp.obind (fldP_ptr _ _ _) (Wp.obind (nilC_ptr _ _) (Wp.obind (fldP_ptr _ _ _) (Wp.obind (RowH.cell' KH.row C.c4) (Wp.obind (nilC_ptr _ _) (Wp.obind (fldP_ptr _ _ _) ?_)))))))))))
    obtain ⟨h3, v3, e3, k3, t3, s3⟩ := copy_ok (n := n) (d := d) (o := 5 * i + 0) KH.row hdb C.c0 C.c1 Mf.sure KH.ex (by omega)
    have hn3 := t3.1
    have kr3 := KH.row.tch t3 hdb (fun h => nomatch h)
    refine Wp.callN e3 (Wp.obind (avAgg_agg _) (Wp.chk (and_t (reLoad_c (by kernel_rfl) (RowH.cell' kr3 C.c4)) rfl) ?_))
    have hdb3 : db < h3.next := Nat.lt_of_lt_of_le hdb hn3
    obtain ⟨h4, v4, e4, k4, t4, s4⟩ := copy_ok (n := n) (d := d) (o := 5 * i + 2) kr3 hdb3 C.c2 C.c3 (Mf.seen.tch t3 (fun _ _ h => nomatch h)) (by rw [t3.2.1, KH.ex]) (by omega)
    have hn4 := t4.1
    have kr4 := kr3.tch t4 hdb3 (fun h => nomatch h)
    refine Wp.callN e4 (Wp.obind (avAgg_agg _) (Wp.chk (and_t (reLoad_c (by kernel_rfl) (RowH.cell' kr4 C.c4)) rfl) ?_))
    obtain ⟨h5, v5, e5, k5, t5, s5⟩ := cloneC_ok (n := n) (d := d + 1) ((Mf.loose.tch t3 (fun _ _ h => nomatch h)).tch t4 (fun _ _ h => nomatch h)) (by rw [t4.2.1, t3.2.1, KH.ex]) (by omega)
    have hn5 := t5.1
    refine Wp.callN e5 (Wp.obind (bldF5 k3 k4 k5) (Wp.obind (idxF hi32) ?_))
    have T5 : Tch [] H h5 := (t3.trans t4).trans t5
    have hd2H := K2.hdb
    have kr2 := K2.row.tch T5 hd2H (fun h => nomatch h)
    have hl2 := K2.len
    obtain ⟨l1, q0, q1, q2, q3, q4, l5⟩ := laid5 (l := D2) (o := 5 * i) (a := .bool (fs i).sure.th) (b := v3) (c := .bool (fs i).seen.th) (d := v4) (e := v5) (by omega)
    refine Wp.stN kr2 (rfl : ([.bool (fs i).sure.th, v3, .bool (fs i).seen.th, v4, v5] : List AV).length = 5) (by omega) (by
      show (true && (v3.one && (true && (v4.one && (v5.one && true))))) = true
      rw [k3.one.1, k4.one.1, k5.one.1]
      rfl) fun h6 k6 t6 n6 => ?_
    have T6 : Tch [d2] H h6 := (T5.mono fun _ hb => nomatch hb).trans t6
    refine Wp.lettw (by omega) (by omega) ?_
    rw [show (i : Int) + 1 = ((i + 1 : Nat) : Int) by omega]
    have b3 : ∀ b ∈ blkV v3, H.next ≤ b ∧ b < h3.next := fun b hb => ⟨s3 b hb, k3.lt b hb⟩
    have b4 : ∀ b ∈ blkV v4, h3.next ≤ b ∧ b < h4.next := fun b hb => ⟨s4 b hb, k4.lt b hb⟩
    have b5 : ∀ b ∈ blkV v5, h4.next ≤ b := fun b hb => s5 b hb
    have KU := K2.upd (f := i) (B' := B) (x := fs i) (w := fun k => if k = 0 then v3 else if k = 1 then v4 else v5) hi32 T6 (fun b hb => .inl (List.mem_singleton.1 hb)) k6 (by rw [l1]; exact hl2) ⟨q0, q1, q2, q3, q4⟩ l5 (fun k hk b hb => ?_) (fun k l hk hl hne b hb hb' => ?_) ⟨?_, ?_, ?_⟩ (K.ok i hi32) (Nat.le_refl _)
    · rw [copyTo_succ] at KU
      exact copy_loop K hB hd2 hk r (i + 1) fu h6 (by omega) (by omega) (t.trans T6) ⟨_, _, KU⟩
    · right
      rcases k with _ | _ | k
      · exact (b3 b hb).1
      · have := b4 b hb
        omega
      · have := b5 b hb
        omega
    · have k0 : ∀ k, k < 3 → ∀ b ∈ blkV ((fun k => if k = 0 then v3 else if k = 1 then v4 else v5) k), (k = 0 ∧ b < h3.next) ∨ (k = 1 ∧ h3.next ≤ b ∧ b < h4.next) ∨ (k = 2 ∧ h4.next ≤ b) := by
        intro k hk b hb
        rcases k with _ | _ | _ | k
        · exact .inl ⟨rfl, (b3 b hb).2⟩
        · exact .inr (.inl ⟨rfl, b4 b hb⟩)
        · exact .inr (.inr ⟨rfl, b5 b hb⟩)
        · omega
      rcases k0 k hk b hb with ⟨e1, b1⟩ | ⟨e1, b1⟩ | ⟨e1, b1⟩ <;> rcases k0 l hl b hb' with ⟨e2, b2⟩ | ⟨e2, b2⟩ | ⟨e2, b2⟩ <;> omega
    · have nd : d2 ∉ blkV v3 := fun hb => by
        have := b3 _ hb
        omega
      exact ((k3.tch t4 (fun _ _ h => nomatch h)).tch t5 (fun _ _ h => nomatch h)).tch t6 fun b hb hm => nd (List.mem_singleton.1 hm ▸ hb)
    · have nd : d2 ∉ blkV v4 := fun hb => by
        have := b4 _ hb
        omega
      exact (k4.tch t5 (fun _ _ h => nomatch h)).tch t6 fun b hb hm => nd (List.mem_singleton.1 hm ▸ hb)
    · have nd : d2 ∉ blkV v5 := fun hb => by
        have := b5 _ hb
        omega
      exact k5.tch t6 fun b hb hm => nd (List.mem_singleton.1 hm ▸ hb)
theorem copyD_ok (hn : 1000000 < n) (K : At lo h db s B) (hB : B < 900000) : ∃ h', world n (d + 3) 21 [.ptr db 0] h = some (.ret (.ptr h.next 0), h') ∧ Tch [] h h' ∧ At (fun b => h.next ≤ b) h' h.next ⟨copyTo s.fs 32, s.p, s.ops⟩ B ∧ h.next < h'.next := by
  suffices hK : Wp (world n (d + 3) 21 [.ptr db 0] h) fun r h' => r = .ret (.ptr h.next 0) ∧ Tch [] h h' ∧ At (fun b => h.next ≤ b) h' h.next ⟨copyTo s.fs 32, s.p, s.ops⟩ B ∧ h.next < h'.next by
    obtain ⟨_, h', e, rfl, k⟩ := hK
    exact ⟨h', e, k⟩
  obtain ⟨D, vs, K⟩ := K
  rw [w_disk_Disk_Copy]
  unfold disk_Disk_Copy
  refine Wp.outK (eqDisk db 0 h) (Wp.obind (avBool_bool _) (Wp.iff rfl ?_))
  refine Wp.obind (nilC_ptr _ _) (Wp.obind (fldP_ptr _ _ _) (Wp.obind (RowH.cell' K.row (by rw [Nat.zero_add]; exact K.cp)) (Wp.obind (avInt_int _ _) (Wp.obind (nilC_ptr _ _) (Wp.obind (fldP_ptr _ _ _) (Wp.obind (RowH.cell' K.row (by rw [Nat.zero_add]; exact K.co)) (Wp.obind (avInt_int _ _) (Wp.outK (box_agg (by kernel_rfl)) (Wp.lettG fun k22 e22 => ?_)))))))))
  have hlt := Nat.lt_succ_self h.next
  have mk : ∀ L : List AV, L = (List.replicate 32 [.bool false, .nsl, .bool false, .nsl, .nsl]).flatten ++ [.int .i64 s.p, .int .i64 (s.ops : Int)] → At (fun b => h.next ≤ b) (Abs.newH h TDisk L) h.next ⟨copyTo s.fs 0, s.p, s.ops⟩ B := by
    intro L hL
    have e0 : copyTo s.fs 0 = fun _ => emptyF := by
      funext j
      exact if_neg (Nat.not_lt_zero _)
    rw [e0]
    refine ⟨L, fun _ _ => .nsl, RowH.new _ _ _, hlt, Nat.le_refl _, by rw [hL]; kernel_rfl, fun f hf => ?_, by rw [hL]; kernel_rfl, by rw [hL]; kernel_rfl, fun f hf => ⟨.inl ⟨rfl, rfl⟩, .inl ⟨rfl, rfl⟩, .inl ⟨rfl, rfl⟩⟩, ⟨fun _ => 0, rfl, fun _ _ _ _ _ hb => (nomatch hb)⟩, (fun _ _ _ _ _ hb => (nomatch hb)), fun f hf => ⟨rfl, trivial, Nat.zero_le _, Nat.zero_le _⟩, K.ex, K.hp, K.ho, fun b hb => Nat.le_trans (Nat.le_succ _) hb⟩
    rw [hL]
    exact ⟨flat_rep rfl 32 f 0 hf (by decide), flat_rep rfl 32 f 1 hf (by decide), flat_rep rfl 32 f 2 hf (by decide), flat_rep rfl 32 f 3 hf (by decide), flat_rep rfl 32 f 4 hf (by decide)⟩
  refine copy_loop (h := h) (d2 := h.next) K hB (Nat.le_refl _) (fun H t K2 => ?_) 32 0 n _ rfl (by omega) (Tch.newH _ _ _ _) (mk _ rfl)
  rw [e22]
  have hlt2 : h.next < H.next := by
    obtain ⟨_, _, K2⟩ := K2
    exact K2.hdb
  exact Wp.ret ⟨rfl, t.mono fun b hb => .inr (by rw [List.mem_singleton.1 hb]; exact Nat.le_refl _), K2, hlt2⟩
end
end Go.Proofs.Ytcbnpdfingfmgaa
