/- The disk: Append, Cut, Remove, Sync. -/
import Derived.Test.YtcbnpdfingfmgaaEc
namespace Go.Proofs.Ytcbnpdfingfmgaa
open Go.RowKit Abs
theorem idxF {b i : Nat} (h : i < 32) : idxA 32 5 (.ptr b (0 + 0)) (i : Int) = some (.ptr b (5 * i)) := by
  have e : Nat.blt i 32 = true := by simpa using h
  show (match Nat.blt i 32 with | true => some (AV.ptr b (0 + 0 + i * 5)) | false => none) = _
  rw [e, show 0 + 0 + i * 5 = 5 * i by omega]
section
variable {lo : Nat → Prop} {n d db : Nat} {h : AHeap} {D : List AV} {fs : Nat → FileS} {vs : Nat → Nat → AV} {p : Int} {ops B f : Nat}
/-- a file with one change more -/
def moreF (x : FileS) (c : Chg) : FileS := ⟨x.sure, do1 x.seen c, x.loose ++ [c]⟩
theorem moreF_ok {x : FileS} {c : Chg} {B : Nat} (k : FileOk x B) (hl : legal x.seen c) : FileOk (moreF x c) (B + c.s.length + 1) := by
  obtain ⟨k1, k2, k3, k4⟩ := k
  refine ⟨?_, ?_, ?_, ?_⟩
  · show do1 x.seen c = doL x.sure (x.loose ++ [c])
    rw [doL_snoc, ← k1]
  · exact Legal_snoc _ _ _ k2 (by show legal (doL x.sure x.loose) c; rw [← k1]; exact hl)
  · show x.sure.u.length + sumL (x.loose ++ [c]) ≤ _
    rw [sumL_snoc]
    omega
  · show (x.loose ++ [c]).length ≤ _
    rw [List.length_append, List.length_singleton]
    omega
theorem change_ok (hn : 1000000 < n) (K : DiskAt lo h db D fs vs p ops B) (hf : f < 32) {c : Chg} (hL : legal (fs f).seen c) (hb : B + c.s.length < 9000000) :
    ∃ h' D' vs' S, world n (d + 2) 28 [.ptr db 0, .int .i64 (f : Int), .agg (chgC c)] h = some (.ret (.int .i64 0), h') ∧ DiskAt lo h' db D' (upd fs f (moreF (fs f) c)) vs' (stepP p) (ops + 1) (B + c.s.length + 2) ∧ Tch S h h' ∧ ∀ b ∈ S, lo b := by
  suffices hK : Wp (world n (d + 2) 28 [.ptr db 0, .int .i64 (f : Int), .agg (chgC c)] h) fun r h' => ∃ D' vs' S, r = .ret (.int .i64 0) ∧ DiskAt lo h' db D' (upd fs f (moreF (fs f) c)) vs' (stepP p) (ops + 1) (B + c.s.length + 2) ∧ Tch S h h' ∧ ∀ b ∈ S, lo b by
    obtain ⟨_, h', e, D', vs', S, rfl, k⟩ := hK
    exact ⟨h', D', vs', S, e, k⟩
  have C := K.cells f hf
  have Mf := K.mem f hf
  obtain ⟨o1, o2, o3, o4⟩ := K.ok f hf
  have hlen := K.len
  have hdb := K.hdb
  have hsl := doL_len (fs f).loose (fs f).sure
  rw [← o1] at hsl
  rw [w_disk_Disk_change]
  unfold disk_Disk_change
  refine Wp.mbox (Mem.nil [] h) rfl fun h2 M2 => ?_
  have t2 := M2.tch
  refine Wp.obind (nilC_ptr _ _) (Wp.obind (fldP_ptr _ _ _) (Wp.obind (idxF hf) (Wp.obind (nilC_ptr _ _) (Wp.obind (fldP_ptr _ _ _) (Wp.obind (RowH.ldAll M2.at0.1 rfl) ?_)))))
  refine Wp.mnews M2 (bldSlChg _ _ _ _) rfl (by rw [K.ex]; rfl) fun h3 M3 => ?_
  have t3 := M3.tch
  have hn2 := t2.1
  have hh2 := M2.at0.2.1
  have hh3 := M3.at0.2.1
  have hne1 : h.next ≠ h2.next := by omega
  have rd : RdL h3 (db :: blkV (vs f 1)) (.sl h2.next 0 1 3) [c] := by
    refine ⟨rfl, fun H t i hi => ?_⟩
    have hi0 : i = 0 := by
      have : i < 1 := hi
      omega
    subst hi0
    refine ⟨_, idx3 (by decide), ?_⟩
    refine RowH.ldAll (M3.at0.1.tch t hh3 fun hm => ?_) rfl
    rcases List.mem_cons.1 hm with hm | hm
    · omega
    · have := K.lt hf (k := 1) (by decide) _ hm
      omega
  obtain ⟨h4, v4, e4, K4⟩ := do_ok (n := n) (d := d) (T := TDisk) (o := 5 * f + 2) (x := (fs f).seen) hn (Nat.lt_of_lt_of_le hdb t3.1) (K.row.tch t3 hdb (by simp)) C.c2 C.c3 (Mf.seen.tch t3 (fun _ _ => by simp)) (K.nd hf (by decide)) (by rw [t3.2.1, K.ex]) rd (by show 1 < 1000000; decide) ⟨hL, trivial⟩ (by show _ + (c.s.length + 0) ≤ _; omega)
  refine Wp.callN e4 (Wp.obind (nilC_ptr _ _) (Wp.obind (fldP_ptr _ _ _) ?_))
  have hd4 : doL (fs f).seen [c] = do1 (fs f).seen c := rfl
  rw [hd4] at K4
  have g4 : ((D.set (5 * f + 2) (.bool (do1 (fs f).seen c).th)).set (5 * f + 2 + 1) v4)[5 * f + 4]? = some (vs f 2) := by
    rw [List.getElem?_set_ne (by omega), List.getElem?_set_ne (by omega)]
    exact C.c4
  have hn34 := K4.tch.1
  have hb1 : h.next ∉ db :: blkV (vs f 1) := fun hm => by
    rcases List.mem_cons.1 hm with hm | hm
    · omega
    · have := K.lt hf (k := 1) (by decide) _ hm
      omega
  have kb4 := M3.at1.1.tch K4.tch M3.at1.2.1 hb1
  refine Wp.obind (RowH.cell' K4.row g4) (Wp.obind (RowH.ldAll kb4 rfl) ?_)
  refine Wp.mnews (Mem.nil [] h4) (bldSlChg _ _ _ _) rfl (by rw [K4.ex]; rfl) fun h5 M5 => ?_
  have t5 := M5.tch
  have hdb3 : db < h3.next := Nat.lt_of_lt_of_le hdb t3.1
  have hdb4 : db < h4.next := Nat.lt_of_lt_of_le hdb3 hn34
  have kr5 := K4.row.tch t5 hdb4 (by simp)
  refine Wp.chk (and_t rfl (and_t (reLoad_c (by kernel_rfl) (RowH.cell' kr5 g4)) rfl)) ?_
  have dis12 : ∀ b ∈ blkV (vs f 2), b ∉ db :: blkV (vs f 1) := fun b hb hm => by
    rcases List.mem_cons.1 hm with rfl | hm
    · exact K.nd hf (by decide) hb
    · exact K.ne hf (by decide) hf (by decide) (fun h => absurd h.2 (by decide)) b hb hm
  have kl5 := ((Mf.loose.tch t3 (fun _ _ => by simp)).tch K4.tch dis12).tch t5 (fun _ _ => by simp)
  obtain ⟨h6, e6, kl6, t6⟩ := kl5.push M5.at0.1 (by omega) (by rw [t5.2.1, K4.ex])
  refine Wp.outK e6 (Wp.obind (nilC_ptr _ _) (Wp.obind (fldP_ptr _ _ _) ?_))
  have hn5 := t5.1
  have hn6 := t6.1
  have hdb5 : db < h5.next := Nat.lt_of_lt_of_le hdb4 hn5
  have kr6 := kr5.tch t6 hdb5 (K.nd hf (by decide))
  have l6 : ((D.set (5 * f + 2) (.bool (do1 (fs f).seen c).th)).set (5 * f + 2 + 1) v4).length = 162 := by rw [List.length_set, List.length_set]; exact hlen
  show Wp (Abs.obind (stRow h6 1 [AV.sl h5.next 0 ((fs f).loose.length + 1) 3] (.ptr db (5 * f + 4))) _) _
  refine Wp.st1 kr6 (show 5 * f + 4 < _ by omega) rfl fun h7 k7 t7 n7 => ?_
  -- the disk behind it
  have n35 : h3.next ≤ h5.next := Nat.le_trans hn34 hn5
  have hv4 : ∀ b ∈ blkV v4, b < h5.next := fun b hb => Nat.lt_of_lt_of_le (K4.buf.lt b hb) hn5
  have hv4s : ∀ b ∈ blkV v4, b ∈ blkV (vs f 1) ∨ h.next ≤ b := fun b hb => (K4.sub b hb).imp id fun h => Nat.le_trans t3.1 h
  have T : Tch (db :: (blkV (vs f 1) ++ blkV (vs f 2))) h h7 := by
    refine ((((t3.mono fun b hb => nomatch hb).trans (K4.tch.mono fun b hb => .inl ?_)).trans' t5 fun b hb => nomatch hb).trans' t6 fun b hb => .inl ?_).trans' t7 fun b hb => .inl ?_
    · rcases List.mem_cons.1 hb with hb | hb
      · rw [hb]; exact List.mem_cons_self
      · exact List.mem_cons_of_mem _ (List.mem_append_left _ hb)
    · exact List.mem_cons_of_mem _ (List.mem_append_right _ hb)
    · rw [List.mem_singleton.1 hb]; exact List.mem_cons_self
  have hw : ∀ b ∈ blkV (.sl h5.next 0 ((fs f).loose.length + 1) 3), b = h5.next := fun b hb => List.mem_singleton.1 hb
  have KU := K.upd (B' := B + c.s.length + 1) (x := moreF (fs f) c) (w := fun k => if k = 0 then vs f 0 else if k = 1 then v4 else .sl h5.next 0 ((fs f).loose.length + 1) 3) hf T (fun b hb => ?_) k7 (by rw [List.length_set]; exact l6) ⟨?_, ?_, ?_, ?_, ?_⟩ (fun i hi => ?_) (fun k hk b hb => ?_) (fun k l hk hl hne b hb hb' => ?_) ⟨?_, ?_, ?_⟩ (moreF_ok (K.ok f hf) hL) (by omega)
  · obtain ⟨h8, D8, e8, K8, t8⟩ := step_ok (n := n) (d := d) KU (by omega)
    refine Wp.callN e8 ?_
    refine Wp.ret ⟨D8, _, db :: (blkV (vs f 1) ++ blkV (vs f 2)), rfl, K8, T.trans' t8 fun b hb => .inl (by rw [List.mem_singleton.1 hb]; exact List.mem_cons_self), fun b hb => ?_⟩
    rcases List.mem_cons.1 hb with hb | hb
    · rw [hb]
      exact K.hlo
    · rcases List.mem_append.1 hb with hb | hb
      · exact K.low f 1 hf (by decide) b hb
      · exact K.low f 2 hf (by decide) b hb
  · rcases List.mem_cons.1 hb with hb | hb
    · exact .inl hb
    · rcases List.mem_append.1 hb with hb | hb
      · exact .inr ⟨1, by decide, hb⟩
      · exact .inr ⟨2, by decide, hb⟩
  · rw [List.getElem?_set_ne (by omega), List.getElem?_set_ne (by omega), List.getElem?_set_ne (by omega)]
    exact C.c0
  · rw [List.getElem?_set_ne (by omega), List.getElem?_set_ne (by omega), List.getElem?_set_ne (by omega)]
    exact C.c1
  · rw [List.getElem?_set_ne (by omega), List.getElem?_set_ne (by omega), List.getElem?_set_self (by omega)]
    rfl
  · rw [List.getElem?_set_ne (by omega), List.getElem?_set_self (by rw [List.length_set]; omega)]
    rfl
  · rw [List.getElem?_set_self (by omega)]
    rfl
  · rw [List.getElem?_set_ne (by omega), List.getElem?_set_ne (by omega), List.getElem?_set_ne (by omega)]
  · rcases k with _ | _ | k
    · exact .inl hb
    · exact hv4s b hb
    · right
      have := hw b hb
      omega
  · have k0 : ∀ k, k < 3 → ∀ b ∈ blkV ((fun k => if k = 0 then vs f 0 else if k = 1 then v4 else AV.sl h5.next 0 ((fs f).loose.length + 1) 3) k), (k = 0 ∧ b ∈ blkV (vs f 0)) ∨ (k = 1 ∧ b ∈ blkV v4) ∨ (k = 2 ∧ b = h5.next) := by
      intro k hk b hb
      rcases k with _ | _ | _ | k
      · exact .inl ⟨rfl, hb⟩
      · exact .inr (.inl ⟨rfl, hb⟩)
      · exact .inr (.inr ⟨rfl, hw b hb⟩)
      · omega
    have q01 : b ∈ blkV (vs f 0) → b ∈ blkV v4 → False := fun h0 h1 => by
      rcases hv4s b h1 with h1 | h1
      · exact K.ne hf (by decide) hf (by decide) (fun h => absurd h.2 (by decide)) b h0 h1
      · have := K.lt hf (k := 0) (by decide) b h0
        omega
    have q02 : b ∈ blkV (vs f 0) → b < h5.next := fun h0 => by
      have := K.lt hf (k := 0) (by decide) b h0
      have := t3.1
      omega
    rcases k0 k hk b hb with ⟨e1, b1⟩ | ⟨e1, b1⟩ | ⟨e1, b1⟩ <;> rcases k0 l hl b hb' with ⟨e2, b2⟩ | ⟨e2, b2⟩ | ⟨e2, b2⟩
    · omega
    · exact q01 b1 b2
    · have := q02 b1
      omega
    · exact q01 b2 b1
    · omega
    · have := hv4 b b1
      omega
    · have := q02 b2
      omega
    · have := hv4 b b2
      omega
    · omega
  · refine Mf.sure.tch T fun b hb hm => ?_
    rcases List.mem_cons.1 hm with rfl | hm
    · exact K.nd hf (by decide) hb
    · rcases List.mem_append.1 hm with hm | hm
      · exact K.ne hf (by decide) hf (by decide) (fun h => absurd h.2 (by decide)) b hb hm
      · exact K.ne hf (by decide) hf (by decide) (fun h => absurd h.2 (by decide)) b hb hm
  · refine ((K4.buf.tch t5 (fun _ _ => by simp)).tch t6 fun b hb hm => ?_).tch t7 fun b hb hm => K4.ndb (List.mem_singleton.1 hm ▸ hb)
    rcases hv4s b hb with hb | hb
    · exact K.ne hf (by decide) hf (by decide) (fun h => absurd h.2 (by decide)) b hb hm
    · have := K.lt hf (k := 2) (by decide) b hm
      omega
  · refine kl6.tch t7 fun b hb hm => ?_
    have h1 := hw b hb
    have h2 := List.mem_singleton.1 hm
    omega
end
end Go.Proofs.Ytcbnpdfingfmgaa
