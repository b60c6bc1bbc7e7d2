/- The disk: Crash. -/
import Derived.Test.YtcbnpdfingfmgaaEi
namespace Go.Proofs.Ytcbnpdfingfmgaa
open Go.RowKit Abs
section
variable {lo : Nat → Prop} {n d db : Nat} {h : AHeap} {D : List AV} {fs : Nat → FileS} {vs : Nat → Nat → AV} {p : Int} {ops B f : Nat} {s : DS}
theorem fcrash_ok (hn : 1000000 < n) (K : DiskAt lo h db D fs vs p ops B) (hf : f < 32) (hb : B < 900000) {kept torn : Int} (ht : torn < 9223372036854775808) :
    ∃ h' D' vs' S, world n (d + 3) 32 [.ptr db (5 * f), .int .i64 kept, .int .i64 torn] h = some (.ret (.tup []), h') ∧ DiskAt lo h' db D' (upd fs f (crashF (fs f) kept torn)) vs' p ops B ∧ Tch S h h' ∧ ∀ b ∈ S, lo b := by
  suffices hK : Wp (world n (d + 3) 32 [.ptr db (5 * f), .int .i64 kept, .int .i64 torn] h) fun r h' => r = .ret (.tup []) ∧ ∃ D' vs' S, DiskAt lo h' db D' (upd fs f (crashF (fs f) kept torn)) vs' p ops B ∧ Tch S h h' ∧ ∀ b ∈ S, lo b by
    obtain ⟨_, h', e, rfl, D', vs', S, k⟩ := hK
    exact ⟨h', D', vs', S, e, k⟩
  rw [w_disk_file_crash]
  unfold disk_file_crash
  refine crash_do hn K hf hb ht (fun H v K4 => ?_)
  have C := K.cells f hf
  have Mf := K.mem f hf
  have hlen := K.len
  have hdb := K.hdb
  have hcl := crashC_len kept torn (K.ok f hf)
  have hdb4 : db < H.next := Nat.lt_of_lt_of_le hdb K4.tch.1
  have g0 : ((D.set (5 * f + 0) (.bool (crashC (fs f) kept torn).th)).set (5 * f + 0 + 1) v)[5 * f + 0]? = some (.bool (crashC (fs f) kept torn).th) := by
    rw [List.getElem?_set_ne (by omega), List.getElem?_set_self (by omega)]
  have g1 : ((D.set (5 * f + 0) (.bool (crashC (fs f) kept torn).th)).set (5 * f + 0 + 1) v)[5 * f + 0 + 1]? = some v := by
    rw [List.getElem?_set_self (by rw [List.length_set]; omega)]
  obtain ⟨h5, v5, e5, k5, t5, s5⟩ := copy_ok (n := n) (d := d) K4.row hdb4 g0 g1 K4.buf K4.ex (by omega)
  refine Wp.obind (nilC_ptr _ _) (Wp.obind (fldP_ptr _ _ _) (Wp.callN e5 (Wp.obind (avAgg_agg _) (Wp.obind (nilC_ptr _ _) (Wp.obind (fldP_ptr _ _ _) ?_)))))
  have hn5 := t5.1
  have kr5 := K4.row.tch t5 hdb4 (fun h => nomatch h)
  have hl4 : ((D.set (5 * f + 0) (.bool (crashC (fs f) kept torn).th)).set (5 * f + 0 + 1) v).length = 162 := by rw [List.length_set, List.length_set]; exact hlen
  refine Wp.stN kr5 (rfl : ([.bool (crashC (fs f) kept torn).th, v5] : List AV).length = 2) (show 5 * f + 2 + 2 ≤ _ by omega) (by rw [show [AV.bool (crashC (fs f) kept torn).th, v5].all AV.one = (true && (v5.one && true)) from rfl, k5.one.1]; rfl) fun h6 k6 t6 n6 => ?_
  rw [laid2 (show 5 * f + 2 + 1 < _ by omega)] at k6
  refine Wp.obind (nilC_ptr _ _) (Wp.obind (fldP_ptr _ _ _) ?_)
  show Wp (Abs.obind (stRow h6 1 [AV.nsl] (.ptr db (5 * f + 4))) _) _
  refine Wp.st1 k6 (show 5 * f + 4 < _ by rw [List.length_set, List.length_set]; omega) rfl fun h7 k7 t7 n7 => ?_
  have hn4 := K4.tch.1
  have td : ∀ b ∈ [db], b ∈ db :: blkV (vs f 0) ∨ h.next ≤ b := fun b hb => .inl (by rw [List.mem_singleton.1 hb]; exact List.mem_cons_self)
  have T : Tch (db :: blkV (vs f 0)) h h7 := (((K4.tch.trans' t5 fun b hb => nomatch hb).trans' t6 td).trans' t7 td)
  have nd5 : db ∉ blkV v5 := fun hb => by
    have := s5 _ hb
    omega
  have KU := K.upd (B' := B) (x := crashF (fs f) kept torn) (w := fun k => if k = 0 then v else if k = 1 then v5 else .nsl) hf T (fun b hb => ?_) k7 (by rw [List.length_set, List.length_set, List.length_set]; exact hl4) ⟨?_, ?_, ?_, ?_, ?_⟩ (fun i hi => ?_) (fun k hk b hb => ?_) (fun k l hk hl hne b hb hb' => ?_) ⟨?_, ?_, ?_⟩ (crashF_ok kept torn (K.ok f hf)) (Nat.le_refl _)
  · refine Wp.ret ⟨rfl, _, _, db :: blkV (vs f 0), KU, T, fun b hb => ?_⟩
    rcases List.mem_cons.1 hb with hb | hb
    · rw [hb]
      exact K.hlo
    · exact K.low f 0 hf (by decide) b hb
  · rcases List.mem_cons.1 hb with hb | hb
    · exact .inl hb
    · exact .inr ⟨0, by decide, hb⟩
  · rw [List.getElem?_set_ne (by omega), List.getElem?_set_ne (by omega), List.getElem?_set_ne (by omega)]
    exact g0
  · rw [List.getElem?_set_ne (by omega), List.getElem?_set_ne (by omega), List.getElem?_set_ne (by omega)]
    exact g1
  · rw [List.getElem?_set_ne (by omega), List.getElem?_set_ne (by omega), List.getElem?_set_self (by omega)]
    rfl
  · rw [List.getElem?_set_ne (by omega), List.getElem?_set_self (by rw [List.length_set]; omega)]
    rfl
  · rw [List.getElem?_set_self (by rw [List.length_set, List.length_set]; omega)]
    rfl
  · rw [List.getElem?_set_ne (by omega), List.getElem?_set_ne (by omega), List.getElem?_set_ne (by omega), List.getElem?_set_ne (by omega), List.getElem?_set_ne (by omega)]
  · rcases k with _ | _ | k
    · exact K4.sub b hb
    · right
      have := s5 b hb
      omega
    · exact nomatch hb
  · have q01 : b ∈ blkV v → b ∈ blkV v5 → False := fun h0 h1 => by
      have h2 := s5 b h1
      have h3 := K4.buf.lt b h0
      omega
    rcases k with _ | _ | k <;> rcases l with _ | _ | l
    · omega
    · exact q01 hb hb'
    · exact nomatch hb'
    · exact q01 hb' hb
    · omega
    · exact nomatch hb'
    · exact nomatch hb
    · exact nomatch hb
    · exact nomatch hb
  · have k1 := K4.buf.tch t5 (fun _ _ h => nomatch h)
    have k2 := k1.tch t6 fun b hb hm => K4.ndb (List.mem_singleton.1 hm ▸ hb)
    exact k2.tch t7 fun b hb hm => K4.ndb (List.mem_singleton.1 hm ▸ hb)
  · have k2 := k5.tch t6 fun b hb hm => nd5 (List.mem_singleton.1 hm ▸ hb)
    exact k2.tch t7 fun b hb hm => nd5 (List.mem_singleton.1 hm ▸ hb)
  · exact .inl ⟨rfl, rfl⟩
/-- whole numbers that can be read, whatever becomes of the disk -/
def RdI (lo : Nat → Prop) (h : AHeap) (lv : AV) (zs : List Int) : Prop := lenL lv = some (zs.length : Int) ∧ ∀ S H, Tch S h H → (∀ b ∈ S, lo b) → ∀ (i : Nat) (hi : i < zs.length), ∃ p, idxP 1 lv (i : Int) = some p ∧ ldCell H p = some (.int .i64 zs[i])
theorem RdI.tch {S : List Nat} {h h' : AHeap} {lv : AV} {zs : List Int} (k : RdI lo h lv zs) (t : Tch S h h') (hS : ∀ b ∈ S, lo b) : RdI lo h' lv zs :=
  ⟨k.1, fun S' H t' hS' i hi => k.2 (S ++ S') H ((t.mono fun _ hb => .inl (List.mem_append_left _ hb)).trans (t'.mono fun _ hb => .inl (List.mem_append_right _ hb))) (fun b hb => (List.mem_append.1 hb).elim (hS b) (hS' b)) i hi⟩
def keepAt (zs : List Int) (f : Nat) : Int := zs.getD f 0
def crashD (s : DS) (zs : List Int) (torn : Int) : DS := ⟨fun f => if f < 32 then crashF (s.fs f) (keepAt zs f) torn else s.fs f, -1, s.ops⟩
theorem crash_loop (hn : 1000000 < n) (hb : B < 900000) {torn : Int} (ht : torn < 9223372036854775808) {lv : AV} {zs : List Int} (hz : zs.length < 9223372036854775808) {k11 : AHeap → R} {Q : ARes → AHeap → Prop}
    (hk : ∀ S H, At lo H db ⟨fun f => if f < 32 then crashF (s.fs f) (keepAt zs f) torn else s.fs f, s.p, s.ops⟩ B → Tch S h H → (∀ b ∈ S, lo b) → Wp (k11 H) Q) :
    ∀ (r i fu : Nat) (H : AHeap) (S : List Nat), r + i = 32 → r < fu → At lo H db ⟨fun f => if f < i then crashF (s.fs f) (keepAt zs f) torn else s.fs f, s.p, s.ops⟩ B → Tch S h H → (∀ b ∈ S, lo b) → RdI lo H lv zs →
      Wp (disk_Disk_Crash_L0 (world n (d + 3)) (.ptr db 0) lv torn k11 fu (i : Int) H) Q
  | _, _, 0, _, _, _, hf, _, _, _, _ => by omega
  | 0, i, fu + 1, H, S, hi, hf, K, t, hS, rd => by
    obtain rfl : i = 32 := by omega
    rw [disk_Disk_Crash_L0_s]
    unfold disk_Disk_Crash_L0b
    refine Wp.lett (Wp.iff rfl ?_)
    exact hk S H K t hS
  | r + 1, i, fu + 1, H, S, hi, hf, K, t, hS, rd => by
    obtain ⟨D, vs, K⟩ := K
    have hi32 : i < 32 := by omega
    rw [disk_Disk_Crash_L0_s]
    unfold disk_Disk_Crash_L0b
    refine Wp.lett (Wp.ift (by rw [decide_eq_true_eq]; omega) ?_)
    refine Wp.obind rd.1 (Wp.lett (Wp.lettG fun k32 e32 => ?_))
    have next : ∀ z : Int, z = keepAt zs i → Wp (k32 z H) Q := by
      intro z hzk
      rw [e32, hzk]
      refine Wp.obind (nilC_ptr _ _) (Wp.obind (fldP_ptr _ _ _) (Wp.obind (idxF hi32) ?_))
      obtain ⟨h2, D2, vs2, S2, e2, K2, t2, hS2⟩ := fcrash_ok (n := n) (d := d) hn K hi32 hb (kept := keepAt zs i) ht
      refine Wp.callN e2 (Wp.lettw (by omega) (by omega) ?_)
      rw [show (i : Int) + 1 = ((i + 1 : Nat) : Int) by omega]
      refine crash_loop hn hb ht hz hk r (i + 1) fu h2 (S ++ S2) (by omega) (by omega) ⟨D2, vs2, ?_⟩ ((t.mono fun _ hb => .inl (List.mem_append_left _ hb)).trans (t2.mono fun _ hb => .inl (List.mem_append_right _ hb))) (fun b hb => (List.mem_append.1 hb).elim (hS b) (hS2 b)) (rd.tch t2 hS2)
      have ef : upd (fun f => if f < i then crashF (s.fs f) (keepAt zs f) torn else s.fs f) i (crashF ((fun f => if f < i then crashF (s.fs f) (keepAt zs f) torn else s.fs f) i) (keepAt zs i) torn) = fun f => if f < i + 1 then crashF (s.fs f) (keepAt zs f) torn else s.fs f := by
        funext j
        unfold Go.Proofs.Ytcbnpdfingfmgaa.upd
        dsimp only
        by_cases e : j = i
        · subst e
          rw [if_pos rfl, if_neg (Nat.lt_irrefl _), if_pos (Nat.lt_succ_self _)]
        · rw [if_neg e]
          by_cases e2 : j < i
          · rw [if_pos e2, if_pos (by omega)]
          · rw [if_neg e2, if_neg (by omega)]
      rw [← ef]
      exact K2
    by_cases h1 : i < zs.length
    · obtain ⟨pp, q1, q2⟩ := rd.2 [] H (Tch.refl _ _) (fun _ h => nomatch h) i h1
      refine Wp.ift (by rw [decide_eq_true_eq]; omega) (Wp.obind q1 (Wp.obind q2 (Wp.obind (avInt_int _ _) ?_)))
      refine next _ ?_
      unfold keepAt
      rw [List.getD_eq_getElem?_getD, List.getElem?_eq_getElem h1]
      rfl
    · refine Wp.iff (by rw [decide_eq_false_iff_not]; omega) ?_
      refine next _ ?_
      unfold keepAt
      rw [List.getD_eq_getElem?_getD, List.getElem?_eq_none (by omega)]
      rfl
theorem crash_ok (hn : 1000000 < n) (hb : B < 900000) {torn : Int} (ht : torn < 9223372036854775808) {lv : AV} {zs : List Int} (hz : zs.length < 9223372036854775808) (K : At lo h db s B) (rd : RdI lo h lv zs) :
    Does lo db h (world n (d + 4) 14 [.ptr db 0, lv, .int .i64 torn] h) 0 (crashD s zs torn) B := by
  apply Does.of
  rw [w_disk_Disk_Crash]
  unfold disk_Disk_Crash
  refine Wp.outK (eqDisk db 0 h) (Wp.obind (avBool_bool _) (Wp.iff rfl (Wp.lettG fun k11 e11 => ?_)))
  refine crash_loop (s := s) hn hb ht hz (fun S H K' t hS => ?_) 32 0 n h [] rfl (by omega) ?_ (Tch.refl _ _) (fun _ h => nomatch h) rd
  · obtain ⟨D, vs, K'⟩ := K'
    have hl := K'.len
    rw [e11]
    refine Wp.obind (nilC_ptr _ _) (Wp.obind (fldP_ptr _ _ _) ?_)
    refine Wp.st1 K'.row (show 0 + 160 < D.length by omega) rfl fun h2 k2 t2 n2 => ?_
    rw [Nat.zero_add] at k2
    refine Wp.ret ⟨rfl, db :: S, ⟨_, vs, K'.setP (p' := -1) ⟨Int.le_refl _, by decide⟩ k2 t2⟩, (t.mono fun _ hb => .inl (List.mem_cons_of_mem _ hb)).trans' t2 fun b hb => .inl (by rw [List.mem_singleton.1 hb]; exact List.mem_cons_self), fun b hb => ?_⟩
    rcases List.mem_cons.1 hb with hb | hb
    · rw [hb]
      exact K'.hlo
    · exact hS b hb
  · have e : (fun f => if f < 0 then crashF (s.fs f) (keepAt zs f) torn else s.fs f) = s.fs := by
      funext j
      rw [if_neg (Nat.not_lt_zero _)]
    rw [e]
    exact K
end
end Go.Proofs.Ytcbnpdfingfmgaa
