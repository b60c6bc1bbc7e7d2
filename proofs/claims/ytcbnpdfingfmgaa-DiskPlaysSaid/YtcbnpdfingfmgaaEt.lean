/- One step of both disks. -/
import Derived.Test.YtcbnpdfingfmgaaEs
namespace Go.Proofs.Ytcbnpdfingfmgaa
open Go.RowKit Abs
def LTS (s : DS) : Prop := ∀ f, f < 32 → LegalT (s.fs f).sure (s.fs f).loose
theorem SOk.of {lo : Nat → Prop} {h : AHeap} {db B : Nat} {s : DS} (K : At lo h db s B) (L : LTS s) : SOk s B := by
  obtain ⟨D, vs, K⟩ := K
  exact ⟨K.ok, L, K.hp, K.ho⟩
theorem own_th {x : FileS} {c : Chg} (h : ownE x c = 0) (hk : c.k = 1) : x.seen.th = true := by
  unfold ownE at h
  rw [if_neg (by omega)] at h
  split at h
  · omega
  · rename_i h1
    cases e : x.seen.th with
    | true => rfl
    | false => exact absurd e h1
theorem LTS.upd {s : DS} {z : Nat} {x : FileS} {p : Int} {o : Nat} (L : LTS s) (hx : LegalT x.sure x.loose) : LTS ⟨upd s.fs z x, p, o⟩ := by
  intro f hf
  show LegalT (Go.Proofs.Ytcbnpdfingfmgaa.upd s.fs z x f).sure (Go.Proofs.Ytcbnpdfingfmgaa.upd s.fs z x f).loose
  unfold Go.Proofs.Ytcbnpdfingfmgaa.upd
  by_cases e : f = z
  · rw [if_pos e]
    exact hx
  · rw [if_neg e]
    exact L f hf
theorem LTS.act {s : DS} {B : Nat} {z : Int} {c : Chg} (k : SOk s B) : LTS (actD s z c) := by
  by_cases h0 : errP s z c = 0
  · have h1 := h0
    rw [errP_step] at h1
    obtain ⟨hp, f, rfl, hf⟩ := step_in h1
    have r0 : refP s.p (f : Int) = 0 := by
      unfold refP
      rw [if_neg hp, if_pos (by omega)]
    rw [err_ok r0] at h0
    rw [act_ok r0 h0]
    refine LTS.upd k.lt ?_
    show LegalT (s.fs f).sure ((s.fs f).loose ++ [c])
    exact LegalT_snoc _ _ _ (k.lt f hf) (fun hk => by rw [← (k.ok f hf).1]; exact own_th h0 hk)
  · rw [act_no h0]
    exact k.lt
theorem LTS.syn {s : DS} (L : LTS s) (z : Int) : LTS (synD s z) := by
  unfold synD
  split
  · exact LTS.upd L trivial
  · exact L
theorem LTS.crash (s : DS) (zs : List Int) (torn : Int) : LTS (crashD s zs torn) := by
  intro f hf
  show LegalT (if f < 32 then crashF (s.fs f) (keepAt zs f) torn else s.fs f).sure (if f < 32 then crashF (s.fs f) (keepAt zs f) torn else s.fs f).loose
  rw [if_pos hf]
  exact trivial
theorem IAt.rdi {lo : Nat → Prop} {h : AHeap} {v : AV} {zs : List Int} (k : IAt h v zs) (hb : ∀ b ∈ blkV v, ¬ lo b) : RdI lo h v zs :=
  ⟨k.len, fun _ _ t hS _ hi => (k.tch t fun b hbb hm => hb b hbb (hS b hm)).at hi⟩
theorem slc_rdz {N : Nat} {h : AHeap} {v : AV} {zs : List Int} (k : Slc N h 1 v (zs.map fun z => [.int .i64 z])) : RdZ h v zs := by
  refine ⟨by have := k.len; rw [List.length_map] at this; exact this, fun i hi => ?_⟩
  obtain ⟨b, _, h1, h2⟩ := k.cell (f := .int .i64) hi
  exact ⟨_, h1, h2⟩
theorem slc_rdi {lo : Nat → Prop} {N : Nat} {h : AHeap} {v : AV} {zs : List Int} (k : Slc N h 1 v (zs.map fun z => [.int .i64 z])) (hN : N ≤ h.next) (hl : ∀ b, lo b → N ≤ b) : RdI lo h v zs :=
  ⟨(slc_rdz k).1, fun _ _ t hS i hi => (slc_rdz (k.tch t hN fun b hb => hl b (hS b hb))).2 i hi⟩
/-- both disks, in one memory -/
structure Two (N : Nat) (lo : Nat → Prop) (h : AHeap) (db rb : Nat) (s : DS) (B : Nat) : Prop where
  K : At lo h db s B
  V : RefAt lo h rb s
  L : LTS s
  hl : ∀ b, lo b → N ≤ b
  hr : N ≤ rb
  hN : N ≤ h.next
theorem shr_le {lo : Nat → Prop} {a b : Nat} : ∀ i, shr lo a b i → lo i := fun _ h => h.1
section
variable {N n d db rb B : Nat} {lo : Nat → Prop} {h h' : AHeap} {s : DS}
/-- new blocks are neither's -/
theorem Two.part (W : Two N lo h db rb s B) (t : Tch [] h h') : Two N (shr lo h.next h'.next) h' db rb s B :=
  ⟨W.K.part t (fun _ h => nomatch h), W.V.tch t (fun _ h => nomatch h) (fun _ h _ => h.1), W.L, fun b hb => W.hl b hb.1, W.hr, Nat.le_trans W.hN t.1⟩
theorem Two.dok (W : Two N lo h db rb s B) : SOk s B := SOk.of W.K W.L
def DoesBoth (N : Nat) (h : AHeap) (db rb : Nat) (x : R) (B' : Nat) : Prop := ∃ h' lo' s', x = some (.ret (.bool true), h') ∧ Two N lo' h' db rb s' B' ∧ ∃ S, Tch S h h' ∧ ∀ b ∈ S, N ≤ b
theorem nlo_part {h0 h1 : AHeap} {b : Nat} (h2 : h0.next ≤ b) (h3 : b < h1.next) : ¬ shr lo h0.next h1.next b := fun hh => by
  rcases hh.2 with h | h <;> omega
set_option maxHeartbeats 2000000 in
theorem does_ok (hn : reachBytes < n) (W : Two N lo h db rb s B) {x : StpR} (ok : StpOk N h x) (hB : B + x.s.length < 800000) (hx : x.s.length ≤ 100000) : DoesBoth N h db rb (world n (d + 5) 25 [.ptr db 0, .ptr rb 0, .agg (stpC x)] h) (B + x.s.length + 2) := by
  have hrb : reachBytes = 140737488351232 := rfl
  suffices hK : Wp (world n (d + 5) 25 [.ptr db 0, .ptr rb 0, .agg (stpC x)] h) fun r h' => r = .ret (.bool true) ∧ ∃ lo' s', Two N lo' h' db rb s' (B + x.s.length + 2) ∧ ∃ S, Tch S h h' ∧ ∀ b ∈ S, N ≤ b by
    obtain ⟨_, h', e, rfl, lo', s', k⟩ := hK
    exact ⟨h', lo', s', e, k⟩
  rw [w_law04_does]
  unfold law04_does
  refine Wp.mbox (Mem.nil [] h) (stp_one ok.one) fun h2 M2 => ?_
  have t2 := M2.tch
  have hbox : h.next < h2.next := M2.at0.2.1
  have kb := M2.at0.1
  have W2 := W.part t2
  have hnb : ¬ shr lo h.next h2.next h.next := nlo_part (Nat.le_refl _) hbox
  have hd2 := W2.dok
  have hN2 := W2.hN
  have g0 : (stpC x)[0]? = some (.int .i64 x.k) := rfl
  have g1 : (stpC x)[1]? = some (.int .i64 x.f) := rfl
  have g2 : (stpC x)[2]? = some (.int .i64 x.n) := rfl
  have g3 : (stpC x)[3]? = some (strA x.s) := rfl
  have g4 : (stpC x)[4]? = some x.v := rfl
  have hrbn : rb ≠ h.next := by
    obtain ⟨_, _, V⟩ := W.V
    have := V.hrb
    omega
  refine Wp.obind (fldP_ptr _ _ _) (Wp.ld0 M2 g0 (Wp.obind (avInt_int _ _) (Wp.lett ?_)))
  have fin : ∀ {h3 h4 : AHeap} {S3 : List Nat} {s' : DS} {B' : Nat} {lo4 : Nat → Prop}, Tch S3 h2 h3 → (∀ b ∈ S3, shr lo h.next h2.next b) → Tch [rb] h3 h4 → Two N lo4 h4 db rb s' B' → ∃ S, Tch S h h4 ∧ ∀ b ∈ S, N ≤ b := by
    intro h3 h4 S3 s' B' lo4 t3 hS3 t4 _
    refine ⟨S3 ++ [rb], ((t2.mono fun _ hb => nomatch hb).trans (t3.mono fun _ hb => .inl (List.mem_append_left _ hb))).trans (t4.mono fun _ hb => .inl (List.mem_append_right _ hb)), fun b hb => ?_⟩
    rcases List.mem_append.1 hb with hb | hb
    · exact W.hl b (hS3 b hb).1
    · rw [List.mem_singleton.1 hb]
      exact W.hr
  -- a change of both
  have chg : ∀ (c : Chg) (z : Int) (h3 : AHeap) (S3 : List Nat) (B' : Nat), At (shr lo h.next h2.next) h3 db (actD s z c) B' → Tch S3 h2 h3 → (∀ b ∈ S3, shr lo h.next h2.next b) → B' ≤ B + x.s.length + 2 →
      ∃ h4, world n (d + 4) 35 [.ptr rb 0, .int .i64 z, .agg (chgR c)] h3 = some (.ret (.int .i64 (errP s z c)), h4) ∧ ∃ lo' s', Two N lo' h4 db rb s' (B + x.s.length + 2) ∧ ∃ S, Tch S h h4 ∧ ∀ b ∈ S, N ≤ b := by
    intro c z h3 S3 B' K3 t3 hS3 hBB
    obtain ⟨D, vs, V3⟩ := W2.V.tch (lo' := shr lo h.next h2.next) t3 (fun b hb => .inl (hS3 b hb)) (fun _ h _ => h)
    obtain ⟨h4, e4, t4, V4⟩ := change_r (n := n) (d := d) (c := c) (z := z) (by omega) V3 hd2 (by omega) K3.ex
    have K4 := K3.part t4 (fun b hb => .inl (by rw [List.mem_singleton.1 hb]; exact V3.nlo))
    have hn3 := t3.1
    have hn4 := t4.1
    have W4 : Two N (shr (shr lo h.next h2.next) h3.next h4.next) h4 db rb (actD s z c) (B + x.s.length + 2) := ⟨K4.mono hBB, V4, LTS.act hd2, fun b hb => W.hl b hb.1.1, W.hr, by omega⟩
    exact ⟨h4, e4, _, _, W4, fin t3 hS3 t4 W4⟩
  have box : ∀ {h3 : AHeap} {S3 : List Nat}, Tch S3 h2 h3 → (∀ b ∈ S3, shr lo h.next h2.next b) → RowH h3 h.next 43 (stpC x) := fun t3 hS3 => kb.tch t3 hbox fun hm => hnb (hS3 _ hm)
  by_cases h0 : x.k = 0
  · refine Wp.ift (beq_t h0) ?_
    obtain ⟨h3, S3, e3, K3, t3, hS3⟩ := append_ok (n := n) (d := d + 1) (u := x.s) (z := x.f) (by omega) W2.K (by omega)
    obtain ⟨h4, e4, k4⟩ := chg ⟨0, x.s, 0⟩ x.f h3 S3 _ K3 t3 hS3 (by omega)
    have b3 := box t3 hS3
    refine Wp.obind (fldP_ptr _ _ _) (Wp.ld0 M2 g1 (Wp.obind (avInt_int _ _) (Wp.obind (fldP_ptr _ _ _) (Wp.ld0 M2 g3 (Wp.obind (avStr_str _) (Wp.obind (fldP_ptr _ _ _) (Wp.ld0 M2 g1 (Wp.obind (avInt_int _ _) (Wp.obind (fldP_ptr _ _ _) (Wp.ld0 M2 g3 (Wp.obind (avStr_str _) (Wp.callN e3 (Wp.obind (avInt_int _ _) ?_)))))))))))))
    refine Wp.chk (and_t (reLoad_c (by kernel_rfl) (RowH.cell' b3 g3)) (and_t (reLoad_c (by kernel_rfl) (RowH.cell' b3 g1)) rfl)) (Wp.callN e4 (Wp.obind (avInt_int _ _) (Wp.lett ?_)))
    rw [show (errP s x.f ⟨0, x.s, 0⟩ == errP s x.f ⟨0, x.s, 0⟩) = true from beq_t rfl]
    exact Wp.ret ⟨rfl, k4⟩
  refine Wp.iff (beq_f h0) (Wp.lett ?_)
  by_cases h1 : x.k = 1
  · refine Wp.ift (beq_t h1) ?_
    obtain ⟨h3, S3, e3, K3, t3, hS3⟩ := cut_ok (n := n) (d := d + 1) (m := x.n) (z := x.f) (by omega) W2.K (by omega)
    obtain ⟨h4, e4, k4⟩ := chg ⟨1, [], x.n⟩ x.f h3 S3 _ K3 t3 hS3 (by omega)
    have b3 := box t3 hS3
    refine Wp.obind (fldP_ptr _ _ _) (Wp.ld0 M2 g1 (Wp.obind (avInt_int _ _) (Wp.obind (fldP_ptr _ _ _) (Wp.ld0 M2 g2 (Wp.obind (avInt_int _ _) (Wp.obind (fldP_ptr _ _ _) (Wp.ld0 M2 g1 (Wp.obind (avInt_int _ _) (Wp.obind (fldP_ptr _ _ _) (Wp.ld0 M2 g2 (Wp.obind (avInt_int _ _) (Wp.callN e3 (Wp.obind (avInt_int _ _) ?_)))))))))))))
    refine Wp.chk (and_t (reLoad_c (by kernel_rfl) (RowH.cell' b3 g2)) (and_t (reLoad_c (by kernel_rfl) (RowH.cell' b3 g1)) rfl)) (Wp.callN e4 (Wp.obind (avInt_int _ _) (Wp.lett ?_)))
    rw [show (errP s x.f ⟨1, [], x.n⟩ == errP s x.f ⟨1, [], x.n⟩) = true from beq_t rfl]
    exact Wp.ret ⟨rfl, k4⟩
  refine Wp.iff (beq_f h1) (Wp.lett ?_)
  by_cases h2' : x.k = 2
  · refine Wp.ift (beq_t h2') ?_
    obtain ⟨h3, S3, e3, K3, t3, hS3⟩ := remove_ok (n := n) (d := d + 1) (z := x.f) (by omega) W2.K (by omega)
    obtain ⟨h4, e4, k4⟩ := chg ⟨2, [], 0⟩ x.f h3 S3 _ K3 t3 hS3 (by omega)
    have b3 := box t3 hS3
    refine Wp.obind (fldP_ptr _ _ _) (Wp.ld0 M2 g1 (Wp.obind (avInt_int _ _) (Wp.obind (fldP_ptr _ _ _) (Wp.ld0 M2 g1 (Wp.obind (avInt_int _ _) (Wp.callN e3 (Wp.obind (avInt_int _ _) ?_)))))))
    refine Wp.chk (and_t (reLoad_c (by kernel_rfl) (RowH.cell' b3 g1)) rfl) (Wp.callN e4 (Wp.obind (avInt_int _ _) (Wp.lett ?_)))
    rw [show (errP s x.f ⟨2, [], 0⟩ == errP s x.f ⟨2, [], 0⟩) = true from beq_t rfl]
    exact Wp.ret ⟨rfl, k4⟩
  refine Wp.iff (beq_f h2') (Wp.lett ?_)
  by_cases h3' : x.k = 3
  · refine Wp.ift (beq_t h3') ?_
    obtain ⟨h3, S3, e3, K3, t3, hS3⟩ := sync_ok (n := n) (d := d + 1) (z := x.f) (by omega) W2.K (by omega)
    have b3 := box t3 hS3
    obtain ⟨D, vs, V3⟩ := W2.V.tch (lo' := shr lo h.next h2.next) t3 (fun b hb => .inl (hS3 b hb)) (fun _ h _ => h)
    obtain ⟨h4, e4, t4, V4⟩ := sync_r (n := n) (d := d + 1) (z := x.f) (by omega) V3 hd2 (by omega)
    have K4 := K3.part t4 (fun b hb => .inl (by rw [List.mem_singleton.1 hb]; exact V3.nlo))
    have hn3 := t3.1
    have hn4 := t4.1
    have W4 : Two N (shr (shr lo h.next h2.next) h3.next h4.next) h4 db rb (synD s x.f) (B + x.s.length + 2) := ⟨K4.mono (by omega), V4, LTS.syn W.L _, fun b hb => W.hl b hb.1.1, W.hr, by omega⟩
    refine Wp.obind (fldP_ptr _ _ _) (Wp.ld0 M2 g1 (Wp.obind (avInt_int _ _) (Wp.obind (fldP_ptr _ _ _) (Wp.ld0 M2 g1 (Wp.obind (avInt_int _ _) (Wp.callN e3 (Wp.obind (avInt_int _ _) ?_)))))))
    refine Wp.chk (and_t (reLoad_c (by kernel_rfl) (RowH.cell' b3 g1)) rfl) (Wp.callN e4 (Wp.obind (avInt_int _ _) (Wp.lett ?_)))
    rw [show (refP s.p x.f == refP s.p x.f) = true from beq_t rfl]
    exact Wp.ret ⟨rfl, _, _, W4, fin t3 hS3 t4 W4⟩
  refine Wp.iff (beq_f h3') (Wp.lett ?_)
  by_cases h4' : x.k = 4
  · refine Wp.ift (beq_t h4') (Wp.obind (fldP_ptr _ _ _) (Wp.ld0 M2 g2 (Wp.obind (avInt_int _ _) (Wp.lett (Wp.obind (nilC_ptr _ _) (Wp.obind (fldP_ptr _ _ _) ?_))))))
    obtain ⟨D, vs, V2⟩ := W2.V
    have hl2 := V2.len
    refine Wp.st1 V2.row (show 0 + 96 < D.length by omega) rfl fun h3 k3 t3 n3 => ?_
    have V3 := V2.po (lo' := shr lo h.next h2.next) (p' := if -1 > x.n then -1 else x.n) (o' := s.ops) t3 (fun _ h _ => h) k3 (by rw [List.length_set]; exact hl2) (fun i hi => by rw [List.getElem?_set_ne (by omega)]) (by rw [Nat.zero_add, List.getElem?_set_self (by omega)]) (by rw [List.getElem?_set_ne (by omega)]; exact V2.co)
    have K3 := W2.K.tch t3 (fun b hb => .inl (by rw [List.mem_singleton.1 hb]; exact V2.nlo))
    have b3 : RowH h3 h.next 43 (stpC x) := kb.tch t3 hbox fun hm => hrbn (List.mem_singleton.1 hm).symm
    obtain ⟨h4, S4, e4, K4, t4, hS4⟩ := power_ok (n := n) (d := d + 3) (m := x.n) ok.2.2.1.2 K3
    refine Wp.obind (fldP_ptr _ _ _) (Wp.obind (RowH.cell' b3 g2) (Wp.obind (avInt_int _ _) (Wp.callN e4 (Wp.obind (avInt_int _ _) (Wp.lett ?_)))))
    have hn3 := t3.1
    have hn4 := t4.1
    have W4 : Two N (shr lo h.next h2.next) h4 db rb ⟨s.fs, if -1 > x.n then -1 else x.n, s.ops⟩ (B + x.s.length + 2) := ⟨K4.mono (by omega), RefAt.tch ⟨_, _, V3⟩ t4 (fun b hb => .inl (hS4 b hb)) (fun _ h _ => h), W.L, fun b hb => W.hl b hb.1, W.hr, by omega⟩
    refine Wp.ret ⟨rfl, _, _, W4, [rb] ++ S4, ((t2.mono fun _ hb => nomatch hb).trans (t3.mono fun _ hb => .inl (List.mem_append_left _ hb))).trans (t4.mono fun _ hb => .inl (List.mem_append_right _ hb)), fun b hb => ?_⟩
    rcases List.mem_append.1 hb with hb | hb
    · rw [List.mem_singleton.1 hb]
      exact W.hr
    · exact W.hl b (hS4 b hb).1
  refine Wp.iff (beq_f h4') ?_
  obtain ⟨_, _, hxn, _, zs, hzs, hz1, hz2⟩ := id ok
  have hzs2 := hzs.tch t2 W.hN (fun _ h => nomatch h)
  obtain ⟨h3, v3, e3, k3, t3, s3⟩ := cloneI_ok (n := n) (d := d + 3) hzs2 hN2 W2.K.ex (by omega)
  have hn3 := t3.1
  have b3 := kb.tch t3 hbox (fun h => nomatch h)
  have W3 := W2.part t3
  have hzs3 := hzs2.tch t3 hN2 (fun _ h => nomatch h)
  have l3 := k3.lt
  obtain ⟨h4, e4, t4, V4⟩ := crash_r (n := n) (d := d + 2) (torn := x.n) (lv := x.v) (zs := zs) (by omega) W3.V W3.dok (by omega) hxn.2 (slc_rdi hzs3 W3.hN (fun b hb => hb.elim (W3.hl b) (fun e => e ▸ W.hr)))
  have hn4 := t4.1
  have nrb3 : ¬ shr (shr lo h.next h2.next) h2.next h3.next rb := by
    obtain ⟨_, _, V⟩ := W3.V
    exact V.nlo
  have rb2 : rb < h2.next := by
    obtain ⟨_, _, V⟩ := W2.V
    exact V.hrb
  have K4 := W3.K.tch t4 (fun b hb => .inl (by rw [List.mem_singleton.1 hb]; exact nrb3))
  have b4 := b3.tch t4 (Nat.lt_of_lt_of_le hbox hn3) (fun hm => hrbn (List.mem_singleton.1 hm).symm)
  have k4 := k3.tch t4 (fun b hb hm => by
    have h1 := s3 b hb
    have h2 := List.mem_singleton.1 hm
    omega)
  have nl3 : ∀ b ∈ blkV v3, ¬ shr (shr lo h.next h2.next) h2.next h3.next b := fun b hb => nlo_part (s3 b hb) (l3 b hb)
  obtain ⟨h5, S5, e5, K5, t5, hS5⟩ := crash_ok (n := n) (d := d) (torn := x.n) (by omega) (by omega) hxn.2 (by omega) K4 (k4.rdi nl3)
  have hn5 := t5.1
  have b5 := b4.tch t5 (Nat.lt_of_lt_of_le hbox (Nat.le_trans hn3 hn4)) (fun hm => hnb (hS5 _ hm).1)
  have k5 := k4.tch t5 (fun b hb hm => nl3 b hb (hS5 b hm))
  have hzs5 := (hzs3.tch t4 W3.hN (fun b hb => by rw [List.mem_singleton.1 hb]; exact W.hr)).tch t5 (Nat.le_trans W3.hN hn4) (fun b hb => W.hl b (hS5 b hb).1.1)
  have W5 : Two N (shr (shr lo h.next h2.next) h2.next h3.next) h5 db rb (crashD s zs x.n) (B + x.s.length + 2) := ⟨K5.mono (by omega), V4.tch t5 (fun b hb => .inl (hS5 b hb)) (fun _ h _ => h), LTS.crash _ _ _, fun b hb => W.hl b hb.1.1, W.hr, by have := W3.hN; omega⟩
  refine Wp.obind (fldP_ptr _ _ _) (Wp.ld0 M2 g4 (Wp.callN e3 (Wp.obind (fldP_ptr _ _ _) (Wp.obind (RowH.cell' b3 g4) (Wp.obind (fldP_ptr _ _ _) (Wp.obind (RowH.cell' b3 g2) (Wp.obind (avInt_int _ _) (Wp.callN e4 ?_))))))))
  refine Wp.obind (fldP_ptr _ _ _) (Wp.obind (RowH.cell' b4 g2) (Wp.obind (avInt_int _ _) (Wp.callN e5 (Wp.obind (avInt_int _ _) (Wp.lett (Wp.lettG fun j98 e98 => Wp.ift rfl ?_))))))
  refine Wp.obind (fldP_ptr _ _ _) (Wp.obind (RowH.cell' b5 g4) (Wp.callN (equal_i (n := n) (d := d + 3) k5.rdz (slc_rdz hzs5) (by omega) (by omega)) (Wp.obind (avBool_bool _) ?_)))
  rw [e98]
  refine Wp.ret ⟨rfl, _, _, W5, [rb] ++ S5, (((t2.trans t3).mono fun _ hb => nomatch hb).trans (t4.mono fun _ hb => .inl (List.mem_append_left _ hb))).trans (t5.mono fun _ hb => .inl (List.mem_append_right _ hb)), fun b hb => ?_⟩
  rcases List.mem_append.1 hb with hb | hb
  · rw [List.mem_singleton.1 hb]
    exact W.hr
  · exact W.hl b (hS5 b hb).1.1
end
end Go.Proofs.Ytcbnpdfingfmgaa
