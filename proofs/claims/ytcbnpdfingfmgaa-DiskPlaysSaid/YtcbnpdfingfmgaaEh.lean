/- The disk: Read, Loose, Sure; contents copied. -/
import Derived.Test.YtcbnpdfingfmgaaEf
namespace Go.Proofs.Ytcbnpdfingfmgaa
open Go.RowKit Abs
section
variable {h h' : AHeap} {v : AV} {u : Bytes} {l : List Chg}
theorem BufAt.conv (k : BufAt h v u) : opConv Try.prog h TBy 9 (some v) = some (.val (strA u), h) := by
  rcases k with ⟨rfl, rfl⟩ | ⟨c, rest, rfl, h2, h3⟩
  · kernel_rfl
  · refine conv_row (by kernel_rfl) (by kernel_rfl) ?_
    have hcl := bytesC_length u
    have := h2.part (o := 0) (n := (bytesC u).length) (by rw [List.length_append]; omega)
    rw [List.drop_zero, List.take_left' rfl, hcl] at this
    exact this
theorem eqBy_sl (b m : Nat) (h : AHeap) : opBin Try.prog h .eql TBy true (some (.sl b 0 m 1)) (some AV.nsl) = some (.val (.bool false), h) := by kernel_rfl
theorem eqBy_nil (h : AHeap) : opBin Try.prog h .eql TBy true (some .nsl) (some AV.nsl) = some (.val (.bool true), h) := by kernel_rfl
theorem bldBy0 (h : AHeap) : bldSl Try.prog h TBy 0 [] = outNewS h 5 [] 0 1 := by kernel_rfl
theorem Wp.mnews0 {h : AHeap} {e sz : Nat} {k : AV → AHeap → R} {Q : ARes → AHeap → Prop} {o : OutT} (e1 : o = outNewS h e [] 0 sz) (hex : memB e h.ex = false) (hk : Wp (k (.sl h.next 0 0 sz) (newH h e [])) Q) : Wp (Abs.outK o k) Q := by
  refine Wp.outK (v := .sl h.next 0 0 sz) (h1 := newH h e []) ?_ hk
  rw [e1]
  unfold outNewS
  rw [if_pos ⟨rfl, hex⟩]
  rfl
theorem clone_ok {n d : Nat} (k : BufAt h v u) (hx : h.ex = []) (hm : u.length ≤ 1000000000) : ∃ h' v', world n (d + 1) 42 [v] h = some (.ret v', h') ∧ BufAt h' v' u ∧ Tch [] h h' ∧ ∀ b ∈ blkV v', h.next ≤ b := by
  suffices hK : Wp (world n (d + 1) 42 [v] h) fun r h' => ∃ v', r = .ret v' ∧ BufAt h' v' u ∧ Tch [] h h' ∧ ∀ b ∈ blkV v', h.next ≤ b by
    obtain ⟨_, h', e, v', rfl, k⟩ := hK
    exact ⟨h', v', e, k⟩
  rw [w_slices_Clone___byte_byte_]
  unfold slices_Clone___byte_byte_
  have he : Abs.elemOf Try.prog TBy = some 5 := by kernel_rfl
  have hu : notInt Try.prog TBy = true := by kernel_rfl
  have hsz : Try.prog.cellsOf 5 = 1 := by kernel_rfl
  rcases k with ⟨rfl, rfl⟩ | ⟨c, rest, rfl, h2, h3⟩
  · refine Wp.outK (eqBy_nil h) (Wp.obind (avBool_bool _) (Wp.ift rfl ?_))
    exact Wp.ret ⟨_, rfl, .inl ⟨rfl, rfl⟩, Tch.refl _ _, fun _ h => nomatch h⟩
  · refine Wp.outK (eqBy_sl c u.length h) (Wp.obind (avBool_bool _) (Wp.iff rfl ?_))
    refine Wp.mnews0 (bldBy0 h) (by rw [hx]; rfl) ?_
    have hex : memB 5 (newH h 5 []).ex = false := by rw [ex_newH, hx]; rfl
    have kn := RowH.new h 5 []
    have hcl := bytesC_length u
    have k2 : RowH (newH h 5 []) c 5 (bytesC u ++ rest) := h2.tch (Tch.newH [] h _ _) h3 (fun h => nomatch h)
    have hfit := bytesFit_of (P := Try.prog) (e := 5) (B := 1) (k := 0 + u.length) fitBy (by omega) (by omega)
    have hpart : rowGet (newH h 5 []) c 0 (bytesC u).length = some (bytesC u) := by
      have := k2.part (o := 0) (n := (bytesC u).length) (by rw [List.length_append]; omega)
      rw [List.drop_zero, List.take_left' rfl] at this
      exact this
    have hfirst : ∀ m, m = u.length → firstA (newH h 5 []) 1 m (.sl c 0 u.length 1) = some (bytesC u) := by
      intro m hm
      rw [firstA_of_row (by omega), hm, Nat.mul_one, ← hcl]
      exact hpart
    by_cases h0 : u = []
    · subst h0
      refine Wp.outK (append_zero (b := h.next) (o := 0) (m := 0) (n := 0) he hu hsz rfl rfl (hfirst 0 rfl) hfit hex) ?_
      exact Wp.ret ⟨_, rfl, .inr ⟨h.next, [], rfl, kn, Nat.lt_succ_self _⟩, Tch.newH _ _ _ _, fun b hb => by rw [List.mem_singleton.1 hb]; exact Nat.le_refl _⟩
    · obtain ⟨m, hm2⟩ : ∃ m, u.length = m + 1 := by
        cases u with
        | nil => exact absurd rfl h0
        | cons a l => exact ⟨l.length, rfl⟩
      have hlen : lenA (.sl c 0 u.length 1) = some (m + 1) := by rw [hm2]; rfl
      have a1 := append_more (P := Try.prog) (h := newH h 5 []) (t := TBy) (u := TBy) (b := h.next) (o := 0) (m := 0) (n := m) (x := .sl c 0 u.length 1) (cs := []) he hu hsz hlen (hfirst _ hm2.symm) (by rw [← hm2]; exact hfit) (bytesC_one u) hex (by
        have := kn.part (o := 0) (n := 0) (Nat.le_refl _)
        exact this) kn.type
      refine Wp.outK a1 ?_
      refine Wp.ret ⟨_, rfl, .inr ⟨h.next + 1, [], by rw [hm2, Nat.zero_add]; rfl, ?_, Nat.lt_succ_self _⟩, ((Tch.newH [] h _ _).trans' (Tch.put (S := [h.next]) (.inl (List.mem_singleton.2 rfl)) .dead) fun b hb => .inr (by rw [List.mem_singleton.1 hb]; exact Nat.le_refl _)).trans (Tch.newH _ _ _ _), fun b hb => ?_⟩
      · rw [List.append_nil]
        exact RowH.new ((newH h 5 []).put h.next .dead) _ _
      · have hb2 : b = h.next + 1 := List.mem_singleton.1 hb
        omega
theorem copy_ok {n d b T o : Nat} {D : List AV} {th : Bool} (kr : RowH h b T D) (hb : b < h.next) (h0 : D[o]? = some (.bool th)) (h1 : D[o + 1]? = some v) (k : BufAt h v u) (hx : h.ex = []) (hm : u.length ≤ 1000000000) : ∃ h' v', world n (d + 2) 33 [.ptr b o] h = some (.ret (.agg [.bool th, v']), h') ∧ BufAt h' v' u ∧ Tch [] h h' ∧ ∀ b ∈ blkV v', h.next ≤ b := by
  suffices hK : Wp (world n (d + 2) 33 [.ptr b o] h) fun r h' => ∃ v', r = .ret (.agg [.bool th, v']) ∧ BufAt h' v' u ∧ Tch [] h h' ∧ ∀ b ∈ blkV v', h.next ≤ b by
    obtain ⟨_, h', e, v', rfl, k⟩ := hK
    exact ⟨h', v', e, k⟩
  rw [w_disk_content_copy]
  unfold disk_content_copy
  refine Wp.mnew (Mem.nil [] h) fun h2 M2 => ?_
  have t2 := M2.tch
  have hn2 := t2.1
  have kr2 := kr.tch t2 hb (fun h => nomatch h)
  have k2 := k.tch t2 (fun _ _ h => nomatch h)
  refine Wp.obind (nilC_ptr _ _) (Wp.obind (fldP_ptr _ _ _) (Wp.obind (RowH.cell' kr2 h0) (Wp.obind (avBool_bool _) (Wp.obind (nilC_ptr _ _) (Wp.obind (fldP_ptr _ _ _) (Wp.obind (RowH.cell' kr2 h1) ?_))))))
  obtain ⟨h3, v', e3, k3, t3, s3⟩ := clone_ok (n := n) (d := d) k2 (by rw [t2.2.1, hx]) hm
  have hn3 := t3.1
  refine Wp.callN e3 ?_
  have kr3 := kr2.tch t3 (Nat.lt_of_lt_of_le hb hn2) (fun h => nomatch h)
  refine Wp.chk (and_t rfl (and_t (reLoad_c (by kernel_rfl) (RowH.cell' kr3 h0)) rfl)) ?_
  have hbld : bldS Try.prog 51 [(0, .bool th), (1, v')] = some [.bool th, v'] := by
    rcases k3 with ⟨rfl, rfl⟩ | ⟨c, rest, rfl, _⟩ <;> kernel_rfl
  refine Wp.obind hbld ?_
  have hh2 := M2.at0.2.1
  have kb3 := M2.at0.1.tch t3 hh2 (fun h => nomatch h)
  rw [newP_eq]
  refine Wp.stAll kb3 rfl rfl (by rw [show [AV.bool th, v'].all AV.one = (true && (v'.one && true)) from rfl, k3.one.1]; rfl) fun h4 k4 t4 n4 => ?_
  refine Wp.obind (RowH.ldAll k4 rfl) ?_
  refine Wp.ret ⟨v', rfl, k3.tch t4 (fun b hb hm => ?_), (t2.trans t3).trans' t4 (fun b hb => .inr (by rw [List.mem_singleton.1 hb]; exact Nat.le_refl _)), fun b hb => Nat.le_trans hn2 (s3 b hb)⟩
  have h1 := s3 b hb
  have h2 := List.mem_singleton.1 hm
  omega
end
section
variable {lo : Nat → Prop} {n d db : Nat} {h : AHeap} {B : Nat} {s : DS}
def readE (s : DS) (z : Int) : Int := if refP s.p z = 0 then (if (s.fs z.toNat).seen.th = true then 0 else 4) else refP s.p z
def readS (s : DS) (z : Int) : Bytes := if refP s.p z = 0 then (if (s.fs z.toNat).seen.th = true then (s.fs z.toNat).seen.u else []) else []
theorem read_a {z : Int} (K : At lo h db s B) : world n (d + 3) 11 [.ptr db 0, .int .i64 z] h = some (.ret (.tup [strA (readS s z), .int .i64 (readE s z)]), h) := by
  apply Wp.eq
  obtain ⟨D, vs, K⟩ := K
  rw [w_disk_Disk_Read]
  unfold disk_Disk_Read
  refine Wp.callN (refuses_w K z) (Wp.obind (avInt_int _ _) (Wp.lett ?_))
  unfold readE readS
  by_cases h0 : refP s.p z = 0
  · obtain ⟨hp, f, rfl, hf⟩ := ref_ok h0
    have C := K.cells f hf
    have Mf := K.mem f hf
    refine Wp.iff (bne_f h0) ?_
    rw [if_pos h0, if_pos h0, Int.toNat_natCast]
    refine Wp.obind (nilC_ptr _ _) (Wp.obind (fldP_ptr _ _ _) (Wp.obind (idxF hf) (Wp.obind (fldP_ptr _ _ _) (Wp.obind (nilC_ptr _ _) (Wp.obind (fldP_ptr _ _ _) (Wp.obind (RowH.cell' K.row C.c2) (Wp.obind (avBool_bool _) (Wp.lett ?_))))))))
    cases hth : (s.fs f).seen.th with
    | false =>
      refine Wp.ift rfl ?_
      exact Wp.ret ⟨rfl, rfl⟩
    | true =>
      refine Wp.iff rfl (Wp.obind (nilC_ptr _ _) (Wp.obind (fldP_ptr _ _ _) ?_))
      have go : ∀ k : AV → R, (Wp (k (vs f 1)) fun r' h' => r' = ARes.ret (AV.tup [strA (if true = true then (s.fs f).seen.u else []), AV.int IntKind.i64 (if true = true then 0 else 4)]) ∧ h' = h) → Wp (Abs.obind (ldCell h (.ptr db (5 * f + 2 + 1))) k) fun r' h' => r' = ARes.ret (AV.tup [strA (if true = true then (s.fs f).seen.u else []), AV.int IntKind.i64 (if true = true then 0 else 4)]) ∧ h' = h := fun k hk => Wp.obind (RowH.cell' K.row C.c3) hk
      refine go _ (Wp.outK Mf.seen.conv (Wp.obind (avStr_str _) ?_))
      exact Wp.ret ⟨rfl, rfl⟩
  · refine Wp.ift (bne_t h0) ?_
    rw [if_neg h0, if_neg h0]
    exact Wp.ret ⟨rfl, rfl⟩
def isF (z : Int) : Prop := 0 ≤ z ∧ z < 32
instance (z : Int) : Decidable (isF z) := inferInstanceAs (Decidable (0 ≤ z ∧ z < 32))
theorem loose_a {z : Int} (K : At lo h db s B) : world n (d + 2) 13 [.ptr db 0, .int .i64 z] h = some (.ret (.int .i64 (if isF z then ((s.fs z.toNat).loose.length : Int) else 0)), h) := by
  apply Wp.eq
  obtain ⟨D, vs, K⟩ := K
  rw [w_disk_Disk_Loose]
  unfold disk_Disk_Loose
  refine Wp.outK (eqDisk db 0 h) (Wp.obind (avBool_bool _) (Wp.lettG fun j ej => Wp.iff rfl ?_))
  refine Wp.callN (isFile_w z) (Wp.obind (avBool_bool _) (Wp.lett ?_))
  by_cases h0 : 0 ≤ z ∧ z < 32
  · rw [decide_eq_true h0, if_pos (show isF z from h0), ej]
    obtain ⟨f, rfl⟩ : ∃ f : Nat, z = (f : Int) := ⟨z.toNat, by omega⟩
    have hf : f < 32 := by omega
    have C := K.cells f hf
    have Mf := K.mem f hf
    have hlen : lenL (vs f 2) = some ((s.fs f).loose.length : Int) := (Mf.loose.rd (S := []) (fun _ _ h => nomatch h)).1
    rw [Int.toNat_natCast]
    refine Wp.iff rfl (Wp.obind (nilC_ptr _ _) (Wp.obind (fldP_ptr _ _ _) (Wp.obind (idxF hf) (Wp.obind (fldP_ptr _ _ _) (Wp.obind (RowH.cell' K.row C.c4) (Wp.obind hlen ?_))))))
    exact Wp.ret ⟨rfl, rfl⟩
  · rw [decide_eq_false h0, if_neg (show ¬ isF z from h0), ej]
    exact Wp.ift rfl (Wp.ret ⟨rfl, rfl⟩)
theorem sure_a {z : Int} (K : At lo h db s B) : world n (d + 2) 12 [.ptr db 0, .int .i64 z] h = some (.ret (.tup [strA (if isF z then (s.fs z.toNat).sure.u else []), .bool (if isF z then (s.fs z.toNat).sure.th else false)]), h) := by
  apply Wp.eq
  obtain ⟨D, vs, K⟩ := K
  rw [w_disk_Disk_Sure]
  unfold disk_Disk_Sure
  refine Wp.outK (eqDisk db 0 h) (Wp.obind (avBool_bool _) (Wp.lettG fun j ej => Wp.iff rfl ?_))
  refine Wp.callN (isFile_w z) (Wp.obind (avBool_bool _) (Wp.lett ?_))
  by_cases h0 : 0 ≤ z ∧ z < 32
  · rw [decide_eq_true h0, if_pos (show isF z from h0), if_pos (show isF z from h0), ej]
    obtain ⟨f, rfl⟩ : ∃ f : Nat, z = (f : Int) := ⟨z.toNat, by omega⟩
    have hf : f < 32 := by omega
    have C := K.cells f hf
    have Mf := K.mem f hf
    rw [Int.toNat_natCast]
    refine Wp.iff rfl (Wp.obind (nilC_ptr _ _) (Wp.obind (fldP_ptr _ _ _) (Wp.obind (idxF hf) (Wp.obind (fldP_ptr _ _ _) (Wp.obind (nilC_ptr _ _) (Wp.obind (fldP_ptr _ _ _) (Wp.obind (RowH.cell' K.row C.c1) (Wp.obind (nilC_ptr _ _) (Wp.obind (fldP_ptr _ _ _) (Wp.obind (RowH.cell' K.row C.c0) (Wp.obind (avBool_bool _) (Wp.outK Mf.sure.conv (Wp.obind (avStr_str _) ?_)))))))))))))
    refine Wp.chk (and_t (reLoad_c (by kernel_rfl) (RowH.cell' K.row C.c0)) rfl) ?_
    exact Wp.ret ⟨rfl, rfl⟩
  · rw [decide_eq_false h0, if_neg (show ¬ isF z from h0), if_neg (show ¬ isF z from h0), ej]
    exact Wp.ift rfl (Wp.ret ⟨rfl, rfl⟩)
end
end Go.Proofs.Ytcbnpdfingfmgaa
