/- The document's disk made and copied; whole numbers; what both tell. -/
import Derived.Test.YtcbnpdfingfmgaaEq
import Derived.Test.YtcbnpdfingfmgaaEk
namespace Go.Proofs.Ytcbnpdfingfmgaa
open Go.RowKit Abs
section
variable {lo lo' : Nat → Prop} {n d rb B : Nat} {h : AHeap} {D : List AV} {vs : Nat → AV} {s : DS}
theorem newR_ok (hlo : ¬ lo h.next) : ∃ h', world n (d + 1) 23 [] h = some (.ret (.ptr h.next 0), h') ∧ Tch [] h h' ∧ RefAt lo h' h.next newS ∧ h.next < h'.next := by
  suffices hK : Wp (ref04_New (world n d) n h) fun r h' => r = .ret (.ptr h.next 0) ∧ Tch [] h h' ∧ RefAt lo h' h.next newS ∧ h.next < h'.next by
    obtain ⟨r, h', e, rfl, k⟩ := hK
    refine ⟨h', ?_, k⟩
    rw [w_ref04_New, e]
    refine gcR_some ?_
    show Nat.blt h.next h.next = false
    cases e : Nat.blt h.next h.next with
    | false => rfl
    | true =>
      have := blt_lt' e
      omega
  unfold ref04_New
  refine Wp.outK (box_agg (by kernel_rfl)) ?_
  have fin : ∀ L : List AV, L = (List.replicate 32 [.bool false, .str 0 0, .nsl]).flatten ++ [.int .i64 (-1), .int .i64 0] → RefAt lo (Abs.newH h TRD L) h.next newS := by
    intro L hL
    refine ⟨L, fun _ => .nsl, RowH.new _ _ _, Nat.lt_succ_self _, hlo, by rw [hL]; kernel_rfl, fun f hf => ?_, by rw [hL]; kernel_rfl, by rw [hL]; kernel_rfl, fun f hf => .inl ⟨rfl, rfl⟩, fun f hf b hb => nomatch hb⟩
    rw [hL]
    exact ⟨flat_rep rfl 32 f 0 hf (by decide), flat_rep rfl 32 f 1 hf (by decide), flat_rep rfl 32 f 2 hf (by decide)⟩
  exact Wp.ret ⟨rfl, Tch.newH _ _ _ _, fin _ rfl, Nat.lt_succ_self _⟩
theorem RefD.all (K : RefD lo h rb D vs s) : D.all AV.one = true := by
  rw [List.all_eq_true]
  intro x hx
  obtain ⟨i, hi, rfl⟩ := List.getElem_of_mem hx
  have hl := K.len
  have key : ∀ v, D[i]? = some v → v.one = true → (D[i]).one = true := fun v h1 h2 => by
    rw [List.getElem?_eq_getElem hi] at h1
    injection h1 with h1
    rw [h1]
    exact h2
  by_cases h1 : i < 96
  · obtain ⟨f, j, hf, hj, hij⟩ : ∃ f j, f < 32 ∧ j < 3 ∧ i = 3 * f + j := ⟨i / 3, i % 3, by omega, by omega, by omega⟩
    have C := K.cells f hf
    have hv : (vs f).one = true := by rcases K.rl f hf with ⟨e, _⟩ | ⟨b, e, _⟩ <;> rw [e] <;> rfl
    rcases j with _ | _ | _ | j
    · exact key _ (by rw [hij]; exact C.c0) rfl
    · exact key _ (by rw [hij]; exact C.c1) rfl
    · exact key _ (by rw [hij]; exact C.c2) hv
    · omega
  · by_cases h2 : i = 96
    · exact key _ (by rw [h2]; exact K.cp) rfl
    · exact key _ (by rw [show i = 97 by omega]; exact K.co) rfl
theorem copyR_ok (K : RefAt lo h rb s) : ∃ h', world n (d + 1) 24 [.ptr rb 0] h = some (.ret (.ptr h.next 0), h') ∧ Tch [] h h' ∧ RefAt (shr lo h.next h'.next) h' h.next s ∧ h.next < h'.next := by
  suffices hK : Wp (world n (d + 1) 24 [.ptr rb 0] h) fun r h' => r = .ret (.ptr h.next 0) ∧ Tch [] h h' ∧ RefAt (shr lo h.next h'.next) h' h.next s ∧ h.next < h'.next by
    obtain ⟨_, h', e, rfl, k⟩ := hK
    exact ⟨h', e, k⟩
  obtain ⟨D, vs, K⟩ := K
  have hA := K.all
  rw [w_ref04_Disk_Copy]
  unfold ref04_Disk_Copy
  refine Wp.obind (nilC_ptr _ _) (Wp.obind (RowH.ldAll K.row K.len) (Wp.mnew (Mem.nil [] h) fun h2 M2 => ?_))
  rw [newP_eq]
  refine Wp.sa0 M2 K.len (by kernel_rfl) hA fun h3 M3 => ?_
  have t3 := M3.tch
  have hlt := M3.at0.2.1
  refine Wp.ret ⟨rfl, t3, ⟨D, vs, M3.at0.1, hlt, fun hh => ?_, K.len, K.cells, K.cp, K.co, fun f hf => (K.rl f hf).tch t3 (fun _ _ h => nomatch h), fun f hf b hb => ⟨fun hh => (K.nb f hf b hb).1 hh.1, ?_⟩⟩, hlt⟩
  · rcases hh.2 with h1 | h1 <;> omega
  · have := (K.rl f hf).lt b hb
    omega
end
/-! ### whole numbers -/
def IAt (h : AHeap) (v : AV) (zs : List Int) : Prop := (v = .nsl ∧ zs = []) ∨ ∃ c, v = .sl c 0 zs.length 1 ∧ RowH h c 3 (zs.map (.int .i64)) ∧ c < h.next
theorem fitI : fitB Try.prog 3 8 = true := by kernel_rfl
theorem bldI1 (h : AHeap) (z : Int) : bldSl Try.prog h 34 1 [(0, .int .i64 z)] = outNewS h 3 [.int .i64 z] 1 1 := by kernel_rfl
theorem ints_one : ∀ zs : List Int, (zs.map (AV.int .i64)).all AV.one = true
  | [] => rfl
  | _ :: l => by
    show (true && (l.map (AV.int .i64)).all AV.one) = true
    rw [ints_one l]
    rfl
section
variable {h h' : AHeap} {v : AV} {zs : List Int}
theorem IAt.tch {S : List Nat} (k : IAt h v zs) (t : Tch S h h') (hS : ∀ b ∈ blkV v, b ∉ S) : IAt h' v zs := by
  rcases k with k | ⟨c, rfl, h2, h3⟩
  · exact .inl k
  · exact .inr ⟨c, rfl, h2.tch t h3 (hS c (List.mem_singleton.2 rfl)), Nat.lt_of_lt_of_le h3 t.1⟩
theorem IAt.lt (k : IAt h v zs) : ∀ b ∈ blkV v, b < h.next := by
  rcases k with ⟨rfl, _⟩ | ⟨c, rfl, _, h3⟩
  · exact fun b hb => (nomatch hb)
  · intro b hb
    rw [List.mem_singleton.1 hb]
    exact h3
theorem IAt.len (k : IAt h v zs) : lenL v = some (zs.length : Int) := by
  rcases k with ⟨rfl, rfl⟩ | ⟨c, rfl, _⟩ <;> rfl
theorem IAt.at (k : IAt h v zs) {i : Nat} (hi : i < zs.length) : ∃ p, idxP 1 v (i : Int) = some p ∧ ldCell h p = some (.int .i64 zs[i]) := by
  rcases k with ⟨rfl, rfl⟩ | ⟨c, rfl, h2, _⟩
  · exact absurd hi (Nat.not_lt_zero _)
  · refine ⟨_, idx1 hi, RowH.cell' h2 ?_⟩
    rw [Nat.zero_add, Nat.mul_one, List.getElem?_map, List.getElem?_eq_getElem hi]
    rfl
theorem IAt.push {b1 : Nat} {z : Int} (k : IAt h v zs) (kr : RowH h b1 3 [.int .i64 z]) (hm : zs.length < 20000000) (hx : h.ex = []) :
    ∃ h' v', opAppend Try.prog h 34 34 v (.sl b1 0 1 1) = some (.val v', h') ∧ IAt h' v' (zs ++ [z]) ∧ Tch (blkV v) h h' ∧ blkV v' = [h.next] := by
  have he : Abs.elemOf Try.prog 34 = some 3 := by kernel_rfl
  have hu : notInt Try.prog 34 = true := by kernel_rfl
  have hsz : Try.prog.cellsOf 3 = 1 := by kernel_rfl
  have hex : memB 3 h.ex = false := by rw [hx]; rfl
  have el : zs.length + 1 = (zs ++ [z]).length := by rw [List.length_append, List.length_singleton]
  rcases k with ⟨rfl, rfl⟩ | ⟨b, rfl, h2, h3⟩
  · have a1 := append_new (P := Try.prog) (h := h) (t := 34) (u := 34) (n := 0) (x := .sl b1 0 1 1) he hu hsz rfl (firstRow kr rfl) (bytesFit_of fitI (by omega) (by omega)) rfl hex
    exact ⟨_, _, a1, .inr ⟨h.next, rfl, RowH.new _ _ _, Nat.lt_succ_self _⟩, Tch.newH _ _ _ _, rfl⟩
  · have hcl : (zs.map (AV.int .i64)).length = zs.length := List.length_map ..
    have a1 := append_more (P := Try.prog) (h := h) (t := 34) (u := 34) (b := b) (o := 0) (m := zs.length) (n := 0) (x := .sl b1 0 1 1) (cs := zs.map (.int .i64)) he hu hsz rfl (firstRow kr rfl) (bytesFit_of fitI (by omega) (by omega)) rfl hex (by
      have := h2.part (o := 0) (n := (zs.map (AV.int .i64)).length) (by omega)
      rw [List.drop_zero, List.take_length] at this
      rw [show zs.length * 1 = (zs.map (AV.int .i64)).length by omega]
      exact this) h2.type
    refine ⟨_, _, a1, .inr ⟨h.next, by rw [el], ?_, Nat.lt_succ_self _⟩, (Tch.put (S := [b]) (.inl (List.mem_singleton.2 rfl)) _).trans (Tch.newH _ _ _ _), rfl⟩
    rw [List.map_append]
    exact RowH.new (h.put b .dead) _ _
/-- they can be read here -/
def RdZ (h : AHeap) (v : AV) (zs : List Int) : Prop := lenL v = some (zs.length : Int) ∧ ∀ (i : Nat) (hi : i < zs.length), ∃ p, idxP 1 v (i : Int) = some p ∧ ldCell h p = some (.int .i64 zs[i])
theorem IAt.rdz (k : IAt h v zs) : RdZ h v zs := ⟨k.len, fun _ hi => k.at hi⟩
theorem equal_loop {n d : Nat} {w : AV} (k1 : RdZ h v zs) (k2 : RdZ h w zs) (hz : zs.length < 9223372036854775807) {k12 : AHeap → R} {Q : ARes → AHeap → Prop} (hk : Wp (k12 h) Q) : ∀ (r i fu : Nat), r + i = zs.length → r < fu → Wp (slices_Equal___int_int__L0 v w (zs.length : Int) k12 fu (i : Int) h) Q
  | _, _, 0, _, hf => by omega
  | 0, i, fu + 1, hi, _ => by
    rw [slices_Equal___int_int__L0_s]
    unfold slices_Equal___int_int__L0b
    refine Wp.lett (Wp.iff (by rw [decide_eq_false_iff_not]; omega) hk)
  | r + 1, i, fu + 1, hi, hf => by
    obtain ⟨p1, a1, a2⟩ := k1.2 i (by omega)
    obtain ⟨p2, b1, b2⟩ := k2.2 i (by omega)
    rw [slices_Equal___int_int__L0_s]
    unfold slices_Equal___int_int__L0b
    refine Wp.lett (Wp.ift (by rw [decide_eq_true_eq]; omega) (Wp.obind a1 (Wp.obind a2 (Wp.obind (avInt_int _ _) (Wp.obind b1 (Wp.obind b2 (Wp.obind (avInt_int _ _) (Wp.lett (Wp.iff (bne_f rfl) (Wp.lettw (by omega) (by omega) ?_)))))))))) 
    rw [show (i : Int) + 1 = ((i + 1 : Nat) : Int) by omega]
    exact equal_loop (n := n) (d := d) k1 k2 hz hk r (i + 1) fu (by omega) (by omega)
theorem equal_i {n d : Nat} {w : AV} (k1 : RdZ h v zs) (k2 : RdZ h w zs) (hz : zs.length < n) (hz2 : zs.length < 9223372036854775807) : world n (d + 1) 39 [v, w] h = some (.ret (.bool true), h) := by
  apply Wp.eq
  rw [w_slices_Equal___int_int_]
  unfold slices_Equal___int_int_
  refine Wp.obind k1.1 (Wp.obind k2.1 (Wp.lett (Wp.iff (bne_f rfl) (Wp.obind k1.1 (Wp.lettG fun k12 e12 => ?_)))))
  refine equal_loop (n := n) (d := d) k1 k2 hz2 ?_ zs.length 0 n (Nat.add_zero _) hz
  rw [e12]
  exact Wp.ret ⟨rfl, rfl⟩
end
theorem eqI_sl (b m : Nat) (h : AHeap) : opBin Try.prog h .eql 34 true (some (.sl b 0 m 1)) (some AV.nsl) = some (.val (.bool false), h) := by kernel_rfl
theorem eqI_nil (h : AHeap) : opBin Try.prog h .eql 34 true (some .nsl) (some AV.nsl) = some (.val (.bool true), h) := by kernel_rfl
theorem eqI_esl (h : AHeap) : opBin Try.prog h .eql 34 true (some .esl) (some AV.nsl) = some (.val (.bool false), h) := by kernel_rfl
theorem bldI0 (h : AHeap) : bldSl Try.prog h 34 0 [] = outNewS h 3 [] 0 1 := by kernel_rfl
theorem flat_ints (zs : List Int) : (zs.map fun z => [AV.int .i64 z]).flatten = zs.map (.int .i64) := flat_one (AV.int .i64) zs
/-- a list that was handed in, copied -/
theorem cloneI_ok {n d N : Nat} {h : AHeap} {v : AV} {zs : List Int} (k : Slc N h 1 v (zs.map fun z => [.int .i64 z])) (hN : N ≤ h.next) (hx : h.ex = []) (hm : zs.length * 8 ≤ 140737488355328) : ∃ h' v', world n (d + 1) 37 [v] h = some (.ret v', h') ∧ IAt h' v' zs ∧ Tch [] h h' ∧ ∀ b ∈ blkV v', h.next ≤ b := by
  suffices hK : Wp (world n (d + 1) 37 [v] h) fun r h' => ∃ v', r = .ret v' ∧ IAt h' v' zs ∧ Tch [] h h' ∧ ∀ b ∈ blkV v', h.next ≤ b by
    obtain ⟨_, h', e, v', rfl, k⟩ := hK
    exact ⟨h', v', e, k⟩
  rw [w_slices_Clone___int_int_]
  unfold slices_Clone___int_int_
  have he : Abs.elemOf Try.prog 34 = some 3 := by kernel_rfl
  have hu : notInt Try.prog 34 = true := by kernel_rfl
  have hsz : Try.prog.cellsOf 3 = 1 := by kernel_rfl
  have hex : memB 3 (newH h 3 []).ex = false := by rw [ex_newH, hx]; rfl
  have kn := RowH.new h 3 []
  rcases k.2 with ⟨hz, rfl | rfl⟩ | ⟨b, hne, hb, rfl, like⟩
  · have hz : zs = [] := List.map_eq_nil_iff.1 hz
    subst hz
    refine Wp.outK (eqI_nil h) (Wp.obind (avBool_bool _) (Wp.ift rfl ?_))
    exact Wp.ret ⟨_, rfl, .inl ⟨rfl, rfl⟩, Tch.refl _ _, fun _ h => nomatch h⟩
  · have hz : zs = [] := List.map_eq_nil_iff.1 hz
    subst hz
    refine Wp.outK (eqI_esl h) (Wp.obind (avBool_bool _) (Wp.iff rfl ?_))
    refine Wp.mnews0 (bldI0 h) (by rw [hx]; rfl) ?_
    have hfit := bytesFit_of (P := Try.prog) (e := 3) (B := 8) (k := 0 + 0) fitI (by omega) (by omega)
    refine Wp.outK (append_zero (b := h.next) (o := 0) (m := 0) (n := 0) he hu hsz rfl rfl rfl hfit hex) ?_
    exact Wp.ret ⟨_, rfl, .inr ⟨h.next, rfl, kn, Nat.lt_succ_self _⟩, Tch.newH _ _ _ _, fun b hb => by rw [List.mem_singleton.1 hb]; exact Nat.le_refl _⟩
  · rw [List.length_map]
    rw [flat_ints] at like
    refine Wp.outK (eqI_sl b zs.length h) (Wp.obind (avBool_bool _) (Wp.iff rfl ?_))
    refine Wp.mnews0 (bldI0 h) (by rw [hx]; rfl) ?_
    obtain ⟨m, hm2⟩ : ∃ m, zs.length = m + 1 := by
      cases zs with
      | nil => exact absurd rfl hne
      | cons a l => exact ⟨l.length, rfl⟩
    have like2 : RowLike (newH h 3 []) b (zs.map (.int .i64)) := like.same fun o ho => by
      rw [(Tch.newH [] h 3 []).2.2 b (by omega) (fun h => nomatch h)]
      exact ho
    have hcl : (zs.map (AV.int .i64)).length = zs.length := List.length_map ..
    have hfirst : firstA (newH h 3 []) 1 (m + 1) (.sl b 0 zs.length 1) = some (zs.map (.int .i64)) := by
      rw [firstA_of_row (by omega), Nat.mul_one, show m + 1 = (zs.map (AV.int .i64)).length by omega]
      have := like2.part (o := 0) (n := (zs.map (AV.int .i64)).length) (by omega)
      rw [List.drop_zero, List.take_length] at this
      exact this
    have a1 := append_more (P := Try.prog) (h := newH h 3 []) (t := 34) (u := 34) (b := h.next) (o := 0) (m := 0) (n := m) (x := .sl b 0 zs.length 1) (cs := []) he hu hsz (by rw [hm2]; rfl) hfirst (bytesFit_big fitI (by omega) (by omega)) (ints_one zs) hex (by
      have := kn.part (o := 0) (n := 0) (Nat.le_refl _)
      exact this) kn.type
    refine Wp.outK a1 ?_
    refine Wp.ret ⟨_, rfl, .inr ⟨h.next + 1, by rw [hm2, Nat.zero_add]; rfl, ?_, Nat.lt_succ_self _⟩, ((Tch.newH [] h _ _).trans' (Tch.put (S := [h.next]) (.inl (List.mem_singleton.2 rfl)) .dead) fun b hb => .inr (by rw [List.mem_singleton.1 hb]; exact Nat.le_refl _)).trans (Tch.newH _ _ _ _), fun b hb => ?_⟩
    · exact RowH.new ((newH h 3 []).put h.next .dead) _ _
    · have hb2 : b = h.next + 1 := List.mem_singleton.1 hb
      omega
/-- the files that are there, below a number -/
def filesL (s : DS) : Nat → List Int
  | 0 => []
  | k + 1 => if (s.fs k).seen.th = true then filesL s k ++ [(k : Int)] else filesL s k
theorem filesL_le (s : DS) : ∀ k, (filesL s k).length ≤ k
  | 0 => Nat.le_refl _
  | k + 1 => by
    have := filesL_le s k
    unfold filesL
    split
    · rw [List.length_append, List.length_singleton]
      omega
    · omega
section
variable {lo : Nat → Prop} {n d db rb B : Nat} {h : AHeap} {s : DS}
theorem files_loop {D : List AV} {vs : Nat → Nat → AV} {fs : Nat → FileS} {p : Int} {ops : Nat} (hfs : fs = s.fs) (K : DiskAt lo h db D fs vs p ops B) {k12 : AV → AHeap → R} {Q : ARes → AHeap → Prop}
    (hk : ∀ H v, Tch [] h H → IAt H v (filesL s 32) → (∀ b ∈ blkV v, h.next ≤ b) → Wp (k12 v H) Q) :
    ∀ (r i fu : Nat) (H : AHeap) (v : AV), r + i = 32 → r < fu → Tch [] h H → IAt H v (filesL s i) → (∀ b ∈ blkV v, h.next ≤ b) → Wp (disk_Disk_Files_L0 (.ptr db 0) k12 fu v (i : Int) H) Q
  | _, _, 0, _, _, _, hf, _, _, _ => by omega
  | 0, i, fu + 1, H, v, hi, _, t, k, hb => by
    obtain rfl : i = 32 := by omega
    rw [disk_Disk_Files_L0_s]
    unfold disk_Disk_Files_L0b
    refine Wp.lett (Wp.iff rfl ?_)
    exact hk H v t k hb
  | r + 1, i, fu + 1, H, v, hi, hf, t, k, hb => by
    have hi32 : i < 32 := by omega
    have KH := K.tch t (fun _ h => nomatch h)
    have C := KH.cells i hi32
    have hle := filesL_le s i
    have hn := t.1
    rw [disk_Disk_Files_L0_s]
    unfold disk_Disk_Files_L0b
    refine Wp.lett (Wp.ift (by rw [decide_eq_true_eq]; omega) (Wp.obind (nilC_ptr _ _) (Wp.obind (fldP_ptr _ _ _) (Wp.obind (idxF hi32) (Wp.obind (fldP_ptr _ _ _) (Wp.obind (fldP_ptr _ _ _) (Wp.obind (RowH.cell' KH.row C.c2) (Wp.obind (avBool_bool _) (Wp.lettG fun k32 e32 => ?_)))))))))
    rw [hfs]
    cases hth : (s.fs i).seen.th with
    | true =>
      have ef : filesL s (i + 1) = filesL s i ++ [(i : Int)] := if_pos hth
      refine Wp.ift rfl (Wp.mnews (Mem.nil [] H) (bldI1 _ _) rfl (by rw [KH.ex]; rfl) fun h2 M2 => ?_)
      have t2 := M2.tch
      have hn2 := t2.1
      obtain ⟨h3, v3, e3, k3, t3, b3⟩ := (k.tch t2 (fun _ _ h => nomatch h)).push M2.at0.1 (by omega) (by rw [t2.2.1, KH.ex])
      refine Wp.outK e3 ?_
      rw [e32]
      refine Wp.lettw (by omega) (by omega) ?_
      rw [show (i : Int) + 1 = ((i + 1 : Nat) : Int) by omega]
      refine files_loop hfs K hk r (i + 1) fu h3 v3 (by omega) (by omega) ((t.trans t2).trans' t3 fun b hbb => .inr (hb b hbb)) (by rw [ef]; exact k3) (fun b hbb => ?_)
      rw [b3] at hbb
      have := List.mem_singleton.1 hbb
      omega
    | false =>
      have ef : filesL s (i + 1) = filesL s i := if_neg (by rw [hth]; decide)
      refine Wp.iff rfl ?_
      rw [e32]
      refine Wp.lettw (by omega) (by omega) ?_
      rw [show (i : Int) + 1 = ((i + 1 : Nat) : Int) by omega]
      exact files_loop hfs K hk r (i + 1) fu H v (by omega) (by omega) t (by rw [ef]; exact k) hb
theorem files_a (K : At lo h db s B) (hn : 1000000 < n) : ∃ h' v, world n (d + 1) 20 [.ptr db 0] h = some (.ret v, h') ∧ Tch [] h h' ∧ IAt h' v (filesL s 32) ∧ ∀ b ∈ blkV v, h.next ≤ b := by
  suffices hK : Wp (world n (d + 1) 20 [.ptr db 0] h) fun r h' => ∃ v, r = .ret v ∧ Tch [] h h' ∧ IAt h' v (filesL s 32) ∧ ∀ b ∈ blkV v, h.next ≤ b by
    obtain ⟨_, h', e, v, rfl, k⟩ := hK
    exact ⟨h', v, e, k⟩
  obtain ⟨D, vs, K⟩ := K
  rw [w_disk_Disk_Files]
  unfold disk_Disk_Files
  refine Wp.outK (eqDisk db 0 h) (Wp.obind (avBool_bool _) (Wp.iff rfl (Wp.lettG fun k12 e12 => ?_)))
  refine files_loop (s := s) rfl K (fun H v t k hb => ?_) 32 0 n h .nsl rfl (by omega) (Tch.refl _ _) (.inl ⟨rfl, rfl⟩) (fun _ hb => nomatch hb)
  rw [e12]
  exact Wp.ret ⟨v, rfl, t, k, hb⟩
end
end Go.Proofs.Ytcbnpdfingfmgaa
