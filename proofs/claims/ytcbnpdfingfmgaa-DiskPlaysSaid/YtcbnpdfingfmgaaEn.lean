/- The document's disk: its row, and what is done with it. -/
import Derived.Test.YtcbnpdfingfmgaaEm
import Derived.Test.YtcbnpdfingfmgaaEj
namespace Go.Proofs.Ytcbnpdfingfmgaa
open Go.RowKit Abs
structure RefC (D : List AV) (f : Nat) (x : FileS) (v : AV) : Prop where
  c0 : D[3 * f]? = some (.bool x.sure.th)
  c1 : D[3 * f + 1]? = some (strA x.sure.u)
  c2 : D[3 * f + 2]? = some v
structure RefD (lo : Nat → Prop) (h : AHeap) (rb : Nat) (D : List AV) (vs : Nat → AV) (s : DS) : Prop where
  row : RowH h rb TRD D
  hrb : rb < h.next
  nlo : ¬ lo rb
  len : D.length = 98
  cells : ∀ f, f < 32 → RefC D f (s.fs f) (vs f)
  cp : D[96]? = some (.int .i64 s.p)
  co : D[97]? = some (.int .i64 (s.ops : Int))
  rl : ∀ f, f < 32 → RL h (vs f) (s.fs f).loose
  nb : ∀ f, f < 32 → ∀ b ∈ blkV (vs f), ¬ lo b ∧ b ≠ rb
def RefAt (lo : Nat → Prop) (h : AHeap) (rb : Nat) (s : DS) : Prop := ∃ D vs, RefD lo h rb D vs s
/-- what the files are, whatever holds them -/
structure SOk (s : DS) (B : Nat) : Prop where
  ok : ∀ f, f < 32 → FileOk (s.fs f) B
  lt : ∀ f, f < 32 → LegalT (s.fs f).sure (s.fs f).loose
  hp : -1 ≤ s.p ∧ s.p < 9223372036854775808
  ho : s.ops ≤ B
theorem SOk.seen {s : DS} {B f : Nat} (k : SOk s B) (hf : f < 32) : SeenOk (s.fs f).sure (s.fs f).loose B := by
  obtain ⟨o1, o2, o3, o4⟩ := k.ok f hf
  exact ⟨o2, k.lt f hf, o3, o4⟩
theorem idxR {b i : Nat} (h : i < 32) : idxA 32 3 (.ptr b (0 + 0)) (i : Int) = some (.ptr b (3 * i)) := by
  have e : Nat.blt i 32 = true := by simpa using h
  show (match Nat.blt i 32 with | true => some (AV.ptr b (0 + 0 + i * 3)) | false => none) = _
  rw [e, show 0 + 0 + i * 3 = 3 * i by omega]
section
variable {lo lo' : Nat → Prop} {n d rb B f : Nat} {h h' : AHeap} {D : List AV} {vs : Nat → AV} {s : DS}
theorem RefD.tch {S : List Nat} (k : RefD lo h rb D vs s) (t : Tch S h h') (hS : ∀ b ∈ S, lo b ∨ h.next ≤ b) (hl : ∀ b, lo' b → b < h.next → lo b) : RefD lo' h' rb D vs s := by
  have h1 := k.hrb
  refine ⟨k.row.tch t h1 fun hm => ?_, Nat.lt_of_lt_of_le h1 t.1, fun hh => k.nlo (hl _ hh h1), k.len, k.cells, k.cp, k.co, fun f hf => (k.rl f hf).tch t fun b hb hm => ?_, fun f hf b hb => ⟨fun hh => (k.nb f hf b hb).1 (hl _ hh ((k.rl f hf).lt b hb)), (k.nb f hf b hb).2⟩⟩
  · rcases hS _ hm with hm | hm
    · exact k.nlo hm
    · omega
  · have h2 := (k.rl f hf).lt b hb
    rcases hS _ hm with hm | hm
    · exact (k.nb f hf b hb).1 hm
    · omega
theorem RefAt.tch {S : List Nat} (k : RefAt lo h rb s) (t : Tch S h h') (hS : ∀ b ∈ S, lo b ∨ h.next ≤ b) (hl : ∀ b, lo' b → b < h.next → lo b) : RefAt lo' h' rb s := by
  obtain ⟨D, vs, k⟩ := k
  exact ⟨D, vs, k.tch t hS hl⟩
/-- its row with other cells in one file -/
theorem RefD.set {v : AV} {x : FileS} {D' : List AV} (k : RefD lo h rb D vs s) (t : Tch [rb] h h') (hl : ∀ b, lo' b → b < h.next → lo b) (hf : f < 32) (row : RowH h' rb TRD D') (hlen : D'.length = 98) (hc : RefC D' f x v) (rest : ∀ i, (i < 3 * f ∨ 3 * f + 3 ≤ i) → D'[i]? = D[i]?) (hr : RL h' v x.loose) (hb : ∀ b ∈ blkV v, ¬ lo' b ∧ b ≠ rb) : RefD lo' h' rb D' (upd vs f v) ⟨upd s.fs f x, s.p, s.ops⟩ := by
  have h1 := k.hrb
  refine ⟨row, Nat.lt_of_lt_of_le h1 t.1, fun hh => k.nlo (hl _ hh h1), hlen, fun f' hf' => ?_, by rw [rest _ (by omega)]; exact k.cp, by rw [rest _ (by omega)]; exact k.co, fun f' hf' => ?_, fun f' hf' b hb' => ?_⟩
  · show RefC D' f' (upd s.fs f x f') (upd vs f v f')
    unfold Go.Proofs.Ytcbnpdfingfmgaa.upd
    by_cases e : f' = f
    · rw [if_pos e, if_pos e, e]
      exact hc
    · rw [if_neg e, if_neg e]
      have hk := k.cells f' hf'
      have key : ∀ j, j < 3 → D'[3 * f' + j]? = D[3 * f' + j]? := fun j hj => rest _ (by omega)
      exact ⟨(key 0 (by decide)).trans hk.c0, (key 1 (by decide)).trans hk.c1, (key 2 (by decide)).trans hk.c2⟩
  · show RL h' (upd vs f v f') (upd s.fs f x f').loose
    unfold Go.Proofs.Ytcbnpdfingfmgaa.upd
    by_cases e : f' = f
    · rw [if_pos e, if_pos e]
      exact hr
    · rw [if_neg e, if_neg e]
      exact (k.rl f' hf').tch t fun b hb' hm => (k.nb f' hf' b hb').2 (List.mem_singleton.1 hm)
  · unfold Go.Proofs.Ytcbnpdfingfmgaa.upd at hb'
    by_cases e : f' = f
    · rw [if_pos e] at hb'
      exact hb b hb'
    · rw [if_neg e] at hb'
      exact ⟨fun hh => (k.nb f' hf' b hb').1 (hl _ hh ((k.rl f' hf').lt b hb')), (k.nb f' hf' b hb').2⟩
theorem RefD.po {p' : Int} {o' : Nat} {D' : List AV} (k : RefD lo h rb D vs s) (t : Tch [rb] h h') (hl : ∀ b, lo' b → b < h.next → lo b) (row : RowH h' rb TRD D') (hlen : D'.length = 98) (rest : ∀ i, i < 96 → D'[i]? = D[i]?) (c0 : D'[96]? = some (.int .i64 p')) (c1 : D'[97]? = some (.int .i64 (o' : Int))) : RefD lo' h' rb D' vs ⟨s.fs, p', o'⟩ := by
  have h1 := k.hrb
  refine ⟨row, Nat.lt_of_lt_of_le h1 t.1, fun hh => k.nlo (hl _ hh h1), hlen, fun f hf => ?_, c0, c1, fun f hf => (k.rl f hf).tch t fun b hb hm => (k.nb f hf b hb).2 (List.mem_singleton.1 hm), fun f hf b hb => ⟨fun hh => (k.nb f hf b hb).1 (hl _ hh ((k.rl f hf).lt b hb)), (k.nb f hf b hb).2⟩⟩
  have hk := k.cells f hf
  have key : ∀ j, j < 3 → D'[3 * f + j]? = D[3 * f + j]? := fun j hj => rest _ (by omega)
  exact ⟨(key 0 (by decide)).trans hk.c0, (key 1 (by decide)).trans hk.c1, (key 2 (by decide)).trans hk.c2⟩
/-- what a step comes to, if e stands against it -/
def stepE (p z e : Int) : Int := if p = 0 then 40 else if 0 ≤ z ∧ z < 32 then e else 2
theorem step_r (K : RefD lo h rb D vs s) (ho : SOk s B) (hB : B < 1000000) (z e : Int) (hl : ∀ b, lo' b → b < h.next → lo b) :
    ∃ h', world n (d + 1) 43 [.ptr rb 0, .int .i64 z, .int .i64 e] h = some (.ret (.int .i64 (stepE s.p z e)), h') ∧ Tch [rb] h h' ∧ (stepE s.p z e ≠ 0 → h' = h) ∧ (stepE s.p z e = 0 → ∃ D', RefD lo' h' rb D' vs ⟨s.fs, stepP s.p, s.ops + 1⟩ ∧ h'.next = h.next) := by
  suffices hK : Wp (world n (d + 1) 43 [.ptr rb 0, .int .i64 z, .int .i64 e] h) fun r h' => r = .ret (.int .i64 (stepE s.p z e)) ∧ Tch [rb] h h' ∧ (stepE s.p z e ≠ 0 → h' = h) ∧ (stepE s.p z e = 0 → ∃ D', RefD lo' h' rb D' vs ⟨s.fs, stepP s.p, s.ops + 1⟩ ∧ h'.next = h.next) by
    obtain ⟨_, h', e, rfl, k⟩ := hK
    exact ⟨h', e, k⟩
  rw [w_ref04_Disk_step]
  unfold ref04_Disk_step
  have hp := ho.hp
  have hoo := ho.ho
  have hlen := K.len
  refine Wp.obind (nilC_ptr _ _) (Wp.obind (fldP_ptr _ _ _) (Wp.obind (RowH.cell' K.row (by rw [Nat.zero_add]; exact K.cp)) (Wp.obind (avInt_int _ _) (Wp.lett ?_))))
  by_cases h0 : s.p = 0
  · have e1 : stepE s.p z e = 40 := if_pos h0
    rw [e1]
    refine Wp.ift (beq_t h0) ?_
    exact Wp.ret ⟨rfl, Tch.refl _ _, fun _ => rfl, fun h => absurd h (by decide)⟩
  refine Wp.iff (beq_f h0) (Wp.lett (Wp.lettG fun j19 ej => ?_))
  by_cases h1 : 0 ≤ z ∧ z < 32
  · have e1 : stepE s.p z e = e := by
      unfold stepE
      rw [if_neg h0, if_pos h1]
    rw [e1]
    refine Wp.iff (by rw [decide_eq_false_iff_not]; omega) (Wp.lett ?_)
    rw [decide_eq_false (show ¬ z ≥ 32 by omega), ej]
    refine Wp.iff rfl (Wp.lett ?_)
    by_cases h2 : e = 0
    · subst h2
      refine Wp.iff rfl ?_
      refine Wp.obind (nilC_ptr _ _) (Wp.obind (fldP_ptr _ _ _) (Wp.obind (RowH.cell' K.row (by rw [Nat.zero_add]; exact K.cp)) (Wp.obind (avInt_int _ _) (Wp.lett (Wp.lettG fun k27 ek => ?_)))))
      have fin : ∀ (H : AHeap) (E : List AV), RowH H rb TRD E → Tch [rb] h H → H.next = h.next → E.length = 98 → (∀ i, i < 96 → E[i]? = D[i]?) → E[96]? = some (.int .i64 (stepP s.p)) → E[97]? = some (.int .i64 (s.ops : Int)) → Wp (k27 H) fun r h' => r = .ret (.int .i64 0) ∧ Tch [rb] h h' ∧ ((0 : Int) ≠ 0 → h' = h) ∧ ((0 : Int) = 0 → ∃ D', RefD lo' h' rb D' vs ⟨s.fs, stepP s.p, s.ops + 1⟩ ∧ h'.next = h.next) := by
        intro H E kr t hn hE hr q0 q1
        rw [ek]
        refine Wp.obind (nilC_ptr _ _) (Wp.obind (fldP_ptr _ _ _) (Wp.obind (RowH.cell' kr (by rw [Nat.zero_add]; exact q1)) (Wp.obind (avInt_int _ _) (Wp.lettw (by omega) (by omega) (Wp.obind (nilC_ptr _ _) (Wp.obind (fldP_ptr _ _ _) ?_))))))
        refine Wp.st1 kr (show 0 + 97 < E.length by omega) rfl fun h3 k3 t3 n3 => ?_
        have T := t.trans t3
        refine Wp.ret ⟨rfl, T, fun h => absurd rfl h, fun _ => ⟨_, K.po (p' := stepP s.p) (o' := s.ops + 1) T hl k3 (by rw [List.length_set]; exact hE) (fun i hi => by rw [List.getElem?_set_ne (by omega)]; exact hr i hi) (by rw [List.getElem?_set_ne (by omega)]; exact q0) ?_, by omega⟩⟩
        rw [Nat.zero_add, List.getElem?_set_self (by omega)]
        rfl
      by_cases h3 : 0 < s.p
      · refine Wp.ift (by rw [decide_eq_true_eq]; omega) ?_
        refine Wp.obind (nilC_ptr _ _) (Wp.obind (fldP_ptr _ _ _) (Wp.obind (RowH.cell' K.row (by rw [Nat.zero_add]; exact K.cp)) (Wp.obind (avInt_int _ _) (Wp.lettw (by omega) (by omega) (Wp.obind (nilC_ptr _ _) (Wp.obind (fldP_ptr _ _ _) ?_))))))
        refine Wp.st1 K.row (show 0 + 96 < D.length by omega) rfl fun h2 k2 t2 n2 => ?_
        refine fin h2 _ k2 t2 n2 (by rw [List.length_set]; exact hlen) (fun i hi => by rw [List.getElem?_set_ne (by omega)]) ?_ (by rw [List.getElem?_set_ne (by omega)]; exact K.co)
        rw [Nat.zero_add, List.getElem?_set_self (by omega)]
        unfold stepP
        rw [if_pos h3]
      · refine Wp.iff (by rw [decide_eq_false_iff_not]; omega) ?_
        refine fin h D K.row (Tch.refl _ _) rfl hlen (fun _ _ => rfl) ?_ K.co
        unfold stepP
        rw [if_neg h3]
        exact K.cp
    · refine Wp.ift (bne_t h2) ?_
      exact Wp.ret ⟨rfl, Tch.refl _ _, fun _ => rfl, fun h => absurd h h2⟩
  · have e1 : stepE s.p z e = 2 := by
      unfold stepE
      rw [if_neg h0, if_neg h1]
    rw [e1]
    have hj : Wp (j19 true h) fun r h' => r = .ret (.int .i64 2) ∧ Tch [rb] h h' ∧ ((2 : Int) ≠ 0 → h' = h) ∧ ((2 : Int) = 0 → ∃ D', RefD lo' h' rb D' vs ⟨s.fs, stepP s.p, s.ops + 1⟩ ∧ h'.next = h.next) := by
      rw [ej]
      refine Wp.ift rfl ?_
      exact Wp.ret ⟨rfl, Tch.refl _ _, fun _ => rfl, fun h => absurd h (by decide)⟩
    by_cases h2 : z < 0
    · exact Wp.ift (by rw [decide_eq_true_eq]; exact h2) hj
    · refine Wp.iff (by rw [decide_eq_false_iff_not]; exact h2) (Wp.lett ?_)
      rw [decide_eq_true (show z ≥ 32 by omega)]
      exact hj
def seeC (s : DS) (z : Int) : Cont := if 0 ≤ z ∧ z < 32 then (s.fs z.toNat).seen else ⟨false, []⟩
theorem see_r (hn : 1000000 < n) (K : RefD lo h rb D vs s) (ho : SOk s B) (hB : B < 1000000) (z : Int) : ∃ h', world n (d + 3) 41 [.ptr rb 0, .int .i64 z] h = some (.ret (.agg (contC (seeC s z))), h') ∧ Tch [] h h' := by
  suffices hK : Wp (world n (d + 3) 41 [.ptr rb 0, .int .i64 z] h) fun r h' => r = .ret (.agg (contC (seeC s z))) ∧ Tch [] h h' by
    obtain ⟨_, h', e, rfl, k⟩ := hK
    exact ⟨h', e, k⟩
  rw [w_ref04_Disk_See]
  unfold ref04_Disk_See
  refine Wp.mnew (Mem.nil [] h) fun h2 M2 => Wp.lett (Wp.lettG fun j10 ej => ?_)
  have t2 := M2.tch
  rw [newP_eq] at ej
  have hlen := K.len
  by_cases h1 : 0 ≤ z ∧ z < 32
  · have e1 : seeC s z = (s.fs z.toNat).seen := if_pos h1
    rw [e1]
    refine Wp.iff (by rw [decide_eq_false_iff_not]; omega) (Wp.lett ?_)
    rw [decide_eq_false (show ¬ z ≥ 32 by omega), ej]
    obtain ⟨f, rfl⟩ : ∃ f : Nat, z = (f : Int) := ⟨z.toNat, by omega⟩
    have hf : f < 32 := by omega
    rw [Int.toNat_natCast]
    have C := K.cells f hf
    have kr2 := K.row.tch t2 K.hrb (fun h => nomatch h)
    have hrow : ldRow h2 3 (.ptr rb (3 * f)) = some (contC (s.fs f).sure ++ [vs f]) := by
      rw [kr2.ld (by omega)]
      congr 1
      refine List.ext_getElem? fun i => ?_
      rcases i with _ | _ | _ | i
      · rw [List.getElem?_take_of_lt (by decide), List.getElem?_drop]
        exact C.c0
      · rw [List.getElem?_take_of_lt (by decide), List.getElem?_drop]
        exact C.c1
      · rw [List.getElem?_take_of_lt (by decide), List.getElem?_drop]
        exact C.c2
      · rw [List.getElem?_eq_none (by rw [List.length_take]; omega), List.getElem?_eq_none (by show 3 ≤ _; omega)]
    have hseen := (ho.ok f hf).1
    refine Wp.iff rfl (Wp.obind (nilC_ptr _ _) (Wp.obind (fldP_ptr _ _ _) (Wp.obind (idxR hf) (Wp.obind hrow ?_))))
    have es := seen_r (n := n) (d := d) (h := h2) hn (ho.seen hf) hB ((K.rl f hf).tch t2 (fun _ _ h => nomatch h))
    rw [← hseen] at es
    refine Wp.callN es (Wp.obind (avAgg_agg _) (Wp.sa0 M2 rfl rfl rfl fun h3 M3 => Wp.lr0 M3 rfl ?_))
    exact Wp.ret ⟨rfl, M3.tch⟩
  · have e1 : seeC s z = ⟨false, []⟩ := if_neg h1
    rw [e1]
    have hj : Wp (j10 true h2) fun r h' => r = .ret (.agg (contC ⟨false, []⟩)) ∧ Tch [] h h' := by
      rw [ej]
      refine Wp.ift rfl (Wp.sa0 M2 rfl rfl rfl fun h3 M3 => Wp.lr0 M3 rfl ?_)
      exact Wp.ret ⟨rfl, M3.tch⟩
    by_cases h2 : z < 0
    · exact Wp.ift (by rw [decide_eq_true_eq]; exact h2) hj
    · refine Wp.iff (by rw [decide_eq_false_iff_not]; exact h2) (Wp.lett ?_)
      rw [decide_eq_true (show z ≥ 32 by omega)]
      exact hj
theorem read_r (hn : 1000000 < n) (K : RefD lo h rb D vs s) (ho : SOk s B) (hB : B < 1000000) (z : Int) : ∃ h', world n (d + 4) 40 [.ptr rb 0, .int .i64 z] h = some (.ret (.tup [strA (readS s z), .int .i64 (readE s z)]), h') ∧ Tch [] h h' := by
  suffices hK : Wp (world n (d + 4) 40 [.ptr rb 0, .int .i64 z] h) fun r h' => r = .ret (.tup [strA (readS s z), .int .i64 (readE s z)]) ∧ Tch [] h h' by
    obtain ⟨_, h', e, rfl, k⟩ := hK
    exact ⟨h', e, k⟩
  rw [w_ref04_Disk_Read]
  unfold ref04_Disk_Read
  refine Wp.obind (nilC_ptr _ _) (Wp.obind (fldP_ptr _ _ _) (Wp.obind (RowH.cell' K.row (by rw [Nat.zero_add]; exact K.cp)) (Wp.obind (avInt_int _ _) (Wp.lett ?_))))
  unfold readS readE refP
  by_cases h0 : s.p = 0
  · rw [if_pos h0, if_neg (by decide), if_neg (by decide)]
    refine Wp.ift (beq_t h0) ?_
    exact Wp.ret ⟨rfl, Tch.refl _ _⟩
  rw [if_neg h0]
  refine Wp.iff (beq_f h0) (Wp.lett (Wp.lettG fun j19 ej => ?_))
  by_cases h1 : 0 ≤ z ∧ z < 32
  · rw [if_pos h1, if_pos rfl, if_pos rfl]
    refine Wp.iff (by rw [decide_eq_false_iff_not]; omega) (Wp.lett ?_)
    rw [decide_eq_false (show ¬ z ≥ 32 by omega), ej]
    obtain ⟨h2, e2, t2⟩ := see_r (n := n) (d := d) hn K ho hB z
    have e1 : seeC s z = (s.fs z.toNat).seen := if_pos h1
    rw [e1] at e2
    refine Wp.iff rfl (Wp.callN e2 (Wp.obind (avAgg_agg _) (Wp.mnew (Mem.nil [] h2) fun h3 M3 => ?_)))
    rw [newP_eq]
    refine Wp.sa0 M3 rfl rfl rfl fun h4 M4 => Wp.ld0 M4 (show (contC (s.fs z.toNat).seen)[0]? = some (.bool (s.fs z.toNat).seen.th) from rfl) (Wp.obind (avBool_bool _) (Wp.lett ?_))
    cases hth : (s.fs z.toNat).seen.th with
    | false => exact Wp.ift rfl (Wp.ret ⟨rfl, t2.trans M4.tch⟩)
    | true =>
      refine Wp.iff rfl (Wp.ld0 M4 (show (contC (s.fs z.toNat).seen)[1]? = some (strA (s.fs z.toNat).seen.u) from rfl) (Wp.obind (avStr_str _) ?_))
      exact Wp.ret ⟨rfl, t2.trans M4.tch⟩
  · rw [if_neg h1, if_neg (by decide), if_neg (by decide)]
    have hj : Wp (j19 true h) fun r h' => r = .ret (.tup [strA [], .int .i64 2]) ∧ Tch [] h h' := by
      rw [ej]
      exact Wp.ift rfl (Wp.ret ⟨rfl, Tch.refl _ _⟩)
    by_cases h2 : z < 0
    · exact Wp.ift (by rw [decide_eq_true_eq]; exact h2) hj
    · refine Wp.iff (by rw [decide_eq_false_iff_not]; exact h2) (Wp.lett ?_)
      rw [decide_eq_true (show z ≥ 32 by omega)]
      exact hj
end
end Go.Proofs.Ytcbnpdfingfmgaa
