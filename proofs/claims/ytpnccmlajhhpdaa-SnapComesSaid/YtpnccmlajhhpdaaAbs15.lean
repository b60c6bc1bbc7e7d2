/- A region whose order is open: step by step. -/
import Derived.Test.YtpnccmlajhhpdaaAbs14
namespace Go.Proofs.Ytpnccmlajhhpdaa.Abs
noncomputable section
open Go.RowKit

section
variable {P : Program} {m m0 : Map} {w0 : Base} {w : World} {H H' : AHeap} {nx : ANext} {ops : Array Oper} {N : Nat}
variable {don : List Nat} {a : AAct} {rs : List Rec} {ids : Nat → Option Nat} {listed : Array Bool} {act : Act}

theorem set_listed {i k : Nat} (hi : i < listed.size) : (listed.setIfInBounds i true)[k]? = some true ↔ (k = i ∨ listed[k]? = some true) := by
  by_cases e : i = k
  · subst e
    rw [Array.getElem?_setIfInBounds_self_of_lt hi]
    simp
  · rw [Array.getElem?_setIfInBounds_ne e]
    constructor
    · exact .inr
    · rintro (h | h)
      · exact absurd h.symm e
      · exact h
theorem ready_iff {i : Nat} (hs : listed.size = ops.size) : i ∈ Region.ready .any ops listed ↔ i < ops.size ∧ listed[i]? = some false ∧ ∀ j ∈ edgesAt ops i, listed[j]? = some true := by
  unfold Region.ready
  rw [List.mem_filter, List.mem_range]
  constructor
  · rintro ⟨h1, h2⟩
    have hl : i < listed.size := by omega
    have ho : ops[i]? = some ops[i] := Array.getElem?_eq_getElem h1
    have hli : listed[i]? = some listed[i] := Array.getElem?_eq_getElem hl
    simp only [Bool.and_eq_true, Bool.not_eq_true', ho, Option.map_some, Option.getD_some, Array.all_eq_true_iff_forall_mem, Bool.or_eq_true] at h2
    obtain ⟨h3, h4⟩ := h2
    refine ⟨h1, ?_, ?_⟩
    · simp only [Array.getD_eq_getD_getElem?, hli, Option.getD_some] at h3
      rw [hli, h3]
    · intro j hj
      simp only [edgesAt, ho, edgesOf, List.mem_map, List.mem_filter, Array.mem_toList_iff] at hj
      obtain ⟨e, ⟨he, hb⟩, rfl⟩ := hj
      rcases h4 e he with h | h
      · rw [hb] at h; cases h
      · simp only [Array.getD_eq_getD_getElem?] at h
        cases hx : listed[e.on]? with
        | none => rw [hx] at h; cases h
        | some b => rw [hx] at h; simp only [Option.getD_some] at h; rw [h]
  · rintro ⟨h1, h2, h3⟩
    have ho : ops[i]? = some ops[i] := Array.getElem?_eq_getElem h1
    refine ⟨h1, ?_⟩
    simp only [Bool.and_eq_true, Bool.not_eq_true', ho, Option.map_some, Option.getD_some, Array.all_eq_true_iff_forall_mem, Bool.or_eq_true]
    refine ⟨by simp [Array.getD_eq_getD_getElem?, h2], fun e he => ?_⟩
    by_cases hb : Region.binds .any e = true
    · right
      have := h3 e.on (by
        simp only [edgesAt, ho, edgesOf, List.mem_map, List.mem_filter, Array.mem_toList_iff]
        exact ⟨e, ⟨he, hb⟩, rfl⟩)
      simp [Array.getD_eq_getD_getElem?, this]
    · left; simpa using hb

/-- behind an operation that had been behind -/
theorem Lag.did (L : Lag P ops w0 m0 N don a H rs ids listed m act w) {i : Nat} {o : Oper} (ho : ops[i]? = some o) (hd : okDst N o = true) (hi : i ∈ don) (hS : ∀ j ∈ edgesAt ops i, listed[j]? = some true) {m' : Map} {w' : World} (he : Ext m0 m') (hle : Map.le m m') (hlen : m.length ≤ m'.length)
    (hvirt : ∀ j id, j ≠ i → ids j = some id → m[id]? = some none → m'[id]? = some none) (F' : Fits w0 m' H w') {v' : Value} (hv : ∀ t, o.dst = some t → ∀ u, a.tmps.get t = some u → Rel m' u v') :
    Lag P ops w0 m0 N don a H rs ids (listed.setIfInBounds i true) m' (act.put o.dst v') w' := by
  have hil : i < listed.size := by rw [L.size]; exact L.lt i hi
  have not : ∀ {k}, (listed.setIfInBounds i true)[k]? ≠ some true → k ≠ i ∧ listed[k]? ≠ some true := fun h => ⟨fun e => h ((set_listed hil).2 (.inl e)), fun e => h ((set_listed hil).2 (.inr e))⟩
  exact {
    size := by simp [L.size]
    sub := fun k hk => by
      rcases (set_listed hil).1 hk with rfl | hk
      · exact hi
      · exact L.sub k hk
    lt := L.lt
    closedS := fun k hk j hj => by
      rcases (set_listed hil).1 hk with rfl | hk
      · exact (set_listed hil).2 (.inr (hS j hj))
      · exact (set_listed hil).2 (.inr (L.closedS k hk j hj))
    ord := L.ord
    kind := fun k hk h => L.kind k hk (not h).2
    fits := F'
    ext := he
    asize := by rw [put_size]; exact L.asize
    slots := fun t => by
      by_cases hdt : o.dst = some t
      · right
        intro u hu
        have hlt : t < N := by
          simp only [okDst, hdt] at hd
          exact Nat.le_of_ble_eq_true hd
        refine ⟨v', ?_, hv t hdt u hu⟩
        rw [hdt]
        simp [Act.put, L.asize, hlt]
      · rcases L.slots t with ⟨k, h1, h2, h3⟩ | h
        · left
          refine ⟨k, h1, fun h => ?_, h3⟩
          rcases (set_listed hil).1 h with rfl | h
          · rw [dst_of ho] at h3; exact hdt h3
          · exact h2 h
        · right
          intro u hu
          obtain ⟨u', h1, h2⟩ := h u hu
          refine ⟨u', ?_, h2.mono hle⟩
          cases hod : o.dst with
          | none => exact h1
          | some s =>
            have : s ≠ t := fun e => hdt (by rw [hod, e])
            simp only [Act.put]
            rw [Array.getElem?_setIfInBounds_ne this]
            exact h1
    defers := by rw [put_defersV]; exact L.defers.mono hle
    pend := fun k hk hkl o' ho' => by
      obtain ⟨hki, hkl⟩ := not hkl
      exact (L.pend k hk hkl o' ho').keep ho' (fun _ _ => rfl) (fun _ _ => rfl) (fun v r _ h _ _ _ _ _ => h) (fun id n t e l r h _ h2 _ _ _ _ _ _ _ _ => ⟨t, h, h2⟩) (fun id h => hvirt k id hki h) (fun _ h => h) rfl
    inj := L.inj
    idlt := fun k b h => ⟨(L.idlt k b h).1, Nat.lt_of_lt_of_le (L.idlt k b h).2 hlen⟩ }

/-- the world does what it is behind with -/
theorem Lag.run (L : Lag P ops w0 m0 N don a H rs ids listed m act w) (hok : okTmps ops = true) {i : Nat} {o : Oper} (ho : ops[i]? = some o) (hd : okDst N o = true) (hi : i ∈ don) (hp : listed[i]? ≠ some true) (hS : ∀ j ∈ edgesAt ops i, listed[j]? = some true) {K : Act → World → Prop} {Q : Exit → Act → World → Prop}
    (hK : ∀ m' act' w', Lag P ops w0 m0 N don a H rs ids (listed.setIfInBounds i true) m' act' w' → K act' w') : wpOp P ops Q i K act w := by
  have hsl := L.reads hok (L.lt i hi) hS
  rw [reads_of ho] at hsl
  have hop : ∀ x ∈ o.op.operands.toList, ∀ v, a.eval x = some v → Rel m v (act.eval x) := fun x hx v hv => eval_ok (fun t e => hsl t (List.mem_append_right _ (mem_tmps (e ▸ hx)))) v hv
  have hwant : ∀ b, wantedT ops a.tmps.get o.guard = some b → Region.wanted o (yielded ops act.tmps) = b := fun b h => wanted_ok (fun t ht => hsl t (List.mem_append_left _ ht)) h
  unfold wpOp
  simp only [ho]
  rcases L.pend i hi hp o ho with ⟨h1, h2⟩ | ⟨h1, h⟩
  · rw [hwant _ h1]
    simp only [Bool.false_eq_true, if_false]
    exact hK m _ w (L.did ho hd hi hS L.ext (Map.le_refl m) (Nat.le_refl _) (fun _ _ _ _ h => h) L.fits (fun t ht u hu => by
      rw [h2 t ht] at hu; cases hu; exact .tup .nil))
  · rw [hwant _ h1]
    simp only [if_true]
    left
    have plain : ∀ v, opA P a.eval o H = some (.val v, H) → (∀ d, o.dst = some d → a.tmps.get d = some v) → o.wp P act w K Q := by
      intro v h2 h3
      obtain ⟨m', w', he, F', v', hrun, hv⟩ := opA_ok L.fits o hop h2
      rw [Oper.wp, hrun]
      exact hK m' _ w' (L.did ho hd hi hS (L.ext.trans he) he.le he.len (fun _ _ _ _ h => he.virt _ h) F' (fun t ht u hu => by
        rw [h3 t ht] at hu; cases hu; exact hv))
    rcases h with ⟨v, h2, h3⟩ | ⟨v, r, hl, h2, h3, _⟩ | ⟨id, x, e, n, t, r, h2, h3, h4, h5, h6, h7, h8, h9, h10, _⟩
    · exact plain v (h2 H) h3
    · exact plain v h2 h3
    · have fin : ∀ x' : Value, Rel m x x' → (execOp act.eval o).run P w = .ok (.value (.pointer (some ⟨w.heap.size, 0, none⟩))) (w.alloc (.cells x'.cells e)) → o.wp P act w K Q := by
        intro x' hx hrun
        rw [Oper.wp, hrun]
        have F' := L.fits.fill h9 h6 h7 h8 hx.cells h4
        have ex : x'.cells.toList.toArray = x'.cells := by simp
        rw [ex] at F'
        have hidl : id < m.length := (List.getElem?_eq_some_iff.1 h9).1
        refine hK _ _ _ (L.did ho hd hi hS (L.ext.set h9 h10) (Map.le_set h9 _) (by simp) (fun j id' hj hid' hm => ?_) F' (fun s hs u hu => ?_))
        · have : id ≠ id' := fun e => hj (L.inj j i id' hid' (by rw [← e]; exact h2))
          rw [List.getElem?_set_ne this]; exact hm
        · rw [h5 s hs] at hu; cases hu
          have := Rel.ptr (m := m.set id (some (w.heap.size, 0, x'.cells.toList.length))) (b := id) (o := 0) (List.getElem?_set_self hidl)
          simpa using this
      obtain ⟨dst, op, ty, pos, after, guard⟩ := o
      simp only at h3 hop
      rcases h3 with ⟨rfl, hz⟩ | ⟨y, rfl, hy⟩
      · obtain ⟨i', zv, hi', hzv, hrel, _, _⟩ := zero_ok m hz
        refine fin zv hrel ?_
        simp [execOp, Instr.alloc, zeroValue, typeInfo, hi', hzv, newVar, newRow]
      · have hrel := hop y (by simp [Op.operands]) x hy
        refine fin _ hrel ?_
        simp [execOp, Instr.box, newVar, newRow]

/-- the plan goes on by an operation that the world does later -/
theorem Lag.more (L : Lag P ops w0 m0 N don a H rs ids listed m act w) (hok : okTmps ops = true) {i : Nat} {o : Oper} (ho : ops[i]? = some o) (hid : i ∉ don) (hE : ∀ j ∈ edgesAt ops i, j ∈ don) (hk : kindAt P ops i < 3) {m' : Map} {v : AV} {rs' : List Rec} {ids' : Nat → Option Nat}
    (he : Ext m m') (F' : Fits w0 m' H' w) (hH : ∀ b, (H.get b).isSome = true → H'.get b = H.get b) (hrs : ∀ r ∈ rs, r ∈ rs') (hids : ∀ j, j ≠ i → ids' j = ids j) (hidi : ∀ b, ids' i = some b → m.length ≤ b ∧ b < m'.length)
    (hpend : Pend P ops m0 m' H' (a.put o.dst v) rs' ids' i o) : Lag P ops w0 m0 N (i :: don) (a.put o.dst v) H' rs' ids' listed m' act w := by
  have hi : i < ops.size := (Array.getElem?_eq_some_iff.1 ho).1
  exact {
    size := L.size
    sub := fun k hk => List.mem_cons_of_mem _ (L.sub k hk)
    lt := fun k hk => by
      rcases List.mem_cons.1 hk with rfl | hk
      · exact hi
      · exact L.lt k hk
    closedS := L.closedS
    ord := .cons hE hid L.ord
    kind := fun k hk' h => by
      rcases List.mem_cons.1 hk' with rfl | hk'
      · exact hk
      · exact L.kind k hk' h
    fits := F'
    ext := L.ext.trans he
    asize := L.asize
    slots := fun t => by
      by_cases hdt : o.dst = some t
      · left
        exact ⟨i, by simp, fun h => hid (L.sub i h), by rw [dst_of ho]; exact hdt⟩
      · rcases L.slots t with ⟨k, h1, h2, h3⟩ | h
        · exact .inl ⟨k, List.mem_cons_of_mem _ h1, h2, h3⟩
        · right
          intro u hu
          rw [get_put_slot hdt] at hu
          obtain ⟨u', h1, h2⟩ := h u hu
          exact ⟨u', h1, h2.mono he.le⟩
    defers := by rw [put_defersA]; exact L.defers.mono he.le
    pend := fun k hk' hkl o' ho' => by
      rcases List.mem_cons.1 hk' with rfl | hk'
      · rw [ho] at ho'; cases ho'; exact hpend
      · have hki : k ≠ i := fun e => hid (e ▸ hk')
        have hap : ∀ t, o.dst = some t → t ∉ readsAt ops k ∧ dstAt ops k ≠ some t := fun t ht => L.apart hok hi hid hk' hkl (.inl hk) (by rw [dst_of ho]; exact ht)
        refine (L.pend k hk' hkl o' ho').keep ho' (fun t ht => get_put_slot fun e => (hap t e).1 ht) (fun d hd => get_put_slot fun e => (hap d e).2 (by rw [dst_of ho']; exact hd)) ?_ ?_ (fun id _ h => he.virt id h) hrs (hids k hki)
        · intro v r hl _ _ h _ _ _
          obtain ⟨v2, e1, _, h4⟩ := read_out hl h
          cases e1
          exact h4 H' hH
        · intro id n t e l r h _ h2 _ _ _ _ _ _ _ _
          exact ⟨t, by rw [hH id (by rw [h]; rfl)]; exact h, h2⟩
    inj := fun j k b hj hk' => by
      by_cases e1 : j = i
      · by_cases e2 : k = i
        · rw [e1, e2]
        · subst e1
          rw [hids k e2] at hk'
          have := (L.idlt k b hk').2
          have := (hidi b hj).1
          omega
      · rw [hids j e1] at hj
        by_cases e2 : k = i
        · subst e2
          have := (L.idlt j b hj).2
          have := (hidi b hk').1
          omega
        · rw [hids k e2] at hk'
          exact L.inj j k b hj hk'
    idlt := fun j b hj => by
      by_cases e1 : j = i
      · subst e1; exact ⟨by simp, (hidi b hj).2⟩
      · rw [hids j e1] at hj
        have := L.idlt j b hj
        exact ⟨List.mem_cons_of_mem _ this.1, Nat.lt_of_lt_of_le this.2 he.len⟩ }
end

end
end Go.Proofs.Ytpnccmlajhhpdaa.Abs
