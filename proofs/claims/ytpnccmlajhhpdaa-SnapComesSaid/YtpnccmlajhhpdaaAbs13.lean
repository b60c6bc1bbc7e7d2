/- A region whose order is open: whatever the order, it comes to what the plan comes to. -/
import Derived.Test.YtpnccmlajhhpdaaAbs12
namespace Go.Proofs.Ytpnccmlajhhpdaa.Abs
noncomputable section
open Go.RowKit

section
variable {P : Program} {m : Map} {w0 : Base} {w : World} {H H' : AHeap} {nx : ANext}

/-- a row that the small machine has already is made in the world now -/
theorem Fits.fill (F : Fits w0 m H w) {id n : Nat} {t : T AV} {e : TypeId} {l : List AV} {vs : List Value} (hm : m[id]? = some none) (hb : H.get id = some (.row n t e)) (hn : n = l.length) (ht : ∀ i, i < n → t.get i = l[i]?) (hr : RelL m l vs) (hone : l.all AV.one = true) :
    Fits w0 (m.set id (some (w.heap.size, 0, vs.length))) H (w.alloc (.cells vs.toArray e)) := by
  have Fa := F.alloc (.cells vs.toArray e)
  have hle : Map.le m (m.set id (some (w.heap.size, 0, vs.length))) := Map.le_set hm _
  have hlt : id < m.length := (List.getElem?_eq_some_iff.1 hm).1
  have hl := hr.length
  have new : ∀ {q : Nat × Nat × Nat}, (m.set id (some (w.heap.size, 0, vs.length)))[id]? = some (some q) → q = (w.heap.size, 0, vs.length) := by
    intro q h
    rw [List.getElem?_set_self hlt] at h
    simpa using h.symm
  have old : ∀ {b : Nat} {q : Nat × Nat × Nat}, id ≠ b → (m.set id (some (w.heap.size, 0, vs.length)))[b]? = some (some q) → m[b]? = some (some q) := by
    intro b q h1 h2
    rwa [List.getElem?_set_ne h1] at h2
  exact {
    below := Fa.below
    floor := Fa.floor
    pin := by
      intro k o hk
      refine ⟨(Fa.pin k o hk).1, fun b o2 s z h ho hmb => ?_⟩
      by_cases eb : id = b
      · subst eb
        have := new hmb
        cases this
        have := heap_lt (F.pin _ _ hk).1
        omega
      · exact (F.pin k o hk).2 b o2 s z h ho (old eb hmb)
    len := by rw [List.length_set]; exact F.len
    fresh := F.fresh
    wf := F.wf
    row := by
      intro b n' t' e' g s z h hmb
      by_cases eb : id = b
      · subst eb
        rw [hb] at h; cases h
        obtain ⟨rfl, rfl, rfl⟩ := (by simpa using new hmb : g = w.heap.size ∧ s = 0 ∧ z = vs.length)
        refine ⟨F.size, vs.toArray, (0, 0), heap_alloc_new w _, by simp, by omega, fun i _ => by simp, fun i hi => F.wf _ _ _ _ hb i hi, fun i hi => ?_⟩
        have hx : l[i]? = some (l[i]'(by omega)) := List.getElem?_eq_getElem (by omega)
        obtain ⟨y, hy, hxy⟩ := hr.get i _ hx
        exact ⟨_, y, by rw [ht i hi]; exact hx, by simpa using hy, hxy.mono hle, hr.one hone y (List.mem_of_getElem? hy)⟩
      · have := Fa.row b n' t' e' g s z h (old eb hmb)
        exact ⟨this.1, this.2.mono hle⟩
    map := by
      intro b es g s z h hmb
      by_cases eb : id = b
      · subst eb; rw [hb] at h; cases h
      · have := Fa.map b es g s z h (old eb hmb)
        exact ⟨this.1, this.2.1, this.2.2.1, this.2.2.2.mono hle⟩
    obj := by
      intro b q g s z h hmb
      by_cases eb : id = b
      · subst eb; rw [hb] at h; cases h
      · have := Fa.obj b q g s z h (old eb hmb)
        exact ⟨this.1, this.2.1, this.2.2.1, this.2.2.2.mono hle⟩
    exact := by
      intro b n' t' e' g s z h hmb hx
      by_cases eb : id = b
      · subst eb
        rw [hb] at h; cases h
        obtain ⟨rfl, rfl, rfl⟩ := (by simpa using new hmb : g = w.heap.size ∧ s = 0 ∧ z = vs.length)
        exact ⟨⟨rfl, by omega⟩, Unfz.zero (heap_alloc_new w _)⟩
      · exact Fa.exact b n' t' e' g s z h (old eb hmb) hx
    ro := by
      intro b t' g s z h hmb
      by_cases eb : id = b
      · subst eb; rw [hb] at h; cases h
      · exact (Fa.ro b t' g s z h (old eb hmb)).mono hle
    glob := by
      intro b t' h
      by_cases eb : id = b
      · subst eb; rw [hb] at h; cases h
      · obtain ⟨z, h1, h2⟩ := Fa.glob b t' h
        exact ⟨z, by rw [List.getElem?_set_ne eb]; exact h1, h2.mono hle⟩
    sep := by
      intro b1 b2 o1 o2 g s z s' z' hne h1 h2 a1 a2 m1 m2
      by_cases e1 : id = b1
      · subst e1
        have := new m1
        cases this
        have := F.mapped_lt h2 a2 (old hne m2)
        omega
      · by_cases e2 : id = b2
        · subst e2
          have := new m2
          cases this
          have := F.mapped_lt h1 a1 (old e1 m1)
          omega
        · exact F.sep b1 b2 o1 o2 g s z s' z' hne h1 h2 a1 a2 (old e1 m1) (old e2 m2) }
/-- a row that isn't there yet -/
theorem Fits.later (F : Fits w0 m H w) (l : List AV) (e : TypeId) : Fits w0 (m ++ [none]) (H.new (rowOf l e)) w := by
  have hnew : (m ++ [none])[H.next]? = some none := by rw [← F.len, List.getElem?_append_right (Nat.le_refl _)]; simp
  have old : ∀ {b : Nat} {o : AObj} {p : Nat × Nat × Nat}, H.next ≠ b → (H.new (rowOf l e)).get b = some o → (m ++ [none])[b]? = some (some p) → H.get b = some o ∧ m[b]? = some (some p) := by
    intro b o p eb h hm
    rw [get_new_other _ eb] at h
    rw [List.getElem?_append_left (by rw [F.len]; exact F.lt_next h)] at hm
    exact ⟨h, hm⟩
  have no : ∀ {b : Nat} {p : Nat × Nat × Nat}, (m ++ [none])[b]? = some (some p) → H.next ≠ b := by
    intro b p h e
    subst e
    rw [hnew] at h; cases h
  exact {
    below := F.below
    floor := F.floor
    pin := by
      intro k o hk
      refine ⟨(F.pin k o hk).1, fun b o2 s z h ho hm => ?_⟩
      obtain ⟨h, hm⟩ := old (no hm) h hm
      exact (F.pin k o hk).2 b o2 s z h ho hm
    len := by simp [F.len, AHeap.new]
    fresh := by
      intro b hb
      have : H.next + 1 ≤ b := hb
      rw [get_new_other _ (by omega)]; exact F.fresh b (by omega)
    wf := by
      intro b n t e' h i hi
      by_cases eb : H.next = b
      · subst eb
        rw [get_new_same] at h
        unfold rowOf at h
        cases h
        rw [rowOf_get, List.getElem?_eq_none hi]
      · rw [get_new_other _ eb] at h
        exact F.wf b n t e' h i hi
    row := by
      intro b n t e' g s z h hm
      obtain ⟨h, hm⟩ := old (no hm) h hm
      have := F.row b n t e' g s z h hm
      exact ⟨this.1, this.2.mono (Map.le_append m _)⟩
    map := by
      intro b es g s z h hm
      obtain ⟨h, hm⟩ := old (no hm) h hm
      have := F.map b es g s z h hm
      exact ⟨this.1, this.2.1, this.2.2.1, this.2.2.2.mono (Map.le_append m _)⟩
    obj := by
      intro b q g s z h hm
      obtain ⟨h, hm⟩ := old (no hm) h hm
      have := F.obj b q g s z h hm
      exact ⟨this.1, this.2.1, this.2.2.1, this.2.2.2.mono (Map.le_append m _)⟩
    exact := by
      intro b n t e' g s z h hm hx
      obtain ⟨h, hm⟩ := old (no hm) h hm
      exact F.exact b n t e' g s z h hm hx
    ro := by
      intro b t g s z h hm
      obtain ⟨h, hm⟩ := old (no hm) h hm
      exact (F.ro b t g s z h hm).mono (Map.le_append m _)
    glob := by
      intro b t h
      by_cases eb : H.next = b
      · subst eb; rw [get_new_same] at h; unfold rowOf at h; cases h
      · rw [get_new_other _ eb] at h
        obtain ⟨z, h1, h2⟩ := F.glob b t h
        exact ⟨z, Map.le_append m _ _ _ h1, h2.mono (Map.le_append m _)⟩
    sep := by
      intro b1 b2 o1 o2 g s z s' z' hne h1 h2 a1 a2 m1 m2
      obtain ⟨h1, m1⟩ := old (no m1) h1 m1
      obtain ⟨h2, m2⟩ := old (no m2) h2 m2
      exact F.sep b1 b2 o1 o2 g s z s' z' hne h1 h2 a1 a2 m1 m2 }
theorem Ext.set {m0 m : Map} (h : Ext m0 m) {id : Nat} {p : Nat × Nat × Nat} (hm : m[id]? = some none) (hid : m0.length ≤ id) : Ext m0 (m.set id (some p)) where
  le := Map.le_trans h.le (Map.le_set hm p)
  virt k hk := by
    have : k < m0.length := (List.getElem?_eq_some_iff.1 hk).1
    rw [List.getElem?_set_ne (by omega)]
    exact h.virt k hk
theorem Ext.len {m m' : Map} (h : Ext m m') : m.length ≤ m'.length := by
  rcases Nat.lt_or_ge m'.length m.length with hl | hl
  · exfalso
    have hx : m[m'.length]? = some m[m'.length] := List.getElem?_eq_getElem hl
    have hn : m'[m'.length]? = none := List.getElem?_eq_none (Nat.le_refl _)
    cases hc : m[m'.length] with
    | none => rw [hc] at hx; have := h.virt _ hx; rw [hn] at this; cases this
    | some p => rw [hc] at hx; have := h.le _ _ hx; rw [hn] at this; cases this
  · exact hl
end

end
end Go.Proofs.Ytpnccmlajhhpdaa.Abs
