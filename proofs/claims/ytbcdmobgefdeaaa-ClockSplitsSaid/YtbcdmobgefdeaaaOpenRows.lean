/- Slices of structs that came in, field by field: of any program. -/
import Derived.Test.YtbcdmobgefdeaaaFrame
import Derived.Deep.Fields
namespace Go.Proofs.Ytbcdmobgefdeaaa
open Go.ChangeShapes Go.WideShapes Go.ChangeAt Go.RowKit Go.Deep

theorem list_of {α : Type} {Q : Nat → α → Prop} : ∀ n, (∀ i, i < n → ∃ x, Q i x) → ∃ l : List α, l.length = n ∧ ∀ i (h : i < l.length), Q i l[i]
  | 0, _ => ⟨[], rfl, fun i h => by simp at h⟩
  | n + 1, h => by
    obtain ⟨l, hl, hq⟩ := list_of n (fun i hi => h i (by omega))
    obtain ⟨x, hx⟩ := h n (by omega)
    refine ⟨l ++ [x], by simp [hl], fun i hi => ?_⟩
    by_cases hin : i < n
    · rw [List.getElem_append_left (by omega)]; exact hq i (by omega)
    · have : i = n := by simp at hi; omega
      subst this
      rw [List.getElem_append_right (by omega)]
      simpa [hl] using hx

section
variable {H : Type} {enc : TypeId × Value → H} {P : Program} {w : World} {base : Nat} {spare : Nat → Bool} {held : Bool}

theorem weightsAll_mem {e : TypeId} {l : List (DataW H)} {d : DataW H} (hd : d ∈ l) {n : Nat} (hn : n ∈ d.weights P e) : n ∈ DataW.weightsAll P e l := by
  induction l with
  | nil => cases hd
  | cons x l ih =>
    show n ∈ x.weights P e ++ DataW.weightsAll P e l
    rcases List.mem_cons.1 hd with rfl | h
    · exact List.mem_append_left _ hn
    · exact List.mem_append_right _ (ih h)

/-- A slice of structs of one-cell fields: each field's cell, what it reads as, how great that is. -/
theorem open_rows {t e : TypeId} {fs : Array Field} {fuel R B : Nat} {cs : List Value} {d : DataW H} {p : List MemPlace} (ht : P.underlying t = some (.slice e)) (hs : P.underlying e = some (.struct fs))
    (hone : ∀ (i : Nat) (f : Field), fs[i]? = some f → f.offset = i ∧ P.cellsOf f.type = 1) (hC : P.cellsOf e = fs.size) (hpos : 0 < fs.size) (h : DataW.trod enc P w base spare held fuel t cs = some (d, p))
    (hw : ∀ n ∈ d.weights P t, n ≤ R) (hlt : ∀ x ∈ p, x.block < B) :
    (∃ a cap, cs = [.slice a 0 cap]) ∨
    ∃ (b off len cap : Nat), cs = [.slice (some ⟨b, off, none⟩) len cap] ∧ 0 < len ∧ len ≤ cap ∧ cap ≤ maxLen ∧ b < B ∧ len * P.bytesOf e ≤ R ∧
      ∀ i, i < len → ∃ (n : Nat) (V : Nat → Value) (Y : Nat → DataW H × List MemPlace), ∀ (j : Nat) (f : Field), fs[j]? = some f → w.cell? ⟨b, off + i * fs.size + j, none⟩ = some (V j) ∧ DataW.trod enc P w base spare held n f.type [V j] = some (Y j) ∧
        (∀ n ∈ (Y j).1.weights P f.type, n ≤ R) ∧ (∀ q ∈ (Y j).2, q.block < B) := by
  rcases open_slice ht h with ⟨rfl, _⟩ | ⟨a, len, cap, m, n, D, Pl, rfl, hb, hl, hm, hmm, hx, hi⟩
  · exact .inl ⟨none, 0, rfl⟩
  simp only [Prod.mk.injEq] at hx
  obtain ⟨rfl, rfl⟩ := hx
  by_cases h0 : len = 0
  · subst h0; exact .inl ⟨_, _, rfl⟩
  right
  have hlm : len ≤ m := by rw [hmm]; split <;> omega
  obtain ⟨b, off, spot⟩ := a
  have hspot : spot = none := by
    obtain ⟨cs', hc, _⟩ := hi 0 (by omega)
    obtain ⟨_, hlen, hcell⟩ := World.cells?_some hc
    rw [hC] at hlen hcell
    have h1 := hcell 0 hpos
    rw [List.getElem?_eq_getElem (by omega)] at h1
    simpa [Addr.add] using World.cell?_spot h1
  subst hspot
  have hbB : b < B := hlt (.cell b off) (List.mem_append_left _ (MemPlace.mem_row.2 ⟨0, by rw [hC]; exact Nat.mul_pos (by omega) hpos, by simp⟩))
  have hwt : len * P.bytesOf e ≤ R := by
    have h1 := hw _ (by simp only [DataW.weights, ht]; exact List.mem_cons_self ..)
    simp only [List.length_map, List.length_range] at h1
    exact Nat.le_trans (Nat.mul_le_mul_right _ (by omega)) h1
  refine ⟨b, off, len, cap, rfl, by omega, hl, hm, hbB, hwt, fun i hil => ?_⟩
  obtain ⟨cs', hc, ht2⟩ := hi i (by omega)
  obtain ⟨_, hlen, hcell⟩ := World.cells?_some hc
  rw [hC] at hlen hcell
  obtain ⟨xs, n', _, hxe, _, hxl, hf⟩ := DataW.trod_struct hs ht2
  simp only [Prod.mk.injEq] at hxe
  obtain ⟨hD, hP⟩ := hxe
  refine ⟨n', fun j => cs'.getD j undef, fun j => xs.getD j (.nil, []), fun j f hj => ?_⟩
  have hjl : j < fs.size := (Array.getElem?_eq_some_iff.1 hj).1
  obtain ⟨ho, hc1⟩ := hone j f hj
  have g := hf j f hj
  rw [ho, hc1, take1_drop cs' j undef (by omega), List.getElem?_eq_getElem (by omega)] at g
  have gx : xs.getD j (.nil, []) = xs[j] := by simp [List.getD, List.getElem?_eq_getElem (show j < xs.length by omega)]
  refine ⟨?_, ?_, ?_, ?_⟩
  · have h1 := hcell j hjl
    rw [add_plain, add_plain, List.getElem?_eq_getElem (by omega)] at h1
    rw [h1]
    simp [List.getD, List.getElem?_eq_getElem (show j < cs'.length by omega)]
  · rw [g]; exact congrArg some gx.symm
  · intro n hn
    replace hn : n ∈ (xs.getD j (.nil, [])).1.weights P f.type := hn
    rw [gx] at hn
    refine hw n ?_
    simp only [DataW.weights, ht]
    refine List.mem_cons_of_mem _ (List.mem_append_left _ (weightsAll_mem (d := D i) (List.mem_map.2 ⟨i, List.mem_range.2 hil, rfl⟩) ?_))
    rw [hD]
    simp only [DataW.weights, hs]
    exact DataW.weights_mem_each (j := j) (t := f.type) (d := xs[j].1) (by simp [hj]) (by rw [List.getElem?_map, List.getElem?_eq_getElem (by omega)]; rfl) n hn
  · intro q hq
    replace hq : q ∈ (xs.getD j (.nil, [])).2 := hq
    rw [gx] at hq
    refine hlt q (List.mem_append_right _ (List.mem_flatMap.2 ⟨i, List.mem_range.2 (by omega), ?_⟩))
    rw [hP]
    exact List.mem_flatMap.2 ⟨xs[j], List.getElem_mem _, hq⟩
end

/-- A slice of structs of two or three integers, as a walk wants it. -/
def Rows2 (W : World) (v : Value) (l : List (Int × Int)) : Prop :=
  ∃ a cap, v = .slice a l.length cap ∧ l.length ≤ maxLen ∧ (l = [] ∨ ∃ b off, a = some ⟨b, off, none⟩ ∧ b < W.heap.size ∧ ∀ i (h : i < l.length), W.cell? ⟨b, off + i * 2, none⟩ = some (.int .i64 l[i].1) ∧ W.cell? ⟨b, off + i * 2 + 1, none⟩ = some (.int .i64 l[i].2)) ∧
    ∀ x ∈ l, (Lit.int .i64 x.1).wf = true ∧ (Lit.int .i64 x.2).wf = true

def Rows3 (W : World) (v : Value) (l : List (Int × Int × Int)) : Prop :=
  ∃ a cap, v = .slice a l.length cap ∧ l.length ≤ maxLen ∧ (l = [] ∨ ∃ b off, a = some ⟨b, off, none⟩ ∧ b < W.heap.size ∧ ∀ i (h : i < l.length), W.cell? ⟨b, off + i * 3, none⟩ = some (.int .i64 l[i].1) ∧ W.cell? ⟨b, off + i * 3 + 1, none⟩ = some (.int .i64 l[i].2.1) ∧ W.cell? ⟨b, off + i * 3 + 2, none⟩ = some (.int .i64 l[i].2.2)) ∧
    ∀ x ∈ l, (Lit.int .i64 x.1).wf = true ∧ (Lit.int .i64 x.2.1).wf = true ∧ (Lit.int .i64 x.2.2).wf = true

section
variable {H : Type} {enc : TypeId × Value → H} {P : Program}

theorem open_rows2 {W : World} {v : Value} {d : DataW H} {p : List MemPlace} {t e : TypeId} {f0 f1 : Field} (ht : P.underlying t = some (.slice e)) (hs : P.underlying e = some (.struct #[f0, f1]))
    (h1 : oneCellFields P #[f0, f1] = true) (hC : P.cellsOf e = 2) (k0 : P.underlying f0.type = some (.int .i64)) (k1 : P.underlying f1.type = some (.int .i64))
    (hval : ∃ base, Value.okWide P W .any base t v) (h : DataW.Trod enc P W 0 (fun _ => true) true t v d p) (hlt : ∀ x ∈ p, x.block < W.heap.size) (hw : ∀ n ∈ d.weights P t, n ≤ reachBytes) : ∃ l, Rows2 W v l := by
  obtain ⟨base, hval⟩ := hval
  obtain ⟨a0, len0, cap0, rfl⟩ := okWide_slice ht hval
  obtain ⟨fuel, hf⟩ := h
  rcases open_rows ht hs (hone_of h1) hC (Nat.zero_lt_succ _) hf hw hlt with ⟨a, cap, hcs⟩ | ⟨b, off, len, cap, hcs, hpos, hl, hm, hb, _, hi⟩
  · simp [Value.cells] at hcs
    obtain ⟨rfl, rfl, rfl⟩ := hcs
    exact ⟨[], a0, cap0, rfl, by simp, .inl rfl, by simp⟩
  · simp [Value.cells] at hcs
    obtain ⟨rfl, rfl, rfl⟩ := hcs
    obtain ⟨l, hll, hq⟩ := list_of (α := Int × Int) (Q := fun i x => W.cell? ⟨b, off + i * 2, none⟩ = some (.int .i64 x.1) ∧ W.cell? ⟨b, off + i * 2 + 1, none⟩ = some (.int .i64 x.2) ∧ (Lit.int .i64 x.1).wf = true ∧ (Lit.int .i64 x.2).wf = true) len0 (fun i hil => by
      obtain ⟨n, V, Y, hV⟩ := hi i hil
      obtain ⟨c0, t0, _, _⟩ := hV 0 f0 rfl
      obtain ⟨c1, t1, _, _⟩ := hV 1 f1 rfl
      obtain ⟨z0, hz0, _, w0⟩ := DataW.trod_int k0 t0
      obtain ⟨z1, hz1, _, w1⟩ := DataW.trod_int k1 t1
      simp only [List.cons.injEq, and_true] at hz0 hz1
      rw [hz0] at c0
      rw [hz1] at c1
      exact ⟨(z0, z1), by simpa using c0, by simpa using c1, w0, w1⟩)
    refine ⟨l, _, _, by rw [hll], by rw [hll]; omega, .inr ⟨b, off, rfl, hb, fun i hil => ⟨(hq i hil).1, (hq i hil).2.1⟩⟩, fun x hx => ?_⟩
    obtain ⟨i, hil, rfl⟩ := List.getElem_of_mem hx
    exact ⟨(hq i hil).2.2.1, (hq i hil).2.2.2⟩

theorem open_rows3 {W : World} {v : Value} {d : DataW H} {p : List MemPlace} {t e : TypeId} {f0 f1 f2 : Field} (ht : P.underlying t = some (.slice e)) (hs : P.underlying e = some (.struct #[f0, f1, f2]))
    (h1 : oneCellFields P #[f0, f1, f2] = true) (hC : P.cellsOf e = 3) (k0 : P.underlying f0.type = some (.int .i64)) (k1 : P.underlying f1.type = some (.int .i64)) (k2 : P.underlying f2.type = some (.int .i64))
    (hval : ∃ base, Value.okWide P W .any base t v) (h : DataW.Trod enc P W 0 (fun _ => true) true t v d p) (hlt : ∀ x ∈ p, x.block < W.heap.size) (hw : ∀ n ∈ d.weights P t, n ≤ reachBytes) : ∃ l, Rows3 W v l := by
  obtain ⟨base, hval⟩ := hval
  obtain ⟨a0, len0, cap0, rfl⟩ := okWide_slice ht hval
  obtain ⟨fuel, hf⟩ := h
  rcases open_rows ht hs (hone_of h1) hC (Nat.zero_lt_succ _) hf hw hlt with ⟨a, cap, hcs⟩ | ⟨b, off, len, cap, hcs, hpos, hl, hm, hb, _, hi⟩
  · simp [Value.cells] at hcs
    obtain ⟨rfl, rfl, rfl⟩ := hcs
    exact ⟨[], a0, cap0, rfl, by simp, .inl rfl, by simp⟩
  · simp [Value.cells] at hcs
    obtain ⟨rfl, rfl, rfl⟩ := hcs
    obtain ⟨l, hll, hq⟩ := list_of (α := Int × Int × Int) (Q := fun i x => W.cell? ⟨b, off + i * 3, none⟩ = some (.int .i64 x.1) ∧ W.cell? ⟨b, off + i * 3 + 1, none⟩ = some (.int .i64 x.2.1) ∧ W.cell? ⟨b, off + i * 3 + 2, none⟩ = some (.int .i64 x.2.2) ∧
        (Lit.int .i64 x.1).wf = true ∧ (Lit.int .i64 x.2.1).wf = true ∧ (Lit.int .i64 x.2.2).wf = true) len0 (fun i hil => by
      obtain ⟨n, V, Y, hV⟩ := hi i hil
      obtain ⟨c0, t0, _, _⟩ := hV 0 f0 rfl
      obtain ⟨c1, t1, _, _⟩ := hV 1 f1 rfl
      obtain ⟨c2, t2, _, _⟩ := hV 2 f2 rfl
      obtain ⟨z0, hz0, _, w0⟩ := DataW.trod_int k0 t0
      obtain ⟨z1, hz1, _, w1⟩ := DataW.trod_int k1 t1
      obtain ⟨z2, hz2, _, w2⟩ := DataW.trod_int k2 t2
      simp only [List.cons.injEq, and_true] at hz0 hz1 hz2
      rw [hz0] at c0
      rw [hz1] at c1
      rw [hz2] at c2
      exact ⟨(z0, z1, z2), by simpa using c0, by simpa using c1, by simpa using c2, w0, w1, w2⟩)
    refine ⟨l, _, _, by rw [hll], by rw [hll]; omega, .inr ⟨b, off, rfl, hb, fun i hil => ⟨(hq i hil).1, (hq i hil).2.1, (hq i hil).2.2.1⟩⟩, fun x hx => ?_⟩
    obtain ⟨i, hil, rfl⟩ := List.getElem_of_mem hx
    exact (hq i hil).2.2.2
end

end Go.Proofs.Ytbcdmobgefdeaaa
