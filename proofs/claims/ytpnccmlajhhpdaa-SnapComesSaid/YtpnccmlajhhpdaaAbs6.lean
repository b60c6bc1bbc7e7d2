/- The operations on memory come to what the small machine says. -/
import Derived.Test.YtpnccmlajhhpdaaAbs5
namespace Go.Proofs.Ytpnccmlajhhpdaa.Abs
noncomputable section
open Go.RowKit

section
variable {P : Program} {m : Map} {w0 : Base} {w : World} {H H' : AHeap} {nx : ANext}

/-! ### rows -/
theorem Fits.globAt (F : Fits w0 m H w) {b g s z : Nat} {t : T AV} (h : H.get b = some (.glob t)) (hm : m[b]? = some (some (g, s, z))) : RoAt m w0.w g s t := by
  obtain ⟨z', h1, h2⟩ := F.glob b t h
  rw [hm] at h1
  cases h1
  exact h2
theorem rowGet_ok (F : Fits w0 m H w) {b o n g s z : Nat} {l : List AV} (hm : m[b]? = some (some (g, s, z))) (h : rowGet H b o n = some l) :
    ∃ l', RelL m l l' ∧ l'.length = n ∧ w.rangeAt g (s + o) l' ∧ (∀ v ∈ l', v.oneCell' = true) := by
  unfold rowGet at h
  split at h
  · rename_i N t e hr
    obtain ⟨_, c, fz, hc, hz, hs, hf, hnone, hcell⟩ := F.row b N t e g s z hr hm
    obtain ⟨hl, hg⟩ := T.take_some t n o l h
    have hin : ∀ k, k < n → o + k < N := fun k hk => by
      rcases Nat.lt_or_ge (o + k) N with h1 | h1
      · exact h1
      · have := hnone _ h1
        rw [hg k hk, List.getElem?_eq_getElem (by omega)] at this
        cases this
    have hsz : ∀ k, k < n → s + o + k < c.size := fun k hk => by have := hin k hk; omega
    refine ⟨(c.toList.drop (s + o)).take n, RelL.of_get ?_ ?_, ?_, ?_, ?_⟩
    · rw [hl]
      simp only [List.length_take, List.length_drop, Array.length_toList]
      rcases Nat.eq_zero_or_pos n with h0 | h0
      · omega
      · have := hsz (n - 1) (by omega); omega
    · intro i x y hx hy
      have hi : i < n := by have := (List.getElem?_eq_some_iff.1 hx).1; omega
      obtain ⟨x', y', h1, h2, h3, _⟩ := hcell (o + i) (hin i hi)
      rw [hg i hi, hx] at h1
      rw [List.getElem?_take_of_lt hi, List.getElem?_drop] at hy
      have : c.toList[s + o + i]? = some y' := by simpa [Nat.add_assoc] using h2
      rw [this] at hy
      cases h1; cases hy
      exact h3
    · simp only [List.length_take, List.length_drop, Array.length_toList]
      rcases Nat.eq_zero_or_pos n with h0 | h0
      · omega
      · have := hsz (n - 1) (by omega); omega
    · intro i v hv
      have hi : i < n := by have := (List.getElem?_eq_some_iff.1 hv).1; simp at this; omega
      rw [List.getElem?_take_of_lt hi, List.getElem?_drop] at hv
      rw [cell_of_row w g _ c e fz hc]
      simpa using hv
    · intro v hv
      obtain ⟨i, hi, rfl⟩ := List.mem_iff_getElem.1 hv
      have hi' : i < n := by simp at hi; omega
      obtain ⟨x', y', h1, h2, h3, h4⟩ := hcell (o + i) (hin i hi')
      have : ((c.toList.drop (s + o)).take n)[i]? = some y' := by
        rw [List.getElem?_take_of_lt hi', List.getElem?_drop]
        simpa [Nat.add_assoc] using h2
      rw [List.getElem?_eq_getElem hi] at this
      simp only [Option.some.injEq] at this
      rw [this]; exact h4
  · rename_i t hr
    obtain ⟨hlt, hcell⟩ := F.ro b t g s z hr hm
    obtain ⟨hl, hg⟩ := T.take_some t n o l h
    have hc : ∀ i, i < n → ∃ y, w.cell? ⟨g, s + o + i, none⟩ = some y ∧ (∀ x, l[i]? = some x → Rel m x y) ∧ y.oneCell' = true := by
      intro i hi
      obtain ⟨y, h1, h2, h3⟩ := hcell (o + i) (l[i]'(by omega)) (by rw [hg i hi]; exact List.getElem?_eq_getElem (by omega))
      refine ⟨y, ?_, fun x hx => ?_, h3⟩
      · rw [F.below.cell (p := ⟨g, s + o + i, none⟩) hlt, show s + o + i = s + (o + i) by omega]; exact h1
      · rw [List.getElem?_eq_getElem (by omega)] at hx; cases hx; exact h2
    have key : ∀ (k : Nat), k ≤ n → ∃ l' : List Value, l'.length = k ∧ ∀ i, i < k → ∃ y, l'[i]? = some y ∧ w.cell? ⟨g, s + o + i, none⟩ = some y ∧ (∀ x, l[i]? = some x → Rel m x y) ∧ y.oneCell' = true := by
      intro k
      induction k with
      | zero => intro _; exact ⟨[], rfl, fun i hi => by omega⟩
      | succ k ih =>
        intro hk
        obtain ⟨l', h1, h2⟩ := ih (by omega)
        obtain ⟨y, hy⟩ := hc k (by omega)
        refine ⟨l' ++ [y], by simp [h1], fun i hi => ?_⟩
        by_cases e : i < k
        · obtain ⟨y', a, b⟩ := h2 i e
          exact ⟨y', by rw [List.getElem?_append_left (by omega)]; exact a, b⟩
        · have : i = k := by omega
          subst this
          exact ⟨y, by rw [List.getElem?_append_right (by omega), h1]; simp, hy⟩
    obtain ⟨l', h1, h2⟩ := key n (Nat.le_refl n)
    refine ⟨l', RelL.of_get (by omega) (fun i x y hx hy => ?_), h1, ?_, fun v hv => ?_⟩
    · obtain ⟨y', a, _, c, _⟩ := h2 i (by have := (List.getElem?_eq_some_iff.1 hy).1; omega)
      rw [a] at hy; cases hy
      exact c x hx
    · intro i v hv
      obtain ⟨y', a, b, _, _⟩ := h2 i (by have := (List.getElem?_eq_some_iff.1 hv).1; omega)
      rw [a] at hv; cases hv
      exact b
    · obtain ⟨i, hi, rfl⟩ := List.mem_iff_getElem.1 hv
      obtain ⟨y', a, _, _, d⟩ := h2 i (by omega)
      rw [List.getElem?_eq_getElem hi] at a; cases a
      exact d
  · rename_i t hr
    obtain ⟨hlt, hcell⟩ := F.globAt hr hm
    obtain ⟨hl, hg⟩ := T.take_some t n o l h
    have hc : ∀ i, i < n → ∃ y, w.cell? ⟨g, s + o + i, none⟩ = some y ∧ (∀ x, l[i]? = some x → Rel m x y) ∧ y.oneCell' = true := by
      intro i hi
      obtain ⟨y, h1, h2, h3⟩ := hcell (o + i) (l[i]'(by omega)) (by rw [hg i hi]; exact List.getElem?_eq_getElem (by omega))
      refine ⟨y, ?_, fun x hx => ?_, h3⟩
      · rw [F.below.cell (p := ⟨g, s + o + i, none⟩) hlt, show s + o + i = s + (o + i) by omega]; exact h1
      · rw [List.getElem?_eq_getElem (by omega)] at hx; cases hx; exact h2
    have key : ∀ (k : Nat), k ≤ n → ∃ l' : List Value, l'.length = k ∧ ∀ i, i < k → ∃ y, l'[i]? = some y ∧ w.cell? ⟨g, s + o + i, none⟩ = some y ∧ (∀ x, l[i]? = some x → Rel m x y) ∧ y.oneCell' = true := by
      intro k
      induction k with
      | zero => intro _; exact ⟨[], rfl, fun i hi => by omega⟩
      | succ k ih =>
        intro hk
        obtain ⟨l', h1, h2⟩ := ih (by omega)
        obtain ⟨y, hy⟩ := hc k (by omega)
        refine ⟨l' ++ [y], by simp [h1], fun i hi => ?_⟩
        by_cases e : i < k
        · obtain ⟨y', a, b⟩ := h2 i e
          exact ⟨y', by rw [List.getElem?_append_left (by omega)]; exact a, b⟩
        · have : i = k := by omega
          subst this
          exact ⟨y, by rw [List.getElem?_append_right (by omega), h1]; simp, hy⟩
    obtain ⟨l', h1, h2⟩ := key n (Nat.le_refl n)
    refine ⟨l', RelL.of_get (by omega) (fun i x y hx hy => ?_), h1, ?_, fun v hv => ?_⟩
    · obtain ⟨y', a, _, c, _⟩ := h2 i (by have := (List.getElem?_eq_some_iff.1 hy).1; omega)
      rw [a] at hy; cases hy
      exact c x hx
    · intro i v hv
      obtain ⟨y', a, b, _, _⟩ := h2 i (by have := (List.getElem?_eq_some_iff.1 hv).1; omega)
      rw [a] at hv; cases hv
      exact b
    · obtain ⟨i, hi, rfl⟩ := List.mem_iff_getElem.1 hv
      obtain ⟨y', a, _, _, d⟩ := h2 i (by omega)
      rw [List.getElem?_eq_getElem hi] at a; cases a
      exact d
  · cases h
theorem cellGet_ok (F : Fits w0 m H w) {b o g s z : Nat} {x : AV} (hm : m[b]? = some (some (g, s, z))) (h : cellGet H b o = some x) : ∃ y, w.cell? ⟨g, s + o, none⟩ = some y ∧ Rel m x y := by
  unfold cellGet at h
  split at h
  · rename_i N t e hr
    obtain ⟨_, c, fz, hc, hz, hs, hf, hnone, hcell⟩ := F.row b N t e g s z hr hm
    have hin : o < N := by
      rcases Nat.lt_or_ge o N with h1 | h1
      · exact h1
      · rw [hnone _ h1] at h; cases h
    obtain ⟨x', y', h1, h2, h3, _⟩ := hcell o hin
    rw [h] at h1; cases h1
    exact ⟨y', by rw [cell_of_row w g _ c e fz hc]; exact h2, h3⟩
  · rename_i t hr
    obtain ⟨hlt, hcell⟩ := F.ro b t g s z hr hm
    obtain ⟨y, h1, h2, _⟩ := hcell o x h
    exact ⟨y, by rw [F.below.cell (p := ⟨g, s + o, none⟩) hlt]; exact h1, h2⟩
  · rename_i t hr
    obtain ⟨hlt, hcell⟩ := F.globAt hr hm
    obtain ⟨y, h1, h2, _⟩ := hcell o x h
    exact ⟨y, by rw [F.below.cell (p := ⟨g, s + o, none⟩) hlt]; exact h1, h2⟩
  · cases h
theorem rowPut_ok (F : Fits w0 m H w) {b o g s z : Nat} {l : List AV} {vs : List Value} (hm : m[b]? = some (some (g, s, z))) (hr : RelL m l vs) (h : rowPut H b o l = some H') :
    Fits w0 m H' (w.setCells g (s + o) vs) ∧ w.there g (s + o) vs.length ∧ (∀ v ∈ vs, v.oneCell' = true) := by
  unfold rowPut at h
  split at h
  · rename_i N t e hrow
    split at h
    · rename_i hc'
      obtain ⟨hle, hone⟩ := hc'
      have hle := Nat.le_of_ble_eq_true hle
      simp only [Option.some.injEq] at h; subst h
      have hlen := hr.length
      have hones := hr.one hone
      obtain ⟨hB, c, fz, hc, hz, hs, hf, hnone, hcell⟩ := F.row b N t e g s z hrow hm
      obtain ⟨c', hc2, hsz2, hget⟩ := setCells_same g e fz vs (s + o) c w hc
      refine ⟨F.put hrow rfl rfl hm (below_setCells hB vs _ _ F.below) (fun k hk _ => setCells_other g k hk vs _ _) (fun n' t' e' he => ?_) (fun es he => by cases he) (fun n' t' e' he hx => by
        cases he
        exact ⟨(F.exact b N t e g s z hrow hm hx).1, fun c1 e1 fz1 h1 => by rw [hc2] at h1; cases h1; exact (F.exact b N t e g s z hrow hm hx).2 c e fz hc⟩), ?_, hones⟩
      · cases he
        refine ⟨hB, c', fz, hc2, by omega, hs, hf, fun i hi => ?_, fun i hi => ?_⟩
        · rw [T.get_put, if_neg (by omega)]; exact hnone i hi
        · rw [T.get_put]
          by_cases hin : o ≤ i ∧ i < o + l.length
          · rw [if_pos hin]
            have hx : l[i - o]? = some (l[i - o]'(by omega)) := List.getElem?_eq_getElem (by omega)
            obtain ⟨y, hy, hxy⟩ := hr.get _ _ hx
            refine ⟨_, y, hx, ?_, hxy, hones y (List.mem_of_getElem? hy)⟩
            rw [hget _ (by omega), if_pos (by omega), show s + i - (s + o) = i - o by omega]; exact hy
          · rw [if_neg hin]
            obtain ⟨x, y, h1, h2, h3, h4⟩ := hcell i hi
            refine ⟨x, y, h1, ?_, h3, h4⟩
            rw [hget _ (by omega), if_neg (by omega)]; exact h2
      · intro j hj
        have hlt : s + o + j < c.size := by omega
        refine ⟨by rw [cell_of_row w g _ c e fz hc, Array.getElem?_eq_getElem hlt]; rfl, ?_⟩
        have := hf (s + o + j) (by omega)
        have hfz : fz = (fz.1, fz.2) := rfl
        simp only [World.frozen?, hc]
        rw [hfz]
        simp only [Bool.and_eq_false_imp, decide_eq_true_eq, decide_eq_false_iff_not]
        intro h1 h2
        exact this ⟨h1, h2⟩
    · cases h
  · cases h

theorem rowOf_get (l : List AV) (i : Nat) : (T.put .e 0 l).get i = l[i]? := by
  rw [T.get_put]
  by_cases h : i < l.length
  · rw [if_pos (by omega)]; rfl
  · rw [if_neg (by omega), T.get_e, List.getElem?_eq_none (by omega)]
/-- a new row: in a block of its own, behind whatever has become of the world elsewhere -/
theorem newAt_ok (F : Fits w0 m H w) {w' : World} {l : List AV} {vs : List Value} {c : Array Value} {e : TypeId} {fz : Nat × Nat} (hb : Below w0.heap.size w0.w w') (hold : ∀ k, k < w.heap.size → w'.heap[k]? = w.heap[k]?)
    (hnew : w'.heap[w.heap.size]? = some (.cells c e fz)) (hfz : ∀ i, i < c.size → ¬ (fz.1 ≤ i ∧ i < fz.2)) (hlen : vs.length ≤ c.size) (hc : ∀ i, i < vs.length → c[i]? = vs[i]?) (hr : RelL m l vs) (hone : ∀ v ∈ vs, v.oneCell' = true) (hex : memB e H.ex = true → c.size = l.length ∧ ¬ (fz.1 ≤ c.size ∧ c.size < fz.2)) :
    Fits w0 (m ++ [some (w.heap.size, 0, c.size)]) (H.new (rowOf l e)) w' := by
  have F' : Fits w0 m H w' := F.world hb (fun b o g s z h ho hm => hold g (F.mapped_lt h ho hm)) (fun k o hk => hold k (heap_lt (F.pin k o hk).1)) (Nat.le_of_lt (heap_lt hnew))
  refine F'.new (rowOf l e) (fun b o' s' z' h ho hm => ?_) (fun n t e' he => ?_) (fun es he => by cases he) (fun n t e' he hx => by unfold rowOf at he; cases he; exact ⟨⟨rfl, (hex hx).1⟩, fun c1 e1 fz1 h1 => by rw [hnew] at h1; cases h1; exact (hex hx).2⟩) (hpin := fun k o' hk _ => by have := heap_lt (F.pin k o' hk).1; omega)
  · have := F.mapped_lt h ho hm; omega
  · unfold rowOf at he
    cases he
    have hl := hr.length
    refine ⟨F.size, c, fz, hnew, rfl, by omega, hfz, fun i hi => ?_, fun i hi => ?_⟩
    · rw [rowOf_get, List.getElem?_eq_none hi]
    · have hx : l[i]? = some l[i] := List.getElem?_eq_getElem hi
      obtain ⟨y, hy, hxy⟩ := hr.get i _ hx
      refine ⟨l[i], y, by rw [rowOf_get]; exact hx, ?_, hxy.mono (Map.le_append m _), hone y (List.mem_of_getElem? hy)⟩
      rw [Nat.zero_add, hc i (by omega)]; exact hy
theorem map_new (F : Fits w0 m H w) (p : Nat × Nat × Nat) : (m ++ [some p])[H.next]? = some (some p) := by
  rw [← F.len, List.getElem?_append_right (Nat.le_refl _)]; simp
theorem newCells_ok (F : Fits w0 m H w) {l : List AV} {vs : List Value} (e : TypeId) (extra : List Value) (hr : RelL m l vs) (hone : l.all AV.one = true) (hex : memB e H.ex = true → extra = []) :
    Fits w0 (m ++ [some (w.heap.size, 0, (vs ++ extra).length)]) (H.new (rowOf l e)) (w.alloc (.cells (vs ++ extra).toArray e)) := by
  have := newAt_ok F (w' := w.alloc (.cells (vs ++ extra).toArray e)) (c := (vs ++ extra).toArray) (e := e) (fz := (0, 0)) (F.below.alloc F.size _) (fun k hk => Below.heap_alloc _ _ _ hk) (heap_alloc_new w _) (fun i _ => by simp) (by simp) (fun i hi => by rw [List.getElem?_toArray, List.getElem?_append_left hi]) hr (hr.one hone) (fun hx => ⟨by rw [hex hx]; have := hr.length; simp; omega, by simp⟩)
  simpa using this

/-! ### load, store, new variables -/
theorem run_loadAt_cell (w : World) (g o : Nat) (t : TypeId) (y : Value) (hc : w.cell? ⟨g, o, none⟩ = some y) (ha : aggO P t = some false) : (Instr.loadAt t (.pointer (some ⟨g, o, none⟩))).run P w = .ok y w := by
  have hl : (load ⟨g, o, none⟩).run P w = .ok y w := by simp [load, Sem.run, hc]
  simp only [Instr.loadAt, Instr.sureAddr, Sem.run_bind, Sem.run_pure, Result.andThen_ok, loadVar, run_isAggO ha w]
  simpa using hl
theorem loadAt_ok (F : Fits w0 m H w) {t : TypeId} {b o g s z : Nat} (hm : m[b]? = some (some (g, s, z))) (h : (match aggO P t with
      | some true => match rowGet H b o (P.cellsOf t) with
        | some l => some (.val (.agg l), H)
        | none => none
      | some false => outV H (cellGet H b o)
      | none => none) = some (nx, H')) : PureOK m w H nx H' ((Instr.loadAt t (.pointer (some ⟨g, s + o, none⟩))).run P w) := by
  split at h
  · rename_i ha
    split at h
    · rename_i l hl
      simp only [Option.some.injEq, Prod.mk.injEq] at h
      obtain ⟨rfl, rfl⟩ := h
      obtain ⟨l', h1, h2, h3, h4⟩ := rowGet_ok F hm hl
      obtain ⟨i, hi⟩ := info_of_agg ha
      have hd : ∃ d, P.underlying t = some d ∧ d.isRow = true := by
        unfold aggO at ha
        split at ha
        · rename_i d hd
          refine ⟨d, hd, ?_⟩
          simp only [Option.some.injEq] at ha
          cases d <;> simp_all [isRowD, TypeDesc.isRow]
        · cases ha
      obtain ⟨d, hu, hrow⟩ := hd
      refine ⟨.agg l, .agg ⟨l'⟩, rfl, rfl, ?_, .agg h1⟩
      exact run_loadAt_mid w _ _ t l' d h3 hu hrow (by rw [hi, Option.map_some, ← cells_info hi, h2])
    · cases h
  · rename_i ha
    exact outV_ok (x' := ((w.cell? ⟨_, _ + o, none⟩).getD undef)) h (fun v hv => by
      obtain ⟨y, h1, h2⟩ := cellGet_ok F hm hv
      rw [h1]
      exact ⟨run_loadAt_cell w _ _ t y h1 ha, h2⟩)
  · cases h
theorem load_ok (F : Fits w0 m H w) {t : TypeId} {x : Option AV} {x' : Value} (hx : ∀ v, x = some v → Rel m v x') (h : opLoad P H t x = some (nx, H')) : PureOK m w H nx H' ((Instr.loadAt t x').run P w) := by
  unfold opLoad at h
  split at h
  · rename_i b o
    have hr := hx _ rfl
    cases hr with | ptr hm =>
    exact loadAt_ok F hm h
  · rename_i b o
    have hr := hx _ rfl
    cases hr
    split at h
    · rename_i tg hgl
      obtain ⟨zg, hm, _⟩ := F.glob _ _ hgl
      have := loadAt_ok F hm h
      rwa [Nat.zero_add] at this
    · cases h
  · cases h
theorem store_ok (F : Fits w0 m H w) {t : TypeId} {a x : Option AV} {a' x' : Value} (ha : ∀ v, a = some v → Rel m v a') (hx : ∀ v, x = some v → Rel m v x') (h : opStore P H t a x = some (nx, H')) :
    ∃ w', nx = .skip ∧ Fits w0 m H' w' ∧ (Instr.storeAt t a' x').run P w = .ok () w' := by
  unfold opStore at h
  split at h
  · rename_i b o v
    have hr := ha _ rfl
    cases hr with | ptr hm =>
    split at h
    · rename_i hc
      obtain ⟨hlen, hi⟩ := hc
      obtain ⟨i, hi⟩ := Option.isSome_iff_exists.1 hi
      split at h
      · rename_i H1 hp
        simp only [Option.some.injEq, Prod.mk.injEq] at h
        obtain ⟨rfl, rfl⟩ := h
        have hrx := hx _ rfl
        obtain ⟨F', hth, hone⟩ := rowPut_ok F hm hrx.cells hp
        refine ⟨_, rfl, F', ?_⟩
        have hl := hrx.cells.length
        have hst := run_storeCells_cells (P := P) _ _ x'.cells.toList 0 w (fun j hj => by simpa using (hth j (by simpa using hj)).1) (fun j hj => by simpa using (hth j (by simpa using hj)).2) hone
        have hs : x'.cells.size = i.size := by rw [← cells_info hi, ← hlen, hl]; simp
        simp only [Nat.add_zero] at hst
        simp [Instr.storeAt, Instr.sureAddr, storeVar, sizeOf, typeInfo, hi, hs, hst]
      · cases h
    · cases h
  · cases h
theorem box_ok (F : Fits w0 m H w) {e : TypeId} {x : Option AV} {x' : Value} (hx : ∀ v, x = some v → Rel m v x') (h : opBox H e x = some (nx, H')) : ValPost w0 m H' nx ((do pure (Value.pointer (some (← newVar e x'))) : Sem Value).run P w) := by
  unfold opBox at h
  split at h
  · rename_i v
    unfold outNew at h
    split at h
    · rename_i hone
      simp only [Option.some.injEq, Prod.mk.injEq] at h
      obtain ⟨rfl, rfl⟩ := h
      have hr := (hx _ rfl).cells
      have F' := newCells_ok F e [] hr hone (fun _ => rfl)
      simp only [List.append_nil] at F'
      refine ⟨_, _, _, .pointer (some ⟨w.heap.size, 0, none⟩), Ext.append m _, F', rfl, ?_, ?_⟩
      · simp [newVar, newRow]
      · have := Rel.ptr (o := 0) (map_new F (w.heap.size, 0, x'.cells.toList.length))
        simpa using this
    · cases h
  · cases h
theorem alloc_ok (F : Fits w0 m H w) {e : TypeId} (h : opBox H e (zeroA P e) = some (nx, H')) : ValPost w0 m H' nx ((Instr.alloc e true (.tuple #[])).run P w) := by
  cases hz : zeroA P e with
  | none => rw [hz] at h; cases h
  | some z =>
    obtain ⟨i, zv, hi, hzv, hrel, _, _⟩ := zero_ok m hz
    have := box_ok (P := P) F (x' := zv) (fun v hv => by rw [hz] at hv; cases hv; exact hrel) h
    have he : (Instr.alloc e true (.tuple #[])).run P w = ((do pure (Value.pointer (some (← newVar e zv))) : Sem Value).run P w) := by
      simp [Instr.alloc, zeroValue, typeInfo, hi, hzv]
    rw [he]; exact this

/-! ### slices that are made -/
theorem outNewS_ok (F : Fits w0 m H w) {e : TypeId} {l : List AV} {vs : List Value} {n sz cap : Nat} {r : Result Value} (hr : RelL m l vs) (h : outNewS H e l n sz = some (nx, H')) (hn : n ≤ cap) (hz : cap * sz ≤ vs.length)
    (hrun : r = .ok (.slice (some ⟨w.heap.size, 0, none⟩) n cap) (w.alloc (.cells vs.toArray e))) : ValPost w0 m H' nx r := by
  unfold outNewS at h
  split at h
  · rename_i hone
    obtain ⟨hone, _⟩ := hone
    simp only [Option.some.injEq, Prod.mk.injEq] at h
    obtain ⟨rfl, rfl⟩ := h
    have F' := newCells_ok F e [] hr hone (fun _ => rfl)
    simp only [List.append_nil] at F'
    refine ⟨_, _, _, _, Ext.append m _, F', rfl, hrun, ?_⟩
    have := Rel.sl (o := 0) (sz := sz) (map_new F (w.heap.size, 0, vs.length)) hn (by omega)
    simpa using this
  · cases h
theorem range_zero (z : List Value) (n : Nat) (hz : 0 < z.length) : ((Array.range (n * z.length)).map (z.toArray[· % z.toArray.size]!)).toList = (List.replicate n z).flatten := by
  apply List.ext_getElem?
  intro i
  have hl : (List.replicate n z).flatten.length = n * z.length := by simp
  by_cases hi : i < n * z.length
  · have hm : i % z.length < z.length := Nat.mod_lt _ hz
    have h1 : ((Array.range (n * z.length)).map (z.toArray[· % z.toArray.size]!)).toList[i]? = some z[i % z.length] := by
      simp [hi, hm]
    rw [h1]
    clear h1
    have key : ∀ (n i : Nat), i < n * z.length → (List.replicate n z).flatten[i]? = some (z[i % z.length]'(Nat.mod_lt _ hz)) := by
      intro n
      induction n with
      | zero => intro i hi; omega
      | succ n ih =>
        intro i hi
        rw [List.replicate_succ, List.flatten_cons]
        by_cases h : i < z.length
        · rw [List.getElem?_append_left h, List.getElem?_eq_getElem h]
          simp [Nat.mod_eq_of_lt h]
        · rw [List.getElem?_append_right (by omega), ih (i - z.length) (by rw [Nat.add_mul] at hi; omega)]
          congr 2
          exact (Nat.mod_eq_sub_mod (by omega)).symm
    exact (key n i hi).symm
  · rw [List.getElem?_eq_none (by simp; omega), List.getElem?_eq_none (by omega)]
theorem elemOf_ok {t e : TypeId} (h : elemOf P t = some e) : P.underlying t = some (.slice e) := by
  unfold elemOf at h
  split at h
  · rename_i e' hu; cases h; exact hu
  · cases h
theorem buildSlice_ok (F : Fits w0 m H w) {ρ : RhoT} {ρ' : Operand → Value} {t : TypeId} {len : Nat} {parts : Array (Nat × Operand)} (hr : ∀ x ∈ parts.toList.map (·.2), ∀ v, ρ x = some v → Rel m v (ρ' x)) (h : opBuildSlice P ρ H t len parts = some (nx, H')) :
    ValPost w0 m H' nx ((Instr.buildSlice t len (parts.map fun (i, x) => (i, ρ' x))).run P w) := by
  unfold opBuildSlice at h
  split at h
  · rename_i e ps he hps
    have hu := elemOf_ok he
    split at h
    · rename_i z hz
      obtain ⟨i, zv, hi, hzv, hrel, hl, hl'⟩ := zero_ok m hz
      have hci := cells_info hi
      split at h
      · split at h
        · rename_i hnp
          have hp0 : parts.toList = [] := by
            cases hpl : parts.toList with
            | nil => rfl
            | cons a l => rw [hpl] at hnp; cases hnp
          have hp1 : parts = #[] := by simpa using hp0
          subst hp1
          refine outNewS_ok F (vs := []) (cap := 0) .nil h (Nat.le_refl _) (by simp) ?_
          simp [Instr.buildSlice, run_underlying hu, sizeOf, typeInfo, hi, Instr.fill, newRow, Array.range_zero']
        · cases h
      · rename_i len
        split at h
        · rename_i hc
          obtain ⟨hsm, hpos⟩ := hc
          split at h
          · rename_i cs hfill
            have hp := parts_ok (m := m) parts.toList ps hr hps
            have hzl : zv.cells.toList.length = i.size := by simpa using hl'
            have hcells : RelL m (List.replicate (len + 1) z.cells).flatten (((Array.range ((len + 1) * i.size)).map (zv.cells[· % zv.cells.size]!)).toList) := by
              have e1 := range_zero zv.cells.toList (len + 1) (by omega)
              rw [hzl] at e1
              have e2 : zv.cells.toList.toArray = zv.cells := by simp
              rw [e2] at e1
              rw [e1]
              exact hrel.cells.reps (len + 1)
            obtain ⟨r', h1, h2⟩ := fill_ok (pa := fun i => some (i * P.cellsOf e, P.cellsOf e)) (pv := fun j => some (j * i.size, i.size)) (fun j q hq => by rw [hci] at hq; exact hq) ps _ _ _ cs hp hcells hfill
            have hpl : (parts.map fun (i, x) => (i, ρ' x)).toList = parts.toList.map fun (i, x) => (i, ρ' x) := by simp
            have hrun := run_buildSlice w t e (len + 1) (parts.map fun (i, x) => (i, ρ' x)) r' i zv hu hi hzv (by rw [← hci]; omega) (by
              intro h0
              rcases Nat.mul_eq_zero.1 h0 with h0 | h0
              · omega
              · rw [hci] at hpos; omega) (by rw [hpl]; exact h1)
            have hlen : cs.length = (len + 1) * P.cellsOf e := by
              have : ∀ (ps : List (Nat × AV)) (cs r : List AV), fillA (fun i => some (i * P.cellsOf e, P.cellsOf e)) cs ps = some r → r.length = cs.length := by
                intro ps
                induction ps with
                | nil => intro cs r h; simp only [fillA, Option.some.injEq] at h; rw [h]
                | cons p ps ih =>
                  intro cs r h
                  simp only [fillA] at h
                  split at h
                  · rw [ih _ _ h, lput_length]
                  · cases h
              rw [this _ _ _ hfill]
              simp only [List.length_flatten, List.map_replicate, List.sum_replicate_nat]
              rw [hl, hci]
            refine outNewS_ok F (vs := r'.toList) (cap := len + 1) h2 h (Nat.le_refl _) (by rw [← h2.length, hlen]; exact Nat.le_refl _) ?_
            rw [hrun]
          · cases h
        · cases h
    · cases h
  · cases h
theorem bytesFit_ok {e : TypeId} {n : Nat} (h : bytesFit P e n = true) : ∃ i, P.info? e = some i ∧ n * i.bytes ≤ 1000000000 ∧ n ≤ 1000000000 ∧ 1 ≤ i.size ∧ ∃ z, i.zero = some z ∧ z.cells.size = i.size := by
  unfold bytesFit at h
  split at h
  · rename_i i hi
    simp only [Bool.and_eq_true] at h
    obtain ⟨⟨⟨h1, h2⟩, h3⟩, h4⟩ := h
    refine ⟨i, hi, Nat.le_of_ble_eq_true h1, Nat.le_of_ble_eq_true h2, Nat.le_of_ble_eq_true h3, ?_⟩
    cases hz : i.zero with
    | none => simp [hz] at h4
    | some z => exact ⟨z, rfl, by simpa [hz] using h4⟩
  · cases h
theorem makeSlice_ok (F : Fits w0 m H w) {t : TypeId} {a b : Option AV} {a' b' : Value} (ha : ∀ v, a = some v → Rel m v a') (hb : ∀ v, b = some v → Rel m v b') (h : opMakeSlice P H t a b = some (nx, H')) :
    ValPost w0 m H' nx ((Instr.makeSlice t a' b').run P w) := by
  unfold opMakeSlice at h
  split at h
  · rename_i ka n kb c
    have e1 := rel_int (ha _ rfl)
    have e2 := rel_int (hb _ rfl)
    subst e1 e2
    split at h
    · rename_i e he
      have hu := elemOf_ok he
      split at h
      · rename_i z hz
        obtain ⟨i, zv, hi, hzv, hrel, hl, hl'⟩ := zero_ok m hz
        split at h
        · rename_i hc
          obtain ⟨hle, hbf⟩ := hc
          have hle := Nat.le_of_ble_eq_true hle
          obtain ⟨i', hi', h1, h2, h3, zz, h4, h5⟩ := bytesFit_ok hbf
          rw [hi] at hi'; cases hi'
          have hci := cells_info hi
          have hzl : zv.cells.toList.length = i.size := by simpa using hl'
          have hb1 : (i.bytes : Int) * (c : Int) ≤ 281474976710656 := by
            have h6 : ((c * i.bytes : Nat) : Int) ≤ 1000000000 := by omega
            rw [Int.natCast_mul, Int.mul_comm] at h6
            omega
          have hrun := run_make w t e i zv hu hi hzv ka kb (n : Int) (c : Int) (by omega) (by omega) hb1 (by omega)
          simp only [Int.toNat_natCast] at hrun
          have e1 : (madeCells zv.cells (c * i.size)).toList = (List.replicate c zv.cells.toList).flatten := by
            have e1 := range_zero zv.cells.toList c (by omega)
            rw [hzl] at e1
            have e2 : zv.cells.toList.toArray = zv.cells := by simp
            rw [e2] at e1
            exact e1
          have e3 : madeCells zv.cells (c * i.size) = ((List.replicate c zv.cells.toList).flatten).toArray := by rw [← e1]
          rw [e3] at hrun
          refine outNewS_ok F (cap := c) (hrel.cells.reps c) h hle ?_ hrun
          simp only [List.length_flatten, List.map_replicate, List.sum_replicate_nat]
          rw [hzl, hci]
          exact Nat.le_refl _
        · cases h
      · cases h
    · cases h
  · cases h
end

end
end Go.Proofs.Ytpnccmlajhhpdaa.Abs
