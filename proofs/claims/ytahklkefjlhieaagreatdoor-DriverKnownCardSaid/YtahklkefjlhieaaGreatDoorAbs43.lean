/- Tables at package level, out of a card's words. -/
import Derived.Test.YtahklkefjlhieaaGreatDoorAbs42
import Derived.OpenShut
import Derived.LaidMore
namespace Go.Proofs.YtahklkefjlhieaaGreatDoor.Abs
noncomputable section
open Go.RowKit

theorem laidVars_at {P : Program} {W : World} : ∀ {L : List (String × DataW Unit)} {ps : List MemPlace}, DataW.LaidVars P W L ps → ∀ {i : Nat} {n : String} {d : DataW Unit}, L[i]? = some (n, d) →
    ∃ g t cs fuel p, P.globalNamed n = some g ∧ (P.globals[g]?).map (·.type) = some t ∧ W.var? P n = some cs ∧ DataW.trod (fun _ => ()) P W 0 (fun _ => true) false fuel t cs.toList = some (d, p)
  | [], _, _, i, n, d, hi => by simp at hi
  | (n', d') :: L, ps, h, i, n, d, hi => by
    obtain ⟨g, t, cs, fuel, p, q, h1, h2, h3, h4, h5, _⟩ := h
    cases i with
    | zero =>
      simp only [List.getElem?_cons_zero, Option.some.injEq, Prod.mk.injEq] at hi
      obtain ⟨rfl, rfl⟩ := hi
      exact ⟨g, t, cs, fuel, p, h1, h2, h3, h4⟩
    | succ i => exact laidVars_at h5 (by simpa using hi)
/-- a table of whole numbers -/
theorem laid_ints {P : Program} {W : World} {L : List (String × DataW Unit)} (h : laidMet P L W) {i : Nat} {n : String} {g t e len : Nat} {k : IntKind} {zs : List Int} (hm : L[i]? = some (n, DataW.agg (zs.map fun z => .lit (.int k z))))
    (hg : P.globalNamed n = some g) (ht : (P.globals[g]?).map (·.type) = some t) (hu : P.underlying t = some (.array len e)) (hue : P.underlying e = some (.int k)) (hce : P.cellsOf e = 1) (h0 : 0 < zs.length) :
    g < W.heap.size ∧ ∀ j x, (zs.map fun z => AV.int k z)[j]? = some x → ∃ y, W.cell? ⟨g, j, none⟩ = some y ∧ Rel [] x y ∧ y.oneCell' = true := by
  obtain ⟨ps, hv, _⟩ := h
  obtain ⟨g', t', cs, fuel, p, k1, k2, k3, k4⟩ := laidVars_at hv hm
  rw [hg] at k1
  cases k1
  rw [ht] at k2
  cases k2
  obtain ⟨xs, m, _, ex, _, hl, hel⟩ := DataW.trod_array hu k4
  have e3 : (xs.map (·.1)) = zs.map fun z => (DataW.lit (.int k z) : DataW Unit) := (DataW.agg.inj (Prod.mk.inj ex).1).symm
  have hlen : xs.length = zs.length := by
    have := congrArg List.length e3
    simpa using this
  have cell : ∀ j (hj : j < zs.length), W.cell? ⟨g, j, none⟩ = some (.int k zs[j]) := by
    intro j hj
    have hE := hel j (by omega)
    rw [hce, Nat.mul_one, List.getElem?_eq_getElem (by omega)] at hE
    obtain ⟨z, e1, e2, _⟩ := DataW.trod_int hue hE
    have e4 : (xs.map (·.1))[j]? = (zs.map fun z => (DataW.lit (.int k z) : DataW Unit))[j]? := by rw [e3]
    rw [List.getElem?_map, List.getElem?_map, List.getElem?_eq_getElem (by omega : j < xs.length), List.getElem?_eq_getElem hj, e2] at e4
    simp only [Option.map_some, Option.some.injEq, DataW.lit.injEq, Lit.int.injEq, true_and] at e4
    subst e4
    rw [World.var?_cell hg k3 j]
    have : cs.toList[j]? = some (.int k zs[j]) := by
      have h0 : ((cs.toList.drop j).take 1)[0]? = some (.int k zs[j]) := by rw [e1]; rfl
      simpa using h0
    simpa using this
  refine ⟨?_, fun j x hx => ?_⟩
  · have := cell 0 h0
    unfold World.cell? at this
    cases hb : W.heap[g]? with
    | none => simp [hb] at this
    | some o => exact heap_lt hb
  · rw [List.getElem?_map] at hx
    cases hz : zs[j]? with
    | none => rw [hz] at hx; cases hx
    | some z =>
      rw [hz] at hx
      simp only [Option.map_some, Option.some.injEq] at hx
      subst hx
      obtain ⟨hj, rfl⟩ := List.getElem?_eq_some_iff.1 hz
      exact ⟨_, cell j hj, .int k _, rfl⟩
theorem laid_cons {GL : Tabs} {W : World} {g : Nat} {l : List AV} (h : g < W.heap.size ∧ ∀ i x, l[i]? = some x → ∃ y, W.cell? ⟨g, i, none⟩ = some y ∧ Rel [] x y ∧ y.oneCell' = true) (hL : Laid GL W) : Laid ((g, l) :: GL) W := fun g' l' hm => by
  rcases List.mem_cons.1 hm with e | hm
  · cases e; exact h
  · exact hL g' l' hm
end
end Go.Proofs.YtahklkefjlhieaaGreatDoor.Abs
