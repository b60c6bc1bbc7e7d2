/- A list of strings that came in, as a walk wants it. -/
import Derived.Test.YthnoebdfofbpoaaFrame
import Derived.Test.YthnoebdfofbpoaaEq
namespace Go.Proofs.Ythnoebdfofbpoaa
open Go.ChangeShapes Go.WideShapes Go.ChangeAt Go.RowKit

theorem Try.cells9 : Try.prog.cellsOf 9 = 1 := by kernel_rfl
theorem Try.bytes9 : Try.prog.bytesOf 9 = 16 := by kernel_rfl

section
variable {H : Type} {enc : TypeId × Value → H}

theorem weights_strs {P : Program} {e : TypeId} (l : List ByteArray) : DataW.weightsAll (H := H) P e (strs l) = l.map (·.size) := by
  induction l with
  | nil => rfl
  | cons s l ih =>
    show DataW.weights (H := H) P e (.lit (.string s.data.toList)) ++ DataW.weightsAll P e (strs l) = _
    rw [ih]
    simp [DataW.weights]

theorem open_strs {W : World} {v : Value} {d : DataW H} {p : List MemPlace} (hval : ∃ base, Value.okWide Try.prog W .any base 28 v) (h : DataW.Trod enc Try.prog W 0 (fun _ => true) true 28 v d p)
    (hlt : ∀ x ∈ p, x.block < W.heap.size) (hw : ∀ n ∈ d.weights Try.prog 28, n ≤ reachBytes) : ∃ l, Held W v l := by
  obtain ⟨base, hval⟩ := hval
  obtain ⟨a0, len, cap, rfl⟩ := okWide_slice Try.underlying28 hval
  obtain ⟨fuel, hf⟩ := h
  have none_end : len = 0 → ∃ l, Held W (.slice a0 len cap) l := by
    rintro rfl
    exact ⟨[], ⟨a0, cap, rfl, by simp, .inl rfl⟩, by simp, by simp, ⟨a0, cap, rfl, Nat.zero_le _⟩⟩
  rcases open_strings Try.underlying28 Try.underlying9 Try.cells9 hf with ⟨hcs, hx⟩ | ⟨a, len', cap', ss, hcs, _, hl, hm, hz, hx, hcell, hws⟩
  · simp [Value.cells] at hcs
    exact none_end hcs.2.1
  · simp [Value.cells] at hcs
    obtain ⟨rfl, rfl, rfl⟩ := hcs
    simp only [Prod.mk.injEq] at hx
    obtain ⟨rfl, rfl⟩ := hx
    simp only [if_true] at hz
    by_cases hl0 : len = 0
    · exact none_end hl0
    · have hlen : (ss.take len).length = len := by rw [List.length_take]; omega
      have hroom := hw (((strs (H := H) (ss.take len)).length + (strs (H := H) (ss.drop len)).length) * Try.prog.bytesOf 9) (by simp only [DataW.weights, Try.underlying28]; exact List.mem_cons_self ..)
      rw [Try.bytes9] at hroom
      have hstr : (strs (H := H) (ss.take len)).length = len := by simp only [strs, List.length_map]; exact hlen
      rw [hstr] at hroom
      simp only [reachBytes] at hroom
      obtain ⟨b, off, spot⟩ := a
      have hspot : spot = none := by simpa [Addr.add] using World.cell?_spot (hcell 0 (by omega))
      subst hspot
      have hbW : b < W.heap.size := hlt (.cell b off) (MemPlace.mem_row.2 ⟨0, by omega, by simp⟩)
      refine ⟨ss.take len, ⟨⟨_, cap, by rw [hlen], by rw [hlen]; unfold maxLen at hm; omega, .inr ⟨b, off, rfl, hbW, fun i hi => ?_⟩⟩, by rw [hlen]; omega, fun x hx => ?_, ⟨_, cap, by rw [hlen], by rw [hlen]; exact hl⟩⟩⟩
      · rw [hlen] at hi
        have h1 := hcell i (by omega)
        rw [add_plain] at h1
        rw [h1]
        simp [List.getD, hi]
      · have h1 := hw x.size (by simp only [DataW.weights, Try.underlying28]; exact List.mem_cons_of_mem _ (List.mem_append_left _ (by rw [weights_strs]; exact List.mem_map_of_mem hx)))
        exact h1
end

end Go.Proofs.Ythnoebdfofbpoaa
