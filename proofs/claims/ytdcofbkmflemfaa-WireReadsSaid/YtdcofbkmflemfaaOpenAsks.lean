/- A list of calls that came in, as the walk wants it. -/
import Derived.Test.YtdcofbkmflemfaaOpen
import Derived.Test.YtdcofbkmflemfaaReads
import Derived.Deep.Slices
namespace Go.Proofs.Ytdcofbkmflemfaa
open Go.ChangeShapes Go.WideShapes Go.ChangeAt Go.RowKit

theorem Try.cells57 : Try.prog.cellsOf 57 = 3 := by kernel_rfl
theorem Try.cells3 : Try.prog.cellsOf 3 = 1 := by kernel_rfl

instance : Inhabited Ask := ⟨⟨0, 0, 0⟩⟩

section
variable {H : Type} {enc : TypeId × Value → H}

theorem open_ask {W : World} {base n : Nat} {spare : Nat → Bool} {held : Bool} {cs : List Value} {x : DataW H × List MemPlace} (h : DataW.trod enc Try.prog W base spare held n 57 cs = some x) :
    ∃ a : Ask, cs = [.int .i64 a.kind, .int .i64 a.count, .int .i64 a.most] ∧ a.count ≤ 9223372036854775807 ∧ a.most ≤ 9223372036854775807 := by
  obtain ⟨xs, m, _, rfl, hl, hlen, hf⟩ := DataW.trod_struct Try.underlying57 h
  rw [Try.cells57] at hl
  match cs, hl with
  | [c0, c1, c2], _ =>
    match xs, hlen with
    | [y0, y1, y2], _ =>
      have h0 : DataW.trod enc Try.prog W base spare held m 3 (([c0, c1, c2].drop 0).take (Try.prog.cellsOf 3)) = some y0 := hf 0 _ rfl
      have h1 : DataW.trod enc Try.prog W base spare held m 3 (([c0, c1, c2].drop 1).take (Try.prog.cellsOf 3)) = some y1 := hf 1 _ rfl
      have h2 : DataW.trod enc Try.prog W base spare held m 3 (([c0, c1, c2].drop 2).take (Try.prog.cellsOf 3)) = some y2 := hf 2 _ rfl
      rw [Try.cells3] at h0 h1 h2
      obtain ⟨a, e0, _, _⟩ := DataW.trod_int Try.underlying3 (by simpa using h0)
      obtain ⟨b, e1, _, w1⟩ := DataW.trod_int Try.underlying3 (by simpa using h1)
      obtain ⟨c, e2, _, w2⟩ := DataW.trod_int Try.underlying3 (by simpa using h2)
      have b1 := bounds_i64 w1
      have b2 := bounds_i64 w2
      refine ⟨⟨a, b, c⟩, ?_, show b ≤ 9223372036854775807 by omega, show c ≤ 9223372036854775807 by omega⟩
      simp only [List.cons.injEq, and_true] at e0 e1 e2
      rw [e0, e1, e2]

theorem open_asks {W : World} {v : Value} {d : DataW H} {p : List MemPlace} (hval : ∃ base, Value.okWide Try.prog W .any base 52 v) (h : DataW.Trod enc Try.prog W 0 (fun _ => true) true 52 v d p)
    (hlt : ∀ x ∈ p, x.block < W.heap.size) : ∃ l, Asks W v l ∧ l.length ≤ 9223372036854775807 := by
  obtain ⟨base, hval⟩ := hval
  obtain ⟨a0, len, cap, rfl⟩ := okWide_slice Try.underlying52 hval
  obtain ⟨fuel, hf⟩ := h
  have none_end : len = 0 → ∃ l, Asks W (.slice a0 len cap) l ∧ l.length ≤ 9223372036854775807 := by
    rintro rfl
    exact ⟨[], ⟨⟨a0, cap, rfl, .inl rfl⟩, by simp⟩, by simp⟩
  rcases Deep.open_slice Try.underlying52 hf with ⟨hcs, _⟩ | ⟨a, len', cap', m, n, D, Pl, hcs, _, hl, hm, hmm, hx, hcell⟩
  · simp [Value.cells] at hcs
    exact none_end hcs.2.1
  · simp [Value.cells] at hcs
    obtain ⟨rfl, rfl, rfl⟩ := hcs
    simp only [Prod.mk.injEq] at hx
    obtain ⟨rfl, rfl⟩ := hx
    simp only [if_true] at hmm
    subst hmm
    rw [Try.cells57] at hcell hlt
    by_cases hl0 : len = 0
    · exact none_end hl0
    · obtain ⟨A, hA⟩ := Deep.choose_lt (α := Ask) (p := fun i q => (W.cell? (a.add (i * 3)) = some (.int .i64 q.kind) ∧ W.cell? ((a.add (i * 3)).add 1) = some (.int .i64 q.count) ∧ W.cell? ((a.add (i * 3)).add 2) = some (.int .i64 q.most)) ∧ q.count ≤ 9223372036854775807 ∧ q.most ≤ 9223372036854775807) (n := len) (fun i hi => by
        obtain ⟨cs', h1, h2⟩ := hcell i (by omega)
        obtain ⟨q, rfl, hq1, hq2⟩ := open_ask h2
        obtain ⟨_, _, h3⟩ := World.cells?_some h1
        have g0 := h3 0 (by omega)
        have g1 := h3 1 (by omega)
        have g2 := h3 2 (by omega)
        refine ⟨q, ⟨?_, ?_, ?_⟩, hq1, hq2⟩
        · simpa [Addr.add] using g0
        · simpa using g1
        · simpa using g2)
      obtain ⟨b, off, spot⟩ := a
      have hspot : spot = none := by
        have := (hA 0 (by omega)).1.1
        simpa [Addr.add] using World.cell?_spot this
      subst hspot
      have hbW : b < W.heap.size := hlt (.cell b off) (List.mem_append_left _ (MemPlace.mem_row.2 ⟨0, by omega, by simp⟩))
      refine ⟨(List.range len).map A, ⟨⟨_, _, by simp; rfl, .inr ⟨b, off, rfl, hbW, fun i hi => ?_⟩⟩, fun x hx => ?_⟩, by simp; unfold maxLen at hm; omega⟩
      · simp at hi
        have h1 := (hA i hi).1
        rw [add_plain, add_plain, add_plain] at h1
        simpa using h1
      · simp at hx
        obtain ⟨i, hi, rfl⟩ := hx
        exact (hA i hi).2
end

end Go.Proofs.Ytdcofbkmflemfaa
