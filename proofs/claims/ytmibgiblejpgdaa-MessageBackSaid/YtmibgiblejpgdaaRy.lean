/- What reading comes to. -/
import Derived.Test.YtmibgiblejpgdaaRr
namespace Go.Proofs.Ytmibgiblejpgdaa
open Go.RowKit Abs
/-- a number that may be a message's -/
def whl (v : Nat) : Int := if v > 1125899906842624 then -1 else (v : Int)
/-- what is read: nothing, if it is no message -/
noncomputable def readC (f : Nat → Int) (s : Bytes) (v : AV) : List AV × Int × Int :=
  if (rEnd s (q9 s)).1 ≠ 0 then (zeros22, (rEnd s (q9 s)).1, (rEnd s (q9 s)).2) else if manyOf s > 4 ∨ chkM (msgF f s v) (entsF f s (cntOf s)) ≠ 0 then (zeros22, 7, 0) else ((msgF f s v).cells, 0, 0)
theorem msgF_one {f : Nat → Int} {s : Bytes} {v : AV} (hv : v.one = true) : (msgF f s v).cells.all AV.one = true := by
  simp only [msgF, Ms.cells, List.all_cons, List.all_nil, hv]
  rfl
theorem msgF_lens (f : Nat → Int) (s : Bytes) (v : AV) : lensOk (msgF f s v) (entsF f s (cntOf s)) := by
  have hc4 : cntOf s ≤ 4 := by unfold cntOf; split <;> omega
  refine ⟨?_, fun e he => ?_, by rw [entsF_len]; omega⟩
  · have : (rText s 3500 (q6 s)).1.length ≤ 3500 := rText_len
    show (rText s 3500 (q6 s)).1.length ≤ _
    omega
  · unfold entsF at he
    obtain ⟨i, _, rfl⟩ := List.mem_map.1 he
    have : (rText s 3500 (rNum s 8 (eSt s (q8 s) i)).2).1.length ≤ 3500 := rText_len
    show (rText s 3500 (rNum s 8 (eSt s (q8 s) i)).2).1.length ≤ _
    omega
theorem ents_lo {h h' : AHeap} {v : AV} {es : List (Int × Bytes)} (k : EntsAt h'.next h' v es) (ha : Above h h') (hl : v.lo h.next = true) : EntsAt h.next h v es := by
  refine ⟨k.1, k.2.imp id ?_⟩
  rintro ⟨b, h1, rfl, t, g1, g2⟩
  have hb : b < h.next := by
    simp only [AV.lo] at hl
    exact Nat.le_of_ble_eq_true hl
  exact ⟨b, hb, rfl, t, by rw [← ha.get b hb]; exact g1, g2⟩
def rowsOk (f : Nat → Int) (s : Bytes) (h0 : AHeap) (v : AV) (h : AHeap) : Prop := v.one = true ∧ ((readC f s v).2.1 = 0 → EntsAt h.next h v (entsF f s (cntOf s))) ∧ Tch [] h0 h
theorem readC_ok {f : Nat → Int} {s : Bytes} {v : AV} (h : (readC f s v).2.1 = 0) : (readC f s v).1 = (msgF f s v).cells := by
  unfold readC at *
  split
  · rename_i h1
    rw [if_pos h1] at h
    exact absurd h h1
  · rename_i h1
    rw [if_neg h1] at h
    split
    · rename_i h2
      rw [if_pos h2] at h
      cases h
    · rfl
theorem rowsOk_gc {f : Nat → Int} {s : Bytes} {v : AV} {h h' : AHeap} {a c : AV} (k : rowsOk f s h v h') (ha : Above h h') (hl : (AV.tup [.agg (readC f s v).1, a, c]).lo h.next = true) : rowsOk f s h v h := by
  refine ⟨k.1, fun h0 => ?_, Tch.refl _ _⟩
  rw [readC_ok h0] at hl
  refine ents_lo (k.2.1 h0) ha ?_
  simp only [AV.lo, AV.loL, msgF, Ms.cells, Bool.and_eq_true] at hl
  exact hl.1.2.2.2.2.2.2.2.2.2.1
end Go.Proofs.Ytmibgiblejpgdaa
