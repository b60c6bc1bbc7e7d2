/- Two readings of the same bytes. -/
import Derived.Test.YtmibgiblejpgdaaDc
import Derived.Test.YtmibgiblejpgdaaSa
namespace Go.Proofs.Ytmibgiblejpgdaa
open Go.RowKit Abs

def zeroM : Ms := ⟨0, fun _ => 0, false, .nsl, [], 0, 0, 0⟩
theorem zeroM_cells : zeroM.cells = zeros22 := rfl
noncomputable def readM (f : Nat → Int) (s : Bytes) (v : AV) : Ms := if (readC f s v).2.1 = 0 then msgF f s v else zeroM
noncomputable def readE (f : Nat → Int) (s : Bytes) (v : AV) : List (Int × Bytes) := if (readC f s v).2.1 = 0 then entsF f s (cntOf s) else []
theorem readC_no {f : Nat → Int} {s : Bytes} {v : AV} (h : (readC f s v).2.1 ≠ 0) : (readC f s v).1 = zeros22 := by
  unfold readC at *
  split
  · rfl
  · rename_i h1
    rw [if_neg h1] at h
    split
    · rfl
    · rename_i h2
      rw [if_neg h2] at h
      exact absurd rfl h
theorem readM_cells (f : Nat → Int) (s : Bytes) (v : AV) : (readC f s v).1 = (readM f s v).cells := by
  unfold readM
  split
  · rename_i h
    exact readC_ok h
  · rename_i h
    exact readC_no h
theorem fI_small {v : Nat} (h : v ≤ 1125899906842624) : fI v = (v : Int) := by
  unfold fI
  rw [wrap_i64 (by omega) (by omega)]
theorem fI_only {v : Nat} (hv : v < 18446744073709551616) (h0 : 0 ≤ fI v) (h1 : fI v ≤ 1125899906842624) : v ≤ 1125899906842624 := by
  unfold fI at *
  rw [wrap_signed rfl, show ((2 : Int) ^ IntKind.i64.bits) = 18446744073709551616 from rfl, show ((2 : Int) ^ (IntKind.i64.bits - 1)) = 9223372036854775808 from rfl] at h0 h1
  split at h0 <;> omega
theorem whl_small {v : Nat} (h : v ≤ 1125899906842624) : whl v = (v : Int) := by
  unfold whl
  rw [if_neg (by omega)]
theorem whl_only {v : Nat} (h0 : 0 ≤ whl v) : v ≤ 1125899906842624 := by
  unfold whl at h0
  split at h0
  · omega
  · omega
/-- all its numbers are as they may be -/
structure Low (s : Bytes) : Prop where
  nums : ∀ i, i < 15 → rV s (q1 s) i ≤ 1125899906842624
  ents : ∀ i, i < cntOf s → (eV s (q8 s) i).1 ≤ 1125899906842624
theorem low_of {f : Nat → Int} (hf : ∀ v, v < 18446744073709551616 → 0 ≤ f v → f v ≤ 1125899906842624 → v ≤ 1125899906842624) {s : Bytes} {v : AV} (h : chkM (msgF f s v) (entsF f s (cntOf s)) = 0) : Low s := by
  have hF := fine_of h
  refine ⟨fun i hi => ?_, fun i hi => ?_⟩
  · have hr := hF.head.2.2.2.2.2.2 ⟨i, hi⟩
    have hm : mostOf i ≤ 1125899906842624 := by unfold mostOf; split <;> omega
    have hr1 : 0 ≤ f (rV s (q1 s) i) ∧ f (rV s (q1 s) i) ≤ mostOf i := hr
    exact hf _ rV_lt hr1.1 (by omega)
  · have hm : (f (eV s (q8 s) i).1, (eV s (q8 s) i).2) ∈ entsF f s (cntOf s) := by
      unfold entsF
      exact List.mem_map.2 ⟨i, List.mem_range.2 hi, rfl⟩
    have he := hF.each _ hm
    exact hf _ (rNum_lt (w := 8)) he.1 he.2.1
theorem low_ents {f g : Nat → Int} {s : Bytes} (hf : ∀ v, v ≤ 1125899906842624 → f v = g v) (h : Low s) : entsF f s (cntOf s) = entsF g s (cntOf s) := by
  unfold entsF
  refine List.map_congr_left fun i hi => ?_
  rw [hf _ (h.ents i (List.mem_range.1 hi))]
theorem low_same {f g : Nat → Int} {s : Bytes} {v v' : AV} (hf : ∀ v, v ≤ 1125899906842624 → f v = g v) (h : Low s) : sameH (msgF f s v) (msgF g s v') := by
  refine ⟨funext fun j => ?_, rfl, rfl, rfl, rfl, rfl, rfl⟩
  exact hf _ (h.nums j.val j.isLt)
theorem chkM_same {m m' : Ms} {es : List (Int × Bytes)} (h : sameH m m') : chkM m es = chkM m' es := by
  obtain ⟨h1, h2, h3, h4, h5, h6, h7⟩ := h
  unfold chkM headOk right
  rw [h1, h2, h5, h6, h7]
theorem fg (v : Nat) (h : v ≤ 1125899906842624) : fI v = whl v := by rw [fI_small h, whl_small h]
theorem read_code (s : Bytes) (v v' : AV) : (readC fI s v).2 = (readC whl s v').2 ∧ ((readC fI s v).2.1 = 0 → Low s) := by
  have hc : chkM (msgF fI s v) (entsF fI s (cntOf s)) = 0 ↔ chkM (msgF whl s v') (entsF whl s (cntOf s)) = 0 := by
    constructor
    · intro h
      have hl := low_of (fun _ => fI_only) h
      rw [← chkM_same (low_same (v := v) (v' := v') fg hl), ← low_ents fg hl]
      exact h
    · intro h
      have hl := low_of (fun _ _ h0 _ => whl_only h0) h
      rw [chkM_same (low_same (v := v) (v' := v') fg hl), low_ents fg hl]
      exact h
  constructor
  · unfold readC
    by_cases c1 : (rEnd s (q9 s)).1 ≠ 0
    · rw [if_pos c1, if_pos c1]
    · rw [if_neg c1, if_neg c1]
      by_cases c2 : manyOf s > 4
      · rw [if_pos (.inl c2), if_pos (.inl c2)]
      · by_cases c3 : chkM (msgF fI s v) (entsF fI s (cntOf s)) = 0
        · have c4 := hc.1 c3
          rw [if_neg (by omega), if_neg (by omega)]
        · have c4 := fun h => c3 (hc.2 h)
          rw [if_pos (.inr c3), if_pos (.inr c4)]
  · intro h
    unfold readC at h
    split at h
    · rename_i c1
      exact absurd h c1
    · split at h
      · cases h
      · rename_i c2
        exact low_of (fun _ => fI_only) (v := v) (by omega)
theorem read_same (s : Bytes) (v v' : AV) : sameH (readM fI s v) (readM whl s v') ∧ readE fI s v = readE whl s v' := by
  obtain ⟨h1, h2⟩ := read_code s v v'
  unfold readM readE
  rw [← h1]
  by_cases c : (readC fI s v).2.1 = 0
  · rw [if_pos c, if_pos c, if_pos c, if_pos c]
    exact ⟨low_same fg (h2 c), low_ents fg (h2 c)⟩
  · rw [if_neg c, if_neg c, if_neg c, if_neg c]
    exact ⟨sameH_self _, rfl⟩
theorem readE_len (f : Nat → Int) (s : Bytes) (v : AV) : (readE f s v).length ≤ 4 := by
  unfold readE
  split
  · rw [entsF_len]
    unfold cntOf
    split <;> omega
  · exact Nat.zero_le _
theorem readM_one {f : Nat → Int} {s : Bytes} {v : AV} (hv : v.one = true) : (readM f s v).cells.all AV.one = true := by
  unfold readM
  split
  · exact msgF_one hv
  · rfl
theorem readM_ents {f : Nat → Int} {s : Bytes} {v : AV} {h0 h : AHeap} (k : rowsOk f s h0 v h) : EntsAt h.next h (readM f s v).ents (readE f s v) := by
  unfold readM readE
  split
  · rename_i c
    exact k.2.1 c
  · exact ⟨rfl, .inl rfl⟩
theorem flat33 : flatB Try.prog 33 [1, 1] = true := by kernel_rfl
theorem eq33 (a b c d : Int) : eqOther Try.prog 33 (.agg [.int .i64 a, .int .i64 b]) (.agg [.int .i64 c, .int .i64 d]) = some ((a == c) && ((b == d) && true)) := eq_flat flat33 (eqL_cons rfl (eqCell_int _ _ _) (eqL_cons rfl (eqCell_int _ _ _) rfl))
end Go.Proofs.Ytmibgiblejpgdaa
