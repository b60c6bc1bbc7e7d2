/- What is kept of a text: by the program, and by the document. -/
import Derived.Test.YtjnnfdfalcdeoaaDoorWo
namespace Go.Proofs.YtjnnfdfalcdeoaaDoor
open Go.RowKit Abs

def keepS (l : Bytes) : Bytes := l.drop (l.length - 256)
theorem keepS_again (s m : Bytes) : keepS (keepS s ++ m) = keepS (s ++ m) := by
  unfold keepS
  simp only [List.length_append, List.length_drop]
  by_cases h : s.length ≤ 256
  · rw [show s.length - 256 = 0 by omega]
    simp only [List.drop_zero, Nat.sub_zero]
  · have e1 : s.drop (s.length - 256) ++ m = (s ++ m).drop (s.length - 256) := by
      rw [List.drop_append_of_le_length (by omega)]
    rw [e1, List.drop_drop, show s.length - 256 + (s.length - (s.length - 256) + m.length - 256) = s.length + m.length - 256 by omega]
theorem slice_end {l : Bytes} {k : Nat} (h : k ≤ l.length) : sliceS l (k : Int) (lenS l) = some (l.drop k) := by
  rw [lenS_nat, sliceS_nat h (Nat.le_refl _)]
  rw [List.take_of_length_le (by rw [List.length_drop]; exact Nat.le_refl _)]
theorem keep_w (n d : Nat) {l : Bytes} (hl : l.length < 2 ^ 62) (h : AHeap) : world n (d + 1) 24 [strA l] h = some (.ret (strA (keepS l)), h) := by
  rw [w_match_Keep]
  unfold match_Keep
  simp only [lett_eq]
  rw [lenS_nat, wrap_i64 (by omega) (by omega)]
  have e : (if ((l.length : Int) - 256) > 0 then ((l.length : Int) - 256) else 0) = ((l.length - 256 : Nat) : Int) := by
    split <;> omega
  rw [e, ← lenS_nat, slice_end (by omega)]
  exact gcR_self
theorem ref_keep_w (n d : Nat) {l : Bytes} (hl : l.length < 2 ^ 62) (h : AHeap) : world n (d + 1) 27 [strA l] h = some (.ret (strA (keepS l)), h) := by
  rw [w_ref11_Keep]
  unfold ref11_Keep
  simp only [lett_eq]
  by_cases h2 : 256 < l.length
  · have e1 : decide (lenS l > 256) = true := lt_true (by rw [lenS_nat]; omega)
    have e2 : IntKind.i64.wrap (lenS l - 256) = ((l.length - 256 : Nat) : Int) := by
      rw [lenS_nat, wrap_i64 (by omega) (by omega)]; omega
    rw [e1, ifB_true, e2, slice_end (by omega)]
    exact gcR_self
  · have e1 : decide (lenS l > 256) = false := lt_false (by rw [lenS_nat]; omega)
    rw [e1, ifB_false, show keepS l = l by unfold keepS; rw [show l.length - 256 = 0 by omega]; rfl]
    exact gcR_self
theorem matchKeeps_says (s t : Bytes) (hs : s.length < 2 ^ 62) (ht : t.length < 2 ^ 62) : ∃ h', Says Tryd.prog 9 [strA s, strA t] ⟨0, [], .e⟩ (.ret (.bool true)) h' := by
  have key : ∃ h', world 0 6 9 [strA s, strA t] ⟨0, [], .e⟩ = some (.ret (.bool true), h') := by
    rw [w_law11_MatchKeeps]
    unfold law11_MatchKeeps
    have hw : world 0 5 12 [] ⟨0, [], .e⟩ = some (.ret (.bool true), ⟨0, [], .e⟩) := by kernel_rfl
    rw [hw]
    simp only [callN_ret, obind_val, avBool_bool, lett_eq, Bool.not_true, ifB_false]
    have hw2 : IntKind.i64.wrap (lenS s + lenS t) = ((s.length + t.length : Nat) : Int) := by
      rw [lenS_nat, lenS_nat, wrap_i64 (by omega) (by omega)]; omega
    rw [hw2]
    by_cases hb : s.length + t.length ≤ 1048576
    · have e1 : decide (((s.length + t.length : Nat) : Int) > 1048576) = false := lt_false (by omega)
      have hk : (keepS s).length ≤ s.length := by unfold keepS; rw [List.length_drop]; omega
      have a1 : addS (keepS s) t = some (keepS s ++ t) := by
        unfold addS
        rw [Nat.ble_eq_true_of_le (by omega)]
      have a2 : addS s t = some (s ++ t) := by
        unfold addS
        rw [Nat.ble_eq_true_of_le (by omega)]
      rw [e1, ifB_false, keep_w 0 4 (by omega), callN_ret, avStr_str, obind_val, ref_keep_w 0 4 (by omega), callN_ret, avStr_str, obind_val, eqS_eq, beq_self_eq_true, ifB_true]
      rw [keep_w 0 4 (by omega), callN_ret, avStr_str, obind_val, a1, obind_val, keep_w 0 4 (l := keepS s ++ t) (by rw [List.length_append]; omega), callN_ret, avStr_str, obind_val, a2, obind_val,
        keep_w 0 4 (l := s ++ t) (by rw [List.length_append]; omega), callN_ret, avStr_str, obind_val, keepS_again, eqS_eq, beq_self_eq_true]
      exact ⟨_, gcR_self⟩
    · have e1 : decide (((s.length + t.length : Nat) : Int) > 1048576) = true := lt_true (by omega)
      rw [e1]
      exact ⟨_, gcR_self⟩
  obtain ⟨h', hk⟩ := key
  exact ⟨h', world_ok _ _ _ _ _ _ _ hk⟩
theorem matchKeeps_any (s t : ByteArray) (hs : s.size ≤ 140737488351232) (ht : t.size ≤ 140737488351232) (W : World) : Calls Tryd.prog 9 #[.string s, .string t] W fun e W' => e = .returned (.bool true) ∧ Below W.heap.size W W' := by
  have e1 : s.data.toList.length = s.size := by simp
  have e2 : t.data.toList.length = t.size := by simp
  obtain ⟨h', hs⟩ := matchKeeps_says s.data.toList t.data.toList (by omega) (by omega)
  exact says_any hs (.cons (rel_str _ s) (.cons (rel_str _ t) .nil)) W
end Go.Proofs.YtjnnfdfalcdeoaaDoor
