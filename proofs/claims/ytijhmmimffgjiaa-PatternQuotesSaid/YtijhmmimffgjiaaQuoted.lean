/- What Quoted's function comes to. -/
import Derived.Test.YtijhmmimffgjiaaDigits
namespace Go.Proofs.Ytijhmmimffgjiaa
open Go.RowKit Abs

section
variable {call : CallF} {n lo : Nat} {h : AHeap} {b : Nat}
def QD (call : CallF) : Prop := ∀ lo h b r, Rdr lo h b (quoteB r) 0 → lo ≤ h.next → memB TBld h.ex = true → memB TU8 h.ex = false → r.length ≤ 1000000 → ∃ h', call 37 [.ptr b 0, .int .i64 (-1)] h = some (.ret (strA r), h') ∧ Rdr lo h' b (quoteB r) (quoteB r).length ∧ Ab lo h h' ∧ ∀ d, d ≠ b → d < h.next → h'.get d = h.get d
theorem quoted1_F (hc : QD call) (r : Bytes) {p q x : Nat} {t : T AV} {e : TypeId} (hR : Rdr lo h b (quoteB r) 0) (hlo : lo ≤ h.next) (hx : memB TBld h.ex = true) (hu : memB TU8 h.ex = false) (hr : r.length ≤ 1000000)
    (hp : ldCell h (.ptr p 0) = some (.ptr b 0)) (hq : ldCell h (.ptr q 0) = some (.int .i64 (-1))) (ht : h.get x = some (.row 1 t e)) (hxb : x ≠ b) (hxl : x < h.next) (hlx : lo ≤ x) :
    ∃ h', pattern_Quoted_1 call n (.ptr p 0) (.ptr q 0) (.ptr x 0) h = some (.ret (.tup []), h') ∧ Rdr lo h' b (quoteB r) (quoteB r).length ∧ Ab lo h h' ∧ h'.get x = some (.row 1 (t.set 0 (strA r)) e) ∧ ∀ d, d ≠ b → d ≠ x → d < h.next → h'.get d = h.get d := by
  obtain ⟨h1, e1, R1, A1, K1⟩ := hc lo h b r hR hlo hx hu hr
  have g1 : h1.get x = some (.row 1 t e) := (K1 x hxb hxl).trans ht
  have e2 : stRow h1 1 [strA r] (.ptr x 0) = some (h1.put x (.row 1 (t.set 0 (strA r)) e)) := stRow_one g1 (by decide) rfl
  unfold pattern_Quoted_1
  rw [hp, obind_val, hq, obind_val, avInt_int, obind_val, e1, callK_ret, avStr_str, obind_val, e2, obind_val]
  refine ⟨_, rfl, ?_, A1.trans ((Ab.refl lo h1).put hlx _), get_put_same _ _, fun d hd hd2 hd3 => (get_put_other _ (Ne.symm hd2)).trans (K1 d hd hd3)⟩
  obtain ⟨tr, k1, k2, k3, k4, k5⟩ := R1
  exact ⟨tr, (get_put_other _ hxb).trans k1, k2, k3, k4, k5⟩
theorem stRow_two {h : AHeap} {b : Nat} {t : T AV} {e : TypeId} {x y : AV} (hb : h.get b = some (.row 2 t e)) (hx : x.one = true) (hy : y.one = true) : stRow h 2 [x, y] (.ptr b 0) = some (h.put b (.row 2 (t.put 0 [x, y]) e)) := by
  have h2 : [x, y].all AV.one = true := by simp [hx, hy]
  have h1 : Nat.ble (0 + 2) 2 = true := rfl
  simp only [stRow, List.length_cons, List.length_nil, Nat.zero_add, Nat.reduceAdd, Nat.beq_refl, rowPut, hb, h2, Nat.ble_eq, Nat.le_refl, and_self, if_true]
theorem ldRow_two {h : AHeap} {b : Nat} {t : T AV} {e : TypeId} {x y : AV} (hb : h.get b = some (.row 2 (t.put 0 [x, y]) e)) : ldRow h 2 (.ptr b 0) = some [x, y] := by
  have g0 : (t.put 0 [x, y]).get 0 = some x := by rw [T.get_put]; rfl
  have g1 : (t.put 0 [x, y]).get 1 = some y := by rw [T.get_put]; rfl
  simp only [ldRow, rowGet, hb, T.take, Nat.zero_add, g0, g1]
/-- guard where nothing is refused: no fault -/
theorem guard_F {f v : AV} {h1 : AHeap} {t : T AV} {e : TypeId} (hd : dynC Try.prog call f [] (newH h 27 [.int .i64 0, .int .i64 0]) = some (.ret v, h1)) (ht : h1.get h.next = some (.row 2 t e)) :
    ∃ h', pattern_guard call n f h = some (.ret (.agg [.int .i64 0, .int .i64 0]), h') ∧ h'.next = h1.next ∧ h'.ex = h1.ex ∧ ∀ d, d ≠ h.next → h'.get d = h1.get d := by
  have e2 := stRow_two (x := .int .i64 0) (y := .int .i64 0) ht rfl rfl
  have e3 : ∀ g : AHeap, opBin Try.prog g .neq 20 true (some .nifc) (some .nifc) = some (.val (.bool false), g) := fun g => by kernel_rfl
  have e4 := ldRow_two (get_put_same (H := h1) h.next (.row 2 (t.put 0 [.int .i64 0, .int .i64 0]) e))
  unfold pattern_guard
  rw [lett_eq, hd, callKd_ret, show newP h = .ptr h.next 0 from rfl, e2, obind_val]
  unfold pattern_guard_1_d
  rw [e3, outK_val, avBool_bool, obind_val, lett_eq, ifB_false, callN_ret, e4, obind_val]
  exact ⟨_, rfl, rfl, rfl, fun d hd => get_put_other _ (Ne.symm hd)⟩
end
end Go.Proofs.Ytijhmmimffgjiaa
