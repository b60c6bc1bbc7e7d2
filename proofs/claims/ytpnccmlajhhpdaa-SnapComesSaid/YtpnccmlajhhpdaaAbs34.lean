/- Rows as lists of cells: what they hold, what a store makes of them, what stays. -/
import Derived.Test.YtpnccmlajhhpdaaAbs33
namespace Go.Proofs.Ytpnccmlajhhpdaa.Abs
noncomputable section
open Go.RowKit

/-- the row's cells -/
def RowH (h : AHeap) (b : Nat) (e : TypeId) (l : List AV) : Prop := ∃ t, h.get b = some (.row l.length t e) ∧ ∀ i, i < l.length → t.get i = l[i]?
/-- only these rows may have turned -/
def Tch (S : List Nat) (h h' : AHeap) : Prop := h.next ≤ h'.next ∧ h'.ex = h.ex ∧ ∀ b, b < h.next → b ∉ S → h'.get b = h.get b
section
variable {S S' : List Nat} {a c h h' : AHeap} {b : Nat} {e : TypeId} {l vs : List AV} {v : AV}
theorem Tch.refl (S : List Nat) (h : AHeap) : Tch S h h := ⟨Nat.le_refl _, rfl, fun _ _ _ => rfl⟩
theorem Tch.trans (k : Tch S a h) (j : Tch S h c) : Tch S a c := ⟨Nat.le_trans k.1 j.1, j.2.1.trans k.2.1, fun b hb hs => (j.2.2 b (Nat.lt_of_lt_of_le hb k.1) hs).trans (k.2.2 b hb hs)⟩
/-- what turned later was new, or may turn -/
theorem Tch.trans' (k : Tch S a h) (j : Tch S' h c) (hs : ∀ b ∈ S', b ∈ S ∨ a.next ≤ b) : Tch S a c := ⟨Nat.le_trans k.1 j.1, j.2.1.trans k.2.1, fun b hb hS => (j.2.2 b (Nat.lt_of_lt_of_le hb k.1) (fun h => by
  rcases hs b h with h | h
  · exact hS h
  · omega)).trans (k.2.2 b hb hS)⟩
theorem Tch.mono (k : Tch S a h) (hs : ∀ b ∈ S, b ∈ S' ∨ a.next ≤ b) : Tch S' a h := ⟨k.1, k.2.1, fun b hb hS => k.2.2 b hb (fun h => by
  rcases hs b h with h | h
  · exact hS h
  · omega)⟩
theorem Tch.new (S : List Nat) (h : AHeap) (o : AObj) : Tch S h (h.new o) := ⟨Nat.le_succ _, rfl, fun b hb _ => get_new_other o (by omega)⟩
theorem Tch.newH (S : List Nat) (h : AHeap) (e : TypeId) (l : List AV) : Tch S h (newH h e l) := Tch.new S h _
theorem Tch.put (hb : b ∈ S ∨ h.next ≤ b) (o : AObj) : Tch S h (h.put b o) := ⟨Nat.le_refl _, rfl, fun i hi hS => get_put_other o (fun e => by
  subst e
  rcases hb with h | h
  · exact hS h
  · omega)⟩
theorem Tch.above (k : Tch [] a h) : Above a h := ⟨k.1, k.2.1, fun b hb => k.2.2 b hb (by simp)⟩
theorem Above.tch (k : Above a h) : Tch S a h := ⟨k.next, k.ex, fun b hb _ => k.get b hb⟩
theorem RowH.get_some (k : RowH h b e l) : ∃ o, h.get b = some o := by
  obtain ⟨t, h1, _⟩ := k
  exact ⟨_, h1⟩
theorem RowH.same (k : RowH h b e l) (hs : h'.get b = h.get b) : RowH h' b e l := by
  obtain ⟨t, h1, h2⟩ := k
  exact ⟨t, hs.trans h1, h2⟩
theorem RowH.tch (k : RowH h b e l) (hs : Tch S h h') (hb : b < h.next) (hn : b ∉ S) : RowH h' b e l := k.same (hs.2.2 b hb hn)
theorem RowH.new (h : AHeap) (e : TypeId) (l : List AV) : RowH (newH h e l) h.next e l := ⟨_, get_newH h e l, fun i _ => rowOf_get l i⟩
theorem lt_newH (h : AHeap) (e : TypeId) (l : List AV) : h.next < (newH h e l).next := Nat.lt_succ_self _
theorem next_newH (h : AHeap) (e : TypeId) (l : List AV) : (newH h e l).next = h.next + 1 := rfl
theorem ex_newH (h : AHeap) (e : TypeId) (l : List AV) : (newH h e l).ex = h.ex := rfl
theorem RowH.cell (k : RowH h b e l) {o : Nat} (ho : o < l.length) : ldCell h (.ptr b o) = some (l[o]'ho) := by
  obtain ⟨t, h1, h2⟩ := k
  simp only [ldCell, cellGet, h1]
  rw [h2 o ho, List.getElem?_eq_getElem ho]
theorem RowH.cell' (k : RowH h b e l) {o : Nat} (ho : l[o]? = some v) : ldCell h (.ptr b o) = some v := by
  obtain ⟨h1, rfl⟩ := List.getElem?_eq_some_iff.1 ho
  exact k.cell h1
theorem take_of_get {t : T AV} {l : List AV} : ∀ (n o : Nat), (∀ i, o ≤ i → i < o + n → t.get i = l[i]?) → o + n ≤ l.length → t.take o n = some ((l.drop o).take n)
  | 0, o, _, _ => by simp [T.take]
  | n + 1, o, hq, ho => by
    have h1 : t.get o = some (l[o]'(by omega)) := by
      rw [hq o (by omega) (by omega)]; exact List.getElem?_eq_getElem (by omega)
    simp only [T.take, h1, take_of_get n (o + 1) (fun i a b => hq i (by omega) (by omega)) (by omega)]
    rw [List.drop_eq_getElem_cons (by omega : o < l.length), List.take_succ_cons]
theorem RowH.part (k : RowH h b e l) {o n : Nat} (ho : o + n ≤ l.length) : rowGet h b o n = some ((l.drop o).take n) := by
  obtain ⟨t, h1, h2⟩ := k
  unfold rowGet
  rw [h1]
  exact take_of_get n o (fun i _ hi => h2 i (by omega)) ho
theorem RowH.ld (k : RowH h b e l) {o n : Nat} (ho : o + n ≤ l.length) : ldRow h n (.ptr b o) = some ((l.drop o).take n) := k.part ho
theorem RowH.ldAll (k : RowH h b e l) {n : Nat} (hn : l.length = n) : ldRow h n (.ptr b 0) = some l := by
  rw [k.ld (by omega)]
  subst hn
  simp
theorem RowH.type (k : RowH h b e l) : rowType h b = some e := by
  obtain ⟨t, h1, _⟩ := k
  unfold rowType
  rw [h1]
/-- a list with a part of it laid anew -/
def laid (l : List AV) (o : Nat) (vs : List AV) : List AV := l.take o ++ vs ++ l.drop (o + vs.length)
theorem laid_length {o : Nat} (ho : o + vs.length ≤ l.length) : (laid l o vs).length = l.length := by
  unfold laid
  simp only [List.length_append, List.length_take, List.length_drop]
  omega
theorem laid_get {o : Nat} (ho : o + vs.length ≤ l.length) (i : Nat) : (laid l o vs)[i]? = if o ≤ i ∧ i < o + vs.length then vs[i - o]? else l[i]? := by
  unfold laid
  by_cases h1 : i < o
  · rw [if_neg (by omega), List.append_assoc, List.getElem?_append_left (by rw [List.length_take]; omega), List.getElem?_take_of_lt h1]
  · by_cases h2 : i < o + vs.length
    · rw [if_pos ⟨by omega, h2⟩, List.append_assoc, List.getElem?_append_right (by rw [List.length_take]; omega), List.getElem?_append_left (by rw [List.length_take]; omega), List.length_take, Nat.min_eq_left (by omega)]
    · rw [if_neg (by omega), List.getElem?_append_right (by rw [List.length_append, List.length_take]; omega), List.getElem?_drop, List.length_append, List.length_take, Nat.min_eq_left (by omega), show o + vs.length + (i - (o + vs.length)) = i by omega]
/-- a store -/
theorem RowH.put (k : RowH h b e l) {o : Nat} (ho : o + vs.length ≤ l.length) (h1 : vs.all AV.one = true) : ∃ h', rowPut h b o vs = some h' ∧ RowH h' b e (laid l o vs) ∧ h'.next = h.next ∧ h'.ex = h.ex ∧ ∀ i, i ≠ b → h'.get i = h.get i := by
  obtain ⟨t, h2, h3⟩ := k
  refine ⟨h.put b (.row l.length (t.put o vs) e), ?_, ⟨t.put o vs, ?_, fun i hi => ?_⟩, rfl, rfl, fun i hi => get_put_other _ (Ne.symm hi)⟩
  · unfold rowPut
    rw [h2]
    show (if Nat.ble (o + vs.length) l.length = true ∧ vs.all AV.one = true then _ else none) = _
    rw [if_pos ⟨Nat.ble_eq_true_of_le ho, h1⟩]
  · rw [get_put_same, laid_length ho]
  · rw [laid_length ho] at hi
    rw [T.get_put, laid_get ho, h3 i hi]
theorem RowH.st (k : RowH h b e l) {o n : Nat} (hn : vs.length = n) (ho : o + n ≤ l.length) (h1 : vs.all AV.one = true) : ∃ h', stRow h n vs (.ptr b o) = some h' ∧ RowH h' b e (laid l o vs) ∧ h'.next = h.next ∧ h'.ex = h.ex ∧ ∀ i, i ≠ b → h'.get i = h.get i := by
  subst hn
  obtain ⟨h', a1, a2⟩ := k.put ho h1
  refine ⟨h', ?_, a2⟩
  simp only [stRow, Nat.beq_refl, a1]
theorem RowH.st1 (k : RowH h b e l) {o : Nat} (ho : o < l.length) (h1 : v.one = true) : ∃ h', stRow h 1 [v] (.ptr b o) = some h' ∧ RowH h' b e (l.set o v) ∧ h'.next = h.next ∧ h'.ex = h.ex ∧ ∀ i, i ≠ b → h'.get i = h.get i := by
  obtain ⟨h', a1, a2, a3⟩ := k.st (o := o) (n := 1) (vs := [v]) rfl (by omega) (by simp [h1])
  refine ⟨h', a1, ?_, a3⟩
  have : laid l o [v] = l.set o v := by
    apply List.ext_getElem?
    intro i
    rw [laid_get (show o + [v].length ≤ l.length by simp only [List.length_cons, List.length_nil]; omega), List.getElem?_set]
    by_cases hi : o = i
    · subst hi
      simp [ho]
    · rw [if_neg (by simp; omega), if_neg hi]
  rw [← this]
  exact a2
theorem laid_all (hv : vs.length = l.length) : laid l 0 vs = vs := by
  unfold laid
  rw [hv]
  simp
theorem RowH.stAll (k : RowH h b e l) {n : Nat} (hn : vs.length = n) (hl : l.length = n) (h1 : vs.all AV.one = true) : ∃ h', stRow h n vs (.ptr b 0) = some h' ∧ RowH h' b e vs ∧ h'.next = h.next ∧ h'.ex = h.ex ∧ ∀ i, i ≠ b → h'.get i = h.get i := by
  obtain ⟨h', a1, a2, a3⟩ := k.st (o := 0) hn (by omega) h1
  rw [laid_all (by omega)] at a2
  exact ⟨h', a1, a2, a3⟩
theorem tch_of (h1 : h'.next = h.next) (h2 : h'.ex = h.ex) (h3 : ∀ i, i ≠ b → h'.get i = h.get i) (hb : b ∈ S ∨ h.next ≤ b) : Tch S h h' := ⟨by omega, h2, fun i hi hS => h3 i (fun e => by
  subst e
  rcases hb with h | h
  · exact hS h
  · omega)⟩
theorem Slc.tch {N sz : Nat} {x : AV} {ls : List (List AV)} (hs : Slc N h sz x ls) (k : Tch S h h') (hN : N ≤ h.next) (hd : ∀ b ∈ S, N ≤ b) : Slc N h' sz x ls :=
  hs.keep (Nat.le_refl _) fun b o hb hg => by rw [k.2.2 b (by omega) (fun hm => by have := hd b hm; omega)]; exact hg
/-- a row of one's own as a slice that is read -/
theorem RowH.slc (k : RowH h b e l) {sz : Nat} {ls : List (List AV)} (hl : l = ls.flatten) (hsz : ∀ li ∈ ls, li.length = sz) (hne : ls ≠ []) {N : Nat} (hb : b < N) : Slc N h sz (.sl b 0 ls.length sz) ls := by
  obtain ⟨t, h1, h2⟩ := k
  subst hl
  exact ⟨hsz, .inr ⟨b, hne, hb, rfl, t, .inr ⟨_, _, h1⟩, h2⟩⟩
end
end
end Go.Proofs.Ytpnccmlajhhpdaa.Abs
