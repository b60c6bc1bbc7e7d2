/- Several nets in memory at once. -/
import Derived.Test.YthdkfofkghpmcaaFf
namespace Go.Proofs.Ythdkfofkghpmcaa
open Go.RowKit Abs
/-! ### what a call tells, compared -/
def toldB (P : Program) (t tl : TypeId) : Bool := (match P.underlying t with
  | some (.struct _) => true
  | _ => false) && (!(P.eqGuardType P.depth t) && (!(P.stoodInHeld t) && (match (P.fieldsOf t).toList with
  | [a, b, c] => (a.name != "_") && ((b.name != "_") && ((c.name != "_") && (Nat.beq a.offset 0 && (Nat.beq b.offset 1 && (Nat.beq c.offset 5 && (Nat.beq b.type tl && (Nat.beq (kindT P a.type) 1 && Nat.beq (kindT P c.type) 1)))))))
  | _ => false)))
theorem eqA_flat {P : Program} {t : TypeId} {ks : List Nat} {xs ys : List AV} {b : Bool} {d : Nat} (hd : 1000 ≤ d) (hf : flatB P t ks = true) (he : eqL ks xs ys = some b) : eqA P (d + 2) t (.agg xs) (.agg ys) = some b := by
  unfold flatB at hf
  simp only [Bool.and_eq_true, Bool.not_eq_true'] at hf
  obtain ⟨⟨⟨⟨h1, h2⟩, h3⟩, h4⟩, h5⟩ := hf
  have h5 : (P.fieldsOf t).toList.length < 1000 := Nat.le_of_ble_eq_true h5
  unfold eqA
  cases hu : P.underlying t with
  | none => rw [hu] at h1; cases h1
  | some u =>
    rw [hu] at h1
    cases u <;> simp at h1
    simp only [h3, Bool.false_eq_true, if_false]
    exact eqFields_flat _ ks 0 d xs ys [] [] b h4 rfl rfl he (by omega)
theorem eq_told {P : Program} {t tl : TypeId} {ks : List Nat} {xs ml : List AV} {z e : Int} (ht : toldB P t tl = true) (hf : flatB P tl ks = true) (he : eqL ks ml ml = some true) (h0 : xs[0]? = some (.int .i64 z)) (hp : partA P tl xs 1 = some (.agg ml)) (h5 : xs[5]? = some (.int .i64 e)) : eqOther P t (.agg xs) (.agg xs) = some true := by
  unfold toldB at ht
  simp only [Bool.and_eq_true, Bool.not_eq_true'] at ht
  obtain ⟨h1, h2, h3, h4⟩ := ht
  unfold eqOther
  simp only [h2, Bool.false_eq_true, if_false]
  unfold eqA
  cases hu : P.underlying t with
  | none => rw [hu] at h1; cases h1
  | some u =>
    rw [hu] at h1
    cases u <;> simp at h1
    simp only [h3, Bool.false_eq_true, if_false]
    have kk : ∀ (a b c : Field), ((a.name != "_") && ((b.name != "_") && ((c.name != "_") && (Nat.beq a.offset 0 && (Nat.beq b.offset 1 && (Nat.beq c.offset 5 && (Nat.beq b.type tl && (Nat.beq (kindT P a.type) 1 && Nat.beq (kindT P c.type) 1)))))))) = true → eqFields P 1999 [a, b, c] xs xs = some true := by
      intro a b c hh
      simp only [Bool.and_eq_true] at hh
      obtain ⟨n1, n2, n3, o1, o2, o3, tb, k1, k3⟩ := hh
      have n1 : ¬ a.name = "_" := by simpa using n1
      have n2 : ¬ b.name = "_" := by simpa using n2
      have n3 : ¬ c.name = "_" := by simpa using n3
      have o1 := Nat.eq_of_beq_eq_true o1
      have o2 := Nat.eq_of_beq_eq_true o2
      have o3 := Nat.eq_of_beq_eq_true o3
      have tb := Nat.eq_of_beq_eq_true tb
      have k1 := Nat.eq_of_beq_eq_true k1
      have k3 := Nat.eq_of_beq_eq_true k3
      unfold eqFields
      rw [if_neg n1, o1, partA_cell (by omega) h0]
      simp only
      rw [eqA_cell (d := 1997) (b := true) (by rw [k1]; rfl) (by simp [eqCell])]
      simp only
      unfold eqFields
      rw [if_neg n2, o2, tb, hp]
      simp only
      rw [eqA_flat (d := 1995) (b := true) (by omega) hf he]
      simp only
      unfold eqFields
      rw [if_neg n3, o3, partA_cell (by omega) h5]
      simp only
      rw [eqA_cell (d := 1995) (b := true) (by rw [k3]; rfl) (by simp [eqCell])]
      simp only
      unfold eqFields
      rfl
    revert h4
    cases (P.fieldsOf t).toList with
    | nil => intro h; cases h
    | cons a l => cases l with
      | nil => intro h; cases h
      | cons b l => cases l with
        | nil => intro h; cases h
        | cons c l => cases l with
          | cons _ _ => intro h; cases h
          | nil => exact kk a b c
theorem eqTold (t : Td) : eqOther Try.prog TTold (.agg (tdC t)) (.agg (tdC t)) = some true := by
  have he : eqL [1, 1, 1, 2] (letC t.l) (letC t.l) = some ((t.l.id == t.l.id) && ((t.l.a == t.l.a) && ((t.l.b == t.l.b) && ((t.l.s == t.l.s) && true)))) := eqL_cons rfl (eqCell_int _ _ _) (eqL_cons rfl (eqCell_int _ _ _) (eqL_cons rfl (eqCell_int _ _ _) (eqL_cons rfl (eqCell_str _ _) rfl)))
  exact eq_told (tl := TLet) (ks := [1, 1, 1, 2]) (ml := letC t.l) (by kernel_rfl) (by kernel_rfl) (by rw [he]; simp) (rfl : (tdC t)[0]? = some (.int .i64 t.id)) (by kernel_rfl) (rfl : (tdC t)[5]? = some (.int .i64 t.e))
/-! ### two nets' rows are told apart -/
set_option maxRecDepth 100000 in
theorem bigNet : ptrBig Try.prog 25 = true := by kernel_rfl
theorem apartNet {h : AHeap} {a b : Nat} {x y : AV} {l m : List AV} (ka : RowH h a TNet (x :: l)) (kb : RowH h b TNet (y :: m)) (hne : a ≠ b) (hx : memB TNet h.ex = true) : opBinV Try.prog h .eql 25 false (some (.ptr a 0)) (some (.ptr b 0)) = some (.val (.bool false), h) := by
  obtain ⟨t1, g1, _⟩ := ka
  obtain ⟨t2, g2, _⟩ := kb
  have hb : Nat.beq a b = false := by
    cases hh : Nat.beq a b with
    | false => rfl
    | true => exact absurd (Nat.eq_of_beq_eq_true hh) hne
  have l1 : liveAt h a 0 = true := by
    unfold liveAt
    rw [g1]
    show (Nat.blt 0 (l.length + 1) && memB TNet h.ex) = true
    rw [hx]
    rfl
  have l2 : liveAt h b 0 = true := by
    unfold liveAt
    rw [g2]
    show (Nat.blt 0 (m.length + 1) && memB TNet h.ex) = true
    rw [hx]
    rfl
  have ap : apartPtr Try.prog h 25 (.ptr a 0) (.ptr b 0) = true := by
    show (!Nat.beq a b && (liveAt h a 0 && (liveAt h b 0 && ptrBig Try.prog 25))) = true
    rw [hb, l1, l2, bigNet]
    rfl
  simp only [opBinV, ap, Bool.not_false, Bool.and_self]
/-! ### several nets -/
/-- nets, each with blocks of its own, none of them foreign -/
def SysN (fr : Nat → Prop) (H : AHeap) (L : List (Nat × NS)) : Prop := (∀ b, fr b → b < H.next) ∧ ∃ lo : Nat → Nat → Prop, (∀ i p, L[i]? = some p → NetAt (lo i) H p.1 p.2) ∧ (∀ i b, lo i b → ¬ fr b) ∧ ∀ i j b, i ≠ j → b < H.next → lo i b → ¬ lo j b
section
variable {fr fr' lo' : Nat → Prop} {H H' : AHeap} {L : List (Nat × NS)} {i nb nb' : Nat} {s s' : NS}
theorem SysN.nil (h : ∀ b, fr b → b < H.next) : SysN fr H [] := ⟨h, fun _ _ => False, (fun i p hp => by cases hp), (fun _ _ h => h.elim), fun _ _ _ _ _ h => h.elim⟩
theorem SysN.mono (W : SysN fr H L) (h : ∀ b, fr' b → fr b) : SysN fr' H L := by
  obtain ⟨h1, lo, h2, h3, h4⟩ := W
  exact ⟨fun b hb => h1 b (h b hb), lo, h2, fun i b hb hf => h3 i b hb (h b hf), h4⟩
theorem SysN.get (W : SysN fr H L) (hi : L[i]? = some (nb, s)) : ∃ lo, NetAt lo H nb s := by
  obtain ⟨h1, lo, h2, h3, h4⟩ := W
  exact ⟨_, h2 i _ hi⟩
theorem SysN.step (W : SysN fr H L) (hi : L[i]? = some (nb, s)) : ∃ lo, NetAt lo H nb s ∧ (∀ b, lo b → ¬ fr b) ∧ ∀ (S : List Nat) (H' : AHeap) (lo' : Nat → Prop) (nb' : Nat) (s' : NS), Tch S H H' → (∀ b ∈ S, lo b) → NetAt lo' H' nb' s' → (∀ b, lo' b → lo b ∨ H.next ≤ b) → SysN fr H' (L.set i (nb', s')) := by
  obtain ⟨h1, lo, h2, h3, h4⟩ := W
  have hlt : i < L.length := by
    apply Nat.lt_of_not_le
    intro hh
    rw [List.getElem?_eq_none hh] at hi
    cases hi
  refine ⟨lo i, h2 i _ hi, h3 i, fun S H' lo' nb' s' t hS K' hl' => ⟨fun b hb => Nat.lt_of_lt_of_le (h1 b hb) t.1, fun j => if j = i then lo' else shr (lo j) H.next H'.next, fun j p hj => ?_, fun j b hb => ?_, fun j k b hjk hb x y => ?_⟩⟩
  · by_cases e : j = i
    · subst e
      rw [List.getElem?_set_self hlt] at hj
      obtain rfl : (nb', s') = p := by injection hj
      show NetAt (if j = j then lo' else _) H' nb' s'
      rw [if_pos rfl]
      exact K'
    · rw [List.getElem?_set_ne (Ne.symm e)] at hj
      show NetAt (if j = i then lo' else shr (lo j) H.next H'.next) H' p.1 p.2
      rw [if_neg e]
      refine (h2 j p hj).part t fun b hb => ?_
      by_cases hbl : b < H.next
      · exact .inl fun hh => h4 i j b (Ne.symm e) hbl (hS b hb) hh
      · exact .inr (by omega)
  · replace hb : (if j = i then lo' else shr (lo j) H.next H'.next) b := hb
    by_cases e : j = i
    · rw [if_pos e] at hb
      rcases hl' b hb with h | h
      · exact h3 i b h
      · exact fun hf => by have := h1 b hf; omega
    · rw [if_neg e] at hb
      exact h3 j b hb.1
  · replace x : (if j = i then lo' else shr (lo j) H.next H'.next) b := x
    replace y : (if k = i then lo' else shr (lo k) H.next H'.next) b := y
    have low : ∀ m, shr (lo m) H.next H'.next b → lo m b ∧ b < H.next := fun m h => ⟨h.1, by rcases h.2 with h | h <;> omega⟩
    by_cases e : j = i
    · have e' : k ≠ i := fun h => hjk (e.trans h.symm)
      rw [if_pos e] at x
      rw [if_neg e'] at y
      obtain ⟨y1, y2⟩ := low _ y
      rcases hl' b x with h | h
      · exact h4 i k b (Ne.symm e') y2 h y1
      · omega
    · rw [if_neg e] at x
      obtain ⟨x1, x2⟩ := low _ x
      by_cases e' : k = i
      · rw [if_pos e'] at y
        rcases hl' b y with h | h
        · exact h4 i j b (Ne.symm e) x2 h x1
        · omega
      · rw [if_neg e'] at y
        obtain ⟨y1, y2⟩ := low _ y
        exact h4 j k b hjk x2 x1 y1
theorem SysN.part (W : SysN fr H L) (t : Tch [] H H') : SysN (fun b => fr b ∨ (H.next ≤ b ∧ b < H'.next)) H' L := by
  obtain ⟨h1, lo, h2, h3, h4⟩ := W
  have n1 := t.1
  refine ⟨fun b hb => ?_, fun j => shr (lo j) H.next H'.next, fun j p hj => (h2 j p hj).part t (fun _ h => nomatch h), fun j b hb hf => ?_, fun j k b hjk hb x y => ?_⟩
  · rcases hb with h | h
    · have := h1 b h
      omega
    · exact h.2
  · rcases hf with h | h
    · exact h3 j b hb.1 h
    · rcases hb.2 with h' | h' <;> omega
  · have hbl : b < H.next := by rcases x.2 with h | h <;> omega
    exact h4 j k b hjk hbl x.1 y.1
theorem SysN.snoc (W : SysN fr H L) (t : Tch [] H H') (K : NetAt (fun b => H.next ≤ b) H' nb s) : SysN fr H' (L ++ [(nb, s)]) := by
  obtain ⟨h1, lo, h2, h3, h4⟩ := W
  have n1 := t.1
  refine ⟨fun b hb => Nat.lt_of_lt_of_le (h1 b hb) n1, fun j => if j = L.length then (fun b => H.next ≤ b) else shr (lo j) H.next H'.next, fun j p hj => ?_, fun j b hb hf => ?_, fun j k b hjk hb x y => ?_⟩
  · show NetAt (if j = L.length then (fun b => H.next ≤ b) else shr (lo j) H.next H'.next) H' p.1 p.2
    by_cases e : j = L.length
    · subst e
      rw [List.getElem?_append_right (Nat.le_refl _), Nat.sub_self] at hj
      obtain rfl : (nb, s) = p := by injection hj
      rw [if_pos rfl]
      exact K
    · rw [if_neg e]
      have hlt : j < L.length := by
        apply Nat.lt_of_not_le
        intro hh
        rw [List.getElem?_eq_none (by rw [List.length_append, List.length_singleton]; omega)] at hj
        cases hj
      rw [List.getElem?_append_left hlt] at hj
      exact (h2 j p hj).part t (fun _ h => nomatch h)
  · replace hb : (if j = L.length then (fun b => H.next ≤ b) else shr (lo j) H.next H'.next) b := hb
    by_cases e : j = L.length
    · rw [if_pos e] at hb
      have := h1 b hf
      have hb : H.next ≤ b := hb
      omega
    · rw [if_neg e] at hb
      exact h3 j b hb.1 hf
  · replace x : (if j = L.length then (fun b => H.next ≤ b) else shr (lo j) H.next H'.next) b := x
    replace y : (if k = L.length then (fun b => H.next ≤ b) else shr (lo k) H.next H'.next) b := y
    have low : ∀ m, shr (lo m) H.next H'.next b → lo m b ∧ b < H.next := fun m h => ⟨h.1, by rcases h.2 with h | h <;> omega⟩
    by_cases e : j = L.length
    · have e' : k ≠ L.length := fun h => hjk (e.trans h.symm)
      rw [if_pos e] at x
      rw [if_neg e'] at y
      have := (low _ y).2
      have x : H.next ≤ b := x
      omega
    · rw [if_neg e] at x
      obtain ⟨x1, x2⟩ := low _ x
      by_cases e' : k = L.length
      · rw [if_pos e'] at y
        have y : H.next ≤ b := y
        omega
      · rw [if_neg e'] at y
        exact h4 j k b hjk x2 x1 (low _ y).1
end
theorem play_last (s : NS) (o : Opr) : (playN s o).last ≤ s.last + 1 := by
  have ha : ∀ a b u, (addN s a b u).last ≤ s.last + 1 := fun a b u => by
    unfold addN
    split
    · exact Nat.le_succ _
    · exact Nat.le_refl _
  have hd : ∀ z, (delN s z).last ≤ s.last + 1 := fun z => by
    unfold delN
    split <;> exact Nat.le_succ _
  unfold playN
  split
  · unfold sendN
    split
    · split
      · exact Nat.le_succ _
      · split
        · exact Nat.le_succ _
        · exact ha _ _ _
    · exact Nat.le_succ _
  split
  · exact hd _
  split
  · exact hd _
  split
  · unfold twN
    split
    · exact ha _ _ _
    · exact Nat.le_succ _
  split
  · split <;> exact Nat.le_succ _
  split
  · split <;> exact Nat.le_succ _
  · exact Nat.le_succ _
section
variable {fr : Nat → Prop} {n d i p : Nat} {H : AHeap} {L : List (Nat × NS)} {s : NS}
theorem SysN.play (hn : 1000000 < n) (W : SysN fr H L) (hi : L[i]? = some (p, s)) (hb : s.last < 999999) (o : Opr) : ∃ H' p' S, world n (d + 8) 12 [.ptr p 0, .agg (opC o)] H = some (.ret (.tup [.ptr p' 0, .agg (tdC (playT s o))]), H') ∧ SysN fr H' (L.set i (p', playN s o)) ∧ Tch S H H' ∧ ∀ b ∈ S, ¬ fr b := by
  obtain ⟨lo, K, h1, h2⟩ := W.step hi
  obtain ⟨H', lo', p', S, e, K', hl, t, hS⟩ := play_ok (n := n) (d := d) hn K hb o
  exact ⟨H', p', S, e, h2 S H' lo' p' _ t hS K' hl, t, fun b hb => h1 b (hS b hb)⟩
end
end Go.Proofs.Ythdkfofkghpmcaa
