/- Trees by number, texts as numbers: what they are. -/
import Derived.Test.YtpnccmlajhhpdaaAbs1
namespace Go.Proofs.Ytpnccmlajhhpdaa.Abs
noncomputable section

/-! ### trees -/
def Path.num : Path → Nat
  | .z => 0
  | .a p => 4 * p.num + 1
  | .b p => 4 * p.num + 2
  | .c p => 4 * p.num + 3
  | .d p => 4 * p.num + 4
theorem num_pathN : ∀ (f i : Nat), i ≤ f → (pathN f i).num = i
  | 0, i, h => by simp [pathN, Path.num]; omega
  | f + 1, 0, _ => by simp [pathN, Path.num]
  | f + 1, i + 1, h => by
    have ih := num_pathN f (i / 4) (by omega)
    have h4 : i % 4 = 0 ∨ i % 4 = 1 ∨ i % 4 = 2 ∨ i % 4 = 3 := by omega
    rcases h4 with e | e | e | e <;> simp only [pathN, e, Path.num, ih] <;> omega
theorem num_pathOf (i : Nat) : (pathOf i).num = i := num_pathN i i (Nat.le_refl i)
theorem pathOf_ne {i j : Nat} (h : i ≠ j) : pathOf i ≠ pathOf j := fun e => h (by rw [← num_pathOf i, ← num_pathOf j, e])

theorem T.getP_setP_same {α : Type} (p : Path) : ∀ (t : T α) (x : α), T.getP p (T.setP p t x) = some x := by
  induction p with
  | z => intro t x; cases t <;> rfl
  | a p ih => intro t x; cases t <;> exact ih _ x
  | b p ih => intro t x; cases t <;> exact ih _ x
  | c p ih => intro t x; cases t <;> exact ih _ x
  | d p ih => intro t x; cases t <;> exact ih _ x
theorem T.getP_e {α : Type} (p : Path) : T.getP p (.e : T α) = none := by cases p <;> rfl
theorem T.getP_setP_other {α : Type} (p : Path) : ∀ (q : Path) (t : T α) (x : α), p ≠ q → T.getP q (T.setP p t x) = T.getP q t := by
  induction p with
  | z => intro q t x h; cases q <;> cases t <;> first | exact absurd rfl h | rfl | (show T.getP _ (.e : T α) = none; exact T.getP_e _)
  | a p ih => intro q t x h; cases q <;> cases t <;> first | rfl | (rename_i q; show T.getP q (T.setP p .e x) = none; rw [ih q .e x (fun e => h (by rw [e]))]; exact T.getP_e q) | (exact ih _ _ x (fun e => h (by rw [e]))) | (show T.getP _ (.e : T α) = none; exact T.getP_e _)
  | b p ih => intro q t x h; cases q <;> cases t <;> first | rfl | (rename_i q; show T.getP q (T.setP p .e x) = none; rw [ih q .e x (fun e => h (by rw [e]))]; exact T.getP_e q) | (exact ih _ _ x (fun e => h (by rw [e]))) | (show T.getP _ (.e : T α) = none; exact T.getP_e _)
  | c p ih => intro q t x h; cases q <;> cases t <;> first | rfl | (rename_i q; show T.getP q (T.setP p .e x) = none; rw [ih q .e x (fun e => h (by rw [e]))]; exact T.getP_e q) | (exact ih _ _ x (fun e => h (by rw [e]))) | (show T.getP _ (.e : T α) = none; exact T.getP_e _)
  | d p ih => intro q t x h; cases q <;> cases t <;> first | rfl | (rename_i q; show T.getP q (T.setP p .e x) = none; rw [ih q .e x (fun e => h (by rw [e]))]; exact T.getP_e q) | (exact ih _ _ x (fun e => h (by rw [e]))) | (show T.getP _ (.e : T α) = none; exact T.getP_e _)

section
variable {α : Type}
theorem T.get_set_same (t : T α) (i : Nat) (x : α) : (t.set i x).get i = some x := T.getP_setP_same _ _ _
theorem T.get_set_other (t : T α) {i j : Nat} (x : α) (h : i ≠ j) : (t.set i x).get j = t.get j := T.getP_setP_other _ _ _ _ (pathOf_ne h)
theorem T.get_e (i : Nat) : (.e : T α).get i = none := T.getP_e _
theorem T.get_put (l : List α) : ∀ (t : T α) (i j : Nat), (t.put i l).get j = if i ≤ j ∧ j < i + l.length then l[j - i]? else t.get j := by
  induction l with
  | nil => intro t i j; simp only [T.put, List.length_nil]; rw [if_neg (by omega)]
  | cons x l ih =>
    intro t i j
    simp only [T.put, List.length_cons]
    rw [ih]
    by_cases h1 : i + 1 ≤ j ∧ j < i + 1 + l.length
    · rw [if_pos h1, if_pos (by omega)]
      have : j - i = (j - (i + 1)) + 1 := by omega
      rw [this, List.getElem?_cons_succ]
    · rw [if_neg h1]
      by_cases h2 : i = j
      · subst h2; rw [T.get_set_same, if_pos (by omega)]; simp
      · rw [T.get_set_other t x h2, if_neg (by omega)]
theorem T.take_some (t : T α) : ∀ (n i : Nat) (l : List α), t.take i n = some l → l.length = n ∧ ∀ k, k < n → t.get (i + k) = l[k]? := by
  intro n
  induction n with
  | zero => intro i l h; simp only [T.take, Option.some.injEq] at h; subst h; exact ⟨rfl, fun k hk => by omega⟩
  | succ n ih =>
    intro i l h
    simp only [T.take] at h
    split at h
    · rename_i x l' hx hl
      obtain ⟨h1, h2⟩ := ih _ _ hl
      simp only [Option.some.injEq] at h; subst h
      refine ⟨by simp [h1], fun k hk => ?_⟩
      cases k with
      | zero => simpa using hx
      | succ k => rw [List.getElem?_cons_succ, ← h2 k (by omega)]; congr 1; omega
    · cases h
end

/-! ### texts as numbers -/
theorem enc_nil : enc [] = 0 := rfl
theorem enc_cons (b : UInt8) (l : List UInt8) : enc (b :: l) = b.toNat + 256 * enc l := rfl
theorem u8_lt (b : UInt8) : b.toNat < 256 := b.toNat_lt
theorem enc_append (a b : List UInt8) : enc (a ++ b) = enc a + 256 ^ a.length * enc b := by
  induction a with
  | nil => simp [enc_nil]
  | cons x a ih =>
    rw [List.cons_append, enc_cons, enc_cons, ih, List.length_cons, Nat.pow_succ, Nat.mul_add, ← Nat.mul_assoc, Nat.mul_comm 256 (256 ^ a.length)]
    omega
theorem enc_lt (a : List UInt8) : enc a < 256 ^ a.length := by
  induction a with
  | nil => simp [enc_nil]
  | cons x a ih =>
    rw [enc_cons, List.length_cons, Nat.pow_succ]
    have := u8_lt x
    omega
theorem enc_drop (a : List UInt8) : ∀ i, enc (a.drop i) = enc a / 256 ^ i := by
  intro i
  rcases Nat.lt_or_ge a.length i with h | h
  · rw [List.drop_eq_nil_of_le (by omega), enc_nil]
    have h1 := enc_lt a
    have h2 : 256 ^ a.length ≤ 256 ^ i := Nat.pow_le_pow_right (by decide) (by omega)
    rw [Nat.div_eq_of_lt (by omega)]
  · have h1 := enc_append (a.take i) (a.drop i)
    rw [List.take_append_drop] at h1
    have hl : (a.take i).length = i := by simp; omega
    have h2 := enc_lt (a.take i)
    rw [hl] at h1 h2
    rw [h1, Nat.add_mul_div_left _ _ (Nat.pow_pos (by decide)), Nat.div_eq_of_lt h2, Nat.zero_add]
theorem enc_take (a : List UInt8) (i : Nat) : enc (a.take i) = enc a % 256 ^ i := by
  rcases Nat.lt_or_ge a.length i with h | h
  · rw [List.take_of_length_le (by omega)]
    have h1 := enc_lt a
    have h2 : 256 ^ a.length ≤ 256 ^ i := Nat.pow_le_pow_right (by decide) (by omega)
    rw [Nat.mod_eq_of_lt (by omega)]
  · have h1 := enc_append (a.take i) (a.drop i)
    rw [List.take_append_drop] at h1
    have hl : (a.take i).length = i := by simp; omega
    have h2 := enc_lt (a.take i)
    rw [hl] at h1 h2
    rw [h1, Nat.add_mul_mod_self_left, Nat.mod_eq_of_lt h2]
theorem enc_get (a : List UInt8) (i : Nat) (h : i < a.length) : enc a / 256 ^ i % 256 = (a[i]).toNat := by
  rw [← enc_drop, List.drop_eq_getElem_cons h, enc_cons, Nat.add_mul_mod_self_left, Nat.mod_eq_of_lt (u8_lt _)]
theorem enc_inj : ∀ (a b : List UInt8), a.length = b.length → enc a = enc b → a = b
  | [], [], _, _ => rfl
  | [], _ :: _, h, _ => by simp at h
  | _ :: _, [], h, _ => by simp at h
  | x :: a, y :: b, h, e => by
    rw [enc_cons, enc_cons] at e
    have hx := u8_lt x
    have hy := u8_lt y
    have e1 : x.toNat = y.toNat := by omega
    have e2 : enc a = enc b := by omega
    rw [enc_inj a b (by simpa using h) e2, UInt8.toNat_inj.1 e1]
theorem enc_eq (a b : List UInt8) : (Nat.beq a.length b.length && Nat.beq (enc a) (enc b)) = (a == b) := by
  by_cases h : a = b
  · subst h; simp [Nat.beq_refl]
  · have h1 : (a == b) = false := by simpa using h
    rw [h1]
    cases hl : Nat.beq a.length b.length with
    | false => rfl
    | true =>
      have := Nat.eq_of_beq_eq_true hl
      cases he : Nat.beq (enc a) (enc b) with
      | false => rfl
      | true => exact absurd (enc_inj a b this (Nat.eq_of_beq_eq_true he)) h

end
end Go.Proofs.Ytpnccmlajhhpdaa.Abs
