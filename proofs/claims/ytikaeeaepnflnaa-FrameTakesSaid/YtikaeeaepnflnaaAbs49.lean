/- Structs of plain cells, held against each other. -/
import Derived.Test.YtikaeeaepnflnaaAbs48
namespace Go.Proofs.Ytikaeeaepnflnaa.Abs
noncomputable section
open Go.RowKit

def kindV : AV → Nat
  | .bool _ => 0
  | .int _ _ => 1
  | .str _ _ => 2
  | _ => 9
def kindT (P : Program) (t : TypeId) : Nat := match P.underlying t with
  | some .bool => 0
  | some (.int _) => 1
  | some .string => 2
  | _ => 8
def fieldsFlat (P : Program) : List Field → List Nat → Nat → Bool
  | [], [], _ => true
  | f :: fs, k :: ks, o => (f.name != "_") && Nat.beq f.offset o && Nat.beq (kindT P f.type) k && fieldsFlat P fs ks (o + 1)
  | _, _, _ => false
def eqCell : AV → AV → Option Bool
  | .bool a, .bool b => some (a == b)
  | .int k a, .int k' b => if k = k' then some (a == b) else none
  | .str n a, .str m b => some (Nat.beq n m && Nat.beq a b)
  | _, _ => none
def eqL : List Nat → List AV → List AV → Option Bool
  | [], [], [] => some true
  | k :: ks, x :: xs, y :: ys => if kindV x = k then match eqCell x y with
    | some true => eqL ks xs ys
    | r => r else none
  | _, _, _ => none
section
variable {P : Program}
theorem eqA_cell {d : Nat} {t : TypeId} {x y : AV} {b : Bool} (hk : kindV x = kindT P t) (he : eqCell x y = some b) : eqA P (d + 1) t x y = some b := by
  unfold kindT at hk
  unfold eqA
  cases hu : P.underlying t with
  | none => rw [hu] at hk; cases x <;> simp [kindV] at hk
  | some u =>
    rw [hu] at hk
    cases u <;> cases x <;> simp [kindV] at hk <;> cases y <;> simp [eqCell] at he <;> simp_all
theorem partA_cell {t : TypeId} {l : List AV} {o : Nat} {x : AV} (hk : kindT P t < 3) (hx : l[o]? = some x) : partA P t l o = some x := by
  unfold kindT at hk
  unfold partA
  cases hu : P.underlying t with
  | none => rw [hu] at hk; simp at hk
  | some u =>
    rw [hu] at hk
    cases u <;> simp at hk <;> simp [aggO, hu, isRowD, hx]
theorem kind_lt {x y : AV} {b : Bool} (he : eqCell x y = some b) : kindV x < 3 := by
  cases x <;> cases y <;> simp [eqCell] at he <;> simp [kindV]
theorem eqFields_flat : ∀ (fs : List Field) (ks : List Nat) (o d : Nat) (xs ys px py : List AV) (b : Bool), fieldsFlat P fs ks o = true → px.length = o → py.length = o → eqL ks xs ys = some b → fs.length < d → eqFields P (d + 1) fs (px ++ xs) (py ++ ys) = some b
  | [], ks, o, d, xs, ys, px, py, b, hf, _, _, he, _ => by
    cases ks with
    | cons k ks => simp [fieldsFlat] at hf
    | nil =>
      cases xs <;> cases ys <;> simp [eqL] at he
      subst he
      rfl
  | f :: fs, ks, o, d, xs, ys, px, py, b, hf, hx, hy, he, hd => by
    cases ks with
    | nil => simp [fieldsFlat] at hf
    | cons k ks =>
      cases xs with
      | nil => simp [eqL] at he
      | cons x xs =>
        cases ys with
        | nil => simp [eqL] at he
        | cons y ys =>
          simp only [fieldsFlat, Bool.and_eq_true] at hf
          obtain ⟨⟨⟨h1, h2⟩, h3⟩, h4⟩ := hf
          have h1 : ¬ f.name = "_" := by simpa using h1
          have h2 := Nat.eq_of_beq_eq_true h2
          have h3 := Nat.eq_of_beq_eq_true h3
          simp only [eqL] at he
          split at he
          · rename_i hk
            have hlx : (px ++ x :: xs)[o]? = some x := by rw [List.getElem?_append_right (by omega), hx, Nat.sub_self]; rfl
            have hly : (py ++ y :: ys)[o]? = some y := by rw [List.getElem?_append_right (by omega), hy, Nat.sub_self]; rfl
            obtain ⟨d', rfl⟩ : ∃ d', d = d' + 1 := ⟨d - 1, by simp only [List.length_cons] at hd; omega⟩
            cases hc : eqCell x y with
            | none => rw [hc] at he; cases he
            | some c =>
              have hk3 := kind_lt hc
              rw [hc] at he
              unfold eqFields
              rw [if_neg h1, h2, partA_cell (by omega) hlx, partA_cell (by omega) hly]
              simp only
              rw [eqA_cell (d := d') (by omega) hc]
              cases c with
              | false => exact he
              | true =>
                simp only at he ⊢
                have := eqFields_flat fs ks (o + 1) d' xs ys (px ++ [x]) (py ++ [y]) b h4 (by simp [hx]) (by simp [hy]) he (by simp only [List.length_cons] at hd; omega)
                simpa using this
          · cases he
/-- a struct of such cells -/
def flatB (P : Program) (t : TypeId) (ks : List Nat) : Bool := (match P.underlying t with
  | some (.struct _) => true
  | _ => false) && !(P.eqGuardType P.depth t) && !(P.stoodInHeld t) && fieldsFlat P (P.fieldsOf t).toList ks 0 && Nat.blt (P.fieldsOf t).toList.length 1000
theorem eq_flat {t : TypeId} {ks : List Nat} {xs ys : List AV} {b : Bool} (hf : flatB P t ks = true) (he : eqL ks xs ys = some b) : eqOther P t (.agg xs) (.agg ys) = some b := by
  unfold flatB at hf
  simp only [Bool.and_eq_true, Bool.not_eq_true'] at hf
  obtain ⟨⟨⟨⟨h1, h2⟩, h3⟩, h4⟩, h5⟩ := hf
  have h5 : (P.fieldsOf t).toList.length < 1000 := Nat.le_of_ble_eq_true h5
  unfold eqOther
  simp only [h2, Bool.false_eq_true, if_false]
  unfold eqA
  cases hu : P.underlying t with
  | none => rw [hu] at h1; cases h1
  | some u =>
    rw [hu] at h1
    cases u <;> simp at h1
    simp only [h3, Bool.false_eq_true, if_false]
    exact eqFields_flat _ ks 0 1998 xs ys [] [] b h4 rfl rfl he (by omega)
end
theorem eqCell_str (a b : Bytes) : eqCell (strA a) (strA b) = some (a == b) := by
  rw [← eqS_eq]
  rfl
theorem eqCell_int (k : IntKind) (a b : Int) : eqCell (.int k a) (.int k b) = some (a == b) := by simp [eqCell]
theorem eqCell_bool (a b : Bool) : eqCell (.bool a) (.bool b) = some (a == b) := rfl
theorem kindV_str (a : Bytes) : kindV (strA a) = 2 := rfl
theorem eqL_cons {k : Nat} {ks : List Nat} {x y : AV} {xs ys : List AV} {b c : Bool} (hk : kindV x = k) (h1 : eqCell x y = some b) (h2 : eqL ks xs ys = some c) : eqL (k :: ks) (x :: xs) (y :: ys) = some (b && c) := by
  simp only [eqL, hk, if_true, h1]
  cases b with
  | true => simpa using h2
  | false => rfl
end
end Go.Proofs.Ytikaeeaepnflnaa.Abs
