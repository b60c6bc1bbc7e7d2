/- Builders: what the operations of their methods come to. -/
import Derived.Test.YtpnccmlajhhpdaaAbs27
namespace Go.Proofs.Ytpnccmlajhhpdaa.Abs
noncomputable section
open Go.RowKit

section
variable {P : Program} {h : AHeap} {b k : Nat} {t : T AV} {e : TypeId}
def ptrSized (P : Program) (s : TypeId) : Bool := match P.underlying s with
  | some (.pointer t) => match P.info? t with
    | some i => !(Nat.beq i.size 0)
    | none => false
  | _ => false
def isUnsafe (P : Program) (d : TypeId) : Bool := match P.underlying d with
  | some .unsafePointer => true
  | _ => false
def ptrTo (P : Program) (d u : TypeId) : Bool := match P.underlying d with
  | some (.pointer t) => Nat.beq t u && (P.info? u).isSome
  | _ => false
theorem conv_unsafe {s d : TypeId} (hs : ptrSized P s = true) (hd : isUnsafe P d = true) (hb : h.get b = some (.row (k + 1) t e)) : opConv P h s d (some (.ptr b 0)) = some (.val (.ptr b 0), h) := by
  simp only [opConv, convPtr]
  unfold ptrSized at hs
  unfold isUnsafe at hd
  cases h1 : P.underlying s with
  | none => simp only [h1] at hs; cases hs
  | some us =>
    cases us <;> simp only [h1, reduceCtorEq] at hs
    rename_i pt
    cases h2 : P.info? pt with
    | none => simp only [h2, reduceCtorEq] at hs
    | some i =>
      simp only [h2] at hs
      cases h3 : P.underlying d with
      | none => simp only [h3] at hd; cases hd
      | some ud =>
        cases ud <;> simp only [h3, reduceCtorEq] at hd
        simp only [hb, h2]
        rw [if_pos ⟨Nat.ble_eq_true_of_le (by omega), by simpa using hs⟩]
theorem conv_safe {s d u : TypeId} (hs : isUnsafe P s = true) (hd : ptrTo P d u = true) (hb : h.get b = some (.row k t e)) (hx : memB e h.ex = true) (hl : liesAt P P.depth e (k / P.cellsOf e) 0 u 1 = true) : opConv P h s d (some (.ptr b 0)) = some (.val (.ptr b 0), h) := by
  simp only [opConv, convPtr]
  unfold ptrTo at hd
  unfold isUnsafe at hs
  cases h1 : P.underlying s with
  | none => simp only [h1] at hs; cases hs
  | some us =>
    cases us <;> simp only [h1, reduceCtorEq] at hs
    cases h3 : P.underlying d with
    | none => simp only [h3] at hd; cases hd
    | some ud =>
      cases ud <;> simp only [h3, reduceCtorEq] at hd
      rename_i pt
      simp only [Bool.and_eq_true] at hd
      have h4 := Nat.eq_of_beq_eq_true hd.1
      subst h4
      simp only [hb]
      rw [if_pos ⟨hx, hl, hd.2⟩]
theorem opSliceData_sl {c o n sz : Nat} : opSliceData h (.sl c o (n + 1) sz) = some (.val (.ptr c o), h) := rfl
theorem bytesA_bytesC : ∀ l : Bytes, ∃ v, bytesA (bytesC l) = some (l.length, v) ∧ AV.str l.length v = strA l
  | [] => ⟨0, rfl, rfl⟩
  | x :: l => by
    obtain ⟨v, h1, h2⟩ := bytesA_bytesC l
    refine ⟨x.toNat + 256 * v, ?_, ?_⟩
    · show bytesA (.int .u8 (Int.ofNat x.toNat) :: bytesC l) = _
      have hx : Nat.blt x.toNat 256 = true := Nat.ble_eq_true_of_le (by have := x.toNat_lt; omega)
      simp only [bytesA, h1, hx, if_true, List.length_cons]
    · have h3 : v = enc l := by
        simp only [strA, AV.str.injEq] at h2
        exact h2.2
      rw [h3]
      rfl
theorem eql_self {ty u : TypeId} {o : Nat} {lit : Bool} (hd : ptrTo P ty u = true) : opBin P h .eql ty lit (some (.ptr b o)) (some (.ptr b o)) = some (.val (.bool true), h) := by
  unfold ptrTo at hd
  cases h3 : P.underlying ty with
  | none => simp only [h3] at hd; cases hd
  | some ud =>
    cases ud <;> simp only [h3, reduceCtorEq] at hd
    simp only [Bool.and_eq_true] at hd
    have h4 := Nat.eq_of_beq_eq_true hd.1
    subst h4
    have h5 : samePtr P ty b o (.ptr b o) = some true := by
      simp only [samePtr, h3]
      rw [if_pos ⟨Nat.beq_refl b, Nat.beq_refl o, hd.2⟩]
    show outV h (match samePtr P ty b o (.ptr b o) with | some b => some (.bool b) | none => none) = _
    rw [h5]
    rfl
theorem neq_self {ty u : TypeId} {o : Nat} {lit : Bool} (hd : ptrTo P ty u = true) : opBin P h .neq ty lit (some (.ptr b o)) (some (.ptr b o)) = some (.val (.bool false), h) := by
  unfold ptrTo at hd
  cases h3 : P.underlying ty with
  | none => simp only [h3] at hd; cases hd
  | some ud =>
    cases ud <;> simp only [h3, reduceCtorEq] at hd
    simp only [Bool.and_eq_true] at hd
    have h4 := Nat.eq_of_beq_eq_true hd.1
    subst h4
    have h5 : samePtr P ty b o (.ptr b o) = some true := by
      simp only [samePtr, h3]
      rw [if_pos ⟨Nat.beq_refl b, Nat.beq_refl o, hd.2⟩]
    show outV h (match samePtr P ty b o (.ptr b o) with | some b => some (.bool (!b)) | none => none) = _
    rw [h5]
    rfl
theorem same_nsl : sameO (some AV.nsl) (some .nsl) = true := by simp [sameO, AV.same]
theorem same_sl (c o n sz : Nat) : sameO (some (AV.sl c o n sz)) (some (.sl c o n sz)) = true := by simp [sameO, AV.same]
theorem reLoad_cell {ty : TypeId} {x v : AV} (ha : aggO P ty = some false) (e : ldCell h x = some v) (hs : sameO (some v) (some v) = true) : reLoad P h ty x v = true := by
  unfold reLoad
  rw [load_cell ha e]
  exact hs
def ptrCell (P : Program) (pt e : TypeId) : Bool := match P.underlying pt with
  | some (.pointer t) => Nat.beq e t && Nat.beq (P.cellsOf t) 1
  | _ => false
theorem unsafeStr_row {pt U : TypeId} {l : Bytes} {kk : IntKind} {c : Nat} (hp : ptrCell P pt U = true) (hl : l ≠ []) (hn : l.length ≤ 1000000000) (hr : rowGet h c 0 l.length = some (bytesC l)) (ht : rowType h c = some U) :
    opUnsafeStr P h pt (.ptr c 0) (.int kk (l.length : Int)) = some (.val (strA l), h.put c .dead) := by
  cases l with
  | nil => exact absurd rfl hl
  | cons x l =>
    obtain ⟨v, h1, h2⟩ := bytesA_bytesC (x :: l)
    show opUnsafeStr P h pt (.ptr c 0) (.int kk (.ofNat (l.length + 1))) = _
    simp only [opUnsafeStr]
    unfold ptrCell at hp
    cases h3 : P.underlying pt with
    | none => simp only [h3] at hp; cases hp
    | some ud =>
      cases ud <;> simp only [h3, reduceCtorEq] at hp
      simp only [Bool.and_eq_true] at hp
      simp only [List.length_cons] at hr hn h1 h2
      simp only [hr, ht]
      rw [if_pos ⟨hp.1, hp.2, Nat.ble_eq_true_of_le hn⟩]
      simp only [h1, h2]
end
end
end Go.Proofs.Ytpnccmlajhhpdaa.Abs
