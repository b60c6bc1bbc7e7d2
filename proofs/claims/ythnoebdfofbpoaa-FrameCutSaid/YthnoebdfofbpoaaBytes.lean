/- A row of bytes that the call itself made of a string, whose bytes it turns. -/
import Derived.Test.YthnoebdfofbpoaaMark
namespace Go.Proofs.Ythnoebdfofbpoaa
open Go.RowKit

/-- The bytes L at the head of block G, of which no cell within C is frozen. -/
def BytesAt (w : World) (G C : Nat) (L : List UInt8) : Prop :=
  ∃ cur fz, w.heap[G]? = some (.cells cur 5 fz) ∧ (∀ j, j < C → ¬ (fz.1 ≤ j ∧ j < fz.2)) ∧ L.length ≤ C ∧ C ≤ maxLen ∧ cur.size = C ∧ cur.toList.take L.length = Lib.byteCells L

theorem BytesAt.own {w : World} {G C B : Nat} {L : List UInt8} (h : BytesAt w G C L) (hB : B ≤ G) : OwnB w B 5 (.slice (some ⟨G, 0, none⟩) L.length C) L := by
  obtain ⟨cur, fz, h1, h2, h3, h4, h5, h6⟩ := h
  exact ⟨G, C, cur, fz, rfl, hB, h1, h2, h3, h4, h5, h6⟩

theorem BytesAt.cell {w : World} {G C : Nat} {L : List UInt8} (h : BytesAt w G C L) (i : Nat) (hi : i < L.length) : w.cell? ⟨G, i, none⟩ = some (.int .u8 (L[i].toNat : Nat)) := by
  obtain ⟨cur, fz, h1, _, h3, _, h5, h6⟩ := h
  rw [cell_row h1]
  have e1 : cur[i]? = cur.toList[i]? := by simp
  have e2 : (cur.toList.take L.length)[i]? = cur.toList[i]? := by rw [List.getElem?_take]; simp [hi]
  rw [e1, ← e2, h6]
  simp [Lib.byteCells, List.getElem?_eq_getElem hi]

theorem BytesAt.thaw {w : World} {G C : Nat} {L : List UInt8} (h : BytesAt w G C L) (i : Nat) (hi : i < L.length) : w.frozen? ⟨G, i, none⟩ = false := by
  obtain ⟨cur, fz, h1, h2, h3, _⟩ := h
  have := h2 i (by omega)
  obtain ⟨a, b⟩ := fz
  simp only [World.frozen?, h1, Bool.and_eq_false_iff, decide_eq_false_iff_not]
  simp only at this
  omega

theorem BytesAt.drew {w : World} {G C : Nat} {L : List UInt8} (h : BytesAt w G C L) : BytesAt w.drew G C L := h

theorem BytesAt.set {w : World} {G C : Nat} {L : List UInt8} (h : BytesAt w G C L) (i : Nat) (x : UInt8) : BytesAt (w.setCell ⟨G, i, none⟩ (.int .u8 (x.toNat : Nat))) G C (L.set i x) := by
  obtain ⟨cur, fz, h1, h2, h3, h4, h5, h6⟩ := h
  refine ⟨cur.setIfInBounds i (.int .u8 (x.toNat : Nat)), fz, ?_, h2, by simpa using h3, h4, by simpa using h5, ?_⟩
  · simp [World.setCell, Array.getElem?_modify, h1]
  · rw [List.length_set, Array.toList_setIfInBounds, List.take_set, h6]
    simp [Lib.byteCells, List.map_set]

theorem bytesAt_made (w1 : World) (s : ByteArray) (hs : s.size ≤ 140737488351232) : BytesAt (w1.drew.alloc (.cells (bytesRow s (grownCap w1 s.size 0 5)) 5 ((bytesRow s (grownCap w1 s.size 0 5)).size, (bytesRow s (grownCap w1 s.size 0 5)).size + 1))) w1.heap.size (grownCap w1 s.size 0 5) s.data.toList := by
  obtain ⟨g, cap, cur, fz, hv, _, r⟩ := ownB_made w1 w1.heap.size 5 s (Nat.le_refl _) (by omega)
  simp only [Value.slice.injEq, Option.some.injEq, Addr.mk.injEq] at hv
  obtain ⟨⟨rfl, _⟩, _, rfl⟩ := hv
  exact ⟨cur, fz, r⟩

theorem xor_byte (x y : UInt8) : bits BinOp.xor IntKind.u8 (x.toNat : Int) (y.toNat : Int) = ((x ^^^ y).toNat : Int) := by
  have hx := x.toNat_lt
  have hy := y.toNat_lt
  have hz := (x ^^^ y).toNat_lt
  have h1 : (BitVec.ofInt 8 (x.toNat : Int)).toNat = x.toNat := by
    rw [BitVec.ofInt_natCast, BitVec.toNat_ofNat]; exact Nat.mod_eq_of_lt (by omega)
  have h2 : (BitVec.ofInt 8 (y.toNat : Int)).toNat = y.toNat := by
    rw [BitVec.ofInt_natCast, BitVec.toNat_ofNat]; exact Nat.mod_eq_of_lt (by omega)
  show IntKind.u8.wrap ((BitVec.ofInt 8 (x.toNat : Int) ^^^ BitVec.ofInt 8 (y.toNat : Int)).toNat : Int) = _
  rw [BitVec.toNat_xor, h1, h2, IntKind.wrap_u8, ← UInt8.toNat_xor]
  omega

end Go.Proofs.Ythnoebdfofbpoaa
