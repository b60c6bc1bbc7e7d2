/- Lists of strings: what reads as one, what owns one, slices.Equal. -/
import Derived.Test.YthnoebdfofbpoaaRows
import Derived.Test.YthnoebdfofbpoaaShelf
import Derived.WalkKit
import Derived.Deep.QuietTactic
import Derived.Lib.Hide
namespace Go.Proofs.Ythnoebdfofbpoaa
open Go.RowKit

theorem below_drewN' (w : World) (n : Nat) : Below w.heap.size w (w.drewN n) := ⟨rfl, rfl, rfl, Nat.le_refl _, fun _ _ => rfl⟩

/-- A value that reads as a list of strings. -/
def Ins (w : World) (v : Value) (l : List ByteArray) : Prop :=
  ∃ (a : Option Addr) (cap : Nat), v = .slice a l.length cap ∧ l.length ≤ 9223372036854775807 ∧ (l = [] ∨ ∃ b o, a = some ⟨b, o, none⟩ ∧ b < w.heap.size ∧ ∀ i, i < l.length → w.cell? ⟨b, o + i, none⟩ = some (.string (l.getD i ByteArray.empty)))

theorem Ins.below {w w' : World} {v : Value} {l : List ByteArray} (h : Ins w v l) (hb : Below w.heap.size w w') : Ins w' v l := by
  obtain ⟨a, cap, rfl, hl, h⟩ := h
  refine ⟨a, cap, rfl, hl, ?_⟩
  rcases h with h | ⟨b, o, rfl, hlt, hc⟩
  · exact .inl h
  · exact .inr ⟨b, o, rfl, Nat.lt_of_lt_of_le hlt hb.size, fun i hi => by rw [hb.cell hlt]; exact hc i hi⟩

/-- A row of strings that the call owns. -/
def Strs (w : World) (B : Nat) (v : Value) (l : List ByteArray) : Prop := w.ownsRow B 9 1 v l.length (l.map Value.string)

theorem Strs.nil (w : World) (B : Nat) : Strs w B (.slice none 0 0) [] := World.ownsRow_nil _ _ _ _

theorem Strs.ins {w : World} {B : Nat} {v : Value} {l : List ByteArray} (h : Strs w B v l) : Ins w v l := by
  obtain ⟨h1, h2⟩ := h
  rcases h2 with ⟨rfl, h0⟩ | ⟨g, cap, cur, rfl, hB, hg, hcap, hm, hs, ht⟩
  · have : l = [] := List.eq_nil_of_length_eq_zero h0
    subst this
    exact ⟨none, 0, rfl, by simp, .inl rfl⟩
  · refine ⟨_, cap, rfl, ?_, .inr ⟨g, 0, rfl, lt_of_block hg, fun i hi => ?_⟩⟩
    · unfold maxLen at hm; omega
    · have := World.ownsRow.cellAt (w := w) (base := B) (e := 9) (size := 1) (g := g) (n := l.length) (cap := cap) (xs := l.map Value.string) ⟨h1, .inr ⟨g, cap, cur, rfl, hB, hg, hcap, hm, hs, ht⟩⟩ i (by omega)
      rw [Nat.zero_add, this]
      simp [List.getD, List.getElem?_eq_getElem hi]

theorem equal_any {w : World} {v u : Value} {l k : List ByteArray} (h1 : Ins w v l) (h2 : Ins w u k) :
    Calls Try.prog 12 #[v, u] w fun e w' => e = .returned (.bool (decide (l = k))) ∧ Below w.heap.size w w' := by
  obtain ⟨a, c, rfl, hl, h1⟩ := h1
  obtain ⟨a', c', rfl, hk, h2⟩ := h2
  by_cases hlen : l.length = k.length
  · rcases h1 with rfl | ⟨b, o, rfl, hb, hc⟩
    · have hk0 : k = [] := List.eq_nil_of_length_eq_zero hlen.symm
      subst hk0
      refine (Try.slices_Equal_string_empty a a' c 0 c' w (by omega)).mono ?_
      rintro e w' ⟨rfl, rfl⟩
      exact ⟨rfl, Below.refl _ _⟩
    · rcases h2 with rfl | ⟨b', o', rfl, hb', hc'⟩
      · have hl0 : l = [] := List.eq_nil_of_length_eq_zero hlen
        subst hl0
        refine (Try.slices_Equal_string_empty _ a' c 0 c' w (by omega)).mono ?_
        rintro e w' ⟨rfl, rfl⟩
        exact ⟨rfl, Below.refl _ _⟩
      · refine (Try.slices_Equal_string b o l.length c b' o' k.length c' l k w (Nat.le_refl _) (Nat.le_refl _) (by omega) (by omega) hc hc').mono ?_
        rintro e w' ⟨rfl, q, rfl⟩
        exact ⟨by rw [List.take_length, List.take_length], below_drewN' _ _⟩
  · refine (Try.slices_Equal_string_lens a a' l.length c k.length c' w hlen).mono ?_
    rintro e w' ⟨rfl, rfl⟩
    have : l ≠ k := fun e => hlen (by rw [e])
    exact ⟨by simp [this], Below.refl _ _⟩

/-- What a walk asks of a list of strings that came in. -/
structure Held (W : World) (v : Value) (l : List ByteArray) : Prop where
  ins : Ins W v l
  room : l.length * 16 ≤ 140737488351232
  small : ∀ x ∈ l, x.size ≤ 140737488351232
  fits : ∃ a c, v = .slice a l.length c ∧ l.length ≤ c

theorem Held.cells {W : World} {a : Option Addr} {cap : Nat} {l : List ByteArray} (h : Ins W (.slice a l.length cap) l) :
    ∀ w, Below W.heap.size W w → ∀ k, k < l.length → ∃ b o, a = some ⟨b, o, none⟩ ∧ w.cell? ⟨b, o + k, none⟩ = some (.string (l.getD k ByteArray.empty)) := by
  intro w hb k hk
  obtain ⟨a', cap', he, _, h⟩ := h
  cases he
  rcases h with h | ⟨b, o, rfl, hlt, hc⟩
  · simp [h] at hk
  · exact ⟨b, o, rfl, by rw [hb.cell hlt]; exact hc k hk⟩

end Go.Proofs.Ythnoebdfofbpoaa
