/- A reader that the law itself has made: its calls, at the law's own world. -/
import Derived.Test.YtdcofbkmflemfaaRd4
import Derived.Test.YtdcofbkmflemfaaBld
namespace Go.Proofs.Ytdcofbkmflemfaa
open Go.RowKit

theorem Rd.below {w w' : World} {b : Nat} {s : ByteArray} {p err bad : Int} (h : Rd w b s p err bad) (hb : Below w.heap.size w w') : Rd w' b s p err bad := by
  unfold Rd; rw [hb.block b h.lt]; exact h

/-- Block b of the law's own is a reader of s that stands at t. -/
structure Own (W w : World) (b : Nat) (s : ByteArray) (t : St) : Prop where
  below : Below W.heap.size W w
  own : W.heap.size ≤ b
  rd : RdAt w b s t
  place : t.p ≤ s.size
  size : s.size ≤ 4611686018427387904

theorem Own.lt {W w : World} {b : Nat} {s : ByteArray} {t : St} (h : Own W w b s t) : b < w.heap.size := Rd.lt h.rd

theorem Own.stay {W w w' : World} {b : Nat} {s : ByteArray} {t : St} (h : Own W w b s t) (hb : Below w.heap.size w w') : Own W w' b s t :=
  ⟨h.below.trans (hb.mono h.below.size), h.own, Rd.below h.rd hb, h.place, h.size⟩

theorem Own.turn {W w w' : World} {b : Nat} {s : ByteArray} {t t' : St} (h : Own W w b s t) (hr : RdAt w' b s t') (hp : t'.p ≤ s.size) (hg : w.grownBy w' (some b)) : Own W w' b s t' :=
  ⟨h.below.grown hg h.below.size (fun k hk => by cases hk; exact h.own), h.own, hr, hp, h.size⟩

/-- Another reader while this one is read. -/
theorem Own.other {W w w' : World} {b c : Nat} {s u : ByteArray} {t v : St} (h : Own W w b s t) (hc : Own W w' c u v) (hne : b ≠ c) (hg : w.grownBy w' (some c)) : Own W w' b s t :=
  ⟨hc.below, h.own, Rd.keep h.rd hg (by simpa using hne), h.place, h.size⟩

theorem own_new {W w : World} (s : ByteArray) (hs : s.size ≤ 4611686018427387904) (hb : Below W.heap.size W w) :
    Calls Try.prog 13 #[.string s] w fun e w' => e = .returned (.pointer (some ⟨w.heap.size, 0, none⟩)) ∧ Own W w' w.heap.size s ⟨0, 0, 0⟩ ∧ Below w.heap.size w w' := by
  refine (new_any s w).mono ?_
  rintro e w' ⟨rfl, hr, rfl⟩
  exact ⟨rfl, ⟨hb.alloc hb.size _, hb.size, hr, Nat.zero_le _, hs⟩, (Below.refl _ _).alloc (Nat.le_refl _) _⟩

section
variable {W w : World} {b : Nat} {s : ByteArray} {t : St} (h : Own W w b s t)
include h

theorem own_u8 {n : Nat} {t' : St} (he : numF s 1 t = (n, t')) : Calls Try.prog 18 #[.pointer (some ⟨b, 0, none⟩)] w fun e w' => e = .returned (.int .u8 n) ∧ Own W w' b s t' ∧ w.grownBy w' (some b) := by
  refine (u8_rd w b s t h.rd h.place h.size).mono ?_
  have hp := numF_place s 1 t h.place
  rw [he] at hp ⊢
  rintro e w' ⟨rfl, hr, hg⟩
  exact ⟨rfl, h.turn hr hp hg, hg⟩

theorem own_u32 {n : Nat} {t' : St} (he : numF s 4 t = (n, t')) : Calls Try.prog 22 #[.pointer (some ⟨b, 0, none⟩)] w fun e w' => e = .returned (.int .u32 n) ∧ Own W w' b s t' ∧ w.grownBy w' (some b) := by
  refine (u32_rd w b s t h.rd h.place h.size).mono ?_
  have hp := numF_place s 4 t h.place
  rw [he] at hp ⊢
  rintro e w' ⟨rfl, hr, hg⟩
  exact ⟨rfl, h.turn hr hp hg, hg⟩

theorem own_u64 {n : Nat} {t' : St} (he : numF s 8 t = (n, t')) : Calls Try.prog 23 #[.pointer (some ⟨b, 0, none⟩)] w fun e w' => e = .returned (.int .u64 n) ∧ Own W w' b s t' ∧ w.grownBy w' (some b) := by
  refine (u64_rd w b s t h.rd h.place h.size).mono ?_
  have hp := numF_place s 8 t h.place
  rw [he] at hp ⊢
  rintro e w' ⟨rfl, hr, hg⟩
  exact ⟨rfl, h.turn hr hp hg, hg⟩

theorem own_bool {x : Bool} {t' : St} (he : boolF s t = (x, t')) : Calls Try.prog 19 #[.pointer (some ⟨b, 0, none⟩)] w fun e w' => e = .returned (.bool x) ∧ Own W w' b s t' ∧ w.grownBy w' (some b) := by
  refine (bool_rd w b s t h.rd h.place h.size).mono ?_
  have hp := boolF_place s t h.place
  rw [he] at hp ⊢
  rintro e w' ⟨rfl, hr, hg⟩
  exact ⟨rfl, h.turn hr hp hg, hg⟩

theorem own_text {most : Int} {x : ByteArray} {t' : St} (he : textF s most t = (x, t')) : Calls Try.prog 14 #[.pointer (some ⟨b, 0, none⟩), .int .i64 most] w fun e w' => e = .returned (.string x) ∧ Own W w' b s t' ∧ w.grownBy w' (some b) := by
  refine (text_rd w b s t most h.rd h.place h.size).mono ?_
  have hp := textF_place s most t h.place
  rw [he] at hp ⊢
  rintro e w' ⟨rfl, hr, hg⟩
  exact ⟨rfl, h.turn hr hp hg, hg⟩

theorem own_texts {count most : Int} {l : List ByteArray} {t' : St} (he : textsF s count most t = (l, t')) : Calls Try.prog 20 #[.pointer (some ⟨b, 0, none⟩), .int .i64 count, .int .i64 most] w fun e w' => ∃ v, e = .returned v ∧ Strs w' w.heap.size v l ∧ Own W w' b s t' ∧ w.grownBy w' (some b) := by
  refine (texts_rd w b s t count most h.rd h.place h.size).mono ?_
  have hp := textsF_place s count most t h.place
  rw [he] at hp ⊢
  rintro e w' ⟨v, rfl, hv, hr, hg⟩
  exact ⟨v, rfl, hv, h.turn hr hp hg, hg⟩

theorem own_rest {x : ByteArray} (he : restF s t = x) : Calls Try.prog 15 #[.pointer (some ⟨b, 0, none⟩)] w fun e w' => e = .returned (.string x) ∧ Own W w' b s t ∧ Below w.heap.size w w' := by
  refine (rest_rd w b s t h.rd h.place).mono ?_
  rw [he]
  rintro e w' ⟨rfl, hb⟩
  exact ⟨rfl, h.stay hb, hb⟩

theorem own_fault : Calls Try.prog 17 #[.pointer (some ⟨b, 0, none⟩)] w fun e w' => e = .returned (.agg #[.int .i64 t.err, .int .i64 t.bad]) ∧ Own W w' b s t ∧ Below w.heap.size w w' := by
  refine (fault_rd w b s t h.rd).mono ?_
  rintro e w' ⟨rfl, hb⟩
  exact ⟨rfl, h.stay hb, hb⟩

theorem own_end {x y : Int} (he : endF s t = (x, y)) : Calls Try.prog 16 #[.pointer (some ⟨b, 0, none⟩)] w fun e w' => e = .returned (.agg #[.int .i64 x, .int .i64 y]) ∧ Own W w' b s t ∧ Below w.heap.size w w' := by
  refine (end_rd w b s t h.rd).mono ?_
  rw [he]
  rintro e w' ⟨rfl, hb⟩
  exact ⟨rfl, h.stay hb, hb⟩
end

/-! Texts and numbers at given values. -/
theorem text_at {s x : ByteArray} (hs : s.size ≤ 1048576) (he : textS s = x) (w : World) :
    Calls Try.prog 21 #[.string s] w fun e w' => e = .returned (.tuple #[.string x, .int .i64 0]) ∧ Below w.heap.size w w' := by
  subst he; exact text_any s hs w

theorem u32_at {n : Nat} {x : ByteArray} (hn : n < 4294967296) (he : numS 4 n = x) (w : World) :
    Calls Try.prog 26 #[.int .u32 n] w fun e w' => e = .returned (.string x) ∧ Below w.heap.size w w' := by
  subst he; exact u32_any n hn w

def s1 : ByteArray := ⟨#[0, 0, 0, 2, 97, 98, 99]⟩

set_option maxHeartbeats 1000000 in
theorem works_any (w : World) : Calls Try.prog 8 #[] w fun e w' => e = .returned (.bool true) ∧ Below w.heap.size w w' := by
  go_enter Try.func8, Try.ntmps8
  go_wp2_with fail
  refine (text_at (s := ⟨#[97, 98]⟩) (x := ⟨#[0, 0, 0, 2, 97, 98]⟩) (by decide) (by kernel_rfl) _).mono ?_
  rintro e w1 ⟨rfl, hb1⟩
  have HB1 := Lib.hid hb1; clear hb1
  go_wp2_with fail
  refine (own_new (W := w) _ (by decide) HB1.out).mono ?_
  rintro e w2 ⟨rfl, ho, _⟩
  have HO := Lib.hid ho; clear ho
  go_wp2_with fail
  refine (own_text HO.out (x := ⟨#[97, 98]⟩) (t' := ⟨6, 0, 0⟩) (by kernel_rfl)).mono ?_
  rintro e w3 ⟨rfl, ho, _⟩
  have HO3 := Lib.hid ho; clear ho
  go_wp2_with fail
  refine (own_rest HO3.out (x := ⟨#[99]⟩) (by kernel_rfl)).mono ?_
  rintro e w4 ⟨rfl, ho, _⟩
  have HO4 := Lib.hid ho; clear ho
  go_wp2_with fail
  refine (u32_at (n := 258) (x := ⟨#[0, 0, 1, 2]⟩) (by decide) (by kernel_rfl) _).mono ?_
  rintro e w5 ⟨rfl, hb5⟩
  have HB5 := Lib.hid hb5; clear hb5
  go_wp2_with fail
  go_ret
  exact ⟨rfl, HO4.out.below.trans (HB5.out.mono HO4.out.below.size)⟩

end Go.Proofs.Ytdcofbkmflemfaa
