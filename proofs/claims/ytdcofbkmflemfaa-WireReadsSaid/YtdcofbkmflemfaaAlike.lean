/- A reader of the program's and one of the reference's answer a call alike. -/
import Derived.Test.YtdcofbkmflemfaaRef3
import Derived.Test.YtdcofbkmflemfaaBack2
import Derived.Deep.RegionHeld3
namespace Go.Proofs.Ytdcofbkmflemfaa
open Go.RowKit

set_option maxHeartbeats 400000 in
theorem refend_err (w : World) (b : Nat) (s : ByteArray) (p err bad : Int) (h : Rr w b s p err bad) (he : (err == 0) = false) :
    Calls Try.prog 32 #[.pointer (some ⟨b, 0, none⟩)] w fun e w' => e = .returned (.tuple #[.int .i64 err, .int .i64 bad]) ∧ Below w.heap.size w w' := by
  have c2 := h.c2
  have c3 := h.c3
  go_enter Try.func32, Try.ntmps32
  go_wp2_with fail
  go_quiet (fail)
  go_wp2_with fail
  go_quiet (fail)
  go_wp2_with fail
  go_ret2
  exact ⟨rfl, belowDrewN (below_drewN _ _) _⟩

set_option maxHeartbeats 400000 in
theorem refend_more (w : World) (b : Nat) (s : ByteArray) (p : Nat) (bad : Int) (h : Rr w b s p 0 bad) (hp : p < s.size) :
    Calls Try.prog 32 #[.pointer (some ⟨b, 0, none⟩)] w fun e w' => e = .returned (.tuple #[.int .i64 7, .int .i64 p]) ∧ Below w.heap.size w w' := by
  have c0 := h.c0
  have c1 := h.c1
  have c2 := h.c2
  go_enter Try.func32, Try.ntmps32
  go_wp2_with fail
  go_quiet (fail)
  go_wp2_with fail
  go_quiet (fail)
  go_wp2_with fail
  go_ret2
  exact ⟨rfl, belowDrewN (below_drewN _ _) _⟩

set_option maxHeartbeats 400000 in
theorem refend_done (w : World) (b : Nat) (s : ByteArray) (p : Nat) (bad : Int) (h : Rr w b s p 0 bad) (hp : ¬ p < s.size) :
    Calls Try.prog 32 #[.pointer (some ⟨b, 0, none⟩)] w fun e w' => e = .returned (.tuple #[.int .i64 0, .int .i64 bad]) ∧ Below w.heap.size w w' := by
  have c0 := h.c0
  have c1 := h.c1
  have c2 := h.c2
  have c3 := h.c3
  go_enter Try.func32, Try.ntmps32
  go_wp2_with fail
  go_quiet (fail)
  go_wp2_with fail
  go_quiet (fail)
  go_wp2_with fail
  go_ret2
  exact ⟨rfl, belowDrewN (below_drewN _ _) _⟩

theorem refend_rd (w : World) (b : Nat) (s : ByteArray) (t : St) (h : RrAt w b s t) :
    Calls Try.prog 32 #[.pointer (some ⟨b, 0, none⟩)] w fun e w' => e = .returned (.tuple #[.int .i64 (endF s t).1, .int .i64 (endF s t).2]) ∧ Below w.heap.size w w' := by
  obtain ⟨p, err, bad⟩ := t
  by_cases he : err = 0
  · subst he
    by_cases hl : p < s.size
    · have e : endF s ⟨p, 0, bad⟩ = (7, (p : Int)) := by simp [endF, hl]
      rw [e]
      exact refend_more w b s p bad h hl
    · have e : endF s ⟨p, 0, bad⟩ = (0, bad) := by simp [endF, hl]
      rw [e]
      exact refend_done w b s p bad h hl
  · have e : endF s ⟨p, err, bad⟩ = (err, bad) := by simp [endF, he]
    rw [e]
    exact refend_err w b s p err bad h (beq_eq_false_iff_ne.2 he)

/-- Block b of the law's own is a reader of the reference's, of s, that stands at t. -/
structure OwnR (W w : World) (b : Nat) (s : ByteArray) (t : St) : Prop where
  below : Below W.heap.size W w
  own : W.heap.size ≤ b
  rd : RrAt w b s t
  place : t.p ≤ s.size
  size : s.size ≤ 4611686018427387904

theorem OwnR.lt {W w : World} {b : Nat} {s : ByteArray} {t : St} (h : OwnR W w b s t) : b < w.heap.size := Rr.lt h.rd
theorem OwnR.stay {W w w' : World} {b : Nat} {s : ByteArray} {t : St} (h : OwnR W w b s t) (hb : Below w.heap.size w w') : OwnR W w' b s t :=
  ⟨h.below.trans (hb.mono h.below.size), h.own, Rr.below h.rd hb, h.place, h.size⟩
theorem OwnR.turn {W w w' : World} {b : Nat} {s : ByteArray} {t t' : St} (h : OwnR W w b s t) (hr : RrAt w' b s t') (hp : t'.p ≤ s.size) (hg : w.grownBy w' (some b)) : OwnR W w' b s t' :=
  ⟨h.below.grown hg h.below.size (fun k hk => by cases hk; exact h.own), h.own, hr, hp, h.size⟩
theorem OwnR.other {W w w' : World} {b c : Nat} {s u : ByteArray} {t v : St} (h : OwnR W w b s t) (hc : Own W w' c u v) (hne : b ≠ c) (hg : w.grownBy w' (some c)) : OwnR W w' b s t :=
  ⟨hc.below, h.own, Rr.keep h.rd hg (by simpa using hne), h.place, h.size⟩
theorem Own.otherR {W w w' : World} {b c : Nat} {s u : ByteArray} {t v : St} (h : Own W w b s t) (hc : OwnR W w' c u v) (hne : b ≠ c) (hg : w.grownBy w' (some c)) : Own W w' b s t :=
  ⟨hc.below, h.own, Rd.keep h.rd hg (by simpa using hne), h.place, h.size⟩

section
variable {W w : World} {b : Nat} {s : ByteArray} {t : St} (h : OwnR W w b s t)
include h

theorem ownr_num {wd n : Nat} {t' : St} (hw : wd ≤ 8) (he : numF s wd t = (n, t')) : Calls Try.prog 42 #[.pointer (some ⟨b, 0, none⟩), .int .i64 wd] w fun e w' => e = .returned (.int .u64 n) ∧ OwnR W w' b s t' ∧ w.grownBy w' (some b) := by
  refine (refnum_rd w b s t wd h.rd h.place h.size hw).mono ?_
  have hp := numF_place s wd t h.place
  rw [he] at hp ⊢
  rintro e w' ⟨rfl, hr, hg⟩
  exact ⟨rfl, h.turn hr hp hg, hg⟩

theorem ownr_bool {x : Bool} {t' : St} (he : boolF s t = (x, t')) : Calls Try.prog 43 #[.pointer (some ⟨b, 0, none⟩)] w fun e w' => e = .returned (.bool x) ∧ OwnR W w' b s t' ∧ w.grownBy w' (some b) := by
  refine (refbool_rd w b s t h.rd h.place h.size).mono ?_
  have hp := boolF_place s t h.place
  rw [he] at hp ⊢
  rintro e w' ⟨rfl, hr, hg⟩
  exact ⟨rfl, h.turn hr hp hg, hg⟩

theorem ownr_text {most : Int} {x : ByteArray} {t' : St} (hm : most ≤ 9223372036854775807) (he : textF s most t = (x, t')) : Calls Try.prog 44 #[.pointer (some ⟨b, 0, none⟩), .int .i64 most] w fun e w' => e = .returned (.string x) ∧ OwnR W w' b s t' ∧ w.grownBy w' (some b) := by
  refine (reftext_rd w b s t most h.rd h.place h.size hm).mono ?_
  have hp := textF_place s most t h.place
  rw [he] at hp ⊢
  rintro e w' ⟨rfl, hr, hg⟩
  exact ⟨rfl, h.turn hr hp hg, hg⟩

theorem ownr_texts {count most : Int} {l : List ByteArray} {t' : St} (hc : count ≤ 9223372036854775807) (hm : most ≤ 9223372036854775807) (he : textsF s count most t = (l, t')) : Calls Try.prog 45 #[.pointer (some ⟨b, 0, none⟩), .int .i64 count, .int .i64 most] w fun e w' => ∃ v, e = .returned v ∧ Strs w' w.heap.size v l ∧ OwnR W w' b s t' ∧ w.grownBy w' (some b) := by
  refine (reftexts_rd w b s t count most h.rd h.place h.size hc hm).mono ?_
  have hp := textsF_place s count most t h.place
  rw [he] at hp ⊢
  rintro e w' ⟨v, rfl, hv, hr, hg⟩
  exact ⟨v, rfl, hv, h.turn hr hp hg, hg⟩

theorem ownr_rest {x : ByteArray} (he : restF s t = x) : Calls Try.prog 31 #[.pointer (some ⟨b, 0, none⟩)] w fun e w' => e = .returned (.string x) ∧ OwnR W w' b s t ∧ Below w.heap.size w w' := by
  refine (refrest_rd w b s t h.rd h.place).mono ?_
  rw [he]
  rintro e w' ⟨rfl, hb⟩
  exact ⟨rfl, h.stay hb, hb⟩

theorem ownr_end {x y : Int} (he : endF s t = (x, y)) : Calls Try.prog 32 #[.pointer (some ⟨b, 0, none⟩)] w fun e w' => e = .returned (.tuple #[.int .i64 x, .int .i64 y]) ∧ OwnR W w' b s t ∧ Below w.heap.size w w' := by
  refine (refend_rd w b s t h.rd).mono ?_
  rw [he]
  rintro e w' ⟨rfl, hb⟩
  exact ⟨rfl, h.stay hb, hb⟩
end

/-- Where both stand behind a call. -/
def stepF (s : ByteArray) (kind count most : Int) (t : St) : St :=
  if kind = 0 then (numF s 1 t).2 else if kind = 1 then (numF s 4 t).2 else if kind = 2 then (numF s 8 t).2 else if kind = 3 then (boolF s t).2 else if kind = 4 then (textF s most t).2 else (textsF s count most t).2

/-- Both readers, side by side. -/
structure Both (W w : World) (b c : Nat) (s : ByteArray) (t : St) : Prop where
  r : Own W w b s t
  q : OwnR W w c s t
  ne : b ≠ c

theorem Both.stay {W w w' : World} {b c : Nat} {s : ByteArray} {t : St} (h : Both W w b c s t) (hb : Below w.heap.size w w') : Both W w' b c s t := ⟨h.r.stay hb, h.q.stay hb, h.ne⟩

set_option maxHeartbeats 1000000 in
theorem alike_0 (W w : World) (b c : Nat) (s : ByteArray) (t : St) (count most : Int) (h : Both W w b c s t) :
    Calls Try.prog 30 #[.pointer (some ⟨b, 0, none⟩), .pointer (some ⟨c, 0, none⟩), .agg #[.int .i64 0, .int .i64 count, .int .i64 most]] w fun e w' => e = .returned (.bool true) ∧ Both W w' b c s (numF s 1 t).2 := by
  have h1 := h.stay ((Below.refl _ _).alloc (Nat.le_refl _) (.cells #[.int .i64 0, .int .i64 count, .int .i64 most] 57))
  have hb := numF_lt s 1 t
  have hb : (numF s 1 t).1 < 256 := by simpa using hb
  obtain ⟨r, hr⟩ : ∃ r, r = numF s 1 t := ⟨_, rfl⟩
  rw [← hr] at hb ⊢
  have HR := Lib.hid hr.symm; clear hr
  obtain ⟨n, t'⟩ := r
  have H1 := Lib.hid h1; clear h1 h
  have hb : n < 256 := hb
  go_enter Try.func30, Try.ntmps30
  go_wp2_with fail
  refine (own_u8 H1.out.r HR.out).mono ?_
  rintro e w2 ⟨rfl, ho, hg⟩
  have O2 := Lib.hid ho
  have Q2 := Lib.hid (H1.out.q.other ho (Ne.symm H1.out.ne) hg); clear ho hg
  go_wp2_with fail
  refine (ownr_num Q2.out (wd := 1) (by omega) HR.out).mono ?_
  rintro e w3 ⟨rfl, hq, hg⟩
  have Q3 := Lib.hid hq
  have O3 := Lib.hid (O2.out.otherR hq H1.out.ne hg); clear hq hg
  go_wp2_with fail
  go_ret
  exact ⟨rfl, O3.out, Q3.out, H1.out.ne⟩

set_option maxHeartbeats 1000000 in
theorem alike_1 (W w : World) (b c : Nat) (s : ByteArray) (t : St) (count most : Int) (h : Both W w b c s t) :
    Calls Try.prog 30 #[.pointer (some ⟨b, 0, none⟩), .pointer (some ⟨c, 0, none⟩), .agg #[.int .i64 1, .int .i64 count, .int .i64 most]] w fun e w' => e = .returned (.bool true) ∧ Both W w' b c s (numF s 4 t).2 := by
  have h1 := h.stay ((Below.refl _ _).alloc (Nat.le_refl _) (.cells #[.int .i64 1, .int .i64 count, .int .i64 most] 57))
  have hb := numF_lt s 4 t
  have hb : (numF s 4 t).1 < 4294967296 := by simpa using hb
  obtain ⟨r, hr⟩ : ∃ r, r = numF s 4 t := ⟨_, rfl⟩
  rw [← hr] at hb ⊢
  have HR := Lib.hid hr.symm; clear hr
  obtain ⟨n, t'⟩ := r
  have H1 := Lib.hid h1; clear h1 h
  have hb : n < 4294967296 := hb
  go_enter Try.func30, Try.ntmps30
  go_wp2_with fail
  refine (own_u32 H1.out.r HR.out).mono ?_
  rintro e w2 ⟨rfl, ho, hg⟩
  have O2 := Lib.hid ho
  have Q2 := Lib.hid (H1.out.q.other ho (Ne.symm H1.out.ne) hg); clear ho hg
  go_wp2_with fail
  refine (ownr_num Q2.out (wd := 4) (by omega) HR.out).mono ?_
  rintro e w3 ⟨rfl, hq, hg⟩
  have Q3 := Lib.hid hq
  have O3 := Lib.hid (O2.out.otherR hq H1.out.ne hg); clear hq hg
  go_wp2_with fail
  go_ret
  exact ⟨rfl, O3.out, Q3.out, H1.out.ne⟩

set_option maxHeartbeats 1000000 in
theorem alike_2 (W w : World) (b c : Nat) (s : ByteArray) (t : St) (count most : Int) (h : Both W w b c s t) :
    Calls Try.prog 30 #[.pointer (some ⟨b, 0, none⟩), .pointer (some ⟨c, 0, none⟩), .agg #[.int .i64 2, .int .i64 count, .int .i64 most]] w fun e w' => e = .returned (.bool true) ∧ Both W w' b c s (numF s 8 t).2 := by
  have h1 := h.stay ((Below.refl _ _).alloc (Nat.le_refl _) (.cells #[.int .i64 2, .int .i64 count, .int .i64 most] 57))
  obtain ⟨r, hr⟩ : ∃ r, r = numF s 8 t := ⟨_, rfl⟩
  rw [← hr]
  have HR := Lib.hid hr.symm; clear hr
  obtain ⟨n, t'⟩ := r
  have H1 := Lib.hid h1; clear h1 h
  go_enter Try.func30, Try.ntmps30
  go_wp2_with fail
  refine (own_u64 H1.out.r HR.out).mono ?_
  rintro e w2 ⟨rfl, ho, hg⟩
  have O2 := Lib.hid ho
  have Q2 := Lib.hid (H1.out.q.other ho (Ne.symm H1.out.ne) hg); clear ho hg
  go_wp2_with fail
  refine (ownr_num Q2.out (wd := 8) (by omega) HR.out).mono ?_
  rintro e w3 ⟨rfl, hq, hg⟩
  have Q3 := Lib.hid hq
  have O3 := Lib.hid (O2.out.otherR hq H1.out.ne hg); clear hq hg
  go_wp2_with fail
  go_ret
  exact ⟨rfl, O3.out, Q3.out, H1.out.ne⟩

set_option maxHeartbeats 1000000 in
theorem alike_3 (W w : World) (b c : Nat) (s : ByteArray) (t : St) (count most : Int) (h : Both W w b c s t) :
    Calls Try.prog 30 #[.pointer (some ⟨b, 0, none⟩), .pointer (some ⟨c, 0, none⟩), .agg #[.int .i64 3, .int .i64 count, .int .i64 most]] w fun e w' => e = .returned (.bool true) ∧ Both W w' b c s (boolF s t).2 := by
  have h1 := h.stay ((Below.refl _ _).alloc (Nat.le_refl _) (.cells #[.int .i64 3, .int .i64 count, .int .i64 most] 57))
  obtain ⟨r, hr⟩ : ∃ r, r = boolF s t := ⟨_, rfl⟩
  rw [← hr]
  have HR := Lib.hid hr.symm; clear hr
  obtain ⟨n, t'⟩ := r
  have H1 := Lib.hid h1; clear h1 h
  go_enter Try.func30, Try.ntmps30
  go_wp2_with fail
  refine (own_bool H1.out.r HR.out).mono ?_
  rintro e w2 ⟨rfl, ho, hg⟩
  have O2 := Lib.hid ho
  have Q2 := Lib.hid (H1.out.q.other ho (Ne.symm H1.out.ne) hg); clear ho hg
  go_wp2_with fail
  refine (ownr_bool Q2.out HR.out).mono ?_
  rintro e w3 ⟨rfl, hq, hg⟩
  have Q3 := Lib.hid hq
  have O3 := Lib.hid (O2.out.otherR hq H1.out.ne hg); clear hq hg
  go_wp2_with fail
  go_ret
  exact ⟨rfl, O3.out, Q3.out, H1.out.ne⟩


theorem box_cells {W w : World} (x y z : Value) (w1 : World) (hw : w1 = w.alloc (.cells #[x, y, z] 57)) (_ : W = W) : w1.cell? ⟨w.heap.size, 0, none⟩ = some x ∧ w1.cell? ⟨w.heap.size, 1, none⟩ = some y ∧ w1.cell? ⟨w.heap.size, 2, none⟩ = some z := by
  subst hw
  have h := heap_alloc_new w (.cells #[x, y, z] 57)
  refine ⟨?_, ?_, ?_⟩ <;> (simp only [World.cell?, h]; rfl)

set_option maxHeartbeats 1000000 in
theorem alike_4 (W w : World) (b c : Nat) (s : ByteArray) (t : St) (count most : Int) (h : Both W w b c s t) (hm : most ≤ 9223372036854775807) :
    Calls Try.prog 30 #[.pointer (some ⟨b, 0, none⟩), .pointer (some ⟨c, 0, none⟩), .agg #[.int .i64 4, .int .i64 count, .int .i64 most]] w fun e w' => e = .returned (.bool true) ∧ Both W w' b c s (textF s most t).2 := by
  have h1 := h.stay ((Below.refl _ _).alloc (Nat.le_refl _) (.cells #[.int .i64 4, .int .i64 count, .int .i64 most] 57))
  have hbox := (box_cells (W := W) (.int .i64 4) (.int .i64 count) (.int .i64 most) _ (rfl : _ = w.alloc _) rfl).2.2
  have hnb : w.heap.size ≠ b := Ne.symm (Nat.ne_of_lt h.r.lt)
  have hnc : w.heap.size ≠ c := Ne.symm (Nat.ne_of_lt h.q.lt)
  obtain ⟨r, hr⟩ : ∃ r, r = textF s most t := ⟨_, rfl⟩
  rw [← hr]
  have HR := Lib.hid hr.symm; clear hr
  obtain ⟨n, t'⟩ := r
  have H1 := Lib.hid (h1.stay (Below.refl _ _).drew); clear h1 h
  have HX := Lib.hid hbox
  have NB := Lib.hid hnb
  have NC := Lib.hid hnc
  clear hnb hnc
  go_enter Try.func30, Try.ntmps30
  go_wp2_with fail
  go_region_held3 (fun w' => w'.cell? ⟨w.heap.size, 2, none⟩ = some (.int .i64 most))
    (first
      | assumption
      | go_keep)
    (first
      | (go_at_call 14; refine (own_text H1.out.r HR.out).mono ?_; rintro e w2 ⟨rfl, ho, hg⟩; have hk2 := hg.cell HX.out (by simpa using NB.out); have O2 := Lib.hid ho; have Q2 := Lib.hid (H1.out.q.other ho (Ne.symm H1.out.ne) hg); clear ho hg)
      | (go_at_call 44; refine (ownr_text Q2.out hm HR.out).mono ?_; rintro e w3 ⟨rfl, hq, hg⟩; have hk3 := hg.cell hk2 (by simpa using NC.out); have Q3 := Lib.hid hq; have O3 := Lib.hid (O2.out.otherR hq H1.out.ne hg); clear hq hg))
  go_wp2_with fail
  go_ret
  exact ⟨rfl, O3.out, Q3.out, H1.out.ne⟩

set_option maxHeartbeats 1000000 in
theorem alike_5 (W w : World) (b c : Nat) (s : ByteArray) (t : St) (kind count most : Int) (h : Both W w b c s t) (hm : most ≤ 9223372036854775807) (hc : count ≤ 9223372036854775807)
    (k0 : (kind == 0) = false) (k1 : (kind == 1) = false) (k2 : (kind == 2) = false) (k3 : (kind == 3) = false) (k4 : (kind == 4) = false) :
    Calls Try.prog 30 #[.pointer (some ⟨b, 0, none⟩), .pointer (some ⟨c, 0, none⟩), .agg #[.int .i64 kind, .int .i64 count, .int .i64 most]] w fun e w' => e = .returned (.bool true) ∧ Both W w' b c s (textsF s count most t).2 := by
  have h1 := h.stay ((Below.refl _ _).alloc (Nat.le_refl _) (.cells #[.int .i64 kind, .int .i64 count, .int .i64 most] 57))
  have hbox := (box_cells (W := W) (.int .i64 kind) (.int .i64 count) (.int .i64 most) _ (rfl : _ = w.alloc _) rfl)
  obtain ⟨_, hbox1, hbox2⟩ := hbox
  have hnb : w.heap.size ≠ b := Ne.symm (Nat.ne_of_lt h.r.lt)
  have hnc : w.heap.size ≠ c := Ne.symm (Nat.ne_of_lt h.q.lt)
  have hlc : c < w.heap.size := h.q.lt
  obtain ⟨r, hr⟩ : ∃ r, r = textsF s count most t := ⟨_, rfl⟩
  rw [← hr]
  have HR := Lib.hid hr.symm; clear hr
  obtain ⟨n, t'⟩ := r
  have H1 := Lib.hid (h1.stay (Below.refl _ _).drew); clear h1 h
  have HX1 := Lib.hid hbox1
  have HX2 := Lib.hid hbox2
  have NB := Lib.hid hnb
  have NC := Lib.hid hnc
  have LC := Lib.hid hlc
  clear hnb hnc hlc
  go_enter Try.func30, Try.ntmps30
  go_wp2_with fail
  go_region_held3 (fun w' => w'.cell? ⟨w.heap.size, 1, none⟩ = some (.int .i64 count) ∧ w'.cell? ⟨w.heap.size, 2, none⟩ = some (.int .i64 most))
    (first
      | (exact ⟨by assumption, by assumption⟩)
      | go_keep)
    (first
      | (go_at_call 20; refine (own_texts H1.out.r HR.out).mono ?_; rintro e w2 ⟨v2, rfl, hv, ho, hg⟩; have hk2 := hg.cell HX1.out (by simpa using NB.out); have hj2 := hg.cell HX2.out (by simpa using NB.out); have O2 := Lib.hid ho; have V2 := Lib.hid hv; have Q2 := Lib.hid (H1.out.q.other ho (Ne.symm H1.out.ne) hg); clear ho hg hv)
      | (go_at_call 45; refine (ownr_texts Q2.out hc hm HR.out).mono ?_; rintro e w3 ⟨v3, rfl, hv, hq, hg⟩; have hk3 := hg.cell hk2 (by simpa using NC.out); have hj3 := hg.cell hj2 (by simpa using NC.out); have V3 := Lib.hid hv.ins; have U3 := Lib.hid (V2.out.keep hg (by have := LC.out; simp; omega)).ins; have Q3 := Lib.hid hq; have O3 := Lib.hid (O2.out.otherR hq H1.out.ne hg); clear hq hg hv)
      | (go_at_call 29; refine (equal_any U3.out V3.out).mono ?_; rintro e w4 ⟨rfl, hb⟩; have hk4 : w4.cell? ⟨w.heap.size, 1, none⟩ = some (.int .i64 count) := (hb.cell (World.block_lt_of_cell? _ _ hk3)).trans hk3; have hj4 : w4.cell? ⟨w.heap.size, 2, none⟩ = some (.int .i64 most) := (hb.cell (World.block_lt_of_cell? _ _ hj3)).trans hj3; have Q4 := Lib.hid (Q3.out.stay hb); have O4 := Lib.hid (O3.out.stay hb); clear hb))
  go_wp2_with fail
  go_ret
  exact ⟨rfl, O4.out, Q4.out, H1.out.ne⟩

theorem alike_any (W w : World) (b c : Nat) (s : ByteArray) (t : St) (kind count most : Int) (h : Both W w b c s t) (hm : most ≤ 9223372036854775807) (hc : count ≤ 9223372036854775807) :
    Calls Try.prog 30 #[.pointer (some ⟨b, 0, none⟩), .pointer (some ⟨c, 0, none⟩), .agg #[.int .i64 kind, .int .i64 count, .int .i64 most]] w fun e w' => e = .returned (.bool true) ∧ Both W w' b c s (stepF s kind count most t) := by
  by_cases k0 : kind = 0
  · subst k0; exact alike_0 W w b c s t count most h
  by_cases k1 : kind = 1
  · subst k1; exact alike_1 W w b c s t count most h
  by_cases k2 : kind = 2
  · subst k2; exact alike_2 W w b c s t count most h
  by_cases k3 : kind = 3
  · subst k3; exact alike_3 W w b c s t count most h
  by_cases k4 : kind = 4
  · subst k4; exact alike_4 W w b c s t count most h hm
  have e : stepF s kind count most t = (textsF s count most t).2 := by simp [stepF, k0, k1, k2, k3, k4]
  rw [e]
  exact alike_5 W w b c s t kind count most h hm hc (beq_eq_false_iff_ne.2 k0) (beq_eq_false_iff_ne.2 k1) (beq_eq_false_iff_ne.2 k2) (beq_eq_false_iff_ne.2 k3) (beq_eq_false_iff_ne.2 k4)

end Go.Proofs.Ytdcofbkmflemfaa
