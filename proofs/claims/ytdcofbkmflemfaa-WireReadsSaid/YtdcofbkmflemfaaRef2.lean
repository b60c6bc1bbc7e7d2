/- The contracts of the reference's reader: truths, texts. -/
import Derived.Test.YtdcofbkmflemfaaRef
namespace Go.Proofs.Ytdcofbkmflemfaa
open Go.RowKit

def RrAt (w : World) (b : Nat) (s : ByteArray) (t : St) : Prop := Rr w b s t.p t.err t.bad

theorem refnum_rd (w : World) (b : Nat) (s : ByteArray) (t : St) (wd : Nat) (h : RrAt w b s t) (hp : t.p ≤ s.size) (hs : s.size ≤ 4611686018427387904) (hw : wd ≤ 8) :
    Calls Try.prog 42 #[.pointer (some ⟨b, 0, none⟩), .int .i64 wd] w fun e w' => e = .returned (.int .u64 ((numF s wd t).1 : Nat)) ∧ RrAt w' b s (numF s wd t).2 ∧ w.grownBy w' (some b) := by
  obtain ⟨p, err, bad⟩ := t
  by_cases he : err = 0
  · subst he
    by_cases hl : s.size - p < wd
    · have e : numF s wd ⟨p, 0, bad⟩ = (0, ⟨p, 7, p⟩) := by simp [numF, hl]
      rw [e]
      exact refnum_short w b s p wd bad h hp hs hl
    · have e : numF s wd ⟨p, 0, bad⟩ = (beV (bytesAt s p wd) 0, ⟨p + wd, 0, bad⟩) := by simp [numF, hl]
      rw [e]
      simp only at hp
      have e2 : ((p + wd : Nat) : Int) = (p : Int) + wd := by omega
      unfold RrAt
      rw [e2]
      exact refnum_ok w b s p wd bad h hs hw (by omega)
  · have e : numF s wd ⟨p, err, bad⟩ = (0, ⟨p, err, bad⟩) := by simp [numF, he]
    rw [e]
    refine (refnum_err w b s p err bad wd h (bne_iff_ne.2 he)).mono ?_
    rintro e w1 ⟨rfl, rfl⟩
    exact ⟨rfl, h, World.grownBy.refl _ _⟩

theorem refnum_at {w : World} {b : Nat} {s : ByteArray} {t t' : St} {wd n : Nat} (h : RrAt w b s t) (hp : t.p ≤ s.size) (hs : s.size ≤ 4611686018427387904) (hw : wd ≤ 8) (he : numF s wd t = (n, t')) :
    Calls Try.prog 42 #[.pointer (some ⟨b, 0, none⟩), .int .i64 wd] w fun e w' => e = .returned (.int .u64 (n : Nat)) ∧ RrAt w' b s t' ∧ w.grownBy w' (some b) := by
  have := refnum_rd w b s t wd h hp hs hw
  rw [he] at this
  exact this

set_option maxHeartbeats 400000 in
theorem refbool_err (w : World) (b : Nat) (s : ByteArray) (p : Nat) (err bad : Int) (h : Rr w b s p err bad) (hp : p ≤ s.size) (hs : s.size ≤ 4611686018427387904) (n : Nat) (p' : Nat) (err' bad' : Int)
    (hn : numF s 1 ⟨p, err, bad⟩ = (n, ⟨p', err', bad'⟩)) (he : (err' == 0) = false) (hn0 : n = 0) :
    Calls Try.prog 43 #[.pointer (some ⟨b, 0, none⟩)] w fun e w' => e = .returned (.bool false) ∧ Rr w' b s p' err' bad' ∧ w.grownBy w' (some b) := by
  have c1 := h.c1
  subst hn0
  have HN := Lib.hid hn; clear hn
  go_enter Try.func43, Try.ntmps43
  go_wp2_with fail
  refine (refnum_at (t := ⟨p, err, bad⟩) h hp hs (by omega) HN.out).mono ?_
  rintro e w1 ⟨rfl, h1, hg⟩
  have h1 : Rr w1 b s p' err' bad' := h1
  have d2 := h1.c2
  have H1 := Lib.hid h1; clear h1
  have HG := Lib.hid hg; clear hg
  go_wp2_with fail
  go_ret
  exact ⟨rfl, H1.out, HG.out⟩

set_option maxHeartbeats 400000 in
theorem refbool_big (w : World) (b : Nat) (s : ByteArray) (p : Nat) (bad : Int) (h : Rr w b s p 0 bad) (hp : p ≤ s.size) (hs : s.size ≤ 4611686018427387904) (n : Nat)
    (hn : numF s 1 ⟨p, 0, bad⟩ = (n, ⟨p + 1, 0, bad⟩)) (hbig : 1 < n) :
    Calls Try.prog 43 #[.pointer (some ⟨b, 0, none⟩)] w fun e w' => e = .returned (.bool false) ∧ Rr w' b s (p + 1 : Nat) 7 p ∧ w.grownBy w' (some b) := by
  have c1 := h.c1
  have HN := Lib.hid hn; clear hn
  go_enter Try.func43, Try.ntmps43
  go_wp2_with fail
  refine (refnum_at (t := ⟨p, 0, bad⟩) h hp hs (by omega) HN.out).mono ?_
  rintro e w1 ⟨rfl, h1, hg⟩
  have h1 : Rr w1 b s (p + 1 : Nat) 0 bad := h1
  have d2 := h1.c2
  have d3 := h1.c3
  have f2 := h1.free 2
  have f3 := h1.free 3
  have H1 := Lib.hid h1; clear h1
  have HG := Lib.hid hg; clear hg
  go_wp2_with fail
  go_ret
  exact ⟨rfl, (H1.out.set2 7).set3 p, HG.out.trans (grownBy_set (grownBy_set (World.grownBy.refl _ _) _ _) _ _)⟩

set_option maxHeartbeats 400000 in
theorem refbool_ok (w : World) (b : Nat) (s : ByteArray) (p : Nat) (bad : Int) (h : Rr w b s p 0 bad) (hp : p ≤ s.size) (hs : s.size ≤ 4611686018427387904) (n : Nat)
    (hn : numF s 1 ⟨p, 0, bad⟩ = (n, ⟨p + 1, 0, bad⟩)) (hbig : n ≤ 1) :
    Calls Try.prog 43 #[.pointer (some ⟨b, 0, none⟩)] w fun e w' => e = .returned (.bool (n == 1)) ∧ Rr w' b s (p + 1 : Nat) 0 bad ∧ w.grownBy w' (some b) := by
  have c1 := h.c1
  have HN := Lib.hid hn; clear hn
  go_enter Try.func43, Try.ntmps43
  go_wp2_with fail
  refine (refnum_at (t := ⟨p, 0, bad⟩) h hp hs (by omega) HN.out).mono ?_
  rintro e w1 ⟨rfl, h1, hg⟩
  have h1 : Rr w1 b s (p + 1 : Nat) 0 bad := h1
  have d2 := h1.c2
  have H1 := Lib.hid h1; clear h1
  have HG := Lib.hid hg; clear hg
  go_wp2_with fail
  go_ret
  refine ⟨?_, H1.out, HG.out⟩
  show Ending.returned (.bool ((n : Int) == 1)) = .returned (.bool (n == 1))
  rw [show ((n : Int) == 1) = (n == 1) from by rw [Bool.eq_iff_iff]; simp; omega]

theorem refbool_rd (w : World) (b : Nat) (s : ByteArray) (t : St) (h : RrAt w b s t) (hp : t.p ≤ s.size) (hs : s.size ≤ 4611686018427387904) :
    Calls Try.prog 43 #[.pointer (some ⟨b, 0, none⟩)] w fun e w' => e = .returned (.bool (boolF s t).1) ∧ RrAt w' b s (boolF s t).2 ∧ w.grownBy w' (some b) := by
  obtain ⟨p, err, bad⟩ := t
  simp only at hp
  by_cases he : err = 0
  · subst he
    by_cases hl : s.size - p < 1
    · have hn := numF_short s 1 ⟨p, 0, bad⟩ rfl hl
      have e : boolF s ⟨p, 0, bad⟩ = (false, ⟨p, 7, p⟩) := by simp [boolF, hn]
      rw [e]
      exact refbool_err w b s p 0 bad h hp hs 0 p 7 p hn rfl rfl
    · have hn : numF s 1 ⟨p, 0, bad⟩ = ((numF s 1 ⟨p, 0, bad⟩).1, ⟨p + 1, 0, bad⟩) := Prod.ext rfl (numF_ok s 1 ⟨p, 0, bad⟩ rfl hl)
      generalize (numF s 1 ⟨p, 0, bad⟩).1 = n at hn
      by_cases hbig : 1 < n
      · have e : boolF s ⟨p, 0, bad⟩ = (false, ⟨p + 1, 7, p⟩) := by simp [boolF, hn, hbig]
        rw [e]
        exact refbool_big w b s p bad h hp hs n hn hbig
      · have e : boolF s ⟨p, 0, bad⟩ = (n == 1, ⟨p + 1, 0, bad⟩) := by simp [boolF, hn, hbig]
        rw [e]
        exact refbool_ok w b s p bad h hp hs n hn (by omega)
  · have hn := numF_err s 1 ⟨p, err, bad⟩ he
    have e : boolF s ⟨p, err, bad⟩ = (false, ⟨p, err, bad⟩) := by simp [boolF, hn]
    rw [e]
    exact refbool_err w b s p err bad h hp hs 0 p err bad hn (beq_eq_false_iff_ne.2 he) rfl

set_option maxHeartbeats 400000 in
theorem reftext_bad (w : World) (b : Nat) (s : ByteArray) (p : Nat) (err bad most : Int) (h : Rr w b s p err bad) (hp : p ≤ s.size) (hs : s.size ≤ 4611686018427387904) (p' : Nat) (err' bad' : Int)
    (hn : numF s 4 ⟨p, err, bad⟩ = (0, ⟨p', err', bad'⟩)) (he : (err' != 0) = true) :
    Calls Try.prog 44 #[.pointer (some ⟨b, 0, none⟩), .int .i64 most] w fun e w' => e = .returned (.string ⟨#[]⟩) ∧ Rr w' b s p' err' bad' ∧ w.grownBy w' (some b) := by
  have c1 := h.c1
  have HN := Lib.hid hn; clear hn
  go_enter Try.func44, Try.ntmps44
  go_wp2_with fail
  refine (refnum_at (t := ⟨p, err, bad⟩) h hp hs (by omega) HN.out).mono ?_
  rintro e w1 ⟨rfl, h1, hg⟩
  have h1 : Rr w1 b s p' err' bad' := h1
  have d2 := h1.c2
  have H1 := Lib.hid h1; clear h1
  have HG := Lib.hid hg; clear hg
  go_wp2_with fail
  go_ret
  exact ⟨rfl, H1.out, HG.out⟩

set_option maxHeartbeats 400000 in
theorem reftext_neg (w : World) (b : Nat) (s : ByteArray) (p n : Nat) (bad most : Int) (h : Rr w b s p 0 bad) (hp : p ≤ s.size) (hs : s.size ≤ 4611686018427387904) (hn : numF s 4 ⟨p, 0, bad⟩ = (n, ⟨p + 4, 0, bad⟩)) (hm : most < 0) :
    Calls Try.prog 44 #[.pointer (some ⟨b, 0, none⟩), .int .i64 most] w fun e w' => e = .returned (.string ⟨#[]⟩) ∧ Rr w' b s (p + 4 : Nat) 3 p ∧ w.grownBy w' (some b) := by
  have c1 := h.c1
  have HN := Lib.hid hn; clear hn
  go_enter Try.func44, Try.ntmps44
  go_wp2_with fail
  refine (refnum_at (t := ⟨p, 0, bad⟩) h hp hs (by omega) HN.out).mono ?_
  rintro e w1 ⟨rfl, h1, hg⟩
  have h1 : Rr w1 b s (p + 4 : Nat) 0 bad := h1
  have d2 := h1.c2
  have d3 := h1.c3
  have f2 := h1.free 2
  have f3 := h1.free 3
  have H1 := Lib.hid h1; clear h1
  have HG := Lib.hid hg; clear hg
  go_wp2_with fail
  go_ret
  exact ⟨rfl, (H1.out.set2 3).set3 p, HG.out.trans (grownBy_set (grownBy_set (World.grownBy.refl _ _) _ _) _ _)⟩

set_option maxHeartbeats 400000 in
theorem reftext_long (w : World) (b : Nat) (s : ByteArray) (p n most : Nat) (bad : Int) (h : Rr w b s p 0 bad) (hp : p ≤ s.size) (hs : s.size ≤ 4611686018427387904) (hn : numF s 4 ⟨p, 0, bad⟩ = (n, ⟨p + 4, 0, bad⟩)) (hlt : n < 4294967296) (hm : most < n) :
    Calls Try.prog 44 #[.pointer (some ⟨b, 0, none⟩), .int .i64 most] w fun e w' => e = .returned (.string ⟨#[]⟩) ∧ Rr w' b s (p + 4 : Nat) 3 p ∧ w.grownBy w' (some b) := by
  have c1 := h.c1
  have HN := Lib.hid hn; clear hn
  go_enter Try.func44, Try.ntmps44
  go_wp2_with fail
  refine (refnum_at (t := ⟨p, 0, bad⟩) h hp hs (by omega) HN.out).mono ?_
  rintro e w1 ⟨rfl, h1, hg⟩
  have h1 : Rr w1 b s (p + 4 : Nat) 0 bad := h1
  have d2 := h1.c2
  have d3 := h1.c3
  have f2 := h1.free 2
  have f3 := h1.free 3
  have H1 := Lib.hid h1; clear h1
  have HG := Lib.hid hg; clear hg
  go_wp2_with fail
  go_ret
  exact ⟨rfl, (H1.out.set2 3).set3 p, HG.out.trans (grownBy_set (grownBy_set (World.grownBy.refl _ _) _ _) _ _)⟩

set_option maxHeartbeats 400000 in
theorem reftext_over (w : World) (b : Nat) (s : ByteArray) (p n most : Nat) (bad : Int) (h : Rr w b s p 0 bad) (hp : p + 4 ≤ s.size) (hs : s.size ≤ 4611686018427387904) (hn : numF s 4 ⟨p, 0, bad⟩ = (n, ⟨p + 4, 0, bad⟩)) (hm : n ≤ most) (hm2 : most ≤ 9223372036854775807) (ho : s.size - (p + 4) < n) :
    Calls Try.prog 44 #[.pointer (some ⟨b, 0, none⟩), .int .i64 most] w fun e w' => e = .returned (.string ⟨#[]⟩) ∧ Rr w' b s (p + 4 : Nat) 7 p ∧ w.grownBy w' (some b) := by
  have c1 := h.c1
  have HN := Lib.hid hn; clear hn
  go_enter Try.func44, Try.ntmps44
  go_wp2_with fail
  refine (refnum_at (t := ⟨p, 0, bad⟩) h (show p ≤ s.size by omega) hs (by omega) HN.out).mono ?_
  rintro e w1 ⟨rfl, h1, hg⟩
  have h1 : Rr w1 b s (p + 4 : Nat) 0 bad := h1
  have d0 := h1.c0
  have d1 : w1.cell? ⟨b, 1, none⟩ = some (.int .i64 ((p : Int) + 4)) := h1.c1
  have d2 := h1.c2
  have d3 := h1.c3
  have f2 := h1.free 2
  have f3 := h1.free 3
  have H1 := Lib.hid h1; clear h1
  have HG := Lib.hid hg; clear hg
  go_wp2_with fail
  go_quiet (fail)
  go_wp2_with fail
  go_ret
  exact ⟨rfl, ((H1.out.drewN nq).set2 7).set3 p, HG.out.trans (grownBy_set (grownBy_set (grown_drewN _ _ _) _ _) _ _)⟩

set_option maxHeartbeats 400000 in
theorem reftext_ok (w : World) (b : Nat) (s : ByteArray) (p n most : Nat) (bad : Int) (h : Rr w b s p 0 bad) (hp : p + 4 ≤ s.size) (hs : s.size ≤ 4611686018427387904) (hn : numF s 4 ⟨p, 0, bad⟩ = (n, ⟨p + 4, 0, bad⟩)) (hlt : n < 4294967296) (hm : n ≤ most) (hm2 : most ≤ 9223372036854775807) (ho : ¬ s.size - (p + 4) < n) :
    Calls Try.prog 44 #[.pointer (some ⟨b, 0, none⟩), .int .i64 most] w fun e w' => e = .returned (.string (s.extract (p + 4) (p + 4 + n))) ∧ Rr w' b s (p + 4 + n : Nat) 0 bad ∧ w.grownBy w' (some b) := by
  have c1 := h.c1
  have HN := Lib.hid hn; clear hn
  go_enter Try.func44, Try.ntmps44
  go_wp2_with fail
  refine (refnum_at (t := ⟨p, 0, bad⟩) h (show p ≤ s.size by omega) hs (by omega) HN.out).mono ?_
  rintro e w1 ⟨rfl, h1, hg⟩
  have h1 : Rr w1 b s (p + 4 : Nat) 0 bad := h1
  have d0 := h1.c0
  have d1 : w1.cell? ⟨b, 1, none⟩ = some (.int .i64 ((p : Int) + 4)) := h1.c1
  have d2 := h1.c2
  have f1 := h1.free 1
  have H1 := Lib.hid h1; clear h1
  have HG := Lib.hid hg; clear hg
  go_wp2_with fail
  go_quiet (fail)
  go_wp2_with fail
  go_quiet (fail)
  go_wp2_with fail
  go_ret
  refine ⟨rfl, ?_, HG.out.trans (grown_of_drew (grownBy_set (grown_drewN _ _ _) 1 _))⟩
  have h3 := (H1.out.drewN nq).set1 ((p : Int) + 4 + n)
  rw [show ((p + 4 + n : Nat) : Int) = (p : Int) + 4 + n from by omega]
  exact h3

theorem reftext_rd (w : World) (b : Nat) (s : ByteArray) (t : St) (most : Int) (h : RrAt w b s t) (hp : t.p ≤ s.size) (hs : s.size ≤ 4611686018427387904) (hmost : most ≤ 9223372036854775807) :
    Calls Try.prog 44 #[.pointer (some ⟨b, 0, none⟩), .int .i64 most] w fun e w' => e = .returned (.string (textF s most t).1) ∧ RrAt w' b s (textF s most t).2 ∧ w.grownBy w' (some b) := by
  obtain ⟨p, err, bad⟩ := t
  simp only at hp
  by_cases he : err = 0
  · subst he
    by_cases hl : s.size - p < 4
    · have e : textF s most ⟨p, 0, bad⟩ = (⟨#[]⟩, ⟨p, 7, p⟩) := by simp [textF, hl]
      rw [e]
      exact reftext_bad w b s p 0 bad most h hp hs p 7 p (numF_short s 4 ⟨p, 0, bad⟩ rfl hl) rfl
    · obtain ⟨n, hn1, hn, hlt⟩ := numF4 (s := s) (p := p) (bad := bad) hl
      by_cases hm : most < n
      · have e : textF s most ⟨p, 0, bad⟩ = (⟨#[]⟩, ⟨p + 4, 3, p⟩) := by simp [textF, hl, ← hn1, hm]
        rw [e]
        by_cases hneg : most < 0
        · exact reftext_neg w b s p n bad most h hp hs hn hneg
        · obtain ⟨m, rfl⟩ := Int.eq_ofNat_of_zero_le (show 0 ≤ most by omega)
          exact reftext_long w b s p n m bad h hp hs hn hlt (by omega)
      · obtain ⟨m, rfl⟩ := Int.eq_ofNat_of_zero_le (show 0 ≤ most by omega)
        by_cases ho : s.size - (p + 4) < n
        · have e : textF s m ⟨p, 0, bad⟩ = (⟨#[]⟩, ⟨p + 4, 7, p⟩) := by simp only [textF, hl, ← hn1, hm, ho]; simp
          rw [e]
          exact reftext_over w b s p n m bad h (by omega) hs hn (by omega) (by omega) ho
        · have e : textF s m ⟨p, 0, bad⟩ = (s.extract (p + 4) (p + 4 + n), ⟨p + 4 + n, 0, bad⟩) := by simp only [textF, hl, ← hn1, hm, ho]; simp
          rw [e]
          exact reftext_ok w b s p n m bad h (by omega) hs hn hlt (by omega) (by omega) ho
  · have e : textF s most ⟨p, err, bad⟩ = (⟨#[]⟩, ⟨p, err, bad⟩) := by simp [textF, he]
    rw [e]
    exact reftext_bad w b s p err bad most h hp hs p err bad (numF_err s 4 ⟨p, err, bad⟩ he) (bne_iff_ne.2 he)

end Go.Proofs.Ytdcofbkmflemfaa
