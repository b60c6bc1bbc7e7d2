/- The contracts of the reader's calls: truths, texts. -/
import Derived.Test.YtdcofbkmflemfaaRd2
namespace Go.Proofs.Ytdcofbkmflemfaa
open Go.RowKit

theorem numF_big {s : ByteArray} {wd : Nat} {t : St} (h : 0 < (numF s wd t).1) : t.err = 0 ∧ ¬ s.size - t.p < wd ∧ (numF s wd t).2 = ⟨t.p + wd, 0, t.bad⟩ := by
  by_cases he : t.err = 0
  · by_cases hl : s.size - t.p < wd
    · rw [numF_short s wd t he hl] at h; simp at h
    · exact ⟨he, hl, numF_ok s wd t he hl⟩
  · rw [numF_err s wd t he] at h; simp at h

set_option maxHeartbeats 400000 in
theorem bool_rd (w : World) (b : Nat) (s : ByteArray) (t : St) (h : RdAt w b s t) (hp : t.p ≤ s.size) (hs : s.size ≤ 4611686018427387904) :
    Calls Try.prog 19 #[.pointer (some ⟨b, 0, none⟩)] w fun e w' => e = .returned (.bool (boolF s t).1) ∧ RdAt w' b s (boolF s t).2 ∧ w.grownBy w' (some b) := by
  by_cases hn : 1 < (numF s 1 t).1
  · have hbig := numF_big (s := s) (wd := 1) (t := t) (by omega)
    have hF : boolF s t = (false, ⟨t.p + 1, 7, t.p⟩) := by simp [boolF, hn, hbig.2.2]
    rw [hF]
    obtain ⟨n, hn'⟩ : ∃ n, n = (numF s 1 t).1 := ⟨_, rfl⟩
    have hn1 : 1 < n := by omega
    have HN := Lib.hid hn'
    have HB := Lib.hid hbig
    clear hn' hbig hF hn
    go_enter Try.func19, Try.ntmps19
    go_wp2_with fail
    refine (u8_rd w b s t h hp hs).mono ?_
    rintro e w1 ⟨rfl, h1, hg⟩
    rw [← HN.out]
    rw [HB.out.2.2] at h1
    have h1 : Rd w1 b s ((t.p : Int) + 1) 0 t.bad := by simpa [RdAt] using h1
    have c1 := h1.c1
    have H1 := Lib.hid h1; clear h1
    have HG := Lib.hid hg; clear hg
    go_wp2_with fail
    refine (fail_any _ _ _ _ _ _ _ _ H1.out).mono ?_
    rintro e w2 ⟨rfl, h2, hg2⟩
    have HR : Rd w2 b s ((t.p : Int) + 1) 7 t.p := by simpa using h2
    have HR := Lib.hid HR; clear h2
    have HG2 := Lib.hid hg2; clear hg2
    have hf : ((n : Int) == 1) = false := by rw [beq_eq_false_iff_ne]; omega
    go_wp2_with fail
    go_ret
    exact ⟨rfl, HR.out, HG.out.trans HG2.out⟩
  · have hF : boolF s t = ((numF s 1 t).1 == 1, (numF s 1 t).2) := by simp [boolF, hn]
    rw [hF]
    go_enter Try.func19, Try.ntmps19
    go_wp2_with fail
    refine (u8_rd w b s t h hp hs).mono ?_
    rintro e w1 ⟨rfl, h1, hg⟩
    obtain ⟨n, hn'⟩ : ∃ n, n = (numF s 1 t).1 := ⟨_, rfl⟩
    rw [← hn'] at hn ⊢
    have HN := Lib.hid hn'; clear hn'
    have hn2 : n ≤ 1 := by omega
    clear hn hF
    go_wp2_with fail
    go_ret
    refine ⟨?_, h1, hg⟩
    show Ending.returned (.bool ((n : Int) == 1)) = .returned (.bool ((numF s 1 t).1 == 1))
    rw [← HN.out, show ((n : Int) == 1) = (n == 1) from by rw [Bool.eq_iff_iff]; simp; omega]

set_option maxHeartbeats 400000 in
theorem head_err (w : World) (b : Nat) (s : ByteArray) (p err bad most : Int) (h : Rd w b s p err bad) (he : (err == 0) = false) :
    Calls Try.prog 38 #[.pointer (some ⟨b, 0, none⟩), .int .i64 most] w fun e w' => e = .returned (.tuple #[.int .u32 0, .int .i64 0, .bool false]) ∧ w = w' := by
  go_enter Try.func38, Try.ntmps38
  go_wp2_with fail
  refine (whole_no _ _ _ _ _ _ h he).mono ?_
  rintro e w1 ⟨rfl, rfl⟩
  go_wp2_with fail
  go_ret3
  exact ⟨rfl, rfl⟩

set_option maxHeartbeats 400000 in
theorem head_short (w : World) (b : Nat) (s : ByteArray) (p : Nat) (bad most : Int) (h : Rd w b s p 0 bad) (hp : p ≤ s.size) (hs : s.size ≤ 4611686018427387904) (hl : s.size - p < 4) :
    Calls Try.prog 38 #[.pointer (some ⟨b, 0, none⟩), .int .i64 most] w fun e w' => e = .returned (.tuple #[.int .u32 0, .int .i64 p, .bool false]) ∧ Rd w' b s p 7 p ∧ w.grownBy w' (some b) := by
  have c1 := h.c1
  have hq := numF_short s 4 ⟨p, 0, bad⟩ rfl hl
  have HQ := Lib.hid hq; clear hq
  go_enter Try.func38, Try.ntmps38
  go_wp2_with fail
  refine (whole_yes _ _ _ _ _ h).mono ?_
  rintro e w1 ⟨rfl, rfl⟩
  go_wp2_with fail
  refine (u32_rd w b s ⟨p, 0, bad⟩ h hp hs).mono ?_
  rw [HQ.out]
  rintro e w2 ⟨rfl, h2, hg⟩
  go_wp2_with fail
  refine (whole_no _ _ _ _ _ _ h2 rfl).mono ?_
  rintro e w3 ⟨rfl, rfl⟩
  go_wp2_with fail
  refine (whole_no _ _ _ _ _ _ h2 rfl).mono ?_
  rintro e w3 ⟨rfl, rfl⟩
  go_wp2_with fail
  go_ret3
  exact ⟨rfl, h2, hg⟩

set_option maxHeartbeats 400000 in
theorem head_long (w : World) (b : Nat) (s : ByteArray) (p n : Nat) (bad most : Int) (h : Rd w b s p 0 bad) (hp : p ≤ s.size) (hs : s.size ≤ 4611686018427387904) (hn : numF s 4 ⟨p, 0, bad⟩ = (n, ⟨p + 4, 0, bad⟩)) (hlt : n < 4294967296) (hm : most < n) :
    Calls Try.prog 38 #[.pointer (some ⟨b, 0, none⟩), .int .i64 most] w fun e w' => e = .returned (.tuple #[.int .u32 n, .int .i64 p, .bool false]) ∧ Rd w' b s (p + 4 : Nat) 3 p ∧ w.grownBy w' (some b) := by
  have c1 := h.c1
  have HQ := Lib.hid hn; clear hn
  go_enter Try.func38, Try.ntmps38
  go_wp2_with fail
  refine (whole_yes _ _ _ _ _ h).mono ?_
  rintro e w1 ⟨rfl, rfl⟩
  go_wp2_with fail
  refine (u32_rd w b s ⟨p, 0, bad⟩ h hp hs).mono ?_
  rw [HQ.out]
  rintro e w2 ⟨rfl, h2, hg⟩
  have H2 : Hid (Rd w2 b s (p + 4 : Nat) 0 bad) := Lib.hid h2; clear h2
  have HG := Lib.hid hg; clear hg
  go_wp2_with fail
  refine (whole_yes _ _ _ _ _ H2.out).mono ?_
  rintro e w3 ⟨rfl, rfl⟩
  go_wp2_with fail
  refine (fail_any _ _ _ _ _ _ _ _ H2.out).mono ?_
  rintro e w3 ⟨rfl, h3, hg3⟩
  have H3 := Lib.hid h3; clear h3
  have HG3 := Lib.hid hg3; clear hg3
  go_wp2_with fail
  refine (whole_no _ _ _ _ _ _ H3.out rfl).mono ?_
  rintro e w4 ⟨rfl, rfl⟩
  go_wp2_with fail
  go_ret3
  exact ⟨rfl, H3.out, HG.out.trans HG3.out⟩

set_option maxHeartbeats 400000 in
theorem head_ok (w : World) (b : Nat) (s : ByteArray) (p n : Nat) (bad most : Int) (h : Rd w b s p 0 bad) (hp : p ≤ s.size) (hs : s.size ≤ 4611686018427387904) (hn : numF s 4 ⟨p, 0, bad⟩ = (n, ⟨p + 4, 0, bad⟩)) (hlt : n < 4294967296) (hm : ¬ most < n) :
    Calls Try.prog 38 #[.pointer (some ⟨b, 0, none⟩), .int .i64 most] w fun e w' => e = .returned (.tuple #[.int .u32 n, .int .i64 p, .bool true]) ∧ Rd w' b s (p + 4 : Nat) 0 bad ∧ w.grownBy w' (some b) := by
  have c1 := h.c1
  have HQ := Lib.hid hn; clear hn
  go_enter Try.func38, Try.ntmps38
  go_wp2_with fail
  refine (whole_yes _ _ _ _ _ h).mono ?_
  rintro e w1 ⟨rfl, rfl⟩
  go_wp2_with fail
  refine (u32_rd w b s ⟨p, 0, bad⟩ h hp hs).mono ?_
  rw [HQ.out]
  rintro e w2 ⟨rfl, h2, hg⟩
  have H2 : Hid (Rd w2 b s (p + 4 : Nat) 0 bad) := Lib.hid h2; clear h2
  have HG := Lib.hid hg; clear hg
  go_wp2_with fail
  refine (whole_yes _ _ _ _ _ H2.out).mono ?_
  rintro e w3 ⟨rfl, rfl⟩
  go_wp2_with fail
  refine (whole_yes _ _ _ _ _ H2.out).mono ?_
  rintro e w4 ⟨rfl, rfl⟩
  go_wp2_with fail
  go_ret3
  exact ⟨rfl, H2.out, HG.out⟩

theorem numF4 {s : ByteArray} {p : Nat} {bad : Int} (hl : ¬ s.size - p < 4) : ∃ n, n = (numF s 4 ⟨p, 0, bad⟩).1 ∧ numF s 4 ⟨p, 0, bad⟩ = (n, ⟨p + 4, 0, bad⟩) ∧ n < 4294967296 := by
  refine ⟨_, rfl, ?_, ?_⟩
  · exact Prod.ext rfl (numF_ok s 4 ⟨p, 0, bad⟩ rfl hl)
  · simpa using numF_lt s 4 ⟨p, 0, bad⟩

set_option maxHeartbeats 400000 in
theorem text_err (w : World) (b : Nat) (s : ByteArray) (p err bad most : Int) (h : Rd w b s p err bad) (he : (err == 0) = false) :
    Calls Try.prog 14 #[.pointer (some ⟨b, 0, none⟩), .int .i64 most] w fun e w' => e = .returned (.string ⟨#[]⟩) ∧ w = w' := by
  go_enter Try.func14, Try.ntmps14
  go_wp2_with fail
  refine (head_err _ _ _ _ _ _ _ h he).mono ?_
  rintro e w1 ⟨rfl, rfl⟩
  go_wp2_with fail
  go_ret
  exact ⟨rfl, rfl⟩

set_option maxHeartbeats 400000 in
theorem text_short (w : World) (b : Nat) (s : ByteArray) (p : Nat) (bad most : Int) (h : Rd w b s p 0 bad) (hp : p ≤ s.size) (hs : s.size ≤ 4611686018427387904) (hl : s.size - p < 4) :
    Calls Try.prog 14 #[.pointer (some ⟨b, 0, none⟩), .int .i64 most] w fun e w' => e = .returned (.string ⟨#[]⟩) ∧ Rd w' b s p 7 p ∧ w.grownBy w' (some b) := by
  go_enter Try.func14, Try.ntmps14
  go_wp2_with fail
  refine (head_short _ _ _ _ _ _ h hp hs hl).mono ?_
  rintro e w1 ⟨rfl, h1, hg⟩
  go_wp2_with fail
  go_ret
  exact ⟨rfl, h1, hg⟩

set_option maxHeartbeats 400000 in
theorem text_long (w : World) (b : Nat) (s : ByteArray) (p n : Nat) (bad most : Int) (h : Rd w b s p 0 bad) (hp : p ≤ s.size) (hs : s.size ≤ 4611686018427387904) (hn : numF s 4 ⟨p, 0, bad⟩ = (n, ⟨p + 4, 0, bad⟩)) (hlt : n < 4294967296) (hm : most < n) :
    Calls Try.prog 14 #[.pointer (some ⟨b, 0, none⟩), .int .i64 most] w fun e w' => e = .returned (.string ⟨#[]⟩) ∧ Rd w' b s (p + 4 : Nat) 3 p ∧ w.grownBy w' (some b) := by
  have HQ := Lib.hid hn; clear hn
  go_enter Try.func14, Try.ntmps14
  go_wp2_with fail
  refine (head_long _ _ _ _ _ _ _ h hp hs HQ.out hlt hm).mono ?_
  rintro e w1 ⟨rfl, h1, hg⟩
  go_wp2_with fail
  go_ret
  exact ⟨rfl, h1, hg⟩

set_option maxHeartbeats 400000 in
theorem text_over (w : World) (b : Nat) (s : ByteArray) (p n : Nat) (bad most : Int) (h : Rd w b s p 0 bad) (hp : p + 4 ≤ s.size) (hs : s.size ≤ 4611686018427387904) (hn : numF s 4 ⟨p, 0, bad⟩ = (n, ⟨p + 4, 0, bad⟩)) (hlt : n < 4294967296) (hm : ¬ most < n) (ho : s.size - (p + 4) < n) :
    Calls Try.prog 14 #[.pointer (some ⟨b, 0, none⟩), .int .i64 most] w fun e w' => e = .returned (.string ⟨#[]⟩) ∧ Rd w' b s (p + 4 : Nat) 7 p ∧ w.grownBy w' (some b) := by
  have HQ := Lib.hid hn; clear hn
  go_enter Try.func14, Try.ntmps14
  go_wp2_with fail
  refine (head_ok _ _ _ _ _ _ _ h (by omega) hs HQ.out hlt (by omega)).mono ?_
  rintro e w1 ⟨rfl, h1, hg⟩
  have c0 := h1.c0
  have c1 : w1.cell? ⟨b, 1, none⟩ = some (.int .i64 ((p : Int) + 4)) := h1.c1
  have H1 := Lib.hid h1; clear h1
  have HG := Lib.hid hg; clear hg
  go_wp2_with fail
  go_quiet (fail)
  go_wp2_with fail
  refine (fail_any _ _ _ _ _ _ _ _ (H1.out.drewN _)).mono ?_
  rintro e w2 ⟨rfl, h2, hg2⟩
  go_wp2_with fail
  go_ret
  exact ⟨rfl, h2, HG.out.trans (grown_of_drew hg2)⟩

set_option maxHeartbeats 400000 in
theorem text_ok (w : World) (b : Nat) (s : ByteArray) (p n : Nat) (bad most : Int) (h : Rd w b s p 0 bad) (hp : p + 4 ≤ s.size) (hs : s.size ≤ 4611686018427387904) (hn : numF s 4 ⟨p, 0, bad⟩ = (n, ⟨p + 4, 0, bad⟩)) (hlt : n < 4294967296) (hm : ¬ most < n) (ho : ¬ s.size - (p + 4) < n) :
    Calls Try.prog 14 #[.pointer (some ⟨b, 0, none⟩), .int .i64 most] w fun e w' => e = .returned (.string (s.extract (p + 4) (p + 4 + n))) ∧ Rd w' b s (p + 4 + n : Nat) 0 bad ∧ w.grownBy w' (some b) := by
  have HQ := Lib.hid hn; clear hn
  go_enter Try.func14, Try.ntmps14
  go_wp2_with fail
  refine (head_ok _ _ _ _ _ _ _ h (by omega) hs HQ.out hlt (by omega)).mono ?_
  rintro e w1 ⟨rfl, h1, hg⟩
  have c0 := h1.c0
  have c1 : w1.cell? ⟨b, 1, none⟩ = some (.int .i64 ((p : Int) + 4)) := h1.c1
  have f1 := h1.free 1
  have H1 := Lib.hid h1; clear h1
  have HG := Lib.hid hg; clear hg
  go_wp2_with fail
  go_quiet (fail)
  go_wp2_with fail
  go_quiet (fail)
  go_wp2_with fail
  go_ret
  refine ⟨rfl, ?_, HG.out.trans (grown_of_drew (grownBy_set (grown_drewN _ _ _) 1 _))⟩
  have h3 := (H1.out.drewN nq).set1 ((p : Int) + 4 + n)
  rw [show ((p + 4 + n : Nat) : Int) = (p : Int) + 4 + n from by omega]
  exact h3

/-- The next text: what it is, where the reader stands behind it. -/
theorem text_rd (w : World) (b : Nat) (s : ByteArray) (t : St) (most : Int) (h : RdAt w b s t) (hp : t.p ≤ s.size) (hs : s.size ≤ 4611686018427387904) :
    Calls Try.prog 14 #[.pointer (some ⟨b, 0, none⟩), .int .i64 most] w fun e w' => e = .returned (.string (textF s most t).1) ∧ RdAt w' b s (textF s most t).2 ∧ w.grownBy w' (some b) := by
  obtain ⟨p, err, bad⟩ := t
  simp only at hp
  by_cases he : err = 0
  · subst he
    by_cases hl : s.size - p < 4
    · have e : textF s most ⟨p, 0, bad⟩ = (⟨#[]⟩, ⟨p, 7, p⟩) := by simp [textF, hl]
      rw [e]
      exact text_short w b s p bad most h hp hs hl
    · obtain ⟨n, hn1, hn, hlt⟩ := numF4 (s := s) (p := p) (bad := bad) hl
      by_cases hm : most < n
      · have e : textF s most ⟨p, 0, bad⟩ = (⟨#[]⟩, ⟨p + 4, 3, p⟩) := by simp [textF, hl, ← hn1, hm]
        rw [e]
        exact text_long w b s p n bad most h hp hs hn hlt hm
      · by_cases ho : s.size - (p + 4) < n
        · have e : textF s most ⟨p, 0, bad⟩ = (⟨#[]⟩, ⟨p + 4, 7, p⟩) := by simp [textF, hl, ← hn1, hm, ho]
          rw [e]
          exact text_over w b s p n bad most h (by omega) hs hn hlt hm ho
        · have e : textF s most ⟨p, 0, bad⟩ = (s.extract (p + 4) (p + 4 + n), ⟨p + 4 + n, 0, bad⟩) := by simp [textF, hl, ← hn1, hm, ho]
          rw [e]
          exact text_ok w b s p n bad most h (by omega) hs hn hlt hm ho
  · have e : textF s most ⟨p, err, bad⟩ = (⟨#[]⟩, ⟨p, err, bad⟩) := by simp [textF, he]
    rw [e]
    refine (text_err w b s p err bad most h (beq_eq_false_iff_ne.2 he)).mono ?_
    rintro e w1 ⟨rfl, rfl⟩
    exact ⟨rfl, h, World.grownBy.refl _ _⟩

theorem numF_place (s : ByteArray) (wd : Nat) (t : St) (hp : t.p ≤ s.size) : (numF s wd t).2.p ≤ s.size := by
  unfold numF
  split
  · exact hp
  · split
    · exact hp
    · simp only; omega

theorem boolF_place (s : ByteArray) (t : St) (hp : t.p ≤ s.size) : (boolF s t).2.p ≤ s.size := by
  unfold boolF
  split
  · rename_i hh
    have hbig := numF_big (s := s) (wd := 1) (t := t) (by omega)
    simp only
    omega
  · exact numF_place s 1 t hp

theorem textF_place (s : ByteArray) (most : Int) (t : St) (hp : t.p ≤ s.size) : (textF s most t).2.p ≤ s.size := by
  unfold textF
  repeat' split
  all_goals simp only
  all_goals omega

end Go.Proofs.Ytdcofbkmflemfaa
