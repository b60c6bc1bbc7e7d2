/- The contracts of the reference's reader: lists of texts, the rest, the end. -/
import Derived.Test.YtdcofbkmflemfaaRef2
namespace Go.Proofs.Ytdcofbkmflemfaa
open Go.RowKit

def RefRel (w : World) (b : Nat) (s : ByteArray) (most : Int) (n : Nat) (t0 : St) (v c : Value) (wr : World) : Prop :=
  ∃ (k : Nat) (acc : List ByteArray) (t : St), k ≤ n ∧ acc.length = k ∧ c = .int .u64 k ∧ Strs wr w.heap.size v acc ∧ RrAt wr b s t ∧ t.p ≤ s.size ∧ w.grownBy wr (some b) ∧ textsGo s most n [] t0 = textsGo s most (n - k) acc t

set_option maxHeartbeats 400000 in
theorem reftexts_ok (w : World) (b : Nat) (s : ByteArray) (p n count : Nat) (bad most : Int) (h : Rr w b s p 0 bad) (hp : p + 4 ≤ s.size) (hs : s.size ≤ 4611686018427387904) (hn : numF s 4 ⟨p, 0, bad⟩ = (n, ⟨p + 4, 0, bad⟩)) (hlt : n < 4294967296) (hm : n ≤ count) (hc9 : count ≤ 9223372036854775807) (hmost : most ≤ 9223372036854775807) :
    Calls Try.prog 45 #[.pointer (some ⟨b, 0, none⟩), .int .i64 count, .int .i64 most] w fun e w' => ∃ v, e = .returned v ∧ Strs w' w.heap.size v (textsGo s most n [] ⟨p + 4, 0, bad⟩).1 ∧ RrAt w' b s (textsGo s most n [] ⟨p + 4, 0, bad⟩).2 ∧ w.grownBy w' (some b) := by
  obtain ⟨i0, hi, hz0, hz1, hz2⟩ := info_parts Try.info9
  have hblt := h.lt
  have c1 := h.c1
  have HN := Lib.hid hn; clear hn
  have g1 : decide ((count : Int) < 0) = false := decide_eq_false (by omega)
  have g2 : decide (count < n) = false := decide_eq_false (by omega)
  go_enter Try.func45, Try.ntmps45
  go_wp2_with fail
  refine (refnum_at (t := ⟨p, 0, bad⟩) h (show p ≤ s.size by omega) hs (by omega) HN.out).mono ?_
  rintro e w1 ⟨rfl, h1, hg⟩
  have h1 : Rr w1 b s (p + 4 : Nat) 0 bad := h1
  have d2 := h1.c2
  have H1 := Lib.hid h1; clear h1
  have HG := Lib.hid hg; clear hg
  go_wp2_with fail
  clear d2 c1
  go_loopw [9, 10, 11] (fun s9 s10 _ wr => RefRel w b s most n ⟨p + 4, 0, bad⟩ s9 s10 wr) (fun _ s10 _ _ => (n - intOf s10).toNat)
  case atStart => exact ⟨0, [], ⟨p + 4, 0, bad⟩, Nat.zero_le _, rfl, rfl, Strs.nil _ _, H1.out, hp, HG.out, rfl⟩
  case round =>
    obtain ⟨k, acc, t, hk, hacc, rfl, hown, hr, htp, hgr, heq⟩ := hrel
    have HO := Lib.hid hown; clear hown
    have HG2 := Lib.hid hgr; clear hgr
    have HE := Lib.hid heq; clear heq
    have HA := Lib.hid hacc; clear hacc
    have hbl : b < wr.heap.size := Nat.lt_of_lt_of_le hblt HG2.out.size
    have hsz := HG2.out.size
    by_cases hlt2 : k < n
    · have htr := reftext_rd wr b s t most hr htp hs hmost
      have htp2 := textF_place s most t htp
      obtain ⟨r, hr2⟩ : ∃ r, r = textF s most t := ⟨_, rfl⟩
      rw [← hr2] at htr htp2
      have HR2 := Lib.hid hr2; clear hr2
      have HT := Lib.hid htr; clear htr
      have HP2 := Lib.hid htp2; clear htp2
      obtain ⟨x, q, er, bd⟩ := r
      by_cases he : er = 0
      · subst he
        go_wp2_with fail
        refine HT.out.mono ?_
        rintro e w2 ⟨rfl, h2, hg2⟩
        have hown2 := Strs.keep HO.out hg2 hblt
        have hsz2 := hg2.size
        have h2 : Rr w2 b s q 0 bd := h2
        have d2 := h2.c2
        have H2 := Lib.hid h2; clear h2
        have HG3 := Lib.hid hg2; clear hg2
        have HO2 := Lib.hid hown2; clear hown2
        go_wp2_with (at_builtin; refine wpList_append_own _ rfl _ _ 38 rfl w.heap.size 9 i0 (.string ⟨#[]⟩) 1 16 Try.underlying38 hi hz0 hz1 hz2 rfl (by decide) _ _ _ rfl (World.ownsRow.alloc HO2.out _) ⟨w2.heap.size, 0, none⟩ 1 1 [.string x] rfl rfl ?_ ?_ ?_ ?_ ?_ ?_)
        · exact one_cell _ _ _
        · exact one_str _
        · rw [HA.out]; unfold maxLen; omega
        · rw [HA.out]; omega
        · have := HG3.out.size; simp; omega
        intro v' w3 hown3 hgrow3 _
        have hr3 : Rr w3 b s q 0 bd := (H2.out.below ((Below.refl _ _).alloc (Nat.le_refl _) _)).keep hgrow3 (own_ne HO2.out hblt)
        have HO3 : Hid (Strs w3 w.heap.size v' (acc ++ [x])) := by
          have h0 : Strs w3 w.heap.size v' (acc ++ [x]) := by unfold Strs; simpa using hown3
          exact Lib.hid h0
        have HG4 : Hid (w.grownBy w3 (some b)) := Lib.hid (own_step (HG2.out.trans HG3.out) HO2.out hgrow3)
        clear hown3 hgrow3 d2
        have HR3 := Lib.hid hr3; clear hr3
        go_wp2_with fail
        go_roundw
        case rel =>
          refine ⟨k + 1, acc ++ [x], ⟨q, 0, bd⟩, by omega, by simp [HA.out], by go_num, HO3.out, HR3.out, HP2.out, HG4.out, ?_⟩
          rw [HE.out, show n - k = (n - (k + 1)) + 1 from by omega, textsGo, ← HR2.out]
          simp
        case measure => simp [intOf]; omega
      · have hebq : (er != 0) = true := bne_iff_ne.2 he
        have HEQ : Hid (textsGo s most n [] ⟨p + 4, 0, bad⟩ = ([], ⟨q, er, bd⟩)) := by
          have h0 : textsGo s most n [] ⟨p + 4, 0, bad⟩ = ([], ⟨q, er, bd⟩) := by
            rw [HE.out, show n - k = (n - (k + 1)) + 1 from by omega, textsGo, ← HR2.out]
            simp [he]
          exact Lib.hid h0
        clear he
        go_wp2_with fail
        refine HT.out.mono ?_
        rintro e w2 ⟨rfl, h2, hg2⟩
        have h2 : Rr w2 b s q er bd := h2
        have d2 := h2.c2
        have H2 := Lib.hid h2; clear h2
        have HG3 := Lib.hid hg2; clear hg2
        go_wp2_with fail
        go_ret
        refine ⟨_, rfl, ?_, ?_, HG2.out.trans HG3.out⟩
        · rw [HEQ.out]; exact Strs.nil _ _
        · rw [HEQ.out]; exact H2.out
    · go_wp2_with fail
      go_ret
      obtain rfl : k = n := by omega
      have he := HE.out
      simp only [Nat.sub_self, textsGo] at he
      refine ⟨_, rfl, ?_, ?_, HG2.out⟩
      · rw [he]; exact HO.out
      · rw [he]; exact hr

set_option maxHeartbeats 400000 in
theorem reftexts_bad (w : World) (b : Nat) (s : ByteArray) (p : Nat) (err bad count most : Int) (h : Rr w b s p err bad) (hp : p ≤ s.size) (hs : s.size ≤ 4611686018427387904) (p' : Nat) (err' bad' : Int)
    (hn : numF s 4 ⟨p, err, bad⟩ = (0, ⟨p', err', bad'⟩)) (he : (err' != 0) = true) :
    Calls Try.prog 45 #[.pointer (some ⟨b, 0, none⟩), .int .i64 count, .int .i64 most] w fun e w' => e = .returned (.slice none 0 0) ∧ Rr w' b s p' err' bad' ∧ w.grownBy w' (some b) := by
  have c1 := h.c1
  have HN := Lib.hid hn; clear hn
  go_enter Try.func45, Try.ntmps45
  go_wp2_with fail
  refine (refnum_at (t := ⟨p, err, bad⟩) h hp hs (by omega) HN.out).mono ?_
  rintro e w1 ⟨rfl, h1, hg⟩
  have h1 : Rr w1 b s p' err' bad' := h1
  have d2 := h1.c2
  have H1 := Lib.hid h1; clear h1
  have HG := Lib.hid hg; clear hg
  go_wp2_with fail
  go_ret
  exact ⟨rfl, H1.out, HG.out⟩

set_option maxHeartbeats 400000 in
theorem reftexts_neg (w : World) (b : Nat) (s : ByteArray) (p n : Nat) (bad count most : Int) (h : Rr w b s p 0 bad) (hp : p ≤ s.size) (hs : s.size ≤ 4611686018427387904) (hn : numF s 4 ⟨p, 0, bad⟩ = (n, ⟨p + 4, 0, bad⟩)) (hm : count < 0) :
    Calls Try.prog 45 #[.pointer (some ⟨b, 0, none⟩), .int .i64 count, .int .i64 most] w fun e w' => e = .returned (.slice none 0 0) ∧ Rr w' b s (p + 4 : Nat) 3 p ∧ w.grownBy w' (some b) := by
  have c1 := h.c1
  have HN := Lib.hid hn; clear hn
  go_enter Try.func45, Try.ntmps45
  go_wp2_with fail
  refine (refnum_at (t := ⟨p, 0, bad⟩) h hp hs (by omega) HN.out).mono ?_
  rintro e w1 ⟨rfl, h1, hg⟩
  have h1 : Rr w1 b s (p + 4 : Nat) 0 bad := h1
  have d2 := h1.c2
  have d3 := h1.c3
  have f2 := h1.free 2
  have f3 := h1.free 3
  have H1 := Lib.hid h1; clear h1
  have HG := Lib.hid hg; clear hg
  go_wp2_with fail
  go_ret
  exact ⟨rfl, (H1.out.set2 3).set3 p, HG.out.trans (grownBy_set (grownBy_set (World.grownBy.refl _ _) _ _) _ _)⟩

set_option maxHeartbeats 400000 in
theorem reftexts_long (w : World) (b : Nat) (s : ByteArray) (p n count : Nat) (bad most : Int) (h : Rr w b s p 0 bad) (hp : p ≤ s.size) (hs : s.size ≤ 4611686018427387904) (hn : numF s 4 ⟨p, 0, bad⟩ = (n, ⟨p + 4, 0, bad⟩)) (hlt : n < 4294967296) (hm : count < n) :
    Calls Try.prog 45 #[.pointer (some ⟨b, 0, none⟩), .int .i64 count, .int .i64 most] w fun e w' => e = .returned (.slice none 0 0) ∧ Rr w' b s (p + 4 : Nat) 3 p ∧ w.grownBy w' (some b) := by
  have c1 := h.c1
  have HN := Lib.hid hn; clear hn
  go_enter Try.func45, Try.ntmps45
  go_wp2_with fail
  refine (refnum_at (t := ⟨p, 0, bad⟩) h hp hs (by omega) HN.out).mono ?_
  rintro e w1 ⟨rfl, h1, hg⟩
  have h1 : Rr w1 b s (p + 4 : Nat) 0 bad := h1
  have d2 := h1.c2
  have d3 := h1.c3
  have f2 := h1.free 2
  have f3 := h1.free 3
  have H1 := Lib.hid h1; clear h1
  have HG := Lib.hid hg; clear hg
  go_wp2_with fail
  go_ret
  exact ⟨rfl, (H1.out.set2 3).set3 p, HG.out.trans (grownBy_set (grownBy_set (World.grownBy.refl _ _) _ _) _ _)⟩

theorem reftexts_rd (w : World) (b : Nat) (s : ByteArray) (t : St) (count most : Int) (h : RrAt w b s t) (hp : t.p ≤ s.size) (hs : s.size ≤ 4611686018427387904) (hcount : count ≤ 9223372036854775807) (hmost : most ≤ 9223372036854775807) :
    Calls Try.prog 45 #[.pointer (some ⟨b, 0, none⟩), .int .i64 count, .int .i64 most] w fun e w' => ∃ v, e = .returned v ∧ Strs w' w.heap.size v (textsF s count most t).1 ∧ RrAt w' b s (textsF s count most t).2 ∧ w.grownBy w' (some b) := by
  obtain ⟨p, err, bad⟩ := t
  simp only at hp
  by_cases he : err = 0
  · subst he
    by_cases hl : s.size - p < 4
    · have e : textsF s count most ⟨p, 0, bad⟩ = ([], ⟨p, 7, p⟩) := by simp [textsF, hl]
      rw [e]
      refine (reftexts_bad w b s p 0 bad count most h hp hs p 7 p (numF_short s 4 ⟨p, 0, bad⟩ rfl hl) rfl).mono ?_
      rintro e w1 ⟨rfl, h1, hg⟩
      exact ⟨_, rfl, Strs.nil _ _, h1, hg⟩
    · obtain ⟨n, hn1, hn, hlt⟩ := numF4 (s := s) (p := p) (bad := bad) hl
      by_cases hm : count < n
      · have e : textsF s count most ⟨p, 0, bad⟩ = ([], ⟨p + 4, 3, p⟩) := by simp [textsF, hl, ← hn1, hm]
        rw [e]
        have fin : Calls Try.prog 45 #[.pointer (some ⟨b, 0, none⟩), .int .i64 count, .int .i64 most] w fun e w' => e = .returned (.slice none 0 0) ∧ Rr w' b s (p + 4 : Nat) 3 p ∧ w.grownBy w' (some b) := by
          by_cases hneg : count < 0
          · exact reftexts_neg w b s p n bad count most h hp hs hn hneg
          · obtain ⟨m, rfl⟩ := Int.eq_ofNat_of_zero_le (show 0 ≤ count by omega)
            exact reftexts_long w b s p n m bad most h hp hs hn hlt (by omega)
        refine fin.mono ?_
        rintro e w1 ⟨rfl, h1, hg⟩
        exact ⟨_, rfl, Strs.nil _ _, h1, hg⟩
      · have e : textsF s count most ⟨p, 0, bad⟩ = textsGo s most n [] ⟨p + 4, 0, bad⟩ := by simp [textsF, hl, ← hn1, hm]
        rw [e]
        obtain ⟨m, rfl⟩ := Int.eq_ofNat_of_zero_le (show 0 ≤ count by omega)
        exact reftexts_ok w b s p n m bad most h (by omega) hs hn hlt (by omega) (by omega) hmost
  · have e : textsF s count most ⟨p, err, bad⟩ = ([], ⟨p, err, bad⟩) := by simp [textsF, he]
    rw [e]
    refine (reftexts_bad w b s p err bad count most h hp hs p err bad (numF_err s 4 ⟨p, err, bad⟩ he) (bne_iff_ne.2 he)).mono ?_
    rintro e w1 ⟨rfl, h1, hg⟩
    exact ⟨_, rfl, Strs.nil _ _, h1, hg⟩

set_option maxHeartbeats 400000 in
theorem refrest_err (w : World) (b : Nat) (s : ByteArray) (p err bad : Int) (h : Rr w b s p err bad) (he : (err != 0) = true) :
    Calls Try.prog 31 #[.pointer (some ⟨b, 0, none⟩)] w fun e w' => e = .returned (.string ⟨#[]⟩) ∧ Below w.heap.size w w' := by
  have c2 := h.c2
  go_enter Try.func31, Try.ntmps31
  go_wp2_with fail
  go_ret
  exact ⟨rfl, Below.refl _ _⟩

set_option maxHeartbeats 400000 in
theorem refrest_ok (w : World) (b : Nat) (s : ByteArray) (p : Nat) (bad : Int) (h : Rr w b s p 0 bad) (hp : p ≤ s.size) :
    Calls Try.prog 31 #[.pointer (some ⟨b, 0, none⟩)] w fun e w' => e = .returned (.string (s.extract p s.size)) ∧ Below w.heap.size w w' := by
  have c0 := h.c0
  have c1 := h.c1
  have c2 := h.c2
  go_enter Try.func31, Try.ntmps31
  go_wp2_with fail
  go_quiet (fail)
  go_wp2_with fail
  go_ret
  exact ⟨rfl, below_drewN _ _⟩

theorem refrest_rd (w : World) (b : Nat) (s : ByteArray) (t : St) (h : RrAt w b s t) (hp : t.p ≤ s.size) :
    Calls Try.prog 31 #[.pointer (some ⟨b, 0, none⟩)] w fun e w' => e = .returned (.string (restF s t)) ∧ Below w.heap.size w w' := by
  obtain ⟨p, err, bad⟩ := t
  by_cases he : err = 0
  · subst he
    have e : restF s ⟨p, 0, bad⟩ = s.extract p s.size := by simp [restF]
    rw [e]
    exact refrest_ok w b s p bad h hp
  · have e : restF s ⟨p, err, bad⟩ = ⟨#[]⟩ := by simp [restF, he]
    rw [e]
    exact refrest_err w b s p err bad h (bne_iff_ne.2 he)

end Go.Proofs.Ytdcofbkmflemfaa
