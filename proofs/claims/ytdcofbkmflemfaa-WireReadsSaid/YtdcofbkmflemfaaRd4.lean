/- The contract of the reader's Texts. -/
import Derived.Test.YtdcofbkmflemfaaRd3
import Derived.Maps.Range
namespace Go.Proofs.Ytdcofbkmflemfaa
open Go.RowKit

theorem Try.info9 : (Try.prog.info? 9).map (fun i => (i.zero, i.size, i.bytes)) = some (some (.string ⟨#[]⟩), 1, 16) := by kernel_rfl

theorem one_cell (w : World) (v : Value) (e : TypeId) : ∀ j u, [v][j]? = some u → (w.alloc (.cells #[v] e)).cell? ((⟨w.heap.size, 0, none⟩ : Addr).add j) = some u := by
  intro j u hu
  cases j with
  | zero =>
    simp at hu
    subst hu
    have h := heap_alloc_new w (.cells #[v] e)
    show (w.alloc (.cells #[v] e)).cell? ⟨w.heap.size, 0, none⟩ = some v
    simp only [World.cell?, h]
    rfl
  | succ j => simp at hu

theorem one_str (x : ByteArray) : ∀ u ∈ [Value.string x], u.oneCell' = true := by
  intro u hu
  simp at hu
  subst hu
  rfl

/-- A row of strings that the call owns. -/
def Strs (w : World) (B : Nat) (v : Value) (l : List ByteArray) : Prop := w.ownsRow B 9 1 v l.length (l.map Value.string)

theorem Strs.nil (w : World) (B : Nat) : Strs w B (.slice none 0 0) [] := World.ownsRow_nil _ _ _ _

theorem Strs.keep {w w' : World} {B b : Nat} {v : Value} {l : List ByteArray} (h : Strs w B v l) (hg : w.grownBy w' (some b)) (hb : b < B) : Strs w' B v l := by
  refine World.ownsRow.kept h hg ?_
  by_cases e : v.ownBlock = none
  · exact .inl e
  · right
    intro e2
    have := (World.ownsRow.lt h b e2).1
    omega

theorem Rd.keep {w w' : World} {b : Nat} {s : ByteArray} {p err bad : Int} {row : Option Nat} (h : Rd w b s p err bad) (hg : w.grownBy w' row) (hne : some b ≠ row) : Rd w' b s p err bad := by
  unfold Rd; rw [hg.block b h.lt hne]; exact h

theorem own_ne {w : World} {B b : Nat} {v : Value} {l : List ByteArray} (h : Strs w B v l) (hb : b < B) : some b ≠ v.ownBlock := by
  intro e
  have := (World.ownsRow.lt h b e.symm).1
  omega

theorem own_step {w w2 w3 : World} {b : Nat} {v : Value} {l : List ByteArray} {o : Obj} (hg : w.grownBy w2 (some b)) (ho : Strs w2 w.heap.size v l) (h4 : (w2.alloc o).grownBy w3 v.ownBlock) : w.grownBy w3 (some b) := by
  have h3 : w.grownBy (w2.alloc o) (some b) := hg.trans (World.grownBy_alloc _ _ _)
  exact h3.andThen h4 (fun j hj => .inl (World.ownsRow.lt ho j hj).1)

def TextsRel (w : World) (b : Nat) (s : ByteArray) (most : Int) (n : Nat) (t0 : St) (v c : Value) (wr : World) : Prop :=
  ∃ (k : Nat) (acc : List ByteArray) (t : St), k ≤ n ∧ acc.length = k ∧ c = .int .u32 k ∧ Strs wr w.heap.size v acc ∧ RdAt wr b s t ∧ t.p ≤ s.size ∧ w.grownBy wr (some b) ∧ textsGo s most n [] t0 = textsGo s most (n - k) acc t

set_option maxHeartbeats 400000 in
theorem texts_ok (w : World) (b : Nat) (s : ByteArray) (p n : Nat) (bad count most : Int) (h : Rd w b s p 0 bad) (hp : p + 4 ≤ s.size) (hs : s.size ≤ 4611686018427387904) (hn : numF s 4 ⟨p, 0, bad⟩ = (n, ⟨p + 4, 0, bad⟩)) (hlt : n < 4294967296) (hm : ¬ count < n) :
    Calls Try.prog 20 #[.pointer (some ⟨b, 0, none⟩), .int .i64 count, .int .i64 most] w fun e w' => ∃ v, e = .returned v ∧ Strs w' w.heap.size v (textsGo s most n [] ⟨p + 4, 0, bad⟩).1 ∧ RdAt w' b s (textsGo s most n [] ⟨p + 4, 0, bad⟩).2 ∧ w.grownBy w' (some b) := by
  obtain ⟨i0, hi, hz0, hz1, hz2⟩ := info_parts Try.info9
  have hblt := h.lt
  have HQ := Lib.hid hn; clear hn
  go_enter Try.func20, Try.ntmps20
  go_wp2_with fail
  refine (head_ok _ _ _ _ _ _ _ h (by omega) hs HQ.out hlt (by omega)).mono ?_
  rintro e w1 ⟨rfl, h1, hg⟩
  have H1 := Lib.hid h1; clear h1
  have HG := Lib.hid hg; clear hg
  go_wp2_with fail
  go_loopw [10, 21] (fun s10 s21 wr => TextsRel w b s most n ⟨p + 4, 0, bad⟩ s10 s21 wr) (fun _ s21 _ => (n - intOf s21).toNat)
  case atStart => exact ⟨0, [], ⟨p + 4, 0, bad⟩, Nat.zero_le _, rfl, rfl, Strs.nil _ _, H1.out, hp, HG.out, rfl⟩
  case round =>
    obtain ⟨k, acc, t, hk, hacc, rfl, hown, hr, htp, hgr, heq⟩ := hrel
    have HO := Lib.hid hown; clear hown
    have HG2 := Lib.hid hgr; clear hgr
    have HE := Lib.hid heq; clear heq
    have HA := Lib.hid hacc; clear hacc
    have hbl : b < wr.heap.size := Nat.lt_of_lt_of_le hblt HG2.out.size
    have hsz := HG2.out.size
    by_cases hlt2 : k < n
    · have htr := text_rd wr b s t most hr htp hs
      have htp2 := textF_place s most t htp
      obtain ⟨r, hr2⟩ : ∃ r, r = textF s most t := ⟨_, rfl⟩
      rw [← hr2] at htr htp2
      have HR2 := Lib.hid hr2; clear hr2
      have HT := Lib.hid htr; clear htr
      have HP2 := Lib.hid htp2; clear htp2
      obtain ⟨x, q, er, bd⟩ := r
      by_cases he : er = 0
      · subst he
        go_wp2_with fail
        refine HT.out.mono ?_
        rintro e w2 ⟨rfl, h2, hg2⟩
        have hown2 := Strs.keep HO.out hg2 hblt
        have hsz2 := hg2.size
        have H2 : Hid (Rd w2 b s q 0 bd) := Lib.hid h2; clear h2
        have HG3 := Lib.hid hg2; clear hg2
        have HO2 := Lib.hid hown2; clear hown2
        go_wp2_with (at_builtin; refine wpList_append_own _ rfl _ _ 38 rfl w.heap.size 9 i0 (.string ⟨#[]⟩) 1 16 Try.underlying38 hi hz0 hz1 hz2 rfl (by decide) _ _ _ rfl (World.ownsRow.alloc HO2.out _) ⟨w2.heap.size, 0, none⟩ 1 1 [.string x] rfl rfl ?_ ?_ ?_ ?_ ?_ ?_)
        · exact one_cell _ _ _
        · exact one_str _
        · rw [HA.out]; unfold maxLen; omega
        · rw [HA.out]; omega
        · have := HG3.out.size; simp; omega
        intro v' w3 hown3 hgrow3 _
        have hr3 : Rd w3 b s q 0 bd := (H2.out.alloc _).keep hgrow3 (own_ne HO2.out hblt)
        have HO3 : Hid (Strs w3 w.heap.size v' (acc ++ [x])) := by
          have h0 : Strs w3 w.heap.size v' (acc ++ [x]) := by unfold Strs; simpa using hown3
          exact Lib.hid h0
        have HG4 : Hid (w.grownBy w3 (some b)) := Lib.hid (own_step (HG2.out.trans HG3.out) HO2.out hgrow3)
        clear hown3 hgrow3
        go_wp2_with fail
        refine (whole_yes _ _ _ _ _ hr3).mono ?_
        rintro e w4 ⟨rfl, rfl⟩
        have HR3 := Lib.hid hr3; clear hr3
        go_wp2_with fail
        go_roundw
        case rel =>
          refine ⟨k + 1, acc ++ [x], ⟨q, 0, bd⟩, by omega, by simp [HA.out], by go_num, HO3.out, HR3.out, HP2.out, HG4.out, ?_⟩
          rw [HE.out, show n - k = (n - (k + 1)) + 1 from by omega, textsGo, ← HR2.out]
          simp
        case measure => simp [intOf]; omega
      · have hebq : (er == 0) = false := beq_eq_false_iff_ne.2 he
        have HEQ : Hid (textsGo s most n [] ⟨p + 4, 0, bad⟩ = ([], ⟨q, er, bd⟩)) := by
          have h0 : textsGo s most n [] ⟨p + 4, 0, bad⟩ = ([], ⟨q, er, bd⟩) := by
            rw [HE.out, show n - k = (n - (k + 1)) + 1 from by omega, textsGo, ← HR2.out]
            simp [he]
          exact Lib.hid h0
        clear he
        go_wp2_with fail
        refine HT.out.mono ?_
        rintro e w2 ⟨rfl, h2, hg2⟩
        have hown2 := Strs.keep HO.out hg2 hblt
        have hsz2 := hg2.size
        have H2 : Hid (Rd w2 b s q er bd) := Lib.hid h2; clear h2
        have HG3 := Lib.hid hg2; clear hg2
        have HO2 := Lib.hid hown2; clear hown2
        go_wp2_with (at_builtin; refine wpList_append_own _ rfl _ _ 38 rfl w.heap.size 9 i0 (.string ⟨#[]⟩) 1 16 Try.underlying38 hi hz0 hz1 hz2 rfl (by decide) _ _ _ rfl (World.ownsRow.alloc HO2.out _) ⟨w2.heap.size, 0, none⟩ 1 1 [.string x] rfl rfl ?_ ?_ ?_ ?_ ?_ ?_)
        · exact one_cell _ _ _
        · exact one_str _
        · rw [HA.out]; unfold maxLen; omega
        · rw [HA.out]; omega
        · have := HG3.out.size; simp; omega
        intro v' w3 _ hgrow3 _
        have hr3 : Rd w3 b s q er bd := (H2.out.alloc _).keep hgrow3 (own_ne HO2.out hblt)
        have HG4 : Hid (w.grownBy w3 (some b)) := Lib.hid (own_step (HG2.out.trans HG3.out) HO2.out hgrow3)
        clear hgrow3
        go_wp2_with fail
        refine (whole_no _ _ _ _ _ _ hr3 hebq).mono ?_
        rintro e w4 ⟨rfl, rfl⟩
        go_wp2_with fail
        go_ret
        refine ⟨_, rfl, ?_, ?_, HG4.out⟩
        · rw [HEQ.out]; exact Strs.nil _ _
        · rw [HEQ.out]; exact hr3
    · go_wp2_with fail
      go_ret
      obtain rfl : k = n := by omega
      have he := HE.out
      simp only [Nat.sub_self, textsGo] at he
      refine ⟨_, rfl, ?_, ?_, HG2.out⟩
      · rw [he]; exact HO.out
      · rw [he]; exact hr

set_option maxHeartbeats 400000 in
theorem texts_err (w : World) (b : Nat) (s : ByteArray) (p err bad count most : Int) (h : Rd w b s p err bad) (he : (err == 0) = false) :
    Calls Try.prog 20 #[.pointer (some ⟨b, 0, none⟩), .int .i64 count, .int .i64 most] w fun e w' => e = .returned (.slice none 0 0) ∧ w = w' := by
  go_enter Try.func20, Try.ntmps20
  go_wp2_with fail
  refine (head_err _ _ _ _ _ _ _ h he).mono ?_
  rintro e w1 ⟨rfl, rfl⟩
  go_wp2_with fail
  go_ret
  exact ⟨rfl, rfl⟩

set_option maxHeartbeats 400000 in
theorem texts_short (w : World) (b : Nat) (s : ByteArray) (p : Nat) (bad count most : Int) (h : Rd w b s p 0 bad) (hp : p ≤ s.size) (hs : s.size ≤ 4611686018427387904) (hl : s.size - p < 4) :
    Calls Try.prog 20 #[.pointer (some ⟨b, 0, none⟩), .int .i64 count, .int .i64 most] w fun e w' => e = .returned (.slice none 0 0) ∧ Rd w' b s p 7 p ∧ w.grownBy w' (some b) := by
  go_enter Try.func20, Try.ntmps20
  go_wp2_with fail
  refine (head_short _ _ _ _ _ _ h hp hs hl).mono ?_
  rintro e w1 ⟨rfl, h1, hg⟩
  go_wp2_with fail
  go_ret
  exact ⟨rfl, h1, hg⟩

set_option maxHeartbeats 400000 in
theorem texts_long (w : World) (b : Nat) (s : ByteArray) (p n : Nat) (bad count most : Int) (h : Rd w b s p 0 bad) (hp : p ≤ s.size) (hs : s.size ≤ 4611686018427387904) (hn : numF s 4 ⟨p, 0, bad⟩ = (n, ⟨p + 4, 0, bad⟩)) (hlt : n < 4294967296) (hm : count < n) :
    Calls Try.prog 20 #[.pointer (some ⟨b, 0, none⟩), .int .i64 count, .int .i64 most] w fun e w' => e = .returned (.slice none 0 0) ∧ Rd w' b s (p + 4 : Nat) 3 p ∧ w.grownBy w' (some b) := by
  have HQ := Lib.hid hn; clear hn
  go_enter Try.func20, Try.ntmps20
  go_wp2_with fail
  refine (head_long _ _ _ _ _ _ _ h hp hs HQ.out hlt hm).mono ?_
  rintro e w1 ⟨rfl, h1, hg⟩
  go_wp2_with fail
  go_ret
  exact ⟨rfl, h1, hg⟩

/-- The next texts: what they are, where the reader stands behind them. -/
theorem texts_rd (w : World) (b : Nat) (s : ByteArray) (t : St) (count most : Int) (h : RdAt w b s t) (hp : t.p ≤ s.size) (hs : s.size ≤ 4611686018427387904) :
    Calls Try.prog 20 #[.pointer (some ⟨b, 0, none⟩), .int .i64 count, .int .i64 most] w fun e w' => ∃ v, e = .returned v ∧ Strs w' w.heap.size v (textsF s count most t).1 ∧ RdAt w' b s (textsF s count most t).2 ∧ w.grownBy w' (some b) := by
  obtain ⟨p, err, bad⟩ := t
  simp only at hp
  by_cases he : err = 0
  · subst he
    by_cases hl : s.size - p < 4
    · have e : textsF s count most ⟨p, 0, bad⟩ = ([], ⟨p, 7, p⟩) := by simp [textsF, hl]
      rw [e]
      refine (texts_short w b s p bad count most h hp hs hl).mono ?_
      rintro e w1 ⟨rfl, h1, hg⟩
      exact ⟨_, rfl, Strs.nil _ _, h1, hg⟩
    · obtain ⟨n, hn1, hn, hlt⟩ := numF4 (s := s) (p := p) (bad := bad) hl
      by_cases hm : count < n
      · have e : textsF s count most ⟨p, 0, bad⟩ = ([], ⟨p + 4, 3, p⟩) := by simp [textsF, hl, ← hn1, hm]
        rw [e]
        refine (texts_long w b s p n bad count most h hp hs hn hlt hm).mono ?_
        rintro e w1 ⟨rfl, h1, hg⟩
        exact ⟨_, rfl, Strs.nil _ _, h1, hg⟩
      · have e : textsF s count most ⟨p, 0, bad⟩ = textsGo s most n [] ⟨p + 4, 0, bad⟩ := by simp [textsF, hl, ← hn1, hm]
        rw [e]
        exact texts_ok w b s p n bad count most h (by omega) hs hn hlt hm
  · have e : textsF s count most ⟨p, err, bad⟩ = ([], ⟨p, err, bad⟩) := by simp [textsF, he]
    rw [e]
    refine (texts_err w b s p err bad count most h (beq_eq_false_iff_ne.2 he)).mono ?_
    rintro e w1 ⟨rfl, rfl⟩
    exact ⟨_, rfl, Strs.nil _ _, h, World.grownBy.refl _ _⟩

theorem textsGo_place (s : ByteArray) (most : Int) : ∀ (n : Nat) (acc : List ByteArray) (t : St), t.p ≤ s.size → (textsGo s most n acc t).2.p ≤ s.size
  | 0, _, _, h => h
  | n + 1, acc, t, h => by
    unfold textsGo
    split
    · exact textF_place s most t h
    · exact textsGo_place s most n _ _ (textF_place s most t h)

theorem textsF_place (s : ByteArray) (count most : Int) (t : St) (hp : t.p ≤ s.size) : (textsF s count most t).2.p ≤ s.size := by
  unfold textsF
  split
  · exact hp
  · split
    · exact hp
    · split
      · simp only; omega
      · exact textsGo_place _ _ _ _ _ (by simp only; omega)

end Go.Proofs.Ytdcofbkmflemfaa
