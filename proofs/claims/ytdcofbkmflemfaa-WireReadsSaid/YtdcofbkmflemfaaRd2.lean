/- The contracts of the reader's calls. -/
import Derived.Test.YtdcofbkmflemfaaRd
namespace Go.Proofs.Ytdcofbkmflemfaa
open Go.RowKit

theorem numF_err (s : ByteArray) (wd : Nat) (t : St) (h : t.err ≠ 0) : numF s wd t = (0, t) := by simp [numF, h]
theorem numF_short (s : ByteArray) (wd : Nat) (t : St) (h : t.err = 0) (hl : s.size - t.p < wd) : numF s wd t = (0, ⟨t.p, 7, t.p⟩) := by simp [numF, h, hl]
theorem numF_ok (s : ByteArray) (wd : Nat) (t : St) (h : t.err = 0) (hl : ¬ s.size - t.p < wd) : (numF s wd t).2 = ⟨t.p + wd, 0, t.bad⟩ := by simp [numF, h, hl]

theorem Rd.alloc {w : World} {b : Nat} {s : ByteArray} {p err bad : Int} (h : Rd w b s p err bad) (o : Obj) : Rd (w.alloc o) b s p err bad := by
  unfold Rd; rw [Below.heap_alloc w o _ h.lt]; exact h

set_option maxHeartbeats 400000 in
theorem new_any (s : ByteArray) (w : World) :
    Calls Try.prog 13 #[.string s] w fun e w' => e = .returned (.pointer (some ⟨w.heap.size, 0, none⟩)) ∧ Rd w' w.heap.size s 0 0 0 ∧ w' = w.alloc (.cells #[.string s, .int .i64 0, .int .i64 0, .int .i64 0] 73) := by
  go_enter Try.func13, Try.ntmps13
  go_wp2
  go_ret
  exact ⟨rfl, heap_alloc_new w _, rfl⟩

set_option maxHeartbeats 400000 in
theorem fault_any (w : World) (b : Nat) (s : ByteArray) (p err bad : Int) (h : Rd w b s p err bad) :
    Calls Try.prog 17 #[.pointer (some ⟨b, 0, none⟩)] w fun e w' => e = .returned (.agg #[.int .i64 err, .int .i64 bad]) ∧ Below w.heap.size w w' := by
  have c2 := fun o => (h.alloc o).c2
  have c3 := fun o => (h.alloc o).c3
  go_enter Try.func17, Try.ntmps17
  go_wp2
  refine bodyPost_ret (v := .agg #[.int .i64 err, .int .i64 bad]) (by simp [results, Try.results17, go_sem]) rfl ⟨rfl, ?_⟩
  exact (Below.refl _ _).alloc (Nat.le_refl _) _

set_option maxHeartbeats 400000 in
theorem rest_err (w : World) (b : Nat) (s : ByteArray) (p err bad : Int) (h : Rd w b s p err bad) (he : (err == 0) = false) :
    Calls Try.prog 15 #[.pointer (some ⟨b, 0, none⟩)] w fun e w' => e = .returned (.string ⟨#[]⟩) ∧ w = w' := by
  go_enter Try.func15, Try.ntmps15
  go_wp2_with fail
  refine (whole_no _ _ _ _ _ _ h he).mono ?_
  rintro e w1 ⟨rfl, rfl⟩
  go_wp2_with fail
  go_ret
  exact ⟨rfl, rfl⟩

set_option maxHeartbeats 400000 in
theorem rest_ok (w : World) (b : Nat) (s : ByteArray) (p : Nat) (bad : Int) (h : Rd w b s p 0 bad) (hp : p ≤ s.size) :
    Calls Try.prog 15 #[.pointer (some ⟨b, 0, none⟩)] w fun e w' => e = .returned (.string (s.extract p s.size)) ∧ ∃ n, w' = w.drewN n := by
  have c0 := h.c0
  have c1 := h.c1
  go_enter Try.func15, Try.ntmps15
  go_wp2_with fail
  refine (whole_yes _ _ _ _ _ h).mono ?_
  rintro e w1 ⟨rfl, rfl⟩
  go_wp2_with fail
  go_quiet (fail)
  go_wp2_with fail
  go_ret
  exact ⟨rfl, nq, rfl⟩

theorem bcell {W w1 : World} (hb : Below W.heap.size W w1) : (∀ b o, b < W.heap.size → w1.cell? ⟨b, o, none⟩ = W.cell? ⟨b, o, none⟩) ∧ (∀ b o, b < W.heap.size → w1.frozen? ⟨b, o, none⟩ = W.frozen? ⟨b, o, none⟩) :=
  ⟨fun b o h => hb.cell (p := ⟨b, o, none⟩) h, fun b o h => hb.frozen (p := ⟨b, o, none⟩) h⟩

theorem belowDrewN {B : Nat} {a w : World} (h : Below B a w) (n : Nat) : Below B a (w.drewN n) := ⟨h.os, h.tape, h.output, h.size, h.block⟩

theorem below_drewN (w : World) (n : Nat) : Below w.heap.size w (w.drewN n) := ⟨rfl, rfl, rfl, Nat.le_refl _, fun _ _ => rfl⟩

theorem rest_rd (w : World) (b : Nat) (s : ByteArray) (t : St) (h : RdAt w b s t) (hp : t.p ≤ s.size) :
    Calls Try.prog 15 #[.pointer (some ⟨b, 0, none⟩)] w fun e w' => e = .returned (.string (restF s t)) ∧ Below w.heap.size w w' := by
  obtain ⟨p, err, bad⟩ := t
  by_cases he : err = 0
  · subst he
    refine (rest_ok w b s p bad h hp).mono ?_
    rintro e w1 ⟨rfl, n, rfl⟩
    exact ⟨by simp [restF], below_drewN _ _⟩
  · refine (rest_err w b s p err bad h (beq_eq_false_iff_ne.2 he)).mono ?_
    rintro e w1 ⟨rfl, rfl⟩
    exact ⟨by simp [restF, he], Below.refl _ _⟩

theorem fault_rd (w : World) (b : Nat) (s : ByteArray) (t : St) (h : RdAt w b s t) :
    Calls Try.prog 17 #[.pointer (some ⟨b, 0, none⟩)] w fun e w' => e = .returned (.agg #[.int .i64 t.err, .int .i64 t.bad]) ∧ Below w.heap.size w w' := fault_any w b s t.p t.err t.bad h

set_option maxHeartbeats 400000 in
theorem end_err (w : World) (b : Nat) (s : ByteArray) (p err bad : Int) (h : Rd w b s p err bad) (he : (err == 0) = false) :
    Calls Try.prog 16 #[.pointer (some ⟨b, 0, none⟩)] w fun e w' => e = .returned (.agg #[.int .i64 err, .int .i64 bad]) ∧ Below w.heap.size w w' := by
  have h1 := fun o => h.alloc o
  have H1 := Lib.hid h1; clear h1
  go_enter Try.func16, Try.ntmps16
  go_wp2_with fail
  go_quiet ((go_at_call 40; refine Calls.quiet_of_same ((whole_no _ _ _ _ _ _ ((H1.out _).drewN _) he).mono fun _ _ ⟨x, y⟩ => ⟨x, y.symm⟩)))
  go_wp2_with fail
  refine (fault_any _ _ _ _ _ _ ((H1.out _).drewN _)).mono ?_
  rintro e w2 ⟨rfl, hb⟩
  obtain ⟨hc, hf⟩ := bcell hb
  have HB := Lib.hid hb; clear hb
  go_wp2_with fail
  refine bodyPost_ret (v := .agg #[.int .i64 err, .int .i64 bad]) (by simp [results, Try.results16, go_sem, hc]) rfl ⟨rfl, ?_⟩
  exact (((belowDrewN ((Below.refl w.heap.size w).alloc (Nat.le_refl _) _) nq).trans (HB.out.mono (by simp))).setCell (Nat.le_refl _) _).setCell (Nat.le_refl _) _

set_option maxHeartbeats 400000 in
theorem end_done (w : World) (b : Nat) (s : ByteArray) (p : Nat) (bad : Int) (h : Rd w b s p 0 bad) (hp : ¬ p < s.size) :
    Calls Try.prog 16 #[.pointer (some ⟨b, 0, none⟩)] w fun e w' => e = .returned (.agg #[.int .i64 0, .int .i64 bad]) ∧ Below w.heap.size w w' := by
  have h1 := fun o => h.alloc o
  have c0 := fun o => (h.alloc o).c0
  have c1 := fun o => (h.alloc o).c1
  have H1 := Lib.hid h1; clear h1
  go_enter Try.func16, Try.ntmps16
  go_wp2_with fail
  go_quiet ((go_at_call 40; refine Calls.quiet_of_same ((whole_yes _ _ _ _ _ ((H1.out _).drewN _)).mono fun _ _ ⟨x, y⟩ => ⟨x, y.symm⟩)))
  go_wp2_with fail
  refine (fault_any _ _ _ _ _ _ ((H1.out _).drewN _)).mono ?_
  rintro e w2 ⟨rfl, hb⟩
  obtain ⟨hc, hf⟩ := bcell hb
  have HB := Lib.hid hb; clear hb
  go_wp2_with fail
  refine bodyPost_ret (v := .agg #[.int .i64 0, .int .i64 bad]) (by simp [results, Try.results16, go_sem, hc]) rfl ⟨rfl, ?_⟩
  exact (((belowDrewN ((Below.refl w.heap.size w).alloc (Nat.le_refl _) _) nq).trans (HB.out.mono (by simp))).setCell (Nat.le_refl _) _).setCell (Nat.le_refl _) _

set_option maxHeartbeats 400000 in
theorem end_more (w : World) (b : Nat) (s : ByteArray) (p : Nat) (bad : Int) (h : Rd w b s p 0 bad) (hp : p < s.size) :
    Calls Try.prog 16 #[.pointer (some ⟨b, 0, none⟩)] w fun e w' => e = .returned (.agg #[.int .i64 7, .int .i64 p]) ∧ Below w.heap.size w w' := by
  have h1 := fun o => h.alloc o
  have c0 := fun o => (h.alloc o).c0
  have c1 := fun o => (h.alloc o).c1
  have H1 := Lib.hid h1; clear h1
  go_enter Try.func16, Try.ntmps16
  go_wp2_with fail
  go_quiet ((go_at_call 40; refine Calls.quiet_of_same ((whole_yes _ _ _ _ _ ((H1.out _).drewN _)).mono fun _ _ ⟨x, y⟩ => ⟨x, y.symm⟩)))
  go_wp2_with fail
  refine bodyPost_ret (v := .agg #[.int .i64 7, .int .i64 p]) (by simp [results, Try.results16, go_sem]) rfl ⟨rfl, ?_⟩
  exact ((belowDrewN ((Below.refl _ _).alloc (Nat.le_refl _) _) nq).setCell (Nat.le_refl _) _).setCell (Nat.le_refl _) _

theorem end_rd (w : World) (b : Nat) (s : ByteArray) (t : St) (h : RdAt w b s t) :
    Calls Try.prog 16 #[.pointer (some ⟨b, 0, none⟩)] w fun e w' => e = .returned (.agg #[.int .i64 (endF s t).1, .int .i64 (endF s t).2]) ∧ Below w.heap.size w w' := by
  obtain ⟨p, err, bad⟩ := t
  by_cases he : err = 0
  · subst he
    by_cases hl : p < s.size
    · have e : endF s ⟨p, 0, bad⟩ = (7, (p : Int)) := by simp [endF, hl]
      rw [e]
      exact end_more w b s p bad h hl
    · have e : endF s ⟨p, 0, bad⟩ = (0, bad) := by simp [endF, hl]
      rw [e]
      exact end_done w b s p bad h hl
  · have e : endF s ⟨p, err, bad⟩ = (err, bad) := by simp [endF, he]
    rw [e]
    exact end_err w b s p err bad h (beq_eq_false_iff_ne.2 he)

/-! The calls on a reader that is none. -/
set_option maxHeartbeats 400000 in
theorem number_nil (wd : Int) (w : World) : Calls Try.prog 41 #[.pointer none, .int .i64 wd] w fun e w' => e = .returned (.int .u64 0) ∧ w = w' := by
  go_enter Try.func41, Try.ntmps41
  go_wp2_with fail
  refine (whole_nil _).mono ?_
  rintro e w1 ⟨rfl, rfl⟩
  go_wp2_with fail
  go_ret
  exact ⟨rfl, rfl⟩

set_option maxHeartbeats 400000 in
theorem u8_nil (w : World) : Calls Try.prog 18 #[.pointer none] w fun e w' => e = .returned (.int .u8 0) ∧ w = w' := by
  go_enter Try.func18, Try.ntmps18
  go_wp2_with fail
  refine (number_nil _ _).mono ?_
  rintro e w1 ⟨rfl, rfl⟩
  go_wp2_with fail
  go_ret
  exact ⟨rfl, rfl⟩

set_option maxHeartbeats 400000 in
theorem u32_nil (w : World) : Calls Try.prog 22 #[.pointer none] w fun e w' => e = .returned (.int .u32 0) ∧ w = w' := by
  go_enter Try.func22, Try.ntmps22
  go_wp2_with fail
  refine (number_nil _ _).mono ?_
  rintro e w1 ⟨rfl, rfl⟩
  go_wp2_with fail
  go_ret
  exact ⟨rfl, rfl⟩

set_option maxHeartbeats 400000 in
theorem u64_nil (w : World) : Calls Try.prog 23 #[.pointer none] w fun e w' => e = .returned (.int .u64 0) ∧ w = w' := by
  go_enter Try.func23, Try.ntmps23
  go_wp2_with fail
  refine (number_nil _ _).mono ?_
  rintro e w1 ⟨rfl, rfl⟩
  go_wp2_with fail
  go_ret
  exact ⟨rfl, rfl⟩

set_option maxHeartbeats 400000 in
theorem bool_nil (w : World) : Calls Try.prog 19 #[.pointer none] w fun e w' => e = .returned (.bool false) ∧ w = w' := by
  go_enter Try.func19, Try.ntmps19
  go_wp2_with fail
  refine (u8_nil _).mono ?_
  rintro e w1 ⟨rfl, rfl⟩
  go_wp2_with fail
  go_ret
  exact ⟨rfl, rfl⟩

set_option maxHeartbeats 400000 in
theorem head_nil (most : Int) (w : World) : Calls Try.prog 38 #[.pointer none, .int .i64 most] w fun e w' => e = .returned (.tuple #[.int .u32 0, .int .i64 0, .bool false]) ∧ w = w' := by
  go_enter Try.func38, Try.ntmps38
  go_wp2_with fail
  refine (whole_nil _).mono ?_
  rintro e w1 ⟨rfl, rfl⟩
  go_wp2_with fail
  go_ret3
  exact ⟨rfl, rfl⟩

set_option maxHeartbeats 400000 in
theorem text_nil (most : Int) (w : World) : Calls Try.prog 14 #[.pointer none, .int .i64 most] w fun e w' => e = .returned (.string ⟨#[]⟩) ∧ w = w' := by
  go_enter Try.func14, Try.ntmps14
  go_wp2_with fail
  refine (head_nil _ _).mono ?_
  rintro e w1 ⟨rfl, rfl⟩
  go_wp2_with fail
  go_ret
  exact ⟨rfl, rfl⟩

set_option maxHeartbeats 400000 in
theorem texts_nil (count most : Int) (w : World) : Calls Try.prog 20 #[.pointer none, .int .i64 count, .int .i64 most] w fun e w' => e = .returned (.slice none 0 0) ∧ w = w' := by
  go_enter Try.func20, Try.ntmps20
  go_wp2_with fail
  refine (head_nil _ _).mono ?_
  rintro e w1 ⟨rfl, rfl⟩
  go_wp2_with fail
  go_ret
  exact ⟨rfl, rfl⟩

set_option maxHeartbeats 400000 in
theorem rest_nil (w : World) : Calls Try.prog 15 #[.pointer none] w fun e w' => e = .returned (.string ⟨#[]⟩) ∧ w = w' := by
  go_enter Try.func15, Try.ntmps15
  go_wp2_with fail
  refine (whole_nil _).mono ?_
  rintro e w1 ⟨rfl, rfl⟩
  go_wp2_with fail
  go_ret
  exact ⟨rfl, rfl⟩

set_option maxHeartbeats 400000 in
theorem fault_nil (w : World) : Calls Try.prog 17 #[.pointer none] w fun e w' => e = .returned (.agg #[.int .i64 1, .int .i64 0]) ∧ Below w.heap.size w w' := by
  go_enter Try.func17, Try.ntmps17
  go_wp2
  refine bodyPost_ret (v := .agg #[.int .i64 1, .int .i64 0]) (by simp [results, Try.results17, go_sem]) rfl ⟨rfl, ?_⟩
  exact (Below.refl _ _).alloc (Nat.le_refl _) _

set_option maxHeartbeats 400000 in
theorem end_nil (w : World) : Calls Try.prog 16 #[.pointer none] w fun e w' => e = .returned (.agg #[.int .i64 1, .int .i64 0]) ∧ Below w.heap.size w w' := by
  go_enter Try.func16, Try.ntmps16
  go_wp2_with fail
  go_quiet ((go_at_call 40; refine Calls.quiet_of_same ((whole_nil _).mono fun _ _ ⟨x, y⟩ => ⟨x, y.symm⟩)))
  go_wp2_with fail
  refine (fault_nil _).mono ?_
  rintro e w2 ⟨rfl, hb⟩
  obtain ⟨hc, hf⟩ := bcell hb
  have HB := Lib.hid hb; clear hb
  go_wp2_with fail
  refine bodyPost_ret (v := .agg #[.int .i64 1, .int .i64 0]) (by simp [results, Try.results16, go_sem, hc]) rfl ⟨rfl, ?_⟩
  exact (((belowDrewN ((Below.refl w.heap.size w).alloc (Nat.le_refl _) _) nq).trans (HB.out.mono (by simp))).setCell (Nat.le_refl _) _).setCell (Nat.le_refl _) _

end Go.Proofs.Ytdcofbkmflemfaa
