/- Fences are in order. -/
import Derived.Test.YtpjnjdplgigmpaaWo
namespace Go.Proofs.Ytpjnjdplgigmpaa
open Go.RowKit Abs

def fenceC (t e : Int) : List AV := [.int .i64 t, .int .i64 e]
theorem fence_one (t e : Int) : (fenceC t e).all AV.one = true := rfl
def aboveB (a b c e : Int) : Bool := decide (a > c ∨ (a = c ∧ b > e))
theorem above_w (n d : Nat) (a b c e : Int) (h : AHeap) : world n (d + 1) 13 [.agg (fenceC a b), .agg (fenceC c e)] h = some (.ret (.bool (aboveB a b c e)), h) := by
  rw [w_message_Above]
  unfold message_Above
  rw [box_agg (fence_one _ _), outK_val, box_agg (fence_one _ _), outK_val]
  have t2 := Tch.newH [] (newH h 28 (fenceC a b)) 28 (fenceC c e)
  have r1 := (RowH.new h 28 (fenceC a b)).tch t2 (lt_newH _ _ _) (by simp)
  have r2 := RowH.new (newH h 28 (fenceC a b)) 28 (fenceC c e)
  have a0 := r1.cell' (o := 0) (v := .int .i64 a) rfl
  have a1 := r1.cell' (o := 1) (v := .int .i64 b) rfl
  have b0 := r2.cell' (o := 0) (v := .int .i64 c) rfl
  have b1 := r2.cell' (o := 1) (v := .int .i64 e) rfl
  have hab : Above h (newH (newH h 28 (fenceC a b)) 28 (fenceC c e)) := (above_new _ _ _).newH _ _
  simp only [fld_newP, obind_val, Nat.zero_add, a0, a1, b0, b1, avInt_int, lett_eq]
  by_cases hac : a = c
  · subst hac
    rw [show (a != a) = false by simp, ifB_false, show aboveB a b a e = decide (b > e) by unfold aboveB; apply decide_eq_decide.2; omega]
    exact gcR_scal hab rfl
  · rw [show (a != c) = true by simp [hac], ifB_true, show aboveB a b c e = decide (a > c) by unfold aboveB; apply decide_eq_decide.2; omega]
    exact gcR_scal hab rfl
theorem works_w (n d : Nat) (h : AHeap) : world n (d + 1) 8 [] h = some (.ret (.bool true), h) := by kernel_rfl
theorem same28 (a e b f : Int) : eqOther Try.prog 28 (.agg (fenceC a e)) (.agg (fenceC b f)) = some (decide (a = b ∧ e = f)) := by
  have h1 : eqOther Try.prog 28 (.agg (fenceC a e)) (.agg (fenceC b f)) = (match some (a == b) with
    | some true => (match some (e == f) with
      | some true => some true
      | r => r)
    | r => r) := by kernel_rfl
  rw [h1]
  by_cases hab : a = b
  · subst hab
    by_cases hef : e = f
    · subst hef; simp
    · simp [hef]
  · simp [hab]
theorem fence_of {h : AHeap} {a : AV} (hp : ArgP Try.prog h.next h 12 28 a) : ∃ t e, a = .agg (fenceC t e) := by
  obtain ⟨l, rfl, hl⟩ := hp.agg (by kernel_rfl)
  obtain ⟨l0, l1, rfl, q0, q1⟩ := hl.struct2 Try.underlying28
  obtain ⟨z0, rfl, _⟩ := q0.int Try.underlying3
  obtain ⟨z1, rfl, _⟩ := q1.int Try.underlying3
  exact ⟨z0, z1, rfl⟩
/-- the law of fences -/
theorem messageAbove_says (h : AHeap) (_ : h.ex = [53]) (xs : List AV) (hP : ArgsP Try.prog h.next h 12 [28, 28, 28] xs) : ∃ h', Says Try.prog 7 xs h (.ret (.bool true)) h' := by
  obtain ⟨_, _, rfl, hp0, hP⟩ := args_cons hP
  obtain ⟨_, _, rfl, hp1, hP⟩ := args_cons hP
  obtain ⟨_, _, rfl, hp2, hP⟩ := args_cons hP
  obtain rfl := args0 hP
  obtain ⟨a, e, rfl⟩ := fence_of hp0
  obtain ⟨b, f, rfl⟩ := fence_of hp1
  obtain ⟨c, g, rfl⟩ := fence_of hp2
  have key : ∃ h', world 10 3 7 [.agg (fenceC a e), .agg (fenceC b f), .agg (fenceC c g)] h = some (.ret (.bool true), h') := by
    rw [w_law17_MessageAbove]
    unfold law17_MessageAbove
    refine gc_ex ?_
    rw [box_agg (fence_one _ _), outK_val, box_agg (fence_one _ _), outK_val, box_agg (fence_one _ _), outK_val]
    have t2 := Tch.newH [] (newH h 28 (fenceC a e)) 28 (fenceC b f)
    have t3 := Tch.newH [] (newH (newH h 28 (fenceC a e)) 28 (fenceC b f)) 28 (fenceC c g)
    have r1 := ((RowH.new h 28 (fenceC a e)).tch t2 (lt_newH _ _ _) (by simp)).tch t3 (Nat.lt_succ_of_lt (lt_newH _ _ _)) (by simp)
    have r2 := (RowH.new (newH h 28 (fenceC a e)) 28 (fenceC b f)).tch t3 (lt_newH _ _ _) (by simp)
    have r3 := RowH.new (newH (newH h 28 (fenceC a e)) 28 (fenceC b f)) 28 (fenceC c g)
    generalize newH (newH (newH h 28 (fenceC a e)) 28 (fenceC b f)) 28 (fenceC c g) = hh at *
    generalize hq2 : newP (newH h 28 (fenceC a e)) = q2
    generalize hq3 : newP (newH (newH h 28 (fenceC a e)) 28 (fenceC b f)) = q3
    generalize hq1 : newP h = q1
    have l1 : ldRow hh 2 q1 = some (fenceC a e) := by rw [← hq1]; exact r1.ldAll (n := 2) rfl
    have l2 : ldRow hh 2 q2 = some (fenceC b f) := by rw [← hq2]; exact r2.ldAll (n := 2) rfl
    have l3 : ldRow hh 2 q3 = some (fenceC c g) := by rw [← hq3]; exact r3.ldAll (n := 2) rfl
    have k1 : reLoad Try.prog hh 28 q1 (.agg (fenceC a e)) = true := reLoad_r (by kernel_rfl) (by kernel_rfl) l1
    have k2 : reLoad Try.prog hh 28 q2 (.agg (fenceC b f)) = true := reLoad_r (by kernel_rfl) (by kernel_rfl) l2
    have f1 : ∀ o, fldP o q1 = some (.ptr h.next (0 + o)) := fun o => by rw [← hq1]; rfl
    have f2 : ∀ o, fldP o q2 = some (.ptr (newH h 28 (fenceC a e)).next (0 + o)) := fun o => by rw [← hq2]; rfl
    have d10 := r1.cell' (o := 0) (v := .int .i64 a) rfl
    have d11 := r1.cell' (o := 1) (v := .int .i64 e) rfl
    have d20 := r2.cell' (o := 0) (v := .int .i64 b) rfl
    have d21 := r2.cell' (o := 1) (v := .int .i64 f) rfl
    rw [works_w]
    simp only [callN_ret, obind_val, avBool_bool, lett_eq, Bool.not_true, ifB_false, l1, l2, l3, above_w, k1, k2, Bool.true_and, chk_true, same28, f1, f2, Nat.zero_add, d10, d11, d20, d21, avInt_int]
    have haa : aboveB a e a e = false := decide_eq_false (by omega)
    rw [haa]
    -- the rest, when a is above b
    have rest : aboveB a e b f = true → ∃ h2, (ifB (!aboveB b f c g) (some (ARes.ret (.bool true), hh)) (some (.ret (.bool (aboveB a e c g)), hh))) = some (.ret (.bool true), h2) := by
      intro hx
      cases hbc : aboveB b f c g with
      | false => exact ⟨_, rfl⟩
      | true =>
        have h1 := of_decide_eq_true hx
        have h2 := of_decide_eq_true hbc
        have hac : aboveB a e c g = true := decide_eq_true (by omega)
        rw [hac]
        exact ⟨_, rfl⟩
    rcases Int.lt_trichotomy a b with hlt | heq | hgt
    · rw [show aboveB a e b f = false from decide_eq_false (by omega), show aboveB b f a e = true from decide_eq_true (by omega), decide_eq_false (show ¬ (a = b ∧ e = f) by omega), show (a != b) = true by simp; omega, decide_eq_false (show ¬ a > b by omega)]
      exact ⟨_, rfl⟩
    · subst heq
      rw [show (a != a) = false by simp]
      rcases Int.lt_trichotomy e f with hlt | heq | hgt
      · rw [show aboveB a e a f = false from decide_eq_false (by omega), show aboveB a f a e = true from decide_eq_true (by omega), decide_eq_false (show ¬ (a = a ∧ e = f) by omega), decide_eq_false (show ¬ e > f by omega)]
        exact ⟨_, rfl⟩
      · subst heq
        rw [haa, decide_eq_true (show a = a ∧ e = e from ⟨rfl, rfl⟩), decide_eq_false (show ¬ e > e by omega)]
        exact ⟨_, rfl⟩
      · have hx : aboveB a e a f = true := decide_eq_true (by omega)
        rw [show aboveB a f a e = false from decide_eq_false (by omega), decide_eq_false (show ¬ (a = a ∧ e = f) by omega), decide_eq_true (show e > f by omega)]
        have := rest hx
        rw [hx]
        exact this
    · have hx : aboveB a e b f = true := decide_eq_true (by omega)
      rw [show aboveB b f a e = false from decide_eq_false (by omega), decide_eq_false (show ¬ (a = b ∧ e = f) by omega), show (a != b) = true by simp; omega, decide_eq_true (show a > b by omega)]
      have := rest hx
      rw [hx]
      exact this
  obtain ⟨h', hk⟩ := key
  exact ⟨h', world_ok _ _ _ _ _ _ _ hk⟩
end Go.Proofs.Ytpjnjdplgigmpaa
