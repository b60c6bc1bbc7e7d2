/- A message's numbers: where they stand, whether they are right. -/
import Derived.Test.YtmibgiblejpgdaaWw
namespace Go.Proofs.Ytmibgiblejpgdaa
open Go.RowKit Abs

theorem lett_gen {α : Type} {F : α} {G : α → R} {r : R} (h : ∀ k, k = F → G k = r) : lett F G = r := h F rfl
/-- a message, its entries aside -/
structure Ms where
  kind : Int
  nums : Fin 15 → Int
  good : Bool
  ents : AV
  data : Bytes
  op : Int
  err : Int
  leader : Int
noncomputable def Ms.cells (m : Ms) : List AV := [.int .u8 m.kind, .int .i64 (m.nums 0), .int .i64 (m.nums 1), .int .i64 (m.nums 2), .int .i64 (m.nums 3), .int .i64 (m.nums 4), .int .i64 (m.nums 5), .int .i64 (m.nums 6), .bool m.good, m.ents, .int .i64 (m.nums 7), .int .i64 (m.nums 8), strA m.data, .int .i64 (m.nums 9), .int .i64 (m.nums 10), .int .i64 (m.nums 11), .int .i64 (m.nums 12), .int .i64 (m.nums 13), .int .i64 (m.nums 14), .int .u8 m.op, .int .i64 m.err, .int .i64 m.leader]
def numsP (b : Nat) : List AV := [.ptr b 1, .ptr b 2, .ptr b 3, .ptr b 4, .ptr b 5, .ptr b 6, .ptr b 7, .ptr b 10, .ptr b 11, .ptr b 13, .ptr b 14, .ptr b 15, .ptr b 16, .ptr b 17, .ptr b 18]
def numAt : Fin 15 → Nat := fun i => [1, 2, 3, 4, 5, 6, 7, 10, 11, 13, 14, 15, 16, 17, 18][i.val]'(by have := i.isLt; simp)
theorem nix0 (h : AHeap) (b : Nat) : opIndex Try.prog h 62 (some (.agg (numsP b))) (some (.int .i64 ((0 : Nat) : Int))) = some (.val (.ptr b 1), h) := by kernel_rfl
theorem nix1 (h : AHeap) (b : Nat) : opIndex Try.prog h 62 (some (.agg (numsP b))) (some (.int .i64 ((1 : Nat) : Int))) = some (.val (.ptr b 2), h) := by kernel_rfl
theorem nix2 (h : AHeap) (b : Nat) : opIndex Try.prog h 62 (some (.agg (numsP b))) (some (.int .i64 ((2 : Nat) : Int))) = some (.val (.ptr b 3), h) := by kernel_rfl
theorem nix3 (h : AHeap) (b : Nat) : opIndex Try.prog h 62 (some (.agg (numsP b))) (some (.int .i64 ((3 : Nat) : Int))) = some (.val (.ptr b 4), h) := by kernel_rfl
theorem nix4 (h : AHeap) (b : Nat) : opIndex Try.prog h 62 (some (.agg (numsP b))) (some (.int .i64 ((4 : Nat) : Int))) = some (.val (.ptr b 5), h) := by kernel_rfl
theorem nix5 (h : AHeap) (b : Nat) : opIndex Try.prog h 62 (some (.agg (numsP b))) (some (.int .i64 ((5 : Nat) : Int))) = some (.val (.ptr b 6), h) := by kernel_rfl
theorem nix6 (h : AHeap) (b : Nat) : opIndex Try.prog h 62 (some (.agg (numsP b))) (some (.int .i64 ((6 : Nat) : Int))) = some (.val (.ptr b 7), h) := by kernel_rfl
theorem nix7 (h : AHeap) (b : Nat) : opIndex Try.prog h 62 (some (.agg (numsP b))) (some (.int .i64 ((7 : Nat) : Int))) = some (.val (.ptr b 10), h) := by kernel_rfl
theorem nix8 (h : AHeap) (b : Nat) : opIndex Try.prog h 62 (some (.agg (numsP b))) (some (.int .i64 ((8 : Nat) : Int))) = some (.val (.ptr b 11), h) := by kernel_rfl
theorem nix9 (h : AHeap) (b : Nat) : opIndex Try.prog h 62 (some (.agg (numsP b))) (some (.int .i64 ((9 : Nat) : Int))) = some (.val (.ptr b 13), h) := by kernel_rfl
theorem nix10 (h : AHeap) (b : Nat) : opIndex Try.prog h 62 (some (.agg (numsP b))) (some (.int .i64 ((10 : Nat) : Int))) = some (.val (.ptr b 14), h) := by kernel_rfl
theorem nix11 (h : AHeap) (b : Nat) : opIndex Try.prog h 62 (some (.agg (numsP b))) (some (.int .i64 ((11 : Nat) : Int))) = some (.val (.ptr b 15), h) := by kernel_rfl
theorem nix12 (h : AHeap) (b : Nat) : opIndex Try.prog h 62 (some (.agg (numsP b))) (some (.int .i64 ((12 : Nat) : Int))) = some (.val (.ptr b 16), h) := by kernel_rfl
theorem nix13 (h : AHeap) (b : Nat) : opIndex Try.prog h 62 (some (.agg (numsP b))) (some (.int .i64 ((13 : Nat) : Int))) = some (.val (.ptr b 17), h) := by kernel_rfl
theorem nix14 (h : AHeap) (b : Nat) : opIndex Try.prog h 62 (some (.agg (numsP b))) (some (.int .i64 ((14 : Nat) : Int))) = some (.val (.ptr b 18), h) := by kernel_rfl
theorem nix (h : AHeap) (b : Nat) : ∀ i : Fin 15, opIndex Try.prog h 62 (some (.agg (numsP b))) (some (.int .i64 ((i.val : Nat) : Int))) = some (.val (.ptr b (numAt i)), h)
  | ⟨0, _⟩ => nix0 h b
  | ⟨1, _⟩ => nix1 h b
  | ⟨2, _⟩ => nix2 h b
  | ⟨3, _⟩ => nix3 h b
  | ⟨4, _⟩ => nix4 h b
  | ⟨5, _⟩ => nix5 h b
  | ⟨6, _⟩ => nix6 h b
  | ⟨7, _⟩ => nix7 h b
  | ⟨8, _⟩ => nix8 h b
  | ⟨9, _⟩ => nix9 h b
  | ⟨10, _⟩ => nix10 h b
  | ⟨11, _⟩ => nix11 h b
  | ⟨12, _⟩ => nix12 h b
  | ⟨13, _⟩ => nix13 h b
  | ⟨14, _⟩ => nix14 h b
theorem numCell (m : Ms) : ∀ i : Fin 15, m.cells[numAt i]? = some (.int .i64 (m.nums i))
  | ⟨0, _⟩ => rfl
  | ⟨1, _⟩ => rfl
  | ⟨2, _⟩ => rfl
  | ⟨3, _⟩ => rfl
  | ⟨4, _⟩ => rfl
  | ⟨5, _⟩ => rfl
  | ⟨6, _⟩ => rfl
  | ⟨7, _⟩ => rfl
  | ⟨8, _⟩ => rfl
  | ⟨9, _⟩ => rfl
  | ⟨10, _⟩ => rfl
  | ⟨11, _⟩ => rfl
  | ⟨12, _⟩ => rfl
  | ⟨13, _⟩ => rfl
  | ⟨14, _⟩ => rfl
theorem bld62 (b : Nat) : bldS Try.prog 62 [(0, .ptr b 1), (1, .ptr b 2), (2, .ptr b 3), (3, .ptr b 4), (4, .ptr b 5), (5, .ptr b 6), (6, .ptr b 7), (7, .ptr b 10), (8, .ptr b 11), (9, .ptr b 13), (10, .ptr b 14), (11, .ptr b 15), (12, .ptr b 16), (13, .ptr b 17), (14, .ptr b 18)] = some (numsP b) := by kernel_rfl
theorem fldP_p (f b o : Nat) : fldP f (.ptr b o) = some (.ptr b (o + f)) := rfl
theorem nilC_p (b o : Nat) : nilC (.ptr b o) = some (.ptr b o) := rfl
section
variable {n d b : Nat} {h : AHeap}
theorem numbers_w : ∃ h', world n (d + 1) 23 [.ptr b 0] h = some (.ret (.agg (numsP b)), h') ∧ Tch [] h h' := by
  have r0 := RowH.new h 62 [.nilp, .nilp, .nilp, .nilp, .nilp, .nilp, .nilp, .nilp, .nilp, .nilp, .nilp, .nilp, .nilp, .nilp, .nilp]
  have t0 : Tch [] h (newH h 62 [.nilp, .nilp, .nilp, .nilp, .nilp, .nilp, .nilp, .nilp, .nilp, .nilp, .nilp, .nilp, .nilp, .nilp, .nilp]) := Tch.newH _ _ _ _
  obtain ⟨h', a1, a2, a3, a4, a5⟩ := r0.stAll (n := 15) (vs := numsP b) rfl rfl rfl
  have l2 := a2.ldAll (n := 15) rfl
  refine ⟨h', ?_, t0.trans' (tch_of (S := [h.next]) a3 a4 a5 (.inl (by simp))) (by intro i hi; simp at hi; subst hi; exact .inr (Nat.le_refl _))⟩
  have eP : newP h = .ptr h.next 0 := rfl
  rw [w_message_numbers]
  unfold message_numbers
  rw [lett_eq]
  simp only [nilC_p, fldP_p, Nat.zero_add, Nat.add_zero, Nat.reduceAdd, obind_val, bld62, eP, a1, l2]
/-- the most that a number may be -/
def mostOf (i : Nat) : Int := if i < 2 then 15 else 1125899906842624
def right (m : Ms) : Prop := ∀ i : Fin 15, 0 ≤ m.nums i ∧ m.nums i ≤ mostOf i.val
theorem within_w (x y : Int) : world n (d + 1) 32 [.int .i64 x, .int .i64 y] h = some (.ret (.bool (decide (0 ≤ x ∧ x ≤ y))), h) := by
  rw [w_message_within]
  unfold message_within
  refine (congrArg (gcR h) ?_).trans gcR_self
  rw [lett_eq]
  refine lett_gen fun j hj => ?_
  by_cases h1 : 0 ≤ x
  · rw [decide_eq_true (show x ≥ 0 from h1), ifB_true, lett_eq, hj]
    have : decide (0 ≤ x ∧ x ≤ y) = decide (x ≤ y) := by simp [h1]
    rw [this]
  · rw [decide_eq_false (show ¬ x ≥ 0 from h1), ifB_false, hj, decide_eq_false (fun h => h1 h.1)]
theorem right_loop {m : Ms} (k : RowH h b 30 m.cells) {k8 : AHeap → R} : ∀ (f i : Nat), 15 < f + i → i ≤ 15 → (∀ j : Fin 15, j.val < i → 0 ≤ m.nums j ∧ m.nums j ≤ mostOf j.val) →
    (right m → message_numbersRight_L0 (world n (d + 1)) (numsP b) k8 f (i : Int) h = k8 h) ∧ (¬ right m → message_numbersRight_L0 (world n (d + 1)) (numsP b) k8 f (i : Int) h = some (.ret (.bool false), h))
  | 0, i, h1, h2, _ => by omega
  | f + 1, i, h1, h2, hj => by
    rw [message_numbersRight_L0_s]
    unfold message_numbersRight_L0b
    rw [lett_eq]
    by_cases hi : i < 15
    · have e := nix h b ⟨i, hi⟩
      have c := k.cell' (numCell m ⟨i, hi⟩)
      have hk : ∀ (mo : Int), mo = mostOf i → (∀ k25 : Int → AHeap → R, k25 = (fun (t5 : Int) (h_26 : AHeap) => obind (nilC (.ptr b (numAt ⟨i, hi⟩))) fun t15 => obind (ldCell h_26 t15) fun v16 => obind (avInt .i64 v16) fun t16 => callN (world n (d + 1) 32 [.int .i64 t16, .int .i64 t5] h_26) fun r18 h_31 => obind (avBool r18) fun t18 => lett (!t18) fun (t19 : Bool) => ifB t19 (some (.ret (.bool false), h_31)) (lett (IntKind.i64.wrap ((i : Int) + 1)) fun (t20 : Int) => message_numbersRight_L0 (world n (d + 1)) (numsP b) k8 f t20 h_31)) →
          (right m → k25 mo h = k8 h) ∧ (¬ right m → k25 mo h = some (.ret (.bool false), h))) := by
        intro mo hmo k25 hk25
        rw [hk25]
        simp only [nilC_p, obind_val, c, avInt_int, within_w, callN_ret, avBool_bool, lett_eq]
        by_cases hr : 0 ≤ m.nums ⟨i, hi⟩ ∧ m.nums ⟨i, hi⟩ ≤ mo
        · rw [decide_eq_true hr, Bool.not_true, ifB_false, wrap_succ (by omega)]
          refine right_loop k f (i + 1) (by omega) (by omega) fun j hji => ?_
          by_cases hj2 : j.val < i
          · exact hj j hj2
          · have : j = ⟨i, hi⟩ := Fin.ext (show j.val = i by omega)
            rw [this, ← hmo]
            exact hr
        · rw [decide_eq_false hr, Bool.not_false, ifB_true]
          exact ⟨fun hR => absurd (hmo ▸ hR ⟨i, hi⟩) hr, fun _ => rfl⟩
      rw [lt_true (show (i : Int) < 15 by omega), ifB_true, e, outK_val, lett_eq]
      by_cases h3 : i < 2
      · have q := hk 15 (by unfold mostOf; rw [if_pos h3]) _ rfl
        rw [lt_true (show (i : Int) < 2 by omega)]
        exact q
      · have q := hk 1125899906842624 (by unfold mostOf; rw [if_neg h3]) _ rfl
        rw [lt_false (show (2 : Int) ≤ (i : Int) by omega)]
        exact q
    · rw [lt_false (show (15 : Int) ≤ (i : Int) by omega), ifB_false]
      exact ⟨fun _ => rfl, fun hn => absurd (fun j => hj j (by have := j.isLt; omega)) hn⟩
end
end Go.Proofs.Ytmibgiblejpgdaa
