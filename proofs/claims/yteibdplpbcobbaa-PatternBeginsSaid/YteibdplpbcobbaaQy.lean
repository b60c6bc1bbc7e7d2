/- Texts in quotes with a limit: the document's reading; beginnings. -/
import Derived.Test.YteibdplpbcobbaaQw
namespace Go.Proofs.Yteibdplpbcobbaa
open Go.RowKit Abs
section
variable {n d : Nat} {h h0 : AHeap} {u : Bytes} {Q : ARes → AHeap → Prop} {S : List Nat}
/-- where the limit's walk ends -/
def LimR (u : Bytes) (m : Nat) (fuel p : Nat) (acc : Bytes) (n' p' : Nat) : Prop :=
  (n' = m ∧ at? u p' ≠ some 34 ∧ scanQ u (m : Int) fuel p acc = .bad 3 p') ∨ (¬ (n' = m ∧ at? u p' ≠ some 34) ∧ scanQ u (m : Int) fuel p acc = scanQ u (-1) fuel p acc)
theorem scan_eq {m fuel p : Nat} {acc : Bytes} (hm : acc.length ≠ m) (hr : ∀ c q, formAt u p ≠ .ok c q) : scanQ u (m : Int) fuel p acc = scanQ u (-1) fuel p acc := by
  cases fuel with
  | zero => rfl
  | succ f =>
    have h1 : ¬ (acc.length : Int) = (m : Int) := by omega
    have h2 : ¬ (acc.length : Int) = -1 := by omega
    rw [scanQ, scanQ, if_neg h1, if_neg h2]
    split
    · rfl
    · cases hF : formAt u p with
      | ok c q => exact absurd hF (hr c q)
      | bad q => rfl
theorem lim_loop {m : Nat} (hu : u.length ≤ 1000000) (hm1 : m < 9223372036854775808) (hn : 300 < n) {k43 : Int → Int → AHeap → R} :
    ∀ (fuel f p : Nat) (acc : Bytes), fuel < f → 1 ≤ fuel → u.length + 1 ≤ fuel + p → acc.length ≤ p → acc.length ≤ m →
      (∀ n' p' : Nat, n' ≤ m → LimR u m fuel p acc n' p' → Wp (k43 (n' : Int) (p' : Int) h) Q) →
      Wp (ref09_Quoted_L0 (world n (d + 2)) u (m : Int) k43 f (acc.length : Int) (p : Int) h) Q
  | 0, f, p, acc, hf, h1, hp, ha, ham, hk => by omega
  | fuel + 1, f + 1, p, acc, hf, h1, hp, ha, ham, hk => by
    rw [ref09_Quoted_L0_s]
    unfold ref09_Quoted_L0b
    have lu := lenS_nat u
    by_cases hm : acc.length = m
    · repeat (first | (with_reducible first | refine Wp.join0 (fun _ _ => ?_) | refine Wp.join1 (fun _ _ => ?_) | refine Wp.join2 (fun _ _ => ?_)) | ((with_reducible first | refine Wp.lettw ?_ ?_ ?_ | refine Wp.lettu64 ?_ ?_ ?_ | refine Wp.lettu8 ?_ ?_ ?_ | refine Wp.lettu32 ?_ ?_ ?_); omega; omega) | (with_reducible refine Wp.lett ?_) | ((with_reducible apply Wp.obind); first | (with_reducible first | exact avInt_int _ _ | exact avBool_bool _ | exact avStr_str _ | exact nilC_ptr _ _ | exact fldP_ptr _ _ _ | exact avAgg_agg _ | exact extT_0 _ _ | exact extT_1 _ _ _ | exact extT_2 _ _ _ _ | assumption) | ((with_reducible first | apply RowH.cell' | apply RowH.ldAll); (with_reducible assumption); rfl)) | ((with_reducible refine Wp.ift ?_ ?_); first | (with_reducible first | rfl | assumption | exact Bool.not_false) | ((with_reducible first | apply decide_eq_true | apply not_df | apply bne_t | apply beq_t); omega)) | ((with_reducible refine Wp.iff ?_ ?_); first | (with_reducible first | rfl | assumption | exact Bool.not_true) | ((with_reducible first | apply decide_eq_false | apply not_dt | apply bne_f | apply beq_f); omega)) | ((with_reducible first | apply Wp.callN | apply Wp.callK); (with_reducible assumption)) | ((with_reducible apply Wp.outK); (with_reducible assumption)) | (with_reducible first | refine Wp.go0 (by assumption) ?_ | refine Wp.go1 (by assumption) ?_ | refine Wp.go2 (by assumption) ?_) | rw [newP_eq])
      refine hk _ _ ham ?_
      by_cases hq : at? u p = some 34
      · exact .inr ⟨fun h => h.2 hq, by rw [scanQ, scanQ, if_pos hq, if_pos hq]⟩
      · exact .inl ⟨hm, hq, by rw [scanQ, if_neg hq, if_pos (by omega)]⟩
    · by_cases hl : p < u.length
      · have hx : idxS u (p : Int) = some ((u[p]).toNat : Int) := idxS_nat hl
        by_cases hq : at? u p = some 34
        · obtain ⟨_, h34⟩ := at?_some hq
          repeat (first | (with_reducible first | refine Wp.join0 (fun _ _ => ?_) | refine Wp.join1 (fun _ _ => ?_) | refine Wp.join2 (fun _ _ => ?_)) | ((with_reducible first | refine Wp.lettw ?_ ?_ ?_ | refine Wp.lettu64 ?_ ?_ ?_ | refine Wp.lettu8 ?_ ?_ ?_ | refine Wp.lettu32 ?_ ?_ ?_); omega; omega) | (with_reducible refine Wp.lett ?_) | ((with_reducible apply Wp.obind); first | (with_reducible first | exact hx | exact avInt_int _ _ | exact avBool_bool _ | exact avStr_str _ | exact nilC_ptr _ _ | exact fldP_ptr _ _ _ | exact avAgg_agg _ | exact extT_0 _ _ | exact extT_1 _ _ _ | exact extT_2 _ _ _ _ | assumption) | ((with_reducible first | apply RowH.cell' | apply RowH.ldAll); (with_reducible assumption); rfl)) | ((with_reducible refine Wp.ift ?_ ?_); first | (with_reducible first | rfl | assumption | exact Bool.not_false) | ((with_reducible first | apply decide_eq_true | apply not_df | apply bne_t | apply beq_t); omega)) | ((with_reducible refine Wp.iff ?_ ?_); first | (with_reducible first | rfl | assumption | exact Bool.not_true) | ((with_reducible first | apply decide_eq_false | apply not_dt | apply bne_f | apply beq_f); omega)) | ((with_reducible first | apply Wp.callN | apply Wp.callK); (with_reducible assumption)) | ((with_reducible apply Wp.outK); (with_reducible assumption)) | (with_reducible first | refine Wp.go0 (by assumption) ?_ | refine Wp.go1 (by assumption) ?_ | refine Wp.go2 (by assumption) ?_) | rw [newP_eq])
          exact hk _ _ ham (.inr ⟨fun h => hm h.1, by rw [scanQ, scanQ, if_pos hq, if_pos hq]⟩)
        · have h34 : (u[p]).toNat ≠ 34 := fun e => hq (by rw [at?_lt hl, e])
          have hb := byteAt_w (n := n) (d := d) (h := h) (u := u) (p := p) hu (by omega) hn
          cases hF : formAt u p with
          | bad q =>
            rw [hF] at hb
            unfold batV at hb
            repeat (first | (with_reducible first | refine Wp.join0 (fun _ _ => ?_) | refine Wp.join1 (fun _ _ => ?_) | refine Wp.join2 (fun _ _ => ?_)) | ((with_reducible first | refine Wp.lettw ?_ ?_ ?_ | refine Wp.lettu64 ?_ ?_ ?_ | refine Wp.lettu8 ?_ ?_ ?_ | refine Wp.lettu32 ?_ ?_ ?_); omega; omega) | (with_reducible refine Wp.lett ?_) | ((with_reducible apply Wp.obind); first | (with_reducible first | exact hx | exact avInt_int _ _ | exact avBool_bool _ | exact avStr_str _ | exact nilC_ptr _ _ | exact fldP_ptr _ _ _ | exact avAgg_agg _ | exact extT_0 _ _ | exact extT_1 _ _ _ | exact extT_2 _ _ _ _ | assumption) | ((with_reducible first | apply RowH.cell' | apply RowH.ldAll); (with_reducible assumption); rfl)) | ((with_reducible refine Wp.ift ?_ ?_); first | (with_reducible first | rfl | assumption | exact Bool.not_false) | ((with_reducible first | apply decide_eq_true | apply not_df | apply bne_t | apply beq_t); omega)) | ((with_reducible refine Wp.iff ?_ ?_); first | (with_reducible first | rfl | assumption | exact Bool.not_true) | ((with_reducible first | apply decide_eq_false | apply not_dt | apply bne_f | apply beq_f); omega)) | ((with_reducible first | apply Wp.callN | apply Wp.callK); (with_reducible assumption)) | ((with_reducible apply Wp.outK); (with_reducible assumption)) | (with_reducible first | refine Wp.go0 (by assumption) ?_ | refine Wp.go1 (by assumption) ?_ | refine Wp.go2 (by assumption) ?_) | rw [newP_eq])
            exact hk _ _ ham (.inr ⟨fun h => hm h.1, scan_eq hm (by rw [hF]; intro c q h; cases h)⟩)
          | ok c q =>
            rw [hF] at hb
            unfold batV at hb
            obtain ⟨hc, hpq, hqu⟩ := formAt_ok hF
            repeat (first | (with_reducible first | refine Wp.join0 (fun _ _ => ?_) | refine Wp.join1 (fun _ _ => ?_) | refine Wp.join2 (fun _ _ => ?_)) | ((with_reducible first | refine Wp.lettw ?_ ?_ ?_ | refine Wp.lettu64 ?_ ?_ ?_ | refine Wp.lettu8 ?_ ?_ ?_ | refine Wp.lettu32 ?_ ?_ ?_); omega; omega) | (with_reducible refine Wp.lett ?_) | ((with_reducible apply Wp.obind); first | (with_reducible first | exact hx | exact avInt_int _ _ | exact avBool_bool _ | exact avStr_str _ | exact nilC_ptr _ _ | exact fldP_ptr _ _ _ | exact avAgg_agg _ | exact extT_0 _ _ | exact extT_1 _ _ _ | exact extT_2 _ _ _ _ | assumption) | ((with_reducible first | apply RowH.cell' | apply RowH.ldAll); (with_reducible assumption); rfl)) | ((with_reducible refine Wp.ift ?_ ?_); first | (with_reducible first | rfl | assumption | exact Bool.not_false) | ((with_reducible first | apply decide_eq_true | apply not_df | apply bne_t | apply beq_t); omega)) | ((with_reducible refine Wp.iff ?_ ?_); first | (with_reducible first | rfl | assumption | exact Bool.not_true) | ((with_reducible first | apply decide_eq_false | apply not_dt | apply bne_f | apply beq_f); omega)) | ((with_reducible first | apply Wp.callN | apply Wp.callK); (with_reducible assumption)) | ((with_reducible apply Wp.outK); (with_reducible assumption)) | (with_reducible first | refine Wp.go0 (by assumption) ?_ | refine Wp.go1 (by assumption) ?_ | refine Wp.go2 (by assumption) ?_) | rw [newP_eq])
            have := lim_loop hu hm1 hn (k43 := k43) fuel f q (acc ++ [UInt8.ofNat c]) (by omega) (by omega) (by omega) (by simp; omega) (by simp; omega) (fun n' p' hn' hL => hk n' p' hn' ?_)
            · rw [show ((acc ++ [UInt8.ofNat c]).length : Int) = (acc.length : Int) + 1 by simp] at this
              exact this
            · have e1 : scanQ u (m : Int) (fuel + 1) p acc = scanQ u (m : Int) fuel q (acc ++ [UInt8.ofNat c]) := by rw [scanQ, if_neg hq, if_neg (by omega), hF]
              have e2 : scanQ u (-1) (fuel + 1) p acc = scanQ u (-1) fuel q (acc ++ [UInt8.ofNat c]) := by rw [scanQ, if_neg hq, if_neg (by omega), hF]
              unfold LimR at hL ⊢
              rw [e1, e2]
              exact hL
      · repeat (first | (with_reducible first | refine Wp.join0 (fun _ _ => ?_) | refine Wp.join1 (fun _ _ => ?_) | refine Wp.join2 (fun _ _ => ?_)) | ((with_reducible first | refine Wp.lettw ?_ ?_ ?_ | refine Wp.lettu64 ?_ ?_ ?_ | refine Wp.lettu8 ?_ ?_ ?_ | refine Wp.lettu32 ?_ ?_ ?_); omega; omega) | (with_reducible refine Wp.lett ?_) | ((with_reducible apply Wp.obind); first | (with_reducible first | exact avInt_int _ _ | exact avBool_bool _ | exact avStr_str _ | exact nilC_ptr _ _ | exact fldP_ptr _ _ _ | exact avAgg_agg _ | exact extT_0 _ _ | exact extT_1 _ _ _ | exact extT_2 _ _ _ _ | assumption) | ((with_reducible first | apply RowH.cell' | apply RowH.ldAll); (with_reducible assumption); rfl)) | ((with_reducible refine Wp.ift ?_ ?_); first | (with_reducible first | rfl | assumption | exact Bool.not_false) | ((with_reducible first | apply decide_eq_true | apply not_df | apply bne_t | apply beq_t); omega)) | ((with_reducible refine Wp.iff ?_ ?_); first | (with_reducible first | rfl | assumption | exact Bool.not_true) | ((with_reducible first | apply decide_eq_false | apply not_dt | apply bne_f | apply beq_f); omega)) | ((with_reducible first | apply Wp.callN | apply Wp.callK); (with_reducible assumption)) | ((with_reducible apply Wp.outK); (with_reducible assumption)) | (with_reducible first | refine Wp.go0 (by assumption) ?_ | refine Wp.go1 (by assumption) ?_ | refine Wp.go2 (by assumption) ?_) | rw [newP_eq])
        exact hk _ _ ham (.inr ⟨fun h => hm h.1, scan_eq hm (by intro c q h; have := formAt_ok h; omega)⟩)
/-! ### beginnings -/
theorem scan_fact {m : Int} : ∀ (fuel p : Nat) (acc : Bytes) {l : Bytes} {q : Nat}, scanQ u m fuel p acc = .ok l q → p + 1 ≤ q ∧ q ≤ u.length ∧ ((acc.length : Int) ≤ m → (l.length : Int) ≤ m)
  | 0, p, acc, l, q, hh => by rw [scanQ] at hh; cases hh
  | fuel + 1, p, acc, l, q, hh => by
    rw [scanQ] at hh
    split at hh
    · rename_i h34
      obtain ⟨hp, _⟩ := at?_some h34
      cases hh
      exact ⟨Nat.le_refl _, hp, id⟩
    · split at hh
      · cases hh
      · rename_i hne
        cases hF : formAt u p with
        | bad q => rw [hF] at hh; cases hh
        | ok c q' =>
          rw [hF] at hh
          obtain ⟨_, hpq, _⟩ := formAt_ok hF
          obtain ⟨a1, a2, a3⟩ := scan_fact fuel q' _ hh
          refine ⟨by omega, a2, fun hle => a3 ?_⟩
          simp
          omega
theorem form_take {p c q' q : Nat} (hF : formAt u p = .ok c q') (hq : q' ≤ q) : formAt (u.take q) p = .ok c q' := by
  rw [formAt_W] at hF ⊢
  cases hW : formW (u.drop p) with
  | bad k => rw [hW] at hF; cases hF
  | ok c' k =>
    rw [hW] at hF
    simp only [shiftF, FR.ok.injEq] at hF
    obtain ⟨rfl, rfl⟩ := hF
    obtain ⟨hc, hk, r, hr⟩ := formW_ok hW
    rw [List.drop_take, hr, List.take_append, List.take_of_length_le (by omega), formW_sign hc]
    rw [shiftF, hk]
theorem scan_take {m : Int} {q : Nat} {l : Bytes} : ∀ (fuel f2 p : Nat) (acc : Bytes), fuel ≤ f2 + p ∨ True → q ≤ f2 + p → scanQ u m fuel p acc = .ok l q → scanQ (u.take q) (-1) f2 p acc = .ok l q
  | 0, f2, p, acc, _, hf, hh => by rw [scanQ] at hh; cases hh
  | fuel + 1, f2, p, acc, _, hf, hh => by
    have hb := scan_fact _ _ _ hh
    obtain ⟨f2, rfl⟩ : ∃ k, f2 = k + 1 := ⟨f2 - 1, by omega⟩
    have hat : at? (u.take q) p = at? u p := by
      unfold at?
      rw [List.getElem?_take, if_pos (by omega)]
    rw [scanQ] at hh ⊢
    rw [hat]
    split at hh
    · rename_i h34
      rw [if_pos h34]
      exact hh
    · rename_i h34
      rw [if_neg h34, if_neg (by omega)]
      split at hh
      · cases hh
      · cases hF : formAt u p with
        | bad q' => rw [hF] at hh; cases hh
        | ok c q' =>
          rw [hF] at hh
          obtain ⟨_, hpq, _⟩ := formAt_ok hF
          have hb2 := scan_fact _ _ _ hh
          rw [form_take hF (by omega)]
          exact scan_take fuel f2 q' _ (.inr trivial) (by omega) hh
theorem quoted_fact {m : Int} {l : Bytes} {q : Nat} (hh : quotedQ u m = .ok l q) : 2 ≤ q ∧ q ≤ u.length ∧ (0 ≤ m → (l.length : Int) ≤ m) ∧ quotedQ (u.take q) (-1) = .ok l q := by
  unfold quotedQ at hh
  split at hh
  · rename_i h34
    obtain ⟨a1, a2, a3⟩ := scan_fact _ _ _ hh
    refine ⟨a1, a2, fun hm => a3 (by simpa using hm), ?_⟩
    have hat : at? (u.take q) 0 = some 34 := by
      rw [← h34]
      unfold at?
      rw [List.getElem?_take, if_pos (by omega)]
    unfold quotedQ
    rw [if_pos hat]
    exact scan_take _ _ _ _ (.inr trivial) (by rw [List.length_take]; omega) hh
  · cases hh
theorem unquote_take {m : Int} {l : Bytes} {q : Nat} (hh : quotedQ u m = .ok l q) : unquoteV (u.take q) = (l, 0, 0) := by
  obtain ⟨_, a2, _, a4⟩ := quoted_fact hh
  unfold unquoteV
  rw [a4]
  dsimp only
  rw [if_neg (by rw [List.length_take]; omega)]
end
end Go.Proofs.Yteibdplpbcobbaa
