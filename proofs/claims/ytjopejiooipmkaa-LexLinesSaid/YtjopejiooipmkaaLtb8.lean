/- What lexLines_proved stands on, part 8 of 8. -/
import Derived.Test.YtjopejiooipmkaaLtb7
namespace Go.Proofs.Ytjopejiooipmkaa
open Go.RowKit Abs
def tokB (B : Nat) (r : List AV) : Prop := ∃ k t m p, r = tokC k t m p ∧ p ≤ B
theorem ref_toks {u : Bytes} {p : Nat} {s : Bool} {l : List (List AV)} {x : LR} (h : RefTo u p s l x) : (∀ r ∈ l, tokB u.length r) → ∀ l' q, x = .ok l' q → ∀ r ∈ l', tokB u.length r := by
 induction h with
 | @done p s l h =>
  intro hl l' q e
  cases e
  exact hl
 | @nl p s l x h1 h2 _ ih =>
  intro hl
  refine ih ?_
  cases s with
  | false => exact hl
  | true =>
   intro r hr
   rcases List.mem_append.1 hr with hr | hr
   ·exact hl r hr
   ·exact ⟨6, [], 0, p, by simpa using hr, h1⟩
 | @blank p s l x h1 h2 _ ih => exact ih
 | @remark p s l x h1 h2 _ ih => exact ih
 | @tok p s l x k t m a q h1 h2 h3 h4 h5 _ ih =>
  intro hl
  refine ih fun r hr => ?_
  rcases List.mem_append.1 hr with hr | hr
  ·exact hl r hr
  ·refine ⟨k, t, m, a, by simpa using hr, ?_⟩
   unfold tokenQ at h5
   cases hR : readQ u p with
   | bad e q' => rw [hR] at h5; cases h5
   | ok k' t' m' a' q' =>
    rw [hR] at h5
    dsimp only at h5
    have := (readQ_le h1 hR).2
    split at h5
    ·simp only [TR.ok.injEq] at h5
     omega
    ·cases h5
 | @bad p s l e q h1 h2 h3 h4 h5 =>
  intro _ l' q' e
  cases e
theorem lexAll_pl {u : Bytes} (hu : u.length ≤ 2048) : ∀ r ∈ (lexAll u).rows, ∃ k t m p, r = tokC k t m p ∧ p ≤ 1000000 := by
 have h := ref_toks (lexAll_to hu) (by simp)
 cases hQ : lexAll u with
 | bad e q =>
  intro r hr
  cases hr
 | ok l q =>
  intro r hr
  rw [hQ] at h
  obtain ⟨k, t, m, p, e, hp⟩ := h l 0 rfl r hr
  exact ⟨k, t, m, p, e, by omega⟩
theorem tokenQ_at {u : Bytes} {p : Nat} {e : Int} {q : Nat} (hp : p < u.length) (hh : tokenQ u p = .bad e q) : q ≤ u.length := by
 unfold tokenQ at hh
 cases hR : readQ u p with
 | ok k t m a q' =>
  rw [hR] at hh
  dsimp only at hh
  split at hh
  ·cases hh
  ·simp only [TR.bad.injEq] at hh
   have := (readQ_le hp hR).1
   omega
 | bad e' q' =>
  rw [hR] at hh
  simp only [TR.bad.injEq] at hh
  obtain ⟨_, rfl⟩ := hh
  unfold readQ at hR
  rw [at?_lt hp] at hR
  dsimp only at hR
  have hw := span_le wordB (u.drop p)
  have hd := span_le digB (u.drop p)
  rw [List.length_drop] at hw hd
  split at hR
  ·unfold readWordQ at hR
   split at hR
   ·split at hR <;> cases hR
   ·simp only [TR.bad.injEq] at hR
    omega
  ·split at hR
   ·unfold readNumQ at hR
    split at hR
    ·cases hR
    ·split at hR
     ·cases hR
     ·simp only [TR.bad.injEq] at hR
      omega
   ·split at hR
    ·unfold readTextQ at hR
     cases hq : quotedQ (u.drop p) 64 with
     | ok l q2 => rw [hq] at hR; cases hR
     | bad e2 q2 =>
      rw [hq] at hR
      have := quoted_bad hq
      rw [List.length_drop] at this
      simp only [TR.bad.injEq] at hR
      omega
    ·split at hR
     ·cases hR
     ·simp only [TR.bad.injEq] at hR
      omega
theorem ref_at {u : Bytes} {p : Nat} {s : Bool} {l : List (List AV)} {x : LR} (h : RefTo u p s l x) : ∀ e q, x = .bad e q → q ≤ u.length := by
 induction h with
 | done h =>
  intro e q hh
  cases hh
 | nl h1 h2 _ ih => exact ih
 | blank h1 h2 _ ih => exact ih
 | remark h1 h2 _ ih => exact ih
 | tok h1 h2 h3 h4 h5 _ ih => exact ih
 | bad h1 h2 h3 h4 h5 =>
  intro e' q' hh
  cases hh
  exact tokenQ_at h1 h5
theorem at_le {u : Bytes} (hu : u.length ≤ 2048) : (lexAll u).at ≤ 2048 := by
 have h := ref_at (lexAll_to hu)
 cases hQ : lexAll u with
 | ok l q => exact Nat.zero_le _
 | bad e q =>
  rw [hQ] at h
  exact Nat.le_trans (h e q rfl) hu
theorem GrowT.slc' {S : List Nat} {h0 H : AHeap} {T rs : List RowT} {rows : List (List AV)} {v : AV} (g : GrowT TTok 4 rows v T) (M : Mem S h0 H rs) (hT : ∀ x ∈ T, x ∈ rs) : Slc H.next H 4 v rows := by
 refine ⟨fun l hl => (g.1 l hl).1, ?_⟩
 rcases g.2 with ⟨rfl, rfl, _⟩ | ⟨h1, c, rfl, rfl⟩
 ·exact .inl ⟨rfl, .inl rfl⟩
 ·obtain ⟨⟨t, h5, h6⟩, h3, _⟩ := M.row (c, TTok, rows.flatten) (hT _ (by simp))
  exact .inr ⟨c, h1, h3, rfl, t, .inr ⟨_, _, h5⟩, h6⟩
theorem rows_le {u : Bytes} (hu : u.length ≤ 2048) : (lexAll u).rows.length ≤ 3000 := by
 cases hQ : lexAll u with
 | bad e q => exact Nat.zero_le _
 | ok l q =>
  have := (lexAll_le hQ).1
  show l.length ≤ 3000
  omega
/-- what is told of two texts with a line's end between them -/
theorem lex_parts {a b : Bytes} (hl : a.length + 1 + b.length ≤ 2048) :
  ((lexAll a).e ≠ 0 → (lexAll (a ++ 10 :: b)).e ≠ 0 ∧ (lexAll (a ++ 10 :: b)).at = (lexAll a).at ∧ (lexAll (a ++ 10 :: b)).rows = []) ∧
  ((lexAll a).e = 0 → (lexAll b).e ≠ 0 → (lexAll (a ++ 10 :: b)).e = (lexAll b).e ∧ (lexAll (a ++ 10 :: b)).at = a.length + 1 + (lexAll b).at ∧ (lexAll (a ++ 10 :: b)).rows = []) ∧
  ((lexAll a).e = 0 → (lexAll b).e = 0 → (lexAll (a ++ 10 :: b)).e = 0 ∧ (lexAll (a ++ 10 :: b)).rows = (lexAll a).rows ++ (lexAll b).rows.map (shR (a.length + 1))) := by
 have h := lex_lines hl
 have hb : ∀ (w : Bytes) (x : LR), w.length ≤ 1000000 → (lexAll w).norm = x.norm → (lexAll w).e = x.e ∧ (∀ e q, x = .bad e q → (lexAll w).at = q) ∧ (lexAll w).rows = x.rows := by
  intro w x _ hx
  cases hw : lexAll w with
  | ok l q =>
   rw [hw] at hx
   cases x with
   | ok l' q' => cases hx; exact ⟨rfl, (by intro e q hh; cases hh), rfl⟩
   | bad e q' => cases hx
  | bad e q =>
   rw [hw] at hx
   cases x with
   | ok l' q' => cases hx
   | bad e' q' => cases hx; exact ⟨rfl, (by intro e q hh; cases hh; rfl), rfl⟩
 have hlu : (a ++ 10 :: b).length ≤ 1000000 := by simp; omega
 cases hA : lexAll a with
 | bad e q =>
  rw [hA] at h
  obtain ⟨h1, h2, h3⟩ := hb (a ++ 10 :: b) (.bad e q) hlu h
  have hne := lex_ne (by omega) hA
  exact ⟨fun _ => ⟨by rw [h1]; exact hne, h2 e q rfl, h3⟩, fun h0 => absurd h0 hne, fun h0 => absurd h0 hne⟩
 | ok l q =>
  rw [hA] at h
  refine ⟨fun h0 => absurd rfl h0, fun _ => ?_, fun _ => ?_⟩
  ·intro hne
   cases hB : lexAll b with
   | ok l' q' => rw [hB] at hne; exact absurd rfl hne
   | bad e' q' =>
    rw [hB] at h
    obtain ⟨h1, h2, h3⟩ := hb (a ++ 10 :: b) (.bad e' (a.length + 1 + q')) hlu h
    exact ⟨h1, h2 _ _ rfl, h3⟩
  ·intro h0
   cases hB : lexAll b with
   | bad e' q' =>
    rw [hB] at h0
    exact absurd h0 (lex_ne (by omega) hB)
   | ok l' q' =>
    rw [hB] at h
    obtain ⟨h1, h2, h3⟩ := hb (a ++ 10 :: b) (.ok (l ++ l'.map (shR (a.length + 1))) 0) hlu h
    exact ⟨h1, h3⟩
set_option maxRecDepth 100000 in
/-- the law -/
theorem lexLines_says (h : AHeap) (hX : h.ex = [70]) (xs : List AV) (hP : ArgsP Try.prog h.next h 12 [9, 9] xs) : ∃ h', Says Try.prog 4 xs h (.ret (.bool true)) h' := by
 obtain ⟨_, _, rfl, hp0, hP⟩ := args_cons hP
 obtain ⟨_, _, rfl, hp1, hP⟩ := args_cons hP
 obtain rfl := args0 hP
 obtain ⟨a, rfl, hsa⟩ := hp0.str Try.underlying9
 obtain ⟨b, rfl, hsb⟩ := hp1.str Try.underlying9
 obtain ⟨n, hn⟩ : ∃ n, n = 1000000 := ⟨_, rfl⟩
 suffices hK : Wp (law12_LexLines (world n 14) n a b h) fun r _ => r = .ret (.bool true) by
  obtain ⟨_, h', e, rfl⟩ := hK
  exact ⟨h', law12_LexLines_ok (world_ok n 14) e⟩
 unfold law12_LexLines
 have la := lenS_nat a
 have lb := lenS_nat b
 have hwk := works_w n 13 h
 have hrb : reachBytes ≤ 1000000000000000000 := by decide
 have Mx := Mem.nil [] h
 by_cases hl : 2048 < a.length + 1 + b.length
 ·repeat (first | ((with_reducible apply Wp.obind); (with_reducible exact avBool_bool _)) | ((with_reducible refine Wp.lettw ?_ ?_ ?_); omega; omega) | (with_reducible refine Wp.lett ?_) | ((with_reducible refine Wp.ift ?_ ?_); ((with_reducible apply decide_eq_true); omega)) | ((with_reducible refine Wp.iff ?_ ?_); (with_reducible exact Bool.not_true)) | ((with_reducible apply Wp.callN); (with_reducible assumption)))
  exact Wp.ret rfl
 ·have hg := fun (w : Bytes) (hw : w.length ≤ 2048) (H : AHeap) (hx : H.ex = [70]) => lex_g (n := n) (d := 0) (h := H) (u := w) (by omega) (by omega) (by rw [hx]; rfl) (by rw [hx]; rfl) (by rw [hx]; rfl)
  obtain ⟨P1, P2, P3⟩ := lex_parts (a := a) (b := b) (by omega)
  have hga := hg a (by omega) h hX
  have hgb := hg b (by omega)
  have hgu := hg (a ++ 10 :: b) (by simp; omega)
  have ra := lexAll_pl (u := a) (by omega)
  have rb := lexAll_pl (u := b) (by omega)
  have na := rows_le (u := a) (by omega)
  have nb := rows_le (u := b) (by omega)
  have qb1 := at_le (u := b) (by omega)
  clear hg
  generalize (lexAll (a ++ 10 :: b)).e = eu at *
  generalize (lexAll (a ++ 10 :: b)).at = qu at *
  generalize (lexAll (a ++ 10 :: b)).rows = lu at *
  generalize (lexAll a).e = ea at *
  generalize (lexAll a).at = qa at *
  generalize (lexAll a).rows = xa at *
  generalize (lexAll b).e = eb at *
  generalize (lexAll b).at = qb at *
  generalize (lexAll b).rows = xb at *
  obtain ⟨h1, v1, T1, e1, g1, M1⟩ := hga
  clear Mx
  have Mx := M1
  repeat (first | ((with_reducible apply Wp.obind); (with_reducible exact avBool_bool _)) | ((with_reducible apply Wp.sa0 Mx); rfl; rfl; (rfl); intro _ Mz; clear Mx; have Mx := Mz; clear Mz) | ((with_reducible apply Wp.mnew Mx); intro _ Mz; clear Mx; have Mx := Mz; clear Mz) | ((with_reducible refine Wp.lettw ?_ ?_ ?_); omega; omega) | (with_reducible refine Wp.lett ?_) | ((with_reducible apply Wp.obind); (with_reducible first | exact avAgg_agg _ | exact extT_0 _ _ | exact extT_1 _ _ _)) | ((with_reducible refine Wp.iff ?_ ?_); first | (with_reducible exact Bool.not_true) | ((with_reducible apply decide_eq_false); omega)) | ((with_reducible apply Wp.callN); (with_reducible assumption)) | rw [newP_eq])
  obtain ⟨h2, v2, T2, e2, g2, M2⟩ := hgb _ (by rw [Mx.ex]; exact hX)
  have M3 := Mem.frame (xs := []) Mx M2
  clear Mx
  have Mx := M3.perm List.perm_append_comm
  clear M3
  simp only [List.cons_append] at Mx
  have ad1 : addS a [10] = some (a ++ [10]) := addS_val (by simp; omega)
  have ad2 : addS (a ++ [10]) b = some (a ++ 10 :: b) := by
   rw [addS_val (by simp; omega)]
   simp
  repeat (first | ((with_reducible apply Wp.sa0 Mx); rfl; rfl; (rfl); intro _ Mz; clear Mx; have Mx := Mz; clear Mz) | ((with_reducible apply Wp.mnew Mx); intro _ Mz; clear Mx; have Mx := Mz; clear Mz) | ((with_reducible apply Wp.obind); (with_reducible first | exact ad1 | exact ad2 | exact avAgg_agg _ | exact extT_0 _ _ | exact extT_1 _ _ _)) | ((with_reducible apply Wp.callN); (with_reducible exact e2)) | rw [newP_eq])
  obtain ⟨h3, v3, T3, e3, g3, M3⟩ := hgu _ (by rw [Mx.ex]; exact hX)
  have M4 := Mem.frame (xs := []) Mx M3
  clear Mx
  have Mx := M4.perm List.perm_append_comm
  clear M4
  simp only [List.cons_append] at Mx
  have le1 := g1.len
  have le2 := g2.len
  have le3 := g3.len
  by_cases hA : ea = 0
  ·by_cases hB : eb = 0
   ·obtain ⟨hU, hR⟩ := P3 hA hB
    rw [hR] at g3 le3
    simp only [List.length_append, List.length_map] at le3
    repeat (first | ((with_reducible apply Wp.obind); (with_reducible exact avInt_int _ _)) | ((with_reducible apply Wp.ld0 Mx); rfl) | ((with_reducible apply Wp.sa0 Mx); rfl; rfl; (rfl); intro _ Mz; clear Mx; have Mx := Mz; clear Mz) | ((with_reducible apply Wp.ld1 Mx); rfl) | ((with_reducible apply Wp.ld2 Mx); rfl) | ((with_reducible apply Wp.mnew Mx); intro _ Mz; clear Mx; have Mx := Mz; clear Mz) | (with_reducible first | refine Wp.join0 (fun _ _ => ?_) | refine Wp.join1 (fun _ _ => ?_)) | ((with_reducible refine Wp.lettw ?_ ?_ ?_); omega; omega) | (with_reducible refine Wp.lett ?_) | ((with_reducible apply Wp.obind); (with_reducible first | exact le1 | exact le2 | exact le3 | exact avAgg_agg _ | exact extT_0 _ _ | exact extT_1 _ _ _)) | ((with_reducible refine Wp.iff ?_ ?_); ((with_reducible apply bne_f); omega)) | ((with_reducible apply Wp.callN); (with_reducible exact e3)) | (with_reducible refine Wp.go1 (by assumption) ?_) | rw [newP_eq])
    refine lines_loop (x := xa) (y := xb) (N := _) (by omega) (fun r hr => ?_) rb (by omega) (by omega) ?_ n 0 _ (by omega) (by omega) (Nat.le_refl _) ?_ ?_ ?_
    ·obtain ⟨k, t, m, p, e, _⟩ := ra r hr
     exact ⟨k, t, m, p, e⟩
    ·intro H'
     repeat ((with_reducible refine Wp.go0 (by assumption) ?_))
     exact Wp.ret rfl
    ·exact GrowT.slc' g1 Mx (fun x hx => by simp [hx])
    ·exact GrowT.slc' g2 Mx (fun x hx => by simp [hx])
    ·exact GrowT.slc' g3 Mx (fun x hx => by simp [hx])
   ·obtain ⟨hU, hQ, hR⟩ := P2 hA hB
    rw [hR] at le3
    repeat (first | ((with_reducible apply Wp.obind); (with_reducible exact avInt_int _ _)) | ((with_reducible apply Wp.ld0 Mx); rfl) | ((with_reducible apply Wp.sa0 Mx); rfl; rfl; (rfl); intro _ Mz; clear Mx; have Mx := Mz; clear Mz) | ((with_reducible apply Wp.ld1 Mx); rfl) | ((with_reducible apply Wp.ld2 Mx); rfl) | ((with_reducible apply Wp.mnew Mx); intro _ Mz; clear Mx; have Mx := Mz; clear Mz) | (with_reducible refine Wp.join1 (fun _ _ => ?_)) | ((with_reducible refine Wp.lettw ?_ ?_ ?_); omega; omega) | (with_reducible refine Wp.lett ?_) | ((with_reducible apply Wp.obind); (with_reducible first | exact le3 | exact avAgg_agg _ | exact extT_0 _ _ | exact extT_1 _ _ _)) | ((with_reducible refine Wp.ift ?_ ?_); ((with_reducible first | apply bne_t | apply beq_t); omega)) | ((with_reducible refine Wp.iff ?_ ?_); ((with_reducible apply bne_f); omega)) | ((with_reducible apply Wp.callN); (with_reducible exact e3)) | (with_reducible refine Wp.go1 (by assumption) ?_) | rw [newP_eq])
    exact Wp.ret rfl
  ·obtain ⟨hU, hQ, hR⟩ := P1 hA
   rw [hR] at le3
   repeat (first | ((with_reducible apply Wp.obind); (with_reducible exact avInt_int _ _)) | ((with_reducible apply Wp.ld0 Mx); rfl) | ((with_reducible apply Wp.sa0 Mx); rfl; rfl; (rfl); intro _ Mz; clear Mx; have Mx := Mz; clear Mz) | ((with_reducible apply Wp.ld2 Mx); rfl) | ((with_reducible apply Wp.mnew Mx); intro _ Mz; clear Mx; have Mx := Mz; clear Mz) | (with_reducible refine Wp.join1 (fun _ _ => ?_)) | (with_reducible refine Wp.lett ?_) | ((with_reducible apply Wp.obind); (with_reducible first | exact le3 | exact avAgg_agg _ | exact extT_0 _ _ | exact extT_1 _ _ _)) | ((with_reducible refine Wp.ift ?_ ?_); ((with_reducible first | apply bne_t | apply beq_t); omega)) | ((with_reducible apply Wp.callN); (with_reducible exact e3)) | (with_reducible refine Wp.go1 (by assumption) ?_) | rw [newP_eq])
   exact Wp.ret rfl
end Go.Proofs.Ytjopejiooipmkaa
