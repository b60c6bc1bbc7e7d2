/- What patternEmpties_proved stands on, part 8 of 8. -/
import Derived.Test.YteibdplpbcobbaaPe7
namespace Go.Proofs.Yteibdplpbcobbaa
open Go.RowKit Abs
section
variable {n D d b p q i m : Nat} {h h0 : AHeap} {u : Bytes} {Q : ARes → AHeap → Prop} {S : List Nat} {xs rs rs' T T0 T1 : List RowT} {w : List Nat} {x : R} {t : Nd} {c : List AV} {v kv fv : AV} {l : List Nd} {kc : List (List AV)}
theorem tree_guard_bad {pc rd sp nd pt : Nat} {kind : Int} {z : List AV} (hs : ∀ (h : AHeap), Rd h rd u 0 → rd < h.next → memB TNode h.ex = false → StepT rd u h (world n D 40 [.ptr rd 0, .int .i64 kind] h) (.error q)) (M : Mem S h0 h (rowsT pc rd sp nd pt 0 u kind z ++ xs)) (hx : memB TNode h0.ex = false) :
  ∃ h', world n (D + 2) 35 [AV.fn 39 [] [.ptr pc 0, .ptr pt 0, .ptr nd 0]] h = some (.ret (.agg [.int .i64 6, .int .i64 (q : Int)]), h') ∧ ∃ p, Mem S h0 h' (rowsT pc rd sp nd pt p u kind z ++ xs) := by
 apply Wp.ex
 rw [w_pattern_guard]
 unfold pattern_guard
 refine Wp.mnew M fun h1 M1 => ?_
 obtain ⟨h2, p, e2, M2⟩ := t1_bad (n := n) (D := D) (xs := xs ++ [(h.next, TSpot, [.int .i64 0, .int .i64 0])]) hs (M1.perm (by
  rw [← List.append_assoc]
  exact List.perm_append_comm (l₁ := rowsT pc rd sp nd pt 0 u kind z ++ xs) (l₂ := [_]))) hx
 have M3 : Mem S h0 h2 ((h.next, TSpot, [.int .i64 0, .int .i64 0]) :: (rowsT pc rd sp nd pt p u kind z ++ xs)) := M2.perm (by
  rw [← List.append_assoc]
  exact List.perm_append_comm (l₁ := [_]) (l₂ := rowsT pc rd sp nd pt p u kind z ++ xs))
 refine callKd_eq_pan ((dynT _ _ _ _ _).trans e2) ?_
 rw [newP_eq]
 obtain ⟨h3, e3, M4⟩ := recov_pan (n := n) (call := world n (D + 1)) rfl M3 6 q
 refine Wp.callN e3 ?_
 refine Wp.lr0 M4 rfl ?_
 exact Wp.ret ⟨rfl, p, M4.pop⟩
theorem tree_guard_ok {pc rd sp nd pt : Nat} {kind : Int} {z : List AV} (hz : z.length = 6) (hs : ∀ (h : AHeap), Rd h rd u 0 → rd < h.next → memB TNode h.ex = false → StepT rd u h (world n D 40 [.ptr rd 0, .int .i64 kind] h) (.ok t)) (M : Mem S h0 h (rowsT pc rd sp nd pt 0 u kind z ++ xs)) (hx : memB TNode h0.ex = false) :
  ∃ c T h' p, world n (D + 2) 35 [AV.fn 39 [] [.ptr pc 0, .ptr pt 0, .ptr nd 0]] h = some (.ret (.agg [.int .i64 0, .int .i64 0]), h') ∧ NodeT t c T ∧ Mem S h0 h' (rowsT pc rd sp nd pt p u kind c ++ (xs ++ T)) := by
 suffices hK : Wp (world n (D + 2) 35 [AV.fn 39 [] [.ptr pc 0, .ptr pt 0, .ptr nd 0]] h) fun r h' => ∃ c T p, r = .ret (.agg [.int .i64 0, .int .i64 0]) ∧ NodeT t c T ∧ Mem S h0 h' (rowsT pc rd sp nd pt p u kind c ++ (xs ++ T)) by
  obtain ⟨_, h', e, c, T, p, rfl, k1, k2⟩ := hK
  exact ⟨c, T, h', p, e, k1, k2⟩
 rw [w_pattern_guard]
 unfold pattern_guard
 refine Wp.mnew M fun h1 M1 => ?_
 obtain ⟨c, T, h2, p, e2, kt, M2⟩ := t1_ok (n := n) (D := D) (xs := [(h.next, TSpot, [.int .i64 0, .int .i64 0])] ++ xs) hz hs (M1.perm (List.perm_append_comm_assoc (rowsT pc rd sp nd pt 0 u kind z) [_] xs)) hx
 have M3 : Mem S h0 h2 ((h.next, TSpot, [.int .i64 0, .int .i64 0]) :: (rowsT pc rd sp nd pt p u kind c ++ (xs ++ T))) := M2.perm (by
  rw [List.append_assoc]
  exact List.perm_append_comm_assoc [_] (rowsT pc rd sp nd pt p u kind c) (xs ++ T))
 refine callKd_eq_ret ((dynT _ _ _ _ _).trans e2) ?_
 clear M1 M2
 have Mx := M3
 clear M3
 rw [newP_eq]
 repeat (first | ((with_reducible apply Wp.lr0 Mx); rfl) | ((with_reducible apply Wp.sa0 Mx); rfl; rfl; (rfl); intro _ Mz; clear Mx; have Mx := Mz; clear Mz) | ((with_reducible apply Wp.callN); (with_reducible exact recov_nil)))
 exact Wp.ret ⟨c, T, p, rfl, kt, Mx.pop⟩
theorem tree_kinds (hu : u.length ≤ 1000000) {kind : Int} (hk : kind = 1 ∨ kind = 2 ∨ kind = 3) : (64 < u.length → ∀ {n D : Nat} {h : AHeap}, 0 ≤ D → 300 < n → memB TNode h.ex = false → world n (D + 1) 21 [.agg [.int .i64 kind, strA u]] h = some (.ret (.tup [.agg (nodeC 0 zeroW .nsl), .agg [.int .i64 3, .int .i64 64]]), h)) ∧
  (u.length ≤ 64 → ∃ r, TreeP u kind r ∧ (∀ q, r = .error q → q ≤ u.length) ∧ ∀ {n D : Nat} {h : AHeap}, 300 ≤ D → 400 < n → memB TNode h.ex = false → match r with
   | .error q => world n (D + 3) 21 [.agg [.int .i64 kind, strA u]] h = some (.ret (.tup [.agg (nodeC 0 zeroW .nsl), .agg [.int .i64 6, .int .i64 (q : Int)]]), h)
   | .ok t => ∃ c T h', world n (D + 3) 21 [.agg [.int .i64 kind, strA u]] h = some (.ret (.tup [.agg c, .agg [.int .i64 0, .int .i64 0]]), h') ∧ NodeT t c T ∧ Mem [] h h' T) := by
 have hk' := hk
 rcases hk' with rfl | rfl | rfl
 ·-- kind 1
  refine ⟨?_, ?_⟩
  ·intro l n D h hD hn hx
   apply Wp.eq
   rw [w_pattern_Tree]
   refine Wp.gc ?_
   suffices hK : Wp (pattern_Tree (world n D) n [.int .i64 1, strA u] h) fun r h' => r = .ret (.tup [.agg (nodeC 0 zeroW .nsl), .agg [.int .i64 3, .int .i64 64]]) ∧ Tch [] h h' from hK.mono fun r h' ⟨e, t⟩ => ⟨t.above, by rw [e]; rfl, e, rfl⟩
   unfold pattern_Tree
   have ll := lenS_nat u
   have Mx := Mem.nil [] h
   repeat (first | ((with_reducible apply Wp.obind); (with_reducible first | exact avInt_int _ _ | exact avStr_str _ | exact fldP_ptr _ _ _)) | ((with_reducible apply Wp.lr0 Mx); rfl) | ((with_reducible apply Wp.sa0 Mx); rfl; rfl; (rfl); intro _ Mz; clear Mx; have Mx := Mz; clear Mz) | ((with_reducible apply Wp.lr1 Mx); rfl) | ((with_reducible apply Wp.sa1 Mx); rfl; rfl; (rfl); intro _ Mz; clear Mx; have Mx := Mz; clear Mz) | ((with_reducible apply Wp.ld2 Mx); rfl) | ((with_reducible apply Wp.mnew Mx); intro _ Mz; clear Mx; have Mx := Mz; clear Mz) | ((with_reducible apply Wp.mbox Mx); (rfl); intro _ Mz; clear Mx; have Mx := Mz; clear Mz) | (with_reducible refine Wp.join1 (fun _ _ => ?_)) | (with_reducible refine Wp.lett ?_) | ((with_reducible refine Wp.ift ?_ ?_); ((with_reducible first | apply decide_eq_true | apply bne_t); omega)) | ((with_reducible refine Wp.iff ?_ ?_); first | (with_reducible rfl) | ((with_reducible apply bne_f); omega)) | (with_reducible refine Wp.go1 (by assumption) ?_) | rw [newP_eq])
   exact Wp.ret ⟨rfl, Mx.tch⟩
  ·intro l
   obtain ⟨r, r1, r2, r3⟩ := tree_r hu 1 hk
   refine ⟨r, r1, r2, ?_⟩
   intro n D h hD hn hx
   have hs : ∀ (rd : Nat) (h : AHeap), Rd h rd u 0 → rd < h.next → memB TNode h.ex = false → StepT rd u h (world n D 40 [.ptr rd 0, .int .i64 1] h) r := fun rd h k1 k2 k3 => r3 (by omega) (by omega) (by omega) k1 k2 k3
   cases r with
   | error q =>
    apply Wp.eq
    rw [w_pattern_Tree]
    refine Wp.gc ?_
    suffices hK : Wp (pattern_Tree (world n (D + 2)) n [.int .i64 1, strA u] h) fun r h' => r = .ret (.tup [.agg (nodeC 0 zeroW .nsl), .agg [.int .i64 6, .int .i64 (q : Int)]]) ∧ Tch [] h h' from hK.mono fun r h' ⟨e, t⟩ => ⟨t.above, by rw [e]; rfl, e, rfl⟩
    unfold pattern_Tree
    have ll := lenS_nat u
    have Mx := Mem.nil [] h
    repeat (first | ((with_reducible apply Wp.obind); (with_reducible first | exact avInt_int _ _ | exact avStr_str _ | exact fldP_ptr _ _ _)) | ((with_reducible apply Wp.sa0 Mx); rfl; rfl; (rfl); intro _ Mz; clear Mx; have Mx := Mz; clear Mz) | ((with_reducible apply Wp.ld2 Mx); rfl) | ((with_reducible apply Wp.mnew Mx); intro _ Mz; clear Mx; have Mx := Mz; clear Mz) | ((with_reducible apply Wp.mbox Mx); (rfl); intro _ Mz; clear Mx; have Mx := Mz; clear Mz) | (with_reducible refine Wp.join1 (fun _ _ => ?_)) | (with_reducible refine Wp.lett ?_) | ((with_reducible refine Wp.iff ?_ ?_); first | (with_reducible rfl) | ((with_reducible first | apply decide_eq_false | apply bne_f); omega)) | (with_reducible refine Wp.go1 (by assumption) ?_) | rw [newP_eq])
    obtain ⟨h2, e2, p2, M2⟩ := tree_guard_bad (n := n) (D := D) (xs := []) (hs _) (by rw [List.append_nil]; exact Mx) hx
    refine Wp.callN e2 ?_
    clear Mx
    have Mx := M2
    repeat (first | ((with_reducible apply Wp.obind); (with_reducible exact avInt_int _ _)) | ((with_reducible apply Wp.ld2 Mx); rfl) | ((with_reducible apply Wp.lr2 Mx); rfl) | ((with_reducible apply Wp.sa2 Mx); rfl; rfl; (rfl); intro _ Mz; clear Mx; have Mx := Mz; clear Mz) | ((with_reducible apply Wp.lr3 Mx); rfl) | ((with_reducible apply Wp.sa3 Mx); rfl; rfl; (rfl); intro _ Mz; clear Mx; have Mx := Mz; clear Mz) | ((with_reducible refine Wp.chk ?_ ?_); focus ((repeat' (first | (with_reducible exact rfl) | (with_reducible apply and_t) | ((with_reducible apply Mem.rr2 Mx); kernel_rfl; kernel_rfl))); done)) | (with_reducible refine Wp.lett ?_) | ((with_reducible apply Wp.obind); (with_reducible exact avAgg_agg _)) | ((with_reducible refine Wp.ift ?_ ?_); ((with_reducible apply bne_t); omega)))
    exact Wp.ret ⟨rfl, Mx.tch⟩
   | ok t =>
    obtain ⟨c, T, h', e, kt, M'⟩ : ∃ c T h', pattern_Tree (world n (D + 2)) n [.int .i64 1, strA u] h = some (.ret (.tup [.agg c, .agg [.int .i64 0, .int .i64 0]]), h') ∧ NodeT t c T ∧ Mem [] h h' T := by
     suffices hK : Wp (pattern_Tree (world n (D + 2)) n [.int .i64 1, strA u] h) fun r h' => ∃ c T, r = .ret (.tup [.agg c, .agg [.int .i64 0, .int .i64 0]]) ∧ NodeT t c T ∧ Mem [] h h' T by
      obtain ⟨_, h', e, c, T, rfl, k1, k2⟩ := hK
      exact ⟨c, T, h', e, k1, k2⟩
     unfold pattern_Tree
     have ll := lenS_nat u
     have Mx := Mem.nil [] h
     repeat (first | ((with_reducible apply Wp.obind); (with_reducible first | exact avInt_int _ _ | exact avStr_str _ | exact fldP_ptr _ _ _)) | ((with_reducible apply Wp.sa0 Mx); rfl; rfl; (rfl); intro _ Mz; clear Mx; have Mx := Mz; clear Mz) | ((with_reducible apply Wp.ld2 Mx); rfl) | ((with_reducible apply Wp.mnew Mx); intro _ Mz; clear Mx; have Mx := Mz; clear Mz) | ((with_reducible apply Wp.mbox Mx); (rfl); intro _ Mz; clear Mx; have Mx := Mz; clear Mz) | (with_reducible refine Wp.join1 (fun _ _ => ?_)) | (with_reducible refine Wp.lett ?_) | ((with_reducible refine Wp.iff ?_ ?_); first | (with_reducible rfl) | ((with_reducible first | apply decide_eq_false | apply bne_f); omega)) | (with_reducible refine Wp.go1 (by assumption) ?_) | rw [newP_eq])
     obtain ⟨c, T, h2, p2, e2, kt, M2⟩ := tree_guard_ok (n := n) (D := D) (xs := []) rfl (hs _) (by rw [List.append_nil]; exact Mx) hx
     refine Wp.callN e2 ?_
     clear Mx
     have Mx := M2
     have hl := kt.len
     have ho := kt.one
     repeat (first | ((with_reducible apply Wp.obind); (with_reducible exact avInt_int _ _)) | ((with_reducible apply Wp.ld2 Mx); rfl) | ((with_reducible apply Wp.sa2 Mx); rfl; rfl; (rfl); intro _ Mz; clear Mx; have Mx := Mz; clear Mz) | (with_reducible refine Wp.lett ?_) | ((with_reducible apply Wp.obind); (with_reducible exact avAgg_agg _)) | ((with_reducible refine Wp.iff ?_ ?_); ((with_reducible apply bne_f); omega)))
     refine Wp.lr3 Mx hl ?_
     repeat (((with_reducible apply Wp.lr2 Mx); rfl))
     refine Wp.sa3 Mx hl hl ho fun _ Mz => ?_
     clear Mx
     have Mx := Mz
     clear Mz
     repeat (first | ((with_reducible apply Wp.sa2 Mx); rfl; rfl; (rfl); intro _ Mz; clear Mx; have Mx := Mz; clear Mz) | ((with_reducible refine Wp.chk ?_ ?_); focus ((repeat' (first | (with_reducible exact rfl) | (with_reducible apply and_t) | ((with_reducible apply Mem.rr2 Mx); kernel_rfl; kernel_rfl))); done)))
     refine Wp.lr3 Mx hl ?_
     repeat (((with_reducible apply Wp.lr2 Mx); rfl))
     exact Wp.ret ⟨c, T, rfl, kt, Mx.pop.pop.pop.pop.pop⟩
    have M2 := M'
    suffices hK : Wp (gcR h (pattern_Tree (world n (D + 2)) n [.int .i64 1, strA u] h)) fun r h' => ∃ T, r = .ret (.tup [.agg c, .agg [.int .i64 0, .int .i64 0]]) ∧ NodeT t c T ∧ Mem [] h h' T by
     obtain ⟨_, h', e, T, rfl, k1, k2⟩ := hK
     rw [← w_pattern_Tree] at e
     exact ⟨c, T, h', e, k1, k2⟩
    refine Wp.gc2 ⟨_, h', e, ⟨T, rfl, kt, M'⟩, fun _ hl => ?_⟩
    have h1 : AV.loL h.next c = true := by
     have : (AV.loL h.next c && (AV.loL h.next [.int .i64 0, .int .i64 0] && AV.loL h.next [])) = true := hl
     rw [Bool.and_eq_true] at this
     exact this.1
    have hT : T = [] := kt.low (fun y hy => (M'.row y hy).2.2.resolve_left (by simp)) h1
    subst hT
    exact ⟨[], rfl, kt, Mem.nil _ _⟩
 ·-- kind 2
  refine ⟨?_, ?_⟩
  ·intro l n D h hD hn hx
   apply Wp.eq
   rw [w_pattern_Tree]
   refine Wp.gc ?_
   suffices hK : Wp (pattern_Tree (world n D) n [.int .i64 2, strA u] h) fun r h' => r = .ret (.tup [.agg (nodeC 0 zeroW .nsl), .agg [.int .i64 3, .int .i64 64]]) ∧ Tch [] h h' from hK.mono fun r h' ⟨e, t⟩ => ⟨t.above, by rw [e]; rfl, e, rfl⟩
   unfold pattern_Tree
   have ll := lenS_nat u
   have Mx := Mem.nil [] h
   repeat (first | ((with_reducible apply Wp.obind); (with_reducible first | exact avInt_int _ _ | exact avStr_str _ | exact fldP_ptr _ _ _)) | ((with_reducible apply Wp.lr0 Mx); rfl) | ((with_reducible apply Wp.sa0 Mx); rfl; rfl; (rfl); intro _ Mz; clear Mx; have Mx := Mz; clear Mz) | ((with_reducible apply Wp.lr1 Mx); rfl) | ((with_reducible apply Wp.sa1 Mx); rfl; rfl; (rfl); intro _ Mz; clear Mx; have Mx := Mz; clear Mz) | ((with_reducible apply Wp.ld2 Mx); rfl) | ((with_reducible apply Wp.mnew Mx); intro _ Mz; clear Mx; have Mx := Mz; clear Mz) | ((with_reducible apply Wp.mbox Mx); (rfl); intro _ Mz; clear Mx; have Mx := Mz; clear Mz) | (with_reducible refine Wp.join1 (fun _ _ => ?_)) | (with_reducible refine Wp.lett ?_) | ((with_reducible refine Wp.ift ?_ ?_); ((with_reducible first | apply decide_eq_true | apply bne_t); omega)) | ((with_reducible refine Wp.iff ?_ ?_); first | (with_reducible rfl) | ((with_reducible apply bne_f); omega)) | (with_reducible refine Wp.go1 (by assumption) ?_) | rw [newP_eq])
   exact Wp.ret ⟨rfl, Mx.tch⟩
  ·intro l
   obtain ⟨r, r1, r2, r3⟩ := tree_r hu 2 hk
   refine ⟨r, r1, r2, ?_⟩
   intro n D h hD hn hx
   have hs : ∀ (rd : Nat) (h : AHeap), Rd h rd u 0 → rd < h.next → memB TNode h.ex = false → StepT rd u h (world n D 40 [.ptr rd 0, .int .i64 2] h) r := fun rd h k1 k2 k3 => r3 (by omega) (by omega) (by omega) k1 k2 k3
   cases r with
   | error q =>
    apply Wp.eq
    rw [w_pattern_Tree]
    refine Wp.gc ?_
    suffices hK : Wp (pattern_Tree (world n (D + 2)) n [.int .i64 2, strA u] h) fun r h' => r = .ret (.tup [.agg (nodeC 0 zeroW .nsl), .agg [.int .i64 6, .int .i64 (q : Int)]]) ∧ Tch [] h h' from hK.mono fun r h' ⟨e, t⟩ => ⟨t.above, by rw [e]; rfl, e, rfl⟩
    unfold pattern_Tree
    have ll := lenS_nat u
    have Mx := Mem.nil [] h
    repeat (first | ((with_reducible apply Wp.obind); (with_reducible first | exact avInt_int _ _ | exact avStr_str _ | exact fldP_ptr _ _ _)) | ((with_reducible apply Wp.sa0 Mx); rfl; rfl; (rfl); intro _ Mz; clear Mx; have Mx := Mz; clear Mz) | ((with_reducible apply Wp.ld2 Mx); rfl) | ((with_reducible apply Wp.mnew Mx); intro _ Mz; clear Mx; have Mx := Mz; clear Mz) | ((with_reducible apply Wp.mbox Mx); (rfl); intro _ Mz; clear Mx; have Mx := Mz; clear Mz) | (with_reducible refine Wp.join1 (fun _ _ => ?_)) | (with_reducible refine Wp.lett ?_) | ((with_reducible refine Wp.ift ?_ ?_); ((with_reducible first | apply decide_eq_true | apply bne_t); omega)) | ((with_reducible refine Wp.iff ?_ ?_); first | (with_reducible rfl) | ((with_reducible first | apply decide_eq_false | apply bne_f); omega)) | (with_reducible refine Wp.go1 (by assumption) ?_) | rw [newP_eq])
    obtain ⟨h2, e2, p2, M2⟩ := tree_guard_bad (n := n) (D := D) (xs := []) (hs _) (by rw [List.append_nil]; exact Mx) hx
    refine Wp.callN e2 ?_
    clear Mx
    have Mx := M2
    repeat (first | ((with_reducible apply Wp.obind); (with_reducible exact avInt_int _ _)) | ((with_reducible apply Wp.ld2 Mx); rfl) | ((with_reducible apply Wp.lr2 Mx); rfl) | ((with_reducible apply Wp.sa2 Mx); rfl; rfl; (rfl); intro _ Mz; clear Mx; have Mx := Mz; clear Mz) | ((with_reducible apply Wp.lr3 Mx); rfl) | ((with_reducible apply Wp.sa3 Mx); rfl; rfl; (rfl); intro _ Mz; clear Mx; have Mx := Mz; clear Mz) | ((with_reducible refine Wp.chk ?_ ?_); focus ((repeat' (first | (with_reducible exact rfl) | (with_reducible apply and_t) | ((with_reducible apply Mem.rr2 Mx); kernel_rfl; kernel_rfl))); done)) | (with_reducible refine Wp.lett ?_) | ((with_reducible apply Wp.obind); (with_reducible exact avAgg_agg _)) | ((with_reducible refine Wp.ift ?_ ?_); ((with_reducible apply bne_t); omega)))
    exact Wp.ret ⟨rfl, Mx.tch⟩
   | ok t =>
    obtain ⟨c, T, h', e, kt, M'⟩ : ∃ c T h', pattern_Tree (world n (D + 2)) n [.int .i64 2, strA u] h = some (.ret (.tup [.agg c, .agg [.int .i64 0, .int .i64 0]]), h') ∧ NodeT t c T ∧ Mem [] h h' T := by
     suffices hK : Wp (pattern_Tree (world n (D + 2)) n [.int .i64 2, strA u] h) fun r h' => ∃ c T, r = .ret (.tup [.agg c, .agg [.int .i64 0, .int .i64 0]]) ∧ NodeT t c T ∧ Mem [] h h' T by
      obtain ⟨_, h', e, c, T, rfl, k1, k2⟩ := hK
      exact ⟨c, T, h', e, k1, k2⟩
     unfold pattern_Tree
     have ll := lenS_nat u
     have Mx := Mem.nil [] h
     repeat (first | ((with_reducible apply Wp.obind); (with_reducible first | exact avInt_int _ _ | exact avStr_str _ | exact fldP_ptr _ _ _)) | ((with_reducible apply Wp.sa0 Mx); rfl; rfl; (rfl); intro _ Mz; clear Mx; have Mx := Mz; clear Mz) | ((with_reducible apply Wp.ld2 Mx); rfl) | ((with_reducible apply Wp.mnew Mx); intro _ Mz; clear Mx; have Mx := Mz; clear Mz) | ((with_reducible apply Wp.mbox Mx); (rfl); intro _ Mz; clear Mx; have Mx := Mz; clear Mz) | (with_reducible refine Wp.join1 (fun _ _ => ?_)) | (with_reducible refine Wp.lett ?_) | ((with_reducible refine Wp.ift ?_ ?_); ((with_reducible first | apply decide_eq_true | apply bne_t); omega)) | ((with_reducible refine Wp.iff ?_ ?_); first | (with_reducible rfl) | ((with_reducible first | apply decide_eq_false | apply bne_f); omega)) | (with_reducible refine Wp.go1 (by assumption) ?_) | rw [newP_eq])
     obtain ⟨c, T, h2, p2, e2, kt, M2⟩ := tree_guard_ok (n := n) (D := D) (xs := []) rfl (hs _) (by rw [List.append_nil]; exact Mx) hx
     refine Wp.callN e2 ?_
     clear Mx
     have Mx := M2
     have hl := kt.len
     have ho := kt.one
     repeat (first | ((with_reducible apply Wp.obind); (with_reducible exact avInt_int _ _)) | ((with_reducible apply Wp.ld2 Mx); rfl) | ((with_reducible apply Wp.sa2 Mx); rfl; rfl; (rfl); intro _ Mz; clear Mx; have Mx := Mz; clear Mz) | (with_reducible refine Wp.lett ?_) | ((with_reducible apply Wp.obind); (with_reducible exact avAgg_agg _)) | ((with_reducible refine Wp.iff ?_ ?_); ((with_reducible apply bne_f); omega)))
     refine Wp.lr3 Mx hl ?_
     repeat (((with_reducible apply Wp.lr2 Mx); rfl))
     refine Wp.sa3 Mx hl hl ho fun _ Mz => ?_
     clear Mx
     have Mx := Mz
     clear Mz
     repeat (first | ((with_reducible apply Wp.sa2 Mx); rfl; rfl; (rfl); intro _ Mz; clear Mx; have Mx := Mz; clear Mz) | ((with_reducible refine Wp.chk ?_ ?_); focus ((repeat' (first | (with_reducible exact rfl) | (with_reducible apply and_t) | ((with_reducible apply Mem.rr2 Mx); kernel_rfl; kernel_rfl))); done)))
     refine Wp.lr3 Mx hl ?_
     repeat (((with_reducible apply Wp.lr2 Mx); rfl))
     exact Wp.ret ⟨c, T, rfl, kt, Mx.pop.pop.pop.pop.pop⟩
    have M2 := M'
    suffices hK : Wp (gcR h (pattern_Tree (world n (D + 2)) n [.int .i64 2, strA u] h)) fun r h' => ∃ T, r = .ret (.tup [.agg c, .agg [.int .i64 0, .int .i64 0]]) ∧ NodeT t c T ∧ Mem [] h h' T by
     obtain ⟨_, h', e, T, rfl, k1, k2⟩ := hK
     rw [← w_pattern_Tree] at e
     exact ⟨c, T, h', e, k1, k2⟩
    refine Wp.gc2 ⟨_, h', e, ⟨T, rfl, kt, M'⟩, fun _ hl => ?_⟩
    have h1 : AV.loL h.next c = true := by
     have : (AV.loL h.next c && (AV.loL h.next [.int .i64 0, .int .i64 0] && AV.loL h.next [])) = true := hl
     rw [Bool.and_eq_true] at this
     exact this.1
    have hT : T = [] := kt.low (fun y hy => (M'.row y hy).2.2.resolve_left (by simp)) h1
    subst hT
    exact ⟨[], rfl, kt, Mem.nil _ _⟩
 ·-- kind 3
  refine ⟨?_, ?_⟩
  ·intro l n D h hD hn hx
   apply Wp.eq
   rw [w_pattern_Tree]
   refine Wp.gc ?_
   suffices hK : Wp (pattern_Tree (world n D) n [.int .i64 3, strA u] h) fun r h' => r = .ret (.tup [.agg (nodeC 0 zeroW .nsl), .agg [.int .i64 3, .int .i64 64]]) ∧ Tch [] h h' from hK.mono fun r h' ⟨e, t⟩ => ⟨t.above, by rw [e]; rfl, e, rfl⟩
   unfold pattern_Tree
   have ll := lenS_nat u
   have Mx := Mem.nil [] h
   repeat (first | ((with_reducible apply Wp.obind); (with_reducible first | exact avInt_int _ _ | exact avStr_str _ | exact fldP_ptr _ _ _)) | ((with_reducible apply Wp.lr0 Mx); rfl) | ((with_reducible apply Wp.sa0 Mx); rfl; rfl; (rfl); intro _ Mz; clear Mx; have Mx := Mz; clear Mz) | ((with_reducible apply Wp.lr1 Mx); rfl) | ((with_reducible apply Wp.sa1 Mx); rfl; rfl; (rfl); intro _ Mz; clear Mx; have Mx := Mz; clear Mz) | ((with_reducible apply Wp.ld2 Mx); rfl) | ((with_reducible apply Wp.mnew Mx); intro _ Mz; clear Mx; have Mx := Mz; clear Mz) | ((with_reducible apply Wp.mbox Mx); (rfl); intro _ Mz; clear Mx; have Mx := Mz; clear Mz) | (with_reducible refine Wp.join1 (fun _ _ => ?_)) | (with_reducible refine Wp.lett ?_) | ((with_reducible refine Wp.ift ?_ ?_); ((with_reducible first | apply decide_eq_true | apply bne_t); omega)) | ((with_reducible refine Wp.iff ?_ ?_); ((with_reducible apply bne_f); omega)) | (with_reducible refine Wp.go1 (by assumption) ?_) | rw [newP_eq])
   exact Wp.ret ⟨rfl, Mx.tch⟩
  ·intro l
   obtain ⟨r, r1, r2, r3⟩ := tree_r hu 3 hk
   refine ⟨r, r1, r2, ?_⟩
   intro n D h hD hn hx
   have hs : ∀ (rd : Nat) (h : AHeap), Rd h rd u 0 → rd < h.next → memB TNode h.ex = false → StepT rd u h (world n D 40 [.ptr rd 0, .int .i64 3] h) r := fun rd h k1 k2 k3 => r3 (by omega) (by omega) (by omega) k1 k2 k3
   cases r with
   | error q =>
    apply Wp.eq
    rw [w_pattern_Tree]
    refine Wp.gc ?_
    suffices hK : Wp (pattern_Tree (world n (D + 2)) n [.int .i64 3, strA u] h) fun r h' => r = .ret (.tup [.agg (nodeC 0 zeroW .nsl), .agg [.int .i64 6, .int .i64 (q : Int)]]) ∧ Tch [] h h' from hK.mono fun r h' ⟨e, t⟩ => ⟨t.above, by rw [e]; rfl, e, rfl⟩
    unfold pattern_Tree
    have ll := lenS_nat u
    have Mx := Mem.nil [] h
    repeat (first | ((with_reducible apply Wp.obind); (with_reducible first | exact avInt_int _ _ | exact avStr_str _ | exact fldP_ptr _ _ _)) | ((with_reducible apply Wp.sa0 Mx); rfl; rfl; (rfl); intro _ Mz; clear Mx; have Mx := Mz; clear Mz) | ((with_reducible apply Wp.ld2 Mx); rfl) | ((with_reducible apply Wp.mnew Mx); intro _ Mz; clear Mx; have Mx := Mz; clear Mz) | ((with_reducible apply Wp.mbox Mx); (rfl); intro _ Mz; clear Mx; have Mx := Mz; clear Mz) | (with_reducible refine Wp.join1 (fun _ _ => ?_)) | (with_reducible refine Wp.lett ?_) | ((with_reducible refine Wp.ift ?_ ?_); ((with_reducible first | apply decide_eq_true | apply bne_t); omega)) | ((with_reducible refine Wp.iff ?_ ?_); ((with_reducible first | apply decide_eq_false | apply bne_f); omega)) | (with_reducible refine Wp.go1 (by assumption) ?_) | rw [newP_eq])
    obtain ⟨h2, e2, p2, M2⟩ := tree_guard_bad (n := n) (D := D) (xs := []) (hs _) (by rw [List.append_nil]; exact Mx) hx
    refine Wp.callN e2 ?_
    clear Mx
    have Mx := M2
    repeat (first | ((with_reducible apply Wp.obind); (with_reducible exact avInt_int _ _)) | ((with_reducible apply Wp.ld2 Mx); rfl) | ((with_reducible apply Wp.lr2 Mx); rfl) | ((with_reducible apply Wp.sa2 Mx); rfl; rfl; (rfl); intro _ Mz; clear Mx; have Mx := Mz; clear Mz) | ((with_reducible apply Wp.lr3 Mx); rfl) | ((with_reducible apply Wp.sa3 Mx); rfl; rfl; (rfl); intro _ Mz; clear Mx; have Mx := Mz; clear Mz) | ((with_reducible refine Wp.chk ?_ ?_); focus ((repeat' (first | (with_reducible exact rfl) | (with_reducible apply and_t) | ((with_reducible apply Mem.rr2 Mx); kernel_rfl; kernel_rfl))); done)) | (with_reducible refine Wp.lett ?_) | ((with_reducible apply Wp.obind); (with_reducible exact avAgg_agg _)) | ((with_reducible refine Wp.ift ?_ ?_); ((with_reducible apply bne_t); omega)))
    exact Wp.ret ⟨rfl, Mx.tch⟩
   | ok t =>
    obtain ⟨c, T, h', e, kt, M'⟩ : ∃ c T h', pattern_Tree (world n (D + 2)) n [.int .i64 3, strA u] h = some (.ret (.tup [.agg c, .agg [.int .i64 0, .int .i64 0]]), h') ∧ NodeT t c T ∧ Mem [] h h' T := by
     suffices hK : Wp (pattern_Tree (world n (D + 2)) n [.int .i64 3, strA u] h) fun r h' => ∃ c T, r = .ret (.tup [.agg c, .agg [.int .i64 0, .int .i64 0]]) ∧ NodeT t c T ∧ Mem [] h h' T by
      obtain ⟨_, h', e, c, T, rfl, k1, k2⟩ := hK
      exact ⟨c, T, h', e, k1, k2⟩
     unfold pattern_Tree
     have ll := lenS_nat u
     have Mx := Mem.nil [] h
     repeat (first | ((with_reducible apply Wp.obind); (with_reducible first | exact avInt_int _ _ | exact avStr_str _ | exact fldP_ptr _ _ _)) | ((with_reducible apply Wp.sa0 Mx); rfl; rfl; (rfl); intro _ Mz; clear Mx; have Mx := Mz; clear Mz) | ((with_reducible apply Wp.ld2 Mx); rfl) | ((with_reducible apply Wp.mnew Mx); intro _ Mz; clear Mx; have Mx := Mz; clear Mz) | ((with_reducible apply Wp.mbox Mx); (rfl); intro _ Mz; clear Mx; have Mx := Mz; clear Mz) | (with_reducible refine Wp.join1 (fun _ _ => ?_)) | (with_reducible refine Wp.lett ?_) | ((with_reducible refine Wp.ift ?_ ?_); ((with_reducible first | apply decide_eq_true | apply bne_t); omega)) | ((with_reducible refine Wp.iff ?_ ?_); ((with_reducible first | apply decide_eq_false | apply bne_f); omega)) | (with_reducible refine Wp.go1 (by assumption) ?_) | rw [newP_eq])
     obtain ⟨c, T, h2, p2, e2, kt, M2⟩ := tree_guard_ok (n := n) (D := D) (xs := []) rfl (hs _) (by rw [List.append_nil]; exact Mx) hx
     refine Wp.callN e2 ?_
     clear Mx
     have Mx := M2
     have hl := kt.len
     have ho := kt.one
     repeat (first | ((with_reducible apply Wp.obind); (with_reducible exact avInt_int _ _)) | ((with_reducible apply Wp.ld2 Mx); rfl) | ((with_reducible apply Wp.sa2 Mx); rfl; rfl; (rfl); intro _ Mz; clear Mx; have Mx := Mz; clear Mz) | (with_reducible refine Wp.lett ?_) | ((with_reducible apply Wp.obind); (with_reducible exact avAgg_agg _)) | ((with_reducible refine Wp.iff ?_ ?_); ((with_reducible apply bne_f); omega)))
     refine Wp.lr3 Mx hl ?_
     repeat (((with_reducible apply Wp.lr2 Mx); rfl))
     refine Wp.sa3 Mx hl hl ho fun _ Mz => ?_
     clear Mx
     have Mx := Mz
     clear Mz
     repeat (first | ((with_reducible apply Wp.sa2 Mx); rfl; rfl; (rfl); intro _ Mz; clear Mx; have Mx := Mz; clear Mz) | ((with_reducible refine Wp.chk ?_ ?_); focus ((repeat' (first | (with_reducible exact rfl) | (with_reducible apply and_t) | ((with_reducible apply Mem.rr2 Mx); kernel_rfl; kernel_rfl))); done)))
     refine Wp.lr3 Mx hl ?_
     repeat (((with_reducible apply Wp.lr2 Mx); rfl))
     exact Wp.ret ⟨c, T, rfl, kt, Mx.pop.pop.pop.pop.pop⟩
    have M2 := M'
    suffices hK : Wp (gcR h (pattern_Tree (world n (D + 2)) n [.int .i64 3, strA u] h)) fun r h' => ∃ T, r = .ret (.tup [.agg c, .agg [.int .i64 0, .int .i64 0]]) ∧ NodeT t c T ∧ Mem [] h h' T by
     obtain ⟨_, h', e, T, rfl, k1, k2⟩ := hK
     rw [← w_pattern_Tree] at e
     exact ⟨c, T, h', e, k1, k2⟩
    refine Wp.gc2 ⟨_, h', e, ⟨T, rfl, kt, M'⟩, fun _ hl => ?_⟩
    have h1 : AV.loL h.next c = true := by
     have : (AV.loL h.next c && (AV.loL h.next [.int .i64 0, .int .i64 0] && AV.loL h.next [])) = true := hl
     rw [Bool.and_eq_true] at this
     exact this.1
    have hT : T = [] := kt.low (fun y hy => (M'.row y hy).2.2.resolve_left (by simp)) h1
    subst hT
    exact ⟨[], rfl, kt, Mem.nil _ _⟩
end
mutual
def Nd.sz : Nd → Nat
 | .mk _ _ ks => szL ks + 1
def szL : List Nd → Nat
 | [] => 0
 | k :: ks => Nd.sz k + szL ks + 1
end
theorem szL_len : ∀ ks : List Nd, ks.length ≤ szL ks
 | [] => Nat.zero_le _
 | k :: ks => by
  have := szL_len ks
  rw [List.length_cons, szL]
  omega
def RowsAt (h : AHeap) (T : List RowT) : Prop := ∀ y ∈ T, RowH h y.1 y.2.1 y.2.2 ∧ y.1 < h.next
theorem RowsAt.keep {h h' : AHeap} {T : List RowT} (k : RowsAt h T) (t : Tch [] h h') : RowsAt h' T := fun y hy => ⟨(k y hy).1.tch t (k y hy).2 (by simp), Nat.lt_of_lt_of_le (k y hy).2 t.1⟩
theorem RowsAt.left {h : AHeap} {T T' : List RowT} (k : RowsAt h (T ++ T')) : RowsAt h T := fun y hy => k y (List.mem_append_left _ hy)
theorem RowsAt.right {h : AHeap} {T T' : List RowT} (k : RowsAt h (T ++ T')) : RowsAt h T' := fun y hy => k y (List.mem_append_right _ hy)
theorem grow_sli {h : AHeap} {kc : List (List AV)} {kv : AV} {T : List RowT} (g : GrowT TNode 6 kc kv T) (k : RowsAt h T) : Slc h.next h 6 kv kc := by
 refine Sli.slc (e := TNode) (lo := 0) ⟨fun r hr => g.1 r hr, ?_⟩
 rcases g.2 with ⟨h1, h2, _⟩ | ⟨h1, c, h2, rfl⟩
 ·exact .inl ⟨h1, h2⟩
 ·obtain ⟨k1, k2⟩ := k (c, TNode, kc.flatten) (by simp)
  exact .inr ⟨c, h1, h2, Nat.zero_le _, k2, k1⟩
theorem Slc.keep {h h' : AHeap} {v : AV} {kc : List (List AV)} {T : List RowT} (g : GrowT TNode 6 kc v T) (k : RowsAt h T) (t : Tch [] h h') : Slc h'.next h' 6 v kc := grow_sli g (k.keep t)
section
variable {u : Bytes} {l : List Nd} {i : Nat} {r : Res}
end
section
variable {u : Bytes}
end
section
variable {a u : Bytes} {k : Nat}
theorem memb_ok {w w' : List Nat} {i j : Nat} (h : memberF a w i = .ok (w', j)) : i < j ∧ j ≤ a.length := by
 unfold memberF at h
 split at h
 ·cases h
 ·rename_i c j' h1
  obtain ⟨_, h2, h3⟩ := memB2_ok h1
  split at h
  ·split at h
   ·cases h
   ·rename_i e k h4
    obtain ⟨_, h5, h6⟩ := memB2_ok h4
    split at h
    ·cases h
    ·cases h
     exact ⟨by omega, h6⟩
  ·cases h
   exact ⟨h2, h3⟩
theorem loopP_bnd {w : List Nat} {j : Nat} {r : Except Nat (List Nat × Nat)} (x : LoopP a w j r) : j ≤ a.length → (∀ w' j', r = .ok (w', j') → j < j' ∧ j' ≤ a.length) ∧ ∀ e, r = .error e → e ≤ a.length := by
 induction x with
 | done n =>
  intro hj
  obtain ⟨hp, _⟩ := at?_some n
  refine ⟨fun w' j' e => ?_, fun e he => by cases he⟩
  cases e
  exact ⟨by omega, by omega⟩
 | bad n h =>
  intro hj
  refine ⟨fun w' j' e => (by cases e), fun e he => ?_⟩
  cases he
  exact memberF_bad hj h
 | more n h m ih =>
  intro hj
  obtain ⟨b1, b2⟩ := memb_ok h
  obtain ⟨c1, c2⟩ := ih b2
  refine ⟨fun w' j' e => ?_, c2⟩
  obtain ⟨d1, d2⟩ := c1 w' j' e
  exact ⟨by omega, d2⟩
theorem setB_bnd {i : Nat} (hi : i ≤ a.length) : i ≤ setB a i ∧ setB a i ≤ a.length := by
 unfold setB
 by_cases h94 : at? a i = some 94
 ·obtain ⟨hp, _⟩ := at?_some h94
  rw [if_pos h94]
  omega
 ·rw [if_neg h94]
  omega
theorem setP_bad {i e : Nat} (x : SetP a i (.error e)) (hi : i ≤ a.length) : e ≤ a.length := by
 obtain ⟨s1, s2⟩ := setB_bnd hi
 generalize hr : Except.error e = r at x
 cases x with
 | bad h =>
  cases hr
  exact memberF_bad s2 h
 | set h m =>
  rename_i w j r
  obtain ⟨b1, b2⟩ := memb_ok h
  cases r with
  | error e' =>
   cases hr
   exact (loopP_bnd m b2).2 _ rfl
  | ok wj => cases hr
theorem setP_okb {i j : Nat} {w : List Nat} (x : SetP a i (.ok (w, j))) (hi : i ≤ a.length) : i < j ∧ j ≤ a.length := by
 obtain ⟨s1, s2⟩ := setB_bnd hi
 generalize hr : Except.ok (w, j) = r at x
 cases x with
 | bad h => cases hr
 | set h m =>
  rename_i w' j' r
  obtain ⟨b1, b2⟩ := memb_ok h
  cases r with
  | error e' => cases hr
  | ok wj =>
   obtain ⟨w2, j2⟩ := wj
   cases hr
   obtain ⟨c1, c2⟩ := (loopP_bnd m b2).1 _ _ rfl
   exact ⟨by omega, c2⟩
mutual
theorem altP_bnd : ∀ {l : List Nd} {i : Nat} {r : Res}, AltP a l i r → i ≤ a.length → Bnd a i r
 | _, _, _, .bad h, hi => rowP_bnd h hi
 | _, _, _, .last h _, hi => by
  obtain ⟨b1, b2⟩ := rowP_bnd h hi
  exact ⟨b1, b2⟩
 | _, _, r, .more h n m, hi => by
  have h1 := rowP_bnd h hi
  obtain ⟨hp, _⟩ := at?_some n
  have h2 := altP_bnd m (by omega)
  cases r with
  | error e => exact h2
  | ok tj =>
   obtain ⟨b1, b2⟩ := h1
   obtain ⟨b3, b4⟩ := h2
   exact ⟨by omega, b4⟩
termination_by structural _ _ _ x => x
theorem rowP_bnd : ∀ {l : List Nd} {i : Nat} {r : Res}, RowP a l i r → i ≤ a.length → Bnd a i r
 | _, _, _, .stop _, hi => ⟨Nat.le_refl _, hi⟩
 | _, _, _, .bad _ h, hi => partP_bnd h hi
 | _, _, r, .more _ h m, hi => by
  obtain ⟨b1, b2⟩ := partP_bnd h hi
  have h2 := rowP_bnd m b2
  cases r with
  | error e => exact h2
  | ok tj =>
   obtain ⟨b3, b4⟩ := h2
   exact ⟨by omega, b4⟩
termination_by structural _ _ _ x => x
theorem partP_bnd : ∀ {i : Nat} {r : Res}, PartP a i r → i ≤ a.length → Bnd1 a i r
 | _, _, .bad h, hi => atomP_bnd h hi
 | _, _, .bare h _, hi => atomP_bnd h hi
 | _, _, .sign (j := j) h n, hi => by
  obtain ⟨b1, b2⟩ := atomP_bnd h hi
  have : j < a.length := by
   rcases Nat.lt_or_ge j a.length with h | h
   ·exact h
   ·exfalso
    apply n
    unfold signAt
    rw [at?_ge h]
  exact ⟨by omega, by omega⟩
termination_by structural _ _ x => x
theorem atomP_bnd : ∀ {i : Nat} {r : Res}, AtomP a i r → i ≤ a.length → Bnd1 a i r
 | _, _, .none _, hi => hi
 | _, _, .open_bad h m, hi => by
  obtain ⟨hp, _⟩ := at?_some h
  exact altP_bnd m (by omega)
 | _, _, .open_end h m _, hi => by
  obtain ⟨hp, _⟩ := at?_some h
  exact (altP_bnd m (by omega)).2
 | _, _, .group h m n, hi => by
  obtain ⟨hp, _⟩ := at?_some h
  obtain ⟨b1, _⟩ := altP_bnd m (by omega)
  obtain ⟨hp2, _⟩ := at?_some n
  exact ⟨by omega, by omega⟩
 | _, _, .any h, hi => by
  obtain ⟨hp, _⟩ := at?_some h
  exact ⟨by omega, by omega⟩
 | _, _, .set_bad h m, hi => by
  obtain ⟨hp, _⟩ := at?_some h
  exact setP_bad m (by omega)
 | _, _, .set h m, hi => by
  obtain ⟨hp, _⟩ := at?_some h
  obtain ⟨b1, b2⟩ := setP_okb m (by omega)
  exact ⟨by omega, b2⟩
 | _, _, .sl_end h _, hi => by
  obtain ⟨hp, _⟩ := at?_some h
  exact hp
 | _, _, .sl h n, hi => by
  obtain ⟨hp, _⟩ := at?_some n
  exact ⟨by omega, by omega⟩
 | _, _, .bad h _, hi => hi
 | _, _, .one h _ _, hi => by
  obtain ⟨hp, _⟩ := at?_some h
  exact ⟨by omega, by omega⟩
termination_by structural _ _ x => x
end
structure LiesIn (a u : Bytes) (k : Nat) : Prop where
 same : ∀ i, i < a.length → at? u (k + i) = at? a i
 stop : at? u (k + a.length) = some 41
theorem LiesIn.some (s : LiesIn a u k) {i c : Nat} (h : at? a i = some c) : at? u (k + i) = some c := by
 obtain ⟨hp, _⟩ := at?_some h
 rw [s.same i hp, h]
end
def inW (w : List Nat) (i : Nat) : Bool := (w.getD (i / 64) 0).testBit (i % 64)
theorem inW_zero (i : Nat) : inW zeroW i = false := by
 unfold inW zeroW
 have : ([0, 0, 0, 0] : List Nat).getD (i / 64) 0 = 0 := by
  rw [List.getD_eq_getElem?_getD]
  match i / 64 with
  | 0 => rfl
  | 1 => rfl
  | 2 => rfl
  | 3 => rfl
  | _ + 4 => rfl
 rw [this, Nat.zero_testBit]
theorem inW_add {w : List Nat} (hw : WordsOk w) {c i : Nat} (hc : c < 256) : inW (addW w c) i = (inW w i || decide (i = c)) := by
 unfold inW addW
 have hl := hw.len
 by_cases h : c / 64 = i / 64
 ·rw [← h, List.getD_eq_getElem?_getD, List.getElem?_set_self (by omega), Option.getD_some, Nat.testBit_or, Nat.testBit_two_pow]
  congr 1
  refine decide_eq_decide.2 ⟨fun h2 => by omega, fun h2 => by rw [h2]⟩
 ·rw [List.getD_eq_getElem?_getD, List.getElem?_set_ne h, ← List.getD_eq_getElem?_getD, decide_eq_false (by intro h2; exact h (by rw [h2])), Bool.or_false]
theorem inW_others {w : List Nat} (hw : WordsOk w) {i : Nat} (hi : i < 256) : inW (othersW w) i = !inW w i := by
 unfold inW othersW
 have hl := hw.len
 have h4 : i / 64 < w.length := by omega
 rw [List.getD_eq_getElem?_getD, List.getElem?_map, List.getD_eq_getElem?_getD, List.getElem?_eq_getElem h4, Option.map_some, Option.getD_some, Option.getD_some, Nat.testBit_xor]
 have : Nat.testBit 18446744073709551615 (i % 64) = true := by
  have := Nat.testBit_two_pow_sub_one 64 (i % 64)
  rw [decide_eq_true (Nat.mod_lt _ (by decide))] at this
  exact this
 rw [this, Bool.xor_true]
theorem inW_ext {v w : List Nat} (hv : WordsOk v) (hw : WordsOk w) (h : ∀ i, i < 256 → inW v i = inW w i) : v = w := by
 have l1 := hv.len
 have l2 := hw.len
 refine List.ext_getElem (by omega) fun k h1 h2 => Nat.eq_of_testBit_eq fun j => ?_
 by_cases hj : j < 64
 ·have := h (k * 64 + j) (by omega)
  unfold inW at this
  rw [show (k * 64 + j) / 64 = k by omega, show (k * 64 + j) % 64 = j by omega, List.getD_eq_getElem?_getD, List.getD_eq_getElem?_getD, List.getElem?_eq_getElem h1, List.getElem?_eq_getElem h2] at this
  exact this
 ·have p : 18446744073709551616 ≤ 2 ^ j := by
   have := Nat.pow_le_pow_right (n := 2) (by decide) (show 64 ≤ j by omega)
   omega
  rw [Nat.testBit_lt_two_pow (Nat.lt_of_lt_of_le (hv.small _ (List.getElem_mem h1)) p), Nat.testBit_lt_two_pow (Nat.lt_of_lt_of_le (hw.small _ (List.getElem_mem h2)) p)]
noncomputable def boolsA (w : List Nat) : List AV := (List.range 256).map fun i => AV.bool (inW w i)
theorem boolsA_len (w : List Nat) : (boolsA w).length = 256 := by simp [boolsA]
theorem boolsA_get (w : List Nat) {i : Nat} (hi : i < 256) : (boolsA w)[i]? = some (.bool (inW w i)) := by
 unfold boolsA
 rw [List.getElem?_map, List.getElem?_range hi]
 rfl
theorem boolsA_set {w : List Nat} (hw : WordsOk w) {c : Nat} (hc : c < 256) : (boolsA w).set c (.bool true) = boolsA (addW w c) := by
 refine List.ext_getElem? fun i => ?_
 by_cases hi : i < 256
 ·rw [boolsA_get _ hi, inW_add hw hc]
  by_cases h : c = i
  ·subst h
   rw [List.getElem?_set_self (by rw [boolsA_len]; exact hi), decide_eq_true rfl, Bool.or_true]
  ·rw [List.getElem?_set_ne h, boolsA_get _ hi, decide_eq_false (Ne.symm h), Bool.or_false]
 ·rw [List.getElem?_eq_none (by rw [List.length_set, boolsA_len]; omega), List.getElem?_eq_none (by rw [boolsA_len]; omega)]
theorem bools0 : boolsA zeroW = [.bool false, .bool false, .bool false, .bool false, .bool false, .bool false, .bool false, .bool false, .bool false, .bool false, .bool false, .bool false, .bool false, .bool false, .bool false, .bool false, .bool false, .bool false, .bool false, .bool false, .bool false, .bool false, .bool false, .bool false, .bool false, .bool false, .bool false, .bool false, .bool false, .bool false, .bool false, .bool false, .bool false, .bool false, .bool false, .bool false, .bool false, .bool false, .bool false, .bool false, .bool false, .bool false, .bool false, .bool false, .bool false, .bool false, .bool false, .bool false, .bool false, .bool false, .bool false, .bool false, .bool false, .bool false, .bool false, .bool false, .bool false, .bool false, .bool false, .bool false, .bool false, .bool false, .bool false, .bool false, .bool false, .bool false, .bool false, .bool false, .bool false, .bool false, .bool false, .bool false, .bool false, .bool false, .bool false, .bool false, .bool false, .bool false, .bool false, .bool false, .bool false, .bool false, .bool false, .bool false, .bool false, .bool false, .bool false, .bool false, .bool false, .bool false, .bool false, .bool false, .bool false, .bool false, .bool false, .bool false, .bool false, .bool false, .bool false, .bool false, .bool false, .bool false, .bool false, .bool false, .bool false, .bool false, .bool false, .bool false, .bool false, .bool false, .bool false, .bool false, .bool false, .bool false, .bool false, .bool false, .bool false, .bool false, .bool false, .bool false, .bool false, .bool false, .bool false, .bool false, .bool false, .bool false, .bool false, .bool false, .bool false, .bool false, .bool false, .bool false, .bool false, .bool false, .bool false, .bool false, .bool false, .bool false, .bool false, .bool false, .bool false, .bool false, .bool false, .bool false, .bool false, .bool false, .bool false, .bool false, .bool false, .bool false, .bool false, .bool false, .bool false, .bool false, .bool false, .bool false, .bool false, .bool false, .bool false, .bool false, .bool false, .bool false, .bool false, .bool false, .bool false, .bool false, .bool false, .bool false, .bool false, .bool false, .bool false, .bool false, .bool false, .bool false, .bool false, .bool false, .bool false, .bool false, .bool false, .bool false, .bool false, .bool false, .bool false, .bool false, .bool false, .bool false, .bool false, .bool false, .bool false, .bool false, .bool false, .bool false, .bool false, .bool false, .bool false, .bool false, .bool false, .bool false, .bool false, .bool false, .bool false, .bool false, .bool false, .bool false, .bool false, .bool false, .bool false, .bool false, .bool false, .bool false, .bool false, .bool false, .bool false, .bool false, .bool false, .bool false, .bool false, .bool false, .bool false, .bool false, .bool false, .bool false, .bool false, .bool false, .bool false, .bool false, .bool false, .bool false, .bool false, .bool false, .bool false, .bool false, .bool false, .bool false, .bool false, .bool false, .bool false, .bool false, .bool false, .bool false, .bool false, .bool false, .bool false, .bool false, .bool false, .bool false, .bool false, .bool false, .bool false, .bool false, .bool false, .bool false, .bool false, .bool false, .bool false, .bool false] := by kernel_rfl
theorem quoU8_64 {c : Nat} (h : c < 256) : quoI .u8 (c : Int) 64 = some ((c / 64 : Nat) : Int) := by
 unfold quoI
 rw [if_neg (by decide), Int.tdiv_eq_ediv_of_nonneg (by omega), wrap_u8_mod]
 congr 1
 omega
theorem remU8_64 {c : Nat} : remI .u8 (c : Int) 64 = some ((c % 64 : Nat) : Int) := by
 unfold remI
 rw [if_neg (by decide), Int.tmod_eq_emod_of_nonneg (by omega)]
 congr 1
section
variable {n d b p q i : Nat} {h h0 : AHeap} {u : Bytes} {Q : ARes → AHeap → Prop} {S : List Nat} {xs T T0 T1 : List RowT} {kc : List (List AV)} {kv : AV} {l : List Nd} {w : List Nat}
theorem addW_zero {c : Nat} : zeroW.set (c / 64) (2 ^ (c % 64)) = spanW zeroW c 1 := by
 show _ = addW zeroW c
 unfold addW
 have : zeroW.getD (c / 64) 0 = 0 := by
  unfold zeroW
  rw [List.getD_eq_getElem?_getD]
  match c / 64 with
  | 0 => rfl
  | 1 => rfl
  | 2 => rfl
  | 3 => rfl
  | _ + 4 => rfl
 rw [this, Nat.zero_or]
theorem One_w {c : Nat} (hc : c < 256) : world n (d + 1) 64 [.int .u8 (c : Int)] h = some (.ret (.agg (nodeC 2 (spanW zeroW c 1) .nsl)), h) := by
 apply Wp.eq
 rw [w_ref09_One]
 refine Wp.gc ?_
 suffices hK : Wp (ref09_One (world n d) n c h) fun r h' => r = .ret (.agg (nodeC 2 (spanW zeroW c 1) .nsl)) ∧ Tch [] h h' from hK.mono fun r h' ⟨e, t⟩ => ⟨t.above, by rw [e]; exact nodeC_scal _ _, e, rfl⟩
 unfold ref09_One
 have Mx := Mem.nil [] h
 have hi : c / 64 < 4 := by omega
 have e1 := quoU8_64 hc
 have e2 : ∀ b, idxA 4 1 (.ptr b 1) ((c / 64 : Nat) : Int) = some (.ptr b (1 + c / 64)) := fun b => idxA_ptr hi
 have e3 := remU8_64 (c := c)
 have e4 := shlI_one (k := c % 64) (Nat.mod_lt _ (by decide))
 repeat (first | ((with_reducible apply Wp.sa0 Mx); rfl; rfl; (rfl); intro _ Mz; clear Mx; have Mx := Mz; clear Mz) | ((with_reducible apply Wp.mnew Mx); intro _ Mz; clear Mx; have Mx := Mz; clear Mz) | ((with_reducible apply Wp.obind); (with_reducible first | exact e1 | exact e2 _ | exact e3 | exact e4)) | rw [newP_eq])
 have k0 : RowH _ _ _ ([AV.int .i64 2] ++ (wordsA zeroW ++ [AV.nsl])) := Mx.at0.1
 refine Wp.st1 k0 (by simp [wordsA_len]; unfold zeroW; simp; omega) rfl fun h5 k5 t5 _ => ?_
 have hs : ([AV.int .i64 2] ++ (wordsA zeroW ++ [AV.nsl])).set (1 + c / 64) (.int .u64 ((2 ^ (c % 64) : Nat) : Int)) = nodeC 2 (spanW zeroW c 1) AV.nsl := by
  have := set_words (pre := [AV.int .i64 2]) (post := [.nsl]) (w := zeroW) (i := c / 64) (x := 2 ^ (c % 64)) hi
  rw [addW_zero] at this
  exact this
 rw [hs] at k5
 have Mz := Mem.upd (xs := []) Mx t5 k5
 clear Mx
 have Mx := Mz
 clear Mz k0 k5
 have ho := nodeC_one (kv := .nsl) (op := 2) (w := spanW zeroW c 1) rfl
 have hl : (nodeC 2 (spanW zeroW c 1) .nsl).length = 6 := nodeC_len (op := 2) (spanW_ok 1 zeroW_ok c)
 refine Wp.lr0 Mx hl ?_
 refine Wp.sa1 Mx hl rfl ho fun h6 Mz => ?_
 refine Wp.lr1 Mz hl ?_
 exact Wp.ret ⟨rfl, Mz.tch⟩
theorem All_loop {hp0 : AHeap} {pre post : List AV} {k12 : AHeap → R} (hpre : pre.length = 1) (eq : hp0.next = b) {e : TypeId} : ∀ (m f lo : Nat) (w : List Nat) (H : AHeap), m < f → lo + m = 256 → WordsOk w → RowH H b e (pre ++ (wordsA w ++ post)) →
   (∀ H', RowH H' b e (pre ++ (wordsA (spanW w lo m) ++ post)) → Tch [b] H H' → Wp (k12 H') Q) → Wp (ref09_All_L0 hp0 k12 f (lo : Int) H) Q
 | _, 0, _, _, _, hf, _, _, _, _ => by omega
 | 0, f + 1, lo, w, H, hf, hm, hw, k, hk => by
  rw [ref09_All_L0_s]
  unfold ref09_All_L0b
  repeat (first | (with_reducible refine Wp.lett ?_) | ((with_reducible refine Wp.iff ?_ ?_); ((with_reducible apply decide_eq_false); omega)))
  exact hk H k (Tch.refl _ _)
 | m + 1, f + 1, lo, w, H, hf, hm, hw, k, hk => by
  rw [ref09_All_L0_s]
  unfold ref09_All_L0b
  have hi : lo / 64 < 4 := by omega
  have hl : lo / 64 < w.length := by rw [hw.len]; exact hi
  have hc := get_words (pre := pre) (post := post) hl
  have e1 := quoI_64 (c := lo) (by omega)
  have e2 : idxA 4 1 (.ptr hp0.next 1) ((lo / 64 : Nat) : Int) = some (.ptr b (1 + lo / 64)) := by rw [eq]; exact idxA_ptr hi
  have e3 := remI_64 (c := lo)
  have e4 := shlI_one (k := lo % 64) (Nat.mod_lt _ (by decide))
  rw [hpre] at hc
  have e5 := RowH.cell' k hc
  repeat (first | (with_reducible refine Wp.lett ?_) | ((with_reducible apply Wp.obind); (with_reducible first | exact e1 | exact e2 | exact e3 | exact e4 | exact e5 | exact avInt_int _ _)) | ((with_reducible refine Wp.ift ?_ ?_); ((with_reducible apply decide_eq_true); omega)))
  rw [orI_nat (hw.get _) (pow_small (Nat.mod_lt _ (by decide)))]
  refine Wp.st1 k (by simp [wordsA_len]; omega) rfl fun h' k' t' _ => ?_
  rw [← hpre, set_words hl] at k'
  repeat (((with_reducible refine Wp.lettw ?_ ?_ ?_); omega; omega))
  have el : (lo : Int) + 1 = ((lo + 1 : Nat) : Int) := by omega
  rw [el]
  exact All_loop hpre eq m f (lo + 1) (addW w lo) h' (by omega) (by omega) (addW_ok hw lo) k' fun H' k2 t2 => hk H' k2 (t'.trans t2)
theorem All_w (hn : 300 < n) : world n (d + 1) 66 [] h = some (.ret (.agg (nodeC 2 anyW .nsl)), h) := by
 apply Wp.eq
 rw [w_ref09_All]
 refine Wp.gc ?_
 suffices hK : Wp (ref09_All (world n d) n h) fun r h' => r = .ret (.agg (nodeC 2 anyW .nsl)) ∧ Tch [] h h' from hK.mono fun r h' ⟨e, t⟩ => ⟨t.above, by rw [e]; exact nodeC_scal _ _, e, rfl⟩
 unfold ref09_All
 have Mx := Mem.nil [] h
 repeat (first | ((with_reducible apply Wp.sa0 Mx); rfl; rfl; (rfl); intro _ Mz; clear Mx; have Mx := Mz; clear Mz) | ((with_reducible apply Wp.mnew Mx); intro _ Mz; clear Mx; have Mx := Mz; clear Mz) | (with_reducible refine Wp.join0 (fun _ _ => ?_)) | rw [newP_eq])
 rename_i k12 ek12
 have k0 : RowH _ _ _ ([AV.int .i64 2] ++ (wordsA zeroW ++ [AV.nsl])) := Mx.at0.1
 refine All_loop (lo := 0) rfl rfl 256 n _ _ (by omega) rfl zeroW_ok k0 fun h5 k5 t5 => ?_
 refine Wp.go0 ek12 ?_
 have Mz := Mem.upd (xs := []) Mx t5 k5
 clear Mx
 have Mx := Mz
 clear Mz k0 k5
 have : spanW zeroW 0 256 = anyW := anyW_eq
 rw [this] at Mx
 have ho := nodeC_one (kv := .nsl) (op := 2) (w := anyW) rfl
 have hl : ([AV.int .i64 2] ++ (wordsA (anyW) ++ [AV.nsl])).length = 6 := nodeC_len (op := 2) anyW_ok
 refine Wp.lr0 Mx hl ?_
 refine Wp.sa1 Mx hl rfl ho fun h6 Mz => ?_
 refine Wp.lr1 Mz hl ?_
 exact Wp.ret ⟨rfl, Mz.tch⟩
theorem Over_r (op : Nat) (Mx : Mem S h0 h (xs ++ (T0 ++ T1))) (g : GrowT TNode 6 kc kv T0) (k : KidsT l kc T1) : ∃ c T h', world n (d + 1) 65 [.int .i64 (op : Int), kv] h = some (.ret (.agg c), h') ∧ NodeT (joinN op l) c T ∧ Mem S h0 h' (xs ++ T) := by
 have hkl := k.len
 match l, k, hkl with
 | [], k, hkl =>
  cases k
  rcases g.2 with ⟨_, rfl, rfl⟩ | ⟨hh, _⟩
  ·refine ⟨nodeC 1 zeroW .nsl, [], ?_⟩
   suffices hK : ∃ h', world n (d + 1) 65 [.int .i64 (op : Int), .nsl] h = some (.ret (.agg (nodeC 1 zeroW .nsl)), h') ∧ Mem S h0 h' (xs ++ ([] ++ [])) by
    obtain ⟨h', e, M'⟩ := hK
    exact ⟨h', e, NodeT.leaf 1 zeroW_ok, M'⟩
   apply Wp.ex
   rw [w_ref09_Over]
   unfold ref09_Over
   have hlen : lenL .nsl = some 0 := rfl
   repeat (first | ((with_reducible apply Wp.lr0 Mx); rfl) | ((with_reducible apply Wp.sa0 Mx); rfl; rfl; (rfl); intro _ Mz; clear Mx; have Mx := Mz; clear Mz) | ((with_reducible apply Wp.mnew Mx); intro _ Mz; clear Mx; have Mx := Mz; clear Mz) | (with_reducible refine Wp.lett ?_) | ((with_reducible apply Wp.obind); (with_reducible exact hlen)) | ((with_reducible refine Wp.ift ?_ ?_); ((with_reducible apply beq_t); omega)) | rw [newP_eq])
   exact Wp.ret ⟨rfl, Mx.pop⟩
  ·exact absurd rfl hh
 | [t], k, hkl =>
  obtain ⟨c, rfl, kt⟩ := k.one
  obtain ⟨q, rfl, rfl⟩ := grow_single g
  refine ⟨c, T1, ?_⟩
  suffices hK : ∃ h', world n (d + 1) 65 [.int .i64 (op : Int), .sl q 0 1 6] h = some (.ret (.agg c), h') ∧ Mem S h0 h' (xs ++ ([(q, TNode, c)] ++ T1)) by
   obtain ⟨h', e, M'⟩ := hK
   exact ⟨h', e, kt, mem_mid M'⟩
  apply Wp.ex
  rw [w_ref09_Over]
  unfold ref09_Over
  have hlen : lenL (.sl q 0 1 6) = some 1 := rfl
  have ei : idxP 6 (.sl q 0 1 6) 0 = some (.ptr q 0) := idx0 q 0
  repeat (first | ((with_reducible apply Wp.mnew Mx); intro _ Mz; clear Mx; have Mx := Mz; clear Mz) | (with_reducible refine Wp.lett ?_) | ((with_reducible apply Wp.obind); (with_reducible first | exact hlen | exact ei)) | ((with_reducible refine Wp.ift ?_ ?_); ((with_reducible apply beq_t); omega)) | ((with_reducible refine Wp.iff ?_ ?_); ((with_reducible apply beq_f); omega)) | rw [newP_eq])
  refine Wp.obind (RowH.ldAll (Mem.at (xs := _ :: xs) Mx).1 kt.len) ?_
  refine Wp.sa0 Mx kt.len rfl kt.one fun h6 Mz => ?_
  refine Wp.lr0 Mz kt.len ?_
  exact Wp.ret ⟨rfl, Mz.pop⟩
 | t :: t' :: ts, k, hkl =>
  refine ⟨nodeC op zeroW kv, T0 ++ T1, ?_⟩
  suffices hK : ∃ h', world n (d + 1) 65 [.int .i64 (op : Int), kv] h = some (.ret (.agg (nodeC op zeroW kv)), h') ∧ Mem S h0 h' (xs ++ (T0 ++ T1)) by
   obtain ⟨h', e, M'⟩ := hK
   exact ⟨h', e, NodeT.mk zeroW_ok g k, M'⟩
  apply Wp.ex
  rw [w_ref09_Over]
  unfold ref09_Over
  have hlen := g.len
  simp only [List.length_cons] at hkl
  have hl := nodeC_len (kv := kv) (op := op) zeroW_ok
  have ho := nodeC_one (op := op) (w := zeroW) g.one.1
  have hb := overBld g op
  repeat (first | ((with_reducible apply Wp.lr0 Mx); rfl) | ((with_reducible apply Wp.sa0 Mx); rfl; rfl; ((with_reducible assumption)); intro _ Mz; clear Mx; have Mx := Mz; clear Mz) | ((with_reducible apply Wp.mnew Mx); intro _ Mz; clear Mx; have Mx := Mz; clear Mz) | (with_reducible refine Wp.lett ?_) | ((with_reducible apply Wp.obind); (with_reducible first | exact hlen | exact hb)) | ((with_reducible refine Wp.iff ?_ ?_); ((with_reducible apply beq_f); omega)) | rw [newP_eq])
  exact Wp.ret ⟨rfl, Mx.pop⟩
def mem3 : Except Nat (Nat × Nat) → AV
 | .ok (c, j) => .tup [.int .u8 (c : Int), .int .i64 (j : Int), .bool true]
 | .error q => .tup [.int .u8 0, .int .i64 (q : Int), .bool false]
theorem member_w (hi : i ≤ u.length) (hu : u.length ≤ 1000000) : world n (d + 1) 89 [strA u, .int .i64 (i : Int)] h = some (.ret (mem3 (memB2 u i)), h) := by
 apply Wp.eq
 rw [w_ref09_member]
 have hsc : ∀ x, (mem3 x).scal = true := fun x => by cases x <;> rfl
 suffices hK : Wp (ref09_member (world n d) n u i h) fun r h' => r = .ret (mem3 (memB2 u i)) ∧ h' = h from Wp.gc (hK.mono fun r h' ⟨e, e2⟩ => ⟨by rw [e2]; exact Above.refl _, by rw [e]; exact hsc _, e, rfl⟩)
 unfold ref09_member memB2
 have ll := lenS_nat u
 rcases Nat.lt_or_ge i u.length with hlt | hge
 ·rw [at?_lt hlt]
  have hx := idxS_nat (l := u) hlt
  generalize hc : (u[i]).toNat = c at hx
  dsimp only
  by_cases h92 : c = 92
  ·rw [if_pos h92]
   rcases Nat.lt_or_ge (i + 1) u.length with hlt1 | hge1
   ·rw [at?_lt hlt1]
    have hx1 := idxS_nat (l := u) hlt1
    rw [show ((i + 1 : Nat) : Int) = (i : Int) + 1 by omega] at hx1
    repeat (first | (with_reducible refine Wp.join1 (fun _ _ => ?_)) | ((with_reducible refine Wp.lettw ?_ ?_ ?_); omega; omega) | (with_reducible refine Wp.lett ?_) | ((with_reducible apply Wp.obind); (with_reducible first | exact hx | exact hx1)) | ((with_reducible refine Wp.iff ?_ ?_); ((with_reducible first | apply bne_f | apply beq_f); omega)) | (with_reducible refine Wp.go1 (by assumption) ?_))
    exact Wp.ret ⟨by simp [mem3], rfl⟩
   ·rw [at?_ge hge1]
    repeat (first | (with_reducible refine Wp.join1 (fun _ _ => ?_)) | ((with_reducible refine Wp.lettw ?_ ?_ ?_); omega; omega) | (with_reducible refine Wp.lett ?_) | ((with_reducible apply Wp.obind); (with_reducible exact hx)) | ((with_reducible refine Wp.ift ?_ ?_); ((with_reducible first | apply bne_t | apply beq_t); omega)) | ((with_reducible refine Wp.iff ?_ ?_); ((with_reducible first | apply bne_f | apply beq_f); omega)) | (with_reducible refine Wp.go1 (by assumption) ?_))
    exact Wp.ret ⟨by simp [mem3], rfl⟩
  ·rw [if_neg h92]
   by_cases h1 : c = 91
   ·rw [if_pos (.inl h1)]
    repeat (first | (with_reducible refine Wp.join1 (fun _ _ => ?_)) | (with_reducible refine Wp.lett ?_) | ((with_reducible apply Wp.obind); (with_reducible exact hx)) | ((with_reducible refine Wp.ift ?_ ?_); first | (with_reducible rfl) | ((with_reducible apply beq_t); omega)) | ((with_reducible refine Wp.iff ?_ ?_); ((with_reducible apply beq_f); omega)) | (with_reducible refine Wp.go1 (by assumption) ?_))
    exact Wp.ret ⟨by simp [mem3], rfl⟩
   by_cases h2 : c = 93
   ·rw [if_pos (.inr (.inl h2))]
    repeat (first | (with_reducible refine Wp.join1 (fun _ _ => ?_)) | (with_reducible refine Wp.lett ?_) | ((with_reducible apply Wp.obind); (with_reducible exact hx)) | ((with_reducible refine Wp.ift ?_ ?_); first | (with_reducible rfl) | ((with_reducible apply beq_t); omega)) | ((with_reducible refine Wp.iff ?_ ?_); ((with_reducible apply beq_f); omega)) | (with_reducible refine Wp.go1 (by assumption) ?_))
    exact Wp.ret ⟨by simp [mem3], rfl⟩
   by_cases h3 : c = 94
   ·rw [if_pos (.inr (.inr (.inl h3)))]
    repeat (first | (with_reducible refine Wp.join1 (fun _ _ => ?_)) | (with_reducible refine Wp.lett ?_) | ((with_reducible apply Wp.obind); (with_reducible exact hx)) | ((with_reducible refine Wp.ift ?_ ?_); first | (with_reducible rfl) | ((with_reducible apply beq_t); omega)) | ((with_reducible refine Wp.iff ?_ ?_); ((with_reducible apply beq_f); omega)) | (with_reducible refine Wp.go1 (by assumption) ?_))
    exact Wp.ret ⟨by simp [mem3], rfl⟩
   by_cases h4 : c = 45
   ·rw [if_pos (.inr (.inr (.inr h4)))]
    repeat (first | (with_reducible refine Wp.join1 (fun _ _ => ?_)) | (with_reducible refine Wp.lett ?_) | ((with_reducible apply Wp.obind); (with_reducible exact hx)) | ((with_reducible refine Wp.ift ?_ ?_); ((with_reducible apply beq_t); omega)) | ((with_reducible refine Wp.iff ?_ ?_); ((with_reducible apply beq_f); omega)) | (with_reducible refine Wp.go1 (by assumption) ?_))
    exact Wp.ret ⟨by simp [mem3], rfl⟩
   ·rw [if_neg (by omega)]
    repeat (first | (with_reducible refine Wp.join1 (fun _ _ => ?_)) | ((with_reducible refine Wp.lettw ?_ ?_ ?_); omega; omega) | (with_reducible refine Wp.lett ?_) | ((with_reducible apply Wp.obind); (with_reducible exact hx)) | ((with_reducible refine Wp.ift ?_ ?_); ((with_reducible first | apply bne_t | apply beq_t); omega)) | ((with_reducible refine Wp.iff ?_ ?_); ((with_reducible apply beq_f); omega)) | (with_reducible refine Wp.go1 (by assumption) ?_))
    exact Wp.ret ⟨by simp [mem3], rfl⟩
 ·rw [at?_ge hge]
  repeat (first | (with_reducible refine Wp.join1 (fun _ _ => ?_)) | (with_reducible refine Wp.lett ?_) | ((with_reducible refine Wp.ift ?_ ?_); first | (with_reducible rfl) | ((with_reducible apply beq_t); omega)) | (with_reducible refine Wp.go1 (by assumption) ?_))
  exact Wp.ret ⟨by simp [mem3], rfl⟩
end
abbrev TBools : Nat := 109
noncomputable def set3 : Except Nat (List Nat × Nat) → AV
 | .ok (w, j) => .tup [.agg (nodeC 2 w .nsl), .int .i64 (j : Int), .bool true]
 | .error q => .tup [.agg (nodeC 0 zeroW .nsl), .int .i64 (q : Int), .bool false]
section
variable {n d i j : Nat} {h H h0 hb hx : AHeap} {u : Bytes} {Q : ARes → AHeap → Prop} {S : List Nat} {ys : List RowT} {w : List Nat} {k25 : Int → AHeap → R}
theorem bool_loop {k108 : AHeap → R} : ∀ (m f lo : Nat) (w : List Nat) (H : AHeap), m < f → lo + m ≤ 256 → WordsOk w → Mem [] h H ((hb.next, TBools, boolsA w) :: ys) →
   (∀ H', Mem [] h H' ((hb.next, TBools, boolsA (spanW w lo m)) :: ys) → Wp (k108 H') Q) → Wp (ref09_class_L2 hb ((lo + m : Nat) - 1 : Int) k108 f (lo : Int) H) Q
 | _, 0, _, _, _, hf, _, _, _, _ => by omega
 | 0, f + 1, lo, w, H, hf, hm, hw, M, hk => by
  rw [ref09_class_L2_s]
  unfold ref09_class_L2b
  repeat (first | ((with_reducible refine Wp.lettw ?_ ?_ ?_); omega; omega) | (with_reducible refine Wp.lett ?_) | ((with_reducible refine Wp.iff ?_ ?_); ((with_reducible apply decide_eq_false); omega)))
  exact hk H M
 | m + 1, f + 1, lo, w, H, hf, hm, hw, M, hk => by
  rw [ref09_class_L2_s]
  unfold ref09_class_L2b
  have hl : lo < 256 := by omega
  have e2 : idxA 256 1 (.ptr hb.next 0) ((lo : Nat) : Int) = some (.ptr hb.next lo) := by
   have := idxA_ptr (b := hb.next) (o := 0) hl
   rw [Nat.zero_add] at this
   exact this
  repeat (first | ((with_reducible refine Wp.lettw ?_ ?_ ?_); omega; omega) | (with_reducible refine Wp.lett ?_) | ((with_reducible apply Wp.obind); (with_reducible exact e2)) | ((with_reducible refine Wp.ift ?_ ?_); ((with_reducible apply decide_eq_true); omega)) | rw [newP_eq])
  refine Wp.ms0 M (by rw [boolsA_len]; exact hl) rfl fun h' M' => ?_
  rw [boolsA_set hw hl] at M'
  repeat (((with_reducible refine Wp.lettw ?_ ?_ ?_); omega; omega))
  have eh : ((lo + (m + 1) : Nat) - 1 : Int) = ((lo + 1 + m : Nat) - 1 : Int) := by omega
  have el : (lo : Int) + 1 = ((lo + 1 : Nat) : Int) := by omega
  rw [eh, el]
  exact bool_loop m f (lo + 1) (addW w lo) h' (by omega) (by omega) (addW_ok hw lo) M' hk
theorem pick_loop {nt : Bool} {k31 : AHeap → R} (hw : WordsOk w) : ∀ (m f k : Nat) (v : List Nat) (H : AHeap), m < f → k + m = 256 → WordsOk v → (∀ i, i < 256 → inW v i = (decide (i < k) && !(inW w i == nt))) → Mem [] h H ((hb.next, TBools, boolsA w) :: (hx.next, TNode, nodeC 2 v .nsl) :: ys) →
   (∀ H' v', WordsOk v' → (∀ i, i < 256 → inW v' i = !(inW w i == nt)) → Mem [] h H' ((hb.next, TBools, boolsA w) :: (hx.next, TNode, nodeC 2 v' .nsl) :: ys) → Wp (k31 H') Q) → Wp (ref09_class_L0 hx nt hb k31 f (k : Int) H) Q
 | _, 0, _, _, _, hf, _, _, _, _, _ => by omega
 | 0, f + 1, k, v, H, hf, hm, hv, hb, M, hk => by
  rw [ref09_class_L0_s]
  unfold ref09_class_L0b
  repeat (first | (with_reducible refine Wp.lett ?_) | ((with_reducible refine Wp.iff ?_ ?_); ((with_reducible apply decide_eq_false); omega)))
  refine hk H v hv (fun i hi => ?_) M
  rw [hb i hi, decide_eq_true (by omega), Bool.true_and]
 | m + 1, f + 1, k, v, H, hf, hm, hv, hbit, M, hk => by
  rw [ref09_class_L0_s]
  unfold ref09_class_L0b
  have hl : k < 256 := by omega
  have e2 : idxA 256 1 (.ptr hb.next 0) ((k : Nat) : Int) = some (.ptr hb.next k) := by
   have := idxA_ptr (b := hb.next) (o := 0) hl
   rw [Nat.zero_add] at this
   exact this
  have el : (k : Int) + 1 = ((k + 1 : Nat) : Int) := by omega
  repeat (first | (with_reducible refine Wp.lett ?_) | ((with_reducible apply Wp.obind); (with_reducible exact e2)) | ((with_reducible refine Wp.ift ?_ ?_); ((with_reducible apply decide_eq_true); omega)) | rw [newP_eq])
  refine Wp.ld0 M (boolsA_get w hl) ?_
  by_cases hb2 : (inW w k == nt) = true
  ·have hb3 : (!(inW w k == nt)) = false := by rw [hb2]; rfl
   repeat (first | (with_reducible refine Wp.join0 (fun _ _ => ?_)) | ((with_reducible refine Wp.lettw ?_ ?_ ?_); omega; omega) | (with_reducible refine Wp.lett ?_) | ((with_reducible apply Wp.obind); (with_reducible exact avBool_bool _)) | ((with_reducible refine Wp.iff ?_ ?_); (with_reducible assumption)) | (with_reducible refine Wp.go0 (by assumption) ?_))
   rw [el]
   refine pick_loop hw m f (k + 1) v H (by omega) (by omega) hv (fun i hi => ?_) M hk
   rw [hbit i hi]
   by_cases h2 : i = k
   ·subst h2
    rw [hb3, Bool.and_false, Bool.and_false]
   ·rw [decide_eq_decide.2 (show i < k ↔ i < k + 1 by omega)]
  ·have hb3 : (!(inW w k == nt)) = true := by simpa using hb2
   have hi : k / 64 < 4 := by omega
   have hl4 : k / 64 < v.length := by rw [hv.len]; exact hi
   have e1 := quoI_64 (c := k) (by omega)
   have e5 : idxA 4 1 (.ptr hx.next 1) ((k / 64 : Nat) : Int) = some (.ptr hx.next (1 + k / 64)) := idxA_ptr hi
   have e3 := remI_64 (c := k)
   have e4 := shlI_one (k := k % 64) (Nat.mod_lt _ (by decide))
   have hc : (nodeC 2 v .nsl)[1 + k / 64]? = _ := get_words (pre := [.int .i64 2]) (post := [.nsl]) hl4
   repeat (first | (with_reducible refine Wp.join0 (fun _ _ => ?_)) | (with_reducible refine Wp.lett ?_) | ((with_reducible apply Wp.obind); (with_reducible first | exact e1 | exact e5 | exact avBool_bool _)) | ((with_reducible refine Wp.ift ?_ ?_); (with_reducible assumption)))
   refine Wp.ld1 M hc ?_
   repeat (first | (with_reducible refine Wp.lett ?_) | ((with_reducible apply Wp.obind); (with_reducible first | exact e5 | exact e3 | exact e4 | exact avInt_int _ _)))
   rw [orI_nat (hv.get _) (pow_small (Nat.mod_lt _ (by decide)))]
   refine Wp.ms1 M (by rw [nodeC_len hv]; omega) rfl fun h' M' => ?_
   have hs : (nodeC 2 v .nsl).set (1 + k / 64) (.int .u64 ((v.getD (k / 64) 0 ||| 2 ^ (k % 64) : Nat) : Int)) = nodeC 2 (addW v k) .nsl := set_words (pre := [.int .i64 2]) (post := [.nsl]) hl4
   rw [hs] at M'
   repeat (first | ((with_reducible refine Wp.lettw ?_ ?_ ?_); omega; omega) | (with_reducible refine Wp.go0 (by assumption) ?_))
   rw [el]
   refine pick_loop hw m f (k + 1) (addW v k) h' (by omega) (by omega) (addW_ok hv k) (fun i hi => ?_) M' hk
   rw [inW_add hv hl, hbit i hi]
   by_cases h2 : i = k
   ·subst h2
    rw [hb3, decide_eq_true rfl, Bool.or_true, decide_eq_true (Nat.lt_succ_self _), Bool.true_and]
   ·rw [decide_eq_decide.2 (show i < k ↔ i < k + 1 by omega), decide_eq_false h2, Bool.or_false]
theorem class_enter {first : Bool} {B E : AHeap → R} (hi : j ≤ u.length) (hen : first = true ∨ at? u j ≠ some 93) (hB : Wp (B H) Q) :
  Wp (lett (fun (t37 : Bool) (h69 : AHeap) => lett (fun (t43 : Bool) (h72 : AHeap) => ifB t43 (B h72) (E h72)) fun j43 => ifB t37 (j43 true h69) (obind (idxS u (j : Int)) fun t41 => lett ((t41 : Int) != 93) fun (t42 : Bool) => j43 t42 h69)) fun j37 => ifB first (j37 true H) (lett (((j : Nat) : Int) == (lenS u)) fun (t36 : Bool) => j37 t36 H)) Q := by
 cases first with
 | true =>
  repeat (first | (with_reducible refine Wp.join1 (fun _ _ => ?_)) | ((with_reducible refine Wp.ift ?_ ?_); (with_reducible rfl)) | (with_reducible refine Wp.go1 (by assumption) ?_))
  exact hB
 | false =>
  have hne := hen.resolve_left (by simp)
  have ll := lenS_nat u
  rcases Nat.lt_or_ge j u.length with hlt | hge
  ·rw [at?_lt hlt] at hne
   have hx := idxS_nat (l := u) hlt
   have h93 : (u[j]).toNat ≠ 93 := fun hh => hne (by rw [hh])
   repeat (first | (with_reducible refine Wp.join1 (fun _ _ => ?_)) | (with_reducible refine Wp.lett ?_) | ((with_reducible apply Wp.obind); (with_reducible exact hx)) | ((with_reducible refine Wp.ift ?_ ?_); ((with_reducible first | apply bne_t | apply beq_t); omega)) | ((with_reducible refine Wp.iff ?_ ?_); first | (with_reducible rfl) | ((with_reducible apply beq_f); omega)) | (with_reducible refine Wp.go1 (by assumption) ?_))
   exact hB
  ·repeat (first | (with_reducible refine Wp.join1 (fun _ _ => ?_)) | (with_reducible refine Wp.lett ?_) | ((with_reducible refine Wp.ift ?_ ?_); first | (with_reducible rfl) | ((with_reducible apply beq_t); omega)) | ((with_reducible refine Wp.iff ?_ ?_); (with_reducible rfl)) | (with_reducible refine Wp.go1 (by assumption) ?_))
   exact hB
theorem class_leave {B E : AHeap → R} (hen : at? u j = some 93) (hE : Wp (E H) Q) :
  Wp (lett (fun (t37 : Bool) (h69 : AHeap) => lett (fun (t43 : Bool) (h72 : AHeap) => ifB t43 (B h72) (E h72)) fun j43 => ifB t37 (j43 true h69) (obind (idxS u (j : Int)) fun t41 => lett ((t41 : Int) != 93) fun (t42 : Bool) => j43 t42 h69)) fun j37 => ifB false (j37 true H) (lett (((j : Nat) : Int) == (lenS u)) fun (t36 : Bool) => j37 t36 H)) Q := by
 have ll := lenS_nat u
 obtain ⟨hlt, h93⟩ := at?_some hen
 have hx := idxS_nat (l := u) hlt
 rw [h93] at hx
 repeat (first | (with_reducible refine Wp.join1 (fun _ _ => ?_)) | (with_reducible refine Wp.lett ?_) | ((with_reducible apply Wp.obind); (with_reducible exact hx)) | ((with_reducible refine Wp.iff ?_ ?_); first | (with_reducible rfl) | ((with_reducible first | apply bne_f | apply beq_f); omega)) | (with_reducible refine Wp.go1 (by assumption) ?_))
 exact hE
theorem class_round {first : Bool} {self : Int → Bool → AHeap → R} {x z : RowT} (hu : u.length ≤ 1000000) (hn : 300 < n) (hi : j ≤ u.length) (hen : first = true ∨ at? u j ≠ some 93) (hw : WordsOk w) (hz : z.2.2.length = 6) (hz1 : z.1 = h.next) (M : Mem [] h H ((hb.next, TBools, boolsA w) :: x :: [z]))
  (hok : ∀ w' j' H', memberF u w j = .ok (w', j') → Mem [] h H' ((hb.next, TBools, boolsA w') :: x :: [z]) → Wp (self ((j' : Nat) : Int) false H') Q) (hbad : ∀ q H', memberF u w j = .error q → Tch [] h H' → Q (.ret (set3 (.error q))) H') :
  Wp (ref09_class_L1b (world n (d + 1)) n u h hb k25 self (j : Int) first H) Q := by
 obtain ⟨zb, zt, zc⟩ := z
 dsimp only at hz hz1
 subst hz1
 have ll := lenS_nat u
 unfold ref09_class_L1b
 refine class_enter hi hen ?_
 have hm1 := member_w (n := n) (d := d) (h := H) hi hu
 unfold memberF at hok hbad
 cases hb1 : memB2 u j with
 | error q =>
  rw [hb1] at hm1 hok hbad
  refine Wp.callN hm1 ?_
  unfold mem3
  repeat (first | (with_reducible refine Wp.lett ?_) | ((with_reducible apply Wp.obind); (with_reducible first | exact avInt_int _ _ | exact avBool_bool _ | exact extT_0 _ _ | exact extT_1 _ _ _ | exact extT_2 _ _ _ _)) | ((with_reducible refine Wp.ift ?_ ?_); (with_reducible exact Bool.not_false)) | rw [newP_eq])
  refine Wp.sa2 M rfl hz rfl fun _ M2 => ?_
  refine Wp.lr2 M2 rfl ?_
  exact Wp.ret (hbad q _ rfl M2.tch)
 | ok cj =>
  obtain ⟨c, j1⟩ := cj
  obtain ⟨c1, c2, c3⟩ := memB2_ok hb1
  rw [hb1] at hm1 hok hbad
  dsimp only at hok hbad
  refine Wp.callN hm1 ?_
  unfold mem3
  have ew : IntKind.i64.wrap (c : Int) = (c : Int) := wrap_i64 (by omega) (by omega)
  by_cases h45 : at? u j1 = some 45
  ·rw [if_pos h45] at hok hbad
   obtain ⟨hlt1, hc45⟩ := at?_some h45
   have hx1 := idxS_nat (l := u) hlt1
   rw [hc45] at hx1
   have hm2 := member_w (n := n) (d := d) (h := H) (i := j1 + 1) (by omega) hu
   rw [show ((j1 + 1 : Nat) : Int) = (j1 : Int) + 1 by omega] at hm2
   cases hb2 : memB2 u (j1 + 1) with
   | error q =>
    rw [hb2] at hm2 hok hbad
    unfold mem3 at hm2
    repeat (first | (with_reducible first | refine Wp.join1 (fun _ _ => ?_) | refine Wp.join2 (fun _ _ => ?_)) | ((with_reducible refine Wp.lettw ?_ ?_ ?_); omega; omega) | (with_reducible refine Wp.lett ?_) | ((with_reducible apply Wp.obind); (with_reducible first | exact hx1 | exact avInt_int _ _ | exact avBool_bool _ | exact extT_0 _ _ | exact extT_1 _ _ _ | exact extT_2 _ _ _ _)) | ((with_reducible refine Wp.ift ?_ ?_); first | (with_reducible exact Bool.not_false) | ((with_reducible first | apply decide_eq_true | apply beq_t); omega)) | ((with_reducible refine Wp.iff ?_ ?_); (with_reducible exact Bool.not_true)) | ((with_reducible apply Wp.callN); (with_reducible exact hm2)) | (with_reducible refine Wp.go1 (by assumption) ?_) | rw [newP_eq])
    refine Wp.sa2 M rfl hz rfl fun _ M2 => ?_
    refine Wp.lr2 M2 rfl ?_
    exact Wp.ret (hbad q _ rfl M2.tch)
   | ok ek =>
    obtain ⟨e, k⟩ := ek
    obtain ⟨d1, d2, d3⟩ := memB2_ok hb2
    rw [hb2] at hm2 hok hbad
    dsimp only at hok hbad
    unfold mem3 at hm2
    by_cases hlt : e < c
    ·rw [if_pos hlt] at hok hbad
     repeat (first | (with_reducible first | refine Wp.join1 (fun _ _ => ?_) | refine Wp.join2 (fun _ _ => ?_)) | ((with_reducible refine Wp.lettw ?_ ?_ ?_); omega; omega) | (with_reducible refine Wp.lett ?_) | ((with_reducible apply Wp.obind); (with_reducible first | exact hx1 | exact avInt_int _ _ | exact avBool_bool _ | exact extT_0 _ _ | exact extT_1 _ _ _ | exact extT_2 _ _ _ _)) | ((with_reducible refine Wp.ift ?_ ?_); ((with_reducible first | apply decide_eq_true | apply beq_t); omega)) | ((with_reducible refine Wp.iff ?_ ?_); (with_reducible exact Bool.not_true)) | ((with_reducible apply Wp.callN); (with_reducible exact hm2)) | (with_reducible refine Wp.go1 (by assumption) ?_) | rw [newP_eq])
     refine Wp.sa2 M rfl hz rfl fun _ M2 => ?_
     refine Wp.lr2 M2 rfl ?_
     have := hbad (k - 1) _ rfl M2.tch
     rw [set3] at this
     rw [show ((k - 1 : Nat) : Int) = (k : Int) - 1 by omega] at this
     exact Wp.ret this
    ·rw [if_neg hlt] at hok hbad
     repeat (first | (with_reducible first | refine Wp.join0 (fun _ _ => ?_) | refine Wp.join1 (fun _ _ => ?_) | refine Wp.join2 (fun _ _ => ?_)) | ((with_reducible refine Wp.lettw ?_ ?_ ?_); omega; omega) | (with_reducible refine Wp.lett ?_) | ((with_reducible apply Wp.obind); (with_reducible first | exact hx1 | exact avInt_int _ _ | exact avBool_bool _ | exact extT_0 _ _ | exact extT_1 _ _ _ | exact extT_2 _ _ _ _)) | ((with_reducible refine Wp.ift ?_ ?_); ((with_reducible first | apply decide_eq_true | apply beq_t); omega)) | ((with_reducible refine Wp.iff ?_ ?_); first | (with_reducible exact Bool.not_true) | ((with_reducible apply decide_eq_false); omega)) | ((with_reducible apply Wp.callN); (with_reducible exact hm2)) | (with_reducible first | refine Wp.go1 (by assumption) ?_ | refine Wp.go2 (by assumption) ?_))
     rename_i k108 ek108
     have eh : (e : Int) = ((c + (e + 1 - c) : Nat) - 1 : Int) := by omega
     rw [eh]
     refine bool_loop (e + 1 - c) n c w H (by omega) (by omega) hw M fun H' M2 => ?_
     refine Wp.go0 ek108 ?_
     exact hok _ _ H' rfl M2
  ·rw [if_neg h45] at hok hbad
   rcases Nat.lt_or_ge j1 u.length with hlt1 | hge1
   ·have hx1 := idxS_nat (l := u) hlt1
    rw [at?_lt hlt1] at h45
    have hc45 : (u[j1]).toNat ≠ 45 := fun hh => h45 (by rw [hh])
    have e45 : (((u[j1]).toNat : Int) == 45) = false := beq_f (by omega)
    repeat (first | (with_reducible first | refine Wp.join0 (fun _ _ => ?_) | refine Wp.join1 (fun _ _ => ?_) | refine Wp.join2 (fun _ _ => ?_)) | ((with_reducible refine Wp.lettw ?_ ?_ ?_); omega; omega) | (with_reducible refine Wp.lett ?_) | ((with_reducible apply Wp.obind); (with_reducible first | exact hx1 | exact avInt_int _ _ | exact avBool_bool _ | exact extT_0 _ _ | exact extT_1 _ _ _ | exact extT_2 _ _ _ _)) | ((with_reducible refine Wp.ift ?_ ?_); ((with_reducible first | apply decide_eq_true | apply beq_t); omega)) | ((with_reducible refine Wp.iff ?_ ?_); (with_reducible first | assumption | exact Bool.not_true)) | (with_reducible first | refine Wp.go1 (by assumption) ?_ | refine Wp.go2 (by assumption) ?_))
    rename_i k108 ek108
    refine Wp.eqx (y := ref09_class_L2 hb ((c + 1 : Nat) - 1 : Int) k108 n (c : Int) H) (by rw [show ((c + 1 : Nat) - 1 : Int) = (c : Int) by omega]) ?_
    refine bool_loop 1 n c w H (by omega) (by omega) hw M fun H' M2 => ?_
    refine Wp.go0 ek108 ?_
    exact hok _ _ H' rfl M2
   ·repeat (first | (with_reducible first | refine Wp.join0 (fun _ _ => ?_) | refine Wp.join1 (fun _ _ => ?_) | refine Wp.join2 (fun _ _ => ?_)) | ((with_reducible refine Wp.lettw ?_ ?_ ?_); omega; omega) | (with_reducible refine Wp.lett ?_) | ((with_reducible apply Wp.obind); (with_reducible first | exact avInt_int _ _ | exact avBool_bool _ | exact extT_0 _ _ | exact extT_1 _ _ _ | exact extT_2 _ _ _ _)) | ((with_reducible refine Wp.iff ?_ ?_); first | (with_reducible first | rfl | exact Bool.not_true) | ((with_reducible apply decide_eq_false); omega)) | (with_reducible first | refine Wp.go1 (by assumption) ?_ | refine Wp.go2 (by assumption) ?_))
    rename_i k108 ek108
    refine Wp.eqx (y := ref09_class_L2 hb ((c + 1 : Nat) - 1 : Int) k108 n (c : Int) H) (by rw [show ((c + 1 : Nat) - 1 : Int) = (c : Int) by omega]) ?_
    refine bool_loop 1 n c w H (by omega) (by omega) hw M fun H' M2 => ?_
    refine Wp.go0 ek108 ?_
    exact hok _ _ H' rfl M2
theorem class_loop {x z : RowT} (hu : u.length ≤ 1000000) (hn : 300 < n) (hz : z.2.2.length = 6) (hz1 : z.1 = h.next) {r : Except Nat (List Nat × Nat)} (k : LoopP u w j r) : WordsOk w → j ≤ u.length → ∀ {f : Nat} {H : AHeap}, u.length - j < f → Mem [] h H ((hb.next, TBools, boolsA w) :: x :: [z]) →
  (∀ w' j' H', r = .ok (w', j' + 1) → j' < u.length → WordsOk w' → Mem [] h H' ((hb.next, TBools, boolsA w') :: x :: [z]) → Wp (k25 ((j' : Nat) : Int) H') Q) → (∀ q H', r = .error q → Tch [] h H' → Q (.ret (set3 (.error q))) H') →
  Wp (ref09_class_L1 (world n (d + 1)) n u h hb k25 f (j : Int) false H) Q := by
 induction k with
 | done ht =>
  intro hw hi f H hf M hok hbad
  obtain ⟨hlt, _⟩ := at?_some ht
  cases f with
  | zero => omega
  | succ f =>
   rw [ref09_class_L1_s]
   unfold ref09_class_L1b
   exact class_leave ht (hok _ _ H rfl hlt hw M)
 | bad ht hm =>
  intro hw hi f H hf M hok hbad
  cases f with
  | zero => omega
  | succ f =>
   rw [ref09_class_L1_s]
   refine class_round hu hn hi (.inr ht) hw hz hz1 M (fun w' j' H' e => ?_) (fun q H' e t => ?_)
   ·rw [hm] at e
    cases e
   ·rw [hm] at e
    cases e
    exact hbad _ H' rfl t
 | more ht hm m ih =>
  intro hw hi f H hf M hok hbad
  cases f with
  | zero => omega
  | succ f =>
   rw [ref09_class_L1_s]
   refine class_round hu hn hi (.inr ht) hw hz hz1 M (fun w' j' H' e M2 => ?_) (fun q H' e t => ?_)
   ·rw [hm] at e
    cases e
    obtain ⟨m1, m2, m3⟩ := memberF_ok hw hm
    exact ih m1 m3 (by omega) M2 hok hbad
   ·rw [hm] at e
    cases e
end
end Go.Proofs.Yteibdplpbcobbaa
namespace Go.Proofs.Yteibdplpbcobbaa
open Go.RowKit Abs
theorem set3_scal (r : Except Nat (List Nat × Nat)) : (set3 r).scal = true := by
 cases r with
 | error q => rfl
 | ok wj =>
  obtain ⟨w, j⟩ := wj
  show ((AV.agg (nodeC 2 w .nsl)).scal && _) = true
  rw [nodeC_scal]
  rfl
section
variable {n d i j : Nat} {h H h0 hb hx : AHeap} {u : Bytes} {Q : ARes → AHeap → Prop} {S : List Nat} {ys : List RowT} {w : List Nat} {k25 : Int → AHeap → R}
theorem class_run {x z : RowT} (hu : u.length ≤ 1000000) (hn : 300 < n) (hn2 : u.length + 5 < n) (hi : i ≤ u.length) (hz : z.2.2.length = 6) (hz1 : z.1 = h.next) {r : Except Nat (List Nat × Nat)} (k : SetP u i r) (M : Mem [] h H ((hb.next, TBools, boolsA zeroW) :: x :: [z]))
  (hok : ∀ w' j' H', othersR u i (.ok (w', j' + 1)) = r → j' < u.length → WordsOk w' → Mem [] h H' ((hb.next, TBools, boolsA w') :: x :: [z]) → Wp (k25 ((j' : Nat) : Int) H') Q) (hbad : ∀ q H', r = .error q → Tch [] h H' → Q (.ret (set3 (.error q))) H') :
  Wp (ref09_class_L1 (world n (d + 1)) n u h hb k25 n ((setB u i : Nat) : Int) true H) Q := by
 obtain ⟨f, hf⟩ : ∃ f, n = f + 1 := ⟨n - 1, by omega⟩
 obtain ⟨s1, s2⟩ := setB_bnd (a := u) hi
 have key : ∀ self : Int → Bool → AHeap → R, (∀ w' j' H', memberF u zeroW (setB u i) = .ok (w', j') → Mem [] h H' ((hb.next, TBools, boolsA w') :: x :: [z]) → Wp (self ((j' : Nat) : Int) false H') Q) → (∀ q H', memberF u zeroW (setB u i) = .error q → Tch [] h H' → Q (.ret (set3 (.error q))) H') → Wp (ref09_class_L1b (world n (d + 1)) n u h hb k25 self ((setB u i : Nat) : Int) true H) Q := fun self => class_round hu hn s2 (.inl rfl) zeroW_ok hz hz1 M
 have e : ref09_class_L1 (world n (d + 1)) n u h hb k25 n ((setB u i : Nat) : Int) true H = ref09_class_L1b (world n (d + 1)) n u h hb k25 (ref09_class_L1 (world n (d + 1)) n u h hb k25 f) ((setB u i : Nat) : Int) true H := by
  conv => lhs; arg 7; rw [hf]
  rw [ref09_class_L1_s]
 rw [e]
 cases k with
 | bad hm =>
  refine key _ (fun w' j' H' e M2 => ?_) fun q H' e t => ?_
  ·rw [hm] at e
   cases e
  ·rw [hm] at e
   cases e
   exact hbad _ H' rfl t
 | set hm m =>
  rename_i w1 j1 r1
  obtain ⟨m1, m2, m3⟩ := memberF_ok zeroW_ok hm
  refine key _ (fun w' j' H' e M2 => ?_) fun q H' e t => ?_
  ·rw [hm] at e
   cases e
   refine class_loop hu hn hz hz1 m m1 m3 (by omega) M2 (fun w2 j2 H2 e2 => ?_) fun q H2 e2 t => ?_
   ·subst e2
    exact hok w2 j2 H2 rfl
   ·subst e2
    exact hbad q H2 rfl t
  ·rw [hm] at e
   cases e
theorem class_w (hu : u.length ≤ 1000000) (hn : 300 < n) (hn2 : u.length + 5 < n) (hi : i ≤ u.length) {r : Except Nat (List Nat × Nat)} (k : SetP u i r) : world n (d + 2) 86 [strA u, .int .i64 (i : Int)] h = some (.ret (set3 r), h) := by
 apply Wp.eq
 rw [w_ref09_class]
 suffices hK : Wp (ref09_class (world n (d + 1)) n u i h) fun v h' => v = .ret (set3 r) ∧ Tch [] h h' from Wp.gc (hK.mono fun v h' ⟨e, t⟩ => ⟨t.above, by rw [e]; exact set3_scal r, e, rfl⟩)
 unfold ref09_class
 have Mx := Mem.nil [] h
 have ll := lenS_nat u
 -- what comes behind the members
 have fin : ∀ {nt : Bool} {hb hx : AHeap} {w' : List Nat} {j' : Nat} {H' : AHeap} {xc : List AV}, nt = decide (at? u i = some 94) → othersR u i (.ok (w', j' + 1)) = r → j' < u.length → WordsOk w' → xc = nodeC 2 zeroW .nsl → Mem [] h H' ((hb.next, TBools, boolsA w') :: (hx.next, TNode, xc) :: [(h.next, TNode, nodeC 0 zeroW .nsl)]) →
   Wp (ref09_class_L0 hx nt hb (fun h32 => obind (ldRow h32 6 (newP hx)) fun t116 => lett (IntKind.i64.wrap (((j' : Nat) : Int) + 1)) fun (t118 : Int) => obind (stRow h32 6 t116 (newP h)) fun h36 => obind (ldRow h36 6 (newP h)) fun w4 => some (.ret (.tup [.agg w4, .int .i64 t118, .bool true]), h36)) n 0 H') fun v h' => v = .ret (set3 r) ∧ Tch [] h h' := by
  intro nt hb hx w' j' H' xc hnt hr hj hw exc M
  subst exc
  refine pick_loop (k := 0) (v := zeroW) hw 256 n H' (by omega) rfl zeroW_ok (fun c hc => ?_) M fun H2 v hv hbit M2 => ?_
  ·rw [inW_zero, decide_eq_false (Nat.not_lt_zero _), Bool.false_and]
  have ev : set3 r = .tup [.agg (nodeC 2 v .nsl), .int .i64 (((j' : Nat) : Int) + 1), .bool true] := by
   rw [← hr]
   unfold othersR
   rw [set3]
   have : v = if at? u i = some 94 then othersW w' else w' := by
    by_cases h94 : at? u i = some 94
    ·rw [if_pos h94]
     rw [decide_eq_true h94] at hnt
     subst hnt
     refine inW_ext hv (othersW_ok hw) fun c hc => ?_
     rw [hbit c hc, inW_others hw hc]
     cases inW w' c <;> rfl
    ·rw [if_neg h94]
     rw [decide_eq_false h94] at hnt
     subst hnt
     refine inW_ext hv hw fun c hc => ?_
     rw [hbit c hc]
     cases inW w' c <;> rfl
   rw [this]
   rfl
  rw [ev]
  rw [newP_eq, newP_eq]
  have hl := nodeC_len (kv := .nsl) (op := 2) hv
  refine Wp.lr1 M2 hl ?_
  repeat (((with_reducible refine Wp.lettw ?_ ?_ ?_); omega; omega))
  refine Wp.sa2 M2 hl rfl (nodeC_one rfl) fun _ M3 => ?_
  refine Wp.lr2 M3 hl ?_
  exact Wp.ret ⟨rfl, M3.tch⟩
 by_cases h94 : at? u i = some 94
 ·obtain ⟨hlt, h94b⟩ := at?_some h94
  have hx := idxS_nat (l := u) hlt
  rw [h94b] at hx
  have es : ((i : Nat) : Int) + 1 = ((setB u i : Nat) : Int) := by
   unfold setB
   rw [if_pos h94]
   omega
  repeat (first | ((with_reducible apply Wp.sa0 Mx); rfl; rfl; (rfl); intro _ Mz; clear Mx; have Mx := Mz; clear Mz) | ((with_reducible apply Wp.mnew Mx); intro _ Mz; clear Mx; have Mx := Mz; clear Mz) | (with_reducible refine Wp.join1 (fun _ _ => ?_)) | ((with_reducible refine Wp.lettw ?_ ?_ ?_); omega; omega) | (with_reducible refine Wp.lett ?_) | ((with_reducible apply Wp.obind); (with_reducible exact hx)) | ((with_reducible refine Wp.ift ?_ ?_); ((with_reducible first | apply decide_eq_true | apply beq_t); omega)) | (with_reducible refine Wp.go1 (by assumption) ?_) | rw [newP_eq])
  rename_i k25 ek25
  rw [← bools0] at Mx
  rw [es]
  refine class_run hu hn hn2 hi rfl rfl k Mx (fun w' j' H' hr hj hw M2 => ?_) fun q H' e t => ⟨by rw [e], t⟩
  refine Wp.go1 ek25 ?_
  exact fin (by rw [decide_eq_true h94]; rfl) hr hj hw rfl M2
 ·have es : ((i : Nat) : Int) = ((setB u i : Nat) : Int) := by
   unfold setB
   rw [if_neg h94]
  rcases Nat.lt_or_ge i u.length with hlt | hge
  ·have hx := idxS_nat (l := u) hlt
   have hne : (u[i]).toNat ≠ 94 := fun hh => h94 (by rw [at?_lt hlt, hh])
   have e94 : (((u[i]).toNat : Int) == 94) = false := beq_f (by omega)
   repeat (first | ((with_reducible apply Wp.sa0 Mx); rfl; rfl; (rfl); intro _ Mz; clear Mx; have Mx := Mz; clear Mz) | ((with_reducible apply Wp.mnew Mx); intro _ Mz; clear Mx; have Mx := Mz; clear Mz) | (with_reducible refine Wp.join1 (fun _ _ => ?_)) | (with_reducible refine Wp.lett ?_) | ((with_reducible apply Wp.obind); (with_reducible exact hx)) | ((with_reducible refine Wp.ift ?_ ?_); ((with_reducible first | apply decide_eq_true | apply beq_t); omega)) | ((with_reducible refine Wp.iff ?_ ?_); (with_reducible assumption)) | (with_reducible refine Wp.go1 (by assumption) ?_) | rw [newP_eq])
   rename_i k25 ek25
   rw [← bools0] at Mx
   have ek26 := ek25
   rw [es]
   refine class_run hu hn hn2 hi rfl rfl k Mx (fun w' j' H' hr hj hw M2 => ?_) fun q H' e t => ⟨by rw [e], t⟩
   refine Wp.go1 ek26 ?_
   exact fin (by rw [decide_eq_false h94]; exact e94) hr hj hw rfl M2
  ·repeat (first | ((with_reducible apply Wp.sa0 Mx); rfl; rfl; (rfl); intro _ Mz; clear Mx; have Mx := Mz; clear Mz) | ((with_reducible apply Wp.mnew Mx); intro _ Mz; clear Mx; have Mx := Mz; clear Mz) | (with_reducible refine Wp.join1 (fun _ _ => ?_)) | (with_reducible refine Wp.lett ?_) | ((with_reducible refine Wp.iff ?_ ?_); first | (with_reducible rfl) | ((with_reducible apply decide_eq_false); omega)) | (with_reducible refine Wp.go1 (by assumption) ?_) | rw [newP_eq])
   rename_i k25 ek25
   rw [← bools0] at Mx
   rw [es]
   refine class_run hu hn hn2 hi rfl rfl k Mx (fun w' j' H' hr hj hw M2 => ?_) fun q H' e t => ⟨by rw [e], t⟩
   refine Wp.go1 ek25 ?_
   exact fin (by rw [decide_eq_false h94]) hr hj hw rfl M2
def RawN (h : AHeap) : Res → ARes → AHeap → Prop
 | .ok (t, j), v, h' => ∃ c T, v = .ret (.tup [.agg c, .int .i64 (j : Int), .bool true]) ∧ NodeT t c T ∧ Mem [] h h' T
 | .error q, v, h' => v = .ret (.tup [.agg (nodeC 0 zeroW .nsl), .int .i64 (q : Int), .bool false]) ∧ Tch [] h h'
def OutN (h : AHeap) (x : R) : Res → Prop
 | .ok (t, j) => ∃ c T h', x = some (.ret (.tup [.agg c, .int .i64 (j : Int), .bool true]), h') ∧ NodeT t c T ∧ Mem [] h h' T
 | .error q => x = some (.ret (.tup [.agg (nodeC 0 zeroW .nsl), .int .i64 (q : Int), .bool false]), h)
theorem OutN.gc {r : Res} {x : R} (k : Wp x (RawN h r)) : OutN h (gcR h x) r := by
 cases r with
 | error q =>
  apply Wp.eq
  exact Wp.gc (k.mono fun v h' ⟨e, t⟩ => ⟨t.above, by rw [e]; rfl, e, rfl⟩)
 | ok tj =>
  obtain ⟨t, j⟩ := tj
  obtain ⟨v, h', e, c, T, rfl, kt, M⟩ := k
  suffices hK : Wp (gcR h x) fun r h' => ∃ T, r = .ret (.tup [.agg c, .int .i64 (j : Int), .bool true]) ∧ NodeT t c T ∧ Mem [] h h' T by
   obtain ⟨_, h', e, T, rfl, k1, k2⟩ := hK
   exact ⟨c, T, h', e, k1, k2⟩
  refine Wp.gc2 ⟨_, h', e, ⟨T, rfl, kt, M⟩, fun _ hl => ?_⟩
  have h1 : AV.loL h.next c = true := by
   have : (AV.loL h.next c && (true && (true && AV.loL h.next []))) = true := hl
   rw [Bool.and_eq_true] at this
   exact this.1
  have hT : T = [] := kt.low (fun y hy => (M.row y hy).2.2.resolve_left (by simp)) h1
  subst hT
  exact ⟨[], rfl, kt, Mem.nil _ _⟩
theorem Wp.callOk {x : R} {t : Nd} {rs : List RowT} {k : AV → AHeap → R} (hx : OutN h x (.ok (t, j))) (M : Mem S h0 h rs) (hk : ∀ c T h', NodeT t c T → Mem S h0 h' (rs ++ T) → Wp (k (.tup [.agg c, .int .i64 (j : Int), .bool true]) h') Q) : Wp (callN x k) Q := by
 obtain ⟨c, T, h', e, kt, M'⟩ := hx
 exact Wp.callN e (hk c T h' kt (Mem.frameT (xs := []) (ys := []) M M'))
theorem Wp.callBad {x : R} {q : Nat} {k : AV → AHeap → R} (hx : OutN h x (.error q)) (hk : Wp (k (.tup [.agg (nodeC 0 zeroW .nsl), .int .i64 (q : Int), .bool false]) h) Q) : Wp (callN x k) Q := Wp.callN hx hk
end
noncomputable def bad3 (q : Nat) : AV := .tup [.agg (nodeC 0 zeroW .nsl), .int .i64 (q : Int), .bool false]
def AtomM (u : Bytes) (n i : Nat) (r : Res) : Prop := ∀ {D : Nat} {h : AHeap}, 3 * (u.length - i) + 5 ≤ D → memB TNode h.ex = false → OutN h (world n D 80 [strA u, .int .i64 (i : Int)] h) r
def RowM (u : Bytes) (n : Nat) (l : List Nd) (i : Nat) (r : Res) : Prop := ∀ {D f : Nat} {h H : AHeap} {kc : List (List AV)} {kv : AV} {T0 T1 : List RowT} {z : List AV} {k7 : Int → AV → AHeap → R} {Q : ARes → AHeap → Prop}, 3 * (u.length - i) + 5 ≤ D → u.length - i < f → GrowT TNode 6 kc kv T0 → KidsT l kc T1 → memB TNode h.ex = false → l.length ≤ i → z.length = 6 → Mem [] h H ((h.next, TNode, z) :: (T0 ++ T1)) →
 (∀ l' j kc kv T0 T1 H', r = .ok (joinN 3 l', j) → GrowT TNode 6 kc kv T0 → KidsT l' kc T1 → Mem [] h H' ((h.next, TNode, z) :: (T0 ++ T1)) → Wp (k7 ((j : Nat) : Int) kv H') Q) →
 (∀ q H', r = .error q → Tch [] h H' → Q (.ret (bad3 q)) H') → Wp (ref09_row_L0 (world n D) u h k7 f (i : Int) kv H) Q
def AltM (u : Bytes) (n : Nat) (l : List Nd) (i : Nat) (r : Res) : Prop := ∀ {D f : Nat} {h H : AHeap} {kc : List (List AV)} {kv : AV} {T0 T1 : List RowT} {z : List AV}, 3 * (u.length - i) + 6 ≤ D → u.length - i < f → GrowT TNode 6 kc kv T0 → KidsT l kc T1 → memB TNode h.ex = false → l.length ≤ i → z.length = 6 → Mem [] h H ((h.next, TNode, z) :: (T0 ++ T1)) →
 Wp (ref09_alts_L0 (world n D) u h f (i : Int) kv H) (RawN h r)
section
variable {n i j q : Nat} {u : Bytes} {l : List Nd} {r : Res} {t : Nd} {w : List Nat}
theorem row_call (hu : u.length ≤ 1000000) (hn2 : u.length + 5 < n) {D : Nat} {h : AHeap} (k : RowM u n [] i r) (hD : 3 * (u.length - i) + 6 ≤ D) (hx : memB TNode h.ex = false) : OutN h (world n D 67 [strA u, .int .i64 (i : Int)] h) r := by
 obtain ⟨D, rfl⟩ : ∃ D', D = D' + 1 := ⟨D - 1, by omega⟩
 rw [w_ref09_row]
 refine OutN.gc ?_
 unfold ref09_row
 refine Wp.mnew (Mem.nil [] h) fun h1 M1 => ?_
 ((with_reducible refine Wp.join2 (fun _ _ => ?_)))
 rename_i k7 ek7
 refine k (by omega) (by omega) (GrowT.nil _ _) .nil hx (Nat.zero_le _) rfl M1 (fun l' j kc kv T0 T1 H' hr g ks M2 => ?_) fun q H' hr ht => ?_
 ·subst hr
  refine Wp.go2 ek7 ?_
  obtain ⟨D, rfl⟩ : ∃ D', D = D' + 1 := ⟨D - 1, by omega⟩
  obtain ⟨c, T, h2, e2, kt, M3⟩ := Over_r (n := n) (d := D) 3 (xs := [_]) M2 g ks
  refine Wp.callN e2 (Wp.obind (avAgg_agg _) ?_)
  rw [newP_eq]
  refine Wp.sa0 M3 kt.len rfl kt.one fun h3 M4 => ?_
  refine Wp.lr0 M4 kt.len ?_
  exact Wp.ret ⟨c, T, rfl, kt, M4.pop⟩
 ·subst hr
  exact ⟨rfl, ht⟩
theorem alt_call (hn2 : u.length + 5 < n) {D : Nat} {h : AHeap} (k : AltM u n [] i r) (hD : 3 * (u.length - i) + 7 ≤ D) (hx : memB TNode h.ex = false) : OutN h (world n D 43 [strA u, .int .i64 (i : Int)] h) r := by
 obtain ⟨D, rfl⟩ : ∃ D', D = D' + 1 := ⟨D - 1, by omega⟩
 rw [w_ref09_alts]
 refine OutN.gc ?_
 unfold ref09_alts
 refine Wp.mnew (Mem.nil [] h) fun h1 M1 => ?_
 exact k (by omega) (by omega) (GrowT.nil _ _) .nil hx (Nat.zero_le _) rfl M1
theorem alt_bad (hu : u.length ≤ 1000000) (hn2 : u.length + 5 < n) (k : RowM u n [] i (.error q)) : AltM u n l i (.error q) := by
 intro D f h H kc kv T0 T1 z hD hf g ks hx hl hz M
 obtain ⟨f, rfl⟩ : ∃ f', f = f' + 1 := ⟨f - 1, by omega⟩
 have hc := row_call hu hn2 (h := H) k hD (by rw [M.ex]; exact hx)
 rw [ref09_alts_L0_s]
 unfold ref09_alts_L0b
 refine Wp.callBad hc ?_
 have Mx := M
 have hb : (nodeC 0 zeroW .nsl).length = 6 := rfl
 repeat (first | ((with_reducible apply Wp.obind); (with_reducible first | exact avInt_int _ _ | exact avBool_bool _)) | ((with_reducible apply Wp.sa0 Mx); rfl; rfl; (rfl); intro _ Mz; clear Mx; have Mx := Mz; clear Mz) | ((with_reducible apply Wp.mnew Mx); intro _ Mz; clear Mx; have Mx := Mz; clear Mz) | (with_reducible refine Wp.lett ?_) | ((with_reducible apply Wp.obind); (with_reducible first | exact avAgg_agg _ | exact extT_0 _ _ | exact extT_1 _ _ _ | exact extT_2 _ _ _ _)) | ((with_reducible refine Wp.ift ?_ ?_); (with_reducible exact Bool.not_false)) | rw [newP_eq])
 refine Wp.sa1 Mx rfl hz rfl fun _ M2 => ?_
 refine Wp.lr1 M2 rfl ?_
 exact Wp.ret ⟨rfl, M2.tch⟩
theorem alt_step {D : Nat} {h H : AHeap} {kc : List (List AV)} {kv : AV} {T0 T1 : List RowT} {z : List AV} {Q : ARes → AHeap → Prop} (hu : u.length ≤ 1000000) (hn2 : u.length + 5 < n) (k : RowM u n [] i (.ok (t, j))) (hD : 3 * (u.length - i) + 6 ≤ D) (g : GrowT TNode 6 kc kv T0) (ks : KidsT l kc T1) (hx : memB TNode h.ex = false) (hl : l.length ≤ 1000000) (M : Mem [] h H ((h.next, TNode, z) :: (T0 ++ T1))) (self : Int → AV → AHeap → R)
  (hk : ∀ kc' kv' T0' T1' H', GrowT TNode 6 kc' kv' T0' → KidsT (l ++ [t]) kc' T1' → Mem [] h H' ((h.next, TNode, z) :: (T0' ++ T1')) → Wp (lett (((j : Nat) : Int) == (lenS u)) fun (t29 : Bool) =>
  lett (fun (t35 : Bool) (h_39 : AHeap) =>
   ifB t35
   (
    callN (world n D 65 [.int .i64 4, kv'] h_39) fun r37 h_43 =>
    obind (avAgg r37) fun t37 =>
    obind (stRow h_43 6 t37 (newP h)) fun h_46 =>
    obind (ldRow h_46 6 (newP h)) fun w4_49 =>
    some (.ret (.tup [.agg w4_49, .int .i64 ((j : Nat) : Int), .bool true]), h_46))
   (
    lett (IntKind.i64.wrap (((j : Nat) : Int) + 1)) fun (t40 : Int) =>
    self t40 kv' h_39)) fun j35 =>
  ifB t29
  (
   j35 true H')
  (
   obind (idxS u ((j : Nat) : Int)) fun t33 =>
   lett ((t33 : Int) != 124) fun (t34 : Bool) =>
   j35 t34 H')) Q) : Wp (ref09_alts_L0b (world n D) u h self (i : Int) kv H) Q := by
 have hc := row_call hu hn2 (h := H) k hD (by rw [M.ex]; exact hx)
 unfold ref09_alts_L0b
 refine Wp.callOk hc M fun c T h2 kt M2 => ?_
 refine Wp.obind (extT_0 _ _) (Wp.obind (avAgg_agg _) (Wp.obind (extT_1 _ _ _) (Wp.obind (avInt_int _ _) (Wp.obind (extT_2 _ _ _ _) (Wp.obind (avBool_bool _) ?_)))))
 refine Wp.mnew M2 fun h3 M3 => ?_
 rw [newP_eq, newP_eq]
 refine Wp.sa0 M3 kt.len rfl kt.one fun h4 M4 => ?_
 refine Wp.lett (Wp.iff rfl ?_)
 refine Wp.lr0 M4 kt.len ?_
 refine Wp.nodeGrow M4 g ks kt hx (by omega) fun kv' h' T0' g' ks' M5 => ?_
 have := hk _ kv' T0' _ h' g' ks' M5.pop
 rw [newP_eq] at this
 exact this
theorem alt_last (hu : u.length ≤ 1000000) (hn2 : u.length + 5 < n) (hj : j ≤ u.length) (k : RowM u n [] i (.ok (t, j))) (ne : at? u j ≠ some 124) (hi : i ≤ u.length) : AltM u n l i (.ok (joinN 4 (l ++ [t]), j)) := by
 intro D f h H kc kv T0 T1 z hD hf g ks hx hl hz M
 obtain ⟨f, rfl⟩ : ∃ f', f = f' + 1 := ⟨f - 1, by omega⟩
 rw [ref09_alts_L0_s]
 refine alt_step hu hn2 k hD g ks hx (by omega) M _ fun kc' kv' T0' T1' H' g' ks' M2 => ?_
 have ll := lenS_nat u
 obtain ⟨D, rfl⟩ : ∃ D', D = D' + 1 := ⟨D - 1, by omega⟩
 obtain ⟨c, T, h2, e2, kt, M3⟩ := Over_r (n := n) (d := D) 4 (xs := [_]) M2 g' ks'
 rcases Nat.lt_or_ge j u.length with hlt | hge
 ·have hx1 := idxS_nat (l := u) hlt
  rw [at?_lt hlt] at ne
  have hne : (u[j]).toNat ≠ 124 := fun hh => ne (by rw [hh])
  repeat (first | (with_reducible refine Wp.join1 (fun _ _ => ?_)) | (with_reducible refine Wp.lett ?_) | ((with_reducible apply Wp.obind); (with_reducible exact hx1)) | ((with_reducible refine Wp.ift ?_ ?_); ((with_reducible first | apply bne_t | apply beq_t); omega)) | ((with_reducible refine Wp.iff ?_ ?_); ((with_reducible apply beq_f); omega)) | (with_reducible refine Wp.go1 (by assumption) ?_) | rw [newP_eq])
  refine Wp.callN e2 (Wp.obind (avAgg_agg _) ?_)
  refine Wp.sa0 M3 kt.len hz kt.one fun h3 M4 => ?_
  refine Wp.lr0 M4 kt.len ?_
  exact Wp.ret ⟨c, T, rfl, kt, M4.pop⟩
 ·repeat (first | (with_reducible refine Wp.join1 (fun _ _ => ?_)) | (with_reducible refine Wp.lett ?_) | ((with_reducible refine Wp.ift ?_ ?_); first | (with_reducible rfl) | ((with_reducible apply beq_t); omega)) | (with_reducible refine Wp.go1 (by assumption) ?_) | rw [newP_eq])
  refine Wp.callN e2 (Wp.obind (avAgg_agg _) ?_)
  refine Wp.sa0 M3 kt.len hz kt.one fun h3 M4 => ?_
  refine Wp.lr0 M4 kt.len ?_
  exact Wp.ret ⟨c, T, rfl, kt, M4.pop⟩
theorem alt_more (hu : u.length ≤ 1000000) (hn2 : u.length + 5 < n) (hij : i ≤ j) (k : RowM u n [] i (.ok (t, j))) (ne : at? u j = some 124) (hi : i ≤ u.length) (m : AltM u n (l ++ [t]) (j + 1) r) : AltM u n l i r := by
 intro D f h H kc kv T0 T1 z hD hf g ks hx hl hz M
 obtain ⟨f, rfl⟩ : ∃ f', f = f' + 1 := ⟨f - 1, by omega⟩
 rw [ref09_alts_L0_s]
 refine alt_step hu hn2 k hD g ks hx (by omega) M _ fun kc' kv' T0' T1' H' g' ks' M2 => ?_
 have ll := lenS_nat u
 obtain ⟨hlt, h124⟩ := at?_some ne
 have hx1 := idxS_nat (l := u) hlt
 rw [h124] at hx1
 repeat (first | (with_reducible refine Wp.join1 (fun _ _ => ?_)) | ((with_reducible refine Wp.lettw ?_ ?_ ?_); omega; omega) | (with_reducible refine Wp.lett ?_) | ((with_reducible apply Wp.obind); (with_reducible exact hx1)) | ((with_reducible refine Wp.iff ?_ ?_); ((with_reducible first | apply bne_f | apply beq_f); omega)) | (with_reducible refine Wp.go1 (by assumption) ?_))
 rw [show (j : Int) + 1 = ((j + 1 : Nat) : Int) by omega]
 exact m (by omega) (by omega) g' ks' hx (by simp; omega) hz M2
theorem row_stop (hi : i ≤ u.length) (s : stops u i) : RowM u n l i (.ok (joinN 3 l, i)) := by
 intro D f h H kc kv T0 T1 z k7 Q hD hf g ks hx hl hz M hok hbad
 obtain ⟨f, rfl⟩ : ∃ f', f = f' + 1 := ⟨f - 1, by omega⟩
 have hfin := hok l i kc kv T0 T1 H rfl g ks M
 have ll := lenS_nat u
 rw [ref09_row_L0_s]
 unfold ref09_row_L0b
 rcases s with hc | hc | hc
 ·have := at?_none hc hi
  repeat (first | (with_reducible refine Wp.join1 (fun _ _ => ?_)) | (with_reducible refine Wp.lett ?_) | ((with_reducible refine Wp.iff ?_ ?_); first | (with_reducible rfl) | ((with_reducible apply decide_eq_false); omega)) | (with_reducible refine Wp.go1 (by assumption) ?_))
  exact hfin
 ·obtain ⟨hlt, h124⟩ := at?_some hc
  have hx1 := idxS_nat (l := u) hlt
  rw [h124] at hx1
  repeat (first | (with_reducible refine Wp.join1 (fun _ _ => ?_)) | (with_reducible refine Wp.lett ?_) | ((with_reducible apply Wp.obind); (with_reducible exact hx1)) | ((with_reducible refine Wp.ift ?_ ?_); ((with_reducible first | apply decide_eq_true | apply bne_t); omega)) | ((with_reducible refine Wp.iff ?_ ?_); first | (with_reducible rfl) | ((with_reducible apply bne_f); omega)) | (with_reducible refine Wp.go1 (by assumption) ?_))
  exact hfin
 ·obtain ⟨hlt, h41⟩ := at?_some hc
  have hx1 := idxS_nat (l := u) hlt
  rw [h41] at hx1
  repeat (first | (with_reducible refine Wp.join1 (fun _ _ => ?_)) | (with_reducible refine Wp.lett ?_) | ((with_reducible apply Wp.obind); (with_reducible exact hx1)) | ((with_reducible refine Wp.ift ?_ ?_); ((with_reducible first | apply decide_eq_true | apply bne_t); omega)) | ((with_reducible refine Wp.iff ?_ ?_); ((with_reducible apply bne_f); omega)) | (with_reducible refine Wp.go1 (by assumption) ?_))
  exact hfin
theorem go_in (s : ¬ stops u i) : ∃ h : i < u.length, (u[i]).toNat ≠ 124 ∧ (u[i]).toNat ≠ 41 := by
 rcases Nat.lt_or_ge i u.length with h | h
 ·refine ⟨h, fun hh => s (.inr (.inl ?_)), fun hh => s (.inr (.inr ?_))⟩
  ·rw [at?_lt h, hh]
  ·rw [at?_lt h, hh]
 ·exact absurd (.inl (at?_ge h)) s
theorem row_bad (s : ¬ stops u i) (k : AtomM u n i (.error q)) : RowM u n l i (.error q) := by
 intro D f h H kc kv T0 T1 z k7 Q hD hf g ks hx hl hz M hok hbad
 obtain ⟨f, rfl⟩ : ∃ f', f = f' + 1 := ⟨f - 1, by omega⟩
 have ll := lenS_nat u
 obtain ⟨hlt, n1, n2⟩ := go_in s
 have hx1 := idxS_nat (l := u) hlt
 have e41 : (((u[i]).toNat : Int) != 41) = true := bne_t (by omega)
 rw [ref09_row_L0_s]
 unfold ref09_row_L0b
 repeat (first | (with_reducible refine Wp.join1 (fun _ _ => ?_)) | (with_reducible refine Wp.lett ?_) | ((with_reducible apply Wp.obind); (with_reducible exact hx1)) | ((with_reducible refine Wp.ift ?_ ?_); first | (with_reducible assumption) | ((with_reducible first | apply decide_eq_true | apply bne_t); omega)) | (with_reducible refine Wp.go1 (by assumption) ?_) | rw [newP_eq])
 refine Wp.callBad (k hD (by rw [M.ex]; exact hx)) ?_
 have Mx := M
 repeat (first | ((with_reducible apply Wp.obind); (with_reducible first | exact avInt_int _ _ | exact avBool_bool _)) | ((with_reducible apply Wp.sa0 Mx); rfl; rfl; (rfl); intro _ Mz; clear Mx; have Mx := Mz; clear Mz) | ((with_reducible apply Wp.mnew Mx); intro _ Mz; clear Mx; have Mx := Mz; clear Mz) | (with_reducible refine Wp.lett ?_) | ((with_reducible apply Wp.obind); (with_reducible first | exact avAgg_agg _ | exact extT_0 _ _ | exact extT_1 _ _ _ | exact extT_2 _ _ _ _)) | ((with_reducible refine Wp.ift ?_ ?_); (with_reducible exact Bool.not_false)) | rw [newP_eq])
 refine Wp.sa1 Mx rfl hz rfl fun _ M2 => ?_
 refine Wp.lr1 M2 rfl ?_
 exact Wp.ret (hbad q _ rfl M2.tch)
end
theorem sign_pos {u : Bytes} {j : Nat} (h : signAt u j ≠ 0) : ∃ c, at? u j = some c ∧ ((c = 42 ∧ signAt u j = 5) ∨ (c = 43 ∧ signAt u j = 6) ∨ (c = 63 ∧ signAt u j = 7)) := by
 unfold signAt at h ⊢
 cases hc : at? u j with
 | none =>
  rw [hc] at h
  exact absurd rfl h
 | some c =>
  rw [hc] at h
  refine ⟨c, rfl, ?_⟩
  dsimp only at h ⊢
  unfold signOp at h ⊢
  split at h
  ·exact .inl ⟨rfl, rfl⟩
  ·exact .inr (.inl ⟨rfl, rfl⟩)
  ·exact .inr (.inr ⟨rfl, rfl⟩)
  ·exact absurd rfl h
theorem sign_zero {u : Bytes} {j : Nat} (h : signAt u j = 0) {c : Nat} (hc : at? u j = some c) : c ≠ 42 ∧ c ≠ 43 ∧ c ≠ 63 := by
 rw [signAt_some hc] at h
 refine ⟨fun hh => ?_, fun hh => ?_, fun hh => ?_⟩ <;> subst hh <;> exact absurd h (by decide)
section
variable {n i j q : Nat} {u : Bytes} {l : List Nd} {r : Res} {t : Nd} {w : List Nat}
theorem row_step {D : Nat} {h H : AHeap} {kv : AV} {T0 T1 : List RowT} {z : List AV} {Q : ARes → AHeap → Prop} {k7 : Int → AV → AHeap → R} (s : ¬ stops u i) (k : AtomM u n i (.ok (t, j))) (hD : 3 * (u.length - i) + 5 ≤ D) (hx : memB TNode h.ex = false) (M : Mem [] h H ((h.next, TNode, z) :: (T0 ++ T1))) (self : Int → AV → AHeap → R)
  (hk : ∀ c T q H', NodeT t c T → Mem [] h H' ((q, TNode, c) :: (((h.next, TNode, z) :: (T0 ++ T1)) ++ T)) → Wp (lett (decide (((j : Nat) : Int) < (lenS u))) fun (t43 : Bool) =>
     lett (fun (t11 : Int) (h_58 : AHeap) =>
      lett (decide (t11 > 0)) fun (t54 : Bool) =>
      lett (fun (t1_63 : Int) (h_64 : AHeap) =>
       obind (ldRow h_64 6 (.ptr q 0)) fun t62 =>
       outK (bldSl Try.prog h_64 TNodes 1 [(0, .agg t62)]) fun v63 h_66 =>
       outK (opAppend Try.prog h_66 TNodes TNodes kv v63) fun v64 h_68 =>
       self t1_63 v64 h_68) fun k62 =>
      ifB t54
      (
       obind (ldRow h_58 6 (.ptr q 0)) fun t56 =>
       outK (bldSl Try.prog h_58 TNodes 1 [(0, .agg t56)]) fun v57 h_72 =>
       obind (bldS Try.prog TNode [(0, .int .i64 t11), (2, v57)]) fun t58 =>
       obind (stRow h_72 6 t58 (.ptr q 0)) fun h_75 =>
       lett (IntKind.i64.wrap (((j : Nat) : Int) + 1)) fun (t60 : Int) =>
       k62 t60 h_75)
      (
       k62 ((j : Nat) : Int) h_58)) fun k57 =>
     ifB t43
     (
      obind (idxS u ((j : Nat) : Int)) fun t46 =>
      lett ((t46 : Int) == 42) fun (t48 : Bool) =>
      lett (fun (t11_84 : Int) (h_85 : AHeap) =>
       k57 t11_84 h_85) fun k83 =>
      ifB t48
      (
       k83 5 H')
      (
       lett ((t46 : Int) == 43) fun (t50 : Bool) =>
       lett (fun (t11_89 : Int) (h_90 : AHeap) =>
        k83 t11_89 h_90) fun k88 =>
       ifB t50
       (
        k88 6 H')
       (
        lett ((t46 : Int) == 63) fun (t52 : Bool) =>
        lett (fun (t11_94 : Int) (h_95 : AHeap) =>
         k88 t11_94 h_95) fun k93 =>
        ifB t52
        (
         k93 7 H')
        (
         k93 0 H'))))
     (
      k57 0 H')) Q) : Wp (ref09_row_L0b (world n D) u h k7 self (i : Int) kv H) Q := by
 have ll := lenS_nat u
 obtain ⟨hlt, n1, n2⟩ := go_in s
 have hx1 := idxS_nat (l := u) hlt
 have e41 : (((u[i]).toNat : Int) != 41) = true := bne_t (by omega)
 unfold ref09_row_L0b
 repeat (first | (with_reducible refine Wp.join1 (fun _ _ => ?_)) | (with_reducible refine Wp.lett ?_) | ((with_reducible apply Wp.obind); (with_reducible exact hx1)) | ((with_reducible refine Wp.ift ?_ ?_); first | (with_reducible assumption) | ((with_reducible first | apply decide_eq_true | apply bne_t); omega)) | (with_reducible refine Wp.go1 (by assumption) ?_) | rw [newP_eq])
 refine Wp.callOk (k hD (by rw [M.ex]; exact hx)) M fun c T h2 kt M2 => ?_
 refine Wp.obind (extT_0 _ _) (Wp.obind (avAgg_agg _) (Wp.obind (extT_1 _ _ _) (Wp.obind (avInt_int _ _) (Wp.obind (extT_2 _ _ _ _) (Wp.obind (avBool_bool _) ?_)))))
 refine Wp.mnew M2 fun h3 M3 => ?_
 rw [newP_eq]
 refine Wp.sa0 M3 kt.len rfl kt.one fun h4 M4 => ?_
 refine Wp.lett (Wp.iff rfl ?_)
 exact hk c T h2.next h4 kt M4
theorem row_bare (hu : u.length ≤ 1000000) (hij : i < j) (hj : j ≤ u.length) (hi : i ≤ u.length) (s : ¬ stops u i) (k : AtomM u n i (.ok (t, j))) (n0 : signAt u j = 0) (m : RowM u n (l ++ [t]) j r) : RowM u n l i r := by
 intro D f h H kc kv T0 T1 z k7 Q hD hf g ks hx hl hz M hok hbad
 obtain ⟨f, rfl⟩ : ∃ f', f = f' + 1 := ⟨f - 1, by omega⟩
 have ll := lenS_nat u
 rw [ref09_row_L0_s]
 refine row_step s k hD hx M _ fun c T q H' kt M2 => ?_
 have fin : Wp (obind (ldRow H' 6 (.ptr q 0)) fun t62 =>
       outK (bldSl Try.prog H' TNodes 1 [(0, .agg t62)]) fun v63 h_66 =>
       outK (opAppend Try.prog h_66 TNodes TNodes kv v63) fun v64 h_68 =>
       ref09_row_L0 (world n D) u h k7 f ((j : Nat) : Int) v64 h_68) Q := by
  refine Wp.lr0 M2 kt.len ?_
  refine Wp.nodeGrow M2 g ks kt hx (by omega) fun kv' h' T0' g' ks' M5 => ?_
  exact m (by omega) (by omega) g' ks' hx (by simp; omega) hz M5.pop hok hbad
 rcases Nat.lt_or_ge j u.length with hlt | hge
 ·obtain ⟨z1, z2, z3⟩ := sign_zero n0 (at?_lt hlt)
  have hx1 := idxS_nat (l := u) hlt
  repeat (first | (with_reducible refine Wp.join1 (fun _ _ => ?_)) | (with_reducible refine Wp.lett ?_) | ((with_reducible apply Wp.obind); (with_reducible exact hx1)) | ((with_reducible refine Wp.ift ?_ ?_); ((with_reducible first | apply decide_eq_true | apply beq_t); omega)) | ((with_reducible refine Wp.iff ?_ ?_); ((with_reducible first | apply decide_eq_false | apply beq_f); omega)) | (with_reducible refine Wp.go1 (by assumption) ?_))
  exact fin
 ·repeat (first | (with_reducible refine Wp.join1 (fun _ _ => ?_)) | (with_reducible refine Wp.lett ?_) | ((with_reducible refine Wp.iff ?_ ?_); ((with_reducible apply decide_eq_false); omega)) | (with_reducible refine Wp.go1 (by assumption) ?_))
  exact fin
theorem row_sign (hu : u.length ≤ 1000000) (hij : i < j) (hi : i ≤ u.length) (s : ¬ stops u i) (k : AtomM u n i (.ok (t, j))) (n0 : signAt u j ≠ 0) (m : RowM u n (l ++ [overN (signAt u j) [t]]) (j + 1) r) : RowM u n l i r := by
 intro D f h H kc kv T0 T1 z k7 Q hD hf g ks hx hl hz M hok hbad
 obtain ⟨f, rfl⟩ : ∃ f', f = f' + 1 := ⟨f - 1, by omega⟩
 have ll := lenS_nat u
 rw [ref09_row_L0_s]
 refine row_step s k hD hx M _ fun c T q H' kt M2 => ?_
 obtain ⟨c0, hc0, hs⟩ := sign_pos n0
 obtain ⟨hlt, hc1⟩ := at?_some hc0
 have fin : ∀ k62 : Int → AHeap → R, (k62 = fun (t1_63 : Int) (h_64 : AHeap) => obind (ldRow h_64 6 (.ptr q 0)) fun t62 =>
       outK (bldSl Try.prog h_64 TNodes 1 [(0, .agg t62)]) fun v63 h_66 =>
       outK (opAppend Try.prog h_66 TNodes TNodes kv v63) fun v64 h_68 =>
       ref09_row_L0 (world n D) u h k7 f t1_63 v64 h_68) → Wp (obind (ldRow H' 6 (.ptr q 0)) fun t56 =>
       outK (bldSl Try.prog H' TNodes 1 [(0, .agg t56)]) fun v57 h_72 =>
       obind (bldS Try.prog TNode [(0, .int .i64 ((signAt u j : Nat) : Int)), (2, v57)]) fun t58 =>
       obind (stRow h_72 6 t58 (.ptr q 0)) fun h_75 =>
       lett (IntKind.i64.wrap (((j : Nat) : Int) + 1)) fun (t60 : Int) => k62 t60 h_75) Q := by
  intro k62 ek62
  refine Wp.lr0 M2 kt.len ?_
  refine Wp.mnews M2 (kt.bld _) kt.one hx fun h72 M3 => ?_
  refine Wp.obind (bldOver1 _ _ _) ?_
  have kt' := signed kt (signAt u j) H'.next
  have M4 : Mem [] h h72 ((q, TNode, c) :: (((h.next, TNode, z) :: (T0 ++ T1)) ++ ([(H'.next, TNode, c)] ++ (T ++ [])))) := M3.perm (by
   rw [List.append_nil]
   exact (List.Perm.cons _ (List.perm_append_comm_assoc ((h.next, TNode, z) :: (T0 ++ T1)) [(H'.next, TNode, c)] T)).trans (List.Perm.swap _ _ _))
  refine Wp.sa0 M4 rfl kt.len rfl fun h75 M5 => ?_
  repeat (first | ((with_reducible refine Wp.lettw ?_ ?_ ?_); omega; omega) | (with_reducible refine Wp.go1 (by assumption) ?_))
  refine Wp.lr0 M5 rfl ?_
  refine Wp.nodeGrow M5 g ks kt' hx (by omega) fun kv' h' T0' g' ks' M6 => ?_
  rw [show (j : Int) + 1 = ((j + 1 : Nat) : Int) by omega]
  exact m (by omega) (by omega) g' ks' hx (by simp; omega) hz M6.pop hok hbad
 have hx1 := idxS_nat (l := u) hlt
 rw [hc1] at hx1
 rcases hs with ⟨rfl, hs⟩ | ⟨rfl, hs⟩ | ⟨rfl, hs⟩
 ·rw [hs] at fin
  repeat (first | (with_reducible refine Wp.join1 (fun _ _ => ?_)) | (with_reducible refine Wp.lett ?_) | ((with_reducible apply Wp.obind); (with_reducible exact hx1)) | ((with_reducible refine Wp.ift ?_ ?_); ((with_reducible first | apply decide_eq_true | apply beq_t); omega)) | (with_reducible refine Wp.go1 (by assumption) ?_))
  rename_i k62 ek62
  exact fin k62 ek62
 ·rw [hs] at fin
  repeat (first | (with_reducible refine Wp.join1 (fun _ _ => ?_)) | (with_reducible refine Wp.lett ?_) | ((with_reducible apply Wp.obind); (with_reducible exact hx1)) | ((with_reducible refine Wp.ift ?_ ?_); ((with_reducible first | apply decide_eq_true | apply beq_t); omega)) | ((with_reducible refine Wp.iff ?_ ?_); ((with_reducible apply beq_f); omega)) | (with_reducible refine Wp.go1 (by assumption) ?_))
  rename_i k62 ek62
  exact fin k62 ek62
 ·rw [hs] at fin
  repeat (first | (with_reducible refine Wp.join1 (fun _ _ => ?_)) | (with_reducible refine Wp.lett ?_) | ((with_reducible apply Wp.obind); (with_reducible exact hx1)) | ((with_reducible refine Wp.ift ?_ ?_); ((with_reducible first | apply decide_eq_true | apply beq_t); omega)) | ((with_reducible refine Wp.iff ?_ ?_); ((with_reducible apply beq_f); omega)) | (with_reducible refine Wp.go1 (by assumption) ?_))
  rename_i k62 ek62
  exact fin k62 ek62
end
section
variable {n i j q : Nat} {u : Bytes} {l : List Nd} {r : Res} {t : Nd} {w : List Nat}
theorem loopP_words {r : Except Nat (List Nat × Nat)} (k : LoopP u w j r) : WordsOk w → ∀ w' j', r = .ok (w', j') → WordsOk w' := by
 induction k with
 | done ht =>
  intro hw w' j' e
  cases e
  exact hw
 | bad ht hm =>
  intro hw w' j' e
  cases e
 | more ht hm m ih =>
  intro hw
  exact ih (memberF_ok hw hm).1
theorem setP_words {r : Except Nat (List Nat × Nat)} (k : SetP u i r) : ∀ w' j', r = .ok (w', j') → WordsOk w' := by
 intro w' j' e
 cases k with
 | bad hm => cases e
 | set hm m =>
  rename_i w1 j1 r1
  cases r1 with
  | error q => cases e
  | ok wj =>
   obtain ⟨w2, j2⟩ := wj
   have := loopP_words m (memberF_ok zeroW_ok hm).1 w2 j2 rfl
   unfold othersR at e
   cases e
   split
   ·exact othersW_ok this
   ·exact this
theorem rowP_end : ∀ {l : List Nd} {i : Nat} {r : Res}, RowP u l i r → ∀ t j, r = .ok (t, j) → stops u j
 | _, _, _, .stop s, _, _, e => by
  cases e
  exact s
 | _, _, _, .bad _ _, _, _, e => by cases e
 | _, _, _, .more _ _ m, t, j, e => rowP_end m t j e
termination_by structural _ _ _ x => x
theorem altP_end : ∀ {l : List Nd} {i : Nat} {r : Res}, AltP u l i r → ∀ t j, r = .ok (t, j) → at? u j = none ∨ at? u j = some 41
 | _, _, _, .bad _, _, _, e => by cases e
 | _, _, _, .last h n, t, j, e => by
  cases e
  rcases rowP_end h _ _ rfl with s | s | s
  ·exact .inl s
  ·exact absurd s n
  ·exact .inr s
 | _, _, _, .more _ _ m, t, j, e => altP_end m t j e
termination_by structural _ _ _ x => x
theorem atom_open_bad (hu : u.length ≤ 1000000) (hn2 : u.length + 5 < n) (h0 : at? u i = some 40) (m : AltM u n [] (i + 1) (.error q)) : AtomM u n i (.error q) := by
 intro D h hD hx
 obtain ⟨D, rfl⟩ : ∃ D', D = D' + 1 := ⟨D - 1, by omega⟩
 obtain ⟨hlt, hc⟩ := at?_some h0
 have hx1 := idxS_nat (l := u) hlt
 rw [hc] at hx1
 rw [w_ref09_atom]
 refine OutN.gc ?_
 unfold ref09_atom
 have ll := lenS_nat u
 refine Wp.mnew (Mem.nil [] h) fun h2 M => ?_
 have ho := alt_call hn2 (h := h2) m (show 3 * (u.length - (i + 1)) + 7 ≤ D by omega) (by rw [M.ex]; exact hx)
 repeat (first | ((with_reducible refine Wp.lettw ?_ ?_ ?_); omega; omega) | (with_reducible refine Wp.lett ?_) | ((with_reducible apply Wp.obind); (with_reducible exact hx1)) | ((with_reducible refine Wp.ift ?_ ?_); ((with_reducible apply beq_t); omega)) | rw [newP_eq])
 refine Wp.callBad ho ?_
 have Mx := M
 repeat (first | ((with_reducible apply Wp.obind); (with_reducible first | exact avInt_int _ _ | exact avBool_bool _)) | ((with_reducible apply Wp.lr0 Mx); rfl) | ((with_reducible apply Wp.sa0 Mx); rfl; rfl; (rfl); intro _ Mz; clear Mx; have Mx := Mz; clear Mz) | ((with_reducible apply Wp.lr1 Mx); rfl) | ((with_reducible apply Wp.sa1 Mx); rfl; rfl; (rfl); intro _ Mz; clear Mx; have Mx := Mz; clear Mz) | ((with_reducible apply Wp.mnew Mx); intro _ Mz; clear Mx; have Mx := Mz; clear Mz) | (with_reducible refine Wp.lett ?_) | ((with_reducible apply Wp.obind); (with_reducible first | exact avAgg_agg _ | exact extT_0 _ _ | exact extT_1 _ _ _ | exact extT_2 _ _ _ _)) | ((with_reducible refine Wp.ift ?_ ?_); (with_reducible exact Bool.not_false)) | rw [newP_eq])
 exact Wp.ret ⟨rfl, Mx.tch⟩
theorem atom_open_end (hu : u.length ≤ 1000000) (hn2 : u.length + 5 < n) (h0 : at? u i = some 40) (m : AltM u n [] (i + 1) (.ok (t, j))) (hj : j = u.length) : AtomM u n i (.error j) := by
 intro D h hD hx
 obtain ⟨D, rfl⟩ : ∃ D', D = D' + 1 := ⟨D - 1, by omega⟩
 obtain ⟨hlt, hc⟩ := at?_some h0
 have hx1 := idxS_nat (l := u) hlt
 rw [hc] at hx1
 rw [w_ref09_atom]
 refine OutN.gc ?_
 unfold ref09_atom
 have ll := lenS_nat u
 refine Wp.mnew (Mem.nil [] h) fun h2 M => ?_
 have ho := alt_call hn2 (h := h2) m (show 3 * (u.length - (i + 1)) + 7 ≤ D by omega) (by rw [M.ex]; exact hx)
 repeat (first | ((with_reducible refine Wp.lettw ?_ ?_ ?_); omega; omega) | (with_reducible refine Wp.lett ?_) | ((with_reducible apply Wp.obind); (with_reducible exact hx1)) | ((with_reducible refine Wp.ift ?_ ?_); ((with_reducible apply beq_t); omega)) | rw [newP_eq])
 refine Wp.callOk ho M fun c T h3 kt M2 => ?_
 refine Wp.obind (extT_0 _ _) (Wp.obind (avAgg_agg _) (Wp.obind (extT_1 _ _ _) (Wp.obind (avInt_int _ _) (Wp.obind (extT_2 _ _ _ _) (Wp.obind (avBool_bool _) ?_)))))
 refine Wp.mnew M2 fun h4 M3 => ?_
 refine Wp.sa0 M3 kt.len rfl kt.one fun h5 M4 => ?_
 repeat (first | (with_reducible refine Wp.lett ?_) | ((with_reducible refine Wp.ift ?_ ?_); ((with_reducible apply beq_t); omega)) | ((with_reducible refine Wp.iff ?_ ?_); (with_reducible exact Bool.not_true)))
 refine Wp.sa1 M4 rfl rfl rfl fun h6 M5 => ?_
 refine Wp.lr1 M5 rfl ?_
 exact Wp.ret ⟨rfl, M5.tch⟩
theorem atom_group (hu : u.length ≤ 1000000) (hn2 : u.length + 5 < n) (h0 : at? u i = some 40) (m : AltM u n [] (i + 1) (.ok (t, j))) (hj : j < u.length) : AtomM u n i (.ok (t, j + 1)) := by
 intro D h hD hx
 obtain ⟨D, rfl⟩ : ∃ D', D = D' + 1 := ⟨D - 1, by omega⟩
 obtain ⟨hlt, hc⟩ := at?_some h0
 have hx1 := idxS_nat (l := u) hlt
 rw [hc] at hx1
 rw [w_ref09_atom]
 refine OutN.gc ?_
 unfold ref09_atom
 have ll := lenS_nat u
 refine Wp.mnew (Mem.nil [] h) fun h2 M => ?_
 have ho := alt_call hn2 (h := h2) m (show 3 * (u.length - (i + 1)) + 7 ≤ D by omega) (by rw [M.ex]; exact hx)
 repeat (first | ((with_reducible refine Wp.lettw ?_ ?_ ?_); omega; omega) | (with_reducible refine Wp.lett ?_) | ((with_reducible apply Wp.obind); (with_reducible exact hx1)) | ((with_reducible refine Wp.ift ?_ ?_); ((with_reducible apply beq_t); omega)) | rw [newP_eq])
 refine Wp.callOk ho M fun c T h3 kt M2 => ?_
 refine Wp.obind (extT_0 _ _) (Wp.obind (avAgg_agg _) (Wp.obind (extT_1 _ _ _) (Wp.obind (avInt_int _ _) (Wp.obind (extT_2 _ _ _ _) (Wp.obind (avBool_bool _) ?_)))))
 refine Wp.mnew M2 fun h4 M3 => ?_
 refine Wp.sa0 M3 kt.len rfl kt.one fun h5 M4 => ?_
 repeat (first | (with_reducible refine Wp.lett ?_) | ((with_reducible refine Wp.iff ?_ ?_); first | (with_reducible exact Bool.not_true) | ((with_reducible apply beq_f); omega)) | rw [newP_eq])
 refine Wp.lr0 M4 kt.len ?_
 repeat (((with_reducible refine Wp.lettw ?_ ?_ ?_); omega; omega))
 refine Wp.sa1 M4 kt.len rfl kt.one fun h6 M5 => ?_
 refine Wp.lr1 M5 kt.len ?_
 exact Wp.ret ⟨c, T, by rw [show ((j + 1 : Nat) : Int) = (j : Int) + 1 by omega], kt, M5.pop.pop⟩
theorem atom_any (hn : 300 < n) (hu : u.length ≤ 1000000) (h0 : at? u i = some 46) : AtomM u n i (.ok (anyN, i + 1)) := by
 intro D h hD hx
 obtain ⟨D, rfl⟩ : ∃ D', D = D' + 1 := ⟨D - 1, by omega⟩
 obtain ⟨hlt, hc⟩ := at?_some h0
 have hx1 := idxS_nat (l := u) hlt
 rw [hc] at hx1
 rw [w_ref09_atom]
 refine OutN.gc ?_
 unfold ref09_atom
 have ll := lenS_nat u
 refine Wp.mnew (Mem.nil [] h) fun h2 M => ?_
 obtain ⟨D, rfl⟩ : ∃ D', D = D' + 1 := ⟨D - 1, by omega⟩
 repeat (first | (with_reducible refine Wp.lett ?_) | ((with_reducible apply Wp.obind); (with_reducible exact hx1)) | ((with_reducible refine Wp.ift ?_ ?_); ((with_reducible apply beq_t); omega)) | ((with_reducible refine Wp.iff ?_ ?_); ((with_reducible apply beq_f); omega)) | rw [newP_eq])
 refine Wp.callN (All_w hn) (Wp.obind (avAgg_agg _) ?_)
 repeat (((with_reducible refine Wp.lettw ?_ ?_ ?_); omega; omega))
 have kt : NodeT anyN (nodeC 2 anyW .nsl) [] := NodeT.leaf 2 anyW_ok
 refine Wp.sa0 M kt.len rfl kt.one fun h5 M4 => ?_
 refine Wp.lr0 M4 kt.len ?_
 exact Wp.ret ⟨_, [], by rw [show ((i + 1 : Nat) : Int) = (i : Int) + 1 by omega], kt, M4.pop⟩
theorem atom_set (hn : 300 < n) (hu : u.length ≤ 1000000) (hn2 : u.length + 5 < n) (h0 : at? u i = some 91) (m : SetP u (i + 1) (.ok (w, j))) : AtomM u n i (.ok (.mk 2 w [], j)) := by
 intro D h hD hx
 obtain ⟨D, rfl⟩ : ∃ D', D = D' + 1 := ⟨D - 1, by omega⟩
 obtain ⟨hlt, hc⟩ := at?_some h0
 have hx1 := idxS_nat (l := u) hlt
 rw [hc] at hx1
 rw [w_ref09_atom]
 refine OutN.gc ?_
 unfold ref09_atom
 have ll := lenS_nat u
 refine Wp.mnew (Mem.nil [] h) fun h2 M => ?_
 obtain ⟨D, rfl⟩ : ∃ D', D = D' + 2 := ⟨D - 2, by omega⟩
 have ho := class_w (n := n) (d := D) (h := h2) hu hn hn2 (show i + 1 ≤ u.length by omega) m
 rw [show ((i + 1 : Nat) : Int) = (i : Int) + 1 by omega, set3] at ho
 repeat (first | ((with_reducible refine Wp.lettw ?_ ?_ ?_); omega; omega) | (with_reducible refine Wp.lett ?_) | ((with_reducible apply Wp.obind); (with_reducible first | exact hx1 | exact avInt_int _ _ | exact avBool_bool _ | exact avAgg_agg _ | exact extT_0 _ _ | exact extT_1 _ _ _ | exact extT_2 _ _ _ _)) | ((with_reducible refine Wp.ift ?_ ?_); ((with_reducible apply beq_t); omega)) | ((with_reducible refine Wp.iff ?_ ?_); ((with_reducible apply beq_f); omega)) | ((with_reducible apply Wp.callN); (with_reducible exact ho)) | rw [newP_eq])
 have kt : NodeT (.mk 2 w []) (nodeC 2 w .nsl) [] := NodeT.leaf 2 (setP_words m _ _ rfl)
 refine Wp.sa0 M kt.len rfl kt.one fun h5 M4 => ?_
 refine Wp.lr0 M4 kt.len ?_
 exact Wp.ret ⟨_, [], rfl, kt, M4.pop⟩
theorem atom_set_bad (hn : 300 < n) (hu : u.length ≤ 1000000) (hn2 : u.length + 5 < n) (h0 : at? u i = some 91) (m : SetP u (i + 1) (.error q)) : AtomM u n i (.error q) := by
 intro D h hD hx
 obtain ⟨D, rfl⟩ : ∃ D', D = D' + 1 := ⟨D - 1, by omega⟩
 obtain ⟨hlt, hc⟩ := at?_some h0
 have hx1 := idxS_nat (l := u) hlt
 rw [hc] at hx1
 rw [w_ref09_atom]
 refine OutN.gc ?_
 unfold ref09_atom
 have ll := lenS_nat u
 refine Wp.mnew (Mem.nil [] h) fun h2 M => ?_
 obtain ⟨D, rfl⟩ : ∃ D', D = D' + 2 := ⟨D - 2, by omega⟩
 have ho := class_w (n := n) (d := D) (h := h2) hu hn hn2 (show i + 1 ≤ u.length by omega) m
 rw [show ((i + 1 : Nat) : Int) = (i : Int) + 1 by omega, set3] at ho
 repeat (first | ((with_reducible refine Wp.lettw ?_ ?_ ?_); omega; omega) | (with_reducible refine Wp.lett ?_) | ((with_reducible apply Wp.obind); (with_reducible first | exact hx1 | exact avInt_int _ _ | exact avBool_bool _ | exact avAgg_agg _ | exact extT_0 _ _ | exact extT_1 _ _ _ | exact extT_2 _ _ _ _)) | ((with_reducible refine Wp.ift ?_ ?_); ((with_reducible apply beq_t); omega)) | ((with_reducible refine Wp.iff ?_ ?_); ((with_reducible apply beq_f); omega)) | ((with_reducible apply Wp.callN); (with_reducible exact ho)) | rw [newP_eq])
 refine Wp.sa0 M rfl rfl rfl fun h5 M4 => ?_
 refine Wp.lr0 M4 rfl ?_
 exact Wp.ret ⟨rfl, M4.tch⟩
theorem atom_sl_end (hu : u.length ≤ 1000000) (h0 : at? u i = some 92) (h1 : at? u (i + 1) = none) : AtomM u n i (.error (i + 1)) := by
 intro D h hD hx
 obtain ⟨D, rfl⟩ : ∃ D', D = D' + 1 := ⟨D - 1, by omega⟩
 obtain ⟨hlt, hc⟩ := at?_some h0
 have hx1 := idxS_nat (l := u) hlt
 rw [hc] at hx1
 rw [w_ref09_atom]
 refine OutN.gc ?_
 unfold ref09_atom
 have ll := lenS_nat u
 refine Wp.mnew (Mem.nil [] h) fun h2 M => ?_
 have he := at?_none h1 (by omega)
 repeat (first | (with_reducible refine Wp.join1 (fun _ _ => ?_)) | ((with_reducible refine Wp.lettw ?_ ?_ ?_); omega; omega) | (with_reducible refine Wp.lett ?_) | ((with_reducible apply Wp.obind); (with_reducible exact hx1)) | ((with_reducible refine Wp.ift ?_ ?_); ((with_reducible apply beq_t); omega)) | ((with_reducible refine Wp.iff ?_ ?_); ((with_reducible apply beq_f); omega)) | (with_reducible refine Wp.go1 (by assumption) ?_) | rw [newP_eq])
 refine Wp.sa0 M rfl rfl rfl fun h5 M4 => ?_
 refine Wp.lr0 M4 rfl ?_
 exact Wp.ret ⟨by rw [show ((i + 1 : Nat) : Int) = (i : Int) + 1 by omega]; rfl, M4.tch⟩
theorem atom_sl {c : Nat} (hu : u.length ≤ 1000000) (h0 : at? u i = some 92) (h1 : at? u (i + 1) = some c) : AtomM u n i (.ok (oneN c, i + 2)) := by
 intro D h hD hx
 obtain ⟨D, rfl⟩ : ∃ D', D = D' + 1 := ⟨D - 1, by omega⟩
 obtain ⟨hlt, hc⟩ := at?_some h0
 have hx1 := idxS_nat (l := u) hlt
 rw [hc] at hx1
 rw [w_ref09_atom]
 refine OutN.gc ?_
 unfold ref09_atom
 have ll := lenS_nat u
 refine Wp.mnew (Mem.nil [] h) fun h2 M => ?_
 obtain ⟨hlt1, hc1⟩ := at?_some h1
 have hx2 := idxS_nat (l := u) hlt1
 rw [hc1, show ((i + 1 : Nat) : Int) = (i : Int) + 1 by omega] at hx2
 have hc256 := at?_256 h1
 obtain ⟨D, rfl⟩ : ∃ D', D = D' + 1 := ⟨D - 1, by omega⟩
 repeat (first | (with_reducible refine Wp.join1 (fun _ _ => ?_)) | ((with_reducible refine Wp.lettw ?_ ?_ ?_); omega; omega) | (with_reducible refine Wp.lett ?_) | ((with_reducible apply Wp.obind); (with_reducible first | exact hx1 | exact hx2 | exact avAgg_agg _)) | ((with_reducible refine Wp.ift ?_ ?_); ((with_reducible apply beq_t); omega)) | ((with_reducible refine Wp.iff ?_ ?_); ((with_reducible apply beq_f); omega)) | ((with_reducible apply Wp.callN); (with_reducible exact One_w hc256)) | (with_reducible refine Wp.go1 (by assumption) ?_) | rw [newP_eq])
 have kt : NodeT (oneN c) (nodeC 2 (spanW zeroW c 1) .nsl) [] := NodeT.leaf 2 (spanW_ok 1 zeroW_ok c)
 refine Wp.sa0 M kt.len rfl kt.one fun h5 M4 => ?_
 refine Wp.lr0 M4 kt.len ?_
 exact Wp.ret ⟨_, [], by rw [show ((i + 2 : Nat) : Int) = (i : Int) + 2 by omega], kt, M4.pop⟩
theorem atom_bad {c : Nat} (h0 : at? u i = some c) (hb : c = 42 ∨ c = 43 ∨ c = 63 ∨ c = 93) : AtomM u n i (.error i) := by
 intro D h hD hx
 obtain ⟨D, rfl⟩ : ∃ D', D = D' + 1 := ⟨D - 1, by omega⟩
 obtain ⟨hlt, hc⟩ := at?_some h0
 have hx1 := idxS_nat (l := u) hlt
 rw [hc] at hx1
 rw [w_ref09_atom]
 refine OutN.gc ?_
 unfold ref09_atom
 have ll := lenS_nat u
 refine Wp.mnew (Mem.nil [] h) fun h2 M => ?_
 rcases hb with rfl | rfl | rfl | rfl
 ·repeat (first | (with_reducible refine Wp.join1 (fun _ _ => ?_)) | (with_reducible refine Wp.lett ?_) | ((with_reducible apply Wp.obind); (with_reducible exact hx1)) | ((with_reducible refine Wp.ift ?_ ?_); first | (with_reducible rfl) | ((with_reducible apply beq_t); omega)) | ((with_reducible refine Wp.iff ?_ ?_); ((with_reducible apply beq_f); omega)) | (with_reducible refine Wp.go1 (by assumption) ?_) | rw [newP_eq])
  refine Wp.sa0 M rfl rfl rfl fun h5 M4 => ?_
  refine Wp.lr0 M4 rfl ?_
  exact Wp.ret ⟨rfl, M4.tch⟩
 ·repeat (first | (with_reducible refine Wp.join1 (fun _ _ => ?_)) | (with_reducible refine Wp.lett ?_) | ((with_reducible apply Wp.obind); (with_reducible exact hx1)) | ((with_reducible refine Wp.ift ?_ ?_); first | (with_reducible rfl) | ((with_reducible apply beq_t); omega)) | ((with_reducible refine Wp.iff ?_ ?_); ((with_reducible apply beq_f); omega)) | (with_reducible refine Wp.go1 (by assumption) ?_) | rw [newP_eq])
  refine Wp.sa0 M rfl rfl rfl fun h5 M4 => ?_
  refine Wp.lr0 M4 rfl ?_
  exact Wp.ret ⟨rfl, M4.tch⟩
 ·repeat (first | (with_reducible refine Wp.join1 (fun _ _ => ?_)) | (with_reducible refine Wp.lett ?_) | ((with_reducible apply Wp.obind); (with_reducible exact hx1)) | ((with_reducible refine Wp.ift ?_ ?_); first | (with_reducible rfl) | ((with_reducible apply beq_t); omega)) | ((with_reducible refine Wp.iff ?_ ?_); ((with_reducible apply beq_f); omega)) | (with_reducible refine Wp.go1 (by assumption) ?_) | rw [newP_eq])
  refine Wp.sa0 M rfl rfl rfl fun h5 M4 => ?_
  refine Wp.lr0 M4 rfl ?_
  exact Wp.ret ⟨rfl, M4.tch⟩
 ·repeat (first | (with_reducible refine Wp.join1 (fun _ _ => ?_)) | (with_reducible refine Wp.lett ?_) | ((with_reducible apply Wp.obind); (with_reducible exact hx1)) | ((with_reducible refine Wp.ift ?_ ?_); ((with_reducible apply beq_t); omega)) | ((with_reducible refine Wp.iff ?_ ?_); ((with_reducible apply beq_f); omega)) | (with_reducible refine Wp.go1 (by assumption) ?_) | rw [newP_eq])
  refine Wp.sa0 M rfl rfl rfl fun h5 M4 => ?_
  refine Wp.lr0 M4 rfl ?_
  exact Wp.ret ⟨rfl, M4.tch⟩
theorem atom_one {c : Nat} (hu : u.length ≤ 1000000) (h0 : at? u i = some c) (hb : c ≠ 42 ∧ c ≠ 43 ∧ c ≠ 63 ∧ c ≠ 93) (hm : c ≠ 40 ∧ c ≠ 46 ∧ c ≠ 91 ∧ c ≠ 92) : AtomM u n i (.ok (oneN c, i + 1)) := by
 intro D h hD hx
 obtain ⟨D, rfl⟩ : ∃ D', D = D' + 1 := ⟨D - 1, by omega⟩
 obtain ⟨hlt, hc⟩ := at?_some h0
 have hx1 := idxS_nat (l := u) hlt
 rw [hc] at hx1
 rw [w_ref09_atom]
 refine OutN.gc ?_
 unfold ref09_atom
 have ll := lenS_nat u
 refine Wp.mnew (Mem.nil [] h) fun h2 M => ?_
 have hc256 := at?_256 h0
 obtain ⟨D, rfl⟩ : ∃ D', D = D' + 1 := ⟨D - 1, by omega⟩
 obtain ⟨b1, b2, b3, b4⟩ := hb
 obtain ⟨m1, m2, m3, m4⟩ := hm
 have e93 : ((c : Int) == 93) = false := beq_f (by omega)
 repeat (first | (with_reducible refine Wp.join1 (fun _ _ => ?_)) | ((with_reducible refine Wp.lettw ?_ ?_ ?_); omega; omega) | (with_reducible refine Wp.lett ?_) | ((with_reducible apply Wp.obind); (with_reducible first | exact hx1 | exact avAgg_agg _)) | ((with_reducible refine Wp.iff ?_ ?_); first | (with_reducible assumption) | ((with_reducible apply beq_f); omega)) | ((with_reducible apply Wp.callN); (with_reducible exact One_w hc256)) | (with_reducible refine Wp.go1 (by assumption) ?_) | rw [newP_eq])
 have kt : NodeT (oneN c) (nodeC 2 (spanW zeroW c 1) .nsl) [] := NodeT.leaf 2 (spanW_ok 1 zeroW_ok c)
 refine Wp.sa0 M kt.len rfl kt.one fun h5 M4 => ?_
 refine Wp.lr0 M4 kt.len ?_
 exact Wp.ret ⟨_, [], by rw [show ((i + 1 : Nat) : Int) = (i : Int) + 1 by omega], kt, M4.pop⟩
def PartM (u : Bytes) (n i : Nat) : Res → Prop
 | .error q => ¬ stops u i → AtomM u n i (.error q)
 | .ok (t, j) => ∀ l r', ¬ stops u i → RowM u n (l ++ [t]) j r' → RowM u n l i r'
mutual
theorem altM (hu : u.length ≤ 1000000) (hn : 300 < n) (hn2 : u.length + 5 < n) : ∀ {l : List Nd} {i : Nat} {r : Res}, AltP u l i r → i ≤ u.length → AltM u n l i r
 | _, _, _, .bad h, hi => alt_bad hu hn2 (rowM hu hn hn2 h hi)
 | _, _, _, .last h ne, hi => alt_last hu hn2 (rowP_bnd h hi).2 (rowM hu hn hn2 h hi) ne hi
 | _, _, _, .more h ne m, hi => alt_more hu hn2 (rowP_bnd h hi).1 (rowM hu hn hn2 h hi) ne hi (altM hu hn hn2 m (by
   obtain ⟨hp, _⟩ := at?_some ne
   omega))
termination_by structural _ _ _ x => x
theorem rowM (hu : u.length ≤ 1000000) (hn : 300 < n) (hn2 : u.length + 5 < n) : ∀ {l : List Nd} {i : Nat} {r : Res}, RowP u l i r → i ≤ u.length → RowM u n l i r
 | _, _, _, .stop s, hi => row_stop hi s
 | _, _, _, .bad s h, hi => row_bad s (partM hu hn hn2 h hi s)
 | l, _, r, .more s h m, hi => partM hu hn hn2 h hi l r s (rowM hu hn hn2 m (partP_bnd h hi).2)
termination_by structural _ _ _ x => x
theorem partM (hu : u.length ≤ 1000000) (hn : 300 < n) (hn2 : u.length + 5 < n) : ∀ {i : Nat} {r : Res}, PartP u i r → i ≤ u.length → PartM u n i r
 | _, _, .bad h, hi => fun s => atomM hu hn hn2 h hi s
 | _, _, .bare h n0, hi => fun _ _ s m => row_bare hu (atomP_bnd h hi).1 (atomP_bnd h hi).2 hi s (atomM hu hn hn2 h hi s) n0 m
 | _, _, .sign h n0, hi => fun _ _ s m => row_sign hu (atomP_bnd h hi).1 hi s (atomM hu hn hn2 h hi s) n0 m
termination_by structural _ _ x => x
theorem atomM (hu : u.length ≤ 1000000) (hn : 300 < n) (hn2 : u.length + 5 < n) : ∀ {i : Nat} {r : Res}, AtomP u i r → i ≤ u.length → ¬ stops u i → AtomM u n i r
 | _, _, .none h, hi, s => absurd (.inl h) s
 | _, _, .open_bad h m, hi, _ => atom_open_bad hu hn2 h (altM hu hn hn2 m (by
   obtain ⟨hp, _⟩ := at?_some h
   omega))
 | _, _, .open_end h m ne, hi, _ => by
  obtain ⟨hp, _⟩ := at?_some h
  have e := (altP_end m _ _ rfl).resolve_right ne
  have hj := at?_none e (altP_bnd m (by omega)).2
  exact atom_open_end hu hn2 h (altM hu hn hn2 m (by omega)) hj
 | _, _, .group h m ne, hi, _ => by
  obtain ⟨hp, _⟩ := at?_some h
  obtain ⟨hj, _⟩ := at?_some ne
  exact atom_group hu hn2 h (altM hu hn hn2 m (by omega)) hj
 | _, _, .any h, hi, _ => atom_any hn hu h
 | _, _, .set_bad h m, hi, _ => atom_set_bad hn hu hn2 h m
 | _, _, .set h m, hi, _ => atom_set hn hu hn2 h m
 | _, _, .sl_end h h1, hi, _ => atom_sl_end hu h h1
 | _, _, .sl h h1, hi, _ => atom_sl hu h h1
 | _, _, .bad h hb, hi, s => atom_bad h (by
   unfold badAtom at hb
   rcases hb with hb | hb | hb
   ·exact absurd (.inr (.inl (by rw [h, hb]))) s
   ·exact absurd (.inr (.inr (by rw [h, hb]))) s
   ·exact hb)
 | _, _, .one h hb hm, hi, _ => atom_one hu h (by
   unfold badAtom at hb
   omega) hm
termination_by structural _ _ x => x
end
end
section
variable {n d i j q : Nat} {h h0 H : AHeap} {u : Bytes} {l : List Nd} {r : Res} {t : Nd} {w : List Nat} {S : List Nat} {c : List AV} {kc : List (List AV)} {kv : AV} {T T0 T1 : List RowT} {Q : ARes → AHeap → Prop}
theorem Wp.nodeGrow1 {K : AV → AHeap → R} {y : RowT} (M : Mem S h0 h ((y :: (T0 ++ T1)) ++ T)) (g : GrowT TNode 6 kc kv T0) (ks : KidsT l kc T1) (kt : NodeT t c T) (hex : memB TNode h0.ex = false) (hl : l.length ≤ 1000001)
  (hk : ∀ kv' h' T0', GrowT TNode 6 (kc ++ [c]) kv' T0' → KidsT (l ++ [t]) (kc ++ [c]) (T1 ++ T) → Mem S h0 h' (y :: (T0' ++ (T1 ++ T))) → Wp (K kv' h') Q) :
  Wp (outK (bldSl Try.prog h TNodes 1 [(0, .agg c)]) fun v12 h29 => outK (opAppend Try.prog h29 TNodes TNodes kv v12) fun v13 h31 => K v13 h31) Q := by
 refine Wp.mnews M (kt.bld h) kt.one hex fun h1 M1 => ?_
 have M2 : Mem S h0 h1 ((h.next, TNode, c) :: (y :: (T1 ++ T)) ++ T0) := M1.perm (by
  refine List.Perm.cons _ (List.Perm.cons _ ?_)
  show ((T1 ++ T) ++ T0).Perm ((T0 ++ T1) ++ T)
  rw [List.append_assoc T0]
  exact List.perm_append_comm)
 have hkl := ks.len
 refine Wp.grow M2 g (by kernel_rfl) (by kernel_rfl) (by kernel_rfl) (B := 64) (by kernel_rfl) hex kt.len kt.one (by omega) (by omega) fun kv' h' T0' g' M3 => ?_
 refine hk kv' h' T0' g' (KidsT.snoc kt ks) (M3.perm ?_)
 exact List.Perm.cons _ List.perm_append_comm
theorem lit_loop {k8 : AV → AHeap → R} {z : List AV} (hu : u.length ≤ 1000000) (hx : memB TNode h.ex = false) : ∀ {l : List Nd} {i : Nat} {r : Res}, FlatP (partL u) u l i r → i ≤ u.length → ∀ {f : Nat} {H : AHeap} {kc : List (List AV)} {kv : AV} {T0 T1 : List RowT}, u.length - i < f → GrowT TNode 6 kc kv T0 → KidsT l kc T1 → l.length ≤ i → Mem [] h H ((h.next, TNode, z) :: (T0 ++ T1)) →
  (∀ l' kc kv T0 T1 H', dropJ r = .ok (joinN 3 l') → GrowT TNode 6 kc kv T0 → KidsT l' kc T1 → Mem [] h H' ((h.next, TNode, z) :: (T0 ++ T1)) → Wp (k8 kv H') Q) →
  Wp (ref09_literal_L0 (world n (d + 1)) u k8 f kv (i : Int) H) Q
 | l, i, _, .stop s, hi, f, H, kc, kv, T0, T1, hf, g, ks, hl, M, hok => by
  obtain ⟨f, rfl⟩ : ∃ f', f = f' + 1 := ⟨f - 1, by omega⟩
  have ll := lenS_nat u
  rw [ref09_literal_L0_s]
  unfold ref09_literal_L0b
  repeat (first | (with_reducible refine Wp.lett ?_) | ((with_reducible refine Wp.iff ?_ ?_); ((with_reducible apply decide_eq_false); omega)))
  exact hok _ kc kv T0 T1 H rfl g ks M
 | l, i, _, .bad s hb, _, _, _, _, _, _, _, _, _, _, _, _, _ => by
  unfold partL at hb
  rw [at?_lt s] at hb
  cases hb
 | l, i, r, .more (j := j) s hb m, hi, f, H, kc, kv, T0, T1, hf, g, ks, hl, M, hok => by
  obtain ⟨f, rfl⟩ : ∃ f', f = f' + 1 := ⟨f - 1, by omega⟩
  have ll := lenS_nat u
  unfold partL at hb
  rw [at?_lt s] at hb
  cases hb
  have hx1 := idxS_nat (l := u) s
  rw [ref09_literal_L0_s]
  unfold ref09_literal_L0b
  repeat (first | (with_reducible refine Wp.lett ?_) | ((with_reducible apply Wp.obind); (with_reducible first | exact hx1 | exact avAgg_agg _)) | ((with_reducible refine Wp.ift ?_ ?_); ((with_reducible apply decide_eq_true); omega)) | ((with_reducible apply Wp.callN); (with_reducible exact One_w (UInt8.toNat_lt _))))
  have kt : ∀ c, NodeT (oneN c) (nodeC 2 (spanW zeroW c 1) .nsl) [] := fun c => NodeT.leaf 2 (spanW_ok 1 zeroW_ok c)
  refine Wp.nodeGrow1 (T := []) (by rw [List.append_nil]; exact M) g ks (kt _) hx (by omega) fun kv' h' T0' g' ks' M5 => ?_
  repeat (((with_reducible refine Wp.lettw ?_ ?_ ?_); omega; omega))
  rw [show (i : Int) + 1 = ((i + 1 : Nat) : Int) by omega]
  exact lit_loop hu hx m (by omega) (by omega) g' ks' (by simp; omega) M5 hok
theorem lit_w (hu : u.length ≤ 1000000) (hn2 : u.length < n) (hx : memB TNode h.ex = false) (k : FlatP (partL u) u [] 0 r) : ∃ t c T h', dropJ r = .ok t ∧ world n (d + 2) 41 [strA u] h = some (.ret (.agg c), h') ∧ NodeT t c T ∧ Mem [] h h' T := by
 rw [w_ref09_literal]
 have main : ∃ t c T h', dropJ r = .ok t ∧ ref09_literal (world n (d + 1)) n u h = some (.ret (.agg c), h') ∧ NodeT t c T ∧ Mem [] h h' T := by
  suffices hK : Wp (ref09_literal (world n (d + 1)) n u h) fun v h' => ∃ t c T, dropJ r = .ok t ∧ v = .ret (.agg c) ∧ NodeT t c T ∧ Mem [] h h' T by
   obtain ⟨_, h', e, t, c, T, h1, rfl, h2, h3⟩ := hK
   exact ⟨t, c, T, h', h1, e, h2, h3⟩
  unfold ref09_literal
  refine Wp.mnew (Mem.nil [] h) fun h1 M1 => ?_
  ((with_reducible refine Wp.join1 (fun _ _ => ?_)))
  rename_i k8 ek8
  refine lit_loop (i := 0) hu hx k (Nat.zero_le _) (by omega) (GrowT.nil _ _) .nil (Nat.le_refl _) M1 fun l' kc kv T0 T1 H' hr g ks M2 => ?_
  refine Wp.go1 ek8 ?_
  obtain ⟨c, T, h2, e2, kt, M3⟩ := Over_r (n := n) (d := d) 3 (xs := [_]) M2 g ks
  refine Wp.callN e2 (Wp.obind (avAgg_agg _) ?_)
  rw [newP_eq]
  refine Wp.sa0 M3 kt.len rfl kt.one fun h3 M4 => ?_
  refine Wp.lr0 M4 kt.len ?_
  exact Wp.ret ⟨_, c, T, hr, rfl, kt, M4.pop⟩
 obtain ⟨t, c, T, h', h1, e, kt, M⟩ := main
 suffices hK : Wp (gcR h (ref09_literal (world n (d + 1)) n u h)) fun r h' => ∃ T, r = .ret (.agg c) ∧ NodeT t c T ∧ Mem [] h h' T by
  obtain ⟨_, h', e, T, rfl, k1, k2⟩ := hK
  exact ⟨t, c, T, h', h1, e, k1, k2⟩
 refine Wp.gc2 ⟨_, h', e, ⟨T, rfl, kt, M⟩, fun _ hl => ?_⟩
 have hT : T = [] := kt.low (fun y hy => (M.row y hy).2.2.resolve_left (by simp)) hl
 subst hT
 exact ⟨[], rfl, kt, Mem.nil _ _⟩
theorem glob_loop {k8 : AV → AHeap → R} {z : List AV} (hu : u.length ≤ 1000000) (hz : z.length = 6) (hn : 300 < n) (hx : memB TNode h.ex = false) : ∀ {l : List Nd} {i : Nat} {r : Res}, FlatP (partG u) u l i r → i ≤ u.length → ∀ {f : Nat} {H : AHeap} {kc : List (List AV)} {kv : AV} {T0 T1 : List RowT}, u.length - i < f → GrowT TNode 6 kc kv T0 → KidsT l kc T1 → l.length ≤ i → Mem [] h H ((h.next, TNode, z) :: (T0 ++ T1)) →
  (∀ l' kc kv T0 T1 H', dropJ r = .ok (joinN 3 l') → GrowT TNode 6 kc kv T0 → KidsT l' kc T1 → Mem [] h H' ((h.next, TNode, z) :: (T0 ++ T1)) → Wp (k8 kv H') Q) →
  (∀ q H', r = .error q → q = u.length → Tch [] h H' → Q (.ret (.tup [.agg (nodeC 0 zeroW .nsl), .bool false])) H') →
  Wp (ref09_glob_L0 (world n (d + 1)) u h k8 f kv (i : Int) H) Q
 | l, i, _, .stop s, hi, f, H, kc, kv, T0, T1, hf, g, ks, hl, M, hok, hbad => by
  obtain ⟨f, rfl⟩ : ∃ f', f = f' + 1 := ⟨f - 1, by omega⟩
  have ll := lenS_nat u
  rw [ref09_glob_L0_s]
  unfold ref09_glob_L0b
  repeat (first | (with_reducible refine Wp.lett ?_) | ((with_reducible refine Wp.iff ?_ ?_); ((with_reducible apply decide_eq_false); omega)))
  exact hok _ kc kv T0 T1 H rfl g ks M
 | l, i, _, .bad (q := q) s hb, hi, f, H, kc, kv, T0, T1, hf, g, ks, hl, M, hok, hbad => by
  obtain ⟨f, rfl⟩ : ∃ f', f = f' + 1 := ⟨f - 1, by omega⟩
  have ll := lenS_nat u
  have hx1 := idxS_nat (l := u) s
  unfold partG at hb
  rw [at?_lt s] at hb
  generalize hc : (u[i]).toNat = c at hb hx1
  dsimp only at hb
  split at hb
  ·cases hb
  split at hb
  ·cases hb
  split at hb
  ·rename_i h92
   subst h92
   split at hb
   ·rename_i he
    cases hb
    have hl1 := at?_none he (by omega)
    rw [ref09_glob_L0_s]
    unfold ref09_glob_L0b
    repeat (first | (with_reducible refine Wp.join1 (fun _ _ => ?_)) | ((with_reducible refine Wp.lettw ?_ ?_ ?_); omega; omega) | (with_reducible refine Wp.lett ?_) | ((with_reducible apply Wp.obind); (with_reducible exact hx1)) | ((with_reducible refine Wp.ift ?_ ?_); ((with_reducible first | apply decide_eq_true | apply beq_t); omega)) | (with_reducible refine Wp.go1 (by assumption) ?_) | rw [newP_eq])
    refine Wp.sa0 M rfl hz rfl fun h5 M4 => ?_
    refine Wp.lr0 M4 rfl ?_
    exact Wp.ret (hbad _ _ rfl hl1 M4.tch)
   ·cases hb
  ·cases hb
 | l, i, r, .more (j := j) s hb m, hi, f, H, kc, kv, T0, T1, hf, g, ks, hl, M, hok, hbad => by
  obtain ⟨f, rfl⟩ : ∃ f', f = f' + 1 := ⟨f - 1, by omega⟩
  have ll := lenS_nat u
  have hx1 := idxS_nat (l := u) s
  have kt : ∀ c, NodeT (oneN c) (nodeC 2 (spanW zeroW c 1) .nsl) [] := fun c => NodeT.leaf 2 (spanW_ok 1 zeroW_ok c)
  have kta : NodeT anyN (nodeC 2 anyW .nsl) [] := NodeT.leaf 2 anyW_ok
  have c256 : (u[i]).toNat < 256 := UInt8.toNat_lt _
  unfold partG at hb
  rw [at?_lt s] at hb
  generalize hc : (u[i]).toNat = c at hb hx1 c256
  dsimp only at hb
  split at hb
  ·rename_i h42
   subst h42
   cases hb
   rw [ref09_glob_L0_s]
   unfold ref09_glob_L0b
   repeat (first | (with_reducible first | refine Wp.join1 (fun _ _ => ?_) | refine Wp.join2 (fun _ _ => ?_)) | (with_reducible refine Wp.lett ?_) | ((with_reducible apply Wp.obind); (with_reducible first | exact hx1 | exact avAgg_agg _)) | ((with_reducible refine Wp.ift ?_ ?_); ((with_reducible first | apply decide_eq_true | apply beq_t); omega)) | ((with_reducible refine Wp.iff ?_ ?_); first | (with_reducible rfl) | ((with_reducible apply beq_f); omega)) | ((with_reducible apply Wp.callN); (with_reducible exact All_w hn)) | (with_reducible refine Wp.go1 (by assumption) ?_))
   refine Wp.mnews M (kta.bld _) kta.one hx fun h66 M2 => ?_
   refine Wp.obind (bldOver1 _ _ _) ?_
   have kt' := signed kta 5 H.next
   have M3 : Mem [] h h66 (((h.next, TNode, z) :: (T0 ++ T1)) ++ ([(H.next, TNode, nodeC 2 anyW .nsl)] ++ ([] ++ []))) := M2.perm (by
    rw [List.append_nil, List.append_nil]
    exact List.perm_append_comm)
   refine Wp.nodeGrow1 M3 g ks kt' hx (by omega) fun kv' h' T0' g' ks' M5 => ?_
   repeat (first | ((with_reducible refine Wp.lettw ?_ ?_ ?_); omega; omega) | (with_reducible first | refine Wp.go1 (by assumption) ?_ | refine Wp.go2 (by assumption) ?_))
   rw [show (i : Int) + 1 = ((i + 1 : Nat) : Int) by omega]
   exact glob_loop hu hz hn hx m (by omega) (by omega) g' ks' (by simp; omega) M5 hok hbad
  split at hb
  ·rename_i h63
   subst h63
   cases hb
   rw [ref09_glob_L0_s]
   unfold ref09_glob_L0b
   repeat (first | (with_reducible first | refine Wp.join1 (fun _ _ => ?_) | refine Wp.join2 (fun _ _ => ?_)) | (with_reducible refine Wp.lett ?_) | ((with_reducible apply Wp.obind); (with_reducible first | exact hx1 | exact avAgg_agg _)) | ((with_reducible refine Wp.ift ?_ ?_); ((with_reducible first | apply decide_eq_true | apply beq_t); omega)) | ((with_reducible refine Wp.iff ?_ ?_); first | (with_reducible rfl) | ((with_reducible apply beq_f); omega)) | ((with_reducible apply Wp.callN); (with_reducible exact All_w hn)) | (with_reducible refine Wp.go1 (by assumption) ?_))
   refine Wp.nodeGrow1 (T := []) (by rw [List.append_nil]; exact M) g ks kta hx (by omega) fun kv' h' T0' g' ks' M5 => ?_
   repeat (first | ((with_reducible refine Wp.lettw ?_ ?_ ?_); omega; omega) | (with_reducible first | refine Wp.go1 (by assumption) ?_ | refine Wp.go2 (by assumption) ?_))
   rw [show (i : Int) + 1 = ((i + 1 : Nat) : Int) by omega]
   exact glob_loop hu hz hn hx m (by omega) (by omega) g' ks' (by simp; omega) M5 hok hbad
  split at hb
  ·rename_i h92
   subst h92
   split at hb
   ·cases hb
   ·rename_i e he
    cases hb
    obtain ⟨hl1, he1⟩ := at?_some he
    have e256 := at?_256 he
    have hx2 := idxS_nat (l := u) hl1
    rw [he1, show ((i + 1 : Nat) : Int) = (i : Int) + 1 by omega] at hx2
    rw [ref09_glob_L0_s]
    unfold ref09_glob_L0b
    repeat (first | (with_reducible first | refine Wp.join1 (fun _ _ => ?_) | refine Wp.join2 (fun _ _ => ?_)) | ((with_reducible refine Wp.lettw ?_ ?_ ?_); omega; omega) | (with_reducible refine Wp.lett ?_) | ((with_reducible apply Wp.obind); (with_reducible first | exact hx1 | exact hx2 | exact avAgg_agg _)) | ((with_reducible refine Wp.ift ?_ ?_); ((with_reducible first | apply decide_eq_true | apply beq_t); omega)) | ((with_reducible refine Wp.iff ?_ ?_); ((with_reducible apply beq_f); omega)) | ((with_reducible apply Wp.callN); (with_reducible exact One_w e256)) | (with_reducible refine Wp.go1 (by assumption) ?_))
    refine Wp.nodeGrow1 (T := []) (by rw [List.append_nil]; exact M) g ks (kt _) hx (by omega) fun kv' h' T0' g' ks' M5 => ?_
    repeat (first | ((with_reducible refine Wp.lettw ?_ ?_ ?_); omega; omega) | (with_reducible refine Wp.go2 (by assumption) ?_))
    rw [show (i : Int) + 1 + 1 = ((i + 2 : Nat) : Int) by omega]
    exact glob_loop hu hz hn hx m (by omega) (by omega) g' ks' (by simp; omega) M5 hok hbad
  ·cases hb
   rw [ref09_glob_L0_s]
   unfold ref09_glob_L0b
   repeat (first | (with_reducible first | refine Wp.join1 (fun _ _ => ?_) | refine Wp.join2 (fun _ _ => ?_)) | (with_reducible refine Wp.lett ?_) | ((with_reducible apply Wp.obind); (with_reducible first | exact hx1 | exact avAgg_agg _)) | ((with_reducible refine Wp.ift ?_ ?_); ((with_reducible first | apply decide_eq_true | apply beq_t); omega)) | ((with_reducible refine Wp.iff ?_ ?_); first | (with_reducible rfl) | ((with_reducible apply beq_f); omega)) | ((with_reducible apply Wp.callN); (with_reducible exact One_w c256)) | (with_reducible refine Wp.go1 (by assumption) ?_))
   refine Wp.nodeGrow1 (T := []) (by rw [List.append_nil]; exact M) g ks (kt _) hx (by omega) fun kv' h' T0' g' ks' M5 => ?_
   repeat (first | ((with_reducible refine Wp.lettw ?_ ?_ ?_); omega; omega) | (with_reducible first | refine Wp.go1 (by assumption) ?_ | refine Wp.go2 (by assumption) ?_))
   rw [show (i : Int) + 1 = ((i + 1 : Nat) : Int) by omega]
   exact glob_loop hu hz hn hx m (by omega) (by omega) g' ks' (by simp; omega) M5 hok hbad
def OutG (h : AHeap) (x : R) (u : Bytes) : Except Nat Nd → Prop
 | .ok t => ∃ c T h', x = some (.ret (.tup [.agg c, .bool true]), h') ∧ NodeT t c T ∧ Mem [] h h' T
 | .error q => q = u.length ∧ x = some (.ret (.tup [.agg (nodeC 0 zeroW .nsl), .bool false]), h)
def RawG (h : AHeap) (u : Bytes) : Except Nat Nd → ARes → AHeap → Prop
 | .ok t, v, h' => ∃ c T, v = .ret (.tup [.agg c, .bool true]) ∧ NodeT t c T ∧ Mem [] h h' T
 | .error q, v, h' => q = u.length ∧ v = .ret (.tup [.agg (nodeC 0 zeroW .nsl), .bool false]) ∧ Tch [] h h'
theorem OutG.gc {r : Except Nat Nd} {x : R} (k : Wp x (RawG h u r)) : OutG h (gcR h x) u r := by
 cases r with
 | error q =>
  obtain ⟨v, h', e, hq, e2, t⟩ := k
  refine ⟨hq, ?_⟩
  apply Wp.eq
  exact Wp.gc ⟨v, h', e, t.above, by rw [e2]; rfl, e2, rfl⟩
 | ok t =>
  obtain ⟨v, h', e, c, T, rfl, kt, M⟩ := k
  suffices hK : Wp (gcR h x) fun r h' => ∃ T, r = .ret (.tup [.agg c, .bool true]) ∧ NodeT t c T ∧ Mem [] h h' T by
   obtain ⟨_, h', e, T, rfl, k1, k2⟩ := hK
   exact ⟨c, T, h', e, k1, k2⟩
  refine Wp.gc2 ⟨_, h', e, ⟨T, rfl, kt, M⟩, fun _ hl => ?_⟩
  have h1 : AV.loL h.next c = true := by
   have : (AV.loL h.next c && (true && AV.loL h.next [])) = true := hl
   rw [Bool.and_eq_true] at this
   exact this.1
  have hT : T = [] := kt.low (fun y hy => (M.row y hy).2.2.resolve_left (by simp)) h1
  subst hT
  exact ⟨[], rfl, kt, Mem.nil _ _⟩
theorem glob_w (hu : u.length ≤ 1000000) (hn : 300 < n) (hn2 : u.length < n) (hx : memB TNode h.ex = false) (k : FlatP (partG u) u [] 0 r) : OutG h (world n (d + 2) 42 [strA u] h) u (dropJ r) := by
 rw [w_ref09_glob]
 refine OutG.gc ?_
 unfold ref09_glob
 refine Wp.mnew (Mem.nil [] h) fun h1 M1 => ?_
 ((with_reducible refine Wp.join1 (fun _ _ => ?_)))
 rename_i k8 ek8
 refine glob_loop (i := 0) hu rfl hn hx k (Nat.zero_le _) (by omega) (GrowT.nil _ _) .nil (Nat.le_refl _) M1 (fun l' kc kv T0 T1 H' hr g ks M2 => ?_) fun q H' hr hq ht => ?_
 ·refine Wp.go1 ek8 ?_
  obtain ⟨c, T, h2, e2, kt, M3⟩ := Over_r (n := n) (d := d) 3 (xs := [_]) M2 g ks
  refine Wp.callN e2 (Wp.obind (avAgg_agg _) ?_)
  rw [newP_eq]
  refine Wp.sa0 M3 kt.len rfl kt.one fun h3 M4 => ?_
  refine Wp.lr0 M4 kt.len ?_
  rw [hr]
  exact Wp.ret ⟨c, T, rfl, kt, M4.pop⟩
 ·subst hr
  exact ⟨hq, rfl, ht⟩
end
section
variable {a u : Bytes} {k : Nat}
end
section
variable {a b u : Bytes} {x y : Nd}
end
theorem szL_snoc : ∀ (l : List Nd) (t : Nd), szL (l ++ [t]) = szL l + t.sz + 1
 | [], t => by
  simp only [List.nil_append, szL]
  omega
 | k :: l, t => by
  rw [List.cons_append, szL, szL_snoc l t, szL]
  omega
theorem joinN_sz (op : Nat) : ∀ l : List Nd, (joinN op l).sz ≤ szL l + 1
 | [] => Nat.le_add_left 1 _
 | [t] => by
  rw [szL, szL]
  show t.sz ≤ _
  omega
 | _ :: _ :: _ => Nat.le_refl _
section
variable {a : Bytes}
mutual
theorem altP_sz : ∀ {l : List Nd} {i : Nat} {r : Res}, AltP a l i r → ∀ t j, r = .ok (t, j) → i ≤ a.length → t.sz ≤ szL l + 6 * (j - i) + (if l = [] then 1 else 3)
 | _, _, _, .bad h, t, j, e, hi => by cases e
 | l, _, _, .last h n, t, j, e, hi => by
  have h1 := rowP_sz h _ _ rfl hi
  rw [szL] at h1
  cases e
  by_cases hl : l = []
  ·subst hl
   rw [if_pos rfl]
   show Nd.sz _ ≤ _
   simp only [List.nil_append, joinN, szL]
   omega
  ·rw [if_neg hl]
   refine Nat.le_trans (joinN_sz 4 _) ?_
   rw [szL_snoc]
   omega
 | l, _, _, .more h n m, t, j, e, hi => by
  obtain ⟨hp, _⟩ := at?_some n
  have h1 := rowP_sz h _ _ rfl hi
  obtain ⟨c1, _⟩ := rowP_bnd h hi
  rw [szL] at h1
  have h2 := altP_sz m t j e (by omega)
  have hb := altP_bnd m (by omega)
  subst e
  obtain ⟨c2, _⟩ := hb
  rw [if_neg (by simp), szL_snoc] at h2
  split <;> omega
termination_by structural _ _ _ x => x
theorem rowP_sz : ∀ {l : List Nd} {i : Nat} {r : Res}, RowP a l i r → ∀ t j, r = .ok (t, j) → i ≤ a.length → t.sz ≤ szL l + 6 * (j - i) + 1
 | l, _, _, .stop h, t, j, e, hi => by
  cases e
  have := joinN_sz 3 l
  omega
 | _, _, _, .bad _ h, t, j, e, hi => by cases e
 | l, _, _, .more n h m, t, j, e, hi => by
  obtain ⟨b1, b2⟩ := partP_bnd h hi
  have h1 := partP_sz h _ _ rfl hi
  have h2 := rowP_sz m t j e b2
  have hb := rowP_bnd m b2
  subst e
  obtain ⟨c2, _⟩ := hb
  rw [szL_snoc] at h2
  omega
termination_by structural _ _ _ x => x
theorem partP_sz : ∀ {i : Nat} {r : Res}, PartP a i r → ∀ t j, r = .ok (t, j) → i ≤ a.length → t.sz + 3 ≤ 6 * (j - i)
 | _, _, .bad h, t, j, e, hi => by cases e
 | _, _, .bare h n, t, j, e, hi => atomP_sz h t j e hi
 | _, _, .sign h n, t, j, e, hi => by
  obtain ⟨b1, b2⟩ := atomP_bnd h hi
  have h1 := atomP_sz h _ _ rfl hi
  cases e
  simp only [overN, Nd.sz, szL]
  omega
termination_by structural _ _ x => x
theorem atomP_sz : ∀ {i : Nat} {r : Res}, AtomP a i r → ∀ t j, r = .ok (t, j) → i ≤ a.length → t.sz + 3 ≤ 6 * (j - i)
 | _, _, .none _, t, j, e, hi => by cases e
 | _, _, .open_bad h m, t, j, e, hi => by cases e
 | _, _, .open_end h m _, t, j, e, hi => by cases e
 | _, _, .group h m n, t, j, e, hi => by
  obtain ⟨hp, _⟩ := at?_some h
  have h1 := altP_sz m _ _ rfl (by omega)
  obtain ⟨b1, _⟩ := altP_bnd m (by omega)
  rw [if_pos rfl, szL] at h1
  cases e
  omega
 | _, _, .any h, t, j, e, hi => by
  cases e
  simp only [anyN, Nd.sz, szL]
  omega
 | _, _, .set_bad h m, t, j, e, hi => by cases e
 | _, _, .set h m, t, j, e, hi => by
  obtain ⟨hp, _⟩ := at?_some h
  obtain ⟨b1, b2⟩ := setP_okb m (by omega)
  cases e
  simp only [Nd.sz, szL]
  omega
 | _, _, .sl_end h _, t, j, e, hi => by cases e
 | _, _, .sl h n, t, j, e, hi => by
  cases e
  simp only [oneN, Nd.sz, szL]
  omega
 | _, _, .bad h _, t, j, e, hi => by cases e
 | _, _, .one h b n, t, j, e, hi => by
  cases e
  simp only [oneN, Nd.sz, szL]
  omega
termination_by structural _ _ x => x
end
theorem altP_small {t : Nd} {j : Nat} (h : AltP a [] 0 (.ok (t, j))) : t.sz ≤ 6 * a.length + 1 := by
 have h1 := altP_sz h t j rfl (Nat.zero_le _)
 obtain ⟨_, b2⟩ := altP_bnd h (Nat.zero_le _)
 rw [if_pos rfl, szL] at h1
 omega
end
end Go.Proofs.Yteibdplpbcobbaa
namespace Go.Proofs.Yteibdplpbcobbaa
open Go.RowKit Abs
section
variable {N : Nat} {h : AHeap} {x : AV} {K : List (List AV)}
end
section
variable {S : List Nat} {h h0 : AHeap} {xs T : List RowT} {l : Bytes} {v : AV} {Q : ARes → AHeap → Prop}
end
end Go.Proofs.Yteibdplpbcobbaa
namespace Go.Proofs.Yteibdplpbcobbaa
open Go.RowKit Abs
theorem tree_long {u : Bytes} (l : 64 < u.length) {kind : Int} (hk : kind = 1 ∨ kind = 2 ∨ kind = 3) {n D : Nat} {h : AHeap} : world n (D + 1) 21 [.agg [.int .i64 kind, strA u]] h = some (.ret (.tup [.agg (nodeC 0 zeroW .nsl), .agg [.int .i64 3, .int .i64 64]]), h) := by
 rcases hk with rfl | rfl | rfl
 ·apply Wp.eq
  rw [w_pattern_Tree]
  refine Wp.gc ?_
  suffices hK : Wp (pattern_Tree (world n D) n [.int .i64 1, strA u] h) fun r h' => r = .ret (.tup [.agg (nodeC 0 zeroW .nsl), .agg [.int .i64 3, .int .i64 64]]) ∧ Tch [] h h' from hK.mono fun r h' ⟨e, t⟩ => ⟨t.above, by rw [e]; rfl, e, rfl⟩
  unfold pattern_Tree
  have ll := lenS_nat u
  have Mx := Mem.nil [] h
  repeat (first | ((with_reducible apply Wp.obind); (with_reducible first | exact avInt_int _ _ | exact avStr_str _ | exact fldP_ptr _ _ _)) | ((with_reducible apply Wp.lr0 Mx); rfl) | ((with_reducible apply Wp.sa0 Mx); rfl; rfl; (rfl); intro _ Mz; clear Mx; have Mx := Mz; clear Mz) | ((with_reducible apply Wp.lr1 Mx); rfl) | ((with_reducible apply Wp.sa1 Mx); rfl; rfl; (rfl); intro _ Mz; clear Mx; have Mx := Mz; clear Mz) | ((with_reducible apply Wp.ld2 Mx); rfl) | ((with_reducible apply Wp.mnew Mx); intro _ Mz; clear Mx; have Mx := Mz; clear Mz) | ((with_reducible apply Wp.mbox Mx); (rfl); intro _ Mz; clear Mx; have Mx := Mz; clear Mz) | (with_reducible refine Wp.join1 (fun _ _ => ?_)) | (with_reducible refine Wp.lett ?_) | ((with_reducible refine Wp.ift ?_ ?_); ((with_reducible first | apply decide_eq_true | apply bne_t); omega)) | ((with_reducible refine Wp.iff ?_ ?_); first | (with_reducible rfl) | ((with_reducible apply bne_f); omega)) | (with_reducible refine Wp.go1 (by assumption) ?_) | rw [newP_eq])
  exact Wp.ret ⟨rfl, Mx.tch⟩
 ·apply Wp.eq
  rw [w_pattern_Tree]
  refine Wp.gc ?_
  suffices hK : Wp (pattern_Tree (world n D) n [.int .i64 2, strA u] h) fun r h' => r = .ret (.tup [.agg (nodeC 0 zeroW .nsl), .agg [.int .i64 3, .int .i64 64]]) ∧ Tch [] h h' from hK.mono fun r h' ⟨e, t⟩ => ⟨t.above, by rw [e]; rfl, e, rfl⟩
  unfold pattern_Tree
  have ll := lenS_nat u
  have Mx := Mem.nil [] h
  repeat (first | ((with_reducible apply Wp.obind); (with_reducible first | exact avInt_int _ _ | exact avStr_str _ | exact fldP_ptr _ _ _)) | ((with_reducible apply Wp.lr0 Mx); rfl) | ((with_reducible apply Wp.sa0 Mx); rfl; rfl; (rfl); intro _ Mz; clear Mx; have Mx := Mz; clear Mz) | ((with_reducible apply Wp.lr1 Mx); rfl) | ((with_reducible apply Wp.sa1 Mx); rfl; rfl; (rfl); intro _ Mz; clear Mx; have Mx := Mz; clear Mz) | ((with_reducible apply Wp.ld2 Mx); rfl) | ((with_reducible apply Wp.mnew Mx); intro _ Mz; clear Mx; have Mx := Mz; clear Mz) | ((with_reducible apply Wp.mbox Mx); (rfl); intro _ Mz; clear Mx; have Mx := Mz; clear Mz) | (with_reducible refine Wp.join1 (fun _ _ => ?_)) | (with_reducible refine Wp.lett ?_) | ((with_reducible refine Wp.ift ?_ ?_); ((with_reducible first | apply decide_eq_true | apply bne_t); omega)) | ((with_reducible refine Wp.iff ?_ ?_); first | (with_reducible rfl) | ((with_reducible apply bne_f); omega)) | (with_reducible refine Wp.go1 (by assumption) ?_) | rw [newP_eq])
  exact Wp.ret ⟨rfl, Mx.tch⟩
 ·apply Wp.eq
  rw [w_pattern_Tree]
  refine Wp.gc ?_
  suffices hK : Wp (pattern_Tree (world n D) n [.int .i64 3, strA u] h) fun r h' => r = .ret (.tup [.agg (nodeC 0 zeroW .nsl), .agg [.int .i64 3, .int .i64 64]]) ∧ Tch [] h h' from hK.mono fun r h' ⟨e, t⟩ => ⟨t.above, by rw [e]; rfl, e, rfl⟩
  unfold pattern_Tree
  have ll := lenS_nat u
  have Mx := Mem.nil [] h
  repeat (first | ((with_reducible apply Wp.obind); (with_reducible first | exact avInt_int _ _ | exact avStr_str _ | exact fldP_ptr _ _ _)) | ((with_reducible apply Wp.lr0 Mx); rfl) | ((with_reducible apply Wp.sa0 Mx); rfl; rfl; (rfl); intro _ Mz; clear Mx; have Mx := Mz; clear Mz) | ((with_reducible apply Wp.lr1 Mx); rfl) | ((with_reducible apply Wp.sa1 Mx); rfl; rfl; (rfl); intro _ Mz; clear Mx; have Mx := Mz; clear Mz) | ((with_reducible apply Wp.ld2 Mx); rfl) | ((with_reducible apply Wp.mnew Mx); intro _ Mz; clear Mx; have Mx := Mz; clear Mz) | ((with_reducible apply Wp.mbox Mx); (rfl); intro _ Mz; clear Mx; have Mx := Mz; clear Mz) | (with_reducible refine Wp.join1 (fun _ _ => ?_)) | (with_reducible refine Wp.lett ?_) | ((with_reducible refine Wp.ift ?_ ?_); ((with_reducible first | apply decide_eq_true | apply bne_t); omega)) | ((with_reducible refine Wp.iff ?_ ?_); ((with_reducible apply bne_f); omega)) | (with_reducible refine Wp.go1 (by assumption) ?_) | rw [newP_eq])
  exact Wp.ret ⟨rfl, Mx.tch⟩
theorem rowsAt_of {S : List Nat} {h0 h : AHeap} {rs T : List RowT} (M : Abs.Mem S h0 h rs) (hs : ∀ y ∈ T, y ∈ rs) : RowsAt h T := fun y hy => ⟨(M.row y (hs y hy)).1, (M.row y (hs y hy)).2.1⟩
def OutT (h : AHeap) (x : R) : Except Nat Nd → Prop
 | .ok t => ∃ c T h', x = some (.ret (.tup [.agg c, .agg [.int .i64 0, .int .i64 0]]), h') ∧ NodeT t c T ∧ Mem [] h h' T
 | .error q => x = some (.ret (.tup [.agg (nodeC 0 zeroW .nsl), .agg [.int .i64 6, .int .i64 (q : Int)]]), h)
def RawT (h : AHeap) : Except Nat Nd → ARes → AHeap → Prop
 | .ok t, v, h' => ∃ c T, v = .ret (.tup [.agg c, .agg [.int .i64 0, .int .i64 0]]) ∧ NodeT t c T ∧ Mem [] h h' T
 | .error q, v, h' => v = .ret (.tup [.agg (nodeC 0 zeroW .nsl), .agg [.int .i64 6, .int .i64 (q : Int)]]) ∧ Tch [] h h'
section
variable {n d : Nat} {h : AHeap} {u : Bytes}
theorem OutT.gc {r : Except Nat Nd} {x : R} (k : Wp x (RawT h r)) : OutT h (gcR h x) r := by
 cases r with
 | error q =>
  apply Wp.eq
  exact Wp.gc (k.mono fun v h' ⟨e, t⟩ => ⟨t.above, by rw [e]; rfl, e, rfl⟩)
 | ok t =>
  obtain ⟨v, h', e, c, T, rfl, kt, M⟩ := k
  suffices hK : Wp (gcR h x) fun r h' => ∃ T, r = .ret (.tup [.agg c, .agg [.int .i64 0, .int .i64 0]]) ∧ NodeT t c T ∧ Mem [] h h' T by
   obtain ⟨_, h', e, T, rfl, k1, k2⟩ := hK
   exact ⟨c, T, h', e, k1, k2⟩
  refine Wp.gc2 ⟨_, h', e, ⟨T, rfl, kt, M⟩, fun _ hl => ?_⟩
  have h1 : AV.loL h.next c = true := by
   have : (AV.loL h.next c && (AV.loL h.next [.int .i64 0, .int .i64 0] && AV.loL h.next [])) = true := hl
   rw [Bool.and_eq_true] at this
   exact this.1
  have hT : T = [] := kt.low (fun y hy => (M.row y hy).2.2.resolve_left (by simp)) h1
  subst hT
  exact ⟨[], rfl, kt, Mem.nil _ _⟩
theorem badT_w (q : Int) : world n (d + 1) 34 [.int .i64 q] h = some (.ret (.agg [.int .i64 6, .int .i64 q]), h) := by
 apply Wp.eq
 rw [w_ref09_bad]
 refine Wp.gc ?_
 unfold ref09_bad
 have Mx := Mem.nil [] h
 repeat (first | ((with_reducible apply Wp.lr0 Mx); rfl) | ((with_reducible apply Wp.sa0 Mx); rfl; rfl; (rfl); intro _ Mz; clear Mx; have Mx := Mz; clear Mz) | ((with_reducible apply Wp.mnew Mx); intro _ Mz; clear Mx; have Mx := Mz; clear Mz) | rw [newP_eq])
 exact Wp.ret ⟨Mx.tch.above, rfl, rfl, rfl⟩
theorem rTree_other {k : Int} (h1 : k ≠ 1) (h2 : k ≠ 2) (h3 : k ≠ 3) : world n (d + 1) 22 [.agg [.int .i64 k, strA u]] h = some (.ret (.tup [.agg (nodeC 0 zeroW .nsl), .agg [.int .i64 2, .int .i64 0]]), h) := by
 apply Wp.eq
 rw [w_ref09_Tree]
 refine Wp.gc ?_
 suffices hK : Wp (ref09_Tree (world n d) n [.int .i64 k, strA u] h) fun r h' => r = .ret (.tup [.agg (nodeC 0 zeroW .nsl), .agg [.int .i64 2, .int .i64 0]]) ∧ Tch [] h h' from hK.mono fun r h' ⟨e, t⟩ => ⟨t.above, by rw [e]; rfl, e, rfl⟩
 unfold ref09_Tree
 have Mx := Mem.nil [] h
 repeat (first | ((with_reducible apply Wp.obind); (with_reducible first | exact avInt_int _ _ | exact fldP_ptr _ _ _)) | ((with_reducible apply Wp.lr0 Mx); rfl) | ((with_reducible apply Wp.sa0 Mx); rfl; rfl; (rfl); intro _ Mz; clear Mx; have Mx := Mz; clear Mz) | ((with_reducible apply Wp.lr1 Mx); rfl) | ((with_reducible apply Wp.sa1 Mx); rfl; rfl; (rfl); intro _ Mz; clear Mx; have Mx := Mz; clear Mz) | ((with_reducible apply Wp.ld2 Mx); rfl) | ((with_reducible apply Wp.mnew Mx); intro _ Mz; clear Mx; have Mx := Mz; clear Mz) | ((with_reducible apply Wp.mbox Mx); (rfl); intro _ Mz; clear Mx; have Mx := Mz; clear Mz) | (with_reducible refine Wp.join1 (fun _ _ => ?_)) | (with_reducible refine Wp.lett ?_) | ((with_reducible refine Wp.ift ?_ ?_); ((with_reducible apply bne_t); omega)) | (with_reducible refine Wp.go1 (by assumption) ?_) | rw [newP_eq])
 exact Wp.ret ⟨rfl, Mx.tch⟩
theorem pTree_other {k : Int} (h1 : k ≠ 1) (h2 : k ≠ 2) (h3 : k ≠ 3) : world n (d + 1) 21 [.agg [.int .i64 k, strA u]] h = some (.ret (.tup [.agg (nodeC 0 zeroW .nsl), .agg [.int .i64 2, .int .i64 0]]), h) := by
 apply Wp.eq
 rw [w_pattern_Tree]
 refine Wp.gc ?_
 suffices hK : Wp (pattern_Tree (world n d) n [.int .i64 k, strA u] h) fun r h' => r = .ret (.tup [.agg (nodeC 0 zeroW .nsl), .agg [.int .i64 2, .int .i64 0]]) ∧ Tch [] h h' from hK.mono fun r h' ⟨e, t⟩ => ⟨t.above, by rw [e]; rfl, e, rfl⟩
 unfold pattern_Tree
 have Mx := Mem.nil [] h
 repeat (first | ((with_reducible apply Wp.obind); (with_reducible first | exact avInt_int _ _ | exact fldP_ptr _ _ _)) | ((with_reducible apply Wp.lr0 Mx); rfl) | ((with_reducible apply Wp.sa0 Mx); rfl; rfl; (rfl); intro _ Mz; clear Mx; have Mx := Mz; clear Mz) | ((with_reducible apply Wp.lr1 Mx); rfl) | ((with_reducible apply Wp.sa1 Mx); rfl; rfl; (rfl); intro _ Mz; clear Mx; have Mx := Mz; clear Mz) | ((with_reducible apply Wp.ld2 Mx); rfl) | ((with_reducible apply Wp.mnew Mx); intro _ Mz; clear Mx; have Mx := Mz; clear Mz) | ((with_reducible apply Wp.mbox Mx); (rfl); intro _ Mz; clear Mx; have Mx := Mz; clear Mz) | (with_reducible refine Wp.join1 (fun _ _ => ?_)) | (with_reducible refine Wp.lett ?_) | ((with_reducible refine Wp.ift ?_ ?_); ((with_reducible apply bne_t); omega)) | (with_reducible refine Wp.go1 (by assumption) ?_) | rw [newP_eq])
 exact Wp.ret ⟨rfl, Mx.tch⟩
theorem rTree_long (l : 64 < u.length) {kind : Int} (hk : kind = 1 ∨ kind = 2 ∨ kind = 3) : world n (d + 1) 22 [.agg [.int .i64 kind, strA u]] h = some (.ret (.tup [.agg (nodeC 0 zeroW .nsl), .agg [.int .i64 3, .int .i64 64]]), h) := by
 rcases hk with rfl | rfl | rfl
 ·apply Wp.eq
  rw [w_ref09_Tree]
  refine Wp.gc ?_
  suffices hK : Wp (ref09_Tree (world n d) n [.int .i64 1, strA u] h) fun r h' => r = .ret (.tup [.agg (nodeC 0 zeroW .nsl), .agg [.int .i64 3, .int .i64 64]]) ∧ Tch [] h h' from hK.mono fun r h' ⟨e, t⟩ => ⟨t.above, by rw [e]; rfl, e, rfl⟩
  unfold ref09_Tree
  have ll := lenS_nat u
  have Mx := Mem.nil [] h
  repeat (first | ((with_reducible apply Wp.obind); (with_reducible first | exact avInt_int _ _ | exact avStr_str _ | exact fldP_ptr _ _ _)) | ((with_reducible apply Wp.lr0 Mx); rfl) | ((with_reducible apply Wp.sa0 Mx); rfl; rfl; (rfl); intro _ Mz; clear Mx; have Mx := Mz; clear Mz) | ((with_reducible apply Wp.lr1 Mx); rfl) | ((with_reducible apply Wp.sa1 Mx); rfl; rfl; (rfl); intro _ Mz; clear Mx; have Mx := Mz; clear Mz) | ((with_reducible apply Wp.ld2 Mx); rfl) | ((with_reducible apply Wp.mnew Mx); intro _ Mz; clear Mx; have Mx := Mz; clear Mz) | ((with_reducible apply Wp.mbox Mx); (rfl); intro _ Mz; clear Mx; have Mx := Mz; clear Mz) | (with_reducible refine Wp.join1 (fun _ _ => ?_)) | (with_reducible refine Wp.lett ?_) | ((with_reducible refine Wp.ift ?_ ?_); ((with_reducible first | apply decide_eq_true | apply bne_t); omega)) | ((with_reducible refine Wp.iff ?_ ?_); first | (with_reducible rfl) | ((with_reducible apply bne_f); omega)) | (with_reducible refine Wp.go1 (by assumption) ?_) | rw [newP_eq])
  exact Wp.ret ⟨rfl, Mx.tch⟩
 ·apply Wp.eq
  rw [w_ref09_Tree]
  refine Wp.gc ?_
  suffices hK : Wp (ref09_Tree (world n d) n [.int .i64 2, strA u] h) fun r h' => r = .ret (.tup [.agg (nodeC 0 zeroW .nsl), .agg [.int .i64 3, .int .i64 64]]) ∧ Tch [] h h' from hK.mono fun r h' ⟨e, t⟩ => ⟨t.above, by rw [e]; rfl, e, rfl⟩
  unfold ref09_Tree
  have ll := lenS_nat u
  have Mx := Mem.nil [] h
  repeat (first | ((with_reducible apply Wp.obind); (with_reducible first | exact avInt_int _ _ | exact avStr_str _ | exact fldP_ptr _ _ _)) | ((with_reducible apply Wp.lr0 Mx); rfl) | ((with_reducible apply Wp.sa0 Mx); rfl; rfl; (rfl); intro _ Mz; clear Mx; have Mx := Mz; clear Mz) | ((with_reducible apply Wp.lr1 Mx); rfl) | ((with_reducible apply Wp.sa1 Mx); rfl; rfl; (rfl); intro _ Mz; clear Mx; have Mx := Mz; clear Mz) | ((with_reducible apply Wp.ld2 Mx); rfl) | ((with_reducible apply Wp.mnew Mx); intro _ Mz; clear Mx; have Mx := Mz; clear Mz) | ((with_reducible apply Wp.mbox Mx); (rfl); intro _ Mz; clear Mx; have Mx := Mz; clear Mz) | (with_reducible refine Wp.join1 (fun _ _ => ?_)) | (with_reducible refine Wp.lett ?_) | ((with_reducible refine Wp.ift ?_ ?_); ((with_reducible first | apply decide_eq_true | apply bne_t); omega)) | ((with_reducible refine Wp.iff ?_ ?_); first | (with_reducible rfl) | ((with_reducible apply bne_f); omega)) | (with_reducible refine Wp.go1 (by assumption) ?_) | rw [newP_eq])
  exact Wp.ret ⟨rfl, Mx.tch⟩
 ·apply Wp.eq
  rw [w_ref09_Tree]
  refine Wp.gc ?_
  suffices hK : Wp (ref09_Tree (world n d) n [.int .i64 3, strA u] h) fun r h' => r = .ret (.tup [.agg (nodeC 0 zeroW .nsl), .agg [.int .i64 3, .int .i64 64]]) ∧ Tch [] h h' from hK.mono fun r h' ⟨e, t⟩ => ⟨t.above, by rw [e]; rfl, e, rfl⟩
  unfold ref09_Tree
  have ll := lenS_nat u
  have Mx := Mem.nil [] h
  repeat (first | ((with_reducible apply Wp.obind); (with_reducible first | exact avInt_int _ _ | exact avStr_str _ | exact fldP_ptr _ _ _)) | ((with_reducible apply Wp.lr0 Mx); rfl) | ((with_reducible apply Wp.sa0 Mx); rfl; rfl; (rfl); intro _ Mz; clear Mx; have Mx := Mz; clear Mz) | ((with_reducible apply Wp.lr1 Mx); rfl) | ((with_reducible apply Wp.sa1 Mx); rfl; rfl; (rfl); intro _ Mz; clear Mx; have Mx := Mz; clear Mz) | ((with_reducible apply Wp.ld2 Mx); rfl) | ((with_reducible apply Wp.mnew Mx); intro _ Mz; clear Mx; have Mx := Mz; clear Mz) | ((with_reducible apply Wp.mbox Mx); (rfl); intro _ Mz; clear Mx; have Mx := Mz; clear Mz) | (with_reducible refine Wp.join1 (fun _ _ => ?_)) | (with_reducible refine Wp.lett ?_) | ((with_reducible refine Wp.ift ?_ ?_); ((with_reducible first | apply decide_eq_true | apply bne_t); omega)) | ((with_reducible refine Wp.iff ?_ ?_); ((with_reducible apply bne_f); omega)) | (with_reducible refine Wp.go1 (by assumption) ?_) | rw [newP_eq])
  exact Wp.ret ⟨rfl, Mx.tch⟩
theorem rTree_ok (hl : u.length ≤ 64) (hn : 300 < n) {k : Int} {r : Except Nat Nd} (tp : TreeP u k r) {D : Nat} (hD : 300 ≤ D) (hx : memB TNode h.ex = false) : OutT h (world n (D + 1) 22 [.agg [.int .i64 k, strA u]] h) r := by
 rw [w_ref09_Tree]
 refine OutT.gc ?_
 unfold ref09_Tree
 have ll := lenS_nat u
 have Mx := Mem.nil [] h
 obtain ⟨D, rfl⟩ : ∃ D', D = D' + 2 := ⟨D - 2, by omega⟩
 have fin3 : ∀ {t : Nd} {j : Nat}, AltP u [] 0 (.ok (t, j)) → ∀ {H : AHeap}, memB TNode H.ex = false → OutN H (world n (D + 2) 43 [strA u, .int .i64 ((0 : Nat) : Int)] H) (.ok (t, j)) := fun a H hH => alt_call (by omega) (altM (by omega) hn (by omega) a (Nat.zero_le _)) (by omega) hH
 cases tp with
 | lit a =>
  repeat (first | ((with_reducible apply Wp.obind); (with_reducible first | exact avInt_int _ _ | exact avStr_str _ | exact fldP_ptr _ _ _)) | ((with_reducible apply Wp.ld2 Mx); rfl) | ((with_reducible apply Wp.mnew Mx); intro _ Mz; clear Mx; have Mx := Mz; clear Mz) | ((with_reducible apply Wp.mbox Mx); (rfl); intro _ Mz; clear Mx; have Mx := Mz; clear Mz) | (with_reducible refine Wp.join1 (fun _ _ => ?_)) | (with_reducible refine Wp.lett ?_) | ((with_reducible refine Wp.ift ?_ ?_); ((with_reducible first | apply decide_eq_true | apply bne_t | apply beq_t); omega)) | ((with_reducible refine Wp.iff ?_ ?_); first | (with_reducible rfl) | ((with_reducible first | apply decide_eq_false | apply bne_f); omega)) | (with_reducible refine Wp.go1 (by assumption) ?_) | rw [newP_eq])
  obtain ⟨t, c, T, H', hr, e, kt, M2⟩ := lit_w (n := n) (d := D) (by omega) (by omega) (by rw [Mx.ex]; exact hx) a
  refine Wp.callN e (Wp.obind (avAgg_agg _) ?_)
  have M3 := Mem.frameT (xs := []) (ys := []) Mx M2
  refine Wp.sa1 M3 kt.len rfl kt.one fun _ M4 => ?_
  refine Wp.sa0 M4 rfl rfl rfl fun _ M5 => ?_
  refine Wp.lr1 M5 kt.len (Wp.lr0 M5 rfl ?_)
  rw [hr]
  exact Wp.ret ⟨c, T, rfl, kt, M5.pop.pop.pop⟩
 | glob a =>
  repeat (first | ((with_reducible apply Wp.obind); (with_reducible first | exact avInt_int _ _ | exact avStr_str _ | exact fldP_ptr _ _ _)) | ((with_reducible apply Wp.ld2 Mx); rfl) | ((with_reducible apply Wp.mnew Mx); intro _ Mz; clear Mx; have Mx := Mz; clear Mz) | ((with_reducible apply Wp.mbox Mx); (rfl); intro _ Mz; clear Mx; have Mx := Mz; clear Mz) | (with_reducible refine Wp.join1 (fun _ _ => ?_)) | (with_reducible refine Wp.lett ?_) | ((with_reducible refine Wp.ift ?_ ?_); ((with_reducible first | apply decide_eq_true | apply bne_t | apply beq_t); omega)) | ((with_reducible refine Wp.iff ?_ ?_); first | (with_reducible rfl) | ((with_reducible first | apply decide_eq_false | apply bne_f | apply beq_f); omega)) | (with_reducible refine Wp.go1 (by assumption) ?_) | rw [newP_eq])
  have og := glob_w (n := n) (d := D) (by omega) hn (by omega) (by rw [Mx.ex]; exact hx) a
  generalize dropJ _ = r' at og
  cases r' with
  | error q =>
   obtain ⟨hq, e⟩ := og
   subst hq
   refine Wp.callN e ?_
   repeat (first | ((with_reducible apply Wp.obind); (with_reducible first | exact avBool_bool _ | exact avStr_str _ | exact fldP_ptr _ _ _)) | ((with_reducible apply Wp.sa0 Mx); rfl; rfl; (rfl); intro _ Mz; clear Mx; have Mx := Mz; clear Mz) | ((with_reducible apply Wp.lr1 Mx); rfl) | ((with_reducible apply Wp.sa1 Mx); rfl; rfl; (rfl); intro _ Mz; clear Mx; have Mx := Mz; clear Mz) | ((with_reducible apply Wp.lr2 Mx); rfl) | ((with_reducible apply Wp.sa2 Mx); rfl; rfl; (rfl); intro _ Mz; clear Mx; have Mx := Mz; clear Mz) | ((with_reducible apply Wp.ld3 Mx); rfl) | ((with_reducible apply Wp.mnew Mx); intro _ Mz; clear Mx; have Mx := Mz; clear Mz) | (with_reducible refine Wp.lett ?_) | ((with_reducible apply Wp.obind); (with_reducible first | exact avAgg_agg _ | exact extT_0 _ _ | exact extT_1 _ _ _)) | ((with_reducible refine Wp.ift ?_ ?_); (with_reducible exact Bool.not_false)) | ((with_reducible apply Wp.callN); (with_reducible exact badT_w _)) | rw [newP_eq])
   exact Wp.ret ⟨rfl, Mx.tch⟩
  | ok t =>
   obtain ⟨c, T, H', e, kt, M2⟩ := og
   refine Wp.callN e ?_
   have M3 := Mem.frameT (xs := []) (ys := []) Mx M2
   refine Wp.obind (extT_0 _ _) (Wp.obind (avAgg_agg _) (Wp.obind (extT_1 _ _ _) (Wp.obind (avBool_bool _) ?_)))
   refine Wp.mnew M3 fun h4 M4 => ?_
   rw [newP_eq]
   refine Wp.sa0 M4 kt.len rfl kt.one fun h5 M5 => ?_
   refine Wp.lett (Wp.iff rfl ?_)
   refine Wp.lr0 M5 kt.len ?_
   refine Wp.sa2 M5 kt.len rfl kt.one fun _ M6 => ?_
   refine Wp.sa1 M6 rfl rfl rfl fun _ M7 => ?_
   refine Wp.lr2 M7 kt.len (Wp.lr1 M7 rfl ?_)
   exact Wp.ret ⟨c, T, rfl, kt, M7.pop.pop.pop.pop⟩
 | re_bad a =>
  repeat (first | ((with_reducible apply Wp.obind); (with_reducible first | exact avInt_int _ _ | exact avStr_str _ | exact fldP_ptr _ _ _)) | ((with_reducible apply Wp.ld2 Mx); rfl) | ((with_reducible apply Wp.mnew Mx); intro _ Mz; clear Mx; have Mx := Mz; clear Mz) | ((with_reducible apply Wp.mbox Mx); (rfl); intro _ Mz; clear Mx; have Mx := Mz; clear Mz) | (with_reducible refine Wp.join1 (fun _ _ => ?_)) | (with_reducible refine Wp.lett ?_) | ((with_reducible refine Wp.ift ?_ ?_); ((with_reducible first | apply decide_eq_true | apply bne_t | apply beq_t); omega)) | ((with_reducible refine Wp.iff ?_ ?_); ((with_reducible first | apply decide_eq_false | apply bne_f | apply beq_f); omega)) | (with_reducible refine Wp.go1 (by assumption) ?_) | rw [newP_eq])
  have oa := alt_call (n := n) (D := D + 2) (by omega) (altM (by omega) hn (by omega) a (Nat.zero_le _)) (by omega) (show memB TNode _ = false by rw [Mx.ex]; exact hx)
  refine Wp.callBad oa ?_
  repeat (first | ((with_reducible apply Wp.obind); (with_reducible first | exact avInt_int _ _ | exact avBool_bool _)) | ((with_reducible apply Wp.sa0 Mx); rfl; rfl; (rfl); intro _ Mz; clear Mx; have Mx := Mz; clear Mz) | ((with_reducible apply Wp.lr1 Mx); rfl) | ((with_reducible apply Wp.sa1 Mx); rfl; rfl; (rfl); intro _ Mz; clear Mx; have Mx := Mz; clear Mz) | ((with_reducible apply Wp.lr2 Mx); rfl) | ((with_reducible apply Wp.sa2 Mx); rfl; rfl; (rfl); intro _ Mz; clear Mx; have Mx := Mz; clear Mz) | ((with_reducible apply Wp.mnew Mx); intro _ Mz; clear Mx; have Mx := Mz; clear Mz) | (with_reducible refine Wp.join1 (fun _ _ => ?_)) | (with_reducible refine Wp.lett ?_) | ((with_reducible apply Wp.obind); (with_reducible first | exact avAgg_agg _ | exact extT_0 _ _ | exact extT_1 _ _ _ | exact extT_2 _ _ _ _)) | ((with_reducible refine Wp.ift ?_ ?_); (with_reducible first | rfl | exact Bool.not_false)) | ((with_reducible apply Wp.callN); (with_reducible exact badT_w _)) | (with_reducible refine Wp.go1 (by assumption) ?_) | rw [newP_eq])
  exact Wp.ret ⟨rfl, Mx.tch⟩
 | re_end a ne =>
  rename_i t j
  obtain ⟨_, bj⟩ := altP_bnd a (Nat.zero_le _)
  repeat (first | ((with_reducible apply Wp.obind); (with_reducible first | exact avInt_int _ _ | exact avStr_str _ | exact fldP_ptr _ _ _)) | ((with_reducible apply Wp.ld2 Mx); rfl) | ((with_reducible apply Wp.mnew Mx); intro _ Mz; clear Mx; have Mx := Mz; clear Mz) | ((with_reducible apply Wp.mbox Mx); (rfl); intro _ Mz; clear Mx; have Mx := Mz; clear Mz) | (with_reducible refine Wp.join1 (fun _ _ => ?_)) | (with_reducible refine Wp.lett ?_) | ((with_reducible refine Wp.ift ?_ ?_); ((with_reducible first | apply decide_eq_true | apply bne_t | apply beq_t); omega)) | ((with_reducible refine Wp.iff ?_ ?_); ((with_reducible first | apply decide_eq_false | apply bne_f | apply beq_f); omega)) | (with_reducible refine Wp.go1 (by assumption) ?_) | rw [newP_eq])
  refine Wp.callOk (fin3 a (by rw [Mx.ex]; exact hx)) Mx fun c T h3 kt M3 => ?_
  refine Wp.obind (extT_0 _ _) (Wp.obind (avAgg_agg _) (Wp.obind (extT_1 _ _ _) (Wp.obind (avInt_int _ _) (Wp.obind (extT_2 _ _ _ _) (Wp.obind (avBool_bool _) ?_)))))
  refine Wp.mnew M3 fun h4 M4 => ?_
  rw [newP_eq]
  refine Wp.sa0 M4 kt.len rfl kt.one fun h5 M5 => ?_
  clear Mx
  have Mx := M5
  repeat (first | ((with_reducible apply Wp.obind); (with_reducible first | exact avStr_str _ | exact fldP_ptr _ _ _)) | ((with_reducible apply Wp.lr1 Mx); rfl) | ((with_reducible apply Wp.sa1 Mx); rfl; rfl; (rfl); intro _ Mz; clear Mx; have Mx := Mz; clear Mz) | ((with_reducible apply Wp.lr2 Mx); rfl) | ((with_reducible apply Wp.sa2 Mx); rfl; rfl; (rfl); intro _ Mz; clear Mx; have Mx := Mz; clear Mz) | ((with_reducible apply Wp.ld3 Mx); rfl) | (with_reducible refine Wp.join1 (fun _ _ => ?_)) | (with_reducible refine Wp.lett ?_) | ((with_reducible apply Wp.obind); (with_reducible exact avAgg_agg _)) | ((with_reducible refine Wp.ift ?_ ?_); ((with_reducible apply decide_eq_true); omega)) | ((with_reducible refine Wp.iff ?_ ?_); (with_reducible exact Bool.not_true)) | ((with_reducible apply Wp.callN); (with_reducible exact badT_w _)) | (with_reducible refine Wp.go1 (by assumption) ?_))
  exact Wp.ret ⟨rfl, Mx.tch⟩
 | re a =>
  repeat (first | ((with_reducible apply Wp.obind); (with_reducible first | exact avInt_int _ _ | exact avStr_str _ | exact fldP_ptr _ _ _)) | ((with_reducible apply Wp.ld2 Mx); rfl) | ((with_reducible apply Wp.mnew Mx); intro _ Mz; clear Mx; have Mx := Mz; clear Mz) | ((with_reducible apply Wp.mbox Mx); (rfl); intro _ Mz; clear Mx; have Mx := Mz; clear Mz) | (with_reducible refine Wp.join1 (fun _ _ => ?_)) | (with_reducible refine Wp.lett ?_) | ((with_reducible refine Wp.ift ?_ ?_); ((with_reducible first | apply decide_eq_true | apply bne_t | apply beq_t); omega)) | ((with_reducible refine Wp.iff ?_ ?_); ((with_reducible first | apply decide_eq_false | apply bne_f | apply beq_f); omega)) | (with_reducible refine Wp.go1 (by assumption) ?_) | rw [newP_eq])
  refine Wp.callOk (fin3 a (by rw [Mx.ex]; exact hx)) Mx fun c T h3 kt M3 => ?_
  refine Wp.obind (extT_0 _ _) (Wp.obind (avAgg_agg _) (Wp.obind (extT_1 _ _ _) (Wp.obind (avInt_int _ _) (Wp.obind (extT_2 _ _ _ _) (Wp.obind (avBool_bool _) ?_)))))
  refine Wp.mnew M3 fun h4 M4 => ?_
  rw [newP_eq]
  refine Wp.sa0 M4 kt.len rfl kt.one fun h5 M5 => ?_
  clear Mx
  have Mx := M5
  clear M5
  repeat (first | ((with_reducible apply Wp.obind); (with_reducible first | exact avStr_str _ | exact fldP_ptr _ _ _)) | ((with_reducible apply Wp.ld3 Mx); rfl) | (with_reducible refine Wp.join1 (fun _ _ => ?_)) | (with_reducible refine Wp.lett ?_) | ((with_reducible refine Wp.iff ?_ ?_); first | (with_reducible exact Bool.not_true) | ((with_reducible apply decide_eq_false); omega)) | (with_reducible refine Wp.go1 (by assumption) ?_))
  refine Wp.lr0 Mx kt.len ?_
  refine Wp.sa2 Mx kt.len rfl kt.one fun _ M6 => ?_
  refine Wp.sa1 M6 rfl rfl rfl fun _ M7 => ?_
  refine Wp.lr2 M7 kt.len (Wp.lr1 M7 rfl ?_)
  exact Wp.ret ⟨c, T, rfl, kt, M7.pop.pop.pop.pop⟩
theorem pTree_ok (hl : u.length ≤ 64) {k : Int} (hk : k = 1 ∨ k = 2 ∨ k = 3) : ∃ r, TreeP u k r ∧ (∀ q, r = .error q → q ≤ u.length) ∧ ∀ {n D : Nat} {h : AHeap}, 300 ≤ D → 400 < n → memB TNode h.ex = false → OutT h (world n (D + 3) 21 [.agg [.int .i64 k, strA u]] h) r := by
 obtain ⟨r, r1, r2, r3⟩ := (tree_kinds (u := u) (by omega) hk).2 hl
 refine ⟨r, r1, r2, fun {n D h} hD hn hx => ?_⟩
 have := r3 (n := n) (D := D) (h := h) hD hn hx
 cases r with
 | error q => exact this
 | ok t => exact this
end
set_option maxHeartbeats 4000000
set_option maxRecDepth 20000
noncomputable def law09_PatternEmpties (call : CallF) (_ : Nat) (t0 : List AV) (h : AHeap) : R :=
 outK (opBox h 35 (some (.agg t0))) fun v1 h_2 =>
 callN (call 13 [] h_2) fun r3 h_6 =>
 obind (avBool r3) fun t3 =>
 lett (!t3) fun (t4 : Bool) =>
 ifB t4
 (
  some (.ret (.bool false), h_6))
 (
  obind (ldRow h_6 2 v1) fun t5 =>
  obind (ldRow h_6 2 v1) fun t7 =>
  callN (call 27 [.agg t5] h_6) fun r6 h_14 =>
  obind (avBool r6) fun t6 =>
  chk (reLoad Pg h_14 35 v1 (.agg t7) && (true && true)) <|
  callN (call 28 [.agg t7] h_14) fun r8 h_18 =>
  obind (avBool r8) fun t8 =>
  lett ((t6 : Bool) == t8) fun (t9 : Bool) =>
  some (.ret (.bool t9), h_18))
theorem law09_PatternEmpties_ok {call : CallF} (hc : SaysAll Pg call) {n : Nat} {t0 : List AV} {h : AHeap} {rR : ARes} {hR : AHeap} (z : law09_PatternEmpties call n t0 h = some (rR, hR)) : Says Pg 9 [.agg t0] h rR hR := by
 unfold law09_PatternEmpties at z
 refine says_of (fn := Try.f9) Try.func9 (c := codeOf Try.f9) (by kernel_rfl) (by kernel_rfl) (fun w0 m0 => ?_)
 refine W.weaken (l' := [(0, .agg t0)]) (Fr.c Fr.n) ?_
 refine W.s (fun _ n1 _ _ _ => ?_)
 refine W.r ?_
 replace z := outK_some z; obtain ⟨v1, h_2, e3, z⟩ := z
 refine WL.b (some 1) v1 h_2 e3 ?_
 refine WL.a (some 2) (.bool false) h_2 ?_
 refine WL.n ?_
 refine Go.weaken (l' := [(1, v1)]) (Fr.c Fr.n) ?_
 refine n1 ?_
 refine W.s (fun _ n4 _ q4 _ => ?_)
 refine W.s (fun _ n5 _ _ _ => ?_)
 refine W.r ?_
 replace z := callN_some z; obtain ⟨r3, h_6, e7, z⟩ := z
 replace z := oS z; obtain ⟨t3, c8, z⟩ := z
 have c8 := avBool_some c8
 subst c8
 refine WL.c (hc.ok w0) (some 3) e7 ?_
 replace z := lS z; obtain ⟨t4, e9, z⟩ := z
 refine WL.val (d := (some 4)) (v := .bool t4) (h' := h_6) (by kernel_rfl) (by kernel_rfl) (val_of AV.bool e9 (by kernel_rfl)) ?_
 refine WL.n ?_
 refine Go.weaken (l' := [(1, v1), (4, .bool t4)]) (Fr.c (Fr.c Fr.n)) ?_
 refine n5 ?_
 cases t4 with
 | true =>
  replace z := ifB_t z
  refine W.t ?_
  refine W.s (fun _ n10 _ _ _ => ?_)
  refine W.r ?_
  refine WL.a (some 2) (.bool false) h_6 ?_
  refine WL.n ?_
  refine Go.weaken (l' := [(2, .bool false)]) (Fr.c Fr.n) ?_
  refine n10 ?_
  refine W.ret (by kernel_rfl) ?_
  refine q4 ?_
  obtain ⟨z, hF2⟩ := ret_inj z; subst z; subst hF2
  exact leave_of (rs := [.tmp 2]) (vs := [.bool false]) (by kernel_rfl) (res_tmp (by kernel_rfl) res_nil) (by kernel_rfl)
 | false =>
  replace z := ifB_f z
  refine W.f ?_
  refine W.skip (by kernel_rfl) ?_
  refine n4 ?_
  refine W.s (fun _ n11 _ _ _ => ?_)
  refine W.draw (by kernel_rfl) (hc.ok w0) (plan := [0, 2, 1, 3, 4, 5]) (by kernel_rfl) (by kernel_rfl) (by kernel_rfl) ?_
  replace z := oS z; obtain ⟨t5, e12, z⟩ := z
  refine WD.b 1 (some 5) (.agg t5) h_6 (load_row (P := Pg) (h := h_6) (t := 35) (by kernel_rfl) (by kernel_rfl) e12) ?_
  replace z := oS z; obtain ⟨t7, e13, z⟩ := z
  refine WD.b 1 (some 7) (.agg t7) h_6 (load_row (P := Pg) (h := h_6) (t := 35) (by kernel_rfl) (by kernel_rfl) e13) ?_
  replace z := callN_some z; obtain ⟨r6, h_14, e15, z⟩ := z
  replace z := oS z; obtain ⟨t6, c16, z⟩ := z
  have c16 := avBool_some c16
  subst c16
  replace z := chk_some z; obtain ⟨k17, z⟩ := z
  refine WD.call (d := (some 6)) (by kernel_rfl) (by kernel_rfl) (by kernel_rfl) e15 (k := 2) (by kernel_rfl) (fun _ => (Eq.trans (by kernel_rfl) k17)) (by decide) ?_
  replace z := callN_some z; obtain ⟨r8, h_18, e19, z⟩ := z
  replace z := oS z; obtain ⟨t8, c20, z⟩ := z
  have c20 := avBool_some c20
  subst c20
  refine WD.call (d := (some 8)) (by kernel_rfl) (by kernel_rfl) (by kernel_rfl) e19 (k := 2) (by kernel_rfl) (fun _ => (by kernel_rfl)) (by decide) ?_
  replace z := lS z; obtain ⟨t9, e21, z⟩ := z
  refine WD.val (d := (some 9)) (v := .bool t9) (h' := h_18) (by kernel_rfl) (by kernel_rfl) (val_of AV.bool e21 (by kernel_rfl)) (k := 0) (by kernel_rfl) (fun e => absurd e (by decide)) (by decide) ?_
  refine WD.a 0 (some 2) (.bool t9) h_18 ?_
  refine WD.nil ?_
  refine Go.weaken (l' := [(2, .bool t9)]) (Fr.c Fr.n) ?_
  refine n11 ?_
  refine W.ret (by kernel_rfl) ?_
  obtain ⟨z, hF2⟩ := ret_inj z; subst z; subst hF2
  exact leave_of (rs := [.tmp 2]) (vs := [.bool t9]) (by kernel_rfl) (res_tmp (by kernel_rfl) res_nil) (by kernel_rfl)
theorem worksK_w (n d : Nat) (h : AHeap) : world n (d + 1) 13 [] h = some (.ret (.bool true), h) := by kernel_rfl
set_option maxRecDepth 100000 in
theorem pat_of {N : Nat} {h : AHeap} {x : AV} (hp : ArgP Try.prog N h 12 35 x) : ∃ (k : Int) (u : Bytes), x = .agg [.int .i64 k, strA u] ∧ u.length ≤ reachBytes := by
 obtain ⟨l, rfl, hpl⟩ := hp.agg (by kernel_rfl)
 obtain ⟨y1, y2, rfl, p1, p2⟩ := hpl.struct2 Try.underlying35
 obtain ⟨k, rfl, _⟩ := p1.int Try.underlying3
 obtain ⟨u, rfl, hu⟩ := p2.str Try.underlying9
 exact ⟨k, u, rfl, hu⟩
def BothT (n D : Nat) (k : Int) (u : Bytes) : Prop :=
 (∃ e q : Int, e ≠ 0 ∧ ∀ h : AHeap, memB TNode h.ex = false → world n D 21 [.agg [.int .i64 k, strA u]] h = some (.ret (.tup [.agg (nodeC 0 zeroW .nsl), .agg [.int .i64 e, .int .i64 q]]), h) ∧ world n D 22 [.agg [.int .i64 k, strA u]] h = some (.ret (.tup [.agg (nodeC 0 zeroW .nsl), .agg [.int .i64 e, .int .i64 q]]), h)) ∨
 (∃ t : Nd, u.length ≤ 64 ∧ TreeP u k (.ok t) ∧ ∀ h : AHeap, memB TNode h.ex = false → OutT h (world n D 21 [.agg [.int .i64 k, strA u]] h) (.ok t) ∧ OutT h (world n D 22 [.agg [.int .i64 k, strA u]] h) (.ok t))
theorem bothT (k : Int) (u : Bytes) {n D : Nat} (hn : 400 < n) (hD : 310 ≤ D) : BothT n D k u := by
 obtain ⟨D, rfl⟩ : ∃ D', D = D' + 3 := ⟨D - 3, by omega⟩
 by_cases hk : k = 1 ∨ k = 2 ∨ k = 3
 ·by_cases hl : 64 < u.length
  ·exact .inl ⟨3, 64, by decide, fun h _ => ⟨tree_long hl hk, rTree_long hl hk⟩⟩
  ·obtain ⟨r, r1, _, r3⟩ := pTree_ok (u := u) (by omega) hk
   cases r with
   | error q =>
    refine .inl ⟨6, (q : Int), by decide, fun h hx => ⟨r3 (by omega) hn hx, ?_⟩⟩
    exact rTree_ok (by omega) (by omega) r1 (D := D + 2) (by omega) hx
   | ok t => exact .inr ⟨t, by omega, r1, fun h hx => ⟨r3 (by omega) hn hx, rTree_ok (by omega) (by omega) r1 (D := D + 2) (by omega) hx⟩⟩
 ·have h1 : k ≠ 1 := fun hh => hk (.inl hh)
  have h2 : k ≠ 2 := fun hh => hk (.inr (.inl hh))
  have h3 : k ≠ 3 := fun hh => hk (.inr (.inr hh))
  exact .inl ⟨2, 0, by decide, fun h _ => ⟨pTree_other h1 h2 h3, rTree_other h1 h2 h3⟩⟩
theorem flat_sz {F : Nat → Res} {u : Bytes} (hF : ∀ i t j, F i = .ok (t, j) → t.sz ≤ 3 ∧ i < j) {l : List Nd} {i : Nat} {r : Res} (k : FlatP F u l i r) : ∀ t, dropJ r = .ok t → t.sz ≤ szL l + 4 * (u.length - i) + 1 := by
 induction k with
 | stop s =>
  intro t e
  cases e
  refine Nat.le_trans (joinN_sz 3 _) ?_
  omega
 | bad s h =>
  intro t e
  cases e
 | more s h m ih =>
  intro t e
  have h1 := ih t e
  obtain ⟨h2, h3⟩ := hF _ _ _ h
  rw [szL_snoc] at h1
  omega
theorem partL_sz (u : Bytes) : ∀ i t j, partL u i = .ok (t, j) → t.sz ≤ 3 ∧ i < j := by
 intro i t j h
 unfold partL at h
 split at h
 ·cases h
 ·cases h
  exact ⟨by simp [oneN, Nd.sz, szL], by omega⟩
theorem partG_sz (u : Bytes) : ∀ i t j, partG u i = .ok (t, j) → t.sz ≤ 3 ∧ i < j := by
 intro i t j h
 unfold partG at h
 split at h
 ·cases h
 split at h
 ·cases h
  exact ⟨by simp [overN, anyN, Nd.sz, szL], by omega⟩
 split at h
 ·cases h
  exact ⟨by simp [anyN, Nd.sz, szL], by omega⟩
 split at h
 ·split at h
  ·cases h
  ·cases h
   exact ⟨by simp [oneN, Nd.sz, szL], by omega⟩
 ·cases h
  exact ⟨by simp [oneN, Nd.sz, szL], by omega⟩
theorem treeP_small {k : Int} {u : Bytes} {t : Nd} (h : TreeP u k (.ok t)) : t.sz ≤ 6 * u.length + 1 := by
 generalize hr : Except.ok t = r at h
 cases h with
 | lit a =>
  have := flat_sz (partL_sz u) a t hr.symm
  rw [szL] at this
  omega
 | glob a =>
  have := flat_sz (partG_sz u) a t hr.symm
  rw [szL] at this
  omega
 | re_bad a => cases hr
 | re_end a ne => cases hr
 | re a =>
  cases hr
  exact altP_small a
mutual
def emptyN : Nd → Bool
 | .mk op _ ks => if op = 1 ∨ op = 5 ∨ op = 7 then true else if op = 3 ∨ op = 6 then allN ks else if op = 4 then someN ks else false
def allN : List Nd → Bool
 | [] => true
 | k :: ks => emptyN k && allN ks
def someN : List Nd → Bool
 | [] => false
 | k :: ks => emptyN k || someN ks
end
mutual
def plusN : Nd → Prop
 | .mk op _ ks => (op = 6 → ks.length = 1) ∧ plusL ks
def plusL : List Nd → Prop
 | [] => True
 | k :: ks => plusN k ∧ plusL ks
end
theorem plusL_snoc : ∀ {l : List Nd} {t : Nd}, plusL l → plusN t → plusL (l ++ [t])
 | [], _, _, h => ⟨h, trivial⟩
 | _ :: _, _, ⟨a, b⟩, h => ⟨a, plusL_snoc b h⟩
theorem plusN_join {op : Nat} (ho : op ≠ 6) : ∀ {l : List Nd}, plusL l → plusN (joinN op l)
 | [], _ => ⟨fun h => absurd h (by decide), trivial⟩
 | [_], ⟨h, _⟩ => h
 | _ :: _ :: _, h => ⟨fun hh => absurd hh ho, h⟩
theorem plusN_one (c : Nat) : plusN (oneN c) := ⟨fun h => absurd h (by decide), trivial⟩
theorem plusN_any : plusN anyN := ⟨fun h => absurd h (by decide), trivial⟩
theorem plusN_over {op : Nat} {t : Nd} (h : plusN t) : plusN (overN op [t]) := ⟨fun _ => rfl, h, trivial⟩
section
variable {u : Bytes}
mutual
theorem altP_plus : ∀ {l : List Nd} {i : Nat} {r : Res}, AltP u l i r → plusL l → ∀ t j, r = .ok (t, j) → plusN t
 | _, _, _, .bad _, _, _, _, e => by cases e
 | _, _, _, .last h _, hl, t, j, e => by
  cases e
  exact plusN_join (by decide) (plusL_snoc hl (rowP_plus h trivial _ _ rfl))
 | _, _, _, .more h _ m, hl, t, j, e => altP_plus m (plusL_snoc hl (rowP_plus h trivial _ _ rfl)) t j e
termination_by structural _ _ _ x => x
theorem rowP_plus : ∀ {l : List Nd} {i : Nat} {r : Res}, RowP u l i r → plusL l → ∀ t j, r = .ok (t, j) → plusN t
 | _, _, _, .stop _, hl, t, j, e => by
  cases e
  exact plusN_join (by decide) hl
 | _, _, _, .bad _ _, _, _, _, e => by cases e
 | _, _, _, .more _ h m, hl, t, j, e => rowP_plus m (plusL_snoc hl (partP_plus h _ _ rfl)) t j e
termination_by structural _ _ _ x => x
theorem partP_plus : ∀ {i : Nat} {r : Res}, PartP u i r → ∀ t j, r = .ok (t, j) → plusN t
 | _, _, .bad _, _, _, e => by cases e
 | _, _, .bare h _, t, j, e => atomP_plus h t j e
 | _, _, .sign h _, t, j, e => by
  cases e
  exact plusN_over (atomP_plus h _ _ rfl)
termination_by structural _ _ x => x
theorem atomP_plus : ∀ {i : Nat} {r : Res}, AtomP u i r → ∀ t j, r = .ok (t, j) → plusN t
 | _, _, .none _, _, _, e => by cases e
 | _, _, .open_bad _ _, _, _, e => by cases e
 | _, _, .open_end _ _ _, _, _, e => by cases e
 | _, _, .group _ m _, t, j, e => by
  cases e
  exact altP_plus m trivial _ _ rfl
 | _, _, .any _, t, j, e => by
  cases e
  exact plusN_any
 | _, _, .set_bad _ _, _, _, e => by cases e
 | _, _, .set _ _, t, j, e => by
  cases e
  exact ⟨fun h => absurd h (by decide), trivial⟩
 | _, _, .sl_end _ _, _, _, e => by cases e
 | _, _, .sl _ _, t, j, e => by
  cases e
  exact plusN_one _
 | _, _, .bad _ _, _, _, e => by cases e
 | _, _, .one _ _ _, t, j, e => by
  cases e
  exact plusN_one _
termination_by structural _ _ x => x
end
theorem flat_plus {F : Nat → Res} (hF : ∀ i t j, F i = .ok (t, j) → plusN t) {l : List Nd} {i : Nat} {r : Res} (k : FlatP F u l i r) : plusL l → ∀ t, dropJ r = .ok t → plusN t := by
 induction k with
 | stop s =>
  intro hl t e
  cases e
  exact plusN_join (by decide) hl
 | bad s h =>
  intro _ t e
  cases e
 | more s h m ih =>
  intro hl t e
  exact ih (plusL_snoc hl (hF _ _ _ h)) t e
theorem treeP_plus {k : Int} {t : Nd} (h : TreeP u k (.ok t)) : plusN t := by
 generalize hr : Except.ok t = r at h
 cases h with
 | lit a =>
  refine flat_plus (F := partL u) (fun i t j h => ?_) a trivial t hr.symm
  unfold partL at h
  split at h
  ·cases h
  ·cases h
   exact plusN_one _
 | glob a =>
  refine flat_plus (F := partG u) (fun i t j h => ?_) a trivial t hr.symm
  unfold partG at h
  split at h
  ·cases h
  split at h
  ·cases h
   exact plusN_over plusN_any
  split at h
  ·cases h
   exact plusN_any
  split at h
  ·split at h
   ·cases h
   ·cases h
    exact plusN_one _
  ·cases h
   exact plusN_one _
 | re_bad a => cases hr
 | re_end a ne => cases hr
 | re a =>
  cases hr
  exact altP_plus a trivial _ _ rfl
end
inductive KidB (fid : Nat) (h : AHeap) (D n : Nat) : List (List AV) → List Nd → Prop
 | nil : KidB fid h D n [] []
 | cons {c : List AV} {t : Nd} {l : List (List AV)} {ks : List Nd} (e : ∀ h', Tch [] h h' → world n D fid [.agg c] h' = some (.ret (.bool (emptyN t)), h')) (k : KidB fid h D n l ks) : KidB fid h D n (c :: l) (t :: ks)
section
variable {h0 H : AHeap} {n D : Nat} {kv : AV} {K : List (List AV)} {T : List RowT} {Q : ARes → AHeap → Prop}
theorem drop_cons {α : Type} {K m : List α} {c : α} {i : Nat} (d : K.drop i = c :: m) : ∃ hi : i < K.length, K[i] = c ∧ K.drop (i + 1) = m := by
 have hi : i < K.length := by
  have := congrArg List.length d
  rw [List.length_drop, List.length_cons] at this
  omega
 have g := List.drop_eq_getElem_cons hi
 rw [d] at g
 simp only [List.cons.injEq] at g
 exact ⟨hi, g.1.symm, g.2.symm⟩
theorem drop_nil {α : Type} {K : List α} {i : Nat} (d : K.drop i = []) : K.length ≤ i := by
 have := congrArg List.length d
 rw [List.length_drop, List.length_nil] at this
 omega
theorem pall_loop {k27 : AHeap → R} (g : GrowT TNode 6 K kv T) (r : RowsAt h0 T) (hK : ∀ c ∈ K, c.length = 6 ∧ c.all AV.one = true) (hn : K.length < 1000000) : ∀ (l : List (List AV)) (ks : List Nd) (i f : Nat) (H : AHeap), KidB 47 h0 D n l ks → K.drop i = l → K.length - i < f → Tch [] h0 H →
  (allN ks = true → ∀ H', Tch [] h0 H' → Wp (k27 H') Q) → (allN ks = false → ∀ H', Tch [] h0 H' → Q (.ret (.bool false)) H') → Wp (pattern_empty_L0 (world n D) kv (K.length : Int) k27 f (i : Int) H) Q
 | _, _, _, 0, _, _, _, hf, _, _, _ => by omega
 | l, ks, i, f + 1, H, kk, d1, hf, ht, hk, hq => by
  rw [pattern_empty_L0_s]
  unfold pattern_empty_L0b
  cases kk with
  | nil =>
   have := drop_nil d1
   repeat (first | (with_reducible refine Wp.lett ?_) | ((with_reducible refine Wp.iff ?_ ?_); ((with_reducible apply decide_eq_false); omega)))
   exact hk rfl H ht
  | cons e k =>
   rename_i c t m ks
   obtain ⟨hi1, hc, d2⟩ := drop_cons d1
   obtain ⟨p1, _, x1, y1⟩ := (Slc.keep g r ht).row hi1
   obtain ⟨l6, o6⟩ := hK _ (List.getElem_mem hi1)
   rw [hc] at y1 l6 o6
   have Mx := Mem.nil [] H
   repeat (first | ((with_reducible apply Wp.mnew Mx); intro _ Mz; clear Mx; have Mx := Mz; clear Mz) | (with_reducible refine Wp.lett ?_) | ((with_reducible apply Wp.obind); (with_reducible first | exact x1 | exact y1)) | ((with_reducible refine Wp.ift ?_ ?_); ((with_reducible apply decide_eq_true); omega)) | rw [newP_eq])
   refine Wp.sa0 Mx l6 rfl o6 fun h2 M2 => ?_
   refine Wp.lr0 M2 l6 ?_
   have es := e h2 (ht.trans M2.tch)
   have ei : (i : Int) + 1 = ((i + 1 : Nat) : Int) := by omega
   cases hb : emptyN t with
   | true =>
    rw [hb] at es
    repeat (first | ((with_reducible refine Wp.lettw ?_ ?_ ?_); omega; omega) | (with_reducible refine Wp.lett ?_) | ((with_reducible apply Wp.obind); (with_reducible exact avBool_bool _)) | ((with_reducible refine Wp.iff ?_ ?_); (with_reducible exact Bool.not_true)) | ((with_reducible apply Wp.callN); (with_reducible exact es)))
    rw [ei]
    refine pall_loop g r hK hn m ks (i + 1) f h2 k d2 (by omega) (ht.trans M2.tch) (fun h => hk ?_) fun h => hq ?_
    ·rw [allN, hb, h]; rfl
    ·rw [allN, hb, h]; rfl
   | false =>
    rw [hb] at es
    repeat (first | (with_reducible refine Wp.lett ?_) | ((with_reducible apply Wp.obind); (with_reducible exact avBool_bool _)) | ((with_reducible refine Wp.ift ?_ ?_); (with_reducible exact Bool.not_false)) | ((with_reducible apply Wp.callN); (with_reducible exact es)))
    exact Wp.ret (hq (by rw [allN, hb]; rfl) _ (ht.trans M2.tch))
theorem psome_loop {k62 : AHeap → R} (g : GrowT TNode 6 K kv T) (r : RowsAt h0 T) (hK : ∀ c ∈ K, c.length = 6 ∧ c.all AV.one = true) (hn : K.length < 1000000) : ∀ (l : List (List AV)) (ks : List Nd) (i f : Nat) (H : AHeap), KidB 47 h0 D n l ks → K.drop i = l → K.length - i < f → Tch [] h0 H →
  (someN ks = false → ∀ H', Tch [] h0 H' → Wp (k62 H') Q) → (someN ks = true → ∀ H', Tch [] h0 H' → Q (.ret (.bool true)) H') → Wp (pattern_empty_L1 (world n D) kv (K.length : Int) k62 f (i : Int) H) Q
 | _, _, _, 0, _, _, _, hf, _, _, _ => by omega
 | l, ks, i, f + 1, H, kk, d1, hf, ht, hk, hq => by
  rw [pattern_empty_L1_s]
  unfold pattern_empty_L1b
  cases kk with
  | nil =>
   have := drop_nil d1
   repeat (first | (with_reducible refine Wp.lett ?_) | ((with_reducible refine Wp.iff ?_ ?_); ((with_reducible apply decide_eq_false); omega)))
   exact hk rfl H ht
  | cons e k =>
   rename_i c t m ks
   obtain ⟨hi1, hc, d2⟩ := drop_cons d1
   obtain ⟨p1, _, x1, y1⟩ := (Slc.keep g r ht).row hi1
   obtain ⟨l6, o6⟩ := hK _ (List.getElem_mem hi1)
   rw [hc] at y1 l6 o6
   have Mx := Mem.nil [] H
   repeat (first | ((with_reducible apply Wp.mnew Mx); intro _ Mz; clear Mx; have Mx := Mz; clear Mz) | (with_reducible refine Wp.lett ?_) | ((with_reducible apply Wp.obind); (with_reducible first | exact x1 | exact y1)) | ((with_reducible refine Wp.ift ?_ ?_); ((with_reducible apply decide_eq_true); omega)) | rw [newP_eq])
   refine Wp.sa0 Mx l6 rfl o6 fun h2 M2 => ?_
   refine Wp.lr0 M2 l6 ?_
   have es := e h2 (ht.trans M2.tch)
   have ei : (i : Int) + 1 = ((i + 1 : Nat) : Int) := by omega
   cases hb : emptyN t with
   | false =>
    rw [hb] at es
    repeat (first | ((with_reducible refine Wp.lettw ?_ ?_ ?_); omega; omega) | ((with_reducible apply Wp.obind); (with_reducible exact avBool_bool _)) | ((with_reducible refine Wp.iff ?_ ?_); (with_reducible rfl)) | ((with_reducible apply Wp.callN); (with_reducible exact es)))
    rw [ei]
    refine psome_loop g r hK hn m ks (i + 1) f h2 k d2 (by omega) (ht.trans M2.tch) (fun h => hk ?_) fun h => hq ?_
    ·rw [someN, hb, h]; rfl
    ·rw [someN, hb, h]; rfl
   | true =>
    rw [hb] at es
    repeat (first | ((with_reducible apply Wp.obind); (with_reducible exact avBool_bool _)) | ((with_reducible refine Wp.ift ?_ ?_); (with_reducible rfl)) | ((with_reducible apply Wp.callN); (with_reducible exact es)))
    exact Wp.ret (hq (by rw [someN, hb]; rfl) _ (ht.trans M2.tch))
theorem rall_loop {b1 : Nat} {pc : List AV} {k32 : Bool → AHeap → R} (g : GrowT TNode 6 K kv T) (r : RowsAt H T) (q1 : RowH H b1 TNode pc) (e1 : pc[5]? = some kv) (hn : K.length < 1000000) : ∀ (l : List (List AV)) (ks : List Nd) (i f : Nat) (acc : Bool), KidB 48 H D n l ks → K.drop i = l → K.length - i < f →
  Wp (k32 (acc && allN ks) H) Q → Wp (ref09_Nothing_L0 (world n D) (.ptr b1 0) k32 f acc (i : Int) H) Q
 | _, _, _, 0, _, _, _, hf, _ => by omega
 | l, ks, i, f + 1, acc, kk, d1, hf, hk => by
  rw [ref09_Nothing_L0_s]
  unfold ref09_Nothing_L0b
  have c1 : ldCell H (.ptr b1 (0 + 5)) = some kv := RowH.cell' q1 e1
  have hl := g.len
  cases kk with
  | nil =>
   have := drop_nil d1
   repeat (first | (with_reducible refine Wp.lett ?_) | ((with_reducible apply Wp.obind); (with_reducible first | exact c1 | exact hl | exact fldP_ptr _ _ _)) | ((with_reducible refine Wp.iff ?_ ?_); ((with_reducible apply decide_eq_false); omega)))
   rw [allN, Bool.and_true] at hk
   exact hk
  | cons e k =>
   rename_i c t m ks
   obtain ⟨hi1, hc, d2⟩ := drop_cons d1
   obtain ⟨p1, _, x1, y1⟩ := (grow_sli g r).row hi1
   rw [hc] at y1
   have es := e H (Tch.refl _ _)
   have ei : (i : Int) + 1 = ((i + 1 : Nat) : Int) := by omega
   rw [allN] at hk
   cases acc with
   | true =>
    repeat (first | (with_reducible refine Wp.join1 (fun _ _ => ?_)) | ((with_reducible refine Wp.lettw ?_ ?_ ?_); omega; omega) | (with_reducible refine Wp.lett ?_) | ((with_reducible apply Wp.obind); (with_reducible first | exact c1 | exact hl | exact x1 | exact y1 | exact avBool_bool _ | exact fldP_ptr _ _ _)) | ((with_reducible refine Wp.ift ?_ ?_); first | (with_reducible rfl) | ((with_reducible apply decide_eq_true); omega)) | ((with_reducible apply Wp.callN); (with_reducible exact es)) | (with_reducible refine Wp.go1 (by assumption) ?_))
    rw [ei]
    rw [Bool.true_and] at hk
    exact rall_loop g r q1 e1 hn m ks (i + 1) f _ k d2 (by omega) hk
   | false =>
    repeat (first | (with_reducible refine Wp.join1 (fun _ _ => ?_)) | ((with_reducible refine Wp.lettw ?_ ?_ ?_); omega; omega) | (with_reducible refine Wp.lett ?_) | ((with_reducible apply Wp.obind); (with_reducible first | exact c1 | exact hl | exact fldP_ptr _ _ _)) | ((with_reducible refine Wp.ift ?_ ?_); ((with_reducible apply decide_eq_true); omega)) | ((with_reducible refine Wp.iff ?_ ?_); (with_reducible rfl)) | (with_reducible refine Wp.go1 (by assumption) ?_))
    rw [ei]
    exact rall_loop g r q1 e1 hn m ks (i + 1) f _ k d2 (by omega) hk
theorem rsome_loop {b1 : Nat} {pc : List AV} {k63 : Bool → AHeap → R} (g : GrowT TNode 6 K kv T) (r : RowsAt H T) (q1 : RowH H b1 TNode pc) (e1 : pc[5]? = some kv) (hn : K.length < 1000000) : ∀ (l : List (List AV)) (ks : List Nd) (i f : Nat) (acc : Bool), KidB 48 H D n l ks → K.drop i = l → K.length - i < f →
  Wp (k63 (acc || someN ks) H) Q → Wp (ref09_Nothing_L1 (world n D) (.ptr b1 0) k63 f acc (i : Int) H) Q
 | _, _, _, 0, _, _, _, hf, _ => by omega
 | l, ks, i, f + 1, acc, kk, d1, hf, hk => by
  rw [ref09_Nothing_L1_s]
  unfold ref09_Nothing_L1b
  have c1 : ldCell H (.ptr b1 (0 + 5)) = some kv := RowH.cell' q1 e1
  have hl := g.len
  cases kk with
  | nil =>
   have := drop_nil d1
   repeat (first | (with_reducible refine Wp.lett ?_) | ((with_reducible apply Wp.obind); (with_reducible first | exact c1 | exact hl | exact fldP_ptr _ _ _)) | ((with_reducible refine Wp.iff ?_ ?_); ((with_reducible apply decide_eq_false); omega)))
   rw [someN, Bool.or_false] at hk
   exact hk
  | cons e k =>
   rename_i c t m ks
   obtain ⟨hi1, hc, d2⟩ := drop_cons d1
   obtain ⟨p1, _, x1, y1⟩ := (grow_sli g r).row hi1
   rw [hc] at y1
   have es := e H (Tch.refl _ _)
   have ei : (i : Int) + 1 = ((i + 1 : Nat) : Int) := by omega
   rw [someN] at hk
   cases acc with
   | false =>
    repeat (first | (with_reducible refine Wp.join1 (fun _ _ => ?_)) | ((with_reducible refine Wp.lettw ?_ ?_ ?_); omega; omega) | (with_reducible refine Wp.lett ?_) | ((with_reducible apply Wp.obind); (with_reducible first | exact c1 | exact hl | exact x1 | exact y1 | exact avBool_bool _ | exact fldP_ptr _ _ _)) | ((with_reducible refine Wp.ift ?_ ?_); ((with_reducible apply decide_eq_true); omega)) | ((with_reducible refine Wp.iff ?_ ?_); (with_reducible rfl)) | ((with_reducible apply Wp.callN); (with_reducible exact es)) | (with_reducible refine Wp.go1 (by assumption) ?_))
    rw [ei]
    rw [Bool.false_or] at hk
    exact rsome_loop g r q1 e1 hn m ks (i + 1) f _ k d2 (by omega) hk
   | true =>
    repeat (first | (with_reducible refine Wp.join1 (fun _ _ => ?_)) | ((with_reducible refine Wp.lettw ?_ ?_ ?_); omega; omega) | (with_reducible refine Wp.lett ?_) | ((with_reducible apply Wp.obind); (with_reducible first | exact c1 | exact hl | exact fldP_ptr _ _ _)) | ((with_reducible refine Wp.ift ?_ ?_); first | (with_reducible rfl) | ((with_reducible apply decide_eq_true); omega)) | (with_reducible refine Wp.go1 (by assumption) ?_))
    rw [ei]
    exact rsome_loop g r q1 e1 hn m ks (i + 1) f _ k d2 (by omega) hk
mutual
theorem pEmpty_ok : ∀ (t : Nd) {c : List AV} {T : List RowT} {D n : Nat} {h : AHeap}, NodeT t c T → RowsAt h T → t.sz ≤ D → t.sz < n → t.sz < 1000000 → world n D 47 [.agg c] h = some (.ret (.bool (emptyN t)), h)
 | .mk op w ks, _, _, 0, n, h, _, _, hD, _, _ => by
  rw [Nd.sz] at hD
  omega
 | .mk op w ks, c, T, D + 1, n, h, k1, r1, hD, hn, hN => by
  rw [Nd.sz] at hD hn hN
  have hsl := szL_len ks
  cases k1 with
  | mk hw g1 ks1 =>
   rename_i kc1 kv1 T01 T11
   have kk := pEmptyL_ok ks (D := D) (n := n) ks1 r1.right (by omega) (by omega) (by omega)
   have hl1 := ks1.len
   have hK : ∀ c ∈ kc1, c.length = 6 ∧ c.all AV.one = true := g1.1
   obtain ⟨a, b, c, d, rfl⟩ := words4 hw
   apply Wp.eq
   rw [w_pattern_empty]
   refine Wp.gc ?_
   suffices hK : Wp (pattern_empty (world n D) n (nodeC op [a, b, c, d] kv1) h) fun r h' => r = .ret (.bool (emptyN (.mk op [a, b, c, d] ks))) ∧ Tch [] h h' from hK.mono fun r h' ⟨e, t⟩ => ⟨t.above, by rw [e]; rfl, e, rfl⟩
   unfold pattern_empty
   have Mx := Mem.nil [] h
   have o1 := nodeC_one (op := op) (w := [a, b, c, d]) g1.one.1
   have len1 := g1.len
   refine Wp.mbox Mx o1 fun h1 M1 => ?_
   clear Mx
   have Mx := M1
   clear M1
   rw [emptyN]
   by_cases h157 : op = 1 ∨ op = 5 ∨ op = 7
   ·rw [if_pos h157]
    rcases h157 with rfl | rfl | rfl
    ·repeat (first | ((with_reducible apply Wp.obind); (with_reducible first | exact avInt_int _ _ | exact fldP_ptr _ _ _)) | ((with_reducible apply Wp.ld0 Mx); rfl) | (with_reducible refine Wp.join1 (fun _ _ => ?_)) | (with_reducible refine Wp.lett ?_) | ((with_reducible refine Wp.ift ?_ ?_); first | (with_reducible rfl) | ((with_reducible apply beq_t); omega)) | (with_reducible refine Wp.go1 (by assumption) ?_))
     exact Wp.ret ⟨rfl, Mx.tch⟩
    ·repeat (first | ((with_reducible apply Wp.obind); (with_reducible first | exact avInt_int _ _ | exact fldP_ptr _ _ _)) | ((with_reducible apply Wp.ld0 Mx); rfl) | (with_reducible refine Wp.join1 (fun _ _ => ?_)) | (with_reducible refine Wp.lett ?_) | ((with_reducible refine Wp.ift ?_ ?_); first | (with_reducible rfl) | ((with_reducible apply beq_t); omega)) | ((with_reducible refine Wp.iff ?_ ?_); ((with_reducible apply beq_f); omega)) | (with_reducible refine Wp.go1 (by assumption) ?_))
     exact Wp.ret ⟨rfl, Mx.tch⟩
    ·repeat (first | ((with_reducible apply Wp.obind); (with_reducible first | exact avInt_int _ _ | exact fldP_ptr _ _ _)) | ((with_reducible apply Wp.ld0 Mx); rfl) | (with_reducible refine Wp.join1 (fun _ _ => ?_)) | (with_reducible refine Wp.lett ?_) | ((with_reducible refine Wp.ift ?_ ?_); ((with_reducible apply beq_t); omega)) | ((with_reducible refine Wp.iff ?_ ?_); ((with_reducible apply beq_f); omega)) | (with_reducible refine Wp.go1 (by assumption) ?_))
     exact Wp.ret ⟨rfl, Mx.tch⟩
   rw [if_neg h157]
   by_cases h36 : op = 3 ∨ op = 6
   ·rw [if_pos h36]
    have fin : ∀ {k27 : AHeap → R}, (k27 = fun h_28 => some (.ret (.bool true), h_28)) → Wp (pattern_empty_L0 (world n D) kv1 (kc1.length : Int) k27 n 0 h1) fun r h' => r = .ret (.bool (allN ks)) ∧ Tch [] h h' := by
     intro k27 ek
     refine pall_loop (h0 := h) g1 r1.left hK (by omega) kc1 ks 0 n h1 kk List.drop_zero (by omega) Mx.tch (fun ha H' t => ?_) fun ha H' t => ?_
     ·rw [ek, ha]
      exact Wp.ret ⟨rfl, t⟩
     ·rw [ha]
      exact ⟨rfl, t⟩
    rcases h36 with rfl | rfl
    ·repeat (first | ((with_reducible apply Wp.obind); (with_reducible first | exact avInt_int _ _ | exact fldP_ptr _ _ _)) | ((with_reducible apply Wp.ld0 Mx); rfl) | (with_reducible first | refine Wp.join0 (fun _ _ => ?_) | refine Wp.join1 (fun _ _ => ?_)) | (with_reducible refine Wp.lett ?_) | ((with_reducible apply Wp.obind); (with_reducible exact len1)) | ((with_reducible refine Wp.ift ?_ ?_); ((with_reducible apply beq_t); omega)) | ((with_reducible refine Wp.iff ?_ ?_); ((with_reducible apply beq_f); omega)) | (with_reducible refine Wp.go1 (by assumption) ?_))
     exact fin (by assumption)
    ·repeat (first | ((with_reducible apply Wp.obind); (with_reducible first | exact avInt_int _ _ | exact fldP_ptr _ _ _)) | ((with_reducible apply Wp.ld0 Mx); rfl) | (with_reducible first | refine Wp.join0 (fun _ _ => ?_) | refine Wp.join1 (fun _ _ => ?_)) | (with_reducible refine Wp.lett ?_) | ((with_reducible apply Wp.obind); (with_reducible exact len1)) | ((with_reducible refine Wp.ift ?_ ?_); first | (with_reducible rfl) | ((with_reducible apply beq_t); omega)) | ((with_reducible refine Wp.iff ?_ ?_); ((with_reducible apply beq_f); omega)) | (with_reducible refine Wp.go1 (by assumption) ?_))
     exact fin (by assumption)
   rw [if_neg h36]
   by_cases h4 : op = 4
   ·rw [if_pos h4]
    subst h4
    repeat (first | ((with_reducible apply Wp.obind); (with_reducible first | exact avInt_int _ _ | exact fldP_ptr _ _ _)) | ((with_reducible apply Wp.ld0 Mx); rfl) | (with_reducible first | refine Wp.join0 (fun _ _ => ?_) | refine Wp.join1 (fun _ _ => ?_)) | (with_reducible refine Wp.lett ?_) | ((with_reducible apply Wp.obind); (with_reducible exact len1)) | ((with_reducible refine Wp.ift ?_ ?_); ((with_reducible apply beq_t); omega)) | ((with_reducible refine Wp.iff ?_ ?_); ((with_reducible apply beq_f); omega)) | (with_reducible refine Wp.go1 (by assumption) ?_))
    refine psome_loop (h0 := h) g1 r1.left hK (by omega) kc1 ks 0 n h1 kk List.drop_zero (by omega) Mx.tch (fun ha H' t => ?_) fun ha H' t => ?_
    ·repeat ((with_reducible refine Wp.go0 (by assumption) ?_))
     rw [ha]
     exact Wp.ret ⟨rfl, t⟩
    ·rw [ha]
     exact ⟨rfl, t⟩
   ·rw [if_neg h4]
    repeat (first | ((with_reducible apply Wp.obind); (with_reducible first | exact avInt_int _ _ | exact fldP_ptr _ _ _)) | ((with_reducible apply Wp.ld0 Mx); rfl) | (with_reducible first | refine Wp.join0 (fun _ _ => ?_) | refine Wp.join1 (fun _ _ => ?_)) | (with_reducible refine Wp.lett ?_) | ((with_reducible refine Wp.iff ?_ ?_); ((with_reducible apply beq_f); omega)) | (with_reducible first | refine Wp.go0 (by assumption) ?_ | refine Wp.go1 (by assumption) ?_))
    exact Wp.ret ⟨rfl, Mx.tch⟩
theorem pEmptyL_ok : ∀ (ks : List Nd) {k1 : List (List AV)} {T : List RowT} {D n : Nat} {h : AHeap}, KidsT ks k1 T → RowsAt h T → szL ks ≤ D → szL ks < n → szL ks < 1000000 → KidB 47 h D n k1 ks
 | [], _, _, _, _, _, k1, _, _, _, _ => by
  cases k1
  exact .nil
 | t :: ks, _, _, D, n, h, k1, r1, hD, hn, hN => by
  rw [szL] at hD hn hN
  cases k1 with
  | cons a1 b1 => exact .cons (fun h' th => pEmpty_ok t a1 (r1.left.keep th) (by omega) (by omega) (by omega)) (pEmptyL_ok ks b1 r1.right (by omega) (by omega) (by omega))
end
theorem KidB.keep {fid : Nat} {h h' : AHeap} {D n : Nat} {l : List (List AV)} {ks : List Nd} (k : KidB fid h D n l ks) (t : Tch [] h h') : KidB fid h' D n l ks := by
 induction k with
 | nil => exact .nil
 | cons e _ ih => exact .cons (fun h2 t2 => e h2 (t.trans t2)) ih
mutual
theorem rEmpty_ok : ∀ (t : Nd) {c : List AV} {T : List RowT} {D n : Nat} {h : AHeap}, plusN t → NodeT t c T → RowsAt h T → t.sz ≤ D → t.sz < n → t.sz < 1000000 → world n D 48 [.agg c] h = some (.ret (.bool (emptyN t)), h)
 | .mk op w ks, _, _, 0, n, h, _, _, _, hD, _, _ => by
  rw [Nd.sz] at hD
  omega
 | .mk op w ks, c, T, D + 1, n, h, ⟨pl1, pl2⟩, k1, r1, hD, hn, hN => by
  rw [Nd.sz] at hD hn hN
  have hsl := szL_len ks
  cases k1 with
  | mk hw g1 ks1 =>
   rename_i kc1 kv1 T01 T11
   have kk := rEmptyL_ok ks (D := D) (n := n) pl2 ks1 r1.right (by omega) (by omega) (by omega)
   have hl1 := ks1.len
   obtain ⟨a, b, c, d, rfl⟩ := words4 hw
   apply Wp.eq
   rw [w_ref09_Nothing]
   refine Wp.gc ?_
   suffices hK : Wp (ref09_Nothing (world n D) n (nodeC op [a, b, c, d] kv1) h) fun r h' => r = .ret (.bool (emptyN (.mk op [a, b, c, d] ks))) ∧ Tch [] h h' from hK.mono fun r h' ⟨e, t⟩ => ⟨t.above, by rw [e]; rfl, e, rfl⟩
   unfold ref09_Nothing
   have Mx := Mem.nil [] h
   have o1 := nodeC_one (op := op) (w := [a, b, c, d]) g1.one.1
   have len1 := g1.len
   refine Wp.mbox Mx o1 fun h1 M1 => ?_
   clear Mx
   have Mx := M1
   clear M1
   have rl := r1.left.keep Mx.tch
   have kk1 := kk.keep Mx.tch
   rw [emptyN]
   by_cases h157 : op = 1 ∨ op = 5 ∨ op = 7
   ·rw [if_pos h157]
    rcases h157 with rfl | rfl | rfl
    ·repeat (first | ((with_reducible apply Wp.obind); (with_reducible first | exact avInt_int _ _ | exact fldP_ptr _ _ _)) | ((with_reducible apply Wp.ld0 Mx); rfl) | (with_reducible refine Wp.join1 (fun _ _ => ?_)) | (with_reducible refine Wp.lett ?_) | ((with_reducible refine Wp.ift ?_ ?_); first | (with_reducible rfl) | ((with_reducible apply beq_t); omega)) | (with_reducible refine Wp.go1 (by assumption) ?_))
     exact Wp.ret ⟨rfl, Mx.tch⟩
    ·repeat (first | ((with_reducible apply Wp.obind); (with_reducible first | exact avInt_int _ _ | exact fldP_ptr _ _ _)) | ((with_reducible apply Wp.ld0 Mx); rfl) | (with_reducible refine Wp.join1 (fun _ _ => ?_)) | (with_reducible refine Wp.lett ?_) | ((with_reducible refine Wp.ift ?_ ?_); first | (with_reducible rfl) | ((with_reducible apply beq_t); omega)) | ((with_reducible refine Wp.iff ?_ ?_); ((with_reducible apply beq_f); omega)) | (with_reducible refine Wp.go1 (by assumption) ?_))
     exact Wp.ret ⟨rfl, Mx.tch⟩
    ·repeat (first | ((with_reducible apply Wp.obind); (with_reducible first | exact avInt_int _ _ | exact fldP_ptr _ _ _)) | ((with_reducible apply Wp.ld0 Mx); rfl) | (with_reducible refine Wp.join1 (fun _ _ => ?_)) | (with_reducible refine Wp.lett ?_) | ((with_reducible refine Wp.ift ?_ ?_); ((with_reducible apply beq_t); omega)) | ((with_reducible refine Wp.iff ?_ ?_); ((with_reducible apply beq_f); omega)) | (with_reducible refine Wp.go1 (by assumption) ?_))
     exact Wp.ret ⟨rfl, Mx.tch⟩
   rw [if_neg h157]
   by_cases h3 : op = 3
   ·rw [if_pos (.inl h3)]
    subst h3
    repeat (first | ((with_reducible apply Wp.obind); (with_reducible first | exact avInt_int _ _ | exact fldP_ptr _ _ _)) | ((with_reducible apply Wp.ld0 Mx); rfl) | (with_reducible refine Wp.join1 (fun _ _ => ?_)) | (with_reducible refine Wp.lett ?_) | ((with_reducible refine Wp.ift ?_ ?_); ((with_reducible apply beq_t); omega)) | ((with_reducible refine Wp.iff ?_ ?_); ((with_reducible apply beq_f); omega)) | (with_reducible refine Wp.go1 (by assumption) ?_))
    refine rall_loop g1 rl Mx.at0.1 rfl (by omega) kc1 ks 0 n true kk1 List.drop_zero (by omega) ?_
    rw [Bool.true_and]
    repeat ((with_reducible refine Wp.go1 (by assumption) ?_))
    exact Wp.ret ⟨rfl, Mx.tch⟩
   by_cases h6 : op = 6
   ·rw [if_pos (.inr h6)]
    have hone := pl1 h6
    subst h6
    match ks, hone, kk1, hl1 with
    | [t1], _, kk1, hl1 =>
     match kc1, hl1, kk1, g1, ks1 with
     | [c1], _, .cons e _, g1, ks1 =>
      have es := e h1 (Tch.refl _ _)
      obtain ⟨p1, _, x1, y1⟩ := (grow_sli g1 rl).row (i := 0) (by simp)
      have x2 : idxP 6 kv1 0 = some (.ptr p1 (0 * 6)) := x1
      have y2 : ldRow h1 6 (.ptr p1 (0 * 6)) = some c1 := y1
      repeat (first | ((with_reducible apply Wp.obind); (with_reducible first | exact avInt_int _ _ | exact avBool_bool _ | exact fldP_ptr _ _ _)) | ((with_reducible apply Wp.ld0 Mx); rfl) | (with_reducible refine Wp.join1 (fun _ _ => ?_)) | (with_reducible refine Wp.lett ?_) | ((with_reducible apply Wp.obind); (with_reducible first | exact x2 | exact y2)) | ((with_reducible refine Wp.ift ?_ ?_); ((with_reducible apply beq_t); omega)) | ((with_reducible refine Wp.iff ?_ ?_); ((with_reducible apply beq_f); omega)) | ((with_reducible apply Wp.callN); (with_reducible exact es)) | (with_reducible refine Wp.go1 (by assumption) ?_))
      refine Wp.ret ⟨?_, Mx.tch⟩
      rw [allN, allN, Bool.and_true]
   by_cases h4 : op = 4
   ·rw [if_neg (by omega), if_pos h4]
    subst h4
    repeat (first | ((with_reducible apply Wp.obind); (with_reducible first | exact avInt_int _ _ | exact fldP_ptr _ _ _)) | ((with_reducible apply Wp.ld0 Mx); rfl) | (with_reducible refine Wp.join1 (fun _ _ => ?_)) | (with_reducible refine Wp.lett ?_) | ((with_reducible refine Wp.ift ?_ ?_); ((with_reducible apply beq_t); omega)) | ((with_reducible refine Wp.iff ?_ ?_); ((with_reducible apply beq_f); omega)) | (with_reducible refine Wp.go1 (by assumption) ?_))
    refine rsome_loop g1 rl Mx.at0.1 rfl (by omega) kc1 ks 0 n false kk1 List.drop_zero (by omega) ?_
    rw [Bool.false_or]
    repeat ((with_reducible refine Wp.go1 (by assumption) ?_))
    exact Wp.ret ⟨rfl, Mx.tch⟩
   ·rw [if_neg (by omega), if_neg h4]
    repeat (first | ((with_reducible apply Wp.obind); (with_reducible first | exact avInt_int _ _ | exact fldP_ptr _ _ _)) | ((with_reducible apply Wp.ld0 Mx); rfl) | (with_reducible refine Wp.join1 (fun _ _ => ?_)) | (with_reducible refine Wp.lett ?_) | ((with_reducible refine Wp.iff ?_ ?_); ((with_reducible apply beq_f); omega)) | (with_reducible refine Wp.go1 (by assumption) ?_))
    exact Wp.ret ⟨rfl, Mx.tch⟩
theorem rEmptyL_ok : ∀ (ks : List Nd) {k1 : List (List AV)} {T : List RowT} {D n : Nat} {h : AHeap}, plusL ks → KidsT ks k1 T → RowsAt h T → szL ks ≤ D → szL ks < n → szL ks < 1000000 → KidB 48 h D n k1 ks
 | [], _, _, _, _, _, _, k1, _, _, _, _ => by
  cases k1
  exact .nil
 | t :: ks, _, _, D, n, h, ⟨p1, p2⟩, k1, r1, hD, hn, hN => by
  rw [szL] at hD hn hN
  cases k1 with
  | cons a1 b1 => exact .cons (fun h' th => rEmpty_ok t p1 a1 (r1.left.keep th) (by omega) (by omega) (by omega)) (rEmptyL_ok ks p2 b1 r1.right (by omega) (by omega) (by omega))
end
end
theorem emptyBoth (k : Int) (u : Bytes) {n D : Nat} (hn : 1000 < n) (hD : 1000 ≤ D) : ∃ b : Bool, ∀ h : AHeap, memB TNode h.ex = false → world n (D + 1) 27 [.agg [.int .i64 k, strA u]] h = some (.ret (.bool b), h) ∧ world n (D + 1) 28 [.agg [.int .i64 k, strA u]] h = some (.ret (.bool b), h) := by
 rcases bothT k u (n := n) (D := D) (by omega) (by omega) with ⟨e, q, he, hb⟩ | ⟨t, hl, tp, hb⟩
 ·refine ⟨false, fun h hx => ?_⟩
  have hxN : ∀ {h1 : AHeap} {rs : List RowT}, Abs.Mem [] h h1 rs → memB TNode h1.ex = false := fun M => by rw [M.ex]; exact hx
  refine ⟨?_, ?_⟩ <;> apply Wp.eq
  ·rw [w_pattern_Empty]
   refine Wp.gc ?_
   suffices hK : Wp (pattern_Empty (world n D) n [.int .i64 k, strA u] h) fun r h' => r = .ret (.bool false) ∧ Tch [] h h' from hK.mono fun r h' ⟨e, t⟩ => ⟨t.above, by rw [e]; rfl, e, rfl⟩
   unfold pattern_Empty
   have Mx := Mem.nil [] h
   repeat (first | ((with_reducible apply Wp.obind); (with_reducible exact avInt_int _ _)) | ((with_reducible apply Wp.ld0 Mx); rfl) | ((with_reducible apply Wp.lr0 Mx); rfl) | ((with_reducible apply Wp.sa0 Mx); rfl; rfl; (rfl); intro _ Mz; clear Mx; have Mx := Mz; clear Mz) | ((with_reducible apply Wp.sa1 Mx); rfl; rfl; (rfl); intro _ Mz; clear Mx; have Mx := Mz; clear Mz) | ((with_reducible apply Wp.mnew Mx); intro _ Mz; clear Mx; have Mx := Mz; clear Mz) | ((with_reducible apply Wp.mbox Mx); (rfl); intro _ Mz; clear Mx; have Mx := Mz; clear Mz) | (with_reducible refine Wp.join1 (fun _ _ => ?_)) | (with_reducible refine Wp.lett ?_) | ((with_reducible apply Wp.obind); (with_reducible first | exact avAgg_agg _ | exact extT_0 _ _ | exact extT_1 _ _ _)) | ((with_reducible refine Wp.iff ?_ ?_); ((with_reducible apply beq_f); omega)) | ((with_reducible apply Wp.callN); (with_reducible exact (hb _ (hxN Mx)).1)) | (with_reducible refine Wp.go1 (by assumption) ?_) | rw [newP_eq])
   exact Wp.ret ⟨rfl, Mx.tch⟩
  ·rw [w_ref09_Empty]
   refine Wp.gc ?_
   suffices hK : Wp (ref09_Empty (world n D) n [.int .i64 k, strA u] h) fun r h' => r = .ret (.bool false) ∧ Tch [] h h' from hK.mono fun r h' ⟨e, t⟩ => ⟨t.above, by rw [e]; rfl, e, rfl⟩
   unfold ref09_Empty
   have Mx := Mem.nil [] h
   repeat (first | ((with_reducible apply Wp.obind); (with_reducible exact avInt_int _ _)) | ((with_reducible apply Wp.ld0 Mx); rfl) | ((with_reducible apply Wp.lr0 Mx); rfl) | ((with_reducible apply Wp.sa0 Mx); rfl; rfl; (rfl); intro _ Mz; clear Mx; have Mx := Mz; clear Mz) | ((with_reducible apply Wp.sa1 Mx); rfl; rfl; (rfl); intro _ Mz; clear Mx; have Mx := Mz; clear Mz) | ((with_reducible apply Wp.mnew Mx); intro _ Mz; clear Mx; have Mx := Mz; clear Mz) | ((with_reducible apply Wp.mbox Mx); (rfl); intro _ Mz; clear Mx; have Mx := Mz; clear Mz) | (with_reducible refine Wp.join1 (fun _ _ => ?_)) | (with_reducible refine Wp.lett ?_) | ((with_reducible apply Wp.obind); (with_reducible first | exact avAgg_agg _ | exact extT_0 _ _ | exact extT_1 _ _ _)) | ((with_reducible refine Wp.iff ?_ ?_); ((with_reducible apply beq_f); omega)) | ((with_reducible apply Wp.callN); (with_reducible exact (hb _ (hxN Mx)).2)) | (with_reducible refine Wp.go1 (by assumption) ?_) | rw [newP_eq])
   exact Wp.ret ⟨rfl, Mx.tch⟩
 ·refine ⟨emptyN t, fun h hx => ?_⟩
  have hxN : ∀ {h1 : AHeap} {rs : List RowT}, Abs.Mem [] h h1 rs → memB TNode h1.ex = false := fun M => by rw [M.ex]; exact hx
  have hsz := treeP_small tp
  have hpl := treeP_plus tp
  refine ⟨?_, ?_⟩ <;> apply Wp.eq
  ·rw [w_pattern_Empty]
   refine Wp.gc ?_
   suffices hK : Wp (pattern_Empty (world n D) n [.int .i64 k, strA u] h) fun r h' => r = .ret (.bool (emptyN t)) ∧ Tch [] h h' from hK.mono fun r h' ⟨e, t⟩ => ⟨t.above, by rw [e]; rfl, e, rfl⟩
   unfold pattern_Empty
   have Mx := Mem.nil [] h
   repeat (first | ((with_reducible apply Wp.lr0 Mx); rfl) | ((with_reducible apply Wp.mbox Mx); (rfl); intro _ Mz; clear Mx; have Mx := Mz; clear Mz))
   obtain ⟨c1, T1, H1, e1, kt1, M1⟩ := (hb _ (hxN Mx)).1
   refine Wp.callN e1 ?_
   have M2 := Mem.frameT (xs := []) (ys := []) Mx M1
   refine Wp.obind (extT_0 _ _) (Wp.obind (avAgg_agg _) (Wp.obind (extT_1 _ _ _) (Wp.obind (avAgg_agg _) ?_)))
   refine Wp.mnew M2 fun h27 M3 => Wp.mnew M3 fun h29 M4 => ?_
   rw [newP_eq, newP_eq]
   refine Wp.sa1 M4 kt1.len rfl kt1.one fun h31 M5 => Wp.sa0 M5 rfl rfl rfl fun h33 M6 => ?_
   have r1 : RowsAt h33 T1 := rowsAt_of M6 (fun y hy => by simp [hy])
   have f1 : ldRow h33 6 (.ptr H1.next 0) = some c1 := RowH.ldAll M6.at1.1 kt1.len
   have es := pEmpty_ok (D := D) (n := n) (h := h33) t kt1 r1 (by omega) (by omega) (by omega)
   clear Mx
   have Mx := M6
   clear M1 M2 M3 M4 M5 M6
   repeat (first | ((with_reducible apply Wp.obind); (with_reducible first | exact avInt_int _ _ | exact avBool_bool _)) | ((with_reducible apply Wp.ld0 Mx); rfl) | (with_reducible refine Wp.join1 (fun _ _ => ?_)) | (with_reducible refine Wp.lett ?_) | ((with_reducible apply Wp.obind); (with_reducible exact f1)) | ((with_reducible refine Wp.ift ?_ ?_); ((with_reducible apply beq_t); omega)) | ((with_reducible apply Wp.callN); (with_reducible exact es)) | (with_reducible refine Wp.go1 (by assumption) ?_))
   exact Wp.ret ⟨rfl, Mx.tch⟩
  ·rw [w_ref09_Empty]
   refine Wp.gc ?_
   suffices hK : Wp (ref09_Empty (world n D) n [.int .i64 k, strA u] h) fun r h' => r = .ret (.bool (emptyN t)) ∧ Tch [] h h' from hK.mono fun r h' ⟨e, t⟩ => ⟨t.above, by rw [e]; rfl, e, rfl⟩
   unfold ref09_Empty
   have Mx := Mem.nil [] h
   repeat (first | ((with_reducible apply Wp.lr0 Mx); rfl) | ((with_reducible apply Wp.mbox Mx); (rfl); intro _ Mz; clear Mx; have Mx := Mz; clear Mz))
   obtain ⟨c1, T1, H1, e1, kt1, M1⟩ := (hb _ (hxN Mx)).2
   refine Wp.callN e1 ?_
   have M2 := Mem.frameT (xs := []) (ys := []) Mx M1
   refine Wp.obind (extT_0 _ _) (Wp.obind (avAgg_agg _) (Wp.obind (extT_1 _ _ _) (Wp.obind (avAgg_agg _) ?_)))
   refine Wp.mnew M2 fun h27 M3 => Wp.mnew M3 fun h29 M4 => ?_
   rw [newP_eq, newP_eq]
   refine Wp.sa1 M4 kt1.len rfl kt1.one fun h31 M5 => Wp.sa0 M5 rfl rfl rfl fun h33 M6 => ?_
   have r1 : RowsAt h33 T1 := rowsAt_of M6 (fun y hy => by simp [hy])
   have f1 : ldRow h33 6 (.ptr H1.next 0) = some c1 := RowH.ldAll M6.at1.1 kt1.len
   have es := rEmpty_ok (D := D) (n := n) (h := h33) t hpl kt1 r1 (by omega) (by omega) (by omega)
   clear Mx
   have Mx := M6
   clear M1 M2 M3 M4 M5 M6
   repeat (first | ((with_reducible apply Wp.obind); (with_reducible first | exact avInt_int _ _ | exact avBool_bool _)) | ((with_reducible apply Wp.ld0 Mx); rfl) | (with_reducible refine Wp.join1 (fun _ _ => ?_)) | (with_reducible refine Wp.lett ?_) | ((with_reducible apply Wp.obind); (with_reducible exact f1)) | ((with_reducible refine Wp.ift ?_ ?_); ((with_reducible apply beq_t); omega)) | ((with_reducible apply Wp.callN); (with_reducible exact es)) | (with_reducible refine Wp.go1 (by assumption) ?_))
   exact Wp.ret ⟨rfl, Mx.tch⟩
set_option maxRecDepth 100000 in
theorem patternEmpties_says (h : AHeap) (hX : h.ex = [57]) (xs : List AV) (hP : ArgsP Try.prog h.next h 12 [35] xs) : ∃ h', Says Try.prog 9 xs h (.ret (.bool true)) h' := by
 obtain ⟨_, _, rfl, hp0, hP⟩ := args_cons hP
 obtain rfl := args0 hP
 obtain ⟨k, u, rfl, _⟩ := pat_of hp0
 obtain ⟨n, hn⟩ : ∃ n, 1000000 < n := ⟨1000001, Nat.lt_succ_self _⟩
 obtain ⟨D, hD⟩ : ∃ D, 1000 ≤ D := ⟨1000, Nat.le_refl _⟩
 suffices hK : Wp (law09_PatternEmpties (world n (D + 1)) n [.int .i64 k, strA u] h) fun r _ => r = .ret (.bool true) by
  obtain ⟨_, h', e, rfl⟩ := hK
  exact ⟨h', law09_PatternEmpties_ok (world_ok n (D + 1)) e⟩
 unfold law09_PatternEmpties
 have hwk := worksK_w n D
 have hxN : ∀ {h1 : AHeap} {rs : List RowT}, Abs.Mem [] h h1 rs → memB TNode h1.ex = false := fun M => by rw [M.ex, hX]; rfl
 have Mx := Mem.nil [] h
 obtain ⟨b, hb⟩ := emptyBoth k u (n := n) (D := D) (by omega) hD
 repeat (first | ((with_reducible apply Wp.obind); (with_reducible exact avBool_bool _)) | ((with_reducible apply Wp.lr0 Mx); rfl) | ((with_reducible apply Wp.mbox Mx); (rfl); intro _ Mz; clear Mx; have Mx := Mz; clear Mz) | ((with_reducible refine Wp.chk ?_ ?_); focus ((repeat' (first | (with_reducible exact rfl) | (with_reducible apply and_t) | ((with_reducible apply Mem.rr0 Mx); kernel_rfl; kernel_rfl))); done)) | (with_reducible refine Wp.lett ?_) | ((with_reducible refine Wp.iff ?_ ?_); (with_reducible exact Bool.not_true)) | ((with_reducible apply Wp.callN); (with_reducible first | exact hwk _ | exact (hb _ (hxN Mx)).1 | exact (hb _ (hxN Mx)).2)))
 cases b <;> exact Wp.ret rfl
end Go.Proofs.Yteibdplpbcobbaa
