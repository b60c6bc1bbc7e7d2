/- What patternBack_proved stands on, part 7 of 7. -/
import Derived.Test.YteibdplpbcobbaaPb6
namespace Go.Proofs.Yteibdplpbcobbaa
open Go.RowKit Abs
section
variable {n D d b p q i m : Nat} {h h0 : AHeap} {u : Bytes} {Q : ARes → AHeap → Prop} {S : List Nat} {xs rs rs' T T0 T1 : List RowT} {w : List Nat} {x : R} {t : Nd} {c : List AV} {v kv fv : AV} {l : List Nd} {kc : List (List AV)}
theorem tree_guard_bad {pc rd sp nd pt : Nat} {kind : Int} {z : List AV} (hs : ∀ (h : AHeap), Rd h rd u 0 → rd < h.next → memB TNode h.ex = false → StepT rd u h (world n D 40 [.ptr rd 0, .int .i64 kind] h) (.error q)) (M : Mem S h0 h (rowsT pc rd sp nd pt 0 u kind z ++ xs)) (hx : memB TNode h0.ex = false) :
  ∃ h', world n (D + 2) 35 [AV.fn 39 [] [.ptr pc 0, .ptr pt 0, .ptr nd 0]] h = some (.ret (.agg [.int .i64 6, .int .i64 (q : Int)]), h') ∧ ∃ p, Mem S h0 h' (rowsT pc rd sp nd pt p u kind z ++ xs) := by
 apply Wp.ex
 rw [w_pattern_guard]
 unfold pattern_guard
 refine Wp.mnew M fun h1 M1 => ?_
 obtain ⟨h2, p, e2, M2⟩ := t1_bad (n := n) (D := D) (xs := xs ++ [(h.next, TSpot, [.int .i64 0, .int .i64 0])]) hs (M1.perm (by
  rw [← List.append_assoc]
  exact List.perm_append_comm (l₁ := rowsT pc rd sp nd pt 0 u kind z ++ xs) (l₂ := [_]))) hx
 have M3 : Mem S h0 h2 ((h.next, TSpot, [.int .i64 0, .int .i64 0]) :: (rowsT pc rd sp nd pt p u kind z ++ xs)) := M2.perm (by
  rw [← List.append_assoc]
  exact List.perm_append_comm (l₁ := [_]) (l₂ := rowsT pc rd sp nd pt p u kind z ++ xs))
 refine callKd_eq_pan ((dynT _ _ _ _ _).trans e2) ?_
 rw [newP_eq]
 obtain ⟨h3, e3, M4⟩ := recov_pan (n := n) (call := world n (D + 1)) rfl M3 6 q
 refine Wp.callN e3 ?_
 refine Wp.lr0 M4 rfl ?_
 exact Wp.ret ⟨rfl, p, M4.pop⟩
theorem tree_guard_ok {pc rd sp nd pt : Nat} {kind : Int} {z : List AV} (hz : z.length = 6) (hs : ∀ (h : AHeap), Rd h rd u 0 → rd < h.next → memB TNode h.ex = false → StepT rd u h (world n D 40 [.ptr rd 0, .int .i64 kind] h) (.ok t)) (M : Mem S h0 h (rowsT pc rd sp nd pt 0 u kind z ++ xs)) (hx : memB TNode h0.ex = false) :
  ∃ c T h' p, world n (D + 2) 35 [AV.fn 39 [] [.ptr pc 0, .ptr pt 0, .ptr nd 0]] h = some (.ret (.agg [.int .i64 0, .int .i64 0]), h') ∧ NodeT t c T ∧ Mem S h0 h' (rowsT pc rd sp nd pt p u kind c ++ (xs ++ T)) := by
 suffices hK : Wp (world n (D + 2) 35 [AV.fn 39 [] [.ptr pc 0, .ptr pt 0, .ptr nd 0]] h) fun r h' => ∃ c T p, r = .ret (.agg [.int .i64 0, .int .i64 0]) ∧ NodeT t c T ∧ Mem S h0 h' (rowsT pc rd sp nd pt p u kind c ++ (xs ++ T)) by
  obtain ⟨_, h', e, c, T, p, rfl, k1, k2⟩ := hK
  exact ⟨c, T, h', p, e, k1, k2⟩
 rw [w_pattern_guard]
 unfold pattern_guard
 refine Wp.mnew M fun h1 M1 => ?_
 obtain ⟨c, T, h2, p, e2, kt, M2⟩ := t1_ok (n := n) (D := D) (xs := [(h.next, TSpot, [.int .i64 0, .int .i64 0])] ++ xs) hz hs (M1.perm (List.perm_append_comm_assoc (rowsT pc rd sp nd pt 0 u kind z) [_] xs)) hx
 have M3 : Mem S h0 h2 ((h.next, TSpot, [.int .i64 0, .int .i64 0]) :: (rowsT pc rd sp nd pt p u kind c ++ (xs ++ T))) := M2.perm (by
  rw [List.append_assoc]
  exact List.perm_append_comm_assoc [_] (rowsT pc rd sp nd pt p u kind c) (xs ++ T))
 refine callKd_eq_ret ((dynT _ _ _ _ _).trans e2) ?_
 clear M1 M2
 have Mx := M3
 clear M3
 rw [newP_eq]
 repeat (first | ((with_reducible apply Wp.lr0 Mx); rfl) | ((with_reducible apply Wp.sa0 Mx); rfl; rfl; (rfl); intro _ Mz; clear Mx; have Mx := Mz; clear Mz) | ((with_reducible apply Wp.callN); (with_reducible exact recov_nil)))
 exact Wp.ret ⟨c, T, p, rfl, kt, Mx.pop⟩
theorem tree_kinds (hu : u.length ≤ 1000000) {kind : Int} (hk : kind = 1 ∨ kind = 2 ∨ kind = 3) : (64 < u.length → ∀ {n D : Nat} {h : AHeap}, 0 ≤ D → 300 < n → memB TNode h.ex = false → world n (D + 1) 21 [.agg [.int .i64 kind, strA u]] h = some (.ret (.tup [.agg (nodeC 0 zeroW .nsl), .agg [.int .i64 3, .int .i64 64]]), h)) ∧
  (u.length ≤ 64 → ∃ r, TreeP u kind r ∧ (∀ q, r = .error q → q ≤ u.length) ∧ ∀ {n D : Nat} {h : AHeap}, 300 ≤ D → 400 < n → memB TNode h.ex = false → match r with
   | .error q => world n (D + 3) 21 [.agg [.int .i64 kind, strA u]] h = some (.ret (.tup [.agg (nodeC 0 zeroW .nsl), .agg [.int .i64 6, .int .i64 (q : Int)]]), h)
   | .ok t => ∃ c T h', world n (D + 3) 21 [.agg [.int .i64 kind, strA u]] h = some (.ret (.tup [.agg c, .agg [.int .i64 0, .int .i64 0]]), h') ∧ NodeT t c T ∧ Mem [] h h' T) := by
 have hk' := hk
 rcases hk' with rfl | rfl | rfl
 ·-- kind 1
  refine ⟨?_, ?_⟩
  ·intro l n D h hD hn hx
   apply Wp.eq
   rw [w_pattern_Tree]
   refine Wp.gc ?_
   suffices hK : Wp (pattern_Tree (world n D) n [.int .i64 1, strA u] h) fun r h' => r = .ret (.tup [.agg (nodeC 0 zeroW .nsl), .agg [.int .i64 3, .int .i64 64]]) ∧ Tch [] h h' from hK.mono fun r h' ⟨e, t⟩ => ⟨t.above, by rw [e]; rfl, e, rfl⟩
   unfold pattern_Tree
   have ll := lenS_nat u
   have Mx := Mem.nil [] h
   repeat (first | ((with_reducible apply Wp.obind); (with_reducible first | exact avInt_int _ _ | exact avStr_str _ | exact fldP_ptr _ _ _)) | ((with_reducible apply Wp.lr0 Mx); rfl) | ((with_reducible apply Wp.sa0 Mx); rfl; rfl; (rfl); intro _ Mz; clear Mx; have Mx := Mz; clear Mz) | ((with_reducible apply Wp.lr1 Mx); rfl) | ((with_reducible apply Wp.sa1 Mx); rfl; rfl; (rfl); intro _ Mz; clear Mx; have Mx := Mz; clear Mz) | ((with_reducible apply Wp.ld2 Mx); rfl) | ((with_reducible apply Wp.mnew Mx); intro _ Mz; clear Mx; have Mx := Mz; clear Mz) | ((with_reducible apply Wp.mbox Mx); (rfl); intro _ Mz; clear Mx; have Mx := Mz; clear Mz) | (with_reducible refine Wp.join1 (fun _ _ => ?_)) | (with_reducible refine Wp.lett ?_) | ((with_reducible refine Wp.ift ?_ ?_); ((with_reducible first | apply decide_eq_true | apply bne_t); omega)) | ((with_reducible refine Wp.iff ?_ ?_); first | (with_reducible rfl) | ((with_reducible apply bne_f); omega)) | (with_reducible refine Wp.go1 (by assumption) ?_) | rw [newP_eq])
   exact Wp.ret ⟨rfl, Mx.tch⟩
  ·intro l
   obtain ⟨r, r1, r2, r3⟩ := tree_r hu 1 hk
   refine ⟨r, r1, r2, ?_⟩
   intro n D h hD hn hx
   have hs : ∀ (rd : Nat) (h : AHeap), Rd h rd u 0 → rd < h.next → memB TNode h.ex = false → StepT rd u h (world n D 40 [.ptr rd 0, .int .i64 1] h) r := fun rd h k1 k2 k3 => r3 (by omega) (by omega) (by omega) k1 k2 k3
   cases r with
   | error q =>
    apply Wp.eq
    rw [w_pattern_Tree]
    refine Wp.gc ?_
    suffices hK : Wp (pattern_Tree (world n (D + 2)) n [.int .i64 1, strA u] h) fun r h' => r = .ret (.tup [.agg (nodeC 0 zeroW .nsl), .agg [.int .i64 6, .int .i64 (q : Int)]]) ∧ Tch [] h h' from hK.mono fun r h' ⟨e, t⟩ => ⟨t.above, by rw [e]; rfl, e, rfl⟩
    unfold pattern_Tree
    have ll := lenS_nat u
    have Mx := Mem.nil [] h
    repeat (first | ((with_reducible apply Wp.obind); (with_reducible first | exact avInt_int _ _ | exact avStr_str _ | exact fldP_ptr _ _ _)) | ((with_reducible apply Wp.sa0 Mx); rfl; rfl; (rfl); intro _ Mz; clear Mx; have Mx := Mz; clear Mz) | ((with_reducible apply Wp.ld2 Mx); rfl) | ((with_reducible apply Wp.mnew Mx); intro _ Mz; clear Mx; have Mx := Mz; clear Mz) | ((with_reducible apply Wp.mbox Mx); (rfl); intro _ Mz; clear Mx; have Mx := Mz; clear Mz) | (with_reducible refine Wp.join1 (fun _ _ => ?_)) | (with_reducible refine Wp.lett ?_) | ((with_reducible refine Wp.iff ?_ ?_); first | (with_reducible rfl) | ((with_reducible first | apply decide_eq_false | apply bne_f); omega)) | (with_reducible refine Wp.go1 (by assumption) ?_) | rw [newP_eq])
    obtain ⟨h2, e2, p2, M2⟩ := tree_guard_bad (n := n) (D := D) (xs := []) (hs _) (by rw [List.append_nil]; exact Mx) hx
    refine Wp.callN e2 ?_
    clear Mx
    have Mx := M2
    repeat (first | ((with_reducible apply Wp.obind); (with_reducible exact avInt_int _ _)) | ((with_reducible apply Wp.ld2 Mx); rfl) | ((with_reducible apply Wp.lr2 Mx); rfl) | ((with_reducible apply Wp.sa2 Mx); rfl; rfl; (rfl); intro _ Mz; clear Mx; have Mx := Mz; clear Mz) | ((with_reducible apply Wp.lr3 Mx); rfl) | ((with_reducible apply Wp.sa3 Mx); rfl; rfl; (rfl); intro _ Mz; clear Mx; have Mx := Mz; clear Mz) | ((with_reducible refine Wp.chk ?_ ?_); focus ((repeat' (first | (with_reducible exact rfl) | (with_reducible apply and_t) | ((with_reducible apply Mem.rr2 Mx); kernel_rfl; kernel_rfl))); done)) | (with_reducible refine Wp.lett ?_) | ((with_reducible apply Wp.obind); (with_reducible exact avAgg_agg _)) | ((with_reducible refine Wp.ift ?_ ?_); ((with_reducible apply bne_t); omega)))
    exact Wp.ret ⟨rfl, Mx.tch⟩
   | ok t =>
    obtain ⟨c, T, h', e, kt, M'⟩ : ∃ c T h', pattern_Tree (world n (D + 2)) n [.int .i64 1, strA u] h = some (.ret (.tup [.agg c, .agg [.int .i64 0, .int .i64 0]]), h') ∧ NodeT t c T ∧ Mem [] h h' T := by
     suffices hK : Wp (pattern_Tree (world n (D + 2)) n [.int .i64 1, strA u] h) fun r h' => ∃ c T, r = .ret (.tup [.agg c, .agg [.int .i64 0, .int .i64 0]]) ∧ NodeT t c T ∧ Mem [] h h' T by
      obtain ⟨_, h', e, c, T, rfl, k1, k2⟩ := hK
      exact ⟨c, T, h', e, k1, k2⟩
     unfold pattern_Tree
     have ll := lenS_nat u
     have Mx := Mem.nil [] h
     repeat (first | ((with_reducible apply Wp.obind); (with_reducible first | exact avInt_int _ _ | exact avStr_str _ | exact fldP_ptr _ _ _)) | ((with_reducible apply Wp.sa0 Mx); rfl; rfl; (rfl); intro _ Mz; clear Mx; have Mx := Mz; clear Mz) | ((with_reducible apply Wp.ld2 Mx); rfl) | ((with_reducible apply Wp.mnew Mx); intro _ Mz; clear Mx; have Mx := Mz; clear Mz) | ((with_reducible apply Wp.mbox Mx); (rfl); intro _ Mz; clear Mx; have Mx := Mz; clear Mz) | (with_reducible refine Wp.join1 (fun _ _ => ?_)) | (with_reducible refine Wp.lett ?_) | ((with_reducible refine Wp.iff ?_ ?_); first | (with_reducible rfl) | ((with_reducible first | apply decide_eq_false | apply bne_f); omega)) | (with_reducible refine Wp.go1 (by assumption) ?_) | rw [newP_eq])
     obtain ⟨c, T, h2, p2, e2, kt, M2⟩ := tree_guard_ok (n := n) (D := D) (xs := []) rfl (hs _) (by rw [List.append_nil]; exact Mx) hx
     refine Wp.callN e2 ?_
     clear Mx
     have Mx := M2
     have hl := kt.len
     have ho := kt.one
     repeat (first | ((with_reducible apply Wp.obind); (with_reducible exact avInt_int _ _)) | ((with_reducible apply Wp.ld2 Mx); rfl) | ((with_reducible apply Wp.sa2 Mx); rfl; rfl; (rfl); intro _ Mz; clear Mx; have Mx := Mz; clear Mz) | (with_reducible refine Wp.lett ?_) | ((with_reducible apply Wp.obind); (with_reducible exact avAgg_agg _)) | ((with_reducible refine Wp.iff ?_ ?_); ((with_reducible apply bne_f); omega)))
     refine Wp.lr3 Mx hl ?_
     repeat (((with_reducible apply Wp.lr2 Mx); rfl))
     refine Wp.sa3 Mx hl hl ho fun _ Mz => ?_
     clear Mx
     have Mx := Mz
     clear Mz
     repeat (first | ((with_reducible apply Wp.sa2 Mx); rfl; rfl; (rfl); intro _ Mz; clear Mx; have Mx := Mz; clear Mz) | ((with_reducible refine Wp.chk ?_ ?_); focus ((repeat' (first | (with_reducible exact rfl) | (with_reducible apply and_t) | ((with_reducible apply Mem.rr2 Mx); kernel_rfl; kernel_rfl))); done)))
     refine Wp.lr3 Mx hl ?_
     repeat (((with_reducible apply Wp.lr2 Mx); rfl))
     exact Wp.ret ⟨c, T, rfl, kt, Mx.pop.pop.pop.pop.pop⟩
    have M2 := M'
    suffices hK : Wp (gcR h (pattern_Tree (world n (D + 2)) n [.int .i64 1, strA u] h)) fun r h' => ∃ T, r = .ret (.tup [.agg c, .agg [.int .i64 0, .int .i64 0]]) ∧ NodeT t c T ∧ Mem [] h h' T by
     obtain ⟨_, h', e, T, rfl, k1, k2⟩ := hK
     rw [← w_pattern_Tree] at e
     exact ⟨c, T, h', e, k1, k2⟩
    refine Wp.gc2 ⟨_, h', e, ⟨T, rfl, kt, M'⟩, fun _ hl => ?_⟩
    have h1 : AV.loL h.next c = true := by
     have : (AV.loL h.next c && (AV.loL h.next [.int .i64 0, .int .i64 0] && AV.loL h.next [])) = true := hl
     rw [Bool.and_eq_true] at this
     exact this.1
    have hT : T = [] := kt.low (fun y hy => (M'.row y hy).2.2.resolve_left (by simp)) h1
    subst hT
    exact ⟨[], rfl, kt, Mem.nil _ _⟩
 ·-- kind 2
  refine ⟨?_, ?_⟩
  ·intro l n D h hD hn hx
   apply Wp.eq
   rw [w_pattern_Tree]
   refine Wp.gc ?_
   suffices hK : Wp (pattern_Tree (world n D) n [.int .i64 2, strA u] h) fun r h' => r = .ret (.tup [.agg (nodeC 0 zeroW .nsl), .agg [.int .i64 3, .int .i64 64]]) ∧ Tch [] h h' from hK.mono fun r h' ⟨e, t⟩ => ⟨t.above, by rw [e]; rfl, e, rfl⟩
   unfold pattern_Tree
   have ll := lenS_nat u
   have Mx := Mem.nil [] h
   repeat (first | ((with_reducible apply Wp.obind); (with_reducible first | exact avInt_int _ _ | exact avStr_str _ | exact fldP_ptr _ _ _)) | ((with_reducible apply Wp.lr0 Mx); rfl) | ((with_reducible apply Wp.sa0 Mx); rfl; rfl; (rfl); intro _ Mz; clear Mx; have Mx := Mz; clear Mz) | ((with_reducible apply Wp.lr1 Mx); rfl) | ((with_reducible apply Wp.sa1 Mx); rfl; rfl; (rfl); intro _ Mz; clear Mx; have Mx := Mz; clear Mz) | ((with_reducible apply Wp.ld2 Mx); rfl) | ((with_reducible apply Wp.mnew Mx); intro _ Mz; clear Mx; have Mx := Mz; clear Mz) | ((with_reducible apply Wp.mbox Mx); (rfl); intro _ Mz; clear Mx; have Mx := Mz; clear Mz) | (with_reducible refine Wp.join1 (fun _ _ => ?_)) | (with_reducible refine Wp.lett ?_) | ((with_reducible refine Wp.ift ?_ ?_); ((with_reducible first | apply decide_eq_true | apply bne_t); omega)) | ((with_reducible refine Wp.iff ?_ ?_); first | (with_reducible rfl) | ((with_reducible apply bne_f); omega)) | (with_reducible refine Wp.go1 (by assumption) ?_) | rw [newP_eq])
   exact Wp.ret ⟨rfl, Mx.tch⟩
  ·intro l
   obtain ⟨r, r1, r2, r3⟩ := tree_r hu 2 hk
   refine ⟨r, r1, r2, ?_⟩
   intro n D h hD hn hx
   have hs : ∀ (rd : Nat) (h : AHeap), Rd h rd u 0 → rd < h.next → memB TNode h.ex = false → StepT rd u h (world n D 40 [.ptr rd 0, .int .i64 2] h) r := fun rd h k1 k2 k3 => r3 (by omega) (by omega) (by omega) k1 k2 k3
   cases r with
   | error q =>
    apply Wp.eq
    rw [w_pattern_Tree]
    refine Wp.gc ?_
    suffices hK : Wp (pattern_Tree (world n (D + 2)) n [.int .i64 2, strA u] h) fun r h' => r = .ret (.tup [.agg (nodeC 0 zeroW .nsl), .agg [.int .i64 6, .int .i64 (q : Int)]]) ∧ Tch [] h h' from hK.mono fun r h' ⟨e, t⟩ => ⟨t.above, by rw [e]; rfl, e, rfl⟩
    unfold pattern_Tree
    have ll := lenS_nat u
    have Mx := Mem.nil [] h
    repeat (first | ((with_reducible apply Wp.obind); (with_reducible first | exact avInt_int _ _ | exact avStr_str _ | exact fldP_ptr _ _ _)) | ((with_reducible apply Wp.sa0 Mx); rfl; rfl; (rfl); intro _ Mz; clear Mx; have Mx := Mz; clear Mz) | ((with_reducible apply Wp.ld2 Mx); rfl) | ((with_reducible apply Wp.mnew Mx); intro _ Mz; clear Mx; have Mx := Mz; clear Mz) | ((with_reducible apply Wp.mbox Mx); (rfl); intro _ Mz; clear Mx; have Mx := Mz; clear Mz) | (with_reducible refine Wp.join1 (fun _ _ => ?_)) | (with_reducible refine Wp.lett ?_) | ((with_reducible refine Wp.ift ?_ ?_); ((with_reducible first | apply decide_eq_true | apply bne_t); omega)) | ((with_reducible refine Wp.iff ?_ ?_); first | (with_reducible rfl) | ((with_reducible first | apply decide_eq_false | apply bne_f); omega)) | (with_reducible refine Wp.go1 (by assumption) ?_) | rw [newP_eq])
    obtain ⟨h2, e2, p2, M2⟩ := tree_guard_bad (n := n) (D := D) (xs := []) (hs _) (by rw [List.append_nil]; exact Mx) hx
    refine Wp.callN e2 ?_
    clear Mx
    have Mx := M2
    repeat (first | ((with_reducible apply Wp.obind); (with_reducible exact avInt_int _ _)) | ((with_reducible apply Wp.ld2 Mx); rfl) | ((with_reducible apply Wp.lr2 Mx); rfl) | ((with_reducible apply Wp.sa2 Mx); rfl; rfl; (rfl); intro _ Mz; clear Mx; have Mx := Mz; clear Mz) | ((with_reducible apply Wp.lr3 Mx); rfl) | ((with_reducible apply Wp.sa3 Mx); rfl; rfl; (rfl); intro _ Mz; clear Mx; have Mx := Mz; clear Mz) | ((with_reducible refine Wp.chk ?_ ?_); focus ((repeat' (first | (with_reducible exact rfl) | (with_reducible apply and_t) | ((with_reducible apply Mem.rr2 Mx); kernel_rfl; kernel_rfl))); done)) | (with_reducible refine Wp.lett ?_) | ((with_reducible apply Wp.obind); (with_reducible exact avAgg_agg _)) | ((with_reducible refine Wp.ift ?_ ?_); ((with_reducible apply bne_t); omega)))
    exact Wp.ret ⟨rfl, Mx.tch⟩
   | ok t =>
    obtain ⟨c, T, h', e, kt, M'⟩ : ∃ c T h', pattern_Tree (world n (D + 2)) n [.int .i64 2, strA u] h = some (.ret (.tup [.agg c, .agg [.int .i64 0, .int .i64 0]]), h') ∧ NodeT t c T ∧ Mem [] h h' T := by
     suffices hK : Wp (pattern_Tree (world n (D + 2)) n [.int .i64 2, strA u] h) fun r h' => ∃ c T, r = .ret (.tup [.agg c, .agg [.int .i64 0, .int .i64 0]]) ∧ NodeT t c T ∧ Mem [] h h' T by
      obtain ⟨_, h', e, c, T, rfl, k1, k2⟩ := hK
      exact ⟨c, T, h', e, k1, k2⟩
     unfold pattern_Tree
     have ll := lenS_nat u
     have Mx := Mem.nil [] h
     repeat (first | ((with_reducible apply Wp.obind); (with_reducible first | exact avInt_int _ _ | exact avStr_str _ | exact fldP_ptr _ _ _)) | ((with_reducible apply Wp.sa0 Mx); rfl; rfl; (rfl); intro _ Mz; clear Mx; have Mx := Mz; clear Mz) | ((with_reducible apply Wp.ld2 Mx); rfl) | ((with_reducible apply Wp.mnew Mx); intro _ Mz; clear Mx; have Mx := Mz; clear Mz) | ((with_reducible apply Wp.mbox Mx); (rfl); intro _ Mz; clear Mx; have Mx := Mz; clear Mz) | (with_reducible refine Wp.join1 (fun _ _ => ?_)) | (with_reducible refine Wp.lett ?_) | ((with_reducible refine Wp.ift ?_ ?_); ((with_reducible first | apply decide_eq_true | apply bne_t); omega)) | ((with_reducible refine Wp.iff ?_ ?_); first | (with_reducible rfl) | ((with_reducible first | apply decide_eq_false | apply bne_f); omega)) | (with_reducible refine Wp.go1 (by assumption) ?_) | rw [newP_eq])
     obtain ⟨c, T, h2, p2, e2, kt, M2⟩ := tree_guard_ok (n := n) (D := D) (xs := []) rfl (hs _) (by rw [List.append_nil]; exact Mx) hx
     refine Wp.callN e2 ?_
     clear Mx
     have Mx := M2
     have hl := kt.len
     have ho := kt.one
     repeat (first | ((with_reducible apply Wp.obind); (with_reducible exact avInt_int _ _)) | ((with_reducible apply Wp.ld2 Mx); rfl) | ((with_reducible apply Wp.sa2 Mx); rfl; rfl; (rfl); intro _ Mz; clear Mx; have Mx := Mz; clear Mz) | (with_reducible refine Wp.lett ?_) | ((with_reducible apply Wp.obind); (with_reducible exact avAgg_agg _)) | ((with_reducible refine Wp.iff ?_ ?_); ((with_reducible apply bne_f); omega)))
     refine Wp.lr3 Mx hl ?_
     repeat (((with_reducible apply Wp.lr2 Mx); rfl))
     refine Wp.sa3 Mx hl hl ho fun _ Mz => ?_
     clear Mx
     have Mx := Mz
     clear Mz
     repeat (first | ((with_reducible apply Wp.sa2 Mx); rfl; rfl; (rfl); intro _ Mz; clear Mx; have Mx := Mz; clear Mz) | ((with_reducible refine Wp.chk ?_ ?_); focus ((repeat' (first | (with_reducible exact rfl) | (with_reducible apply and_t) | ((with_reducible apply Mem.rr2 Mx); kernel_rfl; kernel_rfl))); done)))
     refine Wp.lr3 Mx hl ?_
     repeat (((with_reducible apply Wp.lr2 Mx); rfl))
     exact Wp.ret ⟨c, T, rfl, kt, Mx.pop.pop.pop.pop.pop⟩
    have M2 := M'
    suffices hK : Wp (gcR h (pattern_Tree (world n (D + 2)) n [.int .i64 2, strA u] h)) fun r h' => ∃ T, r = .ret (.tup [.agg c, .agg [.int .i64 0, .int .i64 0]]) ∧ NodeT t c T ∧ Mem [] h h' T by
     obtain ⟨_, h', e, T, rfl, k1, k2⟩ := hK
     rw [← w_pattern_Tree] at e
     exact ⟨c, T, h', e, k1, k2⟩
    refine Wp.gc2 ⟨_, h', e, ⟨T, rfl, kt, M'⟩, fun _ hl => ?_⟩
    have h1 : AV.loL h.next c = true := by
     have : (AV.loL h.next c && (AV.loL h.next [.int .i64 0, .int .i64 0] && AV.loL h.next [])) = true := hl
     rw [Bool.and_eq_true] at this
     exact this.1
    have hT : T = [] := kt.low (fun y hy => (M'.row y hy).2.2.resolve_left (by simp)) h1
    subst hT
    exact ⟨[], rfl, kt, Mem.nil _ _⟩
 ·-- kind 3
  refine ⟨?_, ?_⟩
  ·intro l n D h hD hn hx
   apply Wp.eq
   rw [w_pattern_Tree]
   refine Wp.gc ?_
   suffices hK : Wp (pattern_Tree (world n D) n [.int .i64 3, strA u] h) fun r h' => r = .ret (.tup [.agg (nodeC 0 zeroW .nsl), .agg [.int .i64 3, .int .i64 64]]) ∧ Tch [] h h' from hK.mono fun r h' ⟨e, t⟩ => ⟨t.above, by rw [e]; rfl, e, rfl⟩
   unfold pattern_Tree
   have ll := lenS_nat u
   have Mx := Mem.nil [] h
   repeat (first | ((with_reducible apply Wp.obind); (with_reducible first | exact avInt_int _ _ | exact avStr_str _ | exact fldP_ptr _ _ _)) | ((with_reducible apply Wp.lr0 Mx); rfl) | ((with_reducible apply Wp.sa0 Mx); rfl; rfl; (rfl); intro _ Mz; clear Mx; have Mx := Mz; clear Mz) | ((with_reducible apply Wp.lr1 Mx); rfl) | ((with_reducible apply Wp.sa1 Mx); rfl; rfl; (rfl); intro _ Mz; clear Mx; have Mx := Mz; clear Mz) | ((with_reducible apply Wp.ld2 Mx); rfl) | ((with_reducible apply Wp.mnew Mx); intro _ Mz; clear Mx; have Mx := Mz; clear Mz) | ((with_reducible apply Wp.mbox Mx); (rfl); intro _ Mz; clear Mx; have Mx := Mz; clear Mz) | (with_reducible refine Wp.join1 (fun _ _ => ?_)) | (with_reducible refine Wp.lett ?_) | ((with_reducible refine Wp.ift ?_ ?_); ((with_reducible first | apply decide_eq_true | apply bne_t); omega)) | ((with_reducible refine Wp.iff ?_ ?_); ((with_reducible apply bne_f); omega)) | (with_reducible refine Wp.go1 (by assumption) ?_) | rw [newP_eq])
   exact Wp.ret ⟨rfl, Mx.tch⟩
  ·intro l
   obtain ⟨r, r1, r2, r3⟩ := tree_r hu 3 hk
   refine ⟨r, r1, r2, ?_⟩
   intro n D h hD hn hx
   have hs : ∀ (rd : Nat) (h : AHeap), Rd h rd u 0 → rd < h.next → memB TNode h.ex = false → StepT rd u h (world n D 40 [.ptr rd 0, .int .i64 3] h) r := fun rd h k1 k2 k3 => r3 (by omega) (by omega) (by omega) k1 k2 k3
   cases r with
   | error q =>
    apply Wp.eq
    rw [w_pattern_Tree]
    refine Wp.gc ?_
    suffices hK : Wp (pattern_Tree (world n (D + 2)) n [.int .i64 3, strA u] h) fun r h' => r = .ret (.tup [.agg (nodeC 0 zeroW .nsl), .agg [.int .i64 6, .int .i64 (q : Int)]]) ∧ Tch [] h h' from hK.mono fun r h' ⟨e, t⟩ => ⟨t.above, by rw [e]; rfl, e, rfl⟩
    unfold pattern_Tree
    have ll := lenS_nat u
    have Mx := Mem.nil [] h
    repeat (first | ((with_reducible apply Wp.obind); (with_reducible first | exact avInt_int _ _ | exact avStr_str _ | exact fldP_ptr _ _ _)) | ((with_reducible apply Wp.sa0 Mx); rfl; rfl; (rfl); intro _ Mz; clear Mx; have Mx := Mz; clear Mz) | ((with_reducible apply Wp.ld2 Mx); rfl) | ((with_reducible apply Wp.mnew Mx); intro _ Mz; clear Mx; have Mx := Mz; clear Mz) | ((with_reducible apply Wp.mbox Mx); (rfl); intro _ Mz; clear Mx; have Mx := Mz; clear Mz) | (with_reducible refine Wp.join1 (fun _ _ => ?_)) | (with_reducible refine Wp.lett ?_) | ((with_reducible refine Wp.ift ?_ ?_); ((with_reducible first | apply decide_eq_true | apply bne_t); omega)) | ((with_reducible refine Wp.iff ?_ ?_); ((with_reducible first | apply decide_eq_false | apply bne_f); omega)) | (with_reducible refine Wp.go1 (by assumption) ?_) | rw [newP_eq])
    obtain ⟨h2, e2, p2, M2⟩ := tree_guard_bad (n := n) (D := D) (xs := []) (hs _) (by rw [List.append_nil]; exact Mx) hx
    refine Wp.callN e2 ?_
    clear Mx
    have Mx := M2
    repeat (first | ((with_reducible apply Wp.obind); (with_reducible exact avInt_int _ _)) | ((with_reducible apply Wp.ld2 Mx); rfl) | ((with_reducible apply Wp.lr2 Mx); rfl) | ((with_reducible apply Wp.sa2 Mx); rfl; rfl; (rfl); intro _ Mz; clear Mx; have Mx := Mz; clear Mz) | ((with_reducible apply Wp.lr3 Mx); rfl) | ((with_reducible apply Wp.sa3 Mx); rfl; rfl; (rfl); intro _ Mz; clear Mx; have Mx := Mz; clear Mz) | ((with_reducible refine Wp.chk ?_ ?_); focus ((repeat' (first | (with_reducible exact rfl) | (with_reducible apply and_t) | ((with_reducible apply Mem.rr2 Mx); kernel_rfl; kernel_rfl))); done)) | (with_reducible refine Wp.lett ?_) | ((with_reducible apply Wp.obind); (with_reducible exact avAgg_agg _)) | ((with_reducible refine Wp.ift ?_ ?_); ((with_reducible apply bne_t); omega)))
    exact Wp.ret ⟨rfl, Mx.tch⟩
   | ok t =>
    obtain ⟨c, T, h', e, kt, M'⟩ : ∃ c T h', pattern_Tree (world n (D + 2)) n [.int .i64 3, strA u] h = some (.ret (.tup [.agg c, .agg [.int .i64 0, .int .i64 0]]), h') ∧ NodeT t c T ∧ Mem [] h h' T := by
     suffices hK : Wp (pattern_Tree (world n (D + 2)) n [.int .i64 3, strA u] h) fun r h' => ∃ c T, r = .ret (.tup [.agg c, .agg [.int .i64 0, .int .i64 0]]) ∧ NodeT t c T ∧ Mem [] h h' T by
      obtain ⟨_, h', e, c, T, rfl, k1, k2⟩ := hK
      exact ⟨c, T, h', e, k1, k2⟩
     unfold pattern_Tree
     have ll := lenS_nat u
     have Mx := Mem.nil [] h
     repeat (first | ((with_reducible apply Wp.obind); (with_reducible first | exact avInt_int _ _ | exact avStr_str _ | exact fldP_ptr _ _ _)) | ((with_reducible apply Wp.sa0 Mx); rfl; rfl; (rfl); intro _ Mz; clear Mx; have Mx := Mz; clear Mz) | ((with_reducible apply Wp.ld2 Mx); rfl) | ((with_reducible apply Wp.mnew Mx); intro _ Mz; clear Mx; have Mx := Mz; clear Mz) | ((with_reducible apply Wp.mbox Mx); (rfl); intro _ Mz; clear Mx; have Mx := Mz; clear Mz) | (with_reducible refine Wp.join1 (fun _ _ => ?_)) | (with_reducible refine Wp.lett ?_) | ((with_reducible refine Wp.ift ?_ ?_); ((with_reducible first | apply decide_eq_true | apply bne_t); omega)) | ((with_reducible refine Wp.iff ?_ ?_); ((with_reducible first | apply decide_eq_false | apply bne_f); omega)) | (with_reducible refine Wp.go1 (by assumption) ?_) | rw [newP_eq])
     obtain ⟨c, T, h2, p2, e2, kt, M2⟩ := tree_guard_ok (n := n) (D := D) (xs := []) rfl (hs _) (by rw [List.append_nil]; exact Mx) hx
     refine Wp.callN e2 ?_
     clear Mx
     have Mx := M2
     have hl := kt.len
     have ho := kt.one
     repeat (first | ((with_reducible apply Wp.obind); (with_reducible exact avInt_int _ _)) | ((with_reducible apply Wp.ld2 Mx); rfl) | ((with_reducible apply Wp.sa2 Mx); rfl; rfl; (rfl); intro _ Mz; clear Mx; have Mx := Mz; clear Mz) | (with_reducible refine Wp.lett ?_) | ((with_reducible apply Wp.obind); (with_reducible exact avAgg_agg _)) | ((with_reducible refine Wp.iff ?_ ?_); ((with_reducible apply bne_f); omega)))
     refine Wp.lr3 Mx hl ?_
     repeat (((with_reducible apply Wp.lr2 Mx); rfl))
     refine Wp.sa3 Mx hl hl ho fun _ Mz => ?_
     clear Mx
     have Mx := Mz
     clear Mz
     repeat (first | ((with_reducible apply Wp.sa2 Mx); rfl; rfl; (rfl); intro _ Mz; clear Mx; have Mx := Mz; clear Mz) | ((with_reducible refine Wp.chk ?_ ?_); focus ((repeat' (first | (with_reducible exact rfl) | (with_reducible apply and_t) | ((with_reducible apply Mem.rr2 Mx); kernel_rfl; kernel_rfl))); done)))
     refine Wp.lr3 Mx hl ?_
     repeat (((with_reducible apply Wp.lr2 Mx); rfl))
     exact Wp.ret ⟨c, T, rfl, kt, Mx.pop.pop.pop.pop.pop⟩
    have M2 := M'
    suffices hK : Wp (gcR h (pattern_Tree (world n (D + 2)) n [.int .i64 3, strA u] h)) fun r h' => ∃ T, r = .ret (.tup [.agg c, .agg [.int .i64 0, .int .i64 0]]) ∧ NodeT t c T ∧ Mem [] h h' T by
     obtain ⟨_, h', e, T, rfl, k1, k2⟩ := hK
     rw [← w_pattern_Tree] at e
     exact ⟨c, T, h', e, k1, k2⟩
    refine Wp.gc2 ⟨_, h', e, ⟨T, rfl, kt, M'⟩, fun _ hl => ?_⟩
    have h1 : AV.loL h.next c = true := by
     have : (AV.loL h.next c && (AV.loL h.next [.int .i64 0, .int .i64 0] && AV.loL h.next [])) = true := hl
     rw [Bool.and_eq_true] at this
     exact this.1
    have hT : T = [] := kt.low (fun y hy => (M'.row y hy).2.2.resolve_left (by simp)) h1
    subst hT
    exact ⟨[], rfl, kt, Mem.nil _ _⟩
end
mutual
def Nd.sz : Nd → Nat
 | .mk _ _ ks => szL ks + 1
def szL : List Nd → Nat
 | [] => 0
 | k :: ks => Nd.sz k + szL ks + 1
end
theorem at?_app (pre rest : Bytes) (i : Nat) : at? (pre ++ rest) (pre.length + i) = (rest[i]?).map UInt8.toNat := by
 unfold at?
 rw [List.getElem?_append_right (by omega), show pre.length + i - pre.length = i by omega]
section
variable {u : Bytes} {l : List Nd} {i : Nat} {r : Res}
theorem atom_esc {c : Nat} {r : Res} (h1 : at? u i = some 92) (h2 : at? u (i + 1) = some c) (k : AtomP u i r) : r = .ok (oneN c, i + 2) := by
 cases k with
 | none h => rw [h1] at h; cases h
 | open_bad h m => rw [h1] at h; cases h
 | open_end h m n => rw [h1] at h; cases h
 | group h m n => rw [h1] at h; cases h
 | any h => rw [h1] at h; cases h
 | set_bad h m => rw [h1] at h; cases h
 | set h m => rw [h1] at h; cases h
 | sl_end h n => rw [h2] at n; cases n
 | sl h n =>
  rw [h2] at n
  cases n
  rfl
 | bad h b =>
  rw [h1] at h
  cases h
  unfold badAtom at b
  omega
 | one h b n =>
  rw [h1] at h
  cases h
  exact absurd rfl n.2.2.2
end
section
variable {u : Bytes}
theorem loopP_one {w : List Nat} {j : Nat} {r : Except Nat (List Nat × Nat)} (a : LoopP u w j r) : ∀ {r' : Except Nat (List Nat × Nat)}, LoopP u w j r' → r = r' := by
 induction a with
 | done n =>
  intro r' b
  cases b with
  | done _ => rfl
  | bad n' _ => exact absurd n n'
  | more n' _ _ => exact absurd n n'
 | bad n h =>
  intro r' b
  cases b with
  | done n' => exact absurd n' n
  | bad n' h' =>
   rw [h] at h'
   cases h'
   rfl
  | more n' h' _ =>
   rw [h] at h'
   cases h'
 | more n h m ih =>
  intro r' b
  cases b with
  | done n' => exact absurd n' n
  | bad n' h' =>
   rw [h] at h'
   cases h'
  | more n' h' m' =>
   rw [h] at h'
   cases h'
   exact ih m'
theorem setP_one {i : Nat} {r r' : Except Nat (List Nat × Nat)} (a : SetP u i r) (b : SetP u i r') : r = r' := by
 cases a with
 | bad h =>
  cases b with
  | bad h' =>
   rw [h] at h'
   cases h'
   rfl
  | set h' _ =>
   rw [h] at h'
   cases h'
 | set h m =>
  cases b with
  | bad h' =>
   rw [h] at h'
   cases h'
  | set h' m' =>
   rw [h] at h'
   cases h'
   rw [loopP_one m m']
mutual
theorem altP_one : ∀ {l : List Nd} {i : Nat} {r r' : Res}, AltP u l i r → AltP u l i r' → r = r'
 | _, _, _, _, .bad h, .bad h' => by
  cases rowP_one h h'
  rfl
 | _, _, _, _, .bad h, .last h' _ => by cases rowP_one h h'
 | _, _, _, _, .bad h, .more h' _ _ => by cases rowP_one h h'
 | _, _, _, _, .last h _, .bad h' => by cases rowP_one h h'
 | _, _, _, _, .last h _, .last h' _ => by
  cases rowP_one h h'
  rfl
 | _, _, _, _, .last h n, .more h' n' _ => by
  cases rowP_one h h'
  exact absurd n' n
 | _, _, _, _, .more h _ _, .bad h' => by cases rowP_one h h'
 | _, _, _, _, .more h n _, .last h' n' => by
  cases rowP_one h h'
  exact absurd n n'
 | _, _, _, _, .more h n m, .more h' n' m' => by
  cases rowP_one h h'
  exact altP_one m m'
termination_by structural _ _ _ _ a => a
theorem rowP_one : ∀ {l : List Nd} {i : Nat} {r r' : Res}, RowP u l i r → RowP u l i r' → r = r'
 | _, _, _, _, .stop s, .stop _ => rfl
 | _, _, _, _, .stop s, .bad s' _ => absurd s s'
 | _, _, _, _, .stop s, .more s' _ _ => absurd s s'
 | _, _, _, _, .bad s _, .stop s' => absurd s' s
 | _, _, _, _, .bad _ h, .bad _ h' => by
  cases partP_one h h'
  rfl
 | _, _, _, _, .bad _ h, .more _ h' _ => by cases partP_one h h'
 | _, _, _, _, .more s _ _, .stop s' => absurd s' s
 | _, _, _, _, .more _ h _, .bad _ h' => by cases partP_one h h'
 | _, _, _, _, .more _ h m, .more _ h' m' => by
  cases partP_one h h'
  exact rowP_one m m'
termination_by structural _ _ _ _ a => a
theorem partP_one : ∀ {i : Nat} {r r' : Res}, PartP u i r → PartP u i r' → r = r'
 | _, _, _, .bad h, .bad h' => by
  cases atomP_one h h'
  rfl
 | _, _, _, .bad h, .bare h' _ => by cases atomP_one h h'
 | _, _, _, .bad h, .sign h' _ => by cases atomP_one h h'
 | _, _, _, .bare h _, .bad h' => by cases atomP_one h h'
 | _, _, _, .bare h _, .bare h' _ => by
  cases atomP_one h h'
  rfl
 | _, _, _, .bare h n, .sign h' n' => by
  cases atomP_one h h'
  exact absurd n n'
 | _, _, _, .sign h _, .bad h' => by cases atomP_one h h'
 | _, _, _, .sign h n, .bare h' n' => by
  cases atomP_one h h'
  exact absurd n' n
 | _, _, _, .sign h _, .sign h' _ => by
  cases atomP_one h h'
  rfl
termination_by structural _ _ _ a => a
theorem atomP_one : ∀ {i : Nat} {r r' : Res}, AtomP u i r → AtomP u i r' → r = r'
 | _, _, _, .none h, b => by
  cases b <;> first | rfl | (rename_i h' _; rw [h] at h'; cases h'; done) | (rename_i h' _ _; rw [h] at h'; cases h'; done) | (rename_i h'; rw [h] at h'; cases h'; done)
 | _, _, _, .open_bad h m, b => by
  cases b with
  | open_bad h' m' =>
   cases altP_one m m'
   rfl
  | open_end h' m' n' => cases altP_one m m'
  | group h' m' n' => cases altP_one m m'
  | none h' => rw [h] at h'; cases h'
  | any h' => rw [h] at h'; cases h'
  | set_bad h' _ => rw [h] at h'; cases h'
  | set h' _ => rw [h] at h'; cases h'
  | sl_end h' _ => rw [h] at h'; cases h'
  | sl h' _ => rw [h] at h'; cases h'
  | bad h' b' => rw [h] at h'; cases h'; unfold badAtom at b'; omega
  | one h' _ n' => rw [h] at h'; cases h'; exact absurd rfl n'.1
 | _, _, _, .open_end h m n, b => by
  cases b with
  | open_bad h' m' => cases altP_one m m'
  | open_end h' m' n' =>
   cases altP_one m m'
   rfl
  | group h' m' n' =>
   cases altP_one m m'
   exact absurd n' n
  | none h' => rw [h] at h'; cases h'
  | any h' => rw [h] at h'; cases h'
  | set_bad h' _ => rw [h] at h'; cases h'
  | set h' _ => rw [h] at h'; cases h'
  | sl_end h' _ => rw [h] at h'; cases h'
  | sl h' _ => rw [h] at h'; cases h'
  | bad h' b' => rw [h] at h'; cases h'; unfold badAtom at b'; omega
  | one h' _ n' => rw [h] at h'; cases h'; exact absurd rfl n'.1
 | _, _, _, .group h m n, b => by
  cases b with
  | open_bad h' m' => cases altP_one m m'
  | open_end h' m' n' =>
   cases altP_one m m'
   exact absurd n n'
  | group h' m' n' =>
   cases altP_one m m'
   rfl
  | none h' => rw [h] at h'; cases h'
  | any h' => rw [h] at h'; cases h'
  | set_bad h' _ => rw [h] at h'; cases h'
  | set h' _ => rw [h] at h'; cases h'
  | sl_end h' _ => rw [h] at h'; cases h'
  | sl h' _ => rw [h] at h'; cases h'
  | bad h' b' => rw [h] at h'; cases h'; unfold badAtom at b'; omega
  | one h' _ n' => rw [h] at h'; cases h'; exact absurd rfl n'.1
 | _, _, _, .any h, b => by
  cases b with
  | any h' => rfl
  | none h' => rw [h] at h'; cases h'
  | open_bad h' _ => rw [h] at h'; cases h'
  | open_end h' _ _ => rw [h] at h'; cases h'
  | group h' _ _ => rw [h] at h'; cases h'
  | set_bad h' _ => rw [h] at h'; cases h'
  | set h' _ => rw [h] at h'; cases h'
  | sl_end h' _ => rw [h] at h'; cases h'
  | sl h' _ => rw [h] at h'; cases h'
  | bad h' b' => rw [h] at h'; cases h'; unfold badAtom at b'; omega
  | one h' _ n' => rw [h] at h'; cases h'; exact absurd rfl n'.2.1
 | _, _, _, .set_bad h m, b => by
  cases b with
  | set_bad h' m' => cases setP_one m m'; rfl
  | set h' m' => cases setP_one m m'
  | any h' => rw [h] at h'; cases h'
  | none h' => rw [h] at h'; cases h'
  | open_bad h' _ => rw [h] at h'; cases h'
  | open_end h' _ _ => rw [h] at h'; cases h'
  | group h' _ _ => rw [h] at h'; cases h'
  | sl_end h' _ => rw [h] at h'; cases h'
  | sl h' _ => rw [h] at h'; cases h'
  | bad h' b' => rw [h] at h'; cases h'; unfold badAtom at b'; omega
  | one h' _ n' => rw [h] at h'; cases h'; exact absurd rfl n'.2.2.1
 | _, _, _, .set h m, b => by
  cases b with
  | set_bad h' m' => cases setP_one m m'
  | set h' m' => cases setP_one m m'; rfl
  | any h' => rw [h] at h'; cases h'
  | none h' => rw [h] at h'; cases h'
  | open_bad h' _ => rw [h] at h'; cases h'
  | open_end h' _ _ => rw [h] at h'; cases h'
  | group h' _ _ => rw [h] at h'; cases h'
  | sl_end h' _ => rw [h] at h'; cases h'
  | sl h' _ => rw [h] at h'; cases h'
  | bad h' b' => rw [h] at h'; cases h'; unfold badAtom at b'; omega
  | one h' _ n' => rw [h] at h'; cases h'; exact absurd rfl n'.2.2.1
 | _, _, _, .sl_end h m, b => by
  cases b with
  | sl_end h' _ => rfl
  | sl h' m' => rw [m] at m'; cases m'
  | set_bad h' m' => rw [h] at h'; cases h'
  | set h' m' => rw [h] at h'; cases h'
  | any h' => rw [h] at h'; cases h'
  | none h' => rw [h] at h'; cases h'
  | open_bad h' _ => rw [h] at h'; cases h'
  | open_end h' _ _ => rw [h] at h'; cases h'
  | group h' _ _ => rw [h] at h'; cases h'
  | bad h' b' => rw [h] at h'; cases h'; unfold badAtom at b'; omega
  | one h' _ n' => rw [h] at h'; cases h'; exact absurd rfl n'.2.2.2
 | _, _, _, .sl h m, b => (atom_esc h m b).symm
 | _, _, _, .bad h b1, b => by
  unfold badAtom at b1
  cases b with
  | bad h' b' => rfl
  | one h' b' n' => rw [h] at h'; cases h'; exact absurd b1 b'
  | sl_end h' _ => rw [h] at h'; cases h'; omega
  | sl h' m' => rw [h] at h'; cases h'; omega
  | set_bad h' m' => rw [h] at h'; cases h'; omega
  | set h' m' => rw [h] at h'; cases h'; omega
  | any h' => rw [h] at h'; cases h'; omega
  | none _ => rfl
  | open_bad h' _ => rw [h] at h'; cases h'; omega
  | open_end h' _ _ => rw [h] at h'; cases h'; omega
  | group h' _ _ => rw [h] at h'; cases h'; omega
 | _, _, _, .one h b1 n, b => by
  obtain ⟨n1, n2, n3, n4⟩ := n
  cases b with
  | bad h' b' => rw [h] at h'; cases h'; exact absurd b' b1
  | one h' b' n' => rw [h] at h'; cases h'; rfl
  | sl_end h' _ => rw [h] at h'; cases h'; exact absurd rfl n4
  | sl h' m' => rw [h] at h'; cases h'; exact absurd rfl n4
  | set_bad h' m' => rw [h] at h'; cases h'; exact absurd rfl n3
  | set h' m' => rw [h] at h'; cases h'; exact absurd rfl n3
  | any h' => rw [h] at h'; cases h'; exact absurd rfl n2
  | none h' => rw [h] at h'; cases h'
  | open_bad h' _ => rw [h] at h'; cases h'; exact absurd rfl n1
  | open_end h' _ _ => rw [h] at h'; cases h'; exact absurd rfl n1
  | group h' _ _ => rw [h] at h'; cases h'; exact absurd rfl n1
termination_by structural _ _ _ a => a
end
end
section
variable {a u : Bytes} {k : Nat}
structure LiesIn (a u : Bytes) (k : Nat) : Prop where
 same : ∀ i, i < a.length → at? u (k + i) = at? a i
 stop : at? u (k + a.length) = some 41
theorem LiesIn.some (s : LiesIn a u k) {i c : Nat} (h : at? a i = some c) : at? u (k + i) = some c := by
 obtain ⟨hp, _⟩ := at?_some h
 rw [s.same i hp, h]
end
section
variable {n d b p q i : Nat} {h h0 : AHeap} {u : Bytes} {Q : ARes → AHeap → Prop} {S : List Nat} {xs T T0 T1 : List RowT} {kc : List (List AV)} {kv : AV} {l : List Nd} {w : List Nat}
end
section
variable {n d i j : Nat} {h H h0 hb hx : AHeap} {u : Bytes} {Q : ARes → AHeap → Prop} {S : List Nat} {ys : List RowT} {w : List Nat} {k25 : Int → AHeap → R}
end
end Go.Proofs.Yteibdplpbcobbaa
namespace Go.Proofs.Yteibdplpbcobbaa
open Go.RowKit Abs
section
variable {n d i j : Nat} {h H h0 hb hx : AHeap} {u : Bytes} {Q : ARes → AHeap → Prop} {S : List Nat} {ys : List RowT} {w : List Nat} {k25 : Int → AHeap → R}
end
section
variable {n i j q : Nat} {u : Bytes} {l : List Nd} {r : Res} {t : Nd} {w : List Nat}
end
section
variable {n i j q : Nat} {u : Bytes} {l : List Nd} {r : Res} {t : Nd} {w : List Nat}
end
section
variable {n i j q : Nat} {u : Bytes} {l : List Nd} {r : Res} {t : Nd} {w : List Nat}
end
section
variable {n d i j q : Nat} {h h0 H : AHeap} {u : Bytes} {l : List Nd} {r : Res} {t : Nd} {w : List Nat} {S : List Nat} {c : List AV} {kc : List (List AV)} {kv : AV} {T T0 T1 : List RowT} {Q : ARes → AHeap → Prop}
end
section
variable {a u : Bytes} {k : Nat}
end
section
variable {a b u : Bytes} {x y : Nd}
end
section
variable {a : Bytes}
end
end Go.Proofs.Yteibdplpbcobbaa
namespace Go.Proofs.Yteibdplpbcobbaa
open Go.RowKit Abs
section
variable {N : Nat} {h : AHeap} {x : AV} {K : List (List AV)}
end
section
variable {S : List Nat} {h h0 : AHeap} {xs T : List RowT} {l : Bytes} {v : AV} {Q : ARes → AHeap → Prop}
end
end Go.Proofs.Yteibdplpbcobbaa
namespace Go.Proofs.Yteibdplpbcobbaa
open Go.RowKit Abs
theorem tree_long {u : Bytes} (l : 64 < u.length) {kind : Int} (hk : kind = 1 ∨ kind = 2 ∨ kind = 3) {n D : Nat} {h : AHeap} : world n (D + 1) 21 [.agg [.int .i64 kind, strA u]] h = some (.ret (.tup [.agg (nodeC 0 zeroW .nsl), .agg [.int .i64 3, .int .i64 64]]), h) := by
 rcases hk with rfl | rfl | rfl
 ·apply Wp.eq
  rw [w_pattern_Tree]
  refine Wp.gc ?_
  suffices hK : Wp (pattern_Tree (world n D) n [.int .i64 1, strA u] h) fun r h' => r = .ret (.tup [.agg (nodeC 0 zeroW .nsl), .agg [.int .i64 3, .int .i64 64]]) ∧ Tch [] h h' from hK.mono fun r h' ⟨e, t⟩ => ⟨t.above, by rw [e]; rfl, e, rfl⟩
  unfold pattern_Tree
  have ll := lenS_nat u
  have Mx := Mem.nil [] h
  repeat (first | ((with_reducible apply Wp.obind); (with_reducible first | exact avInt_int _ _ | exact avStr_str _ | exact fldP_ptr _ _ _)) | ((with_reducible apply Wp.lr0 Mx); rfl) | ((with_reducible apply Wp.sa0 Mx); rfl; rfl; (rfl); intro _ Mz; clear Mx; have Mx := Mz; clear Mz) | ((with_reducible apply Wp.lr1 Mx); rfl) | ((with_reducible apply Wp.sa1 Mx); rfl; rfl; (rfl); intro _ Mz; clear Mx; have Mx := Mz; clear Mz) | ((with_reducible apply Wp.ld2 Mx); rfl) | ((with_reducible apply Wp.mnew Mx); intro _ Mz; clear Mx; have Mx := Mz; clear Mz) | ((with_reducible apply Wp.mbox Mx); (rfl); intro _ Mz; clear Mx; have Mx := Mz; clear Mz) | (with_reducible refine Wp.join1 (fun _ _ => ?_)) | (with_reducible refine Wp.lett ?_) | ((with_reducible refine Wp.ift ?_ ?_); ((with_reducible first | apply decide_eq_true | apply bne_t); omega)) | ((with_reducible refine Wp.iff ?_ ?_); first | (with_reducible rfl) | ((with_reducible apply bne_f); omega)) | (with_reducible refine Wp.go1 (by assumption) ?_) | rw [newP_eq])
  exact Wp.ret ⟨rfl, Mx.tch⟩
 ·apply Wp.eq
  rw [w_pattern_Tree]
  refine Wp.gc ?_
  suffices hK : Wp (pattern_Tree (world n D) n [.int .i64 2, strA u] h) fun r h' => r = .ret (.tup [.agg (nodeC 0 zeroW .nsl), .agg [.int .i64 3, .int .i64 64]]) ∧ Tch [] h h' from hK.mono fun r h' ⟨e, t⟩ => ⟨t.above, by rw [e]; rfl, e, rfl⟩
  unfold pattern_Tree
  have ll := lenS_nat u
  have Mx := Mem.nil [] h
  repeat (first | ((with_reducible apply Wp.obind); (with_reducible first | exact avInt_int _ _ | exact avStr_str _ | exact fldP_ptr _ _ _)) | ((with_reducible apply Wp.lr0 Mx); rfl) | ((with_reducible apply Wp.sa0 Mx); rfl; rfl; (rfl); intro _ Mz; clear Mx; have Mx := Mz; clear Mz) | ((with_reducible apply Wp.lr1 Mx); rfl) | ((with_reducible apply Wp.sa1 Mx); rfl; rfl; (rfl); intro _ Mz; clear Mx; have Mx := Mz; clear Mz) | ((with_reducible apply Wp.ld2 Mx); rfl) | ((with_reducible apply Wp.mnew Mx); intro _ Mz; clear Mx; have Mx := Mz; clear Mz) | ((with_reducible apply Wp.mbox Mx); (rfl); intro _ Mz; clear Mx; have Mx := Mz; clear Mz) | (with_reducible refine Wp.join1 (fun _ _ => ?_)) | (with_reducible refine Wp.lett ?_) | ((with_reducible refine Wp.ift ?_ ?_); ((with_reducible first | apply decide_eq_true | apply bne_t); omega)) | ((with_reducible refine Wp.iff ?_ ?_); first | (with_reducible rfl) | ((with_reducible apply bne_f); omega)) | (with_reducible refine Wp.go1 (by assumption) ?_) | rw [newP_eq])
  exact Wp.ret ⟨rfl, Mx.tch⟩
 ·apply Wp.eq
  rw [w_pattern_Tree]
  refine Wp.gc ?_
  suffices hK : Wp (pattern_Tree (world n D) n [.int .i64 3, strA u] h) fun r h' => r = .ret (.tup [.agg (nodeC 0 zeroW .nsl), .agg [.int .i64 3, .int .i64 64]]) ∧ Tch [] h h' from hK.mono fun r h' ⟨e, t⟩ => ⟨t.above, by rw [e]; rfl, e, rfl⟩
  unfold pattern_Tree
  have ll := lenS_nat u
  have Mx := Mem.nil [] h
  repeat (first | ((with_reducible apply Wp.obind); (with_reducible first | exact avInt_int _ _ | exact avStr_str _ | exact fldP_ptr _ _ _)) | ((with_reducible apply Wp.lr0 Mx); rfl) | ((with_reducible apply Wp.sa0 Mx); rfl; rfl; (rfl); intro _ Mz; clear Mx; have Mx := Mz; clear Mz) | ((with_reducible apply Wp.lr1 Mx); rfl) | ((with_reducible apply Wp.sa1 Mx); rfl; rfl; (rfl); intro _ Mz; clear Mx; have Mx := Mz; clear Mz) | ((with_reducible apply Wp.ld2 Mx); rfl) | ((with_reducible apply Wp.mnew Mx); intro _ Mz; clear Mx; have Mx := Mz; clear Mz) | ((with_reducible apply Wp.mbox Mx); (rfl); intro _ Mz; clear Mx; have Mx := Mz; clear Mz) | (with_reducible refine Wp.join1 (fun _ _ => ?_)) | (with_reducible refine Wp.lett ?_) | ((with_reducible refine Wp.ift ?_ ?_); ((with_reducible first | apply decide_eq_true | apply bne_t); omega)) | ((with_reducible refine Wp.iff ?_ ?_); ((with_reducible apply bne_f); omega)) | (with_reducible refine Wp.go1 (by assumption) ?_) | rw [newP_eq])
  exact Wp.ret ⟨rfl, Mx.tch⟩
def OutT (h : AHeap) (x : R) : Except Nat Nd → Prop
 | .ok t => ∃ c T h', x = some (.ret (.tup [.agg c, .agg [.int .i64 0, .int .i64 0]]), h') ∧ NodeT t c T ∧ Mem [] h h' T
 | .error q => x = some (.ret (.tup [.agg (nodeC 0 zeroW .nsl), .agg [.int .i64 6, .int .i64 (q : Int)]]), h)
section
variable {n d : Nat} {h : AHeap} {u : Bytes}
theorem pTree_other {k : Int} (h1 : k ≠ 1) (h2 : k ≠ 2) (h3 : k ≠ 3) : world n (d + 1) 21 [.agg [.int .i64 k, strA u]] h = some (.ret (.tup [.agg (nodeC 0 zeroW .nsl), .agg [.int .i64 2, .int .i64 0]]), h) := by
 apply Wp.eq
 rw [w_pattern_Tree]
 refine Wp.gc ?_
 suffices hK : Wp (pattern_Tree (world n d) n [.int .i64 k, strA u] h) fun r h' => r = .ret (.tup [.agg (nodeC 0 zeroW .nsl), .agg [.int .i64 2, .int .i64 0]]) ∧ Tch [] h h' from hK.mono fun r h' ⟨e, t⟩ => ⟨t.above, by rw [e]; rfl, e, rfl⟩
 unfold pattern_Tree
 have Mx := Mem.nil [] h
 repeat (first | ((with_reducible apply Wp.obind); (with_reducible first | exact avInt_int _ _ | exact fldP_ptr _ _ _)) | ((with_reducible apply Wp.lr0 Mx); rfl) | ((with_reducible apply Wp.sa0 Mx); rfl; rfl; (rfl); intro _ Mz; clear Mx; have Mx := Mz; clear Mz) | ((with_reducible apply Wp.lr1 Mx); rfl) | ((with_reducible apply Wp.sa1 Mx); rfl; rfl; (rfl); intro _ Mz; clear Mx; have Mx := Mz; clear Mz) | ((with_reducible apply Wp.ld2 Mx); rfl) | ((with_reducible apply Wp.mnew Mx); intro _ Mz; clear Mx; have Mx := Mz; clear Mz) | ((with_reducible apply Wp.mbox Mx); (rfl); intro _ Mz; clear Mx; have Mx := Mz; clear Mz) | (with_reducible refine Wp.join1 (fun _ _ => ?_)) | (with_reducible refine Wp.lett ?_) | ((with_reducible refine Wp.ift ?_ ?_); ((with_reducible apply bne_t); omega)) | (with_reducible refine Wp.go1 (by assumption) ?_) | rw [newP_eq])
 exact Wp.ret ⟨rfl, Mx.tch⟩
theorem pTree_ok (hl : u.length ≤ 64) {k : Int} (hk : k = 1 ∨ k = 2 ∨ k = 3) : ∃ r, TreeP u k r ∧ (∀ q, r = .error q → q ≤ u.length) ∧ ∀ {n D : Nat} {h : AHeap}, 300 ≤ D → 400 < n → memB TNode h.ex = false → OutT h (world n (D + 3) 21 [.agg [.int .i64 k, strA u]] h) r := by
 obtain ⟨r, r1, r2, r3⟩ := (tree_kinds (u := u) (by omega) hk).2 hl
 refine ⟨r, r1, r2, fun {n D h} hD hn hx => ?_⟩
 have := r3 (n := n) (D := D) (h := h) hD hn hx
 cases r with
 | error q => exact this
 | ok t => exact this
end
set_option maxHeartbeats 4000000
set_option maxRecDepth 20000
noncomputable def law09_PatternBack (call : CallF) (_ : Nat) (t0 : List AV) (t1 : Bytes) (h : AHeap) : R :=
 outK (opBox h 35 (some (.agg t0))) fun v2 h_2 =>
 callN (call 13 [] h_2) fun r14 h_6 =>
 obind (avBool r14) fun t14 =>
 lett (!t14) fun (t15 : Bool) =>
 ifB t15
 (
  some (.ret (.bool false), h_6))
 (
  obind (fldP 1 v2) fun t16 =>
  obind (ldCell h_6 t16) fun v17 =>
  obind (avStr v17) fun t17 =>
  lett (IntKind.i64.wrap ((lenS t17) + (lenS t1))) fun (t21 : Int) =>
  callN (call 14 [.int .i64 t21] h_6) fun r22 h_17 =>
  obind (avBool r22) fun t22 =>
  ifB t22
  (
   some (.ret (.bool true), h_17))
  (
   obind (ldRow h_17 2 v2) fun t24 =>
   callN (call 21 [.agg t24] h_17) fun r25 h_23 =>
   obind (extT 0 r25) fun v26 =>
   obind (avAgg v26) fun t26 =>
   obind (extT 1 r25) fun v27 =>
   obind (avAgg v27) fun t27 =>
   lett (newH h_23 41 [.int .i64 0, .int .u64 0, .int .u64 0, .int .u64 0, .int .u64 0, .nsl]) fun h_29 =>
   lett (newH h_29 27 [.int .i64 0, .int .i64 0]) fun h_31 =>
   obind (stRow h_31 6 t26 (newP h_23)) fun h_33 =>
   obind (stRow h_33 2 t27 (newP h_29)) fun h_35 =>
   obind (ldRow h_35 2 v2) fun t28 =>
   callN (call 26 [.agg t28] h_35) fun r29 h_39 =>
   obind (avStr r29) fun t29 =>
   lett (eqS t29 ([] : Bytes)) fun (t31 : Bool) =>
   obind (ldCell h_39 (AV.ptr (AHeap.next h_29) 0)) fun v33 =>
   obind (avInt .i64 v33) fun t33 =>
   lett ((t33 : Int) != 0) fun (t34 : Bool) =>
   lett (!((t31 : Bool) == t34)) fun (t35 : Bool) =>
   ifB t35
   (
    some (.ret (.bool false), h_39))
   (
    lett (!eqS t29 ([] : Bytes)) fun (t37 : Bool) =>
    lett (fun  (h_54 : AHeap) =>
     callN (call 24 [strA t1] h_54) fun r53 h_56 =>
     obind (extT 0 r53) fun v54 =>
     obind (avAgg v54) fun t54 =>
     obind (extT 1 r53) fun v55 =>
     obind (avAgg v55) fun t55 =>
     lett (newH h_56 35 [.int .i64 0, .str 0 0]) fun h_62 =>
     lett (newH h_62 27 [.int .i64 0, .int .i64 0]) fun h_64 =>
     obind (stRow h_64 2 t54 (newP h_56)) fun h_66 =>
     obind (stRow h_66 2 t55 (newP h_62)) fun h_68 =>
     obind (ldCell h_68 (AV.ptr (AHeap.next h_62) 0)) fun v57 =>
     obind (avInt .i64 v57) fun t57 =>
     lett ((t57 : Int) != 0) fun (t58 : Bool) =>
     ifB t58
     (
      obind (ldRow h_68 2 (newP h_56)) fun t59 =>
      obind (eqOther Pg 35 (.agg t59) (.agg ([.int .i64 0, .str 0 0] : List AV))) fun t61 =>
      lett (fun (t66 : Bool) (h_78 : AHeap) =>
       lett (fun (t73 : Bool) (h_81 : AHeap) =>
        some (.ret (.bool t73), h_81)) fun j73 =>
       ifB t66
       (
        obind (ldCell h_78 (AV.ptr (AHeap.next h_62) 1)) fun v69 =>
        obind (avInt .i64 v69) fun t69 =>
        lett (decide (t69 ≤ (lenS t1))) fun (t72 : Bool) =>
        j73 t72 h_78)
       (
        j73 false h_78)) fun j66 =>
      ifB t61
      (
       obind (ldCell h_68 (AV.ptr (AHeap.next h_62) 1)) fun v64 =>
       obind (avInt .i64 v64) fun t64 =>
       lett (decide (t64 ≥ 0)) fun (t65 : Bool) =>
       j66 t65 h_68)
      (
       j66 false h_68))
     (
      callN (call 16 [strA t1] h_68) fun r76 h_91 =>
      obind (extT 0 r76) fun v77 =>
      obind (avStr v77) fun t77 =>
      obind (extT 1 r76) fun v78 =>
      obind (avAgg v78) fun t78 =>
      lett (newH h_91 27 [.int .i64 0, .int .i64 0]) fun h_97 =>
      obind (stRow h_97 2 t78 (newP h_91)) fun h_99 =>
      obind (ldCell h_99 (AV.ptr (AHeap.next h_62) 1)) fun v80 =>
      obind (avInt .i64 v80) fun t80 =>
      lett ((t80 : Int) == 0) fun (t81 : Bool) =>
      lett (fun (t87 : Bool) (h_105 : AHeap) =>
       lett (fun (t103 : Bool) (h_108 : AHeap) =>
        some (.ret (.bool t103), h_108)) fun j103 =>
       ifB t87
       (
        obind (ldCell h_105 (AV.ptr (AHeap.next h_56) 0)) fun v90 =>
        obind (avInt .i64 v90) fun t90 =>
        lett ((t90 : Int) != 1) fun (t91 : Bool) =>
        lett (fun (t102 : Bool) (h_114 : AHeap) =>
         j103 t102 h_114) fun j102 =>
        ifB t91
        (
         j102 true h_105)
        (
         obind (ldCell h_105 (AV.ptr (AHeap.next h_56) 1)) fun v95 =>
         obind (avStr v95) fun t95 =>
         lett (eqS t77 t95) fun (t96 : Bool) =>
         lett (fun (t101 : Bool) (h_120 : AHeap) =>
          j102 t101 h_120) fun j101 =>
         ifB t96
         (
          obind (ldRow h_105 2 (newP h_91)) fun t98 =>
          obind (eqOther Pg 27 (.agg t98) (.agg ([.int .i64 0, .int .i64 0] : List AV))) fun t100 =>
          j101 t100 h_105)
         (
          j101 false h_105)))
       (
        j103 false h_105)) fun j87 =>
      ifB t81
      (
       obind (ldRow h_99 2 (newP h_56)) fun t83 =>
       callN (call 26 [.agg t83] h_99) fun r84 h_126 =>
       obind (avStr r84) fun t84 =>
       lett (eqS t84 t1) fun (t86 : Bool) =>
       j87 t86 h_126)
      (
       j87 false h_99))) fun k53 =>
    ifB t37
    (
     callN (call 24 [strA t29] h_39) fun r40 h_131 =>
     obind (extT 0 r40) fun v41 =>
     obind (avAgg v41) fun t41 =>
     obind (extT 1 r40) fun v42 =>
     obind (avAgg v42) fun t42 =>
     lett (newH h_131 35 [.int .i64 0, .str 0 0]) fun h_137 =>
     lett (newH h_137 27 [.int .i64 0, .int .i64 0]) fun h_139 =>
     obind (stRow h_139 2 t41 (newP h_131)) fun h_141 =>
     obind (stRow h_141 2 t42 (newP h_137)) fun h_143 =>
     obind (ldRow h_143 2 (newP h_131)) fun t43 =>
     obind (ldRow h_143 2 v2) fun t44 =>
     obind (eqOther Pg 35 (.agg t43) (.agg t44)) fun t45 =>
     lett (!t45) fun (t45_149 : Bool) =>
     lett (fun (t50 : Bool) (h_151 : AHeap) =>
      ifB t50
      (
       some (.ret (.bool false), h_151))
      (
       k53 h_151)) fun j50 =>
     ifB t45_149
     (
      j50 true h_143)
     (
      obind (ldRow h_143 2 (newP h_137)) fun t47 =>
      obind (eqOther Pg 27 (.agg t47) (.agg ([.int .i64 0, .int .i64 0] : List AV))) fun t49 =>
      lett (!t49) fun (t49_157 : Bool) =>
      j50 t49_157 h_143))
    (
     k53 h_39))))
theorem law09_PatternBack_ok {call : CallF} (hc : SaysAll Pg call) {n : Nat} {t0 : List AV} {t1 : Bytes} {h : AHeap} {rR : ARes} {hR : AHeap} (z : law09_PatternBack call n t0 t1 h = some (rR, hR)) : Says Pg 8 [.agg t0, strA t1] h rR hR := by
 unfold law09_PatternBack at z
 refine sO Try.func8 fun w0 m0 => ?_
 refine wW [(0, .agg t0), (1, strA t1)] ?_
 refine oG fun n1 => W.r ?_
 refine oK 2 z fun v2 h_2 z => ?_
 refine oA 4 (.bool false) ?_
 refine oV [(1, strA t1), (2, v2)] (n1 ?_)
 refine oH fun n4 q4 => ?_
 refine oG fun n5 => W.r ?_
 refine oCb hc 14 z fun t14 h_6 z => ?_
 refine oB 15 z fun t15 z => ?_
 refine oV [(1, strA t1), (2, v2), (15, .bool t15)] (n5 ?_)
 cases t15 with
 | true =>
  refine oT z fun z => ?_
  refine oG fun n10 => W.r ?_
  refine oA 4 (.bool false) ?_
  refine oV [(4, .bool false)] (n10 (oY (q4 ?_)))
  exact lZ z [.tmp 4] [.bool false] (rT res_nil)
 | false =>
  refine oU z fun z => ?_
  refine oZ (n4 ?_)
  refine oH fun n11 q11 => ?_
  refine oG fun n12 => W.r ?_
  refine oF 16 35 1 z fun t16 z => ?_
  refine oLs 17 9 z fun t17 z => ?_
  refine oA 18 (.int .i64 (lenS t17)) ?_
  refine oA 19 (strA t1) ?_
  refine oA 20 (.int .i64 (lenS t1)) ?_
  refine oI 21 .i64 z fun t21 z => ?_
  refine oCb hc 22 z fun t22 h_17 z => ?_
  refine oV [(1, strA t1), (2, v2), (22, .bool t22)] (n12 ?_)
  cases t22 with
  | true =>
   refine oT z fun z => ?_
   refine oG fun n20 => W.r ?_
   refine oA 4 (.bool true) ?_
   refine oV [(4, .bool true)] (n20 (oY (q11 ?_)))
   exact lZ z [.tmp 4] [.bool true] (rT res_nil)
  | false =>
   refine oU z fun z => ?_
   refine oZ (n11 ?_)
   refine oG fun n21 => W.r ?_
   refine oR 24 35 z fun t24 z => ?_
   refine oC hc (some 25) z fun r25 h_23 z => ?_
   refine oA 23 r25 ?_
   refine oEa 26 z fun t26 z => ?_
   refine oEa 27 z fun t27 z => ?_
   refine oN 5 z fun h_29 z => ?_
   refine oN 6 z fun h_31 z => ?_
   refine oW 41 (.agg t26) z fun h_33 z => ?_
   refine oW 27 (.agg t27) z fun h_35 z => ?_
   refine oV [(1, strA t1), (2, v2), (6, newP h_29)] (n21 ?_)
   refine oG fun n37 => W.r ?_
   refine oR 28 35 z fun t28 z => ?_
   refine oCs hc 29 z fun t29 h_39 z => ?_
   refine oA 7 (strA t29) ?_
   refine oV [(1, strA t1), (2, v2), (6, newP h_29), (7, strA t29)] (n37 ?_)
   refine oH fun n42 q42 => ?_
   refine oG fun n43 => W.r ?_
   refine oA 30 (strA t29) ?_
   refine oB 31 z fun t31 z => ?_
   refine oA 32 (AV.ptr (AHeap.next h_29) 0) ?_
   refine oLi 33 25 z fun t33 z => ?_
   refine oB 34 z fun t34 z => ?_
   refine oB 35 z fun t35 z => ?_
   refine oV [(1, strA t1), (2, v2), (7, strA t29), (35, .bool t35)] (n43 ?_)
   cases t35 with
   | true =>
    refine oT z fun z => ?_
    refine oG fun n49 => W.r ?_
    refine oA 4 (.bool false) ?_
    refine oV [(4, .bool false)] (n49 (oY (q42 ?_)))
    exact lZ z [.tmp 4] [.bool false] (rT res_nil)
   | false =>
    refine oU z fun z => ?_
    refine oZ (n42 ?_)
    refine W.s (fun K50 n50 _ q50 _ => ?_)
    refine oG fun n51 => W.r ?_
    refine oA 36 (strA t29) ?_
    refine oB 37 z fun t37 z => ?_
    refine oV [(1, strA t1), (2, v2), (7, strA t29), (37, .bool t37)] (n51 ?_)
    obtain ⟨k53, e53, z⟩ := lS z
    have J53 : ∀  (h_54 : AHeap), k53 h_54 = some (rR, hR) → Go w0 m0 (Func.ntmps Try.f8) (K50 .normal) [(1, strA t1)] [] h_54 := by
     intro  h_54 z
     rw [e53] at z
     refine n50 ?_
     refine oG fun n55 => W.r ?_
     refine oA 52 (strA t1) ?_
     refine oC hc (some 53) z fun r53 h_56 z => ?_
     refine oA 51 r53 ?_
     refine oEa 54 z fun t54 z => ?_
     refine oEa 55 z fun t55 z => ?_
     refine oN 10 z fun h_62 z => ?_
     refine oN 11 z fun h_64 z => ?_
     refine oW 35 (.agg t54) z fun h_66 z => ?_
     refine oW 27 (.agg t55) z fun h_68 z => ?_
     refine oV [(1, strA t1), (10, newP h_56), (11, newP h_62)] (n55 ?_)
     refine oH fun n70 q70 => ?_
     refine oG fun n71 => W.r ?_
     refine oA 56 (AV.ptr (AHeap.next h_62) 0) ?_
     refine oLi 57 25 z fun t57 z => ?_
     refine oB 58 z fun t58 z => ?_
     refine oV [(1, strA t1), (10, newP h_56), (11, newP h_62), (58, .bool t58)] (n71 ?_)
     cases t58 with
     | true =>
      refine oT z fun z => ?_
      refine W.s (fun K75 n75 _ _ _ => ?_)
      refine W.r ?_
      refine oR 59 35 z fun t59 z => ?_
      refine oA 60 (.agg ([.int .i64 0, .str 0 0] : List AV)) ?_
      obtain ⟨t61, e77, z⟩ := oS z
      refine WL.b (some 61) (.bool t61) h_68 (eq_other (P := Pg) (h := h_68) (t := 35) (lit := false) (by kernel_rfl) e77) ?_
      refine oA 62 (.bool t61) ?_
      obtain ⟨j66, e79, z⟩ := lS z
      have J80 : ∀ (t66 : Bool) (h_78 : AHeap), j66 t66 h_78 = some (rR, hR) → WL Pg w0 m0 (Func.ntmps Try.f8) (Code.ops (Code.p1 (Code.p1 (Code.p2 (Code.p1 (Code.p2 (Code.p2 (Code.p2 (Code.p2 (Code.p2 (Code.p2 (Code.p2 (Code.p2 (codeOf Try.f8)))))))))))))) 8 K75 [(1, strA t1), (11, newP h_62), (66, .bool t66)] [] h_78 := by
       intro t66 h_78 z
       rw [e79] at z
       refine oA 67 (.bool t66) ?_
       obtain ⟨j73, e82, z⟩ := lS z
       have J83 : ∀ (t73 : Bool) (h_81 : AHeap), j73 t73 h_81 = some (rR, hR) → WL Pg w0 m0 (Func.ntmps Try.f8) (Code.ops (Code.p1 (Code.p1 (Code.p2 (Code.p1 (Code.p2 (Code.p2 (Code.p2 (Code.p2 (Code.p2 (Code.p2 (Code.p2 (Code.p2 (codeOf Try.f8)))))))))))))) 15 K75 [(73, .bool t73)] [] h_81 := by
        intro t73 h_81 z
        rw [e82] at z
        refine oA 4 (.bool t73) ?_
        refine oV [(4, .bool t73)] (n75 (oY (q70 ?_)))
        exact lZ z [.tmp 4] [.bool t73] (rT res_nil)
       cases t66 with
       | true =>
        replace z := ifB_t z
        refine oA 68 (AV.ptr (AHeap.next h_62) 1) ?_
        refine oLi 69 3 z fun t69 z => ?_
        refine oA 70 (strA t1) ?_
        refine oA 71 (.int .i64 (lenS t1)) ?_
        refine oB 72 z fun t72 z => ?_
        refine oA 73 (.bool t72) ?_
        exact lW _ (J83 _ _ z)
       | false =>
        replace z := ifB_f z
        refine WL.o (some 68) ?_
        refine WL.o (some 69) ?_
        refine WL.o (some 70) ?_
        refine WL.o (some 71) ?_
        refine WL.o (some 72) ?_
        refine oA 73 (.bool false) ?_
        exact lW _ (J83 _ _ z)
      cases t61 with
      | true =>
       replace z := ifB_t z
       refine oA 63 (AV.ptr (AHeap.next h_62) 1) ?_
       refine oLi 64 3 z fun t64 z => ?_
       refine oB 65 z fun t65 z => ?_
       refine oA 66 (.bool t65) ?_
       exact lW _ (J80 _ _ z)
      | false =>
       replace z := ifB_f z
       refine WL.o (some 63) ?_
       refine WL.o (some 64) ?_
       refine WL.o (some 65) ?_
       refine oA 66 (.bool false) ?_
       exact lW _ (J80 _ _ z)
     | false =>
      refine oU z fun z => ?_
      refine oZ (n70 ?_)
      refine oG fun n90 => W.r ?_
      refine oA 75 (strA t1) ?_
      refine oC hc (some 76) z fun r76 h_91 z => ?_
      refine oA 74 r76 ?_
      refine oEs 77 z fun t77 z => ?_
      refine oEa 78 z fun t78 z => ?_
      refine oN 13 z fun h_97 z => ?_
      refine oA 12 (strA t77) ?_
      refine oW 27 (.agg t78) z fun h_99 z => ?_
      refine oV [(1, strA t1), (10, newP h_56), (11, newP h_62), (12, strA t77), (13, newP h_91)] (n90 ?_)
      refine W.s (fun K101 n101 _ _ _ => ?_)
      refine W.r ?_
      refine oA 79 (AV.ptr (AHeap.next h_62) 1) ?_
      refine oLi 80 3 z fun t80 z => ?_
      refine oB 81 z fun t81 z => ?_
      refine oA 82 (.bool t81) ?_
      obtain ⟨j87, e106, z⟩ := lS z
      have J107 : ∀ (t87 : Bool) (h_105 : AHeap), j87 t87 h_105 = some (rR, hR) → WL Pg w0 m0 (Func.ntmps Try.f8) (Code.ops (Code.p1 (Code.p2 (Code.p2 (Code.p2 (Code.p2 (Code.p2 (Code.p2 (Code.p2 (Code.p2 (Code.p2 (Code.p2 (codeOf Try.f8))))))))))))) 9 K101 [(10, newP h_56), (12, strA t77), (13, newP h_91), (87, .bool t87)] [] h_105 := by
       intro t87 h_105 z
       rw [e106] at z
       refine oA 88 (.bool t87) ?_
       obtain ⟨j103, e109, z⟩ := lS z
       have J110 : ∀ (t103 : Bool) (h_108 : AHeap), j103 t103 h_108 = some (rR, hR) → WL Pg w0 m0 (Func.ntmps Try.f8) (Code.ops (Code.p1 (Code.p2 (Code.p2 (Code.p2 (Code.p2 (Code.p2 (Code.p2 (Code.p2 (Code.p2 (Code.p2 (Code.p2 (codeOf Try.f8))))))))))))) 25 K101 [(103, .bool t103)] [] h_108 := by
        intro t103 h_108 z
        rw [e109] at z
        refine oA 4 (.bool t103) ?_
        refine oV [(4, .bool t103)] (n101 (oY ?_))
        exact lZ z [.tmp 4] [.bool t103] (rT res_nil)
       cases t87 with
       | true =>
        replace z := ifB_t z
        refine oA 89 (AV.ptr (AHeap.next h_56) 0) ?_
        refine oLi 90 3 z fun t90 z => ?_
        refine oB 91 z fun t91 z => ?_
        refine oA 92 (.bool t91) ?_
        obtain ⟨j102, e115, z⟩ := lS z
        have J116 : ∀ (t102 : Bool) (h_114 : AHeap), j102 t102 h_114 = some (rR, hR) → WL Pg w0 m0 (Func.ntmps Try.f8) (Code.ops (Code.p1 (Code.p2 (Code.p2 (Code.p2 (Code.p2 (Code.p2 (Code.p2 (Code.p2 (Code.p2 (Code.p2 (Code.p2 (codeOf Try.f8))))))))))))) 24 K101 [(88, .bool true), (102, .bool t102)] [] h_114 := by
         intro t102 h_114 z
         rw [e115] at z
         refine oA 103 (.bool t102) ?_
         exact lW _ (J110 _ _ z)
        cases t91 with
        | true =>
         replace z := ifB_t z
         refine WL.o (some 93) ?_
         refine WL.o (some 94) ?_
         refine WL.o (some 95) ?_
         refine WL.o (some 96) ?_
         refine WL.o (some 97) ?_
         refine WL.o (some 98) ?_
         refine WL.o (some 99) ?_
         refine WL.o (some 100) ?_
         refine WL.o (some 101) ?_
         refine oA 102 (.bool true) ?_
         exact lW _ (J116 _ _ z)
        | false =>
         replace z := ifB_f z
         refine oA 93 (strA t77) ?_
         refine oA 94 (AV.ptr (AHeap.next h_56) 1) ?_
         refine oLs 95 9 z fun t95 z => ?_
         refine oB 96 z fun t96 z => ?_
         refine oA 97 (.bool t96) ?_
         obtain ⟨j101, e121, z⟩ := lS z
         have J122 : ∀ (t101 : Bool) (h_120 : AHeap), j101 t101 h_120 = some (rR, hR) → WL Pg w0 m0 (Func.ntmps Try.f8) (Code.ops (Code.p1 (Code.p2 (Code.p2 (Code.p2 (Code.p2 (Code.p2 (Code.p2 (Code.p2 (Code.p2 (Code.p2 (Code.p2 (codeOf Try.f8))))))))))))) 23 K101 [(88, .bool true), (92, .bool false), (101, .bool t101)] [] h_120 := by
          intro t101 h_120 z
          rw [e121] at z
          refine oA 102 (.bool t101) ?_
          exact lW _ (J116 _ _ z)
         cases t96 with
         | true =>
          replace z := ifB_t z
          refine oR 98 27 z fun t98 z => ?_
          refine oA 99 (.agg ([.int .i64 0, .int .i64 0] : List AV)) ?_
          obtain ⟨t100, e124, z⟩ := oS z
          refine WL.b (some 100) (.bool t100) h_105 (eq_other (P := Pg) (h := h_105) (t := 27) (lit := false) (by kernel_rfl) e124) ?_
          refine oA 101 (.bool t100) ?_
          exact lW _ (J122 _ _ z)
         | false =>
          replace z := ifB_f z
          refine WL.o (some 98) ?_
          refine WL.o (some 99) ?_
          refine WL.o (some 100) ?_
          refine oA 101 (.bool false) ?_
          exact lW _ (J122 _ _ z)
       | false =>
        replace z := ifB_f z
        refine WL.o (some 89) ?_
        refine WL.o (some 90) ?_
        refine WL.o (some 91) ?_
        refine WL.o (some 92) ?_
        refine WL.o (some 93) ?_
        refine WL.o (some 94) ?_
        refine WL.o (some 95) ?_
        refine WL.o (some 96) ?_
        refine WL.o (some 97) ?_
        refine WL.o (some 98) ?_
        refine WL.o (some 99) ?_
        refine WL.o (some 100) ?_
        refine WL.o (some 101) ?_
        refine WL.o (some 102) ?_
        refine oA 103 (.bool false) ?_
        exact lW _ (J110 _ _ z)
      cases t81 with
      | true =>
       replace z := ifB_t z
       refine oR 83 35 z fun t83 z => ?_
       refine oCs hc 84 z fun t84 h_126 z => ?_
       refine oA 85 (strA t1) ?_
       refine oB 86 z fun t86 z => ?_
       refine oA 87 (.bool t86) ?_
       exact lW _ (J107 _ _ z)
      | false =>
       replace z := ifB_f z
       refine WL.o (some 83) ?_
       refine WL.o (some 84) ?_
       refine WL.o (some 85) ?_
       refine WL.o (some 86) ?_
       refine oA 87 (.bool false) ?_
       exact lW _ (J107 _ _ z)
    cases t37 with
    | true =>
     refine oT z fun z => ?_
     refine oG fun n130 => W.r ?_
     refine oA 39 (strA t29) ?_
     refine oC hc (some 40) z fun r40 h_131 z => ?_
     refine oA 38 r40 ?_
     refine oEa 41 z fun t41 z => ?_
     refine oEa 42 z fun t42 z => ?_
     refine oN 8 z fun h_137 z => ?_
     refine oN 9 z fun h_139 z => ?_
     refine oW 35 (.agg t41) z fun h_141 z => ?_
     refine oW 27 (.agg t42) z fun h_143 z => ?_
     refine oV [(1, strA t1), (2, v2), (8, newP h_131), (9, newP h_137)] (n130 ?_)
     refine W.s (fun K145 n145 _ _ _ => ?_)
     refine W.r ?_
     refine oR 43 35 z fun t43 z => ?_
     refine oR 44 35 z fun t44 z => ?_
     obtain ⟨t45, e148, z⟩ := oS z
     obtain ⟨t45_149, e150, z⟩ := lS z
     refine WL.val (d := (some 45)) (v := .bool t45_149) (h' := h_143) (by kernel_rfl) (by kernel_rfl) (val_of AV.bool e150 (Eq.trans (by kernel_rfl) (neq_other (P := Pg) (h := h_143) (t := 35) (lit := false) (by kernel_rfl) e148))) ?_
     refine oA 46 (.bool t45_149) ?_
     obtain ⟨j50, e152, z⟩ := lS z
     have J153 : ∀ (t50 : Bool) (h_151 : AHeap), j50 t50 h_151 = some (rR, hR) → WL Pg w0 m0 (Func.ntmps Try.f8) (Code.ops (Code.p1 (Code.p2 (Code.p1 (Code.p2 (Code.p1 (Code.p2 (Code.p2 (Code.p2 (Code.p2 (Code.p2 (Code.p2 (codeOf Try.f8))))))))))))) 8 K145 [(1, strA t1), (50, .bool t50)] [] h_151 := by
      intro t50 h_151 z
      rw [e152] at z
      refine oV [(1, strA t1), (50, .bool t50)] (n145 ?_)
      cases t50 with
      | true =>
       refine oT z fun z => ?_
       refine oG fun n154 => W.r ?_
       refine oA 4 (.bool false) ?_
       refine oV [(4, .bool false)] (n154 (oY (q50 ?_)))
       exact lZ z [.tmp 4] [.bool false] (rT res_nil)
      | false =>
       refine oU z fun z => ?_
       refine oZ ?_
       exact gW _ (J53 _ z)
     cases t45_149 with
     | true =>
      replace z := ifB_t z
      refine WL.o (some 47) ?_
      refine WL.o (some 48) ?_
      refine WL.o (some 49) ?_
      refine oA 50 (.bool true) ?_
      exact lW _ (J153 _ _ z)
     | false =>
      replace z := ifB_f z
      refine oR 47 27 z fun t47 z => ?_
      refine oA 48 (.agg ([.int .i64 0, .int .i64 0] : List AV)) ?_
      obtain ⟨t49, e156, z⟩ := oS z
      obtain ⟨t49_157, e158, z⟩ := lS z
      refine WL.val (d := (some 49)) (v := .bool t49_157) (h' := h_143) (by kernel_rfl) (by kernel_rfl) (val_of AV.bool e158 (Eq.trans (by kernel_rfl) (neq_other (P := Pg) (h := h_143) (t := 27) (lit := false) (by kernel_rfl) e156))) ?_
      refine oA 50 (.bool t49_157) ?_
      exact lW _ (J153 _ _ z)
    | false =>
     refine oU z fun z => ?_
     refine oZ ?_
     exact gW _ (J53 _ z)
theorem worksK_w (n d : Nat) (h : AHeap) : world n (d + 1) 13 [] h = some (.ret (.bool true), h) := by kernel_rfl
theorem flatSpotK : flatB Try.prog TSpot [1, 1] = true := by kernel_rfl
theorem eqSpotK (a b c d : Int) : eqOther Try.prog TSpot (.agg [.int .i64 a, .int .i64 b]) (.agg [.int .i64 c, .int .i64 d]) = some ((a == c) && ((b == d) && true)) := eq_flat flatSpotK (eqL_cons rfl (eqCell_int _ _ _) (eqL_cons rfl (eqCell_int _ _ _) rfl))
theorem eqSpotS (a b : Int) : eqOther Try.prog TSpot (.agg [.int .i64 a, .int .i64 b]) (.agg [.int .i64 a, .int .i64 b]) = some true := by rw [eqSpotK]; simp
set_option maxRecDepth 100000 in
theorem pat_of {N : Nat} {h : AHeap} {x : AV} (hp : ArgP Try.prog N h 12 35 x) : ∃ (k : Int) (u : Bytes), x = .agg [.int .i64 k, strA u] ∧ u.length ≤ reachBytes := by
 obtain ⟨l, rfl, hpl⟩ := hp.agg (by kernel_rfl)
 obtain ⟨y1, y2, rfl, p1, p2⟩ := hpl.struct2 Try.underlying35
 obtain ⟨k, rfl, _⟩ := p1.int Try.underlying3
 obtain ⟨u, rfl, hu⟩ := p2.str Try.underlying9
 exact ⟨k, u, rfl, hu⟩
theorem un8 {m : Nat} {a : UInt8} (h : m = a.toNat) : UInt8.ofNat m = a := by
 subst h
 exact UInt8.ofNat_toNat
section
variable {u : Bytes} {p q a : Nat} {k m : Int} {t : Bytes}
theorem take_one {c : Nat} (h : at? u p = some c) : (u.drop p).take 1 = [UInt8.ofNat c] := by
 obtain ⟨hp, e⟩ := at?_some h
 rw [List.drop_eq_getElem_cons hp, List.take_succ_cons, List.take_zero, ← e]
 simp
theorem scan_quote {mm : Int} : ∀ (f p : Nat) (acc : Bytes) {l : Bytes} {q : Nat}, scanQ u mm f p acc = .ok l q → ∃ mid, l = acc ++ mid ∧ p < q ∧ q ≤ u.length ∧ (u.drop p).take (q - p) = (mid.flatMap fun a => signB a.toNat) ++ [34]
 | 0, p, acc, l, q, hh => by rw [scanQ] at hh; cases hh
 | f + 1, p, acc, l, q, hh => by
  rw [scanQ] at hh
  split at hh
  ·rename_i h34
   cases hh
   obtain ⟨hp, _⟩ := at?_some h34
   refine ⟨[], by simp, by omega, by omega, ?_⟩
   rw [Nat.add_sub_cancel_left, take_one h34]
   rfl
  ·split at hh
   ·cases hh
   ·cases hF : formAt u p with
    | bad q' => rw [hF] at hh; cases hh
    | ok c q' =>
     rw [hF] at hh
     obtain ⟨mid, h1, h2, h3, h4⟩ := scan_quote f q' _ hh
     obtain ⟨hc, hpq, hqu⟩ := formAt_ok hF
     rw [formAt_W] at hF
     cases hW : formW (u.drop p) with
     | bad k => rw [hW] at hF; cases hF
     | ok c' k =>
      rw [hW] at hF
      simp only [shiftF, FR.ok.injEq] at hF
      obtain ⟨rfl, rfl⟩ := hF
      obtain ⟨_, hk, r, hr⟩ := formW_ok hW
      refine ⟨UInt8.ofNat c' :: mid, by rw [h1]; simp, by omega, h3, ?_⟩
      have e1 : u.drop (p + k) = r := by
       rw [← List.drop_drop, hr, hk]
       simp
      rw [e1] at h4
      rw [hr, show q - p = (signB c').length + (q - (p + k)) by omega, List.take_length_add_append, h4, List.flatMap_cons, ofNat_toNat hc, List.append_assoc]
end
theorem drop_cons' {α : Type} {K m : List α} {c : α} {i : Nat} (d : K.drop i = c :: m) : ∃ hi : i < K.length, K[i] = c ∧ K.drop (i + 1) = m := by
 have hi : i < K.length := by
  have := congrArg List.length d
  rw [List.length_drop, List.length_cons] at this
  omega
 have g := List.drop_eq_getElem_cons hi
 rw [d] at g
 simp only [List.cons.injEq] at g
 exact ⟨hi, g.1.symm, g.2.symm⟩
theorem drop_nil' {α : Type} {K : List α} {i : Nat} (d : K.drop i = []) : K.length ≤ i := by
 have := congrArg List.length d
 rw [List.length_drop, List.length_nil] at this
 omega
def quotedP (u : Bytes) (p : Nat) : QR := if at? u p = some 34 then scanQ u (-1) (u.length + 1) (p + 1) [] else .bad 6 p
theorem quotedP_text {u : Bytes} {p : Nat} {l : Bytes} {q : Nat} (h : quotedP u p = .ok l q) : (u.drop p).take (q - p) = quoteB l ∧ q ≤ u.length ∧ p + 2 ≤ q := by
 unfold quotedP at h
 split at h
 ·rename_i h34
  obtain ⟨mid, h1, h2, h3, h4⟩ := scan_quote _ _ _ h
  refine ⟨?_, h3, by omega⟩
  rw [List.nil_append] at h1
  subst h1
  obtain ⟨hp, e⟩ := at?_some h34
  unfold quoteB
  rw [List.cons_append, ← h4, List.drop_eq_getElem_cons hp, show q - p = (q - (p + 1)) + 1 by omega, List.take_succ_cons]
  congr 1
  have := un8 e.symm
  rw [← this]
  rfl
 ·cases h
theorem quotedP_len {u : Bytes} {p : Nat} {l : Bytes} {q : Nat} (h : quotedP u p = .ok l q) : q = p + (quoteB l).length := by
 obtain ⟨h1, h2, h3⟩ := quotedP_text h
 have := congrArg List.length h1
 rw [List.length_take, List.length_drop] at this
 omega
section
variable {n d b p : Nat} {h : AHeap} {u : Bytes} {Q : ARes → AHeap → Prop}
theorem quotedP_r (k : Rd h b u p) (hb : b < h.next) (hp : p ≤ u.length) (hu : u.length ≤ 1000000) (hn : u.length + 20 < n) (hxB : memB TBld h.ex = true) (hx8 : memB TU8 h.ex = false) : Step b u h (world n (d + 6) 37 [.ptr b 0, .int .i64 (-1)] h) (match quotedP u p with
  | .ok l q => .ok (strA l, q)
  | .bad e q => .error (e, q)) := by
 have ht := take_r (n := n) (d := d + 1) k hb hp hu 34
 unfold quotedP
 by_cases hq : at? u p = some 34
 case neg =>
  rw [if_neg hq] at ht
  rw [if_neg hq]
  refine Step.err_of ?_
  rw [w_pattern_reader_quoted]
  unfold pattern_reader_quoted
  exact Wp.stepE ht fun h' p' k1 k2 => ⟨rfl, p', k1, k2⟩
 rw [if_pos hq] at ht
 rw [if_pos hq]
 obtain ⟨hpl, _⟩ := at?_some hq
 have main : ∀ Q : ARes → AHeap → Prop, (∀ l q h', scanQ u (-1) (u.length + 1) (p + 1) [] = .ok l q → Rd h' b u q → Tch [b] h h' → Q (.ret (strA l)) h') → (∀ e q p' h', scanQ u (-1) (u.length + 1) (p + 1) [] = .bad e q → Rd h' b u p' → Tch [b] h h' → Q (.panic (PanA e q)) h') → Wp (world n (d + 6) 37 [.ptr b 0, .int .i64 (-1)] h) Q := by
  intro Q h1 h2
  rw [w_pattern_reader_quoted]
  unfold pattern_reader_quoted
  refine Wp.stepK ht fun h3 k3 t3 => ?_
  have n3 := t3.1
  have tN : Tch [] h3 (newH h3 TBld [.nilp, .nsl]) := Tch.newH _ _ _ _
  have B0 := BldR.new TBld TU8 h3
  have nN := next_newH h3 TBld [.nilp, .nsl]
  have k4 := k3.tch tN (by omega) (by simp)
  ((with_reducible refine Wp.lett ?_))
  generalize newH h3 TBld [.nilp, .nsl] = h4 at *
  ((with_reducible refine Wp.join0 (fun _ _ => ?_)))
  rename_i k10 hk10
  have tb : ∀ {h' : AHeap}, Tch [b, h3.next] h4 h' → Tch [b] h h' := fun t => (t3.trans (tN.mono (by simp))).trans' t (by intro x hx; simp only [List.mem_cons, List.not_mem_nil, or_false] at hx ⊢; omega)
  refine quoted_loop (newP_eq h3) (H0 := h4) (by omega) (by omega) (by omega) hu (by omega) (by rw [tN.2.1, t3.2.1]; exact hxB) (by rw [tN.2.1, t3.2.1]; exact hx8) (u.length + 1) n (p + 1) h3.next [] h4 (by omega) (by omega) (by omega) (by simp) k4 B0 (.inl rfl) (Tch.refl _ _) ?_ ?_
  ·intro l q c' H' hsc hl k5 B5 hc5 t5
   obtain ⟨h6, e6, t6⟩ := string_r (n := n) (d := d + 4) B5 (by omega)
   have hbc : b ≠ c' := by omega
   repeat (first | ((with_reducible apply Wp.obind); (with_reducible exact avStr_str _)) | ((with_reducible apply Wp.callN); (with_reducible assumption)) | (with_reducible refine Wp.go0 (by assumption) ?_) | rw [newP_eq])
   refine Wp.ret (h1 l q h6 hsc (k5.tch t6 (lt_tch (tb t5) hb) (by simp; omega)) ?_)
   exact (tb t5).trans' t6 (by intro x hx; simp only [List.mem_cons, List.not_mem_nil, or_false] at hx ⊢; omega)
  ·intro e q p' H' hsc k5 t5
   exact h2 e q p' H' hsc k5 (tb t5)
 cases hsc : scanQ u (-1) (u.length + 1) (p + 1) [] with
 | ok l q =>
  rw [hsc] at main
  refine Step.ok_of (main _ (fun l' q' h' e k1 k2 => ?_) (fun e q p' h' hh => by cases hh))
  cases e
  exact ⟨rfl, k1, k2⟩
 | bad e q =>
  rw [hsc] at main
  refine Step.err_of (main _ (fun l' q' h' e k1 k2 => by cases e) (fun e q p' h' hh k1 k2 => ?_))
  cases hh
  exact ⟨rfl, p', k1, k2⟩
def wGlob : Bytes := [103, 108, 111, 98, 32]
def wRe : Bytes := [114, 101, 32]
def wordQ (u : Bytes) : Except Nat (Int × Nat) := if at? u 0 = some 103 then (if lcpN wGlob u = 5 then .ok (2, 5) else .error (lcpN wGlob u)) else if at? u 0 = some 114 then (if lcpN wRe u = 3 then .ok (3, 3) else .error (lcpN wRe u)) else .ok (1, 0)
theorem word_loop {w : Bytes} {k3 : AHeap → R} {H0 : AHeap} (hb : b < H0.next) (hu : u.length ≤ 1000000) (hw : w.length ≤ 10) : ∀ (rest : Bytes) (i f : Nat) (H : AHeap), w.drop i = rest → i ≤ u.length → rest.length < f → Rd H b u i → Tch [b] H0 H →
  (lcpN rest (u.drop i) = rest.length → i + rest.length ≤ u.length → ∀ H', Rd H' b u (i + rest.length) → Tch [b] H0 H' → Wp (k3 H') Q) → (lcpN rest (u.drop i) < rest.length → ∀ p' H', Rd H' b u p' → Tch [b] H0 H' → Q (.panic (PanA 6 (i + lcpN rest (u.drop i)))) H') →
  Wp (pattern_reader_word_L0 (world n (d + 4)) (.ptr b 0) w k3 f (i : Int) H) Q
 | _, _, 0, _, _, _, hf, _, _, _, _ => by omega
 | [], i, f + 1, H, d1, hi, hf, k, t, hok, hbad => by
  rw [pattern_reader_word_L0_s]
  unfold pattern_reader_word_L0b
  have := drop_nil' d1
  have ll := lenS_nat w
  repeat (first | (with_reducible refine Wp.lett ?_) | ((with_reducible refine Wp.iff ?_ ?_); ((with_reducible apply decide_eq_false); omega)))
  exact hok (by cases u.drop i <;> rfl) (by simpa using hi) H k t
 | c :: rest, i, f + 1, H, d1, hi, hf, k, t, hok, hbad => by
  rw [pattern_reader_word_L0_s]
  unfold pattern_reader_word_L0b
  obtain ⟨hi1, hc, d2⟩ := drop_cons' d1
  have ll := lenS_nat w
  have hx := idxS_nat (l := w) hi1
  have n0 := t.1
  have ht := take_r (n := n) (d := d) k (by omega) hi hu (w[i]).toNat
  by_cases hat : at? u i = some (w[i]).toNat
  ·rw [if_pos hat] at ht
   obtain ⟨hp, hpc⟩ := at?_some hat
   have hcc : c = u[i] := by
    rw [← hc]
    exact UInt8.toNat_inj.1 hpc.symm
   have hl : lcpN (c :: rest) (u.drop i) = lcpN rest (u.drop (i + 1)) + 1 := by
    rw [List.drop_eq_getElem_cons hp, lcpN, if_pos hcc]
   rw [hl, List.length_cons] at hok hbad
   rw [List.length_cons] at hf
   repeat (first | (with_reducible refine Wp.lett ?_) | ((with_reducible apply Wp.obind); (with_reducible exact hx)) | ((with_reducible refine Wp.ift ?_ ?_); ((with_reducible apply decide_eq_true); omega)))
   refine Wp.stepK ht fun h1 k1 t1 => ?_
   repeat (((with_reducible refine Wp.lettw ?_ ?_ ?_); omega; omega))
   rw [show (i : Int) + 1 = ((i + 1 : Nat) : Int) by omega]
   refine word_loop hb hu hw rest (i + 1) f h1 d2 (by omega) (by omega) k1 (t.trans t1) (fun e1 e2 H' k2 t2 => ?_) fun e1 p' H' k2 t2 => ?_
   ·refine hok (by omega) (by omega) H' ?_ t2
    rw [show i + (rest.length + 1) = i + 1 + rest.length by omega]
    exact k2
   ·have := hbad (by omega) p' H' k2 t2
    rw [show i + (lcpN rest (u.drop (i + 1)) + 1) = i + 1 + lcpN rest (u.drop (i + 1)) by omega] at this
    exact this
  ·rw [if_neg hat] at ht
   have hl : lcpN (c :: rest) (u.drop i) = 0 := by
    by_cases hp : i < u.length
    ·rw [List.drop_eq_getElem_cons hp, lcpN, if_neg]
     intro hh
     apply hat
     rw [at?_lt hp, hc, hh]
    ·rw [List.drop_eq_nil_of_le (by omega)]
     rfl
   rw [hl, Nat.add_zero] at hbad
   repeat (first | (with_reducible refine Wp.lett ?_) | ((with_reducible apply Wp.obind); (with_reducible exact hx)) | ((with_reducible refine Wp.ift ?_ ?_); ((with_reducible apply decide_eq_true); omega)))
   exact Wp.stepE ht fun h1 p1 k1 t1 => hbad (by simp) p1 h1 k1 (t.trans t1)
theorem word_r (k : Rd h b u 0) (hb : b < h.next) (hu : u.length ≤ 1000000) {w : Bytes} (hw : w.length ≤ 10) (hn : 20 < n) : Step b u h (world n (d + 5) 69 [.ptr b 0, strA w] h) (if lcpN w u = w.length then .ok (.tup [], w.length) else .error (6, lcpN w u)) := by
 have main : ∀ Q : ARes → AHeap → Prop, (lcpN w u = w.length → ∀ H', Rd H' b u w.length → Tch [b] h H' → Q (.ret (.tup [])) H') → (lcpN w u < w.length → ∀ p' H', Rd H' b u p' → Tch [b] h H' → Q (.panic (PanA 6 (lcpN w u))) H') → Wp (world n (d + 5) 69 [.ptr b 0, strA w] h) Q := by
  intro Q h1 h2
  rw [w_pattern_reader_word]
  unfold pattern_reader_word
  ((with_reducible refine Wp.join0 (fun _ _ => ?_)))
  rename_i k3 ek3
  refine word_loop (i := 0) hb hu hw w n h List.drop_zero (Nat.zero_le _) (by omega) k (Tch.refl _ _) (fun e1 _ H' k2 t2 => ?_) fun e1 p' H' k2 t2 => ?_
  ·refine Wp.go0 ek3 ?_
   rw [Nat.zero_add] at k2
   exact Wp.ret (h1 (by simpa using e1) H' k2 t2)
  ·have := h2 (by simpa using e1) p' H' k2 t2
   simpa using this
 have hle := (lcpN_le w u).1
 by_cases he : lcpN w u = w.length
 ·rw [if_pos he]
  exact Step.ok_of (main _ (fun _ H' k2 t2 => ⟨rfl, k2, t2⟩) fun e1 => by omega)
 ·rw [if_neg he]
  exact Step.err_of (main _ (fun e1 => absurd e1 he) fun e1 p' H' k2 t2 => ⟨rfl, p', k2, t2⟩)
end
abbrev TPat : Nat := 35
abbrev TInt : Nat := 3
def patQ (u : Bytes) : Except (Int × Nat) ((Int × Bytes × Nat) × Nat) := match wordQ u with
 | .error q => .error (6, q)
 | .ok (k, s) => match quotedP u s with
  | .bad e q => .error (e, q)
  | .ok l q => if q = u.length then .ok ((k, l, s), q) else .error (6, q)
theorem dynP (call : CallF) (a b c : Nat) (h : AHeap) : dynC Try.prog call (AV.fn 44 [] [.ptr a 0, .ptr b 0, .ptr c 0]) [] h = call 44 [.ptr a 0, .ptr b 0, .ptr c 0] h := by
 have e : callV Try.prog h [] (some (AV.fn 44 [] [.ptr a 0, .ptr b 0, .ptr c 0])) = some (.call 44 [.ptr a 0, .ptr b 0, .ptr c 0], h) := by kernel_rfl
 unfold dynC
 rw [e]
theorem idx_glob : idxS ([103, 108, 111, 98, 32] : Bytes) 0 = some 103 := rfl
theorem idx_re : idxS ([114, 101, 32] : Bytes) 0 = some 114 := rfl
theorem wordQ_pos {u : Bytes} {k : Int} {s : Nat} (h : wordQ u = .ok (k, s)) : (k = 1 ∨ k = 2 ∨ k = 3) ∧ s ≤ u.length := by
 unfold wordQ at h
 have h1 := (lcpN_le wGlob u).2
 have h2 := (lcpN_le wRe u).2
 split at h
 ·split at h
  ·cases h
   exact ⟨by decide, by omega⟩
  ·cases h
 ·split at h
  ·split at h
   ·cases h
    exact ⟨by decide, by omega⟩
   ·cases h
  ·cases h
   exact ⟨by decide, Nat.zero_le _⟩
theorem scan6 {u : Bytes} : ∀ (fuel p : Nat) (acc : Bytes) {e : Int} {q : Nat}, scanQ u (-1) fuel p acc = .bad e q → e = 6
 | 0, p, acc, e, q, hh => by
  rw [scanQ] at hh
  cases hh
  rfl
 | fuel + 1, p, acc, e, q, hh => by
  rw [scanQ] at hh
  split at hh
  ·cases hh
  ·split at hh
   ·omega
   ·split at hh
    ·exact scan6 fuel _ _ hh
    ·cases hh
     rfl
section
variable {n d b p : Nat} {h h0 : AHeap} {u : Bytes} {Q : ARes → AHeap → Prop} {S : List Nat} {xs : List RowT}
theorem pat_rest {c0 : List AV} {k : Int} {s : Nat} {k14 : AHeap → R} {H : AHeap} (ek : k14 = fun h_15 =>
  obind (nilC (.ptr b 0)) fun t20 =>
  obind (fldP 1 t20) fun t21 =>
  obind (ldCell h_15 t21) fun v22 =>
  obind (avInt .i64 v22) fun t22 =>
  callK (world n (d + 6) 37 [.ptr b 0, .int .i64 (-1)] h_15) fun r24 h_22 =>
  obind (avStr r24) fun t24 =>
  obind (stRow h_22 1 [strA t24] (AV.ptr (AHeap.next h) 1)) fun h_25 =>
  callK (world n (d + 6) 62 [.ptr b 0] h_25) fun _ h_28 =>
  obind (ldRow h_28 2 (newP h)) fun t28 =>
  obind (stRow h_28 2 t28 (newP h)) fun h_32 =>
  obind (ldRow h_32 2 (newP h)) fun w2 =>
  some (.ret (.tup [.agg w2, .int .i64 t22]), h_32)) (hu : u.length ≤ 1000000) (hn : u.length + 20 < n) (hxB : memB TBld h.ex = true) (hx8 : memB TU8 h.ex = false) (hs : s ≤ u.length) (ec : c0 = [.int .i64 k, strA []]) (M : Mem [b] h H ((b, TRd, rdP u s) :: (h.next, TPat, c0) :: []))
  (hok : ∀ l H', quotedP u s = .ok l u.length → Rd H' b u u.length → Tch [b] h H' → Q (.ret (.tup [.agg [.int .i64 k, strA l], .int .i64 (s : Int)])) H')
  (hbad : ∀ q p H', (quotedP u s = .bad 6 q ∨ ∃ l, quotedP u s = .ok l q ∧ q ≠ u.length) → Rd H' b u p → Tch [b] h H' → Q (.panic (PanA 6 q)) H') : Wp (k14 H) Q := by
 subst ek
 subst ec
 have hq := quotedP_r (n := n) (d := d) M.at0.1 M.at0.2.1 hs hu hn (by rw [M.ex]; exact hxB) (by rw [M.ex]; exact hx8)
 have k0 : RowH H b TRd [strA u, .int .i64 (s : Int)] := M.at0.1
 repeat (first | ((with_reducible apply Wp.obind); first | (with_reducible first | exact avInt_int _ _ | exact nilC_ptr _ _ | exact fldP_ptr _ _ _) | ((with_reducible apply RowH.cell'); (with_reducible assumption); rfl)) | rw [newP_eq])
 clear k0
 cases hs : quotedP u s with
 | bad e q =>
  rw [hs] at hq
  have he : e = 6 := by
   unfold quotedP at hs
   split at hs
   ·exact scan6 _ _ _ hs
   ·cases hs
    rfl
  subst he
  exact Wp.rdE hq M fun h' p k1 t1 => hbad q p h' (.inl hs) k1 t1
 | ok l q =>
  rw [hs] at hq
  refine Wp.rdK hq M fun h1 M1 => ?_
  repeat (((with_reducible apply Wp.obind); (with_reducible exact avStr_str _)))
  refine Wp.ms1 M1 (Nat.le_of_ble_eq_true rfl) rfl fun h2 M2 => ?_
  by_cases hl : q = u.length
  ·subst hl
   have he := end_r (n := n) (d := d + 4) M2.at0.1 rfl
   repeat (((with_reducible apply Wp.callK); (with_reducible assumption)))
   refine Wp.lr1 M2 rfl (Wp.sa1 M2 rfl rfl rfl fun h3 M3 => Wp.lr1 M3 rfl ?_)
   exact Wp.ret (hok l h3 hs M3.at0.1 M3.tch)
  ·have he := end_bad (n := n) (d := d + 4) M2.at0.1 hl
   exact Wp.callP he (hbad q q h2 (.inr ⟨l, hs, hl⟩) M2.at0.1 M2.tch)
theorem pattern_r (k0 : Rd h b u 0) (hb : b < h.next) (hu : u.length ≤ 1000000) (hn : u.length + 20 < n) (hxB : memB TBld h.ex = true) (hx8 : memB TU8 h.ex = false) : Step b u h (world n (d + 7) 45 [.ptr b 0] h) (match patQ u with
  | .error e => .error e
  | .ok ((k, l, s), q) => .ok (.tup [.agg [.int .i64 k, strA l], .int .i64 (s : Int)], q)) := by
 have main : ∀ Q : ARes → AHeap → Prop, (∀ k l s H', patQ u = .ok ((k, l, s), u.length) → Rd H' b u u.length → Tch [b] h H' → Q (.ret (.tup [.agg [.int .i64 k, strA l], .int .i64 ((s : Nat) : Int)])) H') → (∀ e q p H', patQ u = .error (e, q) → Rd H' b u p → Tch [b] h H' → Q (.panic (PanA e q)) H') → Wp (world n (d + 7) 45 [.ptr b 0] h) Q := by
  intro Q hok hbad
  have fin : ∀ {k : Int} {s : Nat} (_ : wordQ u = .ok (k, s)), (∀ l H', quotedP u s = .ok l u.length → Rd H' b u u.length → Tch [b] h H' → Q (.ret (.tup [.agg [.int .i64 k, strA l], .int .i64 (s : Int)])) H') ∧ (∀ q p H', (quotedP u s = .bad 6 q ∨ ∃ l, quotedP u s = .ok l q ∧ q ≠ u.length) → Rd H' b u p → Tch [b] h H' → Q (.panic (PanA 6 q)) H') := by
   intro k s hw
   refine ⟨fun l H' hs k1 t1 => hok k l s H' ?_ k1 t1, fun q p H' hs k1 t1 => hbad 6 q p H' ?_ k1 t1⟩
   ·unfold patQ
    rw [hw]
    dsimp only
    rw [hs]
    dsimp only
    rw [if_pos rfl]
   ·unfold patQ
    rw [hw]
    dsimp only
    rcases hs with hs | ⟨l, hs, hq⟩
    ·rw [hs]
    ·rw [hs]
     dsimp only
     rw [if_neg hq]
  rw [w_pattern_reader_pattern]
  unfold pattern_reader_pattern
  refine Wp.mnew (Mem.one k0 hb) fun h1 Mx => ?_
  have M1 := Mx.swap
  refine Wp.ms1 M1 (Nat.le_of_ble_eq_true rfl) rfl fun h2 M2 => ?_
  refine Wp.obind idx_glob ?_
  have hg : world n (d + 6) 68 [.ptr b 0, .int .u8 103] h2 = some (.ret (.bool (decide (at? u 0 = some 103))), h2) := sees_r (n := n) (d := d + 4) M2.at0.1 (Nat.zero_le _) 103
  refine Wp.callN hg (Wp.obind (avBool_bool _) ?_)
  refine Wp.join0 fun k14 ek14 => ?_
  by_cases h103 : at? u 0 = some 103
  ·refine Wp.ift (decide_eq_true h103) ?_
   refine Wp.ms1 M2 (Nat.le_of_ble_eq_true rfl) rfl fun h3 M3 => ?_
   have hwr := word_r (n := n) (d := d + 1) M3.at0.1 M3.at0.2.1 hu (w := wGlob) (by decide) (by omega)
   rw [show wGlob.length = 5 from rfl] at hwr
   by_cases hl : lcpN wGlob u = 5
   ·have hw : wordQ u = .ok (2, 5) := by
     unfold wordQ
     rw [if_pos h103, if_pos hl]
    obtain ⟨_, hs⟩ := wordQ_pos hw
    rw [if_pos hl] at hwr
    refine Wp.rdK hwr M3 fun h4 M4 => ?_
    exact pat_rest ek14 hu hn hxB hx8 hs rfl M4 (fin hw).1 (fin hw).2
   ·have hw : wordQ u = .error (lcpN wGlob u) := by
     unfold wordQ
     rw [if_pos h103, if_neg hl]
    rw [if_neg hl] at hwr
    refine Wp.rdE hwr M3 fun h' p k1 t1 => hbad 6 _ p h' ?_ k1 t1
    unfold patQ
    rw [hw]
  ·refine Wp.iff (decide_eq_false h103) ?_
   refine Wp.obind idx_re ?_
   have hr : world n (d + 6) 68 [.ptr b 0, .int .u8 114] h2 = some (.ret (.bool (decide (at? u 0 = some 114))), h2) := sees_r (n := n) (d := d + 4) M2.at0.1 (Nat.zero_le _) 114
   refine Wp.callN hr (Wp.obind (avBool_bool _) ?_)
   refine Wp.join0 fun k48 ek48 => ?_
   by_cases h114 : at? u 0 = some 114
   ·refine Wp.ift (decide_eq_true h114) ?_
    refine Wp.ms1 M2 (Nat.le_of_ble_eq_true rfl) rfl fun h3 M3 => ?_
    have hwr := word_r (n := n) (d := d + 1) M3.at0.1 M3.at0.2.1 hu (w := wRe) (by decide) (by omega)
    rw [show wRe.length = 3 from rfl] at hwr
    by_cases hl : lcpN wRe u = 3
    ·have hw : wordQ u = .ok (3, 3) := by
      unfold wordQ
      rw [if_neg h103, if_pos h114, if_pos hl]
     obtain ⟨_, hs⟩ := wordQ_pos hw
     rw [if_pos hl] at hwr
     refine Wp.rdK hwr M3 fun h4 M4 => ?_
     refine Wp.go0 ek48 ?_
     exact pat_rest ek14 hu hn hxB hx8 hs rfl M4 (fin hw).1 (fin hw).2
    ·have hw : wordQ u = .error (lcpN wRe u) := by
      unfold wordQ
      rw [if_neg h103, if_pos h114, if_neg hl]
     rw [if_neg hl] at hwr
     refine Wp.rdE hwr M3 fun h' p k1 t1 => hbad 6 _ p h' ?_ k1 t1
     unfold patQ
     rw [hw]
   ·refine Wp.iff (decide_eq_false h114) ?_
    have hw : wordQ u = .ok (1, 0) := by
     unfold wordQ
     rw [if_neg h103, if_neg h114]
    refine Wp.go0 ek48 ?_
    exact pat_rest ek14 hu hn hxB hx8 (Nat.zero_le _) rfl M2 (fin hw).1 (fin hw).2
 cases hp : patQ u with
 | error e =>
  obtain ⟨e, q⟩ := e
  rw [hp] at main
  exact Step.err_of (main _ (fun k l s H' hh => by cases hh) fun e' q' p H' hh k1 t1 => by cases hh; exact ⟨rfl, p, k1, t1⟩)
 | ok r =>
  obtain ⟨⟨k, l, s⟩, q⟩ := r
  have hq : q = u.length := by
   unfold patQ at hp
   split at hp
   ·cases hp
   ·split at hp
    ·cases hp
    ·split at hp
     ·cases hp
      assumption
     ·cases hp
  subst hq
  rw [hp] at main
  exact Step.ok_of (main _ (fun k' l' s' H' hh k1 t1 => by cases hh; exact ⟨rfl, k1, t1⟩) fun e' q' p H' hh => by cases hh)
noncomputable abbrev rowsP (pc rd sp pp qc p : Nat) (u : Bytes) (kc : List AV) (qv : Int) : List RowT := [(qc, TInt, [.int .i64 qv]), (pc, TPtr, [.ptr rd 0]), (rd, TRd, rdP u p), (sp, TSpot, [.int .i64 0, .int .i64 0]), (pp, TPat, kc)]
theorem p1_ok {pc rd sp pp qc q s : Nat} {k : Int} {l : Bytes} {kc : List AV} (hk : kc.length = 2) (hp : patQ u = .ok ((k, l, s), q)) (M : Mem S h0 h (rowsP pc rd sp pp qc 0 u kc 0 ++ xs)) (hu : u.length ≤ 1000000) (hn : u.length + 20 < n) (hxB : memB TBld h0.ex = true) (hx8 : memB TU8 h0.ex = false) :
  ∃ h', world n (d + 8) 44 [.ptr pc 0, .ptr pp 0, .ptr qc 0] h = some (.ret (.tup []), h') ∧ Mem S h0 h' (rowsP pc rd sp pp qc q u [.int .i64 k, strA l] s ++ xs) := by
 have Mx : Mem S h0 h ((qc, TInt, [.int .i64 0]) :: (pc, TPtr, [.ptr rd 0]) :: (rd, TRd, rdP u 0) :: (sp, TSpot, [.int .i64 0, .int .i64 0]) :: (pp, TPat, kc) :: xs) := M
 have hs := pattern_r (n := n) (d := d) Mx.at2.1 Mx.at2.2.1 hu hn (by rw [Mx.ex]; exact hxB) (by rw [Mx.ex]; exact hx8)
 rw [hp] at hs
 apply Wp.ex
 rw [w_pattern_Parse_1]
 unfold pattern_Parse_1
 repeat (((with_reducible apply Wp.ld1 Mx); rfl))
 obtain ⟨h1, e1, k1, t1⟩ := hs
 have M1 := Mem.upd (xs := [_, _]) Mx t1 k1
 refine Wp.callK e1 ?_
 clear Mx
 have Mx := M1
 clear M1
 refine Wp.obind (extT_0 _ _) (Wp.obind (avAgg_agg _) (Wp.obind (extT_1 _ _ _) (Wp.obind (avInt_int _ _) ?_)))
 refine Wp.sa4 Mx rfl hk rfl fun h2 M2 => ?_
 refine Wp.sa0 M2 rfl rfl rfl fun h3 M3 => ?_
 exact Wp.ret ⟨rfl, M3⟩
theorem p1_bad {pc rd sp pp qc q : Nat} {e : Int} {kc : List AV} (hp : patQ u = .error (e, q)) (M : Mem S h0 h (rowsP pc rd sp pp qc 0 u kc 0 ++ xs)) (hu : u.length ≤ 1000000) (hn : u.length + 20 < n) (hxB : memB TBld h0.ex = true) (hx8 : memB TU8 h0.ex = false) :
  ∃ h' p, world n (d + 8) 44 [.ptr pc 0, .ptr pp 0, .ptr qc 0] h = some (.panic (PanA e q), h') ∧ Mem S h0 h' (rowsP pc rd sp pp qc p u kc 0 ++ xs) := by
 have Mx : Mem S h0 h ((qc, TInt, [.int .i64 0]) :: (pc, TPtr, [.ptr rd 0]) :: (rd, TRd, rdP u 0) :: (sp, TSpot, [.int .i64 0, .int .i64 0]) :: (pp, TPat, kc) :: xs) := M
 have hs := pattern_r (n := n) (d := d) Mx.at2.1 Mx.at2.2.1 hu hn (by rw [Mx.ex]; exact hxB) (by rw [Mx.ex]; exact hx8)
 rw [hp] at hs
 obtain ⟨h1, p, e1, k1, t1⟩ := hs
 have M1 := Mem.upd (xs := [_, _]) Mx t1 k1
 suffices hK : Wp (world n (d + 8) 44 [.ptr pc 0, .ptr pp 0, .ptr qc 0] h) fun r h' => r = .panic (PanA e q) ∧ Mem S h0 h' (rowsP pc rd sp pp qc p u kc 0 ++ xs) by
  obtain ⟨_, h', e2, rfl, M'⟩ := hK
  exact ⟨h', p, e2, M'⟩
 rw [w_pattern_Parse_1]
 unfold pattern_Parse_1
 repeat (((with_reducible apply Wp.ld1 Mx); rfl))
 exact Wp.callP e1 ⟨rfl, M1⟩
theorem pguard_ok {pc rd sp pp qc q s : Nat} {k : Int} {l : Bytes} {kc : List AV} (hk : kc.length = 2) (hp : patQ u = .ok ((k, l, s), q)) (M : Mem S h0 h (rowsP pc rd sp pp qc 0 u kc 0)) (hu : u.length ≤ 1000000) (hn : u.length + 20 < n) (hxB : memB TBld h0.ex = true) (hx8 : memB TU8 h0.ex = false) :
  ∃ h', world n (d + 9) 35 [AV.fn 44 [] [.ptr pc 0, .ptr pp 0, .ptr qc 0]] h = some (.ret (.agg [.int .i64 0, .int .i64 0]), h') ∧ Mem S h0 h' (rowsP pc rd sp pp qc q u [.int .i64 k, strA l] s) := by
 refine guard_fine M fun h1 M1 => ?_
 have M2 : Mem S h0 h1 (rowsP pc rd sp pp qc 0 u kc 0 ++ [(h.next, TSpot, [.int .i64 0, .int .i64 0])]) := M1.perm (by
  have := List.perm_append_comm (l₁ := [(h.next, TSpot, [AV.int .i64 0, AV.int .i64 0])]) (l₂ := rowsP pc rd sp pp qc 0 u kc 0)
  simpa using this.symm)
 obtain ⟨h2, e2, M3⟩ := p1_ok (n := n) (d := d) hk hp M2 hu hn hxB hx8
 refine ⟨h2, (dynP _ _ _ _ _).trans e2, M3.perm ?_⟩
 have := List.perm_append_comm (l₁ := [(h.next, TSpot, [AV.int .i64 0, AV.int .i64 0])]) (l₂ := rowsP pc rd sp pp qc q u [.int .i64 k, strA l] s)
 simpa using this
theorem pguard_bad {pc rd sp pp qc q : Nat} {e : Int} {kc : List AV} (hp : patQ u = .error (e, q)) (M : Mem S h0 h (rowsP pc rd sp pp qc 0 u kc 0)) (hu : u.length ≤ 1000000) (hn : u.length + 20 < n) (hxB : memB TBld h0.ex = true) (hx8 : memB TU8 h0.ex = false) :
  ∃ h' p, world n (d + 9) 35 [AV.fn 44 [] [.ptr pc 0, .ptr pp 0, .ptr qc 0]] h = some (.ret (.agg [.int .i64 e, .int .i64 (q : Int)]), h') ∧ Mem S h0 h' (rowsP pc rd sp pp qc p u kc 0) := by
 have M2 := M.newH TSpot [.int .i64 0, .int .i64 0]
 have M3 : Mem S h0 (newH h TSpot [.int .i64 0, .int .i64 0]) (rowsP pc rd sp pp qc 0 u kc 0 ++ [(h.next, TSpot, [.int .i64 0, .int .i64 0])]) := M2.perm (by
  have := List.perm_append_comm (l₁ := [(h.next, TSpot, [AV.int .i64 0, AV.int .i64 0])]) (l₂ := rowsP pc rd sp pp qc 0 u kc 0)
  simpa using this.symm)
 obtain ⟨h2, p, e2, M4⟩ := p1_bad (n := n) (d := d) hp M3 hu hn hxB hx8
 have M5 : Mem S h0 h2 ((h.next, TSpot, [.int .i64 0, .int .i64 0]) :: rowsP pc rd sp pp qc p u kc 0) := M4.perm (by
  have := List.perm_append_comm (l₁ := [(h.next, TSpot, [AV.int .i64 0, AV.int .i64 0])]) (l₂ := rowsP pc rd sp pp qc p u kc 0)
  simpa using this)
 suffices hK : ∃ h', world n (d + 9) 35 [AV.fn 44 [] [.ptr pc 0, .ptr pp 0, .ptr qc 0]] h = some (.ret (.agg [.int .i64 e, .int .i64 (q : Int)]), h') ∧ Mem S h0 h' (rowsP pc rd sp pp qc p u kc 0) by
  obtain ⟨h', e', M'⟩ := hK
  exact ⟨h', p, e', M'⟩
 apply Wp.ex
 rw [w_pattern_guard]
 unfold pattern_guard
 refine Wp.lett ?_
 refine callKd_eq_pan ((dynP _ _ _ _ _).trans e2) ?_
 rw [newP_eq]
 obtain ⟨h3, e3, M6⟩ := recov_pan (n := n) (call := world n (d + 8)) rfl M5 e q
 refine Wp.callN e3 ?_
 refine Wp.lr0 M6 rfl ?_
 exact Wp.ret ⟨rfl, M6.pop⟩
end
def TreeBad (k : Int) (l : Bytes) (e : Int) (i : Nat) : Prop := (e = 3 ∧ i = 64 ∧ 64 < l.length) ∨ (e = 6 ∧ i ≤ l.length ∧ l.length ≤ 64 ∧ TreeP l k (.error i))
inductive ParseP (u : Bytes) : Int → Bytes → Int → Int → Prop
 | bad {e : Int} {q : Nat} (h : patQ u = .error (e, q)) : ParseP u 0 [] e (q : Int)
 | tree {k e : Int} {l : Bytes} {s q i : Nat} (h : patQ u = .ok ((k, l, s), q)) (he : TreeBad k l e i) : ParseP u 0 [] e ((s : Int) + ((quoteB (l.take i)).length : Int) - 1)
 | ok {k : Int} {l : Bytes} {s q : Nat} {t : Nd} (h : patQ u = .ok ((k, l, s), q)) (hl : l.length ≤ 64) (tp : TreeP l k (.ok t)) : ParseP u k l 0 0
theorem patQ_ok {u : Bytes} {k : Int} {l : Bytes} {s q : Nat} (h : patQ u = .ok ((k, l, s), q)) : wordQ u = .ok (k, s) ∧ quotedP u s = .ok l u.length ∧ q = u.length ∧ (k = 1 ∨ k = 2 ∨ k = 3) ∧ l.length ≤ u.length := by
 unfold patQ at h
 split at h
 ·cases h
 ·rename_i k' s' hw
  split at h
  ·cases h
  ·rename_i l' q' hq
   split at h
   ·rename_i hu
    cases h
    subst hu
    refine ⟨hw, hq, rfl, (wordQ_pos hw).1, ?_⟩
    have h1 := quotedP_len hq
    have h2 : l.length ≤ (quoteB l).length := by
     unfold quoteB
     simp only [List.length_cons, List.length_append, List.length_nil]
     have h4 : ∀ w : Bytes, w.length ≤ (w.flatMap fun a => signB a.toNat).length := by
      intro w
      induction w with
      | nil => simp
      | cons a w ih =>
       rw [List.flatMap_cons, List.length_append, List.length_cons]
       have : 1 ≤ (signB a.toNat).length := by
        rcases cls a.toNat with ⟨e, h, _⟩ | ⟨h, _⟩ | ⟨h, _⟩ <;> rw [h] <;> simp
       omega
     have := h4 l
     omega
    omega
   ·cases h
theorem scan_le {u : Bytes} : ∀ (fuel p : Nat) (acc : Bytes) {e : Int} {q : Nat}, p ≤ u.length → scanQ u (-1) fuel p acc = .bad e q → q ≤ u.length
 | 0, p, acc, e, q, hp, hh => by
  rw [scanQ] at hh
  cases hh
  exact hp
 | fuel + 1, p, acc, e, q, hp, hh => by
  rw [scanQ] at hh
  split at hh
  ·cases hh
  ·split at hh
   ·cases hh
    exact hp
   ·split at hh
    ·rename_i c q' hF
     exact scan_le fuel _ _ (formAt_ok hF).2.2 hh
    ·rename_i q' hF
     cases hh
     exact (formAt_bad hF hp).2
theorem patQ_bad {u : Bytes} {e : Int} {q : Nat} (h : patQ u = .error (e, q)) : e = 6 ∧ q ≤ u.length := by
 unfold patQ at h
 have h1 := (lcpN_le wGlob u).2
 have h2 := (lcpN_le wRe u).2
 split at h
 ·rename_i q' hw
  cases h
  refine ⟨rfl, ?_⟩
  unfold wordQ at hw
  split at hw
  ·split at hw
   ·cases hw
   ·cases hw
    omega
  ·split at hw
   ·split at hw
    ·cases hw
    ·cases hw
     omega
   ·cases hw
 ·rename_i k' s' hw
  have hs := (wordQ_pos hw).2
  split at h
  ·rename_i e' q' hq
   cases h
   unfold quotedP at hq
   split at hq
   ·refine ⟨scan6 _ _ _ hq, ?_⟩
    rename_i h34
    obtain ⟨hp, _⟩ := at?_some h34
    exact scan_le _ _ _ hp hq
   ·cases hq
    exact ⟨rfl, hs⟩
  ·rename_i l' q' hq
   have := (quotedP_text hq).2.1
   split at h
   ·cases h
   ·cases h
    exact ⟨rfl, this⟩
theorem slice_take {l : Bytes} {i : Nat} (h : i ≤ l.length) : sliceS l 0 (i : Int) = some (l.take i) := by
 have := sliceS_int (l := l) (a := 0) (b := (i : Int)) (by decide) (by omega) (by omega)
 simpa using this
theorem treeBoth {k : Int} (hk : k = 1 ∨ k = 2 ∨ k = 3) (l : Bytes) : (∃ e i, TreeBad k l e i ∧ ∀ {n D : Nat} {h : AHeap}, 300 ≤ D → 400 < n → memB TNode h.ex = false → world n (D + 3) 21 [.agg [.int .i64 k, strA l]] h = some (.ret (.tup [.agg (nodeC 0 zeroW .nsl), .agg [.int .i64 e, .int .i64 ((i : Nat) : Int)]]), h)) ∨ (∃ t, l.length ≤ 64 ∧ TreeP l k (.ok t) ∧ ∀ {n D : Nat} {h : AHeap}, 300 ≤ D → 400 < n → memB TNode h.ex = false → OutT h (world n (D + 3) 21 [.agg [.int .i64 k, strA l]] h) (.ok t)) := by
 by_cases hl : 64 < l.length
 ·exact .inl ⟨3, 64, .inl ⟨rfl, rfl, hl⟩, fun {n D h} _ _ _ => tree_long hl hk⟩
 ·obtain ⟨r, r1, r2, r3⟩ := pTree_ok (u := l) (by omega) hk
  cases r with
  | error q => exact .inl ⟨6, q, .inr ⟨rfl, r2 q rfl, by omega, r1⟩, fun {n D h} a b c => r3 a b c⟩
  | ok t => exact .inr ⟨t, by omega, r1, fun {n D h} a b c => r3 a b c⟩
theorem TreeBad.ne {k : Int} {l : Bytes} {e : Int} {i : Nat} (h : TreeBad k l e i) : e ≠ 0 ∧ i ≤ l.length := by
 rcases h with ⟨rfl, rfl, h⟩ | ⟨rfl, h, _⟩
 ·exact ⟨by decide, by omega⟩
 ·exact ⟨by decide, h⟩
section
variable {n : Nat} {u : Bytes}
theorem pParse_w (hu : u.length ≤ 1000000) : ∃ k l e q, ParseP u k l e q ∧ ∀ {n D : Nat} {h : AHeap}, 320 ≤ D → u.length + 420 < n → memB TBld h.ex = true → memB TU8 h.ex = false → memB TNode h.ex = false → world n (D + 1) 24 [strA u] h = some (.ret (.tup [.agg [.int .i64 k, strA l], .agg [.int .i64 e, .int .i64 q]]), h) := by
 cases hp : patQ u with
 | error e =>
  obtain ⟨e, q⟩ := e
  obtain ⟨rfl, _⟩ := patQ_bad hp
  refine ⟨0, [], 6, q, .bad hp, fun {n D h} hD hn hxB hx8 hxN => ?_⟩
  obtain ⟨d, rfl⟩ : ∃ d, D = d + 9 := ⟨D - 9, by omega⟩
  apply Wp.eq
  rw [w_pattern_Parse]
  refine Wp.gc ?_
  suffices hK : Wp (pattern_Parse (world n (d + 9)) n u h) fun r h' => r = .ret (.tup [.agg [.int .i64 0, strA []], .agg [.int .i64 6, .int .i64 (q : Int)]]) ∧ Tch [] h h' from hK.mono fun r h' ⟨e, t⟩ => ⟨t.above, by rw [e]; rfl, e, rfl⟩
  unfold pattern_Parse
  have Mx := Mem.nil [] h
  repeat (first | ((with_reducible apply Wp.ms0 Mx); exact Nat.le_of_ble_eq_true rfl; rfl; intro _ Mz; clear Mx; have Mx := Mz; clear Mz) | ((with_reducible apply Wp.sa0 Mx); rfl; rfl; (rfl); intro _ Mz; clear Mx; have Mx := Mz; clear Mz) | ((with_reducible apply Wp.mnew Mx); intro _ Mz; clear Mx; have Mx := Mz; clear Mz) | ((with_reducible apply Wp.mbox Mx); (rfl); intro _ Mz; clear Mx; have Mx := Mz; clear Mz) | rw [newP_eq])
  obtain ⟨h2, p, e2, M2⟩ := pguard_bad (n := n) (d := d) hp Mx hu (by omega) hxB hx8
  refine Wp.callN e2 ?_
  clear Mx
  have Mx := M2
  repeat (first | ((with_reducible apply Wp.obind); (with_reducible exact avInt_int _ _)) | ((with_reducible apply Wp.ld3 Mx); rfl) | ((with_reducible apply Wp.lr3 Mx); rfl) | ((with_reducible apply Wp.sa3 Mx); rfl; rfl; (rfl); intro _ Mz; clear Mx; have Mx := Mz; clear Mz) | ((with_reducible apply Wp.lr4 Mx); rfl) | ((with_reducible apply Wp.sa4 Mx); rfl; rfl; (rfl); intro _ Mz; clear Mx; have Mx := Mz; clear Mz) | ((with_reducible refine Wp.chk ?_ ?_); focus ((repeat' (first | (with_reducible exact rfl) | (with_reducible apply and_t) | ((with_reducible apply Mem.rr3 Mx); kernel_rfl; kernel_rfl))); done)) | (with_reducible refine Wp.lett ?_) | ((with_reducible apply Wp.obind); (with_reducible exact avAgg_agg _)) | ((with_reducible refine Wp.ift ?_ ?_); ((with_reducible apply bne_t); omega)))
  exact Wp.ret ⟨rfl, Mx.tch⟩
 | ok r =>
  obtain ⟨⟨k, l, s⟩, q⟩ := r
  obtain ⟨hw, hq, rfl, hk, hll⟩ := patQ_ok hp
  have hsl := (wordQ_pos hw).2
  rcases treeBoth hk l with ⟨e, i, tb, ht⟩ | ⟨t, hl, tp, ht⟩
  ·obtain ⟨he, hi⟩ := tb.ne
   refine ⟨0, [], e, _, .tree hp tb, fun {n D h} hD hn hxB hx8 hxN => ?_⟩
   obtain ⟨d, rfl⟩ : ∃ d, D = d + 9 := ⟨D - 9, by omega⟩
   apply Wp.eq
   rw [w_pattern_Parse]
   refine Wp.gc ?_
   suffices hK : Wp (pattern_Parse (world n (d + 9)) n u h) fun r h' => r = .ret (.tup [.agg [.int .i64 0, strA []], .agg [.int .i64 e, .int .i64 ((s : Int) + ((quoteB (l.take i)).length : Int) - 1)]]) ∧ Tch [] h h' from hK.mono fun r h' ⟨e, t⟩ => ⟨t.above, by rw [e]; rfl, e, rfl⟩
   unfold pattern_Parse
   have Mx := Mem.nil [] h
   repeat (first | ((with_reducible apply Wp.ms0 Mx); exact Nat.le_of_ble_eq_true rfl; rfl; intro _ Mz; clear Mx; have Mx := Mz; clear Mz) | ((with_reducible apply Wp.sa0 Mx); rfl; rfl; (rfl); intro _ Mz; clear Mx; have Mx := Mz; clear Mz) | ((with_reducible apply Wp.mnew Mx); intro _ Mz; clear Mx; have Mx := Mz; clear Mz) | ((with_reducible apply Wp.mbox Mx); (rfl); intro _ Mz; clear Mx; have Mx := Mz; clear Mz) | rw [newP_eq])
   obtain ⟨h2, e2, M2⟩ := pguard_ok (n := n) (d := d) rfl hp Mx hu (by omega) hxB hx8
   refine Wp.callN e2 ?_
   clear Mx
   have Mx := M2
   have hsc := slice_take hi
   have htr := fun (H : AHeap) (hx : memB TNode H.ex = false) => ht (n := n) (D := d + 6) (h := H) (by omega) (by omega) hx
   have hfl := flat_len (l.take i)
   rw [List.length_take] at hfl
   have hqt := fun (H : AHeap) (hB : memB TBld H.ex = true) (h8 : memB TU8 H.ex = false) => quote_w (n := n) (d := d + 5) (h := H) (u := l.take i) (by rw [List.length_take]; omega) (by rw [List.length_take]; omega) hB h8
   have lq := lenS_nat (quoteB (l.take i))
   have lq2 : (quoteB (l.take i)).length ≤ 4000002 := by
    unfold quoteB
    simp only [List.length_cons, List.length_append, List.length_nil]
    omega
   repeat (first | ((with_reducible apply Wp.obind); (with_reducible first | exact avInt_int _ _ | exact avStr_str _)) | ((with_reducible apply Wp.ld0 Mx); rfl) | ((with_reducible apply Wp.ld3 Mx); rfl) | ((with_reducible apply Wp.lr3 Mx); rfl) | ((with_reducible apply Wp.ms3 Mx); exact Nat.le_of_ble_eq_true rfl; rfl; intro _ Mz; clear Mx; have Mx := Mz; clear Mz) | ((with_reducible apply Wp.sa3 Mx); rfl; rfl; (rfl); intro _ Mz; clear Mx; have Mx := Mz; clear Mz) | ((with_reducible apply Wp.ld4 Mx); rfl) | ((with_reducible apply Wp.lr4 Mx); rfl) | ((with_reducible apply Wp.sa4 Mx); rfl; rfl; (rfl); intro _ Mz; clear Mx; have Mx := Mz; clear Mz) | ((with_reducible refine Wp.chk ?_ ?_); focus ((repeat' (first | (with_reducible exact rfl) | (with_reducible apply and_t) | ((with_reducible apply Mem.re0 Mx); kernel_rfl; rfl) | ((with_reducible apply Mem.rr3 Mx); kernel_rfl; kernel_rfl))); done)) | ((with_reducible refine Wp.lettw ?_ ?_ ?_); omega; omega) | (with_reducible refine Wp.lett ?_) | ((with_reducible apply Wp.obind); (with_reducible first | exact hsc | exact avAgg_agg _ | exact extT_0 _ _ | exact extT_1 _ _ _)) | ((with_reducible refine Wp.ift ?_ ?_); ((with_reducible apply bne_t); omega)) | ((with_reducible refine Wp.iff ?_ ?_); ((with_reducible apply bne_f); omega)) | ((with_reducible apply Wp.callN); (with_reducible first | exact htr _ (by rw [Mx.ex]; exact hxN) | exact hqt _ (by rw [Mx.ex]; exact hxB) (by rw [Mx.ex]; exact hx8))))
   rw [lq]
   exact Wp.ret ⟨rfl, Mx.tch⟩
  ·refine ⟨k, l, 0, 0, .ok hp hl tp, fun {n D h} hD hn hxB hx8 hxN => ?_⟩
   obtain ⟨d, rfl⟩ : ∃ d, D = d + 9 := ⟨D - 9, by omega⟩
   apply Wp.eq
   rw [w_pattern_Parse]
   refine Wp.gc ?_
   suffices hK : Wp (pattern_Parse (world n (d + 9)) n u h) fun r h' => r = .ret (.tup [.agg [.int .i64 k, strA l], .agg [.int .i64 0, .int .i64 0]]) ∧ Tch [] h h' from hK.mono fun r h' ⟨e, t⟩ => ⟨t.above, by rw [e]; rfl, e, rfl⟩
   unfold pattern_Parse
   have Mx := Mem.nil [] h
   repeat (first | ((with_reducible apply Wp.ms0 Mx); exact Nat.le_of_ble_eq_true rfl; rfl; intro _ Mz; clear Mx; have Mx := Mz; clear Mz) | ((with_reducible apply Wp.sa0 Mx); rfl; rfl; (rfl); intro _ Mz; clear Mx; have Mx := Mz; clear Mz) | ((with_reducible apply Wp.mnew Mx); intro _ Mz; clear Mx; have Mx := Mz; clear Mz) | ((with_reducible apply Wp.mbox Mx); (rfl); intro _ Mz; clear Mx; have Mx := Mz; clear Mz) | rw [newP_eq])
   obtain ⟨h2, e2, M2⟩ := pguard_ok (n := n) (d := d) rfl hp Mx hu (by omega) hxB hx8
   refine Wp.callN e2 ?_
   clear Mx
   have Mx := M2
   repeat (first | ((with_reducible apply Wp.obind); (with_reducible exact avInt_int _ _)) | ((with_reducible apply Wp.ld3 Mx); rfl) | ((with_reducible apply Wp.sa3 Mx); rfl; rfl; (rfl); intro _ Mz; clear Mx; have Mx := Mz; clear Mz) | ((with_reducible apply Wp.lr4 Mx); rfl) | (with_reducible refine Wp.lett ?_) | ((with_reducible apply Wp.obind); (with_reducible exact avAgg_agg _)) | ((with_reducible refine Wp.iff ?_ ?_); ((with_reducible apply bne_f); omega)))
   obtain ⟨c, T, h3, e3, kt, M3⟩ := ht (n := n) (D := d + 6) (h := _) (by omega) (by omega) (show memB TNode _ = false by rw [Mx.ex]; exact hxN)
   refine Wp.callN e3 ?_
   have M4 := Mem.frameT (xs := []) (ys := []) Mx M3
   clear Mx
   have Mx : Mem [] h h3 (_ :: _ :: _ :: _ :: _ :: T) := M4
   repeat (first | ((with_reducible apply Wp.obind); (with_reducible exact avInt_int _ _)) | ((with_reducible apply Wp.ld3 Mx); rfl) | ((with_reducible apply Wp.lr3 Mx); rfl) | ((with_reducible apply Wp.sa3 Mx); rfl; rfl; (rfl); intro _ Mz; clear Mx; have Mx := Mz; clear Mz) | ((with_reducible apply Wp.lr4 Mx); rfl) | ((with_reducible apply Wp.sa4 Mx); rfl; rfl; (rfl); intro _ Mz; clear Mx; have Mx := Mz; clear Mz) | ((with_reducible refine Wp.chk ?_ ?_); focus ((repeat' (first | (with_reducible exact rfl) | (with_reducible apply and_t) | ((with_reducible apply Mem.rr3 Mx); kernel_rfl; kernel_rfl))); done)) | (with_reducible refine Wp.lett ?_) | ((with_reducible apply Wp.obind); (with_reducible first | exact avAgg_agg _ | exact extT_0 _ _ | exact extT_1 _ _ _)) | ((with_reducible refine Wp.iff ?_ ?_); ((with_reducible apply bne_f); omega)))
   exact Wp.ret ⟨rfl, Mx.tch⟩
end
def flatL (l : Bytes) : Nat := (l.flatMap fun a => signB a.toNat).length
section
variable {n d p : Nat} {h h0 : AHeap} {u : Bytes} {Q : ARes → AHeap → Prop} {S : List Nat}
end
end Go.Proofs.Yteibdplpbcobbaa
namespace Go.Proofs.Yteibdplpbcobbaa
open Go.RowKit Abs
def wordB' (k : Int) : Bytes := if k = 2 then wGlob else if k = 3 then wRe else []
theorem wordQ_len {u : Bytes} {k : Int} {s : Nat} (h : wordQ u = .ok (k, s)) : s = (wordB' k).length := by
 unfold wordQ at h
 split at h
 ·split at h
  ·cases h
   rfl
  ·cases h
 ·split at h
  ·split at h
   ·cases h
    rfl
   ·cases h
  ·cases h
   rfl
section
variable {n d : Nat} {h h0 H : AHeap} {u : Bytes} {Q : ARes → AHeap → Prop} {S : List Nat}
theorem longR_w (n d : Nat) (x : Int) (h : AHeap) : world n (d + 1) 14 [.int .i64 x] h = some (.ret (.bool (decide (x > 65536))), h) := by
 rw [w_law09_long]
 unfold law09_long
 rw [lett_eq, gcR_self]
end
theorem flatPat : flatB Try.prog TPat [1, 2] = true := by kernel_rfl
theorem eqPat (a b : Int) (x y : Bytes) : eqOther Try.prog TPat (.agg [.int .i64 a, strA x]) (.agg [.int .i64 b, strA y]) = some ((a == b) && ((x == y) && true)) := eq_flat flatPat (eqL_cons rfl (eqCell_int _ _ _) (eqL_cons rfl (eqCell_str _ _) rfl))
theorem eqPatS (a : Int) (x : Bytes) : eqOther Try.prog TPat (.agg [.int .i64 a, strA x]) (.agg [.int .i64 a, strA x]) = some true := by rw [eqPat]; simp
theorem flatP_one {F : Nat → Res} {u : Bytes} {l : List Nd} {i : Nat} {r : Res} (a : FlatP F u l i r) : ∀ {r' : Res}, FlatP F u l i r' → r = r' := by
 induction a with
 | stop s =>
  intro r' b
  cases b with
  | stop _ => rfl
  | bad s' _ => omega
  | more s' _ _ => omega
 | bad s h =>
  intro r' b
  cases b with
  | stop s' => omega
  | bad s' h' =>
   rw [h] at h'
   cases h'
   rfl
  | more s' h' _ =>
   rw [h] at h'
   cases h'
 | more s h m ih =>
  intro r' b
  cases b with
  | stop s' => omega
  | bad s' h' =>
   rw [h] at h'
   cases h'
  | more s' h' m' =>
   rw [h] at h'
   cases h'
   exact ih m'
theorem treeP_one {u : Bytes} {k : Int} {r r' : Except Nat Nd} (a : TreeP u k r) (b : TreeP u k r') : r = r' := by
 cases a with
 | lit x =>
  cases b with
  | lit y => rw [flatP_one x y]
 | glob x =>
  cases b with
  | glob y => rw [flatP_one x y]
 | re_bad x =>
  cases b with
  | re_bad y =>
   cases altP_one x y
   rfl
  | re_end y n => cases altP_one x y
  | re y => cases altP_one x y
 | re_end x n =>
  cases b with
  | re_bad y => cases altP_one x y
  | re_end y n' =>
   cases altP_one x y
   rfl
  | re y =>
   cases altP_one x y
   exact absurd rfl n
 | re x =>
  cases b with
  | re_bad y => cases altP_one x y
  | re_end y n =>
   cases altP_one x y
   exact absurd rfl n
  | re y =>
   cases altP_one x y
   rfl
def printB (k : Int) (l : Bytes) : Bytes := wordB' k ++ quoteB l
theorem form_ne34 {u : Bytes} {p c q : Nat} (h : formAt u p = .ok c q) : at? u p ≠ some 34 := by
 intro hh
 unfold formAt at h
 rw [hh] at h
 dsimp only at h
 rw [if_neg (by decide), if_neg (by decide)] at h
 cases h
theorem scan_back : ∀ (rest pre acc post : Bytes) (f : Nat), rest.length < f → scanQ (pre ++ ((rest.flatMap fun a => signB a.toNat) ++ (34 :: post))) (-1) f pre.length acc = .ok (acc ++ rest) (pre.length + flatL rest + 1)
 | _, _, _, _, 0, hf => by omega
 | [], pre, acc, post, f + 1, hf => by
  have h := at?_app pre (34 :: post) 0
  rw [Nat.add_zero] at h
  rw [List.flatMap_nil, List.nil_append, scanQ, if_pos (by rw [h]; rfl)]
  simp [flatL]
 | c :: rest, pre, acc, post, f + 1, hf => by
  have hform : formAt (pre ++ (((c :: rest).flatMap fun a => signB a.toNat) ++ (34 :: post))) pre.length = .ok c.toNat (pre.length + (signB c.toNat).length) := by
   rw [formAt_W, List.drop_left, List.flatMap_cons, List.append_assoc, formW_sign (UInt8.toNat_lt c)]
   rfl
  rw [scanQ, if_neg (form_ne34 hform), if_neg (by omega), hform]
  dsimp only
  have e : pre ++ (((c :: rest).flatMap fun a => signB a.toNat) ++ (34 :: post)) = (pre ++ signB c.toNat) ++ ((rest.flatMap fun a => signB a.toNat) ++ (34 :: post)) := by
   rw [List.flatMap_cons]
   simp
  have e2 : pre.length + (signB c.toNat).length = (pre ++ signB c.toNat).length := by simp
  rw [e, e2, UInt8.ofNat_toNat, scan_back rest (pre ++ signB c.toNat) (acc ++ [c]) post f (by simpa using hf)]
  have e3 : flatL (c :: rest) = (signB c.toNat).length + flatL rest := by
   unfold flatL
   rw [List.flatMap_cons, List.length_append]
  rw [e3]
  congr 1
  ·simp
  ·simp
   omega
theorem quoteB_len (l : Bytes) : (quoteB l).length = flatL l + 2 := by
 unfold quoteB flatL
 simp
theorem flatL_len (l : Bytes) : l.length ≤ flatL l := by
 induction l with
 | nil => exact Nat.zero_le _
 | cons a w ih =>
  unfold flatL at ih ⊢
  rw [List.flatMap_cons, List.length_append, List.length_cons]
  have : 1 ≤ (signB a.toNat).length := by
   rcases cls a.toNat with ⟨e, h, _⟩ | ⟨h, _⟩ | ⟨h, _⟩ <;> rw [h] <;> simp
  omega
theorem quoted_back (w l : Bytes) : quotedP (w ++ quoteB l) w.length = .ok l (w ++ quoteB l).length := by
 have h := at?_app w (quoteB l) 0
 rw [Nat.add_zero] at h
 unfold quotedP
 rw [if_pos (by rw [h]; rfl)]
 have e : w ++ quoteB l = (w ++ [34]) ++ ((l.flatMap fun a => signB a.toNat) ++ (34 :: [])) := by
  unfold quoteB
  simp
 have e2 : w.length + 1 = (w ++ [34]).length := by simp
 have hl := flatL_len l
 have hq := quoteB_len l
 rw [e2, e, scan_back l (w ++ [34]) [] [] _ (by rw [← e, List.length_append]; omega), ← e]
 congr 1
 rw [List.length_append, List.length_append, hq]
 simp
 omega
theorem word_back {k : Int} (hk : k = 1 ∨ k = 2 ∨ k = 3) (l : Bytes) : wordQ (printB k l) = .ok (k, (wordB' k).length) := by
 rcases hk with rfl | rfl | rfl
 ·rfl
 ·have h1 : at? (printB 2 l) 0 = some 103 := rfl
  have h2 : lcpN wGlob (printB 2 l) = 5 := lcpN_append wGlob (quoteB l)
  unfold wordQ
  rw [if_pos h1, if_pos h2]
  rfl
 ·have h1 : at? (printB 3 l) 0 = some 114 := rfl
  have h2 : lcpN wRe (printB 3 l) = 3 := lcpN_append wRe (quoteB l)
  have h3 : ¬ at? (printB 3 l) 0 = some 103 := by rw [h1]; decide
  unfold wordQ
  rw [if_neg h3, if_pos h1, if_pos h2]
  rfl
theorem pat_back {k : Int} (hk : k = 1 ∨ k = 2 ∨ k = 3) (l : Bytes) : patQ (printB k l) = .ok ((k, l, (wordB' k).length), (printB k l).length) := by
 have h := quoted_back (wordB' k) l
 unfold patQ
 rw [word_back hk l]
 dsimp only
 unfold printB
 rw [h]
 dsimp only
 rw [if_pos rfl]
theorem lcp_take {w u : Bytes} (h : lcpN w u = w.length) : u = w ++ u.drop w.length := by
 obtain ⟨r, rfl⟩ := lcpN_full w u h
 rw [List.drop_left]
theorem text_is {u : Bytes} {k : Int} {l : Bytes} {s q : Nat} (h : patQ u = .ok ((k, l, s), q)) : u = printB k l ∧ s = (wordB' k).length := by
 obtain ⟨hw, hq, _, _, _⟩ := patQ_ok h
 have hs := wordQ_len hw
 obtain ⟨h1, h2, h3⟩ := quotedP_text hq
 have h4 : u.drop s = quoteB l := by
  rw [← h1, List.take_of_length_le (by rw [List.length_drop]; exact Nat.le_refl _)]
 have h5 : u = wordB' k ++ u.drop s := by
  rw [hs]
  unfold wordQ at hw
  split at hw
  ·split at hw
   ·rename_i hl
    cases hw
    exact lcp_take (w := wGlob) hl
   ·cases hw
  ·split at hw
   ·split at hw
    ·rename_i hl
     cases hw
     exact lcp_take (w := wRe) hl
    ·cases hw
   ·cases hw
    rfl
 refine ⟨?_, hs⟩
 rw [h4] at h5
 exact h5
theorem take_flat (l : Bytes) (i : Nat) : flatL (l.take i) ≤ flatL l := by
 have : flatL l = flatL (l.take i) + flatL (l.drop i) := by
  unfold flatL
  rw [← List.length_append, ← List.flatMap_append, List.take_append_drop]
 omega
theorem parse_bounds {u : Bytes} {k : Int} {l : Bytes} {e q : Int} (h : ParseP u k l e q) : (e ≠ 0 ∧ k = 0 ∧ l = [] ∧ 0 ≤ q ∧ q ≤ u.length) ∨ (e = 0 ∧ q = 0 ∧ (k = 1 ∨ k = 2 ∨ k = 3) ∧ u = printB k l ∧ l.length ≤ 64 ∧ (∃ t, TreeP l k (.ok t)) ∧ quotedP u (wordB' k).length = .ok l u.length) := by
 cases h with
 | bad h =>
  obtain ⟨rfl, hq⟩ := patQ_bad h
  exact .inl ⟨by decide, rfl, rfl, by omega, by omega⟩
 | tree h tb =>
  rename_i k l s q i
  obtain ⟨he, hi⟩ := tb.ne
  obtain ⟨hu, hs⟩ := text_is h
  have h1 := take_flat l i
  have h2 := quoteB_len l
  have h3 := quoteB_len (l.take i)
  have h4 := congrArg List.length hu
  unfold printB at h4
  rw [List.length_append] at h4
  exact .inl ⟨he, rfl, rfl, by omega, by omega⟩
 | ok h hl tp =>
  obtain ⟨hu, hs⟩ := text_is h
  obtain ⟨_, hq, _, hk, _⟩ := patQ_ok h
  rw [hs] at hq
  exact .inr ⟨rfl, rfl, hk, hu, hl, ⟨_, tp⟩, hq⟩
theorem parse_print {k : Int} {l : Bytes} {t : Nd} (hk : k = 1 ∨ k = 2 ∨ k = 3) (hl : l.length ≤ 64) (tp : TreeP l k (.ok t)) {k' : Int} {l' : Bytes} {e q : Int} (h : ParseP (printB k l) k' l' e q) : k' = k ∧ l' = l ∧ e = 0 ∧ q = 0 := by
 have hp := pat_back hk l
 cases h with
 | bad h =>
  rw [hp] at h
  cases h
 | tree h tb =>
  rw [hp] at h
  cases h
  rcases tb with ⟨_, _, h64⟩ | ⟨_, _, _, tp'⟩
  ·omega
  ·cases treeP_one tp tp'
 | ok h _ _ =>
  rw [hp] at h
  cases h
  exact ⟨rfl, rfl, rfl, rfl⟩
section
variable {n : Nat} {h : AHeap} {l : Bytes}
theorem treeAny (k : Int) (l : Bytes) : (∃ e i : Int, e ≠ 0 ∧ ∀ {n D : Nat} {h : AHeap}, 300 ≤ D → 400 < n → memB TNode h.ex = false → world n (D + 3) 21 [.agg [.int .i64 k, strA l]] h = some (.ret (.tup [.agg (nodeC 0 zeroW .nsl), .agg [.int .i64 e, .int .i64 i]]), h)) ∨ (∃ t, (k = 1 ∨ k = 2 ∨ k = 3) ∧ l.length ≤ 64 ∧ TreeP l k (.ok t) ∧ ∀ {n D : Nat} {h : AHeap}, 300 ≤ D → 400 < n → memB TNode h.ex = false → OutT h (world n (D + 3) 21 [.agg [.int .i64 k, strA l]] h) (.ok t)) := by
 by_cases hk : k = 1 ∨ k = 2 ∨ k = 3
 ·rcases treeBoth hk l with ⟨e, i, tb, ht⟩ | ⟨t, hl, tp, ht⟩
  ·exact .inl ⟨e, i, tb.ne.1, fun {n D h} a b c => ht a b c⟩
  ·exact .inr ⟨t, hk, hl, tp, fun {n D h} a b c => ht a b c⟩
 ·exact .inl ⟨2, 0, by decide, fun {n D h} _ _ _ => pTree_other (fun hh => hk (.inl hh)) (fun hh => hk (.inr (.inl hh))) (fun hh => hk (.inr (.inr hh)))⟩
theorem pPrint_bad {k e i : Int} (he : e ≠ 0) {D : Nat} (hD : 320 ≤ D) (hn : 420 < n) (hx : memB TNode h.ex = false) (ht : ∀ {n D : Nat} {h : AHeap}, 300 ≤ D → 400 < n → memB TNode h.ex = false → world n (D + 3) 21 [.agg [.int .i64 k, strA l]] h = some (.ret (.tup [.agg (nodeC 0 zeroW .nsl), .agg [.int .i64 e, .int .i64 i]]), h)) : world n (D + 1) 26 [.agg [.int .i64 k, strA l]] h = some (.ret (strA []), h) := by
 obtain ⟨D, rfl⟩ : ∃ D', D = D' + 3 := ⟨D - 3, by omega⟩
 apply Wp.eq
 rw [w_pattern_Print]
 refine Wp.gc ?_
 suffices hK : Wp (pattern_Print (world n (D + 3)) n [.int .i64 k, strA l] h) fun r h' => r = .ret (strA []) ∧ Tch [] h h' from hK.mono fun r h' ⟨e, t⟩ => ⟨t.above, by rw [e]; rfl, e, rfl⟩
 unfold pattern_Print
 have Mx := Mem.nil [] h
 have htr := fun (H : AHeap) (hx : memB TNode H.ex = false) => ht (n := n) (D := D) (h := H) (by omega) (by omega) hx
 repeat (first | ((with_reducible apply Wp.obind); (with_reducible exact avInt_int _ _)) | ((with_reducible apply Wp.ld0 Mx); rfl) | ((with_reducible apply Wp.lr0 Mx); rfl) | ((with_reducible apply Wp.sa0 Mx); rfl; rfl; (rfl); intro _ Mz; clear Mx; have Mx := Mz; clear Mz) | ((with_reducible apply Wp.sa1 Mx); rfl; rfl; (rfl); intro _ Mz; clear Mx; have Mx := Mz; clear Mz) | ((with_reducible apply Wp.mnew Mx); intro _ Mz; clear Mx; have Mx := Mz; clear Mz) | ((with_reducible apply Wp.mbox Mx); (rfl); intro _ Mz; clear Mx; have Mx := Mz; clear Mz) | (with_reducible refine Wp.lett ?_) | ((with_reducible apply Wp.obind); (with_reducible first | exact avAgg_agg _ | exact extT_0 _ _ | exact extT_1 _ _ _)) | ((with_reducible refine Wp.ift ?_ ?_); ((with_reducible apply bne_t); omega)) | ((with_reducible apply Wp.callN); (with_reducible exact htr _ (by rw [Mx.ex]; exact hx))) | rw [newP_eq])
 exact Wp.ret ⟨rfl, Mx.tch⟩
theorem pPrint_ok {k : Int} (hk : k = 1 ∨ k = 2 ∨ k = 3) (hl : l.length ≤ 64) {t : Nd} {D : Nat} (hD : 320 ≤ D) (hn : 420 < n) (hx : memB TNode h.ex = false) (hxB : memB TBld h.ex = true) (hx8 : memB TU8 h.ex = false) (ht : ∀ {n D : Nat} {h : AHeap}, 300 ≤ D → 400 < n → memB TNode h.ex = false → OutT h (world n (D + 3) 21 [.agg [.int .i64 k, strA l]] h) (.ok t)) : world n (D + 1) 26 [.agg [.int .i64 k, strA l]] h = some (.ret (strA (printB k l)), h) := by
 obtain ⟨D, rfl⟩ : ∃ D', D = D' + 4 := ⟨D - 4, by omega⟩
 apply Wp.eq
 rw [w_pattern_Print]
 refine Wp.gc ?_
 suffices hK : Wp (pattern_Print (world n (D + 4)) n [.int .i64 k, strA l] h) fun r h' => r = .ret (strA (printB k l)) ∧ Tch [] h h' from hK.mono fun r h' ⟨e, t⟩ => ⟨t.above, by rw [e]; rfl, e, rfl⟩
 unfold pattern_Print
 have Mx := Mem.nil [] h
 repeat (first | ((with_reducible apply Wp.lr0 Mx); rfl) | ((with_reducible apply Wp.mbox Mx); (rfl); intro _ Mz; clear Mx; have Mx := Mz; clear Mz))
 obtain ⟨c, T, h3, e3, kt, M3⟩ := ht (n := n) (D := D + 1) (h := _) (by omega) (by omega) (show memB TNode _ = false by rw [Mx.ex]; exact hx)
 refine Wp.callN e3 ?_
 have M4 := Mem.frameT (xs := []) (ys := []) Mx M3
 clear Mx
 refine Wp.obind (extT_0 _ _) (Wp.obind (avAgg_agg _) (Wp.obind (extT_1 _ _ _) (Wp.obind (avAgg_agg _) ?_)))
 refine Wp.mnew M4 fun h5 M5 => Wp.mnew M5 fun h6 M6 => ?_
 rw [newP_eq, newP_eq]
 refine Wp.sa1 M6 kt.len rfl kt.one fun h7 M7 => Wp.sa0 M7 rfl rfl rfl fun h8 M8 => ?_
 have Mx := M8
 have hq := fun (H : AHeap) (hB : memB TBld H.ex = true) (h8 : memB TU8 H.ex = false) => quote_w (n := n) (d := D) (h := H) (u := l) (by omega) (by omega) hB h8
 clear M4 M5 M6 M7 M8
 have hfl := flat_len l
 have hql : (quoteB l).length = (l.flatMap fun a => signB a.toNat).length + 2 := by
  unfold quoteB
  simp
 have a2 : addS [103, 108, 111, 98, 32] (quoteB l) = some (printB 2 l) := addS_val (by simp; omega)
 have a3 : addS [114, 101, 32] (quoteB l) = some (printB 3 l) := addS_val (by simp; omega)
 rcases hk with rfl | rfl | rfl
 ·repeat (first | ((with_reducible apply Wp.obind); (with_reducible first | exact avInt_int _ _ | exact avStr_str _ | exact fldP_ptr _ _ _)) | ((with_reducible apply Wp.ld0 Mx); rfl) | ((with_reducible apply Wp.ld2 Mx); rfl) | (with_reducible refine Wp.lett ?_) | ((with_reducible refine Wp.iff ?_ ?_); ((with_reducible first | apply bne_f | apply beq_f); omega)) | ((with_reducible apply Wp.callN); (with_reducible exact hq _ (by rw [Mx.ex]; exact hxB) (by rw [Mx.ex]; exact hx8))))
  exact Wp.ret ⟨rfl, Mx.tch⟩
 ·repeat (first | ((with_reducible apply Wp.obind); (with_reducible first | exact avInt_int _ _ | exact avStr_str _ | exact fldP_ptr _ _ _)) | ((with_reducible apply Wp.ld0 Mx); rfl) | ((with_reducible apply Wp.ld2 Mx); rfl) | (with_reducible refine Wp.lett ?_) | ((with_reducible apply Wp.obind); (with_reducible assumption)) | ((with_reducible refine Wp.ift ?_ ?_); ((with_reducible first | apply bne_t | apply beq_t); omega)) | ((with_reducible refine Wp.iff ?_ ?_); ((with_reducible apply bne_f); omega)) | ((with_reducible apply Wp.callN); (with_reducible exact hq _ (by rw [Mx.ex]; exact hxB) (by rw [Mx.ex]; exact hx8))))
  exact Wp.ret ⟨rfl, Mx.tch⟩
 ·repeat (first | ((with_reducible apply Wp.obind); (with_reducible first | exact avInt_int _ _ | exact avStr_str _ | exact fldP_ptr _ _ _)) | ((with_reducible apply Wp.ld0 Mx); rfl) | ((with_reducible apply Wp.ld2 Mx); rfl) | (with_reducible refine Wp.lett ?_) | ((with_reducible apply Wp.obind); (with_reducible assumption)) | ((with_reducible refine Wp.ift ?_ ?_); ((with_reducible first | apply bne_t | apply beq_t); omega)) | ((with_reducible refine Wp.iff ?_ ?_); ((with_reducible first | apply bne_f | apply beq_f); omega)) | ((with_reducible apply Wp.callN); (with_reducible exact hq _ (by rw [Mx.ex]; exact hxB) (by rw [Mx.ex]; exact hx8))))
  exact Wp.ret ⟨rfl, Mx.tch⟩
end
theorem eqPat0 : eqOther Try.prog TPat (.agg [.int .i64 0, strA []]) (.agg [.int .i64 0, .str 0 0]) = some true := eqPatS 0 []
theorem treeIs {k : Int} {l : Bytes} {t : Nd} (hl : l.length ≤ 64) (hk : k = 1 ∨ k = 2 ∨ k = 3) (tp : TreeP l k (.ok t)) {n D : Nat} {h : AHeap} (hD : 300 ≤ D) (hn : 400 < n) (hx : memB TNode h.ex = false) : OutT h (world n (D + 3) 21 [.agg [.int .i64 k, strA l]] h) (.ok t) := by
 obtain ⟨r, r1, _, r3⟩ := pTree_ok (u := l) hl hk
 have := treeP_one tp r1
 subst this
 exact r3 hD hn hx
set_option maxRecDepth 100000 in
theorem patternBack_says (h : AHeap) (hX : h.ex = [57]) (xs : List AV) (hP : ArgsP Try.prog h.next h 12 [35, 9] xs) : ∃ h', Says Try.prog 8 xs h (.ret (.bool true)) h' := by
 obtain ⟨_, _, rfl, hp0, hP⟩ := args_cons hP
 obtain ⟨_, _, rfl, hp1, hP⟩ := args_cons hP
 obtain rfl := args0 hP
 obtain ⟨k, l, rfl, hl0⟩ := pat_of hp0
 obtain ⟨u, rfl, hu0⟩ := hp1.str Try.underlying9
 have hrb : reachBytes = 140737488351232 := rfl
 obtain ⟨n, hn⟩ : ∃ n, 1000000 < n := ⟨1000001, Nat.lt_succ_self _⟩
 obtain ⟨D, hD⟩ : ∃ D, 100 ≤ D := ⟨100, Nat.le_refl _⟩
 suffices hK : Wp (law09_PatternBack (world n (D + 321)) n [.int .i64 k, strA l] u h) fun r _ => r = .ret (.bool true) by
  obtain ⟨_, h', e, rfl⟩ := hK
  exact ⟨h', law09_PatternBack_ok (world_ok n (D + 321)) e⟩
 unfold law09_PatternBack
 have ll := lenS_nat l
 have lu := lenS_nat u
 have hwk := worksK_w n (D + 320)
 have hlg := longR_w n (D + 320) (lenS l + lenS u)
 have Mx := Mem.nil [] h
 by_cases hl : lenS l + lenS u > 65536
 ·rw [decide_eq_true hl] at hlg
  repeat (first | ((with_reducible apply Wp.obind); (with_reducible first | exact avBool_bool _ | exact avStr_str _ | exact fldP_ptr _ _ _)) | ((with_reducible apply Wp.ld0 Mx); rfl) | ((with_reducible apply Wp.mbox Mx); (rfl); intro _ Mz; clear Mx; have Mx := Mz; clear Mz) | ((with_reducible refine Wp.lettw ?_ ?_ ?_); omega; omega) | (with_reducible refine Wp.lett ?_) | ((with_reducible refine Wp.ift ?_ ?_); (with_reducible rfl)) | ((with_reducible refine Wp.iff ?_ ?_); (with_reducible exact Bool.not_true)) | ((with_reducible apply Wp.callN); (with_reducible first | exact hwk _ | exact hlg _)))
  exact Wp.ret rfl
 rw [decide_eq_false hl] at hlg
 obtain ⟨k', l', e', q', kp, hp⟩ := pParse_w (u := u) (by omega)
 have hpp := fun (H : AHeap) (hx : H.ex = [57]) => hp (n := n) (D := D + 320) (h := H) (by omega) (by omega) (by rw [hx]; rfl) (by rw [hx]; rfl) (by rw [hx]; rfl)
 rcases treeAny k l with ⟨e, i, he, ht⟩ | ⟨t, hk, hl6, tp, ht⟩
 ·have htr := fun (H : AHeap) (hx : H.ex = [57]) => ht (n := n) (D := D + 318) (h := H) (by omega) (by omega) (by rw [hx]; rfl)
  have hpr := fun (H : AHeap) (hx : H.ex = [57]) => pPrint_bad (n := n) (h := H) (k := k) (l := l) he (D := D + 320) (by omega) (by omega) (by rw [hx]; rfl) (fun {n D h} a b c => ht a b c)
  have e1 : eqS ([] : Bytes) [] = true := rfl
  have e2 : (e != 0) = true := bne_t he
  repeat (first | (rw [e1]) | (rw [e2]) | ((with_reducible apply Wp.obind); (with_reducible first | exact avInt_int _ _ | exact avBool_bool _ | exact avStr_str _ | exact fldP_ptr _ _ _)) | ((with_reducible apply Wp.ld0 Mx); rfl) | ((with_reducible apply Wp.lr0 Mx); rfl) | ((with_reducible apply Wp.sa0 Mx); rfl; rfl; (rfl); intro _ Mz; clear Mx; have Mx := Mz; clear Mz) | ((with_reducible apply Wp.sa1 Mx); rfl; rfl; (rfl); intro _ Mz; clear Mx; have Mx := Mz; clear Mz) | ((with_reducible apply Wp.lr2 Mx); rfl) | ((with_reducible apply Wp.mnew Mx); intro _ Mz; clear Mx; have Mx := Mz; clear Mz) | ((with_reducible apply Wp.mbox Mx); (rfl); intro _ Mz; clear Mx; have Mx := Mz; clear Mz) | ((with_reducible refine Wp.lettw ?_ ?_ ?_); omega; omega) | (with_reducible refine Wp.lett ?_) | ((with_reducible apply Wp.obind); (with_reducible first | exact avAgg_agg _ | exact extT_0 _ _ | exact extT_1 _ _ _)) | ((with_reducible refine Wp.iff ?_ ?_); (with_reducible first | rfl | exact Bool.not_true)) | ((with_reducible apply Wp.callN); (with_reducible first | exact hwk _ | exact hlg _ | exact htr _ (by rw [Mx.ex]; exact hX) | exact hpr _ (by rw [Mx.ex]; exact hX))) | rw [newP_eq])
  refine Wp.iff rfl (Wp.lett (Wp.join0 fun k53 ek53 => ?_))
  have fin : ∀ H : AHeap, Tch [] h H → Wp (k53 H) fun r _ => r = .ret (.bool true) := by
   intro H tH
   have M0 : Abs.Mem [] h H [] := by
    refine ⟨?_, List.nodup_nil, tH⟩
    intro y hy
    cases hy
   refine Wp.go0 ek53 ?_
   have Mx := M0
   clear M0
   rcases parse_bounds kp with ⟨he', rfl, rfl, hq0, hq1⟩ | ⟨rfl, rfl, hk', hu', hl', ⟨t', tp'⟩, hqq⟩
   ·repeat (first | ((with_reducible apply Wp.obind); (with_reducible exact avInt_int _ _)) | ((with_reducible apply Wp.ld0 Mx); rfl) | ((with_reducible apply Wp.sa0 Mx); rfl; rfl; (rfl); intro _ Mz; clear Mx; have Mx := Mz; clear Mz) | ((with_reducible apply Wp.lr1 Mx); rfl) | ((with_reducible apply Wp.sa1 Mx); rfl; rfl; (rfl); intro _ Mz; clear Mx; have Mx := Mz; clear Mz) | ((with_reducible apply Wp.mnew Mx); intro _ Mz; clear Mx; have Mx := Mz; clear Mz) | (with_reducible refine Wp.join1 (fun _ _ => ?_)) | (with_reducible refine Wp.lett ?_) | ((with_reducible apply Wp.obind); (with_reducible first | exact eqPat0 | exact avAgg_agg _ | exact extT_0 _ _ | exact extT_1 _ _ _)) | ((with_reducible refine Wp.ift ?_ ?_); first | (with_reducible rfl) | ((with_reducible first | apply decide_eq_true | apply bne_t); omega)) | ((with_reducible apply Wp.callN); (with_reducible exact hpp _ (by rw [Mx.ex]; exact hX))) | (with_reducible refine Wp.go1 (by assumption) ?_) | rw [newP_eq])
    exact Wp.ret (by rw [decide_eq_true (by omega)])
   ·have hun := fun (H : AHeap) (hx : H.ex = [57]) => pUnquote_w (n := n) (d := D + 311) (h := H) (u := u) (by omega) (by omega) (by rw [hx]; rfl) (by rw [hx]; rfl)
    have hpr := fun (H : AHeap) (hx : H.ex = [57]) => pPrint_ok (n := n) (h := H) (k := k') (l := l') hk' hl' (D := D + 320) (by omega) (by omega) (by rw [hx]; rfl) (by rw [hx]; rfl) (by rw [hx]; rfl) (fun {n D h} a b c => treeIs hl' hk' tp' a b c)
    rw [← hu'] at hpr
    have es := eqS_true.2 (rfl : u = u)
    by_cases h1 : k' = 1
    ·subst h1
     have hv : unquoteV u = (l', 0, 0) := by
      unfold unquoteV
      have : quotedQ u (-1) = .ok l' u.length := hqq
      rw [this]
      dsimp only
      rw [if_neg (Nat.lt_irrefl _)]
     rw [hv] at hun
     have es2 := eqS_true.2 (rfl : l' = l')
     repeat (first | (rw [es]) | (rw [es2]) | ((with_reducible apply Wp.obind); (with_reducible first | exact avInt_int _ _ | exact avStr_str _)) | ((with_reducible apply Wp.ld0 Mx); rfl) | ((with_reducible apply Wp.lr0 Mx); rfl) | ((with_reducible apply Wp.sa0 Mx); rfl; rfl; (rfl); intro _ Mz; clear Mx; have Mx := Mz; clear Mz) | ((with_reducible apply Wp.ld1 Mx); rfl) | ((with_reducible apply Wp.sa1 Mx); rfl; rfl; (rfl); intro _ Mz; clear Mx; have Mx := Mz; clear Mz) | ((with_reducible apply Wp.ld2 Mx); rfl) | ((with_reducible apply Wp.lr2 Mx); rfl) | ((with_reducible apply Wp.mnew Mx); intro _ Mz; clear Mx; have Mx := Mz; clear Mz) | (with_reducible refine Wp.join1 (fun _ _ => ?_)) | (with_reducible refine Wp.lett ?_) | ((with_reducible apply Wp.obind); (with_reducible first | exact eqSpotS _ _ | exact avAgg_agg _ | exact extT_0 _ _ | exact extT_1 _ _ _)) | ((with_reducible refine Wp.ift ?_ ?_); first | (with_reducible rfl) | ((with_reducible first | apply bne_t | apply beq_t); omega)) | ((with_reducible refine Wp.iff ?_ ?_); ((with_reducible apply bne_f); omega)) | ((with_reducible apply Wp.callN); (with_reducible first | exact hpp _ (by rw [Mx.ex]; exact hX) | exact hun _ (by rw [Mx.ex]; exact hX) | exact hpr _ (by rw [Mx.ex]; exact hX))) | (with_reducible refine Wp.go1 (by assumption) ?_) | rw [newP_eq])
     exact Wp.ret rfl
    ·repeat (first | (rw [es]) | ((with_reducible apply Wp.obind); (with_reducible first | exact avInt_int _ _ | exact avStr_str _)) | ((with_reducible apply Wp.ld0 Mx); rfl) | ((with_reducible apply Wp.sa0 Mx); rfl; rfl; (rfl); intro _ Mz; clear Mx; have Mx := Mz; clear Mz) | ((with_reducible apply Wp.ld1 Mx); rfl) | ((with_reducible apply Wp.sa1 Mx); rfl; rfl; (rfl); intro _ Mz; clear Mx; have Mx := Mz; clear Mz) | ((with_reducible apply Wp.ld2 Mx); rfl) | ((with_reducible apply Wp.lr2 Mx); rfl) | ((with_reducible apply Wp.mnew Mx); intro _ Mz; clear Mx; have Mx := Mz; clear Mz) | (with_reducible refine Wp.join1 (fun _ _ => ?_)) | (with_reducible refine Wp.lett ?_) | ((with_reducible apply Wp.obind); (with_reducible first | exact avAgg_agg _ | exact extT_0 _ _ | exact extT_1 _ _ _)) | ((with_reducible refine Wp.ift ?_ ?_); first | (with_reducible rfl) | ((with_reducible first | apply bne_t | apply beq_t); omega)) | ((with_reducible refine Wp.iff ?_ ?_); ((with_reducible apply bne_f); omega)) | ((with_reducible apply Wp.callN); (with_reducible first | exact hpp _ (by rw [Mx.ex]; exact hX) | exact hun _ (by rw [Mx.ex]; exact hX) | exact hpr _ (by rw [Mx.ex]; exact hX))) | (with_reducible refine Wp.go1 (by assumption) ?_) | rw [newP_eq])
     exact Wp.ret rfl
  refine Wp.iff rfl ?_
  exact fin _ Mx.tch
 ·have hpr := fun (H : AHeap) (hx : H.ex = [57]) => pPrint_ok (n := n) (h := H) (k := k) (l := l) hk hl6 (D := D + 320) (by omega) (by omega) (by rw [hx]; rfl) (by rw [hx]; rfl) (by rw [hx]; rfl) (fun {n D h} a b c => ht a b c)
  have hql := quoteB_len l
  have hfl := flat_len l
  have hbl : (printB k l).length ≤ 1000 := by
   unfold printB wordB'
   unfold flatL at hql
   rw [List.length_append]
   have h1 : wGlob.length = 5 := rfl
   have h2 : wRe.length = 3 := rfl
   split
   ·omega
   ·split
    ·omega
    ·simp
     omega
  have e1 : eqS (printB k l) [] = false := by
   rw [eqS_eq, beq_eq_false_iff_ne]
   intro hh
   have := congrArg List.length hh
   unfold printB at this
   rw [List.length_append, hql] at this
   simp at this
  have e2 : ((0 : Int) != 0) = false := rfl
  obtain ⟨k2, l2, ee2, q2, kp2, hp2⟩ := pParse_w (u := printB k l) (by omega)
  obtain ⟨rfl, rfl, rfl, rfl⟩ := parse_print hk hl6 tp kp2
  have hpp2 := fun (H : AHeap) (hx : H.ex = [57]) => hp2 (n := n) (D := D + 320) (h := H) (by omega) (by omega) (by rw [hx]; rfl) (by rw [hx]; rfl) (by rw [hx]; rfl)
  repeat (first | ((with_reducible apply Wp.obind); (with_reducible first | exact avBool_bool _ | exact avStr_str _ | exact fldP_ptr _ _ _)) | ((with_reducible apply Wp.ld0 Mx); rfl) | ((with_reducible apply Wp.lr0 Mx); rfl) | ((with_reducible apply Wp.mbox Mx); (rfl); intro _ Mz; clear Mx; have Mx := Mz; clear Mz) | ((with_reducible refine Wp.lettw ?_ ?_ ?_); omega; omega) | (with_reducible refine Wp.lett ?_) | ((with_reducible refine Wp.iff ?_ ?_); (with_reducible first | rfl | exact Bool.not_true)) | ((with_reducible apply Wp.callN); (with_reducible first | exact hwk _ | exact hlg _)))
  obtain ⟨c, T, h3, e3, kt, M3⟩ := ht (n := n) (D := D + 318) (h := _) (by omega) (by omega) (show memB TNode _ = false by rw [Mx.ex, hX]; rfl)
  refine Wp.callN e3 ?_
  have M4 := Mem.frameT (xs := []) (ys := []) Mx M3
  clear Mx
  refine Wp.obind (extT_0 _ _) (Wp.obind (avAgg_agg _) (Wp.obind (extT_1 _ _ _) (Wp.obind (avAgg_agg _) ?_)))
  refine Wp.mnew M4 fun h5 M5 => Wp.mnew M5 fun h6 M6 => ?_
  rw [newP_eq, newP_eq]
  refine Wp.sa1 M6 kt.len rfl kt.one fun h7 M7 => Wp.sa0 M7 rfl rfl rfl fun h8 M8 => ?_
  have Mx := M8
  clear M4 M5 M6 M7 M8
  repeat (first | (rw [e1]) | (rw [e2]) | ((with_reducible apply Wp.obind); (with_reducible first | exact avInt_int _ _ | exact avStr_str _)) | ((with_reducible apply Wp.ld0 Mx); rfl) | ((with_reducible apply Wp.lr2 Mx); rfl) | (with_reducible refine Wp.lett ?_) | ((with_reducible apply Wp.callN); (with_reducible exact hpr _ (by rw [Mx.ex]; exact hX))))
  refine Wp.iff rfl (Wp.lett (Wp.join0 fun k53 ek53 => ?_))
  have fin : ∀ H : AHeap, Tch [] h H → Wp (k53 H) fun r _ => r = .ret (.bool true) := by
   intro H tH
   have M0 : Abs.Mem [] h H [] := by
    refine ⟨?_, List.nodup_nil, tH⟩
    intro y hy
    cases hy
   refine Wp.go0 ek53 ?_
   have Mx := M0
   clear M0
   rcases parse_bounds kp with ⟨he', rfl, rfl, hq0, hq1⟩ | ⟨rfl, rfl, hk', hu', hl', ⟨t', tp'⟩, hqq⟩
   ·repeat (first | ((with_reducible apply Wp.obind); (with_reducible exact avInt_int _ _)) | ((with_reducible apply Wp.ld0 Mx); rfl) | ((with_reducible apply Wp.sa0 Mx); rfl; rfl; (rfl); intro _ Mz; clear Mx; have Mx := Mz; clear Mz) | ((with_reducible apply Wp.lr1 Mx); rfl) | ((with_reducible apply Wp.sa1 Mx); rfl; rfl; (rfl); intro _ Mz; clear Mx; have Mx := Mz; clear Mz) | ((with_reducible apply Wp.mnew Mx); intro _ Mz; clear Mx; have Mx := Mz; clear Mz) | (with_reducible refine Wp.join1 (fun _ _ => ?_)) | (with_reducible refine Wp.lett ?_) | ((with_reducible apply Wp.obind); (with_reducible first | exact eqPat0 | exact avAgg_agg _ | exact extT_0 _ _ | exact extT_1 _ _ _)) | ((with_reducible refine Wp.ift ?_ ?_); first | (with_reducible rfl) | ((with_reducible first | apply decide_eq_true | apply bne_t); omega)) | ((with_reducible apply Wp.callN); (with_reducible exact hpp _ (by rw [Mx.ex]; exact hX))) | (with_reducible refine Wp.go1 (by assumption) ?_) | rw [newP_eq])
    exact Wp.ret (by rw [decide_eq_true (by omega)])
   ·have hun := fun (H : AHeap) (hx : H.ex = [57]) => pUnquote_w (n := n) (d := D + 311) (h := H) (u := u) (by omega) (by omega) (by rw [hx]; rfl) (by rw [hx]; rfl)
    have hpr := fun (H : AHeap) (hx : H.ex = [57]) => pPrint_ok (n := n) (h := H) (k := k') (l := l') hk' hl' (D := D + 320) (by omega) (by omega) (by rw [hx]; rfl) (by rw [hx]; rfl) (by rw [hx]; rfl) (fun {n D h} a b c => treeIs hl' hk' tp' a b c)
    rw [← hu'] at hpr
    have es := eqS_true.2 (rfl : u = u)
    by_cases h1 : k' = 1
    ·subst h1
     have hv : unquoteV u = (l', 0, 0) := by
      unfold unquoteV
      have : quotedQ u (-1) = .ok l' u.length := hqq
      rw [this]
      dsimp only
      rw [if_neg (Nat.lt_irrefl _)]
     rw [hv] at hun
     have es2 := eqS_true.2 (rfl : l' = l')
     repeat (first | (rw [es]) | (rw [es2]) | ((with_reducible apply Wp.obind); (with_reducible first | exact avInt_int _ _ | exact avStr_str _)) | ((with_reducible apply Wp.ld0 Mx); rfl) | ((with_reducible apply Wp.lr0 Mx); rfl) | ((with_reducible apply Wp.sa0 Mx); rfl; rfl; (rfl); intro _ Mz; clear Mx; have Mx := Mz; clear Mz) | ((with_reducible apply Wp.ld1 Mx); rfl) | ((with_reducible apply Wp.sa1 Mx); rfl; rfl; (rfl); intro _ Mz; clear Mx; have Mx := Mz; clear Mz) | ((with_reducible apply Wp.ld2 Mx); rfl) | ((with_reducible apply Wp.lr2 Mx); rfl) | ((with_reducible apply Wp.mnew Mx); intro _ Mz; clear Mx; have Mx := Mz; clear Mz) | (with_reducible refine Wp.join1 (fun _ _ => ?_)) | (with_reducible refine Wp.lett ?_) | ((with_reducible apply Wp.obind); (with_reducible first | exact eqSpotS _ _ | exact avAgg_agg _ | exact extT_0 _ _ | exact extT_1 _ _ _)) | ((with_reducible refine Wp.ift ?_ ?_); first | (with_reducible rfl) | ((with_reducible first | apply bne_t | apply beq_t); omega)) | ((with_reducible refine Wp.iff ?_ ?_); first | (with_reducible assumption) | ((with_reducible apply bne_f); omega)) | ((with_reducible apply Wp.callN); (with_reducible first | exact hpp _ (by rw [Mx.ex]; exact hX) | exact hun _ (by rw [Mx.ex]; exact hX) | exact hpr _ (by rw [Mx.ex]; exact hX))) | (with_reducible refine Wp.go1 (by assumption) ?_) | rw [newP_eq])
     exact Wp.ret rfl
    ·repeat (first | (rw [es]) | ((with_reducible apply Wp.obind); (with_reducible first | exact avInt_int _ _ | exact avStr_str _)) | ((with_reducible apply Wp.ld0 Mx); rfl) | ((with_reducible apply Wp.sa0 Mx); rfl; rfl; (rfl); intro _ Mz; clear Mx; have Mx := Mz; clear Mz) | ((with_reducible apply Wp.ld1 Mx); rfl) | ((with_reducible apply Wp.sa1 Mx); rfl; rfl; (rfl); intro _ Mz; clear Mx; have Mx := Mz; clear Mz) | ((with_reducible apply Wp.ld2 Mx); rfl) | ((with_reducible apply Wp.lr2 Mx); rfl) | ((with_reducible apply Wp.mnew Mx); intro _ Mz; clear Mx; have Mx := Mz; clear Mz) | (with_reducible refine Wp.join1 (fun _ _ => ?_)) | (with_reducible refine Wp.lett ?_) | ((with_reducible apply Wp.obind); (with_reducible first | exact avAgg_agg _ | exact extT_0 _ _ | exact extT_1 _ _ _)) | ((with_reducible refine Wp.ift ?_ ?_); first | (with_reducible rfl) | ((with_reducible first | apply bne_t | apply beq_t); omega)) | ((with_reducible refine Wp.iff ?_ ?_); (with_reducible assumption)) | ((with_reducible apply Wp.callN); (with_reducible first | exact hpp _ (by rw [Mx.ex]; exact hX) | exact hun _ (by rw [Mx.ex]; exact hX) | exact hpr _ (by rw [Mx.ex]; exact hX))) | (with_reducible refine Wp.go1 (by assumption) ?_) | rw [newP_eq])
     exact Wp.ret rfl
  clear ek53
  refine Wp.ift rfl ?_
  repeat (first | ((with_reducible apply Wp.lr0 Mx); rfl) | ((with_reducible apply Wp.sa0 Mx); rfl; rfl; (rfl); intro _ Mz; clear Mx; have Mx := Mz; clear Mz) | ((with_reducible apply Wp.lr1 Mx); rfl) | ((with_reducible apply Wp.sa1 Mx); rfl; rfl; (rfl); intro _ Mz; clear Mx; have Mx := Mz; clear Mz) | ((with_reducible apply Wp.lr4 Mx); rfl) | ((with_reducible apply Wp.mnew Mx); intro _ Mz; clear Mx; have Mx := Mz; clear Mz) | (with_reducible refine Wp.join1 (fun _ _ => ?_)) | (with_reducible refine Wp.lett ?_) | ((with_reducible apply Wp.obind); (with_reducible first | exact eqPatS _ _ | exact eqSpotS _ _ | exact avAgg_agg _ | exact extT_0 _ _ | exact extT_1 _ _ _)) | ((with_reducible refine Wp.iff ?_ ?_); (with_reducible exact Bool.not_true)) | ((with_reducible apply Wp.callN); (with_reducible exact hpp2 _ (by rw [Mx.ex]; exact hX))) | (with_reducible refine Wp.go1 (by assumption) ?_) | rw [newP_eq])
  exact fin _ Mx.tch
end Go.Proofs.Yteibdplpbcobbaa
