/- What patternTrees_proved stands on, part 8 of 8. -/
import Derived.Test.YteibdplpbcobbaaPt7
namespace Go.Proofs.Yteibdplpbcobbaa
open Go.RowKit Abs
section
variable {n d i j q : Nat} {h h0 H : AHeap} {u : Bytes} {l : List Nd} {r : Res} {t : Nd} {w : List Nat} {S : List Nat} {c : List AV} {kc : List (List AV)} {kv : AV} {T T0 T1 : List RowT} {Q : ARes → AHeap → Prop}
theorem Wp.nodeGrow1 {K : AV → AHeap → R} {y : RowT} (M : Mem S h0 h ((y :: (T0 ++ T1)) ++ T)) (g : GrowT TNode 6 kc kv T0) (ks : KidsT l kc T1) (kt : NodeT t c T) (hex : memB TNode h0.ex = false) (hl : l.length ≤ 1000001)
  (hk : ∀ kv' h' T0', GrowT TNode 6 (kc ++ [c]) kv' T0' → KidsT (l ++ [t]) (kc ++ [c]) (T1 ++ T) → Mem S h0 h' (y :: (T0' ++ (T1 ++ T))) → Wp (K kv' h') Q) :
  Wp (outK (bldSl Try.prog h TNodes 1 [(0, .agg c)]) fun v12 h29 => outK (opAppend Try.prog h29 TNodes TNodes kv v12) fun v13 h31 => K v13 h31) Q := by
 refine Wp.mnews M (kt.bld h) kt.one hex fun h1 M1 => ?_
 have M2 : Mem S h0 h1 ((h.next, TNode, c) :: (y :: (T1 ++ T)) ++ T0) := M1.perm (by
  refine List.Perm.cons _ (List.Perm.cons _ ?_)
  show ((T1 ++ T) ++ T0).Perm ((T0 ++ T1) ++ T)
  rw [List.append_assoc T0]
  exact List.perm_append_comm)
 have hkl := ks.len
 refine Wp.grow M2 g (by kernel_rfl) (by kernel_rfl) (by kernel_rfl) (B := 64) (by kernel_rfl) hex kt.len kt.one (by omega) (by omega) fun kv' h' T0' g' M3 => ?_
 refine hk kv' h' T0' g' (KidsT.snoc kt ks) (M3.perm ?_)
 exact List.Perm.cons _ List.perm_append_comm
theorem lit_loop {k8 : AV → AHeap → R} {z : List AV} (hu : u.length ≤ 1000000) (hx : memB TNode h.ex = false) : ∀ {l : List Nd} {i : Nat} {r : Res}, FlatP (partL u) u l i r → i ≤ u.length → ∀ {f : Nat} {H : AHeap} {kc : List (List AV)} {kv : AV} {T0 T1 : List RowT}, u.length - i < f → GrowT TNode 6 kc kv T0 → KidsT l kc T1 → l.length ≤ i → Mem [] h H ((h.next, TNode, z) :: (T0 ++ T1)) →
  (∀ l' kc kv T0 T1 H', dropJ r = .ok (joinN 3 l') → GrowT TNode 6 kc kv T0 → KidsT l' kc T1 → Mem [] h H' ((h.next, TNode, z) :: (T0 ++ T1)) → Wp (k8 kv H') Q) →
  Wp (ref09_literal_L0 (world n (d + 1)) u k8 f kv (i : Int) H) Q
 | l, i, _, .stop s, hi, f, H, kc, kv, T0, T1, hf, g, ks, hl, M, hok => by
  obtain ⟨f, rfl⟩ : ∃ f', f = f' + 1 := ⟨f - 1, by omega⟩
  have ll := lenS_nat u
  rw [ref09_literal_L0_s]
  unfold ref09_literal_L0b
  repeat (first | (with_reducible refine Wp.lett ?_) | ((with_reducible refine Wp.iff ?_ ?_); ((with_reducible apply decide_eq_false); omega)))
  exact hok _ kc kv T0 T1 H rfl g ks M
 | l, i, _, .bad s hb, _, _, _, _, _, _, _, _, _, _, _, _, _ => by
  unfold partL at hb
  rw [at?_lt s] at hb
  cases hb
 | l, i, r, .more (j := j) s hb m, hi, f, H, kc, kv, T0, T1, hf, g, ks, hl, M, hok => by
  obtain ⟨f, rfl⟩ : ∃ f', f = f' + 1 := ⟨f - 1, by omega⟩
  have ll := lenS_nat u
  unfold partL at hb
  rw [at?_lt s] at hb
  cases hb
  have hx1 := idxS_nat (l := u) s
  rw [ref09_literal_L0_s]
  unfold ref09_literal_L0b
  repeat (first | (with_reducible refine Wp.lett ?_) | ((with_reducible apply Wp.obind); (with_reducible first | exact hx1 | exact avAgg_agg _)) | ((with_reducible refine Wp.ift ?_ ?_); ((with_reducible apply decide_eq_true); omega)) | ((with_reducible apply Wp.callN); (with_reducible exact One_w (UInt8.toNat_lt _))))
  have kt : ∀ c, NodeT (oneN c) (nodeC 2 (spanW zeroW c 1) .nsl) [] := fun c => NodeT.leaf 2 (spanW_ok 1 zeroW_ok c)
  refine Wp.nodeGrow1 (T := []) (by rw [List.append_nil]; exact M) g ks (kt _) hx (by omega) fun kv' h' T0' g' ks' M5 => ?_
  repeat (((with_reducible refine Wp.lettw ?_ ?_ ?_); omega; omega))
  rw [show (i : Int) + 1 = ((i + 1 : Nat) : Int) by omega]
  exact lit_loop hu hx m (by omega) (by omega) g' ks' (by simp; omega) M5 hok
theorem lit_w (hu : u.length ≤ 1000000) (hn2 : u.length < n) (hx : memB TNode h.ex = false) (k : FlatP (partL u) u [] 0 r) : ∃ t c T h', dropJ r = .ok t ∧ world n (d + 2) 41 [strA u] h = some (.ret (.agg c), h') ∧ NodeT t c T ∧ Mem [] h h' T := by
 rw [w_ref09_literal]
 have main : ∃ t c T h', dropJ r = .ok t ∧ ref09_literal (world n (d + 1)) n u h = some (.ret (.agg c), h') ∧ NodeT t c T ∧ Mem [] h h' T := by
  suffices hK : Wp (ref09_literal (world n (d + 1)) n u h) fun v h' => ∃ t c T, dropJ r = .ok t ∧ v = .ret (.agg c) ∧ NodeT t c T ∧ Mem [] h h' T by
   obtain ⟨_, h', e, t, c, T, h1, rfl, h2, h3⟩ := hK
   exact ⟨t, c, T, h', h1, e, h2, h3⟩
  unfold ref09_literal
  refine Wp.mnew (Mem.nil [] h) fun h1 M1 => ?_
  ((with_reducible refine Wp.join1 (fun _ _ => ?_)))
  rename_i k8 ek8
  refine lit_loop (i := 0) hu hx k (Nat.zero_le _) (by omega) (GrowT.nil _ _) .nil (Nat.le_refl _) M1 fun l' kc kv T0 T1 H' hr g ks M2 => ?_
  refine Wp.go1 ek8 ?_
  obtain ⟨c, T, h2, e2, kt, M3⟩ := Over_r (n := n) (d := d) 3 (xs := [_]) M2 g ks
  refine Wp.callN e2 (Wp.obind (avAgg_agg _) ?_)
  rw [newP_eq]
  refine Wp.sa0 M3 kt.len rfl kt.one fun h3 M4 => ?_
  refine Wp.lr0 M4 kt.len ?_
  exact Wp.ret ⟨_, c, T, hr, rfl, kt, M4.pop⟩
 obtain ⟨t, c, T, h', h1, e, kt, M⟩ := main
 suffices hK : Wp (gcR h (ref09_literal (world n (d + 1)) n u h)) fun r h' => ∃ T, r = .ret (.agg c) ∧ NodeT t c T ∧ Mem [] h h' T by
  obtain ⟨_, h', e, T, rfl, k1, k2⟩ := hK
  exact ⟨t, c, T, h', h1, e, k1, k2⟩
 refine Wp.gc2 ⟨_, h', e, ⟨T, rfl, kt, M⟩, fun _ hl => ?_⟩
 have hT : T = [] := kt.low (fun y hy => (M.row y hy).2.2.resolve_left (by simp)) hl
 subst hT
 exact ⟨[], rfl, kt, Mem.nil _ _⟩
theorem glob_loop {k8 : AV → AHeap → R} {z : List AV} (hu : u.length ≤ 1000000) (hz : z.length = 6) (hn : 300 < n) (hx : memB TNode h.ex = false) : ∀ {l : List Nd} {i : Nat} {r : Res}, FlatP (partG u) u l i r → i ≤ u.length → ∀ {f : Nat} {H : AHeap} {kc : List (List AV)} {kv : AV} {T0 T1 : List RowT}, u.length - i < f → GrowT TNode 6 kc kv T0 → KidsT l kc T1 → l.length ≤ i → Mem [] h H ((h.next, TNode, z) :: (T0 ++ T1)) →
  (∀ l' kc kv T0 T1 H', dropJ r = .ok (joinN 3 l') → GrowT TNode 6 kc kv T0 → KidsT l' kc T1 → Mem [] h H' ((h.next, TNode, z) :: (T0 ++ T1)) → Wp (k8 kv H') Q) →
  (∀ q H', r = .error q → q = u.length → Tch [] h H' → Q (.ret (.tup [.agg (nodeC 0 zeroW .nsl), .bool false])) H') →
  Wp (ref09_glob_L0 (world n (d + 1)) u h k8 f kv (i : Int) H) Q
 | l, i, _, .stop s, hi, f, H, kc, kv, T0, T1, hf, g, ks, hl, M, hok, hbad => by
  obtain ⟨f, rfl⟩ : ∃ f', f = f' + 1 := ⟨f - 1, by omega⟩
  have ll := lenS_nat u
  rw [ref09_glob_L0_s]
  unfold ref09_glob_L0b
  repeat (first | (with_reducible refine Wp.lett ?_) | ((with_reducible refine Wp.iff ?_ ?_); ((with_reducible apply decide_eq_false); omega)))
  exact hok _ kc kv T0 T1 H rfl g ks M
 | l, i, _, .bad (q := q) s hb, hi, f, H, kc, kv, T0, T1, hf, g, ks, hl, M, hok, hbad => by
  obtain ⟨f, rfl⟩ : ∃ f', f = f' + 1 := ⟨f - 1, by omega⟩
  have ll := lenS_nat u
  have hx1 := idxS_nat (l := u) s
  unfold partG at hb
  rw [at?_lt s] at hb
  generalize hc : (u[i]).toNat = c at hb hx1
  dsimp only at hb
  split at hb
  ·cases hb
  split at hb
  ·cases hb
  split at hb
  ·rename_i h92
   subst h92
   split at hb
   ·rename_i he
    cases hb
    have hl1 := at?_none he (by omega)
    rw [ref09_glob_L0_s]
    unfold ref09_glob_L0b
    repeat (first | (with_reducible refine Wp.join1 (fun _ _ => ?_)) | ((with_reducible refine Wp.lettw ?_ ?_ ?_); omega; omega) | (with_reducible refine Wp.lett ?_) | ((with_reducible apply Wp.obind); (with_reducible exact hx1)) | ((with_reducible refine Wp.ift ?_ ?_); ((with_reducible first | apply decide_eq_true | apply beq_t); omega)) | (with_reducible refine Wp.go1 (by assumption) ?_) | rw [newP_eq])
    refine Wp.sa0 M rfl hz rfl fun h5 M4 => ?_
    refine Wp.lr0 M4 rfl ?_
    exact Wp.ret (hbad _ _ rfl hl1 M4.tch)
   ·cases hb
  ·cases hb
 | l, i, r, .more (j := j) s hb m, hi, f, H, kc, kv, T0, T1, hf, g, ks, hl, M, hok, hbad => by
  obtain ⟨f, rfl⟩ : ∃ f', f = f' + 1 := ⟨f - 1, by omega⟩
  have ll := lenS_nat u
  have hx1 := idxS_nat (l := u) s
  have kt : ∀ c, NodeT (oneN c) (nodeC 2 (spanW zeroW c 1) .nsl) [] := fun c => NodeT.leaf 2 (spanW_ok 1 zeroW_ok c)
  have kta : NodeT anyN (nodeC 2 anyW .nsl) [] := NodeT.leaf 2 anyW_ok
  have c256 : (u[i]).toNat < 256 := UInt8.toNat_lt _
  unfold partG at hb
  rw [at?_lt s] at hb
  generalize hc : (u[i]).toNat = c at hb hx1 c256
  dsimp only at hb
  split at hb
  ·rename_i h42
   subst h42
   cases hb
   rw [ref09_glob_L0_s]
   unfold ref09_glob_L0b
   repeat (first | (with_reducible first | refine Wp.join1 (fun _ _ => ?_) | refine Wp.join2 (fun _ _ => ?_)) | (with_reducible refine Wp.lett ?_) | ((with_reducible apply Wp.obind); (with_reducible first | exact hx1 | exact avAgg_agg _)) | ((with_reducible refine Wp.ift ?_ ?_); ((with_reducible first | apply decide_eq_true | apply beq_t); omega)) | ((with_reducible refine Wp.iff ?_ ?_); first | (with_reducible rfl) | ((with_reducible apply beq_f); omega)) | ((with_reducible apply Wp.callN); (with_reducible exact All_w hn)) | (with_reducible refine Wp.go1 (by assumption) ?_))
   refine Wp.mnews M (kta.bld _) kta.one hx fun h66 M2 => ?_
   refine Wp.obind (bldOver1 _ _ _) ?_
   have kt' := signed kta 5 H.next
   have M3 : Mem [] h h66 (((h.next, TNode, z) :: (T0 ++ T1)) ++ ([(H.next, TNode, nodeC 2 anyW .nsl)] ++ ([] ++ []))) := M2.perm (by
    rw [List.append_nil, List.append_nil]
    exact List.perm_append_comm)
   refine Wp.nodeGrow1 M3 g ks kt' hx (by omega) fun kv' h' T0' g' ks' M5 => ?_
   repeat (first | ((with_reducible refine Wp.lettw ?_ ?_ ?_); omega; omega) | (with_reducible first | refine Wp.go1 (by assumption) ?_ | refine Wp.go2 (by assumption) ?_))
   rw [show (i : Int) + 1 = ((i + 1 : Nat) : Int) by omega]
   exact glob_loop hu hz hn hx m (by omega) (by omega) g' ks' (by simp; omega) M5 hok hbad
  split at hb
  ·rename_i h63
   subst h63
   cases hb
   rw [ref09_glob_L0_s]
   unfold ref09_glob_L0b
   repeat (first | (with_reducible first | refine Wp.join1 (fun _ _ => ?_) | refine Wp.join2 (fun _ _ => ?_)) | (with_reducible refine Wp.lett ?_) | ((with_reducible apply Wp.obind); (with_reducible first | exact hx1 | exact avAgg_agg _)) | ((with_reducible refine Wp.ift ?_ ?_); ((with_reducible first | apply decide_eq_true | apply beq_t); omega)) | ((with_reducible refine Wp.iff ?_ ?_); first | (with_reducible rfl) | ((with_reducible apply beq_f); omega)) | ((with_reducible apply Wp.callN); (with_reducible exact All_w hn)) | (with_reducible refine Wp.go1 (by assumption) ?_))
   refine Wp.nodeGrow1 (T := []) (by rw [List.append_nil]; exact M) g ks kta hx (by omega) fun kv' h' T0' g' ks' M5 => ?_
   repeat (first | ((with_reducible refine Wp.lettw ?_ ?_ ?_); omega; omega) | (with_reducible first | refine Wp.go1 (by assumption) ?_ | refine Wp.go2 (by assumption) ?_))
   rw [show (i : Int) + 1 = ((i + 1 : Nat) : Int) by omega]
   exact glob_loop hu hz hn hx m (by omega) (by omega) g' ks' (by simp; omega) M5 hok hbad
  split at hb
  ·rename_i h92
   subst h92
   split at hb
   ·cases hb
   ·rename_i e he
    cases hb
    obtain ⟨hl1, he1⟩ := at?_some he
    have e256 := at?_256 he
    have hx2 := idxS_nat (l := u) hl1
    rw [he1, show ((i + 1 : Nat) : Int) = (i : Int) + 1 by omega] at hx2
    rw [ref09_glob_L0_s]
    unfold ref09_glob_L0b
    repeat (first | (with_reducible first | refine Wp.join1 (fun _ _ => ?_) | refine Wp.join2 (fun _ _ => ?_)) | ((with_reducible refine Wp.lettw ?_ ?_ ?_); omega; omega) | (with_reducible refine Wp.lett ?_) | ((with_reducible apply Wp.obind); (with_reducible first | exact hx1 | exact hx2 | exact avAgg_agg _)) | ((with_reducible refine Wp.ift ?_ ?_); ((with_reducible first | apply decide_eq_true | apply beq_t); omega)) | ((with_reducible refine Wp.iff ?_ ?_); ((with_reducible apply beq_f); omega)) | ((with_reducible apply Wp.callN); (with_reducible exact One_w e256)) | (with_reducible refine Wp.go1 (by assumption) ?_))
    refine Wp.nodeGrow1 (T := []) (by rw [List.append_nil]; exact M) g ks (kt _) hx (by omega) fun kv' h' T0' g' ks' M5 => ?_
    repeat (first | ((with_reducible refine Wp.lettw ?_ ?_ ?_); omega; omega) | (with_reducible refine Wp.go2 (by assumption) ?_))
    rw [show (i : Int) + 1 + 1 = ((i + 2 : Nat) : Int) by omega]
    exact glob_loop hu hz hn hx m (by omega) (by omega) g' ks' (by simp; omega) M5 hok hbad
  ·cases hb
   rw [ref09_glob_L0_s]
   unfold ref09_glob_L0b
   repeat (first | (with_reducible first | refine Wp.join1 (fun _ _ => ?_) | refine Wp.join2 (fun _ _ => ?_)) | (with_reducible refine Wp.lett ?_) | ((with_reducible apply Wp.obind); (with_reducible first | exact hx1 | exact avAgg_agg _)) | ((with_reducible refine Wp.ift ?_ ?_); ((with_reducible first | apply decide_eq_true | apply beq_t); omega)) | ((with_reducible refine Wp.iff ?_ ?_); first | (with_reducible rfl) | ((with_reducible apply beq_f); omega)) | ((with_reducible apply Wp.callN); (with_reducible exact One_w c256)) | (with_reducible refine Wp.go1 (by assumption) ?_))
   refine Wp.nodeGrow1 (T := []) (by rw [List.append_nil]; exact M) g ks (kt _) hx (by omega) fun kv' h' T0' g' ks' M5 => ?_
   repeat (first | ((with_reducible refine Wp.lettw ?_ ?_ ?_); omega; omega) | (with_reducible first | refine Wp.go1 (by assumption) ?_ | refine Wp.go2 (by assumption) ?_))
   rw [show (i : Int) + 1 = ((i + 1 : Nat) : Int) by omega]
   exact glob_loop hu hz hn hx m (by omega) (by omega) g' ks' (by simp; omega) M5 hok hbad
def OutG (h : AHeap) (x : R) (u : Bytes) : Except Nat Nd → Prop
 | .ok t => ∃ c T h', x = some (.ret (.tup [.agg c, .bool true]), h') ∧ NodeT t c T ∧ Mem [] h h' T
 | .error q => q = u.length ∧ x = some (.ret (.tup [.agg (nodeC 0 zeroW .nsl), .bool false]), h)
def RawG (h : AHeap) (u : Bytes) : Except Nat Nd → ARes → AHeap → Prop
 | .ok t, v, h' => ∃ c T, v = .ret (.tup [.agg c, .bool true]) ∧ NodeT t c T ∧ Mem [] h h' T
 | .error q, v, h' => q = u.length ∧ v = .ret (.tup [.agg (nodeC 0 zeroW .nsl), .bool false]) ∧ Tch [] h h'
theorem OutG.gc {r : Except Nat Nd} {x : R} (k : Wp x (RawG h u r)) : OutG h (gcR h x) u r := by
 cases r with
 | error q =>
  obtain ⟨v, h', e, hq, e2, t⟩ := k
  refine ⟨hq, ?_⟩
  apply Wp.eq
  exact Wp.gc ⟨v, h', e, t.above, by rw [e2]; rfl, e2, rfl⟩
 | ok t =>
  obtain ⟨v, h', e, c, T, rfl, kt, M⟩ := k
  suffices hK : Wp (gcR h x) fun r h' => ∃ T, r = .ret (.tup [.agg c, .bool true]) ∧ NodeT t c T ∧ Mem [] h h' T by
   obtain ⟨_, h', e, T, rfl, k1, k2⟩ := hK
   exact ⟨c, T, h', e, k1, k2⟩
  refine Wp.gc2 ⟨_, h', e, ⟨T, rfl, kt, M⟩, fun _ hl => ?_⟩
  have h1 : AV.loL h.next c = true := by
   have : (AV.loL h.next c && (true && AV.loL h.next [])) = true := hl
   rw [Bool.and_eq_true] at this
   exact this.1
  have hT : T = [] := kt.low (fun y hy => (M.row y hy).2.2.resolve_left (by simp)) h1
  subst hT
  exact ⟨[], rfl, kt, Mem.nil _ _⟩
theorem glob_w (hu : u.length ≤ 1000000) (hn : 300 < n) (hn2 : u.length < n) (hx : memB TNode h.ex = false) (k : FlatP (partG u) u [] 0 r) : OutG h (world n (d + 2) 42 [strA u] h) u (dropJ r) := by
 rw [w_ref09_glob]
 refine OutG.gc ?_
 unfold ref09_glob
 refine Wp.mnew (Mem.nil [] h) fun h1 M1 => ?_
 ((with_reducible refine Wp.join1 (fun _ _ => ?_)))
 rename_i k8 ek8
 refine glob_loop (i := 0) hu rfl hn hx k (Nat.zero_le _) (by omega) (GrowT.nil _ _) .nil (Nat.le_refl _) M1 (fun l' kc kv T0 T1 H' hr g ks M2 => ?_) fun q H' hr hq ht => ?_
 ·refine Wp.go1 ek8 ?_
  obtain ⟨c, T, h2, e2, kt, M3⟩ := Over_r (n := n) (d := d) 3 (xs := [_]) M2 g ks
  refine Wp.callN e2 (Wp.obind (avAgg_agg _) ?_)
  rw [newP_eq]
  refine Wp.sa0 M3 kt.len rfl kt.one fun h3 M4 => ?_
  refine Wp.lr0 M4 kt.len ?_
  rw [hr]
  exact Wp.ret ⟨c, T, rfl, kt, M4.pop⟩
 ·subst hr
  exact ⟨hq, rfl, ht⟩
end
section
variable {a u : Bytes} {k : Nat}
end
section
variable {a b u : Bytes} {x y : Nd}
end
theorem szL_snoc : ∀ (l : List Nd) (t : Nd), szL (l ++ [t]) = szL l + t.sz + 1
 | [], t => by
  simp only [List.nil_append, szL]
  omega
 | k :: l, t => by
  rw [List.cons_append, szL, szL_snoc l t, szL]
  omega
theorem joinN_sz (op : Nat) : ∀ l : List Nd, (joinN op l).sz ≤ szL l + 1
 | [] => Nat.le_add_left 1 _
 | [t] => by
  rw [szL, szL]
  show t.sz ≤ _
  omega
 | _ :: _ :: _ => Nat.le_refl _
section
variable {a : Bytes}
mutual
theorem altP_sz : ∀ {l : List Nd} {i : Nat} {r : Res}, AltP a l i r → ∀ t j, r = .ok (t, j) → i ≤ a.length → t.sz ≤ szL l + 6 * (j - i) + (if l = [] then 1 else 3)
 | _, _, _, .bad h, t, j, e, hi => by cases e
 | l, _, _, .last h n, t, j, e, hi => by
  have h1 := rowP_sz h _ _ rfl hi
  rw [szL] at h1
  cases e
  by_cases hl : l = []
  ·subst hl
   rw [if_pos rfl]
   show Nd.sz _ ≤ _
   simp only [List.nil_append, joinN, szL]
   omega
  ·rw [if_neg hl]
   refine Nat.le_trans (joinN_sz 4 _) ?_
   rw [szL_snoc]
   omega
 | l, _, _, .more h n m, t, j, e, hi => by
  obtain ⟨hp, _⟩ := at?_some n
  have h1 := rowP_sz h _ _ rfl hi
  obtain ⟨c1, _⟩ := rowP_bnd h hi
  rw [szL] at h1
  have h2 := altP_sz m t j e (by omega)
  have hb := altP_bnd m (by omega)
  subst e
  obtain ⟨c2, _⟩ := hb
  rw [if_neg (by simp), szL_snoc] at h2
  split <;> omega
termination_by structural _ _ _ x => x
theorem rowP_sz : ∀ {l : List Nd} {i : Nat} {r : Res}, RowP a l i r → ∀ t j, r = .ok (t, j) → i ≤ a.length → t.sz ≤ szL l + 6 * (j - i) + 1
 | l, _, _, .stop h, t, j, e, hi => by
  cases e
  have := joinN_sz 3 l
  omega
 | _, _, _, .bad _ h, t, j, e, hi => by cases e
 | l, _, _, .more n h m, t, j, e, hi => by
  obtain ⟨b1, b2⟩ := partP_bnd h hi
  have h1 := partP_sz h _ _ rfl hi
  have h2 := rowP_sz m t j e b2
  have hb := rowP_bnd m b2
  subst e
  obtain ⟨c2, _⟩ := hb
  rw [szL_snoc] at h2
  omega
termination_by structural _ _ _ x => x
theorem partP_sz : ∀ {i : Nat} {r : Res}, PartP a i r → ∀ t j, r = .ok (t, j) → i ≤ a.length → t.sz + 3 ≤ 6 * (j - i)
 | _, _, .bad h, t, j, e, hi => by cases e
 | _, _, .bare h n, t, j, e, hi => atomP_sz h t j e hi
 | _, _, .sign h n, t, j, e, hi => by
  obtain ⟨b1, b2⟩ := atomP_bnd h hi
  have h1 := atomP_sz h _ _ rfl hi
  cases e
  simp only [overN, Nd.sz, szL]
  omega
termination_by structural _ _ x => x
theorem atomP_sz : ∀ {i : Nat} {r : Res}, AtomP a i r → ∀ t j, r = .ok (t, j) → i ≤ a.length → t.sz + 3 ≤ 6 * (j - i)
 | _, _, .none _, t, j, e, hi => by cases e
 | _, _, .open_bad h m, t, j, e, hi => by cases e
 | _, _, .open_end h m _, t, j, e, hi => by cases e
 | _, _, .group h m n, t, j, e, hi => by
  obtain ⟨hp, _⟩ := at?_some h
  have h1 := altP_sz m _ _ rfl (by omega)
  obtain ⟨b1, _⟩ := altP_bnd m (by omega)
  rw [if_pos rfl, szL] at h1
  cases e
  omega
 | _, _, .any h, t, j, e, hi => by
  cases e
  simp only [anyN, Nd.sz, szL]
  omega
 | _, _, .set_bad h m, t, j, e, hi => by cases e
 | _, _, .set h m, t, j, e, hi => by
  obtain ⟨hp, _⟩ := at?_some h
  obtain ⟨b1, b2⟩ := setP_okb m (by omega)
  cases e
  simp only [Nd.sz, szL]
  omega
 | _, _, .sl_end h _, t, j, e, hi => by cases e
 | _, _, .sl h n, t, j, e, hi => by
  cases e
  simp only [oneN, Nd.sz, szL]
  omega
 | _, _, .bad h _, t, j, e, hi => by cases e
 | _, _, .one h b n, t, j, e, hi => by
  cases e
  simp only [oneN, Nd.sz, szL]
  omega
termination_by structural _ _ x => x
end
theorem altP_small {t : Nd} {j : Nat} (h : AltP a [] 0 (.ok (t, j))) : t.sz ≤ 6 * a.length + 1 := by
 have h1 := altP_sz h t j rfl (Nat.zero_le _)
 obtain ⟨_, b2⟩ := altP_bnd h (Nat.zero_le _)
 rw [if_pos rfl, szL] at h1
 omega
end
section
variable {N : Nat} {h : AHeap} {x : AV} {K : List (List AV)}
end
section
variable {S : List Nat} {h h0 : AHeap} {xs T : List RowT} {l : Bytes} {v : AV} {Q : ARes → AHeap → Prop}
end
end Go.Proofs.Yteibdplpbcobbaa
namespace Go.Proofs.Yteibdplpbcobbaa
open Go.RowKit Abs
end Go.Proofs.Yteibdplpbcobbaa
namespace Go.Proofs.Yteibdplpbcobbaa
open Go.RowKit Abs
theorem tree_long {u : Bytes} (l : 64 < u.length) {kind : Int} (hk : kind = 1 ∨ kind = 2 ∨ kind = 3) {n D : Nat} {h : AHeap} : world n (D + 1) 21 [.agg [.int .i64 kind, strA u]] h = some (.ret (.tup [.agg (nodeC 0 zeroW .nsl), .agg [.int .i64 3, .int .i64 64]]), h) := by
 rcases hk with rfl | rfl | rfl
 ·apply Wp.eq
  rw [w_pattern_Tree]
  refine Wp.gc ?_
  suffices hK : Wp (pattern_Tree (world n D) n [.int .i64 1, strA u] h) fun r h' => r = .ret (.tup [.agg (nodeC 0 zeroW .nsl), .agg [.int .i64 3, .int .i64 64]]) ∧ Tch [] h h' from hK.mono fun r h' ⟨e, t⟩ => ⟨t.above, by rw [e]; rfl, e, rfl⟩
  unfold pattern_Tree
  have ll := lenS_nat u
  have Mx := Mem.nil [] h
  repeat (first | ((with_reducible apply Wp.obind); (with_reducible first | exact avInt_int _ _ | exact avStr_str _ | exact fldP_ptr _ _ _)) | ((with_reducible apply Wp.lr0 Mx); rfl) | ((with_reducible apply Wp.sa0 Mx); rfl; rfl; (rfl); intro _ Mz; clear Mx; have Mx := Mz; clear Mz) | ((with_reducible apply Wp.lr1 Mx); rfl) | ((with_reducible apply Wp.sa1 Mx); rfl; rfl; (rfl); intro _ Mz; clear Mx; have Mx := Mz; clear Mz) | ((with_reducible apply Wp.ld2 Mx); rfl) | ((with_reducible apply Wp.mnew Mx); intro _ Mz; clear Mx; have Mx := Mz; clear Mz) | ((with_reducible apply Wp.mbox Mx); (rfl); intro _ Mz; clear Mx; have Mx := Mz; clear Mz) | (with_reducible refine Wp.join1 (fun _ _ => ?_)) | (with_reducible refine Wp.lett ?_) | ((with_reducible refine Wp.ift ?_ ?_); ((with_reducible first | apply decide_eq_true | apply bne_t); omega)) | ((with_reducible refine Wp.iff ?_ ?_); first | (with_reducible rfl) | ((with_reducible apply bne_f); omega)) | (with_reducible refine Wp.go1 (by assumption) ?_) | rw [newP_eq])
  exact Wp.ret ⟨rfl, Mx.tch⟩
 ·apply Wp.eq
  rw [w_pattern_Tree]
  refine Wp.gc ?_
  suffices hK : Wp (pattern_Tree (world n D) n [.int .i64 2, strA u] h) fun r h' => r = .ret (.tup [.agg (nodeC 0 zeroW .nsl), .agg [.int .i64 3, .int .i64 64]]) ∧ Tch [] h h' from hK.mono fun r h' ⟨e, t⟩ => ⟨t.above, by rw [e]; rfl, e, rfl⟩
  unfold pattern_Tree
  have ll := lenS_nat u
  have Mx := Mem.nil [] h
  repeat (first | ((with_reducible apply Wp.obind); (with_reducible first | exact avInt_int _ _ | exact avStr_str _ | exact fldP_ptr _ _ _)) | ((with_reducible apply Wp.lr0 Mx); rfl) | ((with_reducible apply Wp.sa0 Mx); rfl; rfl; (rfl); intro _ Mz; clear Mx; have Mx := Mz; clear Mz) | ((with_reducible apply Wp.lr1 Mx); rfl) | ((with_reducible apply Wp.sa1 Mx); rfl; rfl; (rfl); intro _ Mz; clear Mx; have Mx := Mz; clear Mz) | ((with_reducible apply Wp.ld2 Mx); rfl) | ((with_reducible apply Wp.mnew Mx); intro _ Mz; clear Mx; have Mx := Mz; clear Mz) | ((with_reducible apply Wp.mbox Mx); (rfl); intro _ Mz; clear Mx; have Mx := Mz; clear Mz) | (with_reducible refine Wp.join1 (fun _ _ => ?_)) | (with_reducible refine Wp.lett ?_) | ((with_reducible refine Wp.ift ?_ ?_); ((with_reducible first | apply decide_eq_true | apply bne_t); omega)) | ((with_reducible refine Wp.iff ?_ ?_); first | (with_reducible rfl) | ((with_reducible apply bne_f); omega)) | (with_reducible refine Wp.go1 (by assumption) ?_) | rw [newP_eq])
  exact Wp.ret ⟨rfl, Mx.tch⟩
 ·apply Wp.eq
  rw [w_pattern_Tree]
  refine Wp.gc ?_
  suffices hK : Wp (pattern_Tree (world n D) n [.int .i64 3, strA u] h) fun r h' => r = .ret (.tup [.agg (nodeC 0 zeroW .nsl), .agg [.int .i64 3, .int .i64 64]]) ∧ Tch [] h h' from hK.mono fun r h' ⟨e, t⟩ => ⟨t.above, by rw [e]; rfl, e, rfl⟩
  unfold pattern_Tree
  have ll := lenS_nat u
  have Mx := Mem.nil [] h
  repeat (first | ((with_reducible apply Wp.obind); (with_reducible first | exact avInt_int _ _ | exact avStr_str _ | exact fldP_ptr _ _ _)) | ((with_reducible apply Wp.lr0 Mx); rfl) | ((with_reducible apply Wp.sa0 Mx); rfl; rfl; (rfl); intro _ Mz; clear Mx; have Mx := Mz; clear Mz) | ((with_reducible apply Wp.lr1 Mx); rfl) | ((with_reducible apply Wp.sa1 Mx); rfl; rfl; (rfl); intro _ Mz; clear Mx; have Mx := Mz; clear Mz) | ((with_reducible apply Wp.ld2 Mx); rfl) | ((with_reducible apply Wp.mnew Mx); intro _ Mz; clear Mx; have Mx := Mz; clear Mz) | ((with_reducible apply Wp.mbox Mx); (rfl); intro _ Mz; clear Mx; have Mx := Mz; clear Mz) | (with_reducible refine Wp.join1 (fun _ _ => ?_)) | (with_reducible refine Wp.lett ?_) | ((with_reducible refine Wp.ift ?_ ?_); ((with_reducible first | apply decide_eq_true | apply bne_t); omega)) | ((with_reducible refine Wp.iff ?_ ?_); ((with_reducible apply bne_f); omega)) | (with_reducible refine Wp.go1 (by assumption) ?_) | rw [newP_eq])
  exact Wp.ret ⟨rfl, Mx.tch⟩
theorem rowsAt_of {S : List Nat} {h0 h : AHeap} {rs T : List RowT} (M : Abs.Mem S h0 h rs) (hs : ∀ y ∈ T, y ∈ rs) : RowsAt h T := fun y hy => ⟨(M.row y (hs y hy)).1, (M.row y (hs y hy)).2.1⟩
def OutT (h : AHeap) (x : R) : Except Nat Nd → Prop
 | .ok t => ∃ c T h', x = some (.ret (.tup [.agg c, .agg [.int .i64 0, .int .i64 0]]), h') ∧ NodeT t c T ∧ Mem [] h h' T
 | .error q => x = some (.ret (.tup [.agg (nodeC 0 zeroW .nsl), .agg [.int .i64 6, .int .i64 (q : Int)]]), h)
def RawT (h : AHeap) : Except Nat Nd → ARes → AHeap → Prop
 | .ok t, v, h' => ∃ c T, v = .ret (.tup [.agg c, .agg [.int .i64 0, .int .i64 0]]) ∧ NodeT t c T ∧ Mem [] h h' T
 | .error q, v, h' => v = .ret (.tup [.agg (nodeC 0 zeroW .nsl), .agg [.int .i64 6, .int .i64 (q : Int)]]) ∧ Tch [] h h'
section
variable {n d : Nat} {h : AHeap} {u : Bytes}
theorem OutT.gc {r : Except Nat Nd} {x : R} (k : Wp x (RawT h r)) : OutT h (gcR h x) r := by
 cases r with
 | error q =>
  apply Wp.eq
  exact Wp.gc (k.mono fun v h' ⟨e, t⟩ => ⟨t.above, by rw [e]; rfl, e, rfl⟩)
 | ok t =>
  obtain ⟨v, h', e, c, T, rfl, kt, M⟩ := k
  suffices hK : Wp (gcR h x) fun r h' => ∃ T, r = .ret (.tup [.agg c, .agg [.int .i64 0, .int .i64 0]]) ∧ NodeT t c T ∧ Mem [] h h' T by
   obtain ⟨_, h', e, T, rfl, k1, k2⟩ := hK
   exact ⟨c, T, h', e, k1, k2⟩
  refine Wp.gc2 ⟨_, h', e, ⟨T, rfl, kt, M⟩, fun _ hl => ?_⟩
  have h1 : AV.loL h.next c = true := by
   have : (AV.loL h.next c && (AV.loL h.next [.int .i64 0, .int .i64 0] && AV.loL h.next [])) = true := hl
   rw [Bool.and_eq_true] at this
   exact this.1
  have hT : T = [] := kt.low (fun y hy => (M.row y hy).2.2.resolve_left (by simp)) h1
  subst hT
  exact ⟨[], rfl, kt, Mem.nil _ _⟩
theorem badT_w (q : Int) : world n (d + 1) 34 [.int .i64 q] h = some (.ret (.agg [.int .i64 6, .int .i64 q]), h) := by
 apply Wp.eq
 rw [w_ref09_bad]
 refine Wp.gc ?_
 unfold ref09_bad
 have Mx := Mem.nil [] h
 repeat (first | ((with_reducible apply Wp.lr0 Mx); rfl) | ((with_reducible apply Wp.sa0 Mx); rfl; rfl; (rfl); intro _ Mz; clear Mx; have Mx := Mz; clear Mz) | ((with_reducible apply Wp.mnew Mx); intro _ Mz; clear Mx; have Mx := Mz; clear Mz) | rw [newP_eq])
 exact Wp.ret ⟨Mx.tch.above, rfl, rfl, rfl⟩
theorem rTree_other {k : Int} (h1 : k ≠ 1) (h2 : k ≠ 2) (h3 : k ≠ 3) : world n (d + 1) 22 [.agg [.int .i64 k, strA u]] h = some (.ret (.tup [.agg (nodeC 0 zeroW .nsl), .agg [.int .i64 2, .int .i64 0]]), h) := by
 apply Wp.eq
 rw [w_ref09_Tree]
 refine Wp.gc ?_
 suffices hK : Wp (ref09_Tree (world n d) n [.int .i64 k, strA u] h) fun r h' => r = .ret (.tup [.agg (nodeC 0 zeroW .nsl), .agg [.int .i64 2, .int .i64 0]]) ∧ Tch [] h h' from hK.mono fun r h' ⟨e, t⟩ => ⟨t.above, by rw [e]; rfl, e, rfl⟩
 unfold ref09_Tree
 have Mx := Mem.nil [] h
 repeat (first | ((with_reducible apply Wp.obind); (with_reducible first | exact avInt_int _ _ | exact fldP_ptr _ _ _)) | ((with_reducible apply Wp.lr0 Mx); rfl) | ((with_reducible apply Wp.sa0 Mx); rfl; rfl; (rfl); intro _ Mz; clear Mx; have Mx := Mz; clear Mz) | ((with_reducible apply Wp.lr1 Mx); rfl) | ((with_reducible apply Wp.sa1 Mx); rfl; rfl; (rfl); intro _ Mz; clear Mx; have Mx := Mz; clear Mz) | ((with_reducible apply Wp.ld2 Mx); rfl) | ((with_reducible apply Wp.mnew Mx); intro _ Mz; clear Mx; have Mx := Mz; clear Mz) | ((with_reducible apply Wp.mbox Mx); (rfl); intro _ Mz; clear Mx; have Mx := Mz; clear Mz) | (with_reducible refine Wp.join1 (fun _ _ => ?_)) | (with_reducible refine Wp.lett ?_) | ((with_reducible refine Wp.ift ?_ ?_); ((with_reducible apply bne_t); omega)) | (with_reducible refine Wp.go1 (by assumption) ?_) | rw [newP_eq])
 exact Wp.ret ⟨rfl, Mx.tch⟩
theorem pTree_other {k : Int} (h1 : k ≠ 1) (h2 : k ≠ 2) (h3 : k ≠ 3) : world n (d + 1) 21 [.agg [.int .i64 k, strA u]] h = some (.ret (.tup [.agg (nodeC 0 zeroW .nsl), .agg [.int .i64 2, .int .i64 0]]), h) := by
 apply Wp.eq
 rw [w_pattern_Tree]
 refine Wp.gc ?_
 suffices hK : Wp (pattern_Tree (world n d) n [.int .i64 k, strA u] h) fun r h' => r = .ret (.tup [.agg (nodeC 0 zeroW .nsl), .agg [.int .i64 2, .int .i64 0]]) ∧ Tch [] h h' from hK.mono fun r h' ⟨e, t⟩ => ⟨t.above, by rw [e]; rfl, e, rfl⟩
 unfold pattern_Tree
 have Mx := Mem.nil [] h
 repeat (first | ((with_reducible apply Wp.obind); (with_reducible first | exact avInt_int _ _ | exact fldP_ptr _ _ _)) | ((with_reducible apply Wp.lr0 Mx); rfl) | ((with_reducible apply Wp.sa0 Mx); rfl; rfl; (rfl); intro _ Mz; clear Mx; have Mx := Mz; clear Mz) | ((with_reducible apply Wp.lr1 Mx); rfl) | ((with_reducible apply Wp.sa1 Mx); rfl; rfl; (rfl); intro _ Mz; clear Mx; have Mx := Mz; clear Mz) | ((with_reducible apply Wp.ld2 Mx); rfl) | ((with_reducible apply Wp.mnew Mx); intro _ Mz; clear Mx; have Mx := Mz; clear Mz) | ((with_reducible apply Wp.mbox Mx); (rfl); intro _ Mz; clear Mx; have Mx := Mz; clear Mz) | (with_reducible refine Wp.join1 (fun _ _ => ?_)) | (with_reducible refine Wp.lett ?_) | ((with_reducible refine Wp.ift ?_ ?_); ((with_reducible apply bne_t); omega)) | (with_reducible refine Wp.go1 (by assumption) ?_) | rw [newP_eq])
 exact Wp.ret ⟨rfl, Mx.tch⟩
theorem rTree_long (l : 64 < u.length) {kind : Int} (hk : kind = 1 ∨ kind = 2 ∨ kind = 3) : world n (d + 1) 22 [.agg [.int .i64 kind, strA u]] h = some (.ret (.tup [.agg (nodeC 0 zeroW .nsl), .agg [.int .i64 3, .int .i64 64]]), h) := by
 rcases hk with rfl | rfl | rfl
 ·apply Wp.eq
  rw [w_ref09_Tree]
  refine Wp.gc ?_
  suffices hK : Wp (ref09_Tree (world n d) n [.int .i64 1, strA u] h) fun r h' => r = .ret (.tup [.agg (nodeC 0 zeroW .nsl), .agg [.int .i64 3, .int .i64 64]]) ∧ Tch [] h h' from hK.mono fun r h' ⟨e, t⟩ => ⟨t.above, by rw [e]; rfl, e, rfl⟩
  unfold ref09_Tree
  have ll := lenS_nat u
  have Mx := Mem.nil [] h
  repeat (first | ((with_reducible apply Wp.obind); (with_reducible first | exact avInt_int _ _ | exact avStr_str _ | exact fldP_ptr _ _ _)) | ((with_reducible apply Wp.lr0 Mx); rfl) | ((with_reducible apply Wp.sa0 Mx); rfl; rfl; (rfl); intro _ Mz; clear Mx; have Mx := Mz; clear Mz) | ((with_reducible apply Wp.lr1 Mx); rfl) | ((with_reducible apply Wp.sa1 Mx); rfl; rfl; (rfl); intro _ Mz; clear Mx; have Mx := Mz; clear Mz) | ((with_reducible apply Wp.ld2 Mx); rfl) | ((with_reducible apply Wp.mnew Mx); intro _ Mz; clear Mx; have Mx := Mz; clear Mz) | ((with_reducible apply Wp.mbox Mx); (rfl); intro _ Mz; clear Mx; have Mx := Mz; clear Mz) | (with_reducible refine Wp.join1 (fun _ _ => ?_)) | (with_reducible refine Wp.lett ?_) | ((with_reducible refine Wp.ift ?_ ?_); ((with_reducible first | apply decide_eq_true | apply bne_t); omega)) | ((with_reducible refine Wp.iff ?_ ?_); first | (with_reducible rfl) | ((with_reducible apply bne_f); omega)) | (with_reducible refine Wp.go1 (by assumption) ?_) | rw [newP_eq])
  exact Wp.ret ⟨rfl, Mx.tch⟩
 ·apply Wp.eq
  rw [w_ref09_Tree]
  refine Wp.gc ?_
  suffices hK : Wp (ref09_Tree (world n d) n [.int .i64 2, strA u] h) fun r h' => r = .ret (.tup [.agg (nodeC 0 zeroW .nsl), .agg [.int .i64 3, .int .i64 64]]) ∧ Tch [] h h' from hK.mono fun r h' ⟨e, t⟩ => ⟨t.above, by rw [e]; rfl, e, rfl⟩
  unfold ref09_Tree
  have ll := lenS_nat u
  have Mx := Mem.nil [] h
  repeat (first | ((with_reducible apply Wp.obind); (with_reducible first | exact avInt_int _ _ | exact avStr_str _ | exact fldP_ptr _ _ _)) | ((with_reducible apply Wp.lr0 Mx); rfl) | ((with_reducible apply Wp.sa0 Mx); rfl; rfl; (rfl); intro _ Mz; clear Mx; have Mx := Mz; clear Mz) | ((with_reducible apply Wp.lr1 Mx); rfl) | ((with_reducible apply Wp.sa1 Mx); rfl; rfl; (rfl); intro _ Mz; clear Mx; have Mx := Mz; clear Mz) | ((with_reducible apply Wp.ld2 Mx); rfl) | ((with_reducible apply Wp.mnew Mx); intro _ Mz; clear Mx; have Mx := Mz; clear Mz) | ((with_reducible apply Wp.mbox Mx); (rfl); intro _ Mz; clear Mx; have Mx := Mz; clear Mz) | (with_reducible refine Wp.join1 (fun _ _ => ?_)) | (with_reducible refine Wp.lett ?_) | ((with_reducible refine Wp.ift ?_ ?_); ((with_reducible first | apply decide_eq_true | apply bne_t); omega)) | ((with_reducible refine Wp.iff ?_ ?_); first | (with_reducible rfl) | ((with_reducible apply bne_f); omega)) | (with_reducible refine Wp.go1 (by assumption) ?_) | rw [newP_eq])
  exact Wp.ret ⟨rfl, Mx.tch⟩
 ·apply Wp.eq
  rw [w_ref09_Tree]
  refine Wp.gc ?_
  suffices hK : Wp (ref09_Tree (world n d) n [.int .i64 3, strA u] h) fun r h' => r = .ret (.tup [.agg (nodeC 0 zeroW .nsl), .agg [.int .i64 3, .int .i64 64]]) ∧ Tch [] h h' from hK.mono fun r h' ⟨e, t⟩ => ⟨t.above, by rw [e]; rfl, e, rfl⟩
  unfold ref09_Tree
  have ll := lenS_nat u
  have Mx := Mem.nil [] h
  repeat (first | ((with_reducible apply Wp.obind); (with_reducible first | exact avInt_int _ _ | exact avStr_str _ | exact fldP_ptr _ _ _)) | ((with_reducible apply Wp.lr0 Mx); rfl) | ((with_reducible apply Wp.sa0 Mx); rfl; rfl; (rfl); intro _ Mz; clear Mx; have Mx := Mz; clear Mz) | ((with_reducible apply Wp.lr1 Mx); rfl) | ((with_reducible apply Wp.sa1 Mx); rfl; rfl; (rfl); intro _ Mz; clear Mx; have Mx := Mz; clear Mz) | ((with_reducible apply Wp.ld2 Mx); rfl) | ((with_reducible apply Wp.mnew Mx); intro _ Mz; clear Mx; have Mx := Mz; clear Mz) | ((with_reducible apply Wp.mbox Mx); (rfl); intro _ Mz; clear Mx; have Mx := Mz; clear Mz) | (with_reducible refine Wp.join1 (fun _ _ => ?_)) | (with_reducible refine Wp.lett ?_) | ((with_reducible refine Wp.ift ?_ ?_); ((with_reducible first | apply decide_eq_true | apply bne_t); omega)) | ((with_reducible refine Wp.iff ?_ ?_); ((with_reducible apply bne_f); omega)) | (with_reducible refine Wp.go1 (by assumption) ?_) | rw [newP_eq])
  exact Wp.ret ⟨rfl, Mx.tch⟩
theorem rTree_ok (hl : u.length ≤ 64) (hn : 300 < n) {k : Int} {r : Except Nat Nd} (tp : TreeP u k r) {D : Nat} (hD : 300 ≤ D) (hx : memB TNode h.ex = false) : OutT h (world n (D + 1) 22 [.agg [.int .i64 k, strA u]] h) r := by
 rw [w_ref09_Tree]
 refine OutT.gc ?_
 unfold ref09_Tree
 have ll := lenS_nat u
 have Mx := Mem.nil [] h
 obtain ⟨D, rfl⟩ : ∃ D', D = D' + 2 := ⟨D - 2, by omega⟩
 have fin3 : ∀ {t : Nd} {j : Nat}, AltP u [] 0 (.ok (t, j)) → ∀ {H : AHeap}, memB TNode H.ex = false → OutN H (world n (D + 2) 43 [strA u, .int .i64 ((0 : Nat) : Int)] H) (.ok (t, j)) := fun a H hH => alt_call (by omega) (altM (by omega) hn (by omega) a (Nat.zero_le _)) (by omega) hH
 cases tp with
 | lit a =>
  repeat (first | ((with_reducible apply Wp.obind); (with_reducible first | exact avInt_int _ _ | exact avStr_str _ | exact fldP_ptr _ _ _)) | ((with_reducible apply Wp.ld2 Mx); rfl) | ((with_reducible apply Wp.mnew Mx); intro _ Mz; clear Mx; have Mx := Mz; clear Mz) | ((with_reducible apply Wp.mbox Mx); (rfl); intro _ Mz; clear Mx; have Mx := Mz; clear Mz) | (with_reducible refine Wp.join1 (fun _ _ => ?_)) | (with_reducible refine Wp.lett ?_) | ((with_reducible refine Wp.ift ?_ ?_); ((with_reducible first | apply decide_eq_true | apply bne_t | apply beq_t); omega)) | ((with_reducible refine Wp.iff ?_ ?_); first | (with_reducible rfl) | ((with_reducible first | apply decide_eq_false | apply bne_f); omega)) | (with_reducible refine Wp.go1 (by assumption) ?_) | rw [newP_eq])
  obtain ⟨t, c, T, H', hr, e, kt, M2⟩ := lit_w (n := n) (d := D) (by omega) (by omega) (by rw [Mx.ex]; exact hx) a
  refine Wp.callN e (Wp.obind (avAgg_agg _) ?_)
  have M3 := Mem.frameT (xs := []) (ys := []) Mx M2
  refine Wp.sa1 M3 kt.len rfl kt.one fun _ M4 => ?_
  refine Wp.sa0 M4 rfl rfl rfl fun _ M5 => ?_
  refine Wp.lr1 M5 kt.len (Wp.lr0 M5 rfl ?_)
  rw [hr]
  exact Wp.ret ⟨c, T, rfl, kt, M5.pop.pop.pop⟩
 | glob a =>
  repeat (first | ((with_reducible apply Wp.obind); (with_reducible first | exact avInt_int _ _ | exact avStr_str _ | exact fldP_ptr _ _ _)) | ((with_reducible apply Wp.ld2 Mx); rfl) | ((with_reducible apply Wp.mnew Mx); intro _ Mz; clear Mx; have Mx := Mz; clear Mz) | ((with_reducible apply Wp.mbox Mx); (rfl); intro _ Mz; clear Mx; have Mx := Mz; clear Mz) | (with_reducible refine Wp.join1 (fun _ _ => ?_)) | (with_reducible refine Wp.lett ?_) | ((with_reducible refine Wp.ift ?_ ?_); ((with_reducible first | apply decide_eq_true | apply bne_t | apply beq_t); omega)) | ((with_reducible refine Wp.iff ?_ ?_); first | (with_reducible rfl) | ((with_reducible first | apply decide_eq_false | apply bne_f | apply beq_f); omega)) | (with_reducible refine Wp.go1 (by assumption) ?_) | rw [newP_eq])
  have og := glob_w (n := n) (d := D) (by omega) hn (by omega) (by rw [Mx.ex]; exact hx) a
  generalize dropJ _ = r' at og
  cases r' with
  | error q =>
   obtain ⟨hq, e⟩ := og
   subst hq
   refine Wp.callN e ?_
   repeat (first | ((with_reducible apply Wp.obind); (with_reducible first | exact avBool_bool _ | exact avStr_str _ | exact fldP_ptr _ _ _)) | ((with_reducible apply Wp.sa0 Mx); rfl; rfl; (rfl); intro _ Mz; clear Mx; have Mx := Mz; clear Mz) | ((with_reducible apply Wp.lr1 Mx); rfl) | ((with_reducible apply Wp.sa1 Mx); rfl; rfl; (rfl); intro _ Mz; clear Mx; have Mx := Mz; clear Mz) | ((with_reducible apply Wp.lr2 Mx); rfl) | ((with_reducible apply Wp.sa2 Mx); rfl; rfl; (rfl); intro _ Mz; clear Mx; have Mx := Mz; clear Mz) | ((with_reducible apply Wp.ld3 Mx); rfl) | ((with_reducible apply Wp.mnew Mx); intro _ Mz; clear Mx; have Mx := Mz; clear Mz) | (with_reducible refine Wp.lett ?_) | ((with_reducible apply Wp.obind); (with_reducible first | exact avAgg_agg _ | exact extT_0 _ _ | exact extT_1 _ _ _)) | ((with_reducible refine Wp.ift ?_ ?_); (with_reducible exact Bool.not_false)) | ((with_reducible apply Wp.callN); (with_reducible exact badT_w _)) | rw [newP_eq])
   exact Wp.ret ⟨rfl, Mx.tch⟩
  | ok t =>
   obtain ⟨c, T, H', e, kt, M2⟩ := og
   refine Wp.callN e ?_
   have M3 := Mem.frameT (xs := []) (ys := []) Mx M2
   refine Wp.obind (extT_0 _ _) (Wp.obind (avAgg_agg _) (Wp.obind (extT_1 _ _ _) (Wp.obind (avBool_bool _) ?_)))
   refine Wp.mnew M3 fun h4 M4 => ?_
   rw [newP_eq]
   refine Wp.sa0 M4 kt.len rfl kt.one fun h5 M5 => ?_
   refine Wp.lett (Wp.iff rfl ?_)
   refine Wp.lr0 M5 kt.len ?_
   refine Wp.sa2 M5 kt.len rfl kt.one fun _ M6 => ?_
   refine Wp.sa1 M6 rfl rfl rfl fun _ M7 => ?_
   refine Wp.lr2 M7 kt.len (Wp.lr1 M7 rfl ?_)
   exact Wp.ret ⟨c, T, rfl, kt, M7.pop.pop.pop.pop⟩
 | re_bad a =>
  repeat (first | ((with_reducible apply Wp.obind); (with_reducible first | exact avInt_int _ _ | exact avStr_str _ | exact fldP_ptr _ _ _)) | ((with_reducible apply Wp.ld2 Mx); rfl) | ((with_reducible apply Wp.mnew Mx); intro _ Mz; clear Mx; have Mx := Mz; clear Mz) | ((with_reducible apply Wp.mbox Mx); (rfl); intro _ Mz; clear Mx; have Mx := Mz; clear Mz) | (with_reducible refine Wp.join1 (fun _ _ => ?_)) | (with_reducible refine Wp.lett ?_) | ((with_reducible refine Wp.ift ?_ ?_); ((with_reducible first | apply decide_eq_true | apply bne_t | apply beq_t); omega)) | ((with_reducible refine Wp.iff ?_ ?_); ((with_reducible first | apply decide_eq_false | apply bne_f | apply beq_f); omega)) | (with_reducible refine Wp.go1 (by assumption) ?_) | rw [newP_eq])
  have oa := alt_call (n := n) (D := D + 2) (by omega) (altM (by omega) hn (by omega) a (Nat.zero_le _)) (by omega) (show memB TNode _ = false by rw [Mx.ex]; exact hx)
  refine Wp.callBad oa ?_
  repeat (first | ((with_reducible apply Wp.obind); (with_reducible first | exact avInt_int _ _ | exact avBool_bool _)) | ((with_reducible apply Wp.sa0 Mx); rfl; rfl; (rfl); intro _ Mz; clear Mx; have Mx := Mz; clear Mz) | ((with_reducible apply Wp.lr1 Mx); rfl) | ((with_reducible apply Wp.sa1 Mx); rfl; rfl; (rfl); intro _ Mz; clear Mx; have Mx := Mz; clear Mz) | ((with_reducible apply Wp.lr2 Mx); rfl) | ((with_reducible apply Wp.sa2 Mx); rfl; rfl; (rfl); intro _ Mz; clear Mx; have Mx := Mz; clear Mz) | ((with_reducible apply Wp.mnew Mx); intro _ Mz; clear Mx; have Mx := Mz; clear Mz) | (with_reducible refine Wp.join1 (fun _ _ => ?_)) | (with_reducible refine Wp.lett ?_) | ((with_reducible apply Wp.obind); (with_reducible first | exact avAgg_agg _ | exact extT_0 _ _ | exact extT_1 _ _ _ | exact extT_2 _ _ _ _)) | ((with_reducible refine Wp.ift ?_ ?_); (with_reducible first | rfl | exact Bool.not_false)) | ((with_reducible apply Wp.callN); (with_reducible exact badT_w _)) | (with_reducible refine Wp.go1 (by assumption) ?_) | rw [newP_eq])
  exact Wp.ret ⟨rfl, Mx.tch⟩
 | re_end a ne =>
  rename_i t j
  obtain ⟨_, bj⟩ := altP_bnd a (Nat.zero_le _)
  repeat (first | ((with_reducible apply Wp.obind); (with_reducible first | exact avInt_int _ _ | exact avStr_str _ | exact fldP_ptr _ _ _)) | ((with_reducible apply Wp.ld2 Mx); rfl) | ((with_reducible apply Wp.mnew Mx); intro _ Mz; clear Mx; have Mx := Mz; clear Mz) | ((with_reducible apply Wp.mbox Mx); (rfl); intro _ Mz; clear Mx; have Mx := Mz; clear Mz) | (with_reducible refine Wp.join1 (fun _ _ => ?_)) | (with_reducible refine Wp.lett ?_) | ((with_reducible refine Wp.ift ?_ ?_); ((with_reducible first | apply decide_eq_true | apply bne_t | apply beq_t); omega)) | ((with_reducible refine Wp.iff ?_ ?_); ((with_reducible first | apply decide_eq_false | apply bne_f | apply beq_f); omega)) | (with_reducible refine Wp.go1 (by assumption) ?_) | rw [newP_eq])
  refine Wp.callOk (fin3 a (by rw [Mx.ex]; exact hx)) Mx fun c T h3 kt M3 => ?_
  refine Wp.obind (extT_0 _ _) (Wp.obind (avAgg_agg _) (Wp.obind (extT_1 _ _ _) (Wp.obind (avInt_int _ _) (Wp.obind (extT_2 _ _ _ _) (Wp.obind (avBool_bool _) ?_)))))
  refine Wp.mnew M3 fun h4 M4 => ?_
  rw [newP_eq]
  refine Wp.sa0 M4 kt.len rfl kt.one fun h5 M5 => ?_
  clear Mx
  have Mx := M5
  repeat (first | ((with_reducible apply Wp.obind); (with_reducible first | exact avStr_str _ | exact fldP_ptr _ _ _)) | ((with_reducible apply Wp.lr1 Mx); rfl) | ((with_reducible apply Wp.sa1 Mx); rfl; rfl; (rfl); intro _ Mz; clear Mx; have Mx := Mz; clear Mz) | ((with_reducible apply Wp.lr2 Mx); rfl) | ((with_reducible apply Wp.sa2 Mx); rfl; rfl; (rfl); intro _ Mz; clear Mx; have Mx := Mz; clear Mz) | ((with_reducible apply Wp.ld3 Mx); rfl) | (with_reducible refine Wp.join1 (fun _ _ => ?_)) | (with_reducible refine Wp.lett ?_) | ((with_reducible apply Wp.obind); (with_reducible exact avAgg_agg _)) | ((with_reducible refine Wp.ift ?_ ?_); ((with_reducible apply decide_eq_true); omega)) | ((with_reducible refine Wp.iff ?_ ?_); (with_reducible exact Bool.not_true)) | ((with_reducible apply Wp.callN); (with_reducible exact badT_w _)) | (with_reducible refine Wp.go1 (by assumption) ?_))
  exact Wp.ret ⟨rfl, Mx.tch⟩
 | re a =>
  repeat (first | ((with_reducible apply Wp.obind); (with_reducible first | exact avInt_int _ _ | exact avStr_str _ | exact fldP_ptr _ _ _)) | ((with_reducible apply Wp.ld2 Mx); rfl) | ((with_reducible apply Wp.mnew Mx); intro _ Mz; clear Mx; have Mx := Mz; clear Mz) | ((with_reducible apply Wp.mbox Mx); (rfl); intro _ Mz; clear Mx; have Mx := Mz; clear Mz) | (with_reducible refine Wp.join1 (fun _ _ => ?_)) | (with_reducible refine Wp.lett ?_) | ((with_reducible refine Wp.ift ?_ ?_); ((with_reducible first | apply decide_eq_true | apply bne_t | apply beq_t); omega)) | ((with_reducible refine Wp.iff ?_ ?_); ((with_reducible first | apply decide_eq_false | apply bne_f | apply beq_f); omega)) | (with_reducible refine Wp.go1 (by assumption) ?_) | rw [newP_eq])
  refine Wp.callOk (fin3 a (by rw [Mx.ex]; exact hx)) Mx fun c T h3 kt M3 => ?_
  refine Wp.obind (extT_0 _ _) (Wp.obind (avAgg_agg _) (Wp.obind (extT_1 _ _ _) (Wp.obind (avInt_int _ _) (Wp.obind (extT_2 _ _ _ _) (Wp.obind (avBool_bool _) ?_)))))
  refine Wp.mnew M3 fun h4 M4 => ?_
  rw [newP_eq]
  refine Wp.sa0 M4 kt.len rfl kt.one fun h5 M5 => ?_
  clear Mx
  have Mx := M5
  clear M5
  repeat (first | ((with_reducible apply Wp.obind); (with_reducible first | exact avStr_str _ | exact fldP_ptr _ _ _)) | ((with_reducible apply Wp.ld3 Mx); rfl) | (with_reducible refine Wp.join1 (fun _ _ => ?_)) | (with_reducible refine Wp.lett ?_) | ((with_reducible refine Wp.iff ?_ ?_); first | (with_reducible exact Bool.not_true) | ((with_reducible apply decide_eq_false); omega)) | (with_reducible refine Wp.go1 (by assumption) ?_))
  refine Wp.lr0 Mx kt.len ?_
  refine Wp.sa2 Mx kt.len rfl kt.one fun _ M6 => ?_
  refine Wp.sa1 M6 rfl rfl rfl fun _ M7 => ?_
  refine Wp.lr2 M7 kt.len (Wp.lr1 M7 rfl ?_)
  exact Wp.ret ⟨c, T, rfl, kt, M7.pop.pop.pop.pop⟩
theorem pTree_ok (hl : u.length ≤ 64) {k : Int} (hk : k = 1 ∨ k = 2 ∨ k = 3) : ∃ r, TreeP u k r ∧ (∀ q, r = .error q → q ≤ u.length) ∧ ∀ {n D : Nat} {h : AHeap}, 300 ≤ D → 400 < n → memB TNode h.ex = false → OutT h (world n (D + 3) 21 [.agg [.int .i64 k, strA u]] h) r := by
 obtain ⟨r, r1, r2, r3⟩ := (tree_kinds (u := u) (by omega) hk).2 hl
 refine ⟨r, r1, r2, fun {n D h} hD hn hx => ?_⟩
 have := r3 (n := n) (D := D) (h := h) hD hn hx
 cases r with
 | error q => exact this
 | ok t => exact this
end
set_option maxHeartbeats 4000000
set_option maxRecDepth 20000
noncomputable def law09_PatternTrees (call : CallF) (_ : Nat) (t0 : List AV) (h : AHeap) : R :=
 outK (opBox h 35 (some (.agg t0))) fun v1 h_2 =>
 callN (call 13 [] h_2) fun r7 h_6 =>
 obind (avBool r7) fun t7 =>
 lett (!t7) fun (t8 : Bool) =>
 ifB t8
 (
  some (.ret (.bool false), h_6))
 (
  obind (ldRow h_6 2 v1) fun t10 =>
  callN (call 21 [.agg t10] h_6) fun r11 h_13 =>
  obind (extT 0 r11) fun v12 =>
  obind (avAgg v12) fun t12 =>
  obind (extT 1 r11) fun v13 =>
  obind (avAgg v13) fun t13 =>
  lett (newH h_13 41 [.int .i64 0, .int .u64 0, .int .u64 0, .int .u64 0, .int .u64 0, .nsl]) fun h_19 =>
  lett (newH h_19 27 [.int .i64 0, .int .i64 0]) fun h_21 =>
  obind (stRow h_21 6 t12 (newP h_13)) fun h_23 =>
  obind (stRow h_23 2 t13 (newP h_19)) fun h_25 =>
  obind (ldRow h_25 2 v1) fun t15 =>
  callN (call 22 [.agg t15] h_25) fun r16 h_29 =>
  obind (extT 0 r16) fun v17 =>
  obind (avAgg v17) fun t17 =>
  obind (extT 1 r16) fun v18 =>
  obind (avAgg v18) fun t18 =>
  lett (newH h_29 41 [.int .i64 0, .int .u64 0, .int .u64 0, .int .u64 0, .int .u64 0, .nsl]) fun h_35 =>
  lett (newH h_35 27 [.int .i64 0, .int .i64 0]) fun h_37 =>
  obind (stRow h_37 6 t17 (newP h_29)) fun h_39 =>
  obind (stRow h_39 2 t18 (newP h_35)) fun h_41 =>
  obind (ldRow h_41 2 (newP h_19)) fun t19 =>
  obind (ldRow h_41 2 (newP h_35)) fun t20 =>
  obind (eqOther Pg 27 (.agg t19) (.agg t20)) fun t21 =>
  lett (fun (t26 : Bool) (h_47 : AHeap) =>
   some (.ret (.bool t26), h_47)) fun j26 =>
  ifB t21
  (
   obind (ldRow h_41 6 (newP h_13)) fun t23 =>
   obind (ldRow h_41 6 (newP h_29)) fun t24 =>
   callN (call 23 [.agg t23, .agg t24] h_41) fun r25 h_52 =>
   obind (avBool r25) fun t25 =>
   j26 t25 h_52)
  (
   j26 false h_41))
theorem law09_PatternTrees_ok {call : CallF} (hc : SaysAll Pg call) {n : Nat} {t0 : List AV} {h : AHeap} {rR : ARes} {hR : AHeap} (z : law09_PatternTrees call n t0 h = some (rR, hR)) : Says Pg 6 [.agg t0] h rR hR := by
 unfold law09_PatternTrees at z
 refine says_of (fn := Try.f6) Try.func6 (c := codeOf Try.f6) (by kernel_rfl) (by kernel_rfl) (fun w0 m0 => ?_)
 refine W.weaken (l' := [(0, .agg t0)]) (Fr.c Fr.n) ?_
 refine W.s (fun _ n1 _ _ p1 => ?_)
 refine W.r ?_
 replace z := outK_some z; obtain ⟨v1, h_2, e3, z⟩ := z
 refine WL.b (some 1) v1 h_2 e3 ?_
 refine WL.a (some 2) (.bool false) h_2 ?_
 refine WL.n ?_
 refine Go.weaken (l' := [(1, v1)]) (Fr.c Fr.n) ?_
 refine n1 ?_
 refine W.s (fun _ n4 _ q4 _ => ?_)
 refine W.s (fun _ n5 _ _ _ => ?_)
 refine W.r ?_
 replace z := callN_some z; obtain ⟨r7, h_6, e7, z⟩ := z
 replace z := oS z; obtain ⟨t7, c8, z⟩ := z
 have c8 := avBool_some c8
 subst c8
 refine WL.c (hc.ok w0) (some 7) e7 ?_
 replace z := lS z; obtain ⟨t8, e9, z⟩ := z
 refine WL.val (d := (some 8)) (v := .bool t8) (h' := h_6) (by kernel_rfl) (by kernel_rfl) (val_of AV.bool e9 (by kernel_rfl)) ?_
 refine WL.n ?_
 refine Go.weaken (l' := [(1, v1), (8, .bool t8)]) (Fr.c (Fr.c Fr.n)) ?_
 refine n5 ?_
 cases t8 with
 | true =>
  replace z := ifB_t z
  refine W.t ?_
  refine W.s (fun _ n10 _ _ _ => ?_)
  refine W.r ?_
  refine WL.a (some 2) (.bool false) h_6 ?_
  refine WL.n ?_
  refine Go.weaken (l' := [(2, .bool false)]) (Fr.c Fr.n) ?_
  refine n10 ?_
  refine W.ret (by kernel_rfl) ?_
  refine q4 ?_
  obtain ⟨z, hF2⟩ := ret_inj z; subst z; subst hF2
  exact leave_of (rs := [.tmp 2]) (vs := [.bool false]) (by kernel_rfl) (res_tmp (by kernel_rfl) res_nil) (by kernel_rfl)
 | false =>
  replace z := ifB_f z
  refine W.f ?_
  refine W.skip (by kernel_rfl) ?_
  refine n4 ?_
  refine W.s (fun _ n11 _ _ _ => ?_)
  refine W.r ?_
  replace z := oS z; obtain ⟨t10, e12, z⟩ := z
  refine WL.b (some 10) (.agg t10) h_6 (load_row (P := Pg) (h := h_6) (t := 35) (by kernel_rfl) (by kernel_rfl) e12) ?_
  replace z := callN_some z; obtain ⟨r11, h_13, e14, z⟩ := z
  refine WL.c (hc.ok w0) (some 11) e14 ?_
  refine WL.a (some 9) r11 h_13 ?_
  replace z := oS z; obtain ⟨v12, e15, z⟩ := z
  replace z := oS z; obtain ⟨t12, c16, z⟩ := z
  have c16 := avAgg_some c16
  subst c16
  refine WL.b (some 12) (.agg t12) h_13 (extract_tup (h := h_13) e15) ?_
  replace z := oS z; obtain ⟨v13, e17, z⟩ := z
  replace z := oS z; obtain ⟨t13, c18, z⟩ := z
  have c18 := avAgg_some c18
  subst c18
  refine WL.b (some 13) (.agg t13) h_13 (extract_tup (h := h_13) e17) ?_
  replace z := lS z; obtain ⟨h_19, e20, z⟩ := z
  refine WL.val (d := (some 3)) (v := (newP h_13)) (h' := h_19) (by kernel_rfl) (by kernel_rfl) (val_ofH e20 (by kernel_rfl)) ?_
  replace z := lS z; obtain ⟨h_21, e22, z⟩ := z
  refine WL.val (d := (some 4)) (v := (newP h_19)) (h' := h_21) (by kernel_rfl) (by kernel_rfl) (val_ofH e22 (by kernel_rfl)) ?_
  replace z := oS z; obtain ⟨h_23, e24, z⟩ := z
  refine WL.e h_23 (store_row (P := Pg) (h := h_21) (t := 41) (v := (.agg t12)) (by kernel_rfl) (by kernel_rfl) e24) ?_
  replace z := oS z; obtain ⟨h_25, e26, z⟩ := z
  refine WL.e h_25 (store_row (P := Pg) (h := h_23) (t := 27) (v := (.agg t13)) (by kernel_rfl) (by kernel_rfl) e26) ?_
  refine WL.n ?_
  refine Go.weaken (l' := [(1, v1), (3, newP h_13), (4, newP h_19)]) (Fr.c (Fr.c (Fr.c Fr.n))) ?_
  refine n11 ?_
  refine W.s (fun _ n27 _ _ _ => ?_)
  refine W.r ?_
  replace z := oS z; obtain ⟨t15, e28, z⟩ := z
  refine WL.b (some 15) (.agg t15) h_25 (load_row (P := Pg) (h := h_25) (t := 35) (by kernel_rfl) (by kernel_rfl) e28) ?_
  replace z := callN_some z; obtain ⟨r16, h_29, e30, z⟩ := z
  refine WL.c (hc.ok w0) (some 16) e30 ?_
  refine WL.a (some 14) r16 h_29 ?_
  replace z := oS z; obtain ⟨v17, e31, z⟩ := z
  replace z := oS z; obtain ⟨t17, c32, z⟩ := z
  have c32 := avAgg_some c32
  subst c32
  refine WL.b (some 17) (.agg t17) h_29 (extract_tup (h := h_29) e31) ?_
  replace z := oS z; obtain ⟨v18, e33, z⟩ := z
  replace z := oS z; obtain ⟨t18, c34, z⟩ := z
  have c34 := avAgg_some c34
  subst c34
  refine WL.b (some 18) (.agg t18) h_29 (extract_tup (h := h_29) e33) ?_
  replace z := lS z; obtain ⟨h_35, e36, z⟩ := z
  refine WL.val (d := (some 5)) (v := (newP h_29)) (h' := h_35) (by kernel_rfl) (by kernel_rfl) (val_ofH e36 (by kernel_rfl)) ?_
  replace z := lS z; obtain ⟨h_37, e38, z⟩ := z
  refine WL.val (d := (some 6)) (v := (newP h_35)) (h' := h_37) (by kernel_rfl) (by kernel_rfl) (val_ofH e38 (by kernel_rfl)) ?_
  replace z := oS z; obtain ⟨h_39, e40, z⟩ := z
  refine WL.e h_39 (store_row (P := Pg) (h := h_37) (t := 41) (v := (.agg t17)) (by kernel_rfl) (by kernel_rfl) e40) ?_
  replace z := oS z; obtain ⟨h_41, e42, z⟩ := z
  refine WL.e h_41 (store_row (P := Pg) (h := h_39) (t := 27) (v := (.agg t18)) (by kernel_rfl) (by kernel_rfl) e42) ?_
  refine WL.n ?_
  refine Go.weaken (l' := [(3, newP h_13), (4, newP h_19), (5, newP h_29), (6, newP h_35)]) (Fr.c (Fr.c (Fr.c (Fr.c Fr.n)))) ?_
  refine n27 ?_
  refine W.s (fun K43 n43 _ _ _ => ?_)
  refine W.r ?_
  replace z := oS z; obtain ⟨t19, e44, z⟩ := z
  refine WL.b (some 19) (.agg t19) h_41 (load_row (P := Pg) (h := h_41) (t := 27) (by kernel_rfl) (by kernel_rfl) e44) ?_
  replace z := oS z; obtain ⟨t20, e45, z⟩ := z
  refine WL.b (some 20) (.agg t20) h_41 (load_row (P := Pg) (h := h_41) (t := 27) (by kernel_rfl) (by kernel_rfl) e45) ?_
  replace z := oS z; obtain ⟨t21, e46, z⟩ := z
  refine WL.b (some 21) (.bool t21) h_41 (eq_other (P := Pg) (h := h_41) (t := 27) (lit := false) (by kernel_rfl) e46) ?_
  refine WL.a (some 22) (.bool t21) h_41 ?_
  replace z := lS z; obtain ⟨j26, e48, z⟩ := z
  have J49 : ∀ (t26 : Bool) (h_47 : AHeap), j26 t26 h_47 = some (rR, hR) → WL Pg w0 m0 (Func.ntmps Try.f6) (Code.ops (Code.p1 (Code.p2 (Code.p2 (Code.p2 (Code.p2 (codeOf Try.f6))))))) 8 K43 [(26, .bool t26)] [] h_47 := by
   intro t26 h_47 z
   rw [e48] at z
   refine WL.a (some 2) (.bool t26) h_47 ?_
   refine WL.n ?_
   refine Go.weaken (l' := [(2, .bool t26)]) (Fr.c Fr.n) ?_
   refine n43 ?_
   refine W.ret (by kernel_rfl) ?_
   obtain ⟨z, hF2⟩ := ret_inj z; subst z; subst hF2
   exact leave_of (rs := [.tmp 2]) (vs := [.bool t26]) (by kernel_rfl) (res_tmp (by kernel_rfl) res_nil) (by kernel_rfl)
  cases t21 with
  | true =>
   replace z := ifB_t z
   replace z := oS z; obtain ⟨t23, e50, z⟩ := z
   refine WL.b (some 23) (.agg t23) h_41 (load_row (P := Pg) (h := h_41) (t := 41) (by kernel_rfl) (by kernel_rfl) e50) ?_
   replace z := oS z; obtain ⟨t24, e51, z⟩ := z
   refine WL.b (some 24) (.agg t24) h_41 (load_row (P := Pg) (h := h_41) (t := 41) (by kernel_rfl) (by kernel_rfl) e51) ?_
   replace z := callN_some z; obtain ⟨r25, h_52, e53, z⟩ := z
   replace z := oS z; obtain ⟨t25, c54, z⟩ := z
   have c54 := avBool_some c54
   subst c54
   refine WL.c (hc.ok w0) (some 25) e53 ?_
   refine WL.a (some 26) (.bool t25) h_52 ?_
   exact WL.weaken (Fr.c Fr.n) (J49 _ _ z)
  | false =>
   replace z := ifB_f z
   refine WL.o (some 23) ?_
   refine WL.o (some 24) ?_
   refine WL.o (some 25) ?_
   refine WL.a (some 26) (.bool false) h_41 ?_
   exact WL.weaken (Fr.c Fr.n) (J49 _ _ z)
theorem worksK_w (n d : Nat) (h : AHeap) : world n (d + 1) 13 [] h = some (.ret (.bool true), h) := by kernel_rfl
theorem flatSpotK : flatB Try.prog TSpot [1, 1] = true := by kernel_rfl
theorem eqSpotK (a b c d : Int) : eqOther Try.prog TSpot (.agg [.int .i64 a, .int .i64 b]) (.agg [.int .i64 c, .int .i64 d]) = some ((a == c) && ((b == d) && true)) := eq_flat flatSpotK (eqL_cons rfl (eqCell_int _ _ _) (eqL_cons rfl (eqCell_int _ _ _) rfl))
theorem eqSpotS (a b : Int) : eqOther Try.prog TSpot (.agg [.int .i64 a, .int .i64 b]) (.agg [.int .i64 a, .int .i64 b]) = some true := by rw [eqSpotK]; simp
theorem same0 (n D : Nat) (hn : 300 < n) (hD : 300 ≤ D) (h : AHeap) : world n D 23 [.agg (nodeC 0 zeroW .nsl), .agg (nodeC 0 zeroW .nsl)] h = some (.ret (.bool true), h) := by
 have k : NodeT (.mk 0 zeroW []) (nodeC 0 zeroW .nsl) [] := NodeT.leaf 0 zeroW_ok
 have r : RowsAt h [] := fun y hy => by cases hy
 exact same_ok _ k k r r (by simp [Nd.sz, szL]; omega) (by simp [Nd.sz, szL]; omega) (by simp [Nd.sz, szL])
set_option maxRecDepth 100000 in
theorem pat_of {N : Nat} {h : AHeap} {x : AV} (hp : ArgP Try.prog N h 12 35 x) : ∃ (k : Int) (u : Bytes), x = .agg [.int .i64 k, strA u] ∧ u.length ≤ reachBytes := by
 obtain ⟨l, rfl, hpl⟩ := hp.agg (by kernel_rfl)
 obtain ⟨y1, y2, rfl, p1, p2⟩ := hpl.struct2 Try.underlying35
 obtain ⟨k, rfl, _⟩ := p1.int Try.underlying3
 obtain ⟨u, rfl, hu⟩ := p2.str Try.underlying9
 exact ⟨k, u, rfl, hu⟩
def BothT (n D : Nat) (k : Int) (u : Bytes) : Prop :=
 (∃ e q : Int, e ≠ 0 ∧ ∀ h : AHeap, memB TNode h.ex = false → world n D 21 [.agg [.int .i64 k, strA u]] h = some (.ret (.tup [.agg (nodeC 0 zeroW .nsl), .agg [.int .i64 e, .int .i64 q]]), h) ∧ world n D 22 [.agg [.int .i64 k, strA u]] h = some (.ret (.tup [.agg (nodeC 0 zeroW .nsl), .agg [.int .i64 e, .int .i64 q]]), h)) ∨
 (∃ t : Nd, u.length ≤ 64 ∧ TreeP u k (.ok t) ∧ ∀ h : AHeap, memB TNode h.ex = false → OutT h (world n D 21 [.agg [.int .i64 k, strA u]] h) (.ok t) ∧ OutT h (world n D 22 [.agg [.int .i64 k, strA u]] h) (.ok t))
theorem bothT (k : Int) (u : Bytes) {n D : Nat} (hn : 400 < n) (hD : 310 ≤ D) : BothT n D k u := by
 obtain ⟨D, rfl⟩ : ∃ D', D = D' + 3 := ⟨D - 3, by omega⟩
 by_cases hk : k = 1 ∨ k = 2 ∨ k = 3
 ·by_cases hl : 64 < u.length
  ·exact .inl ⟨3, 64, by decide, fun h _ => ⟨tree_long hl hk, rTree_long hl hk⟩⟩
  ·obtain ⟨r, r1, _, r3⟩ := pTree_ok (u := u) (by omega) hk
   cases r with
   | error q =>
    refine .inl ⟨6, (q : Int), by decide, fun h hx => ⟨r3 (by omega) hn hx, ?_⟩⟩
    exact rTree_ok (by omega) (by omega) r1 (D := D + 2) (by omega) hx
   | ok t => exact .inr ⟨t, by omega, r1, fun h hx => ⟨r3 (by omega) hn hx, rTree_ok (by omega) (by omega) r1 (D := D + 2) (by omega) hx⟩⟩
 ·have h1 : k ≠ 1 := fun hh => hk (.inl hh)
  have h2 : k ≠ 2 := fun hh => hk (.inr (.inl hh))
  have h3 : k ≠ 3 := fun hh => hk (.inr (.inr hh))
  exact .inl ⟨2, 0, by decide, fun h _ => ⟨pTree_other h1 h2 h3, rTree_other h1 h2 h3⟩⟩
theorem flat_sz {F : Nat → Res} {u : Bytes} (hF : ∀ i t j, F i = .ok (t, j) → t.sz ≤ 3 ∧ i < j) {l : List Nd} {i : Nat} {r : Res} (k : FlatP F u l i r) : ∀ t, dropJ r = .ok t → t.sz ≤ szL l + 4 * (u.length - i) + 1 := by
 induction k with
 | stop s =>
  intro t e
  cases e
  refine Nat.le_trans (joinN_sz 3 _) ?_
  omega
 | bad s h =>
  intro t e
  cases e
 | more s h m ih =>
  intro t e
  have h1 := ih t e
  obtain ⟨h2, h3⟩ := hF _ _ _ h
  rw [szL_snoc] at h1
  omega
theorem partL_sz (u : Bytes) : ∀ i t j, partL u i = .ok (t, j) → t.sz ≤ 3 ∧ i < j := by
 intro i t j h
 unfold partL at h
 split at h
 ·cases h
 ·cases h
  exact ⟨by simp [oneN, Nd.sz, szL], by omega⟩
theorem partG_sz (u : Bytes) : ∀ i t j, partG u i = .ok (t, j) → t.sz ≤ 3 ∧ i < j := by
 intro i t j h
 unfold partG at h
 split at h
 ·cases h
 split at h
 ·cases h
  exact ⟨by simp [overN, anyN, Nd.sz, szL], by omega⟩
 split at h
 ·cases h
  exact ⟨by simp [anyN, Nd.sz, szL], by omega⟩
 split at h
 ·split at h
  ·cases h
  ·cases h
   exact ⟨by simp [oneN, Nd.sz, szL], by omega⟩
 ·cases h
  exact ⟨by simp [oneN, Nd.sz, szL], by omega⟩
theorem treeP_small {k : Int} {u : Bytes} {t : Nd} (h : TreeP u k (.ok t)) : t.sz ≤ 6 * u.length + 1 := by
 generalize hr : Except.ok t = r at h
 cases h with
 | lit a =>
  have := flat_sz (partL_sz u) a t hr.symm
  rw [szL] at this
  omega
 | glob a =>
  have := flat_sz (partG_sz u) a t hr.symm
  rw [szL] at this
  omega
 | re_bad a => cases hr
 | re_end a ne => cases hr
 | re a =>
  cases hr
  exact altP_small a
set_option maxRecDepth 100000 in
theorem patternTrees_says (h : AHeap) (hX : h.ex = [57]) (xs : List AV) (hP : ArgsP Try.prog h.next h 12 [35] xs) : ∃ h', Says Try.prog 6 xs h (.ret (.bool true)) h' := by
 obtain ⟨_, _, rfl, hp0, hP⟩ := args_cons hP
 obtain rfl := args0 hP
 obtain ⟨k, u, rfl, _⟩ := pat_of hp0
 obtain ⟨n, hn⟩ : ∃ n, 1000000 < n := ⟨1000001, Nat.lt_succ_self _⟩
 obtain ⟨D, hD⟩ : ∃ D, 1000 ≤ D := ⟨1000, Nat.le_refl _⟩
 suffices hK : Wp (law09_PatternTrees (world n (D + 3)) n [.int .i64 k, strA u] h) fun r _ => r = .ret (.bool true) by
  obtain ⟨_, h', e, rfl⟩ := hK
  exact ⟨h', law09_PatternTrees_ok (world_ok n (D + 3)) e⟩
 unfold law09_PatternTrees
 have hwk := worksK_w n (D + 2)
 have hxN : ∀ {h1 : AHeap} {rs : List RowT}, Abs.Mem [] h h1 rs → memB TNode h1.ex = false := fun M => by rw [M.ex, hX]; rfl
 have Mx := Mem.nil [] h
 have hs0 := same0 n (D + 3) (by omega) (by omega)
 rcases bothT k u (n := n) (D := D + 3) (by omega) (by omega) with ⟨e, q, he, hb⟩ | ⟨t, hl, tp, hb⟩
 ·repeat (first | ((with_reducible apply Wp.obind); (with_reducible exact avBool_bool _)) | ((with_reducible apply Wp.lr0 Mx); rfl) | ((with_reducible apply Wp.sa0 Mx); rfl; rfl; (rfl); intro _ Mz; clear Mx; have Mx := Mz; clear Mz) | ((with_reducible apply Wp.lr1 Mx); rfl) | ((with_reducible apply Wp.sa1 Mx); rfl; rfl; (rfl); intro _ Mz; clear Mx; have Mx := Mz; clear Mz) | ((with_reducible apply Wp.lr2 Mx); rfl) | ((with_reducible apply Wp.lr3 Mx); rfl) | ((with_reducible apply Wp.mnew Mx); intro _ Mz; clear Mx; have Mx := Mz; clear Mz) | ((with_reducible apply Wp.mbox Mx); (rfl); intro _ Mz; clear Mx; have Mx := Mz; clear Mz) | (with_reducible refine Wp.join1 (fun _ _ => ?_)) | (with_reducible refine Wp.lett ?_) | ((with_reducible apply Wp.obind); (with_reducible first | exact eqSpotS _ _ | exact avAgg_agg _ | exact extT_0 _ _ | exact extT_1 _ _ _)) | ((with_reducible refine Wp.ift ?_ ?_); (with_reducible rfl)) | ((with_reducible refine Wp.iff ?_ ?_); (with_reducible exact Bool.not_true)) | ((with_reducible apply Wp.callN); (with_reducible first | exact hwk _ | exact (hb _ (hxN Mx)).1 | exact (hb _ (hxN Mx)).2 | exact hs0 _)) | (with_reducible refine Wp.go1 (by assumption) ?_) | rw [newP_eq])
  exact Wp.ret rfl
 ·have hsz := treeP_small tp
  repeat (first | ((with_reducible apply Wp.obind); (with_reducible exact avBool_bool _)) | ((with_reducible apply Wp.lr0 Mx); rfl) | ((with_reducible apply Wp.mbox Mx); (rfl); intro _ Mz; clear Mx; have Mx := Mz; clear Mz) | (with_reducible refine Wp.lett ?_) | ((with_reducible refine Wp.iff ?_ ?_); (with_reducible exact Bool.not_true)) | ((with_reducible apply Wp.callN); (with_reducible exact hwk _)))
  obtain ⟨c1, T1, H1, e1, kt1, M1⟩ := (hb _ (hxN Mx)).1
  refine Wp.callN e1 ?_
  have M2 := Mem.frameT (xs := []) (ys := []) Mx M1
  refine Wp.obind (extT_0 _ _) (Wp.obind (avAgg_agg _) (Wp.obind (extT_1 _ _ _) (Wp.obind (avAgg_agg _) ?_)))
  refine Wp.mnew M2 fun h27 M3 => Wp.mnew M3 fun h29 M4 => ?_
  rw [newP_eq, newP_eq]
  refine Wp.sa1 M4 kt1.len rfl kt1.one fun h31 M5 => Wp.sa0 M5 rfl rfl rfl fun h33 M6 => ?_
  refine Wp.lr2 M6 rfl ?_
  obtain ⟨c2, T2, H2, e2, kt2, M7⟩ := (hb _ (hxN M6)).2
  refine Wp.callN e2 ?_
  have M8 := Mem.frameT (xs := []) (ys := []) M6 M7
  refine Wp.obind (extT_0 _ _) (Wp.obind (avAgg_agg _) (Wp.obind (extT_1 _ _ _) (Wp.obind (avAgg_agg _) ?_)))
  refine Wp.mnew M8 fun h45 M9 => Wp.mnew M9 fun h47 M10 => ?_
  rw [newP_eq, newP_eq]
  refine Wp.sa1 M10 kt2.len rfl kt2.one fun h49 M11 => Wp.sa0 M11 rfl rfl rfl fun h51 M12 => ?_
  have r1 : RowsAt h51 T1 := rowsAt_of M12 (fun y hy => by simp [hy])
  have r2 : RowsAt h51 T2 := rowsAt_of M12 (fun y hy => by simp [hy])
  have sm := same_ok (D := D + 3) (n := n) _ kt1 kt2 r1 r2 (by omega) (by omega) (by omega)
  have f1 : ldRow h51 6 (.ptr H1.next 0) = some c1 := RowH.ldAll M12.at3.1 kt1.len
  have f2 : ldRow h51 6 (.ptr H2.next 0) = some c2 := RowH.ldAll M12.at1.1 kt2.len
  clear Mx
  have Mx := M12
  clear M1 M2 M3 M4 M5 M6 M7 M8 M9 M10 M11 M12
  repeat (first | ((with_reducible apply Wp.obind); (with_reducible exact avBool_bool _)) | ((with_reducible apply Wp.lr0 Mx); rfl) | ((with_reducible apply Wp.lr2 Mx); rfl) | (with_reducible refine Wp.join1 (fun _ _ => ?_)) | ((with_reducible apply Wp.obind); (with_reducible first | exact eqSpotS _ _ | exact f1 | exact f2)) | ((with_reducible refine Wp.ift ?_ ?_); (with_reducible rfl)) | ((with_reducible apply Wp.callN); (with_reducible exact sm)) | (with_reducible refine Wp.go1 (by assumption) ?_))
  exact Wp.ret rfl
end Go.Proofs.Yteibdplpbcobbaa
