/- What patternParses_proved stands on, part 8 of 8. -/
import Derived.Test.YteibdplpbcobbaaPp7
namespace Go.Proofs.Yteibdplpbcobbaa
open Go.RowKit Abs
section
variable {n d i j q : Nat} {h h0 H : AHeap} {u : Bytes} {l : List Nd} {r : Res} {t : Nd} {w : List Nat} {S : List Nat} {c : List AV} {kc : List (List AV)} {kv : AV} {T T0 T1 : List RowT} {Q : ARes → AHeap → Prop}
theorem Wp.nodeGrow1 {K : AV → AHeap → R} {y : RowT} (M : Mem S h0 h ((y :: (T0 ++ T1)) ++ T)) (g : GrowT TNode 6 kc kv T0) (ks : KidsT l kc T1) (kt : NodeT t c T) (hex : memB TNode h0.ex = false) (hl : l.length ≤ 1000001)
  (hk : ∀ kv' h' T0', GrowT TNode 6 (kc ++ [c]) kv' T0' → KidsT (l ++ [t]) (kc ++ [c]) (T1 ++ T) → Mem S h0 h' (y :: (T0' ++ (T1 ++ T))) → Wp (K kv' h') Q) :
  Wp (outK (bldSl Try.prog h TNodes 1 [(0, .agg c)]) fun v12 h29 => outK (opAppend Try.prog h29 TNodes TNodes kv v12) fun v13 h31 => K v13 h31) Q := by
 refine Wp.mnews M (kt.bld h) kt.one hex fun h1 M1 => ?_
 have M2 : Mem S h0 h1 ((h.next, TNode, c) :: (y :: (T1 ++ T)) ++ T0) := M1.perm (by
  refine List.Perm.cons _ (List.Perm.cons _ ?_)
  show ((T1 ++ T) ++ T0).Perm ((T0 ++ T1) ++ T)
  rw [List.append_assoc T0]
  exact List.perm_append_comm)
 have hkl := ks.len
 refine Wp.grow M2 g (by kernel_rfl) (by kernel_rfl) (by kernel_rfl) (B := 64) (by kernel_rfl) hex kt.len kt.one (by omega) (by omega) fun kv' h' T0' g' M3 => ?_
 refine hk kv' h' T0' g' (KidsT.snoc kt ks) (M3.perm ?_)
 exact List.Perm.cons _ List.perm_append_comm
theorem lit_loop {k8 : AV → AHeap → R} {z : List AV} (hu : u.length ≤ 1000000) (hx : memB TNode h.ex = false) : ∀ {l : List Nd} {i : Nat} {r : Res}, FlatP (partL u) u l i r → i ≤ u.length → ∀ {f : Nat} {H : AHeap} {kc : List (List AV)} {kv : AV} {T0 T1 : List RowT}, u.length - i < f → GrowT TNode 6 kc kv T0 → KidsT l kc T1 → l.length ≤ i → Mem [] h H ((h.next, TNode, z) :: (T0 ++ T1)) →
  (∀ l' kc kv T0 T1 H', dropJ r = .ok (joinN 3 l') → GrowT TNode 6 kc kv T0 → KidsT l' kc T1 → Mem [] h H' ((h.next, TNode, z) :: (T0 ++ T1)) → Wp (k8 kv H') Q) →
  Wp (ref09_literal_L0 (world n (d + 1)) u k8 f kv (i : Int) H) Q
 | l, i, _, .stop s, hi, f, H, kc, kv, T0, T1, hf, g, ks, hl, M, hok => by
  obtain ⟨f, rfl⟩ : ∃ f', f = f' + 1 := ⟨f - 1, by omega⟩
  have ll := lenS_nat u
  rw [ref09_literal_L0_s]
  unfold ref09_literal_L0b
  repeat (first | (with_reducible refine Wp.l ?_) | ((with_reducible refine Wp.iff ?_ ?_; apply decide_eq_false); omega))
  exact hok _ kc kv T0 T1 H rfl g ks M
 | l, i, _, .bad s hb, _, _, _, _, _, _, _, _, _, _, _, _, _ => by
  unfold partL at hb
  rw [at?_lt s] at hb
  cases hb
 | l, i, r, .more (j := j) s hb m, hi, f, H, kc, kv, T0, T1, hf, g, ks, hl, M, hok => by
  obtain ⟨f, rfl⟩ : ∃ f', f = f' + 1 := ⟨f - 1, by omega⟩
  have ll := lenS_nat u
  unfold partL at hb
  rw [at?_lt s] at hb
  cases hb
  have hx1 := idxS_nat (l := u) s
  rw [ref09_literal_L0_s]
  unfold ref09_literal_L0b
  repeat (first | (with_reducible first | refine Wp.l ?_ | (apply Wp.o; first | exact hx1 | exact avAgg_agg _)) | ((with_reducible refine Wp.ift ?_ ?_; apply decide_eq_true); omega) | (with_reducible apply Wp.callN; exact One_w (UInt8.toNat_lt _)))
  have kt : ∀ c, NodeT (oneN c) (nodeC 2 (spanW zeroW c 1) .nsl) [] := fun c => NodeT.leaf 2 (spanW_ok 1 zeroW_ok c)
  refine Wp.nodeGrow1 (T := []) (by rw [List.append_nil]; exact M) g ks (kt _) hx (by omega) fun kv' h' T0' g' ks' M5 => ?_
  repeat (((with_reducible refine Wp.lettw ?_ ?_ ?_); omega; omega))
  rw [show (i : Int) + 1 = ((i + 1 : Nat) : Int) by omega]
  exact lit_loop hu hx m (by omega) (by omega) g' ks' (by simp; omega) M5 hok
theorem lit_w (hu : u.length ≤ 1000000) (hn2 : u.length < n) (hx : memB TNode h.ex = false) (k : FlatP (partL u) u [] 0 r) : ∃ t c T h', dropJ r = .ok t ∧ world n (d + 2) 41 [strA u] h = some (.ret (.agg c), h') ∧ NodeT t c T ∧ Mem [] h h' T := by
 rw [w_ref09_literal]
 have main : ∃ t c T h', dropJ r = .ok t ∧ ref09_literal (world n (d + 1)) n u h = some (.ret (.agg c), h') ∧ NodeT t c T ∧ Mem [] h h' T := by
  suffices hK : Wp (ref09_literal (world n (d + 1)) n u h) fun v h' => ∃ t c T, dropJ r = .ok t ∧ v = .ret (.agg c) ∧ NodeT t c T ∧ Mem [] h h' T by
   obtain ⟨_, h', e, t, c, T, h1, rfl, h2, h3⟩ := hK
   exact ⟨t, c, T, h', h1, e, h2, h3⟩
  unfold ref09_literal
  refine Wp.mnew (Mem.nil [] h) fun h1 M1 => ?_
  ((with_reducible refine Wp.join1 (fun _ _ => ?_)))
  rename_i k8 ek8
  refine lit_loop (i := 0) hu hx k (Nat.zero_le _) (by omega) (GrowT.nil _ _) .nil (Nat.le_refl _) M1 fun l' kc kv T0 T1 H' hr g ks M2 => ?_
  refine Wp.go1 ek8 ?_
  obtain ⟨c, T, h2, e2, kt, M3⟩ := Over_r (n := n) (d := d) 3 (xs := [_]) M2 g ks
  refine Wp.callN e2 (Wp.o (avAgg_agg _) ?_)
  rw [newP_eq]
  refine Wp.sa0 M3 kt.len rfl kt.one fun h3 M4 => ?_
  refine Wp.lr0 M4 kt.len ?_
  exact Wp.ret ⟨_, c, T, hr, rfl, kt, M4.pop⟩
 obtain ⟨t, c, T, h', h1, e, kt, M⟩ := main
 suffices hK : Wp (gcR h (ref09_literal (world n (d + 1)) n u h)) fun r h' => ∃ T, r = .ret (.agg c) ∧ NodeT t c T ∧ Mem [] h h' T by
  obtain ⟨_, h', e, T, rfl, k1, k2⟩ := hK
  exact ⟨t, c, T, h', h1, e, k1, k2⟩
 refine Wp.gc2 ⟨_, h', e, ⟨T, rfl, kt, M⟩, fun _ hl => ?_⟩
 have hT : T = [] := kt.low (fun y hy => (M.row y hy).2.2.resolve_left (by simp)) hl
 subst hT
 exact ⟨[], rfl, kt, Mem.nil _ _⟩
theorem glob_loop {k8 : AV → AHeap → R} {z : List AV} (hu : u.length ≤ 1000000) (hz : z.length = 6) (hn : 300 < n) (hx : memB TNode h.ex = false) : ∀ {l : List Nd} {i : Nat} {r : Res}, FlatP (partG u) u l i r → i ≤ u.length → ∀ {f : Nat} {H : AHeap} {kc : List (List AV)} {kv : AV} {T0 T1 : List RowT}, u.length - i < f → GrowT TNode 6 kc kv T0 → KidsT l kc T1 → l.length ≤ i → Mem [] h H ((h.next, TNode, z) :: (T0 ++ T1)) →
  (∀ l' kc kv T0 T1 H', dropJ r = .ok (joinN 3 l') → GrowT TNode 6 kc kv T0 → KidsT l' kc T1 → Mem [] h H' ((h.next, TNode, z) :: (T0 ++ T1)) → Wp (k8 kv H') Q) →
  (∀ q H', r = .error q → q = u.length → Tch [] h H' → Q (.ret (.tup [.agg (nodeC 0 zeroW .nsl), .bool false])) H') →
  Wp (ref09_glob_L0 (world n (d + 1)) u h k8 f kv (i : Int) H) Q
 | l, i, _, .stop s, hi, f, H, kc, kv, T0, T1, hf, g, ks, hl, M, hok, hbad => by
  obtain ⟨f, rfl⟩ : ∃ f', f = f' + 1 := ⟨f - 1, by omega⟩
  have ll := lenS_nat u
  rw [ref09_glob_L0_s]
  unfold ref09_glob_L0b
  repeat (first | (with_reducible refine Wp.l ?_) | ((with_reducible refine Wp.iff ?_ ?_; apply decide_eq_false); omega))
  exact hok _ kc kv T0 T1 H rfl g ks M
 | l, i, _, .bad (q := q) s hb, hi, f, H, kc, kv, T0, T1, hf, g, ks, hl, M, hok, hbad => by
  obtain ⟨f, rfl⟩ : ∃ f', f = f' + 1 := ⟨f - 1, by omega⟩
  have ll := lenS_nat u
  have hx1 := idxS_nat (l := u) s
  unfold partG at hb
  rw [at?_lt s] at hb
  generalize hc : (u[i]).toNat = c at hb hx1
  dsimp only at hb
  split at hb
  ·cases hb
  split at hb
  ·cases hb
  split at hb
  ·rename_i h92
   subst h92
   split at hb
   ·rename_i he
    cases hb
    have hl1 := at?_none he (by omega)
    rw [ref09_glob_L0_s]
    unfold ref09_glob_L0b
    repeat (first | (with_reducible refine Wp.join1 (fun _ _ => ?_)) | ((with_reducible refine Wp.lettw ?_ ?_ ?_); omega; omega) | (with_reducible first | refine Wp.l ?_ | (apply Wp.o; exact hx1)) | ((with_reducible refine Wp.ift ?_ ?_); ((with_reducible first | apply decide_eq_true | apply beq_t); omega)) | (with_reducible refine Wp.go1 (by assumption) ?_) | rw [newP_eq])
    refine Wp.sa0 M rfl hz rfl fun h5 M4 => ?_
    refine Wp.lr0 M4 rfl ?_
    exact Wp.ret (hbad _ _ rfl hl1 M4.tch)
   ·cases hb
  ·cases hb
 | l, i, r, .more (j := j) s hb m, hi, f, H, kc, kv, T0, T1, hf, g, ks, hl, M, hok, hbad => by
  obtain ⟨f, rfl⟩ : ∃ f', f = f' + 1 := ⟨f - 1, by omega⟩
  have ll := lenS_nat u
  have hx1 := idxS_nat (l := u) s
  have kt : ∀ c, NodeT (oneN c) (nodeC 2 (spanW zeroW c 1) .nsl) [] := fun c => NodeT.leaf 2 (spanW_ok 1 zeroW_ok c)
  have kta : NodeT anyN (nodeC 2 anyW .nsl) [] := NodeT.leaf 2 anyW_ok
  have c256 : (u[i]).toNat < 256 := UInt8.toNat_lt _
  unfold partG at hb
  rw [at?_lt s] at hb
  generalize hc : (u[i]).toNat = c at hb hx1 c256
  dsimp only at hb
  split at hb
  ·rename_i h42
   subst h42
   cases hb
   rw [ref09_glob_L0_s]
   unfold ref09_glob_L0b
   repeat (first | (with_reducible first | (first | refine Wp.join1 (fun _ _ => ?_) | refine Wp.join2 (fun _ _ => ?_)) | refine Wp.l ?_ | (apply Wp.o; first | exact hx1 | exact avAgg_agg _)) | ((with_reducible refine Wp.ift ?_ ?_); ((with_reducible first | apply decide_eq_true | apply beq_t); omega)) | ((with_reducible refine Wp.iff ?_ ?_); first | (with_reducible rfl) | ((with_reducible apply beq_f); omega)) | (with_reducible first | (apply Wp.callN; exact All_w hn) | refine Wp.go1 (by assumption) ?_))
   refine Wp.mnews M (kta.bld _) kta.one hx fun h66 M2 => ?_
   refine Wp.o (bldOver1 _ _ _) ?_
   have kt' := signed kta 5 H.next
   have M3 : Mem [] h h66 (((h.next, TNode, z) :: (T0 ++ T1)) ++ ([(H.next, TNode, nodeC 2 anyW .nsl)] ++ ([] ++ []))) := M2.perm (by
    rw [List.append_nil, List.append_nil]
    exact List.perm_append_comm)
   refine Wp.nodeGrow1 M3 g ks kt' hx (by omega) fun kv' h' T0' g' ks' M5 => ?_
   repeat (first | ((with_reducible refine Wp.lettw ?_ ?_ ?_); omega; omega) | (with_reducible first | refine Wp.go1 (by assumption) ?_ | refine Wp.go2 (by assumption) ?_))
   rw [show (i : Int) + 1 = ((i + 1 : Nat) : Int) by omega]
   exact glob_loop hu hz hn hx m (by omega) (by omega) g' ks' (by simp; omega) M5 hok hbad
  split at hb
  ·rename_i h63
   subst h63
   cases hb
   rw [ref09_glob_L0_s]
   unfold ref09_glob_L0b
   repeat (first | (with_reducible first | (first | refine Wp.join1 (fun _ _ => ?_) | refine Wp.join2 (fun _ _ => ?_)) | refine Wp.l ?_ | (apply Wp.o; first | exact hx1 | exact avAgg_agg _)) | ((with_reducible refine Wp.ift ?_ ?_); ((with_reducible first | apply decide_eq_true | apply beq_t); omega)) | ((with_reducible refine Wp.iff ?_ ?_); first | (with_reducible rfl) | ((with_reducible apply beq_f); omega)) | (with_reducible first | (apply Wp.callN; exact All_w hn) | refine Wp.go1 (by assumption) ?_))
   refine Wp.nodeGrow1 (T := []) (by rw [List.append_nil]; exact M) g ks kta hx (by omega) fun kv' h' T0' g' ks' M5 => ?_
   repeat (first | ((with_reducible refine Wp.lettw ?_ ?_ ?_); omega; omega) | (with_reducible first | refine Wp.go1 (by assumption) ?_ | refine Wp.go2 (by assumption) ?_))
   rw [show (i : Int) + 1 = ((i + 1 : Nat) : Int) by omega]
   exact glob_loop hu hz hn hx m (by omega) (by omega) g' ks' (by simp; omega) M5 hok hbad
  split at hb
  ·rename_i h92
   subst h92
   split at hb
   ·cases hb
   ·rename_i e he
    cases hb
    obtain ⟨hl1, he1⟩ := at?_some he
    have e256 := at?_256 he
    have hx2 := idxS_nat (l := u) hl1
    rw [he1, show ((i + 1 : Nat) : Int) = (i : Int) + 1 by omega] at hx2
    rw [ref09_glob_L0_s]
    unfold ref09_glob_L0b
    repeat (first | (with_reducible first | refine Wp.join1 (fun _ _ => ?_) | refine Wp.join2 (fun _ _ => ?_)) | ((with_reducible refine Wp.lettw ?_ ?_ ?_); omega; omega) | (with_reducible first | refine Wp.l ?_ | (apply Wp.o; first | exact hx1 | exact hx2 | exact avAgg_agg _)) | ((with_reducible refine Wp.ift ?_ ?_); ((with_reducible first | apply decide_eq_true | apply beq_t); omega)) | ((with_reducible refine Wp.iff ?_ ?_; apply beq_f); omega) | (with_reducible first | (apply Wp.callN; exact One_w e256) | refine Wp.go1 (by assumption) ?_))
    refine Wp.nodeGrow1 (T := []) (by rw [List.append_nil]; exact M) g ks (kt _) hx (by omega) fun kv' h' T0' g' ks' M5 => ?_
    repeat (first | ((with_reducible refine Wp.lettw ?_ ?_ ?_); omega; omega) | (with_reducible refine Wp.go2 (by assumption) ?_))
    rw [show (i : Int) + 1 + 1 = ((i + 2 : Nat) : Int) by omega]
    exact glob_loop hu hz hn hx m (by omega) (by omega) g' ks' (by simp; omega) M5 hok hbad
  ·cases hb
   rw [ref09_glob_L0_s]
   unfold ref09_glob_L0b
   repeat (first | (with_reducible first | (first | refine Wp.join1 (fun _ _ => ?_) | refine Wp.join2 (fun _ _ => ?_)) | refine Wp.l ?_ | (apply Wp.o; first | exact hx1 | exact avAgg_agg _)) | ((with_reducible refine Wp.ift ?_ ?_); ((with_reducible first | apply decide_eq_true | apply beq_t); omega)) | ((with_reducible refine Wp.iff ?_ ?_); first | (with_reducible rfl) | ((with_reducible apply beq_f); omega)) | (with_reducible first | (apply Wp.callN; exact One_w c256) | refine Wp.go1 (by assumption) ?_))
   refine Wp.nodeGrow1 (T := []) (by rw [List.append_nil]; exact M) g ks (kt _) hx (by omega) fun kv' h' T0' g' ks' M5 => ?_
   repeat (first | ((with_reducible refine Wp.lettw ?_ ?_ ?_); omega; omega) | (with_reducible first | refine Wp.go1 (by assumption) ?_ | refine Wp.go2 (by assumption) ?_))
   rw [show (i : Int) + 1 = ((i + 1 : Nat) : Int) by omega]
   exact glob_loop hu hz hn hx m (by omega) (by omega) g' ks' (by simp; omega) M5 hok hbad
def OutG (h : AHeap) (x : R) (u : Bytes) : Except Nat Nd → Prop
 | .ok t => ∃ c T h', x = some (.ret (.tup [.agg c, .bool true]), h') ∧ NodeT t c T ∧ Mem [] h h' T
 | .error q => q = u.length ∧ x = some (.ret (.tup [.agg (nodeC 0 zeroW .nsl), .bool false]), h)
def RawG (h : AHeap) (u : Bytes) : Except Nat Nd → ARes → AHeap → Prop
 | .ok t, v, h' => ∃ c T, v = .ret (.tup [.agg c, .bool true]) ∧ NodeT t c T ∧ Mem [] h h' T
 | .error q, v, h' => q = u.length ∧ v = .ret (.tup [.agg (nodeC 0 zeroW .nsl), .bool false]) ∧ Tch [] h h'
theorem OutG.gc {r : Except Nat Nd} {x : R} (k : Wp x (RawG h u r)) : OutG h (gcR h x) u r := by
 cases r with
 | error q =>
  obtain ⟨v, h', e, hq, e2, t⟩ := k
  refine ⟨hq, ?_⟩
  apply Wp.eq
  exact Wp.gc ⟨v, h', e, t.above, by rw [e2]; rfl, e2, rfl⟩
 | ok t =>
  obtain ⟨v, h', e, c, T, rfl, kt, M⟩ := k
  suffices hK : Wp (gcR h x) fun r h' => ∃ T, r = .ret (.tup [.agg c, .bool true]) ∧ NodeT t c T ∧ Mem [] h h' T by
   obtain ⟨_, h', e, T, rfl, k1, k2⟩ := hK
   exact ⟨c, T, h', e, k1, k2⟩
  refine Wp.gc2 ⟨_, h', e, ⟨T, rfl, kt, M⟩, fun _ hl => ?_⟩
  have h1 : AV.loL h.next c = true := by
   have : (AV.loL h.next c && (true && AV.loL h.next [])) = true := hl
   rw [Bool.and_eq_true] at this
   exact this.1
  have hT : T = [] := kt.low (fun y hy => (M.row y hy).2.2.resolve_left (by simp)) h1
  subst hT
  exact ⟨[], rfl, kt, Mem.nil _ _⟩
theorem glob_w (hu : u.length ≤ 1000000) (hn : 300 < n) (hn2 : u.length < n) (hx : memB TNode h.ex = false) (k : FlatP (partG u) u [] 0 r) : OutG h (world n (d + 2) 42 [strA u] h) u (dropJ r) := by
 rw [w_ref09_glob]
 refine OutG.gc ?_
 unfold ref09_glob
 refine Wp.mnew (Mem.nil [] h) fun h1 M1 => ?_
 ((with_reducible refine Wp.join1 (fun _ _ => ?_)))
 rename_i k8 ek8
 refine glob_loop (i := 0) hu rfl hn hx k (Nat.zero_le _) (by omega) (GrowT.nil _ _) .nil (Nat.le_refl _) M1 (fun l' kc kv T0 T1 H' hr g ks M2 => ?_) fun q H' hr hq ht => ?_
 ·refine Wp.go1 ek8 ?_
  obtain ⟨c, T, h2, e2, kt, M3⟩ := Over_r (n := n) (d := d) 3 (xs := [_]) M2 g ks
  refine Wp.callN e2 (Wp.o (avAgg_agg _) ?_)
  rw [newP_eq]
  refine Wp.sa0 M3 kt.len rfl kt.one fun h3 M4 => ?_
  refine Wp.lr0 M4 kt.len ?_
  rw [hr]
  exact Wp.ret ⟨c, T, rfl, kt, M4.pop⟩
 ·subst hr
  exact ⟨hq, rfl, ht⟩
end
open Go.RowKit Abs
open Go.RowKit Abs
theorem tree_long {u : Bytes} (l : 64 < u.length) {kind : Int} (hk : kind = 1 ∨ kind = 2 ∨ kind = 3) {n D : Nat} {h : AHeap} : world n (D + 1) 21 [.agg [.int .i64 kind, strA u]] h = some (.ret (.tup [.agg (nodeC 0 zeroW .nsl), .agg [.int .i64 3, .int .i64 64]]), h) := by
 rcases hk with rfl | rfl | rfl
 ·apply Wp.eq
  rw [w_pattern_Tree]
  refine Wp.gc ?_
  suffices hK : Wp (pattern_Tree (world n D) n [.int .i64 1, strA u] h) fun r h' => r = .ret (.tup [.agg (nodeC 0 zeroW .nsl), .agg [.int .i64 3, .int .i64 64]]) ∧ Tch [] h h' from hK.mono fun r h' ⟨e, t⟩ => ⟨t.above, by rw [e]; rfl, e, rfl⟩
  unfold pattern_Tree
  have ll := lenS_nat u
  have Mx := Mem.nil [] h
  repeat (first | (with_reducible apply Wp.o; first | exact avInt_int _ _ | exact avStr_str _ | exact fldP_ptr _ _ _) | ((with_reducible apply Wp.lr0 Mx); rfl) | ((with_reducible apply Wp.sa0 Mx); rfl; rfl; (rfl); clear Mx; intro _ Mx) | ((with_reducible apply Wp.lr1 Mx); rfl) | ((with_reducible apply Wp.sa1 Mx); rfl; rfl; (rfl); clear Mx; intro _ Mx) | ((with_reducible apply Wp.ld2 Mx); rfl) | ((with_reducible apply Wp.mnew Mx); clear Mx; intro _ Mx) | ((with_reducible apply Wp.mbox Mx); (rfl); clear Mx; intro _ Mx) | (with_reducible first | refine Wp.join1 (fun _ _ => ?_) | refine Wp.l ?_) | ((with_reducible refine Wp.ift ?_ ?_); ((with_reducible first | apply decide_eq_true | apply bne_t); omega)) | ((with_reducible refine Wp.iff ?_ ?_); first | (with_reducible rfl) | ((with_reducible apply bne_f); omega)) | (with_reducible refine Wp.go1 (by assumption) ?_) | rw [newP_eq])
  exact Wp.ret ⟨rfl, Mx.tch⟩
 ·apply Wp.eq
  rw [w_pattern_Tree]
  refine Wp.gc ?_
  suffices hK : Wp (pattern_Tree (world n D) n [.int .i64 2, strA u] h) fun r h' => r = .ret (.tup [.agg (nodeC 0 zeroW .nsl), .agg [.int .i64 3, .int .i64 64]]) ∧ Tch [] h h' from hK.mono fun r h' ⟨e, t⟩ => ⟨t.above, by rw [e]; rfl, e, rfl⟩
  unfold pattern_Tree
  have ll := lenS_nat u
  have Mx := Mem.nil [] h
  repeat (first | (with_reducible apply Wp.o; first | exact avInt_int _ _ | exact avStr_str _ | exact fldP_ptr _ _ _) | ((with_reducible apply Wp.lr0 Mx); rfl) | ((with_reducible apply Wp.sa0 Mx); rfl; rfl; (rfl); clear Mx; intro _ Mx) | ((with_reducible apply Wp.lr1 Mx); rfl) | ((with_reducible apply Wp.sa1 Mx); rfl; rfl; (rfl); clear Mx; intro _ Mx) | ((with_reducible apply Wp.ld2 Mx); rfl) | ((with_reducible apply Wp.mnew Mx); clear Mx; intro _ Mx) | ((with_reducible apply Wp.mbox Mx); (rfl); clear Mx; intro _ Mx) | (with_reducible first | refine Wp.join1 (fun _ _ => ?_) | refine Wp.l ?_) | ((with_reducible refine Wp.ift ?_ ?_); ((with_reducible first | apply decide_eq_true | apply bne_t); omega)) | ((with_reducible refine Wp.iff ?_ ?_); first | (with_reducible rfl) | ((with_reducible apply bne_f); omega)) | (with_reducible refine Wp.go1 (by assumption) ?_) | rw [newP_eq])
  exact Wp.ret ⟨rfl, Mx.tch⟩
 ·apply Wp.eq
  rw [w_pattern_Tree]
  refine Wp.gc ?_
  suffices hK : Wp (pattern_Tree (world n D) n [.int .i64 3, strA u] h) fun r h' => r = .ret (.tup [.agg (nodeC 0 zeroW .nsl), .agg [.int .i64 3, .int .i64 64]]) ∧ Tch [] h h' from hK.mono fun r h' ⟨e, t⟩ => ⟨t.above, by rw [e]; rfl, e, rfl⟩
  unfold pattern_Tree
  have ll := lenS_nat u
  have Mx := Mem.nil [] h
  repeat (first | (with_reducible apply Wp.o; first | exact avInt_int _ _ | exact avStr_str _ | exact fldP_ptr _ _ _) | ((with_reducible apply Wp.lr0 Mx); rfl) | ((with_reducible apply Wp.sa0 Mx); rfl; rfl; (rfl); clear Mx; intro _ Mx) | ((with_reducible apply Wp.lr1 Mx); rfl) | ((with_reducible apply Wp.sa1 Mx); rfl; rfl; (rfl); clear Mx; intro _ Mx) | ((with_reducible apply Wp.ld2 Mx); rfl) | ((with_reducible apply Wp.mnew Mx); clear Mx; intro _ Mx) | ((with_reducible apply Wp.mbox Mx); (rfl); clear Mx; intro _ Mx) | (with_reducible first | refine Wp.join1 (fun _ _ => ?_) | refine Wp.l ?_) | ((with_reducible refine Wp.ift ?_ ?_); ((with_reducible first | apply decide_eq_true | apply bne_t); omega)) | ((with_reducible refine Wp.iff ?_ ?_; apply bne_f); omega) | (with_reducible refine Wp.go1 (by assumption) ?_) | rw [newP_eq])
  exact Wp.ret ⟨rfl, Mx.tch⟩
def OutT (h : AHeap) (x : R) : Except Nat Nd → Prop
 | .ok t => ∃ c T h', x = some (.ret (.tup [.agg c, .agg [.int .i64 0, .int .i64 0]]), h') ∧ NodeT t c T ∧ Mem [] h h' T
 | .error q => x = some (.ret (.tup [.agg (nodeC 0 zeroW .nsl), .agg [.int .i64 6, .int .i64 (q : Int)]]), h)
def RawT (h : AHeap) : Except Nat Nd → ARes → AHeap → Prop
 | .ok t, v, h' => ∃ c T, v = .ret (.tup [.agg c, .agg [.int .i64 0, .int .i64 0]]) ∧ NodeT t c T ∧ Mem [] h h' T
 | .error q, v, h' => v = .ret (.tup [.agg (nodeC 0 zeroW .nsl), .agg [.int .i64 6, .int .i64 (q : Int)]]) ∧ Tch [] h h'
section
variable {n d : Nat} {h : AHeap} {u : Bytes}
theorem OutT.gc {r : Except Nat Nd} {x : R} (k : Wp x (RawT h r)) : OutT h (gcR h x) r := by
 cases r with
 | error q =>
  apply Wp.eq
  exact Wp.gc (k.mono fun v h' ⟨e, t⟩ => ⟨t.above, by rw [e]; rfl, e, rfl⟩)
 | ok t =>
  obtain ⟨v, h', e, c, T, rfl, kt, M⟩ := k
  suffices hK : Wp (gcR h x) fun r h' => ∃ T, r = .ret (.tup [.agg c, .agg [.int .i64 0, .int .i64 0]]) ∧ NodeT t c T ∧ Mem [] h h' T by
   obtain ⟨_, h', e, T, rfl, k1, k2⟩ := hK
   exact ⟨c, T, h', e, k1, k2⟩
  refine Wp.gc2 ⟨_, h', e, ⟨T, rfl, kt, M⟩, fun _ hl => ?_⟩
  have h1 : AV.loL h.next c = true := by
   have : (AV.loL h.next c && (AV.loL h.next [.int .i64 0, .int .i64 0] && AV.loL h.next [])) = true := hl
   rw [Bool.and_eq_true] at this
   exact this.1
  have hT : T = [] := kt.low (fun y hy => (M.row y hy).2.2.resolve_left (by simp)) h1
  subst hT
  exact ⟨[], rfl, kt, Mem.nil _ _⟩
theorem badT_w (q : Int) : world n (d + 1) 34 [.int .i64 q] h = some (.ret (.agg [.int .i64 6, .int .i64 q]), h) := by
 apply Wp.eq
 rw [w_ref09_bad]
 refine Wp.gc ?_
 unfold ref09_bad
 have Mx := Mem.nil [] h
 repeat (first | ((with_reducible apply Wp.lr0 Mx); rfl) | ((with_reducible apply Wp.sa0 Mx); rfl; rfl; (rfl); clear Mx; intro _ Mx) | ((with_reducible apply Wp.mnew Mx); clear Mx; intro _ Mx) | rw [newP_eq])
 exact Wp.ret ⟨Mx.tch.above, rfl, rfl, rfl⟩
theorem rTree_long (l : 64 < u.length) {kind : Int} (hk : kind = 1 ∨ kind = 2 ∨ kind = 3) : world n (d + 1) 22 [.agg [.int .i64 kind, strA u]] h = some (.ret (.tup [.agg (nodeC 0 zeroW .nsl), .agg [.int .i64 3, .int .i64 64]]), h) := by
 rcases hk with rfl | rfl | rfl
 ·apply Wp.eq
  rw [w_ref09_Tree]
  refine Wp.gc ?_
  suffices hK : Wp (ref09_Tree (world n d) n [.int .i64 1, strA u] h) fun r h' => r = .ret (.tup [.agg (nodeC 0 zeroW .nsl), .agg [.int .i64 3, .int .i64 64]]) ∧ Tch [] h h' from hK.mono fun r h' ⟨e, t⟩ => ⟨t.above, by rw [e]; rfl, e, rfl⟩
  unfold ref09_Tree
  have ll := lenS_nat u
  have Mx := Mem.nil [] h
  repeat (first | (with_reducible apply Wp.o; first | exact avInt_int _ _ | exact avStr_str _ | exact fldP_ptr _ _ _) | ((with_reducible apply Wp.lr0 Mx); rfl) | ((with_reducible apply Wp.sa0 Mx); rfl; rfl; (rfl); clear Mx; intro _ Mx) | ((with_reducible apply Wp.lr1 Mx); rfl) | ((with_reducible apply Wp.sa1 Mx); rfl; rfl; (rfl); clear Mx; intro _ Mx) | ((with_reducible apply Wp.ld2 Mx); rfl) | ((with_reducible apply Wp.mnew Mx); clear Mx; intro _ Mx) | ((with_reducible apply Wp.mbox Mx); (rfl); clear Mx; intro _ Mx) | (with_reducible first | refine Wp.join1 (fun _ _ => ?_) | refine Wp.l ?_) | ((with_reducible refine Wp.ift ?_ ?_); ((with_reducible first | apply decide_eq_true | apply bne_t); omega)) | ((with_reducible refine Wp.iff ?_ ?_); first | (with_reducible rfl) | ((with_reducible apply bne_f); omega)) | (with_reducible refine Wp.go1 (by assumption) ?_) | rw [newP_eq])
  exact Wp.ret ⟨rfl, Mx.tch⟩
 ·apply Wp.eq
  rw [w_ref09_Tree]
  refine Wp.gc ?_
  suffices hK : Wp (ref09_Tree (world n d) n [.int .i64 2, strA u] h) fun r h' => r = .ret (.tup [.agg (nodeC 0 zeroW .nsl), .agg [.int .i64 3, .int .i64 64]]) ∧ Tch [] h h' from hK.mono fun r h' ⟨e, t⟩ => ⟨t.above, by rw [e]; rfl, e, rfl⟩
  unfold ref09_Tree
  have ll := lenS_nat u
  have Mx := Mem.nil [] h
  repeat (first | (with_reducible apply Wp.o; first | exact avInt_int _ _ | exact avStr_str _ | exact fldP_ptr _ _ _) | ((with_reducible apply Wp.lr0 Mx); rfl) | ((with_reducible apply Wp.sa0 Mx); rfl; rfl; (rfl); clear Mx; intro _ Mx) | ((with_reducible apply Wp.lr1 Mx); rfl) | ((with_reducible apply Wp.sa1 Mx); rfl; rfl; (rfl); clear Mx; intro _ Mx) | ((with_reducible apply Wp.ld2 Mx); rfl) | ((with_reducible apply Wp.mnew Mx); clear Mx; intro _ Mx) | ((with_reducible apply Wp.mbox Mx); (rfl); clear Mx; intro _ Mx) | (with_reducible first | refine Wp.join1 (fun _ _ => ?_) | refine Wp.l ?_) | ((with_reducible refine Wp.ift ?_ ?_); ((with_reducible first | apply decide_eq_true | apply bne_t); omega)) | ((with_reducible refine Wp.iff ?_ ?_); first | (with_reducible rfl) | ((with_reducible apply bne_f); omega)) | (with_reducible refine Wp.go1 (by assumption) ?_) | rw [newP_eq])
  exact Wp.ret ⟨rfl, Mx.tch⟩
 ·apply Wp.eq
  rw [w_ref09_Tree]
  refine Wp.gc ?_
  suffices hK : Wp (ref09_Tree (world n d) n [.int .i64 3, strA u] h) fun r h' => r = .ret (.tup [.agg (nodeC 0 zeroW .nsl), .agg [.int .i64 3, .int .i64 64]]) ∧ Tch [] h h' from hK.mono fun r h' ⟨e, t⟩ => ⟨t.above, by rw [e]; rfl, e, rfl⟩
  unfold ref09_Tree
  have ll := lenS_nat u
  have Mx := Mem.nil [] h
  repeat (first | (with_reducible apply Wp.o; first | exact avInt_int _ _ | exact avStr_str _ | exact fldP_ptr _ _ _) | ((with_reducible apply Wp.lr0 Mx); rfl) | ((with_reducible apply Wp.sa0 Mx); rfl; rfl; (rfl); clear Mx; intro _ Mx) | ((with_reducible apply Wp.lr1 Mx); rfl) | ((with_reducible apply Wp.sa1 Mx); rfl; rfl; (rfl); clear Mx; intro _ Mx) | ((with_reducible apply Wp.ld2 Mx); rfl) | ((with_reducible apply Wp.mnew Mx); clear Mx; intro _ Mx) | ((with_reducible apply Wp.mbox Mx); (rfl); clear Mx; intro _ Mx) | (with_reducible first | refine Wp.join1 (fun _ _ => ?_) | refine Wp.l ?_) | ((with_reducible refine Wp.ift ?_ ?_); ((with_reducible first | apply decide_eq_true | apply bne_t); omega)) | ((with_reducible refine Wp.iff ?_ ?_; apply bne_f); omega) | (with_reducible refine Wp.go1 (by assumption) ?_) | rw [newP_eq])
  exact Wp.ret ⟨rfl, Mx.tch⟩
theorem rTree_ok (hl : u.length ≤ 64) (hn : 300 < n) {k : Int} {r : Except Nat Nd} (tp : TreeP u k r) {D : Nat} (hD : 300 ≤ D) (hx : memB TNode h.ex = false) : OutT h (world n (D + 1) 22 [.agg [.int .i64 k, strA u]] h) r := by
 rw [w_ref09_Tree]
 refine OutT.gc ?_
 unfold ref09_Tree
 have ll := lenS_nat u
 have Mx := Mem.nil [] h
 obtain ⟨D, rfl⟩ : ∃ D', D = D' + 2 := ⟨D - 2, by omega⟩
 have fin3 : ∀ {t : Nd} {j : Nat}, AltP u [] 0 (.ok (t, j)) → ∀ {H : AHeap}, memB TNode H.ex = false → OutN H (world n (D + 2) 43 [strA u, .int .i64 ((0 : Nat) : Int)] H) (.ok (t, j)) := fun a H hH => alt_call (by omega) (altM (by omega) hn (by omega) a (Nat.zero_le _)) (by omega) hH
 cases tp with
 | lit a =>
  repeat (first | (with_reducible apply Wp.o; first | exact avInt_int _ _ | exact avStr_str _ | exact fldP_ptr _ _ _) | ((with_reducible apply Wp.ld2 Mx); rfl) | ((with_reducible apply Wp.mnew Mx); clear Mx; intro _ Mx) | ((with_reducible apply Wp.mbox Mx); (rfl); clear Mx; intro _ Mx) | (with_reducible first | refine Wp.join1 (fun _ _ => ?_) | refine Wp.l ?_) | ((with_reducible refine Wp.ift ?_ ?_); ((with_reducible first | apply decide_eq_true | apply bne_t | apply beq_t); omega)) | ((with_reducible refine Wp.iff ?_ ?_); first | (with_reducible rfl) | ((with_reducible first | apply decide_eq_false | apply bne_f); omega)) | (with_reducible refine Wp.go1 (by assumption) ?_) | rw [newP_eq])
  obtain ⟨t, c, T, H', hr, e, kt, M2⟩ := lit_w (n := n) (d := D) (by omega) (by omega) (by rw [Mx.ex]; exact hx) a
  refine Wp.callN e (Wp.o (avAgg_agg _) ?_)
  have M3 := Mem.frameT (xs := []) (ys := []) Mx M2
  refine Wp.sa1 M3 kt.len rfl kt.one fun _ M4 => ?_
  refine Wp.sa0 M4 rfl rfl rfl fun _ M5 => ?_
  refine Wp.lr1 M5 kt.len (Wp.lr0 M5 rfl ?_)
  rw [hr]
  exact Wp.ret ⟨c, T, rfl, kt, M5.pop.pop.pop⟩
 | glob a =>
  repeat (first | (with_reducible apply Wp.o; first | exact avInt_int _ _ | exact avStr_str _ | exact fldP_ptr _ _ _) | ((with_reducible apply Wp.ld2 Mx); rfl) | ((with_reducible apply Wp.mnew Mx); clear Mx; intro _ Mx) | ((with_reducible apply Wp.mbox Mx); (rfl); clear Mx; intro _ Mx) | (with_reducible first | refine Wp.join1 (fun _ _ => ?_) | refine Wp.l ?_) | ((with_reducible refine Wp.ift ?_ ?_); ((with_reducible first | apply decide_eq_true | apply bne_t | apply beq_t); omega)) | ((with_reducible refine Wp.iff ?_ ?_); first | (with_reducible rfl) | ((with_reducible first | apply decide_eq_false | apply bne_f | apply beq_f); omega)) | (with_reducible refine Wp.go1 (by assumption) ?_) | rw [newP_eq])
  have og := glob_w (n := n) (d := D) (by omega) hn (by omega) (by rw [Mx.ex]; exact hx) a
  generalize dropJ _ = r' at og
  cases r' with
  | error q =>
   obtain ⟨hq, e⟩ := og
   subst hq
   refine Wp.callN e ?_
   repeat (first | (with_reducible apply Wp.o; first | exact avBool_bool _ | exact avStr_str _ | exact fldP_ptr _ _ _) | ((with_reducible apply Wp.sa0 Mx); rfl; rfl; (rfl); clear Mx; intro _ Mx) | ((with_reducible apply Wp.lr1 Mx); rfl) | ((with_reducible apply Wp.sa1 Mx); rfl; rfl; (rfl); clear Mx; intro _ Mx) | ((with_reducible apply Wp.lr2 Mx); rfl) | ((with_reducible apply Wp.sa2 Mx); rfl; rfl; (rfl); clear Mx; intro _ Mx) | ((with_reducible apply Wp.ld3 Mx); rfl) | ((with_reducible apply Wp.mnew Mx); clear Mx; intro _ Mx) | (with_reducible first | refine Wp.l ?_ | (apply Wp.o; first | exact avAgg_agg _ | exact extT_0 _ _ | exact extT_1 _ _ _) | (refine Wp.ift ?_ ?_; exact Bool.not_false) | (apply Wp.callN; exact badT_w _)) | rw [newP_eq])
   exact Wp.ret ⟨rfl, Mx.tch⟩
  | ok t =>
   obtain ⟨c, T, H', e, kt, M2⟩ := og
   refine Wp.callN e ?_
   have M3 := Mem.frameT (xs := []) (ys := []) Mx M2
   refine Wp.o (extT_0 _ _) (Wp.o (avAgg_agg _) (Wp.o (extT_1 _ _ _) (Wp.o (avBool_bool _) ?_)))
   refine Wp.mnew M3 fun h4 M4 => ?_
   rw [newP_eq]
   refine Wp.sa0 M4 kt.len rfl kt.one fun h5 M5 => ?_
   refine Wp.l (Wp.iff rfl ?_)
   refine Wp.lr0 M5 kt.len ?_
   refine Wp.sa2 M5 kt.len rfl kt.one fun _ M6 => ?_
   refine Wp.sa1 M6 rfl rfl rfl fun _ M7 => ?_
   refine Wp.lr2 M7 kt.len (Wp.lr1 M7 rfl ?_)
   exact Wp.ret ⟨c, T, rfl, kt, M7.pop.pop.pop.pop⟩
 | re_bad a =>
  repeat (first | (with_reducible apply Wp.o; first | exact avInt_int _ _ | exact avStr_str _ | exact fldP_ptr _ _ _) | ((with_reducible apply Wp.ld2 Mx); rfl) | ((with_reducible apply Wp.mnew Mx); clear Mx; intro _ Mx) | ((with_reducible apply Wp.mbox Mx); (rfl); clear Mx; intro _ Mx) | (with_reducible first | refine Wp.join1 (fun _ _ => ?_) | refine Wp.l ?_) | ((with_reducible refine Wp.ift ?_ ?_); ((with_reducible first | apply decide_eq_true | apply bne_t | apply beq_t); omega)) | ((with_reducible refine Wp.iff ?_ ?_); ((with_reducible first | apply decide_eq_false | apply bne_f | apply beq_f); omega)) | (with_reducible refine Wp.go1 (by assumption) ?_) | rw [newP_eq])
  have oa := alt_call (n := n) (D := D + 2) (by omega) (altM (by omega) hn (by omega) a (Nat.zero_le _)) (by omega) (show memB TNode _ = false by rw [Mx.ex]; exact hx)
  refine Wp.callBad oa ?_
  repeat (first | (with_reducible apply Wp.o; first | exact avInt_int _ _ | exact avBool_bool _) | ((with_reducible apply Wp.sa0 Mx); rfl; rfl; (rfl); clear Mx; intro _ Mx) | ((with_reducible apply Wp.lr1 Mx); rfl) | ((with_reducible apply Wp.sa1 Mx); rfl; rfl; (rfl); clear Mx; intro _ Mx) | ((with_reducible apply Wp.lr2 Mx); rfl) | ((with_reducible apply Wp.sa2 Mx); rfl; rfl; (rfl); clear Mx; intro _ Mx) | ((with_reducible apply Wp.mnew Mx); clear Mx; intro _ Mx) | (with_reducible first | refine Wp.join1 (fun _ _ => ?_) | refine Wp.l ?_ | (apply Wp.o; first | exact avAgg_agg _ | exact extT_0 _ _ | exact extT_1 _ _ _ | exact extT_2 _ _ _ _) | (refine Wp.ift ?_ ?_; first | rfl | exact Bool.not_false) | (apply Wp.callN; exact badT_w _) | refine Wp.go1 (by assumption) ?_) | rw [newP_eq])
  exact Wp.ret ⟨rfl, Mx.tch⟩
 | re_end a ne =>
  rename_i t j
  obtain ⟨_, bj⟩ := altP_bnd a (Nat.zero_le _)
  repeat (first | (with_reducible apply Wp.o; first | exact avInt_int _ _ | exact avStr_str _ | exact fldP_ptr _ _ _) | ((with_reducible apply Wp.ld2 Mx); rfl) | ((with_reducible apply Wp.mnew Mx); clear Mx; intro _ Mx) | ((with_reducible apply Wp.mbox Mx); (rfl); clear Mx; intro _ Mx) | (with_reducible first | refine Wp.join1 (fun _ _ => ?_) | refine Wp.l ?_) | ((with_reducible refine Wp.ift ?_ ?_); ((with_reducible first | apply decide_eq_true | apply bne_t | apply beq_t); omega)) | ((with_reducible refine Wp.iff ?_ ?_); ((with_reducible first | apply decide_eq_false | apply bne_f | apply beq_f); omega)) | (with_reducible refine Wp.go1 (by assumption) ?_) | rw [newP_eq])
  refine Wp.callOk (fin3 a (by rw [Mx.ex]; exact hx)) Mx fun c T h3 kt M3 => ?_
  refine Wp.o (extT_0 _ _) (Wp.o (avAgg_agg _) (Wp.o (extT_1 _ _ _) (Wp.o (avInt_int _ _) (Wp.o (extT_2 _ _ _ _) (Wp.o (avBool_bool _) ?_)))))
  refine Wp.mnew M3 fun h4 M4 => ?_
  rw [newP_eq]
  refine Wp.sa0 M4 kt.len rfl kt.one fun h5 M5 => ?_
  clear Mx
  have Mx := M5
  repeat (first | (with_reducible apply Wp.o; first | exact avStr_str _ | exact fldP_ptr _ _ _) | ((with_reducible apply Wp.lr1 Mx); rfl) | ((with_reducible apply Wp.sa1 Mx); rfl; rfl; (rfl); clear Mx; intro _ Mx) | ((with_reducible apply Wp.lr2 Mx); rfl) | ((with_reducible apply Wp.sa2 Mx); rfl; rfl; (rfl); clear Mx; intro _ Mx) | ((with_reducible apply Wp.ld3 Mx); rfl) | (with_reducible first | refine Wp.join1 (fun _ _ => ?_) | refine Wp.l ?_ | (apply Wp.o; exact avAgg_agg _)) | ((with_reducible refine Wp.ift ?_ ?_; apply decide_eq_true); omega) | (with_reducible first | (refine Wp.iff ?_ ?_; exact Bool.not_true) | (apply Wp.callN; exact badT_w _) | refine Wp.go1 (by assumption) ?_))
  exact Wp.ret ⟨rfl, Mx.tch⟩
 | re a =>
  repeat (first | (with_reducible apply Wp.o; first | exact avInt_int _ _ | exact avStr_str _ | exact fldP_ptr _ _ _) | ((with_reducible apply Wp.ld2 Mx); rfl) | ((with_reducible apply Wp.mnew Mx); clear Mx; intro _ Mx) | ((with_reducible apply Wp.mbox Mx); (rfl); clear Mx; intro _ Mx) | (with_reducible first | refine Wp.join1 (fun _ _ => ?_) | refine Wp.l ?_) | ((with_reducible refine Wp.ift ?_ ?_); ((with_reducible first | apply decide_eq_true | apply bne_t | apply beq_t); omega)) | ((with_reducible refine Wp.iff ?_ ?_); ((with_reducible first | apply decide_eq_false | apply bne_f | apply beq_f); omega)) | (with_reducible refine Wp.go1 (by assumption) ?_) | rw [newP_eq])
  refine Wp.callOk (fin3 a (by rw [Mx.ex]; exact hx)) Mx fun c T h3 kt M3 => ?_
  refine Wp.o (extT_0 _ _) (Wp.o (avAgg_agg _) (Wp.o (extT_1 _ _ _) (Wp.o (avInt_int _ _) (Wp.o (extT_2 _ _ _ _) (Wp.o (avBool_bool _) ?_)))))
  refine Wp.mnew M3 fun h4 M4 => ?_
  rw [newP_eq]
  refine Wp.sa0 M4 kt.len rfl kt.one fun h5 M5 => ?_
  clear Mx
  have Mx := M5
  clear M5
  repeat (first | (with_reducible apply Wp.o; first | exact avStr_str _ | exact fldP_ptr _ _ _) | ((with_reducible apply Wp.ld3 Mx); rfl) | (with_reducible first | refine Wp.join1 (fun _ _ => ?_) | refine Wp.l ?_) | ((with_reducible refine Wp.iff ?_ ?_); first | (with_reducible exact Bool.not_true) | ((with_reducible apply decide_eq_false); omega)) | (with_reducible refine Wp.go1 (by assumption) ?_))
  refine Wp.lr0 Mx kt.len ?_
  refine Wp.sa2 Mx kt.len rfl kt.one fun _ M6 => ?_
  refine Wp.sa1 M6 rfl rfl rfl fun _ M7 => ?_
  refine Wp.lr2 M7 kt.len (Wp.lr1 M7 rfl ?_)
  exact Wp.ret ⟨c, T, rfl, kt, M7.pop.pop.pop.pop⟩
theorem pTree_ok (hl : u.length ≤ 64) {k : Int} (hk : k = 1 ∨ k = 2 ∨ k = 3) : ∃ r, TreeP u k r ∧ (∀ q, r = .error q → q ≤ u.length) ∧ ∀ {n D : Nat} {h : AHeap}, 300 ≤ D → 400 < n → memB TNode h.ex = false → OutT h (world n (D + 3) 21 [.agg [.int .i64 k, strA u]] h) r := by
 obtain ⟨r, r1, r2, r3⟩ := (tree_kinds (u := u) (by omega) hk).2 hl
 refine ⟨r, r1, r2, fun {n D h} hD hn hx => ?_⟩
 have := r3 (n := n) (D := D) (h := h) hD hn hx
 cases r with
 | error q => exact this
 | ok t => exact this
end
set_option maxHeartbeats 4000000
set_option maxRecDepth 20000
noncomputable def law09_PatternParses (call : CallF) (_ : Nat) (t0 : Bytes) (h : AHeap) : R :=
 callN (call 13 [] h) fun r7 h_4 =>
 obind (avBool r7) fun t7 =>
 lett (!t7) fun (t8 : Bool) =>
 ifB t8
 (
  some (.ret (.bool false), h_4))
 (
  callN (call 14 [.int .i64 (lenS t0)] h_4) fun r11 h_11 =>
  obind (avBool r11) fun t11 =>
  ifB t11
  (
   some (.ret (.bool true), h_11))
  (
   callN (call 24 [strA t0] h_11) fun r14 h_16 =>
   obind (extT 0 r14) fun v15 =>
   obind (avAgg v15) fun t15 =>
   obind (extT 1 r14) fun v16 =>
   obind (avAgg v16) fun t16 =>
   lett (newH h_16 35 [.int .i64 0, .str 0 0]) fun h_22 =>
   lett (newH h_22 27 [.int .i64 0, .int .i64 0]) fun h_24 =>
   obind (stRow h_24 2 t15 (newP h_16)) fun h_26 =>
   obind (stRow h_26 2 t16 (newP h_22)) fun h_28 =>
   callN (call 25 [strA t0] h_28) fun r19 h_31 =>
   obind (extT 0 r19) fun v20 =>
   obind (avAgg v20) fun t20 =>
   obind (extT 1 r19) fun v21 =>
   obind (avAgg v21) fun t21 =>
   lett (newH h_31 35 [.int .i64 0, .str 0 0]) fun h_37 =>
   lett (newH h_37 27 [.int .i64 0, .int .i64 0]) fun h_39 =>
   obind (stRow h_39 2 t20 (newP h_31)) fun h_41 =>
   obind (stRow h_41 2 t21 (newP h_37)) fun h_43 =>
   obind (ldRow h_43 2 (newP h_16)) fun t22 =>
   obind (ldRow h_43 2 (newP h_31)) fun t23 =>
   obind (eqOther Pg 35 (.agg t22) (.agg t23)) fun t24 =>
   lett (fun (t29 : Bool) (h_49 : AHeap) =>
    some (.ret (.bool t29), h_49)) fun j29 =>
   ifB t24
   (
    obind (ldRow h_43 2 (newP h_22)) fun t26 =>
    obind (ldRow h_43 2 (newP h_37)) fun t27 =>
    obind (eqOther Pg 27 (.agg t26) (.agg t27)) fun t28 =>
    j29 t28 h_43)
   (
    j29 false h_43)))
theorem law09_PatternParses_ok {call : CallF} (hc : SaysAll Pg call) {n : Nat} {t0 : Bytes} {h : AHeap} {rR : ARes} {hR : AHeap} (z : law09_PatternParses call n t0 h = some (rR, hR)) : Says Pg 7 [strA t0] h rR hR := by
 unfold law09_PatternParses at z
 refine sO Try.func7 fun w0 m0 => ?_
 refine wW [(0, strA t0)] ?_
 refine oG fun n1 => W.r ?_
 refine oA 2 (.bool false) ?_
 refine oV [(0, strA t0)] (n1 ?_)
 refine oH fun n2 q2 => ?_
 refine oG fun n3 => W.r ?_
 refine oCb hc 7 z fun t7 h_4 z => ?_
 refine oB 8 z fun t8 z => ?_
 refine oV [(0, strA t0), (8, .bool t8)] (n3 ?_)
 cases t8 with
 | true =>
  refine oT z fun z => ?_
  refine oG fun n8 => W.r ?_
  refine oA 2 (.bool false) ?_
  refine oV [(2, .bool false)] (n8 (oY (q2 ?_)))
  exact lZ z [.tmp 2] [.bool false] (rT res_nil)
 | false =>
  refine oU z fun z => ?_
  refine oZ (n2 ?_)
  refine oH fun n9 q9 => ?_
  refine oG fun n10 => W.r ?_
  refine oA 9 (strA t0) ?_
  refine oA 10 (.int .i64 (lenS t0)) ?_
  refine oCb hc 11 z fun t11 h_11 z => ?_
  refine oV [(0, strA t0), (11, .bool t11)] (n10 ?_)
  cases t11 with
  | true =>
   refine oT z fun z => ?_
   refine oG fun n14 => W.r ?_
   refine oA 2 (.bool true) ?_
   refine oV [(2, .bool true)] (n14 (oY (q9 ?_)))
   exact lZ z [.tmp 2] [.bool true] (rT res_nil)
  | false =>
   refine oU z fun z => ?_
   refine oZ (n9 ?_)
   refine oG fun n15 => W.r ?_
   refine oA 13 (strA t0) ?_
   refine oC hc (some 14) z fun r14 h_16 z => ?_
   refine oA 12 r14 ?_
   refine oEa 15 z fun t15 z => ?_
   refine oEa 16 z fun t16 z => ?_
   refine oN 3 z fun h_22 z => ?_
   refine oN 4 z fun h_24 z => ?_
   refine oW 35 (.agg t15) z fun h_26 z => ?_
   refine oW 27 (.agg t16) z fun h_28 z => ?_
   refine oV [(0, strA t0), (3, newP h_16), (4, newP h_22)] (n15 ?_)
   refine oG fun n30 => W.r ?_
   refine oA 18 (strA t0) ?_
   refine oC hc (some 19) z fun r19 h_31 z => ?_
   refine oA 17 r19 ?_
   refine oEa 20 z fun t20 z => ?_
   refine oEa 21 z fun t21 z => ?_
   refine oN 5 z fun h_37 z => ?_
   refine oN 6 z fun h_39 z => ?_
   refine oW 35 (.agg t20) z fun h_41 z => ?_
   refine oW 27 (.agg t21) z fun h_43 z => ?_
   refine oV [(3, newP h_16), (4, newP h_22), (5, newP h_31), (6, newP h_37)] (n30 ?_)
   refine W.s (fun K45 n45 _ _ _ => ?_)
   refine W.r ?_
   refine oR 22 35 z fun t22 z => ?_
   refine oR 23 35 z fun t23 z => ?_
   obtain ⟨t24, e48, z⟩ := oS z
   refine WL.b (some 24) (.bool t24) h_43 (eq_other (P := Pg) (h := h_43) (t := 35) (lit := false) (by kernel_rfl) e48) ?_
   refine oA 25 (.bool t24) ?_
   obtain ⟨j29, e50, z⟩ := lS z
   have J51 : ∀ (t29 : Bool) (h_49 : AHeap), j29 t29 h_49 = some (rR, hR) → WL Pg w0 m0 (Func.ntmps Try.f7) (Code.ops (Code.p1 (Code.p2 (Code.p2 (Code.p2 (Code.p2 (Code.p2 (codeOf Try.f7)))))))) 8 K45 [(29, .bool t29)] [] h_49 := by
    intro t29 h_49 z
    rw [e50] at z
    refine oA 2 (.bool t29) ?_
    refine oV [(2, .bool t29)] (n45 (oY ?_))
    exact lZ z [.tmp 2] [.bool t29] (rT res_nil)
   cases t24 with
   | true =>
    replace z := ifB_t z
    refine oR 26 27 z fun t26 z => ?_
    refine oR 27 27 z fun t27 z => ?_
    obtain ⟨t28, e54, z⟩ := oS z
    refine WL.b (some 28) (.bool t28) h_43 (eq_other (P := Pg) (h := h_43) (t := 27) (lit := false) (by kernel_rfl) e54) ?_
    refine oA 29 (.bool t28) ?_
    exact lW _ (J51 _ _ z)
   | false =>
    replace z := ifB_f z
    refine WL.o (some 26) ?_
    refine WL.o (some 27) ?_
    refine WL.o (some 28) ?_
    refine oA 29 (.bool false) ?_
    exact lW _ (J51 _ _ z)
theorem worksK_w (n d : Nat) (h : AHeap) : world n (d + 1) 13 [] h = some (.ret (.bool true), h) := by kernel_rfl
theorem flatSpotK : flatB Try.prog TSpot [1, 1] = true := by kernel_rfl
theorem eqSpotK (a b c d : Int) : eqOther Try.prog TSpot (.agg [.int .i64 a, .int .i64 b]) (.agg [.int .i64 c, .int .i64 d]) = some ((a == c) && ((b == d) && true)) := eq_flat flatSpotK (eqL_cons rfl (eqCell_int _ _ _) (eqL_cons rfl (eqCell_int _ _ _) rfl))
theorem eqSpotS (a b : Int) : eqOther Try.prog TSpot (.agg [.int .i64 a, .int .i64 b]) (.agg [.int .i64 a, .int .i64 b]) = some true := by rw [eqSpotK]; simp
theorem un8 {m : Nat} {a : UInt8} (h : m = a.toNat) : UInt8.ofNat m = a := by
 subst h
 exact UInt8.ofNat_toNat
section
variable {u : Bytes} {p q a : Nat} {k m : Int} {t : Bytes}
theorem take_one {c : Nat} (h : at? u p = some c) : (u.drop p).take 1 = [UInt8.ofNat c] := by
 obtain ⟨hp, e⟩ := at?_some h
 rw [List.drop_eq_getElem_cons hp, List.take_succ_cons, List.take_zero, ← e]
 simp
theorem scan_quote {mm : Int} : ∀ (f p : Nat) (acc : Bytes) {l : Bytes} {q : Nat}, scanQ u mm f p acc = .ok l q → ∃ mid, l = acc ++ mid ∧ p < q ∧ q ≤ u.length ∧ (u.drop p).take (q - p) = (mid.flatMap fun a => signB a.toNat) ++ [34]
 | 0, p, acc, l, q, hh => by rw [scanQ] at hh; cases hh
 | f + 1, p, acc, l, q, hh => by
  rw [scanQ] at hh
  split at hh
  ·rename_i h34
   cases hh
   obtain ⟨hp, _⟩ := at?_some h34
   refine ⟨[], by simp, by omega, by omega, ?_⟩
   rw [Nat.add_sub_cancel_left, take_one h34]
   rfl
  ·split at hh
   ·cases hh
   ·cases hF : formAt u p with
    | bad q' => rw [hF] at hh; cases hh
    | ok c q' =>
     rw [hF] at hh
     obtain ⟨mid, h1, h2, h3, h4⟩ := scan_quote f q' _ hh
     obtain ⟨hc, hpq, hqu⟩ := formAt_ok hF
     rw [formAt_W] at hF
     cases hW : formW (u.drop p) with
     | bad k => rw [hW] at hF; cases hF
     | ok c' k =>
      rw [hW] at hF
      simp only [shiftF, FR.ok.injEq] at hF
      obtain ⟨rfl, rfl⟩ := hF
      obtain ⟨_, hk, r, hr⟩ := formW_ok hW
      refine ⟨UInt8.ofNat c' :: mid, by rw [h1]; simp, by omega, h3, ?_⟩
      have e1 : u.drop (p + k) = r := by
       rw [← List.drop_drop, hr, hk]
       simp
      rw [e1] at h4
      rw [hr, show q - p = (signB c').length + (q - (p + k)) by omega, List.take_length_add_append, h4, List.flatMap_cons, ofNat_toNat hc, List.append_assoc]
end
theorem drop_cons' {α : Type} {K m : List α} {c : α} {i : Nat} (d : K.drop i = c :: m) : ∃ hi : i < K.length, K[i] = c ∧ K.drop (i + 1) = m := by
 have hi : i < K.length := by
  have := congrArg List.length d
  rw [List.length_drop, List.length_cons] at this
  omega
 have g := List.drop_eq_getElem_cons hi
 rw [d] at g
 simp only [List.cons.injEq] at g
 exact ⟨hi, g.1.symm, g.2.symm⟩
theorem drop_nil' {α : Type} {K : List α} {i : Nat} (d : K.drop i = []) : K.length ≤ i := by
 have := congrArg List.length d
 rw [List.length_drop, List.length_nil] at this
 omega
def quotedP (u : Bytes) (p : Nat) : QR := if at? u p = some 34 then scanQ u (-1) (u.length + 1) (p + 1) [] else .bad 6 p
theorem quotedP_text {u : Bytes} {p : Nat} {l : Bytes} {q : Nat} (h : quotedP u p = .ok l q) : (u.drop p).take (q - p) = quoteB l ∧ q ≤ u.length ∧ p + 2 ≤ q := by
 unfold quotedP at h
 split at h
 ·rename_i h34
  obtain ⟨mid, h1, h2, h3, h4⟩ := scan_quote _ _ _ h
  refine ⟨?_, h3, by omega⟩
  rw [List.nil_append] at h1
  subst h1
  obtain ⟨hp, e⟩ := at?_some h34
  unfold quoteB
  rw [List.cons_append, ← h4, List.drop_eq_getElem_cons hp, show q - p = (q - (p + 1)) + 1 by omega, List.take_succ_cons]
  congr 1
  have := un8 e.symm
  rw [← this]
  rfl
 ·cases h
theorem quotedP_len {u : Bytes} {p : Nat} {l : Bytes} {q : Nat} (h : quotedP u p = .ok l q) : q = p + (quoteB l).length := by
 obtain ⟨h1, h2, h3⟩ := quotedP_text h
 have := congrArg List.length h1
 rw [List.length_take, List.length_drop] at this
 omega
section
variable {n d b p : Nat} {h : AHeap} {u : Bytes} {Q : ARes → AHeap → Prop}
theorem quotedP_r (k : Rd h b u p) (hb : b < h.next) (hp : p ≤ u.length) (hu : u.length ≤ 1000000) (hn : u.length + 20 < n) (hxB : memB TBld h.ex = true) (hx8 : memB TU8 h.ex = false) : Step b u h (world n (d + 6) 37 [.ptr b 0, .int .i64 (-1)] h) (match quotedP u p with
  | .ok l q => .ok (strA l, q)
  | .bad e q => .error (e, q)) := by
 have ht := take_r (n := n) (d := d + 1) k hb hp hu 34
 unfold quotedP
 by_cases hq : at? u p = some 34
 case neg =>
  rw [if_neg hq] at ht
  rw [if_neg hq]
  refine Step.err_of ?_
  rw [w_pattern_reader_quoted]
  unfold pattern_reader_quoted
  exact Wp.stepE ht fun h' p' k1 k2 => ⟨rfl, p', k1, k2⟩
 rw [if_pos hq] at ht
 rw [if_pos hq]
 obtain ⟨hpl, _⟩ := at?_some hq
 have main : ∀ Q : ARes → AHeap → Prop, (∀ l q h', scanQ u (-1) (u.length + 1) (p + 1) [] = .ok l q → Rd h' b u q → Tch [b] h h' → Q (.ret (strA l)) h') → (∀ e q p' h', scanQ u (-1) (u.length + 1) (p + 1) [] = .bad e q → Rd h' b u p' → Tch [b] h h' → Q (.panic (PanA e q)) h') → Wp (world n (d + 6) 37 [.ptr b 0, .int .i64 (-1)] h) Q := by
  intro Q h1 h2
  rw [w_pattern_reader_quoted]
  unfold pattern_reader_quoted
  refine Wp.stepK ht fun h3 k3 t3 => ?_
  have n3 := t3.1
  have tN : Tch [] h3 (newH h3 TBld [.nilp, .nsl]) := Tch.newH _ _ _ _
  have B0 := BldR.new TBld TU8 h3
  have nN := next_newH h3 TBld [.nilp, .nsl]
  have k4 := k3.tch tN (by omega) (by simp)
  ((with_reducible refine Wp.l ?_))
  generalize newH h3 TBld [.nilp, .nsl] = h4 at *
  ((with_reducible refine Wp.join0 (fun _ _ => ?_)))
  rename_i k10 hk10
  have tb : ∀ {h' : AHeap}, Tch [b, h3.next] h4 h' → Tch [b] h h' := fun t => (t3.trans (tN.mono (by simp))).trans' t (by intro x hx; simp only [List.mem_cons, List.not_mem_nil, or_false] at hx ⊢; omega)
  refine quoted_loop (newP_eq h3) (H0 := h4) (by omega) (by omega) (by omega) hu (by omega) (by rw [tN.2.1, t3.2.1]; exact hxB) (by rw [tN.2.1, t3.2.1]; exact hx8) (u.length + 1) n (p + 1) h3.next [] h4 (by omega) (by omega) (by omega) (by simp) k4 B0 (.inl rfl) (Tch.refl _ _) ?_ ?_
  ·intro l q c' H' hsc hl k5 B5 hc5 t5
   obtain ⟨h6, e6, t6⟩ := string_r (n := n) (d := d + 4) B5 (by omega)
   have hbc : b ≠ c' := by omega
   repeat (first | (with_reducible first | (apply Wp.o; exact avStr_str _) | (apply Wp.callN; assumption) | refine Wp.go0 (by assumption) ?_) | rw [newP_eq])
   refine Wp.ret (h1 l q h6 hsc (k5.tch t6 (lt_tch (tb t5) hb) (by simp; omega)) ?_)
   exact (tb t5).trans' t6 (by intro x hx; simp only [List.mem_cons, List.not_mem_nil, or_false] at hx ⊢; omega)
  ·intro e q p' H' hsc k5 t5
   exact h2 e q p' H' hsc k5 (tb t5)
 cases hsc : scanQ u (-1) (u.length + 1) (p + 1) [] with
 | ok l q =>
  rw [hsc] at main
  refine Step.ok_of (main _ (fun l' q' h' e k1 k2 => ?_) (fun e q p' h' hh => by cases hh))
  cases e
  exact ⟨rfl, k1, k2⟩
 | bad e q =>
  rw [hsc] at main
  refine Step.err_of (main _ (fun l' q' h' e k1 k2 => by cases e) (fun e q p' h' hh k1 k2 => ?_))
  cases hh
  exact ⟨rfl, p', k1, k2⟩
def wGlob : Bytes := [103, 108, 111, 98, 32]
def wRe : Bytes := [114, 101, 32]
def wordQ (u : Bytes) : Except Nat (Int × Nat) := if at? u 0 = some 103 then (if lcpN wGlob u = 5 then .ok (2, 5) else .error (lcpN wGlob u)) else if at? u 0 = some 114 then (if lcpN wRe u = 3 then .ok (3, 3) else .error (lcpN wRe u)) else .ok (1, 0)
theorem word_loop {w : Bytes} {k3 : AHeap → R} {H0 : AHeap} (hb : b < H0.next) (hu : u.length ≤ 1000000) (hw : w.length ≤ 10) : ∀ (rest : Bytes) (i f : Nat) (H : AHeap), w.drop i = rest → i ≤ u.length → rest.length < f → Rd H b u i → Tch [b] H0 H →
  (lcpN rest (u.drop i) = rest.length → i + rest.length ≤ u.length → ∀ H', Rd H' b u (i + rest.length) → Tch [b] H0 H' → Wp (k3 H') Q) → (lcpN rest (u.drop i) < rest.length → ∀ p' H', Rd H' b u p' → Tch [b] H0 H' → Q (.panic (PanA 6 (i + lcpN rest (u.drop i)))) H') →
  Wp (pattern_reader_word_L0 (world n (d + 4)) (.ptr b 0) w k3 f (i : Int) H) Q
 | _, _, 0, _, _, _, hf, _, _, _, _ => by omega
 | [], i, f + 1, H, d1, hi, hf, k, t, hok, hbad => by
  rw [pattern_reader_word_L0_s]
  unfold pattern_reader_word_L0b
  have := drop_nil' d1
  have ll := lenS_nat w
  repeat (first | (with_reducible refine Wp.l ?_) | ((with_reducible refine Wp.iff ?_ ?_; apply decide_eq_false); omega))
  exact hok (by cases u.drop i <;> rfl) (by simpa using hi) H k t
 | c :: rest, i, f + 1, H, d1, hi, hf, k, t, hok, hbad => by
  rw [pattern_reader_word_L0_s]
  unfold pattern_reader_word_L0b
  obtain ⟨hi1, hc, d2⟩ := drop_cons' d1
  have ll := lenS_nat w
  have hx := idxS_nat (l := w) hi1
  have n0 := t.1
  have ht := take_r (n := n) (d := d) k (by omega) hi hu (w[i]).toNat
  by_cases hat : at? u i = some (w[i]).toNat
  ·rw [if_pos hat] at ht
   obtain ⟨hp, hpc⟩ := at?_some hat
   have hcc : c = u[i] := by
    rw [← hc]
    exact UInt8.toNat_inj.1 hpc.symm
   have hl : lcpN (c :: rest) (u.drop i) = lcpN rest (u.drop (i + 1)) + 1 := by
    rw [List.drop_eq_getElem_cons hp, lcpN, if_pos hcc]
   rw [hl, List.length_cons] at hok hbad
   rw [List.length_cons] at hf
   repeat (first | (with_reducible first | refine Wp.l ?_ | (apply Wp.o; exact hx)) | ((with_reducible refine Wp.ift ?_ ?_; apply decide_eq_true); omega))
   refine Wp.stepK ht fun h1 k1 t1 => ?_
   repeat (((with_reducible refine Wp.lettw ?_ ?_ ?_); omega; omega))
   rw [show (i : Int) + 1 = ((i + 1 : Nat) : Int) by omega]
   refine word_loop hb hu hw rest (i + 1) f h1 d2 (by omega) (by omega) k1 (t.trans t1) (fun e1 e2 H' k2 t2 => ?_) fun e1 p' H' k2 t2 => ?_
   ·refine hok (by omega) (by omega) H' ?_ t2
    rw [show i + (rest.length + 1) = i + 1 + rest.length by omega]
    exact k2
   ·have := hbad (by omega) p' H' k2 t2
    rw [show i + (lcpN rest (u.drop (i + 1)) + 1) = i + 1 + lcpN rest (u.drop (i + 1)) by omega] at this
    exact this
  ·rw [if_neg hat] at ht
   have hl : lcpN (c :: rest) (u.drop i) = 0 := by
    by_cases hp : i < u.length
    ·rw [List.drop_eq_getElem_cons hp, lcpN, if_neg]
     intro hh
     apply hat
     rw [at?_lt hp, hc, hh]
    ·rw [List.drop_eq_nil_of_le (by omega)]
     rfl
   rw [hl, Nat.add_zero] at hbad
   repeat (first | (with_reducible first | refine Wp.l ?_ | (apply Wp.o; exact hx)) | ((with_reducible refine Wp.ift ?_ ?_; apply decide_eq_true); omega))
   exact Wp.stepE ht fun h1 p1 k1 t1 => hbad (by simp) p1 h1 k1 (t.trans t1)
theorem word_r (k : Rd h b u 0) (hb : b < h.next) (hu : u.length ≤ 1000000) {w : Bytes} (hw : w.length ≤ 10) (hn : 20 < n) : Step b u h (world n (d + 5) 69 [.ptr b 0, strA w] h) (if lcpN w u = w.length then .ok (.tup [], w.length) else .error (6, lcpN w u)) := by
 have main : ∀ Q : ARes → AHeap → Prop, (lcpN w u = w.length → ∀ H', Rd H' b u w.length → Tch [b] h H' → Q (.ret (.tup [])) H') → (lcpN w u < w.length → ∀ p' H', Rd H' b u p' → Tch [b] h H' → Q (.panic (PanA 6 (lcpN w u))) H') → Wp (world n (d + 5) 69 [.ptr b 0, strA w] h) Q := by
  intro Q h1 h2
  rw [w_pattern_reader_word]
  unfold pattern_reader_word
  ((with_reducible refine Wp.join0 (fun _ _ => ?_)))
  rename_i k3 ek3
  refine word_loop (i := 0) hb hu hw w n h List.drop_zero (Nat.zero_le _) (by omega) k (Tch.refl _ _) (fun e1 _ H' k2 t2 => ?_) fun e1 p' H' k2 t2 => ?_
  ·refine Wp.go0 ek3 ?_
   rw [Nat.zero_add] at k2
   exact Wp.ret (h1 (by simpa using e1) H' k2 t2)
  ·have := h2 (by simpa using e1) p' H' k2 t2
   simpa using this
 have hle := (lcpN_le w u).1
 by_cases he : lcpN w u = w.length
 ·rw [if_pos he]
  exact Step.ok_of (main _ (fun _ H' k2 t2 => ⟨rfl, k2, t2⟩) fun e1 => by omega)
 ·rw [if_neg he]
  exact Step.err_of (main _ (fun e1 => absurd e1 he) fun e1 p' H' k2 t2 => ⟨rfl, p', k2, t2⟩)
end
abbrev TPat : Nat := 35
abbrev TInt : Nat := 3
def patQ (u : Bytes) : Except (Int × Nat) ((Int × Bytes × Nat) × Nat) := match wordQ u with
 | .error q => .error (6, q)
 | .ok (k, s) => match quotedP u s with
  | .bad e q => .error (e, q)
  | .ok l q => if q = u.length then .ok ((k, l, s), q) else .error (6, q)
theorem dynP (call : CallF) (a b c : Nat) (h : AHeap) : dynC Try.prog call (AV.fn 44 [] [.ptr a 0, .ptr b 0, .ptr c 0]) [] h = call 44 [.ptr a 0, .ptr b 0, .ptr c 0] h := by
 have e : callV Try.prog h [] (some (AV.fn 44 [] [.ptr a 0, .ptr b 0, .ptr c 0])) = some (.call 44 [.ptr a 0, .ptr b 0, .ptr c 0], h) := by kernel_rfl
 unfold dynC
 rw [e]
theorem idx_glob : idxS ([103, 108, 111, 98, 32] : Bytes) 0 = some 103 := rfl
theorem idx_re : idxS ([114, 101, 32] : Bytes) 0 = some 114 := rfl
theorem wordQ_pos {u : Bytes} {k : Int} {s : Nat} (h : wordQ u = .ok (k, s)) : (k = 1 ∨ k = 2 ∨ k = 3) ∧ s ≤ u.length := by
 unfold wordQ at h
 have h1 := (lcpN_le wGlob u).2
 have h2 := (lcpN_le wRe u).2
 split at h
 ·split at h
  ·cases h
   exact ⟨by decide, by omega⟩
  ·cases h
 ·split at h
  ·split at h
   ·cases h
    exact ⟨by decide, by omega⟩
   ·cases h
  ·cases h
   exact ⟨by decide, Nat.zero_le _⟩
theorem scan6 {u : Bytes} : ∀ (fuel p : Nat) (acc : Bytes) {e : Int} {q : Nat}, scanQ u (-1) fuel p acc = .bad e q → e = 6
 | 0, p, acc, e, q, hh => by
  rw [scanQ] at hh
  cases hh
  rfl
 | fuel + 1, p, acc, e, q, hh => by
  rw [scanQ] at hh
  split at hh
  ·cases hh
  ·split at hh
   ·omega
   ·split at hh
    ·exact scan6 fuel _ _ hh
    ·cases hh
     rfl
section
variable {n d b p : Nat} {h h0 : AHeap} {u : Bytes} {Q : ARes → AHeap → Prop} {S : List Nat} {xs : List RowT}
theorem pat_rest {c0 : List AV} {k : Int} {s : Nat} {k14 : AHeap → R} {H : AHeap} (ek : k14 = fun h_15 =>
  obind (nilC (.ptr b 0)) fun t20 =>
  obind (fldP 1 t20) fun t21 =>
  obind (ldCell h_15 t21) fun v22 =>
  obind (avInt .i64 v22) fun t22 =>
  callK (world n (d + 6) 37 [.ptr b 0, .int .i64 (-1)] h_15) fun r24 h_22 =>
  obind (avStr r24) fun t24 =>
  obind (stRow h_22 1 [strA t24] (AV.ptr (AHeap.next h) 1)) fun h_25 =>
  callK (world n (d + 6) 62 [.ptr b 0] h_25) fun _ h_28 =>
  obind (ldRow h_28 2 (newP h)) fun t28 =>
  obind (stRow h_28 2 t28 (newP h)) fun h_32 =>
  obind (ldRow h_32 2 (newP h)) fun w2 =>
  some (.ret (.tup [.agg w2, .int .i64 t22]), h_32)) (hu : u.length ≤ 1000000) (hn : u.length + 20 < n) (hxB : memB TBld h.ex = true) (hx8 : memB TU8 h.ex = false) (hs : s ≤ u.length) (ec : c0 = [.int .i64 k, strA []]) (M : Mem [b] h H ((b, TRd, rdP u s) :: (h.next, TPat, c0) :: []))
  (hok : ∀ l H', quotedP u s = .ok l u.length → Rd H' b u u.length → Tch [b] h H' → Q (.ret (.tup [.agg [.int .i64 k, strA l], .int .i64 (s : Int)])) H')
  (hbad : ∀ q p H', (quotedP u s = .bad 6 q ∨ ∃ l, quotedP u s = .ok l q ∧ q ≠ u.length) → Rd H' b u p → Tch [b] h H' → Q (.panic (PanA 6 q)) H') : Wp (k14 H) Q := by
 subst ek
 subst ec
 have hq := quotedP_r (n := n) (d := d) M.at0.1 M.at0.2.1 hs hu hn (by rw [M.ex]; exact hxB) (by rw [M.ex]; exact hx8)
 have k0 : RowH H b TRd [strA u, .int .i64 (s : Int)] := M.at0.1
 repeat (first | ((with_reducible apply Wp.o); first | (with_reducible first | exact avInt_int _ _ | exact nilC_ptr _ _ | exact fldP_ptr _ _ _) | ((with_reducible apply RowH.cell'); (with_reducible assumption); rfl)) | rw [newP_eq])
 clear k0
 cases hs : quotedP u s with
 | bad e q =>
  rw [hs] at hq
  have he : e = 6 := by
   unfold quotedP at hs
   split at hs
   ·exact scan6 _ _ _ hs
   ·cases hs
    rfl
  subst he
  exact Wp.rdE hq M fun h' p k1 t1 => hbad q p h' (.inl hs) k1 t1
 | ok l q =>
  rw [hs] at hq
  refine Wp.rdK hq M fun h1 M1 => ?_
  repeat (((with_reducible apply Wp.o); (with_reducible exact avStr_str _)))
  refine Wp.ms1 M1 (Nat.le_of_ble_eq_true rfl) rfl fun h2 M2 => ?_
  by_cases hl : q = u.length
  ·subst hl
   have he := end_r (n := n) (d := d + 4) M2.at0.1 rfl
   repeat (((with_reducible apply Wp.callK); (with_reducible assumption)))
   refine Wp.lr1 M2 rfl (Wp.sa1 M2 rfl rfl rfl fun h3 M3 => Wp.lr1 M3 rfl ?_)
   exact Wp.ret (hok l h3 hs M3.at0.1 M3.tch)
  ·have he := end_bad (n := n) (d := d + 4) M2.at0.1 hl
   exact Wp.callP he (hbad q q h2 (.inr ⟨l, hs, hl⟩) M2.at0.1 M2.tch)
theorem pattern_r (k0 : Rd h b u 0) (hb : b < h.next) (hu : u.length ≤ 1000000) (hn : u.length + 20 < n) (hxB : memB TBld h.ex = true) (hx8 : memB TU8 h.ex = false) : Step b u h (world n (d + 7) 45 [.ptr b 0] h) (match patQ u with
  | .error e => .error e
  | .ok ((k, l, s), q) => .ok (.tup [.agg [.int .i64 k, strA l], .int .i64 (s : Int)], q)) := by
 have main : ∀ Q : ARes → AHeap → Prop, (∀ k l s H', patQ u = .ok ((k, l, s), u.length) → Rd H' b u u.length → Tch [b] h H' → Q (.ret (.tup [.agg [.int .i64 k, strA l], .int .i64 ((s : Nat) : Int)])) H') → (∀ e q p H', patQ u = .error (e, q) → Rd H' b u p → Tch [b] h H' → Q (.panic (PanA e q)) H') → Wp (world n (d + 7) 45 [.ptr b 0] h) Q := by
  intro Q hok hbad
  have fin : ∀ {k : Int} {s : Nat} (_ : wordQ u = .ok (k, s)), (∀ l H', quotedP u s = .ok l u.length → Rd H' b u u.length → Tch [b] h H' → Q (.ret (.tup [.agg [.int .i64 k, strA l], .int .i64 (s : Int)])) H') ∧ (∀ q p H', (quotedP u s = .bad 6 q ∨ ∃ l, quotedP u s = .ok l q ∧ q ≠ u.length) → Rd H' b u p → Tch [b] h H' → Q (.panic (PanA 6 q)) H') := by
   intro k s hw
   refine ⟨fun l H' hs k1 t1 => hok k l s H' ?_ k1 t1, fun q p H' hs k1 t1 => hbad 6 q p H' ?_ k1 t1⟩
   ·unfold patQ
    rw [hw]
    dsimp only
    rw [hs]
    dsimp only
    rw [if_pos rfl]
   ·unfold patQ
    rw [hw]
    dsimp only
    rcases hs with hs | ⟨l, hs, hq⟩
    ·rw [hs]
    ·rw [hs]
     dsimp only
     rw [if_neg hq]
  rw [w_pattern_reader_pattern]
  unfold pattern_reader_pattern
  refine Wp.mnew (Mem.one k0 hb) fun h1 Mx => ?_
  have M1 := Mx.swap
  refine Wp.ms1 M1 (Nat.le_of_ble_eq_true rfl) rfl fun h2 M2 => ?_
  refine Wp.o idx_glob ?_
  have hg : world n (d + 6) 68 [.ptr b 0, .int .u8 103] h2 = some (.ret (.bool (decide (at? u 0 = some 103))), h2) := sees_r (n := n) (d := d + 4) M2.at0.1 (Nat.zero_le _) 103
  refine Wp.callN hg (Wp.o (avBool_bool _) ?_)
  refine Wp.join0 fun k14 ek14 => ?_
  by_cases h103 : at? u 0 = some 103
  ·refine Wp.ift (decide_eq_true h103) ?_
   refine Wp.ms1 M2 (Nat.le_of_ble_eq_true rfl) rfl fun h3 M3 => ?_
   have hwr := word_r (n := n) (d := d + 1) M3.at0.1 M3.at0.2.1 hu (w := wGlob) (by decide) (by omega)
   rw [show wGlob.length = 5 from rfl] at hwr
   by_cases hl : lcpN wGlob u = 5
   ·have hw : wordQ u = .ok (2, 5) := by
     unfold wordQ
     rw [if_pos h103, if_pos hl]
    obtain ⟨_, hs⟩ := wordQ_pos hw
    rw [if_pos hl] at hwr
    refine Wp.rdK hwr M3 fun h4 M4 => ?_
    exact pat_rest ek14 hu hn hxB hx8 hs rfl M4 (fin hw).1 (fin hw).2
   ·have hw : wordQ u = .error (lcpN wGlob u) := by
     unfold wordQ
     rw [if_pos h103, if_neg hl]
    rw [if_neg hl] at hwr
    refine Wp.rdE hwr M3 fun h' p k1 t1 => hbad 6 _ p h' ?_ k1 t1
    unfold patQ
    rw [hw]
  ·refine Wp.iff (decide_eq_false h103) ?_
   refine Wp.o idx_re ?_
   have hr : world n (d + 6) 68 [.ptr b 0, .int .u8 114] h2 = some (.ret (.bool (decide (at? u 0 = some 114))), h2) := sees_r (n := n) (d := d + 4) M2.at0.1 (Nat.zero_le _) 114
   refine Wp.callN hr (Wp.o (avBool_bool _) ?_)
   refine Wp.join0 fun k48 ek48 => ?_
   by_cases h114 : at? u 0 = some 114
   ·refine Wp.ift (decide_eq_true h114) ?_
    refine Wp.ms1 M2 (Nat.le_of_ble_eq_true rfl) rfl fun h3 M3 => ?_
    have hwr := word_r (n := n) (d := d + 1) M3.at0.1 M3.at0.2.1 hu (w := wRe) (by decide) (by omega)
    rw [show wRe.length = 3 from rfl] at hwr
    by_cases hl : lcpN wRe u = 3
    ·have hw : wordQ u = .ok (3, 3) := by
      unfold wordQ
      rw [if_neg h103, if_pos h114, if_pos hl]
     obtain ⟨_, hs⟩ := wordQ_pos hw
     rw [if_pos hl] at hwr
     refine Wp.rdK hwr M3 fun h4 M4 => ?_
     refine Wp.go0 ek48 ?_
     exact pat_rest ek14 hu hn hxB hx8 hs rfl M4 (fin hw).1 (fin hw).2
    ·have hw : wordQ u = .error (lcpN wRe u) := by
      unfold wordQ
      rw [if_neg h103, if_pos h114, if_neg hl]
     rw [if_neg hl] at hwr
     refine Wp.rdE hwr M3 fun h' p k1 t1 => hbad 6 _ p h' ?_ k1 t1
     unfold patQ
     rw [hw]
   ·refine Wp.iff (decide_eq_false h114) ?_
    have hw : wordQ u = .ok (1, 0) := by
     unfold wordQ
     rw [if_neg h103, if_neg h114]
    refine Wp.go0 ek48 ?_
    exact pat_rest ek14 hu hn hxB hx8 (Nat.zero_le _) rfl M2 (fin hw).1 (fin hw).2
 cases hp : patQ u with
 | error e =>
  obtain ⟨e, q⟩ := e
  rw [hp] at main
  exact Step.err_of (main _ (fun k l s H' hh => by cases hh) fun e' q' p H' hh k1 t1 => by cases hh; exact ⟨rfl, p, k1, t1⟩)
 | ok r =>
  obtain ⟨⟨k, l, s⟩, q⟩ := r
  have hq : q = u.length := by
   unfold patQ at hp
   split at hp
   ·cases hp
   ·split at hp
    ·cases hp
    ·split at hp
     ·cases hp
      assumption
     ·cases hp
  subst hq
  rw [hp] at main
  exact Step.ok_of (main _ (fun k' l' s' H' hh k1 t1 => by cases hh; exact ⟨rfl, k1, t1⟩) fun e' q' p H' hh => by cases hh)
noncomputable abbrev rowsP (pc rd sp pp qc p : Nat) (u : Bytes) (kc : List AV) (qv : Int) : List RowT := [(qc, TInt, [.int .i64 qv]), (pc, TPtr, [.ptr rd 0]), (rd, TRd, rdP u p), (sp, TSpot, [.int .i64 0, .int .i64 0]), (pp, TPat, kc)]
theorem p1_ok {pc rd sp pp qc q s : Nat} {k : Int} {l : Bytes} {kc : List AV} (hk : kc.length = 2) (hp : patQ u = .ok ((k, l, s), q)) (M : Mem S h0 h (rowsP pc rd sp pp qc 0 u kc 0 ++ xs)) (hu : u.length ≤ 1000000) (hn : u.length + 20 < n) (hxB : memB TBld h0.ex = true) (hx8 : memB TU8 h0.ex = false) :
  ∃ h', world n (d + 8) 44 [.ptr pc 0, .ptr pp 0, .ptr qc 0] h = some (.ret (.tup []), h') ∧ Mem S h0 h' (rowsP pc rd sp pp qc q u [.int .i64 k, strA l] s ++ xs) := by
 have Mx : Mem S h0 h ((qc, TInt, [.int .i64 0]) :: (pc, TPtr, [.ptr rd 0]) :: (rd, TRd, rdP u 0) :: (sp, TSpot, [.int .i64 0, .int .i64 0]) :: (pp, TPat, kc) :: xs) := M
 have hs := pattern_r (n := n) (d := d) Mx.at2.1 Mx.at2.2.1 hu hn (by rw [Mx.ex]; exact hxB) (by rw [Mx.ex]; exact hx8)
 rw [hp] at hs
 apply Wp.ex
 rw [w_pattern_Parse_1]
 unfold pattern_Parse_1
 repeat (((with_reducible apply Wp.ld1 Mx); rfl))
 obtain ⟨h1, e1, k1, t1⟩ := hs
 have M1 := Mem.upd (xs := [_, _]) Mx t1 k1
 refine Wp.callK e1 ?_
 clear Mx
 have Mx := M1
 clear M1
 refine Wp.o (extT_0 _ _) (Wp.o (avAgg_agg _) (Wp.o (extT_1 _ _ _) (Wp.o (avInt_int _ _) ?_)))
 refine Wp.sa4 Mx rfl hk rfl fun h2 M2 => ?_
 refine Wp.sa0 M2 rfl rfl rfl fun h3 M3 => ?_
 exact Wp.ret ⟨rfl, M3⟩
theorem p1_bad {pc rd sp pp qc q : Nat} {e : Int} {kc : List AV} (hp : patQ u = .error (e, q)) (M : Mem S h0 h (rowsP pc rd sp pp qc 0 u kc 0 ++ xs)) (hu : u.length ≤ 1000000) (hn : u.length + 20 < n) (hxB : memB TBld h0.ex = true) (hx8 : memB TU8 h0.ex = false) :
  ∃ h' p, world n (d + 8) 44 [.ptr pc 0, .ptr pp 0, .ptr qc 0] h = some (.panic (PanA e q), h') ∧ Mem S h0 h' (rowsP pc rd sp pp qc p u kc 0 ++ xs) := by
 have Mx : Mem S h0 h ((qc, TInt, [.int .i64 0]) :: (pc, TPtr, [.ptr rd 0]) :: (rd, TRd, rdP u 0) :: (sp, TSpot, [.int .i64 0, .int .i64 0]) :: (pp, TPat, kc) :: xs) := M
 have hs := pattern_r (n := n) (d := d) Mx.at2.1 Mx.at2.2.1 hu hn (by rw [Mx.ex]; exact hxB) (by rw [Mx.ex]; exact hx8)
 rw [hp] at hs
 obtain ⟨h1, p, e1, k1, t1⟩ := hs
 have M1 := Mem.upd (xs := [_, _]) Mx t1 k1
 suffices hK : Wp (world n (d + 8) 44 [.ptr pc 0, .ptr pp 0, .ptr qc 0] h) fun r h' => r = .panic (PanA e q) ∧ Mem S h0 h' (rowsP pc rd sp pp qc p u kc 0 ++ xs) by
  obtain ⟨_, h', e2, rfl, M'⟩ := hK
  exact ⟨h', p, e2, M'⟩
 rw [w_pattern_Parse_1]
 unfold pattern_Parse_1
 repeat (((with_reducible apply Wp.ld1 Mx); rfl))
 exact Wp.callP e1 ⟨rfl, M1⟩
theorem pguard_ok {pc rd sp pp qc q s : Nat} {k : Int} {l : Bytes} {kc : List AV} (hk : kc.length = 2) (hp : patQ u = .ok ((k, l, s), q)) (M : Mem S h0 h (rowsP pc rd sp pp qc 0 u kc 0)) (hu : u.length ≤ 1000000) (hn : u.length + 20 < n) (hxB : memB TBld h0.ex = true) (hx8 : memB TU8 h0.ex = false) :
  ∃ h', world n (d + 9) 35 [AV.fn 44 [] [.ptr pc 0, .ptr pp 0, .ptr qc 0]] h = some (.ret (.agg [.int .i64 0, .int .i64 0]), h') ∧ Mem S h0 h' (rowsP pc rd sp pp qc q u [.int .i64 k, strA l] s) := by
 refine guard_fine M fun h1 M1 => ?_
 have M2 : Mem S h0 h1 (rowsP pc rd sp pp qc 0 u kc 0 ++ [(h.next, TSpot, [.int .i64 0, .int .i64 0])]) := M1.perm (by
  have := List.perm_append_comm (l₁ := [(h.next, TSpot, [AV.int .i64 0, AV.int .i64 0])]) (l₂ := rowsP pc rd sp pp qc 0 u kc 0)
  simpa using this.symm)
 obtain ⟨h2, e2, M3⟩ := p1_ok (n := n) (d := d) hk hp M2 hu hn hxB hx8
 refine ⟨h2, (dynP _ _ _ _ _).trans e2, M3.perm ?_⟩
 have := List.perm_append_comm (l₁ := [(h.next, TSpot, [AV.int .i64 0, AV.int .i64 0])]) (l₂ := rowsP pc rd sp pp qc q u [.int .i64 k, strA l] s)
 simpa using this
theorem pguard_bad {pc rd sp pp qc q : Nat} {e : Int} {kc : List AV} (hp : patQ u = .error (e, q)) (M : Mem S h0 h (rowsP pc rd sp pp qc 0 u kc 0)) (hu : u.length ≤ 1000000) (hn : u.length + 20 < n) (hxB : memB TBld h0.ex = true) (hx8 : memB TU8 h0.ex = false) :
  ∃ h' p, world n (d + 9) 35 [AV.fn 44 [] [.ptr pc 0, .ptr pp 0, .ptr qc 0]] h = some (.ret (.agg [.int .i64 e, .int .i64 (q : Int)]), h') ∧ Mem S h0 h' (rowsP pc rd sp pp qc p u kc 0) := by
 have M2 := M.newH TSpot [.int .i64 0, .int .i64 0]
 have M3 : Mem S h0 (newH h TSpot [.int .i64 0, .int .i64 0]) (rowsP pc rd sp pp qc 0 u kc 0 ++ [(h.next, TSpot, [.int .i64 0, .int .i64 0])]) := M2.perm (by
  have := List.perm_append_comm (l₁ := [(h.next, TSpot, [AV.int .i64 0, AV.int .i64 0])]) (l₂ := rowsP pc rd sp pp qc 0 u kc 0)
  simpa using this.symm)
 obtain ⟨h2, p, e2, M4⟩ := p1_bad (n := n) (d := d) hp M3 hu hn hxB hx8
 have M5 : Mem S h0 h2 ((h.next, TSpot, [.int .i64 0, .int .i64 0]) :: rowsP pc rd sp pp qc p u kc 0) := M4.perm (by
  have := List.perm_append_comm (l₁ := [(h.next, TSpot, [AV.int .i64 0, AV.int .i64 0])]) (l₂ := rowsP pc rd sp pp qc p u kc 0)
  simpa using this)
 suffices hK : ∃ h', world n (d + 9) 35 [AV.fn 44 [] [.ptr pc 0, .ptr pp 0, .ptr qc 0]] h = some (.ret (.agg [.int .i64 e, .int .i64 (q : Int)]), h') ∧ Mem S h0 h' (rowsP pc rd sp pp qc p u kc 0) by
  obtain ⟨h', e', M'⟩ := hK
  exact ⟨h', p, e', M'⟩
 apply Wp.ex
 rw [w_pattern_guard]
 unfold pattern_guard
 refine Wp.l ?_
 refine callKd_eq_pan ((dynP _ _ _ _ _).trans e2) ?_
 rw [newP_eq]
 obtain ⟨h3, e3, M6⟩ := recov_pan (n := n) (call := world n (d + 8)) rfl M5 e q
 refine Wp.callN e3 ?_
 refine Wp.lr0 M6 rfl ?_
 exact Wp.ret ⟨rfl, M6.pop⟩
end
def TreeBad (k : Int) (l : Bytes) (e : Int) (i : Nat) : Prop := (e = 3 ∧ i = 64 ∧ 64 < l.length) ∨ (e = 6 ∧ i ≤ l.length ∧ l.length ≤ 64 ∧ TreeP l k (.error i))
inductive ParseP (u : Bytes) : Int → Bytes → Int → Int → Prop
 | bad {e : Int} {q : Nat} (h : patQ u = .error (e, q)) : ParseP u 0 [] e (q : Int)
 | tree {k e : Int} {l : Bytes} {s q i : Nat} (h : patQ u = .ok ((k, l, s), q)) (he : TreeBad k l e i) : ParseP u 0 [] e ((s : Int) + ((quoteB (l.take i)).length : Int) - 1)
 | ok {k : Int} {l : Bytes} {s q : Nat} {t : Nd} (h : patQ u = .ok ((k, l, s), q)) (hl : l.length ≤ 64) (tp : TreeP l k (.ok t)) : ParseP u k l 0 0
theorem patQ_ok {u : Bytes} {k : Int} {l : Bytes} {s q : Nat} (h : patQ u = .ok ((k, l, s), q)) : wordQ u = .ok (k, s) ∧ quotedP u s = .ok l u.length ∧ q = u.length ∧ (k = 1 ∨ k = 2 ∨ k = 3) ∧ l.length ≤ u.length := by
 unfold patQ at h
 split at h
 ·cases h
 ·rename_i k' s' hw
  split at h
  ·cases h
  ·rename_i l' q' hq
   split at h
   ·rename_i hu
    cases h
    subst hu
    refine ⟨hw, hq, rfl, (wordQ_pos hw).1, ?_⟩
    have h1 := quotedP_len hq
    have h2 : l.length ≤ (quoteB l).length := by
     unfold quoteB
     simp only [List.length_cons, List.length_append, List.length_nil]
     have h4 : ∀ w : Bytes, w.length ≤ (w.flatMap fun a => signB a.toNat).length := by
      intro w
      induction w with
      | nil => simp
      | cons a w ih =>
       rw [List.flatMap_cons, List.length_append, List.length_cons]
       have : 1 ≤ (signB a.toNat).length := by
        rcases cls a.toNat with ⟨e, h, _⟩ | ⟨h, _⟩ | ⟨h, _⟩ <;> rw [h] <;> simp
       omega
     have := h4 l
     omega
    omega
   ·cases h
theorem scan_le {u : Bytes} : ∀ (fuel p : Nat) (acc : Bytes) {e : Int} {q : Nat}, p ≤ u.length → scanQ u (-1) fuel p acc = .bad e q → q ≤ u.length
 | 0, p, acc, e, q, hp, hh => by
  rw [scanQ] at hh
  cases hh
  exact hp
 | fuel + 1, p, acc, e, q, hp, hh => by
  rw [scanQ] at hh
  split at hh
  ·cases hh
  ·split at hh
   ·cases hh
    exact hp
   ·split at hh
    ·rename_i c q' hF
     exact scan_le fuel _ _ (formAt_ok hF).2.2 hh
    ·rename_i q' hF
     cases hh
     exact (formAt_bad hF hp).2
theorem patQ_bad {u : Bytes} {e : Int} {q : Nat} (h : patQ u = .error (e, q)) : e = 6 ∧ q ≤ u.length := by
 unfold patQ at h
 have h1 := (lcpN_le wGlob u).2
 have h2 := (lcpN_le wRe u).2
 split at h
 ·rename_i q' hw
  cases h
  refine ⟨rfl, ?_⟩
  unfold wordQ at hw
  split at hw
  ·split at hw
   ·cases hw
   ·cases hw
    omega
  ·split at hw
   ·split at hw
    ·cases hw
    ·cases hw
     omega
   ·cases hw
 ·rename_i k' s' hw
  have hs := (wordQ_pos hw).2
  split at h
  ·rename_i e' q' hq
   cases h
   unfold quotedP at hq
   split at hq
   ·refine ⟨scan6 _ _ _ hq, ?_⟩
    rename_i h34
    obtain ⟨hp, _⟩ := at?_some h34
    exact scan_le _ _ _ hp hq
   ·cases hq
    exact ⟨rfl, hs⟩
  ·rename_i l' q' hq
   have := (quotedP_text hq).2.1
   split at h
   ·cases h
   ·cases h
    exact ⟨rfl, this⟩
theorem slice_take {l : Bytes} {i : Nat} (h : i ≤ l.length) : sliceS l 0 (i : Int) = some (l.take i) := by
 have := sliceS_int (l := l) (a := 0) (b := (i : Int)) (by decide) (by omega) (by omega)
 simpa using this
theorem treeBoth {k : Int} (hk : k = 1 ∨ k = 2 ∨ k = 3) (l : Bytes) : (∃ e i, TreeBad k l e i ∧ ∀ {n D : Nat} {h : AHeap}, 300 ≤ D → 400 < n → memB TNode h.ex = false → world n (D + 3) 21 [.agg [.int .i64 k, strA l]] h = some (.ret (.tup [.agg (nodeC 0 zeroW .nsl), .agg [.int .i64 e, .int .i64 ((i : Nat) : Int)]]), h)) ∨ (∃ t, l.length ≤ 64 ∧ TreeP l k (.ok t) ∧ ∀ {n D : Nat} {h : AHeap}, 300 ≤ D → 400 < n → memB TNode h.ex = false → OutT h (world n (D + 3) 21 [.agg [.int .i64 k, strA l]] h) (.ok t)) := by
 by_cases hl : 64 < l.length
 ·exact .inl ⟨3, 64, .inl ⟨rfl, rfl, hl⟩, fun {n D h} _ _ _ => tree_long hl hk⟩
 ·obtain ⟨r, r1, r2, r3⟩ := pTree_ok (u := l) (by omega) hk
  cases r with
  | error q => exact .inl ⟨6, q, .inr ⟨rfl, r2 q rfl, by omega, r1⟩, fun {n D h} a b c => r3 a b c⟩
  | ok t => exact .inr ⟨t, by omega, r1, fun {n D h} a b c => r3 a b c⟩
theorem TreeBad.ne {k : Int} {l : Bytes} {e : Int} {i : Nat} (h : TreeBad k l e i) : e ≠ 0 ∧ i ≤ l.length := by
 rcases h with ⟨rfl, rfl, h⟩ | ⟨rfl, h, _⟩
 ·exact ⟨by decide, by omega⟩
 ·exact ⟨by decide, h⟩
section
variable {n : Nat} {u : Bytes}
theorem pParse_w (hu : u.length ≤ 1000000) : ∃ k l e q, ParseP u k l e q ∧ ∀ {n D : Nat} {h : AHeap}, 320 ≤ D → u.length + 420 < n → memB TBld h.ex = true → memB TU8 h.ex = false → memB TNode h.ex = false → world n (D + 1) 24 [strA u] h = some (.ret (.tup [.agg [.int .i64 k, strA l], .agg [.int .i64 e, .int .i64 q]]), h) := by
 cases hp : patQ u with
 | error e =>
  obtain ⟨e, q⟩ := e
  obtain ⟨rfl, _⟩ := patQ_bad hp
  refine ⟨0, [], 6, q, .bad hp, fun {n D h} hD hn hxB hx8 hxN => ?_⟩
  obtain ⟨d, rfl⟩ : ∃ d, D = d + 9 := ⟨D - 9, by omega⟩
  apply Wp.eq
  rw [w_pattern_Parse]
  refine Wp.gc ?_
  suffices hK : Wp (pattern_Parse (world n (d + 9)) n u h) fun r h' => r = .ret (.tup [.agg [.int .i64 0, strA []], .agg [.int .i64 6, .int .i64 (q : Int)]]) ∧ Tch [] h h' from hK.mono fun r h' ⟨e, t⟩ => ⟨t.above, by rw [e]; rfl, e, rfl⟩
  unfold pattern_Parse
  have Mx := Mem.nil [] h
  repeat (first | ((with_reducible apply Wp.ms0 Mx); exact Nat.le_of_ble_eq_true rfl; rfl; clear Mx; intro _ Mx) | ((with_reducible apply Wp.sa0 Mx); rfl; rfl; (rfl); clear Mx; intro _ Mx) | ((with_reducible apply Wp.mnew Mx); clear Mx; intro _ Mx) | ((with_reducible apply Wp.mbox Mx); (rfl); clear Mx; intro _ Mx) | rw [newP_eq])
  obtain ⟨h2, p, e2, M2⟩ := pguard_bad (n := n) (d := d) hp Mx hu (by omega) hxB hx8
  refine Wp.callN e2 ?_
  clear Mx
  have Mx := M2
  repeat (first | (with_reducible apply Wp.o; exact avInt_int _ _) | ((with_reducible apply Wp.ld3 Mx); rfl) | ((with_reducible apply Wp.lr3 Mx); rfl) | ((with_reducible apply Wp.sa3 Mx); rfl; rfl; (rfl); clear Mx; intro _ Mx) | ((with_reducible apply Wp.lr4 Mx); rfl) | ((with_reducible apply Wp.sa4 Mx); rfl; rfl; (rfl); clear Mx; intro _ Mx) | ((with_reducible refine Wp.chk ?_ ?_); focus ((repeat' (first | (with_reducible exact rfl) | (with_reducible apply and_t) | ((with_reducible apply Mem.rr3 Mx); kernel_rfl; kernel_rfl))); done)) | (with_reducible first | refine Wp.l ?_ | (apply Wp.o; exact avAgg_agg _)) | ((with_reducible refine Wp.ift ?_ ?_; apply bne_t); omega))
  exact Wp.ret ⟨rfl, Mx.tch⟩
 | ok r =>
  obtain ⟨⟨k, l, s⟩, q⟩ := r
  obtain ⟨hw, hq, rfl, hk, hll⟩ := patQ_ok hp
  have hsl := (wordQ_pos hw).2
  rcases treeBoth hk l with ⟨e, i, tb, ht⟩ | ⟨t, hl, tp, ht⟩
  ·obtain ⟨he, hi⟩ := tb.ne
   refine ⟨0, [], e, _, .tree hp tb, fun {n D h} hD hn hxB hx8 hxN => ?_⟩
   obtain ⟨d, rfl⟩ : ∃ d, D = d + 9 := ⟨D - 9, by omega⟩
   apply Wp.eq
   rw [w_pattern_Parse]
   refine Wp.gc ?_
   suffices hK : Wp (pattern_Parse (world n (d + 9)) n u h) fun r h' => r = .ret (.tup [.agg [.int .i64 0, strA []], .agg [.int .i64 e, .int .i64 ((s : Int) + ((quoteB (l.take i)).length : Int) - 1)]]) ∧ Tch [] h h' from hK.mono fun r h' ⟨e, t⟩ => ⟨t.above, by rw [e]; rfl, e, rfl⟩
   unfold pattern_Parse
   have Mx := Mem.nil [] h
   repeat (first | ((with_reducible apply Wp.ms0 Mx); exact Nat.le_of_ble_eq_true rfl; rfl; clear Mx; intro _ Mx) | ((with_reducible apply Wp.sa0 Mx); rfl; rfl; (rfl); clear Mx; intro _ Mx) | ((with_reducible apply Wp.mnew Mx); clear Mx; intro _ Mx) | ((with_reducible apply Wp.mbox Mx); (rfl); clear Mx; intro _ Mx) | rw [newP_eq])
   obtain ⟨h2, e2, M2⟩ := pguard_ok (n := n) (d := d) rfl hp Mx hu (by omega) hxB hx8
   refine Wp.callN e2 ?_
   clear Mx
   have Mx := M2
   have hsc := slice_take hi
   have htr := fun (H : AHeap) (hx : memB TNode H.ex = false) => ht (n := n) (D := d + 6) (h := H) (by omega) (by omega) hx
   have hfl := flat_len (l.take i)
   rw [List.length_take] at hfl
   have hqt := fun (H : AHeap) (hB : memB TBld H.ex = true) (h8 : memB TU8 H.ex = false) => quote_w (n := n) (d := d + 5) (h := H) (u := l.take i) (by rw [List.length_take]; omega) (by rw [List.length_take]; omega) hB h8
   have lq := lenS_nat (quoteB (l.take i))
   have lq2 : (quoteB (l.take i)).length ≤ 4000002 := by
    unfold quoteB
    simp only [List.length_cons, List.length_append, List.length_nil]
    omega
   repeat (first | (with_reducible apply Wp.o; first | exact avInt_int _ _ | exact avStr_str _) | ((with_reducible apply Wp.ld0 Mx); rfl) | ((with_reducible apply Wp.ld3 Mx); rfl) | ((with_reducible apply Wp.lr3 Mx); rfl) | ((with_reducible apply Wp.ms3 Mx); exact Nat.le_of_ble_eq_true rfl; rfl; clear Mx; intro _ Mx) | ((with_reducible apply Wp.sa3 Mx); rfl; rfl; (rfl); clear Mx; intro _ Mx) | ((with_reducible apply Wp.ld4 Mx); rfl) | ((with_reducible apply Wp.lr4 Mx); rfl) | ((with_reducible apply Wp.sa4 Mx); rfl; rfl; (rfl); clear Mx; intro _ Mx) | ((with_reducible refine Wp.chk ?_ ?_); focus ((repeat' (first | (with_reducible exact rfl) | (with_reducible apply and_t) | ((with_reducible apply Mem.re0 Mx); kernel_rfl; rfl) | ((with_reducible apply Mem.rr3 Mx); kernel_rfl; kernel_rfl))); done)) | ((with_reducible refine Wp.lettw ?_ ?_ ?_); omega; omega) | (with_reducible first | refine Wp.l ?_ | (apply Wp.o; first | exact hsc | exact avAgg_agg _ | exact extT_0 _ _ | exact extT_1 _ _ _)) | ((with_reducible refine Wp.ift ?_ ?_; apply bne_t); omega) | ((with_reducible refine Wp.iff ?_ ?_; apply bne_f); omega) | (with_reducible apply Wp.callN; first | exact htr _ (by rw [Mx.ex]; exact hxN) | exact hqt _ (by rw [Mx.ex]; exact hxB) (by rw [Mx.ex]; exact hx8)))
   rw [lq]
   exact Wp.ret ⟨rfl, Mx.tch⟩
  ·refine ⟨k, l, 0, 0, .ok hp hl tp, fun {n D h} hD hn hxB hx8 hxN => ?_⟩
   obtain ⟨d, rfl⟩ : ∃ d, D = d + 9 := ⟨D - 9, by omega⟩
   apply Wp.eq
   rw [w_pattern_Parse]
   refine Wp.gc ?_
   suffices hK : Wp (pattern_Parse (world n (d + 9)) n u h) fun r h' => r = .ret (.tup [.agg [.int .i64 k, strA l], .agg [.int .i64 0, .int .i64 0]]) ∧ Tch [] h h' from hK.mono fun r h' ⟨e, t⟩ => ⟨t.above, by rw [e]; rfl, e, rfl⟩
   unfold pattern_Parse
   have Mx := Mem.nil [] h
   repeat (first | ((with_reducible apply Wp.ms0 Mx); exact Nat.le_of_ble_eq_true rfl; rfl; clear Mx; intro _ Mx) | ((with_reducible apply Wp.sa0 Mx); rfl; rfl; (rfl); clear Mx; intro _ Mx) | ((with_reducible apply Wp.mnew Mx); clear Mx; intro _ Mx) | ((with_reducible apply Wp.mbox Mx); (rfl); clear Mx; intro _ Mx) | rw [newP_eq])
   obtain ⟨h2, e2, M2⟩ := pguard_ok (n := n) (d := d) rfl hp Mx hu (by omega) hxB hx8
   refine Wp.callN e2 ?_
   clear Mx
   have Mx := M2
   repeat (first | (with_reducible apply Wp.o; exact avInt_int _ _) | ((with_reducible apply Wp.ld3 Mx); rfl) | ((with_reducible apply Wp.sa3 Mx); rfl; rfl; (rfl); clear Mx; intro _ Mx) | ((with_reducible apply Wp.lr4 Mx); rfl) | (with_reducible first | refine Wp.l ?_ | (apply Wp.o; exact avAgg_agg _)) | ((with_reducible refine Wp.iff ?_ ?_; apply bne_f); omega))
   obtain ⟨c, T, h3, e3, kt, M3⟩ := ht (n := n) (D := d + 6) (h := _) (by omega) (by omega) (show memB TNode _ = false by rw [Mx.ex]; exact hxN)
   refine Wp.callN e3 ?_
   have M4 := Mem.frameT (xs := []) (ys := []) Mx M3
   clear Mx
   have Mx : Mem [] h h3 (_ :: _ :: _ :: _ :: _ :: T) := M4
   repeat (first | (with_reducible apply Wp.o; exact avInt_int _ _) | ((with_reducible apply Wp.ld3 Mx); rfl) | ((with_reducible apply Wp.lr3 Mx); rfl) | ((with_reducible apply Wp.sa3 Mx); rfl; rfl; (rfl); clear Mx; intro _ Mx) | ((with_reducible apply Wp.lr4 Mx); rfl) | ((with_reducible apply Wp.sa4 Mx); rfl; rfl; (rfl); clear Mx; intro _ Mx) | ((with_reducible refine Wp.chk ?_ ?_); focus ((repeat' (first | (with_reducible exact rfl) | (with_reducible apply and_t) | ((with_reducible apply Mem.rr3 Mx); kernel_rfl; kernel_rfl))); done)) | (with_reducible first | refine Wp.l ?_ | (apply Wp.o; first | exact avAgg_agg _ | exact extT_0 _ _ | exact extT_1 _ _ _)) | ((with_reducible refine Wp.iff ?_ ?_; apply bne_f); omega))
   exact Wp.ret ⟨rfl, Mx.tch⟩
end
def flatL (l : Bytes) : Nat := (l.flatMap fun a => signB a.toNat).length
theorem flatL_snoc (l : Bytes) (c : UInt8) : flatL (l ++ [c]) = flatL l + (signB c.toNat).length := by
 unfold flatL
 rw [List.flatMap_append, List.length_append]
 simp
def Places (s : Nat) (acc : Bytes) (pl : List Nat) (p : Nat) : Prop := pl.length = acc.length ∧ p = s + flatL acc ∧ ∀ i (h : i < pl.length), pl[i] = s + flatL (acc.take i)
theorem Places.nil (s : Nat) : Places s [] [] s := ⟨rfl, rfl, fun _ h => absurd h (Nat.not_lt_zero _)⟩
theorem Places.snoc {s p : Nat} {acc : Bytes} {pl : List Nat} (k : Places s acc pl p) (c : UInt8) : Places s (acc ++ [c]) (pl ++ [p]) (p + (signB c.toNat).length) := by
 obtain ⟨h1, h2, h3⟩ := k
 refine ⟨by simp [h1], by rw [flatL_snoc]; omega, fun i h => ?_⟩
 rw [List.length_append, List.length_singleton] at h
 by_cases hi : i < pl.length
 ·rw [List.getElem_append_left hi, h3 i hi, List.take_append_of_le_length (by omega)]
 ·have hi' : i = pl.length := by omega
  subst hi'
  rw [List.getElem_append_right (Nat.le_refl _)]
  simp [h1, h2]
theorem Places.all {s p : Nat} {acc : Bytes} {pl : List Nat} (k : Places s acc pl p) {i : Nat} (h : i ≤ acc.length) : ∃ hi : i < (pl ++ [p]).length, (pl ++ [p])[i] = s + flatL (acc.take i) := by
 obtain ⟨h1, h2, h3⟩ := k
 refine ⟨by simp; omega, ?_⟩
 by_cases hi : i < pl.length
 ·rw [List.getElem_append_left hi, h3 i hi]
 ·have hi' : i = pl.length := by omega
  subst hi'
  rw [List.getElem_append_right (Nat.le_refl _)]
  simp [h1, h2]
theorem form_next {u : Bytes} {p c q : Nat} (h : formAt u p = .ok c q) : q = p + (signB c).length := by
 rw [formAt_W] at h
 cases hW : formW (u.drop p) with
 | bad k => rw [hW] at h; cases h
 | ok c' k =>
  rw [hW] at h
  simp only [shiftF, FR.ok.injEq] at h
  obtain ⟨rfl, rfl⟩ := h
  rw [(formW_ok hW).2.1]
section
variable {n d p : Nat} {h h0 : AHeap} {u : Bytes} {Q : ARes → AHeap → Prop} {S : List Nat}
theorem scan_loopP (hu : u.length ≤ 1000000) (hn : 300 < n) (hxI : memB 3 h0.ex = false) (hxU : memB TU8 h0.ex = false) {s : Nat} :
  ∀ (fuel f p : Nat) (acc : Bytes) (pl : List Nat) (v1 v2 : AV) (T1 T2 : List RowT) (H : AHeap), fuel < f → u.length + 1 ≤ fuel + p → p ≤ u.length → acc.length ≤ p → Places s acc pl p → GrowT TU8 1 (rowsU acc) v1 T1 → GrowT 3 1 (rowsI pl) v2 T2 → Mem S h0 H (T1 ++ T2) →
   (∀ l q pl' v T H', scanQ u (-1) fuel p acc = .ok l (q + 1) → Places s l pl' q → GrowT 3 1 (rowsI (pl' ++ [q])) v T → Mem S h0 H' T → Q (.ret (.tup [strA l, v, .int .i64 ((q + 1 : Nat) : Int), .bool true])) H') →
   (∀ q H', scanQ u (-1) fuel p acc = .bad 6 q → Tch S h0 H' → Q (.ret (.tup [strA [], .nsl, .int .i64 (q : Int), .bool false])) H') →
   Wp (ref09_Scan_L0 (world n (d + 2)) u f (p : Int) v1 v2 H) Q
 | 0, f, p, acc, pl, v1, v2, T1, T2, H, hf, hfu, hp, _, _, _, _, _, _, _ => by omega
 | fuel + 1, f + 1, p, acc, pl, v1, v2, T1, T2, H, hf, hfu, hp, hacc, hPl, g1, g2, Mx, hok, hbad => by
  rw [ref09_Scan_L0_s]
  unfold ref09_Scan_L0b
  have lu := lenS_nat u
  have hpl : pl.length ≤ p := by rw [hPl.1]; exact hacc
  have hneg : ¬ (acc.length : Int) = -1 := by omega
  have hli : (rowsI pl).length = pl.length := by simp [rowsI]
  have hlu : (rowsU acc).length = acc.length := by simp [rowsU]
  refine Wp.mnews Mx (bldSl_int _ _) rfl hxI (fun h1 M1 => ?_)
  refine Wp.grow (xs := T1) (T := T2) (sz := 1) (P := Try.prog) M1 g2 elI notI cellsI fitI hxI rfl rfl (by omega) (by omega) (fun v2' h2 T2' g2' M2 => ?_)
  have g2'' : GrowT 3 1 (rowsI (pl ++ [p])) v2' T2' := by
   have : rowsI (pl ++ [p]) = rowsI pl ++ [[.int .i64 (p : Int)]] := by simp [rowsI]
   rw [this]
   exact g2'
  have M2' : Mem S h0 h2 (T2' ++ T1) := M2.perm List.perm_append_comm
  by_cases hq : at? u p = some 34
  ·obtain ⟨hpl2, hpc⟩ := at?_some hq
   have hx : idxS u (p : Int) = some ((u[p]).toNat : Int) := idxS_nat hpl2
   repeat (first | (with_reducible refine Wp.join1 (fun _ _ => ?_)) | ((with_reducible refine Wp.lettw ?_ ?_ ?_); omega; omega) | (with_reducible first | refine Wp.l ?_ | (apply Wp.o; first | exact hx | exact avStr_str _)) | ((with_reducible refine Wp.ift ?_ ?_); ((with_reducible first | apply decide_eq_true | apply beq_t); omega)) | (with_reducible first | (apply Wp.outK; exact conv_grow g1 M2') | refine Wp.go1 (by assumption) ?_))
   rw [show (p : Int) + 1 = ((p + 1 : Nat) : Int) by omega]
   exact Wp.ret (hok acc p pl v2' T2' h2 (by rw [scanQ, if_pos hq]) hPl g2'' M2.drop)
  ·have hb := byteAt_w (n := n) (d := d) (h := h2) hu hp hn
   have sc : scanQ u (-1) (fuel + 1) p acc = match formAt u p with
     | .ok c q => scanQ u (-1) fuel q (acc ++ [UInt8.ofNat c])
     | .bad q => .bad 6 q := by rw [scanQ, if_neg hq, if_neg hneg]; rfl
   cases hF : formAt u p with
   | bad q =>
    rw [hF] at hb sc
    unfold batV at hb
    by_cases hl : p < u.length
    ·have hx : idxS u (p : Int) = some ((u[p]).toNat : Int) := idxS_nat hl
     have h34 : (u[p]).toNat ≠ 34 := fun e => hq (by rw [at?_lt hl, e])
     repeat (first | (with_reducible first | refine Wp.join1 (fun _ _ => ?_) | refine Wp.l ?_ | (apply Wp.o; first | exact hx | exact avInt_int _ _ | exact avBool_bool _ | exact extT_0 _ _ | exact extT_1 _ _ _ | exact extT_2 _ _ _ _)) | ((with_reducible refine Wp.ift ?_ ?_); first | (with_reducible exact Bool.not_false) | ((with_reducible first | apply decide_eq_true | apply beq_t); omega)) | ((with_reducible refine Wp.iff ?_ ?_; apply beq_f); omega) | (with_reducible first | (apply Wp.callN; assumption) | refine Wp.go1 (by assumption) ?_))
     exact Wp.ret (hbad q h2 sc M2.tch)
    ·repeat (first | (with_reducible first | refine Wp.join1 (fun _ _ => ?_) | refine Wp.l ?_ | (apply Wp.o; first | exact avInt_int _ _ | exact avBool_bool _ | exact extT_0 _ _ | exact extT_1 _ _ _ | exact extT_2 _ _ _ _) | (refine Wp.ift ?_ ?_; exact Bool.not_false)) | ((with_reducible refine Wp.iff ?_ ?_); first | (with_reducible rfl) | ((with_reducible apply decide_eq_false); omega)) | (with_reducible first | (apply Wp.callN; assumption) | refine Wp.go1 (by assumption) ?_))
     exact Wp.ret (hbad q h2 sc M2.tch)
   | ok c q =>
    rw [hF] at hb sc
    unfold batV at hb
    obtain ⟨hc, hpq, hqu⟩ := formAt_ok hF
    have hPl2 : Places s (acc ++ [UInt8.ofNat c]) (pl ++ [p]) q := by
     have := hPl.snoc (UInt8.ofNat c)
     rw [ofNat_toNat hc, ← form_next hF] at this
     exact this
    have next : Wp (Abs.outK (bldSl Try.prog h2 50 1 [(0, .int .u8 (c : Int))]) fun v57 h_48 => Abs.outK (opAppend Try.prog h_48 50 50 v1 v57) fun v58 h_50 => ref09_Scan_L0 (world n (d + 2)) u f (q : Int) v58 v2' h_50) Q := by
     refine Wp.mnews M2' (bldSl_byte _ _) rfl hxU (fun h3 M3 => ?_)
     refine Wp.grow (xs := T2') (T := T1) (sz := 1) (P := Try.prog) M3 g1 elU notU cellsU fitU hxU rfl rfl (by omega) (by omega) (fun v1' h4 T1' g1' M4 => ?_)
     have g1'' : GrowT TU8 1 (rowsU (acc ++ [UInt8.ofNat c])) v1' T1' := by
      have : rowsU (acc ++ [UInt8.ofNat c]) = rowsU acc ++ [[.int .u8 (c : Int)]] := by simp [rowsU, ofNat_toNat hc]
      rw [this]
      exact g1'
     refine scan_loopP hu hn hxI hxU fuel f q (acc ++ [UInt8.ofNat c]) (pl ++ [p]) v1' v2' T1' T2' h4 (by omega) (by omega) hqu (by simp; omega) hPl2 g1'' g2'' (M4.perm List.perm_append_comm) ?_ ?_
     ·intro l q' pl' v T H' hs
      exact hok l q' pl' v T H' (by rw [sc]; exact hs)
     ·intro q' H' hs
      exact hbad q' H' (by rw [sc]; exact hs)
    by_cases hl : p < u.length
    ·have hx : idxS u (p : Int) = some ((u[p]).toNat : Int) := idxS_nat hl
     have h34 : (u[p]).toNat ≠ 34 := fun e => hq (by rw [at?_lt hl, e])
     repeat (first | (with_reducible first | refine Wp.join1 (fun _ _ => ?_) | refine Wp.l ?_ | (apply Wp.o; first | exact hx | exact avInt_int _ _ | exact avBool_bool _ | exact extT_0 _ _ | exact extT_1 _ _ _ | exact extT_2 _ _ _ _)) | ((with_reducible refine Wp.ift ?_ ?_); ((with_reducible first | apply decide_eq_true | apply beq_t); omega)) | ((with_reducible refine Wp.iff ?_ ?_); first | (with_reducible exact Bool.not_true) | ((with_reducible apply beq_f); omega)) | (with_reducible first | (apply Wp.callN; assumption) | refine Wp.go1 (by assumption) ?_))
     exact next
    ·omega
def ScanP (u : Bytes) (s : Nat) (h : AHeap) (r : ARes) (h' : AHeap) : Prop :=
 (∃ l q pl v T, quotedP u s = .ok l (q + 1) ∧ Places (s + 1) l pl q ∧ r = .ret (.tup [strA l, v, .int .i64 ((q + 1 : Nat) : Int), .bool true]) ∧ GrowT 3 1 (rowsI (pl ++ [q])) v T ∧ Mem [] h h' T) ∨
 (∃ q, quotedP u s = .bad 6 q ∧ r = .ret (.tup [strA [], .nsl, .int .i64 (q : Int), .bool false]) ∧ Tch [] h h')
theorem scanP_w {s : Nat} (hs : s ≤ u.length) (hu : u.length ≤ 1000000) (hn : u.length + 300 < n) (hxI : memB 3 h.ex = false) (hxU : memB TU8 h.ex = false) : Wp (world n (d + 3) 33 [strA u, .int .i64 (s : Int)] h) (ScanP u s h) := by
 rw [w_ref09_Scan]
 refine Wp.gc2 ?_
 have main : ∀ Q : ARes → AHeap → Prop, (∀ l q pl' v T H', quotedP u s = .ok l (q + 1) → Places (s + 1) l pl' q → GrowT 3 1 (rowsI (pl' ++ [q])) v T → Mem [] h H' T → Q (.ret (.tup [strA l, v, .int .i64 ((q + 1 : Nat) : Int), .bool true])) H') → (∀ q H', quotedP u s = .bad 6 q → Tch [] h H' → Q (.ret (.tup [strA [], .nsl, .int .i64 (q : Int), .bool false])) H') → Wp (ref09_Scan (world n (d + 2)) n u (s : Int) h) Q := by
  intro Q hok hbad
  unfold ref09_Scan
  have lu := lenS_nat u
  by_cases hq : at? u s = some 34
  ·obtain ⟨hpl2, hpc⟩ := at?_some hq
   have hx : idxS u (s : Int) = some ((u[s]).toNat : Int) := idxS_nat hpl2
   have hQ : quotedP u s = scanQ u (-1) (u.length + 1) (s + 1) [] := by unfold quotedP; rw [if_pos hq]
   repeat (first | (with_reducible refine Wp.join1 (fun _ _ => ?_)) | ((with_reducible refine Wp.lettw ?_ ?_ ?_); omega; omega) | (with_reducible first | refine Wp.l ?_ | (apply Wp.o; exact hx)) | ((with_reducible refine Wp.iff ?_ ?_); ((with_reducible first | apply decide_eq_false | apply bne_f); omega)) | (with_reducible refine Wp.go1 (by assumption) ?_))
   rw [show (s : Int) + 1 = ((s + 1 : Nat) : Int) by omega]
   exact scan_loopP (Q := Q) (n := n) (d := d) (S := []) (h0 := h) hu (by omega) hxI hxU (s := s + 1) (u.length + 1) n (s + 1) [] [] .nsl .nsl [] [] h (by omega) (by omega) (by omega) (by simp) (Places.nil _) (GrowT.nil _ _) (GrowT.nil _ _) (Mem.nil [] h) (fun l q pl' v T H' hs hpl g M => hok l q pl' v T H' (by rw [hQ]; exact hs) hpl g M) (fun q H' hs t => hbad q H' (by rw [hQ]; exact hs) t)
  ·have hQ : quotedP u s = .bad 6 s := by unfold quotedP; rw [if_neg hq]
   by_cases hl : s < u.length
   ·have hx : idxS u (s : Int) = some ((u[s]).toNat : Int) := idxS_nat hl
    have h34 : (u[s]).toNat ≠ 34 := fun e => hq (by rw [at?_lt hl, e])
    repeat (first | (with_reducible first | refine Wp.join1 (fun _ _ => ?_) | refine Wp.l ?_ | (apply Wp.o; exact hx)) | ((with_reducible refine Wp.ift ?_ ?_); ((with_reducible first | apply decide_eq_true | apply bne_t); omega)) | ((with_reducible refine Wp.iff ?_ ?_; apply decide_eq_false); omega) | (with_reducible refine Wp.go1 (by assumption) ?_))
    exact Wp.ret (hbad s h hQ (Tch.refl _ _))
   ·repeat (first | (with_reducible first | refine Wp.join1 (fun _ _ => ?_) | refine Wp.l ?_) | ((with_reducible refine Wp.ift ?_ ?_); first | (with_reducible rfl) | ((with_reducible apply decide_eq_true); omega)) | (with_reducible refine Wp.go1 (by assumption) ?_))
    exact Wp.ret (hbad s h hQ (Tch.refl _ _))
 refine main _ (fun l q pl v T H' hQ hpl g M => ?_) (fun q H' hQ t => ?_)
 ·refine ⟨.inl ⟨l, q, pl, v, T, hQ, hpl, rfl, g, M⟩, fun _ hlo => ?_⟩
  rcases g.2 with ⟨h1, _, _⟩ | ⟨_, c, rfl, rfl⟩
  ·simp [rowsI] at h1
  ·have hc := M.at0.2.2
   simp [ARes.val, AV.lo, AV.loL] at hlo
   have := hlo.2
   simp at hc
   omega
 ·exact ⟨.inr ⟨q, hQ, rfl, t⟩, fun _ _ => .inr ⟨q, hQ, rfl, Tch.refl _ _⟩⟩
end
open Go.RowKit Abs
def wordB' (k : Int) : Bytes := if k = 2 then wGlob else if k = 3 then wRe else []
theorem wordQ_len {u : Bytes} {k : Int} {s : Nat} (h : wordQ u = .ok (k, s)) : s = (wordB' k).length := by
 unfold wordQ at h
 split at h
 ·split at h
  ·cases h
   rfl
  ·cases h
 ·split at h
  ·split at h
   ·cases h
    rfl
   ·cases h
  ·cases h
   rfl
theorem lcp0 {w u : Bytes} {c : Nat} (hw : at? w 0 = some c) : lcpN w u = 0 ↔ at? u 0 ≠ some c := by
 cases w with
 | nil => cases hw
 | cons a w =>
  have ha : a.toNat = c := by simpa [at?] using hw
  cases u with
  | nil => simp [lcpN, at?]
  | cons b u =>
   rw [lcpN]
   by_cases h : a = b
   ·rw [if_pos h]
    subst h
    simp [at?, ha]
   ·rw [if_neg h]
    refine ⟨fun _ hh => h ?_, fun _ => rfl⟩
    have : b.toNat = c := by simpa [at?] using hh
    exact UInt8.toNat_inj.1 (by omega)
section
variable {n d : Nat} {h h0 H : AHeap} {u : Bytes} {Q : ARes → AHeap → Prop} {S : List Nat}
theorem word2_w : world n (d + 1) 46 [.int .i64 2] h = some (.ret (strA wGlob), h) := by
 rw [w_ref09_word]
 refine (congrArg (gcR h) ?_).trans gcR_self
 apply Wp.eq
 unfold ref09_word
 repeat (first | (with_reducible refine Wp.l ?_) | ((with_reducible refine Wp.ift ?_ ?_; apply beq_t); omega))
 exact Wp.ret ⟨rfl, rfl⟩
theorem word3_w : world n (d + 1) 46 [.int .i64 3] h = some (.ret (strA wRe), h) := by
 rw [w_ref09_word]
 refine (congrArg (gcR h) ?_).trans gcR_self
 apply Wp.eq
 unfold ref09_word
 repeat (first | (with_reducible refine Wp.l ?_) | ((with_reducible refine Wp.ift ?_ ?_; apply beq_t); omega) | ((with_reducible refine Wp.iff ?_ ?_; apply beq_f); omega))
 exact Wp.ret ⟨rfl, rfl⟩
theorem word1_w : world n (d + 1) 46 [.int .i64 1] h = some (.ret (strA []), h) := by
 rw [w_ref09_word]
 refine (congrArg (gcR h) ?_).trans gcR_self
 apply Wp.eq
 unfold ref09_word
 repeat (first | (with_reducible refine Wp.l ?_) | ((with_reducible refine Wp.iff ?_ ?_; apply beq_f); omega))
 exact Wp.ret ⟨rfl, rfl⟩
theorem word_w {k : Int} (hk : k = 1 ∨ k = 2 ∨ k = 3) : world n (d + 1) 46 [.int .i64 k] h = some (.ret (strA (wordB' k)), h) := by
 rcases hk with rfl | rfl | rfl
 ·exact word1_w
 ·exact word2_w
 ·exact word3_w
theorem lcp_loop {w : Bytes} {k116 : Int → AHeap → R} (hw : w.length ≤ 10) : ∀ (rest : Bytes) (i f : Nat), w.drop i = rest → i ≤ u.length → rest.length < f → Wp (k116 ((i + lcpN rest (u.drop i) : Nat) : Int) H) Q → Wp (ref09_Parse_L1 u w k116 f (i : Int) H) Q
 | _, _, 0, _, _, hf, _ => by omega
 | [], i, f + 1, d1, hi, hf, hk => by
  rw [ref09_Parse_L1_s]
  unfold ref09_Parse_L1b
  have := drop_nil' d1
  have ll := lenS_nat w
  have e : lcpN [] (u.drop i) = 0 := by cases u.drop i <;> rfl
  rw [e, Nat.add_zero] at hk
  repeat (first | (with_reducible first | refine Wp.join1 (fun _ _ => ?_) | refine Wp.l ?_) | ((with_reducible refine Wp.iff ?_ ?_); first | (with_reducible rfl) | ((with_reducible apply decide_eq_false); omega)) | (with_reducible refine Wp.go1 (by assumption) ?_))
  exact hk
 | c :: rest, i, f + 1, d1, hi, hf, hk => by
  rw [ref09_Parse_L1_s]
  unfold ref09_Parse_L1b
  obtain ⟨hi1, hc, d2⟩ := drop_cons' d1
  have ll := lenS_nat w
  have lu := lenS_nat u
  have hx := idxS_nat (l := w) hi1
  rw [List.length_cons] at hf
  by_cases hp : i < u.length
  ·have hy := idxS_nat (l := u) hp
   rw [List.drop_eq_getElem_cons hp, lcpN] at hk
   by_cases hcc : c = u[i]
   ·rw [if_pos hcc] at hk
    have he : (u[i]).toNat = (w[i]).toNat := by rw [hc, hcc]
    repeat (first | (with_reducible refine Wp.join1 (fun _ _ => ?_)) | ((with_reducible refine Wp.lettw ?_ ?_ ?_); omega; omega) | (with_reducible first | refine Wp.l ?_ | (apply Wp.o; first | exact hx | exact hy)) | ((with_reducible refine Wp.ift ?_ ?_); ((with_reducible first | apply decide_eq_true | apply beq_t); omega)) | (with_reducible refine Wp.go1 (by assumption) ?_))
    rw [show (i : Int) + 1 = ((i + 1 : Nat) : Int) by omega]
    refine lcp_loop hw rest (i + 1) f d2 (by omega) (by omega) ?_
    rw [show i + 1 + lcpN rest (u.drop (i + 1)) = i + (lcpN rest (u.drop (i + 1)) + 1) by omega]
    exact hk
   ·rw [if_neg hcc, Nat.add_zero] at hk
    have he : (u[i]).toNat ≠ (w[i]).toNat := fun hh => hcc (by rw [← hc]; exact (UInt8.toNat_inj.1 hh).symm)
    have e1 : (((u[i]).toNat : Int) == ((w[i]).toNat : Int)) = false := beq_f (by omega)
    repeat (first | (with_reducible first | refine Wp.join1 (fun _ _ => ?_) | refine Wp.l ?_ | (apply Wp.o; first | exact hx | exact hy)) | ((with_reducible refine Wp.ift ?_ ?_); ((with_reducible first | apply decide_eq_true | apply beq_t); omega)) | (with_reducible first | (refine Wp.iff ?_ ?_; assumption) | refine Wp.go1 (by assumption) ?_))
    exact hk
  ·rw [List.drop_eq_nil_of_le (by omega)] at hk
   have e : lcpN (c :: rest) [] = 0 := rfl
   rw [e, Nat.add_zero] at hk
   repeat (first | (with_reducible first | refine Wp.join1 (fun _ _ => ?_) | refine Wp.l ?_) | ((with_reducible refine Wp.ift ?_ ?_; apply decide_eq_true); omega) | ((with_reducible refine Wp.iff ?_ ?_); first | (with_reducible rfl) | ((with_reducible apply decide_eq_false); omega)) | (with_reducible refine Wp.go1 (by assumption) ?_))
   exact hk
theorem kind_round {w : Bytes} {kk : Int} {k0 : Int} {h2 h4 : AHeap} {k14 : AHeap → R} {self : Int → AHeap → R} (hw10 : w.length ≤ 10) (hn : 20 < n) (hkk : kk ≤ 3 ∧ 0 ≤ kk) (hww : ∀ H : AHeap, world n (d + 1) 46 [.int .i64 kk] H = some (.ret (strA w), H)) (M : Mem [] h H ((h4.next, TPat, [.int .i64 k0, strA []]) :: (h2.next, TSpot, [.int .i64 0, .int .i64 0]) :: (h.next, TPat, [.int .i64 0, strA []]) :: []))
  (hno : lcpN w u = 0 → Wp (self (kk + 1) H) Q) (hbad : 0 < lcpN w u → lcpN w u < w.length → ∀ H', Tch [] h H' → Q (.ret (.tup [.agg [.int .i64 0, strA []], .agg [.int .i64 6, .int .i64 ((lcpN w u : Nat) : Int)]])) H') (hyes : 0 < lcpN w u → lcpN w u = w.length → ∀ H', Mem [] h H' ((h4.next, TPat, [.int .i64 kk, strA []]) :: (h2.next, TSpot, [.int .i64 0, .int .i64 0]) :: (h.next, TPat, [.int .i64 0, strA []]) :: []) → Wp (self (kk + 1) H') Q) :
  Wp (ref09_Parse_L0b (world n (d + 1)) n u h h2 h4 k14 self kk H) Q := by
 unfold ref09_Parse_L0b
 have ll := lenS_nat w
 have hle := lcpN_le w u
 repeat (first | (with_reducible first | (first | refine Wp.join0 (fun _ _ => ?_) | refine Wp.join1 (fun _ _ => ?_)) | refine Wp.l ?_ | (apply Wp.o; exact avStr_str _)) | ((with_reducible refine Wp.ift ?_ ?_; apply decide_eq_true); omega) | (with_reducible apply Wp.callN; exact hww _))
 rename_i k106 ek106 k116 ek116
 refine lcp_loop (i := 0) hw10 w n List.drop_zero (Nat.zero_le _) (by omega) ?_
 rw [Nat.zero_add, List.drop_zero]
 refine Wp.go1 ek116 ?_
 by_cases h0 : lcpN w u = 0
 ·repeat (first | ((with_reducible refine Wp.lettw ?_ ?_ ?_); omega; omega) | (with_reducible refine Wp.l ?_) | ((with_reducible refine Wp.ift ?_ ?_; apply beq_t); omega) | (with_reducible refine Wp.go0 (by assumption) ?_))
  exact hno h0
 ·by_cases hl : lcpN w u < w.length
  ·have hb := fun H : AHeap => badT_w (n := n) (d := d) (h := H) ((lcpN w u : Nat) : Int)
   have Mx := M
   repeat (first | ((with_reducible apply Wp.lr1 Mx); rfl) | ((with_reducible apply Wp.sa1 Mx); rfl; rfl; (rfl); clear Mx; intro _ Mx) | ((with_reducible apply Wp.lr2 Mx); rfl) | ((with_reducible apply Wp.sa2 Mx); rfl; rfl; (rfl); clear Mx; intro _ Mx) | (with_reducible first | refine Wp.l ?_ | (apply Wp.o; exact avAgg_agg _)) | ((with_reducible refine Wp.ift ?_ ?_); ((with_reducible first | apply decide_eq_true | apply beq_t); omega)) | ((with_reducible refine Wp.iff ?_ ?_; apply beq_f); omega) | (with_reducible apply Wp.callN; exact hb _) | rw [newP_eq])
   exact Wp.ret (hbad (by omega) hl _ Mx.tch)
  ·repeat (first | (with_reducible refine Wp.l ?_) | ((with_reducible refine Wp.iff ?_ ?_); ((with_reducible first | apply decide_eq_false | apply beq_f); omega)))
   refine Wp.ms0 M (Nat.le_of_ble_eq_true rfl) rfl fun h' M' => ?_
   repeat (first | ((with_reducible refine Wp.lettw ?_ ?_ ?_); omega; omega) | (with_reducible refine Wp.go0 (by assumption) ?_))
   exact hyes (by omega) (by omega) h' M'
theorem ref_rest {k0 : Int} {s : Nat} {h2 h4 H : AHeap} {k14 : AHeap → R} {k : Int} {l : Bytes} {e q : Int} (ek : k14 = fun (h_15 : AHeap) =>
  obind (ldCell h_15 (AV.ptr (AHeap.next h4) 0)) fun v56 =>
  obind (avInt .i64 v56) fun t56 =>
  callN (world n (d + 302) 46 [.int .i64 t56] h_15) fun r57 h_19 =>
  obind (avStr r57) fun t57 =>
  callN (world n (d + 302) 33 [strA u, .int .i64 (lenS t57)] h_19) fun r59 h_22 =>
  obind (extT 0 r59) fun v60 =>
  obind (avStr v60) fun t60 =>
  obind (extT 1 r59) fun v61 =>
  obind (extT 2 r59) fun v62 =>
  obind (avInt .i64 v62) fun t62 =>
  obind (extT 3 r59) fun v63 =>
  obind (avBool v63) fun t63 =>
  lett (!t63) fun (t65 : Bool) =>
  lett (fun (t71 : Bool) (h_34 : AHeap) =>
   ifB t71
   (
    callN (world n (d + 302) 34 [.int .i64 t62] h_34) fun r74 h_38 =>
    obind (avAgg r74) fun t74 =>
    obind (stRow h_38 2 ([.int .i64 0, .str 0 0] : List AV) (newP h)) fun h_41 =>
    obind (stRow h_41 2 t74 (newP h2)) fun h_43 =>
    obind (ldRow h_43 2 (newP h)) fun w2 =>
    obind (ldRow h_43 2 (newP h2)) fun w3 =>
    some (.ret (.tup [.agg w2, .agg w3]), h_43))
   (
    obind (stRow h_34 1 [strA t60] (AV.ptr (AHeap.next h4) 1)) fun h_48 =>
    obind (ldRow h_48 2 (newP h4)) fun t78 =>
    callN (world n (d + 302) 22 [.agg t78] h_48) fun r79 h_52 =>
    obind (extT 0 r79) fun v80 =>
    obind (avAgg v80) fun t80 =>
    obind (extT 1 r79) fun v81 =>
    obind (avAgg v81) fun t81 =>
    lett (newH h_52 TNode [.int .i64 0, .int .u64 0, .int .u64 0, .int .u64 0, .int .u64 0, .nsl]) fun h_58 =>
    lett (newH h_58 TSpot [.int .i64 0, .int .i64 0]) fun h_60 =>
    obind (stRow h_60 6 t80 (newP h_52)) fun h_62 =>
    obind (stRow h_62 2 t81 (newP h_58)) fun h_64 =>
    obind (ldCell h_64 (AV.ptr (AHeap.next h_58) 0)) fun v83 =>
    obind (avInt .i64 v83) fun t83 =>
    lett ((t83 : Int) != 0) fun (t84 : Bool) =>
    ifB t84
    (
     obind (ldCell h_64 (AV.ptr (AHeap.next h_58) 0)) fun v87 =>
     obind (avInt .i64 v87) fun t87 =>
     obind (ldCell h_64 (AV.ptr (AHeap.next h_58) 1)) fun v90 =>
     obind (avInt .i64 v90) fun t90 =>
     obind (idxP 1 v61 t90) fun t91 =>
     obind (ldCell h_64 t91) fun v92 =>
     obind (avInt .i64 v92) fun t92 =>
     obind (stRow h_64 2 ([.int .i64 0, .str 0 0] : List AV) (newP h)) fun h_79 =>
     chk (reLoad Try.prog h_79 3 t91 (.int .i64 t92) && (reLoad Try.prog h_79 3 (AV.ptr (AHeap.next h_58) 1) (.int .i64 t90) && (reLoad Try.prog h_79 25 (AV.ptr (AHeap.next h_58) 0) (.int .i64 t87) && true))) <|
     obind (stRow h_79 2 ([.int .i64 t87, .int .i64 t92] : List AV) (newP h2)) fun h_82 =>
     obind (ldRow h_82 2 (newP h)) fun w2_85 =>
     obind (ldRow h_82 2 (newP h2)) fun w3_87 =>
     some (.ret (.tup [.agg w2_85, .agg w3_87]), h_82))
    (
     obind (ldRow h_64 2 (newP h4)) fun t94 =>
     obind (stRow h_64 2 t94 (newP h)) fun h_90 =>
     obind (stRow h_90 2 ([.int .i64 0, .int .i64 0] : List AV) (newP h2)) fun h_92 =>
     obind (ldRow h_92 2 (newP h)) fun w2_95 =>
     obind (ldRow h_92 2 (newP h2)) fun w3_97 =>
     some (.ret (.tup [.agg w2_95, .agg w3_97]), h_92)))) fun j71 =>
  ifB t65
  (
   j71 true h_22)
  (
   lett (decide (t62 < (lenS u))) fun (t70 : Bool) =>
   j71 t70 h_22)) (hu : u.length ≤ 1000000) (hn : u.length + 420 < n) (hxI : memB 3 h.ex = false) (hxU : memB TU8 h.ex = false) (hxN : memB TNode h.ex = false) (hw : wordQ u = .ok (k0, s)) (kp : ParseP u k l e q) (M : Mem [] h H ((h4.next, TPat, [.int .i64 k0, strA []]) :: (h2.next, TSpot, [.int .i64 0, .int .i64 0]) :: (h.next, TPat, [.int .i64 0, strA []]) :: [])) :
  Wp (k14 H) fun r h' => r = .ret (.tup [.agg [.int .i64 k, strA l], .agg [.int .i64 e, .int .i64 q]]) ∧ Tch [] h h' := by
 subst ek
 obtain ⟨hk3, hsl⟩ := wordQ_pos hw
 have hwl := wordQ_len hw
 have hww := fun H : AHeap => word_w (n := n) (d := d + 301) (h := H) hk3
 have lw := lenS_nat (wordB' k0)
 have lu := lenS_nat u
 have hbd := fun (H : AHeap) (x : Int) => badT_w (n := n) (d := d + 301) (h := H) x
 have Mx := M
 repeat (first | (with_reducible apply Wp.o; first | exact avInt_int _ _ | exact avStr_str _) | ((with_reducible apply Wp.ld0 Mx); rfl) | (with_reducible apply Wp.callN; exact hww _) | rw [newP_eq])
 rw [lw, ← hwl]
 obtain ⟨v, H1, e1, hS⟩ := scanP_w (n := n) (d := d + 299) (h := H) hsl hu (by omega) (by rw [M.ex]; exact hxI) (by rw [M.ex]; exact hxU)
 have hpq : ∀ {q1 : Nat}, (quotedP u s = .bad 6 q1 ∨ ∃ l, quotedP u s = .ok l q1 ∧ q1 ≠ u.length) → patQ u = .error (6, q1) := by
  intro q1 hh
  unfold patQ
  rw [hw]
  dsimp only
  rcases hh with hh | ⟨l, hh, hne⟩
  ·rw [hh]
  ·rw [hh]
   dsimp only
   rw [if_neg hne]
 rcases hS with ⟨l1, q1, pl, v1, T, hQ, hPl, rfl, g, M1⟩ | ⟨q1, hQ, rfl, t1⟩
 ·refine Wp.callN e1 ?_
  have hqs := (quotedP_text hQ).2
  have M2 := Mem.frameT (xs := []) (ys := []) Mx M1
  clear Mx
  have Mx : Mem [] h H1 ((h4.next, TPat, [.int .i64 k0, strA []]) :: (h2.next, TSpot, [.int .i64 0, .int .i64 0]) :: (h.next, TPat, [.int .i64 0, strA []]) :: T) := M2
  refine Wp.o (extT_0 _ _) (Wp.o (avStr_str _) (Wp.o (extT_1 _ _ _) (Wp.o (extT_2 _ _ _ _) (Wp.o (avInt_int _ _) (Wp.o (extT_3 _ _ _ _ _) (Wp.o (avBool_bool _) ?_))))))
  by_cases hl : q1 + 1 = u.length
  ·have hp : patQ u = .ok ((k0, l1, s), u.length) := by
    unfold patQ
    rw [hw]
    dsimp only
    rw [hQ]
    dsimp only
    rw [if_pos hl, hl]
   have hwk : ∀ H : AHeap, memB TNode H.ex = false → (∀ e i, TreeBad k0 l1 e i → world n (d + 302) 22 [.agg [.int .i64 k0, strA l1]] H = some (.ret (.tup [.agg (nodeC 0 zeroW .nsl), .agg [.int .i64 e, .int .i64 ((i : Nat) : Int)]]), H)) ∧ (∀ t, l1.length ≤ 64 → TreeP l1 k0 (.ok t) → OutT H (world n (d + 302) 22 [.agg [.int .i64 k0, strA l1]] H) (.ok t)) := by
    intro H hxH
    refine ⟨fun e i hb => ?_, fun t h64 tp => rTree_ok h64 (by omega) tp (by omega) hxH⟩
    rcases hb with ⟨rfl, rfl, h64⟩ | ⟨rfl, _, h64, tp⟩
    ·exact rTree_long h64 hk3
    ·exact rTree_ok h64 (by omega) tp (D := d + 301) (by omega) hxH
   repeat (first | ((with_reducible apply Wp.lr0 Mx); rfl) | ((with_reducible apply Wp.ms0 Mx); exact Nat.le_of_ble_eq_true rfl; rfl; clear Mx; intro _ Mx) | (with_reducible first | refine Wp.join1 (fun _ _ => ?_) | refine Wp.l ?_) | ((with_reducible refine Wp.iff ?_ ?_); first | (with_reducible exact Bool.not_true) | ((with_reducible apply decide_eq_false); omega)) | (with_reducible refine Wp.go1 (by assumption) ?_))
   cases kp with
   | bad hb =>
    rw [hp] at hb
    cases hb
   | tree hp2 tb =>
    rw [hp] at hp2
    cases hp2
    rename_i i
    obtain ⟨he, hi⟩ := tb.ne
    refine Wp.callN ((hwk _ (by rw [Mx.ex]; exact hxN)).1 e i tb) ?_
    rcases g.2 with ⟨h1, _, _⟩ | ⟨_, c, rfl, rfl⟩
    ·simp [rowsI] at h1
    have hrl : (rowsI (pl ++ [q1])).length = l1.length + 1 := by
     have := hPl.1
     simp [rowsI, this]
    obtain ⟨hi2, hv⟩ := hPl.all hi
    have hflat : (rowsI (pl ++ [q1])).flatten = (pl ++ [q1]).map fun (x : Nat) => AV.int .i64 (x : Int) := by
     unfold rowsI
     exact flat_one _ _
    have hcell : ((rowsI (pl ++ [q1])).flatten)[i]? = some (.int .i64 ((s + 1 + flatL (l1.take i) : Nat) : Int)) := by
     rw [hflat, List.getElem?_map, List.getElem?_eq_getElem hi2, hv]
     rfl
    have hix : idxP 1 (.sl c 0 (rowsI (pl ++ [q1])).length 1) (i : Int) = some (.ptr c i) := by
     have := idxP_sl (sz := 1) (b := c) (o := 0) (n := (rowsI (pl ++ [q1])).length) (k := 1) (i := i) (by omega)
     simpa using this
    repeat (first | (with_reducible apply Wp.o; exact avInt_int _ _) | ((with_reducible apply Wp.ld0 Mx); rfl) | ((with_reducible apply Wp.sa0 Mx); rfl; rfl; (rfl); clear Mx; intro _ Mx) | ((with_reducible apply Wp.sa1 Mx); rfl; rfl; (rfl); clear Mx; intro _ Mx) | ((with_reducible apply Wp.mnew Mx); clear Mx; intro _ Mx) | (with_reducible first | refine Wp.l ?_ | (apply Wp.o; first | exact hix | exact avAgg_agg _ | exact extT_0 _ _ | exact extT_1 _ _ _)) | ((with_reducible refine Wp.ift ?_ ?_; apply bne_t); omega) | rw [newP_eq])
    refine Wp.ld5 Mx hcell ?_
    repeat (first | (with_reducible apply Wp.o; exact avInt_int _ _) | ((with_reducible apply Wp.sa4 Mx); rfl; rfl; (rfl); clear Mx; intro _ Mx))
    refine Wp.chk (and_t (reLoad_c (by kernel_rfl) (RowH.cell' Mx.at5.1 hcell)) (and_t (Mem.re0 Mx (by kernel_rfl) rfl) (and_t (Mem.re0 Mx (by kernel_rfl) rfl) rfl))) ?_
    repeat (first | ((with_reducible apply Wp.lr3 Mx); rfl) | ((with_reducible apply Wp.sa3 Mx); rfl; rfl; (rfl); clear Mx; intro _ Mx) | ((with_reducible apply Wp.lr4 Mx); rfl))
    have eq1 : ((s + 1 + flatL (l1.take i) : Nat) : Int) = (s : Int) + ((quoteB (l1.take i)).length : Int) - 1 := by
     unfold quoteB flatL
     simp only [List.length_cons, List.length_append, List.length_nil]
     omega
    rw [← eq1]
    exact Wp.ret ⟨rfl, Mx.tch⟩
   | ok hp2 h64 tp =>
    rw [hp] at hp2
    cases hp2
    obtain ⟨c, T2, h3, e3, kt, M3⟩ := (hwk _ (by rw [Mx.ex]; exact hxN)).2 _ h64 tp
    refine Wp.callN e3 ?_
    have M4 := Mem.frameT (xs := []) (ys := []) Mx M3
    clear Mx
    refine Wp.o (extT_0 _ _) (Wp.o (avAgg_agg _) (Wp.o (extT_1 _ _ _) (Wp.o (avAgg_agg _) ?_)))
    refine Wp.mnew M4 fun h5 M5 => Wp.mnew M5 fun h6 M6 => ?_
    rw [newP_eq, newP_eq]
    refine Wp.sa1 M6 kt.len rfl kt.one fun h7 M7 => Wp.sa0 M7 rfl rfl rfl fun h8 M8 => ?_
    have Mx := M8
    clear M1 M2 M4 M5 M6 M7 M8
    repeat (first | (with_reducible apply Wp.o; exact avInt_int _ _) | ((with_reducible apply Wp.ld0 Mx); rfl) | ((with_reducible apply Wp.lr2 Mx); rfl) | ((with_reducible apply Wp.lr3 Mx); rfl) | ((with_reducible apply Wp.sa3 Mx); rfl; rfl; (rfl); clear Mx; intro _ Mx) | ((with_reducible apply Wp.lr4 Mx); rfl) | ((with_reducible apply Wp.sa4 Mx); rfl; rfl; (rfl); clear Mx; intro _ Mx) | (with_reducible refine Wp.l ?_) | ((with_reducible refine Wp.iff ?_ ?_; apply bne_f); omega))
    exact Wp.ret ⟨rfl, Mx.tch⟩
  ·have hp := hpq (.inr ⟨l1, hQ, hl⟩)
   cases kp with
   | bad hb =>
    rw [hp] at hb
    cases hb
    rw [show ((q1 + 1 : Nat) : Int) = (q1 : Int) + 1 by omega]
    repeat (first | ((with_reducible apply Wp.lr1 Mx); rfl) | ((with_reducible apply Wp.sa1 Mx); rfl; rfl; (rfl); clear Mx; intro _ Mx) | ((with_reducible apply Wp.lr2 Mx); rfl) | ((with_reducible apply Wp.sa2 Mx); rfl; rfl; (rfl); clear Mx; intro _ Mx) | (with_reducible first | refine Wp.join1 (fun _ _ => ?_) | refine Wp.l ?_ | (apply Wp.o; exact avAgg_agg _)) | ((with_reducible refine Wp.ift ?_ ?_; apply decide_eq_true); omega) | (with_reducible first | (refine Wp.iff ?_ ?_; exact Bool.not_true) | (apply Wp.callN; exact hbd _ _) | refine Wp.go1 (by assumption) ?_))
    exact Wp.ret ⟨rfl, Mx.tch⟩
   | tree hp2 _ =>
    rw [hp] at hp2
    cases hp2
   | ok hp2 _ _ =>
    rw [hp] at hp2
    cases hp2
 ·refine Wp.callN e1 ?_
  have M2 := Mx.keep t1
  clear Mx
  have Mx := M2
  have hp := hpq (.inl hQ)
  refine Wp.o (extT_0 _ _) (Wp.o (avStr_str _) (Wp.o (extT_1 _ _ _) (Wp.o (extT_2 _ _ _ _) (Wp.o (avInt_int _ _) (Wp.o (extT_3 _ _ _ _ _) (Wp.o (avBool_bool _) ?_))))))
  cases kp with
  | bad hb =>
   rw [hp] at hb
   cases hb
   repeat (first | ((with_reducible apply Wp.lr1 Mx); rfl) | ((with_reducible apply Wp.sa1 Mx); rfl; rfl; (rfl); clear Mx; intro _ Mx) | ((with_reducible apply Wp.lr2 Mx); rfl) | ((with_reducible apply Wp.sa2 Mx); rfl; rfl; (rfl); clear Mx; intro _ Mx) | (with_reducible first | refine Wp.join1 (fun _ _ => ?_) | refine Wp.l ?_ | (apply Wp.o; exact avAgg_agg _) | (refine Wp.ift ?_ ?_; first | rfl | exact Bool.not_false) | (apply Wp.callN; exact hbd _ _) | refine Wp.go1 (by assumption) ?_))
   exact Wp.ret ⟨rfl, Mx.tch⟩
  | tree hp2 _ =>
   rw [hp] at hp2
   cases hp2
  | ok hp2 _ _ =>
   rw [hp] at hp2
   cases hp2
theorem rParse_w {k : Int} {l : Bytes} {e q : Int} (hu : u.length ≤ 1000000) (hn : u.length + 420 < n) (hxI : memB 3 h.ex = false) (hxU : memB TU8 h.ex = false) (hxN : memB TNode h.ex = false) (kp : ParseP u k l e q) : world n (d + 303) 25 [strA u] h = some (.ret (.tup [.agg [.int .i64 k, strA l], .agg [.int .i64 e, .int .i64 q]]), h) := by
 apply Wp.eq
 rw [w_ref09_Parse]
 refine Wp.gc ?_
 suffices hK : Wp (ref09_Parse (world n (d + 302)) n u h) fun r h' => r = .ret (.tup [.agg [.int .i64 k, strA l], .agg [.int .i64 e, .int .i64 q]]) ∧ Tch [] h h' from hK.mono fun r h' ⟨e, t⟩ => ⟨t.above, by rw [e]; rfl, e, rfl⟩
 unfold ref09_Parse
 have Mx := Mem.nil [] h
 obtain ⟨f, rfl⟩ : ∃ f, n = f + 3 := ⟨n - 3, by omega⟩
 have i103 : at? wGlob 0 = some 103 := rfl
 have i114 : at? wRe 0 = some 114 := rfl
 have z1 := lcp0 (u := u) i103
 have z2 := lcp0 (u := u) i114
 have w2 := fun H : AHeap => word2_w (n := f + 3) (d := d + 301) (h := H)
 have w3 := fun H : AHeap => word3_w (n := f + 3) (d := d + 301) (h := H)
 have bad : ∀ {q1 : Nat} {H' : AHeap}, wordQ u = .error q1 → Tch [] h H' → (fun r h' => r = ARes.ret (.tup [.agg [.int .i64 k, strA l], .agg [.int .i64 e, .int .i64 q]]) ∧ Tch [] h h') (.ret (.tup [.agg [.int .i64 0, strA []], .agg [.int .i64 6, .int .i64 ((q1 : Nat) : Int)]])) H' := by
  intro q1 H' hw ht
  have hp : patQ u = .error (6, q1) := by
   unfold patQ
   rw [hw]
  cases kp with
  | bad hb =>
   rw [hp] at hb
   cases hb
   exact ⟨rfl, ht⟩
  | tree hp2 _ =>
   rw [hp] at hp2
   cases hp2
  | ok hp2 _ _ =>
   rw [hp] at hp2
   cases hp2
 refine Wp.mnew Mx fun h2 M2 => Wp.mnew M2 fun h4 M4 => Wp.mnew M4 fun h5 M5 => ?_
 rw [newP_eq]
 refine Wp.sa0 M5 rfl rfl rfl fun h6 M6 => ?_
 refine Wp.join0 fun k14 ek14 => ?_
 have last : ∀ {k0 : Int} {s : Nat} {H : AHeap}, wordQ u = .ok (k0, s) → Mem [] h H ((h4.next, TPat, [.int .i64 k0, strA []]) :: (h2.next, TSpot, [.int .i64 0, .int .i64 0]) :: (h.next, TPat, [.int .i64 0, strA []]) :: []) → Wp (ref09_Parse_L0 (world (f + 3) (d + 302)) (f + 3) u h h2 h4 k14 (f + 1) 4 H) fun r h' => r = .ret (.tup [.agg [.int .i64 k, strA l], .agg [.int .i64 e, .int .i64 q]]) ∧ Tch [] h h' := by
  intro k0 s H hw M
  rw [ref09_Parse_L0_s]
  unfold ref09_Parse_L0b
  ((with_reducible refine Wp.l ?_))
  refine Wp.iff (decide_eq_false (by decide)) ?_
  exact ref_rest ek14 hu hn hxI hxU hxN hw kp M
 rw [ref09_Parse_L0_s]
 refine kind_round (d := d + 301) (w := wGlob) (k0 := 1) (by decide) (by omega) (by decide) w2 M6 (fun e0 => ?_) (fun e0 e1 H' t => ?_) fun e0 e1 H' M7 => ?_
 ·have n103 := z1.1 e0
  show Wp (ref09_Parse_L0 (world (f + 3) (d + 302)) (f + 3) u h h2 h4 k14 (f + 2) 3 h6) _
  rw [ref09_Parse_L0_s]
  refine kind_round (d := d + 301) (w := wRe) (k0 := 1) (by decide) (by omega) (by decide) w3 M6 (fun e2 => ?_) (fun e2 e3 H' t => ?_) fun e2 e3 H' M7 => ?_
  ·refine last (s := 0) ?_ M6
   unfold wordQ
   rw [if_neg n103, if_neg (z2.1 e2)]
  ·have y114 : at? u 0 = some 114 := Classical.byContradiction fun hh => by
    have := z2.2 hh
    omega
   refine bad ?_ t
   unfold wordQ
   rw [if_neg n103, if_pos y114, if_neg (by
    have : wRe.length = 3 := rfl
    omega)]
  ·have y114 : at? u 0 = some 114 := Classical.byContradiction fun hh => by
    have := z2.2 hh
    omega
   refine last (s := 3) ?_ M7
   unfold wordQ
   rw [if_neg n103, if_pos y114, if_pos (show lcpN wRe u = 3 from e3)]
 ·have y103 : at? u 0 = some 103 := Classical.byContradiction fun hh => by
   have := z1.2 hh
   omega
  refine bad ?_ t
  unfold wordQ
  rw [if_pos y103, if_neg (by
   have : wGlob.length = 5 := rfl
   omega)]
 ·have y103 : at? u 0 = some 103 := Classical.byContradiction fun hh => by
   have := z1.2 hh
   omega
  show Wp (ref09_Parse_L0 (world (f + 3) (d + 302)) (f + 3) u h h2 h4 k14 (f + 2) 3 H') _
  rw [ref09_Parse_L0_s]
  have hz := z2.2 (by rw [y103]; decide)
  refine kind_round (d := d + 301) (w := wRe) (k0 := 2) (by decide) (by omega) (by decide) w3 M7 (fun e2 => ?_) (fun e2 e3 H' t => by omega) fun e2 e3 H' M7 => by omega
  refine last (s := 5) ?_ M7
  unfold wordQ
  rw [if_pos y103, if_pos (show lcpN wGlob u = 5 from e1)]
theorem longR_w (n d : Nat) (x : Int) (h : AHeap) : world n (d + 1) 14 [.int .i64 x] h = some (.ret (.bool (decide (x > 65536))), h) := by
 rw [w_law09_long]
 unfold law09_long
 rw [lett_eq, gcR_self]
end
theorem flatPat : flatB Try.prog TPat [1, 2] = true := by kernel_rfl
theorem eqPat (a b : Int) (x y : Bytes) : eqOther Try.prog TPat (.agg [.int .i64 a, strA x]) (.agg [.int .i64 b, strA y]) = some ((a == b) && ((x == y) && true)) := eq_flat flatPat (eqL_cons rfl (eqCell_int _ _ _) (eqL_cons rfl (eqCell_str _ _) rfl))
theorem eqPatS (a : Int) (x : Bytes) : eqOther Try.prog TPat (.agg [.int .i64 a, strA x]) (.agg [.int .i64 a, strA x]) = some true := by rw [eqPat]; simp
set_option maxRecDepth 100000 in
theorem patternParses_says (h : AHeap) (hX : h.ex = [57]) (xs : List AV) (hP : ArgsP Try.prog h.next h 12 [9] xs) : ∃ h', Says Try.prog 7 xs h (.ret (.bool true)) h' := by
 obtain ⟨_, _, rfl, hp0, hP⟩ := args_cons hP
 obtain rfl := args0 hP
 obtain ⟨u, rfl, hs⟩ := hp0.str Try.underlying9
 obtain ⟨n, hn⟩ : ∃ n, 1000000 < n := ⟨1000001, Nat.lt_succ_self _⟩
 obtain ⟨d, hd⟩ : ∃ d, 100 ≤ d := ⟨100, Nat.le_refl _⟩
 suffices hK : Wp (law09_PatternParses (world n (d + 303)) n u h) fun r _ => r = .ret (.bool true) by
  obtain ⟨_, h', e, rfl⟩ := hK
  exact ⟨h', law09_PatternParses_ok (world_ok n (d + 303)) e⟩
 unfold law09_PatternParses
 have lu := lenS_nat u
 have hwk := worksK_w n (d + 302)
 have hlg := longR_w n (d + 302) (lenS u)
 by_cases hl : lenS u > 65536
 ·rw [decide_eq_true hl] at hlg
  repeat (with_reducible first | refine Wp.l ?_ | (apply Wp.o; exact avBool_bool _) | (refine Wp.ift ?_ ?_; rfl) | (refine Wp.iff ?_ ?_; exact Bool.not_true) | (apply Wp.callN; first | exact hwk _ | exact hlg _))
  exact Wp.ret rfl
 ·rw [decide_eq_false hl] at hlg
  obtain ⟨k, l, e, q, kp, hp⟩ := pParse_w (u := u) (by omega)
  have hpp := fun (H : AHeap) (hx : H.ex = [57]) => hp (n := n) (D := d + 302) (h := H) (by omega) (by omega) (by rw [hx]; rfl) (by rw [hx]; rfl) (by rw [hx]; rfl)
  have hrr := fun (H : AHeap) (hx : H.ex = [57]) => rParse_w (n := n) (d := d) (h := H) (u := u) (by omega) (by omega) (by rw [hx]; rfl) (by rw [hx]; rfl) (by rw [hx]; rfl) kp
  have Mx := Mem.nil [] h
  repeat (first | (with_reducible apply Wp.o; exact avBool_bool _) | ((with_reducible apply Wp.lr0 Mx); rfl) | ((with_reducible apply Wp.sa0 Mx); rfl; rfl; (rfl); clear Mx; intro _ Mx) | ((with_reducible apply Wp.lr1 Mx); rfl) | ((with_reducible apply Wp.sa1 Mx); rfl; rfl; (rfl); clear Mx; intro _ Mx) | ((with_reducible apply Wp.lr2 Mx); rfl) | ((with_reducible apply Wp.lr3 Mx); rfl) | ((with_reducible apply Wp.mnew Mx); clear Mx; intro _ Mx) | (with_reducible first | refine Wp.join1 (fun _ _ => ?_) | refine Wp.l ?_ | (apply Wp.o; first | exact eqPatS _ _ | exact eqSpotS _ _ | exact avAgg_agg _ | exact extT_0 _ _ | exact extT_1 _ _ _) | (refine Wp.ift ?_ ?_; rfl) | (refine Wp.iff ?_ ?_; first | rfl | exact Bool.not_true) | (apply Wp.callN; first | exact hwk _ | exact hlg _ | exact hpp _ (by rw [Mx.ex]; exact hX) | exact hrr _ (by rw [Mx.ex]; exact hX)) | refine Wp.go1 (by assumption) ?_) | rw [newP_eq])
  exact Wp.ret rfl
end Go.Proofs.Yteibdplpbcobbaa
