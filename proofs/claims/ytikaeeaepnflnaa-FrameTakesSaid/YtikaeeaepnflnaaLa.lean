/- FrameTakes: lists of texts held against each other; a round of each loop. -/
import Derived.Test.YtikaeeaepnflnaaKz
namespace Go.Proofs.Ytikaeeaepnflnaa
open Go.RowKit Abs
section
variable {n d D y lo : Nat} {h H : AHeap} {s p : Bytes} {Q : ARes → AHeap → Prop} {v w : AV} {l : List Bytes} {i : Nat}
theorem strR_flat (l : List Bytes) : (strR l).flatten = l.map strA := by
  induction l with
  | nil => rfl
  | cons a l ih => rw [List.map_cons, ← ih]; rfl
def StrAt (H : AHeap) (v : AV) (l : List Bytes) : Prop := (v = .nsl ∧ l = []) ∨ ∃ c, v = .sl c 0 l.length 1 ∧ RowH H c TStr (l.map strA) ∧ c < H.next
theorem Sli.strs (k : Sli TStr 1 lo H v (strR l)) : StrAt H v l := by
  rcases k.2 with ⟨h1, h2⟩ | ⟨c, _, rfl, _, h4, h5⟩
  · cases l with
    | nil => exact .inl ⟨h2, rfl⟩
    | cons a l => cases h1
  · rw [strR_flat] at h5
    exact .inr ⟨c, by rw [List.length_map], h5, h4⟩
theorem StrAt.tch {S : List Nat} {H' : AHeap} (k : StrAt H v l) (t : Tch S H H') (hS : ∀ c r, RowH H c TStr r → c ∉ S) : StrAt H' v l := by
  rcases k with k | ⟨c, h1, h2, h3⟩
  · exact .inl k
  · exact .inr ⟨c, h1, h2.tch t h3 (hS c _ h2), Nat.lt_of_lt_of_le h3 t.1⟩
theorem str_at (k : StrAt H v l) (hi : i < l.length) : ∃ p, idxP 1 v (i : Int) = some p ∧ ldCell H p = some (strA l[i]) := by
  rcases k with ⟨_, rfl⟩ | ⟨c, rfl, h5, _⟩
  · cases hi
  · refine ⟨.ptr c (0 + i * 1), idxP_sl hi, RowH.cell' h5 ?_⟩
    rw [Nat.zero_add, Nat.mul_one, List.getElem?_map, List.getElem?_eq_getElem hi]
    rfl
theorem str_len (k : StrAt H v l) : lenL v = some (l.length : Int) := by
  rcases k with ⟨rfl, rfl⟩ | ⟨c, rfl, _⟩ <;> rfl
theorem equal_loop (k : StrAt H v l) (k' : StrAt H w l) (hl : l.length < 1000000000) {k12 : AHeap → R} (hk : Wp (k12 H) Q) : ∀ (r i fu : Nat), r + i = l.length → r < fu → Wp (slices_Equal___string_string__L0 v w (l.length : Int) k12 fu (i : Int) H) Q
  | _, _, 0, _, hf => by omega
  | 0, i, fu + 1, hi, _ => by
    rw [slices_Equal___string_string__L0_s]
    unfold slices_Equal___string_string__L0b
    exact Wp.lett (Wp.iff (by rw [decide_eq_false_iff_not]; omega) hk)
  | r + 1, i, fu + 1, hi, hf => by
    obtain ⟨p, i1, r1⟩ := str_at k (show i < l.length by omega)
    obtain ⟨p2, i2, r2⟩ := str_at k' (show i < l.length by omega)
    rw [slices_Equal___string_string__L0_s]
    unfold slices_Equal___string_string__L0b
    refine Wp.lett (Wp.ift (by rw [decide_eq_true_eq]; omega) (Wp.obind i1 (Wp.obind r1 (Wp.obind (avStr_str _) (Wp.obind i2 (Wp.obind r2 (Wp.obind (avStr_str _) (Wp.lett ?_))))))))
    rw [eqS_true.2 rfl]
    refine Wp.iff rfl (Wp.lettw (by omega) (by omega) ?_)
    rw [show (i : Int) + 1 = ((i + 1 : Nat) : Int) by omega]
    exact equal_loop k k' hl hk r (i + 1) fu (by omega) (by omega)
theorem equal_w (k : StrAt H v l) (k' : StrAt H w l) (hl : l.length < 1000000000) (hn : l.length < n) : world n (d + 1) 12 [v, w] H = some (.ret (.bool true), H) := by
  apply Wp.eq
  rw [w_slices_Equal___string_string_]
  unfold slices_Equal___string_string_
  refine Wp.obind (str_len k) (Wp.obind (str_len k') (Wp.lett (Wp.iff (bne_f rfl) (Wp.obind (str_len k) (Wp.lettG fun k12 e12 => ?_)))))
  refine equal_loop k k' hl ?_ l.length 0 n (Nat.add_zero _) hn
  rw [e12]
  exact Wp.ret ⟨rfl, rfl⟩
theorem neqSeq (b : Nat) (h : AHeap) : opBin Try.prog h .neq 38 true (some (.fn 25 [] [.ptr b 0])) (some AV.nfn) = some (.val (.bool true), h) := by kernel_rfl
theorem works_w (hn : 1000000000 < n) (hx : memB 5 h.ex = false) : world n (d + 6) 8 [] h = some (.ret (.bool true), h) := by
  have hf : (frameB [97, 98]).length = 14 := frameB_length _
  have ll := lenS_nat (frameB [97, 98])
  have hp := put_w (n := n) (d := d + 1) (h := h) (p := [97, 98]) (by omega) hx
  rw [if_neg (by decide)] at hp
  have ht : world n (d + 5) 10 [strA (frameB [97, 98] ++ [120])] h = some (.ret (.tup [strA [97, 98], .int .i64 14, .int .i64 0]), h) := by
    have ht := take_w (n := n) (d := d) (h := h) (s := frameB [97, 98] ++ [120]) (by rw [List.length_append]; simp; omega) (by omega)
    rw [frame_take (by decide)] at ht
    exact ht
  obtain ⟨h2, e2, k2, l2, t2⟩ := fall_w (n := n) (d := d + 4) (frameB [97, 98]) h
  apply Wp.eq
  rw [w_law03_works]
  refine Wp.gc ?_
  unfold law03_works
  refine Wp.callN hp (Wp.obind (extT_0 _ _) (Wp.obind (avStr_str _) (Wp.obind (extT_1 _ _ _) (Wp.obind (avInt_int _ _) (Wp.obind (addS_val (by rw [hf]; decide)) (Wp.callN ht (Wp.obind (extT_0 _ _) (Wp.obind (avStr_str _) (Wp.obind (extT_1 _ _ _) (Wp.obind (avInt_int _ _) (Wp.obind (extT_2 _ _ _ _) (Wp.obind (avInt_int _ _) (Wp.callN e2 (Wp.lett (Wp.lettG fun j26 e26 => Wp.ift rfl (Wp.lett ?_))))))))))))))))
  rw [beq_t (by omega), e26]
  refine Wp.lettG fun j30 e30 => Wp.ift rfl (Wp.lett ?_)
  rw [eqS_true.2 rfl, e30]
  refine Wp.lettG fun j34 e34 => Wp.ift rfl (Wp.lett ?_)
  rw [beq_t rfl, e34]
  refine Wp.lettG fun j38 e38 => Wp.ift rfl (Wp.lett ?_)
  rw [beq_t rfl, e38]
  refine Wp.lettG fun j42 e42 => Wp.ift rfl (Wp.outK (neqSeq _ _) (Wp.obind (avBool_bool _) ?_))
  rw [e42]
  exact Wp.ret ⟨t2.above, rfl, rfl, rfl⟩
/-- a round of the first loop: it counts, and stops -/
theorem tround1 {kb zb : Nat} {z1 : Int} {t0 : T AV} {Dm : Nat} {args : List AV} (hrec : H.get y = some (recQ .ready .none (law03_FrameTakes_R1 n).N (law03_FrameTakes_R1 n).c t0 Dm)) (hy : y < H.next)
    (kk : RowH H kb TIn [.int .i64 (i : Int)]) (hkb : kb < H.next) (kz : RowH H zb TIn [.int .i64 z1]) (hi : i < 1000000)
    (hg : ((putPs (law03_FrameTakes_R1 n).N (Code.rgp (law03_FrameTakes_R1 n).c).toList args t0).bind fun t => slotsC t (law03_FrameTakes_R1 n).sa) = some [.ptr zb 0, .ptr kb 0]) :
    ∃ g H' j, wL n D (d + 1) true y args H = some (.ret (.bool g), H') ∧ (∃ i', i' ≤ i + 1 ∧ RowH H' kb TIn [.int .i64 ((i' : Nat) : Int)]) ∧ H'.get y = some (recQ (stZ j) j (law03_FrameTakes_R1 n).N (law03_FrameTakes_R1 n).c t0 Dm) ∧ Tch [kb, y] H H' ∧ (g = true → j = .none) ∧ (g = false → j = .exit 0) := by
  have nkb := recS_ne kk hrec
  have nzb := recS_ne kz hrec
  have key := round_W (both := wL n D d) (sites := wLS n) (G := fun z H' => (z = 0 ∨ z = 2) ∧ (∃ i', i' ≤ i + 1 ∧ RowH H' kb TIn [.int .i64 ((i' : Nat) : Int)]) ∧ H'.get y = some (recQ (stZ (jumpZ z)) (jumpZ z) (law03_FrameTakes_R1 n).N (law03_FrameTakes_R1 n).c t0 Dm) ∧ Tch [kb, y] H H') hrec (fun st jj => wLS_law03_FrameTakes_R1 n st jj t0 Dm) hg ?_
  · obtain ⟨z, H', e, hz, k1, k2, k3⟩ := key
    rw [wL_r]
    refine ⟨(jumpZ z).isNone, H', jumpZ z, e, k1, k2, k3, fun h => ?_, fun h => ?_⟩
    · rcases hz with rfl | rfl
      · rfl
      · cases h
    · rcases hz with rfl | rfl
      · cases h
      · rfl
  · show Wp (law03_FrameTakes_R1A_fn (wL n D d) n [.ptr zb 0, .ptr kb 0] H) _
    rw [law03_FrameTakes_R1A_fn_eq]
    unfold law03_FrameTakes_R1A
    refine Wp.ret ⟨_, rfl, rfl, by kernel_rfl, ?_⟩
    have tp : ∀ (G : AHeap) (o : AObj), Tch [y] G (G.put y o) := fun G o => Tch.put (.inl (List.mem_singleton.2 rfl)) _
    have m1 : ∀ {a b : Nat}, a ≠ b → a ∉ [b] := fun h h2 => h (List.mem_singleton.1 h2)
    have t1 := tp H (recQ .busy .none (law03_FrameTakes_R1 n).N (law03_FrameTakes_R1 n).c t0 Dm)
    have g1 := get_put_same (H := H) y (recQ .busy .none (law03_FrameTakes_R1 n).N (law03_FrameTakes_R1 n).c t0 Dm)
    have ms : ∀ b ∈ [y], b ∈ [kb, y] ∨ H.next ≤ b := fun b hb => .inl (List.mem_cons_of_mem _ hb)
    have mk : ∀ b ∈ [kb], b ∈ [kb, y] ∨ H.next ≤ b := fun b hb => .inl (by rw [List.mem_singleton.1 hb]; exact List.mem_cons_self ..)
    have kk1 := kk.tch t1 hkb (m1 nkb)
    have kz1 : RowH (H.put y (recQ .busy .none (law03_FrameTakes_R1 n).N (law03_FrameTakes_R1 n).c t0 Dm)) zb TIn [.int .i64 z1] := kz.same (get_put_other _ (fun h => nzb h.symm))
    show Wp (law03_FrameTakes_R1B_fn (wL n D d) n [.ptr zb 0, .ptr kb 0] _) _
    rw [law03_FrameTakes_R1B_fn_eq]
    unfold law03_FrameTakes_R1B
    refine Wp.obind (RowH.cell' kk1 rfl) (Wp.obind (avInt_int _ _) (Wp.obind (RowH.cell' kz1 rfl) (Wp.obind (avInt_int _ _) (Wp.lett ?_))))
    by_cases hc : (i : Int) = z1
    · refine Wp.ift (beq_t hc) (Wp.ret ⟨2, rfl, g1, .inr rfl, ⟨i, by omega, kk1.tch (tp _ _) hkb (m1 nkb)⟩, get_put_same _ _, ?_⟩)
      exact (t1.mono ms).trans' (tp _ _) ms
    · refine Wp.iff (beq_f hc) (Wp.obind (RowH.cell' kk1 rfl) (Wp.obind (avInt_int _ _) (Wp.lettw (by omega) (by omega) (Wp.st1 kk1 Nat.zero_lt_one rfl fun h4 k4 t4 n4 => Wp.ret ⟨0, rfl, ?_, .inl rfl, ⟨i + 1, Nat.le_refl _, ?_⟩, get_put_same _ _, ?_⟩))))
      · rw [t4.2.2 y hy (m1 (fun h => nkb h.symm))]
        exact g1
      · have := k4.tch (tp _ (recQ (stZ (jumpZ 0)) (jumpZ 0) (law03_FrameTakes_R1 n).N (law03_FrameTakes_R1 n).c t0 Dm)) (by rw [n4]; exact hkb) (m1 nkb)
        rw [show (i : Int) + 1 = ((i + 1 : Nat) : Int) by omega] at this
        exact this
      · exact ((t1.mono ms).trans' t4 mk).trans' (tp _ _) ms
/-- a round of the second loop: what is told is the next of the list -/
theorem tround0 {kb ab wb at_ : Nat} {rv : AV} {t0 : T AV} {Dm : Nat} (hrec : H.get y = some (recQ .ready .none (law03_FrameTakes_R0 n).N (law03_FrameTakes_R0 n).c t0 Dm)) (hy : y < H.next)
    (kk : RowH H kb TIn [.int .i64 (i : Int)]) (hkb : kb < H.next) (ka : RowH H ab TIn [.int .i64 (at_ : Int)]) (hab : ab < H.next) (hne : kb ≠ ab) (kw : RowH H wb TStrs [w]) (hi : i < l.length) (hl : l.length < 1000000) (k : StrAt H w l) (hat : at_ + l[i].length < 1000000000)
    (hg : ((putPs (law03_FrameTakes_R0 n).N (Code.rgp (law03_FrameTakes_R0 n).c).toList [.int .i64 (at_ : Int), strA l[i]] t0).bind fun t => slotsC t (law03_FrameTakes_R0 n).sa) = some [rv, .ptr wb 0, .ptr ab 0, .ptr kb 0, .int .i64 (at_ : Int), strA l[i]]) :
    ∃ H', wL n D (d + 1) true y [.int .i64 (at_ : Int), strA l[i]] H = some (.ret (.bool true), H') ∧ RowH H' kb TIn [.int .i64 ((i + 1 : Nat) : Int)] ∧ RowH H' ab TIn [.int .i64 ((at_ + (l[i].length + 12) : Nat) : Int)] ∧ H'.get y = some (recQ .ready .none (law03_FrameTakes_R0 n).N (law03_FrameTakes_R0 n).c t0 Dm) ∧ Tch [kb, ab, y] H H' := by
  have nkb := recS_ne kk hrec
  have nab := recS_ne ka hrec
  have nwb := recS_ne kw hrec
  have key := round_W (both := wL n D d) (sites := wLS n) (G := fun z H' => z = 0 ∧ RowH H' kb TIn [.int .i64 ((i + 1 : Nat) : Int)] ∧ RowH H' ab TIn [.int .i64 ((at_ + (l[i].length + 12) : Nat) : Int)] ∧ H'.get y = some (recQ (stZ (jumpZ z)) (jumpZ z) (law03_FrameTakes_R0 n).N (law03_FrameTakes_R0 n).c t0 Dm) ∧ Tch [kb, ab, y] H H') hrec (fun st jj => wLS_law03_FrameTakes_R0 n st jj t0 Dm) hg ?_
  · obtain ⟨z, H', e, rfl, k1⟩ := key
    rw [wL_r]
    exact ⟨H', e, k1⟩
  · show Wp (law03_FrameTakes_R0A_fn (wL n D d) n [rv, .ptr wb 0, .ptr ab 0, .ptr kb 0, .int .i64 (at_ : Int), strA l[i]] H) _
    rw [law03_FrameTakes_R0A_fn_eq]
    unfold law03_FrameTakes_R0A
    refine Wp.ret ⟨_, rfl, rfl, by kernel_rfl, ?_⟩
    have tp : ∀ (G : AHeap) (o : AObj), Tch [y] G (G.put y o) := fun G o => Tch.put (.inl (List.mem_singleton.2 rfl)) _
    have m1 : ∀ {a b : Nat}, a ≠ b → a ∉ [b] := fun h h2 => h (List.mem_singleton.1 h2)
    obtain ⟨H1, hH1⟩ : ∃ H1, H1 = H.put y (recQ .busy .none (law03_FrameTakes_R0 n).N (law03_FrameTakes_R0 n).c t0 Dm) := ⟨_, rfl⟩
    have t1 : Tch [y] H H1 := by rw [hH1]; exact tp H _
    have g1 : H1.get y = some (recQ .busy .none (law03_FrameTakes_R0 n).N (law03_FrameTakes_R0 n).c t0 Dm) := by rw [hH1]; exact get_put_same _ _
    have n1 : H1.next = H.next := by rw [hH1]; rfl
    have o1 : ∀ b, b ≠ y → H1.get b = H.get b := fun b hb => by rw [hH1]; exact get_put_other _ (fun h => hb h.symm)
    have ms : ∀ b ∈ [y], b ∈ [kb, ab, y] ∨ H.next ≤ b := fun b hb => .inl (List.mem_cons_of_mem _ (List.mem_cons_of_mem _ hb))
    have mk : ∀ b ∈ [kb], b ∈ [kb, ab, y] ∨ H.next ≤ b := fun b hb => .inl (by rw [List.mem_singleton.1 hb]; exact List.mem_cons_self ..)
    have ma : ∀ b ∈ [ab], b ∈ [kb, ab, y] ∨ H.next ≤ b := fun b hb => .inl (by rw [List.mem_singleton.1 hb]; exact List.mem_cons_of_mem _ (List.mem_cons_self ..))
    have kk1 := kk.same (o1 _ nkb)
    have ka1 := ka.same (o1 _ nab)
    have kw1 := kw.same (o1 _ nwb)
    have k1 := k.tch t1 (fun c r hc => m1 (recS_ne hc hrec))
    have ll := lenS_nat l[i]
    obtain ⟨p, i1, r1⟩ := str_at k1 hi
    rw [← hH1]
    show Wp (law03_FrameTakes_R0B_fn (wL n D d) n [rv, .ptr wb 0, .ptr ab 0, .ptr kb 0, .int .i64 (at_ : Int), strA l[i]] H1) _
    rw [law03_FrameTakes_R0B_fn_eq]
    unfold law03_FrameTakes_R0B
    refine Wp.obind (RowH.cell' kk1 rfl) (Wp.obind (avInt_int _ _) (Wp.obind (RowH.cell' kw1 rfl) (Wp.obind (str_len k1) (Wp.lett (Wp.lettG fun j89 e89 => Wp.iff (by rw [decide_eq_false_iff_not]; omega) (Wp.obind (RowH.cell' ka1 rfl) (Wp.obind (avInt_int _ _) (Wp.lett ?_))))))))
    rw [bne_f rfl, e89]
    refine Wp.lettG fun j97 e97 => Wp.iff rfl (Wp.obind (RowH.cell' kw1 rfl) (Wp.obind (RowH.cell' kk1 rfl) (Wp.obind (avInt_int _ _) (Wp.obind i1 (Wp.obind r1 (Wp.obind (avStr_str _) (Wp.lett ?_)))))))
    rw [eqS_true.2 rfl, e97]
    refine Wp.iff rfl (Wp.obind (RowH.cell' kk1 rfl) (Wp.obind (avInt_int _ _) (Wp.lettw (by omega) (by omega) (Wp.obind (RowH.cell' ka1 rfl) (Wp.obind (avInt_int _ _) (Wp.lettw (by omega) (by omega) (Wp.lettw (by omega) (by omega) ?_)))))))
    refine Wp.st1 kk1 Nat.zero_lt_one rfl fun h4 k4 t4 n4 => ?_
    have ka4 := ka1.tch t4 (by omega) (m1 (fun h => hne h.symm))
    have hre : reLoad Try.prog h4 TIn (.ptr ab 0) (.int .i64 (at_ : Int)) = true := reLoad_c (by kernel_rfl) (RowH.cell' ka4 rfl)
    refine Wp.chk (by rw [hre]; rfl) (Wp.st1 ka4 Nat.zero_lt_one rfl fun h5 k5 t5 n5 => Wp.ret ⟨0, rfl, ?_, rfl, ?_, ?_, get_put_same _ _, ?_⟩)
    · rw [t5.2.2 y (by omega) (m1 (fun h => nab h.symm)), t4.2.2 y (by omega) (m1 (fun h => nkb h.symm))]
      exact g1
    · have := (k4.tch t5 (by omega) (m1 hne)).tch (tp _ (recQ (stZ (jumpZ 0)) (jumpZ 0) (law03_FrameTakes_R0 n).N (law03_FrameTakes_R0 n).c t0 Dm)) (by omega) (m1 nkb)
      rw [show (i : Int) + 1 = ((i + 1 : Nat) : Int) by omega] at this
      exact this
    · have := k5.tch (tp _ (recQ (stZ (jumpZ 0)) (jumpZ 0) (law03_FrameTakes_R0 n).N (law03_FrameTakes_R0 n).c t0 Dm)) (by omega) (m1 nab)
      rw [show (at_ : Int) + lenS l[i] + 12 = ((at_ + (l[i].length + 12) : Nat) : Int) by omega] at this
      exact this
    · exact (((t1.mono ms).trans' t4 mk).trans' t5 ma).trans' (tp _ _) ms
end
end Go.Proofs.Ytikaeeaepnflnaa
