/- NetTells: the iterator, and a round of each loop. -/
import Derived.Test.YthdkfofkghpmcaaFf
import Derived.Test.YthdkfofkghpmcaaWL
namespace Go.Proofs.Ythdkfofkghpmcaa
open Go.RowKit Abs
abbrev TI : Nat := 3
abbrev TBo : Nat := 4
section
variable {n D d b kb lb Dm nb : Nat} {H H0 : AHeap} {lv : AV} {ls : List Lt} {s : NS} {lo : Nat → Prop} {i : Nat} {t0 : T AV} {z1 z2 : Int}
theorem rec_ne {e : Nat} {l : List AV} {o : AKeep} (k : RowH H kb e l) (hb : H.get b = some (.obj o)) : kb ≠ b := by
  intro e
  subst e
  obtain ⟨t, h1, _⟩ := k
  rw [h1] at hb
  cases hb
/-- a round of the first loop: what is told is what stands there -/
theorem round0 (hrec : H.get b = some (recQ .ready .none (law05_NetTells_R0 n).N (law05_NetTells_R0 n).c t0 Dm)) (hbn : b < H.next) (hi : i < ls.length) (hl : ls.length < 1000000)
    (kk : RowH H kb TI [.int .i64 (i : Int)]) (hkb : kb < H.next) (kl : RowH H lb TLets [lv]) (hlb : lb < H.next) (L : LAt H lv ls) (hLb : ∀ c ∈ blkV lv, c ≠ b) {rv : AV}
    (hg : ((putPs (law05_NetTells_R0 n).N (Code.rgp (law05_NetTells_R0 n).c).toList [.int .i64 ls[i].id, .agg (letC ls[i])] t0).bind fun t => slotsC t (law05_NetTells_R0 n).sa) = some [rv, .ptr lb 0, .ptr kb 0, .int .i64 ls[i].id, .agg (letC ls[i])]) :
    ∃ H', wL n D (d + 1) true b [.int .i64 ls[i].id, .agg (letC ls[i])] H = some (.ret (.bool true), H') ∧ RowH H' kb TI [.int .i64 ((i + 1 : Nat) : Int)] ∧ H'.get b = some (recQ .ready .none (law05_NetTells_R0 n).N (law05_NetTells_R0 n).c t0 Dm) ∧ Tch [kb, b] H H' := by
  have nkb := rec_ne kk hrec
  have nlb := rec_ne kl hrec
  have key := round_W (both := wL n D d) (sites := wLS n) (G := fun z H' => z = 0 ∧ RowH H' kb TI [.int .i64 ((i + 1 : Nat) : Int)] ∧ H'.get b = some (recQ (stZ (jumpZ z)) (jumpZ z) (law05_NetTells_R0 n).N (law05_NetTells_R0 n).c t0 Dm) ∧ Tch [kb, b] H H') hrec (fun st jj => wLS_law05_NetTells_R0 n st jj t0 Dm) hg ?_
  · obtain ⟨z, H', e, rfl, k1, k2, k3⟩ := key
    rw [wL_r]
    exact ⟨H', e, k1, k2, k3⟩
  · show Wp (law05_NetTells_R0A_fn (wL n D d) n [rv, .ptr lb 0, .ptr kb 0, .int .i64 ls[i].id, .agg (letC ls[i])] H) _
    rw [law05_NetTells_R0A_fn_eq]
    unfold law05_NetTells_R0A
    refine Wp.mnew (Mem.nil [] H) fun h1 M1 => ?_
    rw [newP_eq]
    refine Wp.sa0 M1 rfl rfl rfl fun h2 M2 => Wp.ret ⟨_, rfl, ?_, by kernel_rfl, ?_⟩
    · exact M2.tch.2.2 b hbn (fun h => nomatch h)
    · have t2 := M2.tch
      have kx := M2.at0.1
      have ltx := M2.at0.2.1
      have g2 : h2.get b = some (recQ .ready .none (law05_NetTells_R0 n).N (law05_NetTells_R0 n).c t0 Dm) := by rw [t2.2.2 b hbn (fun h => nomatch h)]; exact hrec
      have tp : Tch [b] h2 (h2.put b (recQ .busy .none (law05_NetTells_R0 n).N (law05_NetTells_R0 n).c t0 Dm)) := Tch.put (.inl (List.mem_singleton.2 rfl)) _
      have n2 := t2.1
      have nb1 : ∀ c, c ≠ b → c ∉ [b] := fun c h1 h2 => h1 (List.mem_singleton.1 h2)
      have kk3 := (kk.tch t2 hkb (fun h => nomatch h)).tch tp (by omega) (nb1 _ nkb)
      have kl3 := (kl.tch t2 hlb (fun h => nomatch h)).tch tp (by omega) (nb1 _ nlb)
      have kx3 := kx.tch tp ltx (nb1 _ (by omega))
      have L3 := (L.tch t2 (fun _ _ h => nomatch h)).tch tp (fun c hc => nb1 _ (hLb c hc))
      have gb3 := get_put_same (H := h2) b (recQ .busy .none (law05_NetTells_R0 n).N (law05_NetTells_R0 n).c t0 Dm)
      show Wp (law05_NetTells_R0B_fn (wL n D d) n [rv, .ptr lb 0, .ptr kb 0, .int .i64 ls[i].id, .ptr H.next 0] _) _
      rw [law05_NetTells_R0B_fn_eq]
      unfold law05_NetTells_R0B
      obtain ⟨p, i1, r1⟩ := L3.row hi
      refine Wp.lettG fun k200 e200 => Wp.obind (RowH.cell' kk3 rfl) (Wp.obind (avInt_int _ _) (Wp.obind (RowH.cell' kl3 rfl) (Wp.obind L3.len (Wp.lett (Wp.iff (by rw [decide_eq_false_iff_not]; omega) ?_)))))
      refine Wp.obind (fldP_ptr _ _ _) (Wp.obind (RowH.cell' kx3 rfl) (Wp.obind (avInt_int _ _) (Wp.lett (Wp.iff (bne_f rfl) ?_))))
      refine Wp.obind (RowH.ldAll kx3 rfl) (Wp.obind (RowH.cell' kl3 rfl) (Wp.obind (RowH.cell' kk3 rfl) (Wp.obind (avInt_int _ _) (Wp.obind i1 (Wp.obind r1 (Wp.obind (eqLet _ _) (Wp.lett ?_)))))))
      rw [decide_eq_true rfl, e200]
      refine Wp.iff rfl (Wp.obind (RowH.cell' kk3 rfl) (Wp.obind (avInt_int _ _) (Wp.lettw (by omega) (by omega) (Wp.st1 kk3 (Nat.zero_lt_one) rfl fun h4 k4 t4 n4 => Wp.ret ⟨0, rfl, ?_, rfl, ?_, get_put_same _ _, ?_⟩))))
      · rw [t4.2.2 b (by rw [show (h2.put b _).next = h2.next from rfl]; omega) (fun h => nkb (List.mem_singleton.1 h).symm)]
        exact gb3
      · have := k4.tch (Tch.put (S := [b]) (.inl (List.mem_singleton.2 rfl)) (recQ (stZ (jumpZ 0)) (jumpZ 0) (law05_NetTells_R0 n).N (law05_NetTells_R0 n).c t0 Dm)) (by rw [n4]; show kb < h2.next; omega) (nb1 _ nkb)
        rw [show (i : Int) + 1 = ((i + 1 : Nat) : Int) by omega] at this
        exact this
      · exact (((t2.mono (S' := [kb, b]) fun _ h => nomatch h).trans' tp fun c hc => .inl (List.mem_cons_of_mem _ hc)).trans' t4 fun c hc => .inl (by rw [List.mem_singleton.1 hc]; exact List.mem_cons_self ..)).trans' (Tch.put (S := [b]) (.inl (List.mem_singleton.2 rfl)) _) fun c hc => .inl (List.mem_cons_of_mem _ hc)
/-- a round of the second loop: it counts, and stops -/
theorem round1 (hrec : H.get b = some (recQ .ready .none (law05_NetTells_R1 n).N (law05_NetTells_R1 n).c t0 Dm)) (hbn : b < H.next) (hi : i < 1000000)
    (kk : RowH H kb TI [.int .i64 (i : Int)]) (hkb : kb < H.next) (kl : RowH H lb TI [.int .i64 z1]) (hlb : lb < H.next) (hne : lb ≠ kb) {args : List AV}
    (hg : ((putPs (law05_NetTells_R1 n).N (Code.rgp (law05_NetTells_R1 n).c).toList args t0).bind fun t => slotsC t (law05_NetTells_R1 n).sa) = some [.ptr lb 0, .ptr kb 0]) :
    ∃ H', wL n D (d + 1) true b args H = some (.ret (.bool (decide ((i : Int) + 1 < z1))), H') ∧ RowH H' kb TI [.int .i64 ((i + 1 : Nat) : Int)] ∧ H'.get b = some (recQ (if (i : Int) + 1 < z1 then .ready else .done) (if (i : Int) + 1 < z1 then .none else .exit 4) (law05_NetTells_R1 n).N (law05_NetTells_R1 n).c t0 Dm) ∧ Tch [kb, b] H H' := by
  have nkb := rec_ne kk hrec
  have nlb := rec_ne kl hrec
  have key := round_W (both := wL n D d) (sites := wLS n) (G := fun z H' => z = (if (i : Int) + 1 < z1 then 0 else 6) ∧ RowH H' kb TI [.int .i64 ((i + 1 : Nat) : Int)] ∧ H'.get b = some (recQ (stZ (jumpZ z)) (jumpZ z) (law05_NetTells_R1 n).N (law05_NetTells_R1 n).c t0 Dm) ∧ Tch [kb, b] H H') hrec (fun st jj => wLS_law05_NetTells_R1 n st jj t0 Dm) hg ?_
  · obtain ⟨z, H', e, ez, k1, k2, k3⟩ := key
    rw [wL_r]
    refine ⟨H', ?_, k1, ?_, k3⟩
    · rw [e, ez]
      by_cases hc : (i : Int) + 1 < z1
      · rw [if_pos hc, decide_eq_true hc]
        rfl
      · rw [if_neg hc, decide_eq_false hc]
        rfl
    · rw [k2, ez]
      by_cases hc : (i : Int) + 1 < z1
      · rw [if_pos hc, if_pos hc, if_pos hc]
        rfl
      · rw [if_neg hc, if_neg hc, if_neg hc]
        rfl
  · show Wp (law05_NetTells_R1A_fn (wL n D d) n [.ptr lb 0, .ptr kb 0] H) _
    rw [law05_NetTells_R1A_fn_eq]
    unfold law05_NetTells_R1A
    refine Wp.ret ⟨_, rfl, rfl, by kernel_rfl, ?_⟩
    have tp : Tch [b] H (H.put b (recQ .busy .none (law05_NetTells_R1 n).N (law05_NetTells_R1 n).c t0 Dm)) := Tch.put (.inl (List.mem_singleton.2 rfl)) _
    have nb1 : ∀ c, c ≠ b → c ∉ [b] := fun c h1 h2 => h1 (List.mem_singleton.1 h2)
    have kk3 := kk.tch tp hkb (nb1 _ nkb)
    have kl3 := kl.tch tp hlb (nb1 _ nlb)
    have gb3 := get_put_same (H := H) b (recQ .busy .none (law05_NetTells_R1 n).N (law05_NetTells_R1 n).c t0 Dm)
    show Wp (law05_NetTells_R1B_fn (wL n D d) n [.ptr lb 0, .ptr kb 0] _) _
    rw [law05_NetTells_R1B_fn_eq]
    unfold law05_NetTells_R1B
    refine Wp.obind (RowH.cell' kk3 rfl) (Wp.obind (avInt_int _ _) (Wp.lettw (by omega) (by omega) (Wp.st1 kk3 Nat.zero_lt_one rfl fun h4 k4 t4 n4 => ?_)))
    have kl4 := kl3.tch t4 hlb (fun h => hne (List.mem_singleton.1 h))
    have hb4 : h4.get b = some (recQ .busy .none (law05_NetTells_R1 n).N (law05_NetTells_R1 n).c t0 Dm) := by
      rw [t4.2.2 b hbn (fun h => nkb (List.mem_singleton.1 h).symm)]
      exact gb3
    have T4 : ∀ o, Tch [kb, b] H (h4.put b o) := fun o => (((tp.mono (S' := [kb, b]) fun c hc => .inl (List.mem_cons_of_mem _ hc)).trans' t4 fun c hc => .inl (by rw [List.mem_singleton.1 hc]; exact List.mem_cons_self ..)).trans' (Tch.put (S := [b]) (.inl (List.mem_singleton.2 rfl)) o) fun c hc => .inl (List.mem_cons_of_mem _ hc))
    have K4 : ∀ o, RowH (h4.put b o) kb TI [.int .i64 ((i + 1 : Nat) : Int)] := fun o => by
      have := k4.tch (Tch.put (S := [b]) (.inl (List.mem_singleton.2 rfl)) o) (by rw [n4]; exact hkb) (nb1 _ nkb)
      rw [show (i : Int) + 1 = ((i + 1 : Nat) : Int) by omega] at this
      exact this
    refine Wp.obind (RowH.cell' k4 rfl) (Wp.obind (avInt_int _ _) (Wp.obind (RowH.cell' kl4 rfl) (Wp.obind (avInt_int _ _) (Wp.lett ?_))))
    by_cases hc : (i : Int) + 1 < z1
    · refine Wp.iff (by rw [decide_eq_false_iff_not]; omega) (Wp.ret ⟨0, rfl, hb4, by rw [if_pos hc], K4 _, get_put_same _ _, T4 _⟩)
    · refine Wp.ift (by rw [decide_eq_true_eq]; omega) (Wp.ret ⟨6, rfl, hb4, by rw [if_neg hc], K4 _, get_put_same _ _, T4 _⟩)
end
end Go.Proofs.Ythdkfofkghpmcaa
