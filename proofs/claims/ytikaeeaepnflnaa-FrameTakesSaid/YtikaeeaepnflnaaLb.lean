/- FrameTakes: the loops, and the law. -/
import Derived.Test.YtikaeeaepnflnaaLa
import Derived.Test.YtikaeeaepnflnaaLTakes
namespace Go.Proofs.Ytikaeeaepnflnaa
open Go.RowKit Abs
section
variable {n d D : Nat} {H : AHeap} {s : Bytes} {Q : ARes → AHeap → Prop} {w : AV} {z1 : Int}
/-- the first loop -/
theorem tloop1 (hs : s.length < 500000) (hn : 1000000000 < n) {bx kb zb : Nat} {t0 : T AV} {ds : DefT} (kx : RowH H bx TStr [strA s]) (hbx : bx < H.next) (kk : RowH H kb TIn [.int .i64 0]) (hkb : kb < H.next) (kz : RowH H zb TIn [.int .i64 z1]) (hzb : zb < H.next) (hne : zb ≠ kb) (hbk : bx ≠ kb)
    (hg : ∀ (i : Nat) (q : Bytes), ((putPs (law03_FrameTakes_R1 n).N (Code.rgp (law03_FrameTakes_R1 n).c).toList [.int .i64 (i : Int), strA q] t0).bind fun t => slotsC t (law03_FrameTakes_R1 n).sa) = some [.ptr zb 0, .ptr kb 0])
    {kn kr : AHeap → R} {ke : Nat → AHeap → R} (hk : ∀ H', Tch [kb] H H' → (∃ i : Nat, RowH H' kb TIn [.int .i64 (i : Int)]) → H'.get H.next = some (.obj .dfr) → H.next + 2 ≤ H'.next → Wp (kn H') Q ∧ Wp (ke 0 H') Q) :
    Wp (rngK (rngX Try.prog (wL n (D + 5) (d + 3)) (law03_FrameTakes_R1 n).N (.fn 25 [] [.ptr bx 0]) (law03_FrameTakes_R1 n).c t0 ds H) kn kr ke) Q := by
  have t1 := rngH_tch [] (law03_FrameTakes_R1 n).N (law03_FrameTakes_R1 n).c t0 H
  have n1 := rngH_next (law03_FrameTakes_R1 n).N (law03_FrameTakes_R1 n).c t0 H
  have r1 := rngH_rec (law03_FrameTakes_R1 n).N (law03_FrameTakes_R1 n).c t0 H
  have d1 := rngH_mark (law03_FrameTakes_R1 n).N (law03_FrameTakes_R1 n).c t0 H
  obtain ⟨Hs, hHs⟩ : ∃ Hs, Hs = rngH (law03_FrameTakes_R1 n).N (law03_FrameTakes_R1 n).c t0 H := ⟨_, rfl⟩
  rw [← hHs] at t1 n1 r1 d1
  have kx1 := kx.tch t1 hbx (fun h => nomatch h)
  have kk1 := kk.tch t1 hkb (fun h => nomatch h)
  have kz1 := kz.tch t1 hzb (fun h => nomatch h)
  have mem : ∀ {a : Nat}, a ≠ kb → a ≠ H.next + 1 → a ∉ [kb, H.next + 1] := fun h1 h2 h => by
    rcases List.mem_cons.1 h with h | h
    · exact h1 h
    · exact h2 (List.mem_singleton.1 h)
  obtain ⟨H', e, hq⟩ := fall_iter (n := n) (D := D) (d := d + 1) (H := Hs) (y := H.next + 1) (bx := bx) (s := s)
    (Inv := fun i H2 => Tch [kb, H.next + 1] Hs H2 ∧ (∃ j : Nat, j ≤ i ∧ RowH H2 kb TIn [.int .i64 (j : Int)]) ∧ H2.get (H.next + 1) = some (recQ .ready .none (law03_FrameTakes_R1 n).N (law03_FrameTakes_R1 n).c t0 H.next))
    (Fin := fun i H2 => Tch [kb, H.next + 1] Hs H2 ∧ (∃ j : Nat, RowH H2 kb TIn [.int .i64 (j : Int)]) ∧ H2.get (H.next + 1) = some (recQ .done (.exit 0) (law03_FrameTakes_R1 n).N (law03_FrameTakes_R1 n).c t0 H.next)) (by omega) hn
    (fun i H2 I => kx1.tch I.1 (by omega) (mem hbk (by omega)))
    (fun i H2 hi he I => by
      obtain ⟨a1, ⟨j, hj, a2⟩, a3⟩ := I
      have hl := takeR_len he
      have n2 := a1.1
      obtain ⟨g, H3, jj, e3, ⟨j', hj', b2⟩, b3, b4, b5, b6⟩ := tround1 (n := n) (D := D + 5) (d := d + 1) (y := H.next + 1) (i := j) a3 (by omega) a2 (by omega) (kz1.tch a1 (by omega) (mem hne (by omega))) (by omega) (hg i _)
      refine ⟨g, H3, ?_, fun h => ⟨a1.trans b4, ⟨j', by omega, b2⟩, ?_⟩, fun h => ⟨a1.trans b4, ⟨j', b2⟩, ?_⟩⟩
      · rw [dynB_yld a3 (by kernel_rfl)]
        exact e3
      · rw [b5 h] at b3
        exact b3
      · rw [b6 h] at b3
        exact b3)
    ⟨Tch.refl _ _, ⟨0, Nat.le_refl _, kk1⟩, r1⟩
  rw [hHs] at e
  have m1 : ∀ {a b : Nat}, a ≠ b → a ∉ [b] := fun h h2 => h (List.mem_singleton.1 h2)
  have fin : ∀ (st : LoopState) (j : AJump), Tch [kb, H.next + 1] Hs H' → (∃ i : Nat, RowH H' kb TIn [.int .i64 (i : Int)]) → Wp (kn (H'.put (H.next + 1) (recQ st j (law03_FrameTakes_R1 n).N (law03_FrameTakes_R1 n).c t0 H.next))) Q ∧ Wp (ke 0 (H'.put (H.next + 1) (recQ st j (law03_FrameTakes_R1 n).N (law03_FrameTakes_R1 n).c t0 H.next))) Q := fun st j a1 ⟨i, a2⟩ => by
    have n2 := a1.1
    have tp : Tch [H.next + 1] H' (H'.put (H.next + 1) (recQ st j (law03_FrameTakes_R1 n).N (law03_FrameTakes_R1 n).c t0 H.next)) := Tch.put (.inl (List.mem_singleton.2 rfl)) _
    refine hk _ (((t1.mono (S' := [kb]) fun _ h => nomatch h).trans' a1 fun b hb => ?_).trans' tp fun b hb => .inr (by rw [List.mem_singleton.1 hb]; omega)) ⟨i, a2.tch tp (by omega) (m1 (by omega))⟩ ?_ (by show _ ≤ H'.next; omega)
    · rcases List.mem_cons.1 hb with rfl | hb
      · exact .inl (List.mem_singleton.2 rfl)
      · exact .inr (by rw [List.mem_singleton.1 hb]; omega)
    · rw [get_put_other _ (by omega), a1.2.2 H.next (by omega) (mem (by omega) (by omega))]
      exact d1
  rcases hq with ⟨i, hi, he, a1, ⟨j, _, a2⟩, a3⟩ | ⟨i, hi, he, a1, a2, a3⟩
  · exact Wp.rng (by kernel_rfl) e a3 (by decide) (fun _ => (fin _ _ a1 ⟨j, a2⟩).1) (fun h => nomatch h) (fun _ h => nomatch h)
  · refine Wp.rng (by kernel_rfl) e a3 (by decide) (fun h => nomatch h) (fun h => nomatch h) (fun id h => ?_)
    cases h
    exact (fin _ _ a1 a2).2
/-- the second loop: it tells the list -/
theorem tloop0 (hs : s.length < 500000) (hn : 1000000000 < n) {bx kb ab wb : Nat} {rv : AV} {t0 : T AV} {ds : DefT} (kx : RowH H bx TStr [strA s]) (hbx : bx < H.next) (kk : RowH H kb TIn [.int .i64 0]) (hkb : kb < H.next) (ka : RowH H ab TIn [.int .i64 0]) (hab : ab < H.next) (hne : kb ≠ ab) (kw : RowH H wb TStrs [w]) (hwb : wb < H.next) (k : StrAt H w (scanR s).1)
    (hg : ∀ (i : Nat) (q : Bytes), ((putPs (law03_FrameTakes_R0 n).N (Code.rgp (law03_FrameTakes_R0 n).c).toList [.int .i64 (i : Int), strA q] t0).bind fun t => slotsC t (law03_FrameTakes_R0 n).sa) = some [rv, .ptr wb 0, .ptr ab 0, .ptr kb 0, .int .i64 (i : Int), strA q])
    {kn kr : AHeap → R} {ke : Nat → AHeap → R} (hk : ∀ H', Tch [kb, ab] H H' → RowH H' kb TIn [.int .i64 ((scanR s).1.length : Int)] → RowH H' wb TStrs [w] → H'.get H.next = some (.obj .dfr) → H.next + 2 ≤ H'.next → Wp (kn H') Q) :
    Wp (rngK (rngX Try.prog (wL n (D + 5) (d + 3)) (law03_FrameTakes_R0 n).N (.fn 25 [] [.ptr bx 0]) (law03_FrameTakes_R0 n).c t0 ds H) kn kr ke) Q := by
  have t1 := rngH_tch [] (law03_FrameTakes_R0 n).N (law03_FrameTakes_R0 n).c t0 H
  have n1 := rngH_next (law03_FrameTakes_R0 n).N (law03_FrameTakes_R0 n).c t0 H
  have r1 := rngH_rec (law03_FrameTakes_R0 n).N (law03_FrameTakes_R0 n).c t0 H
  have d1 := rngH_mark (law03_FrameTakes_R0 n).N (law03_FrameTakes_R0 n).c t0 H
  obtain ⟨Hs, hHs⟩ : ∃ Hs, Hs = rngH (law03_FrameTakes_R0 n).N (law03_FrameTakes_R0 n).c t0 H := ⟨_, rfl⟩
  rw [← hHs] at t1 n1 r1 d1
  have kx1 := kx.tch t1 hbx (fun h => nomatch h)
  have kk1 := kk.tch t1 hkb (fun h => nomatch h)
  have ka1 := ka.tch t1 hab (fun h => nomatch h)
  have kw1 := kw.tch t1 hwb (fun h => nomatch h)
  have k1 := k.tch t1 (fun _ _ _ h => nomatch h)
  have mem : ∀ {a e : Nat} {r : List AV}, RowH Hs a e r → e ≠ TIn → a ∉ [kb, ab, H.next + 1] := fun hr he h => by
    rcases List.mem_cons.1 h with h | h
    · exact RowH.neT hr kk1 he h
    · rcases List.mem_cons.1 h with h | h
      · exact RowH.neT hr ka1 he h
      · exact recS_ne hr r1 (List.mem_singleton.1 h)
  have hsc := (scanR_at s.length s (Nat.le_refl _)).2
  obtain ⟨H', e, hq⟩ := fall_iter (n := n) (D := D) (d := d + 1) (H := Hs) (y := H.next + 1) (bx := bx) (s := s)
    (Inv := fun i H2 => Tch [kb, ab, H.next + 1] Hs H2 ∧ (∃ acc : List Bytes, RowH H2 kb TIn [.int .i64 (acc.length : Int)] ∧ acc ++ (scanR (s.drop i)).1 = (scanR s).1 ∧ i + (scanR (s.drop i)).2 = (scanR s).2) ∧ RowH H2 ab TIn [.int .i64 (i : Int)] ∧ H2.get (H.next + 1) = some (recQ .ready .none (law03_FrameTakes_R0 n).N (law03_FrameTakes_R0 n).c t0 H.next))
    (Fin := fun _ _ => False) (by omega) hn
    (fun i H2 I => kx1.tch I.1 (by omega) (mem kx1 (by decide)))
    (fun i H2 hi he I => by
      obtain ⟨a1, ⟨acc, a2, c1, c2⟩, a3, a4⟩ := I
      have hl := takeR_len he
      rw [List.length_drop] at hl
      have n2 := a1.1
      obtain ⟨g1, g2⟩ := scan_step he c1 c2
      have hlen : acc.length < (scanR s).1.length := by
        rw [← g1, List.length_append, List.length_append, List.length_singleton]
        omega
      have hat : (scanR s).1[acc.length] = (takeR (s.drop i)).1 := by
        have : (scanR s).1[acc.length]? = some (takeR (s.drop i)).1 := by
          rw [← g1, List.append_assoc, List.getElem?_append_right (Nat.le_refl _), Nat.sub_self]
          rfl
        rw [List.getElem?_eq_getElem hlen] at this
        injection this
      obtain ⟨H3, e3, b1, b2, b3, b4⟩ := tround0 (n := n) (D := D + 5) (d := d + 1) (y := H.next + 1) (i := acc.length) (l := (scanR s).1) (at_ := i) (rv := rv) (wb := wb) (w := w) a4 (by omega) a2 (by omega) a3 (by omega) hne (kw1.tch a1 (by omega) (mem kw1 (by decide))) hlen (by omega) (k1.tch a1 fun c r hc => mem hc (by decide)) (by rw [hat]; omega) (hg i _)
      rw [hat] at e3 b2
      refine ⟨true, H3, ?_, fun _ => ⟨a1.trans b4, ⟨acc ++ [(takeR (s.drop i)).1], by rw [List.length_append]; exact b1, g1, g2⟩, ?_, b3⟩, fun h => nomatch h⟩
      · rw [dynB_yld a4 (by kernel_rfl)]
        exact e3
      · rw [hl.2.2.1] at b2
        exact b2)
    ⟨Tch.refl _ _, ⟨[], kk1, rfl, Nat.zero_add _⟩, ka1, r1⟩
  rw [hHs] at e
  have m1 : ∀ {a b : Nat}, a ≠ b → a ∉ [b] := fun h h2 => h (List.mem_singleton.1 h2)
  rcases hq with ⟨i, hi, he, a1, ⟨acc, a2, c1, c2⟩, a3, a4⟩ | ⟨_, _, _, hF⟩
  · obtain ⟨rfl, hie⟩ := scan_end he c1 c2
    have n2 := a1.1
    refine Wp.rng (by kernel_rfl) e a4 (by decide) (fun _ => ?_) (fun h => nomatch h) (fun _ h => nomatch h)
    have tp : Tch [H.next + 1] H' (H'.put (H.next + 1) (recQ .exhausted .none (law03_FrameTakes_R0 n).N (law03_FrameTakes_R0 n).c t0 H.next)) := Tch.put (.inl (List.mem_singleton.2 rfl)) _
    refine hk _ (((t1.mono (S' := [kb, ab]) fun _ h => nomatch h).trans' a1 fun b hb => ?_).trans' tp fun b hb => .inr (by rw [List.mem_singleton.1 hb]; omega)) (a2.tch tp (by omega) (m1 (by omega))) ((kw1.tch a1 (by omega) (mem kw1 (by decide))).tch tp (by omega) (m1 (by omega))) ?_ (by show _ ≤ H'.next; omega)
    · rcases List.mem_cons.1 hb with rfl | hb
      · exact .inl (List.mem_cons_self ..)
      · rcases List.mem_cons.1 hb with rfl | hb
        · exact .inl (List.mem_cons_of_mem _ (List.mem_cons_self ..))
        · exact .inr (by rw [List.mem_singleton.1 hb]; omega)
    · rw [get_put_other _ (by omega), a1.2.2 H.next (by omega) (fun h => by
        rcases List.mem_cons.1 h with h | h
        · omega
        · rcases List.mem_cons.1 h with h | h
          · omega
          · have := List.mem_singleton.1 h
            omega)]
      exact d1
  · exact hF.elim
end
set_option maxRecDepth 100000 in
set_option maxHeartbeats 1000000 in
/-- the law -/
theorem frameTakes_says (h : AHeap) (hX : h.ex = []) (xs : List AV) (hP : ArgsP Try.prog h.next h 12 [9, 3] xs) : ∃ h', Says Try.prog 5 xs h (.ret (.bool true)) h' := by
  obtain ⟨a, _, rfl, hp0, hP⟩ := args_cons hP
  obtain ⟨a1, _, rfl, hp1, hP⟩ := args_cons hP
  obtain rfl := args0 hP
  obtain ⟨s, rfl, _⟩ := hp0.str Try.underlying9
  obtain ⟨z1, rfl, _⟩ := hp1.int Try.underlying3
  obtain ⟨n, hn⟩ : ∃ n, 1000000000 < n := ⟨1000000001, Nat.lt_succ_self _⟩
  have ll := lenS_nat s
  suffices hK : Wp (law03_FrameTakes (wL n 11 5) n s z1 h) fun r _ => r = .ret (.bool true) by
    obtain ⟨_, h', e, rfl⟩ := hK
    exact ⟨h', law03_FrameTakes_ok (wL_ok n 11 5) e⟩
  unfold law03_FrameTakes
  refine Wp.mnew (Mem.nil [] h) fun h2 M2 => Wp.mnew M2 fun h4 M4 => ?_
  have l2 := M2.at0.2.1
  have kz4 := M4.at1.1
  have kr4 := M4.at0.1
  have lr := M4.at0.2.1
  have t4 := M4.tch
  have hx4 : h4.ex = [] := by rw [t4.2.1, hX]
  have hm4 : memB 5 h4.ex = false := by rw [hx4]; rfl
  refine Wp.callN ((wL_b 8).trans (works_w (n := n) (d := 5) hn hm4)) (Wp.obind (avBool_bool _) (Wp.lett (Wp.iff rfl (Wp.lett ?_))))
  rw [newP_eq h2]
  by_cases hbig : s.length > 16384
  · exact Wp.ift (by rw [decide_eq_true_eq]; omega) (Wp.st1 kr4 Nat.zero_lt_one rfl fun h5 k5 _ _ => Wp.marks0 (Wp.obind (RowH.cell' k5 rfl) (Wp.ret rfl)))
  refine Wp.iff (by rw [decide_eq_false_iff_not]; omega) ?_
  refine Wp.callN ((wL_b 10).trans (take_w (n := n) (d := 6) (by omega) (by omega))) (Wp.obind (extT_0 _ _) (Wp.obind (avStr_str _) (Wp.obind (extT_1 _ _ _) (Wp.obind (avInt_int _ _) (Wp.obind (extT_2 _ _ _ _) (Wp.obind (avInt_int _ _) ?_))))))
  refine Wp.callN ((wL_b 14).trans (rtake_w (n := n) (d := 6) (by omega) (by omega) hm4)) (Wp.obind (extT_0 _ _) (Wp.obind (avStr_str _) (Wp.obind (extT_1 _ _ _) (Wp.obind (avInt_int _ _) (Wp.obind (extT_2 _ _ _ _) (Wp.obind (avInt_int _ _) (Wp.lett ?_)))))))
  rw [eqS_true.2 rfl]
  refine Wp.lettG fun j43 e43 => Wp.iff rfl (Wp.lett ?_)
  rw [bne_f rfl, e43]
  refine Wp.lettG fun j48 e48 => Wp.iff rfl (Wp.lett ?_)
  rw [bne_f rfl, e48]
  obtain ⟨h60, w1, e60, kw60, t60⟩ := rscan_w (n := n) (d := 5) (h := h4) (s := s) (by omega) (by omega) hx4
  have n60 := t60.1
  have W60 := Sli.strs kw60
  have hw1 := Sli.one1 kw60
  refine Wp.iff rfl (Wp.callN ((wL_b 15).trans e60) (Wp.obind (extT_0 _ _) (Wp.obind (extT_1 _ _ _) (Wp.obind (avInt_int _ _) (Wp.mnew (Mem.nil [] h60) fun h65 M65 => Wp.mnew M65 fun h67 M67 => ?_)))))
  have l65 := M65.at0.2.1
  rw [hw1.2, newP_eq h60, newP_eq h65]
  refine Wp.sa1 M67 rfl rfl (by rw [List.all_cons, hw1.1]; rfl) fun h69 M69 => Wp.sa0 M69 rfl rfl rfl fun h71 M71 => ?_
  have t71 := M71.tch
  have kw71 := M71.at1.1
  have ka71 := M71.at0.1
  have la71 := M71.at0.2.1
  have n71 := t71.1
  have hx71 : h71.ex = [] := by rw [t71.2.1, t60.2.1, hx4]
  obtain ⟨h74, v1, e74, kv74, t74⟩ := scan_w (n := n) (D := 6) (d := 1) (H := h71) (s := s) (by omega) hn hx71
  have n74 := t74.1
  have kw74 := kw71.tch t74 (by omega) (fun h => nomatch h)
  have ka74 := ka71.tch t74 (by omega) (fun h => nomatch h)
  have W74 := (W60.tch t71 (fun _ _ _ h => nomatch h)).tch t74 (fun _ _ _ h => nomatch h)
  have hsc := (scanR_at s.length s (Nat.le_refl _)).2
  refine Wp.callN e74 (Wp.obind (extT_0 _ _) (Wp.obind (extT_1 _ _ _) (Wp.obind (avInt_int _ _) (Wp.obind (RowH.cell' kw74 rfl) (Wp.callN ((wL_b 12).trans (equal_w (n := n) (d := 10) (Sli.strs kv74) W74 (by omega) (by omega))) (Wp.obind (avBool_bool _) (Wp.lett (Wp.lettG fun j67 e67 => Wp.iff rfl (Wp.obind (RowH.cell' ka74 rfl) (Wp.obind (avInt_int _ _) (Wp.lett ?_)))))))))))
  rw [bne_f rfl, e67]
  obtain ⟨h96, e96, kx96, lx96, t96⟩ := fall_w (n := n) (d := 10) s h74
  have n96 := t96.1
  refine Wp.iff rfl (Wp.callN ((wL_b 16).trans e96) (Wp.mnew (Mem.nil [] h96) fun h99 M99 => ?_))
  rw [newP_eq h96]
  refine Wp.sa0 M99 rfl rfl rfl fun h101 M101 => Wp.lettG fun k106 e106 => ?_
  have t101 := M101.tch
  have kk101 := M101.at0.1
  have lk101 := M101.at0.2.1
  have n101 := t101.1
  have T101 : Tch [] h4 h101 := (((t60.trans t71).trans t74).trans t96).trans t101
  have kz101 := kz4.tch T101 (by omega) (fun h => nomatch h)
  have kr101 := kr4.tch T101 (by omega) (fun h => nomatch h)
  have kw101 := (kw74.tch t96 (by omega) (fun h => nomatch h)).tch t101 (by omega) (fun h => nomatch h)
  have ka101 := (ka74.tch t96 (by omega) (fun h => nomatch h)).tch t101 (by omega) (fun h => nomatch h)
  have W101 := (W74.tch t96 (fun _ _ _ h => nomatch h)).tch t101 (fun _ _ _ h => nomatch h)
  have kx101 := kx96.tch t101 (by omega) (fun h => nomatch h)
  have m1 : ∀ {a b : Nat}, a ≠ b → a ∉ [b] := fun h h2 => h (List.mem_singleton.1 h2)
  refine tloop1 (n := n) (D := 6) (d := 2) (by omega) hn kx101 (by omega) kk101 (by omega) kz101 (by omega) (by omega) (by omega) (fun i q => by kernel_rfl) fun H' t' ⟨i', ki'⟩ d' n' => ?_
  suffices main : Wp (k106 [dmark h101.next] H') fun r _ => r = .ret (.bool true) by exact ⟨main, Wp.ift rfl main⟩
  have kr' := kr101.tch t' (by omega) (m1 (by omega))
  have kw' := kw101.tch t' (by omega) (m1 (by omega))
  have ka' := ka101.tch t' (by omega) (m1 (by omega))
  have kx' := kx101.tch t' (by omega) (m1 (by omega))
  have W' := W101.tch t' (fun c r hc => m1 (fun h => by subst h; exact RowH.neT hc kk101 (by decide) rfl))
  rw [e106]
  refine Wp.st1 ki' Nat.zero_lt_one rfl fun h109 k109 t109 n109 => ?_
  have ka109 := ka'.tch t109 (by omega) (m1 (by omega))
  refine Wp.st1 ka109 Nat.zero_lt_one rfl fun h111 k111 t111 n111 => ?_
  have kk111 := k109.tch t111 (by omega) (m1 (by omega))
  have kr111 := (kr'.tch t109 (by omega) (m1 (by omega))).tch t111 (by omega) (m1 (by omega))
  have kw111 := (kw'.tch t109 (by omega) (m1 (by omega))).tch t111 (by omega) (m1 (by omega))
  have kx111 := (kx'.tch t109 (by omega) (m1 (by omega))).tch t111 (by omega) (m1 (by omega))
  have W111 := (W'.tch t109 (fun c r hc => m1 (fun h => by subst h; exact RowH.neT hc ki' (by decide) rfl))).tch t111 (fun c r hc => m1 (fun h => by subst h; exact RowH.neT hc ka109 (by decide) rfl))
  have d111 : h111.get h101.next = some (.obj .dfr) := by
    rw [t111.2.2 _ (by omega) (m1 (by omega)), t109.2.2 _ (by omega) (m1 (by omega))]
    exact d'
  refine tloop0 (n := n) (D := 6) (d := 2) (by omega) hn kx111 (by omega) kk111 (by omega) k111 (by omega) (by omega) kw111 (by omega) W111 (rv := .ptr h2.next 0) (fun i q => by kernel_rfl) fun H2 t2 ki2 kw2 d2 n2 => ?_
  have mem2 : ∀ {a : Nat}, a ≠ h96.next → a ≠ h65.next → a ∉ [h96.next, h65.next] := fun h1 h2 h => by
    rcases List.mem_cons.1 h with h | h
    · exact h1 h
    · exact h2 (List.mem_singleton.1 h)
  have kr2 := kr111.tch t2 (by omega) (mem2 (by omega) (by omega))
  refine Wp.obind (RowH.cell' ki2 rfl) (Wp.obind (avInt_int _ _) (Wp.obind (RowH.cell' kw2 rfl) (Wp.obind (str_len W111) (Wp.lett ?_))))
  rw [beq_t rfl]
  refine Wp.st1 kr2 Nat.zero_lt_one rfl fun h5 k5 t5 n5 => ?_
  have g1 : h5.get h111.next = some (.obj .dfr) := by
    rw [t5.2.2 _ (by omega) (m1 (by omega))]
    exact d2
  have g0 : h5.get h101.next = some (.obj .dfr) := by
    rw [t5.2.2 _ (by omega) (m1 (by omega)), t2.2.2 _ (by omega) (mem2 (by omega) (by omega))]
    exact d111
  refine Wp.marks1 g1 (Wp.marks1 (by rw [get_put_other _ (by omega)]; exact g0) (Wp.marks0 ?_))
  have kf := (k5.tch (Tch.put (S := [h111.next]) (.inl (List.mem_singleton.2 rfl)) (.obj .shut)) (by omega) (m1 (by omega))).tch (Tch.put (S := [h101.next]) (.inl (List.mem_singleton.2 rfl)) (.obj .shut)) (by show h2.next < h5.next; omega) (m1 (by omega))
  exact Wp.obind (RowH.cell' kf rfl) (Wp.ret rfl)
end Go.Proofs.Ytikaeeaepnflnaa
