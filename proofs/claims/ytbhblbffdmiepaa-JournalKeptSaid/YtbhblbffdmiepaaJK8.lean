/- What journalKept_proved stands on, part 8 of 8. -/
import Derived.Test.YtbhblbffdmiepaaJK7
namespace Go.Proofs.Ytbhblbffdmiepaa
open Go.RowKit Abs
theorem eqFnN (b : Nat) (h : AHeap) : opBin Try.prog h .eql 96 true (some (AV.fn 62 [] [.ptr b 0])) (some AV.nfn) = some (.val (.bool false), h) := by kernel_rfl
section
variable {N n d D db jb y bx : Nat} {nb : Nat → Prop} {H H' : AHeap} {L : List Snd} {x : Snd} {br : Int} {Q : ARes → AHeap → Prop}
theorem JAt.sv_ld (J : JAt nb H jb db L br) : ∃ sv, ldCell H (.ptr jb (0 + 1)) = some sv ∧ SndAt H sv L ∧ ∀ b ∈ blkV sv, nb b := by
 obtain ⟨sv, mb, ml, D, _, _, n3⟩ := J
 exact ⟨sv, RowH.cell' D.row rfl, D.sl, n3⟩
theorem jall_loop {both : BothF} {yb sv : AV} {Inv : Nat → AHeap → Prop} (hl : L.length < 1000000) (hsv : ∀ i H, Inv i H → SndAt H sv L)
  (step : ∀ i H (hi : i < L.length), Inv i H → ∀ H1, Tch [] H H1 → ∃ H', dynB Try.prog both yb [.agg (sndC L[i])] H1 = some (.ret (.bool true), H') ∧ Inv (i + 1) H')
  {k15 : AHeap → R} (hk : ∀ H, Inv L.length H → Wp (k15 H) Q) :
  ∀ (r i fu : Nat) (H : AHeap), r + i = L.length → r < fu → Inv i H → Wp (journal_Journal_All_1_L0 both yb sv (L.length : Int) k15 fu (i : Int) H) Q
 | _, _, 0, _, _, hf, _ => by omega
 | 0, i, fu + 1, H, hi, _, I => by
  obtain rfl : i = L.length := by omega
  rw [journal_Journal_All_1_L0_s]
  unfold journal_Journal_All_1_L0b
  exact Wp.lett (Wp.iff (by rw [decide_eq_false_iff_not]; omega) (hk H I))
 | r + 1, i, fu + 1, H, hi, hf, I => by
  have hil : i < L.length := by omega
  obtain ⟨p, e1, e2⟩ := (hsv i H I).at hil
  rw [journal_Journal_All_1_L0_s]
  unfold journal_Journal_All_1_L0b
  refine Wp.lett (Wp.ift (by rw [decide_eq_true_eq]; omega) (Wp.obind e1 (Wp.obind e2 (Wp.mnew (Mem.nil [] H) fun h2 M2 => ?_))))
  rw [newP_eq H]
  refine Wp.sa0 M2 rfl rfl (snd_one _) fun h3 M3 => Wp.lr0 M3 rfl ?_
  obtain ⟨H', e3, I'⟩ := step i H hil I h3 M3.tch
  refine Wp.callN e3 (Wp.obind (avBool_bool _) (Wp.lett (Wp.iff rfl (Wp.lettw (by omega) (by omega) ?_))))
  rw [show (i : Int) + 1 = ((i + 1 : Nat) : Int) by omega]
  exact jall_loop hl hsv step hk r (i + 1) fu H' (by omega) (by omega) I'
theorem jall_iter {Inv : Nat → AHeap → Prop} (hn : 1000000 < n) (hl : L.length < 1000000) (J : JAt nb H jb db L br) (kb : RowH H bx TPJ [.ptr jb 0]) (hsv : ∀ sv, ldCell H (.ptr jb (0 + 1)) = some sv → ∀ i H2, Inv i H2 → SndAt H2 sv L)
  (step : ∀ i H (hi : i < L.length), Inv i H → ∀ H1, Tch [] H H1 → ∃ H', dynB Try.prog (wL n D d) (.yld y) [.agg (sndC L[i])] H1 = some (.ret (.bool true), H') ∧ Inv (i + 1) H')
  (h0 : Inv 0 H) : ∃ H', wL n D (d + 1) false 62 [.yld y, .ptr bx 0] H = some (.ret (.tup []), H') ∧ Inv L.length H' := by
 suffices hK : Wp (journal_Journal_All_1 (wL n D d) n (.yld y) (.ptr bx 0) H) fun r H' => r = .ret (.tup []) ∧ Inv L.length H' by
  obtain ⟨_, H', e, rfl, k⟩ := hK
  exact ⟨H', wL_journal_Journal_All_1 n D d _ _ e, k⟩
 obtain ⟨sv, e1, s1, _⟩ := J.sv_ld
 unfold journal_Journal_All_1
 refine Wp.obind (RowH.cell' kb rfl) (Wp.outK (eqJou jb H) (Wp.obind (avBool_bool _) (Wp.iff rfl (Wp.obind (RowH.cell' kb rfl) (Wp.obind (nilC_ptr _ _) (Wp.obind (fldP_ptr _ _ _) (Wp.obind e1 (Wp.obind s1.len (Wp.lettG fun k15 e15 => ?_)))))))))
 refine jall_loop (Inv := Inv) hl (hsv sv e1) step (fun H2 I => ?_) L.length 0 n H (Nat.add_zero _) (by omega) h0
 rw [e15]
 exact Wp.marks0 (Wp.ret ⟨rfl, I⟩)
set_option maxHeartbeats 1000000 in
theorem list_round {ox : Nat} {ov : AV} {l : List Snd} {t0 : T AV} {Dm : Nat} (hrec : H.get y = some (recQ .ready .none (law22_list_R0 n).N (law22_list_R0 n).c t0 Dm)) (hy : y < H.next) (ko : RowH H ox TTks [ov]) (hox : ox < H.next) (so : SndAt H ov l) (hx : H.ex = []) (hl : l.length < 1000000)
  (hg : ((putPs (law22_list_R0 n).N (Code.rgp (law22_list_R0 n).c).toList [.agg (sndC x)] t0).bind fun t => slotsC t (law22_list_R0 n).sa) = some [.ptr ox 0, .agg (sndC x)]) (hoy : y ∉ blkV ov) :
  ∃ H' ov', wL n D (d + 1) true y [.agg (sndC x)] H = some (.ret (.bool true), H') ∧ RowH H' ox TTks [ov'] ∧ SndAt H' ov' (l ++ [x]) ∧ H'.get y = some (recQ .ready .none (law22_list_R0 n).N (law22_list_R0 n).c t0 Dm) ∧ H.next ≤ H'.next ∧ H'.ex = [] ∧ (∀ b ∈ blkV ov', H.next ≤ b) ∧ (∀ b, b < H.next → b ≠ ox → b ≠ y → b ∉ blkV ov → H'.get b = H.get b) := by
 have nco := recS_ne ko hrec
 have hoo : ox ∉ blkV ov := fun hb => by
  rcases so with ⟨rfl, _⟩ | ⟨c, rfl, hr, _⟩
  ·cases hb
  ·exact RowH.neT ko hr (by decide) (List.mem_singleton.1 hb)
 obtain ⟨G, hG⟩ : ∃ G : Int → AHeap → Prop, G = fun z H' => z = 0 ∧ ∃ ov', RowH H' ox TTks [ov'] ∧ SndAt H' ov' (l ++ [x]) ∧ H'.get y = some (recQ .ready .none (law22_list_R0 n).N (law22_list_R0 n).c t0 Dm) ∧ H.next ≤ H'.next ∧ H'.ex = [] ∧ (∀ b ∈ blkV ov', H.next ≤ b) ∧ (∀ b, b < H.next → b ≠ ox → b ≠ y → b ∉ blkV ov → H'.get b = H.get b) := ⟨_, rfl⟩
 have key := round_W (both := wL n D d) (sites := wLS n) (G := G) hrec (fun st jj => wLS_law22_list_R0 n st jj t0 Dm) hg ?_
 ·obtain ⟨z, H', e, hk⟩ := key
  rw [hG] at hk
  obtain ⟨rfl, ov', k⟩ := hk
  rw [wL_r]
  exact ⟨H', ov', e, k⟩
 ·show Wp (law22_list_R0A_fn (wL n D d) n [.ptr ox 0, .agg (sndC x)] H) _
  rw [law22_list_R0A_fn_eq]
  unfold law22_list_R0A
  have tp : ∀ (G : AHeap) (o : AObj), Tch [y] G (G.put y o) := fun G o => Tch.put (.inl (List.mem_singleton.2 rfl)) _
  have m1 : ∀ {a b : Nat}, a ≠ b → a ∉ [b] := fun h h2 => h (List.mem_singleton.1 h2)
  refine Wp.mnew (Mem.nil [] H) fun h2 M2 => ?_
  rw [newP_eq H]
  refine Wp.sa0 M2 rfl rfl (snd_one _) fun h3 M3 => ?_
  have t3 := M3.tch
  have n3 := t3.1
  have l3 := M3.at0.2.1
  refine Wp.ret ⟨_, rfl, t3.2.2 y hy (fun h => nomatch h), by kernel_rfl, ?_⟩
  obtain ⟨H1, hH1⟩ : ∃ H1, H1 = h3.put y (recQ .busy .none (law22_list_R0 n).N (law22_list_R0 n).c t0 Dm) := ⟨_, rfl⟩
  have t1 : Tch [y] h3 H1 := by rw [hH1]; exact tp h3 _
  have g1 : H1.get y = some (recQ .busy .none (law22_list_R0 n).N (law22_list_R0 n).c t0 Dm) := by rw [hH1]; exact get_put_same _ _
  have n1 : H1.next = h3.next := by rw [hH1]; rfl
  have x1 : H1.ex = [] := by rw [t1.2.1, t3.2.1, hx]
  have ko1 := (ko.tch t3 hox (fun h => nomatch h)).tch t1 (by omega) (m1 nco)
  have kb1 := M3.at0.1.tch t1 l3 (m1 (by omega))
  have so1 := (so.tch t3 (fun _ _ h => nomatch h)).tch t1 (fun b hb h => hoy (List.mem_singleton.1 h ▸ hb))
  rw [← hH1]
  show Wp (law22_list_R0B_fn (wL n D d) n [.ptr ox 0, .ptr H.next 0] H1) _
  rw [law22_list_R0B_fn_eq]
  unfold law22_list_R0B
  refine Wp.obind (RowH.cell' ko1 rfl) (Wp.obind (kb1.ldAll rfl) (Wp.mnews (Mem.nil [] H1) (bldTk _ _ _ _ _ _) rfl (by rw [x1]; rfl) fun h4 M4 => ?_))
  have t4 := M4.tch
  have n4 := t4.1
  have so4 := so1.tch t4 (fun _ _ h => nomatch h)
  obtain ⟨h5, e5, s5, t5⟩ := so4.push (c := x) M4.at0.1 (by omega) (by rw [t4.2.1, x1])
  have n5 := t5.1
  have ko5 := (ko1.tch t4 (by omega) (fun h => nomatch h)).tch t5 (by omega) hoo
  refine Wp.outK e5 ?_
  refine Wp.st1 ko5 (show 0 < 1 by decide) rfl fun h6 ko6 t6 n6 => Wp.ret ⟨0, rfl, ?_, ?_⟩
  ·rw [t6.2.2 y (by omega) (m1 (fun h => nco h.symm)), t5.2.2 y (by omega) hoy, t4.2.2 y (by omega) (fun h => nomatch h)]
   exact g1
  rw [hG]
  have ls := s5.lt h4.next (List.mem_singleton.2 rfl)
  have s6 := s5.tch t6 (fun b hb h => by
   have h1 := List.mem_singleton.1 hb
   have h2 := List.mem_singleton.1 h
   omega)
  refine ⟨rfl, _, ko6.tch (tp _ _) (by omega) (m1 nco), s6.tch (tp _ _) (fun b hb h => by
   have h1 := List.mem_singleton.1 hb
   have h2 := List.mem_singleton.1 h
   omega), get_put_same _ _, ?_, ?_, fun b hb => ?_, fun b hb h1 h2 h3' => ?_⟩
  ·show H.next ≤ h6.next
   omega
  ·show h6.ex = []
   rw [t6.2.1, t5.2.1, t4.2.1, x1]
  ·rw [List.mem_singleton.1 hb]
   omega
  ·rw [get_put_other _ (fun h => h2 h.symm), t6.2.2 b (by omega) (m1 h1), t5.2.2 b (by omega) h3', t4.2.2 b (by omega) (fun h => nomatch h), t1.2.2 b (by omega) (m1 h2), t3.2.2 b hb (fun h => nomatch h)]
end
section
variable {N n d D db jb : Nat} {nb : Nat → Prop} {H H' : AHeap} {L : List Snd} {br : Int} {v : AV}
theorem SndAt.same (k : SndAt H v L) (hg : ∀ b ∈ blkV v, H'.get b = H.get b) (hn : H.next ≤ H'.next) : SndAt H' v L := by
 rcases k with k | ⟨c, rfl, h2, h3⟩
 ·exact .inl k
 ·exact .inr ⟨c, rfl, h2.same (hg c (List.mem_singleton.2 rfl)), Nat.lt_of_lt_of_le h3 hn⟩
set_option maxHeartbeats 1000000 in
theorem list_w (J : JAt nb H jb db L br) (hnb : ∀ b, nb b → b < H.next) (hx : H.ex = []) (hl : L.length < 1000000) (hn : 1000000 < n) :
  ∃ H' v, wL n (D + 1) (d + 3) false 14 [.ptr jb 0] H = some (.ret (.tup [v, .bool true]), H') ∧ SndAt H' v L ∧ (∀ b ∈ blkV v, H.next ≤ b) ∧ Tch [] H H' := by
 suffices hK : Wp (law22_list (wL n (D + 1) (d + 2)) n (.ptr jb 0) H) fun r H' => ∃ v, r = .ret (.tup [v, .bool true]) ∧ SndAt H' v L ∧ (∀ b ∈ blkV v, H.next ≤ b) ∧ Tch [] H H' by
  obtain ⟨_, H', e, v, rfl, k⟩ := hK
  exact ⟨H', v, wL_law22_list n (D + 1) (d + 2) _ e, k⟩
 unfold law22_list
 have eA : world n (D + 1) 39 [.ptr jb 0] H = some (.ret (AV.fn 62 [] [.ptr H.next 0]), newH H TPJ [.ptr jb 0]) := by
  rw [w_journal_Journal_All]
  rfl
 obtain ⟨h2, hh2⟩ : ∃ h2, h2 = newH H TPJ [.ptr jb 0] := ⟨_, rfl⟩
 have kv2 : RowH h2 H.next TPJ [.ptr jb 0] := by rw [hh2]; exact RowH.new _ _ _
 have lv2 : H.next < h2.next := by rw [hh2]; exact lt_newH _ _ _
 have t2 : Tch [] H h2 := by rw [hh2]; exact Tch.newH _ _ _ _
 rw [← hh2] at eA
 refine Wp.callN ((wL_b 39).trans eA) (Wp.outK (eqFnN H.next h2) (Wp.obind (avBool_bool _) (Wp.iff rfl (Wp.mnew (Mem.nil [] h2) fun h3 M3 => ?_))))
 rw [newP_eq h2]
 have t3 := M3.tch
 have n3 := t3.1
 have ko3 := M3.at0.1
 have lo3 := M3.at0.2.1
 obtain ⟨t0, ht0⟩ : ∃ t0, t0 = Fr.tree [(2, AV.nsl), (3, .bool false), (5, .ptr h2.next 0), (11, AV.fn 62 [] [.ptr H.next 0])] := ⟨_, rfl⟩
 have hg : ∀ x : Snd, ((putPs (law22_list_R0 n).N (Code.rgp (law22_list_R0 n).c).toList [.agg (sndC x)] t0).bind fun t => slotsC t (law22_list_R0 n).sa) = some [.ptr h2.next 0, .agg (sndC x)] := fun x => by
  rw [ht0]
  kernel_rfl
 rw [← ht0]
 have t1 := rngH_tch [] (law22_list_R0 n).N (law22_list_R0 n).c t0 h3
 have n1 := rngH_next (law22_list_R0 n).N (law22_list_R0 n).c t0 h3
 have r1 := rngH_rec (law22_list_R0 n).N (law22_list_R0 n).c t0 h3
 have d1 := rngH_mark (law22_list_R0 n).N (law22_list_R0 n).c t0 h3
 obtain ⟨Hs, hHs⟩ : ∃ Hs, Hs = rngH (law22_list_R0 n).N (law22_list_R0 n).c t0 h3 := ⟨_, rfl⟩
 rw [← hHs] at t1 n1 r1 d1
 have T1 : Tch [] H Hs := (t2.trans t3).trans t1
 have x1 : Hs.ex = [] := by rw [T1.2.1, hx]
 have kv1 := (kv2.tch t3 lv2 (fun h => nomatch h)).tch t1 (by omega) (fun h => nomatch h)
 have ko1 := ko3.tch t1 lo3 (fun h => nomatch h)
 have J1 := J.tch T1 (fun _ h => nomatch h)
 have hNs := T1.1
 obtain ⟨sv, es, ss, ns⟩ := J1.sv_ld
 obtain ⟨H', e, ov, a1, a2, a3, a4, a5, a6, a7⟩ := jall_iter (n := n) (D := D + 1) (d := d + 1) (H := Hs) (y := h3.next + 1) (bx := H.next)
  (Inv := fun i H2 => ∃ ov, RowH H2 h2.next TTks [ov] ∧ SndAt H2 ov (L.take i) ∧ H2.get (h3.next + 1) = some (recQ .ready .none (law22_list_R0 n).N (law22_list_R0 n).c t0 h3.next) ∧ Hs.next ≤ H2.next ∧ H2.ex = [] ∧ (∀ b ∈ blkV ov, Hs.next ≤ b ∧ b < H2.next) ∧ (∀ b, b < Hs.next → b ≠ h2.next → b ≠ h3.next + 1 → H2.get b = Hs.get b)) hn hl J1 kv1
  (fun sv' es' i H2 I => by
   rw [es] at es'
   cases es'
   obtain ⟨ov, _, _, _, i4, _, _, i7⟩ := I
   exact ss.same (fun b hb => i7 b (by have := hnb b (ns b hb); omega) (by have := hnb b (ns b hb); omega) (by have := hnb b (ns b hb); omega)) i4)
  (fun i H2 hi I H3 t23 => by
   obtain ⟨ov, i1, i2, i3, i4, i5, i6, i7⟩ := I
   have n23 := t23.1
   have i3' : H3.get (h3.next + 1) = some (recQ .ready .none (law22_list_R0 n).N (law22_list_R0 n).c t0 h3.next) := (t23.2.2 _ (by omega) (fun h => nomatch h)).trans i3
   obtain ⟨H4, ov', e4, b1, b2, b3, b4, b5, b6, b7⟩ := list_round (n := n) (D := D + 1) (d := d) (x := L[i]) (y := h3.next + 1) i3' (by omega) (i1.tch t23 (by omega) (fun h => nomatch h)) (by omega) (i2.tch t23 (fun _ _ h => nomatch h)) (by rw [t23.2.1, i5]) (by rw [List.length_take]; omega) (hg _) (fun hb => by have := (i6 _ hb).1; omega)
   refine ⟨H4, ?_, ov', b1, ?_, b3, by omega, b5, fun b hb => ⟨by have := b6 b hb; omega, b2.lt b hb⟩, fun b g1 g2 g3 => ?_⟩
   ·rw [dynB_yld i3' (by kernel_rfl)]
    exact e4
   ·rw [List.take_succ_eq_append_getElem hi]
    exact b2
   ·rw [b7 b (by omega) g2 g3 (fun hb => by have := (i6 _ hb).1; omega), t23.2.2 b (by omega) (fun h => nomatch h), i7 b g1 g2 g3])
  ⟨.nsl, ko1, .inl ⟨rfl, rfl⟩, r1, Nat.le_refl _, x1, (fun _ h => nomatch h), fun _ _ _ _ => rfl⟩
 rw [hHs] at e
 rw [List.take_length] at a2
 have m1 : ∀ {a b : Nat}, a ≠ b → a ∉ [b] := fun h h2 => h (List.mem_singleton.1 h2)
 have tp : ∀ (G : AHeap) (b : Nat) (o : AObj), Tch [b] G (G.put b o) := fun G b o => Tch.put (.inl (List.mem_singleton.2 rfl)) _
 refine Wp.rng (by kernel_rfl) e a3 (by decide) (fun _ => ?_) (fun h => nomatch h) (fun _ h => nomatch h)
 have t9 := tp H' (h3.next + 1) (recQ .exhausted .none (law22_list_R0 n).N (law22_list_R0 n).c t0 h3.next)
 have ko9 := a1.tch t9 (by omega) (m1 (by omega))
 have so9 := a2.tch t9 (fun b hb h => by
  have h1 := (a6 b hb).1
  have h2 := List.mem_singleton.1 h
  omega)
 have hm : (H'.put (h3.next + 1) (recQ .exhausted .none (law22_list_R0 n).N (law22_list_R0 n).c t0 h3.next)).get h3.next = some (.obj .dfr) := by
  rw [get_put_other _ (by omega), a7 _ (by omega) (by omega) (by omega)]
  exact d1
 refine Wp.obind (RowH.cell' ko9 rfl) (Wp.marks1 hm (Wp.marks0 (Wp.ret ⟨ov, rfl, so9.tch (tp _ h3.next (.obj .shut)) (fun b hb h => by
  have h1 := (a6 b hb).1
  have h2 := List.mem_singleton.1 h
  omega), fun b hb => by have := (a6 b hb).1; omega, ?_, ?_, fun b hb _ => ?_⟩)))
 ·show H.next ≤ H'.next
  omega
 ·show H'.ex = H.ex
  rw [a5, hx]
 ·rw [get_put_other _ (by omega), get_put_other _ (by omega), a7 _ (by omega) (by omega) (by omega)]
  exact T1.2.2 b hb (fun h => nomatch h)
end
def okX (P : Program) : Nat → Nat ⊕ List Field → AV → Bool
 | 0, _, _ => false
 | d + 1, .inl t, x => match P.underlying t with
  | some (.int _) => (match x with | .int _ _ => true | _ => false)
  | some .string => (match x with | .str _ _ => true | _ => false)
  | some (.struct _) => (match x with | .agg _ => !(P.stoodInHeld t) && okX P d (.inr (P.fieldsOf t).toList) x | _ => false)
  | _ => false
 | _ + 1, .inr [], _ => true
 | d + 1, .inr (f :: fs), x => match x with
  | .agg xs => !(f.name == "_") && ((match partA P f.type xs f.offset with | some a => okX P d (.inl f.type) a | none => false) && okX P d (.inr fs) x)
  | _ => false
theorem okX_self (P : Program) : ∀ (k : Nat), (∀ (t : Nat) (x : AV), okX P k (.inl t) x = true → ∀ d, k ≤ d → eqA P d t x x = some true) ∧ (∀ (fs : List Field) (xs : List AV), okX P k (.inr fs) (.agg xs) = true → ∀ d, k ≤ d → eqFields P d fs xs xs = some true)
 | 0 => ⟨fun _ _ h => (nomatch h), fun _ _ h => (nomatch h)⟩
 | k + 1 => by
  obtain ⟨ih1, ih2⟩ := okX_self P k
  refine ⟨fun t x h d hd => ?_, fun fs xs h d hd => ?_⟩
  ·obtain ⟨d, rfl⟩ : ∃ e, d = e + 1 := ⟨d - 1, by omega⟩
   unfold okX at h
   unfold eqA
   cases hu : P.underlying t with
   | none => rw [hu] at h; cases h
   | some u =>
    rw [hu] at h
    cases u <;> cases x <;> simp at h ⊢
    obtain ⟨h1, h2⟩ := h
    exact ⟨h1, ih2 _ _ h2 d (by omega)⟩
  ·obtain ⟨d, rfl⟩ : ∃ e, d = e + 1 := ⟨d - 1, by omega⟩
   cases fs with
   | nil => unfold eqFields; rfl
   | cons f fs =>
    unfold okX at h
    simp only [Bool.and_eq_true, Bool.not_eq_true', beq_eq_false_iff_ne] at h
    obtain ⟨h1, h2, h3⟩ := h
    unfold eqFields
    rw [if_neg h1]
    cases hp : partA P f.type xs f.offset with
    | none => rw [hp] at h2; cases h2
    | some a =>
     rw [hp] at h2
     simp only
     rw [ih1 _ _ h2 d (by omega)]
     exact ih2 _ _ h3 d (by omega)
theorem eqTk_self (x : Snd) : eqOther Try.prog TTk (.agg (sndC x)) (.agg (sndC x)) = some true := by
 have hg : Try.prog.eqGuardType Try.prog.depth TTk = false := by kernel_rfl
 have ho : okX Try.prog 9 (.inl TTk) (.agg (sndC x)) = true := by kernel_rfl
 have he := (okX_self Try.prog 9).1 _ _ ho 2000 (by omega)
 unfold eqOther
 dsimp only
 rw [hg, if_neg (by decide)]
 exact he
section
variable {n D d : Nat} {H : AHeap} {L : List Snd} {v w : AV} {Q : ARes → AHeap → Prop}
theorem same_loop (k1 : SndAt H v L) (k2 : SndAt H w L) (hl : L.length < 1000000) {k12 : AHeap → R} (hk : Wp (k12 H) Q) : ∀ (r i fu : Nat), r + i = L.length → r < fu → Wp (law22_same_L0 v w (L.length : Int) k12 fu (i : Int) H) Q
 | _, _, 0, _, hf => by omega
 | 0, i, fu + 1, hi, _ => by
  rw [law22_same_L0_s]
  unfold law22_same_L0b
  exact Wp.lett (Wp.iff (by rw [decide_eq_false_iff_not]; omega) hk)
 | r + 1, i, fu + 1, hi, hf => by
  have hil : i < L.length := by omega
  obtain ⟨p, p1, p2⟩ := k1.at hil
  obtain ⟨q, q1, q2⟩ := k2.at hil
  rw [law22_same_L0_s]
  unfold law22_same_L0b
  refine Wp.lett (Wp.ift (by rw [decide_eq_true_eq]; omega) (Wp.obind p1 (Wp.obind p2 (Wp.obind q1 (Wp.obind q2 (Wp.obind (eqTk_self _) (Wp.lett (Wp.iff rfl (Wp.lettw (by omega) (by omega) ?_)))))))))
  rw [show (i : Int) + 1 = ((i + 1 : Nat) : Int) by omega]
  exact same_loop k1 k2 hl hk r (i + 1) fu (by omega) (by omega)
theorem same_w (k1 : SndAt H v L) (k2 : SndAt H w L) (hl : L.length < 1000000) (hn : 1000000 < n) : wL n D (d + 1) false 15 [v, w] H = some (.ret (.bool true), H) := by
 apply Wp.eq
 suffices hK : Wp (law22_same (wL n D d false) n v w H) fun r H' => r = .ret (.bool true) ∧ H' = H by
  obtain ⟨r, h', e, k⟩ := hK
  exact ⟨r, h', wL_law22_same n D d _ _ e, k⟩
 unfold law22_same
 refine Wp.obind k1.len (Wp.obind k2.len (Wp.lett (Wp.iff (bne_f rfl) (Wp.obind k1.len (Wp.lettG fun k12 e12 => ?_)))))
 refine same_loop k1 k2 hl ?_ L.length 0 n (Nat.add_zero _) (by omega)
 rw [e12]
 exact Wp.ret ⟨rfl, rfl⟩
end
abbrev TSp : Nat := 53
structure Sp where
 k : Int
 n : Int
 x : Snd
 s : Bytes
 p : Int
noncomputable def spC (a : Sp) : List AV := [.int .i64 a.k, .int .i64 a.n, .int .i64 a.x.k, .int .i64 a.x.t, .int .i64 a.x.e, .int .i64 a.x.q, strA a.x.s, strA a.s, .int .i64 a.p]
def SpOk (a : Sp) : Prop := I64 a.k ∧ I64 a.n ∧ a.x.s.length ≤ reachBytes ∧ a.s.length ≤ reachBytes
def szS (c : Sp) : Nat := min (c.s.length + c.x.s.length) 65536
def sumV : List Sp → Nat
 | [] => 0
 | c :: l => szS c + sumV l
theorem sp_one (x : Sp) : (spC x).all AV.one = true := rfl
set_option maxRecDepth 100000 in
theorem sp_of {N m : Nat} {h : AHeap} {l : List AV} (hp : Plain Try.prog N h (m + 5) TSp l) : ∃ x : Sp, l = spC x ∧ SpOk x := by
 obtain ⟨ls, rfl, hlen, hf⟩ := hp.structEach Try.underlying53
 obtain ⟨l0, l1, l2, l3, l4, rfl⟩ : ∃ l0 l1 l2 l3 l4, ls = [l0, l1, l2, l3, l4] := by
  match ls, hlen with
  | [a, b, c, d, e], _ => exact ⟨a, b, c, d, e, rfl⟩
 obtain ⟨z0, rfl, w0⟩ := (hf 0 _ _ rfl rfl).int Try.underlying3
 obtain ⟨z1, rfl, w1⟩ := (hf 1 _ _ rfl rfl).int Try.underlying3
 obtain ⟨ms, rfl, hml, hmf⟩ := (hf 2 _ _ rfl rfl).structEach Try.underlying35
 obtain ⟨m0, m1, m2, m3, rfl⟩ : ∃ m0 m1 m2 m3, ms = [m0, m1, m2, m3] := by
  match ms, hml with
  | [a, b, c, d], _ => exact ⟨a, b, c, d, rfl⟩
 obtain ⟨y0, rfl, _⟩ := (hmf 0 _ _ rfl rfl).int Try.underlying3
 obtain ⟨fs, rfl, hfl, hff⟩ := (hmf 1 _ _ rfl rfl).structEach Try.underlying30
 obtain ⟨f0, f1, rfl⟩ : ∃ f0 f1, fs = [f0, f1] := by
  match fs, hfl with
  | [a, b], _ => exact ⟨a, b, rfl⟩
 obtain ⟨y1, rfl, _⟩ := (hff 0 _ _ rfl rfl).int Try.underlying3
 obtain ⟨y2, rfl, _⟩ := (hff 1 _ _ rfl rfl).int Try.underlying3
 obtain ⟨y3, rfl, _⟩ := (hmf 2 _ _ rfl rfl).int Try.underlying3
 obtain ⟨u, rfl, w3⟩ := (hmf 3 _ _ rfl rfl).str Try.underlying9
 obtain ⟨u2, rfl, w4⟩ := (hf 3 _ _ rfl rfl).str Try.underlying9
 obtain ⟨z4, rfl, _⟩ := (hf 4 _ _ rfl rfl).int Try.underlying3
 exact ⟨⟨z0, z1, ⟨y0, y1, y2, y3, u⟩, u2, z4⟩, rfl, wf_i64 w0, wf_i64 w1, w3, w4⟩
set_option maxRecDepth 100000 in
theorem sps_of {N m : Nat} {h : AHeap} {a : AV} (hp : ArgP Try.prog N h (m + 6) 45 a) : ∃ xs : List Sp, Slc N h 9 a (xs.map spC) ∧ (∀ x ∈ xs, SpOk x) ∧ xs.length ≤ reachBytes := by
 obtain ⟨ls, h1, h2, h3⟩ := hp.slice Try.underlying45
 obtain ⟨xs, rfl, h4⟩ := map_of (f := spC) (Q := SpOk) ls fun l hl => sp_of (h3 l hl)
 have hc : Try.prog.cellsOf TSp = 9 := by kernel_rfl
 have hb : Try.prog.bytesOf TSp = 88 := by kernel_rfl
 rw [hc] at h1
 rw [hb, List.length_map] at h2
 exact ⟨xs, h1, h4, by omega⟩
section
variable {n d D N : Nat} {h : AHeap} {a : AV} {xs : List Sp}
theorem heavy_loop (hs : Slc N h 9 a (xs.map spC)) (hN : N ≤ h.next) (ho : ∀ x ∈ xs, SpOk x) {k7 : AHeap → R} {Q : ARes → AHeap → Prop} (hk : ∀ H, Tch [] h H → sumV xs ≤ 16384 → Wp (k7 H) Q) (hq : ∀ H, Tch [] h H → Q (.ret (.bool true)) H) :
  ∀ (todo : List Sp) (i fu t : Nat) (H : AHeap), xs.drop i = todo → todo.length < fu → t ≤ 16384 → t + sumV todo = sumV xs → Tch [] h H → xs.length ≤ reachBytes → Wp (law22_heavy_L0 a (xs.length : Int) k7 fu (t : Int) (i : Int) H) Q
 | _, _, 0, _, _, _, hf, _, _, _, _ => by omega
 | [], i, fu + 1, t, H, hd, hf, ht, hsum, T, _ => by
  have := dropN hd
  rw [law22_heavy_L0_s]
  unfold law22_heavy_L0b
  refine Wp.lett (Wp.iff (by rw [decide_eq_false_iff_not]; omega) ?_)
  exact hk H T (by have h0 : sumV [] = 0 := rfl; omega)
 | c :: todo, i, fu + 1, t, H, hd, hf, ht, hsum, T, hl => by
  obtain ⟨hi, hci, hd2⟩ := dropC hd
  rw [List.length_cons] at hf
  have hrb : reachBytes = 140737488351232 := rfl
  have hs2 := hs.tch T hN (fun b hb => nomatch hb)
  obtain ⟨b, hb, e1, e2⟩ := hs2.row (i := i) (by rw [List.length_map]; exact hi)
  rw [List.getElem_map, hci] at e2
  obtain ⟨_, _, hc1, hc2⟩ := ho c (hci ▸ List.getElem_mem hi)
  have hss : sumV (c :: todo) = szS c + sumV todo := rfl
  have hsz : szS c = min (c.s.length + c.x.s.length) 65536 := rfl
  rw [law22_heavy_L0_s]
  unfold law22_heavy_L0b
  refine Wp.lett (Wp.ift (by rw [decide_eq_true_eq]; omega) (Wp.obind e1 (Wp.obind e2 (Wp.mnew (Mem.nil [] H) fun h2 M2 => ?_))))
  rw [newP_eq]
  refine Wp.sa0 M2 rfl rfl (sp_one c) fun h3 M3 => ?_
  have t3 := M3.tch
  have T3 := T.trans t3
  have g6 : (spC c)[6]? = some (strA c.x.s) := rfl
  have g7 : (spC c)[7]? = some (strA c.s) := rfl
  have l1 := lenS_nat c.s
  have l2 := lenS_nat c.x.s
  refine Wp.ld0 M3 g7 (Wp.obind (avStr_str _) (Wp.ld0 M3 g6 (Wp.obind (avStr_str _) (Wp.lettw (by omega) (by omega) (Wp.lett ?_)))))
  rw [show (if (65536 : Int) < lenS c.s + lenS c.x.s then (65536 : Int) else lenS c.s + lenS c.x.s) = (szS c : Int) by split <;> omega]
  refine Wp.lettw (by omega) (by omega) (Wp.lett ?_)
  by_cases h1 : (t : Int) + (szS c : Int) > 16384
  ·exact Wp.ift (by rw [decide_eq_true_eq]; exact h1) (Wp.ret (hq _ T3))
  ·refine Wp.iff (by rw [decide_eq_false_iff_not]; exact h1) (Wp.lettw (by omega) (by omega) ?_)
   rw [show (t : Int) + (szS c : Int) = ((t + szS c : Nat) : Int) by omega, show (i : Int) + 1 = ((i + 1 : Nat) : Int) by omega]
   exact heavy_loop hs hN ho hk hq todo (i + 1) fu (t + szS c) h3 hd2 (by omega) (by omega) (by omega) T3 hl
theorem heavy_w (hs : Slc N h 9 a (xs.map spC)) (hN : N ≤ h.next) (ho : ∀ x ∈ xs, SpOk x) (hl : xs.length ≤ reachBytes) (hn : reachBytes < n) : ∃ h' b, wL n D (d + 1) false 18 [a] h = some (.ret (.bool b), h') ∧ Tch [] h h' ∧ (b = false → sumV xs ≤ 16384 ∧ xs.length ≤ 100) := by
 suffices hK : Wp (law22_heavy (wL n D d false) n a h) fun r h' => ∃ b, r = .ret (.bool b) ∧ Tch [] h h' ∧ (b = false → sumV xs ≤ 16384 ∧ xs.length ≤ 100) by
  obtain ⟨_, h', e, b, rfl, k⟩ := hK
  exact ⟨h', b, wL_law22_heavy n D d _ e, k⟩
 unfold law22_heavy
 have hlen := hs.len
 rw [List.length_map] at hlen
 refine Wp.obind hlen (Wp.lettG fun k7 e7 => ?_)
 refine heavy_loop hs hN ho (fun H T hsum => ?_) (fun H T => ⟨true, rfl, T, fun h => nomatch h⟩) xs 0 n 0 h rfl (by omega) (by omega) (by omega) (Tch.refl _ _) hl
 rw [e7]
 refine Wp.obind hlen (Wp.lett (Wp.ret ⟨_, rfl, T, fun h => ?_⟩))
 rw [decide_eq_false_iff_not] at h
 exact ⟨hsum, by omega⟩
end
theorem lastZ_snoc (M : List Snd) (y : Snd) (k : Int) : lastZ (M ++ [y]) k = if y.k = k then y else lastZ M k := by
 unfold lastZ
 rw [lastL_snoc]
 split <;> rfl
theorem refJ_ok {L : List Snd} {x : Snd} (h : refJ L x = 0) : aboveJ (lastZ L x.k).t (lastZ L x.k).e x.t x.e = false ∧ x.q = (lastZ L x.k).q + 1 := by
 unfold refJ at h
 split at h
 ·cases h
 ·rename_i h1
  split at h
  ·cases h
  ·rename_i h2
   exact ⟨Bool.eq_false_iff.2 h1, by simpa using h2⟩
section
variable {n D d : Nat} {H : AHeap} {L : List Snd} {v : AV} {Q : ARes → AHeap → Prop}
theorem fen_inner {h10 h21 : AHeap} {x : Snd} {b i : Nat} (hi : i ≤ L.length) (hl : L.length < 1000000) (hok : ∀ y ∈ L, checkJ y = 0) (hbx : b ≠ h21.next) (hxf : h10.next ≠ h21.next) {k33 : Int → AHeap → R}
  (hk : ∀ H2, RowH H2 h10.next TTk (sndC x) → RowH H2 h21.next TFen [.int .i64 (lastZ (L.take i) x.k).t, .int .i64 (lastZ (L.take i) x.k).e] → Tch [h21.next] H H2 → Wp (k33 ((lastZ (L.take i) x.k).q + 1) H2) Q) :
  ∀ (r j fu : Nat) (H2 : AHeap), r + j = i → r < fu → RowH H2 b TTk (sndsC L) → b < H2.next → RowH H2 h10.next TTk (sndC x) → h10.next < H2.next → RowH H2 h21.next TFen [.int .i64 (lastZ (L.take j) x.k).t, .int .i64 (lastZ (L.take j) x.k).e] → h21.next < H2.next → Tch [h21.next] H H2 →
   Wp (law22_fenced_L1 h10 h21 (.sl b 0 i 5) (i : Int) k33 fu ((lastZ (L.take j) x.k).q + 1) (j : Int) H2) Q
 | _, _, 0, _, _, hf, _, _, _, _, _, _, _ => by omega
 | 0, j, fu + 1, H2, hj, _, kb, lb, kx, lx, kf, lf, T => by
  obtain rfl : j = i := by omega
  rw [law22_fenced_L1_s]
  unfold law22_fenced_L1b
  exact Wp.lett (Wp.iff (by rw [decide_eq_false_iff_not]; omega) (hk H2 kx kf T))
 | r + 1, j, fu + 1, H2, hj, hf, kb, lb, kx, lx, kf, lf, T => by
  have hjl : j < L.length := by omega
  have htk : L.take (j + 1) = L.take j ++ [L[j]] := List.take_succ_eq_append_getElem hjl
  have hz := lastZ_snoc (L.take j) L[j] x.k
  rw [← htk] at hz
  rw [law22_fenced_L1_s]
  unfold law22_fenced_L1b
  refine Wp.lett (Wp.ift (by rw [decide_eq_true_eq]; omega) (Wp.obind (idxP_sl (show j < i by omega)) (Wp.obind (snds_ld kb hjl) (Wp.mnew (Mem.nil [] H2) fun h3 M3 => ?_))))
  rw [newP_eq H2]
  refine Wp.sa0 M3 rfl rfl (snd_one _) fun h4 M4 => ?_
  have t4 := M4.tch
  have n4 := t4.1
  have kx4 := kx.tch t4 lx (fun h => nomatch h)
  have kf4 := kf.tch t4 lf (fun h => nomatch h)
  have kb4 := kb.tch t4 lb (fun h => nomatch h)
  have ky4 := M4.at0.1
  have ly4 := M4.at0.2.1
  refine Wp.ld0 M4 rfl (Wp.obind (avInt_int _ _) (Wp.obind (RowH.cell' kx4 rfl) (Wp.obind (avInt_int _ _) (Wp.lett (Wp.lettG fun k70 e70 => ?_)))))
  by_cases hkk : L[j].k = x.k
  ·rw [if_pos hkk] at hz
   obtain ⟨⟨_, _, _, q1, q2⟩, _⟩ := checkJ_ok (hok L[j] (List.getElem_mem hjl))
   refine Wp.ift (beq_t hkk) (Wp.ld0 M4 rfl (Wp.obind (avInt_int _ _) (Wp.lettw (by omega) (by omega) ?_)))
   refine Wp.obind (show ldRow h4 2 (.ptr H2.next 1) = some [.int .i64 L[j].t, .int .i64 L[j].e] from ky4.ld (o := 1) (n := 2) (show 1 + 2 ≤ 5 by decide)) ?_
   rw [newP_eq h21]
   refine Wp.stAll kf4 rfl rfl rfl fun h5 kf5 t5 n5 => ?_
   rw [e70]
   refine Wp.lettw (by omega) (by omega) ?_
   rw [show (j : Int) + 1 = ((j + 1 : Nat) : Int) by omega]
   have m1 : ∀ {a : Nat}, a ≠ h21.next → a ∉ [h21.next] := fun h h2 => h (List.mem_singleton.1 h2)
   have key := fen_inner hi hl hok hbx hxf hk r (j + 1) fu h5 (by omega) (by omega) (kb4.tch t5 (by omega) (m1 hbx)) (by omega) (kx4.tch t5 (by omega) (m1 hxf)) (by omega) (by rw [hz]; exact kf5) (by omega) ((T.trans (t4.mono fun _ h => nomatch h)).trans t5)
   rw [hz] at key
   exact key
  ·rw [if_neg hkk] at hz
   refine Wp.iff (beq_f hkk) ?_
   rw [e70]
   refine Wp.lettw (by omega) (by omega) ?_
   rw [show (j : Int) + 1 = ((j + 1 : Nat) : Int) by omega]
   have key := fen_inner hi hl hok hbx hxf hk r (j + 1) fu h4 (by omega) (by omega) kb4 (by omega) kx4 (by omega) (by rw [hz]; exact kf4) (by omega) (T.trans (t4.mono fun _ h => nomatch h))
   rw [hz] at key
   exact key
end
section
variable {n D d : Nat} {h H : AHeap} {L : List Snd} {v : AV} {Q : ARes → AHeap → Prop}
theorem fen_loop (hok : OkJ [] L) (k : SndAt h v L) (hl : L.length < 1000000) (hn : 1000000 < n) {k6 : AHeap → R} (hk : ∀ H, Tch [] h H → Wp (k6 H) Q) :
  ∀ (r i fu : Nat) (H : AHeap), r + i = L.length → r < fu → Tch [] h H → Wp (law22_fenced_L0 (wL n (D + 1) (d + 1) false) n v (L.length : Int) k6 fu (i : Int) H) Q
 | _, _, 0, _, _, hf, _ => by omega
 | 0, i, fu + 1, H, hi, _, T => by
  rw [law22_fenced_L0_s]
  unfold law22_fenced_L0b
  exact Wp.lett (Wp.iff (by rw [decide_eq_false_iff_not]; omega) (hk H T))
 | r + 1, i, fu + 1, H, hi, hf, T => by
  have hil : i < L.length := by omega
  obtain ⟨hc, hr⟩ := OkJ_at L [] hok i hil
  rw [List.nil_append] at hr
  obtain ⟨ha, hq⟩ := refJ_ok hr
  have kH := k.tch T (fun _ _ h => nomatch h)
  obtain ⟨p, p1, p2⟩ := kH.at hil
  obtain ⟨b, hv, kb, lb⟩ : ∃ b, v = .sl b 0 L.length 5 ∧ RowH H b TTk (sndsC L) ∧ b < H.next := by
   rcases kH with ⟨_, h0⟩ | k
   ·rw [h0] at hil
    cases hil
   ·exact k
  rw [law22_fenced_L0_s]
  unfold law22_fenced_L0b
  refine Wp.lett (Wp.ift (by rw [decide_eq_true_eq]; omega) (Wp.obind p1 (Wp.obind p2 (Wp.mnew (Mem.nil [] H) fun h2 M2 => ?_))))
  rw [newP_eq H]
  refine Wp.sa0 M2 rfl rfl (snd_one _) fun h3 M3 => Wp.mnew M3 fun h4 M4 => ?_
  have t4 := M4.tch
  have n4 := t4.1
  have kx := M4.at1.1
  have lx := M4.at1.2.1
  have kf := M4.at0.1
  have lf := M4.at0.2.1
  have l3 := M3.at0.2.1
  have kb4 := kb.tch t4 lb (fun h => nomatch h)
  have hsl : sliceA Try.prog h4 TTks v none (some (.int .i64 (i : Int))) = some (.val (.sl b 0 i 5), h4) := by
   rw [hv]
   exact slice_to (k1 := .i64) (e := TTk) (by kernel_rfl) (by kernel_rfl) (by kernel_rfl) (show i ≤ L.length by omega)
  refine Wp.outK hsl (Wp.obind (show lenL (.sl b 0 i 5) = some (i : Int) from rfl) (Wp.lettG fun k33 e33 => ?_))
  have key := fen_inner (L := L) (H := h4) (Q := Q) (h10 := H) (h21 := h3) (x := L[i]) (b := b) (i := i) (by omega) hl hok.all (by omega) (by omega) (k33 := k33) (fun H2 kx2 kf2 t2 => ?_) i 0 n h4 (Nat.add_zero _) (by omega) kb4 (by omega) kx lx kf lf (Tch.refl _ _)
  ·exact key
  rw [e33]
  have T2 : Tch [] h H2 := (T.trans t4).trans' t2 fun b hb => .inr (by rw [List.mem_singleton.1 hb]; have := T.1; omega)
  refine Wp.obind (RowH.cell' kx2 rfl) (Wp.obind (avInt_int _ _) (Wp.lett (Wp.lettG fun j44 e44 => Wp.iff (bne_f hq) ?_)))
  rw [newP_eq h3]
  refine Wp.obind (kf2.ldAll rfl) (Wp.obind (show ldRow H2 2 (.ptr H.next 1) = some [.int .i64 L[i].t, .int .i64 L[i].e] from kx2.ld (o := 1) (n := 2) (show 1 + 2 ≤ 5 by decide)) (Wp.callN ((wL_b 53).trans (above_w (n := n) (d := D) _ _ _ _)) (Wp.obind (avBool_bool _) ?_)))
  rw [ha, e44]
  refine Wp.iff rfl (Wp.lettw (by omega) (by omega) ?_)
  rw [show (i : Int) + 1 = ((i + 1 : Nat) : Int) by omega]
  exact fen_loop hok k hl hn hk r (i + 1) fu H2 (by omega) (by omega) T2
theorem fenced_w (hok : OkJ [] L) (k : SndAt h v L) (hl : L.length < 1000000) (hn : 1000000 < n) : ∃ h', wL n (D + 1) (d + 2) false 30 [v] h = some (.ret (.bool true), h') ∧ Tch [] h h' := by
 suffices hK : Wp (law22_fenced (wL n (D + 1) (d + 1) false) n v h) fun r h' => r = .ret (.bool true) ∧ Tch [] h h' by
  obtain ⟨_, h', e, rfl, t⟩ := hK
  exact ⟨h', wL_law22_fenced n (D + 1) (d + 1) _ e, t⟩
 unfold law22_fenced
 refine Wp.obind k.len (Wp.lettG fun k6 e6 => ?_)
 refine fen_loop (D := D) (d := d) hok k hl hn (fun H T => ?_) L.length 0 n h (Nat.add_zero _) (by omega) (Tch.refl _ _)
 rw [e6]
 exact Wp.ret ⟨rfl, T⟩
end
theorem rdi_nil (lo : Nat → Prop) (h : AHeap) : RdI lo h .nsl [] := ⟨rfl, fun _ _ _ _ _ hi => absurd hi (Nat.not_lt_zero _)⟩
section
variable {n d D : Nat} {H : AHeap}
theorem one_w (a b c e : Int) (s : Bytes) : ∃ H', wL n D (d + 1) false 12 [.int .i64 a, .int .i64 b, .int .i64 c, .int .i64 e, strA s] H = some (.ret (.agg (sndC ⟨a, b, c, e, s⟩)), H') ∧ Tch [] H H' := by
 suffices hK : Wp (law22_one (wL n D d false) n a b c e s H) fun r H' => r = .ret (.agg (sndC ⟨a, b, c, e, s⟩)) ∧ Tch [] H H' by
  obtain ⟨_, H', e, rfl, t⟩ := hK
  exact ⟨H', wL_law22_one n D d _ _ _ _ _ e, t⟩
 unfold law22_one
 refine Wp.mnew (Mem.nil [] H) fun h2 M2 => Wp.obind (bldSnd _ _ _ _ _) ?_
 rw [newP_eq H]
 exact Wp.sa0 M2 rfl rfl rfl fun h3 M3 => Wp.lr0 M3 rfl (Wp.ret ⟨rfl, M3.tch⟩)
theorem fresh {N : Nat} (hX : H.ex = []) (hn : 1000000000 < n) (hN : N ≤ H.next) : ∃ H1, wL n (D + 6) (d + 6) false 8 [] H = some (.ret (.ptr H.next 0), H1) ∧ Tch [] H H1 ∧ ∃ lo' nb' H' jb S s', wL n (D + 6) (d + 6) false 9 [.ptr H.next 0] H1 = some (.ret (.tup [.ptr jb 0, .int .i64 0]), H') ∧ Sy N lo' nb' H' H.next jb s' [] 4 ∧ s'.p = -1 ∧ Tch S H1 H' ∧ ∀ b ∈ S, N ≤ b := by
 obtain ⟨H1, e1, K, t1⟩ := new_ok (n := n) (d := D + 5) (h := H) hX
 have C : Crd N (fun b => H.next ≤ b) H1 H.next newS 0 [] := ⟨K, rfl, ⟨[], ⟨rfl, rfl, rfl, takeR_nil, fun _ => ⟨rfl, rfl⟩⟩⟩, trivial, fun _ hb => Nat.le_trans hN hb, Nat.le_trans hN t1.1⟩
 obtain ⟨lo', nb', H', jb, S, s', e, Y, hp, _, _, t, hS⟩ := C.open (D := D) (d := d) hn (by decide)
 exact ⟨H1, (wL_b 8).trans e1, t1, lo', nb', H', jb, S, s', e, Y, hp, t, fun b hb => Nat.le_trans hN (hS b hb)⟩
theorem Sy.alloc {N db jb B : Nat} {lo nb : Nat → Prop} {H' : AHeap} {s : DS} {L : List Snd} (Y : Sy N lo nb H db jb s L B) (t : Tch [] H H') : Sy N (shr lo H.next H'.next) nb H' db jb s L B :=
 ⟨Y.K.part t (fun _ h => nomatch h), Y.J.tch t (fun _ h => nomatch h), fun b hb => ⟨(Y.sep b hb).1, fun h => (Y.sep b hb).2.1 h.1, Nat.lt_of_lt_of_le (Y.sep b hb).2.2 t.1⟩, Y.fi, Y.ok, fun b hb => Y.hl b hb.1, Nat.le_trans Y.hN t.1⟩
def xOne : Snd := ⟨1, 2, 1, 1, [97]⟩
set_option maxHeartbeats 1000000 in
theorem works_w (hX : H.ex = []) (hn : 1000000000 < n) : ∃ H', wL n (D + 6) (d + 7) false 7 [] H = some (.ret (.bool true), H') ∧ Tch [] H H' := by
 suffices hK : Wp (law22_works ((wL n (D + 6) (d + 6)) false) n H) fun r H' => r = .ret (.bool true) ∧ Tch [] H H' by
  obtain ⟨_, H', e, rfl, k⟩ := hK
  exact ⟨H', wL_law22_works n (D + 6) (d + 6) e, k⟩
 unfold law22_works
 obtain ⟨H1, e1, t1, lo2, nb2, H2, jb, S2, s2, e2, Y2, hp2, t2, hS2⟩ := fresh (D := D) (d := d) (N := H.next) hX hn (Nat.le_refl _)
 have T2 : Tch [] H H2 := t1.trans' t2 fun b hb => .inr (hS2 b hb)
 refine Wp.callN e1 (Wp.callN e2 (Wp.obind (extT_0 _ _) (Wp.obind (extT_1 _ _ _) (Wp.obind (avInt_int _ _) (Wp.lett (Wp.lettG fun j17 e17 => Wp.iff rfl (Wp.outK (eqJou jb H2) (Wp.obind (avBool_bool _) ?_))))))))
 rw [e17]
 obtain ⟨H3, e3, t3⟩ := one_w (n := n) (D := D + 6) (d := d + 5) (H := H2) 1 2 1 1 [97]
 have Y3 := Y2.alloc t3
 obtain ⟨lo4, nb4, H4, S4, e, s4, e4, L4, t4, hS4, _, hok, hcase⟩ := Y3.add (n := n) (D := D) (d := d + 5) (by omega) (by decide) xOne (by decide)
 have h0 : e = 0 := hok hp2 (by decide) (by decide)
 subst h0
 have T4 : Tch [] H H4 := (T2.trans t3).trans' t4 fun b hb => .inr ((hS4 b hb).elim (Y3.hl b) fun h => (Y3.sep b h).1)
 refine Wp.lettG fun j23 e23 => Wp.iff rfl (Wp.callN e3 (Wp.obind (avAgg_agg _) (Wp.callN e4 (Wp.obind (avInt_int _ _) (Wp.lett ?_)))))
 rw [e23]
 rcases hcase with ⟨h, _⟩ | ⟨_, Y4⟩ | ⟨h, _⟩
 ·exact absurd rfl h
 ·obtain ⟨H5, S5, s5, e5, C5, t5, hS5⟩ := Y4.crash (n := n) (D := D) (d := d + 5) (by omega) (by decide) (torn := 0) (by decide) (zs := []) (by decide) (rdi_nil _ _)
  obtain ⟨lo6, nb6, H6, jb6, S6, s6, e6, Y6, _, _, _, t6, hS6⟩ := C5.open (n := n) (D := D) (d := d) hn (by decide)
  have T6 : Tch [] H H6 := (T4.trans' t5 fun b hb => .inr (Y4.hl b (hS5 b hb))).trans' t6 fun b hb => .inr (Y4.hl b (hS6 b hb))
  obtain ⟨H7, v, e7, s7, _, t7⟩ := list_w (n := n) (D := D + 5) (d := d + 3) Y6.J (fun b hb => (Y6.sep b hb).2.2) (by rw [T6.2.1, hX]) (by decide) (by omega)
  obtain ⟨H8, e8, t8⟩ := one_w (n := n) (D := D + 6) (d := d + 5) (H := H7) 1 2 1 1 [97]
  refine Wp.lettG fun j28 e28 => Wp.iff rfl (Wp.callN e5 (Wp.obind (avInt_int _ _) (Wp.lett ?_)))
  rw [e28]
  refine Wp.iff rfl (Wp.callN e6 (Wp.obind (extT_0 _ _) (Wp.obind (extT_1 _ _ _) (Wp.obind (avInt_int _ _) (Wp.lett (Wp.lettG fun j39 e39 => Wp.iff rfl (Wp.outK (eqJou jb6 H6) (Wp.obind (avBool_bool _) ?_))))))))
  rw [e39]
  refine Wp.iff rfl (Wp.callN e7 (Wp.obind (extT_0 _ _) (Wp.obind (extT_1 _ _ _) (Wp.obind (avBool_bool _) (Wp.lettG fun j51 e51 => Wp.ift rfl (Wp.callN e8 (Wp.obind (avAgg_agg _) (Wp.mnews (Mem.nil [] H8) (bldTk _ _ _ _ _ _) rfl (by rw [t8.2.1, t7.2.1, T6.2.1, hX]; rfl) fun H9 M9 => ?_))))))))
  have s9 : SndAt H9 (.sl H8.next 0 1 5) [xOne] := .inr ⟨H8.next, rfl, M9.at0.1, M9.at0.2.1⟩
  have s79 : SndAt H9 v [xOne] := (s7.tch t8 (fun _ _ h => nomatch h)).tch M9.tch (fun _ _ h => nomatch h)
  refine Wp.callN (same_w (n := n) (D := D + 6) (d := d + 5) s79 s9 (by decide) (by omega)) (Wp.obind (avBool_bool _) ?_)
  rw [e51]
  exact Wp.ret ⟨rfl, ((T6.trans t7).trans t8).trans M9.tch⟩
 ·cases h
end
noncomputable def law22_JournalKept_L0b (call : CallF) (t0 : AV) (r18 : AV) (t27 : Int) (k33 : AV → AV → AHeap → R) (self : AV → AV → Int → AHeap → R) (t4_55 : AV) (t6_56 : AV) (t28 : Int) (h_57 : AHeap) : R :=
 lett (decide (t28 < t27)) fun (t29 : Bool) =>
 ifB t29
 (
  lett (fun (t4_64 : AV) (t6_65 : AV) (h_66 : AHeap) =>
   lett (IntKind.i64.wrap (t28 + 1)) fun (t121 : Int) =>
   self t4_64 t6_65 t121 h_66) fun k63 =>
  obind (idxP 9 t0 t28) fun t30 =>
  obind (ldRow h_57 9 t30) fun t31 =>
  lett (newH h_57 53 [.int .i64 0, .int .i64 0, .int .i64 0, .int .i64 0, .int .i64 0, .int .i64 0, .str 0 0, .str 0 0, .int .i64 0]) fun h_71 =>
  obind (stRow h_71 9 t31 (newP h_57)) fun h_73 =>
  obind (ldCell h_73 (AV.ptr (AHeap.next h_57) 0)) fun v33 =>
  obind (avInt .i64 v33) fun t33 =>
  obind (remI .i64 t33 2) fun t34 =>
  lett ((t34 : Int) == 1) fun (t35 : Bool) =>
  lett (fun  (h_82 : AHeap) =>
   obind (ldRow h_82 5 (AV.ptr (AHeap.next h_57) 2)) fun t43 =>
   callN (call 11 [t4_55, .agg t43] h_82) fun r44 h_85 =>
   obind (avInt .i64 r44) fun t44 =>
   lett ((t44 : Int) == 0) fun (t46 : Bool) =>
   lett (fun (t6_92 : AV) (h_93 : AHeap) =>
    lett ((t44 : Int) != 40) fun (t53 : Bool) =>
    ifB t53
    (
     k63 t4_55 t6_92 h_93)
    (
     obind (ldCell h_93 (AV.ptr (AHeap.next h_57) 8)) fun v56 =>
     obind (avInt .i64 v56) fun t56 =>
     outK (bldSl Try.prog h_93 63 1 [(0, .int .i64 t56)]) fun v57 h_100 =>
     obind (ldCell h_100 (AV.ptr (AHeap.next h_57) 1)) fun v59 =>
     obind (avInt .i64 v59) fun t59 =>
     callN (call 13 [r18, v57, .int .i64 t59] h_100) fun r60 h_104 =>
     obind (avInt .i64 r60) fun _ =>
     callN (call 9 [r18] h_104) fun r63 h_108 =>
     obind (extT 0 r63) fun v64 =>
     obind (extT 1 r63) fun v65 =>
     obind (avInt .i64 v65) fun t65 =>
     lett ((t65 : Int) != 0) fun (t67 : Bool) =>
     lett (fun (t71 : Bool) (h_116 : AHeap) =>
      ifB t71
      (
       some (.ret (.bool false), h_116))
      (
       callN (call 14 [v64] h_116) fun r74 h_121 =>
       obind (extT 0 r74) fun v75 =>
       obind (extT 1 r74) fun v76 =>
       obind (avBool v76) fun t76 =>
       lett (fun (t119 : Bool) (h_129 : AHeap) =>
        ifB t119
        (
         some (.ret (.bool false), h_129))
        (
         k63 v64 v75 h_129)) fun k128 =>
       lett (!t76) fun (t78 : Bool) =>
       ifB t78
       (
        k128 true h_121)
       (
        obind (lenL v75) fun t81 =>
        obind (lenL t6_92) fun t83 =>
        lett (decide (t81 < t83)) fun (t84 : Bool) =>
        ifB t84
        (
         k128 true h_121)
        (
         obind (lenL v75) fun t88 =>
         obind (lenL t6_92) fun t90 =>
         lett (IntKind.i64.wrap (t90 + 1)) fun (t91 : Int) =>
         lett (decide (t88 > t91)) fun (t92 : Bool) =>
         ifB t92
         (
          k128 true h_121)
         (
          obind (lenL t6_92) fun t97 =>
          outK (sliceA Try.prog h_121 39 v75 none (some (.int .i64 t97))) fun v98 h_140 =>
          callN (call 15 [v98, t6_92] h_140) fun r100 h_142 =>
          obind (avBool r100) fun t100 =>
          lett (!t100) fun (t101 : Bool) =>
          ifB t101
          (
           k128 true h_142)
          (
           obind (lenL v75) fun t105 =>
           obind (lenL t6_92) fun t107 =>
           lett (decide (t105 > t107)) fun (t108 : Bool) =>
           ifB t108
           (
            obind (lenL t6_92) fun t112 =>
            obind (idxP 5 v75 t112) fun t113 =>
            obind (ldRow h_142 5 t113) fun t114 =>
            obind (ldRow h_142 5 (AV.ptr (AHeap.next h_57) 2)) fun t116 =>
            obind (eqOther Try.prog 35 (.agg t114) (.agg t116)) fun t117 =>
            lett (!t117) fun (t117_154 : Bool) =>
            k128 t117_154 h_142)
           (
            k128 false h_142))))))) fun j71 =>
     ifB t67
     (
      j71 true h_108)
     (
      outK (opBin Try.prog h_108 .eql 25 true (some v64) (some AV.nilp)) fun v70 h_156 =>
      obind (avBool v70) fun t70 =>
      j71 t70 h_156))) fun k91 =>
   ifB t46
   (
    obind (ldRow h_85 5 (AV.ptr (AHeap.next h_57) 2)) fun t49 =>
    outK (bldSl Try.prog h_85 39 1 [(0, .agg t49)]) fun v50 h_160 =>
    outK (opAppend Try.prog h_160 39 39 t6_56 v50) fun v51 h_162 =>
    k91 v51 h_162)
   (
    k91 t6_56 h_85)) fun k81 =>
  ifB t35
  (
   obind (ldCell h_73 (AV.ptr (AHeap.next h_57) 1)) fun v38 =>
   obind (avInt .i64 v38) fun t38 =>
   lett (if 0 > t38 then 0 else t38) fun (t39 : Int) =>
   callN (call 22 [r18, .int .i64 t39] h_73) fun r40 h_167 =>
   obind (avInt .i64 r40) fun _ =>
   k81 h_167)
  (
   k81 h_73))
 (
  k33 t4_55 t6_56 h_57)
noncomputable def law22_JournalKept_L0 (call : CallF) (t0 : AV) (r18 : AV) (t27 : Int) (k33 : AV → AV → AHeap → R) : Nat → AV → AV → Int → AHeap → R := iterR (fun _ _ _ _ => none) (law22_JournalKept_L0b call t0 r18 t27 k33)
theorem law22_JournalKept_L0_s (call : CallF) (t0 : AV) (r18 : AV) (t27 : Int) (k33 : AV → AV → AHeap → R) (m : Nat) : law22_JournalKept_L0 call t0 r18 t27 k33 (m + 1) = law22_JournalKept_L0b call t0 r18 t27 k33 (law22_JournalKept_L0 call t0 r18 t27 k33 m) := rfl
noncomputable def law22_JournalKept (call : CallF) (n : Nat) (t0 : AV) (h : AHeap) : R :=
 callN (call 7 [] h) fun r14 h_4 =>
 obind (avBool r14) fun t14 =>
 lett (!t14) fun (t15 : Bool) =>
 ifB t15
 (
  some (.ret (.bool false), h_4))
 (
  callN (call 18 [t0] h_4) fun r17 h_11 =>
  obind (avBool r17) fun t17 =>
  ifB t17
  (
   some (.ret (.bool true), h_11))
  (
   callN (call 8 [] h_11) fun r18 h_16 =>
   callN (call 9 [r18] h_16) fun r21 h_19 =>
   obind (extT 0 r21) fun v22 =>
   obind (extT 1 r21) fun v23 =>
   obind (avInt .i64 v23) fun t23 =>
   lett ((t23 : Int) != 0) fun (t25 : Bool) =>
   ifB t25
   (
    some (.ret (.bool false), h_19))
   (
    obind (lenL t0) fun t27 =>
    lett (fun (t4 : AV) (t6 : AV) (h_34 : AHeap) =>
     callN (call 14 [t4] h_34) fun r124 h_36 =>
     obind (extT 0 r124) fun v125 =>
     obind (extT 1 r124) fun v126 =>
     obind (avBool v126) fun t126 =>
     lett (fun (t132 : Bool) (h_42 : AHeap) =>
      lett (fun (t136 : Bool) (h_45 : AHeap) =>
       some (.ret (.bool t136), h_45)) fun j136 =>
      ifB t132
      (
       callN (call 30 [v125] h_42) fun r135 h_48 =>
       obind (avBool r135) fun t135 =>
       j136 t135 h_48)
      (
       j136 false h_42)) fun j132 =>
     ifB t126
     (
      callN (call 15 [v125, t6] h_36) fun r131 h_51 =>
      obind (avBool r131) fun t131 =>
      j132 t131 h_51)
     (
      j132 false h_36)) fun k33 =>
    law22_JournalKept_L0 call t0 r18 t27 k33 n v22 AV.nsl 0 h_19)))
set_option maxHeartbeats 4000000 in
set_option maxRecDepth 20000 in
theorem law22_JournalKept_ok {call : CallF} (hc : SaysAll Try.prog call) {n : Nat} {t0 : AV} {h : AHeap} {rR : ARes} {hR : AHeap} (hF : law22_JournalKept call n t0 h = some (rR, hR)) : Says Try.prog 6 [t0] h rR hR := by
 unfold law22_JournalKept at hF
 refine sO Try.func6 fun w0 m0 => ?_
 refine wW [(0, t0)] ?_
 refine oG fun n1 => W.r ?_
 refine oA 2 (.bool false) ?_
 refine oV [(0, t0)] (n1 ?_)
 refine oH fun n2 q2 => ?_
 refine oG fun n3 => W.r ?_
 refine oCb hc 14 hF fun t14 h_4 hF => ?_
 refine oB 15 hF fun t15 hF => ?_
 refine oV [(0, t0), (15, .bool t15)] (n3 ?_)
 cases t15 with
 | true =>
  refine oT hF fun hF => ?_
  refine oG fun n8 => W.r ?_
  refine oA 2 (.bool false) ?_
  refine oV [(2, .bool false)] (n8 (oY (q2 ?_)))
  exact lZ hF [.tmp 2] [.bool false] (rT res_nil)
 | false =>
  refine oU hF fun hF => ?_
  refine oZ (n2 ?_)
  refine oH fun n9 q9 => ?_
  refine oG fun n10 => W.r ?_
  refine oA 16 t0 ?_
  refine oCb hc 17 hF fun t17 h_11 hF => ?_
  refine oV [(0, t0), (17, .bool t17)] (n10 ?_)
  cases t17 with
  | true =>
   refine oT hF fun hF => ?_
   refine oG fun n14 => W.r ?_
   refine oA 2 (.bool true) ?_
   refine oV [(2, .bool true)] (n14 (oY (q9 ?_)))
   exact lZ hF [.tmp 2] [.bool true] (rT res_nil)
  | false =>
   refine oU hF fun hF => ?_
   refine oZ (n9 ?_)
   refine oG fun n15 => W.r ?_
   refine oC hc (some 18) hF fun r18 h_16 hF => ?_
   refine oA 3 r18 ?_
   refine oV [(0, t0), (3, r18)] (n15 ?_)
   refine oG fun n18 => W.r ?_
   refine oA 20 r18 ?_
   refine oC hc (some 21) hF fun r21 h_19 hF => ?_
   refine oA 19 r21 ?_
   refine oE 22 hF fun v22 hF => ?_
   refine oEi 23 hF fun t23 hF => ?_
   refine oA 4 v22 ?_
   refine oA 5 (.int .i64 t23) ?_
   refine oV [(0, t0), (3, r18), (4, v22), (5, .int .i64 t23)] (n18 ?_)
   refine oH fun n24 q24 => ?_
   refine oG fun n25 => W.r ?_
   refine oA 24 (.int .i64 t23) ?_
   refine oB 25 hF fun t25 hF => ?_
   refine oV [(0, t0), (3, r18), (4, v22), (25, .bool t25)] (n25 ?_)
   cases t25 with
   | true =>
    refine oT hF fun hF => ?_
    refine oG fun n27 => W.r ?_
    refine oA 2 (.bool false) ?_
    refine oV [(2, .bool false)] (n27 (oY (q24 ?_)))
    exact lZ hF [.tmp 2] [.bool false] (rT res_nil)
   | false =>
    refine oU hF fun hF => ?_
    refine oZ (n24 ?_)
    refine oG fun n28 => W.r ?_
    refine oA 6 AV.nsl ?_
    refine oV [(0, t0), (3, r18), (4, v22), (6, AV.nsl)] (n28 ?_)
    refine W.s (fun K29 n29 e29 q29 p29 => ?_)
    refine oG fun n30 => W.r ?_
    refine oA 26 t0 ?_
    refine oM 27 45 53 hF fun t27 hF => ?_
    refine oA 28 (.int .i64 0) ?_
    refine oV [(3, r18), (4, v22), (6, AV.nsl), (26, t0), (27, .int .i64 t27), (28, .int .i64 0)] (n30 ?_)
    obtain ⟨k33, e33, hF⟩ := lett_some hF
    have J33 : ∀ (t4 : AV) (t6 : AV) (h_34 : AHeap), k33 t4 t6 h_34 = some (rR, hR) → Go w0 m0 (Func.ntmps Try.f6) (K29 .normal) [(4, t4), (6, t6)] [] h_34 := by
     intro t4 t6 h_34 hF
     rw [e33] at hF
     refine n29 ?_
     refine oG fun n35 => W.r ?_
     refine oA 123 t4 ?_
     refine oC hc (some 124) hF fun r124 h_36 hF => ?_
     refine oA 122 r124 ?_
     refine oE 125 hF fun v125 hF => ?_
     refine oEb 126 hF fun t126 hF => ?_
     refine oA 12 v125 ?_
     refine oA 13 (.bool t126) ?_
     refine oV [(6, t6), (12, v125), (13, .bool t126)] (n35 ?_)
     refine W.s (fun K41 n41 e41 q41 p41 => ?_)
     refine W.r ?_
     refine oA 127 (.bool t126) ?_
     refine oA 128 (.bool t126) ?_
     obtain ⟨j132, e43, hF⟩ := lett_some hF
     have J44 : ∀ (t132 : Bool) (h_42 : AHeap), j132 t132 h_42 = some (rR, hR) → WL Try.prog w0 m0 (Func.ntmps Try.f6) (Code.ops (Code.p1 (Code.p2 (Code.p2 (Code.p2 (Code.p2 (Code.p2 (Code.p2 (Code.p2 (Code.p2 (Code.p2 (codeOf Try.f6)))))))))))) 6 K41 [(12, v125), (132, .bool t132)] [] h_42 := by
      intro t132 h_42 hF
      rw [e43] at hF
      refine oA 133 (.bool t132) ?_
      obtain ⟨j136, e46, hF⟩ := lett_some hF
      have J47 : ∀ (t136 : Bool) (h_45 : AHeap), j136 t136 h_45 = some (rR, hR) → WL Try.prog w0 m0 (Func.ntmps Try.f6) (Code.ops (Code.p1 (Code.p2 (Code.p2 (Code.p2 (Code.p2 (Code.p2 (Code.p2 (Code.p2 (Code.p2 (Code.p2 (codeOf Try.f6)))))))))))) 10 K41 [(136, .bool t136)] [] h_45 := by
       intro t136 h_45 hF
       rw [e46] at hF
       refine oA 2 (.bool t136) ?_
       refine oV [(2, .bool t136)] (n41 (oY ?_))
       exact lZ hF [.tmp 2] [.bool t136] (rT res_nil)
      cases t132 with
      | true =>
       replace hF := ifB_t hF
       refine oA 134 v125 ?_
       refine oCb hc 135 hF fun t135 h_48 hF => ?_
       refine oA 136 (.bool t135) ?_
       exact lW _ (J47 _ _ hF)
      | false =>
       replace hF := ifB_f hF
       refine WL.o (some 134) ?_
       refine WL.o (some 135) ?_
       refine oA 136 (.bool false) ?_
       exact lW _ (J47 _ _ hF)
     cases t126 with
     | true =>
      replace hF := ifB_t hF
      refine oA 129 v125 ?_
      refine oA 130 t6 ?_
      refine oCb hc 131 hF fun t131 h_51 hF => ?_
      refine oA 132 (.bool t131) ?_
      exact lW _ (J44 _ _ hF)
     | false =>
      replace hF := ifB_f hF
      refine WL.o (some 129) ?_
      refine WL.o (some 130) ?_
      refine WL.o (some 131) ?_
      refine oA 132 (.bool false) ?_
      exact lW _ (J44 _ _ hF)
    refine W.blockK (by kernel_rfl) (fun K32 n32 s32 o32 q32 p32 => ?_)
    refine W.loopK (by kernel_rfl) (fun I54 K54 b54 n54 e54 q54 p54 => ?_)
    have L54 : ∀ (m : Nat) (t4_55 : AV) (t6_56 : AV) (t28 : Int) (h_57 : AHeap), law22_JournalKept_L0 call t0 r18 t27 k33 m t4_55 t6_56 t28 h_57 = some (rR, hR) → Go w0 m0 (Func.ntmps Try.f6) I54 [(3, r18), (4, t4_55), (6, t6_56), (26, t0), (27, .int .i64 t27), (28, .int .i64 t28)] [] h_57 := by
     intro m
     induction m with
     | zero => intro t4_55 t6_56 t28 h_57 hF; cases hF
     | succ m ih54 =>
      intro t4_55 t6_56 t28 h_57 hF
      rw [law22_JournalKept_L0_s] at hF; unfold law22_JournalKept_L0b at hF
      refine b54 ?_
      refine oG fun n58 => W.r ?_
      refine oB 29 hF fun t29 hF => ?_
      refine oV [(3, r18), (4, t4_55), (6, t6_56), (26, t0), (27, .int .i64 t27), (28, .int .i64 t28), (29, .bool t29)] (n58 ?_)
      refine W.s (fun K60 n60 e60 q60 p60 => ?_)
      cases t29 with
      | true =>
       refine oT hF fun hF => ?_
       refine oZ (n60 ?_)
       refine W.s (fun K61 n61 e61 q61 p61 => ?_)
       obtain ⟨k63, e63, hF⟩ := lett_some hF
       have J63 : ∀ (t4_64 : AV) (t6_65 : AV) (h_66 : AHeap), k63 t4_64 t6_65 h_66 = some (rR, hR) → Go w0 m0 (Func.ntmps Try.f6) (K61 .normal) [(3, r18), (4, t4_64), (6, t6_65), (26, t0), (27, .int .i64 t27), (28, .int .i64 t28)] [] h_66 := by
        intro t4_64 t6_65 h_66 hF
        rw [e63] at hF
        refine n61 (W.r ?_)
        refine oI 121 .i64 hF fun t121 hF => ?_
        refine oA 28 (.int .i64 t121) ?_
        refine oV [(3, r18), (4, t4_64), (6, t6_65), (26, t0), (27, .int .i64 t27), (28, .int .i64 t121)] (n54 ?_)
        exact gW _ (ih54 _ _ _ _ hF)
       refine W.blockK (by kernel_rfl) (fun K62 n62 s62 o62 q62 p62 => ?_)
       refine oG fun n68 => W.r ?_
       refine oP 30 45 53 .i64 hF fun t30 hF => ?_
       refine oR 31 53 hF fun t31 hF => ?_
       refine oN 8 hF fun h_71 hF => ?_
       refine oW 53 (.agg t31) hF fun h_73 hF => ?_
       refine oV [(3, r18), (4, t4_55), (6, t6_56), (8, (newP h_57)), (26, t0), (27, .int .i64 t27), (28, .int .i64 t28)] (n68 ?_)
       refine W.s (fun K75 n75 e75 q75 p75 => ?_)
       refine oG fun n76 => W.r ?_
       refine oA 32 (AV.ptr (AHeap.next h_57) 0) ?_
       refine oLi 33 3 hF fun t33 hF => ?_
       obtain ⟨t34, e79, hF⟩ := obind_some hF
       refine WL.b (some 34) (.int .i64 t34) h_73 (rem_int (P := Try.prog) (h := h_73) (t := 3) (lit := true) e79) ?_
       refine oB 35 hF fun t35 hF => ?_
       refine oV [(3, r18), (4, t4_55), (6, t6_56), (8, (newP h_57)), (26, t0), (27, .int .i64 t27), (28, .int .i64 t28), (35, .bool t35)] (n76 ?_)
       obtain ⟨k81, e81, hF⟩ := lett_some hF
       have J81 : ∀  (h_82 : AHeap), k81 h_82 = some (rR, hR) → Go w0 m0 (Func.ntmps Try.f6) (K75 .normal) [(3, r18), (4, t4_55), (6, t6_56), (8, (newP h_57)), (26, t0), (27, .int .i64 t27), (28, .int .i64 t28)] [] h_82 := by
        intro  h_82 hF
        rw [e81] at hF
        refine n75 ?_
        refine oG fun n83 => W.r ?_
        refine oA 41 t4_55 ?_
        refine oA 42 (AV.ptr (AHeap.next h_57) 2) ?_
        refine oR 43 35 hF fun t43 hF => ?_
        refine oCi hc 44 hF fun t44 h_85 hF => ?_
        refine oA 9 (.int .i64 t44) ?_
        refine oV [(3, r18), (4, t4_55), (6, t6_56), (8, (newP h_57)), (9, .int .i64 t44), (26, t0), (27, .int .i64 t27), (28, .int .i64 t28)] (n83 ?_)
        refine W.s (fun K88 n88 e88 q88 p88 => ?_)
        refine oG fun n89 => W.r ?_
        refine oA 45 (.int .i64 t44) ?_
        refine oB 46 hF fun t46 hF => ?_
        refine oV [(3, r18), (4, t4_55), (6, t6_56), (8, (newP h_57)), (9, .int .i64 t44), (26, t0), (27, .int .i64 t27), (28, .int .i64 t28), (46, .bool t46)] (n89 ?_)
        obtain ⟨k91, e91, hF⟩ := lett_some hF
        have J91 : ∀ (t6_92 : AV) (h_93 : AHeap), k91 t6_92 h_93 = some (rR, hR) → Go w0 m0 (Func.ntmps Try.f6) (K88 .normal) [(3, r18), (4, t4_55), (6, t6_92), (8, (newP h_57)), (9, .int .i64 t44), (26, t0), (27, .int .i64 t27), (28, .int .i64 t28)] [] h_93 := by
         intro t6_92 h_93 hF
         rw [e91] at hF
         refine n88 ?_
         refine W.s (fun K94 n94 e94 q94 p94 => ?_)
         refine oG fun n95 => W.r ?_
         refine oA 52 (.int .i64 t44) ?_
         refine oB 53 hF fun t53 hF => ?_
         refine oV [(3, r18), (4, t4_55), (6, t6_92), (8, (newP h_57)), (26, t0), (27, .int .i64 t27), (28, .int .i64 t28), (53, .bool t53)] (n95 ?_)
         cases t53 with
         | true =>
          refine oT hF fun hF => ?_
          refine W.exit (by kernel_rfl) ?_
          refine e94 ?_
          refine s62 (by kernel_rfl) ?_
          exact gW _ (J63 _ _ _ hF)
         | false =>
          refine oU hF fun hF => ?_
          refine oZ (n94 ?_)
          refine oG fun n97 => W.r ?_
          refine oA 54 r18 ?_
          refine oA 55 (AV.ptr (AHeap.next h_57) 8) ?_
          refine oLi 56 3 hF fun t56 hF => ?_
          refine oK 57 hF fun v57 h_100 hF => ?_
          refine oA 58 (AV.ptr (AHeap.next h_57) 1) ?_
          refine oLi 59 3 hF fun t59 hF => ?_
          refine oCi hc 60 hF fun t60 h_104 hF => ?_
          refine oV [(3, r18), (6, t6_92), (8, (newP h_57)), (26, t0), (27, .int .i64 t27), (28, .int .i64 t28)] (n97 ?_)
          refine oG fun n107 => W.r ?_
          refine oA 62 r18 ?_
          refine oC hc (some 63) hF fun r63 h_108 hF => ?_
          refine oA 61 r63 ?_
          refine oE 64 hF fun v64 hF => ?_
          refine oEi 65 hF fun t65 hF => ?_
          refine oA 4 v64 ?_
          refine oA 9 (.int .i64 t65) ?_
          refine oV [(3, r18), (4, v64), (6, t6_92), (8, (newP h_57)), (9, .int .i64 t65), (26, t0), (27, .int .i64 t27), (28, .int .i64 t28)] (n107 ?_)
          refine oH fun n113 q113 => ?_
          refine W.s (fun K114 n114 e114 q114 p114 => ?_)
          refine W.r ?_
          refine oA 66 (.int .i64 t65) ?_
          refine oB 67 hF fun t67 hF => ?_
          refine oA 68 (.bool t67) ?_
          obtain ⟨j71, e117, hF⟩ := lett_some hF
          have J118 : ∀ (t71 : Bool) (h_116 : AHeap), j71 t71 h_116 = some (rR, hR) → WL Try.prog w0 m0 (Func.ntmps Try.f6) (Code.ops (Code.p1 (Code.p1 (Code.p2 (Code.p2 (Code.p2 (Code.p2 (Code.p2 (Code.p2 (Code.p2 (Code.p1 (Code.p1 (Code.p2 (Code.p2 (Code.p1 (Code.p1 (Code.p2 (Code.p1 (Code.p2 (Code.p2 (Code.p2 (Code.p2 (Code.p2 (Code.p2 (Code.p2 (codeOf Try.f6)))))))))))))))))))))))))) 6 K114 [(3, r18), (4, v64), (6, t6_92), (8, (newP h_57)), (26, t0), (27, .int .i64 t27), (28, .int .i64 t28), (71, .bool t71)] [] h_116 := by
           intro t71 h_116 hF
           rw [e117] at hF
           refine oV [(3, r18), (4, v64), (6, t6_92), (8, (newP h_57)), (26, t0), (27, .int .i64 t27), (28, .int .i64 t28), (71, .bool t71)] (n114 ?_)
           cases t71 with
           | true =>
            refine oT hF fun hF => ?_
            refine oG fun n119 => W.r ?_
            refine oA 2 (.bool false) ?_
            refine oV [(2, .bool false)] (n119 (oY (q113 (q62 (q61 (q54 (q32 (q29 ?_))))))))
            exact lZ hF [.tmp 2] [.bool false] (rT res_nil)
           | false =>
            refine oU hF fun hF => ?_
            refine oZ (n113 ?_)
            refine oG fun n120 => W.r ?_
            refine oA 73 v64 ?_
            refine oC hc (some 74) hF fun r74 h_121 hF => ?_
            refine oA 72 r74 ?_
            refine oE 75 hF fun v75 hF => ?_
            refine oEb 76 hF fun t76 hF => ?_
            refine oA 10 v75 ?_
            refine oA 11 (.bool t76) ?_
            refine oV [(3, r18), (4, v64), (6, t6_92), (8, (newP h_57)), (10, v75), (11, .bool t76), (26, t0), (27, .int .i64 t27), (28, .int .i64 t28)] (n120 ?_)
            refine oH fun n126 q126 => ?_
            refine W.s (fun K127 n127 e127 q127 p127 => ?_)
            obtain ⟨k128, e128, hF⟩ := lett_some hF
            have J128 : ∀ (t119 : Bool) (h_129 : AHeap), k128 t119 h_129 = some (rR, hR) → Go w0 m0 (Func.ntmps Try.f6) (K127 .normal) [(3, r18), (4, v64), (10, v75), (26, t0), (27, .int .i64 t27), (28, .int .i64 t28), (119, .bool t119)] [] h_129 := by
             intro t119 h_129 hF
             rw [e128] at hF
             refine n127 ?_
             cases t119 with
             | true =>
              refine oT hF fun hF => ?_
              refine oG fun n130 => W.r ?_
              refine oA 2 (.bool false) ?_
              refine oV [(2, .bool false)] (n130 (oY (q126 (q62 (q61 (q54 (q32 (q29 ?_))))))))
              exact lZ hF [.tmp 2] [.bool false] (rT res_nil)
             | false =>
              refine oU hF fun hF => ?_
              refine oZ (n126 (W.r ?_))
              refine oA 120 v75 ?_
              refine oA 6 v75 ?_
              refine oV [(3, r18), (4, v64), (6, v75), (26, t0), (27, .int .i64 t27), (28, .int .i64 t28)] (n62 ?_)
              exact gW _ (J63 _ _ _ hF)
            refine W.draw (by kernel_rfl) (hc.ok w0) (plan := [0, 1, 2, 3, 4, 5, 6, 7, 8, 9, 10, 11, 12, 13, 14, 15, 16, 17, 18, 19, 20, 21, 22, 23, 24, 25, 26, 27, 28, 29, 30, 31, 32, 33, 34, 35, 36, 37, 38, 39, 40, 41, 42]) (by kernel_rfl) (by kernel_rfl) (by kernel_rfl) ?_
            refine WD.a 0 (some 77) (.bool t76) h_121 ?_
            obtain ⟨t78, e131, hF⟩ := lett_some hF
            refine WD.val (d := (some 78)) (v := .bool t78) (h' := h_121) (by kernel_rfl) (by kernel_rfl) (val_of AV.bool e131 (by kernel_rfl)) (k := 0) (by kernel_rfl) (fun e => absurd e (by decide)) (by decide) ?_
            refine WD.a 0 (some 79) (.bool t78) h_121 ?_
            cases t78 with
            | true =>
             replace hF := ifB_t hF
             refine oD 0 (some 80) ?_
             refine oD 0 (some 81) ?_
             refine oD 0 (some 82) ?_
             refine oD 0 (some 83) ?_
             refine oD 0 (some 84) ?_
             refine WD.a 0 (some 85) (.bool true) h_121 ?_
             refine WD.a 0 (some 86) (.bool true) h_121 ?_
             refine oD 0 (some 87) ?_
             refine oD 0 (some 88) ?_
             refine oD 0 (some 89) ?_
             refine oD 0 (some 90) ?_
             refine oD 0 (some 91) ?_
             refine oD 0 (some 92) ?_
             refine WD.a 0 (some 93) (.bool true) h_121 ?_
             refine WD.a 0 (some 94) (.bool true) h_121 ?_
             refine oD 0 (some 95) ?_
             refine oD 0 (some 96) ?_
             refine oD 0 (some 97) ?_
             refine oD 0 (some 98) ?_
             refine oD 0 (some 99) ?_
             refine WD.not (d := (some 100)) (by kernel_rfl) (by kernel_rfl) (k := 2) (by kernel_rfl) (fun _ => (by kernel_rfl)) (by decide) ?_
             refine oD 0 (some 101) ?_
             refine WD.a 0 (some 102) (.bool true) h_121 ?_
             refine WD.a 0 (some 103) (.bool true) h_121 ?_
             refine oD 0 (some 104) ?_
             refine oD 0 (some 105) ?_
             refine oD 0 (some 106) ?_
             refine oD 0 (some 107) ?_
             refine oD 0 (some 108) ?_
             refine oD 0 (some 109) ?_
             refine oD 0 (some 110) ?_
             refine oD 0 (some 111) ?_
             refine oD 0 (some 112) ?_
             refine oD 0 (some 113) ?_
             refine oD 1 (some 114) ?_
             refine oD 0 (some 115) ?_
             refine oD 1 (some 116) ?_
             refine oD 0 (some 117) ?_
             refine oD 0 (some 118) ?_
             refine WD.a 0 (some 119) (.bool true) h_121 ?_
             refine WD.nil ?_
             exact gW _ (J128 _ _ hF)
            | false =>
             replace hF := ifB_f hF
             refine WD.a 0 (some 80) v75 h_121 ?_
             obtain ⟨t81, e132, hF⟩ := obind_some hF
             refine WD.b 0 (some 81) (.int .i64 t81) h_121 (len_row (P := Try.prog) (h := h_121) (t := 39) (e' := 35) (by kernel_rfl) e132) ?_
             refine WD.a 0 (some 82) t6_92 h_121 ?_
             obtain ⟨t83, e133, hF⟩ := obind_some hF
             refine WD.b 0 (some 83) (.int .i64 t83) h_121 (len_row (P := Try.prog) (h := h_121) (t := 39) (e' := 35) (by kernel_rfl) e133) ?_
             obtain ⟨t84, e134, hF⟩ := lett_some hF
             refine WD.val (d := (some 84)) (v := .bool t84) (h' := h_121) (by kernel_rfl) (by kernel_rfl) (val_of AV.bool e134 (by kernel_rfl)) (k := 0) (by kernel_rfl) (fun e => absurd e (by decide)) (by decide) ?_
             refine WD.a 0 (some 85) (.bool t84) h_121 ?_
             refine WD.a 0 (some 86) (.bool t84) h_121 ?_
             cases t84 with
             | true =>
              replace hF := ifB_t hF
              refine oD 0 (some 87) ?_
              refine oD 0 (some 88) ?_
              refine oD 0 (some 89) ?_
              refine oD 0 (some 90) ?_
              refine oD 0 (some 91) ?_
              refine oD 0 (some 92) ?_
              refine WD.a 0 (some 93) (.bool true) h_121 ?_
              refine WD.a 0 (some 94) (.bool true) h_121 ?_
              refine oD 0 (some 95) ?_
              refine oD 0 (some 96) ?_
              refine oD 0 (some 97) ?_
              refine oD 0 (some 98) ?_
              refine oD 0 (some 99) ?_
              refine WD.not (d := (some 100)) (by kernel_rfl) (by kernel_rfl) (k := 2) (by kernel_rfl) (fun _ => (by kernel_rfl)) (by decide) ?_
              refine oD 0 (some 101) ?_
              refine WD.a 0 (some 102) (.bool true) h_121 ?_
              refine WD.a 0 (some 103) (.bool true) h_121 ?_
              refine oD 0 (some 104) ?_
              refine oD 0 (some 105) ?_
              refine oD 0 (some 106) ?_
              refine oD 0 (some 107) ?_
              refine oD 0 (some 108) ?_
              refine oD 0 (some 109) ?_
              refine oD 0 (some 110) ?_
              refine oD 0 (some 111) ?_
              refine oD 0 (some 112) ?_
              refine oD 0 (some 113) ?_
              refine oD 1 (some 114) ?_
              refine oD 0 (some 115) ?_
              refine oD 1 (some 116) ?_
              refine oD 0 (some 117) ?_
              refine oD 0 (some 118) ?_
              refine WD.a 0 (some 119) (.bool true) h_121 ?_
              refine WD.nil ?_
              exact gW _ (J128 _ _ hF)
             | false =>
              replace hF := ifB_f hF
              refine WD.a 0 (some 87) v75 h_121 ?_
              obtain ⟨t88, e135, hF⟩ := obind_some hF
              refine WD.b 0 (some 88) (.int .i64 t88) h_121 (len_row (P := Try.prog) (h := h_121) (t := 39) (e' := 35) (by kernel_rfl) e135) ?_
              refine WD.a 0 (some 89) t6_92 h_121 ?_
              obtain ⟨t90, e136, hF⟩ := obind_some hF
              refine WD.b 0 (some 90) (.int .i64 t90) h_121 (len_row (P := Try.prog) (h := h_121) (t := 39) (e' := 35) (by kernel_rfl) e136) ?_
              obtain ⟨t91, e137, hF⟩ := lett_some hF
              refine WD.val (d := (some 91)) (v := .int .i64 t91) (h' := h_121) (by kernel_rfl) (by kernel_rfl) (val_of (AV.int .i64) e137 (by kernel_rfl)) (k := 0) (by kernel_rfl) (fun e => absurd e (by decide)) (by decide) ?_
              obtain ⟨t92, e138, hF⟩ := lett_some hF
              refine WD.val (d := (some 92)) (v := .bool t92) (h' := h_121) (by kernel_rfl) (by kernel_rfl) (val_of AV.bool e138 (by kernel_rfl)) (k := 0) (by kernel_rfl) (fun e => absurd e (by decide)) (by decide) ?_
              refine WD.a 0 (some 93) (.bool t92) h_121 ?_
              refine WD.a 0 (some 94) (.bool t92) h_121 ?_
              cases t92 with
              | true =>
               replace hF := ifB_t hF
               refine oD 0 (some 95) ?_
               refine oD 0 (some 96) ?_
               refine oD 0 (some 97) ?_
               refine oD 0 (some 98) ?_
               refine oD 0 (some 99) ?_
               refine WD.not (d := (some 100)) (by kernel_rfl) (by kernel_rfl) (k := 2) (by kernel_rfl) (fun _ => (by kernel_rfl)) (by decide) ?_
               refine oD 0 (some 101) ?_
               refine WD.a 0 (some 102) (.bool true) h_121 ?_
               refine WD.a 0 (some 103) (.bool true) h_121 ?_
               refine oD 0 (some 104) ?_
               refine oD 0 (some 105) ?_
               refine oD 0 (some 106) ?_
               refine oD 0 (some 107) ?_
               refine oD 0 (some 108) ?_
               refine oD 0 (some 109) ?_
               refine oD 0 (some 110) ?_
               refine oD 0 (some 111) ?_
               refine oD 0 (some 112) ?_
               refine oD 0 (some 113) ?_
               refine oD 1 (some 114) ?_
               refine oD 0 (some 115) ?_
               refine oD 1 (some 116) ?_
               refine oD 0 (some 117) ?_
               refine oD 0 (some 118) ?_
               refine WD.a 0 (some 119) (.bool true) h_121 ?_
               refine WD.nil ?_
               exact gW _ (J128 _ _ hF)
              | false =>
               replace hF := ifB_f hF
               refine WD.a 0 (some 95) v75 h_121 ?_
               refine WD.a 0 (some 96) t6_92 h_121 ?_
               obtain ⟨t97, e139, hF⟩ := obind_some hF
               refine WD.b 0 (some 97) (.int .i64 t97) h_121 (len_row (P := Try.prog) (h := h_121) (t := 39) (e' := 35) (by kernel_rfl) e139) ?_
               obtain ⟨v98, h_140, e141, hF⟩ := outK_some hF
               refine WD.b 0 (some 98) v98 h_140 e141 ?_
               refine WD.a 0 (some 99) t6_92 h_140 ?_
               replace hF := callN_some hF; obtain ⟨r100, h_142, e143, hF⟩ := hF
               replace hF := obind_some hF; obtain ⟨t100, c144, hF⟩ := hF
               have c144 := avBool_some c144
               subst c144
               refine WD.call (d := (some 100)) (by kernel_rfl) (by kernel_rfl) (by kernel_rfl) e143 (k := 2) (by kernel_rfl) (fun _ => (by kernel_rfl)) (by decide) ?_
               obtain ⟨t101, e145, hF⟩ := lett_some hF
               refine WD.val (d := (some 101)) (v := .bool t101) (h' := h_142) (by kernel_rfl) (by kernel_rfl) (val_of AV.bool e145 (by kernel_rfl)) (k := 0) (by kernel_rfl) (fun e => absurd e (by decide)) (by decide) ?_
               refine WD.a 0 (some 102) (.bool t101) h_142 ?_
               refine WD.a 0 (some 103) (.bool t101) h_142 ?_
               cases t101 with
               | true =>
                replace hF := ifB_t hF
                refine oD 0 (some 104) ?_
                refine oD 0 (some 105) ?_
                refine oD 0 (some 106) ?_
                refine oD 0 (some 107) ?_
                refine oD 0 (some 108) ?_
                refine oD 0 (some 109) ?_
                refine oD 0 (some 110) ?_
                refine oD 0 (some 111) ?_
                refine oD 0 (some 112) ?_
                refine oD 0 (some 113) ?_
                refine oD 1 (some 114) ?_
                refine oD 0 (some 115) ?_
                refine oD 1 (some 116) ?_
                refine oD 0 (some 117) ?_
                refine oD 0 (some 118) ?_
                refine WD.a 0 (some 119) (.bool true) h_142 ?_
                refine WD.nil ?_
                exact gW _ (J128 _ _ hF)
               | false =>
                replace hF := ifB_f hF
                refine WD.a 0 (some 104) v75 h_142 ?_
                obtain ⟨t105, e146, hF⟩ := obind_some hF
                refine WD.b 0 (some 105) (.int .i64 t105) h_142 (len_row (P := Try.prog) (h := h_142) (t := 39) (e' := 35) (by kernel_rfl) e146) ?_
                refine WD.a 0 (some 106) t6_92 h_142 ?_
                obtain ⟨t107, e147, hF⟩ := obind_some hF
                refine WD.b 0 (some 107) (.int .i64 t107) h_142 (len_row (P := Try.prog) (h := h_142) (t := 39) (e' := 35) (by kernel_rfl) e147) ?_
                obtain ⟨t108, e148, hF⟩ := lett_some hF
                refine WD.val (d := (some 108)) (v := .bool t108) (h' := h_142) (by kernel_rfl) (by kernel_rfl) (val_of AV.bool e148 (by kernel_rfl)) (k := 0) (by kernel_rfl) (fun e => absurd e (by decide)) (by decide) ?_
                refine WD.a 0 (some 109) (.bool t108) h_142 ?_
                cases t108 with
                | true =>
                 replace hF := ifB_t hF
                 refine WD.a 0 (some 110) v75 h_142 ?_
                 refine WD.a 0 (some 111) t6_92 h_142 ?_
                 obtain ⟨t112, e149, hF⟩ := obind_some hF
                 refine WD.b 0 (some 112) (.int .i64 t112) h_142 (len_row (P := Try.prog) (h := h_142) (t := 39) (e' := 35) (by kernel_rfl) e149) ?_
                 obtain ⟨t113, e150, hF⟩ := obind_some hF
                 refine WD.b 0 (some 113) t113 h_142 (index_row (P := Try.prog) (h := h_142) (t := 39) (e' := 35) (k := .i64) (by kernel_rfl) (by kernel_rfl) (by kernel_rfl) e150) ?_
                 obtain ⟨t114, e151, hF⟩ := obind_some hF
                 refine WD.b 1 (some 114) (.agg t114) h_142 (load_row (P := Try.prog) (h := h_142) (t := 35) (by kernel_rfl) (by kernel_rfl) e151) ?_
                 refine WD.a 0 (some 115) (AV.ptr (AHeap.next h_57) 2) h_142 ?_
                 obtain ⟨t116, e152, hF⟩ := obind_some hF
                 refine WD.b 1 (some 116) (.agg t116) h_142 (load_row (P := Try.prog) (h := h_142) (t := 35) (by kernel_rfl) (by kernel_rfl) e152) ?_
                 obtain ⟨t117, e153, hF⟩ := obind_some hF
                 obtain ⟨t117_154, e155, hF⟩ := lett_some hF
                 refine WD.val (d := (some 117)) (v := .bool t117_154) (h' := h_142) (by kernel_rfl) (by kernel_rfl) (val_of AV.bool e155 (Eq.trans (by kernel_rfl) (neq_other (P := Try.prog) (h := h_142) (t := 35) (lit := false) (by kernel_rfl) e153))) (k := 0) (by kernel_rfl) (fun e => absurd e (by decide)) (by decide) ?_
                 refine WD.a 0 (some 118) (.bool t117_154) h_142 ?_
                 refine WD.a 0 (some 119) (.bool t117_154) h_142 ?_
                 refine WD.nil ?_
                 exact gW _ (J128 _ _ hF)
                | false =>
                 replace hF := ifB_f hF
                 refine oD 0 (some 110) ?_
                 refine oD 0 (some 111) ?_
                 refine oD 0 (some 112) ?_
                 refine oD 0 (some 113) ?_
                 refine oD 1 (some 114) ?_
                 refine oD 0 (some 115) ?_
                 refine oD 1 (some 116) ?_
                 refine oD 0 (some 117) ?_
                 refine WD.a 0 (some 118) (.bool false) h_142 ?_
                 refine WD.a 0 (some 119) (.bool false) h_142 ?_
                 refine WD.nil ?_
                 exact gW _ (J128 _ _ hF)
          cases t67 with
          | true =>
           replace hF := ifB_t hF
           refine WL.o (some 69) ?_
           refine WL.o (some 70) ?_
           refine oA 71 (.bool true) ?_
           exact lW _ (J118 _ _ hF)
          | false =>
           replace hF := ifB_f hF
           refine oA 69 v64 ?_
           replace hF := outK_some hF; obtain ⟨v70, h_156, e157, hF⟩ := hF
           replace hF := obind_some hF; obtain ⟨t70, c158, hF⟩ := hF
           have c158 := avBool_some c158
           subst c158
           refine WL.b (some 70) (.bool t70) h_156 e157 ?_
           refine oA 71 (.bool t70) ?_
           exact lW _ (J118 _ _ hF)
        cases t46 with
        | true =>
         refine oT hF fun hF => ?_
         refine W.r ?_
         refine oA 47 t6_56 ?_
         refine oA 48 (AV.ptr (AHeap.next h_57) 2) ?_
         refine oR 49 35 hF fun t49 hF => ?_
         refine oK 50 hF fun v50 h_160 hF => ?_
         refine oK 51 hF fun v51 h_162 hF => ?_
         refine oA 6 v51 ?_
         refine oV [(3, r18), (4, t4_55), (6, v51), (8, (newP h_57)), (9, .int .i64 t44), (26, t0), (27, .int .i64 t27), (28, .int .i64 t28)] ?_
         exact gW _ (J91 _ _ hF)
        | false =>
         refine oU hF fun hF => ?_
         refine oZ ?_
         exact gW _ (J91 _ _ hF)
       cases t35 with
       | true =>
        refine oT hF fun hF => ?_
        refine W.r ?_
        refine oA 36 r18 ?_
        refine oA 37 (AV.ptr (AHeap.next h_57) 1) ?_
        refine oLi 38 3 hF fun t38 hF => ?_
        refine oI 39 .i64 hF fun t39 hF => ?_
        refine oCi hc 40 hF fun t40 h_167 hF => ?_
        refine oV [(3, r18), (4, t4_55), (6, t6_56), (8, (newP h_57)), (26, t0), (27, .int .i64 t27), (28, .int .i64 t28)] ?_
        exact gW _ (J81 _ hF)
       | false =>
        refine oU hF fun hF => ?_
        refine oZ ?_
        exact gW _ (J81 _ hF)
      | false =>
       refine oU hF fun hF => ?_
       refine W.exit (by kernel_rfl) ?_
       refine e60 (e54 ?_)
       refine s32 (by kernel_rfl) ?_
       exact gW _ (J33 _ _ _ hF)
    exact gW _ (L54 _ _ _ _ _ hF)
end Go.Proofs.Ytbhblbffdmiepaa
namespace Go.Proofs.Ytbhblbffdmiepaa
open Go.RowKit Abs
def RdS (H : AHeap) (v : AV) (L : List Snd) : Prop := lenL v = some (L.length : Int) ∧ ∀ (i : Nat) (hi : i < L.length), ∃ p, idxP 5 v (i : Int) = some p ∧ ldRow H 5 p = some (sndC L[i])
section
variable {N n D d db jb B : Nat} {lo nb : Nat → Prop} {H H' : AHeap} {s : DS} {L : List Snd} {v w : AV} {Q : ARes → AHeap → Prop}
theorem SndAt.rds (k : SndAt H v L) : RdS H v L := ⟨k.len, fun _ hi => k.at hi⟩
theorem SndAt.firsts (k : SndAt H v L) {j : Nat} (hj : j ≤ L.length) : ∃ v', sliceA Try.prog H TTks v none (some (.int .i64 (j : Int))) = some (.val v', H) ∧ RdS H v' (L.take j) := by
 rcases k with ⟨rfl, rfl⟩ | ⟨c, rfl, h2, h3⟩
 ·obtain rfl : j = 0 := Nat.le_zero.1 hj
  exact ⟨.nsl, by kernel_rfl, rfl, fun i hi => absurd hi (Nat.not_lt_zero _)⟩
 ·refine ⟨_, slice_to (k1 := .i64) (e := TTk) (by kernel_rfl) (by kernel_rfl) (by kernel_rfl) hj, ?_, fun i hi => ?_⟩
  ·rw [List.length_take, Nat.min_eq_left hj]
   rfl
  ·rw [List.length_take, Nat.min_eq_left hj] at hi
   refine ⟨_, idxP_sl hi, ?_⟩
   rw [snds_ld h2 (show i < L.length by omega), List.getElem_take]
theorem same_loop2 (k1 : RdS H v L) (k2 : RdS H w L) (hl : L.length < 1000000) {k12 : AHeap → R} (hk : Wp (k12 H) Q) : ∀ (r i fu : Nat), r + i = L.length → r < fu → Wp (law22_same_L0 v w (L.length : Int) k12 fu (i : Int) H) Q
 | _, _, 0, _, hf => by omega
 | 0, i, fu + 1, hi, _ => by
  rw [law22_same_L0_s]
  unfold law22_same_L0b
  exact Wp.lett (Wp.iff (by rw [decide_eq_false_iff_not]; omega) hk)
 | r + 1, i, fu + 1, hi, hf => by
  have hil : i < L.length := by omega
  obtain ⟨p, p1, p2⟩ := k1.2 i hil
  obtain ⟨q, q1, q2⟩ := k2.2 i hil
  rw [law22_same_L0_s]
  unfold law22_same_L0b
  refine Wp.lett (Wp.ift (by rw [decide_eq_true_eq]; omega) (Wp.obind p1 (Wp.obind p2 (Wp.obind q1 (Wp.obind q2 (Wp.obind (eqTk_self _) (Wp.lett (Wp.iff rfl (Wp.lettw (by omega) (by omega) ?_)))))))))
  rw [show (i : Int) + 1 = ((i + 1 : Nat) : Int) by omega]
  exact same_loop2 k1 k2 hl hk r (i + 1) fu (by omega) (by omega)
theorem same_r (k1 : RdS H v L) (k2 : RdS H w L) (hl : L.length < 1000000) (hn : 1000000 < n) : wL n D (d + 1) false 15 [v, w] H = some (.ret (.bool true), H) := by
 apply Wp.eq
 suffices hK : Wp (law22_same (wL n D d false) n v w H) fun r H' => r = .ret (.bool true) ∧ H' = H by
  obtain ⟨r, h', e, k⟩ := hK
  exact ⟨r, h', wL_law22_same n D d _ _ e, k⟩
 unfold law22_same
 refine Wp.obind k1.1 (Wp.obind k2.1 (Wp.lett (Wp.iff (bne_f rfl) (Wp.obind k1.1 (Wp.lettG fun k12 e12 => ?_)))))
 refine same_loop2 k1 k2 hl ?_ L.length 0 n (Nat.add_zero _) (by omega)
 rw [e12]
 exact Wp.ret ⟨rfl, rfl⟩
theorem Sy.power (Y : Sy N lo nb H db jb s L B) {p : Int} (hp : p < 9223372036854775808) : ∃ H' S, wL n (D + 6) (d + 1) false 22 [.ptr db 0, .int .i64 p] H = some (.ret (.int .i64 0), H') ∧ Sy N lo nb H' db jb ⟨s.fs, if -1 > p then -1 else p, s.ops⟩ L B ∧ Tch S H H' ∧ ∀ b ∈ S, lo b := by
 obtain ⟨H', S, e, K', t, hS⟩ := power_ok (n := n) (d := D + 5) hp Y.K
 exact ⟨H', S, (wL_b 22).trans e, ⟨K', Y.J.tch t (fun b hb h => (Y.sep b h).2.1 (hS b hb)), fun b hb => ⟨(Y.sep b hb).1, (Y.sep b hb).2.1, Nat.lt_of_lt_of_le (Y.sep b hb).2.2 t.1⟩, Y.fi, Y.ok, Y.hl, Nat.le_trans Y.hN t.1⟩, t, hS⟩
theorem Sy.ext {S : List Nat} (Y : Sy N lo nb H db jb s L B) (t : Tch S H H') (hS : ∀ b ∈ S, ¬ lo b ∧ ¬ nb b) : Sy N (shr lo H.next H'.next) nb H' db jb s L B :=
 ⟨Y.K.part t (fun b hb => .inl (hS b hb).1), Y.J.tch t (fun b hb => (hS b hb).2), fun b hb => ⟨(Y.sep b hb).1, fun h => (Y.sep b hb).2.1 h.1, Nat.lt_of_lt_of_le (Y.sep b hb).2.2 t.1⟩, Y.fi, Y.ok, fun b hb => Y.hl b hb.1, Nat.le_trans Y.hN t.1⟩
theorem Mid.ext {S : List Nat} {x : Snd} (Y : Mid N lo H db s B L x) (t : Tch S H H') (hS : ∀ b ∈ S, ¬ lo b) : Mid N (shr lo H.next H'.next) H' db s B L x :=
 ⟨Y.K.part t (fun b hb => .inl (hS b hb)), Y.tj, Y.ok, Y.c, Y.r, fun b hb => Y.hl b hb.1, Nat.le_trans Y.hN t.1⟩
theorem bldI1 (h : AHeap) (z : Int) : bldSl Try.prog h 63 1 [(0, .int .i64 z)] = outNewS h 3 [.int .i64 z] 1 1 := by kernel_rfl
theorem row_rdi {c : Nat} {z : Int} (k : RowH H c 3 [.int .i64 z]) (lc : c < H.next) (hc : ¬ lo c) : RdI lo H (.sl c 0 1 1) [z] :=
 ⟨rfl, fun S H2 t hS i hi => by
  have h1 : [z].length = 1 := rfl
  obtain rfl : i = 0 := by omega
  exact ⟨.ptr c (0 + 0 * 1), rfl, RowH.cell' (k.tch t lc fun h => hc (hS _ h)) rfl⟩⟩
end
theorem rem2 (z : Int) : remI .i64 z 2 = some (z.tmod 2) := by
 unfold remI
 rw [if_neg (by decide)]
section
variable {n d D db : Nat} {h0 H H' : AHeap} {a : AV} {xs : List Sp} {Q : ARes → AHeap → Prop}
set_option maxHeartbeats 4000000 in
theorem kept_loop (hn : 1000000000 < n) (hs : Slc h0.next h0 9 a (xs.map spC)) (ho : ∀ x ∈ xs, SpOk x) (hsz : ∀ x ∈ xs, x.x.s.length ≤ 16384) (hl : xs.length ≤ 100) {k33 : AV → AV → AHeap → R}
  (hk : ∀ H lo nb s L B jb sv, Sy h0.next lo nb H db jb s L B → SndAt H sv L → L.length ≤ 100 → Tch [] h0 H → Wp (k33 (.ptr jb 0) sv H) Q) :
  ∀ (todo : List Sp) (i fu : Nat) (H : AHeap) (lo nb : Nat → Prop) (s : DS) (L : List Snd) (B jb : Nat) (sv : AV), xs.drop i = todo → todo.length < fu → Sy h0.next lo nb H db jb s L B → SndAt H sv L → (∀ b ∈ blkV sv, h0.next ≤ b ∧ ¬ lo b ∧ ¬ nb b) → L.length ≤ i → i ≤ xs.length → B + 210 * todo.length ≤ 400000 → Tch [] h0 H →
   Wp (law22_JournalKept_L0 (wL n (D + 6) (d + 6) false) a (.ptr db 0) (xs.length : Int) k33 fu (.ptr jb 0) sv (i : Int) H) Q
 | _, _, 0, _, _, _, _, _, _, _, _, _, hf, _, _, _, _, _, _, _ => by omega
 | [], i, fu + 1, H, lo, nb, s, L, B, jb, sv, hd, hf, Y, ks, hv, hL, hii, hB, T => by
  have := dropN hd
  rw [law22_JournalKept_L0_s]
  unfold law22_JournalKept_L0b
  refine Wp.lett (Wp.iff (by rw [decide_eq_false_iff_not]; omega) (hk H lo nb s L B jb sv Y ks (by omega) T))
 | c :: todo, i, fu + 1, H, lo, nb, s, L, B, jb, sv, hd, hf, Y, ks, hv, hL, hii, hB, T => by
  obtain ⟨hi, hci, hd2⟩ := dropC hd
  rw [List.length_cons] at hf hB
  have hs2 := hs.tch T (Nat.le_refl _) (fun b hb => nomatch hb)
  obtain ⟨b, hb, e1, e2⟩ := hs2.row (i := i) (by rw [List.length_map]; exact hi)
  rw [List.getElem_map, hci] at e2
  obtain ⟨_, icn, hcx, _⟩ := ho c (hci ▸ List.getElem_mem hi)
  have hcs := hsz c (hci ▸ List.getElem_mem hi)
  have hrb : reachBytes = 140737488351232 := rfl
  rw [law22_JournalKept_L0_s]
  unfold law22_JournalKept_L0b
  refine Wp.lett (Wp.ift (by rw [decide_eq_true_eq]; omega) (Wp.lettG fun k63 e63 => Wp.obind e1 (Wp.obind e2 (Wp.mnew (Mem.nil [] H) fun h2 M2 => ?_))))
  rw [newP_eq H]
  refine Wp.sa0 M2 rfl rfl (sp_one c) fun h3 M3 => ?_
  have t3 := M3.tch
  have k3 := M3.at0.1
  have l3 := M3.at0.2.1
  have Y3 := Y.alloc t3
  have T3 := T.trans t3
  have ks3 := ks.tch t3 (fun _ _ h => nomatch h)
  have nb3 : ¬ shr lo H.next h3.next H.next := fun hh => by rcases hh.2 with h | h <;> omega
  have nn3 : ¬ nb H.next := fun h => by have := (Y.sep _ h).2.2; omega
  have hv3 : ∀ b ∈ blkV sv, h0.next ≤ b ∧ ¬ shr lo H.next h3.next b ∧ ¬ nb b := fun b hb => ⟨(hv b hb).1, fun h => (hv b hb).2.1 h.1, (hv b hb).2.2⟩
  have g0 : (spC c)[0]? = some (.int .i64 c.k) := rfl
  have g1 : (spC c)[1]? = some (.int .i64 c.n) := rfl
  have g8 : (spC c)[8]? = some (.int .i64 c.p) := rfl
  have K63 : ∀ (H5 : AHeap) (lo5 nb5 : Nat → Prop) (s5 : DS) (L5 : List Snd) (B5 jb5 : Nat) (sv5 : AV), Sy h0.next lo5 nb5 H5 db jb5 s5 L5 B5 → SndAt H5 sv5 L5 → (∀ b ∈ blkV sv5, h0.next ≤ b ∧ ¬ lo5 b ∧ ¬ nb5 b) → L5.length ≤ i + 1 → B5 + 210 * todo.length ≤ 400000 → Tch [] h0 H5 → Wp (k63 (.ptr jb5 0) sv5 H5) Q := by
   intro H5 lo5 nb5 s5 L5 B5 jb5 sv5 Y5 ks5 hv5 hL5 hB5 T5
   rw [e63]
   refine Wp.lettw (by omega) (by omega) ?_
   rw [show (i : Int) + 1 = ((i + 1 : Nat) : Int) by omega]
   exact kept_loop hn hs ho hsz hl hk todo (i + 1) fu H5 lo5 nb5 s5 L5 B5 jb5 sv5 hd2 (by omega) Y5 ks5 hv5 hL5 (by omega) hB5 T5
  refine Wp.ld0 M3 g0 (Wp.obind (avInt_int _ _) (Wp.obind (rem2 _) (Wp.lett (Wp.lettG fun k81 e81 => ?_))))
  have K81 : ∀ (h4 : AHeap) (s1 : DS), Sy h0.next (shr lo H.next h3.next) nb h4 db jb s1 L B → RowH h4 H.next TSp (spC c) → H.next < h4.next → SndAt h4 sv L → Tch [] h0 h4 → Wp (k81 h4) Q := by
   intro h4 s1 Y4 k4 l4 ks4 T4
   rw [e81]
   obtain ⟨lo5, nb5, h5, S5, e, s5, e5, L5, t5, hS5, hnb5, _, hcase⟩ := Y4.add (n := n) (D := D) (d := d + 5) (by omega) (by omega) c.x (by omega)
   have n5 := t5.1
   have k5 := k4.tch t5 l4 (fun h => (hS5 _ h).elim nb3 nn3)
   have ks5 := ks4.tch t5 (fun b hb h => (hS5 b h).elim (hv3 b hb).2.1 (hv3 b hb).2.2)
   have T5 : Tch [] h0 h5 := T4.trans' t5 fun b hb => .inr ((hS5 b hb).elim (Y4.hl b) fun h => (Y4.sep b h).1)
   have hv5 : ∀ b ∈ blkV sv, h0.next ≤ b ∧ ¬ lo5 b ∧ ¬ nb5 b := fun b hb => ⟨(hv b hb).1, fun h => (hv3 b hb).2.1 (L5 b h), fun h => by
    have h1 := ks4.lt b hb
    rcases hnb5 b h with h | h
    ·exact (hv3 b hb).2.2 h
    ·omega⟩
   have gx : ∀ {h6 : AHeap}, RowH h6 H.next TSp (spC c) → ldRow h6 5 (.ptr H.next 2) = some (sndC c.x) := fun k => k.ld (o := 2) (n := 5) (show 2 + 5 ≤ 9 by decide)
   refine Wp.obind (gx k4) (Wp.callN e5 (Wp.obind (avInt_int _ _) (Wp.lett (Wp.lettG fun k91 e91 => ?_))))
   rcases hcase with ⟨h0', h40, Y5⟩ | ⟨he, Y5⟩ | ⟨he, Y5⟩
   ·refine Wp.iff (beq_f h0') ?_
    rw [e91]
    exact Wp.lett (Wp.ift (bne_t h40) (K63 h5 lo5 nb5 s5 L (B + 200) jb sv Y5 ks5 hv5 (by omega) (by omega) T5))
   ·subst he
    refine Wp.ift rfl (Wp.obind (gx k5) (Wp.mnews (Mem.nil [] h5) (bldTk _ _ _ _ _ _) rfl (by rw [Y5.K.ex]; rfl) fun h6 M6 => ?_))
    have t6 := M6.tch
    have n6 := t6.1
    have ks6 := ks5.tch t6 (fun _ _ h => nomatch h)
    obtain ⟨h7, e7, ks7, t7⟩ := ks6.push (c := c.x) M6.at0.1 (by omega) (by rw [t6.2.1, Y5.K.ex])
    have n7 := t7.1
    have t67 : Tch (blkV sv) h5 h7 := (t6.mono fun _ h => nomatch h).trans t7
    have Y7 := Y5.ext t67 fun b hb => (hv5 b hb).2
    have ls := ks7.lt h6.next (List.mem_singleton.2 rfl)
    refine Wp.outK e7 ?_
    rw [e91]
    refine Wp.lett (Wp.ift rfl (K63 h7 _ _ s5 (L ++ [c.x]) (B + 200) jb _ Y7 ks7 (fun b hb => ?_) (by rw [List.length_append, List.length_singleton]; omega) (by omega) (T5.trans' t67 fun b hb => .inr (hv5 b hb).1)))
    rw [List.mem_singleton.1 hb]
    have := T5.1
    exact ⟨by omega, fun h => by rcases h.2 with h | h <;> omega, fun h => by have := (Y5.sep _ h).2.2; omega⟩
   ·subst he
    refine Wp.iff rfl ?_
    rw [e91]
    refine Wp.lett (Wp.iff rfl (Wp.obind (RowH.cell' k5 g8) (Wp.obind (avInt_int _ _) (Wp.mnews (Mem.nil [] h5) (bldI1 _ _) rfl (by rw [Y5.K.ex]; rfl) fun h6 M6 => ?_))))
    have t6 := M6.tch
    have n6 := t6.1
    have l6 := M6.at0.2.1
    have Y6 := Y5.ext t6 (fun _ h => nomatch h)
    have k6 := k5.tch t6 (by omega) (fun h => nomatch h)
    have ks6 := ks5.tch t6 (fun _ _ h => nomatch h)
    obtain ⟨h7, S7, s7, L7, e7, hL7, C7, t7, hS7⟩ := Y6.crash (n := n) (D := D) (d := d + 5) (by omega) (by omega) (torn := c.n) icn.2 (zs := [c.p]) (show (1 : Nat) < 9223372036854775808 by decide) (row_rdi M6.at0.1 l6 fun h => by rcases h.2 with h | h <;> omega)
    have n7 := t7.1
    have ks7 := ks6.tch t7 (fun b hb h => (hv5 b hb).2.1 (hS7 b h).1)
    have k7 := k6.tch t7 (by omega) (fun h => nb3 (L5 _ (hS7 _ h).1))
    obtain ⟨lo8, nb8, h8, jb8, S8, s8, e8, Y8, _, L8, hnb8, t8, hS8⟩ := C7.open (n := n) (D := D) (d := d) hn (by omega)
    have n8 := t8.1
    have ks8 := ks7.tch t8 (fun b hb h => (hv5 b hb).2.1 (hS8 b h).1)
    have k8 := k7.tch t8 (by omega) (fun h => nb3 (L5 _ (hS8 _ h).1))
    have hN5 := T5.1
    have T8 : Tch [] h0 h8 := ((T5.trans t6).trans' t7 fun b hb => .inr (Y6.hl b (hS7 b hb))).trans' t8 fun b hb => .inr (Y6.hl b (hS8 b hb))
    have hL7l : L7.length ≤ L.length + 1 ∧ L.length ≤ L7.length := by
     rcases hL7 with rfl | rfl
     ·omega
     ·rw [List.length_append, List.length_singleton]
      omega
    obtain ⟨h9, v9, e9, ks9, hv9, t9⟩ := list_w (n := n) (D := D + 5) (d := d + 3) Y8.J (fun b hb => (Y8.sep b hb).2.2) Y8.K.ex (by omega) (by omega)
    have n9 := t9.1
    have Y9 := Y8.ext t9 (fun _ h => nomatch h)
    have k9 := k8.tch t9 (by omega) (fun h => nomatch h)
    have kss9 := ks8.tch t9 (fun _ _ h => nomatch h)
    have T9 := T8.trans t9
    refine Wp.obind (RowH.cell' k6 g1) (Wp.obind (avInt_int _ _) (Wp.callN e7 (Wp.obind (avInt_int _ _) (Wp.callN e8 (Wp.obind (extT_0 _ _) (Wp.obind (extT_1 _ _ _) (Wp.obind (avInt_int _ _) (Wp.lett (Wp.lettG fun j71 e71 => Wp.iff rfl (Wp.outK (eqJou jb8 h8) (Wp.obind (avBool_bool _) ?_)))))))))))
    rw [e71]
    refine Wp.iff rfl (Wp.callN e9 (Wp.obind (extT_0 _ _) (Wp.obind (extT_1 _ _ _) (Wp.obind (avBool_bool _) (Wp.lettG fun k128 e128 => Wp.lett (Wp.iff rfl ?_))))))
    have fin : Wp (k128 false h9) Q := by
     rw [e128]
     refine Wp.iff rfl (K63 h9 _ _ s8 L7 (B + 200 + 4) jb8 v9 Y9 ks9 (fun b hb => ?_) (by omega) (by omega) T9)
     have h1 := hv9 b hb
     have h2 := ks9.lt b hb
     exact ⟨by have := T8.1; omega, fun h => by rcases h.2 with h | h <;> omega, fun h => by have := (Y8.sep b h).2.2; omega⟩
    refine Wp.obind ks9.len (Wp.obind kss9.len (Wp.lett (Wp.iff (by rw [decide_eq_false_iff_not]; omega) (Wp.obind ks9.len (Wp.obind kss9.len (Wp.lettw (by omega) (by omega) (Wp.lett (Wp.iff (by rw [decide_eq_false_iff_not]; omega) (Wp.obind kss9.len ?_)))))))))
    obtain ⟨v10, e10, r10⟩ := ks9.firsts hL7l.2
    have htk : L7.take L.length = L := by
     rcases hL7 with rfl | rfl
     ·exact List.take_length
     ·exact List.take_left' rfl
    rw [htk] at r10
    refine Wp.outK e10 (Wp.callN (same_r (n := n) (D := D + 6) (d := d + 5) r10 kss9.rds (by omega) (by omega)) (Wp.obind (avBool_bool _) (Wp.lett (Wp.iff rfl (Wp.obind ks9.len (Wp.obind kss9.len (Wp.lett ?_)))))))
    rcases hL7 with rfl | rfl
    ·exact Wp.iff (by rw [decide_eq_false_iff_not]; omega) fin
    ·have hlt : L.length < (L ++ [c.x]).length := by rw [List.length_append, List.length_singleton]; omega
     obtain ⟨p, p1, p2⟩ := ks9.at hlt
     rw [List.getElem_append_right (Nat.le_refl _)] at p2
     simp only [Nat.sub_self, List.getElem_cons_zero] at p2
     exact Wp.ift (by rw [decide_eq_true_eq]; omega) (Wp.obind kss9.len (Wp.obind p1 (Wp.obind p2 (Wp.obind (gx k9) (Wp.obind (eqTk_self _) (Wp.lett fin))))))
  by_cases hodd : c.k.tmod 2 = 1
  ·have hp : (if 0 > c.n then (0 : Int) else c.n) < 9223372036854775808 := by
    have := icn.2
    split <;> omega
   obtain ⟨h4, S4, e4, Y4, t4, hS4⟩ := Y3.power (n := n) (D := D) (d := d + 5) hp
   refine Wp.ift (beq_t hodd) (Wp.ld0 M3 g1 (Wp.obind (avInt_int _ _) (Wp.lett (Wp.callN e4 (Wp.obind (avInt_int _ _) ?_)))))
   exact K81 h4 _ Y4 (k3.tch t4 l3 (fun h => nb3 (hS4 _ h))) (Nat.lt_of_lt_of_le l3 t4.1) (ks3.tch t4 (fun b hb h => (hv3 b hb).2.1 (hS4 b h))) (T3.trans' t4 fun b hb => .inr (Y3.hl b (hS4 b hb)))
  ·exact Wp.iff (beq_f hodd) (K81 h3 s Y3 k3 l3 ks3 T3)
end
theorem sumV_mem : ∀ (l : List Sp), ∀ x ∈ l, szS x ≤ sumV l
 | y :: l, x, h => by
  show szS x ≤ szS y + sumV l
  rcases List.mem_cons.1 h with rfl | h
  ·omega
  ·have := sumV_mem l x h
   omega
set_option maxRecDepth 100000 in
set_option maxHeartbeats 1000000 in
theorem journalKept_says (h : AHeap) (hX : h.ex = []) (xs : List AV) (hP : ArgsP Try.prog h.next h 12 [45] xs) : ∃ h', Says Try.prog 6 xs h (.ret (.bool true)) h' := by
 obtain ⟨a, _, rfl, hp0, hP⟩ := args_cons hP
 obtain rfl := args0 hP
 obtain ⟨l, hs, ho, hll⟩ := sps_of hp0
 have hrb : reachBytes = 140737488351232 := rfl
 obtain ⟨n, hn⟩ : ∃ n, 140737488351232 < n := ⟨140737488351233, Nat.lt_succ_self _⟩
 suffices hK : Wp (law22_JournalKept (wL n (0 + 6) (1 + 6) false) n a h) fun r _ => r = .ret (.bool true) by
  obtain ⟨_, h', e, rfl⟩ := hK
  exact ⟨h', law22_JournalKept_ok (wL_ok n (0 + 6) (1 + 6)).says e⟩
 unfold law22_JournalKept
 obtain ⟨h2, e2, T2⟩ := works_w (n := n) (D := 0) (d := 0) hX (by omega)
 have hs2 := hs.tch T2 (Nat.le_refl _) (fun b hb => nomatch hb)
 obtain ⟨h3, hv, e3, t3, hhv⟩ := heavy_w (n := n) (D := 0 + 6) (d := 6) hs2 T2.1 ho hll (by omega)
 refine Wp.callN e2 (Wp.obind (avBool_bool _) (Wp.lett (Wp.iff rfl (Wp.callN e3 (Wp.obind (avBool_bool _) ?_)))))
 cases hv with
 | true => exact Wp.ift rfl (Wp.ret rfl)
 | false =>
 obtain ⟨hsum, hlen⟩ := hhv rfl
 have T3 := T2.trans t3
 refine Wp.iff rfl ?_
 obtain ⟨h4, e4, t4, lo5, nb5, h5, jb, S5, s5, e5, Y5, _, t5, hS5⟩ := fresh (H := h3) (n := n) (D := 0) (d := 1) (N := h.next) (by rw [T3.2.1, hX]) (by omega) T3.1
 have T5 : Tch [] h h5 := (T3.trans t4).trans' t5 fun b hb => .inr (hS5 b hb)
 have hlenL := hs.len
 rw [List.length_map] at hlenL
 refine Wp.callN e4 (Wp.callN e5 (Wp.obind (extT_0 _ _) (Wp.obind (extT_1 _ _ _) (Wp.obind (avInt_int _ _) (Wp.lett (Wp.iff rfl (Wp.obind hlenL (Wp.lettG fun k33 e33 => ?_))))))))
 refine kept_loop (D := 0) (d := 1) (h0 := h) (by omega) hs ho (fun x hx => ?_) hlen (fun H lo nb s L B jb sv Y ks hL T => ?_) l 0 n h5 _ _ s5 [] 4 jb .nsl rfl (by omega) Y5 (.inl ⟨rfl, rfl⟩) (fun _ h => nomatch h) (Nat.le_refl _) (Nat.zero_le _) (by omega) T5
 ·have h1 := sumV_mem l x hx
  have h2 : szS x = min (x.s.length + x.x.s.length) 65536 := rfl
  omega
 rw [e33]
 obtain ⟨h6, v, e6, ks6, _, t6⟩ := list_w (n := n) (D := 0 + 5) (d := 1 + 3) Y.J (fun b hb => (Y.sep b hb).2.2) Y.K.ex (by omega) (by omega)
 have ksv := ks.tch t6 (fun _ _ h => nomatch h)
 refine Wp.callN e6 (Wp.obind (extT_0 _ _) (Wp.obind (extT_1 _ _ _) (Wp.obind (avBool_bool _) (Wp.lettG fun j132 e132 => Wp.ift rfl (Wp.callN (same_w (n := n) (D := 0 + 6) (d := 6) ks6 ksv (by omega) (by omega)) (Wp.obind (avBool_bool _) ?_))))))
 rw [e132]
 obtain ⟨h7, e7, t7⟩ := fenced_w (n := n) (D := 0 + 5) (d := 5) Y.ok ks6 (by omega) (by omega)
 refine Wp.lettG fun j136 e136 => Wp.ift rfl (Wp.callN e7 (Wp.obind (avBool_bool _) ?_))
 rw [e136]
 exact Wp.ret rfl
end Go.Proofs.Ytbhblbffdmiepaa
