/- NetTells: the iterator goes over the letters; the script; copies. -/
import Derived.Test.YthdkfofkghpmcaaHa
namespace Go.Proofs.Ythdkfofkghpmcaa
open Go.RowKit Abs
abbrev TPN : Nat := 25
section
variable {n D d b nb N N1 : Nat} {H H1 h : AHeap} {ls : List Lt} {s : NS} {lo : Nat → Prop} {i : Nat} {Q : ARes → AHeap → Prop} {S : List Nat} {rv a v : AV} {xs : List Opr}
theorem all_loop {both : BothF} {yb : AV} {Inv Fin : Nat → AHeap → Prop} (hrv : ∀ b ∈ blkV rv, b ∉ S) (hl : ls.length < 1000000)
    (hal : ∀ i H H', Inv i H → Tch [] H H' → Inv i H')
    (step : ∀ i H (hi : i < ls.length), Inv i H → ∃ g H', dynB Try.prog both yb [.int .i64 ls[i].id, .agg (letC ls[i])] H = some (.ret (.bool g), H') ∧ Tch S H H' ∧ (g = true → Inv (i + 1) H') ∧ (g = false → Fin (i + 1) H'))
    {k7 : AHeap → R} (hk : ∀ H, Inv ls.length H → Tch S H1 H → Wp (k7 H) Q) (hf : ∀ i H, i < ls.length → Fin (i + 1) H → Tch S H1 H → Q (.ret (.tup [])) H) :
    ∀ (r i fu : Nat) (H : AHeap), r + i = ls.length → r < fu → Tch S H1 H → LAt H rv ls → Inv i H → Wp (net_Net_All_1_L0 both yb rv (ls.length : Int) k7 fu (i : Int) H) Q
  | _, _, 0, _, _, hfu, _, _, _ => by omega
  | 0, i, fu + 1, H, hi, _, t, L, I => by
    rw [net_Net_All_1_L0_s]
    unfold net_Net_All_1_L0b
    refine Wp.lett (Wp.iff (by rw [decide_eq_false_iff_not]; omega) ?_)
    have e : i = ls.length := by omega
    subst e
    exact hk H I t
  | r + 1, i, fu + 1, H, hi, hfu, t, L, I => by
    have hil : i < ls.length := by omega
    obtain ⟨p, i1, r1⟩ := L.row hil
    rw [net_Net_All_1_L0_s]
    unfold net_Net_All_1_L0b
    refine Wp.lett (Wp.ift (by rw [decide_eq_true_eq]; omega) (Wp.obind i1 (Wp.obind r1 (Wp.mnew (Mem.nil [] H) fun h2 M2 => ?_))))
    rw [newP_eq]
    refine Wp.sa0 M2 rfl rfl rfl fun h3 M3 => ?_
    have k3 := M3.at0.1
    have t3 := M3.tch
    obtain ⟨g, H', e, t4, y1, y2⟩ := step i h3 hil (hal i H h3 I t3)
    have T4 : Tch S H1 H' := (t.trans' t3 fun _ hb => (nomatch hb)).trans t4
    refine Wp.obind (RowH.cell' k3 rfl) (Wp.obind (avInt_int _ _) (Wp.obind (RowH.ldAll k3 rfl) (Wp.callN e (Wp.obind (avBool_bool _) (Wp.lett ?_)))))
    cases g with
    | false => exact Wp.ift rfl (Wp.marks0 (Wp.ret (hf i H' hil (y2 rfl) T4)))
    | true =>
      refine Wp.iff rfl (Wp.lettw (by omega) (by omega) ?_)
      rw [show (i : Int) + 1 = ((i + 1 : Nat) : Int) by omega]
      exact all_loop hrv hl hal step hk hf r (i + 1) fu H' (by omega) (by omega) T4 ((L.tch t3 fun _ _ h => nomatch h).tch t4 hrv) (y1 rfl)
/-- the iterator of a net -/
theorem all_iter (hn : 1000000 < n) {bx : Nat} (K : NetAt lo H nb s) (kb : RowH H bx TPN [.ptr nb 0]) (hS : ∀ b ∈ S, b < H.next) {y : Nat} {Inv Fin : Nat → AHeap → Prop}
    (hal : ∀ i H H', Inv i H → Tch [] H H' → Inv i H')
    (step : ∀ i H (hi : i < s.ls.length), Inv i H → ∃ g H', dynB Try.prog (wL n (D + 2) (d + 1)) (.yld y) [.int .i64 s.ls[i].id, .agg (letC s.ls[i])] H = some (.ret (.bool g), H') ∧ Tch S H H' ∧ (g = true → Inv (i + 1) H') ∧ (g = false → Fin (i + 1) H'))
    (h0 : Inv 0 H) : ∃ H', wL n (D + 2) (d + 2) false 30 [.yld y, .ptr bx 0] H = some (.ret (.tup []), H') ∧ Tch S H H' ∧ (Inv s.ls.length H' ∨ ∃ i, i < s.ls.length ∧ Fin (i + 1) H') := by
  suffices hK : Wp (net_Net_All_1 (wL n (D + 2) (d + 1)) n (.yld y) (.ptr bx 0) H) fun r H' => r = .ret (.tup []) ∧ Tch S H H' ∧ (Inv s.ls.length H' ∨ ∃ i, i < s.ls.length ∧ Fin (i + 1) H') by
    obtain ⟨_, H', e, rfl, k⟩ := hK
    exact ⟨H', wL_net_Net_All_1 n (D + 2) (d + 1) _ _ e, k⟩
  unfold net_Net_All_1
  obtain ⟨h2, v2, e2, L2, t2, b2⟩ := flight_ok (n := n) (d := D) K
  have hlen256 : s.ls.length ≤ 256 := by
    obtain ⟨_, _, K⟩ := K
    exact K.len
  refine Wp.obind (RowH.cell' kb rfl) (Wp.callN ((wL_b 15).trans e2) (Wp.obind L2.len (Wp.lettG fun k7 e7 => ?_)))
  refine all_loop (H1 := H) (Inv := Inv) (Fin := Fin) (S := S) (fun b hb hm => ?_) (by omega) hal step (fun H' I t => ?_) (fun i H' hi F t => ⟨rfl, t, .inr ⟨i, hi, F⟩⟩) s.ls.length 0 n h2 (Nat.add_zero _) (by omega) (t2.mono fun _ h => nomatch h) L2 (hal 0 H h2 h0 t2)
  · have := b2 b hb
    have := hS b hm
    omega
  · rw [e7]
    exact Wp.marks0 (Wp.ret ⟨rfl, t, .inl I⟩)
theorem all_w (b : Nat) (H : AHeap) : ∃ H', world n (d + 1) 16 [.ptr b 0] H = some (.ret (.fn 30 [] [.ptr H.next 0]), H') ∧ RowH H' H.next TPN [.ptr b 0] ∧ H.next < H'.next ∧ Tch [] H H' := by
  suffices hA : Wp (world n (d + 1) 16 [.ptr b 0] H) fun r h' => r = .ret (.fn 30 [] [.ptr H.next 0]) ∧ RowH h' H.next TPN [.ptr b 0] ∧ H.next < h'.next ∧ Tch [] H h' by
    obtain ⟨_, h', e, rfl, t⟩ := hA
    exact ⟨h', e, t⟩
  rw [w_net_Net_All]
  unfold net_Net_All
  refine Wp.outK (v := newP H) (h1 := newH H TPN [.ptr b 0]) ?_ (Wp.ret ⟨rfl, RowH.new _ _ _, Nat.lt_succ_self _, Tch.newH _ _ _ _⟩)
  show outNew H TPN [.ptr b 0] = _
  unfold outNew
  rw [if_pos (show [AV.ptr b 0].all AV.one = true from rfl)]
  rfl
/-- what is behind a place turned alone -/
def FarT (N : Nat) (H H' : AHeap) : Prop := ∃ S, Tch S H H' ∧ ∀ b ∈ S, N ≤ b
theorem FarT.trans {a b c : AHeap} (x : FarT N a b) (y : FarT N b c) : FarT N a c := by
  obtain ⟨S, t, h⟩ := x
  obtain ⟨S', t', h'⟩ := y
  exact ⟨S ++ S', (t.mono fun _ hb => .inl (List.mem_append_left _ hb)).trans (t'.mono fun _ hb => .inl (List.mem_append_right _ hb)), fun b hb => (List.mem_append.1 hb).elim (h b) (h' b)⟩
theorem FarT.of {a b : AHeap} (t : Tch [] a b) : FarT N a b := ⟨[], t, fun _ h => nomatch h⟩
theorem play_last (s : NS) (o : Opr) : (playN s o).last ≤ s.last + 1 := by
  have ha : ∀ a b u, (addN s a b u).last ≤ s.last + 1 := fun a b u => by
    unfold addN
    split
    · exact Nat.le_succ _
    · exact Nat.le_refl _
  have hd : ∀ z, (delN s z).last ≤ s.last + 1 := fun z => by
    unfold delN
    split <;> exact Nat.le_succ _
  unfold playN
  split
  · unfold sendN
    split
    · split
      · exact Nat.le_succ _
      · split
        · exact Nat.le_succ _
        · exact ha _ _ _
    · exact Nat.le_succ _
  split
  · exact hd _
  split
  · exact hd _
  split
  · unfold twN
    split
    · exact ha _ _ _
    · exact Nat.le_succ _
  split
  · split <;> exact Nat.le_succ _
  split
  · split <;> exact Nat.le_succ _
  · exact Nat.le_succ _
/-- the script is played -/
theorem tells_loop (hn : 1000000 < n) (hN1 : N ≤ N1) (hx : xs.length ≤ 400) {hb2 : AHeap} {k34 : AV → AHeap → R} (hk : ∀ H lo nb s, NetAt lo H nb s → (∀ b, lo b → N1 ≤ b) → FarT N1 H1 H → Wp (k34 (.ptr nb 0) H) Q) :
    ∀ (todo : List Opr) (i fu : Nat) (H : AHeap) (lo : Nat → Prop) (nb : Nat) (s : NS), xs.drop i = todo → todo.length < fu → NetAt lo H nb s → (∀ b, lo b → N1 ≤ b) → N1 ≤ H.next → Slc N H 4 a (xs.map opC) → s.last ≤ i → i ≤ 400 → FarT N1 H1 H →
    Wp (law05_NetTells_L1 (wL n (D + 8) (d + 1)) a hb2 k34 fu (.ptr nb 0) (i : Int) H) Q
  | _, _, 0, _, _, _, _, _, hf, _, _, _, _, _, _, _ => by omega
  | [], i, fu + 1, H, lo, nb, s, hd, _, K, hlo, hNx, hs, hla, hi4, F => by
    have := dropN hd
    have hlen := hs.len
    rw [List.length_map] at hlen
    rw [law05_NetTells_L1_s]
    unfold law05_NetTells_L1b
    exact Wp.obind hlen (Wp.lett (Wp.iff (by rw [decide_eq_false_iff_not]; omega) (hk H lo nb s K hlo F)))
  | c :: todo, i, fu + 1, H, lo, nb, s, hd, hf, K, hlo, hNx, hs, hla, hi4, F => by
    obtain ⟨hi, hci, hd2⟩ := dropC hd
    rw [List.length_cons] at hf
    have hlen := hs.len
    rw [List.length_map] at hlen
    obtain ⟨b, i1, r1, _⟩ := op_row hs hi
    obtain ⟨h1, lo', nb', S, e1, K1, l1, t1, hS⟩ := play_ok (n := n) (d := D) hn K (by omega) xs[i]
    rw [law05_NetTells_L1_s]
    unfold law05_NetTells_L1b
    refine Wp.obind hlen (Wp.lett (Wp.ift (by rw [decide_eq_true_eq]; omega) (Wp.obind i1 (Wp.obind r1 (Wp.callN ((wL_b 12).trans e1) (Wp.obind (extT_0 _ _) (Wp.obind (extT_1 _ _ _) (Wp.obind (avAgg_agg _) (Wp.mnew (Mem.nil [] h1) fun h2 M2 => ?_)))))))))
    rw [newP_eq]
    refine Wp.sa0 M2 rfl rfl rfl fun h3 M3 => ?_
    have t3 := M3.tch
    have n1 := t1.1
    have n3 := t3.1
    have K3 := K1.tch t3 (fun _ h => nomatch h)
    have F3 : FarT N1 H h3 := FarT.trans ⟨S, t1, fun b hb => hlo b (hS b hb)⟩ (FarT.of t3)
    have hlo' : ∀ b, lo' b → N1 ≤ b := fun b hb => (l1 b hb).elim (hlo b) (Nat.le_trans hNx)
    have hla' := play_last s xs[i]
    refine Wp.outK (eqNet nb' 0 h3) (Wp.obind (avBool_bool _) (Wp.iff rfl (Wp.lettw (by omega) (by omega) ?_)))
    rw [show (i : Int) + 1 = ((i + 1 : Nat) : Int) by omega]
    refine tells_loop hn hN1 hx hk todo (i + 1) fu h3 lo' nb' _ hd2 (by omega) K3 hlo' (by omega) ?_ (by omega) (by omega) (F.trans F3)
    obtain ⟨S', t', h'⟩ := F3
    exact hs.tch t' (by omega) fun b hb => Nat.le_trans hN1 (h' b hb)
/-- letters put behind an empty list of one's own -/
theorem keep_ok (k : LAt h v ls) (hx : h.ex = []) (hm : ls.length ≤ 1000000) : ∃ h' v', opAppend Try.prog (newH h TLet []) TLets TLets (.sl h.next 0 0 4) v = some (.val v', h') ∧ LAt h' v' ls ∧ Tch [] h h' ∧ ∀ b ∈ blkV v', h.next ≤ b := by
  have he : Abs.elemOf Try.prog TLets = some TLet := by kernel_rfl
  have hu : notInt Try.prog TLets = true := by kernel_rfl
  have hsz : Try.prog.cellsOf TLet = 4 := by kernel_rfl
  have hex : memB TLet (newH h TLet []).ex = false := by rw [ex_newH, hx]; rfl
  have kn := RowH.new h TLet []
  have hcl := flatL_len ls
  have hfit := bytesFit_of (P := Try.prog) (e := TLet) (B := 40) (k := 0 + ls.length) fitLt (by omega) (by omega)
  rcases k with ⟨rfl, rfl⟩ | ⟨c, rest, rfl, h2, h3⟩
  · exact ⟨_, _, append_zero (b := h.next) (o := 0) (m := 0) (n := 0) he hu hsz rfl rfl rfl hfit hex, .inr ⟨h.next, [], rfl, kn, Nat.lt_succ_self _⟩, Tch.newH _ _ _ _, fun b hb => by rw [List.mem_singleton.1 hb]; exact Nat.le_refl _⟩
  · have k2 : RowH (newH h TLet []) c TLet (flatL ls ++ rest) := h2.tch (Tch.newH [] h _ _) h3 (fun h => nomatch h)
    have hpart : rowGet (newH h TLet []) c 0 (flatL ls).length = some (flatL ls) := by
      have := k2.part (o := 0) (n := (flatL ls).length) (by rw [List.length_append]; omega)
      rw [List.drop_zero, List.take_left' rfl] at this
      exact this
    have hfirst : ∀ m, m = ls.length → firstA (newH h TLet []) 4 m (.sl c 0 ls.length 4) = some (flatL ls) := by
      intro m hm
      rw [firstA_of_row (by omega), hm, show ls.length * 4 = (flatL ls).length by omega]
      exact hpart
    by_cases h0 : ls = []
    · subst h0
      exact ⟨_, _, append_zero (b := h.next) (o := 0) (m := 0) (n := 0) he hu hsz rfl rfl (hfirst 0 rfl) hfit hex, .inr ⟨h.next, [], rfl, kn, Nat.lt_succ_self _⟩, Tch.newH _ _ _ _, fun b hb => by rw [List.mem_singleton.1 hb]; exact Nat.le_refl _⟩
    · obtain ⟨m, hm2⟩ : ∃ m, ls.length = m + 1 := by
        cases ls with
        | nil => exact absurd rfl h0
        | cons a l => exact ⟨l.length, rfl⟩
      have hlen : lenA (.sl c 0 ls.length 4) = some (m + 1) := by rw [hm2]; rfl
      have a1 := append_more (P := Try.prog) (h := newH h TLet []) (t := TLets) (u := TLets) (b := h.next) (o := 0) (m := 0) (n := m) (x := .sl c 0 ls.length 4) (cs := []) he hu hsz hlen (hfirst _ hm2.symm) (by rw [← hm2]; exact hfit) (flatL_one ls) hex (by
        have := kn.part (o := 0) (n := 0) (Nat.le_refl _)
        exact this) kn.type
      refine ⟨_, _, a1, .inr ⟨h.next + 1, [], by rw [hm2, Nat.zero_add]; rfl, ?_, Nat.lt_succ_self _⟩, ((Tch.newH [] h _ _).trans' (Tch.put (S := [h.next]) (.inl (List.mem_singleton.2 rfl)) .dead) fun b hb => .inr (by rw [List.mem_singleton.1 hb]; exact Nat.le_refl _)).trans (Tch.newH _ _ _ _), fun b hb => ?_⟩
      · rw [List.append_nil]
        exact RowH.new ((newH h TLet []).put h.next .dead) _ _
      · have hb2 : b = h.next + 1 := List.mem_singleton.1 hb
        omega
/-- the letters told are written over -/
theorem over_loop {pl : Nat} {hp : AHeap} (hpl : hp.next = pl) {k106 : AHeap → R} {c : Nat} {l0 : List Lt} (hl : l0.length < 1000000) (hne : pl ≠ c) (hk : ∀ H, Tch [c] H1 H → Wp (k106 H) Q) : ∀ (r i fu : Nat) (H : AHeap) (row : List AV), r + i = l0.length → r < fu → Tch [c] H1 H → RowH H pl TLets [.sl c 0 l0.length 4] → RowH H c TLet row → l0.length * 4 ≤ row.length → pl < H.next →
    Wp (law05_NetTells_L0 hp k106 fu (i : Int) H) Q
  | _, _, 0, _, _, _, hf, _, _, _, _, _ => by omega
  | 0, i, fu + 1, H, row, hi, _, t, kp, kc, hlr, hpn => by
    rw [law05_NetTells_L0_s]
    unfold law05_NetTells_L0b
    rw [newP_eq, hpl]
    exact Wp.obind (RowH.cell' kp rfl) (Wp.obind rfl (Wp.lett (Wp.iff (by rw [decide_eq_false_iff_not]; omega) (hk H t))))
  | r + 1, i, fu + 1, H, row, hi, hf, t, kp, kc, hlr, hpn => by
    rw [law05_NetTells_L0_s]
    unfold law05_NetTells_L0b
    rw [newP_eq, hpl]
    refine Wp.obind (RowH.cell' kp rfl) (Wp.obind rfl (Wp.lett (Wp.ift (by rw [decide_eq_true_eq]; omega) (Wp.obind (RowH.cell' kp rfl) (Wp.obind (idx4 (by omega)) ?_)))))
    refine Wp.stN kc rfl (by omega) rfl fun H' k' t' n' => Wp.lettw (by omega) (by omega) ?_
    rw [show (i : Int) + 1 = ((i + 1 : Nat) : Int) by omega]
    exact over_loop hpl hl hne hk r (i + 1) fu H' _ (by omega) (by omega) (t.trans t') (kp.tch t' hpn (fun h => hne (List.mem_singleton.1 h))) k' (by rw [laid_length (show 0 + i * 4 + 4 ≤ row.length by omega)]; omega) (by omega)
end
end Go.Proofs.Ythdkfofkghpmcaa
