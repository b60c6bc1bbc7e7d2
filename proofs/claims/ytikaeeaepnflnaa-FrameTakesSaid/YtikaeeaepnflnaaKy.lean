/- Frames: gone over; the list of them, the program's and the document's. -/
import Derived.Test.YtikaeeaepnflnaaWL
import Derived.Test.YtikaeeaepnflnaaKx
namespace Go.Proofs.Ytikaeeaepnflnaa
open Go.RowKit Abs
abbrev TStr : Nat := 9
abbrev TStrs : Nat := 28
abbrev TIn : Nat := 3
noncomputable abbrev strR (l : List Bytes) : List (List AV) := l.map fun b => [strA b]
theorem fitStr : fitB Try.prog TStr 16 = true := by kernel_rfl
theorem bldStr (h : AHeap) (b : Bytes) : bldSl Try.prog h TStrs 1 [(0, strA b)] = outNewS h TStr [strA b] 1 1 := by
  obtain ⟨v, hv⟩ : ∃ v, enc b = v := ⟨_, rfl⟩
  show bldSl Try.prog h TStrs 1 [(0, .str b.length (enc b))] = outNewS h TStr [.str b.length (enc b)] 1 1
  generalize b.length = m
  generalize enc b = w
  kernel_rfl
/-- one text more in a list of one's own -/
theorem Sli.str {lo : Nat} {H : AHeap} {v : AV} {l : List Bytes} {p : Bytes} (k : Sli TStr 1 lo H v (strR l)) (hlo : lo ≤ H.next) (hx : memB TStr H.ex = false) (hl : l.length < 60000000) {K : AV → AHeap → R} {Q : ARes → AHeap → Prop} (hk : ∀ v' H', Sli TStr 1 lo H' v' (strR (l ++ [p])) → Ab lo H H' → H.next ≤ H'.next → Wp (K v' H') Q) :
    Wp (Abs.outK (bldSl Try.prog H TStrs 1 [(0, strA p)]) fun v12 h_30 => Abs.outK (opAppend Try.prog h_30 TStrs TStrs v v12) K) Q := by
  refine Wp.mnews (Mem.nil [] H) (bldStr H p) rfl hx fun h2 M2 => ?_
  have t2 := M2.tch
  have k2 := k.tch t2 (fun _ h => nomatch h)
  have n2 := t2.1
  have kr := M2.at0.1
  have hf : firstA h2 1 1 (.sl H.next 0 1 1) = some [strA p] := by
    rw [firstA_of_row (Nat.le_refl _)]
    exact kr.part (o := 0) (n := 1) (Nat.le_refl _)
  obtain ⟨v', h', e, k', a'⟩ := k2.push (P := Try.prog) (t := TStrs) (u := TStrs) (B := 16) (by kernel_rfl) (by kernel_rfl) (by kernel_rfl) fitStr (by rw [t2.2.1]; exact hx) (by omega) rfl hf rfl rfl (by rw [List.length_map]; omega) (by rw [List.length_map]; omega)
  have e3 : strR l ++ [[strA p]] = strR (l ++ [p]) := by
    unfold strR
    rw [List.map_append]
    rfl
  rw [e3] at k'
  refine Wp.outK e (hk v' h' k' ((t2.above.ab hlo).trans a') ?_)
  exact Nat.le_trans n2 a'.next
section
variable {n d D bx y : Nat} {h H : AHeap} {s p : Bytes} {Q : ARes → AHeap → Prop} {v v1 : AV}
/-- an iterator over frames -/
theorem fall_loop {both : BothF} {yb : AV} {Inv Fin : Nat → AHeap → Prop} (hs : s.length < 1000000000)
    (htk : ∀ (u : Bytes) (h : AHeap), u.length < 1000000000 → both false 10 [strA u] h = some (.ret (.tup [strA (takeR u).1, .int .i64 ((takeR u).2.1 : Int), .int .i64 (takeR u).2.2]), h))
    (hbx : ∀ i H, Inv i H → RowH H bx TStr [strA s])
    (step : ∀ i H, i ≤ s.length → (takeR (s.drop i)).2.2 = 0 → Inv i H → ∃ g H', dynB Try.prog both yb [.int .i64 (i : Int), strA (takeR (s.drop i)).1] H = some (.ret (.bool g), H') ∧ (g = true → Inv (i + (takeR (s.drop i)).2.1) H') ∧ (g = false → Fin i H'))
    (hk : ∀ i H, i ≤ s.length → (takeR (s.drop i)).2.2 ≠ 0 → Inv i H → Q (.ret (.tup [])) H) (hf : ∀ i H, i ≤ s.length → (takeR (s.drop i)).2.2 = 0 → Fin i H → Q (.ret (.tup [])) H) :
    ∀ (fu i : Nat) (H : AHeap), s.length - i < fu → i ≤ s.length → Inv i H → Wp (frame_All_1_L0 both yb (.ptr bx 0) fu (i : Int) H) Q
  | 0, _, _, hfu, _, _ => by omega
  | fu + 1, i, H, hfu, hi, I => by
    have ll := lenS_nat s
    have sA : sliceS s (i : Int) (lenS s) = some (s.drop i) := by
      rw [sliceS_int (by omega) (by omega) (by omega), List.take_of_length_le (by rw [List.length_drop]; omega)]
      rfl
    rw [frame_All_1_L0_s]
    unfold frame_All_1_L0b
    refine Wp.obind (RowH.cell' (hbx i H I) rfl) (Wp.obind (avStr_str _) (Wp.obind sA (Wp.callN (htk _ H (by rw [List.length_drop]; omega)) (Wp.obind (extT_0 _ _) (Wp.obind (avStr_str _) (Wp.obind (extT_1 _ _ _) (Wp.obind (avInt_int _ _) (Wp.obind (extT_2 _ _ _ _) (Wp.obind (avInt_int _ _) (Wp.lett (Wp.lettG fun j23 e23 => ?_)))))))))))
    by_cases he : (takeR (s.drop i)).2.2 = 0
    · have hl := takeR_len he
      rw [List.length_drop] at hl
      obtain ⟨g, H', e, y1, y2⟩ := step i H hi he I
      refine Wp.iff (bne_f he) (Wp.callN e (Wp.obind (avBool_bool _) (Wp.lett ?_)))
      rw [e23]
      cases g with
      | false => exact Wp.ift rfl (Wp.marks0 (Wp.ret (hf i H' hi he (y2 rfl))))
      | true =>
        refine Wp.iff rfl (Wp.lettw (by omega) (by omega) ?_)
        rw [show (i : Int) + ((takeR (s.drop i)).2.1 : Int) = ((i + (takeR (s.drop i)).2.1 : Nat) : Int) by omega]
        exact fall_loop hs htk hbx step hk hf fu (i + (takeR (s.drop i)).2.1) H' (by omega) (by omega) (y1 rfl)
    · refine Wp.ift (bne_t he) ?_
      rw [e23]
      exact Wp.ift rfl (Wp.marks0 (Wp.ret (hk i H hi he I)))
theorem fall_iter {Inv Fin : Nat → AHeap → Prop} (hs : s.length < 1000000000) (hn : 1000000000 < n) (hbx : ∀ i H, Inv i H → RowH H bx TStr [strA s])
    (step : ∀ i H, i ≤ s.length → (takeR (s.drop i)).2.2 = 0 → Inv i H → ∃ g H', dynB Try.prog (wL n (D + 5) (d + 1)) (.yld y) [.int .i64 (i : Int), strA (takeR (s.drop i)).1] H = some (.ret (.bool g), H') ∧ (g = true → Inv (i + (takeR (s.drop i)).2.1) H') ∧ (g = false → Fin i H'))
    (h0 : Inv 0 H) : ∃ H', wL n (D + 5) (d + 2) false 25 [.yld y, .ptr bx 0] H = some (.ret (.tup []), H') ∧ ((∃ i, i ≤ s.length ∧ (takeR (s.drop i)).2.2 ≠ 0 ∧ Inv i H') ∨ ∃ i, i ≤ s.length ∧ (takeR (s.drop i)).2.2 = 0 ∧ Fin i H') := by
  suffices hK : Wp (frame_All_1 (wL n (D + 5) (d + 1)) n (.yld y) (.ptr bx 0) H) fun r H' => r = .ret (.tup []) ∧ ((∃ i, i ≤ s.length ∧ (takeR (s.drop i)).2.2 ≠ 0 ∧ Inv i H') ∨ ∃ i, i ≤ s.length ∧ (takeR (s.drop i)).2.2 = 0 ∧ Fin i H') by
    obtain ⟨_, H', e, rfl, k⟩ := hK
    exact ⟨H', wL_frame_All_1 n (D + 5) (d + 1) _ _ e, k⟩
  unfold frame_All_1
  exact fall_loop (Inv := Inv) (Fin := Fin) hs (fun u h hu => (wL_b 10).trans (take_w (n := n) (d := D) hu (by omega))) hbx step (fun i H h1 h2 I => ⟨rfl, .inl ⟨i, h1, h2, I⟩⟩) (fun i H h1 h2 I => ⟨rfl, .inr ⟨i, h1, h2, I⟩⟩) n 0 H (by omega) (Nat.zero_le _) h0
theorem fall_w (s : Bytes) (H : AHeap) : ∃ H', world n (d + 1) 16 [strA s] H = some (.ret (.fn 25 [] [.ptr H.next 0]), H') ∧ RowH H' H.next TStr [strA s] ∧ H.next < H'.next ∧ Tch [] H H' := by
  suffices hA : Wp (world n (d + 1) 16 [strA s] H) fun r h' => r = .ret (.fn 25 [] [.ptr H.next 0]) ∧ RowH h' H.next TStr [strA s] ∧ H.next < h'.next ∧ Tch [] H h' by
    obtain ⟨_, h', e, rfl, t⟩ := hA
    exact ⟨h', e, t⟩
  rw [w_frame_All]
  unfold frame_All
  refine Wp.mnew (Mem.nil [] H) fun h2 M2 => Wp.ret ⟨rfl, M2.at0.1, M2.at0.2.1, M2.tch⟩
theorem recS_ne {e b c : Nat} {l : List AV} {o : AKeep} (k : RowH H c e l) (hb : H.get b = some (.obj o)) : c ≠ b := by
  intro e
  subst e
  obtain ⟨t, h1, _⟩ := k
  rw [h1] at hb
  cases hb
theorem RowH.neT {b b' e e' : Nat} {l l' : List AV} (k : RowH H b e l) (k' : RowH H b' e' l') (hne : e ≠ e') : b ≠ b' := by
  intro hb
  subst hb
  obtain ⟨t, h1, _⟩ := k
  obtain ⟨t', h2, _⟩ := k'
  rw [h1] at h2
  simp only [Option.some.injEq, AObj.row.injEq] at h2
  exact hne h2.2.2
theorem Sli.one1 {e sz lo : Nat} {rows : List (List AV)} (k : Sli e sz lo H v rows) : v.one = true ∧ AV.cells v = [v] := by
  rcases k.2 with ⟨_, rfl⟩ | ⟨c, _, rfl, _⟩ <;> exact ⟨rfl, rfl⟩
/-- a round of Scan's loop -/
theorem scan_round {pl gl lo i : Nat} {c0 : Int} {l : List Bytes} {t0 : T AV} {Dm : Nat} (hrec : H.get y = some (recQ .ready .none (frame_Scan_R0 n).N (frame_Scan_R0 n).c t0 Dm)) (hy : y < lo) (hlo : lo ≤ H.next)
    (kp : RowH H pl TStrs [v]) (hpl : pl < lo) (kg : RowH H gl TIn [.int .i64 c0]) (hgl : gl < lo) (k : Sli TStr 1 lo H v (strR l)) (hx : H.ex = []) (hl : l.length < 60000000) (hi : i + p.length < 2000000000)
    (hg : ((putPs (frame_Scan_R0 n).N (Code.rgp (frame_Scan_R0 n).c).toList [.int .i64 (i : Int), strA p] t0).bind fun t => slotsC t (frame_Scan_R0 n).sa) = some [.ptr pl 0, .ptr gl 0, .int .i64 (i : Int), strA p]) :
    ∃ H' v', wL n D (d + 1) true y [.int .i64 (i : Int), strA p] H = some (.ret (.bool true), H') ∧ RowH H' pl TStrs [v'] ∧ RowH H' gl TIn [.int .i64 ((i + (p.length + 12) : Nat) : Int)] ∧ Sli TStr 1 lo H' v' (strR (l ++ [p])) ∧ H'.get y = some (recQ .ready .none (frame_Scan_R0 n).N (frame_Scan_R0 n).c t0 Dm) ∧ H.next ≤ H'.next ∧ H'.ex = H.ex ∧ ∀ b, b < lo → b ≠ pl → b ≠ gl → b ≠ y → H'.get b = H.get b := by
  have npl := recS_ne kp hrec
  have ngl := recS_ne kg hrec
  have npg := RowH.neT kp kg (by decide)
  have ll := lenS_nat p
  have key := round_W (both := wL n D d) (sites := wLS n) (G := fun z H' => z = 0 ∧ ∃ v', RowH H' pl TStrs [v'] ∧ RowH H' gl TIn [.int .i64 ((i + (p.length + 12) : Nat) : Int)] ∧ Sli TStr 1 lo H' v' (strR (l ++ [p])) ∧ H'.get y = some (recQ (stZ (jumpZ z)) (jumpZ z) (frame_Scan_R0 n).N (frame_Scan_R0 n).c t0 Dm) ∧ H.next ≤ H'.next ∧ H'.ex = H.ex ∧ ∀ b, b < lo → b ≠ pl → b ≠ gl → b ≠ y → H'.get b = H.get b) hrec (fun st jj => wLS_frame_Scan_R0 n st jj t0 Dm) hg ?_
  · obtain ⟨z, H', e, rfl, v', k1, k2, k3, k4, k5⟩ := key
    rw [wL_r]
    exact ⟨H', v', e, k1, k2, k3, k4, k5⟩
  · show Wp (frame_Scan_R0A_fn (wL n D d) n [.ptr pl 0, .ptr gl 0, .int .i64 (i : Int), strA p] H) _
    rw [frame_Scan_R0A_fn_eq]
    unfold frame_Scan_R0A
    refine Wp.ret ⟨_, rfl, rfl, by kernel_rfl, ?_⟩
    have tp : ∀ (G : AHeap) (o : AObj), Tch [y] G (G.put y o) := fun G o => Tch.put (.inl (List.mem_singleton.2 rfl)) _
    have m1 : ∀ {a b : Nat}, a ≠ b → a ∉ [b] := fun h h2 => h (List.mem_singleton.1 h2)
    have t1 := tp H (recQ .busy .none (frame_Scan_R0 n).N (frame_Scan_R0 n).c t0 Dm)
    have g1 := get_put_same (H := H) y (recQ .busy .none (frame_Scan_R0 n).N (frame_Scan_R0 n).c t0 Dm)
    show Wp (frame_Scan_R0B_fn (wL n D d) n [.ptr pl 0, .ptr gl 0, .int .i64 (i : Int), strA p] _) _
    rw [frame_Scan_R0B_fn_eq]
    unfold frame_Scan_R0B
    have kp1 := kp.tch t1 (by omega) (m1 npl)
    have kg1 := kg.tch t1 (by omega) (m1 ngl)
    have k1 := k.tch t1 (fun b hb => by rw [List.mem_singleton.1 hb]; exact hy)
    refine Wp.obind (RowH.cell' kp1 rfl) (Sli.str k1 hlo (by show memB TStr H.ex = false; rw [hx]; rfl) hl fun v2 H2 k2 a2 n2 => ?_)
    have n2' : H.next ≤ H2.next := n2
    have kp2 := kp1.same (a2.get pl hpl)
    have kg2 := kg1.same (a2.get gl hgl)
    rw [(Sli.one1 k2).2]
    refine Wp.st1 kp2 Nat.zero_lt_one (Sli.one1 k2).1 fun H3 kp3 t3 n3 => Wp.lettw (by omega) (by omega) (Wp.lettw (by omega) (by omega) (Wp.lettw (by omega) (by omega) ?_))
    have kg3 := kg2.tch t3 (by omega) (m1 (fun h => npg h.symm))
    refine Wp.st1 kg3 Nat.zero_lt_one rfl fun H4 kg4 t4 n4 => Wp.ret ⟨0, rfl, ?_, rfl, v2, ?_, ?_, ?_, get_put_same _ _, ?_, ?_, ?_⟩
    · rw [t4.2.2 y (by omega) (m1 (fun h => ngl h.symm)), t3.2.2 y (by omega) (m1 (fun h => npl h.symm)), a2.get y hy]
      exact g1
    · exact (kp3.tch t4 (by omega) (m1 npg)).tch (tp _ _) (by omega) (m1 npl)
    · have := kg4.tch (tp _ (recQ (stZ (jumpZ 0)) (jumpZ 0) (frame_Scan_R0 n).N (frame_Scan_R0 n).c t0 Dm)) (by omega) (m1 ngl)
      rw [show (i : Int) + 8 + lenS p + 4 = ((i + (p.length + 12) : Nat) : Int) by omega] at this
      exact this
    · exact ((k2.tch t3 fun b hb => by rw [List.mem_singleton.1 hb]; exact hpl).tch t4 fun b hb => by rw [List.mem_singleton.1 hb]; exact hgl).tch (tp _ _) fun b hb => by rw [List.mem_singleton.1 hb]; exact hy
    · show H.next ≤ H4.next
      omega
    · show H4.ex = H.ex
      rw [t4.2.1, t3.2.1, a2.ex]
      rfl
    · intro b hb h1 h2 h3
      rw [get_put_other _ (fun h => h3 h.symm), t4.2.2 b (by omega) (m1 h2), t3.2.2 b (by omega) (m1 h1), a2.get b hb, get_put_other _ (fun h => h3 h.symm)]
end
end Go.Proofs.Ytikaeeaepnflnaa
