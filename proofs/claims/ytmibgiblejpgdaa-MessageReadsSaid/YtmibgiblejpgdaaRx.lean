/- What a message is read from: the document's reading. -/
import Derived.Test.YtmibgiblejpgdaaRy
import Derived.Test.YtmibgiblejpgdaaRf
import Derived.Test.YtmibgiblejpgdaaRc
namespace Go.Proofs.Ytmibgiblejpgdaa
open Go.RowKit Abs

def arrC (s : Bytes) (i : Nat) : List AV := [.int .i64 (if 0 < i then whl (rV s (q1 s) 0) else 0), .int .i64 (if 1 < i then whl (rV s (q1 s) 1) else 0), .int .i64 (if 2 < i then whl (rV s (q1 s) 2) else 0), .int .i64 (if 3 < i then whl (rV s (q1 s) 3) else 0), .int .i64 (if 4 < i then whl (rV s (q1 s) 4) else 0), .int .i64 (if 5 < i then whl (rV s (q1 s) 5) else 0), .int .i64 (if 6 < i then whl (rV s (q1 s) 6) else 0), .int .i64 (if 7 < i then whl (rV s (q1 s) 7) else 0), .int .i64 (if 8 < i then whl (rV s (q1 s) 8) else 0), .int .i64 (if 9 < i then whl (rV s (q1 s) 9) else 0), .int .i64 (if 10 < i then whl (rV s (q1 s) 10) else 0), .int .i64 (if 11 < i then whl (rV s (q1 s) 11) else 0), .int .i64 (if 12 < i then whl (rV s (q1 s) 12) else 0), .int .i64 (if 13 < i then whl (rV s (q1 s) 13) else 0), .int .i64 (if 14 < i then whl (rV s (q1 s) 14) else 0)]
theorem arr_succ (s : Bytes) : ∀ i : Fin 15, (arrC s i.val).set (0 + i.val * 1) (.int .i64 (whl (rV s (q1 s) i.val))) = arrC s (i.val + 1)
  | ⟨0, _⟩ => rfl
  | ⟨1, _⟩ => rfl
  | ⟨2, _⟩ => rfl
  | ⟨3, _⟩ => rfl
  | ⟨4, _⟩ => rfl
  | ⟨5, _⟩ => rfl
  | ⟨6, _⟩ => rfl
  | ⟨7, _⟩ => rfl
  | ⟨8, _⟩ => rfl
  | ⟨9, _⟩ => rfl
  | ⟨10, _⟩ => rfl
  | ⟨11, _⟩ => rfl
  | ⟨12, _⟩ => rfl
  | ⟨13, _⟩ => rfl
  | ⟨14, _⟩ => rfl
theorem arr_succ' (s : Bytes) {i : Nat} (hi : i < 15) (v : Nat) (hv : rV s (q1 s) i = v) : (arrC s i).set (0 + i * 1) (.int .i64 (whl v)) = arrC s (i + 1) := by
  subst hv
  exact arr_succ s ⟨i, hi⟩
theorem arr_all (s : Bytes) : arrC s 15 = [.int .i64 (whl (rV s (q1 s) 0)), .int .i64 (whl (rV s (q1 s) 1)), .int .i64 (whl (rV s (q1 s) 2)), .int .i64 (whl (rV s (q1 s) 3)), .int .i64 (whl (rV s (q1 s) 4)), .int .i64 (whl (rV s (q1 s) 5)), .int .i64 (whl (rV s (q1 s) 6)), .int .i64 (whl (rV s (q1 s) 7)), .int .i64 (whl (rV s (q1 s) 8)), .int .i64 (whl (rV s (q1 s) 9)), .int .i64 (whl (rV s (q1 s) 10)), .int .i64 (whl (rV s (q1 s) 11)), .int .i64 (whl (rV s (q1 s) 12)), .int .i64 (whl (rV s (q1 s) 13)), .int .i64 (whl (rV s (q1 s) 14))] := by
  simp only [arrC, Nat.reduceLT, if_true]
theorem idxA_ok {b i n : Nat} (h : i < n) : idxA n 1 (.ptr b 0) (i : Int) = some (.ptr b (0 + i * 1)) := by
  show (match Nat.blt i n with | true => some (AV.ptr b (0 + i * 1)) | false => none) = _
  rw [show Nat.blt i n = true from Nat.ble_eq_true_of_le h]
section
variable {n d b bm ba : Nat} {h h0 : AHeap} {s : Bytes} {r : RS} {Q : ARes → AHeap → Prop} {S : List Nat} {T ys : List RowT} {cs : List AV}
theorem rread_loop1 (hs : s.length ≤ 1000000) (hn : 8 < n) {hp : AHeap} {k23 : AHeap → R} (hk : ∀ h', Mem S h0 h' ((hp.next, 87, arrC s 15) :: (bm, 30, cs) :: (b, 85, rdC s (q2 s)) :: ys) → Wp (k23 h') Q) :
    ∀ (f i : Nat) (h : AHeap), 15 < f + i → i ≤ 15 → Mem S h0 h ((hp.next, 87, arrC s i) :: (bm, 30, cs) :: (b, 85, rdC s (rSt s (q1 s) i)) :: ys) → Wp (ref17_Read_L1 (world n (d + 1)) (.ptr b 0) hp k23 f (i : Int) h) Q
  | 0, i, h, h1, h2, _ => by omega
  | f + 1, i, h, h1, h2, M => by
    rw [ref17_Read_L1_s]
    unfold ref17_Read_L1b
    by_cases hi : i < 15
    · have e1 := idxA_ok (b := hp.next) hi
      have hv := rV_lt (s := s) (r := q1 s) (i := i)
      repeat (first | (with_reducible refine Wp.cl2 (refNum_r (n := n) (d := d) (w := 8) (W := 8) (Mem.at2 (by assumption)).1 (Mem.at2 (by assumption)).2.1 (rSt_ok (ok1 s) i) (by omega) hs hn rfl) (by assumption) (fun _ _ => ?_)) | (with_reducible refine Wp.lett ?_) | ((with_reducible apply Wp.obind); (with_reducible first | exact avInt_int _ _ | assumption)) | ((with_reducible refine Wp.ift ?_ ?_); ((with_reducible apply decide_eq_true); omega)) | ((with_reducible apply Wp.callN); (with_reducible exact whole17_w _)) | rw [newP_eq])
      rename_i M1
      refine Wp.ms0 M1 (o := 0 + i * 1) (show 0 + i * 1 < 15 by omega) rfl (fun h2 M2 => ?_)
      rw [arr_succ' s hi (rNum s 8 (rSt s (q1 s) i)).1 rfl] at M2
      repeat (((with_reducible refine Wp.lettw ?_ ?_ ?_); omega; omega))
      rw [show (i : Int) + 1 = ((i + 1 : Nat) : Int) by omega]
      exact rread_loop1 hs hn hk f (i + 1) h2 (by omega) (by omega) M2
    · have : i = 15 := by omega
      subst this
      repeat (first | (with_reducible refine Wp.lett ?_) | ((with_reducible refine Wp.iff ?_ ?_); ((with_reducible apply decide_eq_false); omega)))
      exact hk h M
theorem rread_loop0 (hs : s.length ≤ 1000000) (hn : 8 < n) (hx : memB 42 h0.ex = false) (m : AV → Ms) (hm : ∀ v, (m v).cells[9]? = some v) (hm2 : ∀ v v', (m v).cells.set 9 v' = (m v').cells) {hp : AHeap} {k156 : AHeap → R}
    (hk : ∀ h' v T, GrowT 42 2 ((entsF whl s (cntOf s)).map entC) v T → Mem S h0 h' ((hp.next, 30, (m v).cells) :: (b, 85, rdC s (q9 s)) :: (ba, 30, cs) :: T) → Wp (k156 h') Q) :
    ∀ (f i : Nat) (h : AHeap) (v : AV) (T : List RowT), cntOf s < f + i → i ≤ cntOf s → GrowT 42 2 ((entsF whl s i).map entC) v T → Mem S h0 h ((hp.next, 30, (m v).cells) :: (b, 85, rdC s (eSt s (q8 s) i)) :: (ba, 30, cs) :: T) → Wp (ref17_Read_L0 (world n (d + 2)) (.ptr b 0) hp (manyOf s : Int) k156 f (i : Int) h) Q
  | 0, i, h, v, T, h1, h2, _, _ => by omega
  | f + 1, i, h, v, T, h1, h2, g, M => by
    rw [ref17_Read_L0_s]
    unfold ref17_Read_L0b
    have hc4 : cntOf s ≤ 4 ∧ cntOf s ≤ manyOf s ∧ (cntOf s = 4 ∨ cntOf s = manyOf s) := by unfold cntOf; split <;> omega
    by_cases hi : i < cntOf s
    · repeat (first | (with_reducible refine Wp.cl2 (refNum_r (n := n) (d := d + 1) (w := 8) (W := 8) (Mem.at2 (by assumption)).1 (Mem.at2 (by assumption)).2.1 (eSt_ok (ok8 s) i) (by omega) hs hn rfl) (by assumption) (fun _ _ => ?_)) | (with_reducible refine Wp.cl2 (refText_r (n := n) (d := d) (most := 3500) (W := 3500) (Mem.at2 (by assumption)).1 (Mem.at2 (by assumption)).2.1 (rNum_ok (eSt_ok (ok8 s) i)) hs hn (by omega) rfl) (by assumption) (fun _ _ => ?_)) | ((with_reducible apply Wp.ld1); (with_reducible assumption); exact hm _) | ((with_reducible apply Wp.lr0); (with_reducible assumption); rfl) | ((with_reducible apply Wp.ms0); (with_reducible assumption); exact Nat.le_of_ble_eq_true rfl; rfl; intro _ _) | ((with_reducible apply Wp.mnew); (with_reducible assumption); intro _ _) | (with_reducible refine Wp.join1 (fun _ _ => ?_)) | (with_reducible refine Wp.lett ?_) | ((with_reducible apply Wp.obind); (with_reducible first | exact avInt_int _ _ | exact avStr_str _)) | ((with_reducible refine Wp.ift ?_ ?_); ((with_reducible apply decide_eq_true); omega)) | ((with_reducible apply Wp.callN); (with_reducible exact whole17_w _)) | (with_reducible refine Wp.go1 (by assumption) ?_) | rw [newP_eq])
      rename_i M3
      refine Wp.mnews M3 (bldSl26_1 _ _ _) rfl hx (fun h4 M4 => ?_)
      have M5 := M4.swap.pop
      have hrows : ((entsF whl s i).map entC).length ≤ 4 := by rw [List.length_map, entsF_len]; omega
      refine Wp.grow (xs := [(hp.next, 30, (m v).cells), (b, 85, rdC s (eSt s (q8 s) (i + 1))), (ba, 30, cs)]) (T := T) (sz := 2) (P := Try.prog) (t := 26) (u := 26) M5 g el26 not26 cells42 fit42 hx rfl rfl (by omega) (by omega) (fun v' h6 T' g' M6 => ?_)
      rw [g'.one.2]
      have e7 : (entsF whl s i).map entC ++ [[.int .i64 (whl (eV s (q8 s) i).1), strA (eV s (q8 s) i).2]] = (entsF whl s (i + 1)).map entC := by
        rw [entsF_succ, List.map_append]
        rfl
      have g'' : GrowT 42 2 ((entsF whl s (i + 1)).map entC) v' T' := by rw [← e7]; exact g'
      refine Wp.ms0 M6 (o := 9) (by have := hm v; exact (List.getElem?_eq_some_iff.1 this).1) g'.one.1 (fun h7 M7 => ?_)
      rw [hm2] at M7
      repeat (((with_reducible refine Wp.lettw ?_ ?_ ?_); omega; omega))
      rw [show (i : Int) + 1 = ((i + 1 : Nat) : Int) by omega]
      exact rread_loop0 hs hn hx m hm hm2 hk f (i + 1) h7 v' T' (by omega) (by omega) g'' M7
    · have : i = cntOf s := by omega
      subst this
      have fin := hk h v T g M
      by_cases c1 : cntOf s < manyOf s
      · repeat (first | (with_reducible refine Wp.join1 (fun _ _ => ?_)) | (with_reducible refine Wp.lett ?_) | ((with_reducible refine Wp.ift ?_ ?_); ((with_reducible apply decide_eq_true); omega)) | ((with_reducible refine Wp.iff ?_ ?_); ((with_reducible apply decide_eq_false); omega)) | (with_reducible refine Wp.go1 (by assumption) ?_))
        exact fin
      · repeat (first | (with_reducible refine Wp.join1 (fun _ _ => ?_)) | (with_reducible refine Wp.lett ?_) | ((with_reducible refine Wp.iff ?_ ?_); first | (with_reducible rfl) | ((with_reducible apply decide_eq_false); omega)) | (with_reducible refine Wp.go1 (by assumption) ?_))
        exact fin
end
section
variable {n d : Nat} {h : AHeap} {s : Bytes} {Q : ARes → AHeap → Prop} {T : List RowT}
set_option maxRecDepth 100000 in
set_option maxHeartbeats 1000000 in
theorem refRead_w (hs : s.length ≤ 1000000) (hn : 100 < n) (hx : h.ex = [53]) : ∃ v h', world n (d + 3) 19 [strA s] h = some (.ret (.tup [.agg (readC whl s v).1, .int .i64 (readC whl s v).2.1, .int .i64 (readC whl s v).2.2]), h') ∧ rowsOk whl s h v h' := by
  suffices hK : Wp (world n (d + 3) 19 [strA s] h) fun x h' => ∃ v, x = .ret (.tup [.agg (readC whl s v).1, .int .i64 (readC whl s v).2.1, .int .i64 (readC whl s v).2.2]) ∧ rowsOk whl s h v h' by
    obtain ⟨_, h', e, v, rfl, q⟩ := hK
    exact ⟨v, h', e, q⟩
  rw [w_ref17_Read]
  suffices hK : Wp (ref17_Read (world n (d + 2)) n s h) fun x h' => ∃ v, x = .ret (.tup [.agg (readC whl s v).1, .int .i64 (readC whl s v).2.1, .int .i64 (readC whl s v).2.2]) ∧ rowsOk whl s h v h' by
    refine Wp.gc2 (hK.mono ?_)
    rintro r h' ⟨v, rfl, hv⟩
    exact ⟨⟨v, rfl, hv⟩, fun ha hl => ⟨v, rfl, rowsOk_gc hv ha hl⟩⟩
  unfold ref17_Read
  have Mx := Mem.nil [] h
  have hn8 : 8 < n := by omega
  have b1 : (rNum s 1 ⟨0, 0, 0⟩).1 < 256 := rNum_lt (w := 1)
  repeat (first | ((with_reducible apply Wp.mnew Mx); intro _ Mz; clear Mx; have Mx := Mz; clear Mz) | ((with_reducible apply Wp.mbox Mx); (rfl); intro _ Mz; clear Mx; have Mx := Mz; clear Mz) | rw [newP_eq])
  have Mz : Mem [] h _ ((_, 30, zeros22) :: (_, 85, rdC s ⟨0, 0, 0⟩) :: (_, 30, zeros22) :: []) := Mx
  clear Mx
  have Mx := Mz
  clear Mz
  simp only [zeros22] at Mx
  repeat (first | ((with_reducible refine Wp.cl1 (refNum_r (n := n) (d := d + 1) (w := 1) (W := 1) (Mem.at1 Mx).1 (Mem.at1 Mx).2.1 (ok0 s) (by omega) hs hn8 rfl) Mx (fun _ Mz => ?_)); clear Mx; have Mx := Mz; clear Mz) | ((with_reducible apply Wp.obind); (with_reducible exact avInt_int _ _)) | ((with_reducible apply Wp.ms0 Mx); exact Nat.le_of_ble_eq_true rfl; rfl; intro _ Mz; (try simp only [List.set_cons_succ] at Mz); (try simp only [List.set_cons_zero] at Mz); clear Mx; have Mx := Mz; clear Mz) | ((with_reducible apply Wp.mnew Mx); intro _ Mz; clear Mx; have Mx := Mz; clear Mz) | (with_reducible refine Wp.join0 (fun _ _ => ?_)) | ((with_reducible refine Wp.lettu8 ?_ ?_ ?_); omega; omega))
  rename_i k23 hk23
  refine rread_loop1 (d := d + 1) hs hn8 (fun h3 Mz => ?_) n 0 _ (by omega) (by omega) Mx
  clear Mx
  have Mx := Mz
  clear Mz
  rw [arr_all] at Mx
  have b3 : (rNum s 1 (q3 s)).1 < 256 := rNum_lt (w := 1)
  have b4 : (rNum s 4 (q4 s)).1 < 4294967296 := rNum_lt (w := 4)
  have b5 : (rNum s 1 (q5 s)).1 < 256 := rNum_lt (w := 1)
  have b7 : (rNum s 1 (q7 s)).1 < 256 := rNum_lt (w := 1)
  have d3 : (rNum s 1 (rBool s (q2 s)).2).1 < 256 := rNum_lt (w := 1)
  have d4 : (rNum s 4 (rNum s 1 (rBool s (q2 s)).2).2).1 < 4294967296 := rNum_lt (w := 4)
  have d5 : (rNum s 1 (rNum s 4 (rNum s 1 (rBool s (q2 s)).2).2).2).1 < 256 := rNum_lt (w := 1)
  have d7 : (rNum s 1 (rText s 3500 (rNum s 1 (rNum s 4 (rNum s 1 (rBool s (q2 s)).2).2).2).2).2).1 < 256 := rNum_lt (w := 1)
  have hix : ∀ (b k : Nat), k < 15 → idxA 15 1 (.ptr b 0) (k : Int) = some (.ptr b (0 + k * 1)) := fun b k hk => idxA_ok hk
  have hix0 : ∀ (b : Nat), idxA 15 1 (.ptr b 0) 0 = some (.ptr b 0) := fun b => hix b 0 (by omega)
  have hix1 : ∀ (b : Nat), idxA 15 1 (.ptr b 0) 1 = some (.ptr b 1) := fun b => hix b 1 (by omega)
  have hix2 : ∀ (b : Nat), idxA 15 1 (.ptr b 0) 2 = some (.ptr b 2) := fun b => hix b 2 (by omega)
  have hix3 : ∀ (b : Nat), idxA 15 1 (.ptr b 0) 3 = some (.ptr b 3) := fun b => hix b 3 (by omega)
  have hix4 : ∀ (b : Nat), idxA 15 1 (.ptr b 0) 4 = some (.ptr b 4) := fun b => hix b 4 (by omega)
  have hix5 : ∀ (b : Nat), idxA 15 1 (.ptr b 0) 5 = some (.ptr b 5) := fun b => hix b 5 (by omega)
  have hix6 : ∀ (b : Nat), idxA 15 1 (.ptr b 0) 6 = some (.ptr b 6) := fun b => hix b 6 (by omega)
  have hix7 : ∀ (b : Nat), idxA 15 1 (.ptr b 0) 7 = some (.ptr b 7) := fun b => hix b 7 (by omega)
  have hix8 : ∀ (b : Nat), idxA 15 1 (.ptr b 0) 8 = some (.ptr b 8) := fun b => hix b 8 (by omega)
  have hix9 : ∀ (b : Nat), idxA 15 1 (.ptr b 0) 9 = some (.ptr b 9) := fun b => hix b 9 (by omega)
  have hix10 : ∀ (b : Nat), idxA 15 1 (.ptr b 0) 10 = some (.ptr b 10) := fun b => hix b 10 (by omega)
  have hix11 : ∀ (b : Nat), idxA 15 1 (.ptr b 0) 11 = some (.ptr b 11) := fun b => hix b 11 (by omega)
  have hix12 : ∀ (b : Nat), idxA 15 1 (.ptr b 0) 12 = some (.ptr b 12) := fun b => hix b 12 (by omega)
  have hix13 : ∀ (b : Nat), idxA 15 1 (.ptr b 0) 13 = some (.ptr b 13) := fun b => hix b 13 (by omega)
  have hix14 : ∀ (b : Nat), idxA 15 1 (.ptr b 0) 14 = some (.ptr b 14) := fun b => hix b 14 (by omega)
  repeat (first | ((with_reducible refine Wp.cl2 (refBool_r (n := n) (d := d) (Mem.at2 Mx).1 (Mem.at2 Mx).2.1 (ok2 s) hs hn8) Mx (fun _ Mz => ?_)); clear Mx; have Mx := Mz; clear Mz) | ((with_reducible refine Wp.cl2 (refNum_r (n := n) (d := d + 1) (w := 1) (W := 1) (Mem.at2 Mx).1 (Mem.at2 Mx).2.1 (ok3 s) (by omega) hs hn8 rfl) Mx (fun _ Mz => ?_)); clear Mx; have Mx := Mz; clear Mz) | ((with_reducible refine Wp.cl2 (refNum_r (n := n) (d := d + 1) (w := 4) (W := 4) (Mem.at2 Mx).1 (Mem.at2 Mx).2.1 (ok4 s) (by omega) hs hn8 rfl) Mx (fun _ Mz => ?_)); clear Mx; have Mx := Mz; clear Mz) | ((with_reducible refine Wp.cl2 (refNum_r (n := n) (d := d + 1) (w := 1) (W := 1) (Mem.at2 Mx).1 (Mem.at2 Mx).2.1 (ok5 s) (by omega) hs hn8 rfl) Mx (fun _ Mz => ?_)); clear Mx; have Mx := Mz; clear Mz) | ((with_reducible refine Wp.cl2 (refNum_r (n := n) (d := d + 1) (w := 1) (W := 1) (Mem.at2 Mx).1 (Mem.at2 Mx).2.1 (ok7 s) (by omega) hs hn8 rfl) Mx (fun _ Mz => ?_)); clear Mx; have Mx := Mz; clear Mz) | ((with_reducible refine Wp.cl2 (refText_r (n := n) (d := d) (most := 3500) (W := 3500) (Mem.at2 Mx).1 (Mem.at2 Mx).2.1 (ok6 s) hs hn8 (by omega) rfl) Mx (fun _ Mz => ?_)); clear Mx; have Mx := Mz; clear Mz) | ((with_reducible apply Wp.obind); (with_reducible first | exact avInt_int _ _ | exact avBool_bool _ | exact avStr_str _)) | ((with_reducible apply Wp.ld0 Mx); rfl) | ((with_reducible apply Wp.ms1 Mx); exact Nat.le_of_ble_eq_true rfl; rfl; intro _ Mz; (try simp only [List.set_cons_succ] at Mz); (try simp only [List.set_cons_zero] at Mz); clear Mx; have Mx := Mz; clear Mz) | ((with_reducible refine Wp.chk ?_ ?_); focus ((repeat' (first | (with_reducible exact rfl) | (with_reducible apply and_t) | ((with_reducible apply Mem.re0 Mx); kernel_rfl; rfl))); done)) | (with_reducible refine Wp.join0 (fun _ _ => ?_)) | ((with_reducible first | refine Wp.lettw ?_ ?_ ?_ | refine Wp.lettu8 ?_ ?_ ?_); omega; omega) | ((with_reducible apply Wp.obind); (with_reducible first | exact hix0 _ | exact hix1 _ | exact hix2 _ | exact hix3 _ | exact hix4 _ | exact hix5 _ | exact hix6 _ | exact hix7 _ | exact hix8 _ | exact hix9 _ | exact hix10 _ | exact hix11 _ | exact hix12 _ | exact hix13 _ | exact hix14 _)) | (with_reducible refine Wp.go0 (by assumption) ?_) | rw [newP_eq])
  have hcn : cntOf s < n := by unfold cntOf; split <;> omega
  rename_i k156 hk156
  refine rread_loop0 (d := d) hs hn8 (by rw [hx]; rfl) (msgF whl s) (fun _ => rfl) (fun _ _ => rfl) (fun h6 v T g M6 => ?_) n 0 _ .nsl [] (by omega) (by omega) (GrowT.nil _ _) Mx.pop
  clear Mx
  have Mx := M6
  clear M6
  have hone := msgF_one (f := whl) (s := s) g.one.1
  have he : EntsAt h6.next h6 v (entsF whl s (cntOf s)) := ents_grow (xs := [_, _, _]) g Mx (Nat.le_refl _)
  have en := refEnd_r (n := n) (d := d + 1) Mx.at1.1 Mx.at1.2.1
  have hln : (entsF whl s (cntOf s)).length < n := by rw [entsF_len]; omega
  have ck := refCheck_w (n := n) (d := d) (m := msgF whl s v) (by omega) hln he (Nat.le_refl _) (msgF_lens whl s v) hone (by rw [Mx.ex, hx]; rfl)
  have bad : ∀ {a : Int × Int} {h' : AHeap}, (readC whl s v) = (zeros22, a) → a.1 ≠ 0 → Tch [] h h' → ∃ v, ARes.ret (.tup [.agg zeros22, .int .i64 a.1, .int .i64 a.2]) = .ret (.tup [.agg (readC whl s v).1, .int .i64 (readC whl s v).2.1, .int .i64 (readC whl s v).2.2]) ∧ rowsOk whl s h v h' := fun e1 e2 t => ⟨v, by rw [e1], g.one.1, fun h0 => by rw [e1] at h0; exact absurd h0 e2, t⟩
  by_cases c1 : (rEnd s (q9 s)).1 = 0
  case neg =>
    repeat (first | ((with_reducible apply Wp.obind); (with_reducible exact avInt_int _ _)) | ((with_reducible apply Wp.lr2 Mx); rfl) | ((with_reducible apply Wp.sa2 Mx); rfl; rfl; (rfl); intro _ Mz; clear Mx; have Mx := Mz; clear Mz) | (with_reducible refine Wp.lett ?_) | ((with_reducible apply Wp.obind); (with_reducible first | exact extT_0 _ _ | exact extT_1 _ _ _)) | ((with_reducible refine Wp.ift ?_ ?_); ((with_reducible apply bne_t); omega)) | ((with_reducible apply Wp.callN); (with_reducible assumption)) | (with_reducible refine Wp.go0 (by assumption) ?_))
    exact Wp.ret (bad (by unfold readC; rw [if_pos c1]) c1 Mx.tch)
  by_cases c2 : manyOf s > 4
  · have d2 : (rNum s 1 (rText s 3500 (rNum s 1 (rNum s 4 (rNum s 1 (rBool s (q2 s)).2).2).2).2).2).1 > 4 := c2
    repeat (first | ((with_reducible apply Wp.obind); (with_reducible exact avInt_int _ _)) | ((with_reducible apply Wp.lr2 Mx); rfl) | ((with_reducible apply Wp.sa2 Mx); rfl; rfl; (rfl); intro _ Mz; clear Mx; have Mx := Mz; clear Mz) | (with_reducible refine Wp.join1 (fun _ _ => ?_)) | (with_reducible refine Wp.lett ?_) | ((with_reducible apply Wp.obind); (with_reducible first | exact extT_0 _ _ | exact extT_1 _ _ _)) | ((with_reducible refine Wp.ift ?_ ?_); first | (with_reducible rfl) | ((with_reducible first | apply decide_eq_true | apply bne_t); omega)) | ((with_reducible refine Wp.iff ?_ ?_); ((with_reducible apply bne_f); omega)) | ((with_reducible apply Wp.callN); (with_reducible assumption)) | (with_reducible first | refine Wp.go0 (by assumption) ?_ | refine Wp.go1 (by assumption) ?_))
    exact Wp.ret (bad (a := (7, 0)) (by unfold readC; rw [if_neg (by simpa using c1), if_pos (.inl c2)]) (by decide) Mx.tch)
  have d2 : ¬ (rNum s 1 (rText s 3500 (rNum s 1 (rNum s 4 (rNum s 1 (rBool s (q2 s)).2).2).2).2).2).1 > 4 := c2
  by_cases c3 : chkM (msgF whl s v) (entsF whl s (cntOf s)) = 0
  case neg =>
    repeat (first | ((with_reducible apply Wp.obind); (with_reducible exact avInt_int _ _)) | ((with_reducible apply Wp.lr0 Mx); rfl) | ((with_reducible apply Wp.lr2 Mx); rfl) | ((with_reducible apply Wp.sa2 Mx); rfl; rfl; (rfl); intro _ Mz; clear Mx; have Mx := Mz; clear Mz) | (with_reducible refine Wp.join1 (fun _ _ => ?_)) | (with_reducible refine Wp.lett ?_) | ((with_reducible apply Wp.obind); (with_reducible first | exact extT_0 _ _ | exact extT_1 _ _ _)) | ((with_reducible refine Wp.ift ?_ ?_); ((with_reducible first | apply decide_eq_true | apply bne_t); omega)) | ((with_reducible refine Wp.iff ?_ ?_); ((with_reducible first | apply decide_eq_false | apply bne_f); omega)) | ((with_reducible apply Wp.callN); (with_reducible assumption)) | (with_reducible first | refine Wp.go0 (by assumption) ?_ | refine Wp.go1 (by assumption) ?_))
    exact Wp.ret (bad (a := (7, 0)) (by unfold readC; rw [if_neg (by simpa using c1), if_pos (.inr c3)]) (by decide) Mx.tch)
  have e1 : readC whl s v = ((msgF whl s v).cells, 0, 0) := by unfold readC; rw [if_neg (by simpa using c1), if_neg (by omega)]
  repeat (first | ((with_reducible apply Wp.obind); (with_reducible exact avInt_int _ _)) | ((with_reducible apply Wp.lr0 Mx); rfl) | ((with_reducible apply Wp.lr2 Mx); rfl) | ((with_reducible apply Wp.sa2 Mx); rfl; rfl; (with_reducible assumption); intro _ Mz; clear Mx; have Mx := Mz; clear Mz) | (with_reducible refine Wp.join1 (fun _ _ => ?_)) | (with_reducible refine Wp.lett ?_) | ((with_reducible apply Wp.obind); (with_reducible first | exact extT_0 _ _ | exact extT_1 _ _ _)) | ((with_reducible refine Wp.iff ?_ ?_); ((with_reducible first | apply decide_eq_false | apply bne_f); omega)) | ((with_reducible apply Wp.callN); (with_reducible assumption)) | (with_reducible first | refine Wp.go0 (by assumption) ?_ | refine Wp.go1 (by assumption) ?_))
  exact Wp.ret ⟨v, by rw [e1], g.one.1, fun _ => ents_grow (xs := [_, _, _]) g Mx (Nat.le_refl _), Mx.tch⟩
end
end Go.Proofs.Ytmibgiblejpgdaa
