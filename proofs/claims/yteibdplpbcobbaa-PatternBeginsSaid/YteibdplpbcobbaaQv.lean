/- Texts in quotes: the document's reading. -/
import Derived.Test.YteibdplpbcobbaaQt
import Derived.Test.YteibdplpbcobbaaQg
namespace Go.Proofs.Yteibdplpbcobbaa
open Go.RowKit Abs
theorem elI : Abs.elemOf Try.prog 64 = some 3 := by kernel_rfl
theorem notI : notInt Try.prog 64 = true := by kernel_rfl
theorem cellsI : Try.prog.cellsOf 3 = 1 := by kernel_rfl
theorem fitI : fitB Try.prog 3 8 = true := by kernel_rfl
theorem elU : Abs.elemOf Try.prog 50 = some TU8 := by kernel_rfl
theorem notU : notInt Try.prog 50 = true := by kernel_rfl
theorem cellsU : Try.prog.cellsOf TU8 = 1 := by kernel_rfl
theorem fitU : fitB Try.prog TU8 1 = true := by kernel_rfl
theorem bldSl_int (h : AHeap) (v : Int) : bldSl Try.prog h 64 1 [(0, .int .i64 v)] = outNewS h 3 [.int .i64 v] 1 1 := by kernel_rfl
theorem conv_nsl (h : AHeap) : opConv Try.prog h 50 9 (some .nsl) = some (.val (strA []), h) := by kernel_rfl
theorem extT_3 (x y z w : AV) (l : List AV) : extT 3 (.tup (x :: y :: z :: w :: l)) = some w := rfl
noncomputable def rowsU (acc : Bytes) : List (List AV) := acc.map fun b => [AV.int .u8 (b.toNat : Int)]
noncomputable def rowsI (pl : List Nat) : List (List AV) := pl.map fun (q : Nat) => [AV.int .i64 ((q : Nat) : Int)]
theorem rowsU_flat (acc : Bytes) : (rowsU acc).flatten = bytesC acc := by
  unfold rowsU bytesC
  exact flat_one _ _
section
variable {n d p : Nat} {h h0 : AHeap} {u : Bytes} {Q : ARes → AHeap → Prop} {S : List Nat}
theorem conv_grow {acc : Bytes} {v : AV} {xs T : List RowT} (g : GrowT TU8 1 (rowsU acc) v T) (M : Mem S h0 h (xs ++ T)) : opConv Try.prog h 50 9 (some v) = some (.val (strA acc), h) := by
  rcases g.2 with ⟨h1, rfl, _⟩ | ⟨h1, c, rfl, rfl⟩
  · have : acc = [] := by simpa [rowsU] using h1
    subst this
    exact conv_nsl h
  · have hc := M.at.1
    rw [rowsU_flat] at hc
    have hl : (rowsU acc).length = acc.length := by simp [rowsU]
    rw [hl]
    refine conv_row (by kernel_rfl) (by kernel_rfl) ?_
    have := hc.part (o := 0) (n := (bytesC acc).length) (by omega)
    rwa [List.drop_zero, List.take_length, bytesC_length] at this
theorem scan_loop (hu : u.length ≤ 1000000) (hn : 300 < n) (hxI : memB 3 h0.ex = false) (hxU : memB TU8 h0.ex = false) :
    ∀ (fuel f p : Nat) (acc : Bytes) (pl : List Nat) (v1 v2 : AV) (T1 T2 : List RowT) (H : AHeap), fuel < f → u.length + 1 ≤ fuel + p → p ≤ u.length → acc.length ≤ p → pl.length ≤ p → GrowT TU8 1 (rowsU acc) v1 T1 → GrowT 3 1 (rowsI pl) v2 T2 → Mem S h0 H (T1 ++ T2) →
      (∀ l q pl' v T H', scanQ u (-1) fuel p acc = .ok l (q + 1) → pl'.length ≤ q → GrowT 3 1 (rowsI (pl' ++ [q])) v T → Mem S h0 H' T → Q (.ret (.tup [strA l, v, .int .i64 ((q + 1 : Nat) : Int), .bool true])) H') →
      (∀ q H', scanQ u (-1) fuel p acc = .bad 6 q → Tch S h0 H' → Q (.ret (.tup [strA [], .nsl, .int .i64 (q : Int), .bool false])) H') →
      Wp (ref09_Scan_L0 (world n (d + 2)) u f (p : Int) v1 v2 H) Q
  | 0, f, p, acc, pl, v1, v2, T1, T2, H, hf, hfu, hp, _, _, _, _, _, _, _ => by omega
  | fuel + 1, f + 1, p, acc, pl, v1, v2, T1, T2, H, hf, hfu, hp, hacc, hpl, g1, g2, Mx, hok, hbad => by
    rw [ref09_Scan_L0_s]
    unfold ref09_Scan_L0b
    have lu := lenS_nat u
    have hneg : ¬ (acc.length : Int) = -1 := by omega
    have hli : (rowsI pl).length = pl.length := by simp [rowsI]
    have hlu : (rowsU acc).length = acc.length := by simp [rowsU]
    refine Wp.mnews Mx (bldSl_int _ _) rfl hxI (fun h1 M1 => ?_)
    refine Wp.grow (xs := T1) (T := T2) (sz := 1) (P := Try.prog) M1 g2 elI notI cellsI fitI hxI rfl rfl (by omega) (by omega) (fun v2' h2 T2' g2' M2 => ?_)
    have g2'' : GrowT 3 1 (rowsI (pl ++ [p])) v2' T2' := by
      have : rowsI (pl ++ [p]) = rowsI pl ++ [[.int .i64 (p : Int)]] := by simp [rowsI]
      rw [this]
      exact g2'
    have M2' : Mem S h0 h2 (T2' ++ T1) := M2.perm List.perm_append_comm
    by_cases hq : at? u p = some 34
    · obtain ⟨hpl2, hpc⟩ := at?_some hq
      have hx : idxS u (p : Int) = some ((u[p]).toNat : Int) := idxS_nat hpl2
      repeat (first | (with_reducible first | refine Wp.join0 (fun _ _ => ?_) | refine Wp.join1 (fun _ _ => ?_) | refine Wp.join2 (fun _ _ => ?_)) | ((with_reducible first | refine Wp.lettw ?_ ?_ ?_ | refine Wp.lettu64 ?_ ?_ ?_ | refine Wp.lettu8 ?_ ?_ ?_ | refine Wp.lettu32 ?_ ?_ ?_); omega; omega) | (with_reducible refine Wp.lett ?_) | ((with_reducible apply Wp.obind); first | (with_reducible first | exact hx | exact avInt_int _ _ | exact avBool_bool _ | exact avStr_str _ | exact nilC_ptr _ _ | exact fldP_ptr _ _ _ | exact avAgg_agg _ | exact extT_0 _ _ | exact extT_1 _ _ _ | exact extT_2 _ _ _ _ | assumption) | ((with_reducible first | apply RowH.cell' | apply RowH.ldAll); (with_reducible assumption); rfl)) | ((with_reducible refine Wp.ift ?_ ?_); first | (with_reducible first | rfl | assumption | exact Bool.not_false) | ((with_reducible first | apply decide_eq_true | apply not_df | apply bne_t | apply beq_t); omega)) | ((with_reducible refine Wp.iff ?_ ?_); first | (with_reducible first | rfl | assumption | exact Bool.not_true) | ((with_reducible first | apply decide_eq_false | apply not_dt | apply bne_f | apply beq_f); omega)) | ((with_reducible first | apply Wp.callN | apply Wp.callK); (with_reducible assumption)) | ((with_reducible apply Wp.outK); (with_reducible first | exact conv_grow g1 M2' | assumption)) | (with_reducible first | refine Wp.go0 (by assumption) ?_ | refine Wp.go1 (by assumption) ?_ | refine Wp.go2 (by assumption) ?_) | rw [newP_eq])
      rw [show (p : Int) + 1 = ((p + 1 : Nat) : Int) by omega]
      exact Wp.ret (hok acc p pl v2' T2' h2 (by rw [scanQ, if_pos hq]) hpl g2'' M2.drop)
    · have hb := byteAt_w (n := n) (d := d) (h := h2) hu hp hn
      have sc : scanQ u (-1) (fuel + 1) p acc = match formAt u p with
          | .ok c q => scanQ u (-1) fuel q (acc ++ [UInt8.ofNat c])
          | .bad q => .bad 6 q := by rw [scanQ, if_neg hq, if_neg hneg]; rfl
      cases hF : formAt u p with
      | bad q =>
        rw [hF] at hb sc
        unfold batV at hb
        by_cases hl : p < u.length
        · have hx : idxS u (p : Int) = some ((u[p]).toNat : Int) := idxS_nat hl
          have h34 : (u[p]).toNat ≠ 34 := fun e => hq (by rw [at?_lt hl, e])
          repeat (first | (with_reducible first | refine Wp.join0 (fun _ _ => ?_) | refine Wp.join1 (fun _ _ => ?_) | refine Wp.join2 (fun _ _ => ?_)) | ((with_reducible first | refine Wp.lettw ?_ ?_ ?_ | refine Wp.lettu64 ?_ ?_ ?_ | refine Wp.lettu8 ?_ ?_ ?_ | refine Wp.lettu32 ?_ ?_ ?_); omega; omega) | (with_reducible refine Wp.lett ?_) | ((with_reducible apply Wp.obind); first | (with_reducible first | exact hx | exact avInt_int _ _ | exact avBool_bool _ | exact avStr_str _ | exact nilC_ptr _ _ | exact fldP_ptr _ _ _ | exact avAgg_agg _ | exact extT_0 _ _ | exact extT_1 _ _ _ | exact extT_2 _ _ _ _ | assumption) | ((with_reducible first | apply RowH.cell' | apply RowH.ldAll); (with_reducible assumption); rfl)) | ((with_reducible refine Wp.ift ?_ ?_); first | (with_reducible first | rfl | assumption | exact Bool.not_false) | ((with_reducible first | apply decide_eq_true | apply not_df | apply bne_t | apply beq_t); omega)) | ((with_reducible refine Wp.iff ?_ ?_); first | (with_reducible first | rfl | assumption | exact Bool.not_true) | ((with_reducible first | apply decide_eq_false | apply not_dt | apply bne_f | apply beq_f); omega)) | ((with_reducible first | apply Wp.callN | apply Wp.callK); (with_reducible assumption)) | ((with_reducible apply Wp.outK); (with_reducible assumption)) | (with_reducible first | refine Wp.go0 (by assumption) ?_ | refine Wp.go1 (by assumption) ?_ | refine Wp.go2 (by assumption) ?_) | rw [newP_eq])
          exact Wp.ret (hbad q h2 sc M2.tch)
        · repeat (first | (with_reducible first | refine Wp.join0 (fun _ _ => ?_) | refine Wp.join1 (fun _ _ => ?_) | refine Wp.join2 (fun _ _ => ?_)) | ((with_reducible first | refine Wp.lettw ?_ ?_ ?_ | refine Wp.lettu64 ?_ ?_ ?_ | refine Wp.lettu8 ?_ ?_ ?_ | refine Wp.lettu32 ?_ ?_ ?_); omega; omega) | (with_reducible refine Wp.lett ?_) | ((with_reducible apply Wp.obind); first | (with_reducible first | exact avInt_int _ _ | exact avBool_bool _ | exact avStr_str _ | exact nilC_ptr _ _ | exact fldP_ptr _ _ _ | exact avAgg_agg _ | exact extT_0 _ _ | exact extT_1 _ _ _ | exact extT_2 _ _ _ _ | assumption) | ((with_reducible first | apply RowH.cell' | apply RowH.ldAll); (with_reducible assumption); rfl)) | ((with_reducible refine Wp.ift ?_ ?_); first | (with_reducible first | rfl | assumption | exact Bool.not_false) | ((with_reducible first | apply decide_eq_true | apply not_df | apply bne_t | apply beq_t); omega)) | ((with_reducible refine Wp.iff ?_ ?_); first | (with_reducible first | rfl | assumption | exact Bool.not_true) | ((with_reducible first | apply decide_eq_false | apply not_dt | apply bne_f | apply beq_f); omega)) | ((with_reducible first | apply Wp.callN | apply Wp.callK); (with_reducible assumption)) | ((with_reducible apply Wp.outK); (with_reducible assumption)) | (with_reducible first | refine Wp.go0 (by assumption) ?_ | refine Wp.go1 (by assumption) ?_ | refine Wp.go2 (by assumption) ?_) | rw [newP_eq])
          exact Wp.ret (hbad q h2 sc M2.tch)
      | ok c q =>
        rw [hF] at hb sc
        unfold batV at hb
        obtain ⟨hc, hpq, hqu⟩ := formAt_ok hF
        have next : Wp (Abs.outK (bldSl Try.prog h2 50 1 [(0, .int .u8 (c : Int))]) fun v57 h_48 => Abs.outK (opAppend Try.prog h_48 50 50 v1 v57) fun v58 h_50 => ref09_Scan_L0 (world n (d + 2)) u f (q : Int) v58 v2' h_50) Q := by
          refine Wp.mnews M2' (bldSl_byte _ _) rfl hxU (fun h3 M3 => ?_)
          refine Wp.grow (xs := T2') (T := T1) (sz := 1) (P := Try.prog) M3 g1 elU notU cellsU fitU hxU rfl rfl (by omega) (by omega) (fun v1' h4 T1' g1' M4 => ?_)
          have g1'' : GrowT TU8 1 (rowsU (acc ++ [UInt8.ofNat c])) v1' T1' := by
            have : rowsU (acc ++ [UInt8.ofNat c]) = rowsU acc ++ [[.int .u8 (c : Int)]] := by simp [rowsU, ofNat_toNat hc]
            rw [this]
            exact g1'
          refine scan_loop hu hn hxI hxU fuel f q (acc ++ [UInt8.ofNat c]) (pl ++ [p]) v1' v2' T1' T2' h4 (by omega) (by omega) hqu (by simp; omega) (by simp; omega) g1'' g2'' (M4.perm List.perm_append_comm) ?_ ?_
          · intro l q' pl' v T H' hs
            exact hok l q' pl' v T H' (by rw [sc]; exact hs)
          · intro q' H' hs
            exact hbad q' H' (by rw [sc]; exact hs)
        by_cases hl : p < u.length
        · have hx : idxS u (p : Int) = some ((u[p]).toNat : Int) := idxS_nat hl
          have h34 : (u[p]).toNat ≠ 34 := fun e => hq (by rw [at?_lt hl, e])
          repeat (first | (with_reducible first | refine Wp.join0 (fun _ _ => ?_) | refine Wp.join1 (fun _ _ => ?_) | refine Wp.join2 (fun _ _ => ?_)) | ((with_reducible first | refine Wp.lettw ?_ ?_ ?_ | refine Wp.lettu64 ?_ ?_ ?_ | refine Wp.lettu8 ?_ ?_ ?_ | refine Wp.lettu32 ?_ ?_ ?_); omega; omega) | (with_reducible refine Wp.lett ?_) | ((with_reducible apply Wp.obind); first | (with_reducible first | exact hx | exact avInt_int _ _ | exact avBool_bool _ | exact avStr_str _ | exact nilC_ptr _ _ | exact fldP_ptr _ _ _ | exact avAgg_agg _ | exact extT_0 _ _ | exact extT_1 _ _ _ | exact extT_2 _ _ _ _ | assumption) | ((with_reducible first | apply RowH.cell' | apply RowH.ldAll); (with_reducible assumption); rfl)) | ((with_reducible refine Wp.ift ?_ ?_); first | (with_reducible first | rfl | assumption | exact Bool.not_false) | ((with_reducible first | apply decide_eq_true | apply not_df | apply bne_t | apply beq_t); omega)) | ((with_reducible refine Wp.iff ?_ ?_); first | (with_reducible first | rfl | assumption | exact Bool.not_true) | ((with_reducible first | apply decide_eq_false | apply not_dt | apply bne_f | apply beq_f); omega)) | ((with_reducible first | apply Wp.callN | apply Wp.callK); (with_reducible assumption)) | ((with_reducible apply Wp.outK); (with_reducible assumption)) | (with_reducible first | refine Wp.go0 (by assumption) ?_ | refine Wp.go1 (by assumption) ?_ | refine Wp.go2 (by assumption) ?_) | rw [newP_eq])
          exact next
        · omega
theorem scan_w (hu : u.length ≤ 1000000) (hn : u.length + 300 < n) (hxI : memB 3 h.ex = false) (hxU : memB TU8 h.ex = false)
    (hok : ∀ l q pl' v T H', quotedQ u (-1) = .ok l (q + 1) → pl'.length ≤ q → GrowT 3 1 (rowsI (pl' ++ [q])) v T → Mem [] h H' T → Q (.ret (.tup [strA l, v, .int .i64 ((q + 1 : Nat) : Int), .bool true])) H')
    (hbad : ∀ q H', quotedQ u (-1) = .bad 6 q → Tch [] h H' → Q (.ret (.tup [strA [], .nsl, .int .i64 (q : Int), .bool false])) H') : Wp (ref09_Scan (world n (d + 2)) n u 0 h) Q := by
  unfold ref09_Scan
  have lu := lenS_nat u
  by_cases hq : at? u 0 = some 34
  · obtain ⟨hpl2, hpc⟩ := at?_some hq
    have hx : idxS u 0 = some ((u[0]).toNat : Int) := idxS_nat hpl2
    have hQ : quotedQ u (-1) = scanQ u (-1) (u.length + 1) 1 [] := by unfold quotedQ; rw [if_pos hq]
    repeat (first | (with_reducible first | refine Wp.join0 (fun _ _ => ?_) | refine Wp.join1 (fun _ _ => ?_) | refine Wp.join2 (fun _ _ => ?_)) | ((with_reducible first | refine Wp.lettw ?_ ?_ ?_ | refine Wp.lettu64 ?_ ?_ ?_ | refine Wp.lettu8 ?_ ?_ ?_ | refine Wp.lettu32 ?_ ?_ ?_); omega; omega) | (with_reducible refine Wp.lett ?_) | ((with_reducible apply Wp.obind); first | (with_reducible first | exact hx | exact avInt_int _ _ | exact avBool_bool _ | exact avStr_str _ | exact nilC_ptr _ _ | exact fldP_ptr _ _ _ | exact avAgg_agg _ | exact extT_0 _ _ | exact extT_1 _ _ _ | exact extT_2 _ _ _ _ | assumption) | ((with_reducible first | apply RowH.cell' | apply RowH.ldAll); (with_reducible assumption); rfl)) | ((with_reducible refine Wp.ift ?_ ?_); first | (with_reducible first | rfl | assumption | exact Bool.not_false) | ((with_reducible first | apply decide_eq_true | apply not_df | apply bne_t | apply beq_t); omega)) | ((with_reducible refine Wp.iff ?_ ?_); first | (with_reducible first | rfl | assumption | exact Bool.not_true) | ((with_reducible first | apply decide_eq_false | apply not_dt | apply bne_f | apply beq_f); omega)) | ((with_reducible first | apply Wp.callN | apply Wp.callK); (with_reducible assumption)) | ((with_reducible apply Wp.outK); (with_reducible assumption)) | (with_reducible first | refine Wp.go0 (by assumption) ?_ | refine Wp.go1 (by assumption) ?_ | refine Wp.go2 (by assumption) ?_) | rw [newP_eq])
    have := scan_loop (Q := Q) (n := n) (d := d) (S := []) (h0 := h) hu (by omega) hxI hxU (u.length + 1) n 1 [] [] .nsl .nsl [] [] h (by omega) (by omega) (by omega) (by simp) (by simp) (GrowT.nil _ _) (GrowT.nil _ _) (Mem.nil [] h) (fun l q pl' v T H' hs hpl g M => hok l q pl' v T H' (by rw [hQ]; exact hs) hpl g M) (fun q H' hs t => hbad q H' (by rw [hQ]; exact hs) t)
    exact this
  · have hQ : quotedQ u (-1) = .bad 6 0 := by unfold quotedQ; rw [if_neg hq]
    by_cases hl : 0 < u.length
    · have hx : idxS u 0 = some ((u[0]).toNat : Int) := idxS_nat hl
      have h34 : (u[0]).toNat ≠ 34 := fun e => hq (by rw [at?_lt hl, e])
      repeat (first | (with_reducible first | refine Wp.join0 (fun _ _ => ?_) | refine Wp.join1 (fun _ _ => ?_) | refine Wp.join2 (fun _ _ => ?_)) | ((with_reducible first | refine Wp.lettw ?_ ?_ ?_ | refine Wp.lettu64 ?_ ?_ ?_ | refine Wp.lettu8 ?_ ?_ ?_ | refine Wp.lettu32 ?_ ?_ ?_); omega; omega) | (with_reducible refine Wp.lett ?_) | ((with_reducible apply Wp.obind); first | (with_reducible first | exact hx | exact avInt_int _ _ | exact avBool_bool _ | exact avStr_str _ | exact nilC_ptr _ _ | exact fldP_ptr _ _ _ | exact avAgg_agg _ | exact extT_0 _ _ | exact extT_1 _ _ _ | exact extT_2 _ _ _ _ | assumption) | ((with_reducible first | apply RowH.cell' | apply RowH.ldAll); (with_reducible assumption); rfl)) | ((with_reducible refine Wp.ift ?_ ?_); first | (with_reducible first | rfl | assumption | exact Bool.not_false) | ((with_reducible first | apply decide_eq_true | apply not_df | apply bne_t | apply beq_t); omega)) | ((with_reducible refine Wp.iff ?_ ?_); first | (with_reducible first | rfl | assumption | exact Bool.not_true) | ((with_reducible first | apply decide_eq_false | apply not_dt | apply bne_f | apply beq_f); omega)) | ((with_reducible first | apply Wp.callN | apply Wp.callK); (with_reducible assumption)) | ((with_reducible apply Wp.outK); (with_reducible assumption)) | (with_reducible first | refine Wp.go0 (by assumption) ?_ | refine Wp.go1 (by assumption) ?_ | refine Wp.go2 (by assumption) ?_) | rw [newP_eq])
      exact Wp.ret (hbad 0 h hQ (Tch.refl _ _))
    · repeat (first | (with_reducible first | refine Wp.join0 (fun _ _ => ?_) | refine Wp.join1 (fun _ _ => ?_) | refine Wp.join2 (fun _ _ => ?_)) | ((with_reducible first | refine Wp.lettw ?_ ?_ ?_ | refine Wp.lettu64 ?_ ?_ ?_ | refine Wp.lettu8 ?_ ?_ ?_ | refine Wp.lettu32 ?_ ?_ ?_); omega; omega) | (with_reducible refine Wp.lett ?_) | ((with_reducible apply Wp.obind); first | (with_reducible first | exact avInt_int _ _ | exact avBool_bool _ | exact avStr_str _ | exact nilC_ptr _ _ | exact fldP_ptr _ _ _ | exact avAgg_agg _ | exact extT_0 _ _ | exact extT_1 _ _ _ | exact extT_2 _ _ _ _ | assumption) | ((with_reducible first | apply RowH.cell' | apply RowH.ldAll); (with_reducible assumption); rfl)) | ((with_reducible refine Wp.ift ?_ ?_); first | (with_reducible first | rfl | assumption | exact Bool.not_false) | ((with_reducible first | apply decide_eq_true | apply not_df | apply bne_t | apply beq_t); omega)) | ((with_reducible refine Wp.iff ?_ ?_); first | (with_reducible first | rfl | assumption | exact Bool.not_true) | ((with_reducible first | apply decide_eq_false | apply not_dt | apply bne_f | apply beq_f); omega)) | ((with_reducible first | apply Wp.callN | apply Wp.callK); (with_reducible assumption)) | ((with_reducible apply Wp.outK); (with_reducible assumption)) | (with_reducible first | refine Wp.go0 (by assumption) ?_ | refine Wp.go1 (by assumption) ?_ | refine Wp.go2 (by assumption) ?_) | rw [newP_eq])
      exact Wp.ret (hbad 0 h hQ (Tch.refl _ _))
end
end Go.Proofs.Yteibdplpbcobbaa
