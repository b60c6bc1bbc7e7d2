/- The disk: Sync, New, Power; heavy. -/
import Derived.Test.YtcbnpdfingfmgaaEe
namespace Go.Proofs.Ytcbnpdfingfmgaa
open Go.RowKit Abs
theorem flat_rep {r t : List AV} {k : Nat} (hr : r.length = k) : ∀ (m f j : Nat), f < m → j < k → ((List.replicate m r).flatten ++ t)[k * f + j]? = r[j]?
  | 0, _, _, h, _ => absurd h (Nat.not_lt_zero _)
  | m + 1, 0, j, _, hj => by
    rw [List.replicate_succ, List.flatten_cons, List.append_assoc, Nat.mul_zero, Nat.zero_add, List.getElem?_append_left (by omega)]
  | m + 1, f + 1, j, h, hj => by
    rw [List.replicate_succ, List.flatten_cons, List.append_assoc, List.getElem?_append_right (by rw [Nat.mul_succ]; omega), hr, show k * (f + 1) + j - k = k * f + j by rw [Nat.mul_succ]; omega]
    exact flat_rep hr m f j (by omega) hj
section
variable {lo : Nat → Prop} {n d db : Nat} {h : AHeap} {D : List AV} {fs : Nat → FileS} {vs : Nat → Nat → AV} {p : Int} {ops B f : Nat} {s : DS}
theorem DiskAt.setP {p' : Int} {h' : AHeap} (K : DiskAt lo h db D fs vs p ops B) (hp : -1 ≤ p' ∧ p' < 9223372036854775808) (kr : RowH h' db TDisk (D.set 160 (.int .i64 p'))) (t : Tch [db] h h') : DiskAt lo h' db (D.set 160 (.int .i64 p')) fs vs p' ops B := by
  have hl := K.len
  refine ⟨kr, Nat.lt_of_lt_of_le K.hdb t.1, K.hlo, by rw [List.length_set]; exact hl, fun f hf => ?_, by rw [List.getElem?_set_self (by omega)], by rw [List.getElem?_set_ne (by omega)]; exact K.co, fun f hf => (K.mem f hf).tch t fun k hk b hb hm => K.nd hf hk (List.mem_singleton.1 hm ▸ hb), K.own, K.low, K.ok, by rw [t.2.1, K.ex], hp, K.ho, fun b hb => K.nw b (Nat.le_trans t.1 hb)⟩
  have hk := K.cells f hf
  have key : ∀ j, j < 5 → (D.set 160 (.int .i64 p'))[5 * f + j]? = D[5 * f + j]? := fun j hj => by rw [List.getElem?_set_ne (by omega)]
  exact ⟨(key 0 (by decide)).trans hk.c0, (key 1 (by decide)).trans hk.c1, (key 2 (by decide)).trans hk.c2, (key 3 (by decide)).trans hk.c3, (key 4 (by decide)).trans hk.c4⟩
theorem power_ok {m : Int} (hm : m < 9223372036854775808) (K : At lo h db s B) : Does lo db h (world n (d + 1) 17 [.ptr db 0, .int .i64 m] h) 0 ⟨s.fs, if -1 > m then -1 else m, s.ops⟩ B := by
  apply Does.of
  obtain ⟨D, vs, K⟩ := K
  rw [w_disk_Disk_Power]
  unfold disk_Disk_Power
  refine Wp.outK (eqDisk db 0 h) (Wp.obind (avBool_bool _) (Wp.iff rfl (Wp.lett ?_)))
  refine Wp.obind (nilC_ptr _ _) (Wp.obind (fldP_ptr _ _ _) ?_)
  have hl := K.len
  refine Wp.st1 K.row (show 0 + 160 < D.length by omega) rfl fun h2 k2 t2 n2 => ?_
  refine Wp.ret ⟨rfl, [db], ⟨_, vs, K.setP (by show -1 ≤ (if -1 > m then (-1 : Int) else m) ∧ (if -1 > m then (-1 : Int) else m) < 9223372036854775808; split <;> omega) ?_ t2⟩, t2, fun b hb => by rw [List.mem_singleton.1 hb]; exact K.hlo⟩
  rw [Nat.zero_add] at k2
  exact k2
abbrev emptyF : FileS := ⟨⟨false, []⟩, ⟨false, []⟩, []⟩
abbrev newS : DS := ⟨fun _ => emptyF, -1, 0⟩
theorem new_ok (hx : h.ex = []) : ∃ h', world n (d + 1) 8 [] h = some (.ret (.ptr h.next 0), h') ∧ At (fun b => h.next ≤ b) h' h.next newS 0 ∧ Tch [] h h' := by
  suffices hK : Wp (disk_New (world n d) n h) fun r h' => r = .ret (.ptr h.next 0) ∧ At (fun b => h.next ≤ b) h' h.next newS 0 ∧ Tch [] h h' by
    obtain ⟨r, h', e, rfl, k⟩ := hK
    refine ⟨h', ?_, k⟩
    rw [w_disk_New, e]
    refine gcR_some ?_
    show Nat.blt h.next h.next = false
    cases e : Nat.blt h.next h.next with
    | false => rfl
    | true =>
      have := blt_lt' e
      omega
  unfold disk_New
  refine Wp.outK (box_agg (by kernel_rfl)) ?_
  refine Wp.ret ⟨rfl, ⟨(List.replicate 32 [.bool false, .nsl, .bool false, .nsl, .nsl]).flatten ++ [.int .i64 (-1), .int .i64 0], fun _ _ => .nsl, RowH.new _ _ _, Nat.lt_succ_self _, Nat.le_refl _, by kernel_rfl, fun f hf => ?_, by kernel_rfl, by kernel_rfl, fun f hf => ⟨.inl ⟨rfl, rfl⟩, .inl ⟨rfl, rfl⟩, .inl ⟨rfl, rfl⟩⟩, ⟨fun _ => 0, rfl, fun _ _ _ _ _ hb => (nomatch hb)⟩, (fun _ _ _ _ _ hb => (nomatch hb)), fun f hf => ⟨rfl, trivial, Nat.le_refl _, Nat.le_refl _⟩, hx, by decide, Nat.le_refl _, fun b hb => Nat.le_trans (Nat.le_succ _) hb⟩, Tch.newH _ _ _ _⟩
  exact ⟨flat_rep rfl 32 f 0 hf (by decide), flat_rep rfl 32 f 1 hf (by decide), flat_rep rfl 32 f 2 hf (by decide), flat_rep rfl 32 f 3 hf (by decide), flat_rep rfl 32 f 4 hf (by decide)⟩
theorem synF_ok {x : FileS} (k : FileOk x B) : FileOk (synF x) B := by
  obtain ⟨k1, k2, k3, k4⟩ := k
  have := doL_len x.loose x.sure
  rw [← k1] at this
  exact ⟨rfl, trivial, by show x.seen.u.length + 0 ≤ B; omega, Nat.zero_le _⟩
theorem sync_ok {z : Int} (hn : 1000000 < n) (K : At lo h db s B) (hb : B < 900000) : Does lo db h (world n (d + 3) 10 [.ptr db 0, .int .i64 z] h) (refP s.p z) (synD s z) (B + 1) := by
  apply Does.of
  have KA := K
  obtain ⟨D, vs, K⟩ := K
  rw [w_disk_Disk_Sync]
  unfold disk_Disk_Sync
  refine Wp.callN (refuses_w K z) (Wp.obind (avInt_int _ _) (Wp.lett ?_))
  by_cases h0 : refP s.p z = 0
  · obtain ⟨hp, f, rfl, hf⟩ := ref_ok h0
    have C := K.cells f hf
    have Mf := K.mem f hf
    obtain ⟨o1, o2, o3, o4⟩ := K.ok f hf
    have hlen := K.len
    have hdb := K.hdb
    have es : synD s (f : Int) = ⟨upd s.fs f (synF (s.fs f)), stepP s.p, s.ops + 1⟩ := by
      unfold synD
      rw [if_pos h0, Int.toNat_natCast]
    rw [es, h0]
    refine Wp.iff rfl ?_
    refine Wp.obind (nilC_ptr _ _) (Wp.obind (fldP_ptr _ _ _) (Wp.obind (idxF hf) (Wp.obind (nilC_ptr _ _) (Wp.obind (fldP_ptr _ _ _) (Wp.obind (nilC_ptr _ _) (Wp.obind (fldP_ptr _ _ _) (Wp.obind (RowH.cell' K.row C.c4) ?_)))))))
    have dis : ∀ b ∈ blkV (vs f 2), b ∉ db :: blkV (vs f 0) := fun b hb hm => by
      rcases List.mem_cons.1 hm with rfl | hm
      · exact K.nd hf (by decide) hb
      · exact K.ne hf (by decide) hf (by decide) (fun h => absurd h.2 (by decide)) b hb hm
    have dis1 : ∀ b ∈ blkV (vs f 1), b ∉ db :: blkV (vs f 0) := fun b hb hm => by
      rcases List.mem_cons.1 hm with rfl | hm
      · exact K.nd hf (by decide) hb
      · exact K.ne hf (by decide) hf (by decide) (fun h => absurd h.2 (by decide)) b hb hm
    obtain ⟨h4, v4, e4, K4⟩ := do_ok (n := n) (d := d + 1) (T := TDisk) (o := 5 * f + 0) (x := (s.fs f).sure) hn hdb K.row C.c0 C.c1 Mf.sure (K.nd hf (by decide)) K.ex (Mf.loose.rd dis) (by omega) o2 (by omega)
    refine Wp.callN e4 (Wp.obind (nilC_ptr _ _) (Wp.obind (fldP_ptr _ _ _) ?_))
    rw [← o1] at K4
    have hdb4 : db < h4.next := Nat.lt_of_lt_of_le hdb K4.tch.1
    show Wp (Abs.obind (stRow h4 1 [AV.nsl] (.ptr db (5 * f + 4))) _) _
    refine Wp.st1 K4.row (show 5 * f + 4 < _ by rw [List.length_set, List.length_set]; omega) rfl fun h7 k7 t7 n7 => ?_
    have T : Tch (db :: blkV (vs f 0)) h h7 := K4.tch.trans' t7 fun b hb => .inl (by rw [List.mem_singleton.1 hb]; exact List.mem_cons_self)
    have KU := K.upd (B' := B) (x := synF (s.fs f)) (w := fun k => if k = 0 then v4 else if k = 1 then vs f 1 else .nsl) hf T (fun b hb => ?_) k7 (by rw [List.length_set, List.length_set, List.length_set]; exact hlen) ⟨?_, ?_, ?_, ?_, ?_⟩ (fun i hi => ?_) (fun k hk b hb => ?_) (fun k l hk hl hne b hb hb' => ?_) ⟨?_, ?_, ?_⟩ (synF_ok (K.ok f hf)) (Nat.le_refl _)
    · obtain ⟨h8, D8, e8, K8, t8⟩ := step_ok (n := n) (d := d + 1) KU (by omega)
      refine Wp.callN e8 ?_
      refine Wp.ret ⟨rfl, db :: blkV (vs f 0), ⟨D8, _, K8⟩, T.trans' t8 fun b hb => .inl (by rw [List.mem_singleton.1 hb]; exact List.mem_cons_self), fun b hb => ?_⟩
      rcases List.mem_cons.1 hb with hb | hb
      · rw [hb]
        exact K.hlo
      · exact K.low f 0 hf (by decide) b hb
    · rcases List.mem_cons.1 hb with hb | hb
      · exact .inl hb
      · exact .inr ⟨0, by decide, hb⟩
    · show (((D.set (5 * f + 0) _).set (5 * f + 0 + 1) v4).set (5 * f + 4) AV.nsl)[5 * f + 0]? = _
      rw [List.getElem?_set_ne (by omega), List.getElem?_set_ne (by omega), List.getElem?_set_self (by omega)]
      rfl
    · rw [List.getElem?_set_ne (by omega), List.getElem?_set_self (by rw [List.length_set]; omega)]
      rfl
    · rw [List.getElem?_set_ne (by omega), List.getElem?_set_ne (by omega), List.getElem?_set_ne (by omega)]
      exact C.c2
    · rw [List.getElem?_set_ne (by omega), List.getElem?_set_ne (by omega), List.getElem?_set_ne (by omega)]
      exact C.c3
    · rw [List.getElem?_set_self (by rw [List.length_set, List.length_set]; omega)]
      rfl
    · rw [List.getElem?_set_ne (by omega), List.getElem?_set_ne (by omega), List.getElem?_set_ne (by omega)]
    · rcases k with _ | _ | k
      · exact K4.sub b hb
      · exact .inl hb
      · exact nomatch hb
    · have q01 : b ∈ blkV v4 → b ∈ blkV (vs f 1) → False := fun h0 h1 => by
        rcases K4.sub b h0 with h0 | h0
        · exact dis1 b h1 (List.mem_cons_of_mem _ h0)
        · have := K.lt hf (k := 1) (by decide) b h1
          omega
      rcases k with _ | _ | k <;> rcases l with _ | _ | l
      · omega
      · exact q01 hb hb'
      · exact nomatch hb'
      · exact q01 hb' hb
      · omega
      · exact nomatch hb'
      · exact nomatch hb
      · exact nomatch hb
      · exact nomatch hb
    · exact K4.buf.tch t7 fun b hb hm => K4.ndb (List.mem_singleton.1 hm ▸ hb)
    · exact Mf.seen.tch T dis1
    · exact .inl ⟨rfl, rfl⟩
  · have es : synD s z = s := by
      unfold synD
      rw [if_neg h0]
    rw [es]
    refine Wp.ift (bne_t h0) ?_
    exact Wp.ret ⟨rfl, [], KA.mono (by omega), Tch.refl _ _, fun _ h => nomatch h⟩
end
/-! ### a script -/
abbrev TStep : Nat := 43
structure StpR where
  k : Int
  f : Int
  n : Int
  s : Bytes
  v : AV
noncomputable def stpC (x : StpR) : List AV := [.int .i64 x.k, .int .i64 x.f, .int .i64 x.n, strA x.s, x.v]
def StpOk (N : Nat) (h : AHeap) (x : StpR) : Prop := I64 x.k ∧ I64 x.f ∧ I64 x.n ∧ x.s.length ≤ reachBytes ∧ ∃ zs : List Int, Slc N h 1 x.v (zs.map fun z => [.int .i64 z]) ∧ (∀ z ∈ zs, I64 z) ∧ zs.length * 8 ≤ reachBytes
def sumS : List StpR → Nat
  | [] => 0
  | c :: l => c.s.length + sumS l
theorem stp_one {x : StpR} (hv : x.v.one = true) : (stpC x).all AV.one = true := by
  show (true && (true && (true && (true && (x.v.one && true))))) = true
  rw [hv]
  rfl
theorem StpOk.one {N : Nat} {h : AHeap} {x : StpR} (k : StpOk N h x) : x.v.one = true := by
  obtain ⟨_, _, _, _, zs, hs, _⟩ := k
  rcases hs.2 with ⟨_, e | e⟩ | ⟨b, _, _, e, _⟩ <;> rw [e] <;> rfl
theorem stp_of {N m : Nat} {h : AHeap} {l : List AV} (hp : Plain Try.prog N h (m + 4) TStep l) : ∃ x : StpR, l = stpC x ∧ StpOk N h x := by
  obtain ⟨ls, rfl, hlen, hf⟩ := hp.structEach Try.underlying43
  obtain ⟨l0, l1, l2, l3, l4, rfl⟩ : ∃ l0 l1 l2 l3 l4, ls = [l0, l1, l2, l3, l4] := by
    match ls, hlen with
    | [a, b, c, d, e], _ => exact ⟨a, b, c, d, e, rfl⟩
  obtain ⟨z0, rfl, w0⟩ := (hf 0 _ _ rfl rfl).int Try.underlying3
  obtain ⟨z1, rfl, w1⟩ := (hf 1 _ _ rfl rfl).int Try.underlying3
  obtain ⟨z2, rfl, w2⟩ := (hf 2 _ _ rfl rfl).int Try.underlying3
  obtain ⟨u, rfl, w3⟩ := (hf 3 _ _ rfl rfl).str Try.underlying9
  obtain ⟨x, ks, rfl, w4, w5, w6⟩ := (hf 4 _ _ rfl rfl).slice Try.underlying34
  obtain ⟨zs, rfl, w7⟩ := ints_of Try.underlying3 w6
  have hc : Try.prog.cellsOf 3 = 1 := by kernel_rfl
  have hb : Try.prog.bytesOf 3 = 8 := by kernel_rfl
  rw [hc] at w4
  rw [hb, List.length_map] at w5
  exact ⟨⟨z0, z1, z2, u, x⟩, rfl, wf_i64 w0, wf_i64 w1, wf_i64 w2, w3, zs, w4, fun z hz => wf_i64 (w7 z hz), by omega⟩
theorem script_of {N m : Nat} {h : AHeap} {a : AV} (hp : ArgP Try.prog N h (m + 5) 38 a) : ∃ xs : List StpR, Slc N h 5 a (xs.map stpC) ∧ (∀ x ∈ xs, StpOk N h x) ∧ xs.length ≤ reachBytes := by
  obtain ⟨ls, h1, h2, h3⟩ := hp.slice Try.underlying38
  obtain ⟨xs, rfl, h4⟩ := map_of (f := stpC) (Q := StpOk N h) ls fun l hl => stp_of (h3 l hl)
  have hc : Try.prog.cellsOf TStep = 5 := by kernel_rfl
  have hb : Try.prog.bytesOf TStep = 64 := by kernel_rfl
  rw [hc] at h1
  rw [hb, List.length_map] at h2
  exact ⟨xs, h1, h4, by omega⟩
section
variable {n d N : Nat} {h : AHeap} {a : AV} {xs : List StpR}
theorem heavy_loop (hs : Slc N h 5 a (xs.map stpC)) (hN : N ≤ h.next) (ho : ∀ x ∈ xs, x.s.length ≤ reachBytes ∧ x.v.one = true) {k7 : AHeap → R} {Q : ARes → AHeap → Prop} (hk : ∀ H, Tch [] h H → sumS xs ≤ 16384 → Wp (k7 H) Q) (hq : ∀ H, Tch [] h H → Q (.ret (.bool true)) H) :
    ∀ (todo : List StpR) (i fu t : Nat) (H : AHeap), xs.drop i = todo → todo.length < fu → t ≤ 16384 → t + sumS todo = sumS xs → Tch [] h H → xs.length ≤ reachBytes → Wp (law04_heavy_L0 a (xs.length : Int) k7 fu (t : Int) (i : Int) H) Q
  | _, _, 0, _, _, _, hf, _, _, _, _ => by omega
  | [], i, fu + 1, t, H, hd, hf, ht, hsum, T, _ => by
    have := dropN hd
    rw [law04_heavy_L0_s]
    unfold law04_heavy_L0b
    (first | (with_reducible first | refine Wp.join0 (fun _ _ => ?_) | refine Wp.join1 (fun _ _ => ?_) | refine Wp.join2 (fun _ _ => ?_)) | ((with_reducible first | refine Wp.lettw ?_ ?_ ?_ | refine Wp.lettu64 ?_ ?_ ?_ | refine Wp.lettu8 ?_ ?_ ?_ | refine Wp.lettu32 ?_ ?_ ?_); omega; omega) | (with_reducible refine Wp.lett ?_) | ((with_reducible apply Wp.obind); first | (with_reducible first | exact avInt_int _ _ | exact avBool_bool _ | exact avStr_str _ | exact nilC_ptr _ _ | exact fldP_ptr _ _ _ | exact avAgg_agg _ | exact extT_0 _ _ | exact extT_1 _ _ _ | exact extT_2 _ _ _ _ | assumption) | ((with_reducible first | apply RowH.cell' | apply RowH.ldAll); (with_reducible assumption); rfl)) | ((with_reducible refine Wp.ift ?_ ?_); first | (with_reducible first | rfl | assumption | exact Bool.not_false) | ((with_reducible first | apply decide_eq_true | apply not_df | apply bne_t | apply beq_t); omega)) | ((with_reducible refine Wp.iff ?_ ?_); first | (with_reducible first | rfl | assumption | exact Bool.not_true) | ((with_reducible first | apply decide_eq_false | apply not_dt | apply bne_f | apply beq_f); omega)) | ((with_reducible first | apply Wp.callN | apply Wp.callK); (with_reducible assumption)) | ((with_reducible apply Wp.outK); (with_reducible assumption)) | (with_reducible first | refine Wp.go0 (by assumption) ?_ | refine Wp.go1 (by assumption) ?_ | refine Wp.go2 (by assumption) ?_) | rw [newP_eq])
    refine Wp.iff (by rw [decide_eq_false_iff_not]; omega) ?_
    exact hk H T (by have h0 : sumS [] = 0 := rfl; omega)
  | c :: todo, i, fu + 1, t, H, hd, hf, ht, hsum, T, hl => by
    obtain ⟨hi, hci, hd2⟩ := dropC hd
    rw [List.length_cons] at hf
    have hrb : reachBytes = 140737488351232 := rfl
    have hs2 := hs.tch T hN (fun b hb => nomatch hb)
    obtain ⟨b, hb, e1, e2⟩ := hs2.row (i := i) (by rw [List.length_map]; exact hi)
    rw [List.getElem_map, hci] at e2
    obtain ⟨hc, hv1⟩ := ho c (hci ▸ List.getElem_mem hi)
    have hss : sumS (c :: todo) = c.s.length + sumS todo := rfl
    rw [law04_heavy_L0_s]
    unfold law04_heavy_L0b
    (first | (with_reducible first | refine Wp.join0 (fun _ _ => ?_) | refine Wp.join1 (fun _ _ => ?_) | refine Wp.join2 (fun _ _ => ?_)) | ((with_reducible first | refine Wp.lettw ?_ ?_ ?_ | refine Wp.lettu64 ?_ ?_ ?_ | refine Wp.lettu8 ?_ ?_ ?_ | refine Wp.lettu32 ?_ ?_ ?_); omega; omega) | (with_reducible refine Wp.lett ?_) | ((with_reducible apply Wp.obind); first | (with_reducible first | exact avInt_int _ _ | exact avBool_bool _ | exact avStr_str _ | exact nilC_ptr _ _ | exact fldP_ptr _ _ _ | exact avAgg_agg _ | exact extT_0 _ _ | exact extT_1 _ _ _ | exact extT_2 _ _ _ _ | assumption) | ((with_reducible first | apply RowH.cell' | apply RowH.ldAll); (with_reducible assumption); rfl)) | ((with_reducible refine Wp.ift ?_ ?_); first | (with_reducible first | rfl | assumption | exact Bool.not_false) | ((with_reducible first | apply decide_eq_true | apply not_df | apply bne_t | apply beq_t); omega)) | ((with_reducible refine Wp.iff ?_ ?_); first | (with_reducible first | rfl | assumption | exact Bool.not_true) | ((with_reducible first | apply decide_eq_false | apply not_dt | apply bne_f | apply beq_f); omega)) | ((with_reducible first | apply Wp.callN | apply Wp.callK); (with_reducible assumption)) | ((with_reducible apply Wp.outK); (with_reducible assumption)) | (with_reducible first | refine Wp.go0 (by assumption) ?_ | refine Wp.go1 (by assumption) ?_ | refine Wp.go2 (by assumption) ?_) | rw [newP_eq])
    refine Wp.ift (by rw [decide_eq_true_eq]; omega) ?_
    refine Wp.obind e1 (Wp.obind e2 ?_)
    refine Wp.mnew (Mem.nil [] H) fun h2 M2 => ?_
    rw [newP_eq]
    refine Wp.sa0 M2 rfl rfl (stp_one hv1) fun h3 M3 => ?_
    have t3 := M3.tch
    have T3 := T.trans t3
    have g3 : (stpC c)[3]? = some (strA c.s) := rfl
    have hlc := lenS_nat c.s
    refine Wp.ld0 M3 g3 (Wp.obind (avStr_str _) (Wp.lettw (by omega) (by omega) (Wp.lett ?_)))
    by_cases h1 : (c.s.length : Int) > 16384 - (t : Int)
    · refine Wp.ift (by rw [decide_eq_true_eq]; omega) ?_
      exact Wp.ret (hq _ T3)
    · refine Wp.iff (by rw [decide_eq_false_iff_not]; omega) ?_
      refine Wp.ld0 M3 g3 (Wp.obind (avStr_str _) (Wp.lettw (by omega) (by omega) (Wp.lettw (by omega) (by omega) ?_)))
      rw [show (t : Int) + lenS c.s = ((t + c.s.length : Nat) : Int) by omega, show (i : Int) + 1 = ((i + 1 : Nat) : Int) by omega]
      exact heavy_loop hs hN ho hk hq todo (i + 1) fu (t + c.s.length) h3 hd2 (by omega) (by omega) (by omega) T3 hl
theorem heavy_w (hs : Slc N h 5 a (xs.map stpC)) (hN : N ≤ h.next) (ho : ∀ x ∈ xs, x.s.length ≤ reachBytes ∧ x.v.one = true) (hl : xs.length ≤ reachBytes) (hn : reachBytes < n) : ∃ h' b, world n (d + 1) 22 [a] h = some (.ret (.bool b), h') ∧ Tch [] h h' ∧ (b = false → sumS xs ≤ 16384 ∧ xs.length ≤ 100) := by
  suffices hK : Wp (world n (d + 1) 22 [a] h) fun r h' => ∃ b, r = .ret (.bool b) ∧ Tch [] h h' ∧ (b = false → sumS xs ≤ 16384 ∧ xs.length ≤ 100) by
    obtain ⟨_, h', e, b, rfl, k⟩ := hK
    exact ⟨h', b, e, k⟩
  rw [w_law04_heavy]
  unfold law04_heavy
  have hlen := hs.len
  rw [List.length_map] at hlen
  refine Wp.obind hlen (Wp.lettG fun k7 ek => ?_)
  refine heavy_loop (xs := xs) hs hN ho (fun H T hsum => ?_) (fun H T => ⟨true, rfl, T, fun h => nomatch h⟩) xs 0 n 0 h (List.drop_zero) (by omega) (by omega) (by omega) (Tch.refl _ _) hl
  rw [ek]
  refine Wp.obind hlen (Wp.lett (Wp.ret ⟨_, rfl, T, fun hd => ⟨hsum, ?_⟩⟩))
  have := of_decide_eq_false hd
  omega
end
end Go.Proofs.Ytcbnpdfingfmgaa
