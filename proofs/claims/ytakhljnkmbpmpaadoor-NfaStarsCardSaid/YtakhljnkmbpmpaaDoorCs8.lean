/- What nfaStars_proved stands on, part 8 of 9. -/
import Derived.Test.YtakhljnkmbpmpaaDoorCs7
namespace Go.Proofs.YtakhljnkmbpmpaaDoor
open Go.RowKit Abs
def zeroNet : Nt := ⟨false, 0, 0, List.replicate 64 0, List.replicate 256 0⟩
theorem zeroNet_ok : NtOk zeroNet := ⟨List.length_replicate, List.length_replicate, by decide, by decide, fun x hx => by rw [List.eq_of_mem_replicate hx]; decide, fun x hx => by rw [List.eq_of_mem_replicate hx]; decide⟩
def rawOf (t : Nd) : Nt := { (pieceN t zeroNet 0).2.1 with empty := (pieceN t zeroNet 0).1.empty, first := (pieceN t zeroNet 0).1.first, last := (pieceN t zeroNet 0).1.last }
def netOf (t : Nd) : Nt := (rawOf t).trim
theorem rawOf_ok (t : Nd) : NtOk (rawOf t) := by
 have := pieceN_ok t (u := 0) zeroNet_ok
 exact ⟨this.n.fl, this.n.tl, this.p.f, this.p.l, this.n.fs, this.n.ts⟩
theorem netOf_ok (t : Nd) : NtOk (netOf t) := (rawOf_ok t).trim
theorem rowsAt_of {S : List Nat} {h0 h : AHeap} {rs T : List RowT} (M : Abs.Mem S h0 h rs) (hs : ∀ y ∈ T, y ∈ rs) : RowsAt h T := fun y hy => ⟨(M.row y (hs y hy)).1, (M.row y (hs y hy)).2.1⟩
theorem apart2 {S : List Nat} {h0 h : AHeap} {x y : RowT} {rs T : List RowT} (M : Abs.Mem S h0 h (x :: y :: rs)) (hs : ∀ z ∈ T, z ∈ rs) : (∀ z ∈ T, z.1 ∉ [x.1, y.1]) ∧ x.1 ≠ y.1 := by
 have ap := M.apart
 rw [List.map_cons, List.map_cons, List.nodup_cons, List.nodup_cons] at ap
 refine ⟨fun z hz hm => ?_, fun e => ap.1 (by rw [e]; exact List.mem_cons_self)⟩
 rcases List.mem_cons.1 hm with e | hm
 ·exact ap.1 (List.mem_cons_of_mem _ (by rw [← e]; exact List.mem_map_of_mem (hs z hz)))
 ·exact ap.2.1 (by rw [← List.mem_singleton.1 hm]; exact List.mem_map_of_mem (hs z hz))
set_option maxRecDepth 100000 in
theorem bldBl (b o : Nat) : bldS Tryd.prog TBl [(0, .ptr b o)] = some [.ptr b o, .int .i64 0] := by kernel_rfl
section
variable {n d : Nat} {h : AHeap} {u : Bytes} {k : Int} {t : Nd} {c : List AV} {T : List RowT} {H : AHeap} {e1 q : Int}
theorem of_bad (he : e1 ≠ 0) (ht : ∀ h, memB TNode h.ex = false → world n d 24 [.agg [.int .i64 k, strA u]] h = some (.ret (.tup [.agg (nodeC 0 zeroW .nsl), .agg [.int .i64 e1, .int .i64 q]]), h)) (hx : memB TNode h.ex = false) :
  world n (d + 1) 12 [.agg [.int .i64 k, strA u]] h = some (.ret (.tup [.nilp, .int .i64 2]), h) := by
 apply Wp.eq
 rw [w_nfa_Of]
 refine Wp.gc ?_
 suffices hK : Wp (nfa_Of (world n d) n [.int .i64 k, strA u] h) fun r h' => r = .ret (.tup [.nilp, .int .i64 2]) ∧ Tch [] h h' from hK.mono fun r h' ⟨e, t⟩ => ⟨t.above, by rw [e]; rfl, e, rfl⟩
 unfold nfa_Of
 have Mx := Mem.nil [] h
 have hxN : ∀ {h1 : AHeap} {rs : List RowT}, Abs.Mem [] h h1 rs → memB TNode h1.ex = false := fun M => by rw [M.ex]; exact hx
 repeat (first | ((with_reducible apply Wp.lr0 Mx); rfl) | ((with_reducible apply Wp.mbox Mx); (rfl); intro _ Mz; clear Mx; have Mx := Mz; clear Mz))
 refine Wp.callN (ht _ (hxN Mx)) ?_
 repeat (first | ((with_reducible apply Wp.obind); (with_reducible exact avInt_int _ _)) | ((with_reducible apply Wp.ld0 Mx); rfl) | ((with_reducible apply Wp.sa0 Mx); rfl; rfl; (rfl); intro _ Mz; clear Mx; have Mx := Mz; clear Mz) | ((with_reducible apply Wp.sa1 Mx); rfl; rfl; (rfl); intro _ Mz; clear Mx; have Mx := Mz; clear Mz) | ((with_reducible apply Wp.mnew Mx); intro _ Mz; clear Mx; have Mx := Mz; clear Mz) | (with_reducible refine Wp.lett ?_) | ((with_reducible apply Wp.obind); (with_reducible first | exact avAgg_agg _ | exact extT_0 _ _ | exact extT_1 _ _ _)) | ((with_reducible refine Wp.ift ?_ ?_); ((with_reducible apply bne_t); omega)) | rw [newP_eq])
 exact Wp.ret ⟨rfl, Mx.tch⟩
set_option maxRecDepth 100000 in
theorem of_ok (hk1 : oneK t) (hsz : t.sz < 100000) (hd : t.sz + 2 ≤ d) (hn : 18446744073709551620 < n) (ht : ∀ h, memB TNode h.ex = false → ∃ c T h', world n d 24 [.agg [.int .i64 k, strA u]] h = some (.ret (.tup [.agg c, .agg [.int .i64 0, .int .i64 0]]), h') ∧ NodeT t c T ∧ Abs.Mem [] h h' T) (hx : memB TNode h.ex = false) :
  ∃ nb h', world n (d + 1) 12 [.agg [.int .i64 k, strA u]] h = some (.ret (.tup [.ptr nb 0, .int .i64 0]), h') ∧ Abs.Mem [] h h' [(nb, TNet, netC (netOf t))] := by
 suffices hK : Wp (gcR h (nfa_Of (world n d) n [.int .i64 k, strA u] h)) fun r h' => ∃ nb, r = .ret (.tup [.ptr nb 0, .int .i64 0]) ∧ Abs.Mem [] h h' [(nb, TNet, netC (netOf t))] by
  obtain ⟨_, h', e, nb, rfl, k2⟩ := hK
  rw [← w_nfa_Of] at e
  exact ⟨nb, h', e, k2⟩
 suffices hK : Wp (nfa_Of (world n d) n [.int .i64 k, strA u] h) fun r h' => ∃ nb, r = .ret (.tup [.ptr nb 0, .int .i64 0]) ∧ Abs.Mem [] h h' [(nb, TNet, netC (netOf t))] by
  obtain ⟨_, h', e, nb, rfl, k2⟩ := hK
  refine Wp.gc2 ⟨_, h', e, ⟨nb, rfl, k2⟩, fun _ hl => ?_⟩
  have h1 : AV.lo h.next (.ptr nb 0) = true := by
   have : (AV.lo h.next (.ptr nb 0) && (AV.lo h.next (.int .i64 0) && AV.loL h.next [])) = true := hl
   rw [Bool.and_eq_true] at this
   exact this.1
  have h2 := k2.at0.2.2.resolve_left (by simp)
  have h3 : nb < h.next := by simpa [AV.lo] using h1
  omega
 unfold nfa_Of
 have Mx := Mem.nil [] h
 have hxN : ∀ {h1 : AHeap} {rs : List RowT}, Abs.Mem [] h h1 rs → memB TNode h1.ex = false := fun M => by rw [M.ex]; exact hx
 repeat (first | ((with_reducible apply Wp.lr0 Mx); rfl) | ((with_reducible apply Wp.mbox Mx); (rfl); intro _ Mz; clear Mx; have Mx := Mz; clear Mz))
 obtain ⟨c, T, H1, e1, kt1, M1⟩ := ht _ (hxN Mx)
 refine Wp.callN e1 ?_
 have M2 := Mem.frameT (xs := []) (ys := []) Mx M1
 clear Mx M1
 have Mx := M2
 clear M2
 simp only [List.nil_append] at Mx
 repeat (first | ((with_reducible apply Wp.mnew Mx); intro _ Mz; clear Mx; have Mx := Mz; clear Mz) | ((with_reducible apply Wp.obind); (with_reducible first | exact avAgg_agg _ | exact extT_0 _ _ | exact extT_1 _ _ _)) | rw [newP_eq])
 refine Wp.sa1 Mx kt1.len rfl kt1.one fun h3 M3 => ?_
 clear Mx
 have Mx := M3
 clear M3
 repeat (first | ((with_reducible apply Wp.obind); (with_reducible exact avInt_int _ _)) | ((with_reducible apply Wp.ld0 Mx); rfl) | ((with_reducible apply Wp.sa0 Mx); rfl; rfl; (rfl); intro _ Mz; clear Mx; have Mx := Mz; clear Mz) | ((with_reducible apply Wp.mbox Mx); (rfl); intro _ Mz; clear Mx; have Mx := Mz; clear Mz) | (with_reducible refine Wp.lett ?_) | ((with_reducible refine Wp.iff ?_ ?_); ((with_reducible apply bne_f); omega)) | rw [newP_eq])
 have M4 : Abs.Mem [] h _ ((_, TNet, netC zeroNet) :: _) := Mx
 clear Mx
 have Mx := M4
 clear M4
 repeat (first | ((with_reducible apply Wp.sa0 Mx); rfl; rfl; (rfl); intro _ Mz; clear Mx; have Mx := Mz; clear Mz) | ((with_reducible apply Wp.mnew Mx); intro _ Mz; clear Mx; have Mx := Mz; clear Mz) | ((with_reducible apply Wp.obind); (with_reducible exact bldBl _ _)))
 refine Wp.lr3 Mx kt1.len ?_
 obtain ⟨d2, rfl⟩ : ∃ d2, d = d2 + 2 := ⟨d - 2, by omega⟩
 obtain ⟨hTn, hne⟩ := apart2 (T := T) Mx (fun y hy => by simp [hy])
 have rT := rowsAt_of (T := T) Mx (fun y hy => by simp [hy])
 obtain ⟨h5, e5, kb5, kn5, t5⟩ := piece_ok t (n := n) (D := d2 + 2) hk1 kt1 rT hTn Mx.at0.2.1 Mx.at1.2.1 hne hd (by omega) (by omega) zeroNet 0 _ zeroNet_ok (by omega) (Tch.refl _ _) Mx.at0.1 Mx.at1.1
 refine Wp.callN e5 ?_
 clear e5 hTn rT hne
 have M5 := Mem.upd2 (xs := []) Mx t5 kb5 kn5
 clear Mx
 have Mx := M5
 clear M5
 simp only [List.nil_append] at Mx
 repeat (first | ((with_reducible apply Wp.obind); (with_reducible first | exact avInt_int _ _ | exact avBool_bool _ | exact nilC_ptr _ _ | exact fldP_ptr _ _ _)) | ((with_reducible apply Wp.ld0 Mx); rfl) | ((with_reducible apply Wp.sa0 Mx); rfl; rfl; (rfl); intro _ Mz; clear Mx; have Mx := Mz; clear Mz) | ((with_reducible apply Wp.ld1 Mx); rfl) | ((with_reducible apply Wp.ms2 Mx); exact Nat.le_of_ble_eq_true rfl; rfl; intro _ Mz; clear Mx; have Mx := Mz; clear Mz) | ((with_reducible apply Wp.mnew Mx); intro _ Mz; clear Mx; have Mx := Mz; clear Mz) | ((with_reducible refine Wp.chk ?_ ?_); focus ((repeat' (first | (with_reducible exact rfl) | (with_reducible apply and_t) | ((with_reducible apply Mem.re0 Mx); kernel_rfl; rfl))); done)) | ((with_reducible apply Wp.obind); (with_reducible exact avAgg_agg _)) | rw [newP_eq])
 obtain ⟨h6, e6, kn6, t6⟩ := trim_r (n := n) (d := d2) (rawOf_ok t) hn (h := _) Mx.at2.1
 refine Wp.callN e6 ?_
 have M6 := Mem.upd (xs := [_, _]) Mx t6 kn6
 clear Mx
 have Mx := M6
 clear M6
 simp only [List.cons_append, List.nil_append] at Mx
 repeat (((with_reducible apply Wp.ld1 Mx); rfl))
 refine Wp.ret ⟨_, rfl, fun x hx => Mx.row x ?_, List.nodup_cons.2 ⟨List.not_mem_nil, List.nodup_nil⟩, Mx.tch⟩
 rw [List.mem_singleton] at hx
 rw [hx]
 exact List.mem_cons_of_mem _ (List.mem_cons_of_mem _ List.mem_cons_self)
end
abbrev TRun : Nat := 69
def stepN (N : Nt) (st : Bool × Nat) (c : Nat) : Bool × Nat := (true, (if st.1 = true then N.behind st.2 else N.first) &&& N.ta.getD c 0)
def doneN (N : Nt) (st : Bool × Nat) : Bool := if st.1 = true then decide (st.2 &&& N.last ≠ 0) else N.empty
def deadN (N : Nt) (st : Bool × Nat) : Bool := if st.1 = true then decide (st.2 = 0) else !N.empty && decide (N.first = 0)
noncomputable def runC (nb : Nat) (st : Bool × Nat) : List AV := [.ptr nb 0, .bool st.1, .int .u64 (st.2 : Int)]
def runN (N : Nt) (st : Bool × Nat) (s : Bytes) : Bool × Nat := s.foldl (fun st c => stepN N st c.toNat) st
def matchN (N : Nt) (s : Bytes) : Bool := doneN N (runN N (false, 0) s)
theorem behF_zero (fo : List Nat) : ∀ (f acc : Nat), behF fo f 0 acc = acc
 | 0, _ => rfl
 | _ + 1, _ => rfl
theorem beh_zero (N : Nt) : N.behind 0 = 0 := behF_zero _ _ _
theorem step_zero (N : Nt) (c : Nat) : stepN N (true, 0) c = (true, 0) := by
 unfold stepN
 rw [if_pos rfl, beh_zero, Nat.zero_and]
theorem run_zero (N : Nt) : ∀ s : Bytes, runN N (true, 0) s = (true, 0)
 | [] => rfl
 | c :: s => by
  show runN N (stepN N (true, 0) c.toNat) s = _
  rw [step_zero]
  exact run_zero N s
theorem step_small {N : Nt} (k : NtOk N) (st : Bool × Nat) (c : Nat) : (stepN N st c).2 < 18446744073709551616 := by
 show (if st.1 = true then N.behind st.2 else N.first) &&& _ < _
 refine and_small ?_
 split
 ·exact N.behind_small k _
 ·exact k.f
section
variable {N : Nt} {n d nb rb : Nat} {h : AHeap} {Q : ARes → AHeap → Prop} {st : Bool × Nat}
set_option maxRecDepth 100000 in
theorem eqRun (b o : Nat) (h : AHeap) : opBin Tryd.prog h .eql 44 true (some (.ptr b o)) (some AV.nilp) = some (.val (.bool false), h) := by kernel_rfl
set_option maxRecDepth 100000 in
theorem eqNet (b o : Nat) (h : AHeap) : opBin Tryd.prog h .eql 25 true (some (.ptr b o)) (some AV.nilp) = some (.val (.bool false), h) := by kernel_rfl
set_option maxRecDepth 100000 in
theorem bldRun (b o : Nat) : bldS Tryd.prog TRun [(0, .ptr b o)] = some [.ptr b o, .bool false, .int .u64 0] := by kernel_rfl
theorem none_w (kr : RowH h rb TRun (runC nb st)) : world n (d + 1) 33 [.ptr rb 0] h = some (.ret (.bool false), h) := by
 apply Wp.eq
 rw [w_nfa_Run_none]
 unfold nfa_Run_none
 have c1 : ldCell h (.ptr rb (0 + 0)) = some (.ptr nb 0) := RowH.cell' kr rfl
 repeat (first | (with_reducible refine Wp.join1 (fun _ _ => ?_)) | ((with_reducible apply Wp.obind); (with_reducible first | exact c1 | exact avBool_bool _ | exact nilC_ptr _ _ | exact fldP_ptr _ _ _)) | ((with_reducible refine Wp.iff ?_ ?_); (with_reducible rfl)) | ((with_reducible apply Wp.outK); (with_reducible first | exact eqRun _ _ _ | exact eqNet _ _ _)) | (with_reducible refine Wp.go1 (by assumption) ?_))
 exact Wp.ret ⟨rfl, rfl⟩
theorem done_w (hN : NtOk N) (hs : st.2 < 18446744073709551616) (kr : RowH h rb TRun (runC nb st)) (kn : RowH h nb TNet (netC N)) : world n (d + 2) 18 [.ptr rb 0] h = some (.ret (.bool (doneN N st)), h) := by
 apply Wp.eq
 rw [w_nfa_Run_Done]
 unfold nfa_Run_Done
 have e0 := none_w (n := n) (d := d) kr
 have c1 : ldCell h (.ptr rb (0 + 0)) = some (.ptr nb 0) := RowH.cell' kr rfl
 have c2 : ldCell h (.ptr rb (0 + 1)) = some (.bool st.1) := RowH.cell' kr rfl
 have c3 : ldCell h (.ptr rb (0 + 2)) = some (.int .u64 (st.2 : Int)) := RowH.cell' kr rfl
 have c4 : ldCell h (.ptr nb (0 + 0)) = some (.bool N.empty) := RowH.cell' kn rfl
 have c5 : ldCell h (.ptr nb (0 + 2)) = some (.int .u64 (N.last : Int)) := RowH.cell' kn rfl
 have e1 := andI_nat hs hN.l
 unfold doneN
 repeat (first | (with_reducible refine Wp.lett ?_) | ((with_reducible apply Wp.obind); (with_reducible first | exact c2 | exact avBool_bool _ | exact nilC_ptr _ _ | exact fldP_ptr _ _ _)) | ((with_reducible refine Wp.iff ?_ ?_); (with_reducible rfl)) | ((with_reducible apply Wp.callN); (with_reducible exact e0)))
 cases hb : st.1 with
 | false =>
  repeat (first | ((with_reducible apply Wp.obind); (with_reducible first | exact c1 | exact c4 | exact avBool_bool _ | exact nilC_ptr _ _ | exact fldP_ptr _ _ _)) | ((with_reducible refine Wp.ift ?_ ?_); (with_reducible exact Bool.not_false)))
  exact Wp.ret ⟨rfl, rfl⟩
 | true =>
  repeat (first | (with_reducible refine Wp.lett ?_) | ((with_reducible apply Wp.obind); (with_reducible first | exact c1 | exact c3 | exact c5 | exact avInt_int _ _ | exact nilC_ptr _ _ | exact fldP_ptr _ _ _)) | ((with_reducible refine Wp.iff ?_ ?_); (with_reducible exact Bool.not_true)))
  rw [e1]
  refine Wp.ret ⟨?_, rfl⟩
  by_cases hz : st.2 &&& N.last = 0
  ·rw [hz]
   rfl
  ·rw [if_pos rfl, decide_eq_true hz, show (((st.2 &&& N.last : Nat) : Int) != 0) = true from bne_t (by omega)]
theorem dead_w (kr : RowH h rb TRun (runC nb st)) (kn : RowH h nb TNet (netC N)) : world n (d + 2) 19 [.ptr rb 0] h = some (.ret (.bool (deadN N st)), h) := by
 apply Wp.eq
 rw [w_nfa_Run_Dead]
 unfold nfa_Run_Dead
 have e0 := none_w (n := n) (d := d) kr
 have c1 : ldCell h (.ptr rb (0 + 0)) = some (.ptr nb 0) := RowH.cell' kr rfl
 have c2 : ldCell h (.ptr rb (0 + 1)) = some (.bool st.1) := RowH.cell' kr rfl
 have c3 : ldCell h (.ptr rb (0 + 2)) = some (.int .u64 (st.2 : Int)) := RowH.cell' kr rfl
 have c4 : ldCell h (.ptr nb (0 + 0)) = some (.bool N.empty) := RowH.cell' kn rfl
 have c5 : ldCell h (.ptr nb (0 + 1)) = some (.int .u64 (N.first : Int)) := RowH.cell' kn rfl
 have hz : ∀ x : Nat, (((x : Nat) : Int) == 0) = decide (x = 0) := fun x => by
  by_cases h0 : x = 0
  ·rw [h0]
   rfl
  ·rw [decide_eq_false h0]
   exact beq_f (by omega)
 unfold deadN
 repeat (first | (with_reducible refine Wp.lett ?_) | ((with_reducible apply Wp.obind); (with_reducible first | exact c2 | exact avBool_bool _ | exact nilC_ptr _ _ | exact fldP_ptr _ _ _)) | ((with_reducible refine Wp.iff ?_ ?_); (with_reducible rfl)) | ((with_reducible apply Wp.callN); (with_reducible exact e0)))
 cases hb : st.1 with
 | false =>
  cases he : N.empty with
  | true =>
   rw [he] at c4
   repeat (first | (with_reducible refine Wp.join1 (fun _ _ => ?_)) | (with_reducible refine Wp.lett ?_) | ((with_reducible apply Wp.obind); (with_reducible first | exact c1 | exact c4 | exact avBool_bool _ | exact nilC_ptr _ _ | exact fldP_ptr _ _ _)) | ((with_reducible refine Wp.ift ?_ ?_); (with_reducible exact Bool.not_false)) | ((with_reducible refine Wp.iff ?_ ?_); (with_reducible exact Bool.not_true)) | (with_reducible refine Wp.go1 (by assumption) ?_))
   exact Wp.ret ⟨rfl, rfl⟩
  | false =>
   rw [he] at c4
   repeat (first | (with_reducible refine Wp.join1 (fun _ _ => ?_)) | (with_reducible refine Wp.lett ?_) | ((with_reducible apply Wp.obind); (with_reducible first | exact c1 | exact c4 | exact c5 | exact avInt_int _ _ | exact avBool_bool _ | exact nilC_ptr _ _ | exact fldP_ptr _ _ _)) | ((with_reducible refine Wp.ift ?_ ?_); (with_reducible exact Bool.not_false)) | (with_reducible refine Wp.go1 (by assumption) ?_))
   rw [hz]
   exact Wp.ret ⟨rfl, rfl⟩
 | true =>
  repeat (first | (with_reducible refine Wp.lett ?_) | ((with_reducible apply Wp.obind); (with_reducible first | exact c3 | exact avInt_int _ _ | exact nilC_ptr _ _ | exact fldP_ptr _ _ _)) | ((with_reducible refine Wp.iff ?_ ?_); (with_reducible exact Bool.not_true)))
  rw [hz]
  exact Wp.ret ⟨rfl, rfl⟩
theorem step_r (hT : HasTz h) (hN : NtOk N) (hs : st.2 < 18446744073709551616) (hn : 18446744073709551616 < n) (hne : rb ≠ nb) {c : Nat} (hc : c < 256) (kr : RowH h rb TRun (runC nb st)) (kn : RowH h nb TNet (netC N)) (hnb : nb < h.next) : ∃ h', world n (d + 3) 21 [.ptr rb 0, .int .u8 (c : Int)] h = some (.ret (.tup []), h') ∧ RowH h' rb TRun (runC nb (stepN N st c)) ∧ Tch [rb] h h' := by
 apply Wp.ex
 rw [w_nfa_Run_Step]
 unfold nfa_Run_Step
 have e0 := none_w (n := n) (d := d + 1) kr
 have c1 : ldCell h (.ptr rb (0 + 0)) = some (.ptr nb 0) := RowH.cell' kr rfl
 have c2 : ldCell h (.ptr rb (0 + 1)) = some (.bool st.1) := RowH.cell' kr rfl
 have c3 : ldCell h (.ptr rb (0 + 2)) = some (.int .u64 (st.2 : Int)) := RowH.cell' kr rfl
 have c5 : ldCell h (.ptr nb (0 + 1)) = some (.int .u64 (N.first : Int)) := RowH.cell' kn rfl
 have e1 := beh_w (n := n) (d := d) hT hN kn hs hn
 have e3 := idxA_ptr (b := nb) (o := 0 + 67) hc
 have fin : ∀ (m : Nat), m < 18446744073709551616 → (stepN N st c).2 = m &&& N.ta.getD c 0 → Wp (obind (stRow h 1 [.bool true] (.ptr rb (0 + 1))) fun h_25 =>
   obind (nilC (.ptr rb 0)) fun t33 => obind (fldP 0 t33) fun t34 => obind (ldCell h_25 t34) fun v35 => obind (nilC v35) fun t37 => obind (fldP 67 t37) fun t38 =>
   obind (idxA 256 1 t38 (c : Int)) fun t39 => obind (ldCell h_25 t39) fun v40 => obind (avInt .u64 v40) fun t40 => lett (andI .u64 (m : Int) t40) fun (t41 : Int) =>
   obind (nilC (.ptr rb 0)) fun t42 => obind (fldP 2 t42) fun t43 => obind (stRow h_25 1 [.int .u64 t41] t43) fun h_38 => some (.ret (.tup []), h_38))
   fun r h' => r = .ret (.tup []) ∧ RowH h' rb TRun (runC nb (stepN N st c)) ∧ Tch [rb] h h' := by
  intro m hm he
  refine Wp.st1 kr (by show 1 < 3; decide) rfl fun h1 k1 t1 _ => ?_
  have kn1 := kn.tch t1 hnb (by simpa using fun e => hne e.symm)
  have d1 : ldCell h1 (.ptr rb (0 + 0)) = some (.ptr nb 0) := RowH.cell' k1 rfl
  have d2 : ldCell h1 (.ptr nb (0 + 67 + c)) = some (.int .u64 (N.ta.getD c 0 : Int)) := RowH.cell' kn1 (by rw [Nat.zero_add, net_ta hN hc])
  repeat (first | (with_reducible refine Wp.lett ?_) | ((with_reducible apply Wp.obind); (with_reducible first | exact d1 | exact d2 | exact e3 | exact avInt_int _ _ | exact nilC_ptr _ _ | exact fldP_ptr _ _ _)))
  rw [andI_nat hm (getD_small hN.ts c), ← he]
  refine Wp.st1 k1 (by show 2 < 3; decide) rfl fun h2 k2 t2 _ => ?_
  exact Wp.ret ⟨rfl, k2, t1.trans t2⟩
 repeat (first | (with_reducible refine Wp.join1 (fun _ _ => ?_)) | ((with_reducible apply Wp.obind); (with_reducible first | exact c1 | exact c2 | exact c5 | exact avInt_int _ _ | exact avBool_bool _ | exact nilC_ptr _ _ | exact fldP_ptr _ _ _)) | ((with_reducible refine Wp.iff ?_ ?_); (with_reducible rfl)) | ((with_reducible apply Wp.callN); (with_reducible exact e0)))
 cases hb : st.1 with
 | true =>
  repeat (first | ((with_reducible apply Wp.obind); (with_reducible first | exact c1 | exact c3 | exact avInt_int _ _ | exact nilC_ptr _ _ | exact fldP_ptr _ _ _)) | ((with_reducible refine Wp.ift ?_ ?_); (with_reducible rfl)) | ((with_reducible apply Wp.callN); (with_reducible exact e1)) | (with_reducible refine Wp.go1 (by assumption) ?_))
  exact fin (N.behind st.2) (N.behind_small hN _) (by unfold stepN; rw [if_pos hb])
 | false =>
  repeat (first | ((with_reducible apply Wp.obind); (with_reducible first | exact nilC_ptr _ _ | exact fldP_ptr _ _ _)) | ((with_reducible refine Wp.iff ?_ ?_); (with_reducible rfl)) | (with_reducible refine Wp.go1 (by assumption) ?_))
  exact fin N.first hN.f (by unfold stepN; rw [if_neg (by rw [hb]; decide)])
end
section
variable {N : Nt} {n d nb rb : Nat} {h h0 : AHeap} {Q : ARes → AHeap → Prop} {st : Bool × Nat} {S : List Nat} {rs : List RowT}
theorem begin_m (M : Abs.Mem S h0 h rs) : ∃ h', world n (d + 1) 17 [.ptr nb 0] h = some (.ret (.ptr h.next 0), h') ∧ Abs.Mem S h0 h' ((h.next, TRun, runC nb (false, 0)) :: rs) := by
 apply Wp.ex
 rw [w_nfa_Net_Begin]
 unfold nfa_Net_Begin
 have Mx := M
 repeat (first | ((with_reducible apply Wp.obind); (with_reducible exact avBool_bool _)) | ((with_reducible apply Wp.mbox Mx); (rfl); intro _ Mz; clear Mx; have Mx := Mz; clear Mz) | ((with_reducible apply Wp.obind); (with_reducible exact bldRun _ _)) | ((with_reducible refine Wp.iff ?_ ?_); (with_reducible rfl)) | ((with_reducible apply Wp.outK); (with_reducible exact eqNet _ _ _)))
 exact Wp.ret ⟨rfl, Mx⟩
theorem dead_false {st : Bool × Nat} (hb : st.1 = true) (hd : deadN N st = true) (s : Bytes) : doneN N (runN N st s) = false := by
 obtain ⟨b, m⟩ := st
 have : b = true := hb
 subst this
 have : m = 0 := of_decide_eq_true hd
 subst this
 rw [run_zero]
 show decide (0 &&& N.last ≠ 0) = false
 rw [Nat.zero_and]
 rfl
theorem run_cons {s : Bytes} {i : Nat} (hi : i < s.length) (st : Bool × Nat) : runN N st (s.drop i) = runN N (stepN N st (s[i]).toNat) (s.drop (i + 1)) := by
 rw [List.drop_eq_getElem_cons hi]
 rfl
theorem byte_lt {s : Bytes} {i : Nat} (hi : i < s.length) : (s[i]).toNat < 256 := (s[i]).toNat_lt
theorem match_loop {s : Bytes} {k17 : AHeap → R} {h4 : AHeap} (hT : HasTz h0) (hN : NtOk N) (hn : 18446744073709551616 < n) (hl : s.length < 1000000000) (kn : RowH h0 nb TNet (netC N)) (hnb : nb < h0.next)
  (hk : ∀ (st : Bool × Nat) (H : AHeap), st.2 < 18446744073709551616 → Abs.Mem [] h0 H [(h4.next, TRun, runC nb st)] → doneN N st = matchN N s → Wp (k17 H) Q) (hq : ∀ H, Tch [] h0 H → matchN N s = false → Q (.ret (.bool false)) H) :
  ∀ (m f i : Nat) (st : Bool × Nat) (H : AHeap), m < f → i + m = s.length → st.2 < 18446744073709551616 → doneN N (runN N st (s.drop i)) = matchN N s → Abs.Mem [] h0 H [(h4.next, TRun, runC nb st)] → Wp (nfa_Net_Match_L0 (world n (d + 3)) s h4 k17 f (i : Int) H) Q
 | _, 0, _, _, _, hf, _, _, _, _ => by omega
 | 0, f + 1, i, st, H, hf, hm, hs, hr, M => by
  have ll := lenS_nat s
  rw [nfa_Net_Match_L0_s]
  unfold nfa_Net_Match_L0b
  repeat (first | (with_reducible refine Wp.lett ?_) | ((with_reducible refine Wp.iff ?_ ?_); ((with_reducible apply decide_eq_false); omega)))
  refine hk st H hs M ?_
  rw [List.drop_of_length_le (by omega)] at hr
  exact hr
 | m + 1, f + 1, i, st, H, hf, hm, hs, hr, M => by
  have ll := lenS_nat s
  have hi : i < s.length := by omega
  rw [nfa_Net_Match_L0_s]
  unfold nfa_Net_Match_L0b
  have hx := idxS_nat hi
  have kn1 := kn.tch M.tch hnb (by simp)
  have hn1 := Nat.lt_of_lt_of_le hnb M.tch.1
  have hne : h4.next ≠ nb := by
   have := M.at0.2.2.resolve_left (by simp)
   omega
  obtain ⟨h1, e1, k1, t1⟩ := step_r (n := n) (d := d) (hT.tch M.tch (by simp)) hN hs hn hne (byte_lt hi) M.at0.1 kn1 hn1
  have M1 := Mem.upd (xs := []) M t1 k1
  have kn2 := kn1.tch t1 hn1 (by simpa using fun e => hne e.symm)
  have e2 := dead_w (n := n) (d := d + 1) k1 kn2
  have el : (i : Int) + 1 = ((i + 1 : Nat) : Int) := by omega
  rw [run_cons hi] at hr
  ((with_reducible refine Wp.lett ?_))
  refine Wp.ift (decide_eq_true (by omega)) ?_
  refine Wp.obind hx ?_
  rw [newP_eq]
  refine Wp.callN e1 ?_
  refine Wp.callN e2 ?_
  refine Wp.obind (avBool_bool _) ?_
  cases hd : deadN N (stepN N st (s[i]).toNat) with
  | true =>
   (((with_reducible refine Wp.ift ?_ ?_); (with_reducible rfl)))
   refine Wp.ret (hq _ M1.tch ?_)
   rw [← hr]
   exact dead_false rfl hd _
  | false =>
   repeat (first | ((with_reducible refine Wp.lettw ?_ ?_ ?_); omega; omega) | ((with_reducible refine Wp.iff ?_ ?_); (with_reducible rfl)))
   rw [el]
   exact match_loop hT hN hn hl kn hnb hk hq m f (i + 1) _ h1 (by omega) (by omega) (step_small hN _ _) hr M1
theorem match_r {s : Bytes} (hT : HasTz h) (hN : NtOk N) (hn : 18446744073709551616 < n) (hl : s.length < 1000000000) (kn : RowH h nb TNet (netC N)) (hnb : nb < h.next) : ∃ h', world n (d + 4) 14 [.ptr nb 0, strA s] h = some (.ret (.bool (matchN N s)), h') ∧ Tch [] h h' := by
 apply Wp.ex
 rw [w_nfa_Net_Match]
 unfold nfa_Net_Match
 have Mx := Mem.nil [] h
 repeat (first | ((with_reducible apply Wp.obind); (with_reducible exact avBool_bool _)) | ((with_reducible apply Wp.sa0 Mx); rfl; rfl; (rfl); intro _ Mz; clear Mx; have Mx := Mz; clear Mz) | ((with_reducible apply Wp.mnew Mx); intro _ Mz; clear Mx; have Mx := Mz; clear Mz) | (with_reducible refine Wp.join0 (fun _ _ => ?_)) | ((with_reducible apply Wp.obind); (with_reducible exact bldRun _ _)) | ((with_reducible refine Wp.iff ?_ ?_); (with_reducible rfl)) | ((with_reducible apply Wp.outK); (with_reducible exact eqNet _ _ _)) | rw [newP_eq])
 rename_i k17 ek17
 refine match_loop (h0 := h) hT hN hn hl kn hnb (fun st H hs M hd => ?_) (fun H t e => ⟨by rw [e], t⟩) s.length n 0 (false, 0) _ (by omega) (by omega) (show 0 < _ by decide) (by rw [List.drop_zero]; rfl) Mx
 rw [ek17]
 have e2 := done_w (n := n) (d := d + 1) hN hs M.at0.1 (kn.tch M.tch hnb (by simp))
 refine Wp.callN e2 ?_
 (((with_reducible apply Wp.obind); (with_reducible exact avBool_bool _)))
 exact Wp.ret ⟨by rw [hd], M.tch⟩
set_option maxRecDepth 100000 in
theorem nilNet (h : AHeap) : opBin Tryd.prog h .eql 25 true (some AV.nilp) (some AV.nilp) = some (.val (.bool true), h) := by kernel_rfl
section
variable {u : Bytes}
theorem tree_long {u : Bytes} (l : 64 < u.length) {kind : Int} (hk : kind = 1 ∨ kind = 2 ∨ kind = 3) {n D : Nat} {h : AHeap} : world n (D + 1) 24 [.agg [.int .i64 kind, strA u]] h = some (.ret (.tup [.agg (nodeC 0 zeroW .nsl), .agg [.int .i64 3, .int .i64 64]]), h) := by
 rcases hk with rfl | rfl | rfl
 ·apply Wp.eq
  rw [w_pattern_Tree]
  refine Wp.gc ?_
  suffices hK : Wp (pattern_Tree (world n D) n [.int .i64 1, strA u] h) fun r h' => r = .ret (.tup [.agg (nodeC 0 zeroW .nsl), .agg [.int .i64 3, .int .i64 64]]) ∧ Tch [] h h' from hK.mono fun r h' ⟨e, t⟩ => ⟨t.above, by rw [e]; rfl, e, rfl⟩
  unfold pattern_Tree
  have ll := lenS_nat u
  have Mx := Mem.nil [] h
  repeat (first | ((with_reducible apply Wp.obind); (with_reducible first | exact avInt_int _ _ | exact avStr_str _ | exact fldP_ptr _ _ _)) | ((with_reducible apply Wp.lr0 Mx); rfl) | ((with_reducible apply Wp.sa0 Mx); rfl; rfl; (rfl); intro _ Mz; clear Mx; have Mx := Mz; clear Mz) | ((with_reducible apply Wp.lr1 Mx); rfl) | ((with_reducible apply Wp.sa1 Mx); rfl; rfl; (rfl); intro _ Mz; clear Mx; have Mx := Mz; clear Mz) | ((with_reducible apply Wp.ld2 Mx); rfl) | ((with_reducible apply Wp.mnew Mx); intro _ Mz; clear Mx; have Mx := Mz; clear Mz) | ((with_reducible apply Wp.mbox Mx); (rfl); intro _ Mz; clear Mx; have Mx := Mz; clear Mz) | (with_reducible refine Wp.join1 (fun _ _ => ?_)) | (with_reducible refine Wp.lett ?_) | ((with_reducible refine Wp.ift ?_ ?_); ((with_reducible first | apply decide_eq_true | apply bne_t); omega)) | ((with_reducible refine Wp.iff ?_ ?_); first | (with_reducible rfl) | ((with_reducible apply bne_f); omega)) | (with_reducible refine Wp.go1 (by assumption) ?_) | rw [newP_eq])
  exact Wp.ret ⟨rfl, Mx.tch⟩
 ·apply Wp.eq
  rw [w_pattern_Tree]
  refine Wp.gc ?_
  suffices hK : Wp (pattern_Tree (world n D) n [.int .i64 2, strA u] h) fun r h' => r = .ret (.tup [.agg (nodeC 0 zeroW .nsl), .agg [.int .i64 3, .int .i64 64]]) ∧ Tch [] h h' from hK.mono fun r h' ⟨e, t⟩ => ⟨t.above, by rw [e]; rfl, e, rfl⟩
  unfold pattern_Tree
  have ll := lenS_nat u
  have Mx := Mem.nil [] h
  repeat (first | ((with_reducible apply Wp.obind); (with_reducible first | exact avInt_int _ _ | exact avStr_str _ | exact fldP_ptr _ _ _)) | ((with_reducible apply Wp.lr0 Mx); rfl) | ((with_reducible apply Wp.sa0 Mx); rfl; rfl; (rfl); intro _ Mz; clear Mx; have Mx := Mz; clear Mz) | ((with_reducible apply Wp.lr1 Mx); rfl) | ((with_reducible apply Wp.sa1 Mx); rfl; rfl; (rfl); intro _ Mz; clear Mx; have Mx := Mz; clear Mz) | ((with_reducible apply Wp.ld2 Mx); rfl) | ((with_reducible apply Wp.mnew Mx); intro _ Mz; clear Mx; have Mx := Mz; clear Mz) | ((with_reducible apply Wp.mbox Mx); (rfl); intro _ Mz; clear Mx; have Mx := Mz; clear Mz) | (with_reducible refine Wp.join1 (fun _ _ => ?_)) | (with_reducible refine Wp.lett ?_) | ((with_reducible refine Wp.ift ?_ ?_); ((with_reducible first | apply decide_eq_true | apply bne_t); omega)) | ((with_reducible refine Wp.iff ?_ ?_); first | (with_reducible rfl) | ((with_reducible apply bne_f); omega)) | (with_reducible refine Wp.go1 (by assumption) ?_) | rw [newP_eq])
  exact Wp.ret ⟨rfl, Mx.tch⟩
 ·apply Wp.eq
  rw [w_pattern_Tree]
  refine Wp.gc ?_
  suffices hK : Wp (pattern_Tree (world n D) n [.int .i64 3, strA u] h) fun r h' => r = .ret (.tup [.agg (nodeC 0 zeroW .nsl), .agg [.int .i64 3, .int .i64 64]]) ∧ Tch [] h h' from hK.mono fun r h' ⟨e, t⟩ => ⟨t.above, by rw [e]; rfl, e, rfl⟩
  unfold pattern_Tree
  have ll := lenS_nat u
  have Mx := Mem.nil [] h
  repeat (first | ((with_reducible apply Wp.obind); (with_reducible first | exact avInt_int _ _ | exact avStr_str _ | exact fldP_ptr _ _ _)) | ((with_reducible apply Wp.lr0 Mx); rfl) | ((with_reducible apply Wp.sa0 Mx); rfl; rfl; (rfl); intro _ Mz; clear Mx; have Mx := Mz; clear Mz) | ((with_reducible apply Wp.lr1 Mx); rfl) | ((with_reducible apply Wp.sa1 Mx); rfl; rfl; (rfl); intro _ Mz; clear Mx; have Mx := Mz; clear Mz) | ((with_reducible apply Wp.ld2 Mx); rfl) | ((with_reducible apply Wp.mnew Mx); intro _ Mz; clear Mx; have Mx := Mz; clear Mz) | ((with_reducible apply Wp.mbox Mx); (rfl); intro _ Mz; clear Mx; have Mx := Mz; clear Mz) | (with_reducible refine Wp.join1 (fun _ _ => ?_)) | (with_reducible refine Wp.lett ?_) | ((with_reducible refine Wp.ift ?_ ?_); ((with_reducible first | apply decide_eq_true | apply bne_t); omega)) | ((with_reducible refine Wp.iff ?_ ?_); ((with_reducible apply bne_f); omega)) | (with_reducible refine Wp.go1 (by assumption) ?_) | rw [newP_eq])
  exact Wp.ret ⟨rfl, Mx.tch⟩
end
theorem of_all (k : Int) (u : Bytes) {n d : Nat} (hn : 18446744073709551620 < n) (hd : 1000 ≤ d) : (∀ h : AHeap, memB TNode h.ex = false → world n (d + 1) 12 [.agg [.int .i64 k, strA u]] h = some (.ret (.tup [.nilp, .int .i64 2]), h)) ∨
  ∃ t, TreeP u k (.ok t) ∧ u.length ≤ 64 ∧ ∀ h : AHeap, memB TNode h.ex = false → ∃ nb h', world n (d + 1) 12 [.agg [.int .i64 k, strA u]] h = some (.ret (.tup [.ptr nb 0, .int .i64 0]), h') ∧ Abs.Mem [] h h' [(nb, TNet, netC (netOf t))] := by
 obtain ⟨D, rfl⟩ : ∃ D, d = D + 3 := ⟨d - 3, by omega⟩
 by_cases hk : k = 1 ∨ k = 2 ∨ k = 3
 ·by_cases hl : 64 < u.length
  ·exact .inl fun h hx => of_bad (e1 := 3) (q := 64) (by decide) (fun h hx => tree_long hl hk) hx
  ·obtain ⟨r, r1, _, r3⟩ := (tree_kinds (u := u) (by omega) hk).2 (by omega)
   cases r with
   | error q => exact .inl fun h hx => of_bad (e1 := 6) (q := (q : Int)) (by decide) (fun h hx => r3 (by omega) (by omega) hx) hx
   | ok t =>
    have hz := treeP_small r1
    exact .inr ⟨t, r1, by omega, fun h hx => of_ok (treeP_oneK r1) (by omega) (by omega) hn (fun h hx => r3 (by omega) (by omega) hx) hx⟩
 ·exact .inl fun h hx => of_bad (e1 := 2) (q := 0) (by decide) (fun h hx => tree_kind hk) hx
end
theorem tz_pow_all : (List.range 64).all (fun k => Nat.beq (tzT.getD (2 ^ k * 285870213051353865 % 18446744073709551616 / 288230376151711744) 0) k) = true := by kernel_rfl
theorem low_ex : ∀ (f m : Nat), m < f → m ≠ 0 → ∃ k q, m = 2 ^ k * (2 * q + 1)
 | 0, _, h, _ => by omega
 | f + 1, m, h, h0 => by
  rcases Nat.mod_two_eq_zero_or_one m with e | e
  ·obtain ⟨k, q, hk⟩ := low_ex f (m / 2) (by omega) (by omega)
   refine ⟨k + 1, q, ?_⟩
   rw [Nat.pow_succ, Nat.mul_right_comm, ← hk]
   omega
  ·exact ⟨0, m / 2, by omega⟩
theorem and_compl {j q : Nat} (hq : q < 2 ^ j) : q &&& (2 ^ j - (q + 1)) = 0 := by
 refine Nat.eq_of_testBit_eq fun i => ?_
 rw [Nat.testBit_and, Nat.testBit_two_pow_sub_succ hq, Nat.zero_testBit]
 cases q.testBit i <;> simp
theorem odd_and (a b : Nat) (h : a &&& b = 0) : (2 * a + 1) &&& (2 * b + 1) = 1 := by
 refine Nat.eq_of_testBit_eq fun i => ?_
 rw [Nat.testBit_and]
 cases i with
 | zero => simp [Nat.testBit_zero, Nat.add_mod]
 | succ i =>
  have e := congrArg (fun x => x.testBit i) h
  rw [Nat.testBit_and, Nat.zero_testBit] at e
  rw [Nat.testBit_succ, Nat.testBit_succ, Nat.testBit_succ, show (2 * a + 1) / 2 = a by omega, show (2 * b + 1) / 2 = b by omega, e]
  simp
theorem low_and {m k q : Nat} (hm : m = 2 ^ k * (2 * q + 1)) (hb : m < 18446744073709551616) : k < 64 ∧ m &&& (18446744073709551616 - m) % 18446744073709551616 = 2 ^ k := by
  have hp : 0 < 2 ^ k := Nat.pow_pos (by decide)
  have hk : k < 64 := by
    apply Nat.lt_of_not_le
    intro hk
    have h1 := Nat.pow_le_pow_right (n := 2) (by decide) hk
    have h2 : 2 ^ k * 1 ≤ 2 ^ k * (2 * q + 1) := Nat.mul_le_mul_left _ (by omega)
    omega
  refine ⟨hk, ?_⟩
  obtain ⟨j, hj⟩ : ∃ j, 63 = k + j := ⟨63 - k, by omega⟩
  have h64 : 18446744073709551616 = 2 ^ k * (2 * 2 ^ j) := by
    rw [← Nat.mul_assoc, Nat.mul_comm (2 ^ k) 2, Nat.mul_assoc, ← Nat.pow_add, ← hj]
  have hq : q < 2 ^ j := by
    have h3 : 2 ^ k * (2 * q + 1) < 2 ^ k * (2 * 2 ^ j) := by rw [← hm, ← h64]; exact hb
    have := Nat.lt_of_mul_lt_mul_left h3
    omega
  have h5 : (18446744073709551616 - m) % 18446744073709551616 = 2 ^ k * (2 * (2 ^ j - (q + 1)) + 1) := by
    rw [Nat.mod_eq_of_lt (by have : 0 < m := by rw [hm]; exact Nat.mul_pos hp (by omega)
                             omega), h64, hm, ← Nat.mul_sub]
    congr 1
    omega
  rw [h5, hm]
  have h6 := odd_and _ _ (and_compl hq)
  rw [Nat.mul_comm, Nat.mul_comm (2 ^ k) (2 * (2 ^ j - (q + 1)) + 1), ← Nat.shiftLeft_eq, ← Nat.shiftLeft_eq, ← Nat.shiftLeft_and_distrib, h6, Nat.shiftLeft_eq, Nat.one_mul]
theorem tz_low {m k q : Nat} (hm : m = 2 ^ k * (2 * q + 1)) (hb : m < 18446744073709551616) : tzN m = k := by
 obtain ⟨hk, h⟩ := low_and hm hb
 have := List.all_eq_true.1 tz_pow_all k (List.mem_range.2 hk)
 unfold tzN tzI
 rw [h]
 exact Nat.eq_of_beq_eq_true this
theorem low_bits {m k q : Nat} (hm : m = 2 ^ k * (2 * q + 1)) : m.testBit k = true ∧ ∀ i, (m &&& (m - 1)).testBit i = (m.testBit i && !decide (i = k)) := by
 have hp : 0 < 2 ^ k := Nat.pow_pos (by decide)
 have d1 : m / 2 ^ k = 2 * q + 1 := by rw [hm, Nat.mul_div_cancel_left _ hp]
 have d2 : (m - 1) / 2 ^ k = 2 * q := by
  have := Nat.mul_sub_div 0 (2 ^ k) (2 * q + 1) (Nat.mul_pos hp (by omega))
  rw [Nat.zero_add, Nat.zero_div, ← hm] at this
  rw [this]
  omega
 have hk : m.testBit k = true := by
  rw [Nat.testBit_eq_decide_div_mod_eq, d1]
  exact decide_eq_true (by omega)
 refine ⟨hk, fun i => ?_⟩
 rw [Nat.testBit_and]
 rcases Nat.lt_trichotomy i k with h | h | h
 ·have : m.testBit i = false := by
   obtain ⟨j, hj⟩ : ∃ j, k = i + (j + 1) := ⟨k - i - 1, by omega⟩
   rw [Nat.testBit_eq_decide_div_mod_eq, hm, hj, Nat.pow_add, Nat.mul_assoc, Nat.mul_div_cancel_left _ (Nat.pow_pos (by decide)), Nat.pow_succ, Nat.mul_comm (2 ^ j) 2, Nat.mul_assoc]
   exact decide_eq_false (by omega)
  rw [this, Bool.false_and, Bool.false_and]
 ·subst h
  have : (m - 1).testBit i = false := by
   rw [Nat.testBit_eq_decide_div_mod_eq, d2]
   exact decide_eq_false (by omega)
  rw [this, decide_eq_true rfl]
  simp
 ·obtain ⟨j, hj⟩ : ∃ j, i = k + (j + 1) := ⟨i - k - 1, by omega⟩
  have e : ∀ x : Nat, x / 2 ^ i = x / 2 ^ k / 2 / 2 ^ j := fun x => by rw [hj, Nat.pow_add, Nat.pow_succ, Nat.mul_comm (2 ^ j) 2, ← Nat.mul_assoc, ← Nat.div_div_eq_div_mul, ← Nat.div_div_eq_div_mul]
  have : (m - 1).testBit i = m.testBit i := by
   rw [Nat.testBit_eq_decide_div_mod_eq, Nat.testBit_eq_decide_div_mod_eq, e, e, d1, d2, show (2 * q + 1) / 2 = 2 * q / 2 by omega]
  rw [this, decide_eq_false (by omega)]
  simp
theorem behF_bit (fo : List Nat) : ∀ (f m acc : Nat), m < f → m < 18446744073709551616 → ∀ r, (behF fo f m acc).testBit r = true ↔ acc.testBit r = true ∨ ∃ q, m.testBit q = true ∧ (fo.getD q 0).testBit r = true
 | 0, _, _, h, _, _ => by omega
 | f + 1, m, acc, hf, hm, r => by
  rw [behF]
  by_cases h0 : m = 0
  ·rw [if_pos h0, h0]
   refine ⟨.inl, fun h => ?_⟩
   rcases h with h | ⟨q, h, _⟩
   ·exact h
   ·rw [Nat.zero_testBit] at h
    cases h
  ·rw [if_neg h0]
   obtain ⟨k, q, hkq⟩ := low_ex (m + 1) m (by omega) h0
   have hl := low_lt h0
   obtain ⟨b1, b2⟩ := low_bits hkq
   rw [behF_bit fo f _ _ (by omega) (by omega) r, tz_low hkq hm, Nat.testBit_or, Bool.or_eq_true]
   constructor
   ·rintro ((h | h) | ⟨p, h, h2⟩)
    ·exact .inl h
    ·exact .inr ⟨k, b1, h⟩
    ·rw [b2, Bool.and_eq_true] at h
     exact .inr ⟨p, h.1, h2⟩
   ·rintro (h | ⟨p, h, h2⟩)
    ·exact .inl (.inl h)
    ·by_cases hp : p = k
     ·subst hp
      exact .inl (.inr h2)
     ·refine .inr ⟨p, ?_, h2⟩
      rw [b2, h, decide_eq_false hp]
      rfl
theorem behind_bit {N : Nt} {m : Nat} (hm : m < 18446744073709551616) (r : Nat) : (N.behind m).testBit r = true ↔ ∃ q, m.testBit q = true ∧ (N.fo.getD q 0).testBit r = true := by
 unfold Nt.behind
 rw [behF_bit N.fo _ m 0 (by omega) hm r, Nat.zero_testBit]
 simp
structure Frag where
 e : Bool
 F : Nat → Prop
 L : Nat → Prop
 E : Nat → Nat → Prop
 K : Nat → Nat → Prop
inductive Walk (a : Frag) : Nat → List Nat → Nat → Prop
 | nil {q : Nat} : Walk a q [] q
 | cons {q r q' c : Nat} {s : List Nat} (e : a.E q r) (k : a.K r c) (w : Walk a r s q') : Walk a q (c :: s) q'
def Fits1 (a : Frag) : List Nat → Prop
 | [] => False
 | c :: s => ∃ q q', a.F q ∧ a.K q c ∧ a.L q' ∧ Walk a q s q'
structure Rec (a : Frag) (P : List Nat → Prop) (lo hi : Nat) : Prop where
 e : a.e = true ↔ P []
 f : ∀ {c : Nat} {s : List Nat}, Fits1 a (c :: s) ↔ P (c :: s)
 le : lo ≤ hi
 F : ∀ {q}, a.F q → lo ≤ q ∧ q < hi
 L : ∀ {q}, a.L q → lo ≤ q ∧ q < hi
 E : ∀ {q r}, a.E q r → (lo ≤ q ∧ q < hi) ∧ lo ≤ r ∧ r < hi
 K : ∀ {q c}, a.K q c → lo ≤ q ∧ q < hi
theorem Walk.mono {a b : Frag} (hE : ∀ {q r}, a.E q r → b.E q r) (hK : ∀ {q c}, a.K q c → b.K q c) {q q' : Nat} {s : List Nat} (w : Walk a q s q') : Walk b q s q' := by
 induction w with
 | nil => exact .nil
 | cons e k _ ih => exact .cons (hE e) (hK k) ih
theorem Walk.app {a : Frag} {q r q' : Nat} {s t : List Nat} (w : Walk a q s r) (v : Walk a r t q') : Walk a q (s ++ t) q' := by
 induction w with
 | nil => exact v
 | cons e k _ ih => exact .cons e k (ih v)
def noF : Frag := ⟨true, fun _ => False, fun _ => False, fun _ _ => False, fun _ _ => False⟩
def badF : Frag := ⟨false, fun _ => False, fun _ => False, fun _ _ => False, fun _ _ => False⟩
def setF (w : List Nat) (u : Nat) : Frag := ⟨false, fun q => q = u, fun q => q = u, fun _ _ => False, fun q c => q = u ∧ inW w c = true⟩
def catF (a b : Frag) : Frag := ⟨a.e && b.e, fun q => a.F q ∨ (a.e = true ∧ b.F q), fun q => b.L q ∨ (b.e = true ∧ a.L q), fun q r => a.E q r ∨ b.E q r ∨ (a.L q ∧ b.F r), fun q c => a.K q c ∨ b.K q c⟩
def altF (a b : Frag) : Frag := ⟨a.e || b.e, fun q => a.F q ∨ b.F q, fun q => a.L q ∨ b.L q, fun q r => a.E q r ∨ b.E q r, fun q c => a.K q c ∨ b.K q c⟩
def moreF (a : Frag) (e : Bool) : Frag := ⟨e, a.F, a.L, fun q r => a.E q r ∨ (a.L q ∧ a.F r), a.K⟩
def optF (a : Frag) : Frag := ⟨true, a.F, a.L, a.E, a.K⟩
inductive Plus (P : List Nat → Prop) : List Nat → Prop
 | one {s : List Nat} (h : P s) : Plus P s
 | more {s t : List Nat} (h : P s) (m : Plus P t) : Plus P (s ++ t)
def Cat (P Q : List Nat → Prop) (s : List Nat) : Prop := ∃ s1 s2, s = s1 ++ s2 ∧ P s1 ∧ Q s2
section
variable {a b : Frag} {P Q : List Nat → Prop} {lo mid hi u : Nat} {w : List Nat}
theorem noF_rec (u : Nat) : Rec noF (fun s => s = []) u u := by
 refine ⟨⟨fun _ => rfl, fun _ => rfl⟩, ⟨fun h => ?_, fun h => ?_⟩, Nat.le_refl _, fun h => False.elim h, fun h => False.elim h, fun h => False.elim h, fun h => False.elim h⟩
 ·obtain ⟨_, _, h, _⟩ := h
  exact False.elim h
 ·cases h
theorem badF_rec (u : Nat) : Rec badF (fun _ => False) u u := by
 refine ⟨⟨fun h => ?_, fun h => False.elim h⟩, ⟨fun h => ?_, fun h => False.elim h⟩, Nat.le_refl _, fun h => False.elim h, fun h => False.elim h, fun h => False.elim h, fun h => False.elim h⟩
 ·cases h
 ·obtain ⟨_, _, h, _⟩ := h
  exact False.elim h
theorem setF_rec : Rec (setF w u) (fun s => ∃ c, s = [c] ∧ inW w c = true) u (u + 1) := by
 refine ⟨⟨fun h => ?_, fun h => ?_⟩, ⟨?_, ?_⟩, by omega, fun h => ?_, fun h => ?_, fun h => False.elim h, fun h => ?_⟩
 ·cases h
 ·obtain ⟨_, h, _⟩ := h
  cases h
 ·rintro ⟨q, q', _, k, _, v⟩
  cases v with
  | nil => exact ⟨_, rfl, k.2⟩
  | cons e _ _ => exact False.elim e
 ·rintro ⟨c, h, k⟩
  cases h
  exact ⟨u, u, rfl, ⟨rfl, k⟩, rfl, .nil⟩
 ·have : _ = u := h
  omega
 ·have : _ = u := h
  omega
 ·have := h.1
  omega
theorem opt_rec (h : Rec a P lo hi) : Rec (optF a) (fun s => s = [] ∨ P s) lo hi := by
 refine ⟨⟨fun _ => .inl rfl, fun _ => rfl⟩, ⟨fun ⟨q, q', h1, h2, h3, v⟩ => .inr (h.f.1 ⟨q, q', h1, h2, h3, Walk.mono (a := optF a) (b := a) (fun h => h) (fun h => h) v⟩), fun hp => ?_⟩, h.le, h.F, h.L, h.E, h.K⟩
 rcases hp with hp | hp
 ·cases hp
 ·obtain ⟨q, q', h1, h2, h3, v⟩ := h.f.2 hp
  exact ⟨q, q', h1, h2, h3, Walk.mono (a := a) (b := optF a) (fun h => h) (fun h => h) v⟩
theorem Walk.left (ha : Rec a P lo mid) (hb : Rec b Q mid hi) {X : Nat → Nat → Prop} {f : Frag} (hE : ∀ {q r}, f.E q r → a.E q r ∨ b.E q r ∨ X q r) (hX : ∀ {q r}, X q r → r < mid → False) (hK : ∀ {q c}, f.K q c → a.K q c ∨ b.K q c) {q q' : Nat} {s : List Nat} (v : Walk f q s q') :
  q < mid → q' < mid → Walk a q s q' := by
 have back : ∀ {q q' : Nat} {s : List Nat}, Walk f q s q' → mid ≤ q → (∀ {q r}, X q r → mid ≤ r) → mid ≤ q' := by
  intro q q' s v
  induction v with
  | nil => exact fun h _ => h
  | cons e k _ ih =>
   intro hq hx
   rcases hE e with h | h | h
   ·have := (ha.E h).1
    omega
   ·exact ih (hb.E h).2.1 hx
   ·exact ih (hx h) hx
 have hx2 : ∀ {q r}, X q r → mid ≤ r := fun h => Nat.le_of_not_lt fun h2 => hX h h2
 induction v with
 | nil => exact fun _ _ => .nil
 | cons e k w ih =>
  intro h1 h2
  rcases hE e with h | h | h
  ·refine .cons h ?_ (ih (ha.E h).2.2 h2)
   rcases hK k with k | k
   ·exact k
   ·have := hb.K k
    have := (ha.E h).2
    omega
  ·have := (hb.E h).1
   omega
  ·have := back w (hx2 h) hx2
   omega
theorem Walk.right (ha : Rec a P lo mid) (hb : Rec b Q mid hi) {X : Nat → Nat → Prop} {f : Frag} (hE : ∀ {q r}, f.E q r → a.E q r ∨ b.E q r ∨ X q r) (hX : ∀ {q r}, X q r → q < mid) (hK : ∀ {q c}, f.K q c → a.K q c ∨ b.K q c) {q q' : Nat} {s : List Nat} (v : Walk f q s q') :
  mid ≤ q → Walk b q s q' ∧ mid ≤ q' := by
 induction v with
 | nil => exact fun h => ⟨.nil, h⟩
 | cons e k w ih =>
  intro h1
  rcases hE e with h | h | h
  ·have := (ha.E h).1
   omega
  ·obtain ⟨i1, i2⟩ := ih (hb.E h).2.1
   refine ⟨.cons h ?_ i1, i2⟩
   rcases hK k with k | k
   ·have := ha.K k
    have := (hb.E h).2
    omega
   ·exact k
  ·have := hX h
   omega
theorem alt_rec (ha : Rec a P lo mid) (hb : Rec b Q mid hi) : Rec (altF a b) (fun s => P s ∨ Q s) lo hi := by
 have l1 := ha.le
 have l2 := hb.le
 refine ⟨?_, ⟨?_, ?_⟩, by omega, fun h => ?_, fun h => ?_, fun h => ?_, fun h => ?_⟩
 ·show (a.e || b.e) = true ↔ _
  rw [Bool.or_eq_true, ha.e, hb.e]
 ·rintro ⟨q, q', h1, h2, h3, v⟩
  rcases h1 with h1 | h1
  ·have hq := ha.F h1
   have hq' : q' < mid := by
    rcases h3 with h3 | h3
    ·exact (ha.L h3).2
    ·apply Nat.lt_of_not_le
     intro hh
     have : ∀ {q q' : Nat} {s : List Nat}, Walk (altF a b) q s q' → q < mid → q' < mid := by
      intro q q' s v
      induction v with
      | nil => exact fun h => h
      | cons e k w ih =>
       intro h
       rcases e with e | e
       ·exact ih (ha.E e).2.2
       ·have := (hb.E e).1
        omega
     have := this v hq.2
     omega
   have v2 := Walk.left ha hb (X := fun _ _ => False) (f := altF a b) (fun e => Or.elim e Or.inl fun e => Or.inr (Or.inl e)) (fun h _ => False.elim h) (fun k => k) v hq.2 hq'
   refine .inl (ha.f.1 ⟨q, q', h1, ?_, ?_, v2⟩)
   ·rcases h2 with h2 | h2
    ·exact h2
    ·have := hb.K h2
     omega
   ·rcases h3 with h3 | h3
    ·exact h3
    ·have := hb.L h3
     omega
  ·have hq := hb.F h1
   obtain ⟨v2, hq'⟩ := Walk.right ha hb (X := fun _ _ => False) (f := altF a b) (fun e => Or.elim e Or.inl fun e => Or.inr (Or.inl e)) (fun h => False.elim h) (fun k => k) v hq.1
   refine .inr (hb.f.1 ⟨q, q', h1, ?_, ?_, v2⟩)
   ·rcases h2 with h2 | h2
    ·have := ha.K h2
     omega
    ·exact h2
   ·rcases h3 with h3 | h3
    ·have := ha.L h3
     omega
    ·exact h3
 ·rintro (h | h)
  ·obtain ⟨q, q', h1, h2, h3, v⟩ := ha.f.2 h
   exact ⟨q, q', Or.inl h1, Or.inl h2, Or.inl h3, v.mono (b := altF a b) (fun h => Or.inl h) (fun h => Or.inl h)⟩
  ·obtain ⟨q, q', h1, h2, h3, v⟩ := hb.f.2 h
   exact ⟨q, q', Or.inr h1, Or.inr h2, Or.inr h3, v.mono (b := altF a b) (fun h => Or.inr h) (fun h => Or.inr h)⟩
 ·rcases h with h | h
  ·have := ha.F h
   omega
  ·have := hb.F h
   omega
 ·rcases h with h | h
  ·have := ha.L h
   omega
  ·have := hb.L h
   omega
 ·rcases h with h | h
  ·have := ha.E h
   omega
  ·have := hb.E h
   omega
 ·rcases h with h | h
  ·have := ha.K h
   omega
  ·have := hb.K h
   omega
end
section
variable {a b : Frag} {P Q : List Nat → Prop} {lo mid hi : Nat} {e0 : Bool}
theorem cat_split (ha : Rec a P lo mid) (hb : Rec b Q mid hi) {q q' : Nat} {s : List Nat} (v : Walk (catF a b) q s q') : q < mid → mid ≤ q' → ∃ s1 c s2 p r, s = s1 ++ c :: s2 ∧ Walk a q s1 p ∧ a.L p ∧ b.F r ∧ b.K r c ∧ Walk b r s2 q' := by
 induction v with
 | nil => intro h1 h2; omega
 | @cons q r q' c s e k w ih =>
  intro h1 h2
  have e' : a.E q r ∨ b.E q r ∨ (a.L q ∧ b.F r) := e
  have k' : a.K r c ∨ b.K r c := k
  rcases e' with e' | e' | ⟨e1, e2⟩
  ·obtain ⟨s1, c', s2, p, r', es, w1, hp, hr, hk, w2⟩ := ih (ha.E e').2.2 h2
   refine ⟨c :: s1, c', s2, p, r', by rw [es]; rfl, .cons e' ?_ w1, hp, hr, hk, w2⟩
   rcases k' with k' | k'
   ·exact k'
   ·have := hb.K k'
    have := (ha.E e').2
    omega
  ·have := (hb.E e').1
   omega
  ·have hr := hb.F e2
   refine ⟨[], c, s, q, r, rfl, .nil, e1, e2, ?_, (Walk.right ha hb (X := fun q r => a.L q ∧ b.F r) (f := catF a b) (fun e => e) (fun h => (ha.L h.1).2) (fun k => k) w hr.1).1⟩
   rcases k' with k' | k'
   ·have := ha.K k'
    omega
   ·exact k'
theorem cat_rec (ha : Rec a P lo mid) (hb : Rec b Q mid hi) : Rec (catF a b) (Cat P Q) lo hi := by
 have l1 := ha.le
 have l2 := hb.le
 refine ⟨?_, ⟨?_, ?_⟩, by omega, fun h => ?_, fun h => ?_, fun h => ?_, fun h => ?_⟩
 ·show (a.e && b.e) = true ↔ _
  rw [Bool.and_eq_true, ha.e, hb.e]
  constructor
  ·exact fun ⟨h1, h2⟩ => ⟨[], [], rfl, h1, h2⟩
  ·rintro ⟨s1, s2, e, h1, h2⟩
   obtain ⟨rfl, rfl⟩ := List.append_eq_nil_iff.1 e.symm
   exact ⟨h1, h2⟩
 ·rintro ⟨q, q', h1, h2, h3, v⟩
  rename_i c s
  have h1' : a.F q ∨ (a.e = true ∧ b.F q) := h1
  have h2' : a.K q c ∨ b.K q c := h2
  have h3' : b.L q' ∨ (b.e = true ∧ a.L q') := h3
  rcases h1' with h1' | ⟨he, h1'⟩
  ·have hq := ha.F h1'
   have hk : a.K q c := by
    rcases h2' with h | h
    ·exact h
    ·have := hb.K h
     omega
   rcases h3' with h3' | ⟨hbe, h3'⟩
   ·obtain ⟨s1, c', s2, p, r, es, w1, hp, hr, hk2, w2⟩ := cat_split ha hb v hq.2 (hb.L h3').1
    refine ⟨c :: s1, c' :: s2, by rw [es]; rfl, ha.f.1 ⟨q, p, h1', hk, hp, w1⟩, hb.f.1 ⟨r, q', hr, hk2, h3', w2⟩⟩
   ·have w := Walk.left ha hb (X := fun q r => a.L q ∧ b.F r) (f := catF a b) (fun e => e) (fun h h2 => by have := hb.F h.2; omega) (fun k => k) v hq.2 (ha.L h3').2
    exact ⟨c :: s, [], (List.append_nil _).symm, ha.f.1 ⟨q, q', h1', hk, h3', w⟩, hb.e.1 hbe⟩
  ·have hq := hb.F h1'
   obtain ⟨w, hq'⟩ := Walk.right ha hb (X := fun q r => a.L q ∧ b.F r) (f := catF a b) (fun e => e) (fun h => (ha.L h.1).2) (fun k => k) v hq.1
   have hk : b.K q c := by
    rcases h2' with h | h
    ·have := ha.K h
     omega
    ·exact h
   rcases h3' with h3' | ⟨_, h3'⟩
   ·exact ⟨[], c :: s, rfl, ha.e.1 he, hb.f.1 ⟨q, q', h1', hk, h3', w⟩⟩
   ·have := ha.L h3'
    omega
 ·rintro ⟨s1, s2, es, hp, hq⟩
  have mb : ∀ {q q' : Nat} {s : List Nat}, Walk b q s q' → Walk (catF a b) q s q' := fun w => Walk.mono (a := b) (b := catF a b) (fun h => Or.inr (Or.inl h)) (fun h => Or.inr h) w
  have ma : ∀ {q q' : Nat} {s : List Nat}, Walk a q s q' → Walk (catF a b) q s q' := fun w => Walk.mono (a := a) (b := catF a b) (fun h => Or.inl h) (fun h => Or.inl h) w
  cases s1 with
  | nil =>
   rw [List.nil_append] at es
   rw [← es] at hq
   obtain ⟨q, q', h1, h2, h3, v⟩ := hb.f.2 hq
   exact ⟨q, q', Or.inr ⟨ha.e.2 hp, h1⟩, Or.inr h2, Or.inl h3, mb v⟩
  | cons c1 s1 =>
   rw [List.cons_append, List.cons.injEq] at es
   obtain ⟨rfl, es⟩ := es
   obtain ⟨q, p, h1, h2, h3, v⟩ := ha.f.2 hp
   cases s2 with
   | nil =>
    rw [List.append_nil] at es
    subst es
    exact ⟨q, p, Or.inl h1, Or.inl h2, Or.inr ⟨hb.e.2 hq, h3⟩, ma v⟩
   | cons c2 s2 =>
    obtain ⟨r, q', g1, g2, g3, w⟩ := hb.f.2 hq
    subst es
    exact ⟨q, q', Or.inl h1, Or.inl h2, Or.inl g3, (ma v).app (Walk.cons (a := catF a b) (Or.inr (Or.inr ⟨h3, g1⟩)) (Or.inr g2) (mb w))⟩
 ·rcases h with h | ⟨_, h⟩
  ·have := ha.F h
   omega
  ·have := hb.F h
   omega
 ·rcases h with h | ⟨_, h⟩
  ·have := hb.L h
   omega
  ·have := ha.L h
   omega
 ·rcases h with h | h | ⟨h, g⟩
  ·have := ha.E h
   omega
  ·have := hb.E h
   omega
  ·have := ha.L h
   have := hb.F g
   omega
 ·rcases h with h | h
  ·have := ha.K h
   omega
  ·have := hb.K h
   omega
theorem plus_nil : Plus P [] ↔ P [] := by
 refine ⟨fun h => ?_, fun h => .one h⟩
 generalize hs : ([] : List Nat) = s at h
 induction h with
 | one h =>
  subst hs
  exact h
 | more h _ _ =>
  obtain ⟨e1, _⟩ := List.append_eq_nil_iff.1 hs.symm
  rw [e1] at h
  rw [← hs]
  exact h
theorem more_parts (ha : Rec a P lo hi) {q q' : Nat} {s : List Nat} (v : Walk (moreF a e0) q s q') : a.L q' → ∃ s1 s2 p, s = s1 ++ s2 ∧ Walk a q s1 p ∧ a.L p ∧ (s2 = [] ∨ Plus P s2) := by
 induction v with
 | nil => exact fun h => ⟨[], [], _, rfl, .nil, h, .inl rfl⟩
 | @cons q r q' c s e k w ih =>
  intro h
  obtain ⟨s1, s2, p, es, w1, hp, h2⟩ := ih h
  have e' : a.E q r ∨ (a.L q ∧ a.F r) := e
  rcases e' with e' | ⟨e1, e2⟩
  ·exact ⟨c :: s1, s2, p, by rw [es]; rfl, .cons e' k w1, hp, h2⟩
  ·have hP := ha.f.1 ⟨r, p, e2, k, hp, w1⟩
   refine ⟨[], c :: s, q, rfl, .nil, e1, .inr ?_⟩
   rw [es]
   rcases h2 with rfl | h2
   ·rw [List.append_nil]
    exact .one hP
   ·exact .more hP h2
theorem more_fits (ha : Rec a P lo hi) {c : Nat} {s : List Nat} : Fits1 (moreF a e0) (c :: s) ↔ Plus P (c :: s) := by
 have ma : ∀ {q q' : Nat} {s : List Nat}, Walk a q s q' → Walk (moreF a e0) q s q' := fun w => Walk.mono (a := a) (b := moreF a e0) (fun h => Or.inl h) (fun h => h) w
 constructor
 ·rintro ⟨q, q', h1, h2, h3, v⟩
  obtain ⟨s1, s2, p, es, w1, hp, h4⟩ := more_parts ha v h3
  have hP := ha.f.1 ⟨q, p, h1, h2, hp, w1⟩
  rw [es]
  rcases h4 with rfl | h4
  ·rw [List.append_nil]
   exact .one hP
  ·exact .more hP h4
 ·intro h
  generalize hs : c :: s = z at h
  induction h generalizing c s with
  | one h =>
   subst hs
   obtain ⟨q, q', h1, h2, h3, v⟩ := ha.f.2 h
   exact ⟨q, q', h1, h2, h3, ma v⟩
  | @more s1 t h m ih =>
   cases s1 with
   | nil => exact ih hs
   | cons c1 s1 =>
    rw [List.cons_append, List.cons.injEq] at hs
    obtain ⟨rfl, rfl⟩ := hs
    obtain ⟨q, p, h1, h2, h3, v⟩ := ha.f.2 h
    cases t with
    | nil =>
     rw [List.append_nil]
     exact ⟨q, p, h1, h2, h3, ma v⟩
    | cons c2 t =>
     obtain ⟨r, q', g1, g2, g3, w⟩ := ih rfl
     exact ⟨q, q', h1, h2, g3, (ma v).app (Walk.cons (a := moreF a e0) (Or.inr ⟨h3, g1⟩) g2 w)⟩
theorem more_rec (ha : Rec a P lo hi) {R : List Nat → Prop} (he : e0 = true ↔ R []) (hR : ∀ {c s}, R (c :: s) ↔ Plus P (c :: s)) : Rec (moreF a e0) R lo hi := by
 refine ⟨he, (more_fits ha).trans hR.symm, ha.le, ha.F, ha.L, fun h => ?_, ha.K⟩
 rcases h with h | ⟨h, g⟩
 ·exact ha.E h
 ·exact ⟨ha.L h, ha.F g⟩
end
mutual
def Lang : Nd → List Nat → Prop
 | .mk op w ks => if op = 2 then (fun s => ∃ c, s = [c] ∧ inW w c = true) else if op = 3 then LCat ks else if op = 4 then LAlt ks else if op = 5 then (fun s => s = [] ∨ Plus (LHead ks) s) else if op = 6 then Plus (LHead ks) else if op = 7 then (fun s => s = [] ∨ LHead ks s) else (fun s => s = [])
def LCat : List Nd → List Nat → Prop
 | [] => fun s => s = []
 | k :: ks => Cat (Lang k) (LCat ks)
def LAlt : List Nd → List Nat → Prop
 | [] => fun _ => False
 | k :: ks => fun s => Lang k s ∨ LAlt ks s
def LHead : List Nd → List Nat → Prop
 | [] => fun s => s = []
 | k :: _ => Lang k
end
mutual
def fragT : Nd → Nat → Frag × Nat
 | .mk op w ks, u => if op = 2 then (setF w u, u + 1) else if op = 3 then catG ks noF u else if op = 4 then altG ks badF u else if op = 5 then (moreF (headG ks u).1 true, (headG ks u).2) else if op = 6 then (moreF (headG ks u).1 (headG ks u).1.e, (headG ks u).2) else if op = 7 then (optF (headG ks u).1, (headG ks u).2) else (noF, u)
def catG : List Nd → Frag → Nat → Frag × Nat
 | [], a, u => (a, u)
 | k :: ks, a, u => catG ks (catF a (fragT k u).1) (fragT k u).2
def altG : List Nd → Frag → Nat → Frag × Nat
 | [], a, u => (a, u)
 | k :: ks, a, u => altG ks (altF a (fragT k u).1) (fragT k u).2
def headG : List Nd → Nat → Frag × Nat
 | [], u => (noF, u)
 | k :: _, u => fragT k u
end
theorem Rec.congr {a : Frag} {P Q : List Nat → Prop} {lo hi : Nat} (h : Rec a P lo hi) (hq : ∀ s, P s ↔ Q s) : Rec a Q lo hi :=
 ⟨h.e.trans (hq _), h.f.trans (hq _), h.le, h.F, h.L, h.E, h.K⟩
theorem cat_assoc {P Q R : List Nat → Prop} (s : List Nat) : Cat (Cat P Q) R s ↔ Cat P (Cat Q R) s := by
 constructor
 ·rintro ⟨_, s3, rfl, ⟨s1, s2, rfl, h1, h2⟩, h3⟩
  exact ⟨s1, s2 ++ s3, List.append_assoc _ _ _, h1, s2, s3, rfl, h2, h3⟩
 ·rintro ⟨s1, _, rfl, h1, s2, s3, rfl, h2, h3⟩
  exact ⟨s1 ++ s2, s3, (List.append_assoc _ _ _).symm, ⟨s1, s2, rfl, h1, h2⟩, h3⟩
theorem cat_nil_left {P : List Nat → Prop} (s : List Nat) : Cat (fun s => s = []) P s ↔ P s := by
 constructor
 ·rintro ⟨_, s2, rfl, rfl, h⟩
  exact h
 ·exact fun h => ⟨[], s, rfl, rfl, h⟩
theorem cat_nil_right {P : List Nat → Prop} (s : List Nat) : Cat P (fun s => s = []) s ↔ P s := by
 constructor
 ·rintro ⟨s1, _, rfl, h, rfl⟩
  rw [List.append_nil]
  exact h
 ·exact fun h => ⟨s, [], (List.append_nil _).symm, h, rfl⟩
mutual
theorem frag_rec : ∀ (t : Nd) (u : Nat), Rec (fragT t u).1 (Lang t) u (fragT t u).2
 | .mk op w ks, u => by
  rw [fragT, Lang]
  by_cases h2 : op = 2
  ·rw [if_pos h2, if_pos h2]
   exact setF_rec
  rw [if_neg h2, if_neg h2]
  by_cases h3 : op = 3
  ·rw [if_pos h3, if_pos h3]
   exact (catG_rec ks (noF_rec u)).congr cat_nil_left
  rw [if_neg h3, if_neg h3]
  by_cases h4 : op = 4
  ·rw [if_pos h4, if_pos h4]
   exact (altG_rec ks (badF_rec u)).congr fun s => ⟨fun h => h.elim (fun h => h.elim) (fun h => h), .inr⟩
  rw [if_neg h4, if_neg h4]
  have hh := headG_rec ks u
  by_cases h5 : op = 5
  ·rw [if_pos h5, if_pos h5]
   exact more_rec hh ⟨fun _ => .inl rfl, fun _ => rfl⟩ ⟨fun h => h.elim (fun h => nomatch h) (fun h => h), .inr⟩
  rw [if_neg h5, if_neg h5]
  by_cases h6 : op = 6
  ·rw [if_pos h6, if_pos h6]
   exact more_rec hh (hh.e.trans plus_nil.symm) .rfl
  rw [if_neg h6, if_neg h6]
  by_cases h7 : op = 7
  ·rw [if_pos h7, if_pos h7]
   exact opt_rec hh
  ·rw [if_neg h7, if_neg h7]
   exact noF_rec u
theorem catG_rec : ∀ (ks : List Nd) {a : Frag} {P : List Nat → Prop} {lo u : Nat}, Rec a P lo u → Rec (catG ks a u).1 (Cat P (LCat ks)) lo (catG ks a u).2
 | [], _, _, _, _, h => by
  rw [catG, LCat]
  exact h.congr fun s => (cat_nil_right s).symm
 | k :: ks, _, _, _, _, h => by
  rw [catG, LCat]
  exact (catG_rec ks (cat_rec h (frag_rec k _))).congr cat_assoc
theorem altG_rec : ∀ (ks : List Nd) {a : Frag} {P : List Nat → Prop} {lo u : Nat}, Rec a P lo u → Rec (altG ks a u).1 (fun s => P s ∨ LAlt ks s) lo (altG ks a u).2
 | [], _, _, _, _, h => by
  rw [altG, LAlt]
  exact h.congr fun s => ⟨.inl, fun h => h.elim (fun h => h) (fun h => h.elim)⟩
 | k :: ks, _, _, _, _, h => by
  rw [altG, LAlt]
  exact (altG_rec ks (alt_rec h (frag_rec k _))).congr fun s => or_assoc
theorem headG_rec : ∀ (ks : List Nd) (u : Nat), Rec (headG ks u).1 (LHead ks) u (headG ks u).2
 | [], u => by
  rw [headG, LHead]
  exact noF_rec u
 | k :: _, u => by
  rw [headG, LHead]
  exact frag_rec k u
end
def bitE (N : Nt) (q r : Nat) : Prop := (N.fo.getD q 0).testBit r = true
def bitK (N : Nt) (r c : Nat) : Prop := (N.ta.getD c 0).testBit r = true
structure Rep (p : Pc) (a : Frag) : Prop where
 e : p.empty = a.e
 F : ∀ q, p.first.testBit q = true ↔ a.F q
 L : ∀ q, p.last.testBit q = true ↔ a.L q
structure RepN (N N' : Nt) (a : Frag) : Prop where
 E : ∀ q r, bitE N' q r ↔ bitE N q r ∨ a.E q r
 K : ∀ r c, c < 256 → (bitK N' r c ↔ bitK N r c ∨ a.K r c)
theorem small_bit {x q : Nat} (h : x < 18446744073709551616) (hq : x.testBit q = true) : q < 64 := by
 apply Nat.lt_of_not_le
 intro hh
 have h1 := Nat.pow_le_pow_right (n := 2) (by decide) hh
 rw [Nat.testBit_lt_two_pow (by omega)] at hq
 cases hq
theorem mapI_getD (g : Nat → Nat → Nat) {l : List Nat} {q : Nat} (h : q < l.length) : (mapI g 0 l).getD q 0 = g q (l.getD q 0) := by
 rw [List.getD_eq_getElem?_getD, List.getD_eq_getElem?_getD, mapI_get, Nat.zero_add, List.getElem?_eq_getElem h]
 rfl
theorem getD_out {l : List Nat} {q : Nat} (h : l.length ≤ q) : l.getD q 0 = 0 := by
 rw [List.getD_eq_getElem?_getD, List.getElem?_eq_none h]
 rfl
theorem follow_bit {N : Nt} (k : NtOk N) {those these : Nat} (ht : those < 18446744073709551616) (q r : Nat) : bitE (N.follow those these) q r ↔ bitE N q r ∨ (those.testBit q = true ∧ these.testBit r = true) := by
 unfold bitE
 show ((mapI (folG those these) 0 N.fo).getD q 0).testBit r = true ↔ _
 by_cases hq : q < 64
 ·rw [mapI_getD _ (by rw [k.fl]; exact hq)]
  unfold folG
  by_cases hb : those.testBit q = true
  ·rw [if_pos hb, Nat.testBit_or, Bool.or_eq_true]
   simp [hb]
  ·rw [if_neg hb]
   simp [hb]
 ·rw [getD_out (by rw [mapI_len, k.fl]; omega), getD_out (by rw [k.fl]; omega), Nat.zero_testBit]
  constructor
  ·exact fun h => nomatch h
  ·rintro (h | ⟨h, _⟩)
   ·exact h
   ·exact absurd (small_bit ht h) hq
theorem place_bit {N : Nt} (k : NtOk N) {w : List Nat} {u : Nat} (hu : u < 64) (r c : Nat) (hc : c < 256) : bitK (N.place w (bitN u)) r c ↔ bitK N r c ∨ (r = u ∧ inW w c = true) := by
 unfold bitK
 show ((mapI (plG w (bitN u)) 0 N.ta).getD c 0).testBit r = true ↔ _
 rw [mapI_getD _ (by rw [k.tl]; exact hc)]
 unfold plG bitN
 rw [if_pos hu]
 by_cases hb : inW w c = true
 ·rw [if_pos hb, Nat.testBit_or, Bool.or_eq_true, Nat.testBit_two_pow, decide_eq_true_eq]
  simp only [hb, and_true]
  exact or_congr .rfl eq_comm
 ·rw [if_neg hb]
  simp [hb]
section
variable {N0 N N1 : Nt} {a b : Frag} {p q : Pc}
theorem RepN.refl (N : Nt) (e : Bool) : RepN N N ⟨e, fun _ => False, fun _ => False, fun _ _ => False, fun _ _ => False⟩ := ⟨fun _ _ => (or_false _).to_iff.symm, fun _ _ _ => (or_false _).to_iff.symm⟩
theorem RepN.cat (k : NtOk N1) (hp : PcOk p) (h1 : RepN N0 N a) (h2 : RepN N N1 b) (rp : Rep p a) (rq : Rep q b) : RepN N0 (N1.follow p.last q.first) (catF a b) := by
 refine ⟨fun x y => ?_, fun x c hc => ?_⟩
 ·rw [follow_bit k hp.l, h2.E, h1.E, rp.L, rq.F]
  show _ ↔ _ ∨ (a.E x y ∨ b.E x y ∨ (a.L x ∧ b.F y))
  rw [or_assoc, or_assoc]
 ·have : bitK (N1.follow p.last q.first) x c ↔ bitK N1 x c := .rfl
  rw [this, h2.K x c hc, h1.K x c hc]
  show _ ↔ _ ∨ (a.K x c ∨ b.K x c)
  rw [or_assoc]
theorem Rep.cat (rp : Rep p a) (rq : Rep q b) : Rep (behN p q) (catF a b) := by
 refine ⟨?_, fun x => ?_, fun x => ?_⟩
 ·show (p.empty && q.empty) = (a.e && b.e)
  rw [rp.e, rq.e]
 ·show (if p.empty = true then p.first ||| q.first else p.first).testBit x = true ↔ a.F x ∨ (a.e = true ∧ b.F x)
  rw [rp.e]
  by_cases h : a.e = true
  ·rw [if_pos h, Nat.testBit_or, Bool.or_eq_true, rp.F, rq.F]
   simp [h]
  ·rw [if_neg h, rp.F]
   simp [h]
 ·show (if q.empty = true then q.last ||| p.last else q.last).testBit x = true ↔ b.L x ∨ (b.e = true ∧ a.L x)
  rw [rq.e]
  by_cases h : b.e = true
  ·rw [if_pos h, Nat.testBit_or, Bool.or_eq_true, rp.L, rq.L]
   simp [h]
  ·rw [if_neg h, rq.L]
   simp [h]
theorem RepN.alt (h1 : RepN N0 N a) (h2 : RepN N N1 b) : RepN N0 N1 (altF a b) := by
 refine ⟨fun x y => ?_, fun x c hc => ?_⟩
 ·rw [h2.E, h1.E]
  show _ ↔ _ ∨ (a.E x y ∨ b.E x y)
  rw [or_assoc]
 ·rw [h2.K x c hc, h1.K x c hc]
  show _ ↔ _ ∨ (a.K x c ∨ b.K x c)
  rw [or_assoc]
theorem Rep.alt (rp : Rep p a) (rq : Rep q b) : Rep (altP p q) (altF a b) := by
 refine ⟨?_, fun x => ?_, fun x => ?_⟩
 ·show (p.empty || q.empty) = (a.e || b.e)
  rw [rp.e, rq.e]
 ·show (p.first ||| q.first).testBit x = true ↔ a.F x ∨ b.F x
  rw [Nat.testBit_or, Bool.or_eq_true, rp.F, rq.F]
 ·show (p.last ||| q.last).testBit x = true ↔ a.L x ∨ b.L x
  rw [Nat.testBit_or, Bool.or_eq_true, rp.L, rq.L]
theorem RepN.more (k : NtOk N) (hp : PcOk p) (h1 : RepN N0 N a) (rp : Rep p a) (e : Bool) : RepN N0 (N.follow p.last p.first) (moreF a e) := by
 refine ⟨fun x y => ?_, fun x c hc => h1.K x c hc⟩
 rw [follow_bit k hp.l, h1.E, rp.L, rp.F]
 show _ ↔ _ ∨ (a.E x y ∨ (a.L x ∧ a.F y))
 rw [or_assoc]
theorem rep_no (e : Bool) : Rep ⟨e, 0, 0⟩ ⟨e, fun _ => False, fun _ => False, fun _ _ => False, fun _ _ => False⟩ := ⟨rfl, fun q => by rw [Nat.zero_testBit]; simp, fun q => by rw [Nat.zero_testBit]; simp⟩
end
structure Reps (N0 : Nt) (x : Pc × Nt × Nat) (y : Frag × Nat) : Prop where
 p : Rep x.1 y.1
 n : RepN N0 x.2.1 y.1
 u : x.2.2 = y.2
mutual
theorem frag_le : ∀ (t : Nd) (u : Nat), u ≤ (fragT t u).2
 | t, u => (frag_rec t u).le
theorem catG_le : ∀ (ks : List Nd) (a : Frag) (u : Nat), u ≤ (catG ks a u).2
 | [], _, _ => Nat.le_refl _
 | k :: ks, _, u => Nat.le_trans (frag_le k u) (catG_le ks _ _)
theorem altG_le : ∀ (ks : List Nd) (a : Frag) (u : Nat), u ≤ (altG ks a u).2
 | [], _, _ => Nat.le_refl _
 | k :: ks, _, u => Nat.le_trans (frag_le k u) (altG_le ks _ _)
end
mutual
theorem piece_rep : ∀ (t : Nd) {N : Nt} {u : Nat}, NtOk N → (fragT t u).2 ≤ 64 → Reps N (pieceN t N u) (fragT t u)
 | .mk op w ks, N, u, k, h => by
  rw [fragT] at h
  rw [pieceN, fragT]
  by_cases h2 : op = 2
  ·rw [if_pos h2] at h
   rw [if_pos h2, if_pos h2]
   have hu : u < 64 := h
   refine ⟨⟨rfl, fun q => ?_, fun q => ?_⟩, ⟨fun q r => ?_, fun r c hc => place_bit k hu r c hc⟩, rfl⟩
   ·show (bitN u).testBit q = true ↔ q = u
    unfold bitN
    rw [if_pos hu, Nat.testBit_two_pow, decide_eq_true_eq]
    exact eq_comm
   ·show (bitN u).testBit q = true ↔ q = u
    unfold bitN
    rw [if_pos hu, Nat.testBit_two_pow, decide_eq_true_eq]
    exact eq_comm
   ·exact (or_false _).to_iff.symm
  rw [if_neg h2] at h
  rw [if_neg h2, if_neg h2]
  by_cases h3 : op = 3
  ·rw [if_pos h3] at h
   rw [if_pos h3, if_pos h3]
   exact catN_rep ks k noPc_ok (rep_no true) (RepN.refl N true) h
  rw [if_neg h3] at h
  rw [if_neg h3, if_neg h3]
  by_cases h4 : op = 4
  ·rw [if_pos h4] at h
   rw [if_pos h4, if_pos h4]
   exact altN_rep ks k (rep_no false) (RepN.refl N false) h
  rw [if_neg h4] at h
  rw [if_neg h4, if_neg h4]
  have hk := headN_ok ks (u := u) k
  by_cases h5 : op = 5
  ·subst h5
   rw [if_pos rfl] at h
   rw [if_pos (.inl rfl), if_pos rfl]
   have r := headN_rep ks k h
   refine ⟨⟨?_, r.p.F, r.p.L⟩, r.n.more hk.n hk.p r.p true, r.u⟩
   show ((headN ks N u).1.empty || true) = true
   rw [Bool.or_true]
  rw [if_neg h5] at h
  by_cases h6 : op = 6
  ·subst h6
   rw [if_pos rfl] at h
   rw [if_pos (.inr rfl), if_neg h5, if_pos rfl]
   have r := headN_rep ks k h
   refine ⟨⟨?_, r.p.F, r.p.L⟩, r.n.more hk.n hk.p r.p _, r.u⟩
   show ((headN ks N u).1.empty || false) = _
   rw [Bool.or_false]
   exact r.p.e
  rw [if_neg h6] at h
  rw [if_neg (fun hh => hh.elim h5 h6), if_neg h5, if_neg h6]
  by_cases h7 : op = 7
  ·rw [if_pos h7] at h
   rw [if_pos h7, if_pos h7]
   have r := headN_rep ks k h
   exact ⟨⟨rfl, r.p.F, r.p.L⟩, ⟨r.n.E, r.n.K⟩, r.u⟩
  ·rw [if_neg h7, if_neg h7]
   exact ⟨rep_no true, RepN.refl N true, rfl⟩
theorem catN_rep : ∀ (ks : List Nd) {N0 N : Nt} {p : Pc} {a : Frag} {u : Nat}, NtOk N → PcOk p → Rep p a → RepN N0 N a → (catG ks a u).2 ≤ 64 → Reps N0 (catN ks p N u) (catG ks a u)
 | [], _, _, _, _, _, _, _, rp, rn, _ => ⟨rp, rn, rfl⟩
 | k :: ks, N0, N, p, a, u, hN, hp, rp, rn, h => by
  rw [catG] at h
  rw [catN, catG]
  have r := piece_rep k hN (Nat.le_trans (catG_le ks _ _) h)
  have o := pieceN_ok k (u := u) hN
  have := catN_rep ks (N0 := N0) (u := (fragT k u).2) (o.n.follow (those := p.last) o.p.f) (behN_ok hp o.p) (rp.cat r.p) (RepN.cat o.n hp rn r.n rp r.p) h
  rw [r.u]
  exact this
theorem altN_rep : ∀ (ks : List Nd) {N0 N : Nt} {p : Pc} {a : Frag} {u : Nat}, NtOk N → Rep p a → RepN N0 N a → (altG ks a u).2 ≤ 64 → Reps N0 (altN ks p N u) (altG ks a u)
 | [], _, _, _, _, _, _, rp, rn, _ => ⟨rp, rn, rfl⟩
 | k :: ks, N0, N, p, a, u, hN, rp, rn, h => by
  rw [altG] at h
  rw [altN, altG]
  have r := piece_rep k hN (Nat.le_trans (altG_le ks _ _) h)
  have o := pieceN_ok k (u := u) hN
  have := altN_rep ks (N0 := N0) (u := (fragT k u).2) o.n (rp.alt r.p) (rn.alt r.n) h
  rw [r.u]
  exact this
theorem headN_rep : ∀ (ks : List Nd) {N : Nt} {u : Nat}, NtOk N → (headG ks u).2 ≤ 64 → Reps N (headN ks N u) (headG ks u)
 | [], N, _, _, _ => ⟨rep_no true, RepN.refl N true, rfl⟩
 | k :: _, _, _, hN, h => by
  rw [headG] at h
  rw [headN, headG]
  exact piece_rep k hN h
end
end Go.Proofs.YtakhljnkmbpmpaaDoor
namespace Go.Proofs.YtakhljnkmbpmpaaDoor
open Go.RowKit Abs
theorem and_ne {x y : Nat} : x &&& y ≠ 0 ↔ ∃ r, x.testBit r = true ∧ y.testBit r = true := by
 constructor
 ·intro h
  apply Classical.byContradiction
  intro hn
  refine h (Nat.eq_of_testBit_eq fun i => ?_)
  rw [Nat.zero_testBit, Nat.testBit_and]
  cases hx : x.testBit i with
  | false => rfl
  | true =>
   cases hy : y.testBit i with
   | false => rfl
   | true => exact absurd ⟨i, hx, hy⟩ hn
 ·rintro ⟨r, h1, h2⟩ h
  have := congrArg (fun z => z.testBit r) h
  rw [Nat.testBit_and, h1, h2, Nat.zero_testBit] at this
  cases this
theorem ahead_bit (fo : List Nat) (these q : Nat) : ∀ i, (aheadF fo these i).testBit q = true ↔ q < i ∧ ∃ r, (fo.getD q 0).testBit r = true ∧ these.testBit r = true
 | 0 => by
  rw [aheadF, Nat.zero_testBit]
  simp
 | i + 1 => by
  rw [aheadF]
  by_cases hz : fo.getD i 0 &&& these ≠ 0
  ·rw [if_pos hz, Nat.testBit_or, Bool.or_eq_true, ahead_bit fo these q i, Nat.testBit_two_pow, decide_eq_true_eq]
   constructor
   ·rintro (⟨h, h2⟩ | rfl)
    ·exact ⟨by omega, h2⟩
    ·exact ⟨by omega, and_ne.1 hz⟩
   ·rintro ⟨h, h2⟩
    by_cases hq : q = i
    ·exact .inr hq.symm
    ·exact .inl ⟨by omega, h2⟩
  ·rw [if_neg hz, ahead_bit fo these q i]
   constructor
   ·exact fun ⟨h, h2⟩ => ⟨by omega, h2⟩
   ·rintro ⟨h, h2⟩
    by_cases hq : q = i
    ·subst hq
     exact absurd (and_ne.2 h2) hz
    ·exact ⟨by omega, h2⟩
theorem orF_bit (ta : List Nat) (q : Nat) : ∀ i, (orF ta i).testBit q = true ↔ ∃ c, c < i ∧ (ta.getD c 0).testBit q = true
 | 0 => by
  rw [orF, Nat.zero_testBit]
  simp
 | i + 1 => by
  rw [orF, Nat.testBit_or, Bool.or_eq_true, orF_bit ta q i]
  constructor
  ·rintro (⟨c, h, h2⟩ | h)
   ·exact ⟨c, by omega, h2⟩
   ·exact ⟨i, by omega, h⟩
  ·rintro ⟨c, h, h2⟩
   by_cases hc : c = i
   ·subst hc
    exact .inr h2
   ·exact .inl ⟨c, by omega, h2⟩
theorem live_fix (fo : List Nat) (sm : Nat) : ∀ (f live more : Nat), (if more = 0 then 0 else 18446744073709551616 - live) < f → live < 18446744073709551616 → (more = 0 → moreN fo sm live = 0) → moreN fo sm (liveF fo sm f live more) = 0 ∧ ∀ q, live.testBit q = true → (liveF fo sm f live more).testBit q = true
 | 0, _, _, h, _, _ => by omega
 | f + 1, live, more, h, hl, h0 => by
  rw [liveF]
  by_cases hm : more = 0
  ·rw [if_pos hm]
   exact ⟨h0 hm, fun _ h => h⟩
  ·rw [if_neg hm] at h
   rw [if_neg hm]
   have hup : moreN fo sm live ≠ 0 → live < live ||| moreN fo sm live := more_up
   have hs := or_small hl (moreN_small fo sm live)
   obtain ⟨i1, i2⟩ := live_fix fo sm f (live ||| moreN fo sm live) (moreN fo sm live) (by
    split
    ·omega
    ·have := hup (by assumption)
     omega) hs (fun e => by rw [e, Nat.or_zero]; exact e)
   exact ⟨i1, fun q hq => i2 q (by rw [Nat.testBit_or, hq]; rfl)⟩
def netF (N : Nt) : Frag := ⟨N.empty, fun q => N.first.testBit q = true, fun q => N.last.testBit q = true, bitE N, bitK N⟩
def someB (N : Nt) (q : Nat) : Prop := ∃ c, c < 256 ∧ bitK N q c
section
variable {N : Nt} (k : NtOk N)
include k
theorem live_all : moreN N.fo (orF N.ta 256) N.live = 0 ∧ ∀ q, (N.last &&& orF N.ta 256).testBit q = true → N.live.testBit q = true := by
 refine live_fix N.fo (orF N.ta 256) 18446744073709551620 _ _ (by split <;> omega) (and_small k.l) fun e => ?_
 rw [e]
 refine Nat.eq_of_testBit_eq fun i => ?_
 rw [Nat.zero_testBit]
 cases hb : (moreN N.fo (orF N.ta 256) 0).testBit i with
 | false => rfl
 | true =>
  unfold moreN at hb
  rw [lack_bit, Nat.testBit_and, Bool.and_eq_true, Bool.and_eq_true, ahead_bit] at hb
  obtain ⟨⟨⟨_, r, _, h⟩, _⟩, _⟩ := hb
  rw [Nat.zero_testBit] at h
  cases h
theorem live_last {q : Nat} (h : N.last.testBit q = true) (hs : someB N q) : N.live.testBit q = true := by
 refine (live_all k).2 q ?_
 rw [Nat.testBit_and, h, (orF_bit N.ta q 256).2 hs]
 rfl
theorem live_back {q r : Nat} (h : bitE N q r) (hr : N.live.testBit r = true) (hs : someB N q) : N.live.testBit q = true := by
 have hq : q < 64 := by
  apply Nat.lt_of_not_le
  intro hh
  unfold bitE at h
  rw [getD_out (by rw [k.fl]; exact hh), Nat.zero_testBit] at h
  cases h
 cases hb : N.live.testBit q with
 | true => rfl
 | false =>
  have e := congrArg (fun z => z.testBit q) (live_all k).1
  unfold moreN at e
  rw [lack_bit, Nat.testBit_and, (ahead_bit _ _ _ _).2 ⟨hq, r, h, hr⟩, (orF_bit N.ta q 256).2 hs, hb, Nat.zero_testBit] at e
  cases e
theorem trim_K {q c : Nat} (hc : c < 256) : bitK N.trim q c ↔ bitK N q c ∧ N.live.testBit q = true := by
 unfold bitK
 show ((mapI (cutG N.live) 0 N.ta).getD c 0).testBit q = true ↔ _
 rw [mapI_getD _ (by rw [k.tl]; exact hc)]
 unfold cutG
 rw [Nat.testBit_and, Bool.and_eq_true]
theorem walk_live {q q' : Nat} {s : List Nat} (w : Walk (netF N) q s q') : (∀ c ∈ s, c < 256) → N.last.testBit q' = true → someB N q → N.live.testBit q = true ∧ Walk (netF N.trim) q s q' := by
 induction w with
 | nil => exact fun _ hl hs => ⟨live_last k hl hs, .nil⟩
 | @cons q r q' c s e kk w ih =>
  intro hc hl hs
  have h1 := hc c List.mem_cons_self
  obtain ⟨i1, i2⟩ := ih (fun c h => hc c (List.mem_cons_of_mem _ h)) hl ⟨c, h1, kk⟩
  exact ⟨live_back k e i1 hs, Walk.cons (a := netF N.trim) e ((trim_K k h1).2 ⟨kk, i1⟩) i2⟩
theorem walk_raw {q q' : Nat} {s : List Nat} (w : Walk (netF N.trim) q s q') : (∀ c ∈ s, c < 256) → Walk (netF N) q s q' := by
 induction w with
 | nil => exact fun _ => .nil
 | @cons q r q' c s e kk w ih => exact fun hc => Walk.cons (a := netF N) e ((trim_K k (hc c List.mem_cons_self)).1 kk).1 (ih fun c h => hc c (List.mem_cons_of_mem _ h))
theorem trim_fits {s : List Nat} (hc : ∀ c ∈ s, c < 256) : Fits1 (netF N.trim) s ↔ Fits1 (netF N) s := by
 cases s with
 | nil => exact .rfl
 | cons c s =>
  have h1 := hc c List.mem_cons_self
  have h2 := fun c h => hc c (List.mem_cons_of_mem _ h)
  constructor
  ·rintro ⟨q, q', g1, g2, g3, w⟩
   have g1' : (N.first &&& N.live).testBit q = true := g1
   rw [Nat.testBit_and, Bool.and_eq_true] at g1'
   exact ⟨q, q', g1'.1, ((trim_K k h1).1 g2).1, g3, walk_raw k w h2⟩
  ·rintro ⟨q, q', g1, g2, g3, w⟩
   obtain ⟨i1, i2⟩ := walk_live k w h2 g3 ⟨c, h1, g2⟩
   refine ⟨q, q', ?_, (trim_K k h1).2 ⟨g2, i1⟩, g3, i2⟩
   show (N.first &&& N.live).testBit q = true
   rw [Nat.testBit_and, Bool.and_eq_true]
   exact ⟨g1, i1⟩
theorem run_bit (s : Bytes) : ∀ {m : Nat}, m < 18446744073709551616 → ∀ q, (runN N (true, m) s).2.testBit q = true ↔ ∃ q0, m.testBit q0 = true ∧ Walk (netF N) q0 (s.map UInt8.toNat) q := by
 induction s with
 | nil =>
  intro m _ q
  constructor
  ·exact fun h => ⟨q, h, .nil⟩
  ·rintro ⟨q0, h, w⟩
   cases w
   exact h
 | cons c s ih =>
  intro m hm q
  have hs := step_small k (true, m) c.toNat
  have he : stepN N (true, m) c.toNat = (true, N.behind m &&& N.ta.getD c.toNat 0) := by
   unfold stepN
   rw [if_pos rfl]
  rw [he] at hs
  have hr : runN N (true, m) (c :: s) = runN N (true, N.behind m &&& N.ta.getD c.toNat 0) s := by
   rw [← he]
   unfold runN
   rw [List.foldl_cons]
  rw [hr, ih hs q]
  constructor
  ·rintro ⟨r, h, w⟩
   rw [Nat.testBit_and, Bool.and_eq_true, behind_bit hm] at h
   obtain ⟨⟨q0, g1, g2⟩, g3⟩ := h
   exact ⟨q0, g1, Walk.cons (a := netF N) g2 g3 w⟩
  ·rintro ⟨q0, h, w⟩
   cases w with
   | @cons _ r _ _ _ e kk w =>
    refine ⟨r, ?_, w⟩
    rw [Nat.testBit_and, Bool.and_eq_true, behind_bit hm]
    exact ⟨⟨q0, h, e⟩, kk⟩
theorem match_fits (c : UInt8) (s : Bytes) : matchN N (c :: s) = true ↔ Fits1 (netF N) ((c :: s).map UInt8.toNat) := by
 have hs : N.first &&& N.ta.getD c.toNat 0 < 18446744073709551616 := and_small k.f
 have hb : (runN N (true, N.first &&& N.ta.getD c.toNat 0) s).1 = true := by
  have : ∀ (s : Bytes) (m : Nat), (runN N (true, m) s).1 = true := by
   intro s
   induction s with
   | nil => exact fun _ => rfl
   | cons c s ih => exact fun m => ih _
  exact this s _
 show doneN N (runN N (true, N.first &&& N.ta.getD c.toNat 0) s) = true ↔ _
 unfold doneN
 rw [if_pos hb, decide_eq_true_eq, and_ne]
 constructor
 ·rintro ⟨q', h1, h2⟩
  obtain ⟨q, g1, w⟩ := (run_bit k s hs q').1 h1
  rw [Nat.testBit_and, Bool.and_eq_true] at g1
  exact ⟨q, q', g1.1, g1.2, h2, w⟩
 ·rintro ⟨q, q', g1, g2, g3, w⟩
  refine ⟨q', (run_bit k s hs q').2 ⟨q, ?_, w⟩, g3⟩
  rw [Nat.testBit_and, Bool.and_eq_true]
  exact ⟨g1, g2⟩
end
theorem zero_getD {n i : Nat} : (List.replicate n 0).getD i 0 = 0 := by
 rw [List.getD_eq_getElem?_getD, List.getElem?_replicate]
 split <;> rfl
theorem raw_rep {t : Nd} (h : (fragT t 0).2 ≤ 64) : Rep (pieceN t zeroNet 0).1 (fragT t 0).1 ∧ (∀ q r, bitE (rawOf t) q r ↔ (fragT t 0).1.E q r) ∧ (∀ r c, c < 256 → (bitK (rawOf t) r c ↔ (fragT t 0).1.K r c)) := by
 have r := piece_rep t zeroNet_ok h
 refine ⟨r.p, fun q x => (r.n.E q x).trans ⟨fun h => h.elim (fun h => ?_) (fun h => h), .inr⟩, fun x c hc => (r.n.K x c hc).trans ⟨fun h => h.elim (fun h => ?_) (fun h => h), .inr⟩⟩
 ·unfold bitE at h
  rw [show zeroNet.fo = List.replicate 64 0 from rfl, zero_getD, Nat.zero_testBit] at h
  cases h
 ·unfold bitK at h
  rw [show zeroNet.ta = List.replicate 256 0 from rfl, zero_getD, Nat.zero_testBit] at h
  cases h
theorem raw_fits {t : Nd} (h : (fragT t 0).2 ≤ 64) {s : List Nat} (hc : ∀ c ∈ s, c < 256) : Fits1 (netF (rawOf t)) s ↔ Fits1 (fragT t 0).1 s := by
 obtain ⟨r1, r2, r3⟩ := raw_rep h
 have w1 : ∀ {q q' : Nat} {s : List Nat}, Walk (netF (rawOf t)) q s q' → (∀ c ∈ s, c < 256) → Walk (fragT t 0).1 q s q' := by
  intro q q' s w
  induction w with
  | nil => exact fun _ => .nil
  | cons e kk _ ih => exact fun hc => .cons ((r2 _ _).1 e) ((r3 _ _ (hc _ List.mem_cons_self)).1 kk) (ih fun c h => hc c (List.mem_cons_of_mem _ h))
 have w2 : ∀ {q q' : Nat} {s : List Nat}, Walk (fragT t 0).1 q s q' → (∀ c ∈ s, c < 256) → Walk (netF (rawOf t)) q s q' := by
  intro q q' s w
  induction w with
  | nil => exact fun _ => .nil
  | cons e kk _ ih => exact fun hc => Walk.cons (a := netF (rawOf t)) ((r2 _ _).2 e) ((r3 _ _ (hc _ List.mem_cons_self)).2 kk) (ih fun c h => hc c (List.mem_cons_of_mem _ h))
 cases s with
 | nil => exact .rfl
 | cons c s =>
  have h1 := hc c List.mem_cons_self
  have h2 := fun c h => hc c (List.mem_cons_of_mem _ h)
  constructor
  ·rintro ⟨q, q', g1, g2, g3, w⟩
   exact ⟨q, q', (r1.F q).1 g1, (r3 _ _ h1).1 g2, (r1.L q').1 g3, w1 w h2⟩
  ·rintro ⟨q, q', g1, g2, g3, w⟩
   exact ⟨q, q', (r1.F q).2 g1, (r3 _ _ h1).2 g2, (r1.L q').2 g3, w2 w h2⟩
theorem match_lang {t : Nd} (h : (fragT t 0).2 ≤ 64) (s : Bytes) : matchN (netOf t) s = true ↔ Lang t (s.map UInt8.toNat) := by
 have fr := frag_rec t 0
 cases s with
 | nil =>
  have e : matchN (netOf t) [] = (fragT t 0).1.e := (raw_rep h).1.e
  rw [e]
  exact fr.e
 | cons c s =>
  have hc : ∀ x ∈ (c :: s).map UInt8.toNat, x < 256 := fun x hx => by
   obtain ⟨y, _, rfl⟩ := List.mem_map.1 hx
   exact y.toNat_lt
  rw [match_fits (netOf_ok t) c s]
  exact (trim_fits (rawOf_ok t) hc).trans ((raw_fits h hc).trans fr.f)
theorem at?_app (pre rest : Bytes) (i : Nat) : at? (pre ++ rest) (pre.length + i) = (rest[i]?).map UInt8.toNat := by
 unfold at?
 rw [List.getElem?_append_right (by omega), show pre.length + i - pre.length = i by omega]
mutual
def cntN : Nd → Nat
 | .mk op _ ks => if op = 2 then 1 else cntL ks
def cntL : List Nd → Nat
 | [] => 0
 | k :: ks => cntN k + cntL ks
end
mutual
theorem frag_cnt : ∀ (t : Nd) (u : Nat), (fragT t u).2 ≤ u + cntN t
 | .mk op w ks, u => by
  rw [fragT, cntN]
  have h1 := catG_cnt ks noF u
  have h2 := altG_cnt ks badF u
  have h3 := headG_cnt ks u
  by_cases e2 : op = 2
  ·rw [if_pos e2, if_pos e2]
   exact Nat.le_refl _
  rw [if_neg e2, if_neg e2]
  split
  ·exact h1
  split
  ·exact h2
  split
  ·exact h3
  split
  ·exact h3
  split
  ·exact h3
  ·exact Nat.le_add_right _ _
theorem catG_cnt : ∀ (ks : List Nd) (a : Frag) (u : Nat), (catG ks a u).2 ≤ u + cntL ks
 | [], _, _ => Nat.le_refl _
 | k :: ks, a, u => by
  have h1 := frag_cnt k u
  have h2 := catG_cnt ks (catF a (fragT k u).1) (fragT k u).2
  rw [catG, cntL]
  omega
theorem altG_cnt : ∀ (ks : List Nd) (a : Frag) (u : Nat), (altG ks a u).2 ≤ u + cntL ks
 | [], _, _ => Nat.le_refl _
 | k :: ks, a, u => by
  have h1 := frag_cnt k u
  have h2 := altG_cnt ks (altF a (fragT k u).1) (fragT k u).2
  rw [altG, cntL]
  omega
theorem headG_cnt : ∀ (ks : List Nd) (u : Nat), (headG ks u).2 ≤ u + cntL ks
 | [], _ => Nat.le_refl _
 | k :: ks, u => by
  have h1 := frag_cnt k u
  rw [headG, cntL]
  omega
end
theorem joinN_cnt {op : Nat} (ho : op ≠ 2) : ∀ l : List Nd, cntN (joinN op l) ≤ cntL l
 | [] => by
  show (if 1 = 2 then 1 else cntL []) ≤ _
  exact Nat.le_refl _
 | [t] => Nat.le_add_right _ _
 | a :: b :: l => by
  show (if op = 2 then 1 else cntL (a :: b :: l)) ≤ _
  rw [if_neg ho]
  exact Nat.le_refl _
theorem of_tree {k : Int} {u : Bytes} {t : Nd} {n d : Nat} (hk : k = 1 ∨ k = 2 ∨ k = 3) (hu : u.length ≤ 64) (ht : ∀ r, TreeP u k r → r = .ok t) (hn : 18446744073709551620 < n) (hd : 1000 ≤ d) {h : AHeap} (hx : memB TNode h.ex = false) : ∃ nb h', world n (d + 1) 12 [.agg [.int .i64 k, strA u]] h = some (.ret (.tup [.ptr nb 0, .int .i64 0]), h') ∧ Abs.Mem [] h h' [(nb, TNet, netC (netOf t))] := by
 obtain ⟨D, rfl⟩ : ∃ D, d = D + 3 := ⟨d - 3, by omega⟩
 obtain ⟨r, r1, _, r3⟩ := (tree_kinds (u := u) (by omega) hk).2 hu
 obtain rfl := ht r r1
 have hz := treeP_small r1
 exact of_ok (treeP_oneK r1) (by omega) (by omega) hn (fun h hx => r3 (by omega) (by omega) hx) hx
section
variable {a u : Bytes} {k : Nat}
structure LiesIn (a u : Bytes) (k : Nat) : Prop where
 same : ∀ i, i < a.length → at? u (k + i) = at? a i
 stop : at? u (k + a.length) = some 41
theorem LiesIn.some (s : LiesIn a u k) {i c : Nat} (h : at? a i = some c) : at? u (k + i) = some c := by
 obtain ⟨hp, _⟩ := at?_some h
 rw [s.same i hp, h]
theorem LiesIn.ne (s : LiesIn a u k) {i c : Nat} (hi : i ≤ a.length) (hc : c ≠ 41) (h : at? a i ≠ Option.some c) : at? u (k + i) ≠ Option.some c := by
 rcases Nat.lt_or_ge i a.length with h1 | h1
 ·rw [s.same i h1]
  exact h
 ·obtain rfl : i = a.length := by omega
  rw [s.stop]
  intro hh
  cases hh
  exact hc rfl
theorem memB2_in (s : LiesIn a u k) {i c j : Nat} (h : memB2 a i = .ok (c, j)) : memB2 u (k + i) = .ok (c, k + j) := by
 unfold memB2 at h ⊢
 split at h
 ·cases h
 ·rename_i c' hc
  rw [s.some hc]
  dsimp only
  split at h
  ·rename_i h92
   rw [if_pos h92]
   split at h
   ·cases h
   ·rename_i e he
    have := s.some he
    rw [← Nat.add_assoc] at this
    rw [this]
    cases h
    rfl
  ·rename_i h92
   rw [if_neg h92]
   split at h
   ·cases h
   ·rename_i hx
    rw [if_neg hx]
    cases h
    rfl
theorem memberF_in (s : LiesIn a u k) {w w' : List Nat} {i j : Nat} (h : memberF a w i = .ok (w', j)) : memberF u w (k + i) = .ok (w', k + j) := by
 unfold memberF at h ⊢
 split at h
 ·cases h
 ·rename_i c j' h1
  obtain ⟨_, _, hj⟩ := memB2_ok h1
  rw [memB2_in s h1]
  dsimp only
  split at h
  ·rename_i h45
   rw [if_pos (s.some h45)]
   split at h
   ·cases h
   ·rename_i e k' h4
    have := memB2_in s h4
    rw [← Nat.add_assoc] at this
    rw [this]
    dsimp only
    split at h
    ·cases h
    ·rename_i hlt
     rw [if_neg hlt]
     cases h
     rfl
  ·rename_i h45
   rw [if_neg (s.ne hj (by decide) h45)]
   cases h
   rfl
theorem loopP_in (s : LiesIn a u k) {w : List Nat} {j : Nat} {r : Except Nat (List Nat × Nat)} (x : LoopP a w j r) : j ≤ a.length → ∀ w' j', r = .ok (w', j') → LoopP u w (k + j) (.ok (w', k + j')) := by
 induction x with
 | done n =>
  intro hj w' j' e
  cases e
  exact .done (s.some n)
 | bad n h =>
  intro hj w' j' e
  cases e
 | more n h m ih =>
  intro hj w' j' e
  obtain ⟨b1, b2⟩ := memb_ok h
  exact .more (s.ne hj (by decide) n) (memberF_in s h) (ih b2 w' j' e)
theorem setB_in (s : LiesIn a u k) {i : Nat} (hi : i ≤ a.length) : setB u (k + i) = k + setB a i := by
 unfold setB
 by_cases h94 : at? a i = some 94
 ·rw [if_pos h94, if_pos (s.some h94)]
  rfl
 ·rw [if_neg h94, if_neg (s.ne hi (by decide) h94)]
theorem setP_in (s : LiesIn a u k) {i j : Nat} {w : List Nat} (x : SetP a i (.ok (w, j))) (hi : i ≤ a.length) : SetP u (k + i) (.ok (w, k + j)) := by
 obtain ⟨s1, s2⟩ := setB_bnd hi
 generalize hr : Except.ok (w, j) = r at x
 cases x with
 | bad h => cases hr
 | set h m =>
  rename_i w' j' r
  obtain ⟨b1, b2⟩ := memb_ok h
  cases r with
  | error e' => cases hr
  | ok wj =>
   obtain ⟨w2, j2⟩ := wj
   cases hr
   have h2 := memberF_in s h
   rw [← setB_in s hi] at h2
   have h3 := SetP.set h2 (loopP_in s m b2 _ _ rfl)
   have h4 : (at? u (k + i) = some 94) ↔ (at? a i = some 94) := ⟨fun hh => Classical.byContradiction fun hn => s.ne hi (by decide) hn hh, fun hh => s.some hh⟩
   unfold othersR at h3
   simp only [h4] at h3
   exact h3
end
section
variable {a u : Bytes} {k : Nat}
theorem stops_in (s : LiesIn a u k) {i : Nat} (hi : i ≤ a.length) (h : stops a i) : stops u (k + i) := by
 rcases h with h | h | h
 ·have := at?_none h hi
  subst this
  exact .inr (.inr s.stop)
 ·exact .inr (.inl (s.some h))
 ·exact .inr (.inr (s.some h))
theorem nstops_in (s : LiesIn a u k) {i : Nat} (h : ¬ stops a i) : ¬ stops u (k + i) := by
 have hlt : i < a.length := by
  rcases Nat.lt_or_ge i a.length with h1 | h1
  ·exact h1
  ·exact absurd (.inl (at?_ge h1)) h
 unfold stops at h ⊢
 rw [s.same i hlt]
 exact h
theorem signAt_in (s : LiesIn a u k) {j : Nat} (hj : j ≤ a.length) : signAt u (k + j) = signAt a j := by
 unfold signAt
 rcases Nat.lt_or_ge j a.length with h1 | h1
 ·rw [s.same j h1]
 ·obtain rfl : j = a.length := by omega
  rw [s.stop, at?_ge (Nat.le_refl _)]
  rfl
mutual
theorem altP_in (s : LiesIn a u k) : ∀ {l : List Nd} {i : Nat} {r : Res}, AltP a l i r → ∀ t j, r = .ok (t, j) → i ≤ a.length → AltP u l (k + i) (.ok (t, k + j))
 | _, _, _, .bad h, t, j, e, hi => by cases e
 | _, _, _, .last h n, t, j, e, hi => by
  obtain ⟨_, b2⟩ := rowP_bnd h hi
  have h1 := rowP_in s h _ _ rfl hi
  cases e
  exact .last h1 (s.ne b2 (by decide) n)
 | _, _, _, .more h n m, t, j, e, hi => by
  obtain ⟨hp, _⟩ := at?_some n
  have h1 := rowP_in s h _ _ rfl hi
  have h2 := altP_in s m t j e (by omega)
  rw [← Nat.add_assoc] at h2
  exact .more h1 (s.some n) h2
termination_by structural _ _ _ x => x
theorem rowP_in (s : LiesIn a u k) : ∀ {l : List Nd} {i : Nat} {r : Res}, RowP a l i r → ∀ t j, r = .ok (t, j) → i ≤ a.length → RowP u l (k + i) (.ok (t, k + j))
 | _, _, _, .stop h, t, j, e, hi => by
  cases e
  exact .stop (stops_in s hi h)
 | _, _, _, .bad _ h, t, j, e, hi => by cases e
 | _, _, _, .more n h m, t, j, e, hi => by
  obtain ⟨_, b2⟩ := partP_bnd h hi
  exact .more (nstops_in s n) (partP_in s h _ _ rfl hi) (rowP_in s m t j e b2)
termination_by structural _ _ _ x => x
theorem partP_in (s : LiesIn a u k) : ∀ {i : Nat} {r : Res}, PartP a i r → ∀ t j, r = .ok (t, j) → i ≤ a.length → PartP u (k + i) (.ok (t, k + j))
 | _, _, .bad h, t, j, e, hi => by cases e
 | _, _, .bare h n, t, j, e, hi => by
  obtain ⟨_, b2⟩ := atomP_bnd h hi
  have h1 := atomP_in s h _ _ rfl hi
  cases e
  exact .bare h1 (by rw [signAt_in s b2]; exact n)
 | _, _, .sign h n, t, j, e, hi => by
  obtain ⟨_, b2⟩ := atomP_bnd h hi
  have h1 := atomP_in s h _ _ rfl hi
  cases e
  have h2 := PartP.sign h1 (by rw [signAt_in s b2]; exact n)
  rw [signAt_in s b2] at h2
  exact h2
termination_by structural _ _ x => x
theorem atomP_in (s : LiesIn a u k) : ∀ {i : Nat} {r : Res}, AtomP a i r → ∀ t j, r = .ok (t, j) → i ≤ a.length → AtomP u (k + i) (.ok (t, k + j))
 | _, _, .none _, t, j, e, hi => by cases e
 | _, _, .open_bad h m, t, j, e, hi => by cases e
 | _, _, .open_end h m _, t, j, e, hi => by cases e
 | _, _, .group h m n, t, j, e, hi => by
  obtain ⟨hp, _⟩ := at?_some h
  have h1 := altP_in s m _ _ rfl (by omega)
  rw [← Nat.add_assoc] at h1
  cases e
  exact .group (s.some h) h1 (s.some n)
 | _, _, .any h, t, j, e, hi => by
  cases e
  exact .any (s.some h)
 | _, _, .set_bad h m, t, j, e, hi => by cases e
 | _, _, .set h m, t, j, e, hi => by
  obtain ⟨hp, _⟩ := at?_some h
  have h1 := setP_in s m (by omega)
  rw [← Nat.add_assoc] at h1
  cases e
  exact .set (s.some h) h1
 | _, _, .sl_end h _, t, j, e, hi => by cases e
 | _, _, .sl h n, t, j, e, hi => by
  have h1 := s.some n
  rw [← Nat.add_assoc] at h1
  cases e
  exact .sl (s.some h) h1
 | _, _, .bad h _, t, j, e, hi => by cases e
 | _, _, .one h b n, t, j, e, hi => by
  cases e
  exact .one (s.some h) b n
termination_by structural _ _ x => x
end
theorem group_in {pre post : Bytes} {t : Nd} (h : AltP a [] 0 (.ok (t, a.length))) (hu : u = pre ++ (40 :: a ++ 41 :: post)) : AtomP u pre.length (.ok (t, pre.length + a.length + 2)) := by
 subst hu
 have s : LiesIn a (pre ++ (40 :: a ++ 41 :: post)) (pre.length + 1) := by
  refine ⟨fun i hi => ?_, ?_⟩
  ·have := at?_app pre (40 :: a ++ 41 :: post) (i + 1)
   rw [show pre.length + 1 + i = pre.length + (i + 1) by omega, this, List.cons_append, List.getElem?_cons_succ, List.getElem?_append_left hi]
   rfl
  ·have := at?_app pre (40 :: a ++ 41 :: post) (a.length + 1)
   rw [show pre.length + 1 + a.length = pre.length + (a.length + 1) by omega, this, List.cons_append, List.getElem?_cons_succ, List.getElem?_append_right (Nat.le_refl _), Nat.sub_self]
   rfl
 have h0 := at?_app pre (40 :: a ++ 41 :: post) 0
 rw [Nat.add_zero] at h0
 have h1 := altP_in s h _ _ rfl (Nat.zero_le _)
 rw [Nat.add_zero] at h1
 have h2 := AtomP.group (u := pre ++ (40 :: a ++ 41 :: post)) (i := pre.length) h0 h1 s.stop
 rw [show pre.length + 1 + a.length + 1 = pre.length + a.length + 2 by omega] at h2
 exact h2
end
section
variable {a b u : Bytes} {x y : Nd}
theorem re_tree {t : Nd} (h : AltP u [] 0 (.ok (t, u.length))) {r : Except Nat Nd} (k : TreeP u 3 r) : r = .ok t := by
 cases k with
 | re_bad h' => cases altP_one h h'
 | re_end h' n =>
  cases altP_one h h'
  exact absurd rfl n
 | re h' =>
  cases altP_one h h'
  rfl
theorem nstop40 {i : Nat} (h : at? u i = some 40) : ¬ stops u i := by
 unfold stops
 rw [h]
 intro hh
 rcases hh with hh | hh | hh <;> cases hh
theorem stop_end {i : Nat} (h : i = u.length) : stops u i := .inl (at?_ge (by omega))
theorem one_row {i j : Nat} {t : Nd} (h : PartP u i (.ok (t, j))) (n : at? u i = some 40) (e : stops u j) : RowP u [] i (.ok (t, j)) := RowP.more (nstop40 n) h (RowP.stop (l := [] ++ [t]) e)
theorem one_alt {i : Nat} {t : Nd} (h : RowP u [] i (.ok (t, u.length))) : AltP u [] i (.ok (t, u.length)) := AltP.last (l := []) h (by rw [at?_ge (Nat.le_refl _)]; simp)
theorem groups_s {c : UInt8} {op : Nat} (hop : signOp c.toNat = op) (h0 : op ≠ 0) (h : AltP a [] 0 (.ok (x, a.length))) (hu : u = [] ++ (40 :: a ++ 41 :: [c])) {r : Except Nat Nd} (k : TreeP u 3 r) : r = .ok (overN op [x]) := by
 have g := group_in h hu
 have hl : u.length = a.length + 3 := by rw [hu]; simp
 have n0 : at? u 0 = some 40 := by rw [hu]; rfl
 have e : ([] : Bytes).length + a.length + 2 = a.length + 2 := by simp
 rw [e] at g
 have hc : at? u (a.length + 2) = some c.toNat := by
  rw [hu]
  unfold at?
  simp
 have hs : signAt u (a.length + 2) = op := by rw [signAt_some hc, hop]
 have p := PartP.sign g (by rw [hs]; exact h0)
 rw [hs, show a.length + 2 + 1 = u.length by omega] at p
 exact re_tree (one_alt (one_row p n0 (stop_end rfl))) k
end
theorem cntL_snoc : ∀ (l : List Nd) (t : Nd), cntL (l ++ [t]) = cntL l + cntN t
 | [], t => by
  show cntN t + cntL [] = cntL [] + cntN t
  exact Nat.add_comm _ _
 | k :: l, t => by
  rw [List.cons_append, cntL, cntL, cntL_snoc l t, Nat.add_assoc]
theorem over_cnt {op : Nat} (ho : op ≠ 2) (t : Nd) : cntN (overN op [t]) = cntN t := by
 show (if op = 2 then 1 else cntL [t]) = _
 rw [if_neg ho]
 exact Nat.add_zero _
theorem sign_ne2 (u : Bytes) (j : Nat) : signAt u j ≠ 2 := by
 unfold signAt
 split
 ·unfold signOp
  split <;> decide
 ·decide
section
variable {a : Bytes}
mutual
theorem altP_cnt : ∀ {l : List Nd} {i : Nat} {r : Res}, AltP a l i r → ∀ t j, r = .ok (t, j) → i ≤ a.length → cntN t ≤ cntL l + (j - i)
 | _, _, _, .bad _, _, _, e, _ => by cases e
 | l, _, _, .last h _, t, j, e, hi => by
  cases e
  have h1 := rowP_cnt h _ _ rfl hi
  refine Nat.le_trans (joinN_cnt (by decide) _) ?_
  rw [cntL_snoc]
  rw [cntL] at h1
  omega
 | _, _, _, .more h n m, t, j, e, hi => by
  have h1 := rowP_cnt h _ _ rfl hi
  have b1 := rowP_bnd h hi
  have hn := at?_some n
  obtain ⟨hn, _⟩ := hn
  have h3 := altP_cnt m t j e (by omega)
  have b2 := altP_bnd m (by omega)
  subst e
  rw [cntL_snoc] at h3
  rw [cntL] at h1
  have b1' : _ ≤ _ ∧ _ ≤ _ := b1
  have b2' : _ ≤ _ ∧ _ ≤ _ := b2
  omega
termination_by structural _ _ _ x => x
theorem rowP_cnt : ∀ {l : List Nd} {i : Nat} {r : Res}, RowP a l i r → ∀ t j, r = .ok (t, j) → i ≤ a.length → cntN t ≤ cntL l + (j - i)
 | l, _, _, .stop _, t, j, e, _ => by
  cases e
  exact Nat.le_trans (joinN_cnt (by decide) l) (Nat.le_add_right _ _)
 | _, _, _, .bad _ _, _, _, e, _ => by cases e
 | _, _, _, .more _ h m, t, j, e, hi => by
  have h1 := partP_cnt h _ _ rfl hi
  have b1 := partP_bnd h hi
  have b1' : _ ≤ _ ∧ _ ≤ _ := ⟨Nat.le_of_lt b1.1, b1.2⟩
  have h3 := rowP_cnt m t j e b1'.2
  have b2 := rowP_bnd m b1'.2
  subst e
  rw [cntL_snoc] at h3
  have b2' : _ ≤ _ ∧ _ ≤ _ := b2
  omega
termination_by structural _ _ _ x => x
theorem partP_cnt : ∀ {i : Nat} {r : Res}, PartP a i r → ∀ t j, r = .ok (t, j) → i ≤ a.length → cntN t ≤ j - i
 | _, _, .bad _, _, _, e, _ => by cases e
 | _, _, .bare h _, t, j, e, hi => atomP_cnt h t j e hi
 | _, _, .sign h _, t, j, e, hi => by
  cases e
  rw [over_cnt (sign_ne2 _ _)]
  have := atomP_cnt h _ _ rfl hi
  omega
termination_by structural _ _ x => x
theorem atomP_cnt : ∀ {i : Nat} {r : Res}, AtomP a i r → ∀ t j, r = .ok (t, j) → i ≤ a.length → cntN t ≤ j - i
 | _, _, .none _, _, _, e, _ => by cases e
 | _, _, .open_bad _ _, _, _, e, _ => by cases e
 | _, _, .open_end _ _ _, _, _, e, _ => by cases e
 | _, _, .group h m _, t, j, e, hi => by
  cases e
  obtain ⟨hn, _⟩ := at?_some h
  have h1 := altP_cnt m _ _ rfl (by omega)
  rw [cntL] at h1
  omega
 | i, _, .any _, t, j, e, _ => by
  cases e
  show 1 ≤ i + 1 - i
  omega
 | _, _, .set_bad _ _, _, _, e, _ => by cases e
 | i, _, .set h m, t, j, e, hi => by
  cases e
  obtain ⟨hn, _⟩ := at?_some h
  have := setP_okb m (by omega)
  show 1 ≤ _ - i
  omega
 | _, _, .sl_end _ _, _, _, e, _ => by cases e
 | i, _, .sl _ _, t, j, e, _ => by
  cases e
  show 1 ≤ i + 2 - i
  omega
 | _, _, .bad _ _, _, _, e, _ => by cases e
 | i, _, .one _ _ _, t, j, e, _ => by
  cases e
  show 1 ≤ i + 1 - i
  omega
termination_by structural _ _ x => x
end
end
def exT : Nd := .mk 3 zeroW [.mk 6 zeroW [oneN 97], oneN 98]
abbrev exU : Bytes := [97, 43, 98]
set_option maxRecDepth 100000 in
theorem ex_dead : deadN (netOf exT) (stepN (netOf exT) (false, 0) 98) = true := by kernel_rfl
set_option maxRecDepth 100000 in
theorem ex_dead0 : deadN (netOf exT) (false, 0) = false := by kernel_rfl
set_option maxRecDepth 100000 in
theorem ex_done0 : doneN (netOf exT) (false, 0) = false := by kernel_rfl
set_option maxRecDepth 100000 in
theorem ex_aab : matchN (netOf exT) [97, 97, 98] = true := by kernel_rfl
set_option maxRecDepth 100000 in
theorem ex_b : matchN (netOf exT) [98] = false := by kernel_rfl
theorem exStop0 : ¬ stops exU 0 := by unfold stops; decide
theorem exStop2 : ¬ stops exU 2 := by unfold stops; decide
theorem ex_part0 : PartP exU 0 (.ok (.mk 6 zeroW [oneN 97], 2)) := PartP.sign (i := 0) (j := 1) (t := oneN 97) (.one (c := 97) rfl (by unfold badAtom; decide) (by decide)) (by decide)
theorem ex_part2 : PartP exU 2 (.ok (oneN 98, 3)) := PartP.bare (.one (c := 98) rfl (by unfold badAtom; decide) (by decide)) rfl
theorem ex_row : RowP exU [] 0 (.ok (exT, 3)) := .more exStop0 ex_part0 (.more exStop2 ex_part2 (RowP.stop (l := [.mk 6 zeroW [oneN 97], oneN 98]) (i := 3) (.inl rfl)))
theorem ex_alt : AltP exU [] 0 (.ok (exT, 3)) := AltP.last (l := []) (t := exT) ex_row (by decide)
theorem ex_tree {r : Except Nat Nd} (h : TreeP exU 3 r) : r = .ok exT := by
 generalize hk : (3 : Int) = k at h
 cases h with
 | lit a => cases hk
 | glob a => cases hk
 | re_bad a => cases altP_one a ex_alt
 | re_end a n =>
  cases altP_one a ex_alt
  exact absurd rfl n
 | re a =>
  cases altP_one a ex_alt
  rfl
theorem of_ex {n d : Nat} {h : AHeap} (hn : 18446744073709551620 < n) (hd : 1000 ≤ d) (hx : memB TNode h.ex = false) : ∃ nb h', world n (d + 1) 12 [.agg [.int .i64 3, strA exU]] h = some (.ret (.tup [.ptr nb 0, .int .i64 0]), h') ∧ Abs.Mem [] h h' [(nb, TNet, netC (netOf exT))] := by
 obtain ⟨D, rfl⟩ : ∃ D, d = D + 3 := ⟨d - 3, by omega⟩
 obtain ⟨r, r1, _, r3⟩ := (tree_kinds (u := exU) (by decide) (.inr (.inr rfl))).2 (by decide)
 obtain rfl := ex_tree r1
 exact of_ok (treeP_oneK r1) (by have := treeP_small r1; have : exU.length = 3 := rfl; omega) (by have := treeP_small r1; have : exU.length = 3 := rfl; omega) hn (fun h hx => r3 (by omega) (by omega) hx) hx
theorem works_w {n d : Nat} {h : AHeap} (hn : 18446744073709551620 < n) (hd : 1000 ≤ d) (hT : HasTz h) (hx : memB TNode h.ex = false) : world n (d + 2) 11 [] h = some (.ret (.bool true), h) := by
 apply Wp.eq
 rw [w_law10_works]
 refine Wp.gc ?_
 suffices hK : Wp (law10_works (world n (d + 1)) n h) fun r h' => r = .ret (.bool true) ∧ Tch [] h h' from hK.mono fun r h' ⟨e, t⟩ => ⟨t.above, by rw [e]; rfl, e, rfl⟩
 obtain ⟨D, rfl⟩ : ∃ D, d = D + 3 := ⟨d - 3, by omega⟩
 unfold law10_works
 obtain ⟨nb, h1, e1, M1⟩ := of_ex hn hd hx
 have hN := netOf_ok exT
 refine Wp.callN e1 ?_
 repeat (first | (with_reducible refine Wp.join1 (fun _ _ => ?_)) | (with_reducible refine Wp.lett ?_) | ((with_reducible apply Wp.obind); (with_reducible first | exact avInt_int _ _ | exact avBool_bool _ | exact extT_0 _ _ | exact extT_1 _ _ _)) | ((with_reducible refine Wp.iff ?_ ?_); first | (with_reducible rfl) | ((with_reducible apply bne_f); omega)) | ((with_reducible apply Wp.outK); (with_reducible exact eqNet _ _ _)) | (with_reducible refine Wp.go1 (by assumption) ?_))
 obtain ⟨h2, e2, M2⟩ := begin_m (n := n) (d := D + 3) (nb := nb) M1
 refine Wp.callN e2 ?_
 have d0 := done_w (n := n) (d := D + 2) hN (show ((false, 0) : Bool × Nat).2 < _ by decide) M2.at0.1 M2.at1.1
 rw [ex_done0] at d0
 have d1 := dead_w (n := n) (d := D + 2) M2.at0.1 M2.at1.1
 rw [ex_dead0] at d1
 repeat (first | (with_reducible refine Wp.join1 (fun _ _ => ?_)) | ((with_reducible apply Wp.obind); (with_reducible exact avBool_bool _)) | ((with_reducible refine Wp.iff ?_ ?_); (with_reducible rfl)) | ((with_reducible apply Wp.callN); (with_reducible first | exact d0 | exact d1)) | ((with_reducible apply Wp.outK); (with_reducible exact eqRun _ _ _)) | (with_reducible refine Wp.go1 (by assumption) ?_))
 have hne : h1.next ≠ nb := fun e => by
  have := M1.at0.2.1
  omega
 obtain ⟨h3, e3, k3, t3⟩ := step_r (n := n) (d := D + 1) (c := 98) (hT.tch M2.tch (by simp)) hN (show ((false, 0) : Bool × Nat).2 < _ by decide) (by omega) hne (by decide) M2.at0.1 M2.at1.1 M2.at1.2.1
 refine Wp.callN e3 ?_
 have M3 := Mem.upd (xs := []) M2 t3 k3
 simp only [List.nil_append] at M3
 have d2 := dead_w (n := n) (d := D + 2) M3.at0.1 M3.at1.1
 rw [ex_dead] at d2
 repeat (first | (with_reducible refine Wp.join1 (fun _ _ => ?_)) | ((with_reducible apply Wp.obind); (with_reducible exact avBool_bool _)) | ((with_reducible refine Wp.ift ?_ ?_); (with_reducible rfl)) | ((with_reducible apply Wp.callN); (with_reducible exact d2)))
 obtain ⟨h4, e4, t4⟩ := match_r (n := n) (d := D) (s := [97, 97, 98]) (hT.tch M3.tch (by simp)) hN (by omega) (by decide) M3.at1.1 M3.at1.2.1
 rw [ex_aab] at e4
 refine Wp.callN e4 ?_
 have M4 := M3.keep t4
 repeat (first | (with_reducible refine Wp.join1 (fun _ _ => ?_)) | ((with_reducible apply Wp.obind); (with_reducible exact avBool_bool _)) | ((with_reducible refine Wp.ift ?_ ?_); (with_reducible rfl)) | (with_reducible refine Wp.go1 (by assumption) ?_))
 obtain ⟨h5, e5, t5⟩ := match_r (n := n) (d := D) (s := [98]) (hT.tch M4.tch (by simp)) hN (by omega) (by decide) M4.at1.1 M4.at1.2.1
 rw [ex_b] at e5
 refine Wp.callN e5 ?_
 repeat (first | (with_reducible refine Wp.lett ?_) | ((with_reducible apply Wp.obind); (with_reducible exact avBool_bool _)) | (with_reducible refine Wp.go1 (by assumption) ?_))
 exact Wp.ret ⟨rfl, (M4.keep t5).tch⟩
end Go.Proofs.YtakhljnkmbpmpaaDoor
namespace Go.Proofs.YtakhljnkmbpmpaaDoor
open Go.RowKit Abs
section
variable {N : Nt} {n d nb rb : Nat} {h0 : AHeap} {Q : ARes → AHeap → Prop} {ys : List RowT}
end
abbrev tzI64 : List Int := [0, 1, 56, 2, 57, 49, 28, 3, 61, 58, 42, 50, 38, 29, 17, 4, 62, 47, 59, 36, 45, 43, 51, 22, 53, 39, 33, 30, 24, 18, 12, 5, 63, 55, 48, 27, 60, 41, 37, 16, 46, 35, 44, 21, 52, 32, 23, 11, 54, 26, 40, 15, 34, 20, 31, 10, 25, 14, 19, 9, 13, 8, 7, 6]
theorem tzC_ints : tzC = tzI64.map fun z => AV.int .u8 z := by kernel_rfl
noncomputable def tzG : Tabs := [(0, tzI64.map fun z => AV.int .u8 z)]
theorem tz_of {h : AHeap} {X : List Nat} {G : Nat} (hG : 0 < G) (k : Keeps (startG tzG X G) h) : HasTz h :=
 ⟨k.2.2 _ _ (by show (tabTree tzG).get _ = _; unfold tzG tabTree; rw [T.get_set_same, tzC_ints]), Nat.lt_of_lt_of_le hG k.1⟩
noncomputable def law10_re (call : CallF) (_ : Nat) (t0 : Bytes) (h : AHeap) : R :=
 callN (call 12 [.agg ([.int .i64 3, strA t0] : List AV)] h) fun r8 h_3 =>
 obind (extT 0 r8) fun v9 =>
 obind (extT 1 r8) fun v10 =>
 obind (avInt .i64 v10) fun t10 =>
 lett ((t10 : Int) != 0) fun (t12 : Bool) =>
 ifB t12
 (
  some (.ret (AV.nilp), h_3))
 (
  some (.ret (v9), h_3))
set_option maxHeartbeats 4000000 in
set_option maxRecDepth 20000 in
theorem law10_re_ok {call : CallF} (hc : SaysAll Tryd.prog call) {n : Nat} {t0 : Bytes} {h : AHeap} {rR : ARes} {hR : AHeap} (hF : law10_re call n t0 h = some (rR, hR)) : Says Tryd.prog 22 [strA t0] h rR hR := by
 unfold law10_re at hF
 refine sO Tryd.func22 fun w0 m0 => ?_
 refine wW [(0, strA t0)] ?_
 refine oG fun n1 => W.r ?_
 refine oA 2 AV.nilp ?_
 refine oV [(0, strA t0)] (n1 ?_)
 refine oG fun n2 => W.r ?_
 refine oA 6 (strA t0) ?_
 refine oA 7 (.agg ([.int .i64 3, strA t0] : List AV)) ?_
 refine oC hc (some 8) hF fun r8 h_3 hF => ?_
 refine oA 5 r8 ?_
 refine oE 9 hF fun v9 hF => ?_
 refine oEi 10 hF fun t10 hF => ?_
 refine oA 3 v9 ?_
 refine oA 4 (.int .i64 t10) ?_
 refine oV [(3, v9), (4, .int .i64 t10)] (n2 ?_)
 refine oH fun n8 q8 => ?_
 refine oG fun n9 => W.r ?_
 refine oA 11 (.int .i64 t10) ?_
 refine oB 12 hF fun t12 hF => ?_
 refine oV [(3, v9), (12, .bool t12)] (n9 ?_)
 cases t12 with
 | true =>
  refine oT hF fun hF => ?_
  refine oG fun n11 => W.r ?_
  refine oA 2 AV.nilp ?_
  refine oV [(2, AV.nilp)] (n11 (oY (q8 ?_)))
  exact lZ hF [.tmp 2] [AV.nilp] (rT res_nil)
 | false =>
  refine oU hF fun hF => ?_
  refine oZ (n8 ?_)
  refine oG fun n12 => W.r ?_
  refine oA 13 v9 ?_
  refine oA 2 v9 ?_
  refine oV [(2, v9)] (n12 (oY ?_))
  exact lZ hF [.tmp 2] [v9] (rT res_nil)
section
variable {a b : Bytes} {x y : Nd}
theorem re_cnt (h : AltP a [] 0 (.ok (x, a.length))) : cntN x ≤ a.length := by
 have := altP_cnt h _ _ rfl (Nat.zero_le _)
 rw [cntL] at this
 omega
theorem small_of {t : Nd} (h : cntN t ≤ 64) : (fragT t 0).2 ≤ 64 := by
 have := frag_cnt t 0
 omega
end
noncomputable def orC (a b : CallF) : CallF := fun f args h => match a f args h with
 | some r => some r
 | none => b f args h
theorem orC_ok {P : Program} {a b : CallF} (ha : SaysAll P a) (hb : SaysAll P b) : SaysAll P (orC a b) := by
 intro f args h r h' e
 unfold orC at e
 split at e
 ·rename_i r' e2
  cases e
  exact ha _ _ _ _ _ e2
 ·exact hb _ _ _ _ _ e
noncomputable def world2 (n d : Nat) : CallF := orC (callOf [(22, fn1 Ds (law10_re (world n d) n))]) (world n d)
theorem world2_ok (n d : Nat) : SaysAll Tryd.prog (world2 n d) := orC_ok (callOf_cons (fn1_holds Ds (law10_re_ok (world_ok n d))) callOf_nil) (world_ok n d)
theorem w2_re {n d : Nat} {a : Bytes} {h : AHeap} {x : ARes × AHeap} (e : law10_re (world n d) n a h = some x) : world2 n d 22 [strA a] h = some x := by
 have e2 : fn1 Ds (law10_re (world n d) n) [strA a] h = some x := (fn1_eq Ds _ a h).trans e
 show (match fn1 Ds (law10_re (world n d) n) [strA a] h with
  | some r => some r
  | none => _) = some x
 rw [e2]
theorem w2_match (n d : Nat) (args : List AV) (h : AHeap) : world2 n d 14 args h = world n d 14 args h := rfl
theorem w2_works (n d : Nat) (args : List AV) (h : AHeap) : world2 n d 11 args h = world n d 11 args h := rfl
section
variable {n D : Nat} {a : Bytes}
theorem re_bad {h : AHeap} (hb : world n (D + 3 + 1) 12 [.agg [.int .i64 3, strA a]] h = some (.ret (.tup [.nilp, .int .i64 2]), h)) : world2 n (D + 4) 22 [strA a] h = some (.ret .nilp, h) := by
 refine w2_re (Wp.eq ?_)
 unfold law10_re
 refine Wp.callN hb ?_
 repeat (first | (with_reducible refine Wp.lett ?_) | ((with_reducible apply Wp.obind); (with_reducible first | exact avInt_int _ _ | exact extT_0 _ _ | exact extT_1 _ _ _)) | ((with_reducible refine Wp.ift ?_ ?_); ((with_reducible apply bne_t); omega)))
 exact Wp.ret ⟨rfl, rfl⟩
theorem re_good {h h' : AHeap} {nb : Nat} (hb : world n (D + 3 + 1) 12 [.agg [.int .i64 3, strA a]] h = some (.ret (.tup [.ptr nb 0, .int .i64 0]), h')) : world2 n (D + 4) 22 [strA a] h = some (.ret (.ptr nb 0), h') := by
 refine w2_re (Wp.eq ?_)
 unfold law10_re
 refine Wp.callN hb ?_
 repeat (first | (with_reducible refine Wp.lett ?_) | ((with_reducible apply Wp.obind); (with_reducible first | exact avInt_int _ _ | exact extT_0 _ _ | exact extT_1 _ _ _)) | ((with_reducible refine Wp.iff ?_ ?_); ((with_reducible apply bne_f); omega)))
 exact Wp.ret ⟨rfl, rfl⟩
theorem re_all (a : Bytes) (hn : 18446744073709551620 < n) (hD : 1000 ≤ D) : (∀ h : AHeap, memB TNode h.ex = false → world2 n (D + 4) 22 [strA a] h = some (.ret .nilp, h)) ∨
  ∃ t, AltP a [] 0 (.ok (t, a.length)) ∧ a.length ≤ 64 ∧ ∀ h : AHeap, memB TNode h.ex = false → ∃ nb h', world2 n (D + 4) 22 [strA a] h = some (.ret (.ptr nb 0), h') ∧ Abs.Mem [] h h' [(nb, TNet, netC (netOf t))] := by
 rcases of_all 3 a (n := n) (d := D + 3) hn (by omega) with hb | ⟨t, tp, hl, ht⟩
 ·exact .inl fun h hx => re_bad (hb h hx)
 ·refine .inr ⟨t, ?_, hl, fun h hx => ?_⟩
  ·generalize hk : (3 : Int) = k at tp
   generalize hr : Except.ok t = r at tp
   cases tp with
   | lit a => cases hk
   | glob a => cases hk
   | re_bad a => cases hr
   | re_end a n => cases hr
   | re a =>
    cases hr
    exact a
  ·obtain ⟨nb, h', e, M⟩ := ht h hx
   exact ⟨nb, h', re_good e, M⟩
theorem re_tree2 {t : Nd} (hu : a.length ≤ 64) (ht : ∀ r, TreeP a 3 r → r = .ok t) (hn : 18446744073709551620 < n) (hD : 1000 ≤ D) {h : AHeap} (hx : memB TNode h.ex = false) : ∃ nb h', world2 n (D + 4) 22 [strA a] h = some (.ret (.ptr nb 0), h') ∧ Abs.Mem [] h h' [(nb, TNet, netC (netOf t))] := by
 obtain ⟨nb, h', e, M⟩ := of_tree (n := n) (d := D + 3) (.inr (.inr rfl)) hu ht hn (by omega) hx
 exact ⟨nb, h', re_good e, M⟩
end
theorem sl1_nat {u : Bytes} {a b : Nat} (h1 : a ≤ b) (h2 : b ≤ u.length) : sliceS u (a : Int) (b : Int) = some ((u.drop a).take (b - a)) := by
 have := sliceS_int (l := u) (a := (a : Int)) (b := (b : Int)) (by omega) (by omega) (by omega)
 simpa using this
section
variable {n D bx cy : Nat} {h0 : AHeap} {Q : ARes → AHeap → Prop} {x y : Nd}
theorem match2 {N : Nt} {nb : Nat} {h : AHeap} {s : Bytes} (hT : HasTz h) (hN : NtOk N) (hn : 18446744073709551620 < n) (hl : s.length < 1000000000) (kn : RowH h nb TNet (netC N)) (hnb : nb < h.next) : ∃ h', world2 n (D + 4) 14 [.ptr nb 0, strA s] h = some (.ret (.bool (matchN N s)), h') ∧ Tch [] h h' := by
 obtain ⟨h', e, t⟩ := match_r (n := n) (d := D) hT hN (by omega) hl kn hnb
 exact ⟨h', (w2_match _ _ _ _).trans e, t⟩
end
noncomputable def law10_NfaStars_L1b (call : CallF) (t1 : Bytes) (r15 : AV) (v45 : AV) (v49 : AV) (t10 : Int) (k94 : AHeap → R) (self : Int → AHeap → R) (t11 : Int) (h_98 : AHeap) : R :=
 lett (decide (t11 < t10)) fun (t64 : Bool) =>
 ifB t64
 (
  obind (idxP 1 v45 t11) fun t69 =>
  obind (ldCell h_98 t69) fun v70 =>
  obind (avBool v70) fun t70 =>
  lett (fun (t78 : Bool) (h_108 : AHeap) =>
   lett (fun  (h_112 : AHeap) =>
    lett (IntKind.i64.wrap (t11 + 1)) fun (t66 : Int) =>
    self t66 h_112) fun k111 =>
   ifB t78
   (
    obind (idxP 1 v45 t10) fun t81 =>
    obind (stRow h_108 1 [.bool true] t81) fun h_116 =>
    obind (idxP 1 v49 t10) fun t84 =>
    obind (stRow h_116 1 [.bool true] t84) fun h_119 =>
    k111 h_119)
   (
    k111 h_108)) fun j78 =>
  ifB t70
  (
   obind (sliceS t1 t11 t10) fun t76 =>
   callN (call 14 [r15, strA t76] h_98) fun r77 h_122 =>
   obind (avBool r77) fun t77 =>
   j78 t77 h_122)
  (
   j78 false h_98))
 (
  k94 h_98)
noncomputable def law10_NfaStars_L1 (call : CallF) (t1 : Bytes) (r15 : AV) (v45 : AV) (v49 : AV) (t10 : Int) (k94 : AHeap → R) : Nat → Int → AHeap → R := iterR (fun _ _ => none) (law10_NfaStars_L1b call t1 r15 v45 v49 t10 k94)
theorem law10_NfaStars_L1_s (call : CallF) (t1 : Bytes) (r15 : AV) (v45 : AV) (v49 : AV) (t10 : Int) (k94 : AHeap → R) (m : Nat) : law10_NfaStars_L1 call t1 r15 v45 v49 t10 k94 (m + 1) = law10_NfaStars_L1b call t1 r15 v45 v49 t10 k94 (law10_NfaStars_L1 call t1 r15 v45 v49 t10 k94 m) := rfl
noncomputable def law10_NfaStars_L0b (call : CallF) (n : Nat) (t1 : Bytes) (r15 : AV) (v45 : AV) (v49 : AV) (k64 : AHeap → R) (self : Int → AHeap → R) (t10 : Int) (h_86 : AHeap) : R :=
 lett (decide (t10 ≤ (lenS t1))) fun (t59 : Bool) =>
 ifB t59
 (
  lett (fun  (h_95 : AHeap) =>
   lett (IntKind.i64.wrap (t10 + 1)) fun (t61 : Int) =>
   self t61 h_95) fun k94 =>
  law10_NfaStars_L1 call t1 r15 v45 v49 t10 k94 n 0 h_86)
 (
  k64 h_86)
noncomputable def law10_NfaStars_L0 (call : CallF) (n : Nat) (t1 : Bytes) (r15 : AV) (v45 : AV) (v49 : AV) (k64 : AHeap → R) : Nat → Int → AHeap → R := iterR (fun _ _ => none) (law10_NfaStars_L0b call n t1 r15 v45 v49 k64)
theorem law10_NfaStars_L0_s (call : CallF) (n : Nat) (t1 : Bytes) (r15 : AV) (v45 : AV) (v49 : AV) (k64 : AHeap → R) (m : Nat) : law10_NfaStars_L0 call n t1 r15 v45 v49 k64 (m + 1) = law10_NfaStars_L0b call n t1 r15 v45 v49 k64 (law10_NfaStars_L0 call n t1 r15 v45 v49 k64 m) := rfl
noncomputable def law10_NfaStars (call : CallF) (n : Nat) (t0 : Bytes) (t1 : Bytes) (h : AHeap) : R :=
 callN (call 11 [] h) fun r12 h_4 =>
 obind (avBool r12) fun t12 =>
 lett (!t12) fun (t13 : Bool) =>
 ifB t13
 (
  some (.ret (.bool false), h_4))
 (
  callN (call 22 [strA t0] h_4) fun r15 h_10 =>
  outK (opBin Tryd.prog h_10 .eql 25 true (some r15) (some AV.nilp)) fun v17 h_14 =>
  obind (avBool v17) fun t17 =>
  lett (fun (t22 : Bool) (h_17 : AHeap) =>
   lett (fun (t27 : Bool) (h_20 : AHeap) =>
    ifB t27
    (
     some (.ret (.bool true), h_20))
    (
     obind (addS ([40] : Bytes) t0) fun t29 =>
     obind (addS t29 ([41, 42] : Bytes)) fun t30 =>
     callN (call 22 [strA t30] h_20) fun r31 h_27 =>
     obind (addS ([40] : Bytes) t0) fun t33 =>
     obind (addS t33 ([41, 43] : Bytes)) fun t34 =>
     callN (call 22 [strA t34] h_27) fun r35 h_31 =>
     outK (opBin Tryd.prog h_31 .eql 25 true (some r31) (some AV.nilp)) fun v37 h_35 =>
     obind (avBool v37) fun t37 =>
     lett (fun (t41 : Bool) (h_38 : AHeap) =>
      ifB t41
      (
       some (.ret (.bool false), h_38))
      (
       lett (IntKind.i64.wrap ((lenS t1) + 1)) fun (t44 : Int) =>
       outK (opMakeSlice Tryd.prog h_38 50 (some (.int .i64 t44)) (some (.int .i64 t44))) fun v45 h_44 =>
       lett (IntKind.i64.wrap ((lenS t1) + 1)) fun (t48 : Int) =>
       outK (opMakeSlice Tryd.prog h_44 50 (some (.int .i64 t48)) (some (.int .i64 t48))) fun v49 h_48 =>
       obind (idxP 1 v45 0) fun t51 =>
       obind (stRow h_48 1 [.bool true] t51) fun h_52 =>
       callN (call 14 [r15, strA ([] : Bytes)] h_52) fun r54 h_55 =>
       obind (avBool r54) fun t54 =>
       obind (idxP 1 v49 0) fun t55 =>
       obind (stRow h_55 1 [.bool t54] t55) fun h_59 =>
       lett (fun  (h_65 : AHeap) =>
        lett (fun (t4 : Bool) (h_68 : AHeap) =>
         some (.ret (.bool t4), h_68)) fun k67 =>
        obind (idxP 1 v45 (lenS t1)) fun t91 =>
        obind (ldCell h_65 t91) fun v92 =>
        obind (avBool v92) fun t92 =>
        callN (call 14 [r31, strA t1] h_65) fun r87 h_72 =>
        obind (avBool r87) fun t87 =>
        chk (reLoad Tryd.prog h_72 4 t91 (.bool t92) && true) <|
        lett ((t87 : Bool) == t92) fun (t93 : Bool) =>
        ifB t93
        (
         obind (idxP 1 v49 (lenS t1)) fun t101 =>
         obind (ldCell h_72 t101) fun v102 =>
         obind (avBool v102) fun t102 =>
         callN (call 14 [r35, strA t1] h_72) fun r97 h_80 =>
         obind (avBool r97) fun t97 =>
         chk (reLoad Tryd.prog h_80 4 t101 (.bool t102) && (true && true)) <|
         lett ((t97 : Bool) == t102) fun (t103 : Bool) =>
         k67 t103 h_80)
        (
         k67 false h_72)) fun k64 =>
       law10_NfaStars_L0 call n t1 r15 v45 v49 k64 n 1 h_59)) fun j41 =>
     ifB t37
     (
      j41 true h_35)
     (
      outK (opBin Tryd.prog h_35 .eql 25 true (some r35) (some AV.nilp)) fun v40 h_125 =>
      obind (avBool v40) fun t40 =>
      j41 t40 h_125))) fun j27 =>
   ifB t22
   (
    j27 true h_17)
   (
    lett (decide ((lenS t1) > 30)) fun (t26 : Bool) =>
    j27 t26 h_17)) fun j22 =>
  ifB t17
  (
   j22 true h_14)
  (
   lett (decide ((lenS t0) > 60)) fun (t21 : Bool) =>
   j22 t21 h_14))
set_option maxHeartbeats 4000000 in
set_option maxRecDepth 20000 in
theorem law10_NfaStars_ok {call : CallF} (hc : SaysAll Tryd.prog call) {n : Nat} {t0 : Bytes} {t1 : Bytes} {h : AHeap} {rR : ARes} {hR : AHeap} (hF : law10_NfaStars call n t0 t1 h = some (rR, hR)) : Says Tryd.prog 7 [strA t0, strA t1] h rR hR := by
 unfold law10_NfaStars at hF
 refine sO Tryd.func7 fun w0 m0 => ?_
 refine wW [(0, strA t0), (1, strA t1)] ?_
 refine oG fun n1 => W.r ?_
 refine oA 4 (.bool false) ?_
 refine oV [(0, strA t0), (1, strA t1)] (n1 ?_)
 refine oH fun n2 q2 => ?_
 refine oG fun n3 => W.r ?_
 refine oCb hc 12 hF fun t12 h_4 hF => ?_
 refine oB 13 hF fun t13 hF => ?_
 refine oV [(0, strA t0), (1, strA t1), (13, .bool t13)] (n3 ?_)
 cases t13 with
 | true =>
  refine oT hF fun hF => ?_
  refine oG fun n8 => W.r ?_
  refine oA 4 (.bool false) ?_
  refine oV [(4, .bool false)] (n8 (oY (q2 ?_)))
  exact lZ hF [.tmp 4] [.bool false] (rT res_nil)
 | false =>
  refine oU hF fun hF => ?_
  refine oZ (n2 ?_)
  refine oG fun n9 => W.r ?_
  refine oA 14 (strA t0) ?_
  refine oC hc (some 15) hF fun r15 h_10 hF => ?_
  refine oA 5 r15 ?_
  refine oV [(0, strA t0), (1, strA t1), (5, r15)] (n9 ?_)
  refine oH fun n12 q12 => ?_
  refine W.s (fun K13 n13 e13 q13 p13 => ?_)
  refine W.r ?_
  refine oA 16 r15 ?_
  replace hF := outK_some hF; obtain ⟨v17, h_14, e15, hF⟩ := hF
  replace hF := obind_some hF; obtain ⟨t17, c16, hF⟩ := hF
  have c16 := avBool_some c16
  subst c16
  refine WL.b (some 17) (.bool t17) h_14 e15 ?_
  refine oA 18 (.bool t17) ?_
  obtain ⟨j22, e18, hF⟩ := lett_some hF
  have J19 : ∀ (t22 : Bool) (h_17 : AHeap), j22 t22 h_17 = some (rR, hR) → WL Tryd.prog w0 m0 (Func.ntmps Tryd.f7) (Code.ops (Code.p1 (Code.p1 (Code.p2 (Code.p2 (Code.p2 (codeOf Tryd.f7))))))) 7 K13 [(0, strA t0), (1, strA t1), (5, r15), (22, .bool t22)] [] h_17 := by
   intro t22 h_17 hF
   rw [e18] at hF
   refine oA 23 (.bool t22) ?_
   obtain ⟨j27, e21, hF⟩ := lett_some hF
   have J22 : ∀ (t27 : Bool) (h_20 : AHeap), j27 t27 h_20 = some (rR, hR) → WL Tryd.prog w0 m0 (Func.ntmps Tryd.f7) (Code.ops (Code.p1 (Code.p1 (Code.p2 (Code.p2 (Code.p2 (codeOf Tryd.f7))))))) 12 K13 [(0, strA t0), (1, strA t1), (5, r15), (27, .bool t27)] [] h_20 := by
    intro t27 h_20 hF
    rw [e21] at hF
    refine oV [(0, strA t0), (1, strA t1), (5, r15), (27, .bool t27)] (n13 ?_)
    cases t27 with
    | true =>
     refine oT hF fun hF => ?_
     refine oG fun n23 => W.r ?_
     refine oA 4 (.bool true) ?_
     refine oV [(4, .bool true)] (n23 (oY (q12 ?_)))
     exact lZ hF [.tmp 4] [.bool true] (rT res_nil)
    | false =>
     refine oU hF fun hF => ?_
     refine oZ (n12 ?_)
     refine oG fun n24 => W.r ?_
     refine oA 28 (strA t0) ?_
     obtain ⟨t29, e25, hF⟩ := obind_some hF
     refine WL.b (some 29) (strA t29) h_20 (add_str (P := Tryd.prog) (h := h_20) (t := 9) (lit := true) e25) ?_
     obtain ⟨t30, e26, hF⟩ := obind_some hF
     refine WL.b (some 30) (strA t30) h_20 (add_str (P := Tryd.prog) (h := h_20) (t := 9) (lit := true) e26) ?_
     refine oC hc (some 31) hF fun r31 h_27 hF => ?_
     refine oA 32 (strA t0) ?_
     obtain ⟨t33, e29, hF⟩ := obind_some hF
     refine WL.b (some 33) (strA t33) h_27 (add_str (P := Tryd.prog) (h := h_27) (t := 9) (lit := true) e29) ?_
     obtain ⟨t34, e30, hF⟩ := obind_some hF
     refine WL.b (some 34) (strA t34) h_27 (add_str (P := Tryd.prog) (h := h_27) (t := 9) (lit := true) e30) ?_
     refine oC hc (some 35) hF fun r35 h_31 hF => ?_
     refine oA 6 r31 ?_
     refine oA 7 r35 ?_
     refine oV [(1, strA t1), (5, r15), (6, r31), (7, r35)] (n24 ?_)
     refine oH fun n33 q33 => ?_
     refine W.s (fun K34 n34 e34 q34 p34 => ?_)
     refine W.r ?_
     refine oA 36 r31 ?_
     replace hF := outK_some hF; obtain ⟨v37, h_35, e36, hF⟩ := hF
     replace hF := obind_some hF; obtain ⟨t37, c37, hF⟩ := hF
     have c37 := avBool_some c37
     subst c37
     refine WL.b (some 37) (.bool t37) h_35 e36 ?_
     refine oA 38 (.bool t37) ?_
     obtain ⟨j41, e39, hF⟩ := lett_some hF
     have J40 : ∀ (t41 : Bool) (h_38 : AHeap), j41 t41 h_38 = some (rR, hR) → WL Tryd.prog w0 m0 (Func.ntmps Tryd.f7) (Code.ops (Code.p1 (Code.p1 (Code.p2 (Code.p2 (Code.p2 (Code.p2 (Code.p2 (codeOf Tryd.f7))))))))) 6 K34 [(1, strA t1), (5, r15), (6, r31), (7, r35), (41, .bool t41)] [] h_38 := by
      intro t41 h_38 hF
      rw [e39] at hF
      refine oV [(1, strA t1), (5, r15), (6, r31), (7, r35), (41, .bool t41)] (n34 ?_)
      cases t41 with
      | true =>
       refine oT hF fun hF => ?_
       refine oG fun n41 => W.r ?_
       refine oA 4 (.bool false) ?_
       refine oV [(4, .bool false)] (n41 (oY (q33 ?_)))
       exact lZ hF [.tmp 4] [.bool false] (rT res_nil)
      | false =>
       refine oU hF fun hF => ?_
       refine oZ (n33 ?_)
       refine oG fun n42 => W.r ?_
       refine oA 42 (strA t1) ?_
       refine oA 43 (.int .i64 (lenS t1)) ?_
       refine oI 44 .i64 hF fun t44 hF => ?_
       refine oK 45 hF fun v45 h_44 hF => ?_
       refine oA 8 v45 ?_
       refine oV [(1, strA t1), (5, r15), (6, r31), (7, r35), (8, v45)] (n42 ?_)
       refine oG fun n46 => W.r ?_
       refine oA 46 (strA t1) ?_
       refine oA 47 (.int .i64 (lenS t1)) ?_
       refine oI 48 .i64 hF fun t48 hF => ?_
       refine oK 49 hF fun v49 h_48 hF => ?_
       refine oA 9 v49 ?_
       refine oV [(1, strA t1), (5, r15), (6, r31), (7, r35), (8, v45), (9, v49)] (n46 ?_)
       refine oG fun n50 => W.r ?_
       refine oA 50 v45 ?_
       refine oP 51 50 4 .i64 hF fun t51 hF => ?_
       refine oW 4 (.bool true) hF fun h_52 hF => ?_
       refine oV [(1, strA t1), (5, r15), (6, r31), (7, r35), (8, v45), (9, v49)] (n50 ?_)
       refine oG fun n54 => W.r ?_
       refine oA 52 v49 ?_
       refine oA 53 r15 ?_
       refine oCb hc 54 hF fun t54 h_55 hF => ?_
       refine oP 55 50 4 .i64 hF fun t55 hF => ?_
       refine oW 4 (.bool t54) hF fun h_59 hF => ?_
       refine oV [(1, strA t1), (5, r15), (6, r31), (7, r35), (8, v45), (9, v49)] (n54 ?_)
       refine W.s (fun K61 n61 e61 q61 p61 => ?_)
       refine oG fun n62 => W.r ?_
       refine oA 10 (.int .i64 1) ?_
       refine oV [(1, strA t1), (5, r15), (6, r31), (7, r35), (8, v45), (9, v49), (10, .int .i64 1)] (n62 ?_)
       obtain ⟨k64, e64, hF⟩ := lett_some hF
       have J64 : ∀  (h_65 : AHeap), k64 h_65 = some (rR, hR) → Go w0 m0 (Func.ntmps Tryd.f7) (K61 .normal) [(1, strA t1), (6, r31), (7, r35), (8, v45), (9, v49)] [] h_65 := by
        intro  h_65 hF
        rw [e64] at hF
        refine n61 ?_
        refine W.s (fun K66 n66 e66 q66 p66 => ?_)
        obtain ⟨k67, e67, hF⟩ := lett_some hF
        have J67 : ∀ (t4 : Bool) (h_68 : AHeap), k67 t4 h_68 = some (rR, hR) → Go w0 m0 (Func.ntmps Tryd.f7) (K66 .normal) [(4, .bool t4)] [] h_68 := by
         intro t4 h_68 hF
         rw [e67] at hF
         refine n66 (oY ?_)
         exact lZ hF [.tmp 4] [.bool t4] (rT res_nil)
        refine W.draw (by kernel_rfl) (hc.ok w0) (plan := [0, 1, 3, 4, 5, 6, 7, 2, 8, 9, 10, 11, 13, 14, 15, 16, 17, 12, 18, 19, 20]) (by kernel_rfl) (by kernel_rfl) (by kernel_rfl) ?_
        refine WD.a 0 (some 85) r31 h_65 ?_
        refine WD.a 0 (some 86) (strA t1) h_65 ?_
        refine WD.a 0 (some 88) v45 h_65 ?_
        refine WD.a 0 (some 89) (strA t1) h_65 ?_
        refine WD.a 0 (some 90) (.int .i64 (lenS t1)) h_65 ?_
        obtain ⟨t91, e69, hF⟩ := obind_some hF
        refine WD.b 0 (some 91) t91 h_65 (index_row (P := Tryd.prog) (h := h_65) (t := 50) (e' := 4) (k := .i64) (by kernel_rfl) (by kernel_rfl) (by kernel_rfl) e69) ?_
        replace hF := obind_some hF; obtain ⟨v92, e70, hF⟩ := hF
        replace hF := obind_some hF; obtain ⟨t92, c71, hF⟩ := hF
        have c71 := avBool_some c71
        subst c71
        refine WD.b 1 (some 92) (.bool t92) h_65 (load_cell (P := Tryd.prog) (h := h_65) (t := 4) (by kernel_rfl) e70) ?_
        replace hF := callN_some hF; obtain ⟨r87, h_72, e73, hF⟩ := hF
        replace hF := obind_some hF; obtain ⟨t87, c74, hF⟩ := hF
        have c74 := avBool_some c74
        subst c74
        obtain ⟨k75, hF⟩ := chk_some hF
        refine WD.call (d := (some 87)) (by kernel_rfl) (by kernel_rfl) (by kernel_rfl) e73 (k := 2) (by kernel_rfl) (fun _ => (Eq.trans (by kernel_rfl) k75)) (by decide) ?_
        obtain ⟨t93, e76, hF⟩ := lett_some hF
        refine WD.val (d := (some 93)) (v := .bool t93) (h' := h_72) (by kernel_rfl) (by kernel_rfl) (val_of AV.bool e76 (by kernel_rfl)) (k := 0) (by kernel_rfl) (fun e => absurd e (by decide)) (by decide) ?_
        refine WD.a 0 (some 94) (.bool t93) h_72 ?_
        cases t93 with
        | true =>
         replace hF := ifB_t hF
         refine WD.a 0 (some 95) r35 h_72 ?_
         refine WD.a 0 (some 96) (strA t1) h_72 ?_
         refine WD.a 0 (some 98) v49 h_72 ?_
         refine WD.a 0 (some 99) (strA t1) h_72 ?_
         refine WD.a 0 (some 100) (.int .i64 (lenS t1)) h_72 ?_
         obtain ⟨t101, e77, hF⟩ := obind_some hF
         refine WD.b 0 (some 101) t101 h_72 (index_row (P := Tryd.prog) (h := h_72) (t := 50) (e' := 4) (k := .i64) (by kernel_rfl) (by kernel_rfl) (by kernel_rfl) e77) ?_
         replace hF := obind_some hF; obtain ⟨v102, e78, hF⟩ := hF
         replace hF := obind_some hF; obtain ⟨t102, c79, hF⟩ := hF
         have c79 := avBool_some c79
         subst c79
         refine WD.b 1 (some 102) (.bool t102) h_72 (load_cell (P := Tryd.prog) (h := h_72) (t := 4) (by kernel_rfl) e78) ?_
         replace hF := callN_some hF; obtain ⟨r97, h_80, e81, hF⟩ := hF
         replace hF := obind_some hF; obtain ⟨t97, c82, hF⟩ := hF
         have c82 := avBool_some c82
         subst c82
         obtain ⟨k83, hF⟩ := chk_some hF
         refine WD.call (d := (some 97)) (by kernel_rfl) (by kernel_rfl) (by kernel_rfl) e81 (k := 2) (by kernel_rfl) (fun _ => (Eq.trans (by kernel_rfl) k83)) (by decide) ?_
         obtain ⟨t103, e84, hF⟩ := lett_some hF
         refine WD.val (d := (some 103)) (v := .bool t103) (h' := h_80) (by kernel_rfl) (by kernel_rfl) (val_of AV.bool e84 (by kernel_rfl)) (k := 0) (by kernel_rfl) (fun e => absurd e (by decide)) (by decide) ?_
         refine WD.a 0 (some 104) (.bool t103) h_80 ?_
         refine WD.a 0 (some 4) (.bool t103) h_80 ?_
         refine WD.nil ?_
         exact gW _ (J67 _ _ hF)
        | false =>
         replace hF := ifB_f hF
         refine oD 0 (some 95) ?_
         refine oD 0 (some 96) ?_
         refine oD 0 (some 98) ?_
         refine oD 0 (some 99) ?_
         refine oD 0 (some 100) ?_
         refine oD 0 (some 101) ?_
         refine oD 1 (some 102) ?_
         refine WD.not (d := (some 97)) (by kernel_rfl) (by kernel_rfl) (k := 2) (by kernel_rfl) (fun _ => (by kernel_rfl)) (by decide) ?_
         refine oD 0 (some 103) ?_
         refine WD.a 0 (some 104) (.bool false) h_72 ?_
         refine WD.a 0 (some 4) (.bool false) h_72 ?_
         refine WD.nil ?_
         exact gW _ (J67 _ _ hF)
       refine W.blockK (by kernel_rfl) (fun K63 n63 s63 o63 q63 p63 => ?_)
       refine W.loopK (by kernel_rfl) (fun I85 K85 b85 n85 e85 q85 p85 => ?_)
       have L85 : ∀ (m : Nat) (t10 : Int) (h_86 : AHeap), law10_NfaStars_L0 call n t1 r15 v45 v49 k64 m t10 h_86 = some (rR, hR) → Go w0 m0 (Func.ntmps Tryd.f7) I85 [(1, strA t1), (5, r15), (6, r31), (7, r35), (8, v45), (9, v49), (10, .int .i64 t10)] [] h_86 := by
        intro m
        induction m with
        | zero => intro t10 h_86 hF; cases hF
        | succ m ih85 =>
         intro t10 h_86 hF
         rw [law10_NfaStars_L0_s] at hF; unfold law10_NfaStars_L0b at hF
         refine b85 ?_
         refine W.s (fun K87 n87 e87 q87 p87 => ?_)
         refine oG fun n88 => W.r ?_
         refine oA 56 (.int .i64 t10) ?_
         refine oA 57 (strA t1) ?_
         refine oA 58 (.int .i64 (lenS t1)) ?_
         refine oB 59 hF fun t59 hF => ?_
         refine oV [(1, strA t1), (5, r15), (6, r31), (7, r35), (8, v45), (9, v49), (10, .int .i64 t10), (59, .bool t59)] (n88 ?_)
         cases t59 with
         | true =>
          refine oT hF fun hF => ?_
          refine oZ (n87 ?_)
          refine oG fun n90 => ?_
          refine W.blockK (by kernel_rfl) (fun K91 n91 s91 o91 q91 p91 => ?_)
          refine oG fun n92 => W.r ?_
          refine oA 11 (.int .i64 0) ?_
          refine oV [(1, strA t1), (5, r15), (6, r31), (7, r35), (8, v45), (9, v49), (10, .int .i64 t10), (11, .int .i64 0)] (n92 ?_)
          obtain ⟨k94, e94, hF⟩ := lett_some hF
          have J94 : ∀  (h_95 : AHeap), k94 h_95 = some (rR, hR) → Go w0 m0 (Func.ntmps Tryd.f7) (K91 .normal) [(1, strA t1), (5, r15), (6, r31), (7, r35), (8, v45), (9, v49), (10, .int .i64 t10)] [] h_95 := by
           intro  h_95 hF
           rw [e94] at hF
           refine n91 (n90 (W.r ?_))
           refine oA 60 (.int .i64 t10) ?_
           refine oI 61 .i64 hF fun t61 hF => ?_
           refine oA 10 (.int .i64 t61) ?_
           refine oV [(1, strA t1), (5, r15), (6, r31), (7, r35), (8, v45), (9, v49), (10, .int .i64 t61)] (n85 ?_)
           exact gW _ (ih85 _ _ hF)
          refine W.blockK (by kernel_rfl) (fun K93 n93 s93 o93 q93 p93 => ?_)
          refine W.loopK (by kernel_rfl) (fun I97 K97 b97 n97 e97 q97 p97 => ?_)
          have L97 : ∀ (m : Nat) (t11 : Int) (h_98 : AHeap), law10_NfaStars_L1 call t1 r15 v45 v49 t10 k94 m t11 h_98 = some (rR, hR) → Go w0 m0 (Func.ntmps Tryd.f7) I97 [(1, strA t1), (5, r15), (6, r31), (7, r35), (8, v45), (9, v49), (10, .int .i64 t10), (11, .int .i64 t11)] [] h_98 := by
           intro m
           induction m with
           | zero => intro t11 h_98 hF; cases hF
           | succ m ih97 =>
            intro t11 h_98 hF
            rw [law10_NfaStars_L1_s] at hF; unfold law10_NfaStars_L1b at hF
            refine b97 ?_
            refine W.s (fun K99 n99 e99 q99 p99 => ?_)
            refine oG fun n100 => W.r ?_
            refine oA 62 (.int .i64 t11) ?_
            refine oA 63 (.int .i64 t10) ?_
            refine oB 64 hF fun t64 hF => ?_
            refine oV [(1, strA t1), (5, r15), (6, r31), (7, r35), (8, v45), (9, v49), (10, .int .i64 t10), (11, .int .i64 t11), (64, .bool t64)] (n100 ?_)
            cases t64 with
            | true =>
             refine oT hF fun hF => ?_
             refine oZ (n99 ?_)
             refine oG fun n102 => ?_
             refine W.blockK (by kernel_rfl) (fun K103 n103 s103 o103 q103 p103 => ?_)
             refine W.s (fun K104 n104 e104 q104 p104 => ?_)
             refine W.r ?_
             refine oA 67 v45 ?_
             refine oA 68 (.int .i64 t11) ?_
             refine oP 69 50 4 .i64 hF fun t69 hF => ?_
             refine oLb 70 4 hF fun t70 hF => ?_
             refine oA 71 (.bool t70) ?_
             obtain ⟨j78, e109, hF⟩ := lett_some hF
             have J110 : ∀ (t78 : Bool) (h_108 : AHeap), j78 t78 h_108 = some (rR, hR) → WL Tryd.prog w0 m0 (Func.ntmps Tryd.f7) (Code.ops (Code.p1 (Code.p1 (Code.p1 (Code.p2 (Code.p1 (Code.p1 (Code.p2 (Code.p1 (Code.p1 (Code.p2 (Code.p1 (Code.p1 (Code.p2 (Code.p1 (Code.p2 (Code.p2 (Code.p2 (Code.p2 (Code.p2 (Code.p2 (Code.p2 (Code.p2 (Code.p2 (Code.p2 (codeOf Tryd.f7)))))))))))))))))))))))))) 12 K104 [(1, strA t1), (5, r15), (6, r31), (7, r35), (8, v45), (9, v49), (10, .int .i64 t10), (11, .int .i64 t11), (78, .bool t78)] [] h_108 := by
              intro t78 h_108 hF
              rw [e109] at hF
              refine oV [(1, strA t1), (5, r15), (6, r31), (7, r35), (8, v45), (9, v49), (10, .int .i64 t10), (11, .int .i64 t11), (78, .bool t78)] (n104 ?_)
              obtain ⟨k111, e111, hF⟩ := lett_some hF
              have J111 : ∀  (h_112 : AHeap), k111 h_112 = some (rR, hR) → Go w0 m0 (Func.ntmps Tryd.f7) (K103 .normal) [(1, strA t1), (5, r15), (6, r31), (7, r35), (8, v45), (9, v49), (10, .int .i64 t10), (11, .int .i64 t11)] [] h_112 := by
               intro  h_112 hF
               rw [e111] at hF
               refine n103 (n102 (W.r ?_))
               refine oA 65 (.int .i64 t11) ?_
               refine oI 66 .i64 hF fun t66 hF => ?_
               refine oA 11 (.int .i64 t66) ?_
               refine oV [(1, strA t1), (5, r15), (6, r31), (7, r35), (8, v45), (9, v49), (10, .int .i64 t10), (11, .int .i64 t66)] (n97 ?_)
               exact gW _ (ih97 _ _ hF)
              cases t78 with
              | true =>
               refine oT hF fun hF => ?_
               refine oG fun n114 => W.r ?_
               refine oA 79 v45 ?_
               refine oA 80 (.int .i64 t10) ?_
               refine oP 81 50 4 .i64 hF fun t81 hF => ?_
               refine oW 4 (.bool true) hF fun h_116 hF => ?_
               refine oV [(1, strA t1), (5, r15), (6, r31), (7, r35), (8, v45), (9, v49), (10, .int .i64 t10), (11, .int .i64 t11)] (n114 (W.r ?_))
               refine oA 82 v49 ?_
               refine oA 83 (.int .i64 t10) ?_
               refine oP 84 50 4 .i64 hF fun t84 hF => ?_
               refine oW 4 (.bool true) hF fun h_119 hF => ?_
               refine oV [(1, strA t1), (5, r15), (6, r31), (7, r35), (8, v45), (9, v49), (10, .int .i64 t10), (11, .int .i64 t11)] ?_
               exact gW _ (J111 _ hF)
              | false =>
               refine oU hF fun hF => ?_
               refine oZ ?_
               exact gW _ (J111 _ hF)
             cases t70 with
             | true =>
              replace hF := ifB_t hF
              refine oA 72 r15 ?_
              refine oA 73 (strA t1) ?_
              refine oA 74 (.int .i64 t11) ?_
              refine oA 75 (.int .i64 t10) ?_
              obtain ⟨t76, e121, hF⟩ := obind_some hF
              refine WL.b (some 76) (strA t76) h_98 (slice_str (P := Tryd.prog) (h := h_98) (t := 9) (A := (some (.int .i64 t11))) (B := (some (.int .i64 t10))) (by kernel_rfl) (.inl ⟨_, rfl⟩) (.inl ⟨_, rfl⟩) e121) ?_
              refine oCb hc 77 hF fun t77 h_122 hF => ?_
              refine oA 78 (.bool t77) ?_
              exact lW _ (J110 _ _ hF)
             | false =>
              replace hF := ifB_f hF
              refine WL.o (some 72) ?_
              refine WL.o (some 73) ?_
              refine WL.o (some 74) ?_
              refine WL.o (some 75) ?_
              refine WL.o (some 76) ?_
              refine WL.o (some 77) ?_
              refine oA 78 (.bool false) ?_
              exact lW _ (J110 _ _ hF)
            | false =>
             refine oU hF fun hF => ?_
             refine W.exit (by kernel_rfl) ?_
             refine e99 (e97 ?_)
             refine s93 (by kernel_rfl) ?_
             exact gW _ (J94 _ hF)
          exact gW _ (L97 _ _ _ hF)
         | false =>
          refine oU hF fun hF => ?_
          refine W.exit (by kernel_rfl) ?_
          refine e87 (e85 ?_)
          refine s63 (by kernel_rfl) ?_
          exact gW _ (J64 _ hF)
       exact gW _ (L85 _ _ _ hF)
     cases t37 with
     | true =>
      replace hF := ifB_t hF
      refine WL.o (some 39) ?_
      refine WL.o (some 40) ?_
      refine oA 41 (.bool true) ?_
      exact lW _ (J40 _ _ hF)
     | false =>
      replace hF := ifB_f hF
      refine oA 39 r35 ?_
      replace hF := outK_some hF; obtain ⟨v40, h_125, e126, hF⟩ := hF
      replace hF := obind_some hF; obtain ⟨t40, c127, hF⟩ := hF
      have c127 := avBool_some c127
      subst c127
      refine WL.b (some 40) (.bool t40) h_125 e126 ?_
      refine oA 41 (.bool t40) ?_
      exact lW _ (J40 _ _ hF)
   cases t22 with
   | true =>
    replace hF := ifB_t hF
    refine WL.o (some 24) ?_
    refine WL.o (some 25) ?_
    refine WL.o (some 26) ?_
    refine oA 27 (.bool true) ?_
    exact lW _ (J22 _ _ hF)
   | false =>
    replace hF := ifB_f hF
    refine oA 24 (strA t1) ?_
    refine oA 25 (.int .i64 (lenS t1)) ?_
    refine oB 26 hF fun t26 hF => ?_
    refine oA 27 (.bool t26) ?_
    exact lW _ (J22 _ _ hF)
  cases t17 with
  | true =>
   replace hF := ifB_t hF
   refine WL.o (some 19) ?_
   refine WL.o (some 20) ?_
   refine WL.o (some 21) ?_
   refine oA 22 (.bool true) ?_
   exact lW _ (J19 _ _ hF)
  | false =>
   replace hF := ifB_f hF
   refine oA 19 (strA t0) ?_
   refine oA 20 (.int .i64 (lenS t0)) ?_
   refine oB 21 hF fun t21 hF => ?_
   refine oA 22 (.bool t21) ?_
   exact lW _ (J19 _ _ hF)
abbrev TBo : Nat := 4
theorem Plus.snoc {P : List Nat → Prop} {a b : List Nat} (h : Plus P a) (hb : P b) : Plus P (a ++ b) := by
 induction h with
 | one h => exact .more h (.one hb)
 | more h _ ih =>
  rw [List.append_assoc]
  exact .more h ih
theorem Plus.last {P : List Nat → Prop} {s : List Nat} (h : Plus P s) : s ≠ [] → ∃ s1 s2, s = s1 ++ s2 ∧ P s2 ∧ s2 ≠ [] ∧ (s1 = [] ∨ Plus P s1) := by
 induction h with
 | @one s h => exact fun hn => ⟨[], s, rfl, h, hn, .inl rfl⟩
 | @more s t h m ih =>
  intro hn
  by_cases ht : t = []
  ·subst ht
   rw [List.append_nil] at hn ⊢
   exact ⟨[], s, rfl, h, hn, .inl rfl⟩
  ·obtain ⟨t1, t2, rfl, h2, hn2, h3⟩ := ih ht
   refine ⟨s ++ t1, t2, (List.append_assoc _ _ _).symm, h2, hn2, .inr ?_⟩
   rcases h3 with rfl | h3
   ·rw [List.append_nil]
    exact .one h
   ·exact .more h h3
section
variable {x : Nd} {s : Bytes}
noncomputable def plusB (x : Nd) (s : Bytes) (j : Nat) : Bool := @decide (Plus (Lang x) ((s.take j).map UInt8.toNat)) (Classical.propDecidable _)
theorem plusB_iff (j : Nat) : plusB x s j = true ↔ Plus (Lang x) ((s.take j).map UInt8.toNat) := @decide_eq_true_iff _ (Classical.propDecidable _)
noncomputable def toB (x : Nd) (s : Bytes) (j : Nat) : Bool := decide (j = 0) || plusB x s j
noncomputable def accB (x : Nd) (s : Bytes) (i : Nat) : Nat → Bool
 | 0 => false
 | k + 1 => accB x s i k || (toB x s k && matchN (netOf x) ((s.drop k).take (i - k)))
theorem accB_iff (i : Nat) : ∀ k, accB x s i k = true ↔ ∃ j, j < k ∧ toB x s j = true ∧ matchN (netOf x) ((s.drop j).take (i - j)) = true
 | 0 => by
  rw [accB]
  simp
 | k + 1 => by
  rw [accB, Bool.or_eq_true, Bool.and_eq_true, accB_iff i k]
  constructor
  ·rintro (⟨j, h, h2⟩ | h)
   ·exact ⟨j, by omega, h2⟩
   ·exact ⟨k, by omega, h⟩
  ·rintro ⟨j, h, h2⟩
   by_cases hj : j = k
   ·subst hj
    exact .inr h2
   ·exact .inl ⟨j, by omega, h2⟩
theorem bool_ext {a b : Bool} (h : a = true ↔ b = true) : a = b := by
 cases a <;> cases b <;> simp_all
theorem acc_plus (hx : cntN x ≤ 64) {i : Nat} (h1 : 1 ≤ i) (hi : i ≤ s.length) : accB x s i i = plusB x s i := by
 refine bool_ext ?_
 rw [accB_iff, plusB_iff]
 have seg : ∀ j, j ≤ i → s.take i = s.take j ++ (s.drop j).take (i - j) := fun j hj => by
  have : i = j + (i - j) := by omega
  rw [this, List.take_add, Nat.add_sub_cancel_left]
 constructor
 ·rintro ⟨j, hj, ht, hm⟩
  have hL := (match_lang (small_of hx) _).1 hm
  rw [seg j (by omega), List.map_append]
  unfold toB at ht
  rw [Bool.or_eq_true, decide_eq_true_eq, plusB_iff] at ht
  rcases ht with rfl | ht
  ·exact .one hL
  ·exact ht.snoc hL
 ·intro h
  obtain ⟨s1, s2, e, hL, hn, h3⟩ := h.last (by
   intro e
   have := congrArg List.length e
   rw [List.length_map, List.length_take, List.length_nil] at this
   omega)
  have le := congrArg List.length e
  rw [List.length_map, List.length_take, List.length_append, Nat.min_eq_left hi] at le
  have l2 : s2.length ≠ 0 := fun hh => hn (List.length_eq_zero_iff.1 hh)
  have e2 := seg s1.length (by omega)
  rw [e2, List.map_append] at e
  obtain ⟨ea, eb⟩ := List.append_inj e (by rw [List.length_map, List.length_take]; omega)
  refine ⟨s1.length, by omega, ?_, (match_lang (small_of hx) _).2 (by rw [eb]; exact hL)⟩
  unfold toB
  rw [Bool.or_eq_true, decide_eq_true_eq, plusB_iff, ea]
  rcases h3 with rfl | h3
  ·exact .inl rfl
  ·exact .inr h3
theorem plus0 (hx : cntN x ≤ 64) : plusB x s 0 = matchN (netOf x) [] := by
 refine bool_ext ?_
 rw [plusB_iff, match_lang (small_of hx)]
 exact plus_nil
theorem plus_match (hx : cntN x ≤ 64) : matchN (netOf (overN 6 [x])) s = plusB x s s.length := by
 have hc : cntN (overN 6 [x]) ≤ 64 := by rw [over_cnt (by decide)]; exact hx
 refine bool_ext ?_
 rw [plusB_iff, match_lang (small_of hc), List.take_length]
 exact .rfl
theorem stars_match (hx : cntN x ≤ 64) : matchN (netOf (overN 5 [x])) s = toB x s s.length := by
 have hc : cntN (overN 5 [x]) ≤ 64 := by rw [over_cnt (by decide)]; exact hx
 refine bool_ext ?_
 unfold toB
 rw [Bool.or_eq_true, decide_eq_true_eq, plusB_iff, match_lang (small_of hc), List.take_length]
 show (s.map UInt8.toNat = [] ∨ Plus (Lang x) _) ↔ _
 rw [List.map_eq_nil_iff, List.length_eq_zero_iff]
end
noncomputable def bl (m : Nat) (f : Nat → Bool) : List AV := (List.range m).map fun j => .bool (f j)
theorem bl_len (m : Nat) (f : Nat → Bool) : (bl m f).length = m := by simp [bl]
theorem bl_one (m : Nat) (f : Nat → Bool) : (bl m f).all AV.one = true := by
 simp only [bl, List.all_map, List.all_eq_true]
 intro x _
 rfl
theorem bl_get {m j : Nat} (h : j < m) (f : Nat → Bool) : (bl m f)[j]? = some (.bool (f j)) := by
 unfold bl
 rw [List.getElem?_map, List.getElem?_range h]
 rfl
theorem bl_set {m i : Nat} {f g : Nat → Bool} {b : Bool} (hb : g i = b) (hf : ∀ j, j ≠ i → f j = g j) : (bl m f).set i (.bool b) = bl m g := by
 refine List.ext_getElem? fun j => ?_
 rw [List.getElem?_set]
 by_cases hj : i = j
 ·subst hj
  by_cases hm : i < m
  ·rw [if_pos rfl, if_pos (by rw [bl_len]; exact hm), bl_get hm, hb]
  ·rw [if_pos rfl, if_neg (by rw [bl_len]; exact hm), List.getElem?_eq_none (by rw [bl_len]; omega)]
 ·rw [if_neg hj]
  unfold bl
  rw [List.getElem?_map, List.getElem?_map]
  cases hr : (List.range m)[j]? with
  | none => rfl
  | some y =>
   obtain ⟨_, rfl⟩ := List.getElem?_eq_some_iff.1 hr
   rw [List.getElem_range, Option.map_some, Option.map_some, hf j (fun h => hj h.symm)]
theorem bl_ext {m : Nat} {f g : Nat → Bool} (h : ∀ j, f j = g j) : bl m f = bl m g := by rw [show f = g from funext h]
theorem bl_none (m : Nat) : List.replicate m (AV.bool false) = bl m (fun _ => false) := by
 refine List.ext_getElem? fun j => ?_
 by_cases hj : j < m
 ·rw [bl_get hj, List.getElem?_replicate, if_pos hj]
 ·rw [List.getElem?_eq_none (by rw [List.length_replicate]; omega), List.getElem?_eq_none (by rw [bl_len]; omega)]
set_option maxRecDepth 100000 in
theorem make_bools (m : Nat) (hm : m ≤ 100) (h : AHeap) : opMakeSlice Tryd.prog h 50 (some (.int .i64 (m : Int))) (some (.int .i64 (m : Int))) = outNewS h TBo (bl m (fun _ => false)) m 1 := by
 have e : opMakeSlice Tryd.prog h 50 (some (.int .i64 (m : Int))) (some (.int .i64 (m : Int))) = (if Nat.ble m m = true ∧ bytesFit Tryd.prog TBo m = true then outNewS h TBo (List.replicate m [AV.bool false]).flatten m 1 else none) := by kernel_rfl
 rw [e, if_pos ⟨by simp, bytesFit_of (B := 1) (by kernel_rfl) (by omega) (by omega)⟩, List.flatten_replicate_singleton, bl_none]
theorem idx_sl {b m i : Nat} (h : i < m) : idxP 1 (.sl b 0 m 1) (i : Int) = some (.ptr b i) := by
 have e : Nat.blt i m = true := by simpa using h
 show (match Nat.blt i m with | true => some (AV.ptr b (0 + i * 1)) | false => none) = _
 rw [e, Nat.zero_add, Nat.mul_one]
noncomputable def toR (x : Nd) (s : Bytes) (i : Nat) (acc : Bool) (j : Nat) : Bool := if j < i then toB x s j else if j = i then acc else false
noncomputable def someR (x : Nd) (s : Bytes) (i : Nat) (acc : Bool) (j : Nat) : Bool := if j < i then plusB x s j else if j = i then acc else false
section
variable {n D bx tv sv : Nat} {h0 : AHeap} {Q : ARes → AHeap → Prop} {x : Nd} {s : Bytes} {ys : List RowT}
theorem stars_inner {k94 : AHeap → R} {i : Nat} (hT : HasTz h0) (hn : 18446744073709551620 < n) (hi : i ≤ s.length) (hl : s.length ≤ 30) (kx : RowH h0 bx TNet (netC (netOf x))) (hx : bx < h0.next)
  (hk : ∀ H, Abs.Mem [] h0 H ((sv, TBo, bl (s.length + 1) (someR x s i (accB x s i i))) :: (tv, TBo, bl (s.length + 1) (toR x s i (accB x s i i))) :: ys) → Wp (k94 H) Q) :
  ∀ (m f k : Nat) (H : AHeap), m < f → k + m = i → Abs.Mem [] h0 H ((sv, TBo, bl (s.length + 1) (someR x s i (accB x s i k))) :: (tv, TBo, bl (s.length + 1) (toR x s i (accB x s i k))) :: ys) →
   Wp (law10_NfaStars_L1 (world2 n (D + 4)) s (.ptr bx 0) (.sl tv 0 (s.length + 1) 1) (.sl sv 0 (s.length + 1) 1) (i : Int) k94 f (k : Int) H) Q
 | _, 0, _, _, hf, _, _ => by omega
 | 0, f + 1, k, H, hf, hm, M => by
  have : k = i := by omega
  subst this
  rw [law10_NfaStars_L1_s]
  unfold law10_NfaStars_L1b
  ((with_reducible refine Wp.lett ?_))
  refine Wp.iff (decide_eq_false (by omega)) ?_
  exact hk H M
 | m + 1, f + 1, k, H, hf, hm, M => by
  have el : (k : Int) + 1 = ((k + 1 : Nat) : Int) := by omega
  have i1 := idx_sl (b := tv) (m := s.length + 1) (i := k) (by omega)
  have i2 := idx_sl (b := tv) (m := s.length + 1) (i := i) (by omega)
  have i3 := idx_sl (b := sv) (m := s.length + 1) (i := i) (by omega)
  have c1 : ldCell H (.ptr tv k) = some (.bool (toB x s k)) := RowH.cell' M.at1.1 (by rw [bl_get (by omega)]; unfold toR; rw [if_pos (by omega)])
  have s1 : sliceS s (k : Int) (i : Int) = some ((s.drop k).take (i - k)) := sl1_nat (by omega) hi
  have lt : ((s.drop k).take (i - k)).length < 1000000000 := by rw [List.length_take, List.length_drop]; omega
  have fin := fun H M => stars_inner hT hn hi hl kx hx hk m f (k + 1) H (by omega) (by omega) M
  rw [law10_NfaStars_L1_s]
  unfold law10_NfaStars_L1b
  rw [accB] at fin
  cases ht : toB x s k with
  | false =>
   rw [ht] at c1 fin
   rw [Bool.false_and, Bool.or_false] at fin
   repeat (first | (with_reducible first | refine Wp.join0 (fun _ _ => ?_) | refine Wp.join1 (fun _ _ => ?_)) | ((with_reducible refine Wp.lettw ?_ ?_ ?_); omega; omega) | (with_reducible refine Wp.lett ?_) | ((with_reducible apply Wp.obind); (with_reducible first | exact i1 | exact c1 | exact avBool_bool _)) | ((with_reducible refine Wp.ift ?_ ?_); ((with_reducible apply decide_eq_true); omega)) | ((with_reducible refine Wp.iff ?_ ?_); (with_reducible rfl)) | (with_reducible first | refine Wp.go0 (by assumption) ?_ | refine Wp.go1 (by assumption) ?_))
   rw [el]
   exact fin H M
  | true =>
   rw [ht] at c1 fin
   rw [Bool.true_and] at fin
   repeat (first | (with_reducible refine Wp.join1 (fun _ _ => ?_)) | (with_reducible refine Wp.lett ?_) | ((with_reducible apply Wp.obind); (with_reducible first | exact i1 | exact c1 | exact s1 | exact avBool_bool _)) | ((with_reducible refine Wp.ift ?_ ?_); first | (with_reducible rfl) | ((with_reducible apply decide_eq_true); omega)))
   obtain ⟨h1, e1, t1⟩ := match2 (n := n) (D := D) (hT.tch M.tch (by simp)) (netOf_ok x) hn lt (kx.tch M.tch hx (by simp)) (Nat.lt_of_lt_of_le hx M.tch.1)
   refine Wp.callN e1 ?_
   clear e1
   have M1 := M.keep t1
   cases hmx : matchN (netOf x) ((s.drop k).take (i - k)) with
   | false =>
    rw [hmx, Bool.or_false] at fin
    repeat (first | (with_reducible refine Wp.join0 (fun _ _ => ?_)) | ((with_reducible refine Wp.lettw ?_ ?_ ?_); omega; omega) | ((with_reducible apply Wp.obind); (with_reducible exact avBool_bool _)) | ((with_reducible refine Wp.iff ?_ ?_); (with_reducible rfl)) | (with_reducible first | refine Wp.go0 (by assumption) ?_ | refine Wp.go1 (by assumption) ?_))
    rw [el]
    exact fin _ M1
   | true =>
    rw [hmx, Bool.or_true] at fin
    repeat (first | (with_reducible refine Wp.join0 (fun _ _ => ?_)) | ((with_reducible apply Wp.obind); (with_reducible first | exact i2 | exact avBool_bool _)) | ((with_reducible refine Wp.ift ?_ ?_); (with_reducible rfl)) | (with_reducible refine Wp.go1 (by assumption) ?_))
    refine Wp.ms1 M1 (by rw [bl_len]; omega) rfl fun h2 M2 => ?_
    repeat (((with_reducible apply Wp.obind); (with_reducible exact i3)))
    refine Wp.ms0 M2 (by rw [bl_len]; omega) rfl fun h3 M3 => ?_
    repeat (first | ((with_reducible refine Wp.lettw ?_ ?_ ?_); omega; omega) | (with_reducible refine Wp.go0 (by assumption) ?_))
    rw [el]
    rw [bl_set (g := someR x s i true) (by unfold someR; rw [if_neg (by omega), if_pos rfl]) (fun j hj => by unfold someR; rw [if_neg hj, if_neg hj]), bl_set (g := toR x s i true) (by unfold toR; rw [if_neg (by omega), if_pos rfl]) (fun j hj => by unfold toR; rw [if_neg hj, if_neg hj])] at M3
    exact fin _ M3
theorem stars_outer {k64 : AHeap → R} (hT : HasTz h0) (hn : 18446744073709551620 < n) (hc : cntN x ≤ 64) (hl : s.length ≤ 30) (kx : RowH h0 bx TNet (netC (netOf x))) (hx : bx < h0.next)
  (hk : ∀ H, Abs.Mem [] h0 H ((sv, TBo, bl (s.length + 1) (someR x s (s.length + 1) false)) :: (tv, TBo, bl (s.length + 1) (toR x s (s.length + 1) false)) :: ys) → Wp (k64 H) Q) :
  ∀ (m f i : Nat) (H : AHeap), m < f → i + m = s.length + 1 → 1 ≤ i → Abs.Mem [] h0 H ((sv, TBo, bl (s.length + 1) (someR x s i false)) :: (tv, TBo, bl (s.length + 1) (toR x s i false)) :: ys) →
   Wp (law10_NfaStars_L0 (world2 n (D + 4)) n s (.ptr bx 0) (.sl tv 0 (s.length + 1) 1) (.sl sv 0 (s.length + 1) 1) k64 f (i : Int) H) Q
 | _, 0, _, _, hf, _, _, _ => by omega
 | 0, f + 1, i, H, hf, hm, h1, M => by
  have ll := lenS_nat s
  have : i = s.length + 1 := by omega
  subst this
  rw [law10_NfaStars_L0_s]
  unfold law10_NfaStars_L0b
  ((with_reducible refine Wp.lett ?_))
  refine Wp.iff (decide_eq_false (by omega)) ?_
  exact hk H M
 | m + 1, f + 1, i, H, hf, hm, h1, M => by
  have ll := lenS_nat s
  have el : (i : Int) + 1 = ((i + 1 : Nat) : Int) := by omega
  have fin := fun H M => stars_outer hT hn hc hl kx hx hk m f (i + 1) H (by omega) (by omega) (by omega) M
  rw [law10_NfaStars_L0_s]
  unfold law10_NfaStars_L0b
  ((with_reducible refine Wp.lett ?_))
  refine Wp.ift (decide_eq_true (by omega)) ?_
  ((with_reducible refine Wp.join0 (fun _ _ => ?_)))
  rename_i k94 ek94
  refine stars_inner (D := D) hT hn (by omega) hl kx hx (fun H2 M2 => ?_) i n 0 H (by omega) (Nat.zero_add _) M
  rw [ek94]
  repeat (((with_reducible refine Wp.lettw ?_ ?_ ?_); omega; omega))
  rw [el]
  refine fin H2 ?_
  rw [acc_plus hc h1 (by omega)] at M2
  rw [bl_ext (f := someR x s (i + 1) false) (g := someR x s i (plusB x s i)) (fun j => ?_), bl_ext (f := toR x s (i + 1) false) (g := toR x s i (plusB x s i)) (fun j => ?_)]
  ·exact M2
  ·unfold toR
   rcases Nat.lt_trichotomy j i with hj | hj | hj
   ·rw [if_pos (by omega), if_pos hj]
   ·subst hj
    rw [if_pos (by omega), if_neg (by omega), if_pos rfl]
    unfold toB
    rw [decide_eq_false (by omega), Bool.false_or]
   ·rw [if_neg (show ¬ j < i + 1 by omega), if_neg (show ¬ j < i by omega), if_neg (show ¬ j = i by omega)]
    split <;> rfl
  ·unfold someR
   rcases Nat.lt_trichotomy j i with hj | hj | hj
   ·rw [if_pos (by omega), if_pos hj]
   ·subst hj
    rw [if_pos (by omega), if_neg (by omega), if_pos rfl]
   ·rw [if_neg (show ¬ j < i + 1 by omega), if_neg (show ¬ j < i by omega), if_neg (show ¬ j = i by omega)]
    split <;> rfl
end
end Go.Proofs.YtakhljnkmbpmpaaDoor
namespace Go.Proofs.YtakhljnkmbpmpaaDoor
open Go.RowKit Abs
set_option maxRecDepth 100000 in
theorem nfaStars_says (h : AHeap) (hX : h.ex = []) (hT : HasTz h) (xs : List AV) (hP : ArgsP Tryd.prog h.next h 12 [9, 9] xs) : ∃ h', Says Tryd.prog 7 xs h (.ret (.bool true)) h' := by
 obtain ⟨_, _, rfl, hp0, hP⟩ := args_cons hP
 obtain ⟨_, _, rfl, hp1, hP⟩ := args_cons hP
 obtain rfl := args0 hP
 obtain ⟨a, rfl, hsa⟩ := hp0.str Tryd.underlying9
 obtain ⟨s, rfl, hsc⟩ := hp1.str Tryd.underlying9
 obtain ⟨n, hn⟩ : ∃ n, 18446744073709551620 < n := ⟨_, Nat.lt_succ_self _⟩
 obtain ⟨D, hD⟩ : ∃ D, 1000 ≤ D := ⟨1000, Nat.le_refl _⟩
 suffices hK : Wp (law10_NfaStars (world2 n (D + 4)) n a s h) fun r _ => r = .ret (.bool true) by
  obtain ⟨_, h', e, rfl⟩ := hK
  exact ⟨h', law10_NfaStars_ok (world2_ok n (D + 4)) e⟩
 have hxN : ∀ {h1 : AHeap} {rs : List RowT}, Abs.Mem [] h h1 rs → memB TNode h1.ex = false := fun M => by rw [M.ex, hX]; rfl
 have hTz : ∀ {h1 : AHeap} {rs : List RowT}, Abs.Mem [] h h1 rs → HasTz h1 := fun M => hT.tch M.tch (by simp)
 unfold law10_NfaStars
 have Mx := Mem.nil [] h
 have la := lenS_nat a
 have lc := lenS_nat s
 refine Wp.callN ((w2_works _ _ _ _).trans (works_w (d := D + 2) hn (by omega) (hTz Mx) (hxN Mx))) ?_
 repeat (first | (with_reducible refine Wp.lett ?_) | ((with_reducible apply Wp.obind); (with_reducible exact avBool_bool _)) | ((with_reducible refine Wp.iff ?_ ?_); (with_reducible exact Bool.not_true)))
 rcases re_all a hn hD with ha | ⟨x, ax, hla, ha⟩
 ·refine Wp.callN (ha _ (hxN Mx)) ?_
  repeat (first | (with_reducible refine Wp.join1 (fun _ _ => ?_)) | ((with_reducible apply Wp.obind); (with_reducible exact avBool_bool _)) | ((with_reducible refine Wp.ift ?_ ?_); (with_reducible rfl)) | ((with_reducible apply Wp.outK); (with_reducible exact nilNet _)) | (with_reducible refine Wp.go1 (by assumption) ?_))
  exact Wp.ret rfl
 obtain ⟨bx, h1, e1, N1⟩ := ha _ (hxN Mx)
 refine Wp.callN e1 ?_
 have M1 := Mem.frame (xs := []) Mx N1
 simp only [List.nil_append, List.cons_append] at M1
 clear Mx N1 e1 ha
 by_cases hl1 : 60 < a.length
 ·repeat (first | (with_reducible refine Wp.join1 (fun _ _ => ?_)) | (with_reducible refine Wp.lett ?_) | ((with_reducible apply Wp.obind); (with_reducible exact avBool_bool _)) | ((with_reducible refine Wp.ift ?_ ?_); first | (with_reducible rfl) | ((with_reducible apply decide_eq_true); omega)) | ((with_reducible refine Wp.iff ?_ ?_); (with_reducible rfl)) | ((with_reducible apply Wp.outK); (with_reducible exact eqNet _ _ _)) | (with_reducible refine Wp.go1 (by assumption) ?_))
  exact Wp.ret rfl
 by_cases hl2 : 30 < s.length
 ·repeat (first | (with_reducible refine Wp.join1 (fun _ _ => ?_)) | (with_reducible refine Wp.lett ?_) | ((with_reducible apply Wp.obind); (with_reducible exact avBool_bool _)) | ((with_reducible refine Wp.ift ?_ ?_); ((with_reducible apply decide_eq_true); omega)) | ((with_reducible refine Wp.iff ?_ ?_); first | (with_reducible rfl) | ((with_reducible apply decide_eq_false); omega)) | ((with_reducible apply Wp.outK); (with_reducible exact eqNet _ _ _)) | (with_reducible refine Wp.go1 (by assumption) ?_))
  exact Wp.ret rfl
 have A1 : addS [40] a = some ([40] ++ a) := addS_val (by simp; omega)
 have A2 : addS ([40] ++ a) [41, 42] = some ([40] ++ a ++ [41, 42]) := addS_val (by simp; omega)
 have A3 : addS ([40] ++ a) [41, 43] = some ([40] ++ a ++ [41, 43]) := addS_val (by simp; omega)
 repeat (first | (with_reducible refine Wp.join1 (fun _ _ => ?_)) | (with_reducible refine Wp.lett ?_) | ((with_reducible apply Wp.obind); (with_reducible first | exact A1 | exact A2 | exact avBool_bool _)) | ((with_reducible refine Wp.iff ?_ ?_); first | (with_reducible rfl) | ((with_reducible apply decide_eq_false); omega)) | ((with_reducible apply Wp.outK); (with_reducible exact eqNet _ _ _)) | (with_reducible refine Wp.go1 (by assumption) ?_))
 have hu2 : ([40] ++ a ++ [41, 42]).length ≤ 64 := by simp; omega
 obtain ⟨ns, h2, e2, N2⟩ := re_tree2 (n := n) (D := D) (t := overN 5 [x]) hu2 (fun r => groups_s (u := [40] ++ a ++ [41, 42]) (c := 42) (op := 5) rfl (by decide) ax (by simp)) hn hD (hxN M1)
 refine Wp.callN e2 ?_
 have M2 := Mem.frame (xs := []) M1 N2
 simp only [List.nil_append, List.cons_append] at M2
 clear M1 N2 e2
 repeat (((with_reducible apply Wp.obind); (with_reducible first | exact A1 | exact A3)))
 have hu3 : ([40] ++ a ++ [41, 43]).length ≤ 64 := by simp; omega
 obtain ⟨np, h3, e3, N3⟩ := re_tree2 (n := n) (D := D) (t := overN 6 [x]) hu3 (fun r => groups_s (u := [40] ++ a ++ [41, 43]) (c := 43) (op := 6) rfl (by decide) ax (by simp)) hn hD (hxN M2)
 refine Wp.callN e3 ?_
 have M3 := Mem.frame (xs := []) M2 N3
 simp only [List.nil_append, List.cons_append] at M3
 clear M2 N3 e3
 have cx := re_cnt ax
 have hls : s.length < 1000000000 := by omega
 repeat (first | (with_reducible refine Wp.join1 (fun _ _ => ?_)) | ((with_reducible refine Wp.lettw ?_ ?_ ?_); omega; omega) | ((with_reducible apply Wp.obind); (with_reducible exact avBool_bool _)) | ((with_reducible refine Wp.iff ?_ ?_); (with_reducible rfl)) | ((with_reducible apply Wp.outK); (with_reducible exact eqNet _ _ _)) | (with_reducible refine Wp.go1 (by assumption) ?_))
 have hc : cntN x ≤ 64 := by omega
 have el : lenS s + 1 = ((s.length + 1 : Nat) : Int) := by omega
 rw [el]
 have kx := M3.at2.1
 have hbx := M3.at2.2.1
 have hT3 := hTz M3
 have hex : memB TBo h3.ex = false := by rw [M3.ex, hX]; rfl
 have M := Mem.nil [] h3
 refine Wp.mnews M (make_bools _ (by omega) _) (bl_one _ _) hex fun h4 M4 => ?_
 (((with_reducible refine Wp.lettw ?_ ?_ ?_); omega; omega))
 refine Wp.mnews M4 (make_bools _ (by omega) _) (bl_one _ _) hex fun h5 M5 => ?_
 clear M M4
 have i1 : idxP 1 (.sl h3.next 0 (s.length + 1) 1) 0 = some (.ptr h3.next 0) := idx_sl (i := 0) (by omega)
 have i2 : idxP 1 (.sl h4.next 0 (s.length + 1) 1) 0 = some (.ptr h4.next 0) := idx_sl (i := 0) (by omega)
 refine Wp.obind i1 ?_
 refine Wp.ms1 M5 (by rw [bl_len]; omega) rfl fun h6 M6 => ?_
 obtain ⟨g7, e7, t7⟩ := match2 (n := n) (D := D) (s := []) (hT3.tch M6.tch (by simp)) (netOf_ok x) hn (by decide) (kx.tch M6.tch hbx (by simp)) (Nat.lt_of_lt_of_le hbx M6.tch.1)
 refine Wp.callN e7 ?_
 clear e7
 have M7 := M6.keep t7
 refine Wp.obind (avBool_bool _) ?_
 refine Wp.obind i2 ?_
 refine Wp.ms0 M7 (by rw [bl_len]; omega) rfl fun h8 M8 => ?_
 clear M5 M6 M7 t7
 rw [bl_set (g := someR x s 1 false) (by unfold someR; rw [if_pos (by decide)]; exact plus0 hc) (fun j hj => by unfold someR; rw [if_neg (by omega)]; split <;> rfl), bl_set (g := toR x s 1 false) (by unfold toR; rw [if_pos (by decide)]; rfl) (fun j hj => by unfold toR; rw [if_neg (by omega)]; split <;> rfl)] at M8
 ((with_reducible refine Wp.join0 (fun _ _ => ?_)))
 rename_i k64 ek64
 refine stars_outer (D := D) (h0 := h3) hT3 hn hc (by omega) kx hbx (fun H9 M9 => ?_) s.length n 1 _ (by omega) (Nat.add_comm _ _) (Nat.le_refl _) M8
 have i3 : idxP 1 (.sl h3.next 0 (s.length + 1) 1) (lenS s) = some (.ptr h3.next s.length) := by rw [lc]; exact idx_sl (by omega)
 have i4 : idxP 1 (.sl h4.next 0 (s.length + 1) 1) (lenS s) = some (.ptr h4.next s.length) := by rw [lc]; exact idx_sl (by omega)
 have q3 : (bl (s.length + 1) (toR x s (s.length + 1) false))[s.length]? = some (.bool (toB x s s.length)) := by rw [bl_get (by omega)]; unfold toR; rw [if_pos (by omega)]
 have q4 : (bl (s.length + 1) (someR x s (s.length + 1) false))[s.length]? = some (.bool (plusB x s s.length)) := by rw [bl_get (by omega)]; unfold someR; rw [if_pos (by omega)]
 have c3 := RowH.cell' M9.at1.1 q3
 have MN := M3.keep M9.tch
 rw [ek64]
 repeat (first | (with_reducible refine Wp.join1 (fun _ _ => ?_)) | ((with_reducible apply Wp.obind); (with_reducible first | exact i3 | exact c3 | exact avBool_bool _)))
 obtain ⟨gA, eA, tA⟩ := match2 (n := n) (D := D) (s := s) (hTz MN) (netOf_ok _) hn hls MN.at1.1 MN.at1.2.1
 refine Wp.callN eA ?_
 clear eA
 have MA := M9.keep tA
 have MNA := MN.keep tA
 refine Wp.obind (avBool_bool _) ?_
 refine Wp.chk (and_t (Mem.re1 MA (by kernel_rfl) q3) rfl) ?_
 rw [stars_match hc]
 ((with_reducible refine Wp.lett ?_))
 refine Wp.ift (beq_self_eq_true _) ?_
 have c4 := RowH.cell' MA.at0.1 q4
 repeat (((with_reducible apply Wp.obind); (with_reducible first | exact i4 | exact c4 | exact avBool_bool _)))
 obtain ⟨gB, eB, tB⟩ := match2 (n := n) (D := D) (s := s) (hTz MNA) (netOf_ok _) hn hls MNA.at0.1 MNA.at0.2.1
 refine Wp.callN eB ?_
 clear eB
 have MB := MA.keep tB
 refine Wp.obind (avBool_bool _) ?_
 refine Wp.chk (and_t (Mem.re0 MB (by kernel_rfl) q4) rfl) ?_
 rw [plus_match hc]
 repeat (first | (with_reducible refine Wp.lett ?_) | (with_reducible refine Wp.go1 (by assumption) ?_))
 refine Wp.ret ?_
 rw [beq_self_eq_true]
end Go.Proofs.YtakhljnkmbpmpaaDoor
