/- What nfaCopies_proved stands on, part 8 of 9. -/
import Derived.Test.YtakhljnkmbpmpaaDoorCc7
namespace Go.Proofs.YtakhljnkmbpmpaaDoor
open Go.RowKit Abs
def zeroNet : Nt := ⟨false, 0, 0, List.replicate 64 0, List.replicate 256 0⟩
theorem zeroNet_ok : NtOk zeroNet := ⟨List.length_replicate, List.length_replicate, by decide, by decide, fun x hx => by rw [List.eq_of_mem_replicate hx]; decide, fun x hx => by rw [List.eq_of_mem_replicate hx]; decide⟩
def rawOf (t : Nd) : Nt := { (pieceN t zeroNet 0).2.1 with empty := (pieceN t zeroNet 0).1.empty, first := (pieceN t zeroNet 0).1.first, last := (pieceN t zeroNet 0).1.last }
def netOf (t : Nd) : Nt := (rawOf t).trim
theorem rawOf_ok (t : Nd) : NtOk (rawOf t) := by
 have := pieceN_ok t (u := 0) zeroNet_ok
 exact ⟨this.n.fl, this.n.tl, this.p.f, this.p.l, this.n.fs, this.n.ts⟩
theorem netOf_ok (t : Nd) : NtOk (netOf t) := (rawOf_ok t).trim
theorem rowsAt_of {S : List Nat} {h0 h : AHeap} {rs T : List RowT} (M : Abs.Mem S h0 h rs) (hs : ∀ y ∈ T, y ∈ rs) : RowsAt h T := fun y hy => ⟨(M.row y (hs y hy)).1, (M.row y (hs y hy)).2.1⟩
theorem apart2 {S : List Nat} {h0 h : AHeap} {x y : RowT} {rs T : List RowT} (M : Abs.Mem S h0 h (x :: y :: rs)) (hs : ∀ z ∈ T, z ∈ rs) : (∀ z ∈ T, z.1 ∉ [x.1, y.1]) ∧ x.1 ≠ y.1 := by
 have ap := M.apart
 rw [List.map_cons, List.map_cons, List.nodup_cons, List.nodup_cons] at ap
 refine ⟨fun z hz hm => ?_, fun e => ap.1 (by rw [e]; exact List.mem_cons_self)⟩
 rcases List.mem_cons.1 hm with e | hm
 ·exact ap.1 (List.mem_cons_of_mem _ (by rw [← e]; exact List.mem_map_of_mem (hs z hz)))
 ·exact ap.2.1 (by rw [← List.mem_singleton.1 hm]; exact List.mem_map_of_mem (hs z hz))
set_option maxRecDepth 100000 in
theorem bldBl (b o : Nat) : bldS Tryd.prog TBl [(0, .ptr b o)] = some [.ptr b o, .int .i64 0] := by kernel_rfl
section
variable {n d : Nat} {h : AHeap} {u : Bytes} {k : Int} {t : Nd} {c : List AV} {T : List RowT} {H : AHeap} {e1 q : Int}
theorem of_bad (he : e1 ≠ 0) (ht : ∀ h, memB TNode h.ex = false → world n d 24 [.agg [.int .i64 k, strA u]] h = some (.ret (.tup [.agg (nodeC 0 zeroW .nsl), .agg [.int .i64 e1, .int .i64 q]]), h)) (hx : memB TNode h.ex = false) :
  world n (d + 1) 12 [.agg [.int .i64 k, strA u]] h = some (.ret (.tup [.nilp, .int .i64 2]), h) := by
 apply Wp.eq
 rw [w_nfa_Of]
 refine Wp.gc ?_
 suffices hK : Wp (nfa_Of (world n d) n [.int .i64 k, strA u] h) fun r h' => r = .ret (.tup [.nilp, .int .i64 2]) ∧ Tch [] h h' from hK.mono fun r h' ⟨e, t⟩ => ⟨t.above, by rw [e]; rfl, e, rfl⟩
 unfold nfa_Of
 have Mx := Mem.nil [] h
 have hxN : ∀ {h1 : AHeap} {rs : List RowT}, Abs.Mem [] h h1 rs → memB TNode h1.ex = false := fun M => by rw [M.ex]; exact hx
 repeat (first | ((with_reducible apply Wp.lr0 Mx); rfl) | ((with_reducible apply Wp.mbox Mx); (rfl); intro _ Mz; clear Mx; have Mx := Mz; clear Mz))
 refine Wp.callN (ht _ (hxN Mx)) ?_
 repeat (first | ((with_reducible apply Wp.obind); (with_reducible exact avInt_int _ _)) | ((with_reducible apply Wp.ld0 Mx); rfl) | ((with_reducible apply Wp.sa0 Mx); rfl; rfl; (rfl); intro _ Mz; clear Mx; have Mx := Mz; clear Mz) | ((with_reducible apply Wp.sa1 Mx); rfl; rfl; (rfl); intro _ Mz; clear Mx; have Mx := Mz; clear Mz) | ((with_reducible apply Wp.mnew Mx); intro _ Mz; clear Mx; have Mx := Mz; clear Mz) | (with_reducible refine Wp.lett ?_) | ((with_reducible apply Wp.obind); (with_reducible first | exact avAgg_agg _ | exact extT_0 _ _ | exact extT_1 _ _ _)) | ((with_reducible refine Wp.ift ?_ ?_); ((with_reducible apply bne_t); omega)) | rw [newP_eq])
 exact Wp.ret ⟨rfl, Mx.tch⟩
set_option maxRecDepth 100000 in
theorem of_ok (hk1 : oneK t) (hsz : t.sz < 100000) (hd : t.sz + 2 ≤ d) (hn : 18446744073709551620 < n) (ht : ∀ h, memB TNode h.ex = false → ∃ c T h', world n d 24 [.agg [.int .i64 k, strA u]] h = some (.ret (.tup [.agg c, .agg [.int .i64 0, .int .i64 0]]), h') ∧ NodeT t c T ∧ Abs.Mem [] h h' T) (hx : memB TNode h.ex = false) :
  ∃ nb h', world n (d + 1) 12 [.agg [.int .i64 k, strA u]] h = some (.ret (.tup [.ptr nb 0, .int .i64 0]), h') ∧ Abs.Mem [] h h' [(nb, TNet, netC (netOf t))] := by
 suffices hK : Wp (gcR h (nfa_Of (world n d) n [.int .i64 k, strA u] h)) fun r h' => ∃ nb, r = .ret (.tup [.ptr nb 0, .int .i64 0]) ∧ Abs.Mem [] h h' [(nb, TNet, netC (netOf t))] by
  obtain ⟨_, h', e, nb, rfl, k2⟩ := hK
  rw [← w_nfa_Of] at e
  exact ⟨nb, h', e, k2⟩
 suffices hK : Wp (nfa_Of (world n d) n [.int .i64 k, strA u] h) fun r h' => ∃ nb, r = .ret (.tup [.ptr nb 0, .int .i64 0]) ∧ Abs.Mem [] h h' [(nb, TNet, netC (netOf t))] by
  obtain ⟨_, h', e, nb, rfl, k2⟩ := hK
  refine Wp.gc2 ⟨_, h', e, ⟨nb, rfl, k2⟩, fun _ hl => ?_⟩
  have h1 : AV.lo h.next (.ptr nb 0) = true := by
   have : (AV.lo h.next (.ptr nb 0) && (AV.lo h.next (.int .i64 0) && AV.loL h.next [])) = true := hl
   rw [Bool.and_eq_true] at this
   exact this.1
  have h2 := k2.at0.2.2.resolve_left (by simp)
  have h3 : nb < h.next := by simpa [AV.lo] using h1
  omega
 unfold nfa_Of
 have Mx := Mem.nil [] h
 have hxN : ∀ {h1 : AHeap} {rs : List RowT}, Abs.Mem [] h h1 rs → memB TNode h1.ex = false := fun M => by rw [M.ex]; exact hx
 repeat (first | ((with_reducible apply Wp.lr0 Mx); rfl) | ((with_reducible apply Wp.mbox Mx); (rfl); intro _ Mz; clear Mx; have Mx := Mz; clear Mz))
 obtain ⟨c, T, H1, e1, kt1, M1⟩ := ht _ (hxN Mx)
 refine Wp.callN e1 ?_
 have M2 := Mem.frameT (xs := []) (ys := []) Mx M1
 clear Mx M1
 have Mx := M2
 clear M2
 simp only [List.nil_append] at Mx
 repeat (first | ((with_reducible apply Wp.mnew Mx); intro _ Mz; clear Mx; have Mx := Mz; clear Mz) | ((with_reducible apply Wp.obind); (with_reducible first | exact avAgg_agg _ | exact extT_0 _ _ | exact extT_1 _ _ _)) | rw [newP_eq])
 refine Wp.sa1 Mx kt1.len rfl kt1.one fun h3 M3 => ?_
 clear Mx
 have Mx := M3
 clear M3
 repeat (first | ((with_reducible apply Wp.obind); (with_reducible exact avInt_int _ _)) | ((with_reducible apply Wp.ld0 Mx); rfl) | ((with_reducible apply Wp.sa0 Mx); rfl; rfl; (rfl); intro _ Mz; clear Mx; have Mx := Mz; clear Mz) | ((with_reducible apply Wp.mbox Mx); (rfl); intro _ Mz; clear Mx; have Mx := Mz; clear Mz) | (with_reducible refine Wp.lett ?_) | ((with_reducible refine Wp.iff ?_ ?_); ((with_reducible apply bne_f); omega)) | rw [newP_eq])
 have M4 : Abs.Mem [] h _ ((_, TNet, netC zeroNet) :: _) := Mx
 clear Mx
 have Mx := M4
 clear M4
 repeat (first | ((with_reducible apply Wp.sa0 Mx); rfl; rfl; (rfl); intro _ Mz; clear Mx; have Mx := Mz; clear Mz) | ((with_reducible apply Wp.mnew Mx); intro _ Mz; clear Mx; have Mx := Mz; clear Mz) | ((with_reducible apply Wp.obind); (with_reducible exact bldBl _ _)))
 refine Wp.lr3 Mx kt1.len ?_
 obtain ⟨d2, rfl⟩ : ∃ d2, d = d2 + 2 := ⟨d - 2, by omega⟩
 obtain ⟨hTn, hne⟩ := apart2 (T := T) Mx (fun y hy => by simp [hy])
 have rT := rowsAt_of (T := T) Mx (fun y hy => by simp [hy])
 obtain ⟨h5, e5, kb5, kn5, t5⟩ := piece_ok t (n := n) (D := d2 + 2) hk1 kt1 rT hTn Mx.at0.2.1 Mx.at1.2.1 hne hd (by omega) (by omega) zeroNet 0 _ zeroNet_ok (by omega) (Tch.refl _ _) Mx.at0.1 Mx.at1.1
 refine Wp.callN e5 ?_
 clear e5 hTn rT hne
 have M5 := Mem.upd2 (xs := []) Mx t5 kb5 kn5
 clear Mx
 have Mx := M5
 clear M5
 simp only [List.nil_append] at Mx
 repeat (first | ((with_reducible apply Wp.obind); (with_reducible first | exact avInt_int _ _ | exact avBool_bool _ | exact nilC_ptr _ _ | exact fldP_ptr _ _ _)) | ((with_reducible apply Wp.ld0 Mx); rfl) | ((with_reducible apply Wp.sa0 Mx); rfl; rfl; (rfl); intro _ Mz; clear Mx; have Mx := Mz; clear Mz) | ((with_reducible apply Wp.ld1 Mx); rfl) | ((with_reducible apply Wp.ms2 Mx); exact Nat.le_of_ble_eq_true rfl; rfl; intro _ Mz; clear Mx; have Mx := Mz; clear Mz) | ((with_reducible apply Wp.mnew Mx); intro _ Mz; clear Mx; have Mx := Mz; clear Mz) | ((with_reducible refine Wp.chk ?_ ?_); focus ((repeat' (first | (with_reducible exact rfl) | (with_reducible apply and_t) | ((with_reducible apply Mem.re0 Mx); kernel_rfl; rfl))); done)) | ((with_reducible apply Wp.obind); (with_reducible exact avAgg_agg _)) | rw [newP_eq])
 obtain ⟨h6, e6, kn6, t6⟩ := trim_r (n := n) (d := d2) (rawOf_ok t) hn (h := _) Mx.at2.1
 refine Wp.callN e6 ?_
 have M6 := Mem.upd (xs := [_, _]) Mx t6 kn6
 clear Mx
 have Mx := M6
 clear M6
 simp only [List.cons_append, List.nil_append] at Mx
 repeat (((with_reducible apply Wp.ld1 Mx); rfl))
 refine Wp.ret ⟨_, rfl, fun x hx => Mx.row x ?_, List.nodup_cons.2 ⟨List.not_mem_nil, List.nodup_nil⟩, Mx.tch⟩
 rw [List.mem_singleton] at hx
 rw [hx]
 exact List.mem_cons_of_mem _ (List.mem_cons_of_mem _ List.mem_cons_self)
end
abbrev TRun : Nat := 69
def stepN (N : Nt) (st : Bool × Nat) (c : Nat) : Bool × Nat := (true, (if st.1 = true then N.behind st.2 else N.first) &&& N.ta.getD c 0)
def doneN (N : Nt) (st : Bool × Nat) : Bool := if st.1 = true then decide (st.2 &&& N.last ≠ 0) else N.empty
def deadN (N : Nt) (st : Bool × Nat) : Bool := if st.1 = true then decide (st.2 = 0) else !N.empty && decide (N.first = 0)
noncomputable def runC (nb : Nat) (st : Bool × Nat) : List AV := [.ptr nb 0, .bool st.1, .int .u64 (st.2 : Int)]
def runN (N : Nt) (st : Bool × Nat) (s : Bytes) : Bool × Nat := s.foldl (fun st c => stepN N st c.toNat) st
def matchN (N : Nt) (s : Bytes) : Bool := doneN N (runN N (false, 0) s)
theorem behF_zero (fo : List Nat) : ∀ (f acc : Nat), behF fo f 0 acc = acc
 | 0, _ => rfl
 | _ + 1, _ => rfl
theorem beh_zero (N : Nt) : N.behind 0 = 0 := behF_zero _ _ _
theorem step_zero (N : Nt) (c : Nat) : stepN N (true, 0) c = (true, 0) := by
 unfold stepN
 rw [if_pos rfl, beh_zero, Nat.zero_and]
theorem run_zero (N : Nt) : ∀ s : Bytes, runN N (true, 0) s = (true, 0)
 | [] => rfl
 | c :: s => by
  show runN N (stepN N (true, 0) c.toNat) s = _
  rw [step_zero]
  exact run_zero N s
theorem step_small {N : Nt} (k : NtOk N) (st : Bool × Nat) (c : Nat) : (stepN N st c).2 < 18446744073709551616 := by
 show (if st.1 = true then N.behind st.2 else N.first) &&& _ < _
 refine and_small ?_
 split
 ·exact N.behind_small k _
 ·exact k.f
section
variable {N : Nt} {n d nb rb : Nat} {h : AHeap} {Q : ARes → AHeap → Prop} {st : Bool × Nat}
set_option maxRecDepth 100000 in
theorem eqRun (b o : Nat) (h : AHeap) : opBin Tryd.prog h .eql 44 true (some (.ptr b o)) (some AV.nilp) = some (.val (.bool false), h) := by kernel_rfl
set_option maxRecDepth 100000 in
theorem eqNet (b o : Nat) (h : AHeap) : opBin Tryd.prog h .eql 25 true (some (.ptr b o)) (some AV.nilp) = some (.val (.bool false), h) := by kernel_rfl
set_option maxRecDepth 100000 in
theorem bldRun (b o : Nat) : bldS Tryd.prog TRun [(0, .ptr b o)] = some [.ptr b o, .bool false, .int .u64 0] := by kernel_rfl
theorem none_w (kr : RowH h rb TRun (runC nb st)) : world n (d + 1) 33 [.ptr rb 0] h = some (.ret (.bool false), h) := by
 apply Wp.eq
 rw [w_nfa_Run_none]
 unfold nfa_Run_none
 have c1 : ldCell h (.ptr rb (0 + 0)) = some (.ptr nb 0) := RowH.cell' kr rfl
 repeat (first | (with_reducible refine Wp.join1 (fun _ _ => ?_)) | ((with_reducible apply Wp.obind); (with_reducible first | exact c1 | exact avBool_bool _ | exact nilC_ptr _ _ | exact fldP_ptr _ _ _)) | ((with_reducible refine Wp.iff ?_ ?_); (with_reducible rfl)) | ((with_reducible apply Wp.outK); (with_reducible first | exact eqRun _ _ _ | exact eqNet _ _ _)) | (with_reducible refine Wp.go1 (by assumption) ?_))
 exact Wp.ret ⟨rfl, rfl⟩
theorem done_w (hN : NtOk N) (hs : st.2 < 18446744073709551616) (kr : RowH h rb TRun (runC nb st)) (kn : RowH h nb TNet (netC N)) : world n (d + 2) 18 [.ptr rb 0] h = some (.ret (.bool (doneN N st)), h) := by
 apply Wp.eq
 rw [w_nfa_Run_Done]
 unfold nfa_Run_Done
 have e0 := none_w (n := n) (d := d) kr
 have c1 : ldCell h (.ptr rb (0 + 0)) = some (.ptr nb 0) := RowH.cell' kr rfl
 have c2 : ldCell h (.ptr rb (0 + 1)) = some (.bool st.1) := RowH.cell' kr rfl
 have c3 : ldCell h (.ptr rb (0 + 2)) = some (.int .u64 (st.2 : Int)) := RowH.cell' kr rfl
 have c4 : ldCell h (.ptr nb (0 + 0)) = some (.bool N.empty) := RowH.cell' kn rfl
 have c5 : ldCell h (.ptr nb (0 + 2)) = some (.int .u64 (N.last : Int)) := RowH.cell' kn rfl
 have e1 := andI_nat hs hN.l
 unfold doneN
 repeat (first | (with_reducible refine Wp.lett ?_) | ((with_reducible apply Wp.obind); (with_reducible first | exact c2 | exact avBool_bool _ | exact nilC_ptr _ _ | exact fldP_ptr _ _ _)) | ((with_reducible refine Wp.iff ?_ ?_); (with_reducible rfl)) | ((with_reducible apply Wp.callN); (with_reducible exact e0)))
 cases hb : st.1 with
 | false =>
  repeat (first | ((with_reducible apply Wp.obind); (with_reducible first | exact c1 | exact c4 | exact avBool_bool _ | exact nilC_ptr _ _ | exact fldP_ptr _ _ _)) | ((with_reducible refine Wp.ift ?_ ?_); (with_reducible exact Bool.not_false)))
  exact Wp.ret ⟨rfl, rfl⟩
 | true =>
  repeat (first | (with_reducible refine Wp.lett ?_) | ((with_reducible apply Wp.obind); (with_reducible first | exact c1 | exact c3 | exact c5 | exact avInt_int _ _ | exact nilC_ptr _ _ | exact fldP_ptr _ _ _)) | ((with_reducible refine Wp.iff ?_ ?_); (with_reducible exact Bool.not_true)))
  rw [e1]
  refine Wp.ret ⟨?_, rfl⟩
  by_cases hz : st.2 &&& N.last = 0
  ·rw [hz]
   rfl
  ·rw [if_pos rfl, decide_eq_true hz, show (((st.2 &&& N.last : Nat) : Int) != 0) = true from bne_t (by omega)]
theorem dead_w (kr : RowH h rb TRun (runC nb st)) (kn : RowH h nb TNet (netC N)) : world n (d + 2) 19 [.ptr rb 0] h = some (.ret (.bool (deadN N st)), h) := by
 apply Wp.eq
 rw [w_nfa_Run_Dead]
 unfold nfa_Run_Dead
 have e0 := none_w (n := n) (d := d) kr
 have c1 : ldCell h (.ptr rb (0 + 0)) = some (.ptr nb 0) := RowH.cell' kr rfl
 have c2 : ldCell h (.ptr rb (0 + 1)) = some (.bool st.1) := RowH.cell' kr rfl
 have c3 : ldCell h (.ptr rb (0 + 2)) = some (.int .u64 (st.2 : Int)) := RowH.cell' kr rfl
 have c4 : ldCell h (.ptr nb (0 + 0)) = some (.bool N.empty) := RowH.cell' kn rfl
 have c5 : ldCell h (.ptr nb (0 + 1)) = some (.int .u64 (N.first : Int)) := RowH.cell' kn rfl
 have hz : ∀ x : Nat, (((x : Nat) : Int) == 0) = decide (x = 0) := fun x => by
  by_cases h0 : x = 0
  ·rw [h0]
   rfl
  ·rw [decide_eq_false h0]
   exact beq_f (by omega)
 unfold deadN
 repeat (first | (with_reducible refine Wp.lett ?_) | ((with_reducible apply Wp.obind); (with_reducible first | exact c2 | exact avBool_bool _ | exact nilC_ptr _ _ | exact fldP_ptr _ _ _)) | ((with_reducible refine Wp.iff ?_ ?_); (with_reducible rfl)) | ((with_reducible apply Wp.callN); (with_reducible exact e0)))
 cases hb : st.1 with
 | false =>
  cases he : N.empty with
  | true =>
   rw [he] at c4
   repeat (first | (with_reducible refine Wp.join1 (fun _ _ => ?_)) | (with_reducible refine Wp.lett ?_) | ((with_reducible apply Wp.obind); (with_reducible first | exact c1 | exact c4 | exact avBool_bool _ | exact nilC_ptr _ _ | exact fldP_ptr _ _ _)) | ((with_reducible refine Wp.ift ?_ ?_); (with_reducible exact Bool.not_false)) | ((with_reducible refine Wp.iff ?_ ?_); (with_reducible exact Bool.not_true)) | (with_reducible refine Wp.go1 (by assumption) ?_))
   exact Wp.ret ⟨rfl, rfl⟩
  | false =>
   rw [he] at c4
   repeat (first | (with_reducible refine Wp.join1 (fun _ _ => ?_)) | (with_reducible refine Wp.lett ?_) | ((with_reducible apply Wp.obind); (with_reducible first | exact c1 | exact c4 | exact c5 | exact avInt_int _ _ | exact avBool_bool _ | exact nilC_ptr _ _ | exact fldP_ptr _ _ _)) | ((with_reducible refine Wp.ift ?_ ?_); (with_reducible exact Bool.not_false)) | (with_reducible refine Wp.go1 (by assumption) ?_))
   rw [hz]
   exact Wp.ret ⟨rfl, rfl⟩
 | true =>
  repeat (first | (with_reducible refine Wp.lett ?_) | ((with_reducible apply Wp.obind); (with_reducible first | exact c3 | exact avInt_int _ _ | exact nilC_ptr _ _ | exact fldP_ptr _ _ _)) | ((with_reducible refine Wp.iff ?_ ?_); (with_reducible exact Bool.not_true)))
  rw [hz]
  exact Wp.ret ⟨rfl, rfl⟩
theorem step_r (hT : HasTz h) (hN : NtOk N) (hs : st.2 < 18446744073709551616) (hn : 18446744073709551616 < n) (hne : rb ≠ nb) {c : Nat} (hc : c < 256) (kr : RowH h rb TRun (runC nb st)) (kn : RowH h nb TNet (netC N)) (hnb : nb < h.next) : ∃ h', world n (d + 3) 21 [.ptr rb 0, .int .u8 (c : Int)] h = some (.ret (.tup []), h') ∧ RowH h' rb TRun (runC nb (stepN N st c)) ∧ Tch [rb] h h' := by
 apply Wp.ex
 rw [w_nfa_Run_Step]
 unfold nfa_Run_Step
 have e0 := none_w (n := n) (d := d + 1) kr
 have c1 : ldCell h (.ptr rb (0 + 0)) = some (.ptr nb 0) := RowH.cell' kr rfl
 have c2 : ldCell h (.ptr rb (0 + 1)) = some (.bool st.1) := RowH.cell' kr rfl
 have c3 : ldCell h (.ptr rb (0 + 2)) = some (.int .u64 (st.2 : Int)) := RowH.cell' kr rfl
 have c5 : ldCell h (.ptr nb (0 + 1)) = some (.int .u64 (N.first : Int)) := RowH.cell' kn rfl
 have e1 := beh_w (n := n) (d := d) hT hN kn hs hn
 have e3 := idxA_ptr (b := nb) (o := 0 + 67) hc
 have fin : ∀ (m : Nat), m < 18446744073709551616 → (stepN N st c).2 = m &&& N.ta.getD c 0 → Wp (obind (stRow h 1 [.bool true] (.ptr rb (0 + 1))) fun h_25 =>
   obind (nilC (.ptr rb 0)) fun t33 => obind (fldP 0 t33) fun t34 => obind (ldCell h_25 t34) fun v35 => obind (nilC v35) fun t37 => obind (fldP 67 t37) fun t38 =>
   obind (idxA 256 1 t38 (c : Int)) fun t39 => obind (ldCell h_25 t39) fun v40 => obind (avInt .u64 v40) fun t40 => lett (andI .u64 (m : Int) t40) fun (t41 : Int) =>
   obind (nilC (.ptr rb 0)) fun t42 => obind (fldP 2 t42) fun t43 => obind (stRow h_25 1 [.int .u64 t41] t43) fun h_38 => some (.ret (.tup []), h_38))
   fun r h' => r = .ret (.tup []) ∧ RowH h' rb TRun (runC nb (stepN N st c)) ∧ Tch [rb] h h' := by
  intro m hm he
  refine Wp.st1 kr (by show 1 < 3; decide) rfl fun h1 k1 t1 _ => ?_
  have kn1 := kn.tch t1 hnb (by simpa using fun e => hne e.symm)
  have d1 : ldCell h1 (.ptr rb (0 + 0)) = some (.ptr nb 0) := RowH.cell' k1 rfl
  have d2 : ldCell h1 (.ptr nb (0 + 67 + c)) = some (.int .u64 (N.ta.getD c 0 : Int)) := RowH.cell' kn1 (by rw [Nat.zero_add, net_ta hN hc])
  repeat (first | (with_reducible refine Wp.lett ?_) | ((with_reducible apply Wp.obind); (with_reducible first | exact d1 | exact d2 | exact e3 | exact avInt_int _ _ | exact nilC_ptr _ _ | exact fldP_ptr _ _ _)))
  rw [andI_nat hm (getD_small hN.ts c), ← he]
  refine Wp.st1 k1 (by show 2 < 3; decide) rfl fun h2 k2 t2 _ => ?_
  exact Wp.ret ⟨rfl, k2, t1.trans t2⟩
 repeat (first | (with_reducible refine Wp.join1 (fun _ _ => ?_)) | ((with_reducible apply Wp.obind); (with_reducible first | exact c1 | exact c2 | exact c5 | exact avInt_int _ _ | exact avBool_bool _ | exact nilC_ptr _ _ | exact fldP_ptr _ _ _)) | ((with_reducible refine Wp.iff ?_ ?_); (with_reducible rfl)) | ((with_reducible apply Wp.callN); (with_reducible exact e0)))
 cases hb : st.1 with
 | true =>
  repeat (first | ((with_reducible apply Wp.obind); (with_reducible first | exact c1 | exact c3 | exact avInt_int _ _ | exact nilC_ptr _ _ | exact fldP_ptr _ _ _)) | ((with_reducible refine Wp.ift ?_ ?_); (with_reducible rfl)) | ((with_reducible apply Wp.callN); (with_reducible exact e1)) | (with_reducible refine Wp.go1 (by assumption) ?_))
  exact fin (N.behind st.2) (N.behind_small hN _) (by unfold stepN; rw [if_pos hb])
 | false =>
  repeat (first | ((with_reducible apply Wp.obind); (with_reducible first | exact nilC_ptr _ _ | exact fldP_ptr _ _ _)) | ((with_reducible refine Wp.iff ?_ ?_); (with_reducible rfl)) | (with_reducible refine Wp.go1 (by assumption) ?_))
  exact fin N.first hN.f (by unfold stepN; rw [if_neg (by rw [hb]; decide)])
end
section
variable {N : Nt} {n d nb rb : Nat} {h h0 : AHeap} {Q : ARes → AHeap → Prop} {st : Bool × Nat} {S : List Nat} {rs : List RowT}
theorem begin_m (M : Abs.Mem S h0 h rs) : ∃ h', world n (d + 1) 17 [.ptr nb 0] h = some (.ret (.ptr h.next 0), h') ∧ Abs.Mem S h0 h' ((h.next, TRun, runC nb (false, 0)) :: rs) := by
 apply Wp.ex
 rw [w_nfa_Net_Begin]
 unfold nfa_Net_Begin
 have Mx := M
 repeat (first | ((with_reducible apply Wp.obind); (with_reducible exact avBool_bool _)) | ((with_reducible apply Wp.mbox Mx); (rfl); intro _ Mz; clear Mx; have Mx := Mz; clear Mz) | ((with_reducible apply Wp.obind); (with_reducible exact bldRun _ _)) | ((with_reducible refine Wp.iff ?_ ?_); (with_reducible rfl)) | ((with_reducible apply Wp.outK); (with_reducible exact eqNet _ _ _)))
 exact Wp.ret ⟨rfl, Mx⟩
theorem copy_m (M : Abs.Mem S h0 h rs) (kr : RowH h rb TRun (runC nb st)) : ∃ h', world n (d + 1) 23 [.ptr rb 0] h = some (.ret (.ptr h.next 0), h') ∧ Abs.Mem S h0 h' ((h.next, TRun, runC nb st) :: rs) := by
 apply Wp.ex
 rw [w_nfa_Run_Copy]
 unfold nfa_Run_Copy
 have Mx := M
 have e1 : ldRow h 3 (.ptr rb 0) = some (runC nb st) := kr.ldAll rfl
 repeat (first | ((with_reducible apply Wp.obind); (with_reducible first | exact avBool_bool _ | exact nilC_ptr _ _)) | ((with_reducible apply Wp.sa0 Mx); rfl; rfl; (rfl); intro _ Mz; clear Mx; have Mx := Mz; clear Mz) | ((with_reducible apply Wp.mnew Mx); intro _ Mz; clear Mx; have Mx := Mz; clear Mz) | ((with_reducible apply Wp.obind); (with_reducible exact e1)) | ((with_reducible refine Wp.iff ?_ ?_); (with_reducible rfl)) | ((with_reducible apply Wp.outK); (with_reducible exact eqRun _ _ _)) | rw [newP_eq])
 refine Wp.ret ⟨rfl, ?_⟩
 exact Mx
theorem dead_false {st : Bool × Nat} (hb : st.1 = true) (hd : deadN N st = true) (s : Bytes) : doneN N (runN N st s) = false := by
 obtain ⟨b, m⟩ := st
 have : b = true := hb
 subst this
 have : m = 0 := of_decide_eq_true hd
 subst this
 rw [run_zero]
 show decide (0 &&& N.last ≠ 0) = false
 rw [Nat.zero_and]
 rfl
theorem run_cons {s : Bytes} {i : Nat} (hi : i < s.length) (st : Bool × Nat) : runN N st (s.drop i) = runN N (stepN N st (s[i]).toNat) (s.drop (i + 1)) := by
 rw [List.drop_eq_getElem_cons hi]
 rfl
theorem byte_lt {s : Bytes} {i : Nat} (hi : i < s.length) : (s[i]).toNat < 256 := (s[i]).toNat_lt
theorem match_loop {s : Bytes} {k17 : AHeap → R} {h4 : AHeap} (hT : HasTz h0) (hN : NtOk N) (hn : 18446744073709551616 < n) (hl : s.length < 1000000000) (kn : RowH h0 nb TNet (netC N)) (hnb : nb < h0.next)
  (hk : ∀ (st : Bool × Nat) (H : AHeap), st.2 < 18446744073709551616 → Abs.Mem [] h0 H [(h4.next, TRun, runC nb st)] → doneN N st = matchN N s → Wp (k17 H) Q) (hq : ∀ H, Tch [] h0 H → matchN N s = false → Q (.ret (.bool false)) H) :
  ∀ (m f i : Nat) (st : Bool × Nat) (H : AHeap), m < f → i + m = s.length → st.2 < 18446744073709551616 → doneN N (runN N st (s.drop i)) = matchN N s → Abs.Mem [] h0 H [(h4.next, TRun, runC nb st)] → Wp (nfa_Net_Match_L0 (world n (d + 3)) s h4 k17 f (i : Int) H) Q
 | _, 0, _, _, _, hf, _, _, _, _ => by omega
 | 0, f + 1, i, st, H, hf, hm, hs, hr, M => by
  have ll := lenS_nat s
  rw [nfa_Net_Match_L0_s]
  unfold nfa_Net_Match_L0b
  repeat (first | (with_reducible refine Wp.lett ?_) | ((with_reducible refine Wp.iff ?_ ?_); ((with_reducible apply decide_eq_false); omega)))
  refine hk st H hs M ?_
  rw [List.drop_of_length_le (by omega)] at hr
  exact hr
 | m + 1, f + 1, i, st, H, hf, hm, hs, hr, M => by
  have ll := lenS_nat s
  have hi : i < s.length := by omega
  rw [nfa_Net_Match_L0_s]
  unfold nfa_Net_Match_L0b
  have hx := idxS_nat hi
  have kn1 := kn.tch M.tch hnb (by simp)
  have hn1 := Nat.lt_of_lt_of_le hnb M.tch.1
  have hne : h4.next ≠ nb := by
   have := M.at0.2.2.resolve_left (by simp)
   omega
  obtain ⟨h1, e1, k1, t1⟩ := step_r (n := n) (d := d) (hT.tch M.tch (by simp)) hN hs hn hne (byte_lt hi) M.at0.1 kn1 hn1
  have M1 := Mem.upd (xs := []) M t1 k1
  have kn2 := kn1.tch t1 hn1 (by simpa using fun e => hne e.symm)
  have e2 := dead_w (n := n) (d := d + 1) k1 kn2
  have el : (i : Int) + 1 = ((i + 1 : Nat) : Int) := by omega
  rw [run_cons hi] at hr
  ((with_reducible refine Wp.lett ?_))
  refine Wp.ift (decide_eq_true (by omega)) ?_
  refine Wp.obind hx ?_
  rw [newP_eq]
  refine Wp.callN e1 ?_
  refine Wp.callN e2 ?_
  refine Wp.obind (avBool_bool _) ?_
  cases hd : deadN N (stepN N st (s[i]).toNat) with
  | true =>
   (((with_reducible refine Wp.ift ?_ ?_); (with_reducible rfl)))
   refine Wp.ret (hq _ M1.tch ?_)
   rw [← hr]
   exact dead_false rfl hd _
  | false =>
   repeat (first | ((with_reducible refine Wp.lettw ?_ ?_ ?_); omega; omega) | ((with_reducible refine Wp.iff ?_ ?_); (with_reducible rfl)))
   rw [el]
   exact match_loop hT hN hn hl kn hnb hk hq m f (i + 1) _ h1 (by omega) (by omega) (step_small hN _ _) hr M1
theorem match_r {s : Bytes} (hT : HasTz h) (hN : NtOk N) (hn : 18446744073709551616 < n) (hl : s.length < 1000000000) (kn : RowH h nb TNet (netC N)) (hnb : nb < h.next) : ∃ h', world n (d + 4) 14 [.ptr nb 0, strA s] h = some (.ret (.bool (matchN N s)), h') ∧ Tch [] h h' := by
 apply Wp.ex
 rw [w_nfa_Net_Match]
 unfold nfa_Net_Match
 have Mx := Mem.nil [] h
 repeat (first | ((with_reducible apply Wp.obind); (with_reducible exact avBool_bool _)) | ((with_reducible apply Wp.sa0 Mx); rfl; rfl; (rfl); intro _ Mz; clear Mx; have Mx := Mz; clear Mz) | ((with_reducible apply Wp.mnew Mx); intro _ Mz; clear Mx; have Mx := Mz; clear Mz) | (with_reducible refine Wp.join0 (fun _ _ => ?_)) | ((with_reducible apply Wp.obind); (with_reducible exact bldRun _ _)) | ((with_reducible refine Wp.iff ?_ ?_); (with_reducible rfl)) | ((with_reducible apply Wp.outK); (with_reducible exact eqNet _ _ _)) | rw [newP_eq])
 rename_i k17 ek17
 refine match_loop (h0 := h) hT hN hn hl kn hnb (fun st H hs M hd => ?_) (fun H t e => ⟨by rw [e], t⟩) s.length n 0 (false, 0) _ (by omega) (by omega) (show 0 < _ by decide) (by rw [List.drop_zero]; rfl) Mx
 rw [ek17]
 have e2 := done_w (n := n) (d := d + 1) hN hs M.at0.1 (kn.tch M.tch hnb (by simp))
 refine Wp.callN e2 ?_
 (((with_reducible apply Wp.obind); (with_reducible exact avBool_bool _)))
 exact Wp.ret ⟨by rw [hd], M.tch⟩
set_option maxRecDepth 100000 in
theorem nilNet (h : AHeap) : opBin Tryd.prog h .eql 25 true (some AV.nilp) (some AV.nilp) = some (.val (.bool true), h) := by kernel_rfl
set_option maxRecDepth 100000 in
theorem nilRun (h : AHeap) : opBin Tryd.prog h .eql 44 true (some AV.nilp) (some AV.nilp) = some (.val (.bool true), h) := by kernel_rfl
theorem match_nil (s : Bytes) (h : AHeap) : world n (d + 1) 14 [.nilp, strA s] h = some (.ret (.bool false), h) := by
 apply Wp.eq
 rw [w_nfa_Net_Match]
 unfold nfa_Net_Match
 repeat (first | ((with_reducible apply Wp.obind); (with_reducible exact avBool_bool _)) | ((with_reducible refine Wp.ift ?_ ?_); (with_reducible rfl)) | ((with_reducible apply Wp.outK); (with_reducible exact nilNet _)))
 exact Wp.ret ⟨rfl, rfl⟩
theorem begin_nil (h : AHeap) : world n (d + 1) 17 [.nilp] h = some (.ret .nilp, h) := by
 apply Wp.eq
 rw [w_nfa_Net_Begin]
 unfold nfa_Net_Begin
 repeat (first | ((with_reducible apply Wp.obind); (with_reducible exact avBool_bool _)) | ((with_reducible refine Wp.ift ?_ ?_); (with_reducible rfl)) | ((with_reducible apply Wp.outK); (with_reducible exact nilNet _)))
 exact Wp.ret ⟨rfl, rfl⟩
section
variable {u : Bytes}
theorem tree_long {u : Bytes} (l : 64 < u.length) {kind : Int} (hk : kind = 1 ∨ kind = 2 ∨ kind = 3) {n D : Nat} {h : AHeap} : world n (D + 1) 24 [.agg [.int .i64 kind, strA u]] h = some (.ret (.tup [.agg (nodeC 0 zeroW .nsl), .agg [.int .i64 3, .int .i64 64]]), h) := by
 rcases hk with rfl | rfl | rfl
 ·apply Wp.eq
  rw [w_pattern_Tree]
  refine Wp.gc ?_
  suffices hK : Wp (pattern_Tree (world n D) n [.int .i64 1, strA u] h) fun r h' => r = .ret (.tup [.agg (nodeC 0 zeroW .nsl), .agg [.int .i64 3, .int .i64 64]]) ∧ Tch [] h h' from hK.mono fun r h' ⟨e, t⟩ => ⟨t.above, by rw [e]; rfl, e, rfl⟩
  unfold pattern_Tree
  have ll := lenS_nat u
  have Mx := Mem.nil [] h
  repeat (first | ((with_reducible apply Wp.obind); (with_reducible first | exact avInt_int _ _ | exact avStr_str _ | exact fldP_ptr _ _ _)) | ((with_reducible apply Wp.lr0 Mx); rfl) | ((with_reducible apply Wp.sa0 Mx); rfl; rfl; (rfl); intro _ Mz; clear Mx; have Mx := Mz; clear Mz) | ((with_reducible apply Wp.lr1 Mx); rfl) | ((with_reducible apply Wp.sa1 Mx); rfl; rfl; (rfl); intro _ Mz; clear Mx; have Mx := Mz; clear Mz) | ((with_reducible apply Wp.ld2 Mx); rfl) | ((with_reducible apply Wp.mnew Mx); intro _ Mz; clear Mx; have Mx := Mz; clear Mz) | ((with_reducible apply Wp.mbox Mx); (rfl); intro _ Mz; clear Mx; have Mx := Mz; clear Mz) | (with_reducible refine Wp.join1 (fun _ _ => ?_)) | (with_reducible refine Wp.lett ?_) | ((with_reducible refine Wp.ift ?_ ?_); ((with_reducible first | apply decide_eq_true | apply bne_t); omega)) | ((with_reducible refine Wp.iff ?_ ?_); first | (with_reducible rfl) | ((with_reducible apply bne_f); omega)) | (with_reducible refine Wp.go1 (by assumption) ?_) | rw [newP_eq])
  exact Wp.ret ⟨rfl, Mx.tch⟩
 ·apply Wp.eq
  rw [w_pattern_Tree]
  refine Wp.gc ?_
  suffices hK : Wp (pattern_Tree (world n D) n [.int .i64 2, strA u] h) fun r h' => r = .ret (.tup [.agg (nodeC 0 zeroW .nsl), .agg [.int .i64 3, .int .i64 64]]) ∧ Tch [] h h' from hK.mono fun r h' ⟨e, t⟩ => ⟨t.above, by rw [e]; rfl, e, rfl⟩
  unfold pattern_Tree
  have ll := lenS_nat u
  have Mx := Mem.nil [] h
  repeat (first | ((with_reducible apply Wp.obind); (with_reducible first | exact avInt_int _ _ | exact avStr_str _ | exact fldP_ptr _ _ _)) | ((with_reducible apply Wp.lr0 Mx); rfl) | ((with_reducible apply Wp.sa0 Mx); rfl; rfl; (rfl); intro _ Mz; clear Mx; have Mx := Mz; clear Mz) | ((with_reducible apply Wp.lr1 Mx); rfl) | ((with_reducible apply Wp.sa1 Mx); rfl; rfl; (rfl); intro _ Mz; clear Mx; have Mx := Mz; clear Mz) | ((with_reducible apply Wp.ld2 Mx); rfl) | ((with_reducible apply Wp.mnew Mx); intro _ Mz; clear Mx; have Mx := Mz; clear Mz) | ((with_reducible apply Wp.mbox Mx); (rfl); intro _ Mz; clear Mx; have Mx := Mz; clear Mz) | (with_reducible refine Wp.join1 (fun _ _ => ?_)) | (with_reducible refine Wp.lett ?_) | ((with_reducible refine Wp.ift ?_ ?_); ((with_reducible first | apply decide_eq_true | apply bne_t); omega)) | ((with_reducible refine Wp.iff ?_ ?_); first | (with_reducible rfl) | ((with_reducible apply bne_f); omega)) | (with_reducible refine Wp.go1 (by assumption) ?_) | rw [newP_eq])
  exact Wp.ret ⟨rfl, Mx.tch⟩
 ·apply Wp.eq
  rw [w_pattern_Tree]
  refine Wp.gc ?_
  suffices hK : Wp (pattern_Tree (world n D) n [.int .i64 3, strA u] h) fun r h' => r = .ret (.tup [.agg (nodeC 0 zeroW .nsl), .agg [.int .i64 3, .int .i64 64]]) ∧ Tch [] h h' from hK.mono fun r h' ⟨e, t⟩ => ⟨t.above, by rw [e]; rfl, e, rfl⟩
  unfold pattern_Tree
  have ll := lenS_nat u
  have Mx := Mem.nil [] h
  repeat (first | ((with_reducible apply Wp.obind); (with_reducible first | exact avInt_int _ _ | exact avStr_str _ | exact fldP_ptr _ _ _)) | ((with_reducible apply Wp.lr0 Mx); rfl) | ((with_reducible apply Wp.sa0 Mx); rfl; rfl; (rfl); intro _ Mz; clear Mx; have Mx := Mz; clear Mz) | ((with_reducible apply Wp.lr1 Mx); rfl) | ((with_reducible apply Wp.sa1 Mx); rfl; rfl; (rfl); intro _ Mz; clear Mx; have Mx := Mz; clear Mz) | ((with_reducible apply Wp.ld2 Mx); rfl) | ((with_reducible apply Wp.mnew Mx); intro _ Mz; clear Mx; have Mx := Mz; clear Mz) | ((with_reducible apply Wp.mbox Mx); (rfl); intro _ Mz; clear Mx; have Mx := Mz; clear Mz) | (with_reducible refine Wp.join1 (fun _ _ => ?_)) | (with_reducible refine Wp.lett ?_) | ((with_reducible refine Wp.ift ?_ ?_); ((with_reducible first | apply decide_eq_true | apply bne_t); omega)) | ((with_reducible refine Wp.iff ?_ ?_); ((with_reducible apply bne_f); omega)) | (with_reducible refine Wp.go1 (by assumption) ?_) | rw [newP_eq])
  exact Wp.ret ⟨rfl, Mx.tch⟩
end
theorem of_all (k : Int) (u : Bytes) {n d : Nat} (hn : 18446744073709551620 < n) (hd : 1000 ≤ d) : (∀ h : AHeap, memB TNode h.ex = false → world n (d + 1) 12 [.agg [.int .i64 k, strA u]] h = some (.ret (.tup [.nilp, .int .i64 2]), h)) ∨
  ∃ t, TreeP u k (.ok t) ∧ u.length ≤ 64 ∧ ∀ h : AHeap, memB TNode h.ex = false → ∃ nb h', world n (d + 1) 12 [.agg [.int .i64 k, strA u]] h = some (.ret (.tup [.ptr nb 0, .int .i64 0]), h') ∧ Abs.Mem [] h h' [(nb, TNet, netC (netOf t))] := by
 obtain ⟨D, rfl⟩ : ∃ D, d = D + 3 := ⟨d - 3, by omega⟩
 by_cases hk : k = 1 ∨ k = 2 ∨ k = 3
 ·by_cases hl : 64 < u.length
  ·exact .inl fun h hx => of_bad (e1 := 3) (q := 64) (by decide) (fun h hx => tree_long hl hk) hx
  ·obtain ⟨r, r1, _, r3⟩ := (tree_kinds (u := u) (by omega) hk).2 (by omega)
   cases r with
   | error q => exact .inl fun h hx => of_bad (e1 := 6) (q := (q : Int)) (by decide) (fun h hx => r3 (by omega) (by omega) hx) hx
   | ok t =>
    have hz := treeP_small r1
    exact .inr ⟨t, r1, by omega, fun h hx => of_ok (treeP_oneK r1) (by omega) (by omega) hn (fun h hx => r3 (by omega) (by omega) hx) hx⟩
 ·exact .inl fun h hx => of_bad (e1 := 2) (q := 0) (by decide) (fun h hx => tree_kind hk) hx
end
def exT : Nd := .mk 3 zeroW [.mk 6 zeroW [oneN 97], oneN 98]
abbrev exU : Bytes := [97, 43, 98]
set_option maxRecDepth 100000 in
theorem ex_dead : deadN (netOf exT) (stepN (netOf exT) (false, 0) 98) = true := by kernel_rfl
set_option maxRecDepth 100000 in
theorem ex_dead0 : deadN (netOf exT) (false, 0) = false := by kernel_rfl
set_option maxRecDepth 100000 in
theorem ex_done0 : doneN (netOf exT) (false, 0) = false := by kernel_rfl
set_option maxRecDepth 100000 in
theorem ex_aab : matchN (netOf exT) [97, 97, 98] = true := by kernel_rfl
set_option maxRecDepth 100000 in
theorem ex_b : matchN (netOf exT) [98] = false := by kernel_rfl
theorem exStop0 : ¬ stops exU 0 := by unfold stops; decide
theorem exStop2 : ¬ stops exU 2 := by unfold stops; decide
theorem ex_part0 : PartP exU 0 (.ok (.mk 6 zeroW [oneN 97], 2)) := PartP.sign (i := 0) (j := 1) (t := oneN 97) (.one (c := 97) rfl (by unfold badAtom; decide) (by decide)) (by decide)
theorem ex_part2 : PartP exU 2 (.ok (oneN 98, 3)) := PartP.bare (.one (c := 98) rfl (by unfold badAtom; decide) (by decide)) rfl
theorem ex_row : RowP exU [] 0 (.ok (exT, 3)) := .more exStop0 ex_part0 (.more exStop2 ex_part2 (RowP.stop (l := [.mk 6 zeroW [oneN 97], oneN 98]) (i := 3) (.inl rfl)))
theorem ex_alt : AltP exU [] 0 (.ok (exT, 3)) := AltP.last (l := []) (t := exT) ex_row (by decide)
theorem ex_tree {r : Except Nat Nd} (h : TreeP exU 3 r) : r = .ok exT := by
 generalize hk : (3 : Int) = k at h
 cases h with
 | lit a => cases hk
 | glob a => cases hk
 | re_bad a => cases altP_one a ex_alt
 | re_end a n =>
  cases altP_one a ex_alt
  exact absurd rfl n
 | re a =>
  cases altP_one a ex_alt
  rfl
theorem of_ex {n d : Nat} {h : AHeap} (hn : 18446744073709551620 < n) (hd : 1000 ≤ d) (hx : memB TNode h.ex = false) : ∃ nb h', world n (d + 1) 12 [.agg [.int .i64 3, strA exU]] h = some (.ret (.tup [.ptr nb 0, .int .i64 0]), h') ∧ Abs.Mem [] h h' [(nb, TNet, netC (netOf exT))] := by
 obtain ⟨D, rfl⟩ : ∃ D, d = D + 3 := ⟨d - 3, by omega⟩
 obtain ⟨r, r1, _, r3⟩ := (tree_kinds (u := exU) (by decide) (.inr (.inr rfl))).2 (by decide)
 obtain rfl := ex_tree r1
 exact of_ok (treeP_oneK r1) (by have := treeP_small r1; have : exU.length = 3 := rfl; omega) (by have := treeP_small r1; have : exU.length = 3 := rfl; omega) hn (fun h hx => r3 (by omega) (by omega) hx) hx
theorem works_w {n d : Nat} {h : AHeap} (hn : 18446744073709551620 < n) (hd : 1000 ≤ d) (hT : HasTz h) (hx : memB TNode h.ex = false) : world n (d + 2) 11 [] h = some (.ret (.bool true), h) := by
 apply Wp.eq
 rw [w_law10_works]
 refine Wp.gc ?_
 suffices hK : Wp (law10_works (world n (d + 1)) n h) fun r h' => r = .ret (.bool true) ∧ Tch [] h h' from hK.mono fun r h' ⟨e, t⟩ => ⟨t.above, by rw [e]; rfl, e, rfl⟩
 obtain ⟨D, rfl⟩ : ∃ D, d = D + 3 := ⟨d - 3, by omega⟩
 unfold law10_works
 obtain ⟨nb, h1, e1, M1⟩ := of_ex hn hd hx
 have hN := netOf_ok exT
 refine Wp.callN e1 ?_
 repeat (first | (with_reducible refine Wp.join1 (fun _ _ => ?_)) | (with_reducible refine Wp.lett ?_) | ((with_reducible apply Wp.obind); (with_reducible first | exact avInt_int _ _ | exact avBool_bool _ | exact extT_0 _ _ | exact extT_1 _ _ _)) | ((with_reducible refine Wp.iff ?_ ?_); first | (with_reducible rfl) | ((with_reducible apply bne_f); omega)) | ((with_reducible apply Wp.outK); (with_reducible exact eqNet _ _ _)) | (with_reducible refine Wp.go1 (by assumption) ?_))
 obtain ⟨h2, e2, M2⟩ := begin_m (n := n) (d := D + 3) (nb := nb) M1
 refine Wp.callN e2 ?_
 have d0 := done_w (n := n) (d := D + 2) hN (show ((false, 0) : Bool × Nat).2 < _ by decide) M2.at0.1 M2.at1.1
 rw [ex_done0] at d0
 have d1 := dead_w (n := n) (d := D + 2) M2.at0.1 M2.at1.1
 rw [ex_dead0] at d1
 repeat (first | (with_reducible refine Wp.join1 (fun _ _ => ?_)) | ((with_reducible apply Wp.obind); (with_reducible exact avBool_bool _)) | ((with_reducible refine Wp.iff ?_ ?_); (with_reducible rfl)) | ((with_reducible apply Wp.callN); (with_reducible first | exact d0 | exact d1)) | ((with_reducible apply Wp.outK); (with_reducible exact eqRun _ _ _)) | (with_reducible refine Wp.go1 (by assumption) ?_))
 have hne : h1.next ≠ nb := fun e => by
  have := M1.at0.2.1
  omega
 obtain ⟨h3, e3, k3, t3⟩ := step_r (n := n) (d := D + 1) (c := 98) (hT.tch M2.tch (by simp)) hN (show ((false, 0) : Bool × Nat).2 < _ by decide) (by omega) hne (by decide) M2.at0.1 M2.at1.1 M2.at1.2.1
 refine Wp.callN e3 ?_
 have M3 := Mem.upd (xs := []) M2 t3 k3
 simp only [List.nil_append] at M3
 have d2 := dead_w (n := n) (d := D + 2) M3.at0.1 M3.at1.1
 rw [ex_dead] at d2
 repeat (first | (with_reducible refine Wp.join1 (fun _ _ => ?_)) | ((with_reducible apply Wp.obind); (with_reducible exact avBool_bool _)) | ((with_reducible refine Wp.ift ?_ ?_); (with_reducible rfl)) | ((with_reducible apply Wp.callN); (with_reducible exact d2)))
 obtain ⟨h4, e4, t4⟩ := match_r (n := n) (d := D) (s := [97, 97, 98]) (hT.tch M3.tch (by simp)) hN (by omega) (by decide) M3.at1.1 M3.at1.2.1
 rw [ex_aab] at e4
 refine Wp.callN e4 ?_
 have M4 := M3.keep t4
 repeat (first | (with_reducible refine Wp.join1 (fun _ _ => ?_)) | ((with_reducible apply Wp.obind); (with_reducible exact avBool_bool _)) | ((with_reducible refine Wp.ift ?_ ?_); (with_reducible rfl)) | (with_reducible refine Wp.go1 (by assumption) ?_))
 obtain ⟨h5, e5, t5⟩ := match_r (n := n) (d := D) (s := [98]) (hT.tch M4.tch (by simp)) hN (by omega) (by decide) M4.at1.1 M4.at1.2.1
 rw [ex_b] at e5
 refine Wp.callN e5 ?_
 repeat (first | (with_reducible refine Wp.lett ?_) | ((with_reducible apply Wp.obind); (with_reducible exact avBool_bool _)) | (with_reducible refine Wp.go1 (by assumption) ?_))
 exact Wp.ret ⟨rfl, (M4.keep t5).tch⟩
end Go.Proofs.YtakhljnkmbpmpaaDoor
namespace Go.Proofs.YtakhljnkmbpmpaaDoor
open Go.RowKit Abs
section
variable {N : Nt} {n d nb rb : Nat} {h0 : AHeap} {Q : ARes → AHeap → Prop} {ys : List RowT}
end
set_option maxRecDepth 100000 in
theorem pat_of {N : Nat} {h : AHeap} {x : AV} (hp : ArgP Tryd.prog N h 12 23 x) : ∃ (k : Int) (u : Bytes), x = .agg [.int .i64 k, strA u] ∧ u.length ≤ reachBytes := by
 obtain ⟨l, rfl, hpl⟩ := hp.agg (by kernel_rfl)
 obtain ⟨y1, y2, rfl, p1, p2⟩ := hpl.struct2 Tryd.underlying23
 obtain ⟨k, rfl, _⟩ := p1.int Tryd.underlying3
 obtain ⟨u, rfl, hu⟩ := p2.str Tryd.underlying9
 exact ⟨k, u, rfl, hu⟩
abbrev tzI64 : List Int := [0, 1, 56, 2, 57, 49, 28, 3, 61, 58, 42, 50, 38, 29, 17, 4, 62, 47, 59, 36, 45, 43, 51, 22, 53, 39, 33, 30, 24, 18, 12, 5, 63, 55, 48, 27, 60, 41, 37, 16, 46, 35, 44, 21, 52, 32, 23, 11, 54, 26, 40, 15, 34, 20, 31, 10, 25, 14, 19, 9, 13, 8, 7, 6]
theorem tzC_ints : tzC = tzI64.map fun z => AV.int .u8 z := by kernel_rfl
noncomputable def tzG : Tabs := [(0, tzI64.map fun z => AV.int .u8 z)]
theorem tz_of {h : AHeap} {X : List Nat} {G : Nat} (hG : 0 < G) (k : Keeps (startG tzG X G) h) : HasTz h :=
 ⟨k.2.2 _ _ (by show (tabTree tzG).get _ = _; unfold tzG tabTree; rw [T.get_set_same, tzC_ints]), Nat.lt_of_lt_of_le hG k.1⟩
noncomputable def law10_NfaCopies_L2b (call : CallF) (t1 : Bytes) (r64 : AV) (k60 : AHeap → R) (self : Int → AHeap → R) (t14 : Int) (h_149 : AHeap) : R :=
 lett (decide (t14 < (lenS t1))) fun (t70 : Bool) =>
 ifB t70
 (
  obind (idxS t1 t14) fun t76 =>
  callN (call 21 [r64, .int .u8 t76] h_149) fun _ h_156 =>
  lett (IntKind.i64.wrap (t14 + 1)) fun (t72 : Int) =>
  self t72 h_156)
 (
  k60 h_149)
noncomputable def law10_NfaCopies_L2 (call : CallF) (t1 : Bytes) (r64 : AV) (k60 : AHeap → R) : Nat → Int → AHeap → R := iterR (fun _ _ => none) (law10_NfaCopies_L2b call t1 r64 k60)
theorem law10_NfaCopies_L2_s (call : CallF) (t1 : Bytes) (r64 : AV) (k60 : AHeap → R) (m : Nat) : law10_NfaCopies_L2 call t1 r64 k60 (m + 1) = law10_NfaCopies_L2b call t1 r64 k60 (law10_NfaCopies_L2 call t1 r64 k60 m) := rfl
noncomputable def law10_NfaCopies_L1b (call : CallF) (t2 : Bytes) (r64 : AV) (k77 : AHeap → R) (self : Int → AHeap → R) (t16 : Int) (h_135 : AHeap) : R :=
 lett (decide (t16 < (lenS t2))) fun (t90 : Bool) =>
 ifB t90
 (
  obind (idxS t2 t16) fun t96 =>
  callN (call 21 [r64, .int .u8 t96] h_135) fun _ h_142 =>
  lett (IntKind.i64.wrap (t16 + 1)) fun (t92 : Int) =>
  self t92 h_142)
 (
  k77 h_135)
noncomputable def law10_NfaCopies_L1 (call : CallF) (t2 : Bytes) (r64 : AV) (k77 : AHeap → R) : Nat → Int → AHeap → R := iterR (fun _ _ => none) (law10_NfaCopies_L1b call t2 r64 k77)
theorem law10_NfaCopies_L1_s (call : CallF) (t2 : Bytes) (r64 : AV) (k77 : AHeap → R) (m : Nat) : law10_NfaCopies_L1 call t2 r64 k77 (m + 1) = law10_NfaCopies_L1b call t2 r64 k77 (law10_NfaCopies_L1 call t2 r64 k77 m) := rfl
noncomputable def law10_NfaCopies_L0b (call : CallF) (t3 : Bytes) (r79 : AV) (k82 : AHeap → R) (self : Int → AHeap → R) (t17 : Int) (h_124 : AHeap) : R :=
 lett (decide (t17 < (lenS t3))) fun (t101 : Bool) =>
 ifB t101
 (
  obind (idxS t3 t17) fun t107 =>
  callN (call 21 [r79, .int .u8 t107] h_124) fun _ h_131 =>
  lett (IntKind.i64.wrap (t17 + 1)) fun (t103 : Int) =>
  self t103 h_131)
 (
  k82 h_124)
noncomputable def law10_NfaCopies_L0 (call : CallF) (t3 : Bytes) (r79 : AV) (k82 : AHeap → R) : Nat → Int → AHeap → R := iterR (fun _ _ => none) (law10_NfaCopies_L0b call t3 r79 k82)
theorem law10_NfaCopies_L0_s (call : CallF) (t3 : Bytes) (r79 : AV) (k82 : AHeap → R) (m : Nat) : law10_NfaCopies_L0 call t3 r79 k82 (m + 1) = law10_NfaCopies_L0b call t3 r79 k82 (law10_NfaCopies_L0 call t3 r79 k82 m) := rfl
noncomputable def law10_NfaCopies (call : CallF) (n : Nat) (t0 : List AV) (t1 : Bytes) (t2 : Bytes) (t3 : Bytes) (h : AHeap) : R :=
 outK (opBox h 23 (some (.agg t0))) fun v4 h_2 =>
 callN (call 11 [] h_2) fun r19 h_6 =>
 obind (avBool r19) fun t19 =>
 lett (!t19) fun (t20 : Bool) =>
 ifB t20
 (
  some (.ret (.bool false), h_6))
 (
  callN (call 21 [AV.nilp, .int .u8 97] h_6) fun _ h_14 =>
  callN (call 14 [AV.nilp, strA t1] h_14) fun r25 h_18 =>
  obind (avBool r25) fun t25 =>
  lett (fun (t30 : Bool) (h_21 : AHeap) =>
   lett (fun (t34 : Bool) (h_24 : AHeap) =>
    lett (fun (t39 : Bool) (h_27 : AHeap) =>
     lett (fun (t44 : Bool) (h_30 : AHeap) =>
      ifB t44
      (
       some (.ret (.bool false), h_30))
      (
       obind (ldRow h_30 2 v4) fun t46 =>
       callN (call 12 [.agg t46] h_30) fun r47 h_36 =>
       obind (extT 0 r47) fun v48 =>
       obind (extT 1 r47) fun v49 =>
       obind (avInt .i64 v49) fun t49 =>
       lett ((t49 : Int) != 0) fun (t51 : Bool) =>
       lett (fun (t62 : Bool) (h_44 : AHeap) =>
        ifB t62
        (
         some (.ret (.bool true), h_44))
        (
         callN (call 17 [v48] h_44) fun r64 h_49 =>
         outK (opBin Tryd.prog h_49 .eql 44 true (some r64) (some AV.nilp)) fun v66 h_53 =>
         obind (avBool v66) fun t66 =>
         ifB t66
         (
          some (.ret (.bool false), h_53))
         (
          lett (fun  (h_61 : AHeap) =>
           callN (call 23 [r64] h_61) fun r79 h_63 =>
           outK (opBin Tryd.prog h_63 .eql 44 true (some r79) (some AV.nilp)) fun v81 h_67 =>
           obind (avBool v81) fun t81 =>
           lett (fun (t86 : Bool) (h_70 : AHeap) =>
            ifB t86
            (
             some (.ret (.bool false), h_70))
            (
             lett (fun  (h_78 : AHeap) =>
              lett (fun  (h_83 : AHeap) =>
               callN (call 17 [v48] h_83) fun r110 h_85 =>
               outK (opBin Tryd.prog h_85 .neq 44 true (some r110) (some AV.nilp)) fun v112 h_88 =>
               obind (avBool v112) fun t112 =>
               lett (fun (t122 : Bool) (h_91 : AHeap) =>
                lett (fun (t132 : Bool) (h_94 : AHeap) =>
                 lett (fun (t139 : Bool) (h_97 : AHeap) =>
                  some (.ret (.bool t139), h_97)) fun j139 =>
                 ifB t132
                 (
                  callN (call 18 [r110] h_94) fun r135 h_100 =>
                  obind (avBool r135) fun t135 =>
                  callN (call 14 [v48, strA ([] : Bytes)] h_100) fun r137 h_103 =>
                  obind (avBool r137) fun t137 =>
                  lett ((t135 : Bool) == t137) fun (t138 : Bool) =>
                  j139 t138 h_103)
                 (
                  j139 false h_94)) fun j132 =>
                ifB t122
                (
                 callN (call 18 [r79] h_91) fun r125 h_107 =>
                 obind (avBool r125) fun t125 =>
                 obind (addS t1 t3) fun t129 =>
                 callN (call 14 [v48, strA t129] h_107) fun r130 h_111 =>
                 obind (avBool r130) fun t130 =>
                 lett ((t125 : Bool) == t130) fun (t131 : Bool) =>
                 j132 t131 h_111)
                (
                 j132 false h_91)) fun j122 =>
               ifB t112
               (
                callN (call 18 [r64] h_88) fun r115 h_115 =>
                obind (avBool r115) fun t115 =>
                obind (addS t1 t2) fun t119 =>
                callN (call 14 [v48, strA t119] h_115) fun r120 h_119 =>
                obind (avBool r120) fun t120 =>
                lett ((t115 : Bool) == t120) fun (t121 : Bool) =>
                j122 t121 h_119)
               (
                j122 false h_88)) fun k82 =>
              law10_NfaCopies_L0 call t3 r79 k82 n 0 h_78) fun k77 =>
             law10_NfaCopies_L1 call t2 r64 k77 n 0 h_70)) fun j86 =>
           ifB t81
           (
            j86 true h_67)
           (
            outK (opBinV Tryd.prog h_67 .eql 44 false (some r79) (some r64)) fun v85 h_145 =>
            obind (avBool v85) fun t85 =>
            j86 t85 h_145)) fun k60 =>
          law10_NfaCopies_L2 call t1 r64 k60 n 0 h_53))) fun j62 =>
       ifB t51
       (
        j62 true h_36)
       (
        lett (IntKind.i64.wrap ((lenS t1) + (lenS t2))) fun (t57 : Int) =>
        lett (IntKind.i64.wrap (t57 + (lenS t3))) fun (t60 : Int) =>
        lett (decide (t60 > 500)) fun (t61 : Bool) =>
        j62 t61 h_36))) fun j44 =>
     ifB t39
     (
      j44 true h_27)
     (
      callN (call 23 [AV.nilp] h_27) fun r42 h_162 =>
      outK (opBin Tryd.prog h_162 .neq 44 true (some r42) (some AV.nilp)) fun v43 h_164 =>
      obind (avBool v43) fun t43 =>
      j44 t43 h_164)) fun j39 =>
    ifB t34
    (
     j39 true h_24)
    (
     callN (call 19 [AV.nilp] h_24) fun r37 h_167 =>
     obind (avBool r37) fun t37 =>
     lett (!t37) fun (t38 : Bool) =>
     j39 t38 h_167)) fun j34 =>
   ifB t30
   (
    j34 true h_21)
   (
    callN (call 18 [AV.nilp] h_21) fun r33 h_171 =>
    obind (avBool r33) fun t33 =>
    j34 t33 h_171)) fun j30 =>
  ifB t25
  (
   j30 true h_18)
  (
   callN (call 17 [AV.nilp] h_18) fun r28 h_174 =>
   outK (opBin Tryd.prog h_174 .neq 44 true (some r28) (some AV.nilp)) fun v29 h_176 =>
   obind (avBool v29) fun t29 =>
   j30 t29 h_176))
set_option maxHeartbeats 4000000 in
set_option maxRecDepth 20000 in
theorem law10_NfaCopies_ok {call : CallF} (hc : SaysAll Tryd.prog call) {n : Nat} {t0 : List AV} {t1 : Bytes} {t2 : Bytes} {t3 : Bytes} {h : AHeap} {rR : ARes} {hR : AHeap} (hF : law10_NfaCopies call n t0 t1 t2 t3 h = some (rR, hR)) : Says Tryd.prog 9 [.agg t0, strA t1, strA t2, strA t3] h rR hR := by
 unfold law10_NfaCopies at hF
 refine sO Tryd.func9 fun w0 m0 => ?_
 refine wW [(0, .agg t0), (1, strA t1), (2, strA t2), (3, strA t3)] ?_
 refine oG fun n1 => W.r ?_
 refine oK 4 hF fun v4 h_2 hF => ?_
 refine oA 8 (.bool false) ?_
 refine oV [(1, strA t1), (2, strA t2), (3, strA t3), (4, v4)] (n1 ?_)
 refine oH fun n4 q4 => ?_
 refine oG fun n5 => W.r ?_
 refine oCb hc 19 hF fun t19 h_6 hF => ?_
 refine oB 20 hF fun t20 hF => ?_
 refine oV [(1, strA t1), (2, strA t2), (3, strA t3), (4, v4), (20, .bool t20)] (n5 ?_)
 cases t20 with
 | true =>
  refine oT hF fun hF => ?_
  refine oG fun n10 => W.r ?_
  refine oA 8 (.bool false) ?_
  refine oV [(8, .bool false)] (n10 (oY (q4 ?_)))
  exact lZ hF [.tmp 8] [.bool false] (rT res_nil)
 | false =>
  refine oU hF fun hF => ?_
  refine oZ (n4 ?_)
  refine oG fun n11 => W.r ?_
  refine oA 9 AV.nilp ?_
  refine oV [(1, strA t1), (2, strA t2), (3, strA t3), (4, v4), (9, AV.nilp)] (n11 ?_)
  refine oG fun n12 => W.r ?_
  refine oA 10 AV.nilp ?_
  refine oV [(1, strA t1), (2, strA t2), (3, strA t3), (4, v4), (9, AV.nilp), (10, AV.nilp)] (n12 ?_)
  refine oG fun n13 => W.r ?_
  refine oA 21 AV.nilp ?_
  refine oC hc (some 22) hF fun r22 h_14 hF => ?_
  refine oV [(1, strA t1), (2, strA t2), (3, strA t3), (4, v4), (9, AV.nilp), (10, AV.nilp)] (n13 ?_)
  refine oH fun n16 q16 => ?_
  refine W.s (fun K17 n17 e17 q17 p17 => ?_)
  refine W.r ?_
  refine oA 23 AV.nilp ?_
  refine oA 24 (strA t1) ?_
  refine oCb hc 25 hF fun t25 h_18 hF => ?_
  refine oA 26 (.bool t25) ?_
  obtain ⟨j30, e22, hF⟩ := lett_some hF
  have J23 : ∀ (t30 : Bool) (h_21 : AHeap), j30 t30 h_21 = some (rR, hR) → WL Tryd.prog w0 m0 (Func.ntmps Tryd.f9) (Code.ops (Code.p1 (Code.p1 (Code.p2 (Code.p2 (Code.p2 (Code.p2 (Code.p2 (codeOf Tryd.f9))))))))) 8 K17 [(1, strA t1), (2, strA t2), (3, strA t3), (4, v4), (10, AV.nilp), (30, .bool t30)] [] h_21 := by
   intro t30 h_21 hF
   rw [e22] at hF
   refine oA 31 (.bool t30) ?_
   obtain ⟨j34, e25, hF⟩ := lett_some hF
   have J26 : ∀ (t34 : Bool) (h_24 : AHeap), j34 t34 h_24 = some (rR, hR) → WL Tryd.prog w0 m0 (Func.ntmps Tryd.f9) (Code.ops (Code.p1 (Code.p1 (Code.p2 (Code.p2 (Code.p2 (Code.p2 (Code.p2 (codeOf Tryd.f9))))))))) 12 K17 [(1, strA t1), (2, strA t2), (3, strA t3), (4, v4), (10, AV.nilp), (34, .bool t34)] [] h_24 := by
    intro t34 h_24 hF
    rw [e25] at hF
    refine oA 35 (.bool t34) ?_
    obtain ⟨j39, e28, hF⟩ := lett_some hF
    have J29 : ∀ (t39 : Bool) (h_27 : AHeap), j39 t39 h_27 = some (rR, hR) → WL Tryd.prog w0 m0 (Func.ntmps Tryd.f9) (Code.ops (Code.p1 (Code.p1 (Code.p2 (Code.p2 (Code.p2 (Code.p2 (Code.p2 (codeOf Tryd.f9))))))))) 17 K17 [(1, strA t1), (2, strA t2), (3, strA t3), (4, v4), (10, AV.nilp), (39, .bool t39)] [] h_27 := by
     intro t39 h_27 hF
     rw [e28] at hF
     refine oA 40 (.bool t39) ?_
     obtain ⟨j44, e31, hF⟩ := lett_some hF
     have J32 : ∀ (t44 : Bool) (h_30 : AHeap), j44 t44 h_30 = some (rR, hR) → WL Tryd.prog w0 m0 (Func.ntmps Tryd.f9) (Code.ops (Code.p1 (Code.p1 (Code.p2 (Code.p2 (Code.p2 (Code.p2 (Code.p2 (codeOf Tryd.f9))))))))) 22 K17 [(1, strA t1), (2, strA t2), (3, strA t3), (4, v4), (44, .bool t44)] [] h_30 := by
      intro t44 h_30 hF
      rw [e31] at hF
      refine oV [(1, strA t1), (2, strA t2), (3, strA t3), (4, v4), (44, .bool t44)] (n17 ?_)
      cases t44 with
      | true =>
       refine oT hF fun hF => ?_
       refine oG fun n33 => W.r ?_
       refine oA 8 (.bool false) ?_
       refine oV [(8, .bool false)] (n33 (oY (q16 ?_)))
       exact lZ hF [.tmp 8] [.bool false] (rT res_nil)
      | false =>
       refine oU hF fun hF => ?_
       refine oZ (n16 ?_)
       refine oG fun n34 => W.r ?_
       refine oR 46 23 hF fun t46 hF => ?_
       refine oC hc (some 47) hF fun r47 h_36 hF => ?_
       refine oA 45 r47 ?_
       refine oE 48 hF fun v48 hF => ?_
       refine oEi 49 hF fun t49 hF => ?_
       refine oA 11 v48 ?_
       refine oA 12 (.int .i64 t49) ?_
       refine oV [(1, strA t1), (2, strA t2), (3, strA t3), (11, v48), (12, .int .i64 t49)] (n34 ?_)
       refine oH fun n41 q41 => ?_
       refine W.s (fun K42 n42 e42 q42 p42 => ?_)
       refine W.r ?_
       refine oA 50 (.int .i64 t49) ?_
       refine oB 51 hF fun t51 hF => ?_
       refine oA 52 (.bool t51) ?_
       obtain ⟨j62, e45, hF⟩ := lett_some hF
       have J46 : ∀ (t62 : Bool) (h_44 : AHeap), j62 t62 h_44 = some (rR, hR) → WL Tryd.prog w0 m0 (Func.ntmps Tryd.f9) (Code.ops (Code.p1 (Code.p1 (Code.p2 (Code.p2 (Code.p2 (Code.p2 (Code.p2 (Code.p2 (Code.p2 (codeOf Tryd.f9))))))))))) 13 K42 [(1, strA t1), (2, strA t2), (3, strA t3), (11, v48), (62, .bool t62)] [] h_44 := by
        intro t62 h_44 hF
        rw [e45] at hF
        refine oV [(1, strA t1), (2, strA t2), (3, strA t3), (11, v48), (62, .bool t62)] (n42 ?_)
        cases t62 with
        | true =>
         refine oT hF fun hF => ?_
         refine oG fun n47 => W.r ?_
         refine oA 8 (.bool true) ?_
         refine oV [(8, .bool true)] (n47 (oY (q41 ?_)))
         exact lZ hF [.tmp 8] [.bool true] (rT res_nil)
        | false =>
         refine oU hF fun hF => ?_
         refine oZ (n41 ?_)
         refine oG fun n48 => W.r ?_
         refine oA 63 v48 ?_
         refine oC hc (some 64) hF fun r64 h_49 hF => ?_
         refine oA 13 r64 ?_
         refine oV [(1, strA t1), (2, strA t2), (3, strA t3), (11, v48), (13, r64)] (n48 ?_)
         refine oH fun n51 q51 => ?_
         refine oG fun n52 => W.r ?_
         refine oA 65 r64 ?_
         replace hF := outK_some hF; obtain ⟨v66, h_53, e54, hF⟩ := hF
         replace hF := obind_some hF; obtain ⟨t66, c55, hF⟩ := hF
         have c55 := avBool_some c55
         subst c55
         refine WL.b (some 66) (.bool t66) h_53 e54 ?_
         refine oV [(1, strA t1), (2, strA t2), (3, strA t3), (11, v48), (13, r64), (66, .bool t66)] (n52 ?_)
         cases t66 with
         | true =>
          refine oT hF fun hF => ?_
          refine oG fun n56 => W.r ?_
          refine oA 8 (.bool false) ?_
          refine oV [(8, .bool false)] (n56 (oY (q51 ?_)))
          exact lZ hF [.tmp 8] [.bool false] (rT res_nil)
         | false =>
          refine oU hF fun hF => ?_
          refine oZ (n51 ?_)
          refine W.s (fun K57 n57 e57 q57 p57 => ?_)
          refine oG fun n58 => W.r ?_
          refine oA 14 (.int .i64 0) ?_
          refine oV [(1, strA t1), (2, strA t2), (3, strA t3), (11, v48), (13, r64), (14, .int .i64 0)] (n58 ?_)
          obtain ⟨k60, e60, hF⟩ := lett_some hF
          have J60 : ∀  (h_61 : AHeap), k60 h_61 = some (rR, hR) → Go w0 m0 (Func.ntmps Tryd.f9) (K57 .normal) [(1, strA t1), (2, strA t2), (3, strA t3), (11, v48), (13, r64)] [] h_61 := by
           intro  h_61 hF
           rw [e60] at hF
           refine n57 ?_
           refine oG fun n62 => W.r ?_
           refine oA 78 r64 ?_
           refine oC hc (some 79) hF fun r79 h_63 hF => ?_
           refine oA 15 r79 ?_
           refine oV [(1, strA t1), (2, strA t2), (3, strA t3), (11, v48), (13, r64), (15, r79)] (n62 ?_)
           refine oH fun n65 q65 => ?_
           refine W.s (fun K66 n66 e66 q66 p66 => ?_)
           refine W.r ?_
           refine oA 80 r79 ?_
           replace hF := outK_some hF; obtain ⟨v81, h_67, e68, hF⟩ := hF
           replace hF := obind_some hF; obtain ⟨t81, c69, hF⟩ := hF
           have c69 := avBool_some c69
           subst c69
           refine WL.b (some 81) (.bool t81) h_67 e68 ?_
           refine oA 82 (.bool t81) ?_
           obtain ⟨j86, e71, hF⟩ := lett_some hF
           have J72 : ∀ (t86 : Bool) (h_70 : AHeap), j86 t86 h_70 = some (rR, hR) → WL Tryd.prog w0 m0 (Func.ntmps Tryd.f9) (Code.ops (Code.p1 (Code.p1 (Code.p2 (Code.p2 (Code.p2 (Code.p2 (Code.p2 (Code.p2 (Code.p2 (Code.p2 (Code.p2 (Code.p2 (Code.p2 (Code.p2 (codeOf Tryd.f9)))))))))))))))) 7 K66 [(1, strA t1), (2, strA t2), (3, strA t3), (11, v48), (13, r64), (15, r79), (86, .bool t86)] [] h_70 := by
            intro t86 h_70 hF
            rw [e71] at hF
            refine oV [(1, strA t1), (2, strA t2), (3, strA t3), (11, v48), (13, r64), (15, r79), (86, .bool t86)] (n66 ?_)
            cases t86 with
            | true =>
             refine oT hF fun hF => ?_
             refine oG fun n73 => W.r ?_
             refine oA 8 (.bool false) ?_
             refine oV [(8, .bool false)] (n73 (oY (q65 ?_)))
             exact lZ hF [.tmp 8] [.bool false] (rT res_nil)
            | false =>
             refine oU hF fun hF => ?_
             refine oZ (n65 ?_)
             refine W.s (fun K74 n74 e74 q74 p74 => ?_)
             refine oG fun n75 => W.r ?_
             refine oA 16 (.int .i64 0) ?_
             refine oV [(1, strA t1), (2, strA t2), (3, strA t3), (11, v48), (13, r64), (15, r79), (16, .int .i64 0)] (n75 ?_)
             obtain ⟨k77, e77, hF⟩ := lett_some hF
             have J77 : ∀  (h_78 : AHeap), k77 h_78 = some (rR, hR) → Go w0 m0 (Func.ntmps Tryd.f9) (K74 .normal) [(1, strA t1), (2, strA t2), (3, strA t3), (11, v48), (13, r64), (15, r79)] [] h_78 := by
              intro  h_78 hF
              rw [e77] at hF
              refine n74 ?_
              refine W.s (fun K79 n79 e79 q79 p79 => ?_)
              refine oG fun n80 => W.r ?_
              refine oA 17 (.int .i64 0) ?_
              refine oV [(1, strA t1), (2, strA t2), (3, strA t3), (11, v48), (13, r64), (15, r79), (17, .int .i64 0)] (n80 ?_)
              obtain ⟨k82, e82, hF⟩ := lett_some hF
              have J82 : ∀  (h_83 : AHeap), k82 h_83 = some (rR, hR) → Go w0 m0 (Func.ntmps Tryd.f9) (K79 .normal) [(1, strA t1), (2, strA t2), (3, strA t3), (11, v48), (13, r64), (15, r79)] [] h_83 := by
               intro  h_83 hF
               rw [e82] at hF
               refine n79 ?_
               refine oG fun n84 => W.r ?_
               refine oA 109 v48 ?_
               refine oC hc (some 110) hF fun r110 h_85 hF => ?_
               refine oA 18 r110 ?_
               refine oV [(1, strA t1), (2, strA t2), (3, strA t3), (11, v48), (13, r64), (15, r79), (18, r110)] (n84 ?_)
               refine W.s (fun K87 n87 e87 q87 p87 => ?_)
               refine W.r ?_
               refine oA 111 r110 ?_
               replace hF := outK_some hF; obtain ⟨v112, h_88, e89, hF⟩ := hF
               replace hF := obind_some hF; obtain ⟨t112, c90, hF⟩ := hF
               have c90 := avBool_some c90
               subst c90
               refine WL.b (some 112) (.bool t112) h_88 e89 ?_
               refine oA 113 (.bool t112) ?_
               obtain ⟨j122, e92, hF⟩ := lett_some hF
               have J93 : ∀ (t122 : Bool) (h_91 : AHeap), j122 t122 h_91 = some (rR, hR) → WL Tryd.prog w0 m0 (Func.ntmps Tryd.f9) (Code.ops (Code.p1 (Code.p2 (Code.p2 (Code.p2 (Code.p2 (Code.p2 (Code.p2 (Code.p2 (Code.p2 (Code.p2 (Code.p2 (Code.p2 (Code.p2 (Code.p2 (Code.p2 (Code.p2 (Code.p2 (codeOf Tryd.f9))))))))))))))))))) 12 K87 [(1, strA t1), (3, strA t3), (11, v48), (15, r79), (18, r110), (122, .bool t122)] [] h_91 := by
                intro t122 h_91 hF
                rw [e92] at hF
                refine oA 123 (.bool t122) ?_
                obtain ⟨j132, e95, hF⟩ := lett_some hF
                have J96 : ∀ (t132 : Bool) (h_94 : AHeap), j132 t132 h_94 = some (rR, hR) → WL Tryd.prog w0 m0 (Func.ntmps Tryd.f9) (Code.ops (Code.p1 (Code.p2 (Code.p2 (Code.p2 (Code.p2 (Code.p2 (Code.p2 (Code.p2 (Code.p2 (Code.p2 (Code.p2 (Code.p2 (Code.p2 (Code.p2 (Code.p2 (Code.p2 (Code.p2 (codeOf Tryd.f9))))))))))))))))))) 22 K87 [(11, v48), (18, r110), (132, .bool t132)] [] h_94 := by
                 intro t132 h_94 hF
                 rw [e95] at hF
                 refine oA 133 (.bool t132) ?_
                 obtain ⟨j139, e98, hF⟩ := lett_some hF
                 have J99 : ∀ (t139 : Bool) (h_97 : AHeap), j139 t139 h_97 = some (rR, hR) → WL Tryd.prog w0 m0 (Func.ntmps Tryd.f9) (Code.ops (Code.p1 (Code.p2 (Code.p2 (Code.p2 (Code.p2 (Code.p2 (Code.p2 (Code.p2 (Code.p2 (Code.p2 (Code.p2 (Code.p2 (Code.p2 (Code.p2 (Code.p2 (Code.p2 (Code.p2 (codeOf Tryd.f9))))))))))))))))))) 29 K87 [(139, .bool t139)] [] h_97 := by
                  intro t139 h_97 hF
                  rw [e98] at hF
                  refine oA 8 (.bool t139) ?_
                  refine oV [(8, .bool t139)] (n87 (oY ?_))
                  exact lZ hF [.tmp 8] [.bool t139] (rT res_nil)
                 cases t132 with
                 | true =>
                  replace hF := ifB_t hF
                  refine oA 134 r110 ?_
                  refine oCb hc 135 hF fun t135 h_100 hF => ?_
                  refine oA 136 v48 ?_
                  refine oCb hc 137 hF fun t137 h_103 hF => ?_
                  refine oB 138 hF fun t138 hF => ?_
                  refine oA 139 (.bool t138) ?_
                  exact lW _ (J99 _ _ hF)
                 | false =>
                  replace hF := ifB_f hF
                  refine WL.o (some 134) ?_
                  refine WL.o (some 135) ?_
                  refine WL.o (some 136) ?_
                  refine WL.o (some 137) ?_
                  refine WL.o (some 138) ?_
                  refine oA 139 (.bool false) ?_
                  exact lW _ (J99 _ _ hF)
                cases t122 with
                | true =>
                 replace hF := ifB_t hF
                 refine oA 124 r79 ?_
                 refine oCb hc 125 hF fun t125 h_107 hF => ?_
                 refine oA 126 v48 ?_
                 refine oA 127 (strA t1) ?_
                 refine oA 128 (strA t3) ?_
                 obtain ⟨t129, e110, hF⟩ := obind_some hF
                 refine WL.b (some 129) (strA t129) h_107 (add_str (P := Tryd.prog) (h := h_107) (t := 9) (lit := false) e110) ?_
                 refine oCb hc 130 hF fun t130 h_111 hF => ?_
                 refine oB 131 hF fun t131 hF => ?_
                 refine oA 132 (.bool t131) ?_
                 exact lW _ (J96 _ _ hF)
                | false =>
                 replace hF := ifB_f hF
                 refine WL.o (some 124) ?_
                 refine WL.o (some 125) ?_
                 refine WL.o (some 126) ?_
                 refine WL.o (some 127) ?_
                 refine WL.o (some 128) ?_
                 refine WL.o (some 129) ?_
                 refine WL.o (some 130) ?_
                 refine WL.o (some 131) ?_
                 refine oA 132 (.bool false) ?_
                 exact lW _ (J96 _ _ hF)
               cases t112 with
               | true =>
                replace hF := ifB_t hF
                refine oA 114 r64 ?_
                refine oCb hc 115 hF fun t115 h_115 hF => ?_
                refine oA 116 v48 ?_
                refine oA 117 (strA t1) ?_
                refine oA 118 (strA t2) ?_
                obtain ⟨t119, e118, hF⟩ := obind_some hF
                refine WL.b (some 119) (strA t119) h_115 (add_str (P := Tryd.prog) (h := h_115) (t := 9) (lit := false) e118) ?_
                refine oCb hc 120 hF fun t120 h_119 hF => ?_
                refine oB 121 hF fun t121 hF => ?_
                refine oA 122 (.bool t121) ?_
                exact lW _ (J93 _ _ hF)
               | false =>
                replace hF := ifB_f hF
                refine WL.o (some 114) ?_
                refine WL.o (some 115) ?_
                refine WL.o (some 116) ?_
                refine WL.o (some 117) ?_
                refine WL.o (some 118) ?_
                refine WL.o (some 119) ?_
                refine WL.o (some 120) ?_
                refine WL.o (some 121) ?_
                refine oA 122 (.bool false) ?_
                exact lW _ (J93 _ _ hF)
              refine W.blockK (by kernel_rfl) (fun K81 n81 s81 o81 q81 p81 => ?_)
              refine W.loopK (by kernel_rfl) (fun I123 K123 b123 n123 e123 q123 p123 => ?_)
              have L123 : ∀ (m : Nat) (t17 : Int) (h_124 : AHeap), law10_NfaCopies_L0 call t3 r79 k82 m t17 h_124 = some (rR, hR) → Go w0 m0 (Func.ntmps Tryd.f9) I123 [(1, strA t1), (2, strA t2), (3, strA t3), (11, v48), (13, r64), (15, r79), (17, .int .i64 t17)] [] h_124 := by
               intro m
               induction m with
               | zero => intro t17 h_124 hF; cases hF
               | succ m ih123 =>
                intro t17 h_124 hF
                rw [law10_NfaCopies_L0_s] at hF; unfold law10_NfaCopies_L0b at hF
                refine b123 ?_
                refine W.s (fun K125 n125 e125 q125 p125 => ?_)
                refine oG fun n126 => W.r ?_
                refine oA 98 (.int .i64 t17) ?_
                refine oA 99 (strA t3) ?_
                refine oA 100 (.int .i64 (lenS t3)) ?_
                refine oB 101 hF fun t101 hF => ?_
                refine oV [(1, strA t1), (2, strA t2), (3, strA t3), (11, v48), (13, r64), (15, r79), (17, .int .i64 t17), (101, .bool t101)] (n126 ?_)
                cases t101 with
                | true =>
                 refine oT hF fun hF => ?_
                 refine oZ (n125 ?_)
                 refine oG fun n128 => ?_
                 refine W.blockK (by kernel_rfl) (fun K129 n129 s129 o129 q129 p129 => ?_)
                 refine W.r ?_
                 refine oA 104 r79 ?_
                 refine oA 105 (strA t3) ?_
                 refine oA 106 (.int .i64 t17) ?_
                 refine oX 107 9 .i64 hF fun t107 hF => ?_
                 refine oC hc (some 108) hF fun r108 h_131 hF => ?_
                 refine oV [(1, strA t1), (2, strA t2), (3, strA t3), (11, v48), (13, r64), (15, r79), (17, .int .i64 t17)] (n129 (n128 (W.r ?_)))
                 refine oA 102 (.int .i64 t17) ?_
                 refine oI 103 .i64 hF fun t103 hF => ?_
                 refine oA 17 (.int .i64 t103) ?_
                 refine oV [(1, strA t1), (2, strA t2), (3, strA t3), (11, v48), (13, r64), (15, r79), (17, .int .i64 t103)] (n123 ?_)
                 exact gW _ (ih123 _ _ hF)
                | false =>
                 refine oU hF fun hF => ?_
                 refine W.exit (by kernel_rfl) ?_
                 refine e125 (e123 ?_)
                 refine s81 (by kernel_rfl) ?_
                 exact gW _ (J82 _ hF)
              exact gW _ (L123 _ _ _ hF)
             refine W.blockK (by kernel_rfl) (fun K76 n76 s76 o76 q76 p76 => ?_)
             refine W.loopK (by kernel_rfl) (fun I134 K134 b134 n134 e134 q134 p134 => ?_)
             have L134 : ∀ (m : Nat) (t16 : Int) (h_135 : AHeap), law10_NfaCopies_L1 call t2 r64 k77 m t16 h_135 = some (rR, hR) → Go w0 m0 (Func.ntmps Tryd.f9) I134 [(1, strA t1), (2, strA t2), (3, strA t3), (11, v48), (13, r64), (15, r79), (16, .int .i64 t16)] [] h_135 := by
              intro m
              induction m with
              | zero => intro t16 h_135 hF; cases hF
              | succ m ih134 =>
               intro t16 h_135 hF
               rw [law10_NfaCopies_L1_s] at hF; unfold law10_NfaCopies_L1b at hF
               refine b134 ?_
               refine W.s (fun K136 n136 e136 q136 p136 => ?_)
               refine oG fun n137 => W.r ?_
               refine oA 87 (.int .i64 t16) ?_
               refine oA 88 (strA t2) ?_
               refine oA 89 (.int .i64 (lenS t2)) ?_
               refine oB 90 hF fun t90 hF => ?_
               refine oV [(1, strA t1), (2, strA t2), (3, strA t3), (11, v48), (13, r64), (15, r79), (16, .int .i64 t16), (90, .bool t90)] (n137 ?_)
               cases t90 with
               | true =>
                refine oT hF fun hF => ?_
                refine oZ (n136 ?_)
                refine oG fun n139 => ?_
                refine W.blockK (by kernel_rfl) (fun K140 n140 s140 o140 q140 p140 => ?_)
                refine W.r ?_
                refine oA 93 r64 ?_
                refine oA 94 (strA t2) ?_
                refine oA 95 (.int .i64 t16) ?_
                refine oX 96 9 .i64 hF fun t96 hF => ?_
                refine oC hc (some 97) hF fun r97 h_142 hF => ?_
                refine oV [(1, strA t1), (2, strA t2), (3, strA t3), (11, v48), (13, r64), (15, r79), (16, .int .i64 t16)] (n140 (n139 (W.r ?_)))
                refine oA 91 (.int .i64 t16) ?_
                refine oI 92 .i64 hF fun t92 hF => ?_
                refine oA 16 (.int .i64 t92) ?_
                refine oV [(1, strA t1), (2, strA t2), (3, strA t3), (11, v48), (13, r64), (15, r79), (16, .int .i64 t92)] (n134 ?_)
                exact gW _ (ih134 _ _ hF)
               | false =>
                refine oU hF fun hF => ?_
                refine W.exit (by kernel_rfl) ?_
                refine e136 (e134 ?_)
                refine s76 (by kernel_rfl) ?_
                exact gW _ (J77 _ hF)
             exact gW _ (L134 _ _ _ hF)
           cases t81 with
           | true =>
            replace hF := ifB_t hF
            refine WL.o (some 83) ?_
            refine WL.o (some 84) ?_
            refine WL.o (some 85) ?_
            refine oA 86 (.bool true) ?_
            exact lW _ (J72 _ _ hF)
           | false =>
            replace hF := ifB_f hF
            refine oA 83 r79 ?_
            refine oA 84 r64 ?_
            replace hF := outK_some hF; obtain ⟨v85, h_145, e146, hF⟩ := hF
            replace hF := obind_some hF; obtain ⟨t85, c147, hF⟩ := hF
            have c147 := avBool_some c147
            subst c147
            refine WL.b (some 85) (.bool t85) h_145 e146 ?_
            refine oA 86 (.bool t85) ?_
            exact lW _ (J72 _ _ hF)
          refine W.blockK (by kernel_rfl) (fun K59 n59 s59 o59 q59 p59 => ?_)
          refine W.loopK (by kernel_rfl) (fun I148 K148 b148 n148 e148 q148 p148 => ?_)
          have L148 : ∀ (m : Nat) (t14 : Int) (h_149 : AHeap), law10_NfaCopies_L2 call t1 r64 k60 m t14 h_149 = some (rR, hR) → Go w0 m0 (Func.ntmps Tryd.f9) I148 [(1, strA t1), (2, strA t2), (3, strA t3), (11, v48), (13, r64), (14, .int .i64 t14)] [] h_149 := by
           intro m
           induction m with
           | zero => intro t14 h_149 hF; cases hF
           | succ m ih148 =>
            intro t14 h_149 hF
            rw [law10_NfaCopies_L2_s] at hF; unfold law10_NfaCopies_L2b at hF
            refine b148 ?_
            refine W.s (fun K150 n150 e150 q150 p150 => ?_)
            refine oG fun n151 => W.r ?_
            refine oA 67 (.int .i64 t14) ?_
            refine oA 68 (strA t1) ?_
            refine oA 69 (.int .i64 (lenS t1)) ?_
            refine oB 70 hF fun t70 hF => ?_
            refine oV [(1, strA t1), (2, strA t2), (3, strA t3), (11, v48), (13, r64), (14, .int .i64 t14), (70, .bool t70)] (n151 ?_)
            cases t70 with
            | true =>
             refine oT hF fun hF => ?_
             refine oZ (n150 ?_)
             refine oG fun n153 => ?_
             refine W.blockK (by kernel_rfl) (fun K154 n154 s154 o154 q154 p154 => ?_)
             refine W.r ?_
             refine oA 73 r64 ?_
             refine oA 74 (strA t1) ?_
             refine oA 75 (.int .i64 t14) ?_
             refine oX 76 9 .i64 hF fun t76 hF => ?_
             refine oC hc (some 77) hF fun r77 h_156 hF => ?_
             refine oV [(1, strA t1), (2, strA t2), (3, strA t3), (11, v48), (13, r64), (14, .int .i64 t14)] (n154 (n153 (W.r ?_)))
             refine oA 71 (.int .i64 t14) ?_
             refine oI 72 .i64 hF fun t72 hF => ?_
             refine oA 14 (.int .i64 t72) ?_
             refine oV [(1, strA t1), (2, strA t2), (3, strA t3), (11, v48), (13, r64), (14, .int .i64 t72)] (n148 ?_)
             exact gW _ (ih148 _ _ hF)
            | false =>
             refine oU hF fun hF => ?_
             refine W.exit (by kernel_rfl) ?_
             refine e150 (e148 ?_)
             refine s59 (by kernel_rfl) ?_
             exact gW _ (J60 _ hF)
          exact gW _ (L148 _ _ _ hF)
       cases t51 with
       | true =>
        replace hF := ifB_t hF
        refine WL.o (some 53) ?_
        refine WL.o (some 54) ?_
        refine WL.o (some 55) ?_
        refine WL.o (some 56) ?_
        refine WL.o (some 57) ?_
        refine WL.o (some 58) ?_
        refine WL.o (some 59) ?_
        refine WL.o (some 60) ?_
        refine WL.o (some 61) ?_
        refine oA 62 (.bool true) ?_
        exact lW _ (J46 _ _ hF)
       | false =>
        replace hF := ifB_f hF
        refine oA 53 (strA t1) ?_
        refine oA 54 (.int .i64 (lenS t1)) ?_
        refine oA 55 (strA t2) ?_
        refine oA 56 (.int .i64 (lenS t2)) ?_
        refine oI 57 .i64 hF fun t57 hF => ?_
        refine oA 58 (strA t3) ?_
        refine oA 59 (.int .i64 (lenS t3)) ?_
        refine oI 60 .i64 hF fun t60 hF => ?_
        refine oB 61 hF fun t61 hF => ?_
        refine oA 62 (.bool t61) ?_
        exact lW _ (J46 _ _ hF)
     cases t39 with
     | true =>
      replace hF := ifB_t hF
      refine WL.o (some 41) ?_
      refine WL.o (some 42) ?_
      refine WL.o (some 43) ?_
      refine oA 44 (.bool true) ?_
      exact lW _ (J32 _ _ hF)
     | false =>
      replace hF := ifB_f hF
      refine oA 41 AV.nilp ?_
      refine oC hc (some 42) hF fun r42 h_162 hF => ?_
      replace hF := outK_some hF; obtain ⟨v43, h_164, e165, hF⟩ := hF
      replace hF := obind_some hF; obtain ⟨t43, c166, hF⟩ := hF
      have c166 := avBool_some c166
      subst c166
      refine WL.b (some 43) (.bool t43) h_164 e165 ?_
      refine oA 44 (.bool t43) ?_
      exact lW _ (J32 _ _ hF)
    cases t34 with
    | true =>
     replace hF := ifB_t hF
     refine WL.o (some 36) ?_
     refine WL.o (some 37) ?_
     refine WL.o (some 38) ?_
     refine oA 39 (.bool true) ?_
     exact lW _ (J29 _ _ hF)
    | false =>
     replace hF := ifB_f hF
     refine oA 36 AV.nilp ?_
     refine oCb hc 37 hF fun t37 h_167 hF => ?_
     refine oB 38 hF fun t38 hF => ?_
     refine oA 39 (.bool t38) ?_
     exact lW _ (J29 _ _ hF)
   cases t30 with
   | true =>
    replace hF := ifB_t hF
    refine WL.o (some 32) ?_
    refine WL.o (some 33) ?_
    refine oA 34 (.bool true) ?_
    exact lW _ (J26 _ _ hF)
   | false =>
    replace hF := ifB_f hF
    refine oA 32 AV.nilp ?_
    refine oCb hc 33 hF fun t33 h_171 hF => ?_
    refine oA 34 (.bool t33) ?_
    exact lW _ (J26 _ _ hF)
  cases t25 with
  | true =>
   replace hF := ifB_t hF
   refine WL.o (some 27) ?_
   refine WL.o (some 28) ?_
   refine WL.o (some 29) ?_
   refine oA 30 (.bool true) ?_
   exact lW _ (J23 _ _ hF)
  | false =>
   replace hF := ifB_f hF
   refine oA 27 AV.nilp ?_
   refine oC hc (some 28) hF fun r28 h_174 hF => ?_
   replace hF := outK_some hF; obtain ⟨v29, h_176, e177, hF⟩ := hF
   replace hF := obind_some hF; obtain ⟨t29, c178, hF⟩ := hF
   have c178 := avBool_some c178
   subst c178
   refine WL.b (some 29) (.bool t29) h_176 e177 ?_
   refine oA 30 (.bool t29) ?_
   exact lW _ (J23 _ _ hF)
section
variable {N : Nt} {n d nb rb : Nat} {h h0 : AHeap} {Q : ARes → AHeap → Prop}
theorem copiesL2_loop {s : Bytes} {kk : AHeap → R} {st0 : Bool × Nat} (hT : HasTz h0) (hN : NtOk N) (hn : 18446744073709551616 < n) (hl : s.length < 1000000000) (hne : rb ≠ nb) (hz : rb ≠ 0) (kn : RowH h0 nb TNet (netC N)) (hnb : nb < h0.next)
  (hk : ∀ H, Tch [rb] h0 H → RowH H rb TRun (runC nb (runN N st0 s)) → Wp (kk H) Q) :
  ∀ (m f i : Nat) (st : Bool × Nat) (H : AHeap), m < f → i + m = s.length → st.2 < 18446744073709551616 → runN N st (s.drop i) = runN N st0 s → Tch [rb] h0 H → RowH H rb TRun (runC nb st) → Wp (law10_NfaCopies_L2 (world n (d + 3)) s (.ptr rb 0) kk f (i : Int) H) Q
 | _, 0, _, _, _, hf, _, _, _, _, _ => by omega
 | 0, f + 1, i, st, H, hf, hm, hs, hr, t, k => by
  have ll := lenS_nat s
  rw [law10_NfaCopies_L2_s]
  unfold law10_NfaCopies_L2b
  rw [List.drop_of_length_le (by omega)] at hr
  have hr2 : st = runN N st0 s := hr
  repeat (first | (with_reducible refine Wp.lett ?_) | ((with_reducible refine Wp.iff ?_ ?_); ((with_reducible apply decide_eq_false); omega)))
  refine hk H t ?_
  rw [← hr2]
  exact k
 | m + 1, f + 1, i, st, H, hf, hm, hs, hr, t, k => by
  have ll := lenS_nat s
  have hi : i < s.length := by omega
  rw [law10_NfaCopies_L2_s]
  unfold law10_NfaCopies_L2b
  have hx := idxS_nat hi
  have el : (i : Int) + 1 = ((i + 1 : Nat) : Int) := by omega
  obtain ⟨h1, e3, k1, t1⟩ := step_r (n := n) (d := d) (hT.tch t (by simpa using fun e => hz e.symm)) hN hs hn hne (byte_lt hi) k (kn.tch t hnb (by simpa using fun e => hne e.symm)) (Nat.lt_of_lt_of_le hnb t.1)
  rw [run_cons hi] at hr
  have fin := copiesL2_loop hT hN hn hl hne hz kn hnb hk m f (i + 1) _ h1 (by omega) (by omega) (step_small hN _ _) hr (t.trans t1) k1
  repeat (first | ((with_reducible refine Wp.lettw ?_ ?_ ?_); omega; omega) | (with_reducible refine Wp.lett ?_) | ((with_reducible apply Wp.obind); (with_reducible exact hx)) | ((with_reducible refine Wp.ift ?_ ?_); ((with_reducible apply decide_eq_true); omega)) | ((with_reducible apply Wp.callN); (with_reducible assumption)))
  rw [el]
  exact fin
theorem copiesL1_loop {s : Bytes} {kk : AHeap → R} {st0 : Bool × Nat} (hT : HasTz h0) (hN : NtOk N) (hn : 18446744073709551616 < n) (hl : s.length < 1000000000) (hne : rb ≠ nb) (hz : rb ≠ 0) (kn : RowH h0 nb TNet (netC N)) (hnb : nb < h0.next)
  (hk : ∀ H, Tch [rb] h0 H → RowH H rb TRun (runC nb (runN N st0 s)) → Wp (kk H) Q) :
  ∀ (m f i : Nat) (st : Bool × Nat) (H : AHeap), m < f → i + m = s.length → st.2 < 18446744073709551616 → runN N st (s.drop i) = runN N st0 s → Tch [rb] h0 H → RowH H rb TRun (runC nb st) → Wp (law10_NfaCopies_L1 (world n (d + 3)) s (.ptr rb 0) kk f (i : Int) H) Q
 | _, 0, _, _, _, hf, _, _, _, _, _ => by omega
 | 0, f + 1, i, st, H, hf, hm, hs, hr, t, k => by
  have ll := lenS_nat s
  rw [law10_NfaCopies_L1_s]
  unfold law10_NfaCopies_L1b
  rw [List.drop_of_length_le (by omega)] at hr
  have hr2 : st = runN N st0 s := hr
  repeat (first | (with_reducible refine Wp.lett ?_) | ((with_reducible refine Wp.iff ?_ ?_); ((with_reducible apply decide_eq_false); omega)))
  refine hk H t ?_
  rw [← hr2]
  exact k
 | m + 1, f + 1, i, st, H, hf, hm, hs, hr, t, k => by
  have ll := lenS_nat s
  have hi : i < s.length := by omega
  rw [law10_NfaCopies_L1_s]
  unfold law10_NfaCopies_L1b
  have hx := idxS_nat hi
  have el : (i : Int) + 1 = ((i + 1 : Nat) : Int) := by omega
  obtain ⟨h1, e3, k1, t1⟩ := step_r (n := n) (d := d) (hT.tch t (by simpa using fun e => hz e.symm)) hN hs hn hne (byte_lt hi) k (kn.tch t hnb (by simpa using fun e => hne e.symm)) (Nat.lt_of_lt_of_le hnb t.1)
  rw [run_cons hi] at hr
  have fin := copiesL1_loop hT hN hn hl hne hz kn hnb hk m f (i + 1) _ h1 (by omega) (by omega) (step_small hN _ _) hr (t.trans t1) k1
  repeat (first | ((with_reducible refine Wp.lettw ?_ ?_ ?_); omega; omega) | (with_reducible refine Wp.lett ?_) | ((with_reducible apply Wp.obind); (with_reducible exact hx)) | ((with_reducible refine Wp.ift ?_ ?_); ((with_reducible apply decide_eq_true); omega)) | ((with_reducible apply Wp.callN); (with_reducible assumption)))
  rw [el]
  exact fin
theorem copiesL0_loop {s : Bytes} {kk : AHeap → R} {st0 : Bool × Nat} (hT : HasTz h0) (hN : NtOk N) (hn : 18446744073709551616 < n) (hl : s.length < 1000000000) (hne : rb ≠ nb) (hz : rb ≠ 0) (kn : RowH h0 nb TNet (netC N)) (hnb : nb < h0.next)
  (hk : ∀ H, Tch [rb] h0 H → RowH H rb TRun (runC nb (runN N st0 s)) → Wp (kk H) Q) :
  ∀ (m f i : Nat) (st : Bool × Nat) (H : AHeap), m < f → i + m = s.length → st.2 < 18446744073709551616 → runN N st (s.drop i) = runN N st0 s → Tch [rb] h0 H → RowH H rb TRun (runC nb st) → Wp (law10_NfaCopies_L0 (world n (d + 3)) s (.ptr rb 0) kk f (i : Int) H) Q
 | _, 0, _, _, _, hf, _, _, _, _, _ => by omega
 | 0, f + 1, i, st, H, hf, hm, hs, hr, t, k => by
  have ll := lenS_nat s
  rw [law10_NfaCopies_L0_s]
  unfold law10_NfaCopies_L0b
  rw [List.drop_of_length_le (by omega)] at hr
  have hr2 : st = runN N st0 s := hr
  repeat (first | (with_reducible refine Wp.lett ?_) | ((with_reducible refine Wp.iff ?_ ?_); ((with_reducible apply decide_eq_false); omega)))
  refine hk H t ?_
  rw [← hr2]
  exact k
 | m + 1, f + 1, i, st, H, hf, hm, hs, hr, t, k => by
  have ll := lenS_nat s
  have hi : i < s.length := by omega
  rw [law10_NfaCopies_L0_s]
  unfold law10_NfaCopies_L0b
  have hx := idxS_nat hi
  have el : (i : Int) + 1 = ((i + 1 : Nat) : Int) := by omega
  obtain ⟨h1, e3, k1, t1⟩ := step_r (n := n) (d := d) (hT.tch t (by simpa using fun e => hz e.symm)) hN hs hn hne (byte_lt hi) k (kn.tch t hnb (by simpa using fun e => hne e.symm)) (Nat.lt_of_lt_of_le hnb t.1)
  rw [run_cons hi] at hr
  have fin := copiesL0_loop hT hN hn hl hne hz kn hnb hk m f (i + 1) _ h1 (by omega) (by omega) (step_small hN _ _) hr (t.trans t1) k1
  repeat (first | ((with_reducible refine Wp.lettw ?_ ?_ ?_); omega; omega) | (with_reducible refine Wp.lett ?_) | ((with_reducible apply Wp.obind); (with_reducible exact hx)) | ((with_reducible refine Wp.ift ?_ ?_); ((with_reducible apply decide_eq_true); omega)) | ((with_reducible apply Wp.callN); (with_reducible assumption)))
  rw [el]
  exact fin
theorem none_nil (h : AHeap) : world n (d + 1) 33 [.nilp] h = some (.ret (.bool true), h) := by
 apply Wp.eq
 rw [w_nfa_Run_none]
 unfold nfa_Run_none
 repeat (first | (with_reducible refine Wp.join1 (fun _ _ => ?_)) | ((with_reducible apply Wp.obind); (with_reducible exact avBool_bool _)) | ((with_reducible refine Wp.ift ?_ ?_); (with_reducible rfl)) | ((with_reducible apply Wp.outK); (with_reducible exact nilRun _)) | (with_reducible refine Wp.go1 (by assumption) ?_))
 exact Wp.ret ⟨rfl, rfl⟩
theorem step_nil (c : Int) (h : AHeap) : world n (d + 2) 21 [.nilp, .int .u8 c] h = some (.ret (.tup []), h) := by
 apply Wp.eq
 rw [w_nfa_Run_Step]
 unfold nfa_Run_Step
 repeat (first | ((with_reducible apply Wp.obind); (with_reducible exact avBool_bool _)) | ((with_reducible refine Wp.ift ?_ ?_); (with_reducible rfl)) | ((with_reducible apply Wp.callN); (with_reducible exact none_nil _)))
 exact Wp.ret ⟨rfl, rfl⟩
theorem done_nil (h : AHeap) : world n (d + 2) 18 [.nilp] h = some (.ret (.bool false), h) := by
 apply Wp.eq
 rw [w_nfa_Run_Done]
 unfold nfa_Run_Done
 repeat (first | ((with_reducible apply Wp.obind); (with_reducible exact avBool_bool _)) | ((with_reducible refine Wp.ift ?_ ?_); (with_reducible rfl)) | ((with_reducible apply Wp.callN); (with_reducible exact none_nil _)))
 exact Wp.ret ⟨rfl, rfl⟩
theorem dead_nil (h : AHeap) : world n (d + 2) 19 [.nilp] h = some (.ret (.bool true), h) := by
 apply Wp.eq
 rw [w_nfa_Run_Dead]
 unfold nfa_Run_Dead
 repeat (first | ((with_reducible apply Wp.obind); (with_reducible exact avBool_bool _)) | ((with_reducible refine Wp.ift ?_ ?_); (with_reducible rfl)) | ((with_reducible apply Wp.callN); (with_reducible exact none_nil _)))
 exact Wp.ret ⟨rfl, rfl⟩
theorem copy_nil (h : AHeap) : world n (d + 1) 23 [.nilp] h = some (.ret .nilp, h) := by
 apply Wp.eq
 rw [w_nfa_Run_Copy]
 unfold nfa_Run_Copy
 repeat (first | ((with_reducible apply Wp.obind); (with_reducible exact avBool_bool _)) | ((with_reducible refine Wp.ift ?_ ?_); (with_reducible rfl)) | ((with_reducible apply Wp.outK); (with_reducible exact nilRun _)))
 exact Wp.ret ⟨rfl, rfl⟩
set_option maxRecDepth 100000 in
theorem neqNilRun (h : AHeap) : opBin Tryd.prog h .neq 44 true (some AV.nilp) (some AV.nilp) = some (.val (.bool false), h) := by kernel_rfl
set_option maxRecDepth 100000 in
theorem neqRun (b o : Nat) (h : AHeap) : opBin Tryd.prog h .neq 44 true (some (.ptr b o)) (some AV.nilp) = some (.val (.bool true), h) := by kernel_rfl
set_option maxRecDepth 100000 in
theorem bigRun : ptrBig Tryd.prog 44 = true := by kernel_rfl
theorem apartRun {a b : Nat} {x y : AV} {l m : List AV} (ka : RowH h a TRun (x :: l)) (kb : RowH h b TRun (y :: m)) (hne : a ≠ b) (hx : memB TRun h.ex = true) : opBinV Tryd.prog h .eql 44 false (some (.ptr a 0)) (some (.ptr b 0)) = some (.val (.bool false), h) := by
 obtain ⟨t1, g1, _⟩ := ka
 obtain ⟨t2, g2, _⟩ := kb
 have hb : Nat.beq a b = false := by
  cases hh : Nat.beq a b with
  | false => rfl
  | true => exact absurd (Nat.eq_of_beq_eq_true hh) hne
 have l1 : liveAt h a 0 = true := by
  unfold liveAt
  rw [g1]
  show (Nat.blt 0 (l.length + 1) && memB TRun h.ex) = true
  rw [hx]
  rfl
 have l2 : liveAt h b 0 = true := by
  unfold liveAt
  rw [g2]
  show (Nat.blt 0 (m.length + 1) && memB TRun h.ex) = true
  rw [hx]
  rfl
 have ap : apartPtr Tryd.prog h 44 (.ptr a 0) (.ptr b 0) = true := by
  show (!Nat.beq a b && (liveAt h a 0 && (liveAt h b 0 && ptrBig Tryd.prog 44))) = true
  rw [hb, l1, l2, bigRun]
  rfl
 simp only [opBinV, ap, Bool.not_false, Bool.and_self]
end
theorem run_app (N : Nt) (st : Bool × Nat) (a b : Bytes) : runN N st (a ++ b) = runN N (runN N st a) b := List.foldl_append
theorem run_small {N : Nt} (k : NtOk N) : ∀ (s : Bytes) {st : Bool × Nat}, st.2 < 18446744073709551616 → (runN N st s).2 < 18446744073709551616
 | [], _, h => h
 | c :: s, st, _ => run_small k s (step_small k st c.toNat)
set_option maxRecDepth 100000 in
theorem nfaCopies_says (h : AHeap) (hX : h.ex = [69]) (hT : HasTz h) (xs : List AV) (hP : ArgsP Tryd.prog h.next h 12 [23, 9, 9, 9] xs) : ∃ h', Says Tryd.prog 9 xs h (.ret (.bool true)) h' := by
 obtain ⟨_, _, rfl, hp0, hP⟩ := args_cons hP
 obtain ⟨_, _, rfl, hp1, hP⟩ := args_cons hP
 obtain ⟨_, _, rfl, hp2, hP⟩ := args_cons hP
 obtain ⟨_, _, rfl, hp3, hP⟩ := args_cons hP
 obtain rfl := args0 hP
 obtain ⟨k, u, rfl, _⟩ := pat_of hp0
 obtain ⟨a, rfl, hsa⟩ := hp1.str Tryd.underlying9
 obtain ⟨b, rfl, hsb⟩ := hp2.str Tryd.underlying9
 obtain ⟨c, rfl, hsc⟩ := hp3.str Tryd.underlying9
 obtain ⟨n, hn⟩ : ∃ n, 18446744073709551620 < n := ⟨_, Nat.lt_succ_self _⟩
 obtain ⟨D, hD⟩ : ∃ D, 1000 ≤ D := ⟨1000, Nat.le_refl _⟩
 suffices hK : Wp (law10_NfaCopies (world n (D + 4)) n [.int .i64 k, strA u] a b c h) fun r _ => r = .ret (.bool true) by
  obtain ⟨_, h', e, rfl⟩ := hK
  exact ⟨h', law10_NfaCopies_ok (world_ok n (D + 4)) e⟩
 have hxN : ∀ {h1 : AHeap} {rs : List RowT}, Abs.Mem [] h h1 rs → memB TNode h1.ex = false := fun M => by rw [M.ex, hX]; rfl
 have hxR : ∀ {h1 : AHeap} {rs : List RowT}, Abs.Mem [] h h1 rs → memB TRun h1.ex = true := fun M => by rw [M.ex, hX]; rfl
 have hTz : ∀ {h1 : AHeap} {rs : List RowT}, Abs.Mem [] h h1 rs → HasTz h1 := fun M => hT.tch M.tch (by simp)
 have reach : reachBytes ≤ 1152921504606846976 := by decide
 unfold law10_NfaCopies
 have Mx := Mem.nil [] h
 repeat (((with_reducible apply Wp.mbox Mx); (rfl); intro _ Mz; clear Mx; have Mx := Mz; clear Mz))
 refine Wp.callN (works_w (d := D + 2) hn (by omega) (hTz Mx) (hxN Mx)) ?_
 have la := lenS_nat a
 have lb := lenS_nat b
 have lc := lenS_nat c
 repeat (first | ((with_reducible apply Wp.obind); (with_reducible exact avBool_bool _)) | ((with_reducible apply Wp.lr0 Mx); rfl) | (with_reducible refine Wp.join1 (fun _ _ => ?_)) | (with_reducible refine Wp.lett ?_) | ((with_reducible refine Wp.iff ?_ ?_); (with_reducible first | rfl | exact Bool.not_true)) | ((with_reducible apply Wp.callN); (with_reducible first | exact step_nil _ _ | exact match_nil _ _ | exact begin_nil _ | exact done_nil _ | exact dead_nil _ | exact copy_nil _)) | ((with_reducible apply Wp.outK); (with_reducible exact neqNilRun _)) | (with_reducible refine Wp.go1 (by assumption) ?_))
 rcases of_all k u (n := n) (d := D + 3) hn (by omega) with hb | ⟨t, _, _, ht⟩
 ·refine Wp.callN (hb _ (hxN Mx)) ?_
  repeat (first | ((with_reducible apply Wp.obind); (with_reducible exact avInt_int _ _)) | (with_reducible refine Wp.join1 (fun _ _ => ?_)) | (with_reducible refine Wp.lett ?_) | ((with_reducible apply Wp.obind); (with_reducible first | exact extT_0 _ _ | exact extT_1 _ _ _)) | ((with_reducible refine Wp.ift ?_ ?_); first | (with_reducible rfl) | ((with_reducible apply bne_t); omega)) | (with_reducible refine Wp.go1 (by assumption) ?_))
  exact Wp.ret rfl
 ·have hN := netOf_ok t
  obtain ⟨nb, h1, e1, M1⟩ := ht _ (hxN Mx)
  refine Wp.callN e1 ?_
  have M2 := Mem.frame (xs := []) Mx M1
  clear Mx M1 e1
  simp only [List.cons_append, List.nil_append] at M2
  repeat (first | (with_reducible refine Wp.join1 (fun _ _ => ?_)) | ((with_reducible refine Wp.lettw ?_ ?_ ?_); omega; omega) | (with_reducible refine Wp.lett ?_) | ((with_reducible apply Wp.obind); (with_reducible first | exact avInt_int _ _ | exact extT_0 _ _ | exact extT_1 _ _ _)) | ((with_reducible refine Wp.iff ?_ ?_); ((with_reducible first | apply decide_eq_false | apply bne_f); omega)) | (with_reducible refine Wp.go1 (by assumption) ?_))
  by_cases hbig : 500 < a.length + b.length + c.length
  ·refine Wp.ift (decide_eq_true (by omega)) ?_
   exact Wp.ret rfl
  refine Wp.iff (decide_eq_false (by omega)) ?_
  clear ht
  have z0 : ((false, 0) : Bool × Nat).2 < 18446744073709551616 := by decide
  have za := run_small hN a z0
  have hnb := M2.at0.2.1
  have hg := (hTz M2).2
  obtain ⟨h3, e3, M3⟩ := begin_m (n := n) (d := D + 3) (nb := nb) M2
  refine Wp.callN e3 ?_
  clear e3
  repeat (first | (with_reducible refine Wp.join0 (fun _ _ => ?_)) | ((with_reducible apply Wp.obind); (with_reducible exact avBool_bool _)) | ((with_reducible refine Wp.iff ?_ ?_); (with_reducible rfl)) | ((with_reducible apply Wp.outK); (with_reducible exact eqRun _ _ _)))
  rename_i kx ekx
  refine copiesL2_loop (n := n) (d := D + 1) (h0 := h3) (st0 := (false, 0)) (hTz M3) hN (by omega) (by omega) (by omega) (by omega) M3.at1.1 M3.at1.2.1 (fun H4 t4 k4 => ?_) a.length n 0 (false, 0) _ (by omega) (Nat.zero_add _) z0 (by rw [List.drop_zero]) (Tch.refl _ _) M3.at0.1
  have M4 := Mem.upd (xs := []) M3 t4 k4
  simp only [List.nil_append] at M4
  rw [ekx]
  clear ekx kx M3 t4 k4
  have hr4 := M4.at0.2.1
  obtain ⟨h5, e5, M5⟩ := copy_m (n := n) (d := D + 3) M4 M4.at0.1
  refine Wp.callN e5 ?_
  clear e5
  have ap := apartRun M5.at0.1 M5.at1.1 (by omega) (hxR M5)
  repeat (first | (with_reducible first | refine Wp.join0 (fun _ _ => ?_) | refine Wp.join1 (fun _ _ => ?_)) | ((with_reducible apply Wp.obind); (with_reducible exact avBool_bool _)) | ((with_reducible refine Wp.iff ?_ ?_); (with_reducible rfl)) | ((with_reducible apply Wp.outK); (with_reducible first | exact eqRun _ _ _ | exact ap)) | (with_reducible refine Wp.go1 (by assumption) ?_))
  rename_i ky eky
  refine copiesL1_loop (n := n) (d := D + 1) (h0 := h5) (st0 := runN (netOf t) (false, 0) a) (hTz M5) hN (by omega) (by omega) (by omega) (by omega) M5.at2.1 M5.at2.2.1 (fun H6 t6 k6 => ?_) b.length n 0 _ _ (by omega) (Nat.zero_add _) za (by rw [List.drop_zero]) (Tch.refl _ _) M5.at1.1
  have M6 := Mem.upd (xs := [_]) M5 t6 k6
  simp only [List.cons_append, List.nil_append] at M6
  rw [eky]
  clear eky ky M5 t6 k6 ap
  ((with_reducible refine Wp.join0 (fun _ _ => ?_)))
  rename_i kz ekz
  refine copiesL0_loop (n := n) (d := D + 1) (h0 := H6) (st0 := runN (netOf t) (false, 0) a) (hTz M6) hN (by omega) (by omega) (by omega) (by omega) M6.at2.1 M6.at2.2.1 (fun H7 t7 k7 => ?_) c.length n 0 _ _ (by omega) (Nat.zero_add _) za (by rw [List.drop_zero]) (Tch.refl _ _) M6.at0.1
  have M7 := Mem.upd (xs := []) M6 t7 k7
  simp only [List.nil_append] at M7
  rw [ekz]
  clear ekz kz M6 t7 k7
  obtain ⟨h8, e8, M8⟩ := begin_m (n := n) (d := D + 3) (nb := nb) M7
  refine Wp.callN e8 ?_
  clear e8
  have A1 : addS a b = some (a ++ b) := addS_val (by omega)
  have A2 : addS a c = some (a ++ c) := addS_val (by omega)
  have lab : (a ++ b).length < 1000000000 := by rw [List.length_append]; omega
  have lac : (a ++ c).length < 1000000000 := by rw [List.length_append]; omega
  have d1 := done_w (n := n) (d := D + 2) hN (run_small hN b za) M8.at2.1 M8.at3.1
  repeat (first | (with_reducible refine Wp.join1 (fun _ _ => ?_)) | ((with_reducible apply Wp.obind); (with_reducible first | exact A1 | exact avBool_bool _)) | ((with_reducible refine Wp.ift ?_ ?_); (with_reducible rfl)) | ((with_reducible apply Wp.callN); (with_reducible exact d1)) | ((with_reducible apply Wp.outK); (with_reducible exact neqRun _ _ _)))
  obtain ⟨h9, e9, t9⟩ := match_r (n := n) (d := D) (s := a ++ b) (hTz M8) hN (by omega) lab M8.at3.1 M8.at3.2.1
  refine Wp.callN e9 ?_
  clear e9
  have M9 := M8.keep t9
  clear d1
  repeat (first | (with_reducible refine Wp.join1 (fun _ _ => ?_)) | (with_reducible refine Wp.lett ?_) | ((with_reducible apply Wp.obind); (with_reducible exact avBool_bool _)) | (with_reducible refine Wp.go1 (by assumption) ?_))
  refine Wp.ift (by unfold matchN; rw [run_app]; cases doneN (netOf t) (runN (netOf t) (runN (netOf t) (false, 0) a) b) <;> rfl) ?_
  have d2 := done_w (n := n) (d := D + 2) hN (run_small hN c za) M9.at1.1 M9.at3.1
  repeat (first | ((with_reducible apply Wp.obind); (with_reducible first | exact A2 | exact avBool_bool _)) | ((with_reducible apply Wp.callN); (with_reducible exact d2)))
  obtain ⟨h10, e10, t10⟩ := match_r (n := n) (d := D) (s := a ++ c) (hTz M9) hN (by omega) lac M9.at3.1 M9.at3.2.1
  refine Wp.callN e10 ?_
  clear e10
  have M10 := M9.keep t10
  clear d2
  repeat (first | (with_reducible refine Wp.join1 (fun _ _ => ?_)) | (with_reducible refine Wp.lett ?_) | ((with_reducible apply Wp.obind); (with_reducible exact avBool_bool _)) | (with_reducible refine Wp.go1 (by assumption) ?_))
  refine Wp.ift (by unfold matchN; rw [run_app]; cases doneN (netOf t) (runN (netOf t) (runN (netOf t) (false, 0) a) c) <;> rfl) ?_
  have d3 := done_w (n := n) (d := D + 2) hN z0 M10.at0.1 M10.at3.1
  repeat (first | ((with_reducible apply Wp.obind); (with_reducible exact avBool_bool _)) | ((with_reducible apply Wp.callN); (with_reducible exact d3)))
  obtain ⟨h11, e11, t11⟩ := match_r (n := n) (d := D) (s := []) (hTz M10) hN (by omega) (by decide) M10.at3.1 M10.at3.2.1
  refine Wp.callN e11 ?_
  repeat (first | (with_reducible refine Wp.lett ?_) | ((with_reducible apply Wp.obind); (with_reducible exact avBool_bool _)) | (with_reducible refine Wp.go1 (by assumption) ?_))
  refine Wp.ret ?_
  have hm0 : matchN (netOf t) [] = doneN (netOf t) (false, 0) := rfl
  rw [hm0]
  cases doneN (netOf t) (false, 0) <;> rfl
end Go.Proofs.YtakhljnkmbpmpaaDoor
