/- What nfaDies_proved stands on, part 8 of 9. -/
import Derived.Test.YtakhljnkmbpmpaaDoorCd7
namespace Go.Proofs.YtakhljnkmbpmpaaDoor
open Go.RowKit Abs
def zeroNet : Nt := ⟨false, 0, 0, List.replicate 64 0, List.replicate 256 0⟩
theorem zeroNet_ok : NtOk zeroNet := ⟨List.length_replicate, List.length_replicate, by decide, by decide, fun x hx => by rw [List.eq_of_mem_replicate hx]; decide, fun x hx => by rw [List.eq_of_mem_replicate hx]; decide⟩
def rawOf (t : Nd) : Nt := { (pieceN t zeroNet 0).2.1 with empty := (pieceN t zeroNet 0).1.empty, first := (pieceN t zeroNet 0).1.first, last := (pieceN t zeroNet 0).1.last }
def netOf (t : Nd) : Nt := (rawOf t).trim
theorem rawOf_ok (t : Nd) : NtOk (rawOf t) := by
 have := pieceN_ok t (u := 0) zeroNet_ok
 exact ⟨this.n.fl, this.n.tl, this.p.f, this.p.l, this.n.fs, this.n.ts⟩
theorem netOf_ok (t : Nd) : NtOk (netOf t) := (rawOf_ok t).trim
theorem rowsAt_of {S : List Nat} {h0 h : AHeap} {rs T : List RowT} (M : Abs.Mem S h0 h rs) (hs : ∀ y ∈ T, y ∈ rs) : RowsAt h T := fun y hy => ⟨(M.row y (hs y hy)).1, (M.row y (hs y hy)).2.1⟩
theorem apart2 {S : List Nat} {h0 h : AHeap} {x y : RowT} {rs T : List RowT} (M : Abs.Mem S h0 h (x :: y :: rs)) (hs : ∀ z ∈ T, z ∈ rs) : (∀ z ∈ T, z.1 ∉ [x.1, y.1]) ∧ x.1 ≠ y.1 := by
 have ap := M.apart
 rw [List.map_cons, List.map_cons, List.nodup_cons, List.nodup_cons] at ap
 refine ⟨fun z hz hm => ?_, fun e => ap.1 (by rw [e]; exact List.mem_cons_self)⟩
 rcases List.mem_cons.1 hm with e | hm
 ·exact ap.1 (List.mem_cons_of_mem _ (by rw [← e]; exact List.mem_map_of_mem (hs z hz)))
 ·exact ap.2.1 (by rw [← List.mem_singleton.1 hm]; exact List.mem_map_of_mem (hs z hz))
set_option maxRecDepth 100000 in
theorem bldBl (b o : Nat) : bldS Tryd.prog TBl [(0, .ptr b o)] = some [.ptr b o, .int .i64 0] := by kernel_rfl
section
variable {n d : Nat} {h : AHeap} {u : Bytes} {k : Int} {t : Nd} {c : List AV} {T : List RowT} {H : AHeap} {e1 q : Int}
theorem of_bad (he : e1 ≠ 0) (ht : ∀ h, memB TNode h.ex = false → world n d 24 [.agg [.int .i64 k, strA u]] h = some (.ret (.tup [.agg (nodeC 0 zeroW .nsl), .agg [.int .i64 e1, .int .i64 q]]), h)) (hx : memB TNode h.ex = false) :
  world n (d + 1) 12 [.agg [.int .i64 k, strA u]] h = some (.ret (.tup [.nilp, .int .i64 2]), h) := by
 apply Wp.eq
 rw [w_nfa_Of]
 refine Wp.gc ?_
 suffices hK : Wp (nfa_Of (world n d) n [.int .i64 k, strA u] h) fun r h' => r = .ret (.tup [.nilp, .int .i64 2]) ∧ Tch [] h h' from hK.mono fun r h' ⟨e, t⟩ => ⟨t.above, by rw [e]; rfl, e, rfl⟩
 unfold nfa_Of
 have Mx := Mem.nil [] h
 have hxN : ∀ {h1 : AHeap} {rs : List RowT}, Abs.Mem [] h h1 rs → memB TNode h1.ex = false := fun M => by rw [M.ex]; exact hx
 repeat (first | ((with_reducible apply Wp.lr0 Mx); rfl) | ((with_reducible apply Wp.mbox Mx); (rfl); intro _ Mz; clear Mx; have Mx := Mz; clear Mz))
 refine Wp.callN (ht _ (hxN Mx)) ?_
 repeat (first | ((with_reducible apply Wp.obind); (with_reducible exact avInt_int _ _)) | ((with_reducible apply Wp.ld0 Mx); rfl) | ((with_reducible apply Wp.sa0 Mx); rfl; rfl; (rfl); intro _ Mz; clear Mx; have Mx := Mz; clear Mz) | ((with_reducible apply Wp.sa1 Mx); rfl; rfl; (rfl); intro _ Mz; clear Mx; have Mx := Mz; clear Mz) | ((with_reducible apply Wp.mnew Mx); intro _ Mz; clear Mx; have Mx := Mz; clear Mz) | (with_reducible refine Wp.lett ?_) | ((with_reducible apply Wp.obind); (with_reducible first | exact avAgg_agg _ | exact extT_0 _ _ | exact extT_1 _ _ _)) | ((with_reducible refine Wp.ift ?_ ?_); ((with_reducible apply bne_t); omega)) | rw [newP_eq])
 exact Wp.ret ⟨rfl, Mx.tch⟩
set_option maxRecDepth 100000 in
theorem of_ok (hk1 : oneK t) (hsz : t.sz < 100000) (hd : t.sz + 2 ≤ d) (hn : 18446744073709551620 < n) (ht : ∀ h, memB TNode h.ex = false → ∃ c T h', world n d 24 [.agg [.int .i64 k, strA u]] h = some (.ret (.tup [.agg c, .agg [.int .i64 0, .int .i64 0]]), h') ∧ NodeT t c T ∧ Abs.Mem [] h h' T) (hx : memB TNode h.ex = false) :
  ∃ nb h', world n (d + 1) 12 [.agg [.int .i64 k, strA u]] h = some (.ret (.tup [.ptr nb 0, .int .i64 0]), h') ∧ Abs.Mem [] h h' [(nb, TNet, netC (netOf t))] := by
 suffices hK : Wp (gcR h (nfa_Of (world n d) n [.int .i64 k, strA u] h)) fun r h' => ∃ nb, r = .ret (.tup [.ptr nb 0, .int .i64 0]) ∧ Abs.Mem [] h h' [(nb, TNet, netC (netOf t))] by
  obtain ⟨_, h', e, nb, rfl, k2⟩ := hK
  rw [← w_nfa_Of] at e
  exact ⟨nb, h', e, k2⟩
 suffices hK : Wp (nfa_Of (world n d) n [.int .i64 k, strA u] h) fun r h' => ∃ nb, r = .ret (.tup [.ptr nb 0, .int .i64 0]) ∧ Abs.Mem [] h h' [(nb, TNet, netC (netOf t))] by
  obtain ⟨_, h', e, nb, rfl, k2⟩ := hK
  refine Wp.gc2 ⟨_, h', e, ⟨nb, rfl, k2⟩, fun _ hl => ?_⟩
  have h1 : AV.lo h.next (.ptr nb 0) = true := by
   have : (AV.lo h.next (.ptr nb 0) && (AV.lo h.next (.int .i64 0) && AV.loL h.next [])) = true := hl
   rw [Bool.and_eq_true] at this
   exact this.1
  have h2 := k2.at0.2.2.resolve_left (by simp)
  have h3 : nb < h.next := by simpa [AV.lo] using h1
  omega
 unfold nfa_Of
 have Mx := Mem.nil [] h
 have hxN : ∀ {h1 : AHeap} {rs : List RowT}, Abs.Mem [] h h1 rs → memB TNode h1.ex = false := fun M => by rw [M.ex]; exact hx
 repeat (first | ((with_reducible apply Wp.lr0 Mx); rfl) | ((with_reducible apply Wp.mbox Mx); (rfl); intro _ Mz; clear Mx; have Mx := Mz; clear Mz))
 obtain ⟨c, T, H1, e1, kt1, M1⟩ := ht _ (hxN Mx)
 refine Wp.callN e1 ?_
 have M2 := Mem.frameT (xs := []) (ys := []) Mx M1
 clear Mx M1
 have Mx := M2
 clear M2
 simp only [List.nil_append] at Mx
 repeat (first | ((with_reducible apply Wp.mnew Mx); intro _ Mz; clear Mx; have Mx := Mz; clear Mz) | ((with_reducible apply Wp.obind); (with_reducible first | exact avAgg_agg _ | exact extT_0 _ _ | exact extT_1 _ _ _)) | rw [newP_eq])
 refine Wp.sa1 Mx kt1.len rfl kt1.one fun h3 M3 => ?_
 clear Mx
 have Mx := M3
 clear M3
 repeat (first | ((with_reducible apply Wp.obind); (with_reducible exact avInt_int _ _)) | ((with_reducible apply Wp.ld0 Mx); rfl) | ((with_reducible apply Wp.sa0 Mx); rfl; rfl; (rfl); intro _ Mz; clear Mx; have Mx := Mz; clear Mz) | ((with_reducible apply Wp.mbox Mx); (rfl); intro _ Mz; clear Mx; have Mx := Mz; clear Mz) | (with_reducible refine Wp.lett ?_) | ((with_reducible refine Wp.iff ?_ ?_); ((with_reducible apply bne_f); omega)) | rw [newP_eq])
 have M4 : Abs.Mem [] h _ ((_, TNet, netC zeroNet) :: _) := Mx
 clear Mx
 have Mx := M4
 clear M4
 repeat (first | ((with_reducible apply Wp.sa0 Mx); rfl; rfl; (rfl); intro _ Mz; clear Mx; have Mx := Mz; clear Mz) | ((with_reducible apply Wp.mnew Mx); intro _ Mz; clear Mx; have Mx := Mz; clear Mz) | ((with_reducible apply Wp.obind); (with_reducible exact bldBl _ _)))
 refine Wp.lr3 Mx kt1.len ?_
 obtain ⟨d2, rfl⟩ : ∃ d2, d = d2 + 2 := ⟨d - 2, by omega⟩
 obtain ⟨hTn, hne⟩ := apart2 (T := T) Mx (fun y hy => by simp [hy])
 have rT := rowsAt_of (T := T) Mx (fun y hy => by simp [hy])
 obtain ⟨h5, e5, kb5, kn5, t5⟩ := piece_ok t (n := n) (D := d2 + 2) hk1 kt1 rT hTn Mx.at0.2.1 Mx.at1.2.1 hne hd (by omega) (by omega) zeroNet 0 _ zeroNet_ok (by omega) (Tch.refl _ _) Mx.at0.1 Mx.at1.1
 refine Wp.callN e5 ?_
 clear e5 hTn rT hne
 have M5 := Mem.upd2 (xs := []) Mx t5 kb5 kn5
 clear Mx
 have Mx := M5
 clear M5
 simp only [List.nil_append] at Mx
 repeat (first | ((with_reducible apply Wp.obind); (with_reducible first | exact avInt_int _ _ | exact avBool_bool _ | exact nilC_ptr _ _ | exact fldP_ptr _ _ _)) | ((with_reducible apply Wp.ld0 Mx); rfl) | ((with_reducible apply Wp.sa0 Mx); rfl; rfl; (rfl); intro _ Mz; clear Mx; have Mx := Mz; clear Mz) | ((with_reducible apply Wp.ld1 Mx); rfl) | ((with_reducible apply Wp.ms2 Mx); exact Nat.le_of_ble_eq_true rfl; rfl; intro _ Mz; clear Mx; have Mx := Mz; clear Mz) | ((with_reducible apply Wp.mnew Mx); intro _ Mz; clear Mx; have Mx := Mz; clear Mz) | ((with_reducible refine Wp.chk ?_ ?_); focus ((repeat' (first | (with_reducible exact rfl) | (with_reducible apply and_t) | ((with_reducible apply Mem.re0 Mx); kernel_rfl; rfl))); done)) | ((with_reducible apply Wp.obind); (with_reducible exact avAgg_agg _)) | rw [newP_eq])
 obtain ⟨h6, e6, kn6, t6⟩ := trim_r (n := n) (d := d2) (rawOf_ok t) hn (h := _) Mx.at2.1
 refine Wp.callN e6 ?_
 have M6 := Mem.upd (xs := [_, _]) Mx t6 kn6
 clear Mx
 have Mx := M6
 clear M6
 simp only [List.cons_append, List.nil_append] at Mx
 repeat (((with_reducible apply Wp.ld1 Mx); rfl))
 refine Wp.ret ⟨_, rfl, fun x hx => Mx.row x ?_, List.nodup_cons.2 ⟨List.not_mem_nil, List.nodup_nil⟩, Mx.tch⟩
 rw [List.mem_singleton] at hx
 rw [hx]
 exact List.mem_cons_of_mem _ (List.mem_cons_of_mem _ List.mem_cons_self)
end
abbrev TRun : Nat := 69
def stepN (N : Nt) (st : Bool × Nat) (c : Nat) : Bool × Nat := (true, (if st.1 = true then N.behind st.2 else N.first) &&& N.ta.getD c 0)
def doneN (N : Nt) (st : Bool × Nat) : Bool := if st.1 = true then decide (st.2 &&& N.last ≠ 0) else N.empty
def deadN (N : Nt) (st : Bool × Nat) : Bool := if st.1 = true then decide (st.2 = 0) else !N.empty && decide (N.first = 0)
noncomputable def runC (nb : Nat) (st : Bool × Nat) : List AV := [.ptr nb 0, .bool st.1, .int .u64 (st.2 : Int)]
def runN (N : Nt) (st : Bool × Nat) (s : Bytes) : Bool × Nat := s.foldl (fun st c => stepN N st c.toNat) st
def matchN (N : Nt) (s : Bytes) : Bool := doneN N (runN N (false, 0) s)
theorem behF_zero (fo : List Nat) : ∀ (f acc : Nat), behF fo f 0 acc = acc
 | 0, _ => rfl
 | _ + 1, _ => rfl
theorem beh_zero (N : Nt) : N.behind 0 = 0 := behF_zero _ _ _
theorem step_zero (N : Nt) (c : Nat) : stepN N (true, 0) c = (true, 0) := by
 unfold stepN
 rw [if_pos rfl, beh_zero, Nat.zero_and]
theorem run_zero (N : Nt) : ∀ s : Bytes, runN N (true, 0) s = (true, 0)
 | [] => rfl
 | c :: s => by
  show runN N (stepN N (true, 0) c.toNat) s = _
  rw [step_zero]
  exact run_zero N s
theorem dead_step {N : Nt} {st : Bool × Nat} (h : deadN N st = true) (c : Nat) : deadN N (stepN N st c) = true := by
 obtain ⟨b, m⟩ := st
 cases b with
 | true =>
  have : m = 0 := of_decide_eq_true h
  subst this
  rw [step_zero]
  rfl
 | false =>
  have h2 : (!N.empty && decide (N.first = 0)) = true := h
  rw [Bool.and_eq_true, decide_eq_true_eq] at h2
  show decide ((N.first &&& _) = 0) = true
  rw [h2.2, Nat.zero_and]
  rfl
theorem done_live {N : Nt} {st : Bool × Nat} (h : doneN N st = true) : deadN N st = false := by
 obtain ⟨b, m⟩ := st
 cases b with
 | true =>
  have h2 : m &&& N.last ≠ 0 := of_decide_eq_true h
  show decide (m = 0) = false
  rw [decide_eq_false_iff_not]
  intro e
  rw [e, Nat.zero_and] at h2
  exact h2 rfl
 | false =>
  have h2 : N.empty = true := h
  show (!N.empty && _) = false
  rw [h2]
  rfl
theorem step_small {N : Nt} (k : NtOk N) (st : Bool × Nat) (c : Nat) : (stepN N st c).2 < 18446744073709551616 := by
 show (if st.1 = true then N.behind st.2 else N.first) &&& _ < _
 refine and_small ?_
 split
 ·exact N.behind_small k _
 ·exact k.f
section
variable {N : Nt} {n d nb rb : Nat} {h : AHeap} {Q : ARes → AHeap → Prop} {st : Bool × Nat}
set_option maxRecDepth 100000 in
theorem eqRun (b o : Nat) (h : AHeap) : opBin Tryd.prog h .eql 44 true (some (.ptr b o)) (some AV.nilp) = some (.val (.bool false), h) := by kernel_rfl
set_option maxRecDepth 100000 in
theorem eqNet (b o : Nat) (h : AHeap) : opBin Tryd.prog h .eql 25 true (some (.ptr b o)) (some AV.nilp) = some (.val (.bool false), h) := by kernel_rfl
set_option maxRecDepth 100000 in
theorem bldRun (b o : Nat) : bldS Tryd.prog TRun [(0, .ptr b o)] = some [.ptr b o, .bool false, .int .u64 0] := by kernel_rfl
theorem none_w (kr : RowH h rb TRun (runC nb st)) : world n (d + 1) 33 [.ptr rb 0] h = some (.ret (.bool false), h) := by
 apply Wp.eq
 rw [w_nfa_Run_none]
 unfold nfa_Run_none
 have c1 : ldCell h (.ptr rb (0 + 0)) = some (.ptr nb 0) := RowH.cell' kr rfl
 repeat (first | (with_reducible refine Wp.join1 (fun _ _ => ?_)) | ((with_reducible apply Wp.obind); (with_reducible first | exact c1 | exact avBool_bool _ | exact nilC_ptr _ _ | exact fldP_ptr _ _ _)) | ((with_reducible refine Wp.iff ?_ ?_); (with_reducible rfl)) | ((with_reducible apply Wp.outK); (with_reducible first | exact eqRun _ _ _ | exact eqNet _ _ _)) | (with_reducible refine Wp.go1 (by assumption) ?_))
 exact Wp.ret ⟨rfl, rfl⟩
theorem done_w (hN : NtOk N) (hs : st.2 < 18446744073709551616) (kr : RowH h rb TRun (runC nb st)) (kn : RowH h nb TNet (netC N)) : world n (d + 2) 18 [.ptr rb 0] h = some (.ret (.bool (doneN N st)), h) := by
 apply Wp.eq
 rw [w_nfa_Run_Done]
 unfold nfa_Run_Done
 have e0 := none_w (n := n) (d := d) kr
 have c1 : ldCell h (.ptr rb (0 + 0)) = some (.ptr nb 0) := RowH.cell' kr rfl
 have c2 : ldCell h (.ptr rb (0 + 1)) = some (.bool st.1) := RowH.cell' kr rfl
 have c3 : ldCell h (.ptr rb (0 + 2)) = some (.int .u64 (st.2 : Int)) := RowH.cell' kr rfl
 have c4 : ldCell h (.ptr nb (0 + 0)) = some (.bool N.empty) := RowH.cell' kn rfl
 have c5 : ldCell h (.ptr nb (0 + 2)) = some (.int .u64 (N.last : Int)) := RowH.cell' kn rfl
 have e1 := andI_nat hs hN.l
 unfold doneN
 repeat (first | (with_reducible refine Wp.lett ?_) | ((with_reducible apply Wp.obind); (with_reducible first | exact c2 | exact avBool_bool _ | exact nilC_ptr _ _ | exact fldP_ptr _ _ _)) | ((with_reducible refine Wp.iff ?_ ?_); (with_reducible rfl)) | ((with_reducible apply Wp.callN); (with_reducible exact e0)))
 cases hb : st.1 with
 | false =>
  repeat (first | ((with_reducible apply Wp.obind); (with_reducible first | exact c1 | exact c4 | exact avBool_bool _ | exact nilC_ptr _ _ | exact fldP_ptr _ _ _)) | ((with_reducible refine Wp.ift ?_ ?_); (with_reducible exact Bool.not_false)))
  exact Wp.ret ⟨rfl, rfl⟩
 | true =>
  repeat (first | (with_reducible refine Wp.lett ?_) | ((with_reducible apply Wp.obind); (with_reducible first | exact c1 | exact c3 | exact c5 | exact avInt_int _ _ | exact nilC_ptr _ _ | exact fldP_ptr _ _ _)) | ((with_reducible refine Wp.iff ?_ ?_); (with_reducible exact Bool.not_true)))
  rw [e1]
  refine Wp.ret ⟨?_, rfl⟩
  by_cases hz : st.2 &&& N.last = 0
  ·rw [hz]
   rfl
  ·rw [if_pos rfl, decide_eq_true hz, show (((st.2 &&& N.last : Nat) : Int) != 0) = true from bne_t (by omega)]
theorem dead_w (kr : RowH h rb TRun (runC nb st)) (kn : RowH h nb TNet (netC N)) : world n (d + 2) 19 [.ptr rb 0] h = some (.ret (.bool (deadN N st)), h) := by
 apply Wp.eq
 rw [w_nfa_Run_Dead]
 unfold nfa_Run_Dead
 have e0 := none_w (n := n) (d := d) kr
 have c1 : ldCell h (.ptr rb (0 + 0)) = some (.ptr nb 0) := RowH.cell' kr rfl
 have c2 : ldCell h (.ptr rb (0 + 1)) = some (.bool st.1) := RowH.cell' kr rfl
 have c3 : ldCell h (.ptr rb (0 + 2)) = some (.int .u64 (st.2 : Int)) := RowH.cell' kr rfl
 have c4 : ldCell h (.ptr nb (0 + 0)) = some (.bool N.empty) := RowH.cell' kn rfl
 have c5 : ldCell h (.ptr nb (0 + 1)) = some (.int .u64 (N.first : Int)) := RowH.cell' kn rfl
 have hz : ∀ x : Nat, (((x : Nat) : Int) == 0) = decide (x = 0) := fun x => by
  by_cases h0 : x = 0
  ·rw [h0]
   rfl
  ·rw [decide_eq_false h0]
   exact beq_f (by omega)
 unfold deadN
 repeat (first | (with_reducible refine Wp.lett ?_) | ((with_reducible apply Wp.obind); (with_reducible first | exact c2 | exact avBool_bool _ | exact nilC_ptr _ _ | exact fldP_ptr _ _ _)) | ((with_reducible refine Wp.iff ?_ ?_); (with_reducible rfl)) | ((with_reducible apply Wp.callN); (with_reducible exact e0)))
 cases hb : st.1 with
 | false =>
  cases he : N.empty with
  | true =>
   rw [he] at c4
   repeat (first | (with_reducible refine Wp.join1 (fun _ _ => ?_)) | (with_reducible refine Wp.lett ?_) | ((with_reducible apply Wp.obind); (with_reducible first | exact c1 | exact c4 | exact avBool_bool _ | exact nilC_ptr _ _ | exact fldP_ptr _ _ _)) | ((with_reducible refine Wp.ift ?_ ?_); (with_reducible exact Bool.not_false)) | ((with_reducible refine Wp.iff ?_ ?_); (with_reducible exact Bool.not_true)) | (with_reducible refine Wp.go1 (by assumption) ?_))
   exact Wp.ret ⟨rfl, rfl⟩
  | false =>
   rw [he] at c4
   repeat (first | (with_reducible refine Wp.join1 (fun _ _ => ?_)) | (with_reducible refine Wp.lett ?_) | ((with_reducible apply Wp.obind); (with_reducible first | exact c1 | exact c4 | exact c5 | exact avInt_int _ _ | exact avBool_bool _ | exact nilC_ptr _ _ | exact fldP_ptr _ _ _)) | ((with_reducible refine Wp.ift ?_ ?_); (with_reducible exact Bool.not_false)) | (with_reducible refine Wp.go1 (by assumption) ?_))
   rw [hz]
   exact Wp.ret ⟨rfl, rfl⟩
 | true =>
  repeat (first | (with_reducible refine Wp.lett ?_) | ((with_reducible apply Wp.obind); (with_reducible first | exact c3 | exact avInt_int _ _ | exact nilC_ptr _ _ | exact fldP_ptr _ _ _)) | ((with_reducible refine Wp.iff ?_ ?_); (with_reducible exact Bool.not_true)))
  rw [hz]
  exact Wp.ret ⟨rfl, rfl⟩
theorem step_r (hT : HasTz h) (hN : NtOk N) (hs : st.2 < 18446744073709551616) (hn : 18446744073709551616 < n) (hne : rb ≠ nb) {c : Nat} (hc : c < 256) (kr : RowH h rb TRun (runC nb st)) (kn : RowH h nb TNet (netC N)) (hnb : nb < h.next) : ∃ h', world n (d + 3) 21 [.ptr rb 0, .int .u8 (c : Int)] h = some (.ret (.tup []), h') ∧ RowH h' rb TRun (runC nb (stepN N st c)) ∧ Tch [rb] h h' := by
 apply Wp.ex
 rw [w_nfa_Run_Step]
 unfold nfa_Run_Step
 have e0 := none_w (n := n) (d := d + 1) kr
 have c1 : ldCell h (.ptr rb (0 + 0)) = some (.ptr nb 0) := RowH.cell' kr rfl
 have c2 : ldCell h (.ptr rb (0 + 1)) = some (.bool st.1) := RowH.cell' kr rfl
 have c3 : ldCell h (.ptr rb (0 + 2)) = some (.int .u64 (st.2 : Int)) := RowH.cell' kr rfl
 have c5 : ldCell h (.ptr nb (0 + 1)) = some (.int .u64 (N.first : Int)) := RowH.cell' kn rfl
 have e1 := beh_w (n := n) (d := d) hT hN kn hs hn
 have e3 := idxA_ptr (b := nb) (o := 0 + 67) hc
 have fin : ∀ (m : Nat), m < 18446744073709551616 → (stepN N st c).2 = m &&& N.ta.getD c 0 → Wp (obind (stRow h 1 [.bool true] (.ptr rb (0 + 1))) fun h_25 =>
   obind (nilC (.ptr rb 0)) fun t33 => obind (fldP 0 t33) fun t34 => obind (ldCell h_25 t34) fun v35 => obind (nilC v35) fun t37 => obind (fldP 67 t37) fun t38 =>
   obind (idxA 256 1 t38 (c : Int)) fun t39 => obind (ldCell h_25 t39) fun v40 => obind (avInt .u64 v40) fun t40 => lett (andI .u64 (m : Int) t40) fun (t41 : Int) =>
   obind (nilC (.ptr rb 0)) fun t42 => obind (fldP 2 t42) fun t43 => obind (stRow h_25 1 [.int .u64 t41] t43) fun h_38 => some (.ret (.tup []), h_38))
   fun r h' => r = .ret (.tup []) ∧ RowH h' rb TRun (runC nb (stepN N st c)) ∧ Tch [rb] h h' := by
  intro m hm he
  refine Wp.st1 kr (by show 1 < 3; decide) rfl fun h1 k1 t1 _ => ?_
  have kn1 := kn.tch t1 hnb (by simpa using fun e => hne e.symm)
  have d1 : ldCell h1 (.ptr rb (0 + 0)) = some (.ptr nb 0) := RowH.cell' k1 rfl
  have d2 : ldCell h1 (.ptr nb (0 + 67 + c)) = some (.int .u64 (N.ta.getD c 0 : Int)) := RowH.cell' kn1 (by rw [Nat.zero_add, net_ta hN hc])
  repeat (first | (with_reducible refine Wp.lett ?_) | ((with_reducible apply Wp.obind); (with_reducible first | exact d1 | exact d2 | exact e3 | exact avInt_int _ _ | exact nilC_ptr _ _ | exact fldP_ptr _ _ _)))
  rw [andI_nat hm (getD_small hN.ts c), ← he]
  refine Wp.st1 k1 (by show 2 < 3; decide) rfl fun h2 k2 t2 _ => ?_
  exact Wp.ret ⟨rfl, k2, t1.trans t2⟩
 repeat (first | (with_reducible refine Wp.join1 (fun _ _ => ?_)) | ((with_reducible apply Wp.obind); (with_reducible first | exact c1 | exact c2 | exact c5 | exact avInt_int _ _ | exact avBool_bool _ | exact nilC_ptr _ _ | exact fldP_ptr _ _ _)) | ((with_reducible refine Wp.iff ?_ ?_); (with_reducible rfl)) | ((with_reducible apply Wp.callN); (with_reducible exact e0)))
 cases hb : st.1 with
 | true =>
  repeat (first | ((with_reducible apply Wp.obind); (with_reducible first | exact c1 | exact c3 | exact avInt_int _ _ | exact nilC_ptr _ _ | exact fldP_ptr _ _ _)) | ((with_reducible refine Wp.ift ?_ ?_); (with_reducible rfl)) | ((with_reducible apply Wp.callN); (with_reducible exact e1)) | (with_reducible refine Wp.go1 (by assumption) ?_))
  exact fin (N.behind st.2) (N.behind_small hN _) (by unfold stepN; rw [if_pos hb])
 | false =>
  repeat (first | ((with_reducible apply Wp.obind); (with_reducible first | exact nilC_ptr _ _ | exact fldP_ptr _ _ _)) | ((with_reducible refine Wp.iff ?_ ?_); (with_reducible rfl)) | (with_reducible refine Wp.go1 (by assumption) ?_))
  exact fin N.first hN.f (by unfold stepN; rw [if_neg (by rw [hb]; decide)])
end
section
variable {N : Nt} {n d nb rb : Nat} {h h0 : AHeap} {Q : ARes → AHeap → Prop} {st : Bool × Nat} {S : List Nat} {rs : List RowT}
theorem begin_m (M : Abs.Mem S h0 h rs) : ∃ h', world n (d + 1) 17 [.ptr nb 0] h = some (.ret (.ptr h.next 0), h') ∧ Abs.Mem S h0 h' ((h.next, TRun, runC nb (false, 0)) :: rs) := by
 apply Wp.ex
 rw [w_nfa_Net_Begin]
 unfold nfa_Net_Begin
 have Mx := M
 repeat (first | ((with_reducible apply Wp.obind); (with_reducible exact avBool_bool _)) | ((with_reducible apply Wp.mbox Mx); (rfl); intro _ Mz; clear Mx; have Mx := Mz; clear Mz) | ((with_reducible apply Wp.obind); (with_reducible exact bldRun _ _)) | ((with_reducible refine Wp.iff ?_ ?_); (with_reducible rfl)) | ((with_reducible apply Wp.outK); (with_reducible exact eqNet _ _ _)))
 exact Wp.ret ⟨rfl, Mx⟩
theorem dead_false {st : Bool × Nat} (hb : st.1 = true) (hd : deadN N st = true) (s : Bytes) : doneN N (runN N st s) = false := by
 obtain ⟨b, m⟩ := st
 have : b = true := hb
 subst this
 have : m = 0 := of_decide_eq_true hd
 subst this
 rw [run_zero]
 show decide (0 &&& N.last ≠ 0) = false
 rw [Nat.zero_and]
 rfl
theorem run_cons {s : Bytes} {i : Nat} (hi : i < s.length) (st : Bool × Nat) : runN N st (s.drop i) = runN N (stepN N st (s[i]).toNat) (s.drop (i + 1)) := by
 rw [List.drop_eq_getElem_cons hi]
 rfl
theorem byte_lt {s : Bytes} {i : Nat} (hi : i < s.length) : (s[i]).toNat < 256 := (s[i]).toNat_lt
theorem match_loop {s : Bytes} {k17 : AHeap → R} {h4 : AHeap} (hT : HasTz h0) (hN : NtOk N) (hn : 18446744073709551616 < n) (hl : s.length < 1000000000) (kn : RowH h0 nb TNet (netC N)) (hnb : nb < h0.next)
  (hk : ∀ (st : Bool × Nat) (H : AHeap), st.2 < 18446744073709551616 → Abs.Mem [] h0 H [(h4.next, TRun, runC nb st)] → doneN N st = matchN N s → Wp (k17 H) Q) (hq : ∀ H, Tch [] h0 H → matchN N s = false → Q (.ret (.bool false)) H) :
  ∀ (m f i : Nat) (st : Bool × Nat) (H : AHeap), m < f → i + m = s.length → st.2 < 18446744073709551616 → doneN N (runN N st (s.drop i)) = matchN N s → Abs.Mem [] h0 H [(h4.next, TRun, runC nb st)] → Wp (nfa_Net_Match_L0 (world n (d + 3)) s h4 k17 f (i : Int) H) Q
 | _, 0, _, _, _, hf, _, _, _, _ => by omega
 | 0, f + 1, i, st, H, hf, hm, hs, hr, M => by
  have ll := lenS_nat s
  rw [nfa_Net_Match_L0_s]
  unfold nfa_Net_Match_L0b
  repeat (first | (with_reducible refine Wp.lett ?_) | ((with_reducible refine Wp.iff ?_ ?_); ((with_reducible apply decide_eq_false); omega)))
  refine hk st H hs M ?_
  rw [List.drop_of_length_le (by omega)] at hr
  exact hr
 | m + 1, f + 1, i, st, H, hf, hm, hs, hr, M => by
  have ll := lenS_nat s
  have hi : i < s.length := by omega
  rw [nfa_Net_Match_L0_s]
  unfold nfa_Net_Match_L0b
  have hx := idxS_nat hi
  have kn1 := kn.tch M.tch hnb (by simp)
  have hn1 := Nat.lt_of_lt_of_le hnb M.tch.1
  have hne : h4.next ≠ nb := by
   have := M.at0.2.2.resolve_left (by simp)
   omega
  obtain ⟨h1, e1, k1, t1⟩ := step_r (n := n) (d := d) (hT.tch M.tch (by simp)) hN hs hn hne (byte_lt hi) M.at0.1 kn1 hn1
  have M1 := Mem.upd (xs := []) M t1 k1
  have kn2 := kn1.tch t1 hn1 (by simpa using fun e => hne e.symm)
  have e2 := dead_w (n := n) (d := d + 1) k1 kn2
  have el : (i : Int) + 1 = ((i + 1 : Nat) : Int) := by omega
  rw [run_cons hi] at hr
  ((with_reducible refine Wp.lett ?_))
  refine Wp.ift (decide_eq_true (by omega)) ?_
  refine Wp.obind hx ?_
  rw [newP_eq]
  refine Wp.callN e1 ?_
  refine Wp.callN e2 ?_
  refine Wp.obind (avBool_bool _) ?_
  cases hd : deadN N (stepN N st (s[i]).toNat) with
  | true =>
   (((with_reducible refine Wp.ift ?_ ?_); (with_reducible rfl)))
   refine Wp.ret (hq _ M1.tch ?_)
   rw [← hr]
   exact dead_false rfl hd _
  | false =>
   repeat (first | ((with_reducible refine Wp.lettw ?_ ?_ ?_); omega; omega) | ((with_reducible refine Wp.iff ?_ ?_); (with_reducible rfl)))
   rw [el]
   exact match_loop hT hN hn hl kn hnb hk hq m f (i + 1) _ h1 (by omega) (by omega) (step_small hN _ _) hr M1
theorem match_r {s : Bytes} (hT : HasTz h) (hN : NtOk N) (hn : 18446744073709551616 < n) (hl : s.length < 1000000000) (kn : RowH h nb TNet (netC N)) (hnb : nb < h.next) : ∃ h', world n (d + 4) 14 [.ptr nb 0, strA s] h = some (.ret (.bool (matchN N s)), h') ∧ Tch [] h h' := by
 apply Wp.ex
 rw [w_nfa_Net_Match]
 unfold nfa_Net_Match
 have Mx := Mem.nil [] h
 repeat (first | ((with_reducible apply Wp.obind); (with_reducible exact avBool_bool _)) | ((with_reducible apply Wp.sa0 Mx); rfl; rfl; (rfl); intro _ Mz; clear Mx; have Mx := Mz; clear Mz) | ((with_reducible apply Wp.mnew Mx); intro _ Mz; clear Mx; have Mx := Mz; clear Mz) | (with_reducible refine Wp.join0 (fun _ _ => ?_)) | ((with_reducible apply Wp.obind); (with_reducible exact bldRun _ _)) | ((with_reducible refine Wp.iff ?_ ?_); (with_reducible rfl)) | ((with_reducible apply Wp.outK); (with_reducible exact eqNet _ _ _)) | rw [newP_eq])
 rename_i k17 ek17
 refine match_loop (h0 := h) hT hN hn hl kn hnb (fun st H hs M hd => ?_) (fun H t e => ⟨by rw [e], t⟩) s.length n 0 (false, 0) _ (by omega) (by omega) (show 0 < _ by decide) (by rw [List.drop_zero]; rfl) Mx
 rw [ek17]
 have e2 := done_w (n := n) (d := d + 1) hN hs M.at0.1 (kn.tch M.tch hnb (by simp))
 refine Wp.callN e2 ?_
 (((with_reducible apply Wp.obind); (with_reducible exact avBool_bool _)))
 exact Wp.ret ⟨by rw [hd], M.tch⟩
set_option maxRecDepth 100000 in
theorem nilNet (h : AHeap) : opBin Tryd.prog h .eql 25 true (some AV.nilp) (some AV.nilp) = some (.val (.bool true), h) := by kernel_rfl
set_option maxRecDepth 100000 in
theorem nilRun (h : AHeap) : opBin Tryd.prog h .eql 44 true (some AV.nilp) (some AV.nilp) = some (.val (.bool true), h) := by kernel_rfl
theorem match_nil (s : Bytes) (h : AHeap) : world n (d + 1) 14 [.nilp, strA s] h = some (.ret (.bool false), h) := by
 apply Wp.eq
 rw [w_nfa_Net_Match]
 unfold nfa_Net_Match
 repeat (first | ((with_reducible apply Wp.obind); (with_reducible exact avBool_bool _)) | ((with_reducible refine Wp.ift ?_ ?_); (with_reducible rfl)) | ((with_reducible apply Wp.outK); (with_reducible exact nilNet _)))
 exact Wp.ret ⟨rfl, rfl⟩
theorem begin_nil (h : AHeap) : world n (d + 1) 17 [.nilp] h = some (.ret .nilp, h) := by
 apply Wp.eq
 rw [w_nfa_Net_Begin]
 unfold nfa_Net_Begin
 repeat (first | ((with_reducible apply Wp.obind); (with_reducible exact avBool_bool _)) | ((with_reducible refine Wp.ift ?_ ?_); (with_reducible rfl)) | ((with_reducible apply Wp.outK); (with_reducible exact nilNet _)))
 exact Wp.ret ⟨rfl, rfl⟩
section
variable {u : Bytes}
theorem tree_long {u : Bytes} (l : 64 < u.length) {kind : Int} (hk : kind = 1 ∨ kind = 2 ∨ kind = 3) {n D : Nat} {h : AHeap} : world n (D + 1) 24 [.agg [.int .i64 kind, strA u]] h = some (.ret (.tup [.agg (nodeC 0 zeroW .nsl), .agg [.int .i64 3, .int .i64 64]]), h) := by
 rcases hk with rfl | rfl | rfl
 ·apply Wp.eq
  rw [w_pattern_Tree]
  refine Wp.gc ?_
  suffices hK : Wp (pattern_Tree (world n D) n [.int .i64 1, strA u] h) fun r h' => r = .ret (.tup [.agg (nodeC 0 zeroW .nsl), .agg [.int .i64 3, .int .i64 64]]) ∧ Tch [] h h' from hK.mono fun r h' ⟨e, t⟩ => ⟨t.above, by rw [e]; rfl, e, rfl⟩
  unfold pattern_Tree
  have ll := lenS_nat u
  have Mx := Mem.nil [] h
  repeat (first | ((with_reducible apply Wp.obind); (with_reducible first | exact avInt_int _ _ | exact avStr_str _ | exact fldP_ptr _ _ _)) | ((with_reducible apply Wp.lr0 Mx); rfl) | ((with_reducible apply Wp.sa0 Mx); rfl; rfl; (rfl); intro _ Mz; clear Mx; have Mx := Mz; clear Mz) | ((with_reducible apply Wp.lr1 Mx); rfl) | ((with_reducible apply Wp.sa1 Mx); rfl; rfl; (rfl); intro _ Mz; clear Mx; have Mx := Mz; clear Mz) | ((with_reducible apply Wp.ld2 Mx); rfl) | ((with_reducible apply Wp.mnew Mx); intro _ Mz; clear Mx; have Mx := Mz; clear Mz) | ((with_reducible apply Wp.mbox Mx); (rfl); intro _ Mz; clear Mx; have Mx := Mz; clear Mz) | (with_reducible refine Wp.join1 (fun _ _ => ?_)) | (with_reducible refine Wp.lett ?_) | ((with_reducible refine Wp.ift ?_ ?_); ((with_reducible first | apply decide_eq_true | apply bne_t); omega)) | ((with_reducible refine Wp.iff ?_ ?_); first | (with_reducible rfl) | ((with_reducible apply bne_f); omega)) | (with_reducible refine Wp.go1 (by assumption) ?_) | rw [newP_eq])
  exact Wp.ret ⟨rfl, Mx.tch⟩
 ·apply Wp.eq
  rw [w_pattern_Tree]
  refine Wp.gc ?_
  suffices hK : Wp (pattern_Tree (world n D) n [.int .i64 2, strA u] h) fun r h' => r = .ret (.tup [.agg (nodeC 0 zeroW .nsl), .agg [.int .i64 3, .int .i64 64]]) ∧ Tch [] h h' from hK.mono fun r h' ⟨e, t⟩ => ⟨t.above, by rw [e]; rfl, e, rfl⟩
  unfold pattern_Tree
  have ll := lenS_nat u
  have Mx := Mem.nil [] h
  repeat (first | ((with_reducible apply Wp.obind); (with_reducible first | exact avInt_int _ _ | exact avStr_str _ | exact fldP_ptr _ _ _)) | ((with_reducible apply Wp.lr0 Mx); rfl) | ((with_reducible apply Wp.sa0 Mx); rfl; rfl; (rfl); intro _ Mz; clear Mx; have Mx := Mz; clear Mz) | ((with_reducible apply Wp.lr1 Mx); rfl) | ((with_reducible apply Wp.sa1 Mx); rfl; rfl; (rfl); intro _ Mz; clear Mx; have Mx := Mz; clear Mz) | ((with_reducible apply Wp.ld2 Mx); rfl) | ((with_reducible apply Wp.mnew Mx); intro _ Mz; clear Mx; have Mx := Mz; clear Mz) | ((with_reducible apply Wp.mbox Mx); (rfl); intro _ Mz; clear Mx; have Mx := Mz; clear Mz) | (with_reducible refine Wp.join1 (fun _ _ => ?_)) | (with_reducible refine Wp.lett ?_) | ((with_reducible refine Wp.ift ?_ ?_); ((with_reducible first | apply decide_eq_true | apply bne_t); omega)) | ((with_reducible refine Wp.iff ?_ ?_); first | (with_reducible rfl) | ((with_reducible apply bne_f); omega)) | (with_reducible refine Wp.go1 (by assumption) ?_) | rw [newP_eq])
  exact Wp.ret ⟨rfl, Mx.tch⟩
 ·apply Wp.eq
  rw [w_pattern_Tree]
  refine Wp.gc ?_
  suffices hK : Wp (pattern_Tree (world n D) n [.int .i64 3, strA u] h) fun r h' => r = .ret (.tup [.agg (nodeC 0 zeroW .nsl), .agg [.int .i64 3, .int .i64 64]]) ∧ Tch [] h h' from hK.mono fun r h' ⟨e, t⟩ => ⟨t.above, by rw [e]; rfl, e, rfl⟩
  unfold pattern_Tree
  have ll := lenS_nat u
  have Mx := Mem.nil [] h
  repeat (first | ((with_reducible apply Wp.obind); (with_reducible first | exact avInt_int _ _ | exact avStr_str _ | exact fldP_ptr _ _ _)) | ((with_reducible apply Wp.lr0 Mx); rfl) | ((with_reducible apply Wp.sa0 Mx); rfl; rfl; (rfl); intro _ Mz; clear Mx; have Mx := Mz; clear Mz) | ((with_reducible apply Wp.lr1 Mx); rfl) | ((with_reducible apply Wp.sa1 Mx); rfl; rfl; (rfl); intro _ Mz; clear Mx; have Mx := Mz; clear Mz) | ((with_reducible apply Wp.ld2 Mx); rfl) | ((with_reducible apply Wp.mnew Mx); intro _ Mz; clear Mx; have Mx := Mz; clear Mz) | ((with_reducible apply Wp.mbox Mx); (rfl); intro _ Mz; clear Mx; have Mx := Mz; clear Mz) | (with_reducible refine Wp.join1 (fun _ _ => ?_)) | (with_reducible refine Wp.lett ?_) | ((with_reducible refine Wp.ift ?_ ?_); ((with_reducible first | apply decide_eq_true | apply bne_t); omega)) | ((with_reducible refine Wp.iff ?_ ?_); ((with_reducible apply bne_f); omega)) | (with_reducible refine Wp.go1 (by assumption) ?_) | rw [newP_eq])
  exact Wp.ret ⟨rfl, Mx.tch⟩
end
theorem of_all (k : Int) (u : Bytes) {n d : Nat} (hn : 18446744073709551620 < n) (hd : 1000 ≤ d) : (∀ h : AHeap, memB TNode h.ex = false → world n (d + 1) 12 [.agg [.int .i64 k, strA u]] h = some (.ret (.tup [.nilp, .int .i64 2]), h)) ∨
  ∃ t, TreeP u k (.ok t) ∧ u.length ≤ 64 ∧ ∀ h : AHeap, memB TNode h.ex = false → ∃ nb h', world n (d + 1) 12 [.agg [.int .i64 k, strA u]] h = some (.ret (.tup [.ptr nb 0, .int .i64 0]), h') ∧ Abs.Mem [] h h' [(nb, TNet, netC (netOf t))] := by
 obtain ⟨D, rfl⟩ : ∃ D, d = D + 3 := ⟨d - 3, by omega⟩
 by_cases hk : k = 1 ∨ k = 2 ∨ k = 3
 ·by_cases hl : 64 < u.length
  ·exact .inl fun h hx => of_bad (e1 := 3) (q := 64) (by decide) (fun h hx => tree_long hl hk) hx
  ·obtain ⟨r, r1, _, r3⟩ := (tree_kinds (u := u) (by omega) hk).2 (by omega)
   cases r with
   | error q => exact .inl fun h hx => of_bad (e1 := 6) (q := (q : Int)) (by decide) (fun h hx => r3 (by omega) (by omega) hx) hx
   | ok t =>
    have hz := treeP_small r1
    exact .inr ⟨t, r1, by omega, fun h hx => of_ok (treeP_oneK r1) (by omega) (by omega) hn (fun h hx => r3 (by omega) (by omega) hx) hx⟩
 ·exact .inl fun h hx => of_bad (e1 := 2) (q := 0) (by decide) (fun h hx => tree_kind hk) hx
end
def exT : Nd := .mk 3 zeroW [.mk 6 zeroW [oneN 97], oneN 98]
abbrev exU : Bytes := [97, 43, 98]
set_option maxRecDepth 100000 in
theorem ex_dead : deadN (netOf exT) (stepN (netOf exT) (false, 0) 98) = true := by kernel_rfl
set_option maxRecDepth 100000 in
theorem ex_dead0 : deadN (netOf exT) (false, 0) = false := by kernel_rfl
set_option maxRecDepth 100000 in
theorem ex_done0 : doneN (netOf exT) (false, 0) = false := by kernel_rfl
set_option maxRecDepth 100000 in
theorem ex_aab : matchN (netOf exT) [97, 97, 98] = true := by kernel_rfl
set_option maxRecDepth 100000 in
theorem ex_b : matchN (netOf exT) [98] = false := by kernel_rfl
theorem exStop0 : ¬ stops exU 0 := by unfold stops; decide
theorem exStop2 : ¬ stops exU 2 := by unfold stops; decide
theorem ex_part0 : PartP exU 0 (.ok (.mk 6 zeroW [oneN 97], 2)) := PartP.sign (i := 0) (j := 1) (t := oneN 97) (.one (c := 97) rfl (by unfold badAtom; decide) (by decide)) (by decide)
theorem ex_part2 : PartP exU 2 (.ok (oneN 98, 3)) := PartP.bare (.one (c := 98) rfl (by unfold badAtom; decide) (by decide)) rfl
theorem ex_row : RowP exU [] 0 (.ok (exT, 3)) := .more exStop0 ex_part0 (.more exStop2 ex_part2 (RowP.stop (l := [.mk 6 zeroW [oneN 97], oneN 98]) (i := 3) (.inl rfl)))
theorem ex_alt : AltP exU [] 0 (.ok (exT, 3)) := AltP.last (l := []) (t := exT) ex_row (by decide)
theorem ex_tree {r : Except Nat Nd} (h : TreeP exU 3 r) : r = .ok exT := by
 generalize hk : (3 : Int) = k at h
 cases h with
 | lit a => cases hk
 | glob a => cases hk
 | re_bad a => cases altP_one a ex_alt
 | re_end a n =>
  cases altP_one a ex_alt
  exact absurd rfl n
 | re a =>
  cases altP_one a ex_alt
  rfl
theorem of_ex {n d : Nat} {h : AHeap} (hn : 18446744073709551620 < n) (hd : 1000 ≤ d) (hx : memB TNode h.ex = false) : ∃ nb h', world n (d + 1) 12 [.agg [.int .i64 3, strA exU]] h = some (.ret (.tup [.ptr nb 0, .int .i64 0]), h') ∧ Abs.Mem [] h h' [(nb, TNet, netC (netOf exT))] := by
 obtain ⟨D, rfl⟩ : ∃ D, d = D + 3 := ⟨d - 3, by omega⟩
 obtain ⟨r, r1, _, r3⟩ := (tree_kinds (u := exU) (by decide) (.inr (.inr rfl))).2 (by decide)
 obtain rfl := ex_tree r1
 exact of_ok (treeP_oneK r1) (by have := treeP_small r1; have : exU.length = 3 := rfl; omega) (by have := treeP_small r1; have : exU.length = 3 := rfl; omega) hn (fun h hx => r3 (by omega) (by omega) hx) hx
theorem works_w {n d : Nat} {h : AHeap} (hn : 18446744073709551620 < n) (hd : 1000 ≤ d) (hT : HasTz h) (hx : memB TNode h.ex = false) : world n (d + 2) 11 [] h = some (.ret (.bool true), h) := by
 apply Wp.eq
 rw [w_law10_works]
 refine Wp.gc ?_
 suffices hK : Wp (law10_works (world n (d + 1)) n h) fun r h' => r = .ret (.bool true) ∧ Tch [] h h' from hK.mono fun r h' ⟨e, t⟩ => ⟨t.above, by rw [e]; rfl, e, rfl⟩
 obtain ⟨D, rfl⟩ : ∃ D, d = D + 3 := ⟨d - 3, by omega⟩
 unfold law10_works
 obtain ⟨nb, h1, e1, M1⟩ := of_ex hn hd hx
 have hN := netOf_ok exT
 refine Wp.callN e1 ?_
 repeat (first | (with_reducible refine Wp.join1 (fun _ _ => ?_)) | (with_reducible refine Wp.lett ?_) | ((with_reducible apply Wp.obind); (with_reducible first | exact avInt_int _ _ | exact avBool_bool _ | exact extT_0 _ _ | exact extT_1 _ _ _)) | ((with_reducible refine Wp.iff ?_ ?_); first | (with_reducible rfl) | ((with_reducible apply bne_f); omega)) | ((with_reducible apply Wp.outK); (with_reducible exact eqNet _ _ _)) | (with_reducible refine Wp.go1 (by assumption) ?_))
 obtain ⟨h2, e2, M2⟩ := begin_m (n := n) (d := D + 3) (nb := nb) M1
 refine Wp.callN e2 ?_
 have d0 := done_w (n := n) (d := D + 2) hN (show ((false, 0) : Bool × Nat).2 < _ by decide) M2.at0.1 M2.at1.1
 rw [ex_done0] at d0
 have d1 := dead_w (n := n) (d := D + 2) M2.at0.1 M2.at1.1
 rw [ex_dead0] at d1
 repeat (first | (with_reducible refine Wp.join1 (fun _ _ => ?_)) | ((with_reducible apply Wp.obind); (with_reducible exact avBool_bool _)) | ((with_reducible refine Wp.iff ?_ ?_); (with_reducible rfl)) | ((with_reducible apply Wp.callN); (with_reducible first | exact d0 | exact d1)) | ((with_reducible apply Wp.outK); (with_reducible exact eqRun _ _ _)) | (with_reducible refine Wp.go1 (by assumption) ?_))
 have hne : h1.next ≠ nb := fun e => by
  have := M1.at0.2.1
  omega
 obtain ⟨h3, e3, k3, t3⟩ := step_r (n := n) (d := D + 1) (c := 98) (hT.tch M2.tch (by simp)) hN (show ((false, 0) : Bool × Nat).2 < _ by decide) (by omega) hne (by decide) M2.at0.1 M2.at1.1 M2.at1.2.1
 refine Wp.callN e3 ?_
 have M3 := Mem.upd (xs := []) M2 t3 k3
 simp only [List.nil_append] at M3
 have d2 := dead_w (n := n) (d := D + 2) M3.at0.1 M3.at1.1
 rw [ex_dead] at d2
 repeat (first | (with_reducible refine Wp.join1 (fun _ _ => ?_)) | ((with_reducible apply Wp.obind); (with_reducible exact avBool_bool _)) | ((with_reducible refine Wp.ift ?_ ?_); (with_reducible rfl)) | ((with_reducible apply Wp.callN); (with_reducible exact d2)))
 obtain ⟨h4, e4, t4⟩ := match_r (n := n) (d := D) (s := [97, 97, 98]) (hT.tch M3.tch (by simp)) hN (by omega) (by decide) M3.at1.1 M3.at1.2.1
 rw [ex_aab] at e4
 refine Wp.callN e4 ?_
 have M4 := M3.keep t4
 repeat (first | (with_reducible refine Wp.join1 (fun _ _ => ?_)) | ((with_reducible apply Wp.obind); (with_reducible exact avBool_bool _)) | ((with_reducible refine Wp.ift ?_ ?_); (with_reducible rfl)) | (with_reducible refine Wp.go1 (by assumption) ?_))
 obtain ⟨h5, e5, t5⟩ := match_r (n := n) (d := D) (s := [98]) (hT.tch M4.tch (by simp)) hN (by omega) (by decide) M4.at1.1 M4.at1.2.1
 rw [ex_b] at e5
 refine Wp.callN e5 ?_
 repeat (first | (with_reducible refine Wp.lett ?_) | ((with_reducible apply Wp.obind); (with_reducible exact avBool_bool _)) | (with_reducible refine Wp.go1 (by assumption) ?_))
 exact Wp.ret ⟨rfl, (M4.keep t5).tch⟩
noncomputable def law10_NfaDies_L0b (call : CallF) (r44 : AV) (t56 : Bytes) (k65 : Bool → AHeap → R) (self : Bool → Int → AHeap → R) (t10_93 : Bool) (t12 : Int) (h_94 : AHeap) : R :=
 lett (decide (t12 < (lenS t56))) fun (t60 : Bool) =>
 ifB t60
 (
  callN (call 18 [r44] h_94) fun r64 h_102 =>
  obind (avBool r64) fun t64 =>
  lett (fun (t68 : Bool) (h_105 : AHeap) =>
   lett (fun (t76 : Bool) (h_108 : AHeap) =>
    ifB t76
    (
     some (.ret (.bool false), h_108))
    (
     callN (call 19 [r44] h_108) fun r78 h_113 =>
     obind (avBool r78) fun t78 =>
     obind (idxS t56 t12) fun t82 =>
     callN (call 21 [r44, .int .u8 t82] h_113) fun _ h_117 =>
     lett (IntKind.i64.wrap (t12 + 1)) fun (t62 : Int) =>
     self t78 t62 h_117)) fun j76 =>
   ifB t68
   (
    j76 true h_105)
   (
    lett (fun (t75 : Bool) (h_120 : AHeap) =>
     j76 t75 h_120) fun j75 =>
    ifB t10_93
    (
     callN (call 19 [r44] h_105) fun r73 h_123 =>
     obind (avBool r73) fun t73 =>
     lett (!t73) fun (t74 : Bool) =>
     j75 t74 h_123)
    (
     j75 false h_105))) fun j68 =>
  ifB t64
  (
   callN (call 19 [r44] h_102) fun r67 h_127 =>
   obind (avBool r67) fun t67 =>
   j68 t67 h_127)
  (
   j68 false h_102))
 (
  k65 t10_93 h_94)
noncomputable def law10_NfaDies_L0 (call : CallF) (r44 : AV) (t56 : Bytes) (k65 : Bool → AHeap → R) : Nat → Bool → Int → AHeap → R := iterR (fun _ _ _ => none) (law10_NfaDies_L0b call r44 t56 k65)
theorem law10_NfaDies_L0_s (call : CallF) (r44 : AV) (t56 : Bytes) (k65 : Bool → AHeap → R) (m : Nat) : law10_NfaDies_L0 call r44 t56 k65 (m + 1) = law10_NfaDies_L0b call r44 t56 k65 (law10_NfaDies_L0 call r44 t56 k65 m) := rfl
noncomputable def law10_NfaDies (call : CallF) (n : Nat) (t0 : List AV) (t1 : Bytes) (t2 : Bytes) (h : AHeap) : R :=
 outK (opBox h 23 (some (.agg t0))) fun v3 h_2 =>
 callN (call 11 [] h_2) fun r13 h_6 =>
 obind (avBool r13) fun t13 =>
 lett (!t13) fun (t14 : Bool) =>
 ifB t14
 (
  some (.ret (.bool false), h_6))
 (
  obind (ldRow h_6 2 v3) fun t16 =>
  callN (call 12 [.agg t16] h_6) fun r17 h_13 =>
  obind (extT 0 r17) fun v18 =>
  obind (extT 1 r17) fun v19 =>
  obind (avInt .i64 v19) fun t19 =>
  lett ((t19 : Int) != 0) fun (t21 : Bool) =>
  ifB t21
  (
   outK (opBin Tryd.prog h_13 .eql 25 true (some v18) (some AV.nilp)) fun v23 h_22 =>
   obind (avBool v23) fun t23 =>
   lett (fun (t29 : Bool) (h_25 : AHeap) =>
    lett (fun (t34 : Bool) (h_28 : AHeap) =>
     some (.ret (.bool t34), h_28)) fun j34 =>
    ifB t29
    (
     callN (call 17 [v18] h_25) fun r32 h_31 =>
     outK (opBin Tryd.prog h_31 .eql 44 true (some r32) (some AV.nilp)) fun v33 h_33 =>
     obind (avBool v33) fun t33 =>
     j34 t33 h_33)
    (
     j34 false h_25)) fun j29 =>
   ifB t23
   (
    callN (call 14 [v18, strA t1] h_22) fun r27 h_36 =>
    obind (avBool r27) fun t27 =>
    lett (!t27) fun (t28 : Bool) =>
    j29 t28 h_36)
   (
    j29 false h_22))
  (
   lett (decide ((lenS t1) > 2000)) fun (t37 : Bool) =>
   lett (fun (t42 : Bool) (h_43 : AHeap) =>
    ifB t42
    (
     some (.ret (.bool true), h_43))
    (
     callN (call 17 [v18] h_43) fun r44 h_48 =>
     outK (opBin Tryd.prog h_48 .eql 44 true (some r44) (some AV.nilp)) fun v46 h_52 =>
     obind (avBool v46) fun t46 =>
     lett (fun (t53 : Bool) (h_55 : AHeap) =>
      ifB t53
      (
       some (.ret (.bool false), h_55))
      (
       obind (addS t1 t2) fun t56 =>
       lett (fun (t10 : Bool) (h_66 : AHeap) =>
        callN (call 18 [r44] h_66) fun r85 h_68 =>
        obind (avBool r85) fun t85 =>
        callN (call 14 [v18, strA t56] h_68) fun r88 h_71 =>
        obind (avBool r88) fun t88 =>
        lett ((t85 : Bool) == t88) fun (t89 : Bool) =>
        lett (fun (t102 : Bool) (h_75 : AHeap) =>
         some (.ret (.bool t102), h_75)) fun j102 =>
        ifB t89
        (
         lett (!t10) fun (t92 : Bool) =>
         lett (fun (t101 : Bool) (h_79 : AHeap) =>
          j102 t101 h_79) fun j101 =>
         ifB t92
         (
          j101 true h_71)
         (
          callN (call 18 [r44] h_71) fun r95 h_82 =>
          obind (avBool r95) fun t95 =>
          lett (!t95) fun (t96 : Bool) =>
          lett (fun (t100 : Bool) (h_86 : AHeap) =>
           j101 t100 h_86) fun j100 =>
          ifB t96
          (
           callN (call 19 [r44] h_82) fun r99 h_89 =>
           obind (avBool r99) fun t99 =>
           j100 t99 h_89)
          (
           j100 false h_82)))
        (
         j102 false h_71)) fun k65 =>
       law10_NfaDies_L0 call r44 t56 k65 n false 0 h_55)) fun j53 =>
     ifB t46
     (
      j53 true h_52)
     (
      callN (call 18 [r44] h_52) fun r49 h_130 =>
      obind (avBool r49) fun t49 =>
      callN (call 14 [v18, strA ([] : Bytes)] h_130) fun r51 h_133 =>
      obind (avBool r51) fun t51 =>
      lett (!((t49 : Bool) == t51)) fun (t52 : Bool) =>
      j53 t52 h_133))) fun j42 =>
   ifB t37
   (
    j42 true h_13)
   (
    lett (decide ((lenS t2) > 2000)) fun (t41 : Bool) =>
    j42 t41 h_13)))
set_option maxHeartbeats 4000000 in
set_option maxRecDepth 20000 in
theorem law10_NfaDies_ok {call : CallF} (hc : SaysAll Tryd.prog call) {n : Nat} {t0 : List AV} {t1 : Bytes} {t2 : Bytes} {h : AHeap} {rR : ARes} {hR : AHeap} (hF : law10_NfaDies call n t0 t1 t2 h = some (rR, hR)) : Says Tryd.prog 5 [.agg t0, strA t1, strA t2] h rR hR := by
 unfold law10_NfaDies at hF
 refine sO Tryd.func5 fun w0 m0 => ?_
 refine wW [(0, .agg t0), (1, strA t1), (2, strA t2)] ?_
 refine oG fun n1 => W.r ?_
 refine oK 3 hF fun v3 h_2 hF => ?_
 refine oA 6 (.bool false) ?_
 refine oV [(1, strA t1), (2, strA t2), (3, v3)] (n1 ?_)
 refine oH fun n4 q4 => ?_
 refine oG fun n5 => W.r ?_
 refine oCb hc 13 hF fun t13 h_6 hF => ?_
 refine oB 14 hF fun t14 hF => ?_
 refine oV [(1, strA t1), (2, strA t2), (3, v3), (14, .bool t14)] (n5 ?_)
 cases t14 with
 | true =>
  refine oT hF fun hF => ?_
  refine oG fun n10 => W.r ?_
  refine oA 6 (.bool false) ?_
  refine oV [(6, .bool false)] (n10 (oY (q4 ?_)))
  exact lZ hF [.tmp 6] [.bool false] (rT res_nil)
 | false =>
  refine oU hF fun hF => ?_
  refine oZ (n4 ?_)
  refine oG fun n11 => W.r ?_
  refine oR 16 23 hF fun t16 hF => ?_
  refine oC hc (some 17) hF fun r17 h_13 hF => ?_
  refine oA 15 r17 ?_
  refine oE 18 hF fun v18 hF => ?_
  refine oEi 19 hF fun t19 hF => ?_
  refine oA 7 v18 ?_
  refine oA 8 (.int .i64 t19) ?_
  refine oV [(1, strA t1), (2, strA t2), (7, v18), (8, .int .i64 t19)] (n11 ?_)
  refine oH fun n18 q18 => ?_
  refine oG fun n19 => W.r ?_
  refine oA 20 (.int .i64 t19) ?_
  refine oB 21 hF fun t21 hF => ?_
  refine oV [(1, strA t1), (2, strA t2), (7, v18), (21, .bool t21)] (n19 ?_)
  cases t21 with
  | true =>
   refine oT hF fun hF => ?_
   refine W.s (fun K21 n21 e21 q21 p21 => ?_)
   refine W.r ?_
   refine oA 22 v18 ?_
   replace hF := outK_some hF; obtain ⟨v23, h_22, e23, hF⟩ := hF
   replace hF := obind_some hF; obtain ⟨t23, c24, hF⟩ := hF
   have c24 := avBool_some c24
   subst c24
   refine WL.b (some 23) (.bool t23) h_22 e23 ?_
   refine oA 24 (.bool t23) ?_
   obtain ⟨j29, e26, hF⟩ := lett_some hF
   have J27 : ∀ (t29 : Bool) (h_25 : AHeap), j29 t29 h_25 = some (rR, hR) → WL Tryd.prog w0 m0 (Func.ntmps Tryd.f5) (Code.ops (Code.p1 (Code.p1 (Code.p2 (Code.p1 (Code.p2 (Code.p2 (Code.p2 (codeOf Tryd.f5))))))))) 8 K21 [(7, v18), (29, .bool t29)] [] h_25 := by
    intro t29 h_25 hF
    rw [e26] at hF
    refine oA 30 (.bool t29) ?_
    obtain ⟨j34, e29, hF⟩ := lett_some hF
    have J30 : ∀ (t34 : Bool) (h_28 : AHeap), j34 t34 h_28 = some (rR, hR) → WL Tryd.prog w0 m0 (Func.ntmps Tryd.f5) (Code.ops (Code.p1 (Code.p1 (Code.p2 (Code.p1 (Code.p2 (Code.p2 (Code.p2 (codeOf Tryd.f5))))))))) 13 K21 [(34, .bool t34)] [] h_28 := by
     intro t34 h_28 hF
     rw [e29] at hF
     refine oA 6 (.bool t34) ?_
     refine oV [(6, .bool t34)] (n21 (oY (q18 ?_)))
     exact lZ hF [.tmp 6] [.bool t34] (rT res_nil)
    cases t29 with
    | true =>
     replace hF := ifB_t hF
     refine oA 31 v18 ?_
     refine oC hc (some 32) hF fun r32 h_31 hF => ?_
     replace hF := outK_some hF; obtain ⟨v33, h_33, e34, hF⟩ := hF
     replace hF := obind_some hF; obtain ⟨t33, c35, hF⟩ := hF
     have c35 := avBool_some c35
     subst c35
     refine WL.b (some 33) (.bool t33) h_33 e34 ?_
     refine oA 34 (.bool t33) ?_
     exact lW _ (J30 _ _ hF)
    | false =>
     replace hF := ifB_f hF
     refine WL.o (some 31) ?_
     refine WL.o (some 32) ?_
     refine WL.o (some 33) ?_
     refine oA 34 (.bool false) ?_
     exact lW _ (J30 _ _ hF)
   cases t23 with
   | true =>
    replace hF := ifB_t hF
    refine oA 25 v18 ?_
    refine oA 26 (strA t1) ?_
    refine oCb hc 27 hF fun t27 h_36 hF => ?_
    refine oB 28 hF fun t28 hF => ?_
    refine oA 29 (.bool t28) ?_
    exact lW _ (J27 _ _ hF)
   | false =>
    replace hF := ifB_f hF
    refine WL.o (some 25) ?_
    refine WL.o (some 26) ?_
    refine WL.o (some 27) ?_
    refine WL.o (some 28) ?_
    refine oA 29 (.bool false) ?_
    exact lW _ (J27 _ _ hF)
  | false =>
   refine oU hF fun hF => ?_
   refine oZ (n18 ?_)
   refine oH fun n40 q40 => ?_
   refine W.s (fun K41 n41 e41 q41 p41 => ?_)
   refine W.r ?_
   refine oA 35 (strA t1) ?_
   refine oA 36 (.int .i64 (lenS t1)) ?_
   refine oB 37 hF fun t37 hF => ?_
   refine oA 38 (.bool t37) ?_
   obtain ⟨j42, e44, hF⟩ := lett_some hF
   have J45 : ∀ (t42 : Bool) (h_43 : AHeap), j42 t42 h_43 = some (rR, hR) → WL Tryd.prog w0 m0 (Func.ntmps Tryd.f5) (Code.ops (Code.p1 (Code.p1 (Code.p2 (Code.p2 (Code.p2 (Code.p2 (codeOf Tryd.f5)))))))) 8 K41 [(1, strA t1), (2, strA t2), (7, v18), (42, .bool t42)] [] h_43 := by
    intro t42 h_43 hF
    rw [e44] at hF
    refine oV [(1, strA t1), (2, strA t2), (7, v18), (42, .bool t42)] (n41 ?_)
    cases t42 with
    | true =>
     refine oT hF fun hF => ?_
     refine oG fun n46 => W.r ?_
     refine oA 6 (.bool true) ?_
     refine oV [(6, .bool true)] (n46 (oY (q40 ?_)))
     exact lZ hF [.tmp 6] [.bool true] (rT res_nil)
    | false =>
     refine oU hF fun hF => ?_
     refine oZ (n40 ?_)
     refine oG fun n47 => W.r ?_
     refine oA 43 v18 ?_
     refine oC hc (some 44) hF fun r44 h_48 hF => ?_
     refine oA 9 r44 ?_
     refine oV [(1, strA t1), (2, strA t2), (7, v18), (9, r44)] (n47 ?_)
     refine oH fun n50 q50 => ?_
     refine W.s (fun K51 n51 e51 q51 p51 => ?_)
     refine W.r ?_
     refine oA 45 r44 ?_
     replace hF := outK_some hF; obtain ⟨v46, h_52, e53, hF⟩ := hF
     replace hF := obind_some hF; obtain ⟨t46, c54, hF⟩ := hF
     have c54 := avBool_some c54
     subst c54
     refine WL.b (some 46) (.bool t46) h_52 e53 ?_
     refine oA 47 (.bool t46) ?_
     obtain ⟨j53, e56, hF⟩ := lett_some hF
     have J57 : ∀ (t53 : Bool) (h_55 : AHeap), j53 t53 h_55 = some (rR, hR) → WL Tryd.prog w0 m0 (Func.ntmps Tryd.f5) (Code.ops (Code.p1 (Code.p1 (Code.p2 (Code.p2 (Code.p2 (Code.p2 (Code.p2 (Code.p2 (codeOf Tryd.f5)))))))))) 9 K51 [(1, strA t1), (2, strA t2), (7, v18), (9, r44), (53, .bool t53)] [] h_55 := by
      intro t53 h_55 hF
      rw [e56] at hF
      refine oV [(1, strA t1), (2, strA t2), (7, v18), (9, r44), (53, .bool t53)] (n51 ?_)
      cases t53 with
      | true =>
       refine oT hF fun hF => ?_
       refine oG fun n58 => W.r ?_
       refine oA 6 (.bool false) ?_
       refine oV [(6, .bool false)] (n58 (oY (q50 ?_)))
       exact lZ hF [.tmp 6] [.bool false] (rT res_nil)
      | false =>
       refine oU hF fun hF => ?_
       refine oZ (n50 ?_)
       refine oG fun n59 => W.r ?_
       refine oA 10 (.bool false) ?_
       refine oV [(1, strA t1), (2, strA t2), (7, v18), (9, r44), (10, .bool false)] (n59 ?_)
       refine oG fun n60 => W.r ?_
       refine oA 54 (strA t1) ?_
       refine oA 55 (strA t2) ?_
       obtain ⟨t56, e61, hF⟩ := obind_some hF
       refine WL.b (some 56) (strA t56) h_55 (add_str (P := Tryd.prog) (h := h_55) (t := 9) (lit := false) e61) ?_
       refine oA 11 (strA t56) ?_
       refine oV [(7, v18), (9, r44), (10, .bool false), (11, strA t56)] (n60 ?_)
       refine W.s (fun K62 n62 e62 q62 p62 => ?_)
       refine oG fun n63 => W.r ?_
       refine oA 12 (.int .i64 0) ?_
       refine oV [(7, v18), (9, r44), (10, .bool false), (11, strA t56), (12, .int .i64 0)] (n63 ?_)
       obtain ⟨k65, e65, hF⟩ := lett_some hF
       have J65 : ∀ (t10 : Bool) (h_66 : AHeap), k65 t10 h_66 = some (rR, hR) → Go w0 m0 (Func.ntmps Tryd.f5) (K62 .normal) [(7, v18), (9, r44), (10, .bool t10), (11, strA t56)] [] h_66 := by
        intro t10 h_66 hF
        rw [e65] at hF
        refine n62 ?_
        refine W.s (fun K67 n67 e67 q67 p67 => ?_)
        refine W.r ?_
        refine oA 84 r44 ?_
        refine oCb hc 85 hF fun t85 h_68 hF => ?_
        refine oA 86 v18 ?_
        refine oA 87 (strA t56) ?_
        refine oCb hc 88 hF fun t88 h_71 hF => ?_
        refine oB 89 hF fun t89 hF => ?_
        refine oA 90 (.bool t89) ?_
        obtain ⟨j102, e76, hF⟩ := lett_some hF
        have J77 : ∀ (t102 : Bool) (h_75 : AHeap), j102 t102 h_75 = some (rR, hR) → WL Tryd.prog w0 m0 (Func.ntmps Tryd.f5) (Code.ops (Code.p1 (Code.p2 (Code.p2 (Code.p2 (Code.p2 (Code.p2 (Code.p2 (Code.p2 (Code.p2 (Code.p2 (Code.p2 (codeOf Tryd.f5))))))))))))) 19 K67 [(102, .bool t102)] [] h_75 := by
         intro t102 h_75 hF
         rw [e76] at hF
         refine oA 6 (.bool t102) ?_
         refine oV [(6, .bool t102)] (n67 (oY ?_))
         exact lZ hF [.tmp 6] [.bool t102] (rT res_nil)
        cases t89 with
        | true =>
         replace hF := ifB_t hF
         refine oA 91 (.bool t10) ?_
         refine oB 92 hF fun t92 hF => ?_
         refine oA 93 (.bool t92) ?_
         obtain ⟨j101, e80, hF⟩ := lett_some hF
         have J81 : ∀ (t101 : Bool) (h_79 : AHeap), j101 t101 h_79 = some (rR, hR) → WL Tryd.prog w0 m0 (Func.ntmps Tryd.f5) (Code.ops (Code.p1 (Code.p2 (Code.p2 (Code.p2 (Code.p2 (Code.p2 (Code.p2 (Code.p2 (Code.p2 (Code.p2 (Code.p2 (codeOf Tryd.f5))))))))))))) 18 K67 [(90, .bool true), (101, .bool t101)] [] h_79 := by
          intro t101 h_79 hF
          rw [e80] at hF
          refine oA 102 (.bool t101) ?_
          exact lW _ (J77 _ _ hF)
         cases t92 with
         | true =>
          replace hF := ifB_t hF
          refine WL.o (some 94) ?_
          refine WL.o (some 95) ?_
          refine WL.o (some 96) ?_
          refine WL.o (some 97) ?_
          refine WL.o (some 98) ?_
          refine WL.o (some 99) ?_
          refine WL.o (some 100) ?_
          refine oA 101 (.bool true) ?_
          exact lW _ (J81 _ _ hF)
         | false =>
          replace hF := ifB_f hF
          refine oA 94 r44 ?_
          refine oCb hc 95 hF fun t95 h_82 hF => ?_
          refine oB 96 hF fun t96 hF => ?_
          refine oA 97 (.bool t96) ?_
          obtain ⟨j100, e87, hF⟩ := lett_some hF
          have J88 : ∀ (t100 : Bool) (h_86 : AHeap), j100 t100 h_86 = some (rR, hR) → WL Tryd.prog w0 m0 (Func.ntmps Tryd.f5) (Code.ops (Code.p1 (Code.p2 (Code.p2 (Code.p2 (Code.p2 (Code.p2 (Code.p2 (Code.p2 (Code.p2 (Code.p2 (Code.p2 (codeOf Tryd.f5))))))))))))) 17 K67 [(90, .bool true), (93, .bool false), (100, .bool t100)] [] h_86 := by
           intro t100 h_86 hF
           rw [e87] at hF
           refine oA 101 (.bool t100) ?_
           exact lW _ (J81 _ _ hF)
          cases t96 with
          | true =>
           replace hF := ifB_t hF
           refine oA 98 r44 ?_
           refine oCb hc 99 hF fun t99 h_89 hF => ?_
           refine oA 100 (.bool t99) ?_
           exact lW _ (J88 _ _ hF)
          | false =>
           replace hF := ifB_f hF
           refine WL.o (some 98) ?_
           refine WL.o (some 99) ?_
           refine oA 100 (.bool false) ?_
           exact lW _ (J88 _ _ hF)
        | false =>
         replace hF := ifB_f hF
         refine WL.o (some 91) ?_
         refine WL.o (some 92) ?_
         refine WL.o (some 93) ?_
         refine WL.o (some 94) ?_
         refine WL.o (some 95) ?_
         refine WL.o (some 96) ?_
         refine WL.o (some 97) ?_
         refine WL.o (some 98) ?_
         refine WL.o (some 99) ?_
         refine WL.o (some 100) ?_
         refine WL.o (some 101) ?_
         refine oA 102 (.bool false) ?_
         exact lW _ (J77 _ _ hF)
       refine W.blockK (by kernel_rfl) (fun K64 n64 s64 o64 q64 p64 => ?_)
       refine W.loopK (by kernel_rfl) (fun I92 K92 b92 n92 e92 q92 p92 => ?_)
       have L92 : ∀ (m : Nat) (t10_93 : Bool) (t12 : Int) (h_94 : AHeap), law10_NfaDies_L0 call r44 t56 k65 m t10_93 t12 h_94 = some (rR, hR) → Go w0 m0 (Func.ntmps Tryd.f5) I92 [(7, v18), (9, r44), (10, .bool t10_93), (11, strA t56), (12, .int .i64 t12)] [] h_94 := by
        intro m
        induction m with
        | zero => intro t10_93 t12 h_94 hF; cases hF
        | succ m ih92 =>
         intro t10_93 t12 h_94 hF
         rw [law10_NfaDies_L0_s] at hF; unfold law10_NfaDies_L0b at hF
         refine b92 ?_
         refine W.s (fun K95 n95 e95 q95 p95 => ?_)
         refine oG fun n96 => W.r ?_
         refine oA 57 (.int .i64 t12) ?_
         refine oA 58 (strA t56) ?_
         refine oA 59 (.int .i64 (lenS t56)) ?_
         refine oB 60 hF fun t60 hF => ?_
         refine oV [(7, v18), (9, r44), (10, .bool t10_93), (11, strA t56), (12, .int .i64 t12), (60, .bool t60)] (n96 ?_)
         cases t60 with
         | true =>
          refine oT hF fun hF => ?_
          refine oZ (n95 ?_)
          refine oH fun n98 q98 => ?_
          refine W.blockK (by kernel_rfl) (fun K99 n99 s99 o99 q99 p99 => ?_)
          refine oH fun n100 q100 => ?_
          refine W.s (fun K101 n101 e101 q101 p101 => ?_)
          refine W.r ?_
          refine oA 63 r44 ?_
          refine oCb hc 64 hF fun t64 h_102 hF => ?_
          refine oA 65 (.bool t64) ?_
          obtain ⟨j68, e106, hF⟩ := lett_some hF
          have J107 : ∀ (t68 : Bool) (h_105 : AHeap), j68 t68 h_105 = some (rR, hR) → WL Tryd.prog w0 m0 (Func.ntmps Tryd.f5) (Code.ops (Code.p1 (Code.p1 (Code.p1 (Code.p1 (Code.p2 (Code.p1 (Code.p1 (Code.p2 (Code.p1 (Code.p2 (Code.p2 (Code.p2 (Code.p2 (Code.p2 (Code.p2 (Code.p2 (Code.p2 (Code.p2 (codeOf Tryd.f5)))))))))))))))))))) 6 K101 [(7, v18), (9, r44), (10, .bool t10_93), (11, strA t56), (12, .int .i64 t12), (68, .bool t68)] [] h_105 := by
           intro t68 h_105 hF
           rw [e106] at hF
           refine oA 69 (.bool t68) ?_
           obtain ⟨j76, e109, hF⟩ := lett_some hF
           have J110 : ∀ (t76 : Bool) (h_108 : AHeap), j76 t76 h_108 = some (rR, hR) → WL Tryd.prog w0 m0 (Func.ntmps Tryd.f5) (Code.ops (Code.p1 (Code.p1 (Code.p1 (Code.p1 (Code.p2 (Code.p1 (Code.p1 (Code.p2 (Code.p1 (Code.p2 (Code.p2 (Code.p2 (Code.p2 (Code.p2 (Code.p2 (Code.p2 (Code.p2 (Code.p2 (codeOf Tryd.f5)))))))))))))))))))) 14 K101 [(7, v18), (9, r44), (11, strA t56), (12, .int .i64 t12), (76, .bool t76)] [] h_108 := by
            intro t76 h_108 hF
            rw [e109] at hF
            refine oV [(7, v18), (9, r44), (11, strA t56), (12, .int .i64 t12), (76, .bool t76)] (n101 ?_)
            cases t76 with
            | true =>
             refine oT hF fun hF => ?_
             refine oG fun n111 => W.r ?_
             refine oA 6 (.bool false) ?_
             refine oV [(6, .bool false)] (n111 (oY (q100 (q99 (q98 (q92 (q64 (q62 ?_))))))))
             exact lZ hF [.tmp 6] [.bool false] (rT res_nil)
            | false =>
             refine oU hF fun hF => ?_
             refine oZ (n100 ?_)
             refine oG fun n112 => W.r ?_
             refine oA 77 r44 ?_
             refine oCb hc 78 hF fun t78 h_113 hF => ?_
             refine oA 10 (.bool t78) ?_
             refine oV [(7, v18), (9, r44), (10, .bool t78), (11, strA t56), (12, .int .i64 t12)] (n112 (W.r ?_))
             refine oA 79 r44 ?_
             refine oA 80 (strA t56) ?_
             refine oA 81 (.int .i64 t12) ?_
             refine oX 82 9 .i64 hF fun t82 hF => ?_
             refine oC hc (some 83) hF fun r83 h_117 hF => ?_
             refine oV [(7, v18), (9, r44), (10, .bool t78), (11, strA t56), (12, .int .i64 t12)] (n99 (n98 (W.r ?_)))
             refine oA 61 (.int .i64 t12) ?_
             refine oI 62 .i64 hF fun t62 hF => ?_
             refine oA 12 (.int .i64 t62) ?_
             refine oV [(7, v18), (9, r44), (10, .bool t78), (11, strA t56), (12, .int .i64 t62)] (n92 ?_)
             exact gW _ (ih92 _ _ _ hF)
           cases t68 with
           | true =>
            replace hF := ifB_t hF
            refine WL.o (some 70) ?_
            refine WL.o (some 71) ?_
            refine WL.o (some 72) ?_
            refine WL.o (some 73) ?_
            refine WL.o (some 74) ?_
            refine WL.o (some 75) ?_
            refine oA 76 (.bool true) ?_
            exact lW _ (J110 _ _ hF)
           | false =>
            replace hF := ifB_f hF
            refine oA 70 (.bool t10_93) ?_
            refine oA 71 (.bool t10_93) ?_
            obtain ⟨j75, e121, hF⟩ := lett_some hF
            have J122 : ∀ (t75 : Bool) (h_120 : AHeap), j75 t75 h_120 = some (rR, hR) → WL Tryd.prog w0 m0 (Func.ntmps Tryd.f5) (Code.ops (Code.p1 (Code.p1 (Code.p1 (Code.p1 (Code.p2 (Code.p1 (Code.p1 (Code.p2 (Code.p1 (Code.p2 (Code.p2 (Code.p2 (Code.p2 (Code.p2 (Code.p2 (Code.p2 (Code.p2 (Code.p2 (codeOf Tryd.f5)))))))))))))))))))) 13 K101 [(7, v18), (9, r44), (11, strA t56), (12, .int .i64 t12), (69, .bool false), (75, .bool t75)] [] h_120 := by
             intro t75 h_120 hF
             rw [e121] at hF
             refine oA 76 (.bool t75) ?_
             exact lW _ (J110 _ _ hF)
            cases t10_93 with
            | true =>
             replace hF := ifB_t hF
             refine oA 72 r44 ?_
             refine oCb hc 73 hF fun t73 h_123 hF => ?_
             refine oB 74 hF fun t74 hF => ?_
             refine oA 75 (.bool t74) ?_
             exact lW _ (J122 _ _ hF)
            | false =>
             replace hF := ifB_f hF
             refine WL.o (some 72) ?_
             refine WL.o (some 73) ?_
             refine WL.o (some 74) ?_
             refine oA 75 (.bool false) ?_
             exact lW _ (J122 _ _ hF)
          cases t64 with
          | true =>
           replace hF := ifB_t hF
           refine oA 66 r44 ?_
           refine oCb hc 67 hF fun t67 h_127 hF => ?_
           refine oA 68 (.bool t67) ?_
           exact lW _ (J107 _ _ hF)
          | false =>
           replace hF := ifB_f hF
           refine WL.o (some 66) ?_
           refine WL.o (some 67) ?_
           refine oA 68 (.bool false) ?_
           exact lW _ (J107 _ _ hF)
         | false =>
          refine oU hF fun hF => ?_
          refine W.exit (by kernel_rfl) ?_
          refine e95 (e92 ?_)
          refine s64 (by kernel_rfl) ?_
          exact gW _ (J65 _ _ hF)
       exact gW _ (L92 _ _ _ _ hF)
     cases t46 with
     | true =>
      replace hF := ifB_t hF
      refine WL.o (some 48) ?_
      refine WL.o (some 49) ?_
      refine WL.o (some 50) ?_
      refine WL.o (some 51) ?_
      refine WL.o (some 52) ?_
      refine oA 53 (.bool true) ?_
      exact lW _ (J57 _ _ hF)
     | false =>
      replace hF := ifB_f hF
      refine oA 48 r44 ?_
      refine oCb hc 49 hF fun t49 h_130 hF => ?_
      refine oA 50 v18 ?_
      refine oCb hc 51 hF fun t51 h_133 hF => ?_
      refine oB 52 hF fun t52 hF => ?_
      refine oA 53 (.bool t52) ?_
      exact lW _ (J57 _ _ hF)
   cases t37 with
   | true =>
    replace hF := ifB_t hF
    refine WL.o (some 39) ?_
    refine WL.o (some 40) ?_
    refine WL.o (some 41) ?_
    refine oA 42 (.bool true) ?_
    exact lW _ (J45 _ _ hF)
   | false =>
    replace hF := ifB_f hF
    refine oA 39 (strA t2) ?_
    refine oA 40 (.int .i64 (lenS t2)) ?_
    refine oB 41 hF fun t41 hF => ?_
    refine oA 42 (.bool t41) ?_
    exact lW _ (J45 _ _ hF)
section
variable {N : Nt} {n d nb rb : Nat} {h0 : AHeap} {Q : ARes → AHeap → Prop} {ys : List RowT}
theorem dead_done {st : Bool × Nat} (h : deadN N st = true) : doneN N st = false := by
 cases hd : doneN N st with
 | false => rfl
 | true =>
  rw [done_live hd] at h
  cases h
theorem dies_loop {s : Bytes} {k65 : Bool → AHeap → R} (hT : HasTz h0) (hN : NtOk N) (hn : 18446744073709551616 < n) (hl : s.length < 1000000000)
  (hk : ∀ (dd : Bool) (st : Bool × Nat) (H : AHeap), st.2 < 18446744073709551616 → Abs.Mem [] h0 H ((rb, TRun, runC nb st) :: (nb, TNet, netC N) :: ys) → doneN N st = matchN N s → (dd = true → deadN N st = true) → Wp (k65 dd H) Q) :
  ∀ (m f i : Nat) (dd : Bool) (st : Bool × Nat) (H : AHeap), m < f → i + m = s.length → st.2 < 18446744073709551616 → (dd = true → deadN N st = true) → doneN N (runN N st (s.drop i)) = matchN N s → Abs.Mem [] h0 H ((rb, TRun, runC nb st) :: (nb, TNet, netC N) :: ys) → Wp (law10_NfaDies_L0 (world n (d + 3)) (.ptr rb 0) s k65 f dd (i : Int) H) Q
 | _, 0, _, _, _, _, hf, _, _, _, _, _ => by omega
 | 0, f + 1, i, dd, st, H, hf, hm, hs, hdd, hr, M => by
  have ll := lenS_nat s
  rw [law10_NfaDies_L0_s]
  unfold law10_NfaDies_L0b
  rw [List.drop_of_length_le (by omega)] at hr
  repeat (first | (with_reducible refine Wp.lett ?_) | ((with_reducible refine Wp.iff ?_ ?_); ((with_reducible apply decide_eq_false); omega)))
  exact hk dd st H hs M hr hdd
 | m + 1, f + 1, i, dd, st, H, hf, hm, hs, hdd, hr, M => by
  have ll := lenS_nat s
  have hi : i < s.length := by omega
  rw [law10_NfaDies_L0_s]
  unfold law10_NfaDies_L0b
  have hx := idxS_nat hi
  have el : (i : Int) + 1 = ((i + 1 : Nat) : Int) := by omega
  have hne : rb ≠ nb := by
   have ap := M.apart
   rw [List.map_cons, List.map_cons, List.nodup_cons] at ap
   intro e
   exact ap.1 (by rw [show (rb, TRun, runC nb st).1 = rb from rfl, e]; exact List.mem_cons_self)
  have e1 := done_w (n := n) (d := d + 1) hN hs M.at0.1 M.at1.1
  have e2 := dead_w (n := n) (d := d + 1) M.at0.1 M.at1.1
  obtain ⟨h1, e3, k1, t1⟩ := step_r (n := n) (d := d) (hT.tch M.tch (by simp)) hN hs hn hne (byte_lt hi) M.at0.1 M.at1.1 M.at1.2.1
  have M1 := Mem.upd (xs := []) M t1 k1
  simp only [List.nil_append] at M1
  rw [run_cons hi] at hr
  have fin := dies_loop hT hN hn hl hk m f (i + 1) (deadN N st) _ h1 (by omega) (by omega) (step_small hN _ _) (fun h => dead_step h _) hr M1
  cases hd : doneN N st with
  | true =>
   have hz := done_live hd
   have hf2 : dd = false := by
    cases dd with
    | false => rfl
    | true => rw [hdd rfl] at hz; cases hz
   subst hf2
   rw [hd] at e1
   rw [hz] at e2 fin
   repeat (first | (with_reducible refine Wp.join1 (fun _ _ => ?_)) | ((with_reducible refine Wp.lettw ?_ ?_ ?_); omega; omega) | (with_reducible refine Wp.lett ?_) | ((with_reducible apply Wp.obind); (with_reducible first | exact hx | exact avBool_bool _)) | ((with_reducible refine Wp.ift ?_ ?_); first | (with_reducible rfl) | ((with_reducible apply decide_eq_true); omega)) | ((with_reducible refine Wp.iff ?_ ?_); (with_reducible rfl)) | ((with_reducible apply Wp.callN); (with_reducible first | exact e1 | exact e2 | assumption)) | (with_reducible refine Wp.go1 (by assumption) ?_))
   rw [el]
   exact fin
  | false =>
   rw [hd] at e1
   cases dd with
   | true =>
    have hz := hdd rfl
    rw [hz] at e2 fin
    repeat (first | (with_reducible refine Wp.join1 (fun _ _ => ?_)) | ((with_reducible refine Wp.lettw ?_ ?_ ?_); omega; omega) | (with_reducible refine Wp.lett ?_) | ((with_reducible apply Wp.obind); (with_reducible first | exact hx | exact avBool_bool _)) | ((with_reducible refine Wp.ift ?_ ?_); first | (with_reducible rfl) | ((with_reducible apply decide_eq_true); omega)) | ((with_reducible refine Wp.iff ?_ ?_); (with_reducible first | rfl | exact Bool.not_true)) | ((with_reducible apply Wp.callN); (with_reducible first | exact e1 | exact e2 | assumption)) | (with_reducible refine Wp.go1 (by assumption) ?_))
    rw [el]
    exact fin
   | false =>
    repeat (first | (with_reducible refine Wp.join1 (fun _ _ => ?_)) | ((with_reducible refine Wp.lettw ?_ ?_ ?_); omega; omega) | (with_reducible refine Wp.lett ?_) | ((with_reducible apply Wp.obind); (with_reducible first | exact hx | exact avBool_bool _)) | ((with_reducible refine Wp.ift ?_ ?_); ((with_reducible apply decide_eq_true); omega)) | ((with_reducible refine Wp.iff ?_ ?_); (with_reducible rfl)) | ((with_reducible apply Wp.callN); (with_reducible first | exact e1 | exact e2 | assumption)) | (with_reducible refine Wp.go1 (by assumption) ?_))
    rw [el]
    exact fin
end
set_option maxRecDepth 100000 in
theorem pat_of {N : Nat} {h : AHeap} {x : AV} (hp : ArgP Tryd.prog N h 12 23 x) : ∃ (k : Int) (u : Bytes), x = .agg [.int .i64 k, strA u] ∧ u.length ≤ reachBytes := by
 obtain ⟨l, rfl, hpl⟩ := hp.agg (by kernel_rfl)
 obtain ⟨y1, y2, rfl, p1, p2⟩ := hpl.struct2 Tryd.underlying23
 obtain ⟨k, rfl, _⟩ := p1.int Tryd.underlying3
 obtain ⟨u, rfl, hu⟩ := p2.str Tryd.underlying9
 exact ⟨k, u, rfl, hu⟩
abbrev tzI64 : List Int := [0, 1, 56, 2, 57, 49, 28, 3, 61, 58, 42, 50, 38, 29, 17, 4, 62, 47, 59, 36, 45, 43, 51, 22, 53, 39, 33, 30, 24, 18, 12, 5, 63, 55, 48, 27, 60, 41, 37, 16, 46, 35, 44, 21, 52, 32, 23, 11, 54, 26, 40, 15, 34, 20, 31, 10, 25, 14, 19, 9, 13, 8, 7, 6]
theorem tzC_ints : tzC = tzI64.map fun z => AV.int .u8 z := by kernel_rfl
noncomputable def tzG : Tabs := [(0, tzI64.map fun z => AV.int .u8 z)]
theorem tz_of {h : AHeap} {X : List Nat} {G : Nat} (hG : 0 < G) (k : Keeps (startG tzG X G) h) : HasTz h :=
 ⟨k.2.2 _ _ (by show (tabTree tzG).get _ = _; unfold tzG tabTree; rw [T.get_set_same, tzC_ints]), Nat.lt_of_lt_of_le hG k.1⟩
set_option maxRecDepth 100000 in
theorem nfaDies_says (h : AHeap) (hX : h.ex = []) (hT : HasTz h) (xs : List AV) (hP : ArgsP Tryd.prog h.next h 12 [23, 9, 9] xs) : ∃ h', Says Tryd.prog 5 xs h (.ret (.bool true)) h' := by
 obtain ⟨_, _, rfl, hp0, hP⟩ := args_cons hP
 obtain ⟨_, _, rfl, hp1, hP⟩ := args_cons hP
 obtain ⟨_, _, rfl, hp2, hP⟩ := args_cons hP
 obtain rfl := args0 hP
 obtain ⟨k, u, rfl, _⟩ := pat_of hp0
 obtain ⟨a, rfl, hsa⟩ := hp1.str Tryd.underlying9
 obtain ⟨b, rfl, hsb⟩ := hp2.str Tryd.underlying9
 obtain ⟨n, hn⟩ : ∃ n, 18446744073709551620 < n := ⟨_, Nat.lt_succ_self _⟩
 obtain ⟨D, hD⟩ : ∃ D, 1000 ≤ D := ⟨1000, Nat.le_refl _⟩
 suffices hK : Wp (law10_NfaDies (world n (D + 4)) n [.int .i64 k, strA u] a b h) fun r _ => r = .ret (.bool true) by
  obtain ⟨_, h', e, rfl⟩ := hK
  exact ⟨h', law10_NfaDies_ok (world_ok n (D + 4)) e⟩
 have hxN : ∀ {h1 : AHeap} {rs : List RowT}, Abs.Mem [] h h1 rs → memB TNode h1.ex = false := fun M => by rw [M.ex, hX]; rfl
 have hTz : ∀ {h1 : AHeap} {rs : List RowT}, Abs.Mem [] h h1 rs → HasTz h1 := fun M => hT.tch M.tch (by simp)
 unfold law10_NfaDies
 have Mx := Mem.nil [] h
 repeat (((with_reducible apply Wp.mbox Mx); (rfl); intro _ Mz; clear Mx; have Mx := Mz; clear Mz))
 refine Wp.callN (works_w (d := D + 2) hn (by omega) (hTz Mx) (hxN Mx)) ?_
 repeat (first | ((with_reducible apply Wp.obind); (with_reducible exact avBool_bool _)) | ((with_reducible apply Wp.lr0 Mx); rfl) | (with_reducible refine Wp.lett ?_) | ((with_reducible refine Wp.iff ?_ ?_); (with_reducible exact Bool.not_true)))
 rcases of_all k u (n := n) (d := D + 3) hn (by omega) with hb | ⟨t, _, _, ht⟩
 ·refine Wp.callN (hb _ (hxN Mx)) ?_
  repeat (first | ((with_reducible apply Wp.obind); (with_reducible first | exact avInt_int _ _ | exact avBool_bool _)) | (with_reducible refine Wp.join1 (fun _ _ => ?_)) | (with_reducible refine Wp.lett ?_) | ((with_reducible apply Wp.obind); (with_reducible first | exact extT_0 _ _ | exact extT_1 _ _ _)) | ((with_reducible refine Wp.ift ?_ ?_); first | (with_reducible first | rfl | exact Bool.not_false) | ((with_reducible apply bne_t); omega)) | ((with_reducible apply Wp.callN); (with_reducible first | exact match_nil _ _ | exact begin_nil _)) | ((with_reducible apply Wp.outK); (with_reducible first | exact nilNet _ | exact nilRun _)) | (with_reducible refine Wp.go1 (by assumption) ?_))
  exact Wp.ret rfl
 ·have hN := netOf_ok t
  obtain ⟨nb, h1, e1, M1⟩ := ht _ (hxN Mx)
  refine Wp.callN e1 ?_
  have M2 := Mem.frame (xs := []) Mx M1
  clear Mx M1 e1
  simp only [List.cons_append, List.nil_append] at M2
  have la := lenS_nat a
  have lb := lenS_nat b
  by_cases ha : 2000 < a.length
  ·repeat (first | (with_reducible refine Wp.join1 (fun _ _ => ?_)) | (with_reducible refine Wp.lett ?_) | ((with_reducible apply Wp.obind); (with_reducible first | exact avInt_int _ _ | exact extT_0 _ _ | exact extT_1 _ _ _)) | ((with_reducible refine Wp.ift ?_ ?_); first | (with_reducible rfl) | ((with_reducible first | apply decide_eq_true | apply bne_t); omega)) | ((with_reducible refine Wp.iff ?_ ?_); ((with_reducible apply bne_f); omega)) | (with_reducible refine Wp.go1 (by assumption) ?_))
   exact Wp.ret rfl
  by_cases hbl : 2000 < b.length
  ·repeat (first | (with_reducible refine Wp.join1 (fun _ _ => ?_)) | (with_reducible refine Wp.lett ?_) | ((with_reducible apply Wp.obind); (with_reducible first | exact avInt_int _ _ | exact extT_0 _ _ | exact extT_1 _ _ _)) | ((with_reducible refine Wp.ift ?_ ?_); ((with_reducible first | apply decide_eq_true | apply bne_t); omega)) | ((with_reducible refine Wp.iff ?_ ?_); ((with_reducible first | apply decide_eq_false | apply bne_f); omega)) | (with_reducible refine Wp.go1 (by assumption) ?_))
   exact Wp.ret rfl
  repeat (first | (with_reducible refine Wp.join1 (fun _ _ => ?_)) | (with_reducible refine Wp.lett ?_) | ((with_reducible apply Wp.obind); (with_reducible first | exact avInt_int _ _ | exact extT_0 _ _ | exact extT_1 _ _ _)) | ((with_reducible refine Wp.iff ?_ ?_); ((with_reducible first | apply decide_eq_false | apply bne_f); omega)) | (with_reducible refine Wp.go1 (by assumption) ?_))
  obtain ⟨h3, e3, M3⟩ := begin_m (n := n) (d := D + 3) (nb := nb) M2
  refine Wp.callN e3 ?_
  clear e3
  have z0 : ((false, 0) : Bool × Nat).2 < 18446744073709551616 := by decide
  have d0 := done_w (n := n) (d := D + 2) hN z0 M3.at0.1 M3.at1.1
  repeat (first | (with_reducible refine Wp.join1 (fun _ _ => ?_)) | ((with_reducible apply Wp.obind); (with_reducible exact avBool_bool _)) | ((with_reducible refine Wp.iff ?_ ?_); (with_reducible rfl)) | ((with_reducible apply Wp.callN); (with_reducible exact d0)) | ((with_reducible apply Wp.outK); (with_reducible exact eqRun _ _ _)))
  obtain ⟨h4, e4, t4⟩ := match_r (n := n) (d := D) (s := []) (hTz M3) hN (by omega) (by decide) M3.at1.1 M3.at1.2.1
  refine Wp.callN e4 ?_
  clear e4
  have M4 := M3.keep t4
  have hm0 : matchN (netOf t) [] = doneN (netOf t) (false, 0) := rfl
  rw [hm0]
  repeat (first | (with_reducible refine Wp.lett ?_) | ((with_reducible apply Wp.obind); (with_reducible exact avBool_bool _)) | (with_reducible refine Wp.go1 (by assumption) ?_))
  refine Wp.iff (by cases doneN (netOf t) (false, 0) <;> rfl) ?_
  have A1 : addS a b = some (a ++ b) := addS_val (by omega)
  repeat (first | (with_reducible refine Wp.join1 (fun _ _ => ?_)) | ((with_reducible apply Wp.obind); (with_reducible exact A1)))
  rename_i k65 ek65
  have hl : (a ++ b).length < 1000000000 := by rw [List.length_append]; omega
  have hln : (a ++ b).length < n := by omega
  refine dies_loop (n := n) (d := D + 1) (s := a ++ b) (h0 := h) hT hN (by omega) hl (fun dd st H hs M hd hdd => ?_) (a ++ b).length n 0 false (false, 0) _ hln (Nat.zero_add _) z0 (fun h => by cases h) (by rw [List.drop_zero]; rfl) M4
  rw [ek65]
  have d1 := done_w (n := n) (d := D + 2) hN hs M.at0.1 M.at1.1
  repeat (first | ((with_reducible apply Wp.obind); (with_reducible exact avBool_bool _)) | ((with_reducible apply Wp.callN); (with_reducible exact d1)))
  obtain ⟨h5, e5, t5⟩ := match_r (n := n) (d := D) (s := a ++ b) (hTz M) hN (by omega) hl M.at1.1 M.at1.2.1
  refine Wp.callN e5 ?_
  clear e5
  have M5 := M.keep t5
  repeat (first | (with_reducible refine Wp.join1 (fun _ _ => ?_)) | (with_reducible refine Wp.lett ?_) | ((with_reducible apply Wp.obind); (with_reducible exact avBool_bool _)))
  refine Wp.ift (by rw [hd]; cases matchN (netOf t) (a ++ b) <;> rfl) ?_
  cases dd with
  | false =>
   repeat (first | (with_reducible refine Wp.join1 (fun _ _ => ?_)) | (with_reducible refine Wp.lett ?_) | ((with_reducible refine Wp.ift ?_ ?_); (with_reducible exact Bool.not_false)) | (with_reducible refine Wp.go1 (by assumption) ?_))
   exact Wp.ret rfl
  | true =>
   have hz := hdd rfl
   have d2 := done_w (n := n) (d := D + 2) hN hs M5.at0.1 M5.at1.1
   have d3 := dead_w (n := n) (d := D + 2) M5.at0.1 M5.at1.1
   rw [dead_done hz] at d2
   rw [hz] at d3
   repeat (first | (with_reducible refine Wp.join1 (fun _ _ => ?_)) | (with_reducible refine Wp.lett ?_) | ((with_reducible apply Wp.obind); (with_reducible exact avBool_bool _)) | ((with_reducible refine Wp.ift ?_ ?_); (with_reducible exact Bool.not_false)) | ((with_reducible refine Wp.iff ?_ ?_); (with_reducible exact Bool.not_true)) | ((with_reducible apply Wp.callN); (with_reducible first | exact d2 | exact d3)) | (with_reducible refine Wp.go1 (by assumption) ?_))
   exact Wp.ret rfl
end Go.Proofs.YtakhljnkmbpmpaaDoor
