/- What nfaJoins_proved stands on, part 8 of 9. -/
import Derived.Test.YtakhljnkmbpmpaaDoorCj7
namespace Go.Proofs.YtakhljnkmbpmpaaDoor
open Go.RowKit Abs
def zeroNet : Nt := ⟨false, 0, 0, List.replicate 64 0, List.replicate 256 0⟩
theorem zeroNet_ok : NtOk zeroNet := ⟨List.length_replicate, List.length_replicate, by decide, by decide, fun x hx => by rw [List.eq_of_mem_replicate hx]; decide, fun x hx => by rw [List.eq_of_mem_replicate hx]; decide⟩
def rawOf (t : Nd) : Nt := { (pieceN t zeroNet 0).2.1 with empty := (pieceN t zeroNet 0).1.empty, first := (pieceN t zeroNet 0).1.first, last := (pieceN t zeroNet 0).1.last }
def netOf (t : Nd) : Nt := (rawOf t).trim
theorem rawOf_ok (t : Nd) : NtOk (rawOf t) := by
 have := pieceN_ok t (u := 0) zeroNet_ok
 exact ⟨this.n.fl, this.n.tl, this.p.f, this.p.l, this.n.fs, this.n.ts⟩
theorem netOf_ok (t : Nd) : NtOk (netOf t) := (rawOf_ok t).trim
theorem rowsAt_of {S : List Nat} {h0 h : AHeap} {rs T : List RowT} (M : Abs.Mem S h0 h rs) (hs : ∀ y ∈ T, y ∈ rs) : RowsAt h T := fun y hy => ⟨(M.row y (hs y hy)).1, (M.row y (hs y hy)).2.1⟩
theorem apart2 {S : List Nat} {h0 h : AHeap} {x y : RowT} {rs T : List RowT} (M : Abs.Mem S h0 h (x :: y :: rs)) (hs : ∀ z ∈ T, z ∈ rs) : (∀ z ∈ T, z.1 ∉ [x.1, y.1]) ∧ x.1 ≠ y.1 := by
 have ap := M.apart
 rw [List.map_cons, List.map_cons, List.nodup_cons, List.nodup_cons] at ap
 refine ⟨fun z hz hm => ?_, fun e => ap.1 (by rw [e]; exact List.mem_cons_self)⟩
 rcases List.mem_cons.1 hm with e | hm
 ·exact ap.1 (List.mem_cons_of_mem _ (by rw [← e]; exact List.mem_map_of_mem (hs z hz)))
 ·exact ap.2.1 (by rw [← List.mem_singleton.1 hm]; exact List.mem_map_of_mem (hs z hz))
set_option maxRecDepth 100000 in
theorem bldBl (b o : Nat) : bldS Tryd.prog TBl [(0, .ptr b o)] = some [.ptr b o, .int .i64 0] := by kernel_rfl
section
variable {n d : Nat} {h : AHeap} {u : Bytes} {k : Int} {t : Nd} {c : List AV} {T : List RowT} {H : AHeap} {e1 q : Int}
theorem of_bad (he : e1 ≠ 0) (ht : ∀ h, memB TNode h.ex = false → world n d 24 [.agg [.int .i64 k, strA u]] h = some (.ret (.tup [.agg (nodeC 0 zeroW .nsl), .agg [.int .i64 e1, .int .i64 q]]), h)) (hx : memB TNode h.ex = false) :
  world n (d + 1) 12 [.agg [.int .i64 k, strA u]] h = some (.ret (.tup [.nilp, .int .i64 2]), h) := by
 apply Wp.eq
 rw [w_nfa_Of]
 refine Wp.gc ?_
 suffices hK : Wp (nfa_Of (world n d) n [.int .i64 k, strA u] h) fun r h' => r = .ret (.tup [.nilp, .int .i64 2]) ∧ Tch [] h h' from hK.mono fun r h' ⟨e, t⟩ => ⟨t.above, by rw [e]; rfl, e, rfl⟩
 unfold nfa_Of
 have Mx := Mem.nil [] h
 have hxN : ∀ {h1 : AHeap} {rs : List RowT}, Abs.Mem [] h h1 rs → memB TNode h1.ex = false := fun M => by rw [M.ex]; exact hx
 repeat (first | ((with_reducible apply Wp.lr0 Mx); rfl) | ((with_reducible apply Wp.mbox Mx); (rfl); intro _ Mz; clear Mx; have Mx := Mz; clear Mz))
 refine Wp.callN (ht _ (hxN Mx)) ?_
 repeat (first | ((with_reducible apply Wp.obind); (with_reducible exact avInt_int _ _)) | ((with_reducible apply Wp.ld0 Mx); rfl) | ((with_reducible apply Wp.sa0 Mx); rfl; rfl; (rfl); intro _ Mz; clear Mx; have Mx := Mz; clear Mz) | ((with_reducible apply Wp.sa1 Mx); rfl; rfl; (rfl); intro _ Mz; clear Mx; have Mx := Mz; clear Mz) | ((with_reducible apply Wp.mnew Mx); intro _ Mz; clear Mx; have Mx := Mz; clear Mz) | (with_reducible refine Wp.lett ?_) | ((with_reducible apply Wp.obind); (with_reducible first | exact avAgg_agg _ | exact extT_0 _ _ | exact extT_1 _ _ _)) | ((with_reducible refine Wp.ift ?_ ?_); ((with_reducible apply bne_t); omega)) | rw [newP_eq])
 exact Wp.ret ⟨rfl, Mx.tch⟩
set_option maxRecDepth 100000 in
theorem of_ok (hk1 : oneK t) (hsz : t.sz < 100000) (hd : t.sz + 2 ≤ d) (hn : 18446744073709551620 < n) (ht : ∀ h, memB TNode h.ex = false → ∃ c T h', world n d 24 [.agg [.int .i64 k, strA u]] h = some (.ret (.tup [.agg c, .agg [.int .i64 0, .int .i64 0]]), h') ∧ NodeT t c T ∧ Abs.Mem [] h h' T) (hx : memB TNode h.ex = false) :
  ∃ nb h', world n (d + 1) 12 [.agg [.int .i64 k, strA u]] h = some (.ret (.tup [.ptr nb 0, .int .i64 0]), h') ∧ Abs.Mem [] h h' [(nb, TNet, netC (netOf t))] := by
 suffices hK : Wp (gcR h (nfa_Of (world n d) n [.int .i64 k, strA u] h)) fun r h' => ∃ nb, r = .ret (.tup [.ptr nb 0, .int .i64 0]) ∧ Abs.Mem [] h h' [(nb, TNet, netC (netOf t))] by
  obtain ⟨_, h', e, nb, rfl, k2⟩ := hK
  rw [← w_nfa_Of] at e
  exact ⟨nb, h', e, k2⟩
 suffices hK : Wp (nfa_Of (world n d) n [.int .i64 k, strA u] h) fun r h' => ∃ nb, r = .ret (.tup [.ptr nb 0, .int .i64 0]) ∧ Abs.Mem [] h h' [(nb, TNet, netC (netOf t))] by
  obtain ⟨_, h', e, nb, rfl, k2⟩ := hK
  refine Wp.gc2 ⟨_, h', e, ⟨nb, rfl, k2⟩, fun _ hl => ?_⟩
  have h1 : AV.lo h.next (.ptr nb 0) = true := by
   have : (AV.lo h.next (.ptr nb 0) && (AV.lo h.next (.int .i64 0) && AV.loL h.next [])) = true := hl
   rw [Bool.and_eq_true] at this
   exact this.1
  have h2 := k2.at0.2.2.resolve_left (by simp)
  have h3 : nb < h.next := by simpa [AV.lo] using h1
  omega
 unfold nfa_Of
 have Mx := Mem.nil [] h
 have hxN : ∀ {h1 : AHeap} {rs : List RowT}, Abs.Mem [] h h1 rs → memB TNode h1.ex = false := fun M => by rw [M.ex]; exact hx
 repeat (first | ((with_reducible apply Wp.lr0 Mx); rfl) | ((with_reducible apply Wp.mbox Mx); (rfl); intro _ Mz; clear Mx; have Mx := Mz; clear Mz))
 obtain ⟨c, T, H1, e1, kt1, M1⟩ := ht _ (hxN Mx)
 refine Wp.callN e1 ?_
 have M2 := Mem.frameT (xs := []) (ys := []) Mx M1
 clear Mx M1
 have Mx := M2
 clear M2
 simp only [List.nil_append] at Mx
 repeat (first | ((with_reducible apply Wp.mnew Mx); intro _ Mz; clear Mx; have Mx := Mz; clear Mz) | ((with_reducible apply Wp.obind); (with_reducible first | exact avAgg_agg _ | exact extT_0 _ _ | exact extT_1 _ _ _)) | rw [newP_eq])
 refine Wp.sa1 Mx kt1.len rfl kt1.one fun h3 M3 => ?_
 clear Mx
 have Mx := M3
 clear M3
 repeat (first | ((with_reducible apply Wp.obind); (with_reducible exact avInt_int _ _)) | ((with_reducible apply Wp.ld0 Mx); rfl) | ((with_reducible apply Wp.sa0 Mx); rfl; rfl; (rfl); intro _ Mz; clear Mx; have Mx := Mz; clear Mz) | ((with_reducible apply Wp.mbox Mx); (rfl); intro _ Mz; clear Mx; have Mx := Mz; clear Mz) | (with_reducible refine Wp.lett ?_) | ((with_reducible refine Wp.iff ?_ ?_); ((with_reducible apply bne_f); omega)) | rw [newP_eq])
 have M4 : Abs.Mem [] h _ ((_, TNet, netC zeroNet) :: _) := Mx
 clear Mx
 have Mx := M4
 clear M4
 repeat (first | ((with_reducible apply Wp.sa0 Mx); rfl; rfl; (rfl); intro _ Mz; clear Mx; have Mx := Mz; clear Mz) | ((with_reducible apply Wp.mnew Mx); intro _ Mz; clear Mx; have Mx := Mz; clear Mz) | ((with_reducible apply Wp.obind); (with_reducible exact bldBl _ _)))
 refine Wp.lr3 Mx kt1.len ?_
 obtain ⟨d2, rfl⟩ : ∃ d2, d = d2 + 2 := ⟨d - 2, by omega⟩
 obtain ⟨hTn, hne⟩ := apart2 (T := T) Mx (fun y hy => by simp [hy])
 have rT := rowsAt_of (T := T) Mx (fun y hy => by simp [hy])
 obtain ⟨h5, e5, kb5, kn5, t5⟩ := piece_ok t (n := n) (D := d2 + 2) hk1 kt1 rT hTn Mx.at0.2.1 Mx.at1.2.1 hne hd (by omega) (by omega) zeroNet 0 _ zeroNet_ok (by omega) (Tch.refl _ _) Mx.at0.1 Mx.at1.1
 refine Wp.callN e5 ?_
 clear e5 hTn rT hne
 have M5 := Mem.upd2 (xs := []) Mx t5 kb5 kn5
 clear Mx
 have Mx := M5
 clear M5
 simp only [List.nil_append] at Mx
 repeat (first | ((with_reducible apply Wp.obind); (with_reducible first | exact avInt_int _ _ | exact avBool_bool _ | exact nilC_ptr _ _ | exact fldP_ptr _ _ _)) | ((with_reducible apply Wp.ld0 Mx); rfl) | ((with_reducible apply Wp.sa0 Mx); rfl; rfl; (rfl); intro _ Mz; clear Mx; have Mx := Mz; clear Mz) | ((with_reducible apply Wp.ld1 Mx); rfl) | ((with_reducible apply Wp.ms2 Mx); exact Nat.le_of_ble_eq_true rfl; rfl; intro _ Mz; clear Mx; have Mx := Mz; clear Mz) | ((with_reducible apply Wp.mnew Mx); intro _ Mz; clear Mx; have Mx := Mz; clear Mz) | ((with_reducible refine Wp.chk ?_ ?_); focus ((repeat' (first | (with_reducible exact rfl) | (with_reducible apply and_t) | ((with_reducible apply Mem.re0 Mx); kernel_rfl; rfl))); done)) | ((with_reducible apply Wp.obind); (with_reducible exact avAgg_agg _)) | rw [newP_eq])
 obtain ⟨h6, e6, kn6, t6⟩ := trim_r (n := n) (d := d2) (rawOf_ok t) hn (h := _) Mx.at2.1
 refine Wp.callN e6 ?_
 have M6 := Mem.upd (xs := [_, _]) Mx t6 kn6
 clear Mx
 have Mx := M6
 clear M6
 simp only [List.cons_append, List.nil_append] at Mx
 repeat (((with_reducible apply Wp.ld1 Mx); rfl))
 refine Wp.ret ⟨_, rfl, fun x hx => Mx.row x ?_, List.nodup_cons.2 ⟨List.not_mem_nil, List.nodup_nil⟩, Mx.tch⟩
 rw [List.mem_singleton] at hx
 rw [hx]
 exact List.mem_cons_of_mem _ (List.mem_cons_of_mem _ List.mem_cons_self)
end
abbrev TRun : Nat := 69
def stepN (N : Nt) (st : Bool × Nat) (c : Nat) : Bool × Nat := (true, (if st.1 = true then N.behind st.2 else N.first) &&& N.ta.getD c 0)
def doneN (N : Nt) (st : Bool × Nat) : Bool := if st.1 = true then decide (st.2 &&& N.last ≠ 0) else N.empty
def deadN (N : Nt) (st : Bool × Nat) : Bool := if st.1 = true then decide (st.2 = 0) else !N.empty && decide (N.first = 0)
noncomputable def runC (nb : Nat) (st : Bool × Nat) : List AV := [.ptr nb 0, .bool st.1, .int .u64 (st.2 : Int)]
def runN (N : Nt) (st : Bool × Nat) (s : Bytes) : Bool × Nat := s.foldl (fun st c => stepN N st c.toNat) st
def matchN (N : Nt) (s : Bytes) : Bool := doneN N (runN N (false, 0) s)
theorem behF_zero (fo : List Nat) : ∀ (f acc : Nat), behF fo f 0 acc = acc
 | 0, _ => rfl
 | _ + 1, _ => rfl
theorem beh_zero (N : Nt) : N.behind 0 = 0 := behF_zero _ _ _
theorem step_zero (N : Nt) (c : Nat) : stepN N (true, 0) c = (true, 0) := by
 unfold stepN
 rw [if_pos rfl, beh_zero, Nat.zero_and]
theorem run_zero (N : Nt) : ∀ s : Bytes, runN N (true, 0) s = (true, 0)
 | [] => rfl
 | c :: s => by
  show runN N (stepN N (true, 0) c.toNat) s = _
  rw [step_zero]
  exact run_zero N s
theorem step_small {N : Nt} (k : NtOk N) (st : Bool × Nat) (c : Nat) : (stepN N st c).2 < 18446744073709551616 := by
 show (if st.1 = true then N.behind st.2 else N.first) &&& _ < _
 refine and_small ?_
 split
 ·exact N.behind_small k _
 ·exact k.f
section
variable {N : Nt} {n d nb rb : Nat} {h : AHeap} {Q : ARes → AHeap → Prop} {st : Bool × Nat}
set_option maxRecDepth 100000 in
theorem eqRun (b o : Nat) (h : AHeap) : opBin Tryd.prog h .eql 44 true (some (.ptr b o)) (some AV.nilp) = some (.val (.bool false), h) := by kernel_rfl
set_option maxRecDepth 100000 in
theorem eqNet (b o : Nat) (h : AHeap) : opBin Tryd.prog h .eql 25 true (some (.ptr b o)) (some AV.nilp) = some (.val (.bool false), h) := by kernel_rfl
set_option maxRecDepth 100000 in
theorem bldRun (b o : Nat) : bldS Tryd.prog TRun [(0, .ptr b o)] = some [.ptr b o, .bool false, .int .u64 0] := by kernel_rfl
theorem none_w (kr : RowH h rb TRun (runC nb st)) : world n (d + 1) 33 [.ptr rb 0] h = some (.ret (.bool false), h) := by
 apply Wp.eq
 rw [w_nfa_Run_none]
 unfold nfa_Run_none
 have c1 : ldCell h (.ptr rb (0 + 0)) = some (.ptr nb 0) := RowH.cell' kr rfl
 repeat (first | (with_reducible refine Wp.join1 (fun _ _ => ?_)) | ((with_reducible apply Wp.obind); (with_reducible first | exact c1 | exact avBool_bool _ | exact nilC_ptr _ _ | exact fldP_ptr _ _ _)) | ((with_reducible refine Wp.iff ?_ ?_); (with_reducible rfl)) | ((with_reducible apply Wp.outK); (with_reducible first | exact eqRun _ _ _ | exact eqNet _ _ _)) | (with_reducible refine Wp.go1 (by assumption) ?_))
 exact Wp.ret ⟨rfl, rfl⟩
theorem done_w (hN : NtOk N) (hs : st.2 < 18446744073709551616) (kr : RowH h rb TRun (runC nb st)) (kn : RowH h nb TNet (netC N)) : world n (d + 2) 18 [.ptr rb 0] h = some (.ret (.bool (doneN N st)), h) := by
 apply Wp.eq
 rw [w_nfa_Run_Done]
 unfold nfa_Run_Done
 have e0 := none_w (n := n) (d := d) kr
 have c1 : ldCell h (.ptr rb (0 + 0)) = some (.ptr nb 0) := RowH.cell' kr rfl
 have c2 : ldCell h (.ptr rb (0 + 1)) = some (.bool st.1) := RowH.cell' kr rfl
 have c3 : ldCell h (.ptr rb (0 + 2)) = some (.int .u64 (st.2 : Int)) := RowH.cell' kr rfl
 have c4 : ldCell h (.ptr nb (0 + 0)) = some (.bool N.empty) := RowH.cell' kn rfl
 have c5 : ldCell h (.ptr nb (0 + 2)) = some (.int .u64 (N.last : Int)) := RowH.cell' kn rfl
 have e1 := andI_nat hs hN.l
 unfold doneN
 repeat (first | (with_reducible refine Wp.lett ?_) | ((with_reducible apply Wp.obind); (with_reducible first | exact c2 | exact avBool_bool _ | exact nilC_ptr _ _ | exact fldP_ptr _ _ _)) | ((with_reducible refine Wp.iff ?_ ?_); (with_reducible rfl)) | ((with_reducible apply Wp.callN); (with_reducible exact e0)))
 cases hb : st.1 with
 | false =>
  repeat (first | ((with_reducible apply Wp.obind); (with_reducible first | exact c1 | exact c4 | exact avBool_bool _ | exact nilC_ptr _ _ | exact fldP_ptr _ _ _)) | ((with_reducible refine Wp.ift ?_ ?_); (with_reducible exact Bool.not_false)))
  exact Wp.ret ⟨rfl, rfl⟩
 | true =>
  repeat (first | (with_reducible refine Wp.lett ?_) | ((with_reducible apply Wp.obind); (with_reducible first | exact c1 | exact c3 | exact c5 | exact avInt_int _ _ | exact nilC_ptr _ _ | exact fldP_ptr _ _ _)) | ((with_reducible refine Wp.iff ?_ ?_); (with_reducible exact Bool.not_true)))
  rw [e1]
  refine Wp.ret ⟨?_, rfl⟩
  by_cases hz : st.2 &&& N.last = 0
  ·rw [hz]
   rfl
  ·rw [if_pos rfl, decide_eq_true hz, show (((st.2 &&& N.last : Nat) : Int) != 0) = true from bne_t (by omega)]
theorem dead_w (kr : RowH h rb TRun (runC nb st)) (kn : RowH h nb TNet (netC N)) : world n (d + 2) 19 [.ptr rb 0] h = some (.ret (.bool (deadN N st)), h) := by
 apply Wp.eq
 rw [w_nfa_Run_Dead]
 unfold nfa_Run_Dead
 have e0 := none_w (n := n) (d := d) kr
 have c1 : ldCell h (.ptr rb (0 + 0)) = some (.ptr nb 0) := RowH.cell' kr rfl
 have c2 : ldCell h (.ptr rb (0 + 1)) = some (.bool st.1) := RowH.cell' kr rfl
 have c3 : ldCell h (.ptr rb (0 + 2)) = some (.int .u64 (st.2 : Int)) := RowH.cell' kr rfl
 have c4 : ldCell h (.ptr nb (0 + 0)) = some (.bool N.empty) := RowH.cell' kn rfl
 have c5 : ldCell h (.ptr nb (0 + 1)) = some (.int .u64 (N.first : Int)) := RowH.cell' kn rfl
 have hz : ∀ x : Nat, (((x : Nat) : Int) == 0) = decide (x = 0) := fun x => by
  by_cases h0 : x = 0
  ·rw [h0]
   rfl
  ·rw [decide_eq_false h0]
   exact beq_f (by omega)
 unfold deadN
 repeat (first | (with_reducible refine Wp.lett ?_) | ((with_reducible apply Wp.obind); (with_reducible first | exact c2 | exact avBool_bool _ | exact nilC_ptr _ _ | exact fldP_ptr _ _ _)) | ((with_reducible refine Wp.iff ?_ ?_); (with_reducible rfl)) | ((with_reducible apply Wp.callN); (with_reducible exact e0)))
 cases hb : st.1 with
 | false =>
  cases he : N.empty with
  | true =>
   rw [he] at c4
   repeat (first | (with_reducible refine Wp.join1 (fun _ _ => ?_)) | (with_reducible refine Wp.lett ?_) | ((with_reducible apply Wp.obind); (with_reducible first | exact c1 | exact c4 | exact avBool_bool _ | exact nilC_ptr _ _ | exact fldP_ptr _ _ _)) | ((with_reducible refine Wp.ift ?_ ?_); (with_reducible exact Bool.not_false)) | ((with_reducible refine Wp.iff ?_ ?_); (with_reducible exact Bool.not_true)) | (with_reducible refine Wp.go1 (by assumption) ?_))
   exact Wp.ret ⟨rfl, rfl⟩
  | false =>
   rw [he] at c4
   repeat (first | (with_reducible refine Wp.join1 (fun _ _ => ?_)) | (with_reducible refine Wp.lett ?_) | ((with_reducible apply Wp.obind); (with_reducible first | exact c1 | exact c4 | exact c5 | exact avInt_int _ _ | exact avBool_bool _ | exact nilC_ptr _ _ | exact fldP_ptr _ _ _)) | ((with_reducible refine Wp.ift ?_ ?_); (with_reducible exact Bool.not_false)) | (with_reducible refine Wp.go1 (by assumption) ?_))
   rw [hz]
   exact Wp.ret ⟨rfl, rfl⟩
 | true =>
  repeat (first | (with_reducible refine Wp.lett ?_) | ((with_reducible apply Wp.obind); (with_reducible first | exact c3 | exact avInt_int _ _ | exact nilC_ptr _ _ | exact fldP_ptr _ _ _)) | ((with_reducible refine Wp.iff ?_ ?_); (with_reducible exact Bool.not_true)))
  rw [hz]
  exact Wp.ret ⟨rfl, rfl⟩
theorem step_r (hT : HasTz h) (hN : NtOk N) (hs : st.2 < 18446744073709551616) (hn : 18446744073709551616 < n) (hne : rb ≠ nb) {c : Nat} (hc : c < 256) (kr : RowH h rb TRun (runC nb st)) (kn : RowH h nb TNet (netC N)) (hnb : nb < h.next) : ∃ h', world n (d + 3) 21 [.ptr rb 0, .int .u8 (c : Int)] h = some (.ret (.tup []), h') ∧ RowH h' rb TRun (runC nb (stepN N st c)) ∧ Tch [rb] h h' := by
 apply Wp.ex
 rw [w_nfa_Run_Step]
 unfold nfa_Run_Step
 have e0 := none_w (n := n) (d := d + 1) kr
 have c1 : ldCell h (.ptr rb (0 + 0)) = some (.ptr nb 0) := RowH.cell' kr rfl
 have c2 : ldCell h (.ptr rb (0 + 1)) = some (.bool st.1) := RowH.cell' kr rfl
 have c3 : ldCell h (.ptr rb (0 + 2)) = some (.int .u64 (st.2 : Int)) := RowH.cell' kr rfl
 have c5 : ldCell h (.ptr nb (0 + 1)) = some (.int .u64 (N.first : Int)) := RowH.cell' kn rfl
 have e1 := beh_w (n := n) (d := d) hT hN kn hs hn
 have e3 := idxA_ptr (b := nb) (o := 0 + 67) hc
 have fin : ∀ (m : Nat), m < 18446744073709551616 → (stepN N st c).2 = m &&& N.ta.getD c 0 → Wp (obind (stRow h 1 [.bool true] (.ptr rb (0 + 1))) fun h_25 =>
   obind (nilC (.ptr rb 0)) fun t33 => obind (fldP 0 t33) fun t34 => obind (ldCell h_25 t34) fun v35 => obind (nilC v35) fun t37 => obind (fldP 67 t37) fun t38 =>
   obind (idxA 256 1 t38 (c : Int)) fun t39 => obind (ldCell h_25 t39) fun v40 => obind (avInt .u64 v40) fun t40 => lett (andI .u64 (m : Int) t40) fun (t41 : Int) =>
   obind (nilC (.ptr rb 0)) fun t42 => obind (fldP 2 t42) fun t43 => obind (stRow h_25 1 [.int .u64 t41] t43) fun h_38 => some (.ret (.tup []), h_38))
   fun r h' => r = .ret (.tup []) ∧ RowH h' rb TRun (runC nb (stepN N st c)) ∧ Tch [rb] h h' := by
  intro m hm he
  refine Wp.st1 kr (by show 1 < 3; decide) rfl fun h1 k1 t1 _ => ?_
  have kn1 := kn.tch t1 hnb (by simpa using fun e => hne e.symm)
  have d1 : ldCell h1 (.ptr rb (0 + 0)) = some (.ptr nb 0) := RowH.cell' k1 rfl
  have d2 : ldCell h1 (.ptr nb (0 + 67 + c)) = some (.int .u64 (N.ta.getD c 0 : Int)) := RowH.cell' kn1 (by rw [Nat.zero_add, net_ta hN hc])
  repeat (first | (with_reducible refine Wp.lett ?_) | ((with_reducible apply Wp.obind); (with_reducible first | exact d1 | exact d2 | exact e3 | exact avInt_int _ _ | exact nilC_ptr _ _ | exact fldP_ptr _ _ _)))
  rw [andI_nat hm (getD_small hN.ts c), ← he]
  refine Wp.st1 k1 (by show 2 < 3; decide) rfl fun h2 k2 t2 _ => ?_
  exact Wp.ret ⟨rfl, k2, t1.trans t2⟩
 repeat (first | (with_reducible refine Wp.join1 (fun _ _ => ?_)) | ((with_reducible apply Wp.obind); (with_reducible first | exact c1 | exact c2 | exact c5 | exact avInt_int _ _ | exact avBool_bool _ | exact nilC_ptr _ _ | exact fldP_ptr _ _ _)) | ((with_reducible refine Wp.iff ?_ ?_); (with_reducible rfl)) | ((with_reducible apply Wp.callN); (with_reducible exact e0)))
 cases hb : st.1 with
 | true =>
  repeat (first | ((with_reducible apply Wp.obind); (with_reducible first | exact c1 | exact c3 | exact avInt_int _ _ | exact nilC_ptr _ _ | exact fldP_ptr _ _ _)) | ((with_reducible refine Wp.ift ?_ ?_); (with_reducible rfl)) | ((with_reducible apply Wp.callN); (with_reducible exact e1)) | (with_reducible refine Wp.go1 (by assumption) ?_))
  exact fin (N.behind st.2) (N.behind_small hN _) (by unfold stepN; rw [if_pos hb])
 | false =>
  repeat (first | ((with_reducible apply Wp.obind); (with_reducible first | exact nilC_ptr _ _ | exact fldP_ptr _ _ _)) | ((with_reducible refine Wp.iff ?_ ?_); (with_reducible rfl)) | (with_reducible refine Wp.go1 (by assumption) ?_))
  exact fin N.first hN.f (by unfold stepN; rw [if_neg (by rw [hb]; decide)])
end
section
variable {N : Nt} {n d nb rb : Nat} {h h0 : AHeap} {Q : ARes → AHeap → Prop} {st : Bool × Nat} {S : List Nat} {rs : List RowT}
theorem begin_m (M : Abs.Mem S h0 h rs) : ∃ h', world n (d + 1) 17 [.ptr nb 0] h = some (.ret (.ptr h.next 0), h') ∧ Abs.Mem S h0 h' ((h.next, TRun, runC nb (false, 0)) :: rs) := by
 apply Wp.ex
 rw [w_nfa_Net_Begin]
 unfold nfa_Net_Begin
 have Mx := M
 repeat (first | ((with_reducible apply Wp.obind); (with_reducible exact avBool_bool _)) | ((with_reducible apply Wp.mbox Mx); (rfl); intro _ Mz; clear Mx; have Mx := Mz; clear Mz) | ((with_reducible apply Wp.obind); (with_reducible exact bldRun _ _)) | ((with_reducible refine Wp.iff ?_ ?_); (with_reducible rfl)) | ((with_reducible apply Wp.outK); (with_reducible exact eqNet _ _ _)))
 exact Wp.ret ⟨rfl, Mx⟩
theorem dead_false {st : Bool × Nat} (hb : st.1 = true) (hd : deadN N st = true) (s : Bytes) : doneN N (runN N st s) = false := by
 obtain ⟨b, m⟩ := st
 have : b = true := hb
 subst this
 have : m = 0 := of_decide_eq_true hd
 subst this
 rw [run_zero]
 show decide (0 &&& N.last ≠ 0) = false
 rw [Nat.zero_and]
 rfl
theorem run_cons {s : Bytes} {i : Nat} (hi : i < s.length) (st : Bool × Nat) : runN N st (s.drop i) = runN N (stepN N st (s[i]).toNat) (s.drop (i + 1)) := by
 rw [List.drop_eq_getElem_cons hi]
 rfl
theorem byte_lt {s : Bytes} {i : Nat} (hi : i < s.length) : (s[i]).toNat < 256 := (s[i]).toNat_lt
theorem match_loop {s : Bytes} {k17 : AHeap → R} {h4 : AHeap} (hT : HasTz h0) (hN : NtOk N) (hn : 18446744073709551616 < n) (hl : s.length < 1000000000) (kn : RowH h0 nb TNet (netC N)) (hnb : nb < h0.next)
  (hk : ∀ (st : Bool × Nat) (H : AHeap), st.2 < 18446744073709551616 → Abs.Mem [] h0 H [(h4.next, TRun, runC nb st)] → doneN N st = matchN N s → Wp (k17 H) Q) (hq : ∀ H, Tch [] h0 H → matchN N s = false → Q (.ret (.bool false)) H) :
  ∀ (m f i : Nat) (st : Bool × Nat) (H : AHeap), m < f → i + m = s.length → st.2 < 18446744073709551616 → doneN N (runN N st (s.drop i)) = matchN N s → Abs.Mem [] h0 H [(h4.next, TRun, runC nb st)] → Wp (nfa_Net_Match_L0 (world n (d + 3)) s h4 k17 f (i : Int) H) Q
 | _, 0, _, _, _, hf, _, _, _, _ => by omega
 | 0, f + 1, i, st, H, hf, hm, hs, hr, M => by
  have ll := lenS_nat s
  rw [nfa_Net_Match_L0_s]
  unfold nfa_Net_Match_L0b
  repeat (first | (with_reducible refine Wp.lett ?_) | ((with_reducible refine Wp.iff ?_ ?_); ((with_reducible apply decide_eq_false); omega)))
  refine hk st H hs M ?_
  rw [List.drop_of_length_le (by omega)] at hr
  exact hr
 | m + 1, f + 1, i, st, H, hf, hm, hs, hr, M => by
  have ll := lenS_nat s
  have hi : i < s.length := by omega
  rw [nfa_Net_Match_L0_s]
  unfold nfa_Net_Match_L0b
  have hx := idxS_nat hi
  have kn1 := kn.tch M.tch hnb (by simp)
  have hn1 := Nat.lt_of_lt_of_le hnb M.tch.1
  have hne : h4.next ≠ nb := by
   have := M.at0.2.2.resolve_left (by simp)
   omega
  obtain ⟨h1, e1, k1, t1⟩ := step_r (n := n) (d := d) (hT.tch M.tch (by simp)) hN hs hn hne (byte_lt hi) M.at0.1 kn1 hn1
  have M1 := Mem.upd (xs := []) M t1 k1
  have kn2 := kn1.tch t1 hn1 (by simpa using fun e => hne e.symm)
  have e2 := dead_w (n := n) (d := d + 1) k1 kn2
  have el : (i : Int) + 1 = ((i + 1 : Nat) : Int) := by omega
  rw [run_cons hi] at hr
  ((with_reducible refine Wp.lett ?_))
  refine Wp.ift (decide_eq_true (by omega)) ?_
  refine Wp.obind hx ?_
  rw [newP_eq]
  refine Wp.callN e1 ?_
  refine Wp.callN e2 ?_
  refine Wp.obind (avBool_bool _) ?_
  cases hd : deadN N (stepN N st (s[i]).toNat) with
  | true =>
   (((with_reducible refine Wp.ift ?_ ?_); (with_reducible rfl)))
   refine Wp.ret (hq _ M1.tch ?_)
   rw [← hr]
   exact dead_false rfl hd _
  | false =>
   repeat (first | ((with_reducible refine Wp.lettw ?_ ?_ ?_); omega; omega) | ((with_reducible refine Wp.iff ?_ ?_); (with_reducible rfl)))
   rw [el]
   exact match_loop hT hN hn hl kn hnb hk hq m f (i + 1) _ h1 (by omega) (by omega) (step_small hN _ _) hr M1
theorem match_r {s : Bytes} (hT : HasTz h) (hN : NtOk N) (hn : 18446744073709551616 < n) (hl : s.length < 1000000000) (kn : RowH h nb TNet (netC N)) (hnb : nb < h.next) : ∃ h', world n (d + 4) 14 [.ptr nb 0, strA s] h = some (.ret (.bool (matchN N s)), h') ∧ Tch [] h h' := by
 apply Wp.ex
 rw [w_nfa_Net_Match]
 unfold nfa_Net_Match
 have Mx := Mem.nil [] h
 repeat (first | ((with_reducible apply Wp.obind); (with_reducible exact avBool_bool _)) | ((with_reducible apply Wp.sa0 Mx); rfl; rfl; (rfl); intro _ Mz; clear Mx; have Mx := Mz; clear Mz) | ((with_reducible apply Wp.mnew Mx); intro _ Mz; clear Mx; have Mx := Mz; clear Mz) | (with_reducible refine Wp.join0 (fun _ _ => ?_)) | ((with_reducible apply Wp.obind); (with_reducible exact bldRun _ _)) | ((with_reducible refine Wp.iff ?_ ?_); (with_reducible rfl)) | ((with_reducible apply Wp.outK); (with_reducible exact eqNet _ _ _)) | rw [newP_eq])
 rename_i k17 ek17
 refine match_loop (h0 := h) hT hN hn hl kn hnb (fun st H hs M hd => ?_) (fun H t e => ⟨by rw [e], t⟩) s.length n 0 (false, 0) _ (by omega) (by omega) (show 0 < _ by decide) (by rw [List.drop_zero]; rfl) Mx
 rw [ek17]
 have e2 := done_w (n := n) (d := d + 1) hN hs M.at0.1 (kn.tch M.tch hnb (by simp))
 refine Wp.callN e2 ?_
 (((with_reducible apply Wp.obind); (with_reducible exact avBool_bool _)))
 exact Wp.ret ⟨by rw [hd], M.tch⟩
set_option maxRecDepth 100000 in
theorem nilNet (h : AHeap) : opBin Tryd.prog h .eql 25 true (some AV.nilp) (some AV.nilp) = some (.val (.bool true), h) := by kernel_rfl
section
variable {u : Bytes}
theorem tree_long {u : Bytes} (l : 64 < u.length) {kind : Int} (hk : kind = 1 ∨ kind = 2 ∨ kind = 3) {n D : Nat} {h : AHeap} : world n (D + 1) 24 [.agg [.int .i64 kind, strA u]] h = some (.ret (.tup [.agg (nodeC 0 zeroW .nsl), .agg [.int .i64 3, .int .i64 64]]), h) := by
 rcases hk with rfl | rfl | rfl
 ·apply Wp.eq
  rw [w_pattern_Tree]
  refine Wp.gc ?_
  suffices hK : Wp (pattern_Tree (world n D) n [.int .i64 1, strA u] h) fun r h' => r = .ret (.tup [.agg (nodeC 0 zeroW .nsl), .agg [.int .i64 3, .int .i64 64]]) ∧ Tch [] h h' from hK.mono fun r h' ⟨e, t⟩ => ⟨t.above, by rw [e]; rfl, e, rfl⟩
  unfold pattern_Tree
  have ll := lenS_nat u
  have Mx := Mem.nil [] h
  repeat (first | ((with_reducible apply Wp.obind); (with_reducible first | exact avInt_int _ _ | exact avStr_str _ | exact fldP_ptr _ _ _)) | ((with_reducible apply Wp.lr0 Mx); rfl) | ((with_reducible apply Wp.sa0 Mx); rfl; rfl; (rfl); intro _ Mz; clear Mx; have Mx := Mz; clear Mz) | ((with_reducible apply Wp.lr1 Mx); rfl) | ((with_reducible apply Wp.sa1 Mx); rfl; rfl; (rfl); intro _ Mz; clear Mx; have Mx := Mz; clear Mz) | ((with_reducible apply Wp.ld2 Mx); rfl) | ((with_reducible apply Wp.mnew Mx); intro _ Mz; clear Mx; have Mx := Mz; clear Mz) | ((with_reducible apply Wp.mbox Mx); (rfl); intro _ Mz; clear Mx; have Mx := Mz; clear Mz) | (with_reducible refine Wp.join1 (fun _ _ => ?_)) | (with_reducible refine Wp.lett ?_) | ((with_reducible refine Wp.ift ?_ ?_); ((with_reducible first | apply decide_eq_true | apply bne_t); omega)) | ((with_reducible refine Wp.iff ?_ ?_); first | (with_reducible rfl) | ((with_reducible apply bne_f); omega)) | (with_reducible refine Wp.go1 (by assumption) ?_) | rw [newP_eq])
  exact Wp.ret ⟨rfl, Mx.tch⟩
 ·apply Wp.eq
  rw [w_pattern_Tree]
  refine Wp.gc ?_
  suffices hK : Wp (pattern_Tree (world n D) n [.int .i64 2, strA u] h) fun r h' => r = .ret (.tup [.agg (nodeC 0 zeroW .nsl), .agg [.int .i64 3, .int .i64 64]]) ∧ Tch [] h h' from hK.mono fun r h' ⟨e, t⟩ => ⟨t.above, by rw [e]; rfl, e, rfl⟩
  unfold pattern_Tree
  have ll := lenS_nat u
  have Mx := Mem.nil [] h
  repeat (first | ((with_reducible apply Wp.obind); (with_reducible first | exact avInt_int _ _ | exact avStr_str _ | exact fldP_ptr _ _ _)) | ((with_reducible apply Wp.lr0 Mx); rfl) | ((with_reducible apply Wp.sa0 Mx); rfl; rfl; (rfl); intro _ Mz; clear Mx; have Mx := Mz; clear Mz) | ((with_reducible apply Wp.lr1 Mx); rfl) | ((with_reducible apply Wp.sa1 Mx); rfl; rfl; (rfl); intro _ Mz; clear Mx; have Mx := Mz; clear Mz) | ((with_reducible apply Wp.ld2 Mx); rfl) | ((with_reducible apply Wp.mnew Mx); intro _ Mz; clear Mx; have Mx := Mz; clear Mz) | ((with_reducible apply Wp.mbox Mx); (rfl); intro _ Mz; clear Mx; have Mx := Mz; clear Mz) | (with_reducible refine Wp.join1 (fun _ _ => ?_)) | (with_reducible refine Wp.lett ?_) | ((with_reducible refine Wp.ift ?_ ?_); ((with_reducible first | apply decide_eq_true | apply bne_t); omega)) | ((with_reducible refine Wp.iff ?_ ?_); first | (with_reducible rfl) | ((with_reducible apply bne_f); omega)) | (with_reducible refine Wp.go1 (by assumption) ?_) | rw [newP_eq])
  exact Wp.ret ⟨rfl, Mx.tch⟩
 ·apply Wp.eq
  rw [w_pattern_Tree]
  refine Wp.gc ?_
  suffices hK : Wp (pattern_Tree (world n D) n [.int .i64 3, strA u] h) fun r h' => r = .ret (.tup [.agg (nodeC 0 zeroW .nsl), .agg [.int .i64 3, .int .i64 64]]) ∧ Tch [] h h' from hK.mono fun r h' ⟨e, t⟩ => ⟨t.above, by rw [e]; rfl, e, rfl⟩
  unfold pattern_Tree
  have ll := lenS_nat u
  have Mx := Mem.nil [] h
  repeat (first | ((with_reducible apply Wp.obind); (with_reducible first | exact avInt_int _ _ | exact avStr_str _ | exact fldP_ptr _ _ _)) | ((with_reducible apply Wp.lr0 Mx); rfl) | ((with_reducible apply Wp.sa0 Mx); rfl; rfl; (rfl); intro _ Mz; clear Mx; have Mx := Mz; clear Mz) | ((with_reducible apply Wp.lr1 Mx); rfl) | ((with_reducible apply Wp.sa1 Mx); rfl; rfl; (rfl); intro _ Mz; clear Mx; have Mx := Mz; clear Mz) | ((with_reducible apply Wp.ld2 Mx); rfl) | ((with_reducible apply Wp.mnew Mx); intro _ Mz; clear Mx; have Mx := Mz; clear Mz) | ((with_reducible apply Wp.mbox Mx); (rfl); intro _ Mz; clear Mx; have Mx := Mz; clear Mz) | (with_reducible refine Wp.join1 (fun _ _ => ?_)) | (with_reducible refine Wp.lett ?_) | ((with_reducible refine Wp.ift ?_ ?_); ((with_reducible first | apply decide_eq_true | apply bne_t); omega)) | ((with_reducible refine Wp.iff ?_ ?_); ((with_reducible apply bne_f); omega)) | (with_reducible refine Wp.go1 (by assumption) ?_) | rw [newP_eq])
  exact Wp.ret ⟨rfl, Mx.tch⟩
end
theorem of_all (k : Int) (u : Bytes) {n d : Nat} (hn : 18446744073709551620 < n) (hd : 1000 ≤ d) : (∀ h : AHeap, memB TNode h.ex = false → world n (d + 1) 12 [.agg [.int .i64 k, strA u]] h = some (.ret (.tup [.nilp, .int .i64 2]), h)) ∨
  ∃ t, TreeP u k (.ok t) ∧ u.length ≤ 64 ∧ ∀ h : AHeap, memB TNode h.ex = false → ∃ nb h', world n (d + 1) 12 [.agg [.int .i64 k, strA u]] h = some (.ret (.tup [.ptr nb 0, .int .i64 0]), h') ∧ Abs.Mem [] h h' [(nb, TNet, netC (netOf t))] := by
 obtain ⟨D, rfl⟩ : ∃ D, d = D + 3 := ⟨d - 3, by omega⟩
 by_cases hk : k = 1 ∨ k = 2 ∨ k = 3
 ·by_cases hl : 64 < u.length
  ·exact .inl fun h hx => of_bad (e1 := 3) (q := 64) (by decide) (fun h hx => tree_long hl hk) hx
  ·obtain ⟨r, r1, _, r3⟩ := (tree_kinds (u := u) (by omega) hk).2 (by omega)
   cases r with
   | error q => exact .inl fun h hx => of_bad (e1 := 6) (q := (q : Int)) (by decide) (fun h hx => r3 (by omega) (by omega) hx) hx
   | ok t =>
    have hz := treeP_small r1
    exact .inr ⟨t, r1, by omega, fun h hx => of_ok (treeP_oneK r1) (by omega) (by omega) hn (fun h hx => r3 (by omega) (by omega) hx) hx⟩
 ·exact .inl fun h hx => of_bad (e1 := 2) (q := 0) (by decide) (fun h hx => tree_kind hk) hx
end
theorem tz_pow_all : (List.range 64).all (fun k => Nat.beq (tzT.getD (2 ^ k * 285870213051353865 % 18446744073709551616 / 288230376151711744) 0) k) = true := by kernel_rfl
theorem low_ex : ∀ (f m : Nat), m < f → m ≠ 0 → ∃ k q, m = 2 ^ k * (2 * q + 1)
 | 0, _, h, _ => by omega
 | f + 1, m, h, h0 => by
  rcases Nat.mod_two_eq_zero_or_one m with e | e
  ·obtain ⟨k, q, hk⟩ := low_ex f (m / 2) (by omega) (by omega)
   refine ⟨k + 1, q, ?_⟩
   rw [Nat.pow_succ, Nat.mul_right_comm, ← hk]
   omega
  ·exact ⟨0, m / 2, by omega⟩
theorem and_compl {j q : Nat} (hq : q < 2 ^ j) : q &&& (2 ^ j - (q + 1)) = 0 := by
 refine Nat.eq_of_testBit_eq fun i => ?_
 rw [Nat.testBit_and, Nat.testBit_two_pow_sub_succ hq, Nat.zero_testBit]
 cases q.testBit i <;> simp
theorem odd_and (a b : Nat) (h : a &&& b = 0) : (2 * a + 1) &&& (2 * b + 1) = 1 := by
 refine Nat.eq_of_testBit_eq fun i => ?_
 rw [Nat.testBit_and]
 cases i with
 | zero => simp [Nat.testBit_zero, Nat.add_mod]
 | succ i =>
  have e := congrArg (fun x => x.testBit i) h
  rw [Nat.testBit_and, Nat.zero_testBit] at e
  rw [Nat.testBit_succ, Nat.testBit_succ, Nat.testBit_succ, show (2 * a + 1) / 2 = a by omega, show (2 * b + 1) / 2 = b by omega, e]
  simp
theorem low_and {m k q : Nat} (hm : m = 2 ^ k * (2 * q + 1)) (hb : m < 18446744073709551616) : k < 64 ∧ m &&& (18446744073709551616 - m) % 18446744073709551616 = 2 ^ k := by
  have hp : 0 < 2 ^ k := Nat.pow_pos (by decide)
  have hk : k < 64 := by
    apply Nat.lt_of_not_le
    intro hk
    have h1 := Nat.pow_le_pow_right (n := 2) (by decide) hk
    have h2 : 2 ^ k * 1 ≤ 2 ^ k * (2 * q + 1) := Nat.mul_le_mul_left _ (by omega)
    omega
  refine ⟨hk, ?_⟩
  obtain ⟨j, hj⟩ : ∃ j, 63 = k + j := ⟨63 - k, by omega⟩
  have h64 : 18446744073709551616 = 2 ^ k * (2 * 2 ^ j) := by
    rw [← Nat.mul_assoc, Nat.mul_comm (2 ^ k) 2, Nat.mul_assoc, ← Nat.pow_add, ← hj]
  have hq : q < 2 ^ j := by
    have h3 : 2 ^ k * (2 * q + 1) < 2 ^ k * (2 * 2 ^ j) := by rw [← hm, ← h64]; exact hb
    have := Nat.lt_of_mul_lt_mul_left h3
    omega
  have h5 : (18446744073709551616 - m) % 18446744073709551616 = 2 ^ k * (2 * (2 ^ j - (q + 1)) + 1) := by
    rw [Nat.mod_eq_of_lt (by have : 0 < m := by rw [hm]; exact Nat.mul_pos hp (by omega)
                             omega), h64, hm, ← Nat.mul_sub]
    congr 1
    omega
  rw [h5, hm]
  have h6 := odd_and _ _ (and_compl hq)
  rw [Nat.mul_comm, Nat.mul_comm (2 ^ k) (2 * (2 ^ j - (q + 1)) + 1), ← Nat.shiftLeft_eq, ← Nat.shiftLeft_eq, ← Nat.shiftLeft_and_distrib, h6, Nat.shiftLeft_eq, Nat.one_mul]
theorem tz_low {m k q : Nat} (hm : m = 2 ^ k * (2 * q + 1)) (hb : m < 18446744073709551616) : tzN m = k := by
 obtain ⟨hk, h⟩ := low_and hm hb
 have := List.all_eq_true.1 tz_pow_all k (List.mem_range.2 hk)
 unfold tzN tzI
 rw [h]
 exact Nat.eq_of_beq_eq_true this
theorem low_bits {m k q : Nat} (hm : m = 2 ^ k * (2 * q + 1)) : m.testBit k = true ∧ ∀ i, (m &&& (m - 1)).testBit i = (m.testBit i && !decide (i = k)) := by
 have hp : 0 < 2 ^ k := Nat.pow_pos (by decide)
 have d1 : m / 2 ^ k = 2 * q + 1 := by rw [hm, Nat.mul_div_cancel_left _ hp]
 have d2 : (m - 1) / 2 ^ k = 2 * q := by
  have := Nat.mul_sub_div 0 (2 ^ k) (2 * q + 1) (Nat.mul_pos hp (by omega))
  rw [Nat.zero_add, Nat.zero_div, ← hm] at this
  rw [this]
  omega
 have hk : m.testBit k = true := by
  rw [Nat.testBit_eq_decide_div_mod_eq, d1]
  exact decide_eq_true (by omega)
 refine ⟨hk, fun i => ?_⟩
 rw [Nat.testBit_and]
 rcases Nat.lt_trichotomy i k with h | h | h
 ·have : m.testBit i = false := by
   obtain ⟨j, hj⟩ : ∃ j, k = i + (j + 1) := ⟨k - i - 1, by omega⟩
   rw [Nat.testBit_eq_decide_div_mod_eq, hm, hj, Nat.pow_add, Nat.mul_assoc, Nat.mul_div_cancel_left _ (Nat.pow_pos (by decide)), Nat.pow_succ, Nat.mul_comm (2 ^ j) 2, Nat.mul_assoc]
   exact decide_eq_false (by omega)
  rw [this, Bool.false_and, Bool.false_and]
 ·subst h
  have : (m - 1).testBit i = false := by
   rw [Nat.testBit_eq_decide_div_mod_eq, d2]
   exact decide_eq_false (by omega)
  rw [this, decide_eq_true rfl]
  simp
 ·obtain ⟨j, hj⟩ : ∃ j, i = k + (j + 1) := ⟨i - k - 1, by omega⟩
  have e : ∀ x : Nat, x / 2 ^ i = x / 2 ^ k / 2 / 2 ^ j := fun x => by rw [hj, Nat.pow_add, Nat.pow_succ, Nat.mul_comm (2 ^ j) 2, ← Nat.mul_assoc, ← Nat.div_div_eq_div_mul, ← Nat.div_div_eq_div_mul]
  have : (m - 1).testBit i = m.testBit i := by
   rw [Nat.testBit_eq_decide_div_mod_eq, Nat.testBit_eq_decide_div_mod_eq, e, e, d1, d2, show (2 * q + 1) / 2 = 2 * q / 2 by omega]
  rw [this, decide_eq_false (by omega)]
  simp
theorem behF_bit (fo : List Nat) : ∀ (f m acc : Nat), m < f → m < 18446744073709551616 → ∀ r, (behF fo f m acc).testBit r = true ↔ acc.testBit r = true ∨ ∃ q, m.testBit q = true ∧ (fo.getD q 0).testBit r = true
 | 0, _, _, h, _, _ => by omega
 | f + 1, m, acc, hf, hm, r => by
  rw [behF]
  by_cases h0 : m = 0
  ·rw [if_pos h0, h0]
   refine ⟨.inl, fun h => ?_⟩
   rcases h with h | ⟨q, h, _⟩
   ·exact h
   ·rw [Nat.zero_testBit] at h
    cases h
  ·rw [if_neg h0]
   obtain ⟨k, q, hkq⟩ := low_ex (m + 1) m (by omega) h0
   have hl := low_lt h0
   obtain ⟨b1, b2⟩ := low_bits hkq
   rw [behF_bit fo f _ _ (by omega) (by omega) r, tz_low hkq hm, Nat.testBit_or, Bool.or_eq_true]
   constructor
   ·rintro ((h | h) | ⟨p, h, h2⟩)
    ·exact .inl h
    ·exact .inr ⟨k, b1, h⟩
    ·rw [b2, Bool.and_eq_true] at h
     exact .inr ⟨p, h.1, h2⟩
   ·rintro (h | ⟨p, h, h2⟩)
    ·exact .inl (.inl h)
    ·by_cases hp : p = k
     ·subst hp
      exact .inl (.inr h2)
     ·refine .inr ⟨p, ?_, h2⟩
      rw [b2, h, decide_eq_false hp]
      rfl
theorem behind_bit {N : Nt} {m : Nat} (hm : m < 18446744073709551616) (r : Nat) : (N.behind m).testBit r = true ↔ ∃ q, m.testBit q = true ∧ (N.fo.getD q 0).testBit r = true := by
 unfold Nt.behind
 rw [behF_bit N.fo _ m 0 (by omega) hm r, Nat.zero_testBit]
 simp
structure Frag where
 e : Bool
 F : Nat → Prop
 L : Nat → Prop
 E : Nat → Nat → Prop
 K : Nat → Nat → Prop
inductive Walk (a : Frag) : Nat → List Nat → Nat → Prop
 | nil {q : Nat} : Walk a q [] q
 | cons {q r q' c : Nat} {s : List Nat} (e : a.E q r) (k : a.K r c) (w : Walk a r s q') : Walk a q (c :: s) q'
def Fits1 (a : Frag) : List Nat → Prop
 | [] => False
 | c :: s => ∃ q q', a.F q ∧ a.K q c ∧ a.L q' ∧ Walk a q s q'
structure Rec (a : Frag) (P : List Nat → Prop) (lo hi : Nat) : Prop where
 e : a.e = true ↔ P []
 f : ∀ {c : Nat} {s : List Nat}, Fits1 a (c :: s) ↔ P (c :: s)
 le : lo ≤ hi
 F : ∀ {q}, a.F q → lo ≤ q ∧ q < hi
 L : ∀ {q}, a.L q → lo ≤ q ∧ q < hi
 E : ∀ {q r}, a.E q r → (lo ≤ q ∧ q < hi) ∧ lo ≤ r ∧ r < hi
 K : ∀ {q c}, a.K q c → lo ≤ q ∧ q < hi
theorem Walk.mono {a b : Frag} (hE : ∀ {q r}, a.E q r → b.E q r) (hK : ∀ {q c}, a.K q c → b.K q c) {q q' : Nat} {s : List Nat} (w : Walk a q s q') : Walk b q s q' := by
 induction w with
 | nil => exact .nil
 | cons e k _ ih => exact .cons (hE e) (hK k) ih
theorem Walk.app {a : Frag} {q r q' : Nat} {s t : List Nat} (w : Walk a q s r) (v : Walk a r t q') : Walk a q (s ++ t) q' := by
 induction w with
 | nil => exact v
 | cons e k _ ih => exact .cons e k (ih v)
def noF : Frag := ⟨true, fun _ => False, fun _ => False, fun _ _ => False, fun _ _ => False⟩
def badF : Frag := ⟨false, fun _ => False, fun _ => False, fun _ _ => False, fun _ _ => False⟩
def setF (w : List Nat) (u : Nat) : Frag := ⟨false, fun q => q = u, fun q => q = u, fun _ _ => False, fun q c => q = u ∧ inW w c = true⟩
def catF (a b : Frag) : Frag := ⟨a.e && b.e, fun q => a.F q ∨ (a.e = true ∧ b.F q), fun q => b.L q ∨ (b.e = true ∧ a.L q), fun q r => a.E q r ∨ b.E q r ∨ (a.L q ∧ b.F r), fun q c => a.K q c ∨ b.K q c⟩
def altF (a b : Frag) : Frag := ⟨a.e || b.e, fun q => a.F q ∨ b.F q, fun q => a.L q ∨ b.L q, fun q r => a.E q r ∨ b.E q r, fun q c => a.K q c ∨ b.K q c⟩
def moreF (a : Frag) (e : Bool) : Frag := ⟨e, a.F, a.L, fun q r => a.E q r ∨ (a.L q ∧ a.F r), a.K⟩
def optF (a : Frag) : Frag := ⟨true, a.F, a.L, a.E, a.K⟩
inductive Plus (P : List Nat → Prop) : List Nat → Prop
 | one {s : List Nat} (h : P s) : Plus P s
 | more {s t : List Nat} (h : P s) (m : Plus P t) : Plus P (s ++ t)
def Cat (P Q : List Nat → Prop) (s : List Nat) : Prop := ∃ s1 s2, s = s1 ++ s2 ∧ P s1 ∧ Q s2
section
variable {a b : Frag} {P Q : List Nat → Prop} {lo mid hi u : Nat} {w : List Nat}
theorem noF_rec (u : Nat) : Rec noF (fun s => s = []) u u := by
 refine ⟨⟨fun _ => rfl, fun _ => rfl⟩, ⟨fun h => ?_, fun h => ?_⟩, Nat.le_refl _, fun h => False.elim h, fun h => False.elim h, fun h => False.elim h, fun h => False.elim h⟩
 ·obtain ⟨_, _, h, _⟩ := h
  exact False.elim h
 ·cases h
theorem badF_rec (u : Nat) : Rec badF (fun _ => False) u u := by
 refine ⟨⟨fun h => ?_, fun h => False.elim h⟩, ⟨fun h => ?_, fun h => False.elim h⟩, Nat.le_refl _, fun h => False.elim h, fun h => False.elim h, fun h => False.elim h, fun h => False.elim h⟩
 ·cases h
 ·obtain ⟨_, _, h, _⟩ := h
  exact False.elim h
theorem setF_rec : Rec (setF w u) (fun s => ∃ c, s = [c] ∧ inW w c = true) u (u + 1) := by
 refine ⟨⟨fun h => ?_, fun h => ?_⟩, ⟨?_, ?_⟩, by omega, fun h => ?_, fun h => ?_, fun h => False.elim h, fun h => ?_⟩
 ·cases h
 ·obtain ⟨_, h, _⟩ := h
  cases h
 ·rintro ⟨q, q', _, k, _, v⟩
  cases v with
  | nil => exact ⟨_, rfl, k.2⟩
  | cons e _ _ => exact False.elim e
 ·rintro ⟨c, h, k⟩
  cases h
  exact ⟨u, u, rfl, ⟨rfl, k⟩, rfl, .nil⟩
 ·have : _ = u := h
  omega
 ·have : _ = u := h
  omega
 ·have := h.1
  omega
theorem opt_rec (h : Rec a P lo hi) : Rec (optF a) (fun s => s = [] ∨ P s) lo hi := by
 refine ⟨⟨fun _ => .inl rfl, fun _ => rfl⟩, ⟨fun ⟨q, q', h1, h2, h3, v⟩ => .inr (h.f.1 ⟨q, q', h1, h2, h3, Walk.mono (a := optF a) (b := a) (fun h => h) (fun h => h) v⟩), fun hp => ?_⟩, h.le, h.F, h.L, h.E, h.K⟩
 rcases hp with hp | hp
 ·cases hp
 ·obtain ⟨q, q', h1, h2, h3, v⟩ := h.f.2 hp
  exact ⟨q, q', h1, h2, h3, Walk.mono (a := a) (b := optF a) (fun h => h) (fun h => h) v⟩
theorem Walk.left (ha : Rec a P lo mid) (hb : Rec b Q mid hi) {X : Nat → Nat → Prop} {f : Frag} (hE : ∀ {q r}, f.E q r → a.E q r ∨ b.E q r ∨ X q r) (hX : ∀ {q r}, X q r → r < mid → False) (hK : ∀ {q c}, f.K q c → a.K q c ∨ b.K q c) {q q' : Nat} {s : List Nat} (v : Walk f q s q') :
  q < mid → q' < mid → Walk a q s q' := by
 have back : ∀ {q q' : Nat} {s : List Nat}, Walk f q s q' → mid ≤ q → (∀ {q r}, X q r → mid ≤ r) → mid ≤ q' := by
  intro q q' s v
  induction v with
  | nil => exact fun h _ => h
  | cons e k _ ih =>
   intro hq hx
   rcases hE e with h | h | h
   ·have := (ha.E h).1
    omega
   ·exact ih (hb.E h).2.1 hx
   ·exact ih (hx h) hx
 have hx2 : ∀ {q r}, X q r → mid ≤ r := fun h => Nat.le_of_not_lt fun h2 => hX h h2
 induction v with
 | nil => exact fun _ _ => .nil
 | cons e k w ih =>
  intro h1 h2
  rcases hE e with h | h | h
  ·refine .cons h ?_ (ih (ha.E h).2.2 h2)
   rcases hK k with k | k
   ·exact k
   ·have := hb.K k
    have := (ha.E h).2
    omega
  ·have := (hb.E h).1
   omega
  ·have := back w (hx2 h) hx2
   omega
theorem Walk.right (ha : Rec a P lo mid) (hb : Rec b Q mid hi) {X : Nat → Nat → Prop} {f : Frag} (hE : ∀ {q r}, f.E q r → a.E q r ∨ b.E q r ∨ X q r) (hX : ∀ {q r}, X q r → q < mid) (hK : ∀ {q c}, f.K q c → a.K q c ∨ b.K q c) {q q' : Nat} {s : List Nat} (v : Walk f q s q') :
  mid ≤ q → Walk b q s q' ∧ mid ≤ q' := by
 induction v with
 | nil => exact fun h => ⟨.nil, h⟩
 | cons e k w ih =>
  intro h1
  rcases hE e with h | h | h
  ·have := (ha.E h).1
   omega
  ·obtain ⟨i1, i2⟩ := ih (hb.E h).2.1
   refine ⟨.cons h ?_ i1, i2⟩
   rcases hK k with k | k
   ·have := ha.K k
    have := (hb.E h).2
    omega
   ·exact k
  ·have := hX h
   omega
theorem alt_rec (ha : Rec a P lo mid) (hb : Rec b Q mid hi) : Rec (altF a b) (fun s => P s ∨ Q s) lo hi := by
 have l1 := ha.le
 have l2 := hb.le
 refine ⟨?_, ⟨?_, ?_⟩, by omega, fun h => ?_, fun h => ?_, fun h => ?_, fun h => ?_⟩
 ·show (a.e || b.e) = true ↔ _
  rw [Bool.or_eq_true, ha.e, hb.e]
 ·rintro ⟨q, q', h1, h2, h3, v⟩
  rcases h1 with h1 | h1
  ·have hq := ha.F h1
   have hq' : q' < mid := by
    rcases h3 with h3 | h3
    ·exact (ha.L h3).2
    ·apply Nat.lt_of_not_le
     intro hh
     have : ∀ {q q' : Nat} {s : List Nat}, Walk (altF a b) q s q' → q < mid → q' < mid := by
      intro q q' s v
      induction v with
      | nil => exact fun h => h
      | cons e k w ih =>
       intro h
       rcases e with e | e
       ·exact ih (ha.E e).2.2
       ·have := (hb.E e).1
        omega
     have := this v hq.2
     omega
   have v2 := Walk.left ha hb (X := fun _ _ => False) (f := altF a b) (fun e => Or.elim e Or.inl fun e => Or.inr (Or.inl e)) (fun h _ => False.elim h) (fun k => k) v hq.2 hq'
   refine .inl (ha.f.1 ⟨q, q', h1, ?_, ?_, v2⟩)
   ·rcases h2 with h2 | h2
    ·exact h2
    ·have := hb.K h2
     omega
   ·rcases h3 with h3 | h3
    ·exact h3
    ·have := hb.L h3
     omega
  ·have hq := hb.F h1
   obtain ⟨v2, hq'⟩ := Walk.right ha hb (X := fun _ _ => False) (f := altF a b) (fun e => Or.elim e Or.inl fun e => Or.inr (Or.inl e)) (fun h => False.elim h) (fun k => k) v hq.1
   refine .inr (hb.f.1 ⟨q, q', h1, ?_, ?_, v2⟩)
   ·rcases h2 with h2 | h2
    ·have := ha.K h2
     omega
    ·exact h2
   ·rcases h3 with h3 | h3
    ·have := ha.L h3
     omega
    ·exact h3
 ·rintro (h | h)
  ·obtain ⟨q, q', h1, h2, h3, v⟩ := ha.f.2 h
   exact ⟨q, q', Or.inl h1, Or.inl h2, Or.inl h3, v.mono (b := altF a b) (fun h => Or.inl h) (fun h => Or.inl h)⟩
  ·obtain ⟨q, q', h1, h2, h3, v⟩ := hb.f.2 h
   exact ⟨q, q', Or.inr h1, Or.inr h2, Or.inr h3, v.mono (b := altF a b) (fun h => Or.inr h) (fun h => Or.inr h)⟩
 ·rcases h with h | h
  ·have := ha.F h
   omega
  ·have := hb.F h
   omega
 ·rcases h with h | h
  ·have := ha.L h
   omega
  ·have := hb.L h
   omega
 ·rcases h with h | h
  ·have := ha.E h
   omega
  ·have := hb.E h
   omega
 ·rcases h with h | h
  ·have := ha.K h
   omega
  ·have := hb.K h
   omega
end
section
variable {a b : Frag} {P Q : List Nat → Prop} {lo mid hi : Nat} {e0 : Bool}
theorem cat_split (ha : Rec a P lo mid) (hb : Rec b Q mid hi) {q q' : Nat} {s : List Nat} (v : Walk (catF a b) q s q') : q < mid → mid ≤ q' → ∃ s1 c s2 p r, s = s1 ++ c :: s2 ∧ Walk a q s1 p ∧ a.L p ∧ b.F r ∧ b.K r c ∧ Walk b r s2 q' := by
 induction v with
 | nil => intro h1 h2; omega
 | @cons q r q' c s e k w ih =>
  intro h1 h2
  have e' : a.E q r ∨ b.E q r ∨ (a.L q ∧ b.F r) := e
  have k' : a.K r c ∨ b.K r c := k
  rcases e' with e' | e' | ⟨e1, e2⟩
  ·obtain ⟨s1, c', s2, p, r', es, w1, hp, hr, hk, w2⟩ := ih (ha.E e').2.2 h2
   refine ⟨c :: s1, c', s2, p, r', by rw [es]; rfl, .cons e' ?_ w1, hp, hr, hk, w2⟩
   rcases k' with k' | k'
   ·exact k'
   ·have := hb.K k'
    have := (ha.E e').2
    omega
  ·have := (hb.E e').1
   omega
  ·have hr := hb.F e2
   refine ⟨[], c, s, q, r, rfl, .nil, e1, e2, ?_, (Walk.right ha hb (X := fun q r => a.L q ∧ b.F r) (f := catF a b) (fun e => e) (fun h => (ha.L h.1).2) (fun k => k) w hr.1).1⟩
   rcases k' with k' | k'
   ·have := ha.K k'
    omega
   ·exact k'
theorem cat_rec (ha : Rec a P lo mid) (hb : Rec b Q mid hi) : Rec (catF a b) (Cat P Q) lo hi := by
 have l1 := ha.le
 have l2 := hb.le
 refine ⟨?_, ⟨?_, ?_⟩, by omega, fun h => ?_, fun h => ?_, fun h => ?_, fun h => ?_⟩
 ·show (a.e && b.e) = true ↔ _
  rw [Bool.and_eq_true, ha.e, hb.e]
  constructor
  ·exact fun ⟨h1, h2⟩ => ⟨[], [], rfl, h1, h2⟩
  ·rintro ⟨s1, s2, e, h1, h2⟩
   obtain ⟨rfl, rfl⟩ := List.append_eq_nil_iff.1 e.symm
   exact ⟨h1, h2⟩
 ·rintro ⟨q, q', h1, h2, h3, v⟩
  rename_i c s
  have h1' : a.F q ∨ (a.e = true ∧ b.F q) := h1
  have h2' : a.K q c ∨ b.K q c := h2
  have h3' : b.L q' ∨ (b.e = true ∧ a.L q') := h3
  rcases h1' with h1' | ⟨he, h1'⟩
  ·have hq := ha.F h1'
   have hk : a.K q c := by
    rcases h2' with h | h
    ·exact h
    ·have := hb.K h
     omega
   rcases h3' with h3' | ⟨hbe, h3'⟩
   ·obtain ⟨s1, c', s2, p, r, es, w1, hp, hr, hk2, w2⟩ := cat_split ha hb v hq.2 (hb.L h3').1
    refine ⟨c :: s1, c' :: s2, by rw [es]; rfl, ha.f.1 ⟨q, p, h1', hk, hp, w1⟩, hb.f.1 ⟨r, q', hr, hk2, h3', w2⟩⟩
   ·have w := Walk.left ha hb (X := fun q r => a.L q ∧ b.F r) (f := catF a b) (fun e => e) (fun h h2 => by have := hb.F h.2; omega) (fun k => k) v hq.2 (ha.L h3').2
    exact ⟨c :: s, [], (List.append_nil _).symm, ha.f.1 ⟨q, q', h1', hk, h3', w⟩, hb.e.1 hbe⟩
  ·have hq := hb.F h1'
   obtain ⟨w, hq'⟩ := Walk.right ha hb (X := fun q r => a.L q ∧ b.F r) (f := catF a b) (fun e => e) (fun h => (ha.L h.1).2) (fun k => k) v hq.1
   have hk : b.K q c := by
    rcases h2' with h | h
    ·have := ha.K h
     omega
    ·exact h
   rcases h3' with h3' | ⟨_, h3'⟩
   ·exact ⟨[], c :: s, rfl, ha.e.1 he, hb.f.1 ⟨q, q', h1', hk, h3', w⟩⟩
   ·have := ha.L h3'
    omega
 ·rintro ⟨s1, s2, es, hp, hq⟩
  have mb : ∀ {q q' : Nat} {s : List Nat}, Walk b q s q' → Walk (catF a b) q s q' := fun w => Walk.mono (a := b) (b := catF a b) (fun h => Or.inr (Or.inl h)) (fun h => Or.inr h) w
  have ma : ∀ {q q' : Nat} {s : List Nat}, Walk a q s q' → Walk (catF a b) q s q' := fun w => Walk.mono (a := a) (b := catF a b) (fun h => Or.inl h) (fun h => Or.inl h) w
  cases s1 with
  | nil =>
   rw [List.nil_append] at es
   rw [← es] at hq
   obtain ⟨q, q', h1, h2, h3, v⟩ := hb.f.2 hq
   exact ⟨q, q', Or.inr ⟨ha.e.2 hp, h1⟩, Or.inr h2, Or.inl h3, mb v⟩
  | cons c1 s1 =>
   rw [List.cons_append, List.cons.injEq] at es
   obtain ⟨rfl, es⟩ := es
   obtain ⟨q, p, h1, h2, h3, v⟩ := ha.f.2 hp
   cases s2 with
   | nil =>
    rw [List.append_nil] at es
    subst es
    exact ⟨q, p, Or.inl h1, Or.inl h2, Or.inr ⟨hb.e.2 hq, h3⟩, ma v⟩
   | cons c2 s2 =>
    obtain ⟨r, q', g1, g2, g3, w⟩ := hb.f.2 hq
    subst es
    exact ⟨q, q', Or.inl h1, Or.inl h2, Or.inl g3, (ma v).app (Walk.cons (a := catF a b) (Or.inr (Or.inr ⟨h3, g1⟩)) (Or.inr g2) (mb w))⟩
 ·rcases h with h | ⟨_, h⟩
  ·have := ha.F h
   omega
  ·have := hb.F h
   omega
 ·rcases h with h | ⟨_, h⟩
  ·have := hb.L h
   omega
  ·have := ha.L h
   omega
 ·rcases h with h | h | ⟨h, g⟩
  ·have := ha.E h
   omega
  ·have := hb.E h
   omega
  ·have := ha.L h
   have := hb.F g
   omega
 ·rcases h with h | h
  ·have := ha.K h
   omega
  ·have := hb.K h
   omega
theorem plus_nil : Plus P [] ↔ P [] := by
 refine ⟨fun h => ?_, fun h => .one h⟩
 generalize hs : ([] : List Nat) = s at h
 induction h with
 | one h =>
  subst hs
  exact h
 | more h _ _ =>
  obtain ⟨e1, _⟩ := List.append_eq_nil_iff.1 hs.symm
  rw [e1] at h
  rw [← hs]
  exact h
theorem more_parts (ha : Rec a P lo hi) {q q' : Nat} {s : List Nat} (v : Walk (moreF a e0) q s q') : a.L q' → ∃ s1 s2 p, s = s1 ++ s2 ∧ Walk a q s1 p ∧ a.L p ∧ (s2 = [] ∨ Plus P s2) := by
 induction v with
 | nil => exact fun h => ⟨[], [], _, rfl, .nil, h, .inl rfl⟩
 | @cons q r q' c s e k w ih =>
  intro h
  obtain ⟨s1, s2, p, es, w1, hp, h2⟩ := ih h
  have e' : a.E q r ∨ (a.L q ∧ a.F r) := e
  rcases e' with e' | ⟨e1, e2⟩
  ·exact ⟨c :: s1, s2, p, by rw [es]; rfl, .cons e' k w1, hp, h2⟩
  ·have hP := ha.f.1 ⟨r, p, e2, k, hp, w1⟩
   refine ⟨[], c :: s, q, rfl, .nil, e1, .inr ?_⟩
   rw [es]
   rcases h2 with rfl | h2
   ·rw [List.append_nil]
    exact .one hP
   ·exact .more hP h2
theorem more_fits (ha : Rec a P lo hi) {c : Nat} {s : List Nat} : Fits1 (moreF a e0) (c :: s) ↔ Plus P (c :: s) := by
 have ma : ∀ {q q' : Nat} {s : List Nat}, Walk a q s q' → Walk (moreF a e0) q s q' := fun w => Walk.mono (a := a) (b := moreF a e0) (fun h => Or.inl h) (fun h => h) w
 constructor
 ·rintro ⟨q, q', h1, h2, h3, v⟩
  obtain ⟨s1, s2, p, es, w1, hp, h4⟩ := more_parts ha v h3
  have hP := ha.f.1 ⟨q, p, h1, h2, hp, w1⟩
  rw [es]
  rcases h4 with rfl | h4
  ·rw [List.append_nil]
   exact .one hP
  ·exact .more hP h4
 ·intro h
  generalize hs : c :: s = z at h
  induction h generalizing c s with
  | one h =>
   subst hs
   obtain ⟨q, q', h1, h2, h3, v⟩ := ha.f.2 h
   exact ⟨q, q', h1, h2, h3, ma v⟩
  | @more s1 t h m ih =>
   cases s1 with
   | nil => exact ih hs
   | cons c1 s1 =>
    rw [List.cons_append, List.cons.injEq] at hs
    obtain ⟨rfl, rfl⟩ := hs
    obtain ⟨q, p, h1, h2, h3, v⟩ := ha.f.2 h
    cases t with
    | nil =>
     rw [List.append_nil]
     exact ⟨q, p, h1, h2, h3, ma v⟩
    | cons c2 t =>
     obtain ⟨r, q', g1, g2, g3, w⟩ := ih rfl
     exact ⟨q, q', h1, h2, g3, (ma v).app (Walk.cons (a := moreF a e0) (Or.inr ⟨h3, g1⟩) g2 w)⟩
theorem more_rec (ha : Rec a P lo hi) {R : List Nat → Prop} (he : e0 = true ↔ R []) (hR : ∀ {c s}, R (c :: s) ↔ Plus P (c :: s)) : Rec (moreF a e0) R lo hi := by
 refine ⟨he, (more_fits ha).trans hR.symm, ha.le, ha.F, ha.L, fun h => ?_, ha.K⟩
 rcases h with h | ⟨h, g⟩
 ·exact ha.E h
 ·exact ⟨ha.L h, ha.F g⟩
end
mutual
def Lang : Nd → List Nat → Prop
 | .mk op w ks => if op = 2 then (fun s => ∃ c, s = [c] ∧ inW w c = true) else if op = 3 then LCat ks else if op = 4 then LAlt ks else if op = 5 then (fun s => s = [] ∨ Plus (LHead ks) s) else if op = 6 then Plus (LHead ks) else if op = 7 then (fun s => s = [] ∨ LHead ks s) else (fun s => s = [])
def LCat : List Nd → List Nat → Prop
 | [] => fun s => s = []
 | k :: ks => Cat (Lang k) (LCat ks)
def LAlt : List Nd → List Nat → Prop
 | [] => fun _ => False
 | k :: ks => fun s => Lang k s ∨ LAlt ks s
def LHead : List Nd → List Nat → Prop
 | [] => fun s => s = []
 | k :: _ => Lang k
end
mutual
def fragT : Nd → Nat → Frag × Nat
 | .mk op w ks, u => if op = 2 then (setF w u, u + 1) else if op = 3 then catG ks noF u else if op = 4 then altG ks badF u else if op = 5 then (moreF (headG ks u).1 true, (headG ks u).2) else if op = 6 then (moreF (headG ks u).1 (headG ks u).1.e, (headG ks u).2) else if op = 7 then (optF (headG ks u).1, (headG ks u).2) else (noF, u)
def catG : List Nd → Frag → Nat → Frag × Nat
 | [], a, u => (a, u)
 | k :: ks, a, u => catG ks (catF a (fragT k u).1) (fragT k u).2
def altG : List Nd → Frag → Nat → Frag × Nat
 | [], a, u => (a, u)
 | k :: ks, a, u => altG ks (altF a (fragT k u).1) (fragT k u).2
def headG : List Nd → Nat → Frag × Nat
 | [], u => (noF, u)
 | k :: _, u => fragT k u
end
theorem Rec.congr {a : Frag} {P Q : List Nat → Prop} {lo hi : Nat} (h : Rec a P lo hi) (hq : ∀ s, P s ↔ Q s) : Rec a Q lo hi :=
 ⟨h.e.trans (hq _), h.f.trans (hq _), h.le, h.F, h.L, h.E, h.K⟩
theorem cat_assoc {P Q R : List Nat → Prop} (s : List Nat) : Cat (Cat P Q) R s ↔ Cat P (Cat Q R) s := by
 constructor
 ·rintro ⟨_, s3, rfl, ⟨s1, s2, rfl, h1, h2⟩, h3⟩
  exact ⟨s1, s2 ++ s3, List.append_assoc _ _ _, h1, s2, s3, rfl, h2, h3⟩
 ·rintro ⟨s1, _, rfl, h1, s2, s3, rfl, h2, h3⟩
  exact ⟨s1 ++ s2, s3, (List.append_assoc _ _ _).symm, ⟨s1, s2, rfl, h1, h2⟩, h3⟩
theorem cat_nil_left {P : List Nat → Prop} (s : List Nat) : Cat (fun s => s = []) P s ↔ P s := by
 constructor
 ·rintro ⟨_, s2, rfl, rfl, h⟩
  exact h
 ·exact fun h => ⟨[], s, rfl, rfl, h⟩
theorem cat_nil_right {P : List Nat → Prop} (s : List Nat) : Cat P (fun s => s = []) s ↔ P s := by
 constructor
 ·rintro ⟨s1, _, rfl, h, rfl⟩
  rw [List.append_nil]
  exact h
 ·exact fun h => ⟨s, [], (List.append_nil _).symm, h, rfl⟩
mutual
theorem frag_rec : ∀ (t : Nd) (u : Nat), Rec (fragT t u).1 (Lang t) u (fragT t u).2
 | .mk op w ks, u => by
  rw [fragT, Lang]
  by_cases h2 : op = 2
  ·rw [if_pos h2, if_pos h2]
   exact setF_rec
  rw [if_neg h2, if_neg h2]
  by_cases h3 : op = 3
  ·rw [if_pos h3, if_pos h3]
   exact (catG_rec ks (noF_rec u)).congr cat_nil_left
  rw [if_neg h3, if_neg h3]
  by_cases h4 : op = 4
  ·rw [if_pos h4, if_pos h4]
   exact (altG_rec ks (badF_rec u)).congr fun s => ⟨fun h => h.elim (fun h => h.elim) (fun h => h), .inr⟩
  rw [if_neg h4, if_neg h4]
  have hh := headG_rec ks u
  by_cases h5 : op = 5
  ·rw [if_pos h5, if_pos h5]
   exact more_rec hh ⟨fun _ => .inl rfl, fun _ => rfl⟩ ⟨fun h => h.elim (fun h => nomatch h) (fun h => h), .inr⟩
  rw [if_neg h5, if_neg h5]
  by_cases h6 : op = 6
  ·rw [if_pos h6, if_pos h6]
   exact more_rec hh (hh.e.trans plus_nil.symm) .rfl
  rw [if_neg h6, if_neg h6]
  by_cases h7 : op = 7
  ·rw [if_pos h7, if_pos h7]
   exact opt_rec hh
  ·rw [if_neg h7, if_neg h7]
   exact noF_rec u
theorem catG_rec : ∀ (ks : List Nd) {a : Frag} {P : List Nat → Prop} {lo u : Nat}, Rec a P lo u → Rec (catG ks a u).1 (Cat P (LCat ks)) lo (catG ks a u).2
 | [], _, _, _, _, h => by
  rw [catG, LCat]
  exact h.congr fun s => (cat_nil_right s).symm
 | k :: ks, _, _, _, _, h => by
  rw [catG, LCat]
  exact (catG_rec ks (cat_rec h (frag_rec k _))).congr cat_assoc
theorem altG_rec : ∀ (ks : List Nd) {a : Frag} {P : List Nat → Prop} {lo u : Nat}, Rec a P lo u → Rec (altG ks a u).1 (fun s => P s ∨ LAlt ks s) lo (altG ks a u).2
 | [], _, _, _, _, h => by
  rw [altG, LAlt]
  exact h.congr fun s => ⟨.inl, fun h => h.elim (fun h => h) (fun h => h.elim)⟩
 | k :: ks, _, _, _, _, h => by
  rw [altG, LAlt]
  exact (altG_rec ks (alt_rec h (frag_rec k _))).congr fun s => or_assoc
theorem headG_rec : ∀ (ks : List Nd) (u : Nat), Rec (headG ks u).1 (LHead ks) u (headG ks u).2
 | [], u => by
  rw [headG, LHead]
  exact noF_rec u
 | k :: _, u => by
  rw [headG, LHead]
  exact frag_rec k u
end
def bitE (N : Nt) (q r : Nat) : Prop := (N.fo.getD q 0).testBit r = true
def bitK (N : Nt) (r c : Nat) : Prop := (N.ta.getD c 0).testBit r = true
structure Rep (p : Pc) (a : Frag) : Prop where
 e : p.empty = a.e
 F : ∀ q, p.first.testBit q = true ↔ a.F q
 L : ∀ q, p.last.testBit q = true ↔ a.L q
structure RepN (N N' : Nt) (a : Frag) : Prop where
 E : ∀ q r, bitE N' q r ↔ bitE N q r ∨ a.E q r
 K : ∀ r c, c < 256 → (bitK N' r c ↔ bitK N r c ∨ a.K r c)
theorem small_bit {x q : Nat} (h : x < 18446744073709551616) (hq : x.testBit q = true) : q < 64 := by
 apply Nat.lt_of_not_le
 intro hh
 have h1 := Nat.pow_le_pow_right (n := 2) (by decide) hh
 rw [Nat.testBit_lt_two_pow (by omega)] at hq
 cases hq
theorem mapI_getD (g : Nat → Nat → Nat) {l : List Nat} {q : Nat} (h : q < l.length) : (mapI g 0 l).getD q 0 = g q (l.getD q 0) := by
 rw [List.getD_eq_getElem?_getD, List.getD_eq_getElem?_getD, mapI_get, Nat.zero_add, List.getElem?_eq_getElem h]
 rfl
theorem getD_out {l : List Nat} {q : Nat} (h : l.length ≤ q) : l.getD q 0 = 0 := by
 rw [List.getD_eq_getElem?_getD, List.getElem?_eq_none h]
 rfl
theorem follow_bit {N : Nt} (k : NtOk N) {those these : Nat} (ht : those < 18446744073709551616) (q r : Nat) : bitE (N.follow those these) q r ↔ bitE N q r ∨ (those.testBit q = true ∧ these.testBit r = true) := by
 unfold bitE
 show ((mapI (folG those these) 0 N.fo).getD q 0).testBit r = true ↔ _
 by_cases hq : q < 64
 ·rw [mapI_getD _ (by rw [k.fl]; exact hq)]
  unfold folG
  by_cases hb : those.testBit q = true
  ·rw [if_pos hb, Nat.testBit_or, Bool.or_eq_true]
   simp [hb]
  ·rw [if_neg hb]
   simp [hb]
 ·rw [getD_out (by rw [mapI_len, k.fl]; omega), getD_out (by rw [k.fl]; omega), Nat.zero_testBit]
  constructor
  ·exact fun h => nomatch h
  ·rintro (h | ⟨h, _⟩)
   ·exact h
   ·exact absurd (small_bit ht h) hq
theorem place_bit {N : Nt} (k : NtOk N) {w : List Nat} {u : Nat} (hu : u < 64) (r c : Nat) (hc : c < 256) : bitK (N.place w (bitN u)) r c ↔ bitK N r c ∨ (r = u ∧ inW w c = true) := by
 unfold bitK
 show ((mapI (plG w (bitN u)) 0 N.ta).getD c 0).testBit r = true ↔ _
 rw [mapI_getD _ (by rw [k.tl]; exact hc)]
 unfold plG bitN
 rw [if_pos hu]
 by_cases hb : inW w c = true
 ·rw [if_pos hb, Nat.testBit_or, Bool.or_eq_true, Nat.testBit_two_pow, decide_eq_true_eq]
  simp only [hb, and_true]
  exact or_congr .rfl eq_comm
 ·rw [if_neg hb]
  simp [hb]
section
variable {N0 N N1 : Nt} {a b : Frag} {p q : Pc}
theorem RepN.refl (N : Nt) (e : Bool) : RepN N N ⟨e, fun _ => False, fun _ => False, fun _ _ => False, fun _ _ => False⟩ := ⟨fun _ _ => (or_false _).to_iff.symm, fun _ _ _ => (or_false _).to_iff.symm⟩
theorem RepN.cat (k : NtOk N1) (hp : PcOk p) (h1 : RepN N0 N a) (h2 : RepN N N1 b) (rp : Rep p a) (rq : Rep q b) : RepN N0 (N1.follow p.last q.first) (catF a b) := by
 refine ⟨fun x y => ?_, fun x c hc => ?_⟩
 ·rw [follow_bit k hp.l, h2.E, h1.E, rp.L, rq.F]
  show _ ↔ _ ∨ (a.E x y ∨ b.E x y ∨ (a.L x ∧ b.F y))
  rw [or_assoc, or_assoc]
 ·have : bitK (N1.follow p.last q.first) x c ↔ bitK N1 x c := .rfl
  rw [this, h2.K x c hc, h1.K x c hc]
  show _ ↔ _ ∨ (a.K x c ∨ b.K x c)
  rw [or_assoc]
theorem Rep.cat (rp : Rep p a) (rq : Rep q b) : Rep (behN p q) (catF a b) := by
 refine ⟨?_, fun x => ?_, fun x => ?_⟩
 ·show (p.empty && q.empty) = (a.e && b.e)
  rw [rp.e, rq.e]
 ·show (if p.empty = true then p.first ||| q.first else p.first).testBit x = true ↔ a.F x ∨ (a.e = true ∧ b.F x)
  rw [rp.e]
  by_cases h : a.e = true
  ·rw [if_pos h, Nat.testBit_or, Bool.or_eq_true, rp.F, rq.F]
   simp [h]
  ·rw [if_neg h, rp.F]
   simp [h]
 ·show (if q.empty = true then q.last ||| p.last else q.last).testBit x = true ↔ b.L x ∨ (b.e = true ∧ a.L x)
  rw [rq.e]
  by_cases h : b.e = true
  ·rw [if_pos h, Nat.testBit_or, Bool.or_eq_true, rp.L, rq.L]
   simp [h]
  ·rw [if_neg h, rq.L]
   simp [h]
theorem RepN.alt (h1 : RepN N0 N a) (h2 : RepN N N1 b) : RepN N0 N1 (altF a b) := by
 refine ⟨fun x y => ?_, fun x c hc => ?_⟩
 ·rw [h2.E, h1.E]
  show _ ↔ _ ∨ (a.E x y ∨ b.E x y)
  rw [or_assoc]
 ·rw [h2.K x c hc, h1.K x c hc]
  show _ ↔ _ ∨ (a.K x c ∨ b.K x c)
  rw [or_assoc]
theorem Rep.alt (rp : Rep p a) (rq : Rep q b) : Rep (altP p q) (altF a b) := by
 refine ⟨?_, fun x => ?_, fun x => ?_⟩
 ·show (p.empty || q.empty) = (a.e || b.e)
  rw [rp.e, rq.e]
 ·show (p.first ||| q.first).testBit x = true ↔ a.F x ∨ b.F x
  rw [Nat.testBit_or, Bool.or_eq_true, rp.F, rq.F]
 ·show (p.last ||| q.last).testBit x = true ↔ a.L x ∨ b.L x
  rw [Nat.testBit_or, Bool.or_eq_true, rp.L, rq.L]
theorem RepN.more (k : NtOk N) (hp : PcOk p) (h1 : RepN N0 N a) (rp : Rep p a) (e : Bool) : RepN N0 (N.follow p.last p.first) (moreF a e) := by
 refine ⟨fun x y => ?_, fun x c hc => h1.K x c hc⟩
 rw [follow_bit k hp.l, h1.E, rp.L, rp.F]
 show _ ↔ _ ∨ (a.E x y ∨ (a.L x ∧ a.F y))
 rw [or_assoc]
theorem rep_no (e : Bool) : Rep ⟨e, 0, 0⟩ ⟨e, fun _ => False, fun _ => False, fun _ _ => False, fun _ _ => False⟩ := ⟨rfl, fun q => by rw [Nat.zero_testBit]; simp, fun q => by rw [Nat.zero_testBit]; simp⟩
end
structure Reps (N0 : Nt) (x : Pc × Nt × Nat) (y : Frag × Nat) : Prop where
 p : Rep x.1 y.1
 n : RepN N0 x.2.1 y.1
 u : x.2.2 = y.2
mutual
theorem frag_le : ∀ (t : Nd) (u : Nat), u ≤ (fragT t u).2
 | t, u => (frag_rec t u).le
theorem catG_le : ∀ (ks : List Nd) (a : Frag) (u : Nat), u ≤ (catG ks a u).2
 | [], _, _ => Nat.le_refl _
 | k :: ks, _, u => Nat.le_trans (frag_le k u) (catG_le ks _ _)
theorem altG_le : ∀ (ks : List Nd) (a : Frag) (u : Nat), u ≤ (altG ks a u).2
 | [], _, _ => Nat.le_refl _
 | k :: ks, _, u => Nat.le_trans (frag_le k u) (altG_le ks _ _)
end
mutual
theorem piece_rep : ∀ (t : Nd) {N : Nt} {u : Nat}, NtOk N → (fragT t u).2 ≤ 64 → Reps N (pieceN t N u) (fragT t u)
 | .mk op w ks, N, u, k, h => by
  rw [fragT] at h
  rw [pieceN, fragT]
  by_cases h2 : op = 2
  ·rw [if_pos h2] at h
   rw [if_pos h2, if_pos h2]
   have hu : u < 64 := h
   refine ⟨⟨rfl, fun q => ?_, fun q => ?_⟩, ⟨fun q r => ?_, fun r c hc => place_bit k hu r c hc⟩, rfl⟩
   ·show (bitN u).testBit q = true ↔ q = u
    unfold bitN
    rw [if_pos hu, Nat.testBit_two_pow, decide_eq_true_eq]
    exact eq_comm
   ·show (bitN u).testBit q = true ↔ q = u
    unfold bitN
    rw [if_pos hu, Nat.testBit_two_pow, decide_eq_true_eq]
    exact eq_comm
   ·exact (or_false _).to_iff.symm
  rw [if_neg h2] at h
  rw [if_neg h2, if_neg h2]
  by_cases h3 : op = 3
  ·rw [if_pos h3] at h
   rw [if_pos h3, if_pos h3]
   exact catN_rep ks k noPc_ok (rep_no true) (RepN.refl N true) h
  rw [if_neg h3] at h
  rw [if_neg h3, if_neg h3]
  by_cases h4 : op = 4
  ·rw [if_pos h4] at h
   rw [if_pos h4, if_pos h4]
   exact altN_rep ks k (rep_no false) (RepN.refl N false) h
  rw [if_neg h4] at h
  rw [if_neg h4, if_neg h4]
  have hk := headN_ok ks (u := u) k
  by_cases h5 : op = 5
  ·subst h5
   rw [if_pos rfl] at h
   rw [if_pos (.inl rfl), if_pos rfl]
   have r := headN_rep ks k h
   refine ⟨⟨?_, r.p.F, r.p.L⟩, r.n.more hk.n hk.p r.p true, r.u⟩
   show ((headN ks N u).1.empty || true) = true
   rw [Bool.or_true]
  rw [if_neg h5] at h
  by_cases h6 : op = 6
  ·subst h6
   rw [if_pos rfl] at h
   rw [if_pos (.inr rfl), if_neg h5, if_pos rfl]
   have r := headN_rep ks k h
   refine ⟨⟨?_, r.p.F, r.p.L⟩, r.n.more hk.n hk.p r.p _, r.u⟩
   show ((headN ks N u).1.empty || false) = _
   rw [Bool.or_false]
   exact r.p.e
  rw [if_neg h6] at h
  rw [if_neg (fun hh => hh.elim h5 h6), if_neg h5, if_neg h6]
  by_cases h7 : op = 7
  ·rw [if_pos h7] at h
   rw [if_pos h7, if_pos h7]
   have r := headN_rep ks k h
   exact ⟨⟨rfl, r.p.F, r.p.L⟩, ⟨r.n.E, r.n.K⟩, r.u⟩
  ·rw [if_neg h7, if_neg h7]
   exact ⟨rep_no true, RepN.refl N true, rfl⟩
theorem catN_rep : ∀ (ks : List Nd) {N0 N : Nt} {p : Pc} {a : Frag} {u : Nat}, NtOk N → PcOk p → Rep p a → RepN N0 N a → (catG ks a u).2 ≤ 64 → Reps N0 (catN ks p N u) (catG ks a u)
 | [], _, _, _, _, _, _, _, rp, rn, _ => ⟨rp, rn, rfl⟩
 | k :: ks, N0, N, p, a, u, hN, hp, rp, rn, h => by
  rw [catG] at h
  rw [catN, catG]
  have r := piece_rep k hN (Nat.le_trans (catG_le ks _ _) h)
  have o := pieceN_ok k (u := u) hN
  have := catN_rep ks (N0 := N0) (u := (fragT k u).2) (o.n.follow (those := p.last) o.p.f) (behN_ok hp o.p) (rp.cat r.p) (RepN.cat o.n hp rn r.n rp r.p) h
  rw [r.u]
  exact this
theorem altN_rep : ∀ (ks : List Nd) {N0 N : Nt} {p : Pc} {a : Frag} {u : Nat}, NtOk N → Rep p a → RepN N0 N a → (altG ks a u).2 ≤ 64 → Reps N0 (altN ks p N u) (altG ks a u)
 | [], _, _, _, _, _, _, rp, rn, _ => ⟨rp, rn, rfl⟩
 | k :: ks, N0, N, p, a, u, hN, rp, rn, h => by
  rw [altG] at h
  rw [altN, altG]
  have r := piece_rep k hN (Nat.le_trans (altG_le ks _ _) h)
  have o := pieceN_ok k (u := u) hN
  have := altN_rep ks (N0 := N0) (u := (fragT k u).2) o.n (rp.alt r.p) (rn.alt r.n) h
  rw [r.u]
  exact this
theorem headN_rep : ∀ (ks : List Nd) {N : Nt} {u : Nat}, NtOk N → (headG ks u).2 ≤ 64 → Reps N (headN ks N u) (headG ks u)
 | [], N, _, _, _ => ⟨rep_no true, RepN.refl N true, rfl⟩
 | k :: _, _, _, hN, h => by
  rw [headG] at h
  rw [headN, headG]
  exact piece_rep k hN h
end
end Go.Proofs.YtakhljnkmbpmpaaDoor
namespace Go.Proofs.YtakhljnkmbpmpaaDoor
open Go.RowKit Abs
theorem and_ne {x y : Nat} : x &&& y ≠ 0 ↔ ∃ r, x.testBit r = true ∧ y.testBit r = true := by
 constructor
 ·intro h
  apply Classical.byContradiction
  intro hn
  refine h (Nat.eq_of_testBit_eq fun i => ?_)
  rw [Nat.zero_testBit, Nat.testBit_and]
  cases hx : x.testBit i with
  | false => rfl
  | true =>
   cases hy : y.testBit i with
   | false => rfl
   | true => exact absurd ⟨i, hx, hy⟩ hn
 ·rintro ⟨r, h1, h2⟩ h
  have := congrArg (fun z => z.testBit r) h
  rw [Nat.testBit_and, h1, h2, Nat.zero_testBit] at this
  cases this
theorem ahead_bit (fo : List Nat) (these q : Nat) : ∀ i, (aheadF fo these i).testBit q = true ↔ q < i ∧ ∃ r, (fo.getD q 0).testBit r = true ∧ these.testBit r = true
 | 0 => by
  rw [aheadF, Nat.zero_testBit]
  simp
 | i + 1 => by
  rw [aheadF]
  by_cases hz : fo.getD i 0 &&& these ≠ 0
  ·rw [if_pos hz, Nat.testBit_or, Bool.or_eq_true, ahead_bit fo these q i, Nat.testBit_two_pow, decide_eq_true_eq]
   constructor
   ·rintro (⟨h, h2⟩ | rfl)
    ·exact ⟨by omega, h2⟩
    ·exact ⟨by omega, and_ne.1 hz⟩
   ·rintro ⟨h, h2⟩
    by_cases hq : q = i
    ·exact .inr hq.symm
    ·exact .inl ⟨by omega, h2⟩
  ·rw [if_neg hz, ahead_bit fo these q i]
   constructor
   ·exact fun ⟨h, h2⟩ => ⟨by omega, h2⟩
   ·rintro ⟨h, h2⟩
    by_cases hq : q = i
    ·subst hq
     exact absurd (and_ne.2 h2) hz
    ·exact ⟨by omega, h2⟩
theorem orF_bit (ta : List Nat) (q : Nat) : ∀ i, (orF ta i).testBit q = true ↔ ∃ c, c < i ∧ (ta.getD c 0).testBit q = true
 | 0 => by
  rw [orF, Nat.zero_testBit]
  simp
 | i + 1 => by
  rw [orF, Nat.testBit_or, Bool.or_eq_true, orF_bit ta q i]
  constructor
  ·rintro (⟨c, h, h2⟩ | h)
   ·exact ⟨c, by omega, h2⟩
   ·exact ⟨i, by omega, h⟩
  ·rintro ⟨c, h, h2⟩
   by_cases hc : c = i
   ·subst hc
    exact .inr h2
   ·exact .inl ⟨c, by omega, h2⟩
theorem live_fix (fo : List Nat) (sm : Nat) : ∀ (f live more : Nat), (if more = 0 then 0 else 18446744073709551616 - live) < f → live < 18446744073709551616 → (more = 0 → moreN fo sm live = 0) → moreN fo sm (liveF fo sm f live more) = 0 ∧ ∀ q, live.testBit q = true → (liveF fo sm f live more).testBit q = true
 | 0, _, _, h, _, _ => by omega
 | f + 1, live, more, h, hl, h0 => by
  rw [liveF]
  by_cases hm : more = 0
  ·rw [if_pos hm]
   exact ⟨h0 hm, fun _ h => h⟩
  ·rw [if_neg hm] at h
   rw [if_neg hm]
   have hup : moreN fo sm live ≠ 0 → live < live ||| moreN fo sm live := more_up
   have hs := or_small hl (moreN_small fo sm live)
   obtain ⟨i1, i2⟩ := live_fix fo sm f (live ||| moreN fo sm live) (moreN fo sm live) (by
    split
    ·omega
    ·have := hup (by assumption)
     omega) hs (fun e => by rw [e, Nat.or_zero]; exact e)
   exact ⟨i1, fun q hq => i2 q (by rw [Nat.testBit_or, hq]; rfl)⟩
def netF (N : Nt) : Frag := ⟨N.empty, fun q => N.first.testBit q = true, fun q => N.last.testBit q = true, bitE N, bitK N⟩
def someB (N : Nt) (q : Nat) : Prop := ∃ c, c < 256 ∧ bitK N q c
section
variable {N : Nt} (k : NtOk N)
include k
theorem live_all : moreN N.fo (orF N.ta 256) N.live = 0 ∧ ∀ q, (N.last &&& orF N.ta 256).testBit q = true → N.live.testBit q = true := by
 refine live_fix N.fo (orF N.ta 256) 18446744073709551620 _ _ (by split <;> omega) (and_small k.l) fun e => ?_
 rw [e]
 refine Nat.eq_of_testBit_eq fun i => ?_
 rw [Nat.zero_testBit]
 cases hb : (moreN N.fo (orF N.ta 256) 0).testBit i with
 | false => rfl
 | true =>
  unfold moreN at hb
  rw [lack_bit, Nat.testBit_and, Bool.and_eq_true, Bool.and_eq_true, ahead_bit] at hb
  obtain ⟨⟨⟨_, r, _, h⟩, _⟩, _⟩ := hb
  rw [Nat.zero_testBit] at h
  cases h
theorem live_last {q : Nat} (h : N.last.testBit q = true) (hs : someB N q) : N.live.testBit q = true := by
 refine (live_all k).2 q ?_
 rw [Nat.testBit_and, h, (orF_bit N.ta q 256).2 hs]
 rfl
theorem live_back {q r : Nat} (h : bitE N q r) (hr : N.live.testBit r = true) (hs : someB N q) : N.live.testBit q = true := by
 have hq : q < 64 := by
  apply Nat.lt_of_not_le
  intro hh
  unfold bitE at h
  rw [getD_out (by rw [k.fl]; exact hh), Nat.zero_testBit] at h
  cases h
 cases hb : N.live.testBit q with
 | true => rfl
 | false =>
  have e := congrArg (fun z => z.testBit q) (live_all k).1
  unfold moreN at e
  rw [lack_bit, Nat.testBit_and, (ahead_bit _ _ _ _).2 ⟨hq, r, h, hr⟩, (orF_bit N.ta q 256).2 hs, hb, Nat.zero_testBit] at e
  cases e
theorem trim_K {q c : Nat} (hc : c < 256) : bitK N.trim q c ↔ bitK N q c ∧ N.live.testBit q = true := by
 unfold bitK
 show ((mapI (cutG N.live) 0 N.ta).getD c 0).testBit q = true ↔ _
 rw [mapI_getD _ (by rw [k.tl]; exact hc)]
 unfold cutG
 rw [Nat.testBit_and, Bool.and_eq_true]
theorem walk_live {q q' : Nat} {s : List Nat} (w : Walk (netF N) q s q') : (∀ c ∈ s, c < 256) → N.last.testBit q' = true → someB N q → N.live.testBit q = true ∧ Walk (netF N.trim) q s q' := by
 induction w with
 | nil => exact fun _ hl hs => ⟨live_last k hl hs, .nil⟩
 | @cons q r q' c s e kk w ih =>
  intro hc hl hs
  have h1 := hc c List.mem_cons_self
  obtain ⟨i1, i2⟩ := ih (fun c h => hc c (List.mem_cons_of_mem _ h)) hl ⟨c, h1, kk⟩
  exact ⟨live_back k e i1 hs, Walk.cons (a := netF N.trim) e ((trim_K k h1).2 ⟨kk, i1⟩) i2⟩
theorem walk_raw {q q' : Nat} {s : List Nat} (w : Walk (netF N.trim) q s q') : (∀ c ∈ s, c < 256) → Walk (netF N) q s q' := by
 induction w with
 | nil => exact fun _ => .nil
 | @cons q r q' c s e kk w ih => exact fun hc => Walk.cons (a := netF N) e ((trim_K k (hc c List.mem_cons_self)).1 kk).1 (ih fun c h => hc c (List.mem_cons_of_mem _ h))
theorem trim_fits {s : List Nat} (hc : ∀ c ∈ s, c < 256) : Fits1 (netF N.trim) s ↔ Fits1 (netF N) s := by
 cases s with
 | nil => exact .rfl
 | cons c s =>
  have h1 := hc c List.mem_cons_self
  have h2 := fun c h => hc c (List.mem_cons_of_mem _ h)
  constructor
  ·rintro ⟨q, q', g1, g2, g3, w⟩
   have g1' : (N.first &&& N.live).testBit q = true := g1
   rw [Nat.testBit_and, Bool.and_eq_true] at g1'
   exact ⟨q, q', g1'.1, ((trim_K k h1).1 g2).1, g3, walk_raw k w h2⟩
  ·rintro ⟨q, q', g1, g2, g3, w⟩
   obtain ⟨i1, i2⟩ := walk_live k w h2 g3 ⟨c, h1, g2⟩
   refine ⟨q, q', ?_, (trim_K k h1).2 ⟨g2, i1⟩, g3, i2⟩
   show (N.first &&& N.live).testBit q = true
   rw [Nat.testBit_and, Bool.and_eq_true]
   exact ⟨g1, i1⟩
theorem run_bit (s : Bytes) : ∀ {m : Nat}, m < 18446744073709551616 → ∀ q, (runN N (true, m) s).2.testBit q = true ↔ ∃ q0, m.testBit q0 = true ∧ Walk (netF N) q0 (s.map UInt8.toNat) q := by
 induction s with
 | nil =>
  intro m _ q
  constructor
  ·exact fun h => ⟨q, h, .nil⟩
  ·rintro ⟨q0, h, w⟩
   cases w
   exact h
 | cons c s ih =>
  intro m hm q
  have hs := step_small k (true, m) c.toNat
  have he : stepN N (true, m) c.toNat = (true, N.behind m &&& N.ta.getD c.toNat 0) := by
   unfold stepN
   rw [if_pos rfl]
  rw [he] at hs
  have hr : runN N (true, m) (c :: s) = runN N (true, N.behind m &&& N.ta.getD c.toNat 0) s := by
   rw [← he]
   unfold runN
   rw [List.foldl_cons]
  rw [hr, ih hs q]
  constructor
  ·rintro ⟨r, h, w⟩
   rw [Nat.testBit_and, Bool.and_eq_true, behind_bit hm] at h
   obtain ⟨⟨q0, g1, g2⟩, g3⟩ := h
   exact ⟨q0, g1, Walk.cons (a := netF N) g2 g3 w⟩
  ·rintro ⟨q0, h, w⟩
   cases w with
   | @cons _ r _ _ _ e kk w =>
    refine ⟨r, ?_, w⟩
    rw [Nat.testBit_and, Bool.and_eq_true, behind_bit hm]
    exact ⟨⟨q0, h, e⟩, kk⟩
theorem match_fits (c : UInt8) (s : Bytes) : matchN N (c :: s) = true ↔ Fits1 (netF N) ((c :: s).map UInt8.toNat) := by
 have hs : N.first &&& N.ta.getD c.toNat 0 < 18446744073709551616 := and_small k.f
 have hb : (runN N (true, N.first &&& N.ta.getD c.toNat 0) s).1 = true := by
  have : ∀ (s : Bytes) (m : Nat), (runN N (true, m) s).1 = true := by
   intro s
   induction s with
   | nil => exact fun _ => rfl
   | cons c s ih => exact fun m => ih _
  exact this s _
 show doneN N (runN N (true, N.first &&& N.ta.getD c.toNat 0) s) = true ↔ _
 unfold doneN
 rw [if_pos hb, decide_eq_true_eq, and_ne]
 constructor
 ·rintro ⟨q', h1, h2⟩
  obtain ⟨q, g1, w⟩ := (run_bit k s hs q').1 h1
  rw [Nat.testBit_and, Bool.and_eq_true] at g1
  exact ⟨q, q', g1.1, g1.2, h2, w⟩
 ·rintro ⟨q, q', g1, g2, g3, w⟩
  refine ⟨q', (run_bit k s hs q').2 ⟨q, ?_, w⟩, g3⟩
  rw [Nat.testBit_and, Bool.and_eq_true]
  exact ⟨g1, g2⟩
end
theorem zero_getD {n i : Nat} : (List.replicate n 0).getD i 0 = 0 := by
 rw [List.getD_eq_getElem?_getD, List.getElem?_replicate]
 split <;> rfl
theorem raw_rep {t : Nd} (h : (fragT t 0).2 ≤ 64) : Rep (pieceN t zeroNet 0).1 (fragT t 0).1 ∧ (∀ q r, bitE (rawOf t) q r ↔ (fragT t 0).1.E q r) ∧ (∀ r c, c < 256 → (bitK (rawOf t) r c ↔ (fragT t 0).1.K r c)) := by
 have r := piece_rep t zeroNet_ok h
 refine ⟨r.p, fun q x => (r.n.E q x).trans ⟨fun h => h.elim (fun h => ?_) (fun h => h), .inr⟩, fun x c hc => (r.n.K x c hc).trans ⟨fun h => h.elim (fun h => ?_) (fun h => h), .inr⟩⟩
 ·unfold bitE at h
  rw [show zeroNet.fo = List.replicate 64 0 from rfl, zero_getD, Nat.zero_testBit] at h
  cases h
 ·unfold bitK at h
  rw [show zeroNet.ta = List.replicate 256 0 from rfl, zero_getD, Nat.zero_testBit] at h
  cases h
theorem raw_fits {t : Nd} (h : (fragT t 0).2 ≤ 64) {s : List Nat} (hc : ∀ c ∈ s, c < 256) : Fits1 (netF (rawOf t)) s ↔ Fits1 (fragT t 0).1 s := by
 obtain ⟨r1, r2, r3⟩ := raw_rep h
 have w1 : ∀ {q q' : Nat} {s : List Nat}, Walk (netF (rawOf t)) q s q' → (∀ c ∈ s, c < 256) → Walk (fragT t 0).1 q s q' := by
  intro q q' s w
  induction w with
  | nil => exact fun _ => .nil
  | cons e kk _ ih => exact fun hc => .cons ((r2 _ _).1 e) ((r3 _ _ (hc _ List.mem_cons_self)).1 kk) (ih fun c h => hc c (List.mem_cons_of_mem _ h))
 have w2 : ∀ {q q' : Nat} {s : List Nat}, Walk (fragT t 0).1 q s q' → (∀ c ∈ s, c < 256) → Walk (netF (rawOf t)) q s q' := by
  intro q q' s w
  induction w with
  | nil => exact fun _ => .nil
  | cons e kk _ ih => exact fun hc => Walk.cons (a := netF (rawOf t)) ((r2 _ _).2 e) ((r3 _ _ (hc _ List.mem_cons_self)).2 kk) (ih fun c h => hc c (List.mem_cons_of_mem _ h))
 cases s with
 | nil => exact .rfl
 | cons c s =>
  have h1 := hc c List.mem_cons_self
  have h2 := fun c h => hc c (List.mem_cons_of_mem _ h)
  constructor
  ·rintro ⟨q, q', g1, g2, g3, w⟩
   exact ⟨q, q', (r1.F q).1 g1, (r3 _ _ h1).1 g2, (r1.L q').1 g3, w1 w h2⟩
  ·rintro ⟨q, q', g1, g2, g3, w⟩
   exact ⟨q, q', (r1.F q).2 g1, (r3 _ _ h1).2 g2, (r1.L q').2 g3, w2 w h2⟩
theorem match_lang {t : Nd} (h : (fragT t 0).2 ≤ 64) (s : Bytes) : matchN (netOf t) s = true ↔ Lang t (s.map UInt8.toNat) := by
 have fr := frag_rec t 0
 cases s with
 | nil =>
  have e : matchN (netOf t) [] = (fragT t 0).1.e := (raw_rep h).1.e
  rw [e]
  exact fr.e
 | cons c s =>
  have hc : ∀ x ∈ (c :: s).map UInt8.toNat, x < 256 := fun x hx => by
   obtain ⟨y, _, rfl⟩ := List.mem_map.1 hx
   exact y.toNat_lt
  rw [match_fits (netOf_ok t) c s]
  exact (trim_fits (rawOf_ok t) hc).trans ((raw_fits h hc).trans fr.f)
theorem at?_app (pre rest : Bytes) (i : Nat) : at? (pre ++ rest) (pre.length + i) = (rest[i]?).map UInt8.toNat := by
 unfold at?
 rw [List.getElem?_append_right (by omega), show pre.length + i - pre.length = i by omega]
mutual
def cntN : Nd → Nat
 | .mk op _ ks => if op = 2 then 1 else cntL ks
def cntL : List Nd → Nat
 | [] => 0
 | k :: ks => cntN k + cntL ks
end
mutual
theorem frag_cnt : ∀ (t : Nd) (u : Nat), (fragT t u).2 ≤ u + cntN t
 | .mk op w ks, u => by
  rw [fragT, cntN]
  have h1 := catG_cnt ks noF u
  have h2 := altG_cnt ks badF u
  have h3 := headG_cnt ks u
  by_cases e2 : op = 2
  ·rw [if_pos e2, if_pos e2]
   exact Nat.le_refl _
  rw [if_neg e2, if_neg e2]
  split
  ·exact h1
  split
  ·exact h2
  split
  ·exact h3
  split
  ·exact h3
  split
  ·exact h3
  ·exact Nat.le_add_right _ _
theorem catG_cnt : ∀ (ks : List Nd) (a : Frag) (u : Nat), (catG ks a u).2 ≤ u + cntL ks
 | [], _, _ => Nat.le_refl _
 | k :: ks, a, u => by
  have h1 := frag_cnt k u
  have h2 := catG_cnt ks (catF a (fragT k u).1) (fragT k u).2
  rw [catG, cntL]
  omega
theorem altG_cnt : ∀ (ks : List Nd) (a : Frag) (u : Nat), (altG ks a u).2 ≤ u + cntL ks
 | [], _, _ => Nat.le_refl _
 | k :: ks, a, u => by
  have h1 := frag_cnt k u
  have h2 := altG_cnt ks (altF a (fragT k u).1) (fragT k u).2
  rw [altG, cntL]
  omega
theorem headG_cnt : ∀ (ks : List Nd) (u : Nat), (headG ks u).2 ≤ u + cntL ks
 | [], _ => Nat.le_refl _
 | k :: ks, u => by
  have h1 := frag_cnt k u
  rw [headG, cntL]
  omega
end
theorem joinN_cnt {op : Nat} (ho : op ≠ 2) : ∀ l : List Nd, cntN (joinN op l) ≤ cntL l
 | [] => by
  show (if 1 = 2 then 1 else cntL []) ≤ _
  exact Nat.le_refl _
 | [t] => Nat.le_add_right _ _
 | a :: b :: l => by
  show (if op = 2 then 1 else cntL (a :: b :: l)) ≤ _
  rw [if_neg ho]
  exact Nat.le_refl _
theorem of_tree {k : Int} {u : Bytes} {t : Nd} {n d : Nat} (hk : k = 1 ∨ k = 2 ∨ k = 3) (hu : u.length ≤ 64) (ht : ∀ r, TreeP u k r → r = .ok t) (hn : 18446744073709551620 < n) (hd : 1000 ≤ d) {h : AHeap} (hx : memB TNode h.ex = false) : ∃ nb h', world n (d + 1) 12 [.agg [.int .i64 k, strA u]] h = some (.ret (.tup [.ptr nb 0, .int .i64 0]), h') ∧ Abs.Mem [] h h' [(nb, TNet, netC (netOf t))] := by
 obtain ⟨D, rfl⟩ : ∃ D, d = D + 3 := ⟨d - 3, by omega⟩
 obtain ⟨r, r1, _, r3⟩ := (tree_kinds (u := u) (by omega) hk).2 hu
 obtain rfl := ht r r1
 have hz := treeP_small r1
 exact of_ok (treeP_oneK r1) (by omega) (by omega) hn (fun h hx => r3 (by omega) (by omega) hx) hx
section
variable {a u : Bytes} {k : Nat}
structure LiesIn (a u : Bytes) (k : Nat) : Prop where
 same : ∀ i, i < a.length → at? u (k + i) = at? a i
 stop : at? u (k + a.length) = some 41
theorem LiesIn.some (s : LiesIn a u k) {i c : Nat} (h : at? a i = some c) : at? u (k + i) = some c := by
 obtain ⟨hp, _⟩ := at?_some h
 rw [s.same i hp, h]
theorem LiesIn.ne (s : LiesIn a u k) {i c : Nat} (hi : i ≤ a.length) (hc : c ≠ 41) (h : at? a i ≠ Option.some c) : at? u (k + i) ≠ Option.some c := by
 rcases Nat.lt_or_ge i a.length with h1 | h1
 ·rw [s.same i h1]
  exact h
 ·obtain rfl : i = a.length := by omega
  rw [s.stop]
  intro hh
  cases hh
  exact hc rfl
theorem memB2_in (s : LiesIn a u k) {i c j : Nat} (h : memB2 a i = .ok (c, j)) : memB2 u (k + i) = .ok (c, k + j) := by
 unfold memB2 at h ⊢
 split at h
 ·cases h
 ·rename_i c' hc
  rw [s.some hc]
  dsimp only
  split at h
  ·rename_i h92
   rw [if_pos h92]
   split at h
   ·cases h
   ·rename_i e he
    have := s.some he
    rw [← Nat.add_assoc] at this
    rw [this]
    cases h
    rfl
  ·rename_i h92
   rw [if_neg h92]
   split at h
   ·cases h
   ·rename_i hx
    rw [if_neg hx]
    cases h
    rfl
theorem memberF_in (s : LiesIn a u k) {w w' : List Nat} {i j : Nat} (h : memberF a w i = .ok (w', j)) : memberF u w (k + i) = .ok (w', k + j) := by
 unfold memberF at h ⊢
 split at h
 ·cases h
 ·rename_i c j' h1
  obtain ⟨_, _, hj⟩ := memB2_ok h1
  rw [memB2_in s h1]
  dsimp only
  split at h
  ·rename_i h45
   rw [if_pos (s.some h45)]
   split at h
   ·cases h
   ·rename_i e k' h4
    have := memB2_in s h4
    rw [← Nat.add_assoc] at this
    rw [this]
    dsimp only
    split at h
    ·cases h
    ·rename_i hlt
     rw [if_neg hlt]
     cases h
     rfl
  ·rename_i h45
   rw [if_neg (s.ne hj (by decide) h45)]
   cases h
   rfl
theorem loopP_in (s : LiesIn a u k) {w : List Nat} {j : Nat} {r : Except Nat (List Nat × Nat)} (x : LoopP a w j r) : j ≤ a.length → ∀ w' j', r = .ok (w', j') → LoopP u w (k + j) (.ok (w', k + j')) := by
 induction x with
 | done n =>
  intro hj w' j' e
  cases e
  exact .done (s.some n)
 | bad n h =>
  intro hj w' j' e
  cases e
 | more n h m ih =>
  intro hj w' j' e
  obtain ⟨b1, b2⟩ := memb_ok h
  exact .more (s.ne hj (by decide) n) (memberF_in s h) (ih b2 w' j' e)
theorem setB_in (s : LiesIn a u k) {i : Nat} (hi : i ≤ a.length) : setB u (k + i) = k + setB a i := by
 unfold setB
 by_cases h94 : at? a i = some 94
 ·rw [if_pos h94, if_pos (s.some h94)]
  rfl
 ·rw [if_neg h94, if_neg (s.ne hi (by decide) h94)]
theorem setP_in (s : LiesIn a u k) {i j : Nat} {w : List Nat} (x : SetP a i (.ok (w, j))) (hi : i ≤ a.length) : SetP u (k + i) (.ok (w, k + j)) := by
 obtain ⟨s1, s2⟩ := setB_bnd hi
 generalize hr : Except.ok (w, j) = r at x
 cases x with
 | bad h => cases hr
 | set h m =>
  rename_i w' j' r
  obtain ⟨b1, b2⟩ := memb_ok h
  cases r with
  | error e' => cases hr
  | ok wj =>
   obtain ⟨w2, j2⟩ := wj
   cases hr
   have h2 := memberF_in s h
   rw [← setB_in s hi] at h2
   have h3 := SetP.set h2 (loopP_in s m b2 _ _ rfl)
   have h4 : (at? u (k + i) = some 94) ↔ (at? a i = some 94) := ⟨fun hh => Classical.byContradiction fun hn => s.ne hi (by decide) hn hh, fun hh => s.some hh⟩
   unfold othersR at h3
   simp only [h4] at h3
   exact h3
end
section
variable {a u : Bytes} {k : Nat}
theorem stops_in (s : LiesIn a u k) {i : Nat} (hi : i ≤ a.length) (h : stops a i) : stops u (k + i) := by
 rcases h with h | h | h
 ·have := at?_none h hi
  subst this
  exact .inr (.inr s.stop)
 ·exact .inr (.inl (s.some h))
 ·exact .inr (.inr (s.some h))
theorem nstops_in (s : LiesIn a u k) {i : Nat} (h : ¬ stops a i) : ¬ stops u (k + i) := by
 have hlt : i < a.length := by
  rcases Nat.lt_or_ge i a.length with h1 | h1
  ·exact h1
  ·exact absurd (.inl (at?_ge h1)) h
 unfold stops at h ⊢
 rw [s.same i hlt]
 exact h
theorem signAt_in (s : LiesIn a u k) {j : Nat} (hj : j ≤ a.length) : signAt u (k + j) = signAt a j := by
 unfold signAt
 rcases Nat.lt_or_ge j a.length with h1 | h1
 ·rw [s.same j h1]
 ·obtain rfl : j = a.length := by omega
  rw [s.stop, at?_ge (Nat.le_refl _)]
  rfl
mutual
theorem altP_in (s : LiesIn a u k) : ∀ {l : List Nd} {i : Nat} {r : Res}, AltP a l i r → ∀ t j, r = .ok (t, j) → i ≤ a.length → AltP u l (k + i) (.ok (t, k + j))
 | _, _, _, .bad h, t, j, e, hi => by cases e
 | _, _, _, .last h n, t, j, e, hi => by
  obtain ⟨_, b2⟩ := rowP_bnd h hi
  have h1 := rowP_in s h _ _ rfl hi
  cases e
  exact .last h1 (s.ne b2 (by decide) n)
 | _, _, _, .more h n m, t, j, e, hi => by
  obtain ⟨hp, _⟩ := at?_some n
  have h1 := rowP_in s h _ _ rfl hi
  have h2 := altP_in s m t j e (by omega)
  rw [← Nat.add_assoc] at h2
  exact .more h1 (s.some n) h2
termination_by structural _ _ _ x => x
theorem rowP_in (s : LiesIn a u k) : ∀ {l : List Nd} {i : Nat} {r : Res}, RowP a l i r → ∀ t j, r = .ok (t, j) → i ≤ a.length → RowP u l (k + i) (.ok (t, k + j))
 | _, _, _, .stop h, t, j, e, hi => by
  cases e
  exact .stop (stops_in s hi h)
 | _, _, _, .bad _ h, t, j, e, hi => by cases e
 | _, _, _, .more n h m, t, j, e, hi => by
  obtain ⟨_, b2⟩ := partP_bnd h hi
  exact .more (nstops_in s n) (partP_in s h _ _ rfl hi) (rowP_in s m t j e b2)
termination_by structural _ _ _ x => x
theorem partP_in (s : LiesIn a u k) : ∀ {i : Nat} {r : Res}, PartP a i r → ∀ t j, r = .ok (t, j) → i ≤ a.length → PartP u (k + i) (.ok (t, k + j))
 | _, _, .bad h, t, j, e, hi => by cases e
 | _, _, .bare h n, t, j, e, hi => by
  obtain ⟨_, b2⟩ := atomP_bnd h hi
  have h1 := atomP_in s h _ _ rfl hi
  cases e
  exact .bare h1 (by rw [signAt_in s b2]; exact n)
 | _, _, .sign h n, t, j, e, hi => by
  obtain ⟨_, b2⟩ := atomP_bnd h hi
  have h1 := atomP_in s h _ _ rfl hi
  cases e
  have h2 := PartP.sign h1 (by rw [signAt_in s b2]; exact n)
  rw [signAt_in s b2] at h2
  exact h2
termination_by structural _ _ x => x
theorem atomP_in (s : LiesIn a u k) : ∀ {i : Nat} {r : Res}, AtomP a i r → ∀ t j, r = .ok (t, j) → i ≤ a.length → AtomP u (k + i) (.ok (t, k + j))
 | _, _, .none _, t, j, e, hi => by cases e
 | _, _, .open_bad h m, t, j, e, hi => by cases e
 | _, _, .open_end h m _, t, j, e, hi => by cases e
 | _, _, .group h m n, t, j, e, hi => by
  obtain ⟨hp, _⟩ := at?_some h
  have h1 := altP_in s m _ _ rfl (by omega)
  rw [← Nat.add_assoc] at h1
  cases e
  exact .group (s.some h) h1 (s.some n)
 | _, _, .any h, t, j, e, hi => by
  cases e
  exact .any (s.some h)
 | _, _, .set_bad h m, t, j, e, hi => by cases e
 | _, _, .set h m, t, j, e, hi => by
  obtain ⟨hp, _⟩ := at?_some h
  have h1 := setP_in s m (by omega)
  rw [← Nat.add_assoc] at h1
  cases e
  exact .set (s.some h) h1
 | _, _, .sl_end h _, t, j, e, hi => by cases e
 | _, _, .sl h n, t, j, e, hi => by
  have h1 := s.some n
  rw [← Nat.add_assoc] at h1
  cases e
  exact .sl (s.some h) h1
 | _, _, .bad h _, t, j, e, hi => by cases e
 | _, _, .one h b n, t, j, e, hi => by
  cases e
  exact .one (s.some h) b n
termination_by structural _ _ x => x
end
theorem group_in {pre post : Bytes} {t : Nd} (h : AltP a [] 0 (.ok (t, a.length))) (hu : u = pre ++ (40 :: a ++ 41 :: post)) : AtomP u pre.length (.ok (t, pre.length + a.length + 2)) := by
 subst hu
 have s : LiesIn a (pre ++ (40 :: a ++ 41 :: post)) (pre.length + 1) := by
  refine ⟨fun i hi => ?_, ?_⟩
  ·have := at?_app pre (40 :: a ++ 41 :: post) (i + 1)
   rw [show pre.length + 1 + i = pre.length + (i + 1) by omega, this, List.cons_append, List.getElem?_cons_succ, List.getElem?_append_left hi]
   rfl
  ·have := at?_app pre (40 :: a ++ 41 :: post) (a.length + 1)
   rw [show pre.length + 1 + a.length = pre.length + (a.length + 1) by omega, this, List.cons_append, List.getElem?_cons_succ, List.getElem?_append_right (Nat.le_refl _), Nat.sub_self]
   rfl
 have h0 := at?_app pre (40 :: a ++ 41 :: post) 0
 rw [Nat.add_zero] at h0
 have h1 := altP_in s h _ _ rfl (Nat.zero_le _)
 rw [Nat.add_zero] at h1
 have h2 := AtomP.group (u := pre ++ (40 :: a ++ 41 :: post)) (i := pre.length) h0 h1 s.stop
 rw [show pre.length + 1 + a.length + 1 = pre.length + a.length + 2 by omega] at h2
 exact h2
end
section
variable {a b u : Bytes} {x y : Nd}
theorem re_tree {t : Nd} (h : AltP u [] 0 (.ok (t, u.length))) {r : Except Nat Nd} (k : TreeP u 3 r) : r = .ok t := by
 cases k with
 | re_bad h' => cases altP_one h h'
 | re_end h' n =>
  cases altP_one h h'
  exact absurd rfl n
 | re h' =>
  cases altP_one h h'
  rfl
theorem nstop40 {i : Nat} (h : at? u i = some 40) : ¬ stops u i := by
 unfold stops
 rw [h]
 intro hh
 rcases hh with hh | hh | hh <;> cases hh
theorem stop_end {i : Nat} (h : i = u.length) : stops u i := .inl (at?_ge (by omega))
theorem sign_end {i : Nat} (h : i = u.length) : signAt u i = 0 := by
 unfold signAt
 rw [at?_ge (by omega)]
theorem one_row {i j : Nat} {t : Nd} (h : PartP u i (.ok (t, j))) (n : at? u i = some 40) (e : stops u j) : RowP u [] i (.ok (t, j)) := RowP.more (nstop40 n) h (RowP.stop (l := [] ++ [t]) e)
theorem one_alt {i : Nat} {t : Nd} (h : RowP u [] i (.ok (t, u.length))) : AltP u [] i (.ok (t, u.length)) := AltP.last (l := []) h (by rw [at?_ge (Nat.le_refl _)]; simp)
theorem groups_s {c : UInt8} {op : Nat} (hop : signOp c.toNat = op) (h0 : op ≠ 0) (h : AltP a [] 0 (.ok (x, a.length))) (hu : u = [] ++ (40 :: a ++ 41 :: [c])) {r : Except Nat Nd} (k : TreeP u 3 r) : r = .ok (overN op [x]) := by
 have g := group_in h hu
 have hl : u.length = a.length + 3 := by rw [hu]; simp
 have n0 : at? u 0 = some 40 := by rw [hu]; rfl
 have e : ([] : Bytes).length + a.length + 2 = a.length + 2 := by simp
 rw [e] at g
 have hc : at? u (a.length + 2) = some c.toNat := by
  rw [hu]
  unfold at?
  simp
 have hs : signAt u (a.length + 2) = op := by rw [signAt_some hc, hop]
 have p := PartP.sign g (by rw [hs]; exact h0)
 rw [hs, show a.length + 2 + 1 = u.length by omega] at p
 exact re_tree (one_alt (one_row p n0 (stop_end rfl))) k
theorem groups_c (h : AltP a [] 0 (.ok (x, a.length))) (h2 : AltP b [] 0 (.ok (y, b.length))) (hu : u = [] ++ (40 :: a ++ 41 :: (40 :: b ++ 41 :: []))) {r : Except Nat Nd} (k : TreeP u 3 r) : r = .ok (overN 3 [x, y]) := by
 have g := group_in h hu
 have hu2 : u = (40 :: a ++ [41]) ++ (40 :: b ++ 41 :: []) := by rw [hu]; simp
 have g2 := group_in h2 hu2
 have hl : u.length = a.length + 2 + (b.length + 2) := by rw [hu]; simp; omega
 have n0 : at? u 0 = some 40 := by rw [hu]; rfl
 have e : ([] : Bytes).length + a.length + 2 = a.length + 2 := by simp
 have e2 : (40 :: a ++ [41] : Bytes).length = a.length + 2 := by simp
 rw [e] at g
 rw [e2, show a.length + 2 + b.length + 2 = u.length by omega] at g2
 have n1 : at? u (a.length + 2) = some 40 := by
  have := at?_app (40 :: a ++ [41]) (40 :: b ++ 41 :: []) 0
  rw [← hu2, e2, Nat.add_zero] at this
  exact this
 have s1 : signAt u (a.length + 2) = 0 := by
  rw [signAt_some n1]
  rfl
 have r2 : RowP u [x] (a.length + 2) (.ok (overN 3 [x, y], u.length)) := RowP.more (nstop40 n1) (.bare g2 (sign_end rfl)) (RowP.stop (l := [x] ++ [y]) (stop_end rfl))
 exact re_tree (one_alt (RowP.more (nstop40 n0) (.bare g s1) r2)) k
theorem groups_a (h : AltP a [] 0 (.ok (x, a.length))) (h2 : AltP b [] 0 (.ok (y, b.length))) (hu : u = [] ++ (40 :: a ++ 41 :: (124 :: 40 :: b ++ 41 :: []))) {r : Except Nat Nd} (k : TreeP u 3 r) : r = .ok (overN 4 [x, y]) := by
 have g := group_in h hu
 have hu2 : u = (40 :: a ++ [41, 124]) ++ (40 :: b ++ 41 :: []) := by rw [hu]; simp
 have g2 := group_in h2 hu2
 have hl : u.length = a.length + 3 + (b.length + 2) := by rw [hu]; simp; omega
 have n0 : at? u 0 = some 40 := by rw [hu]; rfl
 have e : ([] : Bytes).length + a.length + 2 = a.length + 2 := by simp
 have e2 : (40 :: a ++ [41, 124] : Bytes).length = a.length + 3 := by simp
 rw [e] at g
 rw [e2, show a.length + 3 + b.length + 2 = u.length by omega] at g2
 have n1 : at? u (a.length + 3) = some 40 := by
  have := at?_app (40 :: a ++ [41, 124]) (40 :: b ++ 41 :: []) 0
  rw [← hu2, e2, Nat.add_zero] at this
  exact this
 have nb : at? u (a.length + 2) = some 124 := by
  rw [hu]
  unfold at?
  simp
 have s1 : signAt u (a.length + 2) = 0 := by
  rw [signAt_some nb]
  rfl
 have ra := one_row (.bare g s1) n0 (.inr (.inl nb))
 have rb := one_row (.bare g2 (sign_end rfl)) n1 (stop_end rfl)
 have al : AltP u ([] ++ [x]) (a.length + 2 + 1) (.ok (joinN 4 ([x] ++ [y]), u.length)) := AltP.last (l := [x]) rb (by rw [at?_ge (Nat.le_refl _)]; simp)
 exact re_tree (AltP.more ra nb al) k
end
theorem cntL_snoc : ∀ (l : List Nd) (t : Nd), cntL (l ++ [t]) = cntL l + cntN t
 | [], t => by
  show cntN t + cntL [] = cntL [] + cntN t
  exact Nat.add_comm _ _
 | k :: l, t => by
  rw [List.cons_append, cntL, cntL, cntL_snoc l t, Nat.add_assoc]
theorem over_cnt {op : Nat} (ho : op ≠ 2) (t : Nd) : cntN (overN op [t]) = cntN t := by
 show (if op = 2 then 1 else cntL [t]) = _
 rw [if_neg ho]
 exact Nat.add_zero _
theorem sign_ne2 (u : Bytes) (j : Nat) : signAt u j ≠ 2 := by
 unfold signAt
 split
 ·unfold signOp
  split <;> decide
 ·decide
section
variable {a : Bytes}
mutual
theorem altP_cnt : ∀ {l : List Nd} {i : Nat} {r : Res}, AltP a l i r → ∀ t j, r = .ok (t, j) → i ≤ a.length → cntN t ≤ cntL l + (j - i)
 | _, _, _, .bad _, _, _, e, _ => by cases e
 | l, _, _, .last h _, t, j, e, hi => by
  cases e
  have h1 := rowP_cnt h _ _ rfl hi
  refine Nat.le_trans (joinN_cnt (by decide) _) ?_
  rw [cntL_snoc]
  rw [cntL] at h1
  omega
 | _, _, _, .more h n m, t, j, e, hi => by
  have h1 := rowP_cnt h _ _ rfl hi
  have b1 := rowP_bnd h hi
  have hn := at?_some n
  obtain ⟨hn, _⟩ := hn
  have h3 := altP_cnt m t j e (by omega)
  have b2 := altP_bnd m (by omega)
  subst e
  rw [cntL_snoc] at h3
  rw [cntL] at h1
  have b1' : _ ≤ _ ∧ _ ≤ _ := b1
  have b2' : _ ≤ _ ∧ _ ≤ _ := b2
  omega
termination_by structural _ _ _ x => x
theorem rowP_cnt : ∀ {l : List Nd} {i : Nat} {r : Res}, RowP a l i r → ∀ t j, r = .ok (t, j) → i ≤ a.length → cntN t ≤ cntL l + (j - i)
 | l, _, _, .stop _, t, j, e, _ => by
  cases e
  exact Nat.le_trans (joinN_cnt (by decide) l) (Nat.le_add_right _ _)
 | _, _, _, .bad _ _, _, _, e, _ => by cases e
 | _, _, _, .more _ h m, t, j, e, hi => by
  have h1 := partP_cnt h _ _ rfl hi
  have b1 := partP_bnd h hi
  have b1' : _ ≤ _ ∧ _ ≤ _ := ⟨Nat.le_of_lt b1.1, b1.2⟩
  have h3 := rowP_cnt m t j e b1'.2
  have b2 := rowP_bnd m b1'.2
  subst e
  rw [cntL_snoc] at h3
  have b2' : _ ≤ _ ∧ _ ≤ _ := b2
  omega
termination_by structural _ _ _ x => x
theorem partP_cnt : ∀ {i : Nat} {r : Res}, PartP a i r → ∀ t j, r = .ok (t, j) → i ≤ a.length → cntN t ≤ j - i
 | _, _, .bad _, _, _, e, _ => by cases e
 | _, _, .bare h _, t, j, e, hi => atomP_cnt h t j e hi
 | _, _, .sign h _, t, j, e, hi => by
  cases e
  rw [over_cnt (sign_ne2 _ _)]
  have := atomP_cnt h _ _ rfl hi
  omega
termination_by structural _ _ x => x
theorem atomP_cnt : ∀ {i : Nat} {r : Res}, AtomP a i r → ∀ t j, r = .ok (t, j) → i ≤ a.length → cntN t ≤ j - i
 | _, _, .none _, _, _, e, _ => by cases e
 | _, _, .open_bad _ _, _, _, e, _ => by cases e
 | _, _, .open_end _ _ _, _, _, e, _ => by cases e
 | _, _, .group h m _, t, j, e, hi => by
  cases e
  obtain ⟨hn, _⟩ := at?_some h
  have h1 := altP_cnt m _ _ rfl (by omega)
  rw [cntL] at h1
  omega
 | i, _, .any _, t, j, e, _ => by
  cases e
  show 1 ≤ i + 1 - i
  omega
 | _, _, .set_bad _ _, _, _, e, _ => by cases e
 | i, _, .set h m, t, j, e, hi => by
  cases e
  obtain ⟨hn, _⟩ := at?_some h
  have := setP_okb m (by omega)
  show 1 ≤ _ - i
  omega
 | _, _, .sl_end _ _, _, _, e, _ => by cases e
 | i, _, .sl _ _, t, j, e, _ => by
  cases e
  show 1 ≤ i + 2 - i
  omega
 | _, _, .bad _ _, _, _, e, _ => by cases e
 | i, _, .one _ _ _, t, j, e, _ => by
  cases e
  show 1 ≤ i + 1 - i
  omega
termination_by structural _ _ x => x
end
end
def exT : Nd := .mk 3 zeroW [.mk 6 zeroW [oneN 97], oneN 98]
abbrev exU : Bytes := [97, 43, 98]
set_option maxRecDepth 100000 in
theorem ex_dead : deadN (netOf exT) (stepN (netOf exT) (false, 0) 98) = true := by kernel_rfl
set_option maxRecDepth 100000 in
theorem ex_dead0 : deadN (netOf exT) (false, 0) = false := by kernel_rfl
set_option maxRecDepth 100000 in
theorem ex_done0 : doneN (netOf exT) (false, 0) = false := by kernel_rfl
set_option maxRecDepth 100000 in
theorem ex_aab : matchN (netOf exT) [97, 97, 98] = true := by kernel_rfl
set_option maxRecDepth 100000 in
theorem ex_b : matchN (netOf exT) [98] = false := by kernel_rfl
theorem exStop0 : ¬ stops exU 0 := by unfold stops; decide
theorem exStop2 : ¬ stops exU 2 := by unfold stops; decide
theorem ex_part0 : PartP exU 0 (.ok (.mk 6 zeroW [oneN 97], 2)) := PartP.sign (i := 0) (j := 1) (t := oneN 97) (.one (c := 97) rfl (by unfold badAtom; decide) (by decide)) (by decide)
theorem ex_part2 : PartP exU 2 (.ok (oneN 98, 3)) := PartP.bare (.one (c := 98) rfl (by unfold badAtom; decide) (by decide)) rfl
theorem ex_row : RowP exU [] 0 (.ok (exT, 3)) := .more exStop0 ex_part0 (.more exStop2 ex_part2 (RowP.stop (l := [.mk 6 zeroW [oneN 97], oneN 98]) (i := 3) (.inl rfl)))
theorem ex_alt : AltP exU [] 0 (.ok (exT, 3)) := AltP.last (l := []) (t := exT) ex_row (by decide)
theorem ex_tree {r : Except Nat Nd} (h : TreeP exU 3 r) : r = .ok exT := by
 generalize hk : (3 : Int) = k at h
 cases h with
 | lit a => cases hk
 | glob a => cases hk
 | re_bad a => cases altP_one a ex_alt
 | re_end a n =>
  cases altP_one a ex_alt
  exact absurd rfl n
 | re a =>
  cases altP_one a ex_alt
  rfl
theorem of_ex {n d : Nat} {h : AHeap} (hn : 18446744073709551620 < n) (hd : 1000 ≤ d) (hx : memB TNode h.ex = false) : ∃ nb h', world n (d + 1) 12 [.agg [.int .i64 3, strA exU]] h = some (.ret (.tup [.ptr nb 0, .int .i64 0]), h') ∧ Abs.Mem [] h h' [(nb, TNet, netC (netOf exT))] := by
 obtain ⟨D, rfl⟩ : ∃ D, d = D + 3 := ⟨d - 3, by omega⟩
 obtain ⟨r, r1, _, r3⟩ := (tree_kinds (u := exU) (by decide) (.inr (.inr rfl))).2 (by decide)
 obtain rfl := ex_tree r1
 exact of_ok (treeP_oneK r1) (by have := treeP_small r1; have : exU.length = 3 := rfl; omega) (by have := treeP_small r1; have : exU.length = 3 := rfl; omega) hn (fun h hx => r3 (by omega) (by omega) hx) hx
theorem works_w {n d : Nat} {h : AHeap} (hn : 18446744073709551620 < n) (hd : 1000 ≤ d) (hT : HasTz h) (hx : memB TNode h.ex = false) : world n (d + 2) 11 [] h = some (.ret (.bool true), h) := by
 apply Wp.eq
 rw [w_law10_works]
 refine Wp.gc ?_
 suffices hK : Wp (law10_works (world n (d + 1)) n h) fun r h' => r = .ret (.bool true) ∧ Tch [] h h' from hK.mono fun r h' ⟨e, t⟩ => ⟨t.above, by rw [e]; rfl, e, rfl⟩
 obtain ⟨D, rfl⟩ : ∃ D, d = D + 3 := ⟨d - 3, by omega⟩
 unfold law10_works
 obtain ⟨nb, h1, e1, M1⟩ := of_ex hn hd hx
 have hN := netOf_ok exT
 refine Wp.callN e1 ?_
 repeat (first | (with_reducible refine Wp.join1 (fun _ _ => ?_)) | (with_reducible refine Wp.lett ?_) | ((with_reducible apply Wp.obind); (with_reducible first | exact avInt_int _ _ | exact avBool_bool _ | exact extT_0 _ _ | exact extT_1 _ _ _)) | ((with_reducible refine Wp.iff ?_ ?_); first | (with_reducible rfl) | ((with_reducible apply bne_f); omega)) | ((with_reducible apply Wp.outK); (with_reducible exact eqNet _ _ _)) | (with_reducible refine Wp.go1 (by assumption) ?_))
 obtain ⟨h2, e2, M2⟩ := begin_m (n := n) (d := D + 3) (nb := nb) M1
 refine Wp.callN e2 ?_
 have d0 := done_w (n := n) (d := D + 2) hN (show ((false, 0) : Bool × Nat).2 < _ by decide) M2.at0.1 M2.at1.1
 rw [ex_done0] at d0
 have d1 := dead_w (n := n) (d := D + 2) M2.at0.1 M2.at1.1
 rw [ex_dead0] at d1
 repeat (first | (with_reducible refine Wp.join1 (fun _ _ => ?_)) | ((with_reducible apply Wp.obind); (with_reducible exact avBool_bool _)) | ((with_reducible refine Wp.iff ?_ ?_); (with_reducible rfl)) | ((with_reducible apply Wp.callN); (with_reducible first | exact d0 | exact d1)) | ((with_reducible apply Wp.outK); (with_reducible exact eqRun _ _ _)) | (with_reducible refine Wp.go1 (by assumption) ?_))
 have hne : h1.next ≠ nb := fun e => by
  have := M1.at0.2.1
  omega
 obtain ⟨h3, e3, k3, t3⟩ := step_r (n := n) (d := D + 1) (c := 98) (hT.tch M2.tch (by simp)) hN (show ((false, 0) : Bool × Nat).2 < _ by decide) (by omega) hne (by decide) M2.at0.1 M2.at1.1 M2.at1.2.1
 refine Wp.callN e3 ?_
 have M3 := Mem.upd (xs := []) M2 t3 k3
 simp only [List.nil_append] at M3
 have d2 := dead_w (n := n) (d := D + 2) M3.at0.1 M3.at1.1
 rw [ex_dead] at d2
 repeat (first | (with_reducible refine Wp.join1 (fun _ _ => ?_)) | ((with_reducible apply Wp.obind); (with_reducible exact avBool_bool _)) | ((with_reducible refine Wp.ift ?_ ?_); (with_reducible rfl)) | ((with_reducible apply Wp.callN); (with_reducible exact d2)))
 obtain ⟨h4, e4, t4⟩ := match_r (n := n) (d := D) (s := [97, 97, 98]) (hT.tch M3.tch (by simp)) hN (by omega) (by decide) M3.at1.1 M3.at1.2.1
 rw [ex_aab] at e4
 refine Wp.callN e4 ?_
 have M4 := M3.keep t4
 repeat (first | (with_reducible refine Wp.join1 (fun _ _ => ?_)) | ((with_reducible apply Wp.obind); (with_reducible exact avBool_bool _)) | ((with_reducible refine Wp.ift ?_ ?_); (with_reducible rfl)) | (with_reducible refine Wp.go1 (by assumption) ?_))
 obtain ⟨h5, e5, t5⟩ := match_r (n := n) (d := D) (s := [98]) (hT.tch M4.tch (by simp)) hN (by omega) (by decide) M4.at1.1 M4.at1.2.1
 rw [ex_b] at e5
 refine Wp.callN e5 ?_
 repeat (first | (with_reducible refine Wp.lett ?_) | ((with_reducible apply Wp.obind); (with_reducible exact avBool_bool _)) | (with_reducible refine Wp.go1 (by assumption) ?_))
 exact Wp.ret ⟨rfl, (M4.keep t5).tch⟩
end Go.Proofs.YtakhljnkmbpmpaaDoor
namespace Go.Proofs.YtakhljnkmbpmpaaDoor
open Go.RowKit Abs
section
variable {N : Nt} {n d nb rb : Nat} {h0 : AHeap} {Q : ARes → AHeap → Prop} {ys : List RowT}
end
abbrev tzI64 : List Int := [0, 1, 56, 2, 57, 49, 28, 3, 61, 58, 42, 50, 38, 29, 17, 4, 62, 47, 59, 36, 45, 43, 51, 22, 53, 39, 33, 30, 24, 18, 12, 5, 63, 55, 48, 27, 60, 41, 37, 16, 46, 35, 44, 21, 52, 32, 23, 11, 54, 26, 40, 15, 34, 20, 31, 10, 25, 14, 19, 9, 13, 8, 7, 6]
theorem tzC_ints : tzC = tzI64.map fun z => AV.int .u8 z := by kernel_rfl
noncomputable def tzG : Tabs := [(0, tzI64.map fun z => AV.int .u8 z)]
theorem tz_of {h : AHeap} {X : List Nat} {G : Nat} (hG : 0 < G) (k : Keeps (startG tzG X G) h) : HasTz h :=
 ⟨k.2.2 _ _ (by show (tabTree tzG).get _ = _; unfold tzG tabTree; rw [T.get_set_same, tzC_ints]), Nat.lt_of_lt_of_le hG k.1⟩
noncomputable def law10_NfaJoins_L0b (call : CallF) (t2 : Bytes) (r17 : AV) (r19 : AV) (k62 : Bool → AHeap → R) (self : Bool → Int → AHeap → R) (t12_100 : Bool) (t13 : Int) (h_101 : AHeap) : R :=
 lett (decide (t13 ≤ (lenS t2))) fun (t71 : Bool) =>
 ifB t71
 (
  lett (fun (t88 : Bool) (h_107 : AHeap) =>
   lett (IntKind.i64.wrap (t13 + 1)) fun (t73 : Int) =>
   self t88 t73 h_107) fun j88 =>
  ifB t12_100
  (
   j88 true h_101)
  (
   obind (sliceS t2 0 t13) fun t79 =>
   callN (call 14 [r17, strA t79] h_101) fun r80 h_112 =>
   obind (avBool r80) fun t80 =>
   lett (fun (t87 : Bool) (h_115 : AHeap) =>
    j88 t87 h_115) fun j87 =>
   ifB t80
   (
    obind (sliceS t2 t13 (lenS t2)) fun t85 =>
    callN (call 14 [r19, strA t85] h_112) fun r86 h_119 =>
    obind (avBool r86) fun t86 =>
    j87 t86 h_119)
   (
    j87 false h_112)))
 (
  k62 t12_100 h_101)
noncomputable def law10_NfaJoins_L0 (call : CallF) (t2 : Bytes) (r17 : AV) (r19 : AV) (k62 : Bool → AHeap → R) : Nat → Bool → Int → AHeap → R := iterR (fun _ _ _ => none) (law10_NfaJoins_L0b call t2 r17 r19 k62)
theorem law10_NfaJoins_L0_s (call : CallF) (t2 : Bytes) (r17 : AV) (r19 : AV) (k62 : Bool → AHeap → R) (m : Nat) : law10_NfaJoins_L0 call t2 r17 r19 k62 (m + 1) = law10_NfaJoins_L0b call t2 r17 r19 k62 (law10_NfaJoins_L0 call t2 r17 r19 k62 m) := rfl
noncomputable def law10_NfaJoins (call : CallF) (n : Nat) (t0 : Bytes) (t1 : Bytes) (t2 : Bytes) (h : AHeap) : R :=
 callN (call 11 [] h) fun r14 h_4 =>
 obind (avBool r14) fun t14 =>
 lett (!t14) fun (t15 : Bool) =>
 ifB t15
 (
  some (.ret (.bool false), h_4))
 (
  callN (call 22 [strA t0] h_4) fun r17 h_10 =>
  callN (call 22 [strA t1] h_10) fun r19 h_12 =>
  outK (opBin Tryd.prog h_12 .eql 25 true (some r17) (some AV.nilp)) fun v21 h_16 =>
  obind (avBool v21) fun t21 =>
  lett (fun (t25 : Bool) (h_19 : AHeap) =>
   lett (fun (t34 : Bool) (h_22 : AHeap) =>
    lett (fun (t39 : Bool) (h_25 : AHeap) =>
     ifB t39
     (
      some (.ret (.bool true), h_25))
     (
      obind (addS ([40] : Bytes) t0) fun t41 =>
      obind (addS t41 ([41, 40] : Bytes)) fun t42 =>
      obind (addS t42 t1) fun t44 =>
      obind (addS t44 ([41] : Bytes)) fun t45 =>
      callN (call 22 [strA t45] h_25) fun r46 h_34 =>
      obind (addS ([40] : Bytes) t0) fun t48 =>
      obind (addS t48 ([41, 124, 40] : Bytes)) fun t49 =>
      obind (addS t49 t1) fun t51 =>
      obind (addS t51 ([41] : Bytes)) fun t52 =>
      callN (call 22 [strA t52] h_34) fun r53 h_40 =>
      obind (addS ([40] : Bytes) t0) fun t55 =>
      obind (addS t55 ([41, 63] : Bytes)) fun t56 =>
      callN (call 22 [strA t56] h_40) fun r57 h_44 =>
      outK (opBin Tryd.prog h_44 .eql 25 true (some r46) (some AV.nilp)) fun v59 h_48 =>
      obind (avBool v59) fun t59 =>
      lett (fun (t63 : Bool) (h_51 : AHeap) =>
       lett (fun (t67 : Bool) (h_54 : AHeap) =>
        ifB t67
        (
         some (.ret (.bool false), h_54))
        (
         lett (fun (t12 : Bool) (h_63 : AHeap) =>
          callN (call 14 [r46, strA t2] h_63) fun r91 h_65 =>
          obind (avBool r91) fun t91 =>
          lett ((t91 : Bool) == t12) fun (t93 : Bool) =>
          lett (fun (t107 : Bool) (h_69 : AHeap) =>
           lett (fun (t120 : Bool) (h_72 : AHeap) =>
            some (.ret (.bool t120), h_72)) fun j120 =>
           ifB t107
           (
            callN (call 14 [r57, strA t2] h_69) fun r111 h_75 =>
            obind (avBool r111) fun t111 =>
            lett (eqS t2 ([] : Bytes)) fun (t113 : Bool) =>
            lett (fun (t118 : Bool) (h_79 : AHeap) =>
             lett ((t111 : Bool) == t118) fun (t119 : Bool) =>
             j120 t119 h_79) fun j118 =>
            ifB t113
            (
             j118 true h_75)
            (
             callN (call 14 [r17, strA t2] h_75) fun r117 h_83 =>
             obind (avBool r117) fun t117 =>
             j118 t117 h_83))
           (
            j120 false h_69)) fun j107 =>
          ifB t93
          (
           callN (call 14 [r53, strA t2] h_65) fun r97 h_86 =>
           obind (avBool r97) fun t97 =>
           callN (call 14 [r17, strA t2] h_86) fun r100 h_89 =>
           obind (avBool r100) fun t100 =>
           lett (fun (t105 : Bool) (h_92 : AHeap) =>
            lett ((t97 : Bool) == t105) fun (t106 : Bool) =>
            j107 t106 h_92) fun j105 =>
           ifB t100
           (
            j105 true h_89)
           (
            callN (call 14 [r19, strA t2] h_89) fun r104 h_96 =>
            obind (avBool r104) fun t104 =>
            j105 t104 h_96))
          (
           j107 false h_65)) fun k62 =>
         law10_NfaJoins_L0 call t2 r17 r19 k62 n false 0 h_54)) fun j67 =>
       ifB t63
       (
        j67 true h_51)
       (
        outK (opBin Tryd.prog h_51 .eql 25 true (some r57) (some AV.nilp)) fun v66 h_122 =>
        obind (avBool v66) fun t66 =>
        j67 t66 h_122)) fun j63 =>
      ifB t59
      (
       j63 true h_48)
      (
       outK (opBin Tryd.prog h_48 .eql 25 true (some r53) (some AV.nilp)) fun v62 h_125 =>
       obind (avBool v62) fun t62 =>
       j63 t62 h_125))) fun j39 =>
    ifB t34
    (
     j39 true h_22)
    (
     lett (decide ((lenS t2) > 60)) fun (t38 : Bool) =>
     j39 t38 h_22)) fun j34 =>
   ifB t25
   (
    j34 true h_19)
   (
    lett (IntKind.i64.wrap ((lenS t0) + (lenS t1))) fun (t31 : Int) =>
    lett (IntKind.i64.wrap (t31 + 5)) fun (t32 : Int) =>
    lett (decide (t32 > 64)) fun (t33 : Bool) =>
    j34 t33 h_19)) fun j25 =>
  ifB t21
  (
   j25 true h_16)
  (
   outK (opBin Tryd.prog h_16 .eql 25 true (some r19) (some AV.nilp)) fun v24 h_132 =>
   obind (avBool v24) fun t24 =>
   j25 t24 h_132))
set_option maxHeartbeats 4000000 in
set_option maxRecDepth 20000 in
theorem law10_NfaJoins_ok {call : CallF} (hc : SaysAll Tryd.prog call) {n : Nat} {t0 : Bytes} {t1 : Bytes} {t2 : Bytes} {h : AHeap} {rR : ARes} {hR : AHeap} (hF : law10_NfaJoins call n t0 t1 t2 h = some (rR, hR)) : Says Tryd.prog 6 [strA t0, strA t1, strA t2] h rR hR := by
 unfold law10_NfaJoins at hF
 refine sO Tryd.func6 fun w0 m0 => ?_
 refine wW [(0, strA t0), (1, strA t1), (2, strA t2)] ?_
 refine oG fun n1 => W.r ?_
 refine oA 6 (.bool false) ?_
 refine oV [(0, strA t0), (1, strA t1), (2, strA t2)] (n1 ?_)
 refine oH fun n2 q2 => ?_
 refine oG fun n3 => W.r ?_
 refine oCb hc 14 hF fun t14 h_4 hF => ?_
 refine oB 15 hF fun t15 hF => ?_
 refine oV [(0, strA t0), (1, strA t1), (2, strA t2), (15, .bool t15)] (n3 ?_)
 cases t15 with
 | true =>
  refine oT hF fun hF => ?_
  refine oG fun n8 => W.r ?_
  refine oA 6 (.bool false) ?_
  refine oV [(6, .bool false)] (n8 (oY (q2 ?_)))
  exact lZ hF [.tmp 6] [.bool false] (rT res_nil)
 | false =>
  refine oU hF fun hF => ?_
  refine oZ (n2 ?_)
  refine oG fun n9 => W.r ?_
  refine oA 16 (strA t0) ?_
  refine oC hc (some 17) hF fun r17 h_10 hF => ?_
  refine oA 18 (strA t1) ?_
  refine oC hc (some 19) hF fun r19 h_12 hF => ?_
  refine oA 7 r17 ?_
  refine oA 8 r19 ?_
  refine oV [(0, strA t0), (1, strA t1), (2, strA t2), (7, r17), (8, r19)] (n9 ?_)
  refine oH fun n14 q14 => ?_
  refine W.s (fun K15 n15 e15 q15 p15 => ?_)
  refine W.r ?_
  refine oA 20 r17 ?_
  replace hF := outK_some hF; obtain ⟨v21, h_16, e17, hF⟩ := hF
  replace hF := obind_some hF; obtain ⟨t21, c18, hF⟩ := hF
  have c18 := avBool_some c18
  subst c18
  refine WL.b (some 21) (.bool t21) h_16 e17 ?_
  refine oA 22 (.bool t21) ?_
  obtain ⟨j25, e20, hF⟩ := lett_some hF
  have J21 : ∀ (t25 : Bool) (h_19 : AHeap), j25 t25 h_19 = some (rR, hR) → WL Tryd.prog w0 m0 (Func.ntmps Tryd.f6) (Code.ops (Code.p1 (Code.p1 (Code.p2 (Code.p2 (Code.p2 (codeOf Tryd.f6))))))) 6 K15 [(0, strA t0), (1, strA t1), (2, strA t2), (7, r17), (8, r19), (25, .bool t25)] [] h_19 := by
   intro t25 h_19 hF
   rw [e20] at hF
   refine oA 26 (.bool t25) ?_
   obtain ⟨j34, e23, hF⟩ := lett_some hF
   have J24 : ∀ (t34 : Bool) (h_22 : AHeap), j34 t34 h_22 = some (rR, hR) → WL Tryd.prog w0 m0 (Func.ntmps Tryd.f6) (Code.ops (Code.p1 (Code.p1 (Code.p2 (Code.p2 (Code.p2 (codeOf Tryd.f6))))))) 15 K15 [(0, strA t0), (1, strA t1), (2, strA t2), (7, r17), (8, r19), (34, .bool t34)] [] h_22 := by
    intro t34 h_22 hF
    rw [e23] at hF
    refine oA 35 (.bool t34) ?_
    obtain ⟨j39, e26, hF⟩ := lett_some hF
    have J27 : ∀ (t39 : Bool) (h_25 : AHeap), j39 t39 h_25 = some (rR, hR) → WL Tryd.prog w0 m0 (Func.ntmps Tryd.f6) (Code.ops (Code.p1 (Code.p1 (Code.p2 (Code.p2 (Code.p2 (codeOf Tryd.f6))))))) 20 K15 [(0, strA t0), (1, strA t1), (2, strA t2), (7, r17), (8, r19), (39, .bool t39)] [] h_25 := by
     intro t39 h_25 hF
     rw [e26] at hF
     refine oV [(0, strA t0), (1, strA t1), (2, strA t2), (7, r17), (8, r19), (39, .bool t39)] (n15 ?_)
     cases t39 with
     | true =>
      refine oT hF fun hF => ?_
      refine oG fun n28 => W.r ?_
      refine oA 6 (.bool true) ?_
      refine oV [(6, .bool true)] (n28 (oY (q14 ?_)))
      exact lZ hF [.tmp 6] [.bool true] (rT res_nil)
     | false =>
      refine oU hF fun hF => ?_
      refine oZ (n14 ?_)
      refine oG fun n29 => W.r ?_
      refine oA 40 (strA t0) ?_
      obtain ⟨t41, e30, hF⟩ := obind_some hF
      refine WL.b (some 41) (strA t41) h_25 (add_str (P := Tryd.prog) (h := h_25) (t := 9) (lit := true) e30) ?_
      obtain ⟨t42, e31, hF⟩ := obind_some hF
      refine WL.b (some 42) (strA t42) h_25 (add_str (P := Tryd.prog) (h := h_25) (t := 9) (lit := true) e31) ?_
      refine oA 43 (strA t1) ?_
      obtain ⟨t44, e32, hF⟩ := obind_some hF
      refine WL.b (some 44) (strA t44) h_25 (add_str (P := Tryd.prog) (h := h_25) (t := 9) (lit := false) e32) ?_
      obtain ⟨t45, e33, hF⟩ := obind_some hF
      refine WL.b (some 45) (strA t45) h_25 (add_str (P := Tryd.prog) (h := h_25) (t := 9) (lit := true) e33) ?_
      refine oC hc (some 46) hF fun r46 h_34 hF => ?_
      refine oA 47 (strA t0) ?_
      obtain ⟨t48, e36, hF⟩ := obind_some hF
      refine WL.b (some 48) (strA t48) h_34 (add_str (P := Tryd.prog) (h := h_34) (t := 9) (lit := true) e36) ?_
      obtain ⟨t49, e37, hF⟩ := obind_some hF
      refine WL.b (some 49) (strA t49) h_34 (add_str (P := Tryd.prog) (h := h_34) (t := 9) (lit := true) e37) ?_
      refine oA 50 (strA t1) ?_
      obtain ⟨t51, e38, hF⟩ := obind_some hF
      refine WL.b (some 51) (strA t51) h_34 (add_str (P := Tryd.prog) (h := h_34) (t := 9) (lit := false) e38) ?_
      obtain ⟨t52, e39, hF⟩ := obind_some hF
      refine WL.b (some 52) (strA t52) h_34 (add_str (P := Tryd.prog) (h := h_34) (t := 9) (lit := true) e39) ?_
      refine oC hc (some 53) hF fun r53 h_40 hF => ?_
      refine oA 54 (strA t0) ?_
      obtain ⟨t55, e42, hF⟩ := obind_some hF
      refine WL.b (some 55) (strA t55) h_40 (add_str (P := Tryd.prog) (h := h_40) (t := 9) (lit := true) e42) ?_
      obtain ⟨t56, e43, hF⟩ := obind_some hF
      refine WL.b (some 56) (strA t56) h_40 (add_str (P := Tryd.prog) (h := h_40) (t := 9) (lit := true) e43) ?_
      refine oC hc (some 57) hF fun r57 h_44 hF => ?_
      refine oA 9 r46 ?_
      refine oA 10 r53 ?_
      refine oA 11 r57 ?_
      refine oV [(2, strA t2), (7, r17), (8, r19), (9, r46), (10, r53), (11, r57)] (n29 ?_)
      refine oH fun n46 q46 => ?_
      refine W.s (fun K47 n47 e47 q47 p47 => ?_)
      refine W.r ?_
      refine oA 58 r46 ?_
      replace hF := outK_some hF; obtain ⟨v59, h_48, e49, hF⟩ := hF
      replace hF := obind_some hF; obtain ⟨t59, c50, hF⟩ := hF
      have c50 := avBool_some c50
      subst c50
      refine WL.b (some 59) (.bool t59) h_48 e49 ?_
      refine oA 60 (.bool t59) ?_
      obtain ⟨j63, e52, hF⟩ := lett_some hF
      have J53 : ∀ (t63 : Bool) (h_51 : AHeap), j63 t63 h_51 = some (rR, hR) → WL Tryd.prog w0 m0 (Func.ntmps Tryd.f6) (Code.ops (Code.p1 (Code.p1 (Code.p2 (Code.p2 (Code.p2 (Code.p2 (Code.p2 (codeOf Tryd.f6))))))))) 6 K47 [(2, strA t2), (7, r17), (8, r19), (9, r46), (10, r53), (11, r57), (63, .bool t63)] [] h_51 := by
       intro t63 h_51 hF
       rw [e52] at hF
       refine oA 64 (.bool t63) ?_
       obtain ⟨j67, e55, hF⟩ := lett_some hF
       have J56 : ∀ (t67 : Bool) (h_54 : AHeap), j67 t67 h_54 = some (rR, hR) → WL Tryd.prog w0 m0 (Func.ntmps Tryd.f6) (Code.ops (Code.p1 (Code.p1 (Code.p2 (Code.p2 (Code.p2 (Code.p2 (Code.p2 (codeOf Tryd.f6))))))))) 10 K47 [(2, strA t2), (7, r17), (8, r19), (9, r46), (10, r53), (11, r57), (67, .bool t67)] [] h_54 := by
        intro t67 h_54 hF
        rw [e55] at hF
        refine oV [(2, strA t2), (7, r17), (8, r19), (9, r46), (10, r53), (11, r57), (67, .bool t67)] (n47 ?_)
        cases t67 with
        | true =>
         refine oT hF fun hF => ?_
         refine oG fun n57 => W.r ?_
         refine oA 6 (.bool false) ?_
         refine oV [(6, .bool false)] (n57 (oY (q46 ?_)))
         exact lZ hF [.tmp 6] [.bool false] (rT res_nil)
        | false =>
         refine oU hF fun hF => ?_
         refine oZ (n46 ?_)
         refine oG fun n58 => W.r ?_
         refine oA 12 (.bool false) ?_
         refine oV [(2, strA t2), (7, r17), (8, r19), (9, r46), (10, r53), (11, r57), (12, .bool false)] (n58 ?_)
         refine W.s (fun K59 n59 e59 q59 p59 => ?_)
         refine oG fun n60 => W.r ?_
         refine oA 13 (.int .i64 0) ?_
         refine oV [(2, strA t2), (7, r17), (8, r19), (9, r46), (10, r53), (11, r57), (12, .bool false), (13, .int .i64 0)] (n60 ?_)
         obtain ⟨k62, e62, hF⟩ := lett_some hF
         have J62 : ∀ (t12 : Bool) (h_63 : AHeap), k62 t12 h_63 = some (rR, hR) → Go w0 m0 (Func.ntmps Tryd.f6) (K59 .normal) [(2, strA t2), (7, r17), (8, r19), (9, r46), (10, r53), (11, r57), (12, .bool t12)] [] h_63 := by
          intro t12 h_63 hF
          rw [e62] at hF
          refine n59 ?_
          refine W.s (fun K64 n64 e64 q64 p64 => ?_)
          refine W.r ?_
          refine oA 89 r46 ?_
          refine oA 90 (strA t2) ?_
          refine oCb hc 91 hF fun t91 h_65 hF => ?_
          refine oA 92 (.bool t12) ?_
          refine oB 93 hF fun t93 hF => ?_
          refine oA 94 (.bool t93) ?_
          obtain ⟨j107, e70, hF⟩ := lett_some hF
          have J71 : ∀ (t107 : Bool) (h_69 : AHeap), j107 t107 h_69 = some (rR, hR) → WL Tryd.prog w0 m0 (Func.ntmps Tryd.f6) (Code.ops (Code.p1 (Code.p2 (Code.p2 (Code.p2 (Code.p2 (Code.p2 (Code.p2 (Code.p2 (Code.p2 (codeOf Tryd.f6))))))))))) 19 K64 [(2, strA t2), (7, r17), (11, r57), (107, .bool t107)] [] h_69 := by
           intro t107 h_69 hF
           rw [e70] at hF
           refine oA 108 (.bool t107) ?_
           obtain ⟨j120, e73, hF⟩ := lett_some hF
           have J74 : ∀ (t120 : Bool) (h_72 : AHeap), j120 t120 h_72 = some (rR, hR) → WL Tryd.prog w0 m0 (Func.ntmps Tryd.f6) (Code.ops (Code.p1 (Code.p2 (Code.p2 (Code.p2 (Code.p2 (Code.p2 (Code.p2 (Code.p2 (Code.p2 (codeOf Tryd.f6))))))))))) 32 K64 [(120, .bool t120)] [] h_72 := by
            intro t120 h_72 hF
            rw [e73] at hF
            refine oA 6 (.bool t120) ?_
            refine oV [(6, .bool t120)] (n64 (oY ?_))
            exact lZ hF [.tmp 6] [.bool t120] (rT res_nil)
           cases t107 with
           | true =>
            replace hF := ifB_t hF
            refine oA 109 r57 ?_
            refine oA 110 (strA t2) ?_
            refine oCb hc 111 hF fun t111 h_75 hF => ?_
            refine oA 112 (strA t2) ?_
            refine oB 113 hF fun t113 hF => ?_
            refine oA 114 (.bool t113) ?_
            obtain ⟨j118, e80, hF⟩ := lett_some hF
            have J81 : ∀ (t118 : Bool) (h_79 : AHeap), j118 t118 h_79 = some (rR, hR) → WL Tryd.prog w0 m0 (Func.ntmps Tryd.f6) (Code.ops (Code.p1 (Code.p2 (Code.p2 (Code.p2 (Code.p2 (Code.p2 (Code.p2 (Code.p2 (Code.p2 (codeOf Tryd.f6))))))))))) 30 K64 [(108, .bool true), (111, .bool t111), (118, .bool t118)] [] h_79 := by
             intro t118 h_79 hF
             rw [e80] at hF
             refine oB 119 hF fun t119 hF => ?_
             refine oA 120 (.bool t119) ?_
             exact lW _ (J74 _ _ hF)
            cases t113 with
            | true =>
             replace hF := ifB_t hF
             refine WL.o (some 115) ?_
             refine WL.o (some 116) ?_
             refine WL.o (some 117) ?_
             refine oA 118 (.bool true) ?_
             exact lW _ (J81 _ _ hF)
            | false =>
             replace hF := ifB_f hF
             refine oA 115 r17 ?_
             refine oA 116 (strA t2) ?_
             refine oCb hc 117 hF fun t117 h_83 hF => ?_
             refine oA 118 (.bool t117) ?_
             exact lW _ (J81 _ _ hF)
           | false =>
            replace hF := ifB_f hF
            refine WL.o (some 109) ?_
            refine WL.o (some 110) ?_
            refine WL.o (some 111) ?_
            refine WL.o (some 112) ?_
            refine WL.o (some 113) ?_
            refine WL.o (some 114) ?_
            refine WL.o (some 115) ?_
            refine WL.o (some 116) ?_
            refine WL.o (some 117) ?_
            refine WL.o (some 118) ?_
            refine WL.o (some 119) ?_
            refine oA 120 (.bool false) ?_
            exact lW _ (J74 _ _ hF)
          cases t93 with
          | true =>
           replace hF := ifB_t hF
           refine oA 95 r53 ?_
           refine oA 96 (strA t2) ?_
           refine oCb hc 97 hF fun t97 h_86 hF => ?_
           refine oA 98 r17 ?_
           refine oA 99 (strA t2) ?_
           refine oCb hc 100 hF fun t100 h_89 hF => ?_
           refine oA 101 (.bool t100) ?_
           obtain ⟨j105, e93, hF⟩ := lett_some hF
           have J94 : ∀ (t105 : Bool) (h_92 : AHeap), j105 t105 h_92 = some (rR, hR) → WL Tryd.prog w0 m0 (Func.ntmps Tryd.f6) (Code.ops (Code.p1 (Code.p2 (Code.p2 (Code.p2 (Code.p2 (Code.p2 (Code.p2 (Code.p2 (Code.p2 (codeOf Tryd.f6))))))))))) 17 K64 [(2, strA t2), (7, r17), (11, r57), (94, .bool true), (97, .bool t97), (105, .bool t105)] [] h_92 := by
            intro t105 h_92 hF
            rw [e93] at hF
            refine oB 106 hF fun t106 hF => ?_
            refine oA 107 (.bool t106) ?_
            exact lW _ (J71 _ _ hF)
           cases t100 with
           | true =>
            replace hF := ifB_t hF
            refine WL.o (some 102) ?_
            refine WL.o (some 103) ?_
            refine WL.o (some 104) ?_
            refine oA 105 (.bool true) ?_
            exact lW _ (J94 _ _ hF)
           | false =>
            replace hF := ifB_f hF
            refine oA 102 r19 ?_
            refine oA 103 (strA t2) ?_
            refine oCb hc 104 hF fun t104 h_96 hF => ?_
            refine oA 105 (.bool t104) ?_
            exact lW _ (J94 _ _ hF)
          | false =>
           replace hF := ifB_f hF
           refine WL.o (some 95) ?_
           refine WL.o (some 96) ?_
           refine WL.o (some 97) ?_
           refine WL.o (some 98) ?_
           refine WL.o (some 99) ?_
           refine WL.o (some 100) ?_
           refine WL.o (some 101) ?_
           refine WL.o (some 102) ?_
           refine WL.o (some 103) ?_
           refine WL.o (some 104) ?_
           refine WL.o (some 105) ?_
           refine WL.o (some 106) ?_
           refine oA 107 (.bool false) ?_
           exact lW _ (J71 _ _ hF)
         refine W.blockK (by kernel_rfl) (fun K61 n61 s61 o61 q61 p61 => ?_)
         refine W.loopK (by kernel_rfl) (fun I99 K99 b99 n99 e99 q99 p99 => ?_)
         have L99 : ∀ (m : Nat) (t12_100 : Bool) (t13 : Int) (h_101 : AHeap), law10_NfaJoins_L0 call t2 r17 r19 k62 m t12_100 t13 h_101 = some (rR, hR) → Go w0 m0 (Func.ntmps Tryd.f6) I99 [(2, strA t2), (7, r17), (8, r19), (9, r46), (10, r53), (11, r57), (12, .bool t12_100), (13, .int .i64 t13)] [] h_101 := by
          intro m
          induction m with
          | zero => intro t12_100 t13 h_101 hF; cases hF
          | succ m ih99 =>
           intro t12_100 t13 h_101 hF
           rw [law10_NfaJoins_L0_s] at hF; unfold law10_NfaJoins_L0b at hF
           refine b99 ?_
           refine W.s (fun K102 n102 e102 q102 p102 => ?_)
           refine oG fun n103 => W.r ?_
           refine oA 68 (.int .i64 t13) ?_
           refine oA 69 (strA t2) ?_
           refine oA 70 (.int .i64 (lenS t2)) ?_
           refine oB 71 hF fun t71 hF => ?_
           refine oV [(2, strA t2), (7, r17), (8, r19), (9, r46), (10, r53), (11, r57), (12, .bool t12_100), (13, .int .i64 t13), (71, .bool t71)] (n103 ?_)
           cases t71 with
           | true =>
            refine oT hF fun hF => ?_
            refine oZ (n102 ?_)
            refine oG fun n105 => ?_
            refine W.blockK (by kernel_rfl) (fun K106 n106 s106 o106 q106 p106 => ?_)
            refine W.r ?_
            refine oA 74 (.bool t12_100) ?_
            refine oA 75 (.bool t12_100) ?_
            obtain ⟨j88, e108, hF⟩ := lett_some hF
            have J109 : ∀ (t88 : Bool) (h_107 : AHeap), j88 t88 h_107 = some (rR, hR) → WL Tryd.prog w0 m0 (Func.ntmps Tryd.f6) (Code.ops (Code.p1 (Code.p1 (Code.p2 (Code.p1 (Code.p1 (Code.p2 (Code.p1 (Code.p2 (Code.p2 (Code.p2 (Code.p2 (Code.p2 (Code.p2 (Code.p2 (codeOf Tryd.f6)))))))))))))))) 15 K106 [(2, strA t2), (7, r17), (8, r19), (9, r46), (10, r53), (11, r57), (13, .int .i64 t13), (88, .bool t88)] [] h_107 := by
             intro t88 h_107 hF
             rw [e108] at hF
             refine oA 12 (.bool t88) ?_
             refine oV [(2, strA t2), (7, r17), (8, r19), (9, r46), (10, r53), (11, r57), (12, .bool t88), (13, .int .i64 t13)] (n106 (n105 (W.r ?_)))
             refine oA 72 (.int .i64 t13) ?_
             refine oI 73 .i64 hF fun t73 hF => ?_
             refine oA 13 (.int .i64 t73) ?_
             refine oV [(2, strA t2), (7, r17), (8, r19), (9, r46), (10, r53), (11, r57), (12, .bool t88), (13, .int .i64 t73)] (n99 ?_)
             exact gW _ (ih99 _ _ _ hF)
            cases t12_100 with
            | true =>
             replace hF := ifB_t hF
             refine WL.o (some 76) ?_
             refine WL.o (some 77) ?_
             refine WL.o (some 78) ?_
             refine WL.o (some 79) ?_
             refine WL.o (some 80) ?_
             refine WL.o (some 81) ?_
             refine WL.o (some 82) ?_
             refine WL.o (some 83) ?_
             refine WL.o (some 84) ?_
             refine WL.o (some 85) ?_
             refine WL.o (some 86) ?_
             refine WL.o (some 87) ?_
             refine oA 88 (.bool true) ?_
             exact lW _ (J109 _ _ hF)
            | false =>
             replace hF := ifB_f hF
             refine oA 76 r17 ?_
             refine oA 77 (strA t2) ?_
             refine oA 78 (.int .i64 t13) ?_
             obtain ⟨t79, e111, hF⟩ := obind_some hF
             refine WL.b (some 79) (strA t79) h_101 (slice_str (P := Tryd.prog) (h := h_101) (t := 9) (A := none) (B := (some (.int .i64 t13))) (by kernel_rfl) (.inr ⟨rfl, rfl⟩) (.inl ⟨_, rfl⟩) e111) ?_
             refine oCb hc 80 hF fun t80 h_112 hF => ?_
             refine oA 81 (.bool t80) ?_
             obtain ⟨j87, e116, hF⟩ := lett_some hF
             have J117 : ∀ (t87 : Bool) (h_115 : AHeap), j87 t87 h_115 = some (rR, hR) → WL Tryd.prog w0 m0 (Func.ntmps Tryd.f6) (Code.ops (Code.p1 (Code.p1 (Code.p2 (Code.p1 (Code.p1 (Code.p2 (Code.p1 (Code.p2 (Code.p2 (Code.p2 (Code.p2 (Code.p2 (Code.p2 (Code.p2 (codeOf Tryd.f6)))))))))))))))) 14 K106 [(2, strA t2), (7, r17), (8, r19), (9, r46), (10, r53), (11, r57), (13, .int .i64 t13), (75, .bool false), (87, .bool t87)] [] h_115 := by
              intro t87 h_115 hF
              rw [e116] at hF
              refine oA 88 (.bool t87) ?_
              exact lW _ (J109 _ _ hF)
             cases t80 with
             | true =>
              replace hF := ifB_t hF
              refine oA 82 r19 ?_
              refine oA 83 (strA t2) ?_
              refine oA 84 (.int .i64 t13) ?_
              obtain ⟨t85, e118, hF⟩ := obind_some hF
              refine WL.b (some 85) (strA t85) h_112 (slice_str (P := Tryd.prog) (h := h_112) (t := 9) (A := (some (.int .i64 t13))) (B := none) (by kernel_rfl) (.inl ⟨_, rfl⟩) (.inr ⟨rfl, rfl⟩) e118) ?_
              refine oCb hc 86 hF fun t86 h_119 hF => ?_
              refine oA 87 (.bool t86) ?_
              exact lW _ (J117 _ _ hF)
             | false =>
              replace hF := ifB_f hF
              refine WL.o (some 82) ?_
              refine WL.o (some 83) ?_
              refine WL.o (some 84) ?_
              refine WL.o (some 85) ?_
              refine WL.o (some 86) ?_
              refine oA 87 (.bool false) ?_
              exact lW _ (J117 _ _ hF)
           | false =>
            refine oU hF fun hF => ?_
            refine W.exit (by kernel_rfl) ?_
            refine e102 (e99 ?_)
            refine s61 (by kernel_rfl) ?_
            exact gW _ (J62 _ _ hF)
         exact gW _ (L99 _ _ _ _ hF)
       cases t63 with
       | true =>
        replace hF := ifB_t hF
        refine WL.o (some 65) ?_
        refine WL.o (some 66) ?_
        refine oA 67 (.bool true) ?_
        exact lW _ (J56 _ _ hF)
       | false =>
        replace hF := ifB_f hF
        refine oA 65 r57 ?_
        replace hF := outK_some hF; obtain ⟨v66, h_122, e123, hF⟩ := hF
        replace hF := obind_some hF; obtain ⟨t66, c124, hF⟩ := hF
        have c124 := avBool_some c124
        subst c124
        refine WL.b (some 66) (.bool t66) h_122 e123 ?_
        refine oA 67 (.bool t66) ?_
        exact lW _ (J56 _ _ hF)
      cases t59 with
      | true =>
       replace hF := ifB_t hF
       refine WL.o (some 61) ?_
       refine WL.o (some 62) ?_
       refine oA 63 (.bool true) ?_
       exact lW _ (J53 _ _ hF)
      | false =>
       replace hF := ifB_f hF
       refine oA 61 r53 ?_
       replace hF := outK_some hF; obtain ⟨v62, h_125, e126, hF⟩ := hF
       replace hF := obind_some hF; obtain ⟨t62, c127, hF⟩ := hF
       have c127 := avBool_some c127
       subst c127
       refine WL.b (some 62) (.bool t62) h_125 e126 ?_
       refine oA 63 (.bool t62) ?_
       exact lW _ (J53 _ _ hF)
    cases t34 with
    | true =>
     replace hF := ifB_t hF
     refine WL.o (some 36) ?_
     refine WL.o (some 37) ?_
     refine WL.o (some 38) ?_
     refine oA 39 (.bool true) ?_
     exact lW _ (J27 _ _ hF)
    | false =>
     replace hF := ifB_f hF
     refine oA 36 (strA t2) ?_
     refine oA 37 (.int .i64 (lenS t2)) ?_
     refine oB 38 hF fun t38 hF => ?_
     refine oA 39 (.bool t38) ?_
     exact lW _ (J27 _ _ hF)
   cases t25 with
   | true =>
    replace hF := ifB_t hF
    refine WL.o (some 27) ?_
    refine WL.o (some 28) ?_
    refine WL.o (some 29) ?_
    refine WL.o (some 30) ?_
    refine WL.o (some 31) ?_
    refine WL.o (some 32) ?_
    refine WL.o (some 33) ?_
    refine oA 34 (.bool true) ?_
    exact lW _ (J24 _ _ hF)
   | false =>
    replace hF := ifB_f hF
    refine oA 27 (strA t0) ?_
    refine oA 28 (.int .i64 (lenS t0)) ?_
    refine oA 29 (strA t1) ?_
    refine oA 30 (.int .i64 (lenS t1)) ?_
    refine oI 31 .i64 hF fun t31 hF => ?_
    refine oI 32 .i64 hF fun t32 hF => ?_
    refine oB 33 hF fun t33 hF => ?_
    refine oA 34 (.bool t33) ?_
    exact lW _ (J24 _ _ hF)
  cases t21 with
  | true =>
   replace hF := ifB_t hF
   refine WL.o (some 23) ?_
   refine WL.o (some 24) ?_
   refine oA 25 (.bool true) ?_
   exact lW _ (J21 _ _ hF)
  | false =>
   replace hF := ifB_f hF
   refine oA 23 r19 ?_
   replace hF := outK_some hF; obtain ⟨v24, h_132, e133, hF⟩ := hF
   replace hF := obind_some hF; obtain ⟨t24, c134, hF⟩ := hF
   have c134 := avBool_some c134
   subst c134
   refine WL.b (some 24) (.bool t24) h_132 e133 ?_
   refine oA 25 (.bool t24) ?_
   exact lW _ (J21 _ _ hF)
noncomputable def law10_re (call : CallF) (_ : Nat) (t0 : Bytes) (h : AHeap) : R :=
 callN (call 12 [.agg ([.int .i64 3, strA t0] : List AV)] h) fun r8 h_3 =>
 obind (extT 0 r8) fun v9 =>
 obind (extT 1 r8) fun v10 =>
 obind (avInt .i64 v10) fun t10 =>
 lett ((t10 : Int) != 0) fun (t12 : Bool) =>
 ifB t12
 (
  some (.ret (AV.nilp), h_3))
 (
  some (.ret (v9), h_3))
set_option maxHeartbeats 4000000 in
set_option maxRecDepth 20000 in
theorem law10_re_ok {call : CallF} (hc : SaysAll Tryd.prog call) {n : Nat} {t0 : Bytes} {h : AHeap} {rR : ARes} {hR : AHeap} (hF : law10_re call n t0 h = some (rR, hR)) : Says Tryd.prog 22 [strA t0] h rR hR := by
 unfold law10_re at hF
 refine sO Tryd.func22 fun w0 m0 => ?_
 refine wW [(0, strA t0)] ?_
 refine oG fun n1 => W.r ?_
 refine oA 2 AV.nilp ?_
 refine oV [(0, strA t0)] (n1 ?_)
 refine oG fun n2 => W.r ?_
 refine oA 6 (strA t0) ?_
 refine oA 7 (.agg ([.int .i64 3, strA t0] : List AV)) ?_
 refine oC hc (some 8) hF fun r8 h_3 hF => ?_
 refine oA 5 r8 ?_
 refine oE 9 hF fun v9 hF => ?_
 refine oEi 10 hF fun t10 hF => ?_
 refine oA 3 v9 ?_
 refine oA 4 (.int .i64 t10) ?_
 refine oV [(3, v9), (4, .int .i64 t10)] (n2 ?_)
 refine oH fun n8 q8 => ?_
 refine oG fun n9 => W.r ?_
 refine oA 11 (.int .i64 t10) ?_
 refine oB 12 hF fun t12 hF => ?_
 refine oV [(3, v9), (12, .bool t12)] (n9 ?_)
 cases t12 with
 | true =>
  refine oT hF fun hF => ?_
  refine oG fun n11 => W.r ?_
  refine oA 2 AV.nilp ?_
  refine oV [(2, AV.nilp)] (n11 (oY (q8 ?_)))
  exact lZ hF [.tmp 2] [AV.nilp] (rT res_nil)
 | false =>
  refine oU hF fun hF => ?_
  refine oZ (n8 ?_)
  refine oG fun n12 => W.r ?_
  refine oA 13 v9 ?_
  refine oA 2 v9 ?_
  refine oV [(2, v9)] (n12 (oY ?_))
  exact lZ hF [.tmp 2] [v9] (rT res_nil)
section
variable {a b : Bytes} {x y : Nd}
theorem re_cnt (h : AltP a [] 0 (.ok (x, a.length))) : cntN x ≤ a.length := by
 have := altP_cnt h _ _ rfl (Nat.zero_le _)
 rw [cntL] at this
 omega
theorem small_of {t : Nd} (h : cntN t ≤ 64) : (fragT t 0).2 ≤ 64 := by
 have := frag_cnt t 0
 omega
def splitB (x y : Nd) (s : Bytes) : Nat → Bool
 | 0 => false
 | i + 1 => splitB x y s i || (matchN (netOf x) (s.take i) && matchN (netOf y) (s.drop i))
theorem split_iff (s : Bytes) : ∀ i, splitB x y s i = true ↔ ∃ k, k < i ∧ matchN (netOf x) (s.take k) = true ∧ matchN (netOf y) (s.drop k) = true
 | 0 => by
  rw [splitB]
  simp
 | i + 1 => by
  rw [splitB, Bool.or_eq_true, Bool.and_eq_true, split_iff s i]
  constructor
  ·rintro (⟨k, h, h2⟩ | h)
   ·exact ⟨k, by omega, h2⟩
   ·exact ⟨i, by omega, h⟩
  ·rintro ⟨k, h, h2⟩
   by_cases hk : k = i
   ·subst hk
    exact .inr h2
   ·exact .inl ⟨k, by omega, h2⟩
theorem cat_match (hx : cntN x ≤ 64) (hy : cntN y ≤ 64) (hc : cntN (overN 3 [x, y]) ≤ 64) (s : Bytes) : matchN (netOf (overN 3 [x, y])) s = splitB x y s (s.length + 1) := by
 have h : matchN (netOf (overN 3 [x, y])) s = true ↔ splitB x y s (s.length + 1) = true := by
  rw [match_lang (small_of hc), split_iff]
  show Cat (Lang x) (Cat (Lang y) fun s => s = []) (s.map UInt8.toNat) ↔ _
  constructor
  ·rintro ⟨s1, s2, e, h1, h2⟩
   rw [cat_nil_right] at h2
   have l1 : s1.length ≤ s.length := by
    have := congrArg List.length e
    rw [List.length_map, List.length_append] at this
    omega
   have t1 : (s.take s1.length).map UInt8.toNat = s1 := by rw [List.map_take, e, List.take_left']; rfl
   have t2 : (s.drop s1.length).map UInt8.toNat = s2 := by rw [List.map_drop, e, List.drop_left']; rfl
   refine ⟨s1.length, by omega, (match_lang (small_of hx) _).2 ?_, (match_lang (small_of hy) _).2 ?_⟩
   ·rw [t1]
    exact h1
   ·rw [t2]
    exact h2
  ·rintro ⟨k, _, h1, h2⟩
   refine ⟨(s.take k).map UInt8.toNat, (s.drop k).map UInt8.toNat, ?_, (match_lang (small_of hx) _).1 h1, (cat_nil_right _).2 ((match_lang (small_of hy) _).1 h2)⟩
   rw [← List.map_append, List.take_append_drop]
 cases h1 : matchN (netOf (overN 3 [x, y])) s with
 | true => exact (h.1 h1).symm
 | false =>
  cases h2 : splitB x y s (s.length + 1) with
  | false => rfl
  | true =>
   rw [h.2 h2] at h1
   cases h1
theorem alt_match (hx : cntN x ≤ 64) (hy : cntN y ≤ 64) (hc : cntN (overN 4 [x, y]) ≤ 64) (s : Bytes) : matchN (netOf (overN 4 [x, y])) s = (matchN (netOf x) s || matchN (netOf y) s) := by
 have h : matchN (netOf (overN 4 [x, y])) s = true ↔ (matchN (netOf x) s || matchN (netOf y) s) = true := by
  rw [match_lang (small_of hc), Bool.or_eq_true, match_lang (small_of hx), match_lang (small_of hy)]
  show (Lang x _ ∨ (Lang y _ ∨ False)) ↔ _
  rw [or_false]
 cases h1 : matchN (netOf (overN 4 [x, y])) s with
 | true => exact (h.1 h1).symm
 | false =>
  cases h2 : (matchN (netOf x) s || matchN (netOf y) s) with
  | false => rfl
  | true =>
   rw [h.2 h2] at h1
   cases h1
theorem opt_match (hx : cntN x ≤ 64) (s : Bytes) : matchN (netOf (overN 7 [x])) s = (eqS s [] || matchN (netOf x) s) := by
 have hc : cntN (overN 7 [x]) ≤ 64 := by rw [over_cnt (by decide)]; exact hx
 have h : matchN (netOf (overN 7 [x])) s = true ↔ (eqS s [] || matchN (netOf x) s) = true := by
  rw [match_lang (small_of hc), Bool.or_eq_true, match_lang (small_of hx), eqS_true]
  show (s.map UInt8.toNat = [] ∨ Lang x _) ↔ _
  rw [List.map_eq_nil_iff]
 cases h1 : matchN (netOf (overN 7 [x])) s with
 | true => exact (h.1 h1).symm
 | false =>
  cases h2 : (eqS s [] || matchN (netOf x) s) with
  | false => rfl
  | true =>
   rw [h.2 h2] at h1
   cases h1
end
noncomputable def orC (a b : CallF) : CallF := fun f args h => match a f args h with
 | some r => some r
 | none => b f args h
theorem orC_ok {P : Program} {a b : CallF} (ha : SaysAll P a) (hb : SaysAll P b) : SaysAll P (orC a b) := by
 intro f args h r h' e
 unfold orC at e
 split at e
 ·rename_i r' e2
  cases e
  exact ha _ _ _ _ _ e2
 ·exact hb _ _ _ _ _ e
noncomputable def world2 (n d : Nat) : CallF := orC (callOf [(22, fn1 Ds (law10_re (world n d) n))]) (world n d)
theorem world2_ok (n d : Nat) : SaysAll Tryd.prog (world2 n d) := orC_ok (callOf_cons (fn1_holds Ds (law10_re_ok (world_ok n d))) callOf_nil) (world_ok n d)
theorem w2_re {n d : Nat} {a : Bytes} {h : AHeap} {x : ARes × AHeap} (e : law10_re (world n d) n a h = some x) : world2 n d 22 [strA a] h = some x := by
 have e2 : fn1 Ds (law10_re (world n d) n) [strA a] h = some x := (fn1_eq Ds _ a h).trans e
 show (match fn1 Ds (law10_re (world n d) n) [strA a] h with
  | some r => some r
  | none => _) = some x
 rw [e2]
theorem w2_match (n d : Nat) (args : List AV) (h : AHeap) : world2 n d 14 args h = world n d 14 args h := rfl
theorem w2_works (n d : Nat) (args : List AV) (h : AHeap) : world2 n d 11 args h = world n d 11 args h := rfl
section
variable {n D : Nat} {a : Bytes}
theorem re_bad {h : AHeap} (hb : world n (D + 3 + 1) 12 [.agg [.int .i64 3, strA a]] h = some (.ret (.tup [.nilp, .int .i64 2]), h)) : world2 n (D + 4) 22 [strA a] h = some (.ret .nilp, h) := by
 refine w2_re (Wp.eq ?_)
 unfold law10_re
 refine Wp.callN hb ?_
 repeat (first | (with_reducible refine Wp.lett ?_) | ((with_reducible apply Wp.obind); (with_reducible first | exact avInt_int _ _ | exact extT_0 _ _ | exact extT_1 _ _ _)) | ((with_reducible refine Wp.ift ?_ ?_); ((with_reducible apply bne_t); omega)))
 exact Wp.ret ⟨rfl, rfl⟩
theorem re_good {h h' : AHeap} {nb : Nat} (hb : world n (D + 3 + 1) 12 [.agg [.int .i64 3, strA a]] h = some (.ret (.tup [.ptr nb 0, .int .i64 0]), h')) : world2 n (D + 4) 22 [strA a] h = some (.ret (.ptr nb 0), h') := by
 refine w2_re (Wp.eq ?_)
 unfold law10_re
 refine Wp.callN hb ?_
 repeat (first | (with_reducible refine Wp.lett ?_) | ((with_reducible apply Wp.obind); (with_reducible first | exact avInt_int _ _ | exact extT_0 _ _ | exact extT_1 _ _ _)) | ((with_reducible refine Wp.iff ?_ ?_); ((with_reducible apply bne_f); omega)))
 exact Wp.ret ⟨rfl, rfl⟩
theorem re_all (a : Bytes) (hn : 18446744073709551620 < n) (hD : 1000 ≤ D) : (∀ h : AHeap, memB TNode h.ex = false → world2 n (D + 4) 22 [strA a] h = some (.ret .nilp, h)) ∨
  ∃ t, AltP a [] 0 (.ok (t, a.length)) ∧ a.length ≤ 64 ∧ ∀ h : AHeap, memB TNode h.ex = false → ∃ nb h', world2 n (D + 4) 22 [strA a] h = some (.ret (.ptr nb 0), h') ∧ Abs.Mem [] h h' [(nb, TNet, netC (netOf t))] := by
 rcases of_all 3 a (n := n) (d := D + 3) hn (by omega) with hb | ⟨t, tp, hl, ht⟩
 ·exact .inl fun h hx => re_bad (hb h hx)
 ·refine .inr ⟨t, ?_, hl, fun h hx => ?_⟩
  ·generalize hk : (3 : Int) = k at tp
   generalize hr : Except.ok t = r at tp
   cases tp with
   | lit a => cases hk
   | glob a => cases hk
   | re_bad a => cases hr
   | re_end a n => cases hr
   | re a =>
    cases hr
    exact a
  ·obtain ⟨nb, h', e, M⟩ := ht h hx
   exact ⟨nb, h', re_good e, M⟩
theorem re_tree2 {t : Nd} (hu : a.length ≤ 64) (ht : ∀ r, TreeP a 3 r → r = .ok t) (hn : 18446744073709551620 < n) (hD : 1000 ≤ D) {h : AHeap} (hx : memB TNode h.ex = false) : ∃ nb h', world2 n (D + 4) 22 [strA a] h = some (.ret (.ptr nb 0), h') ∧ Abs.Mem [] h h' [(nb, TNet, netC (netOf t))] := by
 obtain ⟨nb, h', e, M⟩ := of_tree (n := n) (d := D + 3) (.inr (.inr rfl)) hu ht hn (by omega) hx
 exact ⟨nb, h', re_good e, M⟩
end
theorem sl1_nat {u : Bytes} {a b : Nat} (h1 : a ≤ b) (h2 : b ≤ u.length) : sliceS u (a : Int) (b : Int) = some ((u.drop a).take (b - a)) := by
 have := sliceS_int (l := u) (a := (a : Int)) (b := (b : Int)) (by omega) (by omega) (by omega)
 simpa using this
section
variable {n D bx cy : Nat} {h0 : AHeap} {Q : ARes → AHeap → Prop} {x y : Nd}
theorem match2 {N : Nt} {nb : Nat} {h : AHeap} {s : Bytes} (hT : HasTz h) (hN : NtOk N) (hn : 18446744073709551620 < n) (hl : s.length < 1000000000) (kn : RowH h nb TNet (netC N)) (hnb : nb < h.next) : ∃ h', world2 n (D + 4) 14 [.ptr nb 0, strA s] h = some (.ret (.bool (matchN N s)), h') ∧ Tch [] h h' := by
 obtain ⟨h', e, t⟩ := match_r (n := n) (d := D) hT hN (by omega) hl kn hnb
 exact ⟨h', (w2_match _ _ _ _).trans e, t⟩
theorem joins_loop {s : Bytes} {k62 : Bool → AHeap → R} (hT : HasTz h0) (hn : 18446744073709551620 < n) (hl : s.length < 1000000) (kx : RowH h0 bx TNet (netC (netOf x))) (hx : bx < h0.next) (ky : RowH h0 cy TNet (netC (netOf y))) (hy : cy < h0.next)
  (hk : ∀ H, Tch [] h0 H → Wp (k62 (splitB x y s (s.length + 1)) H) Q) :
  ∀ (m f i : Nat) (H : AHeap), m < f → i + m = s.length + 1 → Tch [] h0 H → Wp (law10_NfaJoins_L0 (world2 n (D + 4)) s (.ptr bx 0) (.ptr cy 0) k62 f (splitB x y s i) (i : Int) H) Q
 | _, 0, _, _, hf, _, _ => by omega
 | 0, f + 1, i, H, hf, hm, t => by
  have ll := lenS_nat s
  have : i = s.length + 1 := by omega
  subst this
  rw [law10_NfaJoins_L0_s]
  unfold law10_NfaJoins_L0b
  ((with_reducible refine Wp.lett ?_))
  refine Wp.iff (decide_eq_false (by omega)) ?_
  exact hk H t
 | m + 1, f + 1, i, H, hf, hm, t => by
  have ll := lenS_nat s
  have el : (i : Int) + 1 = ((i + 1 : Nat) : Int) := by omega
  have s1 : sliceS s 0 (i : Int) = some (s.take i) := by
   have := sl1_nat (u := s) (a := 0) (b := i) (by omega) (by omega)
   simpa using this
  have s2 : sliceS s (i : Int) (lenS s) = some (s.drop i) := by
   rw [ll, sl1_nat (by omega) (Nat.le_refl _), List.take_of_length_le (by rw [List.length_drop]; exact Nat.le_refl _)]
  have lt : (s.take i).length < 1000000000 := by rw [List.length_take]; omega
  have ld : (s.drop i).length < 1000000000 := by rw [List.length_drop]; omega
  have fin := fun H t => joins_loop hT hn hl kx hx ky hy hk m f (i + 1) H (by omega) (by omega) t
  rw [law10_NfaJoins_L0_s]
  unfold law10_NfaJoins_L0b
  rw [splitB] at fin
  cases hs : splitB x y s i with
  | true =>
   rw [hs] at fin
   repeat (first | (with_reducible refine Wp.join1 (fun _ _ => ?_)) | ((with_reducible refine Wp.lettw ?_ ?_ ?_); omega; omega) | (with_reducible refine Wp.lett ?_) | ((with_reducible refine Wp.ift ?_ ?_); first | (with_reducible rfl) | ((with_reducible apply decide_eq_true); omega)) | (with_reducible refine Wp.go1 (by assumption) ?_))
   rw [el]
   exact fin H t
  | false =>
   rw [hs, Bool.false_or] at fin
   repeat (first | (with_reducible refine Wp.join1 (fun _ _ => ?_)) | (with_reducible refine Wp.lett ?_) | ((with_reducible apply Wp.obind); (with_reducible exact s1)) | ((with_reducible refine Wp.ift ?_ ?_); ((with_reducible apply decide_eq_true); omega)) | ((with_reducible refine Wp.iff ?_ ?_); (with_reducible rfl)))
   obtain ⟨h1, e1, t1⟩ := match2 (n := n) (D := D) (hT.tch t (by simp)) (netOf_ok x) hn lt (kx.tch t hx (by simp)) (Nat.lt_of_lt_of_le hx t.1)
   refine Wp.callN e1 ?_
   clear e1
   have t2 := t.trans t1
   cases hmx : matchN (netOf x) (s.take i) with
   | false =>
    rw [hmx] at fin
    repeat (first | (with_reducible refine Wp.join1 (fun _ _ => ?_)) | ((with_reducible refine Wp.lettw ?_ ?_ ?_); omega; omega) | ((with_reducible apply Wp.obind); (with_reducible exact avBool_bool _)) | ((with_reducible refine Wp.iff ?_ ?_); (with_reducible rfl)) | (with_reducible refine Wp.go1 (by assumption) ?_))
    rw [el]
    exact fin _ t2
   | true =>
    rw [hmx, Bool.true_and] at fin
    repeat (first | (with_reducible refine Wp.join1 (fun _ _ => ?_)) | ((with_reducible apply Wp.obind); (with_reducible first | exact s2 | exact avBool_bool _)) | ((with_reducible refine Wp.ift ?_ ?_); (with_reducible rfl)))
    obtain ⟨h2, e2, t3⟩ := match2 (n := n) (D := D) (hT.tch t2 (by simp)) (netOf_ok y) hn ld (ky.tch t2 hy (by simp)) (Nat.lt_of_lt_of_le hy t2.1)
    refine Wp.callN e2 ?_
    clear e2
    repeat (first | ((with_reducible refine Wp.lettw ?_ ?_ ?_); omega; omega) | ((with_reducible apply Wp.obind); (with_reducible exact avBool_bool _)) | (with_reducible refine Wp.go1 (by assumption) ?_))
    rw [el]
    exact fin _ (t2.trans t3)
end
set_option maxRecDepth 100000 in
theorem nfaJoins_says (h : AHeap) (hX : h.ex = []) (hT : HasTz h) (xs : List AV) (hP : ArgsP Tryd.prog h.next h 12 [9, 9, 9] xs) : ∃ h', Says Tryd.prog 6 xs h (.ret (.bool true)) h' := by
 obtain ⟨_, _, rfl, hp0, hP⟩ := args_cons hP
 obtain ⟨_, _, rfl, hp1, hP⟩ := args_cons hP
 obtain ⟨_, _, rfl, hp2, hP⟩ := args_cons hP
 obtain rfl := args0 hP
 obtain ⟨a, rfl, hsa⟩ := hp0.str Tryd.underlying9
 obtain ⟨b, rfl, hsb⟩ := hp1.str Tryd.underlying9
 obtain ⟨s, rfl, hsc⟩ := hp2.str Tryd.underlying9
 obtain ⟨n, hn⟩ : ∃ n, 18446744073709551620 < n := ⟨_, Nat.lt_succ_self _⟩
 obtain ⟨D, hD⟩ : ∃ D, 1000 ≤ D := ⟨1000, Nat.le_refl _⟩
 suffices hK : Wp (law10_NfaJoins (world2 n (D + 4)) n a b s h) fun r _ => r = .ret (.bool true) by
  obtain ⟨_, h', e, rfl⟩ := hK
  exact ⟨h', law10_NfaJoins_ok (world2_ok n (D + 4)) e⟩
 have hxN : ∀ {h1 : AHeap} {rs : List RowT}, Abs.Mem [] h h1 rs → memB TNode h1.ex = false := fun M => by rw [M.ex, hX]; rfl
 have hTz : ∀ {h1 : AHeap} {rs : List RowT}, Abs.Mem [] h h1 rs → HasTz h1 := fun M => hT.tch M.tch (by simp)
 have reach : reachBytes ≤ 1152921504606846976 := by decide
 unfold law10_NfaJoins
 have Mx := Mem.nil [] h
 have la := lenS_nat a
 have lb := lenS_nat b
 have lc := lenS_nat s
 refine Wp.callN ((w2_works _ _ _ _).trans (works_w (d := D + 2) hn (by omega) (hTz Mx) (hxN Mx))) ?_
 repeat (first | (with_reducible refine Wp.lett ?_) | ((with_reducible apply Wp.obind); (with_reducible exact avBool_bool _)) | ((with_reducible refine Wp.iff ?_ ?_); (with_reducible exact Bool.not_true)))
 rcases re_all a hn hD with ha | ⟨x, ax, hla, ha⟩
 ·refine Wp.callN (ha _ (hxN Mx)) ?_
  rcases re_all b hn hD with hb | ⟨y, ay, hlb, hb⟩
  ·refine Wp.callN (hb _ (hxN Mx)) ?_
   repeat (first | (with_reducible refine Wp.join1 (fun _ _ => ?_)) | ((with_reducible apply Wp.obind); (with_reducible exact avBool_bool _)) | ((with_reducible refine Wp.ift ?_ ?_); (with_reducible rfl)) | ((with_reducible apply Wp.outK); (with_reducible exact nilNet _)) | (with_reducible refine Wp.go1 (by assumption) ?_))
   exact Wp.ret rfl
  ·obtain ⟨cy, h2, e2, N2⟩ := hb _ (hxN Mx)
   refine Wp.callN e2 ?_
   repeat (first | (with_reducible refine Wp.join1 (fun _ _ => ?_)) | ((with_reducible apply Wp.obind); (with_reducible exact avBool_bool _)) | ((with_reducible refine Wp.ift ?_ ?_); (with_reducible rfl)) | ((with_reducible apply Wp.outK); (with_reducible exact nilNet _)) | (with_reducible refine Wp.go1 (by assumption) ?_))
   exact Wp.ret rfl
 obtain ⟨bx, h1, e1, N1⟩ := ha _ (hxN Mx)
 refine Wp.callN e1 ?_
 have M1 := Mem.frame (xs := []) Mx N1
 simp only [List.nil_append, List.cons_append] at M1
 clear Mx N1 e1 ha
 rcases re_all b hn hD with hb | ⟨y, ay, hlb, hb⟩
 ·refine Wp.callN (hb _ (hxN M1)) ?_
  repeat (first | (with_reducible refine Wp.join1 (fun _ _ => ?_)) | ((with_reducible apply Wp.obind); (with_reducible exact avBool_bool _)) | ((with_reducible refine Wp.ift ?_ ?_); (with_reducible rfl)) | ((with_reducible refine Wp.iff ?_ ?_); (with_reducible rfl)) | ((with_reducible apply Wp.outK); (with_reducible first | exact eqNet _ _ _ | exact nilNet _)) | (with_reducible refine Wp.go1 (by assumption) ?_))
  exact Wp.ret rfl
 obtain ⟨cy, h2, e2, N2⟩ := hb _ (hxN M1)
 refine Wp.callN e2 ?_
 have M2 := Mem.frame (xs := []) M1 N2
 simp only [List.nil_append, List.cons_append] at M2
 clear M1 N2 e2 hb
 by_cases hl1 : 64 < a.length + b.length + 5
 ·repeat (first | (with_reducible refine Wp.join1 (fun _ _ => ?_)) | ((with_reducible refine Wp.lettw ?_ ?_ ?_); omega; omega) | (with_reducible refine Wp.lett ?_) | ((with_reducible apply Wp.obind); (with_reducible exact avBool_bool _)) | ((with_reducible refine Wp.ift ?_ ?_); first | (with_reducible rfl) | ((with_reducible apply decide_eq_true); omega)) | ((with_reducible refine Wp.iff ?_ ?_); (with_reducible rfl)) | ((with_reducible apply Wp.outK); (with_reducible exact eqNet _ _ _)) | (with_reducible refine Wp.go1 (by assumption) ?_))
  exact Wp.ret rfl
 by_cases hl2 : 60 < s.length
 ·repeat (first | (with_reducible refine Wp.join1 (fun _ _ => ?_)) | ((with_reducible refine Wp.lettw ?_ ?_ ?_); omega; omega) | (with_reducible refine Wp.lett ?_) | ((with_reducible apply Wp.obind); (with_reducible exact avBool_bool _)) | ((with_reducible refine Wp.ift ?_ ?_); ((with_reducible apply decide_eq_true); omega)) | ((with_reducible refine Wp.iff ?_ ?_); first | (with_reducible rfl) | ((with_reducible apply decide_eq_false); omega)) | ((with_reducible apply Wp.outK); (with_reducible exact eqNet _ _ _)) | (with_reducible refine Wp.go1 (by assumption) ?_))
  exact Wp.ret rfl
 have A1 : addS [40] a = some ([40] ++ a) := addS_val (by simp; omega)
 have A2 : addS ([40] ++ a) [41, 40] = some ([40] ++ a ++ [41, 40]) := addS_val (by simp; omega)
 have A3 : addS ([40] ++ a ++ [41, 40]) b = some ([40] ++ a ++ [41, 40] ++ b) := addS_val (by simp; omega)
 have A4 : addS ([40] ++ a ++ [41, 40] ++ b) [41] = some ([40] ++ a ++ [41, 40] ++ b ++ [41]) := addS_val (by simp; omega)
 have B2 : addS ([40] ++ a) [41, 124, 40] = some ([40] ++ a ++ [41, 124, 40]) := addS_val (by simp; omega)
 have B3 : addS ([40] ++ a ++ [41, 124, 40]) b = some ([40] ++ a ++ [41, 124, 40] ++ b) := addS_val (by simp; omega)
 have B4 : addS ([40] ++ a ++ [41, 124, 40] ++ b) [41] = some ([40] ++ a ++ [41, 124, 40] ++ b ++ [41]) := addS_val (by simp; omega)
 have C2 : addS ([40] ++ a) [41, 63] = some ([40] ++ a ++ [41, 63]) := addS_val (by simp; omega)
 repeat (first | (with_reducible refine Wp.join1 (fun _ _ => ?_)) | ((with_reducible refine Wp.lettw ?_ ?_ ?_); omega; omega) | (with_reducible refine Wp.lett ?_) | ((with_reducible apply Wp.obind); (with_reducible first | exact A1 | exact A2 | exact A3 | exact A4 | exact avBool_bool _)) | ((with_reducible refine Wp.iff ?_ ?_); first | (with_reducible rfl) | ((with_reducible apply decide_eq_false); omega)) | ((with_reducible apply Wp.outK); (with_reducible exact eqNet _ _ _)) | (with_reducible refine Wp.go1 (by assumption) ?_))
 have hu3 : ([40] ++ a ++ [41, 40] ++ b ++ [41]).length ≤ 64 := by simp; omega
 obtain ⟨nc, h3, e3, N3⟩ := re_tree2 (n := n) (D := D) (t := overN 3 [x, y]) hu3 (fun r => groups_c (u := [40] ++ a ++ [41, 40] ++ b ++ [41]) ax ay (by simp)) hn hD (hxN M2)
 refine Wp.callN e3 ?_
 have M3 := Mem.frame (xs := []) M2 N3
 simp only [List.nil_append, List.cons_append] at M3
 clear M2 N3 e3
 repeat (((with_reducible apply Wp.obind); (with_reducible first | exact A1 | exact B2 | exact B3 | exact B4)))
 have hu4 : ([40] ++ a ++ [41, 124, 40] ++ b ++ [41]).length ≤ 64 := by simp; omega
 obtain ⟨na, h4, e4, N4⟩ := re_tree2 (n := n) (D := D) (t := overN 4 [x, y]) hu4 (fun r => groups_a (u := [40] ++ a ++ [41, 124, 40] ++ b ++ [41]) ax ay (by simp)) hn hD (hxN M3)
 refine Wp.callN e4 ?_
 have M4 := Mem.frame (xs := []) M3 N4
 simp only [List.nil_append, List.cons_append] at M4
 clear M3 N4 e4
 repeat (((with_reducible apply Wp.obind); (with_reducible first | exact A1 | exact C2)))
 have hu5 : ([40] ++ a ++ [41, 63]).length ≤ 64 := by simp; omega
 obtain ⟨no, h5, e5, N5⟩ := re_tree2 (n := n) (D := D) (t := overN 7 [x]) hu5 (fun r => groups_s (u := [40] ++ a ++ [41, 63]) (c := 63) (op := 7) rfl (by decide) ax (by simp)) hn hD (hxN M4)
 refine Wp.callN e5 ?_
 have M5 := Mem.frame (xs := []) M4 N5
 simp only [List.nil_append, List.cons_append] at M5
 clear M4 N5 e5
 have cx := re_cnt ax
 have cb := re_cnt ay
 have cxy3 : cntN (overN 3 [x, y]) ≤ 64 := by
  show (if 3 = 2 then 1 else cntN x + (cntN y + 0)) ≤ 64
  rw [if_neg (by decide)]
  omega
 have cxy4 : cntN (overN 4 [x, y]) ≤ 64 := by
  show (if 4 = 2 then 1 else cntN x + (cntN y + 0)) ≤ 64
  rw [if_neg (by decide)]
  omega
 have hls : s.length < 1000000000 := by omega
 have hlf : s.length + 1 < n := by omega
 repeat (first | (with_reducible refine Wp.join1 (fun _ _ => ?_)) | ((with_reducible apply Wp.obind); (with_reducible exact avBool_bool _)) | ((with_reducible refine Wp.iff ?_ ?_); (with_reducible rfl)) | ((with_reducible apply Wp.outK); (with_reducible exact eqNet _ _ _)) | (with_reducible refine Wp.go1 (by assumption) ?_))
 rename_i k62 ek62
 refine joins_loop (n := n) (D := D) (x := x) (y := y) (h0 := h5) (hTz M5) hn (by omega) M5.at4.1 M5.at4.2.1 M5.at3.1 M5.at3.2.1 (fun H6 t6 => ?_) (s.length + 1) n 0 _ hlf (Nat.zero_add _) (Tch.refl _ _)
 have M6 := M5.keep t6
 rw [ek62]
 clear ek62 k62 M5
 obtain ⟨g7, e7, t7⟩ := match2 (n := n) (D := D) (s := s) (hTz M6) (netOf_ok _) hn hls M6.at2.1 M6.at2.2.1
 refine Wp.callN e7 ?_
 have M7 := M6.keep t7
 clear e7 M6
 rw [cat_match (by omega) (by omega) cxy3]
 repeat (first | (with_reducible refine Wp.join1 (fun _ _ => ?_)) | (with_reducible refine Wp.lett ?_) | ((with_reducible apply Wp.obind); (with_reducible exact avBool_bool _)))
 refine Wp.ift (beq_self_eq_true _) ?_
 obtain ⟨g8, e8, t8⟩ := match2 (n := n) (D := D) (s := s) (hTz M7) (netOf_ok _) hn hls M7.at1.1 M7.at1.2.1
 refine Wp.callN e8 ?_
 have M8 := M7.keep t8
 clear e8 M7
 rw [alt_match (by omega) (by omega) cxy4]
 repeat (((with_reducible apply Wp.obind); (with_reducible exact avBool_bool _)))
 obtain ⟨g9, e9, t9⟩ := match2 (n := n) (D := D) (s := s) (hTz M8) (netOf_ok x) hn hls M8.at4.1 M8.at4.2.1
 refine Wp.callN e9 ?_
 have M9 := M8.keep t9
 clear e9 M8
 rename_i j107 ej107
 have fin : ∀ {H : AHeap}, Tch [] g9 H → Wp (j107 true H) fun r _ => r = .ret (.bool true) := by
  intro H t
  have M := M9.keep t
  rw [ej107]
  repeat (first | (with_reducible refine Wp.join1 (fun _ _ => ?_)) | ((with_reducible refine Wp.ift ?_ ?_); (with_reducible rfl)))
  obtain ⟨gA, eA, tA⟩ := match2 (n := n) (D := D) (s := s) (hTz M) (netOf_ok _) hn hls M.at0.1 M.at0.2.1
  refine Wp.callN eA ?_
  rw [opt_match (by omega)]
  have MA := M.keep tA
  clear eA
  cases heq : eqS s [] with
  | true =>
   repeat (first | (with_reducible refine Wp.join1 (fun _ _ => ?_)) | (with_reducible refine Wp.lett ?_) | ((with_reducible apply Wp.obind); (with_reducible exact avBool_bool _)) | ((with_reducible refine Wp.ift ?_ ?_); (with_reducible rfl)) | (with_reducible refine Wp.go1 (by assumption) ?_))
   exact Wp.ret (by cases matchN (netOf x) s <;> rfl)
  | false =>
   repeat (first | (with_reducible refine Wp.join1 (fun _ _ => ?_)) | (with_reducible refine Wp.lett ?_) | ((with_reducible apply Wp.obind); (with_reducible exact avBool_bool _)) | ((with_reducible refine Wp.iff ?_ ?_); (with_reducible rfl)))
   obtain ⟨gB, eB, tB⟩ := match2 (n := n) (D := D) (s := s) (hTz MA) (netOf_ok x) hn hls MA.at4.1 MA.at4.2.1
   refine Wp.callN eB ?_
   repeat (first | (with_reducible refine Wp.lett ?_) | ((with_reducible apply Wp.obind); (with_reducible exact avBool_bool _)) | (with_reducible refine Wp.go1 (by assumption) ?_))
   exact Wp.ret (by cases matchN (netOf x) s <;> rfl)
 clear ej107
 cases hmx : matchN (netOf x) s with
 | true =>
  repeat (first | (with_reducible refine Wp.join1 (fun _ _ => ?_)) | (with_reducible refine Wp.lett ?_) | ((with_reducible apply Wp.obind); (with_reducible exact avBool_bool _)) | ((with_reducible refine Wp.ift ?_ ?_); (with_reducible rfl)) | (with_reducible refine Wp.go1 (by assumption) ?_))
  exact fin (Tch.refl _ _)
 | false =>
  repeat (first | (with_reducible refine Wp.join1 (fun _ _ => ?_)) | ((with_reducible apply Wp.obind); (with_reducible exact avBool_bool _)) | ((with_reducible refine Wp.iff ?_ ?_); (with_reducible rfl)))
  obtain ⟨gC, eC, tC⟩ := match2 (n := n) (D := D) (s := s) (hTz M9) (netOf_ok y) hn hls M9.at3.1 M9.at3.2.1
  refine Wp.callN eC ?_
  repeat (first | (with_reducible refine Wp.lett ?_) | ((with_reducible apply Wp.obind); (with_reducible exact avBool_bool _)) | (with_reducible refine Wp.go1 (by assumption) ?_))
  have hb : (false || matchN (netOf y) s) == matchN (netOf y) s := by cases matchN (netOf y) s <;> rfl
  rw [hb]
  exact fin tC
end Go.Proofs.YtakhljnkmbpmpaaDoor
