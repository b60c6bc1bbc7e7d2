/- What nfaLiterals_proved stands on, part 8 of 9. -/
import Derived.Test.YtakhljnkmbpmpaaDoorCl7
namespace Go.Proofs.YtakhljnkmbpmpaaDoor
open Go.RowKit Abs
def zeroNet : Nt := ⟨false, 0, 0, List.replicate 64 0, List.replicate 256 0⟩
theorem zeroNet_ok : NtOk zeroNet := ⟨List.length_replicate, List.length_replicate, by decide, by decide, fun x hx => by rw [List.eq_of_mem_replicate hx]; decide, fun x hx => by rw [List.eq_of_mem_replicate hx]; decide⟩
def rawOf (t : Nd) : Nt := { (pieceN t zeroNet 0).2.1 with empty := (pieceN t zeroNet 0).1.empty, first := (pieceN t zeroNet 0).1.first, last := (pieceN t zeroNet 0).1.last }
def netOf (t : Nd) : Nt := (rawOf t).trim
theorem rawOf_ok (t : Nd) : NtOk (rawOf t) := by
 have := pieceN_ok t (u := 0) zeroNet_ok
 exact ⟨this.n.fl, this.n.tl, this.p.f, this.p.l, this.n.fs, this.n.ts⟩
theorem netOf_ok (t : Nd) : NtOk (netOf t) := (rawOf_ok t).trim
theorem rowsAt_of {S : List Nat} {h0 h : AHeap} {rs T : List RowT} (M : Abs.Mem S h0 h rs) (hs : ∀ y ∈ T, y ∈ rs) : RowsAt h T := fun y hy => ⟨(M.row y (hs y hy)).1, (M.row y (hs y hy)).2.1⟩
theorem apart2 {S : List Nat} {h0 h : AHeap} {x y : RowT} {rs T : List RowT} (M : Abs.Mem S h0 h (x :: y :: rs)) (hs : ∀ z ∈ T, z ∈ rs) : (∀ z ∈ T, z.1 ∉ [x.1, y.1]) ∧ x.1 ≠ y.1 := by
 have ap := M.apart
 rw [List.map_cons, List.map_cons, List.nodup_cons, List.nodup_cons] at ap
 refine ⟨fun z hz hm => ?_, fun e => ap.1 (by rw [e]; exact List.mem_cons_self)⟩
 rcases List.mem_cons.1 hm with e | hm
 ·exact ap.1 (List.mem_cons_of_mem _ (by rw [← e]; exact List.mem_map_of_mem (hs z hz)))
 ·exact ap.2.1 (by rw [← List.mem_singleton.1 hm]; exact List.mem_map_of_mem (hs z hz))
set_option maxRecDepth 100000 in
theorem bldBl (b o : Nat) : bldS Tryd.prog TBl [(0, .ptr b o)] = some [.ptr b o, .int .i64 0] := by kernel_rfl
section
variable {n d : Nat} {h : AHeap} {u : Bytes} {k : Int} {t : Nd} {c : List AV} {T : List RowT} {H : AHeap} {e1 q : Int}
theorem of_bad (he : e1 ≠ 0) (ht : ∀ h, memB TNode h.ex = false → world n d 24 [.agg [.int .i64 k, strA u]] h = some (.ret (.tup [.agg (nodeC 0 zeroW .nsl), .agg [.int .i64 e1, .int .i64 q]]), h)) (hx : memB TNode h.ex = false) :
  world n (d + 1) 12 [.agg [.int .i64 k, strA u]] h = some (.ret (.tup [.nilp, .int .i64 2]), h) := by
 apply Wp.eq
 rw [w_nfa_Of]
 refine Wp.gc ?_
 suffices hK : Wp (nfa_Of (world n d) n [.int .i64 k, strA u] h) fun r h' => r = .ret (.tup [.nilp, .int .i64 2]) ∧ Tch [] h h' from hK.mono fun r h' ⟨e, t⟩ => ⟨t.above, by rw [e]; rfl, e, rfl⟩
 unfold nfa_Of
 have Mx := Mem.nil [] h
 have hxN : ∀ {h1 : AHeap} {rs : List RowT}, Abs.Mem [] h h1 rs → memB TNode h1.ex = false := fun M => by rw [M.ex]; exact hx
 repeat (first | ((with_reducible apply Wp.lr0 Mx); rfl) | ((with_reducible apply Wp.mbox Mx); (rfl); intro _ Mz; clear Mx; have Mx := Mz; clear Mz))
 refine Wp.callN (ht _ (hxN Mx)) ?_
 repeat (first | ((with_reducible apply Wp.obind); (with_reducible exact avInt_int _ _)) | ((with_reducible apply Wp.ld0 Mx); rfl) | ((with_reducible apply Wp.sa0 Mx); rfl; rfl; (rfl); intro _ Mz; clear Mx; have Mx := Mz; clear Mz) | ((with_reducible apply Wp.sa1 Mx); rfl; rfl; (rfl); intro _ Mz; clear Mx; have Mx := Mz; clear Mz) | ((with_reducible apply Wp.mnew Mx); intro _ Mz; clear Mx; have Mx := Mz; clear Mz) | (with_reducible refine Wp.lett ?_) | ((with_reducible apply Wp.obind); (with_reducible first | exact avAgg_agg _ | exact extT_0 _ _ | exact extT_1 _ _ _)) | ((with_reducible refine Wp.ift ?_ ?_); ((with_reducible apply bne_t); omega)) | rw [newP_eq])
 exact Wp.ret ⟨rfl, Mx.tch⟩
set_option maxRecDepth 100000 in
theorem of_ok (hk1 : oneK t) (hsz : t.sz < 100000) (hd : t.sz + 2 ≤ d) (hn : 18446744073709551620 < n) (ht : ∀ h, memB TNode h.ex = false → ∃ c T h', world n d 24 [.agg [.int .i64 k, strA u]] h = some (.ret (.tup [.agg c, .agg [.int .i64 0, .int .i64 0]]), h') ∧ NodeT t c T ∧ Abs.Mem [] h h' T) (hx : memB TNode h.ex = false) :
  ∃ nb h', world n (d + 1) 12 [.agg [.int .i64 k, strA u]] h = some (.ret (.tup [.ptr nb 0, .int .i64 0]), h') ∧ Abs.Mem [] h h' [(nb, TNet, netC (netOf t))] := by
 suffices hK : Wp (gcR h (nfa_Of (world n d) n [.int .i64 k, strA u] h)) fun r h' => ∃ nb, r = .ret (.tup [.ptr nb 0, .int .i64 0]) ∧ Abs.Mem [] h h' [(nb, TNet, netC (netOf t))] by
  obtain ⟨_, h', e, nb, rfl, k2⟩ := hK
  rw [← w_nfa_Of] at e
  exact ⟨nb, h', e, k2⟩
 suffices hK : Wp (nfa_Of (world n d) n [.int .i64 k, strA u] h) fun r h' => ∃ nb, r = .ret (.tup [.ptr nb 0, .int .i64 0]) ∧ Abs.Mem [] h h' [(nb, TNet, netC (netOf t))] by
  obtain ⟨_, h', e, nb, rfl, k2⟩ := hK
  refine Wp.gc2 ⟨_, h', e, ⟨nb, rfl, k2⟩, fun _ hl => ?_⟩
  have h1 : AV.lo h.next (.ptr nb 0) = true := by
   have : (AV.lo h.next (.ptr nb 0) && (AV.lo h.next (.int .i64 0) && AV.loL h.next [])) = true := hl
   rw [Bool.and_eq_true] at this
   exact this.1
  have h2 := k2.at0.2.2.resolve_left (by simp)
  have h3 : nb < h.next := by simpa [AV.lo] using h1
  omega
 unfold nfa_Of
 have Mx := Mem.nil [] h
 have hxN : ∀ {h1 : AHeap} {rs : List RowT}, Abs.Mem [] h h1 rs → memB TNode h1.ex = false := fun M => by rw [M.ex]; exact hx
 repeat (first | ((with_reducible apply Wp.lr0 Mx); rfl) | ((with_reducible apply Wp.mbox Mx); (rfl); intro _ Mz; clear Mx; have Mx := Mz; clear Mz))
 obtain ⟨c, T, H1, e1, kt1, M1⟩ := ht _ (hxN Mx)
 refine Wp.callN e1 ?_
 have M2 := Mem.frameT (xs := []) (ys := []) Mx M1
 clear Mx M1
 have Mx := M2
 clear M2
 simp only [List.nil_append] at Mx
 repeat (first | ((with_reducible apply Wp.mnew Mx); intro _ Mz; clear Mx; have Mx := Mz; clear Mz) | ((with_reducible apply Wp.obind); (with_reducible first | exact avAgg_agg _ | exact extT_0 _ _ | exact extT_1 _ _ _)) | rw [newP_eq])
 refine Wp.sa1 Mx kt1.len rfl kt1.one fun h3 M3 => ?_
 clear Mx
 have Mx := M3
 clear M3
 repeat (first | ((with_reducible apply Wp.obind); (with_reducible exact avInt_int _ _)) | ((with_reducible apply Wp.ld0 Mx); rfl) | ((with_reducible apply Wp.sa0 Mx); rfl; rfl; (rfl); intro _ Mz; clear Mx; have Mx := Mz; clear Mz) | ((with_reducible apply Wp.mbox Mx); (rfl); intro _ Mz; clear Mx; have Mx := Mz; clear Mz) | (with_reducible refine Wp.lett ?_) | ((with_reducible refine Wp.iff ?_ ?_); ((with_reducible apply bne_f); omega)) | rw [newP_eq])
 have M4 : Abs.Mem [] h _ ((_, TNet, netC zeroNet) :: _) := Mx
 clear Mx
 have Mx := M4
 clear M4
 repeat (first | ((with_reducible apply Wp.sa0 Mx); rfl; rfl; (rfl); intro _ Mz; clear Mx; have Mx := Mz; clear Mz) | ((with_reducible apply Wp.mnew Mx); intro _ Mz; clear Mx; have Mx := Mz; clear Mz) | ((with_reducible apply Wp.obind); (with_reducible exact bldBl _ _)))
 refine Wp.lr3 Mx kt1.len ?_
 obtain ⟨d2, rfl⟩ : ∃ d2, d = d2 + 2 := ⟨d - 2, by omega⟩
 obtain ⟨hTn, hne⟩ := apart2 (T := T) Mx (fun y hy => by simp [hy])
 have rT := rowsAt_of (T := T) Mx (fun y hy => by simp [hy])
 obtain ⟨h5, e5, kb5, kn5, t5⟩ := piece_ok t (n := n) (D := d2 + 2) hk1 kt1 rT hTn Mx.at0.2.1 Mx.at1.2.1 hne hd (by omega) (by omega) zeroNet 0 _ zeroNet_ok (by omega) (Tch.refl _ _) Mx.at0.1 Mx.at1.1
 refine Wp.callN e5 ?_
 clear e5 hTn rT hne
 have M5 := Mem.upd2 (xs := []) Mx t5 kb5 kn5
 clear Mx
 have Mx := M5
 clear M5
 simp only [List.nil_append] at Mx
 repeat (first | ((with_reducible apply Wp.obind); (with_reducible first | exact avInt_int _ _ | exact avBool_bool _ | exact nilC_ptr _ _ | exact fldP_ptr _ _ _)) | ((with_reducible apply Wp.ld0 Mx); rfl) | ((with_reducible apply Wp.sa0 Mx); rfl; rfl; (rfl); intro _ Mz; clear Mx; have Mx := Mz; clear Mz) | ((with_reducible apply Wp.ld1 Mx); rfl) | ((with_reducible apply Wp.ms2 Mx); exact Nat.le_of_ble_eq_true rfl; rfl; intro _ Mz; clear Mx; have Mx := Mz; clear Mz) | ((with_reducible apply Wp.mnew Mx); intro _ Mz; clear Mx; have Mx := Mz; clear Mz) | ((with_reducible refine Wp.chk ?_ ?_); focus ((repeat' (first | (with_reducible exact rfl) | (with_reducible apply and_t) | ((with_reducible apply Mem.re0 Mx); kernel_rfl; rfl))); done)) | ((with_reducible apply Wp.obind); (with_reducible exact avAgg_agg _)) | rw [newP_eq])
 obtain ⟨h6, e6, kn6, t6⟩ := trim_r (n := n) (d := d2) (rawOf_ok t) hn (h := _) Mx.at2.1
 refine Wp.callN e6 ?_
 have M6 := Mem.upd (xs := [_, _]) Mx t6 kn6
 clear Mx
 have Mx := M6
 clear M6
 simp only [List.cons_append, List.nil_append] at Mx
 repeat (((with_reducible apply Wp.ld1 Mx); rfl))
 refine Wp.ret ⟨_, rfl, fun x hx => Mx.row x ?_, List.nodup_cons.2 ⟨List.not_mem_nil, List.nodup_nil⟩, Mx.tch⟩
 rw [List.mem_singleton] at hx
 rw [hx]
 exact List.mem_cons_of_mem _ (List.mem_cons_of_mem _ List.mem_cons_self)
end
abbrev TRun : Nat := 69
def stepN (N : Nt) (st : Bool × Nat) (c : Nat) : Bool × Nat := (true, (if st.1 = true then N.behind st.2 else N.first) &&& N.ta.getD c 0)
def doneN (N : Nt) (st : Bool × Nat) : Bool := if st.1 = true then decide (st.2 &&& N.last ≠ 0) else N.empty
def deadN (N : Nt) (st : Bool × Nat) : Bool := if st.1 = true then decide (st.2 = 0) else !N.empty && decide (N.first = 0)
noncomputable def runC (nb : Nat) (st : Bool × Nat) : List AV := [.ptr nb 0, .bool st.1, .int .u64 (st.2 : Int)]
def runN (N : Nt) (st : Bool × Nat) (s : Bytes) : Bool × Nat := s.foldl (fun st c => stepN N st c.toNat) st
def matchN (N : Nt) (s : Bytes) : Bool := doneN N (runN N (false, 0) s)
theorem behF_zero (fo : List Nat) : ∀ (f acc : Nat), behF fo f 0 acc = acc
 | 0, _ => rfl
 | _ + 1, _ => rfl
theorem beh_zero (N : Nt) : N.behind 0 = 0 := behF_zero _ _ _
theorem step_zero (N : Nt) (c : Nat) : stepN N (true, 0) c = (true, 0) := by
 unfold stepN
 rw [if_pos rfl, beh_zero, Nat.zero_and]
theorem run_zero (N : Nt) : ∀ s : Bytes, runN N (true, 0) s = (true, 0)
 | [] => rfl
 | c :: s => by
  show runN N (stepN N (true, 0) c.toNat) s = _
  rw [step_zero]
  exact run_zero N s
theorem step_small {N : Nt} (k : NtOk N) (st : Bool × Nat) (c : Nat) : (stepN N st c).2 < 18446744073709551616 := by
 show (if st.1 = true then N.behind st.2 else N.first) &&& _ < _
 refine and_small ?_
 split
 ·exact N.behind_small k _
 ·exact k.f
section
variable {N : Nt} {n d nb rb : Nat} {h : AHeap} {Q : ARes → AHeap → Prop} {st : Bool × Nat}
set_option maxRecDepth 100000 in
theorem eqRun (b o : Nat) (h : AHeap) : opBin Tryd.prog h .eql 44 true (some (.ptr b o)) (some AV.nilp) = some (.val (.bool false), h) := by kernel_rfl
set_option maxRecDepth 100000 in
theorem eqNet (b o : Nat) (h : AHeap) : opBin Tryd.prog h .eql 25 true (some (.ptr b o)) (some AV.nilp) = some (.val (.bool false), h) := by kernel_rfl
set_option maxRecDepth 100000 in
theorem bldRun (b o : Nat) : bldS Tryd.prog TRun [(0, .ptr b o)] = some [.ptr b o, .bool false, .int .u64 0] := by kernel_rfl
theorem none_w (kr : RowH h rb TRun (runC nb st)) : world n (d + 1) 33 [.ptr rb 0] h = some (.ret (.bool false), h) := by
 apply Wp.eq
 rw [w_nfa_Run_none]
 unfold nfa_Run_none
 have c1 : ldCell h (.ptr rb (0 + 0)) = some (.ptr nb 0) := RowH.cell' kr rfl
 repeat (first | (with_reducible refine Wp.join1 (fun _ _ => ?_)) | ((with_reducible apply Wp.obind); (with_reducible first | exact c1 | exact avBool_bool _ | exact nilC_ptr _ _ | exact fldP_ptr _ _ _)) | ((with_reducible refine Wp.iff ?_ ?_); (with_reducible rfl)) | ((with_reducible apply Wp.outK); (with_reducible first | exact eqRun _ _ _ | exact eqNet _ _ _)) | (with_reducible refine Wp.go1 (by assumption) ?_))
 exact Wp.ret ⟨rfl, rfl⟩
theorem done_w (hN : NtOk N) (hs : st.2 < 18446744073709551616) (kr : RowH h rb TRun (runC nb st)) (kn : RowH h nb TNet (netC N)) : world n (d + 2) 18 [.ptr rb 0] h = some (.ret (.bool (doneN N st)), h) := by
 apply Wp.eq
 rw [w_nfa_Run_Done]
 unfold nfa_Run_Done
 have e0 := none_w (n := n) (d := d) kr
 have c1 : ldCell h (.ptr rb (0 + 0)) = some (.ptr nb 0) := RowH.cell' kr rfl
 have c2 : ldCell h (.ptr rb (0 + 1)) = some (.bool st.1) := RowH.cell' kr rfl
 have c3 : ldCell h (.ptr rb (0 + 2)) = some (.int .u64 (st.2 : Int)) := RowH.cell' kr rfl
 have c4 : ldCell h (.ptr nb (0 + 0)) = some (.bool N.empty) := RowH.cell' kn rfl
 have c5 : ldCell h (.ptr nb (0 + 2)) = some (.int .u64 (N.last : Int)) := RowH.cell' kn rfl
 have e1 := andI_nat hs hN.l
 unfold doneN
 repeat (first | (with_reducible refine Wp.lett ?_) | ((with_reducible apply Wp.obind); (with_reducible first | exact c2 | exact avBool_bool _ | exact nilC_ptr _ _ | exact fldP_ptr _ _ _)) | ((with_reducible refine Wp.iff ?_ ?_); (with_reducible rfl)) | ((with_reducible apply Wp.callN); (with_reducible exact e0)))
 cases hb : st.1 with
 | false =>
  repeat (first | ((with_reducible apply Wp.obind); (with_reducible first | exact c1 | exact c4 | exact avBool_bool _ | exact nilC_ptr _ _ | exact fldP_ptr _ _ _)) | ((with_reducible refine Wp.ift ?_ ?_); (with_reducible exact Bool.not_false)))
  exact Wp.ret ⟨rfl, rfl⟩
 | true =>
  repeat (first | (with_reducible refine Wp.lett ?_) | ((with_reducible apply Wp.obind); (with_reducible first | exact c1 | exact c3 | exact c5 | exact avInt_int _ _ | exact nilC_ptr _ _ | exact fldP_ptr _ _ _)) | ((with_reducible refine Wp.iff ?_ ?_); (with_reducible exact Bool.not_true)))
  rw [e1]
  refine Wp.ret ⟨?_, rfl⟩
  by_cases hz : st.2 &&& N.last = 0
  ·rw [hz]
   rfl
  ·rw [if_pos rfl, decide_eq_true hz, show (((st.2 &&& N.last : Nat) : Int) != 0) = true from bne_t (by omega)]
theorem dead_w (kr : RowH h rb TRun (runC nb st)) (kn : RowH h nb TNet (netC N)) : world n (d + 2) 19 [.ptr rb 0] h = some (.ret (.bool (deadN N st)), h) := by
 apply Wp.eq
 rw [w_nfa_Run_Dead]
 unfold nfa_Run_Dead
 have e0 := none_w (n := n) (d := d) kr
 have c1 : ldCell h (.ptr rb (0 + 0)) = some (.ptr nb 0) := RowH.cell' kr rfl
 have c2 : ldCell h (.ptr rb (0 + 1)) = some (.bool st.1) := RowH.cell' kr rfl
 have c3 : ldCell h (.ptr rb (0 + 2)) = some (.int .u64 (st.2 : Int)) := RowH.cell' kr rfl
 have c4 : ldCell h (.ptr nb (0 + 0)) = some (.bool N.empty) := RowH.cell' kn rfl
 have c5 : ldCell h (.ptr nb (0 + 1)) = some (.int .u64 (N.first : Int)) := RowH.cell' kn rfl
 have hz : ∀ x : Nat, (((x : Nat) : Int) == 0) = decide (x = 0) := fun x => by
  by_cases h0 : x = 0
  ·rw [h0]
   rfl
  ·rw [decide_eq_false h0]
   exact beq_f (by omega)
 unfold deadN
 repeat (first | (with_reducible refine Wp.lett ?_) | ((with_reducible apply Wp.obind); (with_reducible first | exact c2 | exact avBool_bool _ | exact nilC_ptr _ _ | exact fldP_ptr _ _ _)) | ((with_reducible refine Wp.iff ?_ ?_); (with_reducible rfl)) | ((with_reducible apply Wp.callN); (with_reducible exact e0)))
 cases hb : st.1 with
 | false =>
  cases he : N.empty with
  | true =>
   rw [he] at c4
   repeat (first | (with_reducible refine Wp.join1 (fun _ _ => ?_)) | (with_reducible refine Wp.lett ?_) | ((with_reducible apply Wp.obind); (with_reducible first | exact c1 | exact c4 | exact avBool_bool _ | exact nilC_ptr _ _ | exact fldP_ptr _ _ _)) | ((with_reducible refine Wp.ift ?_ ?_); (with_reducible exact Bool.not_false)) | ((with_reducible refine Wp.iff ?_ ?_); (with_reducible exact Bool.not_true)) | (with_reducible refine Wp.go1 (by assumption) ?_))
   exact Wp.ret ⟨rfl, rfl⟩
  | false =>
   rw [he] at c4
   repeat (first | (with_reducible refine Wp.join1 (fun _ _ => ?_)) | (with_reducible refine Wp.lett ?_) | ((with_reducible apply Wp.obind); (with_reducible first | exact c1 | exact c4 | exact c5 | exact avInt_int _ _ | exact avBool_bool _ | exact nilC_ptr _ _ | exact fldP_ptr _ _ _)) | ((with_reducible refine Wp.ift ?_ ?_); (with_reducible exact Bool.not_false)) | (with_reducible refine Wp.go1 (by assumption) ?_))
   rw [hz]
   exact Wp.ret ⟨rfl, rfl⟩
 | true =>
  repeat (first | (with_reducible refine Wp.lett ?_) | ((with_reducible apply Wp.obind); (with_reducible first | exact c3 | exact avInt_int _ _ | exact nilC_ptr _ _ | exact fldP_ptr _ _ _)) | ((with_reducible refine Wp.iff ?_ ?_); (with_reducible exact Bool.not_true)))
  rw [hz]
  exact Wp.ret ⟨rfl, rfl⟩
theorem step_r (hT : HasTz h) (hN : NtOk N) (hs : st.2 < 18446744073709551616) (hn : 18446744073709551616 < n) (hne : rb ≠ nb) {c : Nat} (hc : c < 256) (kr : RowH h rb TRun (runC nb st)) (kn : RowH h nb TNet (netC N)) (hnb : nb < h.next) : ∃ h', world n (d + 3) 21 [.ptr rb 0, .int .u8 (c : Int)] h = some (.ret (.tup []), h') ∧ RowH h' rb TRun (runC nb (stepN N st c)) ∧ Tch [rb] h h' := by
 apply Wp.ex
 rw [w_nfa_Run_Step]
 unfold nfa_Run_Step
 have e0 := none_w (n := n) (d := d + 1) kr
 have c1 : ldCell h (.ptr rb (0 + 0)) = some (.ptr nb 0) := RowH.cell' kr rfl
 have c2 : ldCell h (.ptr rb (0 + 1)) = some (.bool st.1) := RowH.cell' kr rfl
 have c3 : ldCell h (.ptr rb (0 + 2)) = some (.int .u64 (st.2 : Int)) := RowH.cell' kr rfl
 have c5 : ldCell h (.ptr nb (0 + 1)) = some (.int .u64 (N.first : Int)) := RowH.cell' kn rfl
 have e1 := beh_w (n := n) (d := d) hT hN kn hs hn
 have e3 := idxA_ptr (b := nb) (o := 0 + 67) hc
 have fin : ∀ (m : Nat), m < 18446744073709551616 → (stepN N st c).2 = m &&& N.ta.getD c 0 → Wp (obind (stRow h 1 [.bool true] (.ptr rb (0 + 1))) fun h_25 =>
   obind (nilC (.ptr rb 0)) fun t33 => obind (fldP 0 t33) fun t34 => obind (ldCell h_25 t34) fun v35 => obind (nilC v35) fun t37 => obind (fldP 67 t37) fun t38 =>
   obind (idxA 256 1 t38 (c : Int)) fun t39 => obind (ldCell h_25 t39) fun v40 => obind (avInt .u64 v40) fun t40 => lett (andI .u64 (m : Int) t40) fun (t41 : Int) =>
   obind (nilC (.ptr rb 0)) fun t42 => obind (fldP 2 t42) fun t43 => obind (stRow h_25 1 [.int .u64 t41] t43) fun h_38 => some (.ret (.tup []), h_38))
   fun r h' => r = .ret (.tup []) ∧ RowH h' rb TRun (runC nb (stepN N st c)) ∧ Tch [rb] h h' := by
  intro m hm he
  refine Wp.st1 kr (by show 1 < 3; decide) rfl fun h1 k1 t1 _ => ?_
  have kn1 := kn.tch t1 hnb (by simpa using fun e => hne e.symm)
  have d1 : ldCell h1 (.ptr rb (0 + 0)) = some (.ptr nb 0) := RowH.cell' k1 rfl
  have d2 : ldCell h1 (.ptr nb (0 + 67 + c)) = some (.int .u64 (N.ta.getD c 0 : Int)) := RowH.cell' kn1 (by rw [Nat.zero_add, net_ta hN hc])
  repeat (first | (with_reducible refine Wp.lett ?_) | ((with_reducible apply Wp.obind); (with_reducible first | exact d1 | exact d2 | exact e3 | exact avInt_int _ _ | exact nilC_ptr _ _ | exact fldP_ptr _ _ _)))
  rw [andI_nat hm (getD_small hN.ts c), ← he]
  refine Wp.st1 k1 (by show 2 < 3; decide) rfl fun h2 k2 t2 _ => ?_
  exact Wp.ret ⟨rfl, k2, t1.trans t2⟩
 repeat (first | (with_reducible refine Wp.join1 (fun _ _ => ?_)) | ((with_reducible apply Wp.obind); (with_reducible first | exact c1 | exact c2 | exact c5 | exact avInt_int _ _ | exact avBool_bool _ | exact nilC_ptr _ _ | exact fldP_ptr _ _ _)) | ((with_reducible refine Wp.iff ?_ ?_); (with_reducible rfl)) | ((with_reducible apply Wp.callN); (with_reducible exact e0)))
 cases hb : st.1 with
 | true =>
  repeat (first | ((with_reducible apply Wp.obind); (with_reducible first | exact c1 | exact c3 | exact avInt_int _ _ | exact nilC_ptr _ _ | exact fldP_ptr _ _ _)) | ((with_reducible refine Wp.ift ?_ ?_); (with_reducible rfl)) | ((with_reducible apply Wp.callN); (with_reducible exact e1)) | (with_reducible refine Wp.go1 (by assumption) ?_))
  exact fin (N.behind st.2) (N.behind_small hN _) (by unfold stepN; rw [if_pos hb])
 | false =>
  repeat (first | ((with_reducible apply Wp.obind); (with_reducible first | exact nilC_ptr _ _ | exact fldP_ptr _ _ _)) | ((with_reducible refine Wp.iff ?_ ?_); (with_reducible rfl)) | (with_reducible refine Wp.go1 (by assumption) ?_))
  exact fin N.first hN.f (by unfold stepN; rw [if_neg (by rw [hb]; decide)])
end
section
variable {N : Nt} {n d nb rb : Nat} {h h0 : AHeap} {Q : ARes → AHeap → Prop} {st : Bool × Nat} {S : List Nat} {rs : List RowT}
theorem begin_m (M : Abs.Mem S h0 h rs) : ∃ h', world n (d + 1) 17 [.ptr nb 0] h = some (.ret (.ptr h.next 0), h') ∧ Abs.Mem S h0 h' ((h.next, TRun, runC nb (false, 0)) :: rs) := by
 apply Wp.ex
 rw [w_nfa_Net_Begin]
 unfold nfa_Net_Begin
 have Mx := M
 repeat (first | ((with_reducible apply Wp.obind); (with_reducible exact avBool_bool _)) | ((with_reducible apply Wp.mbox Mx); (rfl); intro _ Mz; clear Mx; have Mx := Mz; clear Mz) | ((with_reducible apply Wp.obind); (with_reducible exact bldRun _ _)) | ((with_reducible refine Wp.iff ?_ ?_); (with_reducible rfl)) | ((with_reducible apply Wp.outK); (with_reducible exact eqNet _ _ _)))
 exact Wp.ret ⟨rfl, Mx⟩
theorem dead_false {st : Bool × Nat} (hb : st.1 = true) (hd : deadN N st = true) (s : Bytes) : doneN N (runN N st s) = false := by
 obtain ⟨b, m⟩ := st
 have : b = true := hb
 subst this
 have : m = 0 := of_decide_eq_true hd
 subst this
 rw [run_zero]
 show decide (0 &&& N.last ≠ 0) = false
 rw [Nat.zero_and]
 rfl
theorem run_cons {s : Bytes} {i : Nat} (hi : i < s.length) (st : Bool × Nat) : runN N st (s.drop i) = runN N (stepN N st (s[i]).toNat) (s.drop (i + 1)) := by
 rw [List.drop_eq_getElem_cons hi]
 rfl
theorem byte_lt {s : Bytes} {i : Nat} (hi : i < s.length) : (s[i]).toNat < 256 := (s[i]).toNat_lt
theorem match_loop {s : Bytes} {k17 : AHeap → R} {h4 : AHeap} (hT : HasTz h0) (hN : NtOk N) (hn : 18446744073709551616 < n) (hl : s.length < 1000000000) (kn : RowH h0 nb TNet (netC N)) (hnb : nb < h0.next)
  (hk : ∀ (st : Bool × Nat) (H : AHeap), st.2 < 18446744073709551616 → Abs.Mem [] h0 H [(h4.next, TRun, runC nb st)] → doneN N st = matchN N s → Wp (k17 H) Q) (hq : ∀ H, Tch [] h0 H → matchN N s = false → Q (.ret (.bool false)) H) :
  ∀ (m f i : Nat) (st : Bool × Nat) (H : AHeap), m < f → i + m = s.length → st.2 < 18446744073709551616 → doneN N (runN N st (s.drop i)) = matchN N s → Abs.Mem [] h0 H [(h4.next, TRun, runC nb st)] → Wp (nfa_Net_Match_L0 (world n (d + 3)) s h4 k17 f (i : Int) H) Q
 | _, 0, _, _, _, hf, _, _, _, _ => by omega
 | 0, f + 1, i, st, H, hf, hm, hs, hr, M => by
  have ll := lenS_nat s
  rw [nfa_Net_Match_L0_s]
  unfold nfa_Net_Match_L0b
  repeat (first | (with_reducible refine Wp.lett ?_) | ((with_reducible refine Wp.iff ?_ ?_); ((with_reducible apply decide_eq_false); omega)))
  refine hk st H hs M ?_
  rw [List.drop_of_length_le (by omega)] at hr
  exact hr
 | m + 1, f + 1, i, st, H, hf, hm, hs, hr, M => by
  have ll := lenS_nat s
  have hi : i < s.length := by omega
  rw [nfa_Net_Match_L0_s]
  unfold nfa_Net_Match_L0b
  have hx := idxS_nat hi
  have kn1 := kn.tch M.tch hnb (by simp)
  have hn1 := Nat.lt_of_lt_of_le hnb M.tch.1
  have hne : h4.next ≠ nb := by
   have := M.at0.2.2.resolve_left (by simp)
   omega
  obtain ⟨h1, e1, k1, t1⟩ := step_r (n := n) (d := d) (hT.tch M.tch (by simp)) hN hs hn hne (byte_lt hi) M.at0.1 kn1 hn1
  have M1 := Mem.upd (xs := []) M t1 k1
  have kn2 := kn1.tch t1 hn1 (by simpa using fun e => hne e.symm)
  have e2 := dead_w (n := n) (d := d + 1) k1 kn2
  have el : (i : Int) + 1 = ((i + 1 : Nat) : Int) := by omega
  rw [run_cons hi] at hr
  ((with_reducible refine Wp.lett ?_))
  refine Wp.ift (decide_eq_true (by omega)) ?_
  refine Wp.obind hx ?_
  rw [newP_eq]
  refine Wp.callN e1 ?_
  refine Wp.callN e2 ?_
  refine Wp.obind (avBool_bool _) ?_
  cases hd : deadN N (stepN N st (s[i]).toNat) with
  | true =>
   (((with_reducible refine Wp.ift ?_ ?_); (with_reducible rfl)))
   refine Wp.ret (hq _ M1.tch ?_)
   rw [← hr]
   exact dead_false rfl hd _
  | false =>
   repeat (first | ((with_reducible refine Wp.lettw ?_ ?_ ?_); omega; omega) | ((with_reducible refine Wp.iff ?_ ?_); (with_reducible rfl)))
   rw [el]
   exact match_loop hT hN hn hl kn hnb hk hq m f (i + 1) _ h1 (by omega) (by omega) (step_small hN _ _) hr M1
theorem match_r {s : Bytes} (hT : HasTz h) (hN : NtOk N) (hn : 18446744073709551616 < n) (hl : s.length < 1000000000) (kn : RowH h nb TNet (netC N)) (hnb : nb < h.next) : ∃ h', world n (d + 4) 14 [.ptr nb 0, strA s] h = some (.ret (.bool (matchN N s)), h') ∧ Tch [] h h' := by
 apply Wp.ex
 rw [w_nfa_Net_Match]
 unfold nfa_Net_Match
 have Mx := Mem.nil [] h
 repeat (first | ((with_reducible apply Wp.obind); (with_reducible exact avBool_bool _)) | ((with_reducible apply Wp.sa0 Mx); rfl; rfl; (rfl); intro _ Mz; clear Mx; have Mx := Mz; clear Mz) | ((with_reducible apply Wp.mnew Mx); intro _ Mz; clear Mx; have Mx := Mz; clear Mz) | (with_reducible refine Wp.join0 (fun _ _ => ?_)) | ((with_reducible apply Wp.obind); (with_reducible exact bldRun _ _)) | ((with_reducible refine Wp.iff ?_ ?_); (with_reducible rfl)) | ((with_reducible apply Wp.outK); (with_reducible exact eqNet _ _ _)) | rw [newP_eq])
 rename_i k17 ek17
 refine match_loop (h0 := h) hT hN hn hl kn hnb (fun st H hs M hd => ?_) (fun H t e => ⟨by rw [e], t⟩) s.length n 0 (false, 0) _ (by omega) (by omega) (show 0 < _ by decide) (by rw [List.drop_zero]; rfl) Mx
 rw [ek17]
 have e2 := done_w (n := n) (d := d + 1) hN hs M.at0.1 (kn.tch M.tch hnb (by simp))
 refine Wp.callN e2 ?_
 (((with_reducible apply Wp.obind); (with_reducible exact avBool_bool _)))
 exact Wp.ret ⟨by rw [hd], M.tch⟩
set_option maxRecDepth 100000 in
theorem nilNet (h : AHeap) : opBin Tryd.prog h .eql 25 true (some AV.nilp) (some AV.nilp) = some (.val (.bool true), h) := by kernel_rfl
section
variable {u : Bytes}
theorem tree_long {u : Bytes} (l : 64 < u.length) {kind : Int} (hk : kind = 1 ∨ kind = 2 ∨ kind = 3) {n D : Nat} {h : AHeap} : world n (D + 1) 24 [.agg [.int .i64 kind, strA u]] h = some (.ret (.tup [.agg (nodeC 0 zeroW .nsl), .agg [.int .i64 3, .int .i64 64]]), h) := by
 rcases hk with rfl | rfl | rfl
 ·apply Wp.eq
  rw [w_pattern_Tree]
  refine Wp.gc ?_
  suffices hK : Wp (pattern_Tree (world n D) n [.int .i64 1, strA u] h) fun r h' => r = .ret (.tup [.agg (nodeC 0 zeroW .nsl), .agg [.int .i64 3, .int .i64 64]]) ∧ Tch [] h h' from hK.mono fun r h' ⟨e, t⟩ => ⟨t.above, by rw [e]; rfl, e, rfl⟩
  unfold pattern_Tree
  have ll := lenS_nat u
  have Mx := Mem.nil [] h
  repeat (first | ((with_reducible apply Wp.obind); (with_reducible first | exact avInt_int _ _ | exact avStr_str _ | exact fldP_ptr _ _ _)) | ((with_reducible apply Wp.lr0 Mx); rfl) | ((with_reducible apply Wp.sa0 Mx); rfl; rfl; (rfl); intro _ Mz; clear Mx; have Mx := Mz; clear Mz) | ((with_reducible apply Wp.lr1 Mx); rfl) | ((with_reducible apply Wp.sa1 Mx); rfl; rfl; (rfl); intro _ Mz; clear Mx; have Mx := Mz; clear Mz) | ((with_reducible apply Wp.ld2 Mx); rfl) | ((with_reducible apply Wp.mnew Mx); intro _ Mz; clear Mx; have Mx := Mz; clear Mz) | ((with_reducible apply Wp.mbox Mx); (rfl); intro _ Mz; clear Mx; have Mx := Mz; clear Mz) | (with_reducible refine Wp.join1 (fun _ _ => ?_)) | (with_reducible refine Wp.lett ?_) | ((with_reducible refine Wp.ift ?_ ?_); ((with_reducible first | apply decide_eq_true | apply bne_t); omega)) | ((with_reducible refine Wp.iff ?_ ?_); first | (with_reducible rfl) | ((with_reducible apply bne_f); omega)) | (with_reducible refine Wp.go1 (by assumption) ?_) | rw [newP_eq])
  exact Wp.ret ⟨rfl, Mx.tch⟩
 ·apply Wp.eq
  rw [w_pattern_Tree]
  refine Wp.gc ?_
  suffices hK : Wp (pattern_Tree (world n D) n [.int .i64 2, strA u] h) fun r h' => r = .ret (.tup [.agg (nodeC 0 zeroW .nsl), .agg [.int .i64 3, .int .i64 64]]) ∧ Tch [] h h' from hK.mono fun r h' ⟨e, t⟩ => ⟨t.above, by rw [e]; rfl, e, rfl⟩
  unfold pattern_Tree
  have ll := lenS_nat u
  have Mx := Mem.nil [] h
  repeat (first | ((with_reducible apply Wp.obind); (with_reducible first | exact avInt_int _ _ | exact avStr_str _ | exact fldP_ptr _ _ _)) | ((with_reducible apply Wp.lr0 Mx); rfl) | ((with_reducible apply Wp.sa0 Mx); rfl; rfl; (rfl); intro _ Mz; clear Mx; have Mx := Mz; clear Mz) | ((with_reducible apply Wp.lr1 Mx); rfl) | ((with_reducible apply Wp.sa1 Mx); rfl; rfl; (rfl); intro _ Mz; clear Mx; have Mx := Mz; clear Mz) | ((with_reducible apply Wp.ld2 Mx); rfl) | ((with_reducible apply Wp.mnew Mx); intro _ Mz; clear Mx; have Mx := Mz; clear Mz) | ((with_reducible apply Wp.mbox Mx); (rfl); intro _ Mz; clear Mx; have Mx := Mz; clear Mz) | (with_reducible refine Wp.join1 (fun _ _ => ?_)) | (with_reducible refine Wp.lett ?_) | ((with_reducible refine Wp.ift ?_ ?_); ((with_reducible first | apply decide_eq_true | apply bne_t); omega)) | ((with_reducible refine Wp.iff ?_ ?_); first | (with_reducible rfl) | ((with_reducible apply bne_f); omega)) | (with_reducible refine Wp.go1 (by assumption) ?_) | rw [newP_eq])
  exact Wp.ret ⟨rfl, Mx.tch⟩
 ·apply Wp.eq
  rw [w_pattern_Tree]
  refine Wp.gc ?_
  suffices hK : Wp (pattern_Tree (world n D) n [.int .i64 3, strA u] h) fun r h' => r = .ret (.tup [.agg (nodeC 0 zeroW .nsl), .agg [.int .i64 3, .int .i64 64]]) ∧ Tch [] h h' from hK.mono fun r h' ⟨e, t⟩ => ⟨t.above, by rw [e]; rfl, e, rfl⟩
  unfold pattern_Tree
  have ll := lenS_nat u
  have Mx := Mem.nil [] h
  repeat (first | ((with_reducible apply Wp.obind); (with_reducible first | exact avInt_int _ _ | exact avStr_str _ | exact fldP_ptr _ _ _)) | ((with_reducible apply Wp.lr0 Mx); rfl) | ((with_reducible apply Wp.sa0 Mx); rfl; rfl; (rfl); intro _ Mz; clear Mx; have Mx := Mz; clear Mz) | ((with_reducible apply Wp.lr1 Mx); rfl) | ((with_reducible apply Wp.sa1 Mx); rfl; rfl; (rfl); intro _ Mz; clear Mx; have Mx := Mz; clear Mz) | ((with_reducible apply Wp.ld2 Mx); rfl) | ((with_reducible apply Wp.mnew Mx); intro _ Mz; clear Mx; have Mx := Mz; clear Mz) | ((with_reducible apply Wp.mbox Mx); (rfl); intro _ Mz; clear Mx; have Mx := Mz; clear Mz) | (with_reducible refine Wp.join1 (fun _ _ => ?_)) | (with_reducible refine Wp.lett ?_) | ((with_reducible refine Wp.ift ?_ ?_); ((with_reducible first | apply decide_eq_true | apply bne_t); omega)) | ((with_reducible refine Wp.iff ?_ ?_); ((with_reducible apply bne_f); omega)) | (with_reducible refine Wp.go1 (by assumption) ?_) | rw [newP_eq])
  exact Wp.ret ⟨rfl, Mx.tch⟩
end
end
theorem tz_pow_all : (List.range 64).all (fun k => Nat.beq (tzT.getD (2 ^ k * 285870213051353865 % 18446744073709551616 / 288230376151711744) 0) k) = true := by kernel_rfl
theorem low_ex : ∀ (f m : Nat), m < f → m ≠ 0 → ∃ k q, m = 2 ^ k * (2 * q + 1)
 | 0, _, h, _ => by omega
 | f + 1, m, h, h0 => by
  rcases Nat.mod_two_eq_zero_or_one m with e | e
  ·obtain ⟨k, q, hk⟩ := low_ex f (m / 2) (by omega) (by omega)
   refine ⟨k + 1, q, ?_⟩
   rw [Nat.pow_succ, Nat.mul_right_comm, ← hk]
   omega
  ·exact ⟨0, m / 2, by omega⟩
theorem and_compl {j q : Nat} (hq : q < 2 ^ j) : q &&& (2 ^ j - (q + 1)) = 0 := by
 refine Nat.eq_of_testBit_eq fun i => ?_
 rw [Nat.testBit_and, Nat.testBit_two_pow_sub_succ hq, Nat.zero_testBit]
 cases q.testBit i <;> simp
theorem odd_and (a b : Nat) (h : a &&& b = 0) : (2 * a + 1) &&& (2 * b + 1) = 1 := by
 refine Nat.eq_of_testBit_eq fun i => ?_
 rw [Nat.testBit_and]
 cases i with
 | zero => simp [Nat.testBit_zero, Nat.add_mod]
 | succ i =>
  have e := congrArg (fun x => x.testBit i) h
  rw [Nat.testBit_and, Nat.zero_testBit] at e
  rw [Nat.testBit_succ, Nat.testBit_succ, Nat.testBit_succ, show (2 * a + 1) / 2 = a by omega, show (2 * b + 1) / 2 = b by omega, e]
  simp
theorem low_and {m k q : Nat} (hm : m = 2 ^ k * (2 * q + 1)) (hb : m < 18446744073709551616) : k < 64 ∧ m &&& (18446744073709551616 - m) % 18446744073709551616 = 2 ^ k := by
  have hp : 0 < 2 ^ k := Nat.pow_pos (by decide)
  have hk : k < 64 := by
    apply Nat.lt_of_not_le
    intro hk
    have h1 := Nat.pow_le_pow_right (n := 2) (by decide) hk
    have h2 : 2 ^ k * 1 ≤ 2 ^ k * (2 * q + 1) := Nat.mul_le_mul_left _ (by omega)
    omega
  refine ⟨hk, ?_⟩
  obtain ⟨j, hj⟩ : ∃ j, 63 = k + j := ⟨63 - k, by omega⟩
  have h64 : 18446744073709551616 = 2 ^ k * (2 * 2 ^ j) := by
    rw [← Nat.mul_assoc, Nat.mul_comm (2 ^ k) 2, Nat.mul_assoc, ← Nat.pow_add, ← hj]
  have hq : q < 2 ^ j := by
    have h3 : 2 ^ k * (2 * q + 1) < 2 ^ k * (2 * 2 ^ j) := by rw [← hm, ← h64]; exact hb
    have := Nat.lt_of_mul_lt_mul_left h3
    omega
  have h5 : (18446744073709551616 - m) % 18446744073709551616 = 2 ^ k * (2 * (2 ^ j - (q + 1)) + 1) := by
    rw [Nat.mod_eq_of_lt (by have : 0 < m := by rw [hm]; exact Nat.mul_pos hp (by omega)
                             omega), h64, hm, ← Nat.mul_sub]
    congr 1
    omega
  rw [h5, hm]
  have h6 := odd_and _ _ (and_compl hq)
  rw [Nat.mul_comm, Nat.mul_comm (2 ^ k) (2 * (2 ^ j - (q + 1)) + 1), ← Nat.shiftLeft_eq, ← Nat.shiftLeft_eq, ← Nat.shiftLeft_and_distrib, h6, Nat.shiftLeft_eq, Nat.one_mul]
theorem tz_low {m k q : Nat} (hm : m = 2 ^ k * (2 * q + 1)) (hb : m < 18446744073709551616) : tzN m = k := by
 obtain ⟨hk, h⟩ := low_and hm hb
 have := List.all_eq_true.1 tz_pow_all k (List.mem_range.2 hk)
 unfold tzN tzI
 rw [h]
 exact Nat.eq_of_beq_eq_true this
theorem low_bits {m k q : Nat} (hm : m = 2 ^ k * (2 * q + 1)) : m.testBit k = true ∧ ∀ i, (m &&& (m - 1)).testBit i = (m.testBit i && !decide (i = k)) := by
 have hp : 0 < 2 ^ k := Nat.pow_pos (by decide)
 have d1 : m / 2 ^ k = 2 * q + 1 := by rw [hm, Nat.mul_div_cancel_left _ hp]
 have d2 : (m - 1) / 2 ^ k = 2 * q := by
  have := Nat.mul_sub_div 0 (2 ^ k) (2 * q + 1) (Nat.mul_pos hp (by omega))
  rw [Nat.zero_add, Nat.zero_div, ← hm] at this
  rw [this]
  omega
 have hk : m.testBit k = true := by
  rw [Nat.testBit_eq_decide_div_mod_eq, d1]
  exact decide_eq_true (by omega)
 refine ⟨hk, fun i => ?_⟩
 rw [Nat.testBit_and]
 rcases Nat.lt_trichotomy i k with h | h | h
 ·have : m.testBit i = false := by
   obtain ⟨j, hj⟩ : ∃ j, k = i + (j + 1) := ⟨k - i - 1, by omega⟩
   rw [Nat.testBit_eq_decide_div_mod_eq, hm, hj, Nat.pow_add, Nat.mul_assoc, Nat.mul_div_cancel_left _ (Nat.pow_pos (by decide)), Nat.pow_succ, Nat.mul_comm (2 ^ j) 2, Nat.mul_assoc]
   exact decide_eq_false (by omega)
  rw [this, Bool.false_and, Bool.false_and]
 ·subst h
  have : (m - 1).testBit i = false := by
   rw [Nat.testBit_eq_decide_div_mod_eq, d2]
   exact decide_eq_false (by omega)
  rw [this, decide_eq_true rfl]
  simp
 ·obtain ⟨j, hj⟩ : ∃ j, i = k + (j + 1) := ⟨i - k - 1, by omega⟩
  have e : ∀ x : Nat, x / 2 ^ i = x / 2 ^ k / 2 / 2 ^ j := fun x => by rw [hj, Nat.pow_add, Nat.pow_succ, Nat.mul_comm (2 ^ j) 2, ← Nat.mul_assoc, ← Nat.div_div_eq_div_mul, ← Nat.div_div_eq_div_mul]
  have : (m - 1).testBit i = m.testBit i := by
   rw [Nat.testBit_eq_decide_div_mod_eq, Nat.testBit_eq_decide_div_mod_eq, e, e, d1, d2, show (2 * q + 1) / 2 = 2 * q / 2 by omega]
  rw [this, decide_eq_false (by omega)]
  simp
theorem behF_bit (fo : List Nat) : ∀ (f m acc : Nat), m < f → m < 18446744073709551616 → ∀ r, (behF fo f m acc).testBit r = true ↔ acc.testBit r = true ∨ ∃ q, m.testBit q = true ∧ (fo.getD q 0).testBit r = true
 | 0, _, _, h, _, _ => by omega
 | f + 1, m, acc, hf, hm, r => by
  rw [behF]
  by_cases h0 : m = 0
  ·rw [if_pos h0, h0]
   refine ⟨.inl, fun h => ?_⟩
   rcases h with h | ⟨q, h, _⟩
   ·exact h
   ·rw [Nat.zero_testBit] at h
    cases h
  ·rw [if_neg h0]
   obtain ⟨k, q, hkq⟩ := low_ex (m + 1) m (by omega) h0
   have hl := low_lt h0
   obtain ⟨b1, b2⟩ := low_bits hkq
   rw [behF_bit fo f _ _ (by omega) (by omega) r, tz_low hkq hm, Nat.testBit_or, Bool.or_eq_true]
   constructor
   ·rintro ((h | h) | ⟨p, h, h2⟩)
    ·exact .inl h
    ·exact .inr ⟨k, b1, h⟩
    ·rw [b2, Bool.and_eq_true] at h
     exact .inr ⟨p, h.1, h2⟩
   ·rintro (h | ⟨p, h, h2⟩)
    ·exact .inl (.inl h)
    ·by_cases hp : p = k
     ·subst hp
      exact .inl (.inr h2)
     ·refine .inr ⟨p, ?_, h2⟩
      rw [b2, h, decide_eq_false hp]
      rfl
theorem behind_bit {N : Nt} {m : Nat} (hm : m < 18446744073709551616) (r : Nat) : (N.behind m).testBit r = true ↔ ∃ q, m.testBit q = true ∧ (N.fo.getD q 0).testBit r = true := by
 unfold Nt.behind
 rw [behF_bit N.fo _ m 0 (by omega) hm r, Nat.zero_testBit]
 simp
structure Frag where
 e : Bool
 F : Nat → Prop
 L : Nat → Prop
 E : Nat → Nat → Prop
 K : Nat → Nat → Prop
inductive Walk (a : Frag) : Nat → List Nat → Nat → Prop
 | nil {q : Nat} : Walk a q [] q
 | cons {q r q' c : Nat} {s : List Nat} (e : a.E q r) (k : a.K r c) (w : Walk a r s q') : Walk a q (c :: s) q'
def Fits1 (a : Frag) : List Nat → Prop
 | [] => False
 | c :: s => ∃ q q', a.F q ∧ a.K q c ∧ a.L q' ∧ Walk a q s q'
structure Rec (a : Frag) (P : List Nat → Prop) (lo hi : Nat) : Prop where
 e : a.e = true ↔ P []
 f : ∀ {c : Nat} {s : List Nat}, Fits1 a (c :: s) ↔ P (c :: s)
 le : lo ≤ hi
 F : ∀ {q}, a.F q → lo ≤ q ∧ q < hi
 L : ∀ {q}, a.L q → lo ≤ q ∧ q < hi
 E : ∀ {q r}, a.E q r → (lo ≤ q ∧ q < hi) ∧ lo ≤ r ∧ r < hi
 K : ∀ {q c}, a.K q c → lo ≤ q ∧ q < hi
theorem Walk.mono {a b : Frag} (hE : ∀ {q r}, a.E q r → b.E q r) (hK : ∀ {q c}, a.K q c → b.K q c) {q q' : Nat} {s : List Nat} (w : Walk a q s q') : Walk b q s q' := by
 induction w with
 | nil => exact .nil
 | cons e k _ ih => exact .cons (hE e) (hK k) ih
theorem Walk.app {a : Frag} {q r q' : Nat} {s t : List Nat} (w : Walk a q s r) (v : Walk a r t q') : Walk a q (s ++ t) q' := by
 induction w with
 | nil => exact v
 | cons e k _ ih => exact .cons e k (ih v)
def noF : Frag := ⟨true, fun _ => False, fun _ => False, fun _ _ => False, fun _ _ => False⟩
def badF : Frag := ⟨false, fun _ => False, fun _ => False, fun _ _ => False, fun _ _ => False⟩
def setF (w : List Nat) (u : Nat) : Frag := ⟨false, fun q => q = u, fun q => q = u, fun _ _ => False, fun q c => q = u ∧ inW w c = true⟩
def catF (a b : Frag) : Frag := ⟨a.e && b.e, fun q => a.F q ∨ (a.e = true ∧ b.F q), fun q => b.L q ∨ (b.e = true ∧ a.L q), fun q r => a.E q r ∨ b.E q r ∨ (a.L q ∧ b.F r), fun q c => a.K q c ∨ b.K q c⟩
def altF (a b : Frag) : Frag := ⟨a.e || b.e, fun q => a.F q ∨ b.F q, fun q => a.L q ∨ b.L q, fun q r => a.E q r ∨ b.E q r, fun q c => a.K q c ∨ b.K q c⟩
def moreF (a : Frag) (e : Bool) : Frag := ⟨e, a.F, a.L, fun q r => a.E q r ∨ (a.L q ∧ a.F r), a.K⟩
def optF (a : Frag) : Frag := ⟨true, a.F, a.L, a.E, a.K⟩
inductive Plus (P : List Nat → Prop) : List Nat → Prop
 | one {s : List Nat} (h : P s) : Plus P s
 | more {s t : List Nat} (h : P s) (m : Plus P t) : Plus P (s ++ t)
def Cat (P Q : List Nat → Prop) (s : List Nat) : Prop := ∃ s1 s2, s = s1 ++ s2 ∧ P s1 ∧ Q s2
section
variable {a b : Frag} {P Q : List Nat → Prop} {lo mid hi u : Nat} {w : List Nat}
theorem noF_rec (u : Nat) : Rec noF (fun s => s = []) u u := by
 refine ⟨⟨fun _ => rfl, fun _ => rfl⟩, ⟨fun h => ?_, fun h => ?_⟩, Nat.le_refl _, fun h => False.elim h, fun h => False.elim h, fun h => False.elim h, fun h => False.elim h⟩
 ·obtain ⟨_, _, h, _⟩ := h
  exact False.elim h
 ·cases h
theorem badF_rec (u : Nat) : Rec badF (fun _ => False) u u := by
 refine ⟨⟨fun h => ?_, fun h => False.elim h⟩, ⟨fun h => ?_, fun h => False.elim h⟩, Nat.le_refl _, fun h => False.elim h, fun h => False.elim h, fun h => False.elim h, fun h => False.elim h⟩
 ·cases h
 ·obtain ⟨_, _, h, _⟩ := h
  exact False.elim h
theorem setF_rec : Rec (setF w u) (fun s => ∃ c, s = [c] ∧ inW w c = true) u (u + 1) := by
 refine ⟨⟨fun h => ?_, fun h => ?_⟩, ⟨?_, ?_⟩, by omega, fun h => ?_, fun h => ?_, fun h => False.elim h, fun h => ?_⟩
 ·cases h
 ·obtain ⟨_, h, _⟩ := h
  cases h
 ·rintro ⟨q, q', _, k, _, v⟩
  cases v with
  | nil => exact ⟨_, rfl, k.2⟩
  | cons e _ _ => exact False.elim e
 ·rintro ⟨c, h, k⟩
  cases h
  exact ⟨u, u, rfl, ⟨rfl, k⟩, rfl, .nil⟩
 ·have : _ = u := h
  omega
 ·have : _ = u := h
  omega
 ·have := h.1
  omega
theorem opt_rec (h : Rec a P lo hi) : Rec (optF a) (fun s => s = [] ∨ P s) lo hi := by
 refine ⟨⟨fun _ => .inl rfl, fun _ => rfl⟩, ⟨fun ⟨q, q', h1, h2, h3, v⟩ => .inr (h.f.1 ⟨q, q', h1, h2, h3, Walk.mono (a := optF a) (b := a) (fun h => h) (fun h => h) v⟩), fun hp => ?_⟩, h.le, h.F, h.L, h.E, h.K⟩
 rcases hp with hp | hp
 ·cases hp
 ·obtain ⟨q, q', h1, h2, h3, v⟩ := h.f.2 hp
  exact ⟨q, q', h1, h2, h3, Walk.mono (a := a) (b := optF a) (fun h => h) (fun h => h) v⟩
theorem Walk.left (ha : Rec a P lo mid) (hb : Rec b Q mid hi) {X : Nat → Nat → Prop} {f : Frag} (hE : ∀ {q r}, f.E q r → a.E q r ∨ b.E q r ∨ X q r) (hX : ∀ {q r}, X q r → r < mid → False) (hK : ∀ {q c}, f.K q c → a.K q c ∨ b.K q c) {q q' : Nat} {s : List Nat} (v : Walk f q s q') :
  q < mid → q' < mid → Walk a q s q' := by
 have back : ∀ {q q' : Nat} {s : List Nat}, Walk f q s q' → mid ≤ q → (∀ {q r}, X q r → mid ≤ r) → mid ≤ q' := by
  intro q q' s v
  induction v with
  | nil => exact fun h _ => h
  | cons e k _ ih =>
   intro hq hx
   rcases hE e with h | h | h
   ·have := (ha.E h).1
    omega
   ·exact ih (hb.E h).2.1 hx
   ·exact ih (hx h) hx
 have hx2 : ∀ {q r}, X q r → mid ≤ r := fun h => Nat.le_of_not_lt fun h2 => hX h h2
 induction v with
 | nil => exact fun _ _ => .nil
 | cons e k w ih =>
  intro h1 h2
  rcases hE e with h | h | h
  ·refine .cons h ?_ (ih (ha.E h).2.2 h2)
   rcases hK k with k | k
   ·exact k
   ·have := hb.K k
    have := (ha.E h).2
    omega
  ·have := (hb.E h).1
   omega
  ·have := back w (hx2 h) hx2
   omega
theorem Walk.right (ha : Rec a P lo mid) (hb : Rec b Q mid hi) {X : Nat → Nat → Prop} {f : Frag} (hE : ∀ {q r}, f.E q r → a.E q r ∨ b.E q r ∨ X q r) (hX : ∀ {q r}, X q r → q < mid) (hK : ∀ {q c}, f.K q c → a.K q c ∨ b.K q c) {q q' : Nat} {s : List Nat} (v : Walk f q s q') :
  mid ≤ q → Walk b q s q' ∧ mid ≤ q' := by
 induction v with
 | nil => exact fun h => ⟨.nil, h⟩
 | cons e k w ih =>
  intro h1
  rcases hE e with h | h | h
  ·have := (ha.E h).1
   omega
  ·obtain ⟨i1, i2⟩ := ih (hb.E h).2.1
   refine ⟨.cons h ?_ i1, i2⟩
   rcases hK k with k | k
   ·have := ha.K k
    have := (hb.E h).2
    omega
   ·exact k
  ·have := hX h
   omega
theorem alt_rec (ha : Rec a P lo mid) (hb : Rec b Q mid hi) : Rec (altF a b) (fun s => P s ∨ Q s) lo hi := by
 have l1 := ha.le
 have l2 := hb.le
 refine ⟨?_, ⟨?_, ?_⟩, by omega, fun h => ?_, fun h => ?_, fun h => ?_, fun h => ?_⟩
 ·show (a.e || b.e) = true ↔ _
  rw [Bool.or_eq_true, ha.e, hb.e]
 ·rintro ⟨q, q', h1, h2, h3, v⟩
  rcases h1 with h1 | h1
  ·have hq := ha.F h1
   have hq' : q' < mid := by
    rcases h3 with h3 | h3
    ·exact (ha.L h3).2
    ·apply Nat.lt_of_not_le
     intro hh
     have : ∀ {q q' : Nat} {s : List Nat}, Walk (altF a b) q s q' → q < mid → q' < mid := by
      intro q q' s v
      induction v with
      | nil => exact fun h => h
      | cons e k w ih =>
       intro h
       rcases e with e | e
       ·exact ih (ha.E e).2.2
       ·have := (hb.E e).1
        omega
     have := this v hq.2
     omega
   have v2 := Walk.left ha hb (X := fun _ _ => False) (f := altF a b) (fun e => Or.elim e Or.inl fun e => Or.inr (Or.inl e)) (fun h _ => False.elim h) (fun k => k) v hq.2 hq'
   refine .inl (ha.f.1 ⟨q, q', h1, ?_, ?_, v2⟩)
   ·rcases h2 with h2 | h2
    ·exact h2
    ·have := hb.K h2
     omega
   ·rcases h3 with h3 | h3
    ·exact h3
    ·have := hb.L h3
     omega
  ·have hq := hb.F h1
   obtain ⟨v2, hq'⟩ := Walk.right ha hb (X := fun _ _ => False) (f := altF a b) (fun e => Or.elim e Or.inl fun e => Or.inr (Or.inl e)) (fun h => False.elim h) (fun k => k) v hq.1
   refine .inr (hb.f.1 ⟨q, q', h1, ?_, ?_, v2⟩)
   ·rcases h2 with h2 | h2
    ·have := ha.K h2
     omega
    ·exact h2
   ·rcases h3 with h3 | h3
    ·have := ha.L h3
     omega
    ·exact h3
 ·rintro (h | h)
  ·obtain ⟨q, q', h1, h2, h3, v⟩ := ha.f.2 h
   exact ⟨q, q', Or.inl h1, Or.inl h2, Or.inl h3, v.mono (b := altF a b) (fun h => Or.inl h) (fun h => Or.inl h)⟩
  ·obtain ⟨q, q', h1, h2, h3, v⟩ := hb.f.2 h
   exact ⟨q, q', Or.inr h1, Or.inr h2, Or.inr h3, v.mono (b := altF a b) (fun h => Or.inr h) (fun h => Or.inr h)⟩
 ·rcases h with h | h
  ·have := ha.F h
   omega
  ·have := hb.F h
   omega
 ·rcases h with h | h
  ·have := ha.L h
   omega
  ·have := hb.L h
   omega
 ·rcases h with h | h
  ·have := ha.E h
   omega
  ·have := hb.E h
   omega
 ·rcases h with h | h
  ·have := ha.K h
   omega
  ·have := hb.K h
   omega
end
section
variable {a b : Frag} {P Q : List Nat → Prop} {lo mid hi : Nat} {e0 : Bool}
theorem cat_split (ha : Rec a P lo mid) (hb : Rec b Q mid hi) {q q' : Nat} {s : List Nat} (v : Walk (catF a b) q s q') : q < mid → mid ≤ q' → ∃ s1 c s2 p r, s = s1 ++ c :: s2 ∧ Walk a q s1 p ∧ a.L p ∧ b.F r ∧ b.K r c ∧ Walk b r s2 q' := by
 induction v with
 | nil => intro h1 h2; omega
 | @cons q r q' c s e k w ih =>
  intro h1 h2
  have e' : a.E q r ∨ b.E q r ∨ (a.L q ∧ b.F r) := e
  have k' : a.K r c ∨ b.K r c := k
  rcases e' with e' | e' | ⟨e1, e2⟩
  ·obtain ⟨s1, c', s2, p, r', es, w1, hp, hr, hk, w2⟩ := ih (ha.E e').2.2 h2
   refine ⟨c :: s1, c', s2, p, r', by rw [es]; rfl, .cons e' ?_ w1, hp, hr, hk, w2⟩
   rcases k' with k' | k'
   ·exact k'
   ·have := hb.K k'
    have := (ha.E e').2
    omega
  ·have := (hb.E e').1
   omega
  ·have hr := hb.F e2
   refine ⟨[], c, s, q, r, rfl, .nil, e1, e2, ?_, (Walk.right ha hb (X := fun q r => a.L q ∧ b.F r) (f := catF a b) (fun e => e) (fun h => (ha.L h.1).2) (fun k => k) w hr.1).1⟩
   rcases k' with k' | k'
   ·have := ha.K k'
    omega
   ·exact k'
theorem cat_rec (ha : Rec a P lo mid) (hb : Rec b Q mid hi) : Rec (catF a b) (Cat P Q) lo hi := by
 have l1 := ha.le
 have l2 := hb.le
 refine ⟨?_, ⟨?_, ?_⟩, by omega, fun h => ?_, fun h => ?_, fun h => ?_, fun h => ?_⟩
 ·show (a.e && b.e) = true ↔ _
  rw [Bool.and_eq_true, ha.e, hb.e]
  constructor
  ·exact fun ⟨h1, h2⟩ => ⟨[], [], rfl, h1, h2⟩
  ·rintro ⟨s1, s2, e, h1, h2⟩
   obtain ⟨rfl, rfl⟩ := List.append_eq_nil_iff.1 e.symm
   exact ⟨h1, h2⟩
 ·rintro ⟨q, q', h1, h2, h3, v⟩
  rename_i c s
  have h1' : a.F q ∨ (a.e = true ∧ b.F q) := h1
  have h2' : a.K q c ∨ b.K q c := h2
  have h3' : b.L q' ∨ (b.e = true ∧ a.L q') := h3
  rcases h1' with h1' | ⟨he, h1'⟩
  ·have hq := ha.F h1'
   have hk : a.K q c := by
    rcases h2' with h | h
    ·exact h
    ·have := hb.K h
     omega
   rcases h3' with h3' | ⟨hbe, h3'⟩
   ·obtain ⟨s1, c', s2, p, r, es, w1, hp, hr, hk2, w2⟩ := cat_split ha hb v hq.2 (hb.L h3').1
    refine ⟨c :: s1, c' :: s2, by rw [es]; rfl, ha.f.1 ⟨q, p, h1', hk, hp, w1⟩, hb.f.1 ⟨r, q', hr, hk2, h3', w2⟩⟩
   ·have w := Walk.left ha hb (X := fun q r => a.L q ∧ b.F r) (f := catF a b) (fun e => e) (fun h h2 => by have := hb.F h.2; omega) (fun k => k) v hq.2 (ha.L h3').2
    exact ⟨c :: s, [], (List.append_nil _).symm, ha.f.1 ⟨q, q', h1', hk, h3', w⟩, hb.e.1 hbe⟩
  ·have hq := hb.F h1'
   obtain ⟨w, hq'⟩ := Walk.right ha hb (X := fun q r => a.L q ∧ b.F r) (f := catF a b) (fun e => e) (fun h => (ha.L h.1).2) (fun k => k) v hq.1
   have hk : b.K q c := by
    rcases h2' with h | h
    ·have := ha.K h
     omega
    ·exact h
   rcases h3' with h3' | ⟨_, h3'⟩
   ·exact ⟨[], c :: s, rfl, ha.e.1 he, hb.f.1 ⟨q, q', h1', hk, h3', w⟩⟩
   ·have := ha.L h3'
    omega
 ·rintro ⟨s1, s2, es, hp, hq⟩
  have mb : ∀ {q q' : Nat} {s : List Nat}, Walk b q s q' → Walk (catF a b) q s q' := fun w => Walk.mono (a := b) (b := catF a b) (fun h => Or.inr (Or.inl h)) (fun h => Or.inr h) w
  have ma : ∀ {q q' : Nat} {s : List Nat}, Walk a q s q' → Walk (catF a b) q s q' := fun w => Walk.mono (a := a) (b := catF a b) (fun h => Or.inl h) (fun h => Or.inl h) w
  cases s1 with
  | nil =>
   rw [List.nil_append] at es
   rw [← es] at hq
   obtain ⟨q, q', h1, h2, h3, v⟩ := hb.f.2 hq
   exact ⟨q, q', Or.inr ⟨ha.e.2 hp, h1⟩, Or.inr h2, Or.inl h3, mb v⟩
  | cons c1 s1 =>
   rw [List.cons_append, List.cons.injEq] at es
   obtain ⟨rfl, es⟩ := es
   obtain ⟨q, p, h1, h2, h3, v⟩ := ha.f.2 hp
   cases s2 with
   | nil =>
    rw [List.append_nil] at es
    subst es
    exact ⟨q, p, Or.inl h1, Or.inl h2, Or.inr ⟨hb.e.2 hq, h3⟩, ma v⟩
   | cons c2 s2 =>
    obtain ⟨r, q', g1, g2, g3, w⟩ := hb.f.2 hq
    subst es
    exact ⟨q, q', Or.inl h1, Or.inl h2, Or.inl g3, (ma v).app (Walk.cons (a := catF a b) (Or.inr (Or.inr ⟨h3, g1⟩)) (Or.inr g2) (mb w))⟩
 ·rcases h with h | ⟨_, h⟩
  ·have := ha.F h
   omega
  ·have := hb.F h
   omega
 ·rcases h with h | ⟨_, h⟩
  ·have := hb.L h
   omega
  ·have := ha.L h
   omega
 ·rcases h with h | h | ⟨h, g⟩
  ·have := ha.E h
   omega
  ·have := hb.E h
   omega
  ·have := ha.L h
   have := hb.F g
   omega
 ·rcases h with h | h
  ·have := ha.K h
   omega
  ·have := hb.K h
   omega
theorem plus_nil : Plus P [] ↔ P [] := by
 refine ⟨fun h => ?_, fun h => .one h⟩
 generalize hs : ([] : List Nat) = s at h
 induction h with
 | one h =>
  subst hs
  exact h
 | more h _ _ =>
  obtain ⟨e1, _⟩ := List.append_eq_nil_iff.1 hs.symm
  rw [e1] at h
  rw [← hs]
  exact h
theorem more_parts (ha : Rec a P lo hi) {q q' : Nat} {s : List Nat} (v : Walk (moreF a e0) q s q') : a.L q' → ∃ s1 s2 p, s = s1 ++ s2 ∧ Walk a q s1 p ∧ a.L p ∧ (s2 = [] ∨ Plus P s2) := by
 induction v with
 | nil => exact fun h => ⟨[], [], _, rfl, .nil, h, .inl rfl⟩
 | @cons q r q' c s e k w ih =>
  intro h
  obtain ⟨s1, s2, p, es, w1, hp, h2⟩ := ih h
  have e' : a.E q r ∨ (a.L q ∧ a.F r) := e
  rcases e' with e' | ⟨e1, e2⟩
  ·exact ⟨c :: s1, s2, p, by rw [es]; rfl, .cons e' k w1, hp, h2⟩
  ·have hP := ha.f.1 ⟨r, p, e2, k, hp, w1⟩
   refine ⟨[], c :: s, q, rfl, .nil, e1, .inr ?_⟩
   rw [es]
   rcases h2 with rfl | h2
   ·rw [List.append_nil]
    exact .one hP
   ·exact .more hP h2
theorem more_fits (ha : Rec a P lo hi) {c : Nat} {s : List Nat} : Fits1 (moreF a e0) (c :: s) ↔ Plus P (c :: s) := by
 have ma : ∀ {q q' : Nat} {s : List Nat}, Walk a q s q' → Walk (moreF a e0) q s q' := fun w => Walk.mono (a := a) (b := moreF a e0) (fun h => Or.inl h) (fun h => h) w
 constructor
 ·rintro ⟨q, q', h1, h2, h3, v⟩
  obtain ⟨s1, s2, p, es, w1, hp, h4⟩ := more_parts ha v h3
  have hP := ha.f.1 ⟨q, p, h1, h2, hp, w1⟩
  rw [es]
  rcases h4 with rfl | h4
  ·rw [List.append_nil]
   exact .one hP
  ·exact .more hP h4
 ·intro h
  generalize hs : c :: s = z at h
  induction h generalizing c s with
  | one h =>
   subst hs
   obtain ⟨q, q', h1, h2, h3, v⟩ := ha.f.2 h
   exact ⟨q, q', h1, h2, h3, ma v⟩
  | @more s1 t h m ih =>
   cases s1 with
   | nil => exact ih hs
   | cons c1 s1 =>
    rw [List.cons_append, List.cons.injEq] at hs
    obtain ⟨rfl, rfl⟩ := hs
    obtain ⟨q, p, h1, h2, h3, v⟩ := ha.f.2 h
    cases t with
    | nil =>
     rw [List.append_nil]
     exact ⟨q, p, h1, h2, h3, ma v⟩
    | cons c2 t =>
     obtain ⟨r, q', g1, g2, g3, w⟩ := ih rfl
     exact ⟨q, q', h1, h2, g3, (ma v).app (Walk.cons (a := moreF a e0) (Or.inr ⟨h3, g1⟩) g2 w)⟩
theorem more_rec (ha : Rec a P lo hi) {R : List Nat → Prop} (he : e0 = true ↔ R []) (hR : ∀ {c s}, R (c :: s) ↔ Plus P (c :: s)) : Rec (moreF a e0) R lo hi := by
 refine ⟨he, (more_fits ha).trans hR.symm, ha.le, ha.F, ha.L, fun h => ?_, ha.K⟩
 rcases h with h | ⟨h, g⟩
 ·exact ha.E h
 ·exact ⟨ha.L h, ha.F g⟩
end
mutual
def Lang : Nd → List Nat → Prop
 | .mk op w ks => if op = 2 then (fun s => ∃ c, s = [c] ∧ inW w c = true) else if op = 3 then LCat ks else if op = 4 then LAlt ks else if op = 5 then (fun s => s = [] ∨ Plus (LHead ks) s) else if op = 6 then Plus (LHead ks) else if op = 7 then (fun s => s = [] ∨ LHead ks s) else (fun s => s = [])
def LCat : List Nd → List Nat → Prop
 | [] => fun s => s = []
 | k :: ks => Cat (Lang k) (LCat ks)
def LAlt : List Nd → List Nat → Prop
 | [] => fun _ => False
 | k :: ks => fun s => Lang k s ∨ LAlt ks s
def LHead : List Nd → List Nat → Prop
 | [] => fun s => s = []
 | k :: _ => Lang k
end
mutual
def fragT : Nd → Nat → Frag × Nat
 | .mk op w ks, u => if op = 2 then (setF w u, u + 1) else if op = 3 then catG ks noF u else if op = 4 then altG ks badF u else if op = 5 then (moreF (headG ks u).1 true, (headG ks u).2) else if op = 6 then (moreF (headG ks u).1 (headG ks u).1.e, (headG ks u).2) else if op = 7 then (optF (headG ks u).1, (headG ks u).2) else (noF, u)
def catG : List Nd → Frag → Nat → Frag × Nat
 | [], a, u => (a, u)
 | k :: ks, a, u => catG ks (catF a (fragT k u).1) (fragT k u).2
def altG : List Nd → Frag → Nat → Frag × Nat
 | [], a, u => (a, u)
 | k :: ks, a, u => altG ks (altF a (fragT k u).1) (fragT k u).2
def headG : List Nd → Nat → Frag × Nat
 | [], u => (noF, u)
 | k :: _, u => fragT k u
end
theorem Rec.congr {a : Frag} {P Q : List Nat → Prop} {lo hi : Nat} (h : Rec a P lo hi) (hq : ∀ s, P s ↔ Q s) : Rec a Q lo hi :=
 ⟨h.e.trans (hq _), h.f.trans (hq _), h.le, h.F, h.L, h.E, h.K⟩
theorem cat_assoc {P Q R : List Nat → Prop} (s : List Nat) : Cat (Cat P Q) R s ↔ Cat P (Cat Q R) s := by
 constructor
 ·rintro ⟨_, s3, rfl, ⟨s1, s2, rfl, h1, h2⟩, h3⟩
  exact ⟨s1, s2 ++ s3, List.append_assoc _ _ _, h1, s2, s3, rfl, h2, h3⟩
 ·rintro ⟨s1, _, rfl, h1, s2, s3, rfl, h2, h3⟩
  exact ⟨s1 ++ s2, s3, (List.append_assoc _ _ _).symm, ⟨s1, s2, rfl, h1, h2⟩, h3⟩
theorem cat_nil_left {P : List Nat → Prop} (s : List Nat) : Cat (fun s => s = []) P s ↔ P s := by
 constructor
 ·rintro ⟨_, s2, rfl, rfl, h⟩
  exact h
 ·exact fun h => ⟨[], s, rfl, rfl, h⟩
theorem cat_nil_right {P : List Nat → Prop} (s : List Nat) : Cat P (fun s => s = []) s ↔ P s := by
 constructor
 ·rintro ⟨s1, _, rfl, h, rfl⟩
  rw [List.append_nil]
  exact h
 ·exact fun h => ⟨s, [], (List.append_nil _).symm, h, rfl⟩
mutual
theorem frag_rec : ∀ (t : Nd) (u : Nat), Rec (fragT t u).1 (Lang t) u (fragT t u).2
 | .mk op w ks, u => by
  rw [fragT, Lang]
  by_cases h2 : op = 2
  ·rw [if_pos h2, if_pos h2]
   exact setF_rec
  rw [if_neg h2, if_neg h2]
  by_cases h3 : op = 3
  ·rw [if_pos h3, if_pos h3]
   exact (catG_rec ks (noF_rec u)).congr cat_nil_left
  rw [if_neg h3, if_neg h3]
  by_cases h4 : op = 4
  ·rw [if_pos h4, if_pos h4]
   exact (altG_rec ks (badF_rec u)).congr fun s => ⟨fun h => h.elim (fun h => h.elim) (fun h => h), .inr⟩
  rw [if_neg h4, if_neg h4]
  have hh := headG_rec ks u
  by_cases h5 : op = 5
  ·rw [if_pos h5, if_pos h5]
   exact more_rec hh ⟨fun _ => .inl rfl, fun _ => rfl⟩ ⟨fun h => h.elim (fun h => nomatch h) (fun h => h), .inr⟩
  rw [if_neg h5, if_neg h5]
  by_cases h6 : op = 6
  ·rw [if_pos h6, if_pos h6]
   exact more_rec hh (hh.e.trans plus_nil.symm) .rfl
  rw [if_neg h6, if_neg h6]
  by_cases h7 : op = 7
  ·rw [if_pos h7, if_pos h7]
   exact opt_rec hh
  ·rw [if_neg h7, if_neg h7]
   exact noF_rec u
theorem catG_rec : ∀ (ks : List Nd) {a : Frag} {P : List Nat → Prop} {lo u : Nat}, Rec a P lo u → Rec (catG ks a u).1 (Cat P (LCat ks)) lo (catG ks a u).2
 | [], _, _, _, _, h => by
  rw [catG, LCat]
  exact h.congr fun s => (cat_nil_right s).symm
 | k :: ks, _, _, _, _, h => by
  rw [catG, LCat]
  exact (catG_rec ks (cat_rec h (frag_rec k _))).congr cat_assoc
theorem altG_rec : ∀ (ks : List Nd) {a : Frag} {P : List Nat → Prop} {lo u : Nat}, Rec a P lo u → Rec (altG ks a u).1 (fun s => P s ∨ LAlt ks s) lo (altG ks a u).2
 | [], _, _, _, _, h => by
  rw [altG, LAlt]
  exact h.congr fun s => ⟨.inl, fun h => h.elim (fun h => h) (fun h => h.elim)⟩
 | k :: ks, _, _, _, _, h => by
  rw [altG, LAlt]
  exact (altG_rec ks (alt_rec h (frag_rec k _))).congr fun s => or_assoc
theorem headG_rec : ∀ (ks : List Nd) (u : Nat), Rec (headG ks u).1 (LHead ks) u (headG ks u).2
 | [], u => by
  rw [headG, LHead]
  exact noF_rec u
 | k :: _, u => by
  rw [headG, LHead]
  exact frag_rec k u
end
def bitE (N : Nt) (q r : Nat) : Prop := (N.fo.getD q 0).testBit r = true
def bitK (N : Nt) (r c : Nat) : Prop := (N.ta.getD c 0).testBit r = true
structure Rep (p : Pc) (a : Frag) : Prop where
 e : p.empty = a.e
 F : ∀ q, p.first.testBit q = true ↔ a.F q
 L : ∀ q, p.last.testBit q = true ↔ a.L q
structure RepN (N N' : Nt) (a : Frag) : Prop where
 E : ∀ q r, bitE N' q r ↔ bitE N q r ∨ a.E q r
 K : ∀ r c, c < 256 → (bitK N' r c ↔ bitK N r c ∨ a.K r c)
theorem small_bit {x q : Nat} (h : x < 18446744073709551616) (hq : x.testBit q = true) : q < 64 := by
 apply Nat.lt_of_not_le
 intro hh
 have h1 := Nat.pow_le_pow_right (n := 2) (by decide) hh
 rw [Nat.testBit_lt_two_pow (by omega)] at hq
 cases hq
theorem mapI_getD (g : Nat → Nat → Nat) {l : List Nat} {q : Nat} (h : q < l.length) : (mapI g 0 l).getD q 0 = g q (l.getD q 0) := by
 rw [List.getD_eq_getElem?_getD, List.getD_eq_getElem?_getD, mapI_get, Nat.zero_add, List.getElem?_eq_getElem h]
 rfl
theorem getD_out {l : List Nat} {q : Nat} (h : l.length ≤ q) : l.getD q 0 = 0 := by
 rw [List.getD_eq_getElem?_getD, List.getElem?_eq_none h]
 rfl
theorem follow_bit {N : Nt} (k : NtOk N) {those these : Nat} (ht : those < 18446744073709551616) (q r : Nat) : bitE (N.follow those these) q r ↔ bitE N q r ∨ (those.testBit q = true ∧ these.testBit r = true) := by
 unfold bitE
 show ((mapI (folG those these) 0 N.fo).getD q 0).testBit r = true ↔ _
 by_cases hq : q < 64
 ·rw [mapI_getD _ (by rw [k.fl]; exact hq)]
  unfold folG
  by_cases hb : those.testBit q = true
  ·rw [if_pos hb, Nat.testBit_or, Bool.or_eq_true]
   simp [hb]
  ·rw [if_neg hb]
   simp [hb]
 ·rw [getD_out (by rw [mapI_len, k.fl]; omega), getD_out (by rw [k.fl]; omega), Nat.zero_testBit]
  constructor
  ·exact fun h => nomatch h
  ·rintro (h | ⟨h, _⟩)
   ·exact h
   ·exact absurd (small_bit ht h) hq
theorem place_bit {N : Nt} (k : NtOk N) {w : List Nat} {u : Nat} (hu : u < 64) (r c : Nat) (hc : c < 256) : bitK (N.place w (bitN u)) r c ↔ bitK N r c ∨ (r = u ∧ inW w c = true) := by
 unfold bitK
 show ((mapI (plG w (bitN u)) 0 N.ta).getD c 0).testBit r = true ↔ _
 rw [mapI_getD _ (by rw [k.tl]; exact hc)]
 unfold plG bitN
 rw [if_pos hu]
 by_cases hb : inW w c = true
 ·rw [if_pos hb, Nat.testBit_or, Bool.or_eq_true, Nat.testBit_two_pow, decide_eq_true_eq]
  simp only [hb, and_true]
  exact or_congr .rfl eq_comm
 ·rw [if_neg hb]
  simp [hb]
section
variable {N0 N N1 : Nt} {a b : Frag} {p q : Pc}
theorem RepN.refl (N : Nt) (e : Bool) : RepN N N ⟨e, fun _ => False, fun _ => False, fun _ _ => False, fun _ _ => False⟩ := ⟨fun _ _ => (or_false _).to_iff.symm, fun _ _ _ => (or_false _).to_iff.symm⟩
theorem RepN.cat (k : NtOk N1) (hp : PcOk p) (h1 : RepN N0 N a) (h2 : RepN N N1 b) (rp : Rep p a) (rq : Rep q b) : RepN N0 (N1.follow p.last q.first) (catF a b) := by
 refine ⟨fun x y => ?_, fun x c hc => ?_⟩
 ·rw [follow_bit k hp.l, h2.E, h1.E, rp.L, rq.F]
  show _ ↔ _ ∨ (a.E x y ∨ b.E x y ∨ (a.L x ∧ b.F y))
  rw [or_assoc, or_assoc]
 ·have : bitK (N1.follow p.last q.first) x c ↔ bitK N1 x c := .rfl
  rw [this, h2.K x c hc, h1.K x c hc]
  show _ ↔ _ ∨ (a.K x c ∨ b.K x c)
  rw [or_assoc]
theorem Rep.cat (rp : Rep p a) (rq : Rep q b) : Rep (behN p q) (catF a b) := by
 refine ⟨?_, fun x => ?_, fun x => ?_⟩
 ·show (p.empty && q.empty) = (a.e && b.e)
  rw [rp.e, rq.e]
 ·show (if p.empty = true then p.first ||| q.first else p.first).testBit x = true ↔ a.F x ∨ (a.e = true ∧ b.F x)
  rw [rp.e]
  by_cases h : a.e = true
  ·rw [if_pos h, Nat.testBit_or, Bool.or_eq_true, rp.F, rq.F]
   simp [h]
  ·rw [if_neg h, rp.F]
   simp [h]
 ·show (if q.empty = true then q.last ||| p.last else q.last).testBit x = true ↔ b.L x ∨ (b.e = true ∧ a.L x)
  rw [rq.e]
  by_cases h : b.e = true
  ·rw [if_pos h, Nat.testBit_or, Bool.or_eq_true, rp.L, rq.L]
   simp [h]
  ·rw [if_neg h, rq.L]
   simp [h]
theorem RepN.alt (h1 : RepN N0 N a) (h2 : RepN N N1 b) : RepN N0 N1 (altF a b) := by
 refine ⟨fun x y => ?_, fun x c hc => ?_⟩
 ·rw [h2.E, h1.E]
  show _ ↔ _ ∨ (a.E x y ∨ b.E x y)
  rw [or_assoc]
 ·rw [h2.K x c hc, h1.K x c hc]
  show _ ↔ _ ∨ (a.K x c ∨ b.K x c)
  rw [or_assoc]
theorem Rep.alt (rp : Rep p a) (rq : Rep q b) : Rep (altP p q) (altF a b) := by
 refine ⟨?_, fun x => ?_, fun x => ?_⟩
 ·show (p.empty || q.empty) = (a.e || b.e)
  rw [rp.e, rq.e]
 ·show (p.first ||| q.first).testBit x = true ↔ a.F x ∨ b.F x
  rw [Nat.testBit_or, Bool.or_eq_true, rp.F, rq.F]
 ·show (p.last ||| q.last).testBit x = true ↔ a.L x ∨ b.L x
  rw [Nat.testBit_or, Bool.or_eq_true, rp.L, rq.L]
theorem RepN.more (k : NtOk N) (hp : PcOk p) (h1 : RepN N0 N a) (rp : Rep p a) (e : Bool) : RepN N0 (N.follow p.last p.first) (moreF a e) := by
 refine ⟨fun x y => ?_, fun x c hc => h1.K x c hc⟩
 rw [follow_bit k hp.l, h1.E, rp.L, rp.F]
 show _ ↔ _ ∨ (a.E x y ∨ (a.L x ∧ a.F y))
 rw [or_assoc]
theorem rep_no (e : Bool) : Rep ⟨e, 0, 0⟩ ⟨e, fun _ => False, fun _ => False, fun _ _ => False, fun _ _ => False⟩ := ⟨rfl, fun q => by rw [Nat.zero_testBit]; simp, fun q => by rw [Nat.zero_testBit]; simp⟩
end
structure Reps (N0 : Nt) (x : Pc × Nt × Nat) (y : Frag × Nat) : Prop where
 p : Rep x.1 y.1
 n : RepN N0 x.2.1 y.1
 u : x.2.2 = y.2
mutual
theorem frag_le : ∀ (t : Nd) (u : Nat), u ≤ (fragT t u).2
 | t, u => (frag_rec t u).le
theorem catG_le : ∀ (ks : List Nd) (a : Frag) (u : Nat), u ≤ (catG ks a u).2
 | [], _, _ => Nat.le_refl _
 | k :: ks, _, u => Nat.le_trans (frag_le k u) (catG_le ks _ _)
theorem altG_le : ∀ (ks : List Nd) (a : Frag) (u : Nat), u ≤ (altG ks a u).2
 | [], _, _ => Nat.le_refl _
 | k :: ks, _, u => Nat.le_trans (frag_le k u) (altG_le ks _ _)
end
mutual
theorem piece_rep : ∀ (t : Nd) {N : Nt} {u : Nat}, NtOk N → (fragT t u).2 ≤ 64 → Reps N (pieceN t N u) (fragT t u)
 | .mk op w ks, N, u, k, h => by
  rw [fragT] at h
  rw [pieceN, fragT]
  by_cases h2 : op = 2
  ·rw [if_pos h2] at h
   rw [if_pos h2, if_pos h2]
   have hu : u < 64 := h
   refine ⟨⟨rfl, fun q => ?_, fun q => ?_⟩, ⟨fun q r => ?_, fun r c hc => place_bit k hu r c hc⟩, rfl⟩
   ·show (bitN u).testBit q = true ↔ q = u
    unfold bitN
    rw [if_pos hu, Nat.testBit_two_pow, decide_eq_true_eq]
    exact eq_comm
   ·show (bitN u).testBit q = true ↔ q = u
    unfold bitN
    rw [if_pos hu, Nat.testBit_two_pow, decide_eq_true_eq]
    exact eq_comm
   ·exact (or_false _).to_iff.symm
  rw [if_neg h2] at h
  rw [if_neg h2, if_neg h2]
  by_cases h3 : op = 3
  ·rw [if_pos h3] at h
   rw [if_pos h3, if_pos h3]
   exact catN_rep ks k noPc_ok (rep_no true) (RepN.refl N true) h
  rw [if_neg h3] at h
  rw [if_neg h3, if_neg h3]
  by_cases h4 : op = 4
  ·rw [if_pos h4] at h
   rw [if_pos h4, if_pos h4]
   exact altN_rep ks k (rep_no false) (RepN.refl N false) h
  rw [if_neg h4] at h
  rw [if_neg h4, if_neg h4]
  have hk := headN_ok ks (u := u) k
  by_cases h5 : op = 5
  ·subst h5
   rw [if_pos rfl] at h
   rw [if_pos (.inl rfl), if_pos rfl]
   have r := headN_rep ks k h
   refine ⟨⟨?_, r.p.F, r.p.L⟩, r.n.more hk.n hk.p r.p true, r.u⟩
   show ((headN ks N u).1.empty || true) = true
   rw [Bool.or_true]
  rw [if_neg h5] at h
  by_cases h6 : op = 6
  ·subst h6
   rw [if_pos rfl] at h
   rw [if_pos (.inr rfl), if_neg h5, if_pos rfl]
   have r := headN_rep ks k h
   refine ⟨⟨?_, r.p.F, r.p.L⟩, r.n.more hk.n hk.p r.p _, r.u⟩
   show ((headN ks N u).1.empty || false) = _
   rw [Bool.or_false]
   exact r.p.e
  rw [if_neg h6] at h
  rw [if_neg (fun hh => hh.elim h5 h6), if_neg h5, if_neg h6]
  by_cases h7 : op = 7
  ·rw [if_pos h7] at h
   rw [if_pos h7, if_pos h7]
   have r := headN_rep ks k h
   exact ⟨⟨rfl, r.p.F, r.p.L⟩, ⟨r.n.E, r.n.K⟩, r.u⟩
  ·rw [if_neg h7, if_neg h7]
   exact ⟨rep_no true, RepN.refl N true, rfl⟩
theorem catN_rep : ∀ (ks : List Nd) {N0 N : Nt} {p : Pc} {a : Frag} {u : Nat}, NtOk N → PcOk p → Rep p a → RepN N0 N a → (catG ks a u).2 ≤ 64 → Reps N0 (catN ks p N u) (catG ks a u)
 | [], _, _, _, _, _, _, _, rp, rn, _ => ⟨rp, rn, rfl⟩
 | k :: ks, N0, N, p, a, u, hN, hp, rp, rn, h => by
  rw [catG] at h
  rw [catN, catG]
  have r := piece_rep k hN (Nat.le_trans (catG_le ks _ _) h)
  have o := pieceN_ok k (u := u) hN
  have := catN_rep ks (N0 := N0) (u := (fragT k u).2) (o.n.follow (those := p.last) o.p.f) (behN_ok hp o.p) (rp.cat r.p) (RepN.cat o.n hp rn r.n rp r.p) h
  rw [r.u]
  exact this
theorem altN_rep : ∀ (ks : List Nd) {N0 N : Nt} {p : Pc} {a : Frag} {u : Nat}, NtOk N → Rep p a → RepN N0 N a → (altG ks a u).2 ≤ 64 → Reps N0 (altN ks p N u) (altG ks a u)
 | [], _, _, _, _, _, _, rp, rn, _ => ⟨rp, rn, rfl⟩
 | k :: ks, N0, N, p, a, u, hN, rp, rn, h => by
  rw [altG] at h
  rw [altN, altG]
  have r := piece_rep k hN (Nat.le_trans (altG_le ks _ _) h)
  have o := pieceN_ok k (u := u) hN
  have := altN_rep ks (N0 := N0) (u := (fragT k u).2) o.n (rp.alt r.p) (rn.alt r.n) h
  rw [r.u]
  exact this
theorem headN_rep : ∀ (ks : List Nd) {N : Nt} {u : Nat}, NtOk N → (headG ks u).2 ≤ 64 → Reps N (headN ks N u) (headG ks u)
 | [], N, _, _, _ => ⟨rep_no true, RepN.refl N true, rfl⟩
 | k :: _, _, _, hN, h => by
  rw [headG] at h
  rw [headN, headG]
  exact piece_rep k hN h
end
end Go.Proofs.YtakhljnkmbpmpaaDoor
namespace Go.Proofs.YtakhljnkmbpmpaaDoor
open Go.RowKit Abs
theorem and_ne {x y : Nat} : x &&& y ≠ 0 ↔ ∃ r, x.testBit r = true ∧ y.testBit r = true := by
 constructor
 ·intro h
  apply Classical.byContradiction
  intro hn
  refine h (Nat.eq_of_testBit_eq fun i => ?_)
  rw [Nat.zero_testBit, Nat.testBit_and]
  cases hx : x.testBit i with
  | false => rfl
  | true =>
   cases hy : y.testBit i with
   | false => rfl
   | true => exact absurd ⟨i, hx, hy⟩ hn
 ·rintro ⟨r, h1, h2⟩ h
  have := congrArg (fun z => z.testBit r) h
  rw [Nat.testBit_and, h1, h2, Nat.zero_testBit] at this
  cases this
theorem ahead_bit (fo : List Nat) (these q : Nat) : ∀ i, (aheadF fo these i).testBit q = true ↔ q < i ∧ ∃ r, (fo.getD q 0).testBit r = true ∧ these.testBit r = true
 | 0 => by
  rw [aheadF, Nat.zero_testBit]
  simp
 | i + 1 => by
  rw [aheadF]
  by_cases hz : fo.getD i 0 &&& these ≠ 0
  ·rw [if_pos hz, Nat.testBit_or, Bool.or_eq_true, ahead_bit fo these q i, Nat.testBit_two_pow, decide_eq_true_eq]
   constructor
   ·rintro (⟨h, h2⟩ | rfl)
    ·exact ⟨by omega, h2⟩
    ·exact ⟨by omega, and_ne.1 hz⟩
   ·rintro ⟨h, h2⟩
    by_cases hq : q = i
    ·exact .inr hq.symm
    ·exact .inl ⟨by omega, h2⟩
  ·rw [if_neg hz, ahead_bit fo these q i]
   constructor
   ·exact fun ⟨h, h2⟩ => ⟨by omega, h2⟩
   ·rintro ⟨h, h2⟩
    by_cases hq : q = i
    ·subst hq
     exact absurd (and_ne.2 h2) hz
    ·exact ⟨by omega, h2⟩
theorem orF_bit (ta : List Nat) (q : Nat) : ∀ i, (orF ta i).testBit q = true ↔ ∃ c, c < i ∧ (ta.getD c 0).testBit q = true
 | 0 => by
  rw [orF, Nat.zero_testBit]
  simp
 | i + 1 => by
  rw [orF, Nat.testBit_or, Bool.or_eq_true, orF_bit ta q i]
  constructor
  ·rintro (⟨c, h, h2⟩ | h)
   ·exact ⟨c, by omega, h2⟩
   ·exact ⟨i, by omega, h⟩
  ·rintro ⟨c, h, h2⟩
   by_cases hc : c = i
   ·subst hc
    exact .inr h2
   ·exact .inl ⟨c, by omega, h2⟩
theorem live_fix (fo : List Nat) (sm : Nat) : ∀ (f live more : Nat), (if more = 0 then 0 else 18446744073709551616 - live) < f → live < 18446744073709551616 → (more = 0 → moreN fo sm live = 0) → moreN fo sm (liveF fo sm f live more) = 0 ∧ ∀ q, live.testBit q = true → (liveF fo sm f live more).testBit q = true
 | 0, _, _, h, _, _ => by omega
 | f + 1, live, more, h, hl, h0 => by
  rw [liveF]
  by_cases hm : more = 0
  ·rw [if_pos hm]
   exact ⟨h0 hm, fun _ h => h⟩
  ·rw [if_neg hm] at h
   rw [if_neg hm]
   have hup : moreN fo sm live ≠ 0 → live < live ||| moreN fo sm live := more_up
   have hs := or_small hl (moreN_small fo sm live)
   obtain ⟨i1, i2⟩ := live_fix fo sm f (live ||| moreN fo sm live) (moreN fo sm live) (by
    split
    ·omega
    ·have := hup (by assumption)
     omega) hs (fun e => by rw [e, Nat.or_zero]; exact e)
   exact ⟨i1, fun q hq => i2 q (by rw [Nat.testBit_or, hq]; rfl)⟩
def netF (N : Nt) : Frag := ⟨N.empty, fun q => N.first.testBit q = true, fun q => N.last.testBit q = true, bitE N, bitK N⟩
def someB (N : Nt) (q : Nat) : Prop := ∃ c, c < 256 ∧ bitK N q c
section
variable {N : Nt} (k : NtOk N)
include k
theorem live_all : moreN N.fo (orF N.ta 256) N.live = 0 ∧ ∀ q, (N.last &&& orF N.ta 256).testBit q = true → N.live.testBit q = true := by
 refine live_fix N.fo (orF N.ta 256) 18446744073709551620 _ _ (by split <;> omega) (and_small k.l) fun e => ?_
 rw [e]
 refine Nat.eq_of_testBit_eq fun i => ?_
 rw [Nat.zero_testBit]
 cases hb : (moreN N.fo (orF N.ta 256) 0).testBit i with
 | false => rfl
 | true =>
  unfold moreN at hb
  rw [lack_bit, Nat.testBit_and, Bool.and_eq_true, Bool.and_eq_true, ahead_bit] at hb
  obtain ⟨⟨⟨_, r, _, h⟩, _⟩, _⟩ := hb
  rw [Nat.zero_testBit] at h
  cases h
theorem live_last {q : Nat} (h : N.last.testBit q = true) (hs : someB N q) : N.live.testBit q = true := by
 refine (live_all k).2 q ?_
 rw [Nat.testBit_and, h, (orF_bit N.ta q 256).2 hs]
 rfl
theorem live_back {q r : Nat} (h : bitE N q r) (hr : N.live.testBit r = true) (hs : someB N q) : N.live.testBit q = true := by
 have hq : q < 64 := by
  apply Nat.lt_of_not_le
  intro hh
  unfold bitE at h
  rw [getD_out (by rw [k.fl]; exact hh), Nat.zero_testBit] at h
  cases h
 cases hb : N.live.testBit q with
 | true => rfl
 | false =>
  have e := congrArg (fun z => z.testBit q) (live_all k).1
  unfold moreN at e
  rw [lack_bit, Nat.testBit_and, (ahead_bit _ _ _ _).2 ⟨hq, r, h, hr⟩, (orF_bit N.ta q 256).2 hs, hb, Nat.zero_testBit] at e
  cases e
theorem trim_K {q c : Nat} (hc : c < 256) : bitK N.trim q c ↔ bitK N q c ∧ N.live.testBit q = true := by
 unfold bitK
 show ((mapI (cutG N.live) 0 N.ta).getD c 0).testBit q = true ↔ _
 rw [mapI_getD _ (by rw [k.tl]; exact hc)]
 unfold cutG
 rw [Nat.testBit_and, Bool.and_eq_true]
theorem walk_live {q q' : Nat} {s : List Nat} (w : Walk (netF N) q s q') : (∀ c ∈ s, c < 256) → N.last.testBit q' = true → someB N q → N.live.testBit q = true ∧ Walk (netF N.trim) q s q' := by
 induction w with
 | nil => exact fun _ hl hs => ⟨live_last k hl hs, .nil⟩
 | @cons q r q' c s e kk w ih =>
  intro hc hl hs
  have h1 := hc c List.mem_cons_self
  obtain ⟨i1, i2⟩ := ih (fun c h => hc c (List.mem_cons_of_mem _ h)) hl ⟨c, h1, kk⟩
  exact ⟨live_back k e i1 hs, Walk.cons (a := netF N.trim) e ((trim_K k h1).2 ⟨kk, i1⟩) i2⟩
theorem walk_raw {q q' : Nat} {s : List Nat} (w : Walk (netF N.trim) q s q') : (∀ c ∈ s, c < 256) → Walk (netF N) q s q' := by
 induction w with
 | nil => exact fun _ => .nil
 | @cons q r q' c s e kk w ih => exact fun hc => Walk.cons (a := netF N) e ((trim_K k (hc c List.mem_cons_self)).1 kk).1 (ih fun c h => hc c (List.mem_cons_of_mem _ h))
theorem trim_fits {s : List Nat} (hc : ∀ c ∈ s, c < 256) : Fits1 (netF N.trim) s ↔ Fits1 (netF N) s := by
 cases s with
 | nil => exact .rfl
 | cons c s =>
  have h1 := hc c List.mem_cons_self
  have h2 := fun c h => hc c (List.mem_cons_of_mem _ h)
  constructor
  ·rintro ⟨q, q', g1, g2, g3, w⟩
   have g1' : (N.first &&& N.live).testBit q = true := g1
   rw [Nat.testBit_and, Bool.and_eq_true] at g1'
   exact ⟨q, q', g1'.1, ((trim_K k h1).1 g2).1, g3, walk_raw k w h2⟩
  ·rintro ⟨q, q', g1, g2, g3, w⟩
   obtain ⟨i1, i2⟩ := walk_live k w h2 g3 ⟨c, h1, g2⟩
   refine ⟨q, q', ?_, (trim_K k h1).2 ⟨g2, i1⟩, g3, i2⟩
   show (N.first &&& N.live).testBit q = true
   rw [Nat.testBit_and, Bool.and_eq_true]
   exact ⟨g1, i1⟩
theorem run_bit (s : Bytes) : ∀ {m : Nat}, m < 18446744073709551616 → ∀ q, (runN N (true, m) s).2.testBit q = true ↔ ∃ q0, m.testBit q0 = true ∧ Walk (netF N) q0 (s.map UInt8.toNat) q := by
 induction s with
 | nil =>
  intro m _ q
  constructor
  ·exact fun h => ⟨q, h, .nil⟩
  ·rintro ⟨q0, h, w⟩
   cases w
   exact h
 | cons c s ih =>
  intro m hm q
  have hs := step_small k (true, m) c.toNat
  have he : stepN N (true, m) c.toNat = (true, N.behind m &&& N.ta.getD c.toNat 0) := by
   unfold stepN
   rw [if_pos rfl]
  rw [he] at hs
  have hr : runN N (true, m) (c :: s) = runN N (true, N.behind m &&& N.ta.getD c.toNat 0) s := by
   rw [← he]
   unfold runN
   rw [List.foldl_cons]
  rw [hr, ih hs q]
  constructor
  ·rintro ⟨r, h, w⟩
   rw [Nat.testBit_and, Bool.and_eq_true, behind_bit hm] at h
   obtain ⟨⟨q0, g1, g2⟩, g3⟩ := h
   exact ⟨q0, g1, Walk.cons (a := netF N) g2 g3 w⟩
  ·rintro ⟨q0, h, w⟩
   cases w with
   | @cons _ r _ _ _ e kk w =>
    refine ⟨r, ?_, w⟩
    rw [Nat.testBit_and, Bool.and_eq_true, behind_bit hm]
    exact ⟨⟨q0, h, e⟩, kk⟩
theorem match_fits (c : UInt8) (s : Bytes) : matchN N (c :: s) = true ↔ Fits1 (netF N) ((c :: s).map UInt8.toNat) := by
 have hs : N.first &&& N.ta.getD c.toNat 0 < 18446744073709551616 := and_small k.f
 have hb : (runN N (true, N.first &&& N.ta.getD c.toNat 0) s).1 = true := by
  have : ∀ (s : Bytes) (m : Nat), (runN N (true, m) s).1 = true := by
   intro s
   induction s with
   | nil => exact fun _ => rfl
   | cons c s ih => exact fun m => ih _
  exact this s _
 show doneN N (runN N (true, N.first &&& N.ta.getD c.toNat 0) s) = true ↔ _
 unfold doneN
 rw [if_pos hb, decide_eq_true_eq, and_ne]
 constructor
 ·rintro ⟨q', h1, h2⟩
  obtain ⟨q, g1, w⟩ := (run_bit k s hs q').1 h1
  rw [Nat.testBit_and, Bool.and_eq_true] at g1
  exact ⟨q, q', g1.1, g1.2, h2, w⟩
 ·rintro ⟨q, q', g1, g2, g3, w⟩
  refine ⟨q', (run_bit k s hs q').2 ⟨q, ?_, w⟩, g3⟩
  rw [Nat.testBit_and, Bool.and_eq_true]
  exact ⟨g1, g2⟩
end
theorem zero_getD {n i : Nat} : (List.replicate n 0).getD i 0 = 0 := by
 rw [List.getD_eq_getElem?_getD, List.getElem?_replicate]
 split <;> rfl
theorem raw_rep {t : Nd} (h : (fragT t 0).2 ≤ 64) : Rep (pieceN t zeroNet 0).1 (fragT t 0).1 ∧ (∀ q r, bitE (rawOf t) q r ↔ (fragT t 0).1.E q r) ∧ (∀ r c, c < 256 → (bitK (rawOf t) r c ↔ (fragT t 0).1.K r c)) := by
 have r := piece_rep t zeroNet_ok h
 refine ⟨r.p, fun q x => (r.n.E q x).trans ⟨fun h => h.elim (fun h => ?_) (fun h => h), .inr⟩, fun x c hc => (r.n.K x c hc).trans ⟨fun h => h.elim (fun h => ?_) (fun h => h), .inr⟩⟩
 ·unfold bitE at h
  rw [show zeroNet.fo = List.replicate 64 0 from rfl, zero_getD, Nat.zero_testBit] at h
  cases h
 ·unfold bitK at h
  rw [show zeroNet.ta = List.replicate 256 0 from rfl, zero_getD, Nat.zero_testBit] at h
  cases h
theorem raw_fits {t : Nd} (h : (fragT t 0).2 ≤ 64) {s : List Nat} (hc : ∀ c ∈ s, c < 256) : Fits1 (netF (rawOf t)) s ↔ Fits1 (fragT t 0).1 s := by
 obtain ⟨r1, r2, r3⟩ := raw_rep h
 have w1 : ∀ {q q' : Nat} {s : List Nat}, Walk (netF (rawOf t)) q s q' → (∀ c ∈ s, c < 256) → Walk (fragT t 0).1 q s q' := by
  intro q q' s w
  induction w with
  | nil => exact fun _ => .nil
  | cons e kk _ ih => exact fun hc => .cons ((r2 _ _).1 e) ((r3 _ _ (hc _ List.mem_cons_self)).1 kk) (ih fun c h => hc c (List.mem_cons_of_mem _ h))
 have w2 : ∀ {q q' : Nat} {s : List Nat}, Walk (fragT t 0).1 q s q' → (∀ c ∈ s, c < 256) → Walk (netF (rawOf t)) q s q' := by
  intro q q' s w
  induction w with
  | nil => exact fun _ => .nil
  | cons e kk _ ih => exact fun hc => Walk.cons (a := netF (rawOf t)) ((r2 _ _).2 e) ((r3 _ _ (hc _ List.mem_cons_self)).2 kk) (ih fun c h => hc c (List.mem_cons_of_mem _ h))
 cases s with
 | nil => exact .rfl
 | cons c s =>
  have h1 := hc c List.mem_cons_self
  have h2 := fun c h => hc c (List.mem_cons_of_mem _ h)
  constructor
  ·rintro ⟨q, q', g1, g2, g3, w⟩
   exact ⟨q, q', (r1.F q).1 g1, (r3 _ _ h1).1 g2, (r1.L q').1 g3, w1 w h2⟩
  ·rintro ⟨q, q', g1, g2, g3, w⟩
   exact ⟨q, q', (r1.F q).2 g1, (r3 _ _ h1).2 g2, (r1.L q').2 g3, w2 w h2⟩
theorem match_lang {t : Nd} (h : (fragT t 0).2 ≤ 64) (s : Bytes) : matchN (netOf t) s = true ↔ Lang t (s.map UInt8.toNat) := by
 have fr := frag_rec t 0
 cases s with
 | nil =>
  have e : matchN (netOf t) [] = (fragT t 0).1.e := (raw_rep h).1.e
  rw [e]
  exact fr.e
 | cons c s =>
  have hc : ∀ x ∈ (c :: s).map UInt8.toNat, x < 256 := fun x hx => by
   obtain ⟨y, _, rfl⟩ := List.mem_map.1 hx
   exact y.toNat_lt
  rw [match_fits (netOf_ok t) c s]
  exact (trim_fits (rawOf_ok t) hc).trans ((raw_fits h hc).trans fr.f)
theorem inW_zero (i : Nat) : inW zeroW i = false := by
 unfold inW zeroW
 have : ([0, 0, 0, 0] : List Nat).getD (i / 64) 0 = 0 := by
  rw [List.getD_eq_getElem?_getD]
  match i / 64 with
  | 0 => rfl
  | 1 => rfl
  | 2 => rfl
  | 3 => rfl
  | _ + 4 => rfl
 rw [this, Nat.zero_testBit]
theorem inW_add {w : List Nat} (hw : WordsOk w) {c i : Nat} (hc : c < 256) : inW (addW w c) i = (inW w i || decide (i = c)) := by
 unfold inW addW
 have hl := hw.len
 by_cases h : c / 64 = i / 64
 ·rw [← h, List.getD_eq_getElem?_getD, List.getElem?_set_self (by omega), Option.getD_some, Nat.testBit_or, Nat.testBit_two_pow]
  congr 1
  refine decide_eq_decide.2 ⟨fun h2 => by omega, fun h2 => by rw [h2]⟩
 ·rw [List.getD_eq_getElem?_getD, List.getElem?_set_ne h, ← List.getD_eq_getElem?_getD, decide_eq_false (by intro h2; exact h (by rw [h2])), Bool.or_false]
def oneB (c : UInt8) : Nd := oneN c.toNat
theorem at?_app (pre rest : Bytes) (i : Nat) : at? (pre ++ rest) (pre.length + i) = (rest[i]?).map UInt8.toNat := by
 unfold at?
 rw [List.getElem?_append_right (by omega), show pre.length + i - pre.length = i by omega]
theorem flat_lit {r : Res} : ∀ (rest pre : Bytes) (l : List Nd), FlatP (partL (pre ++ rest)) (pre ++ rest) l pre.length r → r = .ok (joinN 3 (l ++ rest.map oneB), (pre ++ rest).length)
 | [], pre, l, k => by
  cases k with
  | stop s => simp
  | bad s h => simp at s
  | more s h m => simp at s
 | c :: rest, pre, l, k => by
  have hc := at?_app pre (c :: rest) 0
  rw [Nat.add_zero] at hc
  have hp : partL (pre ++ c :: rest) pre.length = .ok (oneN c.toNat, pre.length + 1) := by
   unfold partL
   rw [hc]
   rfl
  cases k with
  | stop s => simp at s; omega
  | bad s h => rw [hp] at h; cases h
  | more s h m =>
   rw [hp] at h
   cases h
   have e : pre ++ c :: rest = (pre ++ [c]) ++ rest := by simp
   have m' : FlatP (partL ((pre ++ [c]) ++ rest)) ((pre ++ [c]) ++ rest) (l ++ [oneB c]) (pre ++ [c]).length r := by
    rw [← e, List.length_append]
    exact m
   have := flat_lit rest (pre ++ [c]) (l ++ [oneB c]) m'
   rw [this, ← e]
   simp
mutual
def cntN : Nd → Nat
 | .mk op _ ks => if op = 2 then 1 else cntL ks
def cntL : List Nd → Nat
 | [] => 0
 | k :: ks => cntN k + cntL ks
end
mutual
theorem frag_cnt : ∀ (t : Nd) (u : Nat), (fragT t u).2 ≤ u + cntN t
 | .mk op w ks, u => by
  rw [fragT, cntN]
  have h1 := catG_cnt ks noF u
  have h2 := altG_cnt ks badF u
  have h3 := headG_cnt ks u
  by_cases e2 : op = 2
  ·rw [if_pos e2, if_pos e2]
   exact Nat.le_refl _
  rw [if_neg e2, if_neg e2]
  split
  ·exact h1
  split
  ·exact h2
  split
  ·exact h3
  split
  ·exact h3
  split
  ·exact h3
  ·exact Nat.le_add_right _ _
theorem catG_cnt : ∀ (ks : List Nd) (a : Frag) (u : Nat), (catG ks a u).2 ≤ u + cntL ks
 | [], _, _ => Nat.le_refl _
 | k :: ks, a, u => by
  have h1 := frag_cnt k u
  have h2 := catG_cnt ks (catF a (fragT k u).1) (fragT k u).2
  rw [catG, cntL]
  omega
theorem altG_cnt : ∀ (ks : List Nd) (a : Frag) (u : Nat), (altG ks a u).2 ≤ u + cntL ks
 | [], _, _ => Nat.le_refl _
 | k :: ks, a, u => by
  have h1 := frag_cnt k u
  have h2 := altG_cnt ks (altF a (fragT k u).1) (fragT k u).2
  rw [altG, cntL]
  omega
theorem headG_cnt : ∀ (ks : List Nd) (u : Nat), (headG ks u).2 ≤ u + cntL ks
 | [], _ => Nat.le_refl _
 | k :: ks, u => by
  have h1 := frag_cnt k u
  rw [headG, cntL]
  omega
end
theorem joinN_cnt {op : Nat} (ho : op ≠ 2) : ∀ l : List Nd, cntN (joinN op l) ≤ cntL l
 | [] => by
  show (if 1 = 2 then 1 else cntL []) ≤ _
  exact Nat.le_refl _
 | [t] => Nat.le_add_right _ _
 | a :: b :: l => by
  show (if op = 2 then 1 else cntL (a :: b :: l)) ≤ _
  rw [if_neg ho]
  exact Nat.le_refl _
theorem cnt_ones : ∀ u : Bytes, cntL (u.map oneB) = u.length
 | [] => rfl
 | c :: u => by
  rw [List.map_cons, cntL, cnt_ones u, List.length_cons, Nat.add_comm]
  rfl
theorem join3_lang (s : List Nat) : ∀ l : List Nd, Lang (joinN 3 l) s ↔ LCat l s
 | [] => .rfl
 | [_] => (cat_nil_right s).symm
 | _ :: _ :: _ => .rfl
theorem one_lang (c : UInt8) (s : List Nat) : Lang (oneB c) s ↔ s = [c.toNat] := by
 have hc : c.toNat < 256 := c.toNat_lt
 have : ∀ x, inW (spanW zeroW c.toNat 1) x = decide (x = c.toNat) := fun x => by
  show inW (addW zeroW c.toNat) x = _
  rw [inW_add zeroW_ok hc, inW_zero, Bool.false_or]
 show (∃ x, s = [x] ∧ inW (spanW zeroW c.toNat 1) x = true) ↔ _
 constructor
 ·rintro ⟨x, rfl, h⟩
  rw [this, decide_eq_true_eq] at h
  rw [h]
 ·rintro rfl
  exact ⟨_, rfl, by rw [this, decide_eq_true_eq]⟩
theorem ones_lang : ∀ (u : Bytes) (s : List Nat), LCat (u.map oneB) s ↔ s = u.map UInt8.toNat
 | [], _ => .rfl
 | c :: u, s => by
  rw [List.map_cons, List.map_cons, LCat]
  constructor
  ·rintro ⟨s1, s2, rfl, h1, h2⟩
   rw [one_lang] at h1
   rw [ones_lang u] at h2
   rw [h1, h2]
   rfl
  ·rintro rfl
   exact ⟨[c.toNat], _, rfl, (one_lang c _).2 rfl, (ones_lang u _).2 rfl⟩
def litT (u : Bytes) : Nd := joinN 3 (u.map oneB)
theorem lit_lang (u s : Bytes) (hu : u.length ≤ 64) : matchN (netOf (litT u)) s = true ↔ s = u := by
 have h1 := frag_cnt (litT u) 0
 have h2 := joinN_cnt (op := 3) (by decide) (u.map oneB)
 rw [cnt_ones] at h2
 rw [match_lang (Nat.le_trans h1 (by show 0 + cntN (joinN 3 (u.map oneB)) ≤ 64; omega)) s]
 refine (join3_lang _ _).trans ((ones_lang u _).trans ⟨fun h => ?_, fun h => by rw [h]⟩)
 exact List.map_inj_right (fun a b e => UInt8.toNat_inj.1 e) |>.1 h
theorem any_all : (List.range 256).all (fun i => inW anyW i) = true := by kernel_rfl
theorem any_lang (s : Bytes) : Lang anyN (s.map UInt8.toNat) ↔ s.length = 1 := by
 show (∃ x, s.map UInt8.toNat = [x] ∧ inW anyW x = true) ↔ _
 constructor
 ·rintro ⟨x, h, _⟩
  have := congrArg List.length h
  rw [List.length_map] at this
  exact this
 ·intro h
  match s, h with
  | [c], _ => exact ⟨c.toNat, rfl, List.all_eq_true.1 any_all _ (List.mem_range.2 c.toNat_lt)⟩
theorem one_match (s : Bytes) : matchN (netOf anyN) s = decide (s.length = 1) := by
 have h := (match_lang (t := anyN) (by show 1 ≤ 64; decide) s).trans (any_lang s)
 by_cases hs : s.length = 1
 ·rw [decide_eq_true hs]
  exact h.2 hs
 ·rw [decide_eq_false hs]
  cases hm : matchN (netOf anyN) s with
  | false => rfl
  | true => exact absurd (h.1 hm) hs
theorem star_match (s : Bytes) : matchN (netOf (overN 5 [anyN])) s = true := by
 refine (match_lang (t := overN 5 [anyN]) (by show 1 ≤ 64; decide) s).2 ?_
 show s.map UInt8.toNat = [] ∨ Plus (Lang anyN) (s.map UInt8.toNat)
 induction s with
 | nil => exact .inl rfl
 | cons c s ih =>
  have h1 : Lang anyN [c.toNat] := (any_lang [c]).2 rfl
  refine .inr ?_
  rcases ih with ih | ih
  ·rw [List.map_cons, ih]
   exact .one h1
  ·exact .more (s := [c.toNat]) h1 ih
theorem tree_lit {u : Bytes} {r : Except Nat Nd} (h : TreeP u 1 r) : r = .ok (litT u) := by
 generalize hk : (1 : Int) = k at h
 cases h with
 | lit a =>
  have := flat_lit (r := _) u [] [] (by rw [List.nil_append]; exact a)
  rw [this]
  rfl
 | glob a => cases hk
 | re_bad a => cases hk
 | re_end a n => cases hk
 | re a => cases hk
theorem tree_star {r : Except Nat Nd} (h : TreeP [42] 2 r) : r = .ok (overN 5 [anyN]) := by
 generalize hk : (2 : Int) = k at h
 cases h with
 | glob a =>
  cases a with
  | stop s => exact absurd s (by decide)
  | bad s h => cases h
  | more s h m =>
   cases h
   cases m with
   | stop s => rfl
   | bad s h => exact absurd s (by decide)
   | more s h m => exact absurd s (by decide)
 | lit a => cases hk
 | re_bad a => cases hk
 | re_end a n => cases hk
 | re a => cases hk
theorem tree_mark {r : Except Nat Nd} (h : TreeP [63] 2 r) : r = .ok anyN := by
 generalize hk : (2 : Int) = k at h
 cases h with
 | glob a =>
  cases a with
  | stop s => exact absurd s (by decide)
  | bad s h => cases h
  | more s h m =>
   cases h
   cases m with
   | stop s => rfl
   | bad s h => exact absurd s (by decide)
   | more s h m => exact absurd s (by decide)
 | lit a => cases hk
 | re_bad a => cases hk
 | re_end a n => cases hk
 | re a => cases hk
theorem of_tree {k : Int} {u : Bytes} {t : Nd} {n d : Nat} (hk : k = 1 ∨ k = 2 ∨ k = 3) (hu : u.length ≤ 64) (ht : ∀ r, TreeP u k r → r = .ok t) (hn : 18446744073709551620 < n) (hd : 1000 ≤ d) {h : AHeap} (hx : memB TNode h.ex = false) : ∃ nb h', world n (d + 1) 12 [.agg [.int .i64 k, strA u]] h = some (.ret (.tup [.ptr nb 0, .int .i64 0]), h') ∧ Abs.Mem [] h h' [(nb, TNet, netC (netOf t))] := by
 obtain ⟨D, rfl⟩ : ∃ D, d = D + 3 := ⟨d - 3, by omega⟩
 obtain ⟨r, r1, _, r3⟩ := (tree_kinds (u := u) (by omega) hk).2 hu
 obtain rfl := ht r r1
 have hz := treeP_small r1
 exact of_ok (treeP_oneK r1) (by omega) (by omega) hn (fun h hx => r3 (by omega) (by omega) hx) hx
def exT : Nd := .mk 3 zeroW [.mk 6 zeroW [oneN 97], oneN 98]
abbrev exU : Bytes := [97, 43, 98]
set_option maxRecDepth 100000 in
theorem ex_dead : deadN (netOf exT) (stepN (netOf exT) (false, 0) 98) = true := by kernel_rfl
set_option maxRecDepth 100000 in
theorem ex_dead0 : deadN (netOf exT) (false, 0) = false := by kernel_rfl
set_option maxRecDepth 100000 in
theorem ex_done0 : doneN (netOf exT) (false, 0) = false := by kernel_rfl
set_option maxRecDepth 100000 in
theorem ex_aab : matchN (netOf exT) [97, 97, 98] = true := by kernel_rfl
set_option maxRecDepth 100000 in
theorem ex_b : matchN (netOf exT) [98] = false := by kernel_rfl
theorem exStop0 : ¬ stops exU 0 := by unfold stops; decide
theorem exStop2 : ¬ stops exU 2 := by unfold stops; decide
theorem ex_part0 : PartP exU 0 (.ok (.mk 6 zeroW [oneN 97], 2)) := PartP.sign (i := 0) (j := 1) (t := oneN 97) (.one (c := 97) rfl (by unfold badAtom; decide) (by decide)) (by decide)
theorem ex_part2 : PartP exU 2 (.ok (oneN 98, 3)) := PartP.bare (.one (c := 98) rfl (by unfold badAtom; decide) (by decide)) rfl
theorem ex_row : RowP exU [] 0 (.ok (exT, 3)) := .more exStop0 ex_part0 (.more exStop2 ex_part2 (RowP.stop (l := [.mk 6 zeroW [oneN 97], oneN 98]) (i := 3) (.inl rfl)))
theorem ex_alt : AltP exU [] 0 (.ok (exT, 3)) := AltP.last (l := []) (t := exT) ex_row (by decide)
theorem ex_tree {r : Except Nat Nd} (h : TreeP exU 3 r) : r = .ok exT := by
 generalize hk : (3 : Int) = k at h
 cases h with
 | lit a => cases hk
 | glob a => cases hk
 | re_bad a => cases altP_one a ex_alt
 | re_end a n =>
  cases altP_one a ex_alt
  exact absurd rfl n
 | re a =>
  cases altP_one a ex_alt
  rfl
theorem of_ex {n d : Nat} {h : AHeap} (hn : 18446744073709551620 < n) (hd : 1000 ≤ d) (hx : memB TNode h.ex = false) : ∃ nb h', world n (d + 1) 12 [.agg [.int .i64 3, strA exU]] h = some (.ret (.tup [.ptr nb 0, .int .i64 0]), h') ∧ Abs.Mem [] h h' [(nb, TNet, netC (netOf exT))] := by
 obtain ⟨D, rfl⟩ : ∃ D, d = D + 3 := ⟨d - 3, by omega⟩
 obtain ⟨r, r1, _, r3⟩ := (tree_kinds (u := exU) (by decide) (.inr (.inr rfl))).2 (by decide)
 obtain rfl := ex_tree r1
 exact of_ok (treeP_oneK r1) (by have := treeP_small r1; have : exU.length = 3 := rfl; omega) (by have := treeP_small r1; have : exU.length = 3 := rfl; omega) hn (fun h hx => r3 (by omega) (by omega) hx) hx
theorem works_w {n d : Nat} {h : AHeap} (hn : 18446744073709551620 < n) (hd : 1000 ≤ d) (hT : HasTz h) (hx : memB TNode h.ex = false) : world n (d + 2) 11 [] h = some (.ret (.bool true), h) := by
 apply Wp.eq
 rw [w_law10_works]
 refine Wp.gc ?_
 suffices hK : Wp (law10_works (world n (d + 1)) n h) fun r h' => r = .ret (.bool true) ∧ Tch [] h h' from hK.mono fun r h' ⟨e, t⟩ => ⟨t.above, by rw [e]; rfl, e, rfl⟩
 obtain ⟨D, rfl⟩ : ∃ D, d = D + 3 := ⟨d - 3, by omega⟩
 unfold law10_works
 obtain ⟨nb, h1, e1, M1⟩ := of_ex hn hd hx
 have hN := netOf_ok exT
 refine Wp.callN e1 ?_
 repeat (first | (with_reducible refine Wp.join1 (fun _ _ => ?_)) | (with_reducible refine Wp.lett ?_) | ((with_reducible apply Wp.obind); (with_reducible first | exact avInt_int _ _ | exact avBool_bool _ | exact extT_0 _ _ | exact extT_1 _ _ _)) | ((with_reducible refine Wp.iff ?_ ?_); first | (with_reducible rfl) | ((with_reducible apply bne_f); omega)) | ((with_reducible apply Wp.outK); (with_reducible exact eqNet _ _ _)) | (with_reducible refine Wp.go1 (by assumption) ?_))
 obtain ⟨h2, e2, M2⟩ := begin_m (n := n) (d := D + 3) (nb := nb) M1
 refine Wp.callN e2 ?_
 have d0 := done_w (n := n) (d := D + 2) hN (show ((false, 0) : Bool × Nat).2 < _ by decide) M2.at0.1 M2.at1.1
 rw [ex_done0] at d0
 have d1 := dead_w (n := n) (d := D + 2) M2.at0.1 M2.at1.1
 rw [ex_dead0] at d1
 repeat (first | (with_reducible refine Wp.join1 (fun _ _ => ?_)) | ((with_reducible apply Wp.obind); (with_reducible exact avBool_bool _)) | ((with_reducible refine Wp.iff ?_ ?_); (with_reducible rfl)) | ((with_reducible apply Wp.callN); (with_reducible first | exact d0 | exact d1)) | ((with_reducible apply Wp.outK); (with_reducible exact eqRun _ _ _)) | (with_reducible refine Wp.go1 (by assumption) ?_))
 have hne : h1.next ≠ nb := fun e => by
  have := M1.at0.2.1
  omega
 obtain ⟨h3, e3, k3, t3⟩ := step_r (n := n) (d := D + 1) (c := 98) (hT.tch M2.tch (by simp)) hN (show ((false, 0) : Bool × Nat).2 < _ by decide) (by omega) hne (by decide) M2.at0.1 M2.at1.1 M2.at1.2.1
 refine Wp.callN e3 ?_
 have M3 := Mem.upd (xs := []) M2 t3 k3
 simp only [List.nil_append] at M3
 have d2 := dead_w (n := n) (d := D + 2) M3.at0.1 M3.at1.1
 rw [ex_dead] at d2
 repeat (first | (with_reducible refine Wp.join1 (fun _ _ => ?_)) | ((with_reducible apply Wp.obind); (with_reducible exact avBool_bool _)) | ((with_reducible refine Wp.ift ?_ ?_); (with_reducible rfl)) | ((with_reducible apply Wp.callN); (with_reducible exact d2)))
 obtain ⟨h4, e4, t4⟩ := match_r (n := n) (d := D) (s := [97, 97, 98]) (hT.tch M3.tch (by simp)) hN (by omega) (by decide) M3.at1.1 M3.at1.2.1
 rw [ex_aab] at e4
 refine Wp.callN e4 ?_
 have M4 := M3.keep t4
 repeat (first | (with_reducible refine Wp.join1 (fun _ _ => ?_)) | ((with_reducible apply Wp.obind); (with_reducible exact avBool_bool _)) | ((with_reducible refine Wp.ift ?_ ?_); (with_reducible rfl)) | (with_reducible refine Wp.go1 (by assumption) ?_))
 obtain ⟨h5, e5, t5⟩ := match_r (n := n) (d := D) (s := [98]) (hT.tch M4.tch (by simp)) hN (by omega) (by decide) M4.at1.1 M4.at1.2.1
 rw [ex_b] at e5
 refine Wp.callN e5 ?_
 repeat (first | (with_reducible refine Wp.lett ?_) | ((with_reducible apply Wp.obind); (with_reducible exact avBool_bool _)) | (with_reducible refine Wp.go1 (by assumption) ?_))
 exact Wp.ret ⟨rfl, (M4.keep t5).tch⟩
section
variable {N : Nt} {n d nb rb : Nat} {h0 : AHeap} {Q : ARes → AHeap → Prop} {ys : List RowT}
end
abbrev tzI64 : List Int := [0, 1, 56, 2, 57, 49, 28, 3, 61, 58, 42, 50, 38, 29, 17, 4, 62, 47, 59, 36, 45, 43, 51, 22, 53, 39, 33, 30, 24, 18, 12, 5, 63, 55, 48, 27, 60, 41, 37, 16, 46, 35, 44, 21, 52, 32, 23, 11, 54, 26, 40, 15, 34, 20, 31, 10, 25, 14, 19, 9, 13, 8, 7, 6]
theorem tzC_ints : tzC = tzI64.map fun z => AV.int .u8 z := by kernel_rfl
noncomputable def tzG : Tabs := [(0, tzI64.map fun z => AV.int .u8 z)]
theorem tz_of {h : AHeap} {X : List Nat} {G : Nat} (hG : 0 < G) (k : Keeps (startG tzG X G) h) : HasTz h :=
 ⟨k.2.2 _ _ (by show (tabTree tzG).get _ = _; unfold tzG tabTree; rw [T.get_set_same, tzC_ints]), Nat.lt_of_lt_of_le hG k.1⟩
noncomputable def law10_NfaLiterals (call : CallF) (_ : Nat) (t0 : Bytes) (t1 : Bytes) (h : AHeap) : R :=
 callN (call 11 [] h) fun r11 h_4 =>
 obind (avBool r11) fun t11 =>
 lett (!t11) fun (t12 : Bool) =>
 ifB t12
 (
  some (.ret (.bool false), h_4))
 (
  lett (decide ((lenS t1) > 65536)) fun (t15 : Bool) =>
  ifB t15
  (
   some (.ret (.bool true), h_4))
  (
   callN (call 12 [.agg ([.int .i64 1, strA t0] : List AV)] h_4) fun r19 h_14 =>
   obind (extT 0 r19) fun v20 =>
   obind (extT 1 r19) fun v21 =>
   obind (avInt .i64 v21) fun t21 =>
   callN (call 12 [.agg ([.int .i64 2, strA ([42] : Bytes)] : List AV)] h_14) fun r24 h_20 =>
   obind (extT 0 r24) fun v25 =>
   obind (extT 1 r24) fun v26 =>
   obind (avInt .i64 v26) fun t26 =>
   callN (call 12 [.agg ([.int .i64 2, strA ([63] : Bytes)] : List AV)] h_20) fun r29 h_26 =>
   obind (extT 0 r29) fun v30 =>
   obind (extT 1 r29) fun v31 =>
   obind (avInt .i64 v31) fun t31 =>
   lett ((t26 : Int) != 0) fun (t33 : Bool) =>
   lett (fun (t37 : Bool) (h_34 : AHeap) =>
    lett (fun (t41 : Bool) (h_37 : AHeap) =>
     lett (fun (t45 : Bool) (h_40 : AHeap) =>
      lett (fun (t51 : Bool) (h_43 : AHeap) =>
       lett (fun (t60 : Bool) (h_46 : AHeap) =>
        ifB t60
        (
         some (.ret (.bool false), h_46))
        (
         lett (decide ((lenS t0) > 64)) fun (t63 : Bool) =>
         ifB t63
         (
          lett ((t21 : Int) == 2) fun (t65 : Bool) =>
          lett (fun (t69 : Bool) (h_55 : AHeap) =>
           some (.ret (.bool t69), h_55)) fun j69 =>
          ifB t65
          (
           outK (opBin Tryd.prog h_46 .eql 25 true (some v20) (some AV.nilp)) fun v68 h_58 =>
           obind (avBool v68) fun t68 =>
           j69 t68 h_58)
          (
           j69 false h_46))
         (
          lett ((t21 : Int) == 0) fun (t71 : Bool) =>
          lett (fun (t75 : Bool) (h_63 : AHeap) =>
           lett (fun (t84 : Bool) (h_66 : AHeap) =>
            lett (fun (t89 : Bool) (h_69 : AHeap) =>
             some (.ret (.bool t89), h_69)) fun j89 =>
            ifB t84
            (
             callN (call 14 [v20, strA t0] h_66) fun r88 h_72 =>
             obind (avBool r88) fun t88 =>
             j89 t88 h_72)
            (
             j89 false h_66)) fun j84 =>
           ifB t75
           (
            callN (call 14 [v20, strA t1] h_63) fun r79 h_75 =>
            obind (avBool r79) fun t79 =>
            lett (eqS t1 t0) fun (t82 : Bool) =>
            lett ((t79 : Bool) == t82) fun (t83 : Bool) =>
            j84 t83 h_75)
           (
            j84 false h_63)) fun j75 =>
          ifB t71
          (
           outK (opBin Tryd.prog h_46 .neq 25 true (some v20) (some AV.nilp)) fun v74 h_80 =>
           obind (avBool v74) fun t74 =>
           j75 t74 h_80)
          (
           j75 false h_46)))) fun j60 =>
       ifB t51
       (
        j60 true h_43)
       (
        callN (call 14 [v30, strA t1] h_43) fun r55 h_83 =>
        obind (avBool r55) fun t55 =>
        lett (((lenS t1) : Int) == 1) fun (t58 : Bool) =>
        lett (!((t55 : Bool) == t58)) fun (t59 : Bool) =>
        j60 t59 h_83)) fun j51 =>
      ifB t45
      (
       j51 true h_40)
      (
       callN (call 14 [v25, strA t1] h_40) fun r49 h_88 =>
       obind (avBool r49) fun t49 =>
       lett (!t49) fun (t50 : Bool) =>
       j51 t50 h_88)) fun j45 =>
     ifB t41
     (
      j45 true h_37)
     (
      outK (opBin Tryd.prog h_37 .eql 25 true (some v30) (some AV.nilp)) fun v44 h_92 =>
      obind (avBool v44) fun t44 =>
      j45 t44 h_92)) fun j41 =>
    ifB t37
    (
     j41 true h_34)
    (
     outK (opBin Tryd.prog h_34 .eql 25 true (some v25) (some AV.nilp)) fun v40 h_95 =>
     obind (avBool v40) fun t40 =>
     j41 t40 h_95)) fun j37 =>
   ifB t33
   (
    j37 true h_26)
   (
    lett ((t31 : Int) != 0) fun (t36 : Bool) =>
    j37 t36 h_26)))
set_option maxHeartbeats 4000000 in
set_option maxRecDepth 20000 in
theorem law10_NfaLiterals_ok {call : CallF} (hc : SaysAll Tryd.prog call) {n : Nat} {t0 : Bytes} {t1 : Bytes} {h : AHeap} {rR : ARes} {hR : AHeap} (hF : law10_NfaLiterals call n t0 t1 h = some (rR, hR)) : Says Tryd.prog 8 [strA t0, strA t1] h rR hR := by
 unfold law10_NfaLiterals at hF
 refine sO Tryd.func8 fun w0 m0 => ?_
 refine wW [(0, strA t0), (1, strA t1)] ?_
 refine oG fun n1 => W.r ?_
 refine oA 4 (.bool false) ?_
 refine oV [(0, strA t0), (1, strA t1)] (n1 ?_)
 refine oH fun n2 q2 => ?_
 refine oG fun n3 => W.r ?_
 refine oCb hc 11 hF fun t11 h_4 hF => ?_
 refine oB 12 hF fun t12 hF => ?_
 refine oV [(0, strA t0), (1, strA t1), (12, .bool t12)] (n3 ?_)
 cases t12 with
 | true =>
  refine oT hF fun hF => ?_
  refine oG fun n8 => W.r ?_
  refine oA 4 (.bool false) ?_
  refine oV [(4, .bool false)] (n8 (oY (q2 ?_)))
  exact lZ hF [.tmp 4] [.bool false] (rT res_nil)
 | false =>
  refine oU hF fun hF => ?_
  refine oZ (n2 ?_)
  refine oH fun n9 q9 => ?_
  refine oG fun n10 => W.r ?_
  refine oA 13 (strA t1) ?_
  refine oA 14 (.int .i64 (lenS t1)) ?_
  refine oB 15 hF fun t15 hF => ?_
  refine oV [(0, strA t0), (1, strA t1), (15, .bool t15)] (n10 ?_)
  cases t15 with
  | true =>
   refine oT hF fun hF => ?_
   refine oG fun n12 => W.r ?_
   refine oA 4 (.bool true) ?_
   refine oV [(4, .bool true)] (n12 (oY (q9 ?_)))
   exact lZ hF [.tmp 4] [.bool true] (rT res_nil)
  | false =>
   refine oU hF fun hF => ?_
   refine oZ (n9 ?_)
   refine oG fun n13 => W.r ?_
   refine oA 17 (strA t0) ?_
   refine oA 18 (.agg ([.int .i64 1, strA t0] : List AV)) ?_
   refine oC hc (some 19) hF fun r19 h_14 hF => ?_
   refine oA 16 r19 ?_
   refine oE 20 hF fun v20 hF => ?_
   refine oEi 21 hF fun t21 hF => ?_
   refine oA 5 v20 ?_
   refine oA 6 (.int .i64 t21) ?_
   refine oV [(0, strA t0), (1, strA t1), (5, v20), (6, .int .i64 t21)] (n13 ?_)
   refine oG fun n19 => W.r ?_
   refine oA 23 (.agg ([.int .i64 2, strA ([42] : Bytes)] : List AV)) ?_
   refine oC hc (some 24) hF fun r24 h_20 hF => ?_
   refine oA 22 r24 ?_
   refine oE 25 hF fun v25 hF => ?_
   refine oEi 26 hF fun t26 hF => ?_
   refine oA 7 v25 ?_
   refine oA 8 (.int .i64 t26) ?_
   refine oV [(0, strA t0), (1, strA t1), (5, v20), (6, .int .i64 t21), (7, v25), (8, .int .i64 t26)] (n19 ?_)
   refine oG fun n25 => W.r ?_
   refine oA 28 (.agg ([.int .i64 2, strA ([63] : Bytes)] : List AV)) ?_
   refine oC hc (some 29) hF fun r29 h_26 hF => ?_
   refine oA 27 r29 ?_
   refine oE 30 hF fun v30 hF => ?_
   refine oEi 31 hF fun t31 hF => ?_
   refine oA 9 v30 ?_
   refine oA 10 (.int .i64 t31) ?_
   refine oV [(0, strA t0), (1, strA t1), (5, v20), (6, .int .i64 t21), (7, v25), (8, .int .i64 t26), (9, v30), (10, .int .i64 t31)] (n25 ?_)
   refine oH fun n31 q31 => ?_
   refine W.s (fun K32 n32 e32 q32 p32 => ?_)
   refine W.r ?_
   refine oA 32 (.int .i64 t26) ?_
   refine oB 33 hF fun t33 hF => ?_
   refine oA 34 (.bool t33) ?_
   obtain ⟨j37, e35, hF⟩ := lett_some hF
   have J36 : ∀ (t37 : Bool) (h_34 : AHeap), j37 t37 h_34 = some (rR, hR) → WL Tryd.prog w0 m0 (Func.ntmps Tryd.f8) (Code.ops (Code.p1 (Code.p1 (Code.p2 (Code.p2 (Code.p2 (Code.p2 (Code.p2 (Code.p2 (codeOf Tryd.f8)))))))))) 6 K32 [(0, strA t0), (1, strA t1), (5, v20), (6, .int .i64 t21), (7, v25), (9, v30), (37, .bool t37)] [] h_34 := by
    intro t37 h_34 hF
    rw [e35] at hF
    refine oA 38 (.bool t37) ?_
    obtain ⟨j41, e38, hF⟩ := lett_some hF
    have J39 : ∀ (t41 : Bool) (h_37 : AHeap), j41 t41 h_37 = some (rR, hR) → WL Tryd.prog w0 m0 (Func.ntmps Tryd.f8) (Code.ops (Code.p1 (Code.p1 (Code.p2 (Code.p2 (Code.p2 (Code.p2 (Code.p2 (Code.p2 (codeOf Tryd.f8)))))))))) 10 K32 [(0, strA t0), (1, strA t1), (5, v20), (6, .int .i64 t21), (7, v25), (9, v30), (41, .bool t41)] [] h_37 := by
     intro t41 h_37 hF
     rw [e38] at hF
     refine oA 42 (.bool t41) ?_
     obtain ⟨j45, e41, hF⟩ := lett_some hF
     have J42 : ∀ (t45 : Bool) (h_40 : AHeap), j45 t45 h_40 = some (rR, hR) → WL Tryd.prog w0 m0 (Func.ntmps Tryd.f8) (Code.ops (Code.p1 (Code.p1 (Code.p2 (Code.p2 (Code.p2 (Code.p2 (Code.p2 (Code.p2 (codeOf Tryd.f8)))))))))) 14 K32 [(0, strA t0), (1, strA t1), (5, v20), (6, .int .i64 t21), (7, v25), (9, v30), (45, .bool t45)] [] h_40 := by
      intro t45 h_40 hF
      rw [e41] at hF
      refine oA 46 (.bool t45) ?_
      obtain ⟨j51, e44, hF⟩ := lett_some hF
      have J45 : ∀ (t51 : Bool) (h_43 : AHeap), j51 t51 h_43 = some (rR, hR) → WL Tryd.prog w0 m0 (Func.ntmps Tryd.f8) (Code.ops (Code.p1 (Code.p1 (Code.p2 (Code.p2 (Code.p2 (Code.p2 (Code.p2 (Code.p2 (codeOf Tryd.f8)))))))))) 20 K32 [(0, strA t0), (1, strA t1), (5, v20), (6, .int .i64 t21), (9, v30), (51, .bool t51)] [] h_43 := by
       intro t51 h_43 hF
       rw [e44] at hF
       refine oA 52 (.bool t51) ?_
       obtain ⟨j60, e47, hF⟩ := lett_some hF
       have J48 : ∀ (t60 : Bool) (h_46 : AHeap), j60 t60 h_46 = some (rR, hR) → WL Tryd.prog w0 m0 (Func.ntmps Tryd.f8) (Code.ops (Code.p1 (Code.p1 (Code.p2 (Code.p2 (Code.p2 (Code.p2 (Code.p2 (Code.p2 (codeOf Tryd.f8)))))))))) 29 K32 [(0, strA t0), (1, strA t1), (5, v20), (6, .int .i64 t21), (60, .bool t60)] [] h_46 := by
        intro t60 h_46 hF
        rw [e47] at hF
        refine oV [(0, strA t0), (1, strA t1), (5, v20), (6, .int .i64 t21), (60, .bool t60)] (n32 ?_)
        cases t60 with
        | true =>
         refine oT hF fun hF => ?_
         refine oG fun n49 => W.r ?_
         refine oA 4 (.bool false) ?_
         refine oV [(4, .bool false)] (n49 (oY (q31 ?_)))
         exact lZ hF [.tmp 4] [.bool false] (rT res_nil)
        | false =>
         refine oU hF fun hF => ?_
         refine oZ (n31 ?_)
         refine oH fun n50 q50 => ?_
         refine oG fun n51 => W.r ?_
         refine oA 61 (strA t0) ?_
         refine oA 62 (.int .i64 (lenS t0)) ?_
         refine oB 63 hF fun t63 hF => ?_
         refine oV [(0, strA t0), (1, strA t1), (5, v20), (6, .int .i64 t21), (63, .bool t63)] (n51 ?_)
         cases t63 with
         | true =>
          refine oT hF fun hF => ?_
          refine W.s (fun K53 n53 e53 q53 p53 => ?_)
          refine W.r ?_
          refine oA 64 (.int .i64 t21) ?_
          refine oB 65 hF fun t65 hF => ?_
          refine oA 66 (.bool t65) ?_
          obtain ⟨j69, e56, hF⟩ := lett_some hF
          have J57 : ∀ (t69 : Bool) (h_55 : AHeap), j69 t69 h_55 = some (rR, hR) → WL Tryd.prog w0 m0 (Func.ntmps Tryd.f8) (Code.ops (Code.p1 (Code.p1 (Code.p2 (Code.p1 (Code.p2 (Code.p2 (Code.p2 (Code.p2 (Code.p2 (Code.p2 (Code.p2 (codeOf Tryd.f8))))))))))))) 6 K53 [(69, .bool t69)] [] h_55 := by
           intro t69 h_55 hF
           rw [e56] at hF
           refine oA 4 (.bool t69) ?_
           refine oV [(4, .bool t69)] (n53 (oY (q50 ?_)))
           exact lZ hF [.tmp 4] [.bool t69] (rT res_nil)
          cases t65 with
          | true =>
           replace hF := ifB_t hF
           refine oA 67 v20 ?_
           replace hF := outK_some hF; obtain ⟨v68, h_58, e59, hF⟩ := hF
           replace hF := obind_some hF; obtain ⟨t68, c60, hF⟩ := hF
           have c60 := avBool_some c60
           subst c60
           refine WL.b (some 68) (.bool t68) h_58 e59 ?_
           refine oA 69 (.bool t68) ?_
           exact lW _ (J57 _ _ hF)
          | false =>
           replace hF := ifB_f hF
           refine WL.o (some 67) ?_
           refine WL.o (some 68) ?_
           refine oA 69 (.bool false) ?_
           exact lW _ (J57 _ _ hF)
         | false =>
          refine oU hF fun hF => ?_
          refine oZ (n50 ?_)
          refine W.s (fun K61 n61 e61 q61 p61 => ?_)
          refine W.r ?_
          refine oA 70 (.int .i64 t21) ?_
          refine oB 71 hF fun t71 hF => ?_
          refine oA 72 (.bool t71) ?_
          obtain ⟨j75, e64, hF⟩ := lett_some hF
          have J65 : ∀ (t75 : Bool) (h_63 : AHeap), j75 t75 h_63 = some (rR, hR) → WL Tryd.prog w0 m0 (Func.ntmps Tryd.f8) (Code.ops (Code.p1 (Code.p2 (Code.p2 (Code.p2 (Code.p2 (Code.p2 (Code.p2 (Code.p2 (Code.p2 (codeOf Tryd.f8))))))))))) 6 K61 [(0, strA t0), (1, strA t1), (5, v20), (75, .bool t75)] [] h_63 := by
           intro t75 h_63 hF
           rw [e64] at hF
           refine oA 76 (.bool t75) ?_
           obtain ⟨j84, e67, hF⟩ := lett_some hF
           have J68 : ∀ (t84 : Bool) (h_66 : AHeap), j84 t84 h_66 = some (rR, hR) → WL Tryd.prog w0 m0 (Func.ntmps Tryd.f8) (Code.ops (Code.p1 (Code.p2 (Code.p2 (Code.p2 (Code.p2 (Code.p2 (Code.p2 (Code.p2 (Code.p2 (codeOf Tryd.f8))))))))))) 15 K61 [(0, strA t0), (5, v20), (84, .bool t84)] [] h_66 := by
            intro t84 h_66 hF
            rw [e67] at hF
            refine oA 85 (.bool t84) ?_
            obtain ⟨j89, e70, hF⟩ := lett_some hF
            have J71 : ∀ (t89 : Bool) (h_69 : AHeap), j89 t89 h_69 = some (rR, hR) → WL Tryd.prog w0 m0 (Func.ntmps Tryd.f8) (Code.ops (Code.p1 (Code.p2 (Code.p2 (Code.p2 (Code.p2 (Code.p2 (Code.p2 (Code.p2 (Code.p2 (codeOf Tryd.f8))))))))))) 20 K61 [(89, .bool t89)] [] h_69 := by
             intro t89 h_69 hF
             rw [e70] at hF
             refine oA 4 (.bool t89) ?_
             refine oV [(4, .bool t89)] (n61 (oY ?_))
             exact lZ hF [.tmp 4] [.bool t89] (rT res_nil)
            cases t84 with
            | true =>
             replace hF := ifB_t hF
             refine oA 86 v20 ?_
             refine oA 87 (strA t0) ?_
             refine oCb hc 88 hF fun t88 h_72 hF => ?_
             refine oA 89 (.bool t88) ?_
             exact lW _ (J71 _ _ hF)
            | false =>
             replace hF := ifB_f hF
             refine WL.o (some 86) ?_
             refine WL.o (some 87) ?_
             refine WL.o (some 88) ?_
             refine oA 89 (.bool false) ?_
             exact lW _ (J71 _ _ hF)
           cases t75 with
           | true =>
            replace hF := ifB_t hF
            refine oA 77 v20 ?_
            refine oA 78 (strA t1) ?_
            refine oCb hc 79 hF fun t79 h_75 hF => ?_
            refine oA 80 (strA t1) ?_
            refine oA 81 (strA t0) ?_
            refine oB 82 hF fun t82 hF => ?_
            refine oB 83 hF fun t83 hF => ?_
            refine oA 84 (.bool t83) ?_
            exact lW _ (J68 _ _ hF)
           | false =>
            replace hF := ifB_f hF
            refine WL.o (some 77) ?_
            refine WL.o (some 78) ?_
            refine WL.o (some 79) ?_
            refine WL.o (some 80) ?_
            refine WL.o (some 81) ?_
            refine WL.o (some 82) ?_
            refine WL.o (some 83) ?_
            refine oA 84 (.bool false) ?_
            exact lW _ (J68 _ _ hF)
          cases t71 with
          | true =>
           replace hF := ifB_t hF
           refine oA 73 v20 ?_
           replace hF := outK_some hF; obtain ⟨v74, h_80, e81, hF⟩ := hF
           replace hF := obind_some hF; obtain ⟨t74, c82, hF⟩ := hF
           have c82 := avBool_some c82
           subst c82
           refine WL.b (some 74) (.bool t74) h_80 e81 ?_
           refine oA 75 (.bool t74) ?_
           exact lW _ (J65 _ _ hF)
          | false =>
           replace hF := ifB_f hF
           refine WL.o (some 73) ?_
           refine WL.o (some 74) ?_
           refine oA 75 (.bool false) ?_
           exact lW _ (J65 _ _ hF)
       cases t51 with
       | true =>
        replace hF := ifB_t hF
        refine WL.o (some 53) ?_
        refine WL.o (some 54) ?_
        refine WL.o (some 55) ?_
        refine WL.o (some 56) ?_
        refine WL.o (some 57) ?_
        refine WL.o (some 58) ?_
        refine WL.o (some 59) ?_
        refine oA 60 (.bool true) ?_
        exact lW _ (J48 _ _ hF)
       | false =>
        replace hF := ifB_f hF
        refine oA 53 v30 ?_
        refine oA 54 (strA t1) ?_
        refine oCb hc 55 hF fun t55 h_83 hF => ?_
        refine oA 56 (strA t1) ?_
        refine oA 57 (.int .i64 (lenS t1)) ?_
        refine oB 58 hF fun t58 hF => ?_
        refine oB 59 hF fun t59 hF => ?_
        refine oA 60 (.bool t59) ?_
        exact lW _ (J48 _ _ hF)
      cases t45 with
      | true =>
       replace hF := ifB_t hF
       refine WL.o (some 47) ?_
       refine WL.o (some 48) ?_
       refine WL.o (some 49) ?_
       refine WL.o (some 50) ?_
       refine oA 51 (.bool true) ?_
       exact lW _ (J45 _ _ hF)
      | false =>
       replace hF := ifB_f hF
       refine oA 47 v25 ?_
       refine oA 48 (strA t1) ?_
       refine oCb hc 49 hF fun t49 h_88 hF => ?_
       refine oB 50 hF fun t50 hF => ?_
       refine oA 51 (.bool t50) ?_
       exact lW _ (J45 _ _ hF)
     cases t41 with
     | true =>
      replace hF := ifB_t hF
      refine WL.o (some 43) ?_
      refine WL.o (some 44) ?_
      refine oA 45 (.bool true) ?_
      exact lW _ (J42 _ _ hF)
     | false =>
      replace hF := ifB_f hF
      refine oA 43 v30 ?_
      replace hF := outK_some hF; obtain ⟨v44, h_92, e93, hF⟩ := hF
      replace hF := obind_some hF; obtain ⟨t44, c94, hF⟩ := hF
      have c94 := avBool_some c94
      subst c94
      refine WL.b (some 44) (.bool t44) h_92 e93 ?_
      refine oA 45 (.bool t44) ?_
      exact lW _ (J42 _ _ hF)
    cases t37 with
    | true =>
     replace hF := ifB_t hF
     refine WL.o (some 39) ?_
     refine WL.o (some 40) ?_
     refine oA 41 (.bool true) ?_
     exact lW _ (J39 _ _ hF)
    | false =>
     replace hF := ifB_f hF
     refine oA 39 v25 ?_
     replace hF := outK_some hF; obtain ⟨v40, h_95, e96, hF⟩ := hF
     replace hF := obind_some hF; obtain ⟨t40, c97, hF⟩ := hF
     have c97 := avBool_some c97
     subst c97
     refine WL.b (some 40) (.bool t40) h_95 e96 ?_
     refine oA 41 (.bool t40) ?_
     exact lW _ (J39 _ _ hF)
   cases t33 with
   | true =>
    replace hF := ifB_t hF
    refine WL.o (some 35) ?_
    refine WL.o (some 36) ?_
    refine oA 37 (.bool true) ?_
    exact lW _ (J36 _ _ hF)
   | false =>
    replace hF := ifB_f hF
    refine oA 35 (.int .i64 t31) ?_
    refine oB 36 hF fun t36 hF => ?_
    refine oA 37 (.bool t36) ?_
    exact lW _ (J36 _ _ hF)
set_option maxRecDepth 100000 in
theorem neqNet (b o : Nat) (h : AHeap) : opBin Tryd.prog h .neq 25 true (some (.ptr b o)) (some AV.nilp) = some (.val (.bool true), h) := by kernel_rfl
set_option maxRecDepth 100000 in
theorem nfaLiterals_says (h : AHeap) (hX : h.ex = []) (hT : HasTz h) (xs : List AV) (hP : ArgsP Tryd.prog h.next h 12 [9, 9] xs) : ∃ h', Says Tryd.prog 8 xs h (.ret (.bool true)) h' := by
 obtain ⟨_, _, rfl, hp1, hP⟩ := args_cons hP
 obtain ⟨_, _, rfl, hp2, hP⟩ := args_cons hP
 obtain rfl := args0 hP
 obtain ⟨u, rfl, hsa⟩ := hp1.str Tryd.underlying9
 obtain ⟨s, rfl, hsb⟩ := hp2.str Tryd.underlying9
 obtain ⟨n, hn⟩ : ∃ n, 18446744073709551620 < n := ⟨_, Nat.lt_succ_self _⟩
 obtain ⟨D, hD⟩ : ∃ D, 1000 ≤ D := ⟨1000, Nat.le_refl _⟩
 suffices hK : Wp (law10_NfaLiterals (world n (D + 4)) n u s h) fun r _ => r = .ret (.bool true) by
  obtain ⟨_, h', e, rfl⟩ := hK
  exact ⟨h', law10_NfaLiterals_ok (world_ok n (D + 4)) e⟩
 have hxN : ∀ {h1 : AHeap} {rs : List RowT}, Abs.Mem [] h h1 rs → memB TNode h1.ex = false := fun M => by rw [M.ex, hX]; rfl
 have hTz : ∀ {h1 : AHeap} {rs : List RowT}, Abs.Mem [] h h1 rs → HasTz h1 := fun M => hT.tch M.tch (by simp)
 unfold law10_NfaLiterals
 have Mx := Mem.nil [] h
 have lu := lenS_nat u
 have ls := lenS_nat s
 refine Wp.callN (works_w (d := D + 2) hn (by omega) (hTz Mx) (hxN Mx)) ?_
 by_cases hbig : 65536 < s.length
 ·repeat (first | (with_reducible refine Wp.lett ?_) | ((with_reducible apply Wp.obind); (with_reducible exact avBool_bool _)) | ((with_reducible refine Wp.ift ?_ ?_); ((with_reducible apply decide_eq_true); omega)) | ((with_reducible refine Wp.iff ?_ ?_); (with_reducible exact Bool.not_true)))
  exact Wp.ret rfl
 repeat (first | (with_reducible refine Wp.lett ?_) | ((with_reducible apply Wp.obind); (with_reducible exact avBool_bool _)) | ((with_reducible refine Wp.iff ?_ ?_); first | (with_reducible exact Bool.not_true) | ((with_reducible apply decide_eq_false); omega)))
 have hsl : s.length < 1000000000 := by omega
 have hl1 : ((lenS s : Int) == 1) = decide (s.length = 1) := by
  by_cases h1 : s.length = 1
  ·rw [decide_eq_true h1]
   exact beq_t (by omega)
  ·rw [decide_eq_false h1]
   exact beq_f (by omega)
 by_cases hu : 64 < u.length
 ·refine Wp.callN (of_bad (d := D + 3) (e1 := 3) (q := 64) (by decide) (fun h hx => tree_long hu (.inl rfl)) (hxN Mx)) ?_
  repeat (((with_reducible apply Wp.obind); (with_reducible first | exact avInt_int _ _ | exact extT_0 _ _ | exact extT_1 _ _ _)))
  obtain ⟨sb, h2, e2, N2⟩ : ∃ nb h', world n (D + 3 + 1) 12 [.agg [.int .i64 2, strA ([42] : Bytes)]] h = some (.ret (.tup [.ptr nb 0, .int .i64 0]), h') ∧ Abs.Mem [] h h' [(nb, TNet, netC (netOf (overN 5 [anyN])))] := of_tree (.inr (.inl rfl)) (by decide) (fun r => tree_star) hn (by omega) (hxN Mx)
  have M2 := Mem.frame (xs := []) Mx N2
  simp only [List.nil_append, List.cons_append] at M2
  refine Wp.callN e2 ?_
  repeat (((with_reducible apply Wp.obind); (with_reducible first | exact avInt_int _ _ | exact extT_0 _ _ | exact extT_1 _ _ _)))
  obtain ⟨ob, h3, e3, N3⟩ : ∃ nb h', world n (D + 3 + 1) 12 [.agg [.int .i64 2, strA ([63] : Bytes)]] h2 = some (.ret (.tup [.ptr nb 0, .int .i64 0]), h') ∧ Abs.Mem [] h2 h' [(nb, TNet, netC (netOf anyN))] := of_tree (.inr (.inl rfl)) (by decide) (fun r => tree_mark) hn (by omega) (hxN M2)
  have M3 := Mem.frame (xs := []) M2 N3
  simp only [List.nil_append, List.cons_append] at M3
  refine Wp.callN e3 ?_
  repeat (first | (with_reducible refine Wp.join1 (fun _ _ => ?_)) | (with_reducible refine Wp.lett ?_) | ((with_reducible apply Wp.obind); (with_reducible first | exact avInt_int _ _ | exact avBool_bool _ | exact extT_0 _ _ | exact extT_1 _ _ _)) | ((with_reducible refine Wp.iff ?_ ?_); first | (with_reducible rfl) | ((with_reducible apply bne_f); omega)) | ((with_reducible apply Wp.outK); (with_reducible exact eqNet _ _ _)) | (with_reducible refine Wp.go1 (by assumption) ?_))
  obtain ⟨h4, e4, t4⟩ := match_r (n := n) (d := D) (s := s) (hTz M3) (netOf_ok _) (by omega) hsl M3.at1.1 M3.at1.2.1
  rw [star_match] at e4
  refine Wp.callN e4 ?_
  have M4 := M3.keep t4
  clear e4
  repeat (first | (with_reducible refine Wp.join1 (fun _ _ => ?_)) | (with_reducible refine Wp.lett ?_) | ((with_reducible apply Wp.obind); (with_reducible exact avBool_bool _)) | ((with_reducible refine Wp.iff ?_ ?_); (with_reducible exact Bool.not_true)) | (with_reducible refine Wp.go1 (by assumption) ?_))
  obtain ⟨h5, e5, t5⟩ := match_r (n := n) (d := D) (s := s) (hTz M4) (netOf_ok _) (by omega) hsl M4.at0.1 M4.at0.2.1
  rw [one_match] at e5
  refine Wp.callN e5 ?_
  have M5 := M4.keep t5
  clear e5
  repeat (first | (with_reducible refine Wp.lett ?_) | ((with_reducible apply Wp.obind); (with_reducible exact avBool_bool _)) | (with_reducible refine Wp.go1 (by assumption) ?_))
  rw [hl1]
  refine Wp.iff (by cases decide (s.length = 1) <;> rfl) ?_
  repeat (first | (with_reducible refine Wp.join1 (fun _ _ => ?_)) | (with_reducible refine Wp.lett ?_) | ((with_reducible apply Wp.obind); (with_reducible exact avBool_bool _)) | ((with_reducible refine Wp.ift ?_ ?_); ((with_reducible first | apply decide_eq_true | apply beq_t); omega)) | ((with_reducible apply Wp.outK); (with_reducible exact nilNet _)) | (with_reducible refine Wp.go1 (by assumption) ?_))
  exact Wp.ret rfl
 ·obtain ⟨nb, h1, e1, N1⟩ : ∃ nb h', world n (D + 3 + 1) 12 [.agg [.int .i64 1, strA u]] h = some (.ret (.tup [.ptr nb 0, .int .i64 0]), h') ∧ Abs.Mem [] h h' [(nb, TNet, netC (netOf (litT u)))] := of_tree (.inl rfl) (by omega) (fun r => tree_lit) hn (by omega) (hxN Mx)
  have M1 := Mem.frame (xs := []) Mx N1
  simp only [List.nil_append, List.cons_append] at M1
  refine Wp.callN e1 ?_
  repeat (((with_reducible apply Wp.obind); (with_reducible first | exact avInt_int _ _ | exact extT_0 _ _ | exact extT_1 _ _ _)))
  obtain ⟨sb, h2, e2, N2⟩ : ∃ nb h', world n (D + 3 + 1) 12 [.agg [.int .i64 2, strA ([42] : Bytes)]] h1 = some (.ret (.tup [.ptr nb 0, .int .i64 0]), h') ∧ Abs.Mem [] h1 h' [(nb, TNet, netC (netOf (overN 5 [anyN])))] := of_tree (.inr (.inl rfl)) (by decide) (fun r => tree_star) hn (by omega) (hxN M1)
  have M2 := Mem.frame (xs := []) M1 N2
  simp only [List.nil_append, List.cons_append] at M2
  refine Wp.callN e2 ?_
  repeat (((with_reducible apply Wp.obind); (with_reducible first | exact avInt_int _ _ | exact extT_0 _ _ | exact extT_1 _ _ _)))
  obtain ⟨ob, h3, e3, N3⟩ : ∃ nb h', world n (D + 3 + 1) 12 [.agg [.int .i64 2, strA ([63] : Bytes)]] h2 = some (.ret (.tup [.ptr nb 0, .int .i64 0]), h') ∧ Abs.Mem [] h2 h' [(nb, TNet, netC (netOf anyN))] := of_tree (.inr (.inl rfl)) (by decide) (fun r => tree_mark) hn (by omega) (hxN M2)
  have M3 := Mem.frame (xs := []) M2 N3
  simp only [List.nil_append, List.cons_append] at M3
  refine Wp.callN e3 ?_
  repeat (first | (with_reducible refine Wp.join1 (fun _ _ => ?_)) | (with_reducible refine Wp.lett ?_) | ((with_reducible apply Wp.obind); (with_reducible first | exact avInt_int _ _ | exact avBool_bool _ | exact extT_0 _ _ | exact extT_1 _ _ _)) | ((with_reducible refine Wp.iff ?_ ?_); first | (with_reducible rfl) | ((with_reducible apply bne_f); omega)) | ((with_reducible apply Wp.outK); (with_reducible exact eqNet _ _ _)) | (with_reducible refine Wp.go1 (by assumption) ?_))
  obtain ⟨h4, e4, t4⟩ := match_r (n := n) (d := D) (s := s) (hTz M3) (netOf_ok _) (by omega) hsl M3.at1.1 M3.at1.2.1
  rw [star_match] at e4
  refine Wp.callN e4 ?_
  have M4 := M3.keep t4
  clear e4
  repeat (first | (with_reducible refine Wp.join1 (fun _ _ => ?_)) | (with_reducible refine Wp.lett ?_) | ((with_reducible apply Wp.obind); (with_reducible exact avBool_bool _)) | ((with_reducible refine Wp.iff ?_ ?_); (with_reducible exact Bool.not_true)) | (with_reducible refine Wp.go1 (by assumption) ?_))
  obtain ⟨h5, e5, t5⟩ := match_r (n := n) (d := D) (s := s) (hTz M4) (netOf_ok _) (by omega) hsl M4.at0.1 M4.at0.2.1
  rw [one_match] at e5
  refine Wp.callN e5 ?_
  have M5 := M4.keep t5
  clear e5
  repeat (first | (with_reducible refine Wp.lett ?_) | ((with_reducible apply Wp.obind); (with_reducible exact avBool_bool _)) | (with_reducible refine Wp.go1 (by assumption) ?_))
  rw [hl1]
  refine Wp.iff (by cases decide (s.length = 1) <;> rfl) ?_
  repeat (first | (with_reducible refine Wp.join1 (fun _ _ => ?_)) | (with_reducible refine Wp.lett ?_) | ((with_reducible apply Wp.obind); (with_reducible exact avBool_bool _)) | ((with_reducible refine Wp.ift ?_ ?_); first | (with_reducible rfl) | ((with_reducible first | apply decide_eq_true | apply beq_t); omega)) | ((with_reducible refine Wp.iff ?_ ?_); ((with_reducible apply decide_eq_false); omega)) | ((with_reducible apply Wp.outK); (with_reducible exact neqNet _ _ _)) | (with_reducible refine Wp.go1 (by assumption) ?_))
  obtain ⟨h6, e6, t6⟩ := match_r (n := n) (d := D) (s := s) (hTz M5) (netOf_ok _) (by omega) hsl M5.at2.1 M5.at2.2.1
  refine Wp.callN e6 ?_
  have M6 := M5.keep t6
  clear e6
  repeat (first | (with_reducible refine Wp.join1 (fun _ _ => ?_)) | (with_reducible refine Wp.lett ?_) | ((with_reducible apply Wp.obind); (with_reducible exact avBool_bool _)) | (with_reducible refine Wp.go1 (by assumption) ?_))
  refine Wp.ift ?_ ?_
  ·have hm := lit_lang u s (by omega)
   have he : eqS s u = true ↔ s = u := eqS_true
   cases hm2 : matchN (netOf (litT u)) s with
   | true =>
    rw [he.2 (hm.1 hm2)]
    rfl
   | false =>
    cases hq : eqS s u with
    | false => rfl
    | true =>
     rw [hm.2 (he.1 hq)] at hm2
     cases hm2
  obtain ⟨h7, e7, t7⟩ := match_r (n := n) (d := D) (s := u) (hTz M6) (netOf_ok _) (by omega) (by omega) M6.at2.1 M6.at2.2.1
  rw [(lit_lang u u (by omega)).2 rfl] at e7
  refine Wp.callN e7 ?_
  repeat (first | ((with_reducible apply Wp.obind); (with_reducible exact avBool_bool _)) | (with_reducible refine Wp.go1 (by assumption) ?_))
  exact Wp.ret rfl
end Go.Proofs.YtakhljnkmbpmpaaDoor
