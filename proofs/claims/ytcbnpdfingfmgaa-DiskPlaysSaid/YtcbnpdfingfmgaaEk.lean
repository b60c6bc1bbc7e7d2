/- DiskSure: what a crash leaves, among what was there. -/
import Derived.Test.YtcbnpdfingfmgaaEj
namespace Go.Proofs.Ytcbnpdfingfmgaa
open Go.RowKit Abs
/-- a slice of texts of the call's own -/
def SAt (h : AHeap) (v : AV) (st : List Bytes) : Prop := ∃ c, v = .sl c 0 st.length 1 ∧ RowH h c 9 (st.map strA) ∧ c < h.next
theorem fitStr : fitB Try.prog 9 16 = true := by kernel_rfl
theorem bldStr1 (h : AHeap) (u : Bytes) : bldSl Try.prog h 46 1 [(0, strA u)] = outNewS h 9 [strA u] 1 1 := by kernel_rfl
theorem strs_one : ∀ st : List Bytes, (st.map strA).all AV.one = true
  | [] => rfl
  | _ :: l => by
    show (true && (l.map strA).all AV.one) = true
    rw [strs_one l]
    rfl
theorem SAt.tch {S : List Nat} {h h' : AHeap} {v : AV} {st : List Bytes} (k : SAt h v st) (t : Tch S h h') (hS : ∀ b ∈ blkV v, b ∉ S) : SAt h' v st := by
  obtain ⟨c, rfl, h2, h3⟩ := k
  exact ⟨c, rfl, h2.tch t h3 (hS c (List.mem_singleton.2 rfl)), Nat.lt_of_lt_of_le h3 t.1⟩
theorem SAt.len {h : AHeap} {v : AV} {st : List Bytes} (k : SAt h v st) : lenL v = some (st.length : Int) := by
  obtain ⟨c, rfl, _⟩ := k
  rfl
theorem idx1 {b m i : Nat} (h : i < m) : idxP 1 (.sl b 0 m 1) (i : Int) = some (.ptr b (0 + i * 1)) := by
  have e : Nat.blt i m = true := by simpa using h
  show (match Nat.blt i m with | true => some (AV.ptr b (0 + i * 1)) | false => none) = _
  rw [e]
theorem SAt.at {h : AHeap} {v : AV} {st : List Bytes} (k : SAt h v st) {i : Nat} {u : Bytes} (hi : st[i]? = some u) : ∃ p, idxP 1 v (i : Int) = some p ∧ ldCell h p = some (strA u) := by
  obtain ⟨c, rfl, h2, _⟩ := k
  obtain ⟨hl, rfl⟩ := List.getElem?_eq_some_iff.1 hi
  refine ⟨_, idx1 hl, RowH.cell' h2 ?_⟩
  rw [Nat.zero_add, Nat.mul_one, List.getElem?_map, hi]
  rfl
theorem SAt.push {h : AHeap} {v : AV} {st : List Bytes} {b1 : Nat} {u : Bytes} (k : SAt h v st) (kr : RowH h b1 9 [strA u]) (hm : st.length < 20000000) (hx : h.ex = []) :
    ∃ h' v', opAppend Try.prog h 46 46 v (.sl b1 0 1 1) = some (.val v', h') ∧ SAt h' v' (st ++ [u]) ∧ Tch (blkV v) h h' ∧ blkV v' = [h.next] ∧ h.next < h'.next := by
  have he : Abs.elemOf Try.prog 46 = some 9 := by kernel_rfl
  have hu : notInt Try.prog 46 = true := by kernel_rfl
  have hsz : Try.prog.cellsOf 9 = 1 := by kernel_rfl
  have hex : memB 9 h.ex = false := by rw [hx]; rfl
  obtain ⟨b, rfl, h2, h3⟩ := k
  have hcl : (st.map strA).length = st.length := List.length_map ..
  have a1 := append_more (P := Try.prog) (h := h) (t := 46) (u := 46) (b := b) (o := 0) (m := st.length) (n := 0) (x := .sl b1 0 1 1) (cs := st.map strA) he hu hsz rfl (firstRow kr rfl) (bytesFit_of fitStr (by omega) (by omega)) rfl hex (by
      have := h2.part (o := 0) (n := (st.map strA).length) (by omega)
      rw [List.drop_zero, List.take_length] at this
      rw [show st.length * 1 = (st.map strA).length by omega]
      exact this) h2.type
  refine ⟨_, _, a1, ⟨h.next, by rw [List.length_append, List.length_singleton], ?_, Nat.lt_succ_self _⟩, (Tch.put (S := [b]) (.inl (List.mem_singleton.2 rfl)) _).trans (Tch.newH _ _ _ _), rfl, Nat.lt_succ_self _⟩
  rw [List.map_append]
  exact RowH.new (h.put b .dead) _ _
/-- what was there since it was synced -/
structure SI (s : DS) (a : Bytes) (st : List Bytes) : Prop where
  p : s.p = -1
  sure : (s.fs 5).sure = ⟨true, a⟩
  ks : ∀ c ∈ (s.fs 5).loose, c.k = 0 ∨ c.k = 1
  len : st.length = (s.fs 5).loose.length + 1
  at_ : ∀ j, j ≤ (s.fs 5).loose.length → st[j]? = some (doL (s.fs 5).sure ((s.fs 5).loose.take j)).u
theorem doL_th : ∀ (l : List Chg) (x : Cont), x.th = true → (∀ c ∈ l, c.k = 0 ∨ c.k = 1) → (doL x l).th = true
  | [], _, h, _ => h
  | c :: l, x, h, hk => by
    refine doL_th l (do1 x c) ?_ fun c hc => hk c (List.mem_cons_of_mem _ hc)
    unfold do1
    rcases hk c List.mem_cons_self with h0 | h0
    · rw [if_pos h0]
    · rw [if_neg (by omega), if_pos h0]
      exact h
theorem do1_th {x : Cont} {c : Chg} (h : x.th = true) (hk : c.k = 0 ∨ c.k = 1) : (do1 x c).th = true := doL_th [c] x h fun d hd => by
  rw [List.mem_singleton.1 hd]
  exact hk
theorem upd_same {α : Type} (f : Nat → α) (i : Nat) (x : α) : upd f i x i = x := if_pos rfl
theorem SI.act {s : DS} {a : Bytes} {st : List Bytes} {c : Chg} (k : SI s a st) (h5 : (s.fs 5).seen = doL (s.fs 5).sure (s.fs 5).loose) (he : errP s 5 c = 0) (hk : c.k = 0 ∨ c.k = 1) : SI (actD s 5 c) a (st ++ [readS (actD s 5 c) 5]) := by
  obtain ⟨k1, k2, k3, k4, k5⟩ := k
  have hst : stepP s.p = -1 := by rw [k1]; rfl
  have ha : actD s 5 c = ⟨upd s.fs 5 (moreF (s.fs 5) c), -1, s.ops + 1⟩ := by
    unfold actD
    rw [if_pos he, hst]
    rfl
  have hth : (s.fs 5).seen.th = true := by
    rw [h5]
    exact doL_th _ _ (by rw [k2]) k3
  have hr : readS (actD s 5 c) 5 = (do1 (s.fs 5).seen c).u := by
    rw [ha]
    unfold readS
    rw [if_pos (show refP (-1) 5 = 0 by decide)]
    show (if (upd s.fs 5 (moreF (s.fs 5) c) 5).seen.th = true then (upd s.fs 5 (moreF (s.fs 5) c) 5).seen.u else []) = _
    rw [upd_same]
    exact if_pos (do1_th hth hk)
  rw [hr, ha]
  have hm : upd s.fs 5 (moreF (s.fs 5) c) 5 = moreF (s.fs 5) c := upd_same ..
  refine ⟨rfl, ?_, ?_, ?_, ?_⟩
  · show (upd s.fs 5 (moreF (s.fs 5) c) 5).sure = _
    rw [hm]
    exact k2
  · show ∀ c' ∈ (upd s.fs 5 (moreF (s.fs 5) c) 5).loose, _
    rw [hm]
    intro c' hc'
    rcases List.mem_append.1 hc' with h | h
    · exact k3 c' h
    · rw [List.mem_singleton.1 h]
      exact hk
  · show _ = (upd s.fs 5 (moreF (s.fs 5) c) 5).loose.length + 1
    rw [hm, List.length_append, List.length_singleton, k4]
    show _ = ((s.fs 5).loose ++ [c]).length + 1
    rw [List.length_append, List.length_singleton]
  · show ∀ j, j ≤ (upd s.fs 5 (moreF (s.fs 5) c) 5).loose.length → (st ++ [(do1 (s.fs 5).seen c).u])[j]? = some (doL (upd s.fs 5 (moreF (s.fs 5) c) 5).sure ((upd s.fs 5 (moreF (s.fs 5) c) 5).loose.take j)).u
    rw [hm]
    intro j hj
    have hl : (moreF (s.fs 5) c).loose = (s.fs 5).loose ++ [c] := rfl
    have hs : (moreF (s.fs 5) c).sure = (s.fs 5).sure := rfl
    rw [hl, List.length_append, List.length_singleton] at hj
    rw [hl, hs]
    by_cases h1 : j ≤ (s.fs 5).loose.length
    · rw [List.getElem?_append_left (by omega), List.take_append_of_le_length h1]
      exact k5 j h1
    · have hj1 : j = (s.fs 5).loose.length + 1 := by omega
      rw [List.getElem?_append_right (by omega), List.take_of_length_le (by rw [List.length_append, List.length_singleton]; omega), doL_snoc, ← h5, show j - st.length = 0 by omega]
      rfl
/-- what a crash leaves -/
theorem crash_shape {s : DS} {a : Bytes} {st : List Bytes} (k : SI s a st) (keep torn : Int) : (crashC (s.fs 5) keep torn).th = true ∧ ∃ b w, st[keptN (s.fs 5) keep]? = some b ∧ (crashC (s.fs 5) keep torn).u = b ++ w ∧ (w = [] ∨ (0 < torn ∧ keptN (s.fs 5) keep + 1 < st.length ∧ ∃ w', w' ≠ [] ∧ st[keptN (s.fs 5) keep + 1]? = some (b ++ w ++ w'))) := by
  obtain ⟨k1, k2, k3, k4, k5⟩ := k
  have hkl : keptN (s.fs 5) keep ≤ (s.fs 5).loose.length := Nat.min_le_right _ _
  have hth : (doL (s.fs 5).sure ((s.fs 5).loose.take (keptN (s.fs 5) keep))).th = true := doL_th _ _ (by rw [k2]) fun c hc => k3 c (List.mem_of_mem_take hc)
  have e0 := k5 _ hkl
  unfold crashC
  by_cases h1 : keptN (s.fs 5) keep < (s.fs 5).loose.length
  · rw [List.getElem?_eq_getElem h1]
    dsimp only
    by_cases h2 : tears (s.fs 5).loose[keptN (s.fs 5) keep] torn
    · rw [if_pos h2]
      obtain ⟨h3, h4, h5⟩ := h2
      have e1 := k5 (keptN (s.fs 5) keep + 1) h1
      have hsl : 0 < ((s.fs 5).loose[keptN (s.fs 5) keep]).s.length := List.length_pos_iff.2 h5
      rw [List.take_succ_eq_append_getElem h1, doL_snoc] at e1
      have ed : do1 (doL (s.fs 5).sure ((s.fs 5).loose.take (keptN (s.fs 5) keep))) (s.fs 5).loose[keptN (s.fs 5) keep] = ⟨true, (doL (s.fs 5).sure ((s.fs 5).loose.take (keptN (s.fs 5) keep))).u ++ ((s.fs 5).loose[keptN (s.fs 5) keep]).s⟩ := by
        unfold do1
        rw [if_pos h4]
      have et : do1 (doL (s.fs 5).sure ((s.fs 5).loose.take (keptN (s.fs 5) keep))) (tornC (s.fs 5).loose[keptN (s.fs 5) keep] torn) = ⟨true, (doL (s.fs 5).sure ((s.fs 5).loose.take (keptN (s.fs 5) keep))).u ++ (tornC (s.fs 5).loose[keptN (s.fs 5) keep] torn).s⟩ := by
        unfold do1
        exact if_pos rfl
      rw [ed] at e1
      rw [et]
      refine ⟨rfl, _, _, e0, rfl, .inr ⟨h3, by omega, ((s.fs 5).loose[keptN (s.fs 5) keep]).s.drop (min torn ((((s.fs 5).loose[keptN (s.fs 5) keep]).s.length : Int) - 1)).toNat, ?_, ?_⟩⟩
      · intro h
        have := congrArg List.length h
        rw [List.length_drop, List.length_nil] at this
        omega
      · rw [e1, List.append_assoc]
        show some ((doL (s.fs 5).sure ((s.fs 5).loose.take (keptN (s.fs 5) keep))).u ++ ((s.fs 5).loose[keptN (s.fs 5) keep]).s) = some ((doL (s.fs 5).sure ((s.fs 5).loose.take (keptN (s.fs 5) keep))).u ++ (((s.fs 5).loose[keptN (s.fs 5) keep]).s.take _ ++ _))
        rw [List.take_append_drop]
    · rw [if_neg h2]
      exact ⟨hth, _, [], e0, (List.append_nil _).symm, .inl rfl⟩
  · rw [List.getElem?_eq_none (by omega)]
    exact ⟨hth, _, [], e0, (List.append_nil _).symm, .inl rfl⟩
end Go.Proofs.Ytcbnpdfingfmgaa
