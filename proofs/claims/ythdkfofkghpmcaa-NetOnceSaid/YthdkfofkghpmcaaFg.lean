/- NetOnce: what the law holds of a net. -/
import Derived.Test.YthdkfofkghpmcaaFf
namespace Go.Proofs.Ythdkfofkghpmcaa
open Go.RowKit Abs
abbrev TB : Nat := 4
abbrev TMat : Nat := 50
def BAt (h : AHeap) (v : AV) (gs : List Bool) : Prop := (v = .nsl ∧ gs = []) ∨ ∃ c, v = .sl c 0 gs.length 1 ∧ RowH h c TB (gs.map .bool) ∧ c < h.next
theorem fitBool : fitB Try.prog TB 1 = true := by kernel_rfl
theorem bldBool (h : AHeap) : bldSl Try.prog h 48 1 [(0, .bool false)] = outNewS h TB [.bool false] 1 1 := by kernel_rfl
theorem idx1 {b m i : Nat} (h : i < m) : idxP 1 (.sl b 0 m 1) (i : Int) = some (.ptr b (0 + i * 1)) := by
  have e : Nat.blt i m = true := by simpa using h
  show (match Nat.blt i m with | true => some (AV.ptr b (0 + i * 1)) | false => none) = _
  rw [e]
section
variable {h h' : AHeap} {v : AV} {gs : List Bool}
theorem BAt.tch {S : List Nat} (k : BAt h v gs) (t : Tch S h h') (hS : ∀ b ∈ blkV v, b ∉ S) : BAt h' v gs := by
  rcases k with k | ⟨c, rfl, h2, h3⟩
  · exact .inl k
  · exact .inr ⟨c, rfl, h2.tch t h3 (hS c (List.mem_singleton.2 rfl)), Nat.lt_of_lt_of_le h3 t.1⟩
theorem BAt.lt (k : BAt h v gs) : ∀ b ∈ blkV v, b < h.next := by
  rcases k with ⟨rfl, _⟩ | ⟨c, rfl, _, h3⟩
  · exact fun b hb => (nomatch hb)
  · intro b hb
    rw [List.mem_singleton.1 hb]
    exact h3
theorem BAt.at (k : BAt h v gs) {i : Nat} {g : Bool} (hg : gs[i]? = some g) : ∃ p, idxP 1 v (i : Int) = some p ∧ ldCell h p = some (.bool g) := by
  obtain ⟨hi, rfl⟩ := List.getElem?_eq_some_iff.1 hg
  rcases k with ⟨rfl, rfl⟩ | ⟨c, rfl, h2, _⟩
  · exact absurd hi (Nat.not_lt_zero _)
  · refine ⟨_, idx1 hi, RowH.cell' h2 ?_⟩
    rw [Nat.zero_add, Nat.mul_one, List.getElem?_map, List.getElem?_eq_getElem hi]
    rfl
theorem BAt.set (k : BAt h v gs) {i : Nat} (hi : i < gs.length) {K : AHeap → R} {Q : ARes → AHeap → Prop} (hk : ∀ h', BAt h' v (gs.set i true) → Tch (blkV v) h h' → h'.next = h.next → Wp (K h') Q) : ∃ p, idxP 1 v (i : Int) = some p ∧ Wp (Abs.obind (stRow h 1 [.bool true] p) K) Q := by
  rcases k with ⟨rfl, rfl⟩ | ⟨c, rfl, h2, h3⟩
  · exact absurd hi (Nat.not_lt_zero _)
  · refine ⟨_, idx1 hi, Wp.st1 h2 (by rw [List.length_map]; omega) rfl fun h' k' t' n' => hk h' (.inr ⟨c, by rw [List.length_set], ?_, by omega⟩) t' n'⟩
    rw [Nat.zero_add, Nat.mul_one] at k'
    rw [List.map_set]
    exact k'
theorem BAt.push {b1 : Nat} (k : BAt h v gs) (kr : RowH h b1 TB [.bool false]) (hm : gs.length < 20000000) (hx : h.ex = []) :
    ∃ h' v', opAppend Try.prog h 48 48 v (.sl b1 0 1 1) = some (.val v', h') ∧ BAt h' v' (gs ++ [false]) ∧ Tch (blkV v) h h' ∧ blkV v' = [h.next] ∧ h.next < h'.next := by
  have he : Abs.elemOf Try.prog 48 = some TB := by kernel_rfl
  have hu : notInt Try.prog 48 = true := by kernel_rfl
  have hsz : Try.prog.cellsOf TB = 1 := by kernel_rfl
  have hex : memB TB h.ex = false := by rw [hx]; rfl
  have el : gs.length + 1 = (gs ++ [false]).length := by rw [List.length_append, List.length_singleton]
  have hone : ∀ l : List Bool, (l.map AV.bool).all AV.one = true := fun l => by
    rw [List.all_eq_true]
    intro x hx
    obtain ⟨g, _, rfl⟩ := List.mem_map.1 hx
    rfl
  rcases k with ⟨rfl, rfl⟩ | ⟨b, rfl, h2, h3⟩
  · have a1 := append_new (P := Try.prog) (h := h) (t := 48) (u := 48) (n := 0) (x := .sl b1 0 1 1) he hu hsz rfl (firstRow kr rfl) (bytesFit_of fitBool (by omega) (by omega)) rfl hex
    exact ⟨_, _, a1, .inr ⟨h.next, rfl, RowH.new _ _ _, Nat.lt_succ_self _⟩, Tch.newH _ _ _ _, rfl, Nat.lt_succ_self _⟩
  · have hcl : (gs.map AV.bool).length = gs.length := List.length_map ..
    have a1 := append_more (P := Try.prog) (h := h) (t := 48) (u := 48) (b := b) (o := 0) (m := gs.length) (n := 0) (x := .sl b1 0 1 1) (cs := gs.map .bool) he hu hsz rfl (firstRow kr rfl) (bytesFit_of fitBool (by omega) (by omega)) rfl hex (by
      have := h2.part (o := 0) (n := (gs.map AV.bool).length) (by omega)
      rw [List.drop_zero, List.take_length] at this
      rw [show gs.length * 1 = (gs.map AV.bool).length by omega]
      exact this) h2.type
    refine ⟨_, _, a1, .inr ⟨h.next, by rw [el], ?_, Nat.lt_succ_self _⟩, (Tch.put (S := [b]) (.inl (List.mem_singleton.2 rfl)) _).trans (Tch.newH _ _ _ _), rfl, Nat.lt_succ_self _⟩
    rw [List.map_append]
    exact RowH.new (h.put b .dead) _ _
end
/-! ### links -/
theorem lnk_eq {a b c d : Int} : lnk a b = lnk c d ↔ (a = c ∧ b = d) ∨ (a = d ∧ b = c) := by
  unfold lnk
  rw [Prod.mk.injEq]
  constructor
  · intro ⟨h1, h2⟩
    split at h1 <;> split at h1 <;> split at h2 <;> split at h2 <;> omega
  · intro h
    constructor <;> split <;> split <;> omega
theorem putL_mem {p q : Int × Int} {l : List (Int × Int)} : q ∈ putL p l ↔ q = p ∨ q ∈ l := by
  unfold putL
  split
  · rename_i h
    exact ⟨.inr, fun hh => hh.elim (fun e => e ▸ h) id⟩
  · rw [List.mem_append, List.mem_singleton]
    exact or_comm
theorem putL_nodup {p : Int × Int} {l : List (Int × Int)} (h : l.Nodup) : (putL p l).Nodup := by
  unfold putL
  split
  · exact h
  · rename_i hp
    rw [List.nodup_append]
    exact ⟨h, List.nodup_cons.2 ⟨(fun h => (nomatch h)), List.nodup_nil⟩, fun a ha b hb hab => hp (by rw [← List.mem_singleton.1 hb, ← hab]; exact ha)⟩
theorem delL_sub {p : Int × Int} : ∀ l : List (Int × Int), (delL p l).Sublist l
  | [] => List.Sublist.slnil
  | q :: l => by
    unfold delL
    split
    · exact List.sublist_cons_self _ _
    · exact (delL_sub l).cons_cons _
theorem delL_mem {p q : Int × Int} : ∀ {l : List (Int × Int)}, l.Nodup → (q ∈ delL p l ↔ q ≠ p ∧ q ∈ l)
  | [], _ => ⟨fun h => (nomatch h), fun h => (nomatch h.2)⟩
  | r :: l, hn => by
    obtain ⟨h1, h2⟩ := List.nodup_cons.1 hn
    unfold delL
    split
    · rename_i e
      subst e
      exact ⟨fun h => ⟨fun e => h1 (e ▸ h), List.mem_cons_of_mem _ h⟩, fun h => (List.mem_cons.1 h.2).resolve_left h.1⟩
    · rename_i e
      rw [List.mem_cons, delL_mem h2, List.mem_cons]
      constructor
      · rintro (rfl | ⟨h3, h4⟩)
        · exact ⟨fun e' => e e'.symm, .inl rfl⟩
        · exact ⟨h3, .inr h4⟩
      · rintro ⟨h3, h4 | h4⟩
        · exact .inl h4
        · exact .inr ⟨h3, h4⟩
/-- what the law knows of a net -/
structure Inv (s : NS) (sent : List Lt) (gone : List Bool) (CM : List AV) : Prop where
  len : sent.length = s.last
  glen : gone.length = sent.length
  ids : ∀ (j : Nat) (x : Lt), sent[j]? = some x → x.id = 0 + (j : Int) + 1
  liv : s.ls = live sent gone
  nd : s.cuts.Nodup
  mat : CM.length = 256
  m : ∀ a b : Nat, a < 16 → b < 16 → CM[a * 16 + b]? = some (.bool (decide (lnk (a : Int) (b : Int) ∈ s.cuts)))
section
variable {s : NS} {sent : List Lt} {gone : List Bool} {CM : List AV}
theorem Inv.add (I : Inv s sent gone CM) (a b : Int) (u : Bytes) : Inv (addS s a b u) (sent ++ [⟨(s.last : Int) + 1, a, b, u⟩]) (gone ++ [false]) CM := by
  refine ⟨?_, ?_, fun j x hx => ?_, ?_, I.nd, I.mat, I.m⟩
  · rw [List.length_append, List.length_singleton, I.len]
    rfl
  · rw [List.length_append, List.length_append, List.length_singleton, List.length_singleton, I.glen]
  · by_cases hj : j < sent.length
    · rw [List.getElem?_append_left hj] at hx
      exact I.ids j x hx
    · rw [List.getElem?_append_right (by omega)] at hx
      have hl := I.len
      have h0 : j - sent.length = 0 := by
        apply Nat.eq_zero_of_le_zero
        apply Nat.le_of_not_lt
        intro hh
        rw [List.getElem?_eq_none (by show 1 ≤ _; omega)] at hx
        cases hx
      rw [h0] at hx
      have e : (⟨(s.last : Int) + 1, a, b, u⟩ : Lt) = x := by injection hx
      rw [← e]
      show (s.last : Int) + 1 = _
      omega
  · show s.ls ++ [_] = _
    rw [I.liv, live_snoc _ _ _ I.glen]
theorem Inv.fnd (I : Inv s sent gone CM) {z : Int} {k : Nat} (hf : fnd s.ls z = some k) : ∃ (i : Nat) (l : Lt), z = (i : Int) + 1 ∧ sent[i]? = some l ∧ gone[i]? = some false ∧ s.ls[k]? = some l ∧ live sent (gone.set i true) = s.ls.eraseIdx k := by
  obtain ⟨hk, hz⟩ := fnd_lt hf
  have hm : s.ls[k] ∈ live sent gone := by
    rw [← I.liv]
    exact List.getElem_mem hk
  obtain ⟨i, h1, h2⟩ := live_mem _ _ hm
  have hid := I.ids i _ h1
  obtain ⟨k', f1, f2, f3⟩ := live_fnd sent gone 0 i _ I.ids h1 h2
  rw [← I.liv] at f1 f2 f3
  have hzi : z = 0 + (i : Int) + 1 := by omega
  rw [← hzi, hf] at f1
  obtain rfl : k = k' := by injection f1
  exact ⟨i, _, by omega, h1, h2, f2, f3⟩
theorem Inv.alive (I : Inv s sent gone CM) {i : Nat} {l : Lt} (h1 : sent[i]? = some l) (h2 : gone[i]? = some false) : ∃ k, Go.Proofs.Ythdkfofkghpmcaa.fnd s.ls ((i : Int) + 1) = some k := by
  obtain ⟨k, f1, _⟩ := live_fnd sent gone 0 i l I.ids h1 h2
  rw [← I.liv, show (0 : Int) + (i : Int) + 1 = (i : Int) + 1 by omega] at f1
  exact ⟨k, f1⟩
theorem Inv.del (I : Inv s sent gone CM) {i k : Nat} (h : live sent (gone.set i true) = s.ls.eraseIdx k) : Inv ⟨s.ls.eraseIdx k, s.last, s.cuts⟩ sent (gone.set i true) CM :=
  ⟨I.len, by rw [List.length_set]; exact I.glen, I.ids, h.symm, I.nd, I.mat, I.m⟩
theorem Inv.links (I : Inv s sent gone CM) {A B : Nat} (hA : A < 16) (hB : B < 16) (hne : A ≠ B) (c' : List (Int × Int)) (t : Bool) (hn : c'.Nodup) (hm : ∀ q : Int × Int, q ∈ c' ↔ (if q = lnk (A : Int) (B : Int) then t = true else q ∈ s.cuts)) : Inv ⟨s.ls, s.last, c'⟩ sent gone ((CM.set (A * 16 + B) (.bool t)).set (B * 16 + A) (.bool t)) := by
  have hl := I.mat
  refine ⟨I.len, I.glen, I.ids, I.liv, hn, by rw [List.length_set, List.length_set]; exact hl, fun a b ha hb => ?_⟩
  by_cases h1 : a = B ∧ b = A
  · obtain ⟨rfl, rfl⟩ := h1
    rw [List.getElem?_set_self (by rw [List.length_set]; omega)]
    have : lnk (a : Int) (b : Int) = lnk (b : Int) (a : Int) := lnk_eq.2 (.inr ⟨rfl, rfl⟩)
    have hm2 := hm (lnk (a : Int) (b : Int))
    rw [if_pos this] at hm2
    congr 2
    cases t with
    | true => exact (decide_eq_true (hm2.2 rfl)).symm
    | false => exact (decide_eq_false (fun hh => nomatch hm2.1 hh)).symm
  · by_cases h2 : a = A ∧ b = B
    · obtain ⟨rfl, rfl⟩ := h2
      rw [List.getElem?_set_ne (by omega), List.getElem?_set_self (by omega)]
      have hm2 := hm (lnk (a : Int) (b : Int))
      rw [if_pos rfl] at hm2
      congr 2
      cases t with
      | true => exact (decide_eq_true (hm2.2 rfl)).symm
      | false => exact (decide_eq_false (fun hh => nomatch hm2.1 hh)).symm
    · rw [List.getElem?_set_ne (by omega), List.getElem?_set_ne (by omega), I.m a b ha hb]
      have hne2 : lnk (a : Int) (b : Int) ≠ lnk (A : Int) (B : Int) := fun e => by
        rcases lnk_eq.1 e with h | h
        · exact h2 ⟨by omega, by omega⟩
        · exact h1 ⟨by omega, by omega⟩
      have hm2 := hm (lnk (a : Int) (b : Int))
      rw [if_neg hne2] at hm2
      congr 2
      exact decide_eq_decide.2 hm2.symm
end
theorem send_yes {s : NS} {a b : Int} {u : Bytes} (h : (sendR s a b u).2 = 0) : addr a ∧ addr b ∧ lnk a b ∉ s.cuts ∧ (sendR s a b u).1 = (s.last : Int) + 1 ∧ sendN s a b u = addS s a b u := by
  unfold sendR at h ⊢
  unfold sendN
  split at h
  · rename_i h1
    rw [if_pos h1, if_pos h1]
    split at h
    · cases h
    · rename_i h2
      rw [if_neg h2, if_neg h2]
      split at h
      · cases h
      · rename_i h3
        rw [if_neg h3, if_neg h3]
        unfold addR at h ⊢
        unfold addN
        split at h
        · cases h
        · rename_i h4
          rw [if_neg h4, if_neg h4]
          exact ⟨h1.1, h1.2, h3, rfl, rfl⟩
  · cases h
theorem send_no {s : NS} {a b : Int} {u : Bytes} (h : (sendR s a b u).2 ≠ 0) : sendN s a b u = s := by
  unfold sendR at h
  unfold sendN
  split at h
  · rename_i h1
    rw [if_pos h1]
    split at h
    · rename_i h2
      rw [if_pos h2]
    · rename_i h2
      rw [if_neg h2]
      split at h
      · rename_i h3
        rw [if_pos h3]
      · rename_i h3
        rw [if_neg h3]
        unfold addR at h
        unfold addN
        split at h
        · rename_i h4
          rw [if_pos h4]
        · exact absurd rfl h
  · rename_i h1
    rw [if_neg h1]
theorem tw_yes {s : NS} {z : Int} (h : (twR s z).2 = 0) : ∃ k, fnd s.ls z = some k ∧ (twR s z).1 = (s.last : Int) + 1 ∧ twN s z = addS s (s.ls.getD k zeroL).a (s.ls.getD k zeroL).b (s.ls.getD k zeroL).s := by
  unfold twR at h ⊢
  unfold twN
  cases hf : fnd s.ls z with
  | none =>
    rw [hf] at h
    cases h
  | some k =>
    rw [hf] at h
    have h : (addR s).2 = 0 := h
    refine ⟨k, rfl, ?_, ?_⟩
    · show (addR s).1 = _
      unfold addR at h ⊢
      split at h
      · cases h
      · rename_i h4
        rw [if_neg h4]
    · show addN s _ _ _ = _
      unfold addR at h
      unfold addN
      split at h
      · cases h
      · rename_i h4
        rw [if_neg h4]
theorem tw_no {s : NS} {z : Int} (h : (twR s z).2 ≠ 0) : twN s z = s := by
  unfold twR at h
  unfold twN
  cases hf : fnd s.ls z with
  | none => rfl
  | some k =>
    rw [hf] at h
    have h : (addR s).2 ≠ 0 := h
    show addN s _ _ _ = s
    unfold addR at h
    unfold addN
    split at h
    · rename_i h4
      rw [if_pos h4]
    · exact absurd rfl h
/-- the memory of the law -/
structure OM (N : Nat) (lo : Nat → Prop) (H : AHeap) (nb : Nat) (s : NS) (cb : Nat) (sv gv : AV) (sent : List Lt) (gone : List Bool) (CM : List AV) : Prop where
  K : NetAt lo H nb s
  hl : ∀ b, lo b → N ≤ b
  S : LAt H sv sent
  nS : ∀ b ∈ blkV sv, ¬ lo b ∧ N ≤ b
  G : BAt H gv gone
  nG : ∀ b ∈ blkV gv, ¬ lo b ∧ N ≤ b
  C : RowH H cb TMat CM
  nC : ¬ lo cb ∧ N ≤ cb
  hC : cb < H.next
  hN : N ≤ H.next
section
variable {N nb cb : Nat} {lo lo' : Nat → Prop} {H H' : AHeap} {s : NS} {sv gv : AV} {sent : List Lt} {gone : List Bool} {CM : List AV}
theorem OM.part (W : OM N lo H nb s cb sv gv sent gone CM) (t : Tch [] H H') : OM N (shr lo H.next H'.next) H' nb s cb sv gv sent gone CM :=
  ⟨W.K.part t (fun _ h => nomatch h), fun b hb => W.hl b hb.1, W.S.tch t (fun _ _ h => nomatch h), fun b hb => ⟨fun hh => (W.nS b hb).1 hh.1, (W.nS b hb).2⟩, W.G.tch t (fun _ _ h => nomatch h), fun b hb => ⟨fun hh => (W.nG b hb).1 hh.1, (W.nG b hb).2⟩, W.C.tch t W.hC (fun h => nomatch h), ⟨fun hh => W.nC.1 hh.1, W.nC.2⟩, Nat.lt_of_lt_of_le W.hC t.1, Nat.le_trans W.hN t.1⟩
theorem OM.step {S : List Nat} {nb' : Nat} {s' : NS} (W : OM N lo H nb s cb sv gv sent gone CM) (t : Tch S H H') (hS : ∀ b ∈ S, lo b) (K' : NetAt lo' H' nb' s') (hl : ∀ b, lo' b → lo b ∨ H.next ≤ b) : OM N lo' H' nb' s' cb sv gv sent gone CM := by
  have no : ∀ b, ¬ lo b → b < H.next → ¬ lo' b := fun b h1 h2 h3 => by
    rcases hl b h3 with h | h
    · exact h1 h
    · omega
  refine ⟨K', fun b hb => (hl b hb).elim (W.hl b) (Nat.le_trans W.hN), W.S.tch t fun b hb hm => (W.nS b hb).1 (hS b hm), fun b hb => ⟨no b (W.nS b hb).1 (W.S.lt b hb), (W.nS b hb).2⟩, W.G.tch t fun b hb hm => (W.nG b hb).1 (hS b hm), fun b hb => ⟨no b (W.nG b hb).1 (W.G.lt b hb), (W.nG b hb).2⟩, W.C.tch t W.hC fun hm => W.nC.1 (hS _ hm), ⟨no _ W.nC.1 W.hC, W.nC.2⟩, Nat.lt_of_lt_of_le W.hC t.1, Nat.le_trans W.hN t.1⟩
theorem OM.ds (W : OM N lo H nb s cb sv gv sent gone CM) : (∀ b ∈ blkV sv, b ∉ blkV gv ∧ b ≠ cb) ∧ ∀ b ∈ blkV gv, b ∉ blkV sv ∧ b ≠ cb := by
  have h1 : ∀ b ∈ blkV sv, ∃ l, RowH H b TLet l := fun b hb => by
    rcases W.S with ⟨e, _⟩ | ⟨c, rest, e, k, _⟩
    · rw [e] at hb
      exact nomatch hb
    · rw [e] at hb
      rw [List.mem_singleton.1 hb]
      exact ⟨_, k⟩
  have h2 : ∀ b ∈ blkV gv, ∃ l, RowH H b TB l := fun b hb => by
    rcases W.G with ⟨e, _⟩ | ⟨c, e, k, _⟩
    · rw [e] at hb
      exact nomatch hb
    · rw [e] at hb
      rw [List.mem_singleton.1 hb]
      exact ⟨_, k⟩
  refine ⟨fun b hb => ⟨fun hm => ?_, fun e => ?_⟩, fun b hb => ⟨fun hm => ?_, fun e => ?_⟩⟩
  · obtain ⟨l, k⟩ := h1 b hb
    obtain ⟨l', k'⟩ := h2 b hm
    exact RowH.ne k k' (by decide) rfl
  · obtain ⟨l, k⟩ := h1 b hb
    exact RowH.ne k W.C (by decide) e
  · obtain ⟨l, k⟩ := h1 b hm
    obtain ⟨l', k'⟩ := h2 b hb
    exact RowH.ne k k' (by decide) rfl
  · obtain ⟨l, k⟩ := h2 b hb
    exact RowH.ne k W.C (by decide) e
/-- the list of what was sent is another one -/
theorem OM.setS {sv' : AV} {sent' : List Lt} (W : OM N lo H nb s cb sv gv sent gone CM) (t : Tch (blkV sv) H H') (S' : LAt H' sv' sent') (hb : ∀ b ∈ blkV sv', H.next ≤ b ∧ b < H'.next) : OM N (shr lo H.next H'.next) H' nb s cb sv' gv sent' gone CM := by
  obtain ⟨d1, d2⟩ := W.ds
  refine ⟨W.K.part t fun b hb => .inl (W.nS b hb).1, fun b hb => W.hl b hb.1, S', fun b hbb => ⟨fun hh => ?_, Nat.le_trans W.hN (hb b hbb).1⟩, W.G.tch t fun b hb => (d2 b hb).1, fun b hb => ⟨fun hh => (W.nG b hb).1 hh.1, (W.nG b hb).2⟩, W.C.tch t W.hC fun hm => (d1 _ hm).2 rfl, ⟨fun hh => W.nC.1 hh.1, W.nC.2⟩, Nat.lt_of_lt_of_le W.hC t.1, Nat.le_trans W.hN t.1⟩
  have := hb b hbb
  rcases hh.2 with h | h <;> omega
theorem OM.setG {gv' : AV} {gone' : List Bool} (W : OM N lo H nb s cb sv gv sent gone CM) (t : Tch (blkV gv) H H') (G' : BAt H' gv' gone') (hb : ∀ b ∈ blkV gv', (H.next ≤ b ∧ b < H'.next) ∨ b ∈ blkV gv) : OM N (shr lo H.next H'.next) H' nb s cb sv gv' sent gone' CM := by
  obtain ⟨d1, d2⟩ := W.ds
  refine ⟨W.K.part t fun b hb => .inl (W.nG b hb).1, fun b hb => W.hl b hb.1, W.S.tch t fun b hb => (d1 b hb).1, fun b hb => ⟨fun hh => (W.nS b hb).1 hh.1, (W.nS b hb).2⟩, G', fun b hbb => ?_, W.C.tch t W.hC fun hm => (d2 _ hm).2 rfl, ⟨fun hh => W.nC.1 hh.1, W.nC.2⟩, Nat.lt_of_lt_of_le W.hC t.1, Nat.le_trans W.hN t.1⟩
  rcases hb b hbb with h | h
  · refine ⟨fun hh => ?_, Nat.le_trans W.hN h.1⟩
    rcases hh.2 with h | h <;> omega
  · exact ⟨fun hh => (W.nG b h).1 hh.1, (W.nG b h).2⟩
theorem OM.setC {CM' : List AV} (W : OM N lo H nb s cb sv gv sent gone CM) (t : Tch [cb] H H') (C' : RowH H' cb TMat CM') : OM N lo H' nb s cb sv gv sent gone CM' := by
  obtain ⟨d1, d2⟩ := W.ds
  exact ⟨W.K.tch t fun b hb => .inl (by rw [List.mem_singleton.1 hb]; exact W.nC.1), W.hl, W.S.tch t fun b hb hm => (d1 b hb).2 (List.mem_singleton.1 hm), W.nS, W.G.tch t fun b hb hm => (d2 b hb).2 (List.mem_singleton.1 hm), W.nG, C', W.nC, Nat.lt_of_lt_of_le W.hC t.1, Nat.le_trans W.hN t.1⟩
end
end Go.Proofs.Ythdkfofkghpmcaa
