/- Slices of one's own that grow, beside rows that are known. -/
import Derived.Test.YtikaeeaepnflnaaAbs51
namespace Go.Proofs.Ytikaeeaepnflnaa.Abs
noncomputable section
open Go.RowKit

/-- a slice's row, behind the other rows of a list -/
def GrowT (e : TypeId) (sz : Nat) (rows : List (List AV)) (v : AV) (T : List RowT) : Prop :=
  (∀ r ∈ rows, r.length = sz ∧ r.all AV.one = true) ∧ ((rows = [] ∧ v = .nsl ∧ T = []) ∨ (rows ≠ [] ∧ ∃ c, v = .sl c 0 rows.length sz ∧ T = [(c, e, rows.flatten)]))
theorem GrowT.nil (e : TypeId) (sz : Nat) : GrowT e sz [] .nsl [] := ⟨by simp, .inl ⟨rfl, rfl, rfl⟩⟩
section
variable {P : Program} {S : List Nat} {h0 h h' : AHeap} {xs ys rs T : List RowT} {b o n sz B : Nat} {e t u : TypeId} {l l' vs r : List AV} {v x : AV} {rows : List (List AV)} {Q : ARes → AHeap → Prop}
theorem GrowT.len (g : GrowT e sz rows v T) : lenL v = some (rows.length : Int) := by
  rcases g.2 with ⟨rfl, rfl, _⟩ | ⟨_, c, rfl, _⟩ <;> rfl
theorem GrowT.one (g : GrowT e sz rows v T) : v.one = true ∧ AV.cells v = [v] := by
  rcases g.2 with ⟨rfl, rfl, _⟩ | ⟨_, c, rfl, _⟩ <;> exact ⟨rfl, rfl⟩
theorem Mem.perm (M : Mem S h0 h rs) (hp : ys.Perm rs) : Mem S h0 h ys :=
  ⟨fun x hx => M.row x (hp.subset hx), (hp.map _).nodup_iff.2 M.apart, M.tch⟩
theorem Mem.kill (M : Mem S h0 h (xs ++ [(b, e, l)])) : Mem S h0 (h.put b .dead) xs := by
  have hb := M.at
  have hap := M.apart
  rw [List.map_append, List.nodup_append] at hap
  refine ⟨fun x hx => ?_, hap.1, M.tch.trans' (Tch.put (S := [b]) (.inl (by simp)) _) (by intro i hi; simp at hi; subst hi; exact hb.2.2)⟩
  obtain ⟨h1, h2, h3⟩ := M.row x (List.mem_append_left _ hx)
  have hne : x.1 ≠ b := hap.2.2 x.1 (List.mem_map_of_mem hx) b (by simp)
  exact ⟨h1.same (get_put_other _ (Ne.symm hne)), h2, h3⟩
theorem Mem.grow (M : Mem S h0 h (xs ++ T)) (g : GrowT e sz rows v T) (he : elemOf P t = some e) (hu : notInt P u = true) (hsz : P.cellsOf e = sz) (hfit : fitB P e B = true) (hex : memB e h0.ex = false)
    (hx : lenA x = some 1) (hf : firstA h sz 1 x = some r) (hr : r.length = sz) (hr1 : r.all AV.one = true) (hbig : (rows.length + 1) * B ≤ 1000000000) (hbig2 : rows.length + 1 ≤ 1000000000) :
    ∃ v' h' T', opAppend P h t u v x = some (.val v', h') ∧ Mem S h0 h' (xs ++ T') ∧ GrowT e sz (rows ++ [r]) v' T' := by
  have hall : ∀ q ∈ rows ++ [r], q.length = sz ∧ q.all AV.one = true := by
    intro q hq
    rcases List.mem_append.1 hq with hq | hq
    · exact g.1 q hq
    · simp at hq
      subst hq
      exact ⟨hr, hr1⟩
  have hfl : (rows ++ [r]).flatten = rows.flatten ++ r := by simp
  have hex' : memB e h.ex = false := by rw [M.ex]; exact hex
  rcases g.2 with ⟨rfl, rfl, rfl⟩ | ⟨h1, c, rfl, rfl⟩
  · have a1 := append_new (P := P) (h := h) (t := t) (u := u) (n := 0) (x := x) he hu hsz hx hf (bytesFit_of hfit (by simpa using hbig) (by omega)) hr1 hex'
    rw [List.append_nil] at M
    refine ⟨_, _, [(h.next, e, r)], a1, (M.newH e r).perm List.perm_append_comm, ⟨hall, .inr ⟨by simp, h.next, by simp, by simp⟩⟩⟩
  · have hl := len_same rows (fun l hl => (g.1 l hl).1)
    have hc := M.at
    have a1 := append_more (P := P) (h := h) (t := t) (u := u) (b := c) (o := 0) (m := rows.length) (n := 0) (x := x) (cs := rows.flatten) he hu hsz hx hf (bytesFit_of hfit hbig hbig2) hr1 hex' (by
      have := hc.1.part (o := 0) (n := rows.flatten.length) (by omega)
      rw [List.drop_zero, List.take_length] at this
      rw [← hl]
      exact this) hc.1.type
    have M1 := M.kill
    refine ⟨_, _, [(h.next, e, rows.flatten ++ r)], a1, (M1.newH e (rows.flatten ++ r)).perm List.perm_append_comm, ⟨hall, .inr ⟨by simp, h.next, by simp, by rw [hfl]⟩⟩⟩
/-- what a call made of some rows, beside others -/
theorem Mem.frame (M : Mem S h0 h (xs ++ rs)) (M' : Mem (xs.map (·.1)) h h' ys) : Mem S h0 h' (ys ++ rs) := by
  have hap := M.apart
  rw [List.map_append, List.nodup_append] at hap
  obtain ⟨a1, a2, a3⟩ := hap
  have hxs : ∀ b ∈ xs.map (·.1), b ∈ S ∨ h0.next ≤ b := by
    intro b hb
    obtain ⟨x, hx, rfl⟩ := List.mem_map.1 hb
    exact (M.row x (List.mem_append_left _ hx)).2.2
  have hle := M.tch.1
  have hle' := M'.tch.1
  refine ⟨fun x hx => ?_, ?_, M.tch.trans' M'.tch hxs⟩
  · rcases List.mem_append.1 hx with hx | hx
    · obtain ⟨h1, h2, h3⟩ := M'.row x hx
      exact ⟨h1, h2, h3.elim (fun h => hxs _ h) (fun h => .inr (by omega))⟩
    · obtain ⟨h1, h2, h3⟩ := M.row x (List.mem_append_right _ hx)
      exact ⟨h1.tch M'.tch h2 (fun hm => a3 x.1 hm x.1 (List.mem_map_of_mem hx) rfl), by omega, h3⟩
  · rw [List.map_append, List.nodup_append]
    refine ⟨M'.apart, a2, fun a ha b hb hab => ?_⟩
    subst hab
    obtain ⟨x, hx, rfl⟩ := List.mem_map.1 ha
    rcases (M'.row x hx).2.2 with h | h
    · exact a3 _ h _ hb rfl
    · obtain ⟨y, hy, hyx⟩ := List.mem_map.1 hb
      have := (M.row y (List.mem_append_right _ hy)).2.1
      omega
theorem Mem.frameT (M : Mem S h0 h (xs ++ rs)) (M' : Mem (xs.map (·.1)) h h' (ys ++ T)) : Mem S h0 h' (ys ++ (rs ++ T)) := by
  have := M.frame M'
  rw [List.append_assoc] at this
  exact this.perm (List.Perm.append_left ys List.perm_append_comm)
/-- one row more: its part of a new slice of one -/
theorem first_one {e' : TypeId} (k : RowH h b e' l) (hl : l.length = sz) : firstA h sz 1 (.sl b 0 1 sz) = some l := by
  rw [firstA_of_row (Nat.le_refl 1), Nat.one_mul]
  have := k.part (o := 0) (n := l.length) (by omega)
  rw [List.drop_zero, List.take_length] at this
  rw [← hl]
  exact this
theorem Wp.grow {K : AV → AHeap → R} {c : Nat} (M : Mem S h0 h ((c, e, r) :: xs ++ T)) (g : GrowT e sz rows v T) (he : elemOf P t = some e) (hu : notInt P u = true) (hsz : P.cellsOf e = sz) (hfit : fitB P e B = true) (hex : memB e h0.ex = false)
    (hr : r.length = sz) (hr1 : r.all AV.one = true) (hbig : (rows.length + 1) * B ≤ 1000000000) (hbig2 : rows.length + 1 ≤ 1000000000)
    (hk : ∀ v' h' T', GrowT e sz (rows ++ [r]) v' T' → Mem S h0 h' (xs ++ T') → Wp (K v' h') Q) : Wp (Abs.outK (opAppend P h t u v (.sl c 0 1 sz)) K) Q := by
  have kc : RowH h c e r := (M.row (c, e, r) (by simp)).1
  obtain ⟨v', h', T', a1, a2, a3⟩ := Mem.grow (xs := (c, e, r) :: xs) (x := .sl c 0 1 sz) M g he hu hsz hfit hex rfl (first_one kc hr) hr hr1 hbig hbig2
  refine Wp.outK a1 (hk v' h' T' a3 ?_)
  rw [List.cons_append] at a2
  exact a2.pop
end
end
end Go.Proofs.Ytikaeeaepnflnaa.Abs
