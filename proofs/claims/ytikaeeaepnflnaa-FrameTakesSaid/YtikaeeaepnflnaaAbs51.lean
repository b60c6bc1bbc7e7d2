/- Rows that are known, all of them in one list. -/
import Derived.Test.YtikaeeaepnflnaaAbs49
namespace Go.Proofs.Ytikaeeaepnflnaa.Abs
noncomputable section
open Go.RowKit

abbrev RowT := Nat × TypeId × List AV
/-- the rows at h; since h0 only blocks of S have turned, and new ones -/
structure Mem (S : List Nat) (h0 h : AHeap) (rs : List RowT) : Prop where
  row : ∀ x ∈ rs, RowH h x.1 x.2.1 x.2.2 ∧ x.1 < h.next ∧ (x.1 ∈ S ∨ h0.next ≤ x.1)
  apart : (rs.map (·.1)).Nodup
  tch : Tch S h0 h
section
variable {S : List Nat} {h0 h h' : AHeap} {xs ys rs : List RowT} {b o n : Nat} {e : TypeId} {l l' vs : List AV} {v : AV} {Q : ARes → AHeap → Prop} {K : AHeap → R} {x : R} {x0 x1 x2 x3 x4 : RowT}
theorem Mem.nil (S : List Nat) (h : AHeap) : Mem S h h [] := ⟨by simp, by simp, Tch.refl _ _⟩
theorem Mem.one (k : RowH h b e l) (hb : b < h.next) : Mem [b] h h [(b, e, l)] := ⟨by simpa using ⟨k, hb⟩, by simp, Tch.refl _ _⟩
theorem Mem.at (M : Mem S h0 h (xs ++ (b, e, l) :: ys)) : RowH h b e l ∧ b < h.next ∧ (b ∈ S ∨ h0.next ≤ b) := M.row (b, e, l) (by simp)
theorem Mem.upd (M : Mem S h0 h (xs ++ (b, e, l) :: ys)) (ht : Tch [b] h h') (k : RowH h' b e l') : Mem S h0 h' (xs ++ (b, e, l') :: ys) := by
  have hap := M.apart
  have hle := ht.1
  simp only [List.map_append, List.map_cons] at hap
  have hne : ∀ x ∈ xs ++ ys, x.1 ≠ b := by
    intro x hx hxb
    rw [List.nodup_append] at hap
    obtain ⟨_, h2, h3⟩ := hap
    rw [List.nodup_cons] at h2
    rcases List.mem_append.1 hx with hx | hx
    · exact h3 x.1 (List.mem_map_of_mem hx) b (by simp) hxb
    · exact h2.1 (by rw [← hxb]; exact List.mem_map_of_mem hx)
  refine ⟨fun x hx => ?_, by simpa only [List.map_append, List.map_cons] using hap, M.tch.trans' ht fun i hi => ?_⟩
  · have hx' : x ∈ xs ++ ys ∨ x = (b, e, l') := by
      rcases List.mem_append.1 hx with hx | hx
      · exact .inl (List.mem_append_left _ hx)
      · rcases List.mem_cons.1 hx with hx | hx
        · exact .inr hx
        · exact .inl (List.mem_append_right _ hx)
    rcases hx' with hx' | rfl
    · obtain ⟨h1, h2, h3⟩ := M.row x (by
        rcases List.mem_append.1 hx' with hx | hx
        · exact List.mem_append_left _ hx
        · exact List.mem_append_right _ (List.mem_cons_of_mem _ hx))
      exact ⟨h1.tch ht h2 (by simpa using hne x hx'), by omega, h3⟩
    · have := M.at
      exact ⟨k, by show b < h'.next; omega, this.2.2⟩
  · simp only [List.mem_cons, List.not_mem_nil, or_false] at hi
    subst hi
    exact M.at.2.2
theorem Mem.keep (M : Mem S h0 h rs) (ht : Tch [] h h') : Mem S h0 h' rs := by
  have hle := ht.1
  refine ⟨fun x hx => ?_, M.apart, M.tch.trans (ht.mono (by simp))⟩
  obtain ⟨h1, h2, h3⟩ := M.row x hx
  exact ⟨h1.tch ht h2 (by simp), by omega, h3⟩
theorem Mem.new (M : Mem S h0 h rs) (ht : Tch [] h h') (k : RowH h' b e l) (hb : h.next ≤ b) (hb2 : b < h'.next) : Mem S h0 h' ((b, e, l) :: rs) := by
  have M' := M.keep ht
  have hle := M.tch.1
  refine ⟨fun x hx => ?_, ?_, M'.tch⟩
  · rcases List.mem_cons.1 hx with rfl | hx
    · exact ⟨k, hb2, .inr (by show h0.next ≤ b; omega)⟩
    · exact M'.row x hx
  · rw [List.map_cons, List.nodup_cons]
    refine ⟨fun hm => ?_, M.apart⟩
    obtain ⟨x, hx, hxb⟩ := List.mem_map.1 hm
    have := (M.row x hx).2.1
    omega
theorem Mem.newH (M : Mem S h0 h rs) (e : TypeId) (l : List AV) : Mem S h0 (newH h e l) ((h.next, e, l) :: rs) := M.new (Tch.newH _ _ _ _) (RowH.new _ _ _) (Nat.le_refl _) (Nat.lt_succ_self _)
/-- a row is no longer spoken of -/
theorem Mem.drop (M : Mem S h0 h (xs ++ ys)) : Mem S h0 h ys := by
  refine ⟨fun x hx => M.row x (List.mem_append_right _ hx), ?_, M.tch⟩
  have := M.apart
  rw [List.map_append, List.nodup_append] at this
  exact this.2.1
theorem Mem.pop (M : Mem S h0 h (x0 :: rs)) : Mem S h0 h rs := Mem.drop (xs := [x0]) M
theorem Mem.ex (M : Mem S h0 h rs) : h.ex = h0.ex := M.tch.2.1
theorem Mem.swap (M : Mem S h0 h (x0 :: x1 :: rs)) : Mem S h0 h (x1 :: x0 :: rs) := by
  refine ⟨fun x hx => M.row x (by simp only [List.mem_cons] at hx ⊢; exact or_left_comm.1 hx), ?_, M.tch⟩
  have := M.apart
  simp only [List.map_cons, List.nodup_cons, List.mem_cons, not_or] at this ⊢
  exact ⟨⟨fun h => this.1.1 h.symm, this.2.1⟩, this.1.2, this.2.2⟩
/-- a new stretch: what has turned so far does not matter -/
theorem Mem.base (M : Mem S h0 h rs) : Mem (rs.map (·.1)) h h rs := ⟨fun x hx => ⟨(M.row x hx).1, (M.row x hx).2.1, .inl (List.mem_map_of_mem hx)⟩, M.apart, Tch.refl _ _⟩
theorem Mem.over (M : Mem S h0 h rs) (M' : Mem (rs.map (·.1)) h h' ys) : Mem S h0 h' ys := by
  have hm : ∀ b ∈ rs.map (·.1), b ∈ S ∨ h0.next ≤ b := by
    intro b hb
    obtain ⟨x, hx, rfl⟩ := List.mem_map.1 hb
    exact (M.row x hx).2.2
  have hle := M.tch.1
  refine ⟨fun x hx => ?_, M'.apart, M.tch.trans' M'.tch hm⟩
  obtain ⟨h1, h2, h3⟩ := M'.row x hx
  exact ⟨h1, h2, h3.elim (fun h => hm _ h) (fun h => .inr (by omega))⟩
theorem Wp.mnew (M : Mem S h0 h rs) (hk : ∀ h', Mem S h0 h' ((h.next, e, l) :: rs) → Wp (K h') Q) : Wp (Abs.lett (Abs.newH h e l) K) Q := hk _ (M.newH e l)
theorem Wp.mbox {K : AV → AHeap → R} (M : Mem S h0 h rs) (h1 : l.all AV.one = true) (hk : ∀ h', Mem S h0 h' ((h.next, e, l) :: rs) → Wp (K (.ptr h.next 0) h') Q) : Wp (Abs.outK (opBox h e (some (.agg l))) K) Q :=
  Wp.outK (box_agg h1) (hk _ (M.newH e l))
theorem Wp.mnews {K : AV → AHeap → R} {w : OutT} {sz : Nat} (M : Mem S h0 h rs) (eb : w = outNewS h e l n sz) (h1 : l.all AV.one = true) (hex : memB e h0.ex = false) (hk : ∀ h', Mem S h0 h' ((h.next, e, l) :: rs) → Wp (K (.sl h.next 0 n sz) h') Q) : Wp (Abs.outK w K) Q := by
  refine Wp.outK (v := .sl h.next 0 n sz) (h1 := Abs.newH h e l) ?_ (hk _ (M.newH e l))
  rw [eb]
  unfold outNewS
  rw [if_pos ⟨h1, by rw [M.ex]; exact hex⟩]
  rfl
/-- a call that turns nothing that was there -/
theorem Wp.mcall {K : AV → AHeap → R} (hx : ∃ h', x = some (.ret v, h') ∧ Tch [] h h') (M : Mem S h0 h rs) (hk : ∀ h', Mem S h0 h' rs → Tch [] h h' → Wp (K v h') Q) : Wp (Abs.callN x K) Q := by
  obtain ⟨h', e1, t⟩ := hx
  exact Wp.callN e1 (hk h' (M.keep t) t)
theorem and_t {a c : Bool} (h1 : a = true) (h2 : c = true) : (a && c) = true := by rw [h1, h2]; rfl
theorem Mem.at0 (M : Mem S h0 h ((b, e, l) :: ys)) : RowH h b e l ∧ b < h.next ∧ (b ∈ S ∨ h0.next ≤ b) := Mem.at (xs := []) M
theorem Wp.ld0 {K : AV → R} (M : Mem S h0 h ((b, e, l) :: ys)) (ho : l[o]? = some v) (hk : Wp (K v) Q) : Wp (Abs.obind (ldCell h (.ptr b o)) K) Q := Wp.obind (RowH.cell' (Mem.at (xs := []) M).1 ho) hk
theorem Wp.lr0 {K : List AV → R} (M : Mem S h0 h ((b, e, l) :: ys)) (hn : l.length = n) (hk : Wp (K l) Q) : Wp (Abs.obind (ldRow h n (.ptr b 0)) K) Q := Wp.obind (RowH.ldAll (Mem.at (xs := []) M).1 hn) hk
theorem Wp.sa0 (M : Mem S h0 h ((b, e, l) :: ys)) (hn : vs.length = n) (hl : l.length = n) (h1 : vs.all AV.one = true) (hk : ∀ h', Mem S h0 h' ((b, e, vs) :: ys) → Wp (K h') Q) : Wp (Abs.obind (stRow h n vs (.ptr b 0)) K) Q :=
  Wp.stAll (Mem.at (xs := []) M).1 hn hl h1 fun h' k' t' _ => hk h' (Mem.upd (xs := []) M t' k')
theorem Wp.ms0 (M : Mem S h0 h ((b, e, l) :: ys)) (ho : o < l.length) (h1 : v.one = true) (hk : ∀ h', Mem S h0 h' ((b, e, l.set o v) :: ys) → Wp (K h') Q) : Wp (Abs.obind (stRow h 1 [v] (.ptr b o)) K) Q :=
  Wp.st1 (Mem.at (xs := []) M).1 ho h1 fun h' k' t' _ => hk h' (Mem.upd (xs := []) M t' k')
theorem Wp.sn0 (M : Mem S h0 h ((b, e, l) :: ys)) (hn : vs.length = n) (ho : o + n ≤ l.length) (h1 : vs.all AV.one = true) (hk : ∀ h', Mem S h0 h' ((b, e, laid l o vs) :: ys) → Wp (K h') Q) : Wp (Abs.obind (stRow h n vs (.ptr b o)) K) Q :=
  Wp.stN (Mem.at (xs := []) M).1 hn ho h1 fun h' k' t' _ => hk h' (Mem.upd (xs := []) M t' k')
theorem Wp.cl0 {K : AV → AHeap → R} (hx : ∃ h', x = some (.ret v, h') ∧ RowH h' b e l' ∧ Tch [b] h h') (M : Mem S h0 h ((b, e, l) :: ys)) (hk : ∀ h', Mem S h0 h' ((b, e, l') :: ys) → Wp (K v h') Q) : Wp (Abs.callN x K) Q := by
  obtain ⟨h', e1, k', t'⟩ := hx
  exact Wp.callN e1 (hk h' (Mem.upd (xs := []) M t' k'))
theorem Mem.re0 {P : Program} {ty : TypeId} (M : Mem S h0 h ((b, e, l) :: ys)) (ha : aggO P ty = some false) (ho : l[o]? = some v) : reLoad P h ty (.ptr b o) v = true := reLoad_c ha (RowH.cell' (Mem.at (xs := []) M).1 ho)
theorem Mem.rr0 {P : Program} {ty : TypeId} (M : Mem S h0 h ((b, e, l) :: ys)) (ha : aggO P ty = some true) (hn : P.cellsOf ty = l.length) : reLoad P h ty (.ptr b 0) (.agg l) = true := reLoad_r ha hn (RowH.ldAll (Mem.at (xs := []) M).1 rfl)
theorem Mem.at1 (M : Mem S h0 h (x0 :: (b, e, l) :: ys)) : RowH h b e l ∧ b < h.next ∧ (b ∈ S ∨ h0.next ≤ b) := Mem.at (xs := [x0]) M
theorem Wp.ld1 {K : AV → R} (M : Mem S h0 h (x0 :: (b, e, l) :: ys)) (ho : l[o]? = some v) (hk : Wp (K v) Q) : Wp (Abs.obind (ldCell h (.ptr b o)) K) Q := Wp.obind (RowH.cell' (Mem.at (xs := [x0]) M).1 ho) hk
theorem Wp.lr1 {K : List AV → R} (M : Mem S h0 h (x0 :: (b, e, l) :: ys)) (hn : l.length = n) (hk : Wp (K l) Q) : Wp (Abs.obind (ldRow h n (.ptr b 0)) K) Q := Wp.obind (RowH.ldAll (Mem.at (xs := [x0]) M).1 hn) hk
theorem Wp.sa1 (M : Mem S h0 h (x0 :: (b, e, l) :: ys)) (hn : vs.length = n) (hl : l.length = n) (h1 : vs.all AV.one = true) (hk : ∀ h', Mem S h0 h' (x0 :: (b, e, vs) :: ys) → Wp (K h') Q) : Wp (Abs.obind (stRow h n vs (.ptr b 0)) K) Q :=
  Wp.stAll (Mem.at (xs := [x0]) M).1 hn hl h1 fun h' k' t' _ => hk h' (Mem.upd (xs := [x0]) M t' k')
theorem Wp.ms1 (M : Mem S h0 h (x0 :: (b, e, l) :: ys)) (ho : o < l.length) (h1 : v.one = true) (hk : ∀ h', Mem S h0 h' (x0 :: (b, e, l.set o v) :: ys) → Wp (K h') Q) : Wp (Abs.obind (stRow h 1 [v] (.ptr b o)) K) Q :=
  Wp.st1 (Mem.at (xs := [x0]) M).1 ho h1 fun h' k' t' _ => hk h' (Mem.upd (xs := [x0]) M t' k')
theorem Wp.sn1 (M : Mem S h0 h (x0 :: (b, e, l) :: ys)) (hn : vs.length = n) (ho : o + n ≤ l.length) (h1 : vs.all AV.one = true) (hk : ∀ h', Mem S h0 h' (x0 :: (b, e, laid l o vs) :: ys) → Wp (K h') Q) : Wp (Abs.obind (stRow h n vs (.ptr b o)) K) Q :=
  Wp.stN (Mem.at (xs := [x0]) M).1 hn ho h1 fun h' k' t' _ => hk h' (Mem.upd (xs := [x0]) M t' k')
theorem Wp.cl1 {K : AV → AHeap → R} (hx : ∃ h', x = some (.ret v, h') ∧ RowH h' b e l' ∧ Tch [b] h h') (M : Mem S h0 h (x0 :: (b, e, l) :: ys)) (hk : ∀ h', Mem S h0 h' (x0 :: (b, e, l') :: ys) → Wp (K v h') Q) : Wp (Abs.callN x K) Q := by
  obtain ⟨h', e1, k', t'⟩ := hx
  exact Wp.callN e1 (hk h' (Mem.upd (xs := [x0]) M t' k'))
theorem Mem.re1 {P : Program} {ty : TypeId} (M : Mem S h0 h (x0 :: (b, e, l) :: ys)) (ha : aggO P ty = some false) (ho : l[o]? = some v) : reLoad P h ty (.ptr b o) v = true := reLoad_c ha (RowH.cell' (Mem.at (xs := [x0]) M).1 ho)
theorem Mem.rr1 {P : Program} {ty : TypeId} (M : Mem S h0 h (x0 :: (b, e, l) :: ys)) (ha : aggO P ty = some true) (hn : P.cellsOf ty = l.length) : reLoad P h ty (.ptr b 0) (.agg l) = true := reLoad_r ha hn (RowH.ldAll (Mem.at (xs := [x0]) M).1 rfl)
theorem Mem.at2 (M : Mem S h0 h (x0 :: x1 :: (b, e, l) :: ys)) : RowH h b e l ∧ b < h.next ∧ (b ∈ S ∨ h0.next ≤ b) := Mem.at (xs := [x0, x1]) M
theorem Wp.ld2 {K : AV → R} (M : Mem S h0 h (x0 :: x1 :: (b, e, l) :: ys)) (ho : l[o]? = some v) (hk : Wp (K v) Q) : Wp (Abs.obind (ldCell h (.ptr b o)) K) Q := Wp.obind (RowH.cell' (Mem.at (xs := [x0, x1]) M).1 ho) hk
theorem Wp.lr2 {K : List AV → R} (M : Mem S h0 h (x0 :: x1 :: (b, e, l) :: ys)) (hn : l.length = n) (hk : Wp (K l) Q) : Wp (Abs.obind (ldRow h n (.ptr b 0)) K) Q := Wp.obind (RowH.ldAll (Mem.at (xs := [x0, x1]) M).1 hn) hk
theorem Wp.sa2 (M : Mem S h0 h (x0 :: x1 :: (b, e, l) :: ys)) (hn : vs.length = n) (hl : l.length = n) (h1 : vs.all AV.one = true) (hk : ∀ h', Mem S h0 h' (x0 :: x1 :: (b, e, vs) :: ys) → Wp (K h') Q) : Wp (Abs.obind (stRow h n vs (.ptr b 0)) K) Q :=
  Wp.stAll (Mem.at (xs := [x0, x1]) M).1 hn hl h1 fun h' k' t' _ => hk h' (Mem.upd (xs := [x0, x1]) M t' k')
theorem Wp.ms2 (M : Mem S h0 h (x0 :: x1 :: (b, e, l) :: ys)) (ho : o < l.length) (h1 : v.one = true) (hk : ∀ h', Mem S h0 h' (x0 :: x1 :: (b, e, l.set o v) :: ys) → Wp (K h') Q) : Wp (Abs.obind (stRow h 1 [v] (.ptr b o)) K) Q :=
  Wp.st1 (Mem.at (xs := [x0, x1]) M).1 ho h1 fun h' k' t' _ => hk h' (Mem.upd (xs := [x0, x1]) M t' k')
theorem Wp.sn2 (M : Mem S h0 h (x0 :: x1 :: (b, e, l) :: ys)) (hn : vs.length = n) (ho : o + n ≤ l.length) (h1 : vs.all AV.one = true) (hk : ∀ h', Mem S h0 h' (x0 :: x1 :: (b, e, laid l o vs) :: ys) → Wp (K h') Q) : Wp (Abs.obind (stRow h n vs (.ptr b o)) K) Q :=
  Wp.stN (Mem.at (xs := [x0, x1]) M).1 hn ho h1 fun h' k' t' _ => hk h' (Mem.upd (xs := [x0, x1]) M t' k')
theorem Wp.cl2 {K : AV → AHeap → R} (hx : ∃ h', x = some (.ret v, h') ∧ RowH h' b e l' ∧ Tch [b] h h') (M : Mem S h0 h (x0 :: x1 :: (b, e, l) :: ys)) (hk : ∀ h', Mem S h0 h' (x0 :: x1 :: (b, e, l') :: ys) → Wp (K v h') Q) : Wp (Abs.callN x K) Q := by
  obtain ⟨h', e1, k', t'⟩ := hx
  exact Wp.callN e1 (hk h' (Mem.upd (xs := [x0, x1]) M t' k'))
theorem Mem.re2 {P : Program} {ty : TypeId} (M : Mem S h0 h (x0 :: x1 :: (b, e, l) :: ys)) (ha : aggO P ty = some false) (ho : l[o]? = some v) : reLoad P h ty (.ptr b o) v = true := reLoad_c ha (RowH.cell' (Mem.at (xs := [x0, x1]) M).1 ho)
theorem Mem.rr2 {P : Program} {ty : TypeId} (M : Mem S h0 h (x0 :: x1 :: (b, e, l) :: ys)) (ha : aggO P ty = some true) (hn : P.cellsOf ty = l.length) : reLoad P h ty (.ptr b 0) (.agg l) = true := reLoad_r ha hn (RowH.ldAll (Mem.at (xs := [x0, x1]) M).1 rfl)
theorem Mem.at3 (M : Mem S h0 h (x0 :: x1 :: x2 :: (b, e, l) :: ys)) : RowH h b e l ∧ b < h.next ∧ (b ∈ S ∨ h0.next ≤ b) := Mem.at (xs := [x0, x1, x2]) M
theorem Wp.ld3 {K : AV → R} (M : Mem S h0 h (x0 :: x1 :: x2 :: (b, e, l) :: ys)) (ho : l[o]? = some v) (hk : Wp (K v) Q) : Wp (Abs.obind (ldCell h (.ptr b o)) K) Q := Wp.obind (RowH.cell' (Mem.at (xs := [x0, x1, x2]) M).1 ho) hk
theorem Wp.lr3 {K : List AV → R} (M : Mem S h0 h (x0 :: x1 :: x2 :: (b, e, l) :: ys)) (hn : l.length = n) (hk : Wp (K l) Q) : Wp (Abs.obind (ldRow h n (.ptr b 0)) K) Q := Wp.obind (RowH.ldAll (Mem.at (xs := [x0, x1, x2]) M).1 hn) hk
theorem Wp.sa3 (M : Mem S h0 h (x0 :: x1 :: x2 :: (b, e, l) :: ys)) (hn : vs.length = n) (hl : l.length = n) (h1 : vs.all AV.one = true) (hk : ∀ h', Mem S h0 h' (x0 :: x1 :: x2 :: (b, e, vs) :: ys) → Wp (K h') Q) : Wp (Abs.obind (stRow h n vs (.ptr b 0)) K) Q :=
  Wp.stAll (Mem.at (xs := [x0, x1, x2]) M).1 hn hl h1 fun h' k' t' _ => hk h' (Mem.upd (xs := [x0, x1, x2]) M t' k')
theorem Wp.ms3 (M : Mem S h0 h (x0 :: x1 :: x2 :: (b, e, l) :: ys)) (ho : o < l.length) (h1 : v.one = true) (hk : ∀ h', Mem S h0 h' (x0 :: x1 :: x2 :: (b, e, l.set o v) :: ys) → Wp (K h') Q) : Wp (Abs.obind (stRow h 1 [v] (.ptr b o)) K) Q :=
  Wp.st1 (Mem.at (xs := [x0, x1, x2]) M).1 ho h1 fun h' k' t' _ => hk h' (Mem.upd (xs := [x0, x1, x2]) M t' k')
theorem Wp.sn3 (M : Mem S h0 h (x0 :: x1 :: x2 :: (b, e, l) :: ys)) (hn : vs.length = n) (ho : o + n ≤ l.length) (h1 : vs.all AV.one = true) (hk : ∀ h', Mem S h0 h' (x0 :: x1 :: x2 :: (b, e, laid l o vs) :: ys) → Wp (K h') Q) : Wp (Abs.obind (stRow h n vs (.ptr b o)) K) Q :=
  Wp.stN (Mem.at (xs := [x0, x1, x2]) M).1 hn ho h1 fun h' k' t' _ => hk h' (Mem.upd (xs := [x0, x1, x2]) M t' k')
theorem Wp.cl3 {K : AV → AHeap → R} (hx : ∃ h', x = some (.ret v, h') ∧ RowH h' b e l' ∧ Tch [b] h h') (M : Mem S h0 h (x0 :: x1 :: x2 :: (b, e, l) :: ys)) (hk : ∀ h', Mem S h0 h' (x0 :: x1 :: x2 :: (b, e, l') :: ys) → Wp (K v h') Q) : Wp (Abs.callN x K) Q := by
  obtain ⟨h', e1, k', t'⟩ := hx
  exact Wp.callN e1 (hk h' (Mem.upd (xs := [x0, x1, x2]) M t' k'))
theorem Mem.re3 {P : Program} {ty : TypeId} (M : Mem S h0 h (x0 :: x1 :: x2 :: (b, e, l) :: ys)) (ha : aggO P ty = some false) (ho : l[o]? = some v) : reLoad P h ty (.ptr b o) v = true := reLoad_c ha (RowH.cell' (Mem.at (xs := [x0, x1, x2]) M).1 ho)
theorem Mem.rr3 {P : Program} {ty : TypeId} (M : Mem S h0 h (x0 :: x1 :: x2 :: (b, e, l) :: ys)) (ha : aggO P ty = some true) (hn : P.cellsOf ty = l.length) : reLoad P h ty (.ptr b 0) (.agg l) = true := reLoad_r ha hn (RowH.ldAll (Mem.at (xs := [x0, x1, x2]) M).1 rfl)
theorem Mem.at4 (M : Mem S h0 h (x0 :: x1 :: x2 :: x3 :: (b, e, l) :: ys)) : RowH h b e l ∧ b < h.next ∧ (b ∈ S ∨ h0.next ≤ b) := Mem.at (xs := [x0, x1, x2, x3]) M
theorem Wp.ld4 {K : AV → R} (M : Mem S h0 h (x0 :: x1 :: x2 :: x3 :: (b, e, l) :: ys)) (ho : l[o]? = some v) (hk : Wp (K v) Q) : Wp (Abs.obind (ldCell h (.ptr b o)) K) Q := Wp.obind (RowH.cell' (Mem.at (xs := [x0, x1, x2, x3]) M).1 ho) hk
theorem Wp.lr4 {K : List AV → R} (M : Mem S h0 h (x0 :: x1 :: x2 :: x3 :: (b, e, l) :: ys)) (hn : l.length = n) (hk : Wp (K l) Q) : Wp (Abs.obind (ldRow h n (.ptr b 0)) K) Q := Wp.obind (RowH.ldAll (Mem.at (xs := [x0, x1, x2, x3]) M).1 hn) hk
theorem Wp.sa4 (M : Mem S h0 h (x0 :: x1 :: x2 :: x3 :: (b, e, l) :: ys)) (hn : vs.length = n) (hl : l.length = n) (h1 : vs.all AV.one = true) (hk : ∀ h', Mem S h0 h' (x0 :: x1 :: x2 :: x3 :: (b, e, vs) :: ys) → Wp (K h') Q) : Wp (Abs.obind (stRow h n vs (.ptr b 0)) K) Q :=
  Wp.stAll (Mem.at (xs := [x0, x1, x2, x3]) M).1 hn hl h1 fun h' k' t' _ => hk h' (Mem.upd (xs := [x0, x1, x2, x3]) M t' k')
theorem Wp.ms4 (M : Mem S h0 h (x0 :: x1 :: x2 :: x3 :: (b, e, l) :: ys)) (ho : o < l.length) (h1 : v.one = true) (hk : ∀ h', Mem S h0 h' (x0 :: x1 :: x2 :: x3 :: (b, e, l.set o v) :: ys) → Wp (K h') Q) : Wp (Abs.obind (stRow h 1 [v] (.ptr b o)) K) Q :=
  Wp.st1 (Mem.at (xs := [x0, x1, x2, x3]) M).1 ho h1 fun h' k' t' _ => hk h' (Mem.upd (xs := [x0, x1, x2, x3]) M t' k')
theorem Wp.sn4 (M : Mem S h0 h (x0 :: x1 :: x2 :: x3 :: (b, e, l) :: ys)) (hn : vs.length = n) (ho : o + n ≤ l.length) (h1 : vs.all AV.one = true) (hk : ∀ h', Mem S h0 h' (x0 :: x1 :: x2 :: x3 :: (b, e, laid l o vs) :: ys) → Wp (K h') Q) : Wp (Abs.obind (stRow h n vs (.ptr b o)) K) Q :=
  Wp.stN (Mem.at (xs := [x0, x1, x2, x3]) M).1 hn ho h1 fun h' k' t' _ => hk h' (Mem.upd (xs := [x0, x1, x2, x3]) M t' k')
theorem Wp.cl4 {K : AV → AHeap → R} (hx : ∃ h', x = some (.ret v, h') ∧ RowH h' b e l' ∧ Tch [b] h h') (M : Mem S h0 h (x0 :: x1 :: x2 :: x3 :: (b, e, l) :: ys)) (hk : ∀ h', Mem S h0 h' (x0 :: x1 :: x2 :: x3 :: (b, e, l') :: ys) → Wp (K v h') Q) : Wp (Abs.callN x K) Q := by
  obtain ⟨h', e1, k', t'⟩ := hx
  exact Wp.callN e1 (hk h' (Mem.upd (xs := [x0, x1, x2, x3]) M t' k'))
theorem Mem.re4 {P : Program} {ty : TypeId} (M : Mem S h0 h (x0 :: x1 :: x2 :: x3 :: (b, e, l) :: ys)) (ha : aggO P ty = some false) (ho : l[o]? = some v) : reLoad P h ty (.ptr b o) v = true := reLoad_c ha (RowH.cell' (Mem.at (xs := [x0, x1, x2, x3]) M).1 ho)
theorem Mem.rr4 {P : Program} {ty : TypeId} (M : Mem S h0 h (x0 :: x1 :: x2 :: x3 :: (b, e, l) :: ys)) (ha : aggO P ty = some true) (hn : P.cellsOf ty = l.length) : reLoad P h ty (.ptr b 0) (.agg l) = true := reLoad_r ha hn (RowH.ldAll (Mem.at (xs := [x0, x1, x2, x3]) M).1 rfl)
theorem Mem.at5 (M : Mem S h0 h (x0 :: x1 :: x2 :: x3 :: x4 :: (b, e, l) :: ys)) : RowH h b e l ∧ b < h.next ∧ (b ∈ S ∨ h0.next ≤ b) := Mem.at (xs := [x0, x1, x2, x3, x4]) M
theorem Wp.ld5 {K : AV → R} (M : Mem S h0 h (x0 :: x1 :: x2 :: x3 :: x4 :: (b, e, l) :: ys)) (ho : l[o]? = some v) (hk : Wp (K v) Q) : Wp (Abs.obind (ldCell h (.ptr b o)) K) Q := Wp.obind (RowH.cell' (Mem.at (xs := [x0, x1, x2, x3, x4]) M).1 ho) hk
theorem Wp.lr5 {K : List AV → R} (M : Mem S h0 h (x0 :: x1 :: x2 :: x3 :: x4 :: (b, e, l) :: ys)) (hn : l.length = n) (hk : Wp (K l) Q) : Wp (Abs.obind (ldRow h n (.ptr b 0)) K) Q := Wp.obind (RowH.ldAll (Mem.at (xs := [x0, x1, x2, x3, x4]) M).1 hn) hk
theorem Wp.sa5 (M : Mem S h0 h (x0 :: x1 :: x2 :: x3 :: x4 :: (b, e, l) :: ys)) (hn : vs.length = n) (hl : l.length = n) (h1 : vs.all AV.one = true) (hk : ∀ h', Mem S h0 h' (x0 :: x1 :: x2 :: x3 :: x4 :: (b, e, vs) :: ys) → Wp (K h') Q) : Wp (Abs.obind (stRow h n vs (.ptr b 0)) K) Q :=
  Wp.stAll (Mem.at (xs := [x0, x1, x2, x3, x4]) M).1 hn hl h1 fun h' k' t' _ => hk h' (Mem.upd (xs := [x0, x1, x2, x3, x4]) M t' k')
theorem Wp.ms5 (M : Mem S h0 h (x0 :: x1 :: x2 :: x3 :: x4 :: (b, e, l) :: ys)) (ho : o < l.length) (h1 : v.one = true) (hk : ∀ h', Mem S h0 h' (x0 :: x1 :: x2 :: x3 :: x4 :: (b, e, l.set o v) :: ys) → Wp (K h') Q) : Wp (Abs.obind (stRow h 1 [v] (.ptr b o)) K) Q :=
  Wp.st1 (Mem.at (xs := [x0, x1, x2, x3, x4]) M).1 ho h1 fun h' k' t' _ => hk h' (Mem.upd (xs := [x0, x1, x2, x3, x4]) M t' k')
theorem Wp.sn5 (M : Mem S h0 h (x0 :: x1 :: x2 :: x3 :: x4 :: (b, e, l) :: ys)) (hn : vs.length = n) (ho : o + n ≤ l.length) (h1 : vs.all AV.one = true) (hk : ∀ h', Mem S h0 h' (x0 :: x1 :: x2 :: x3 :: x4 :: (b, e, laid l o vs) :: ys) → Wp (K h') Q) : Wp (Abs.obind (stRow h n vs (.ptr b o)) K) Q :=
  Wp.stN (Mem.at (xs := [x0, x1, x2, x3, x4]) M).1 hn ho h1 fun h' k' t' _ => hk h' (Mem.upd (xs := [x0, x1, x2, x3, x4]) M t' k')
theorem Wp.cl5 {K : AV → AHeap → R} (hx : ∃ h', x = some (.ret v, h') ∧ RowH h' b e l' ∧ Tch [b] h h') (M : Mem S h0 h (x0 :: x1 :: x2 :: x3 :: x4 :: (b, e, l) :: ys)) (hk : ∀ h', Mem S h0 h' (x0 :: x1 :: x2 :: x3 :: x4 :: (b, e, l') :: ys) → Wp (K v h') Q) : Wp (Abs.callN x K) Q := by
  obtain ⟨h', e1, k', t'⟩ := hx
  exact Wp.callN e1 (hk h' (Mem.upd (xs := [x0, x1, x2, x3, x4]) M t' k'))
theorem Mem.re5 {P : Program} {ty : TypeId} (M : Mem S h0 h (x0 :: x1 :: x2 :: x3 :: x4 :: (b, e, l) :: ys)) (ha : aggO P ty = some false) (ho : l[o]? = some v) : reLoad P h ty (.ptr b o) v = true := reLoad_c ha (RowH.cell' (Mem.at (xs := [x0, x1, x2, x3, x4]) M).1 ho)
theorem Mem.rr5 {P : Program} {ty : TypeId} (M : Mem S h0 h (x0 :: x1 :: x2 :: x3 :: x4 :: (b, e, l) :: ys)) (ha : aggO P ty = some true) (hn : P.cellsOf ty = l.length) : reLoad P h ty (.ptr b 0) (.agg l) = true := reLoad_r ha hn (RowH.ldAll (Mem.at (xs := [x0, x1, x2, x3, x4]) M).1 rfl)
end
end
end Go.Proofs.Ytikaeeaepnflnaa.Abs
