/- What a plain function comes to, step by step. -/
import Derived.Test.YtikaeeaepnflnaaAbs36
namespace Go.Proofs.Ytikaeeaepnflnaa.Abs
noncomputable section
open Go.RowKit

/-- it comes to something of which Q holds -/
def Wp (x : R) (Q : ARes → AHeap → Prop) : Prop := ∃ r h, x = some (r, h) ∧ Q r h
section
variable {α β : Type} {Q Q' : ARes → AHeap → Prop} {r : ARes} {h h1 : AHeap} {v : AV} {x y : R} {b : Bool}
theorem Wp.ret (hq : Q r h) : Wp (some (r, h)) Q := ⟨r, h, rfl, hq⟩
theorem Wp.of (e : x = some (r, h)) (hq : Q r h) : Wp x Q := ⟨r, h, e, hq⟩
theorem Wp.mono (k : Wp x Q) (hq : ∀ r h, Q r h → Q' r h) : Wp x Q' := by
  obtain ⟨r, h, e, q⟩ := k
  exact ⟨r, h, e, hq r h q⟩
theorem Wp.eq (k : Wp x fun r' h' => r' = r ∧ h' = h) : x = some (r, h) := by
  obtain ⟨_, _, e, rfl, rfl⟩ := k
  exact e
theorem Wp.ex {Q : AHeap → Prop} (k : Wp x fun r' h' => r' = r ∧ Q h') : ∃ h', x = some (r, h') ∧ Q h' := by
  obtain ⟨_, h', e, rfl, q⟩ := k
  exact ⟨h', e, q⟩
theorem Wp.lett {v : α} {k : α → R} (hk : Wp (k v) Q) : Wp (lett v k) Q := hk
theorem Wp.lettw {v : Int} {k : Int → R} (h1 : -9223372036854775808 ≤ v) (h2 : v < 9223372036854775808) (hk : Wp (k v) Q) : Wp (Abs.lett (IntKind.i64.wrap v) k) Q := by
  rw [wrap_i64 h1 h2]
  exact hk
theorem Wp.lettu8 {v : Int} {k : Int → R} (h1 : 0 ≤ v) (h2 : v < 256) (hk : Wp (k v) Q) : Wp (Abs.lett (IntKind.u8.wrap v) k) Q := by
  rw [wrap_u8 h1 h2]
  exact hk
theorem Wp.lettu32 {v : Int} {k : Int → R} (h1 : 0 ≤ v) (h2 : v < 4294967296) (hk : Wp (k v) Q) : Wp (Abs.lett (IntKind.u32.wrap v) k) Q := by
  rw [wrap_u32_mod, Int.emod_eq_of_lt h1 h2]
  exact hk
theorem Wp.lettu64 {v : Int} {k : Int → R} (h1 : 0 ≤ v) (h2 : v < 18446744073709551616) (hk : Wp (k v) Q) : Wp (Abs.lett (IntKind.u64.wrap v) k) Q := by
  rw [wrap_u64_mod, Int.emod_eq_of_lt h1 h2]
  exact hk
theorem Wp.join0 {F : AHeap → R} {G : (AHeap → R) → R} (hk : ∀ k, k = F → Wp (G k) Q) : Wp (Abs.lett F G) Q := hk F rfl
theorem Wp.join1 {F : α → AHeap → R} {G : (α → AHeap → R) → R} (hk : ∀ k, k = F → Wp (G k) Q) : Wp (Abs.lett F G) Q := hk F rfl
theorem Wp.join2 {F : α → β → AHeap → R} {G : (α → β → AHeap → R) → R} (hk : ∀ k, k = F → Wp (G k) Q) : Wp (Abs.lett F G) Q := hk F rfl
theorem Wp.go0 {k F : AHeap → R} (e : k = F) (hk : Wp (F h) Q) : Wp (k h) Q := by rw [e]; exact hk
theorem Wp.go1 {k F : α → AHeap → R} {a : α} (e : k = F) (hk : Wp (F a h) Q) : Wp (k a h) Q := by rw [e]; exact hk
theorem Wp.go2 {k F : α → β → AHeap → R} {a : α} {c : β} (e : k = F) (hk : Wp (F a c h) Q) : Wp (k a c h) Q := by rw [e]; exact hk
theorem Wp.obind {o : Option α} {a : α} {k : α → R} (e : o = some a) (hk : Wp (k a) Q) : Wp (Abs.obind o k) Q := by rw [e]; exact hk
theorem Wp.ift (e : b = true) (hk : Wp x Q) : Wp (ifB b x y) Q := by rw [e]; exact hk
theorem Wp.iff (e : b = false) (hk : Wp y Q) : Wp (ifB b x y) Q := by rw [e]; exact hk
theorem Wp.ifc (ht : b = true → Wp x Q) (hf : b = false → Wp y Q) : Wp (ifB b x y) Q := by
  cases b with
  | true => exact ht rfl
  | false => exact hf rfl
theorem Wp.ifd {p : Prop} [Decidable p] (ht : p → Wp x Q) (hf : ¬ p → Wp y Q) : Wp (ifB (decide p) x y) Q :=
  Wp.ifc (fun e => ht (of_decide_eq_true e)) (fun e => hf (of_decide_eq_false e))
theorem Wp.outK {o : OutT} {k : AV → AHeap → R} (e : o = some (.val v, h1)) (hk : Wp (k v h1) Q) : Wp (Abs.outK o k) Q := by rw [e]; exact hk
theorem Wp.effK {o : OutT} {k : AHeap → R} (e : o = some (.skip, h1)) (hk : Wp (k h1) Q) : Wp (Abs.effK o k) Q := by rw [e]; exact hk
theorem Wp.callN {k : AV → AHeap → R} (e : x = some (.ret v, h1)) (hk : Wp (k v h1) Q) : Wp (Abs.callN x k) Q := by rw [e]; exact hk
theorem Wp.callK {k : AV → AHeap → R} (e : x = some (.ret v, h1)) (hk : Wp (k v h1) Q) : Wp (Abs.callK x k) Q := by rw [e]; exact hk
theorem Wp.callP {k : AV → AHeap → R} (e : x = some (.panic v, h1)) (hq : Q (.panic v) h1) : Wp (Abs.callK x k) Q := by rw [e]; exact ⟨_, _, rfl, hq⟩
theorem Wp.callNw {k : AV → AHeap → R} (hx : Wp x fun r h1 => ∃ v, r = .ret v ∧ Wp (k v h1) Q) : Wp (Abs.callN x k) Q := by
  obtain ⟨_, h1, e, v, rfl, hk⟩ := hx
  exact Wp.callN e hk
theorem Wp.callKw {k : AV → AHeap → R} (hx : Wp x fun r h1 => (∃ v, r = .ret v ∧ Wp (k v h1) Q) ∨ ∃ v, r = .panic v ∧ Q (.panic v) h1) : Wp (Abs.callK x k) Q := by
  obtain ⟨_, h1, e, ⟨v, rfl, hk⟩ | ⟨v, rfl, hk⟩⟩ := hx
  · exact Wp.callK e hk
  · exact Wp.callP e hk
theorem Wp.chk (e : b = true) (hk : Wp x Q) : Wp (Abs.chk b x) Q := by rw [e]; exact hk
/-- plain values: memory is as it was -/
theorem Wp.gc (hx : Wp x fun r h' => Above h h' ∧ r.val.scal = true ∧ Q r h) : Wp (gcR h x) Q := by
  obtain ⟨r, h', e, ha, hv, q⟩ := hx
  rw [e, gcR_scal ha hv]
  exact ⟨_, _, rfl, q⟩
theorem Wp.gc' (hx : Wp x fun r h' => Q r h' ∧ (Above h h' → Q r h)) : Wp (gcR h x) Q := by
  obtain ⟨r, h', e, q1, q2⟩ := hx
  rw [e]
  unfold gcR
  split
  · rename_i e2
    simp only [Option.some.injEq, Prod.mk.injEq] at e2
    obtain ⟨rfl, rfl⟩ := e2
    split
    · rename_i hc
      exact ⟨_, _, rfl, q2 hc.1⟩
    · exact ⟨_, _, rfl, q1⟩
  · rename_i e2
    cases e2
/-- what is handed back may be new, or plain -/
theorem Wp.gc2 (hx : Wp x fun r h' => Q r h' ∧ (Above h h' → r.val.lo h.next = true → Q r h)) : Wp (gcR h x) Q := by
  obtain ⟨r, h', e, q1, q2⟩ := hx
  rw [e]
  unfold gcR
  split
  · rename_i e2
    simp only [Option.some.injEq, Prod.mk.injEq] at e2
    obtain ⟨rfl, rfl⟩ := e2
    split
    · rename_i hc
      exact ⟨_, _, rfl, q2 hc.1 hc.2⟩
    · exact ⟨_, _, rfl, q1⟩
  · rename_i e2
    cases e2
/-- what is handed back is new -/
theorem Wp.gcn (hx : Wp x fun r h' => r.val.lo h.next = false ∧ Q r h') : Wp (gcR h x) Q := by
  obtain ⟨r, h', e, hv, q⟩ := hx
  rw [e, gcR_some hv]
  exact ⟨_, _, rfl, q⟩
theorem Wp.eqx {y : R} (e : x = y) (k : Wp y Q) : Wp x Q := by rw [e]; exact k
end
theorem idxS_int {l : Bytes} {i : Int} (h0 : 0 ≤ i) (h : i < (l.length : Int)) : idxS l i = some ((l[i.toNat]'(by omega)).toNat : Int) := by
  obtain ⟨n, rfl⟩ := Int.eq_ofNat_of_zero_le h0
  exact idxS_nat (by omega)
theorem sliceS_int {l : Bytes} {a b : Int} (h0 : 0 ≤ a) (h1 : a ≤ b) (h2 : b ≤ (l.length : Int)) : sliceS l a b = some ((l.drop a.toNat).take (b.toNat - a.toNat)) := by
  obtain ⟨n, rfl⟩ := Int.eq_ofNat_of_zero_le h0
  obtain ⟨m, rfl⟩ := Int.eq_ofNat_of_zero_le (Int.le_trans h0 h1)
  exact sliceS_nat (by omega) (by omega)
theorem addS_val {a b : Bytes} (h : a.length + b.length ≤ 1000000000) : addS a b = some (a ++ b) := by
  unfold addS
  rw [Nat.ble_eq_true_of_le h]
theorem nilC_ptr (b o : Nat) : nilC (.ptr b o) = some (.ptr b o) := rfl
theorem fldP_ptr (f b o : Nat) : fldP f (.ptr b o) = some (.ptr b (o + f)) := rfl
theorem newP_eq (h : AHeap) : newP h = .ptr h.next 0 := rfl

theorem not_dt {p : Prop} [Decidable p] (h : p) : (!decide p) = false := by simp [h]
theorem not_df {p : Prop} [Decidable p] (h : ¬ p) : (!decide p) = true := by simp [h]
theorem nd_t {p : Prop} [Decidable p] (h : (!decide p) = true) : ¬ p := by simpa using h
theorem nd_f {p : Prop} [Decidable p] (h : (!decide p) = false) : p := by simpa using h
theorem bne_t {a b : Int} (h : a ≠ b) : (a != b) = true := by simp [h]
theorem bne_f {a b : Int} (h : a = b) : (a != b) = false := by simp [h]
theorem beq_t {a b : Int} (h : a = b) : (a == b) = true := by simp [h]
theorem beq_f {a b : Int} (h : a ≠ b) : (a == b) = false := by simp [h]
section
variable {Q : ARes → AHeap → Prop} {h : AHeap} {b o n : Nat} {e : TypeId} {l vs : List AV} {v : AV} {K : AHeap → R}
/-- a store into a row that is known -/
theorem Wp.st1 (k : RowH h b e l) (ho : o < l.length) (h1 : v.one = true) (hk : ∀ h', RowH h' b e (l.set o v) → Tch [b] h h' → h'.next = h.next → Wp (K h') Q) : Wp (Abs.obind (stRow h 1 [v] (.ptr b o)) K) Q := by
  obtain ⟨h', e1, e2, e3, e4, e5⟩ := k.st1 ho h1
  exact Wp.obind e1 (hk h' e2 (tch_of e3 e4 e5 (.inl (by simp))) e3)
theorem Wp.stN (k : RowH h b e l) (hn : vs.length = n) (ho : o + n ≤ l.length) (h1 : vs.all AV.one = true) (hk : ∀ h', RowH h' b e (laid l o vs) → Tch [b] h h' → h'.next = h.next → Wp (K h') Q) : Wp (Abs.obind (stRow h n vs (.ptr b o)) K) Q := by
  obtain ⟨h', e1, e2, e3, e4, e5⟩ := k.st hn ho h1
  exact Wp.obind e1 (hk h' e2 (tch_of e3 e4 e5 (.inl (by simp))) e3)
theorem Wp.stAll (k : RowH h b e l) (hn : vs.length = n) (hl : l.length = n) (h1 : vs.all AV.one = true) (hk : ∀ h', RowH h' b e vs → Tch [b] h h' → h'.next = h.next → Wp (K h') Q) : Wp (Abs.obind (stRow h n vs (.ptr b 0)) K) Q := by
  obtain ⟨h', e1, e2, e3, e4, e5⟩ := k.stAll hn hl h1
  exact Wp.obind e1 (hk h' e2 (tch_of e3 e4 e5 (.inl (by simp))) e3)
end

/-! ### slices of one's own that grow, row by row -/
def Sli (e sz lo : Nat) (h : AHeap) (v : AV) (rows : List (List AV)) : Prop :=
  (∀ r ∈ rows, r.length = sz ∧ r.all AV.one = true) ∧ ((rows = [] ∧ v = .nsl) ∨ ∃ c, rows ≠ [] ∧ v = .sl c 0 rows.length sz ∧ lo ≤ c ∧ c < h.next ∧ RowH h c e rows.flatten)
section
variable {P : Program} {e sz lo : Nat} {h h' : AHeap} {v x : AV} {rows : List (List AV)} {r : List AV} {t u : TypeId} {S : List Nat}
theorem Sli.nil (e sz lo : Nat) (h : AHeap) : Sli e sz lo h .nsl [] := ⟨by simp, .inl ⟨rfl, rfl⟩⟩
theorem Sli.len (k : Sli e sz lo h v rows) : lenL v = some (rows.length : Int) := by
  rcases k.2 with ⟨rfl, rfl⟩ | ⟨c, _, rfl, _⟩ <;> rfl
theorem Sli.ab (k : Sli e sz lo h v rows) (hn : h.next ≤ h'.next) (hg : ∀ b, lo ≤ b → b < h.next → h'.get b = h.get b) : Sli e sz lo h' v rows := by
  refine ⟨k.1, ?_⟩
  rcases k.2 with h0 | ⟨c, h1, h2, h3, h4, h5⟩
  · exact .inl h0
  · exact .inr ⟨c, h1, h2, h3, by omega, h5.same (hg c h3 h4)⟩
theorem Sli.tch (k : Sli e sz lo h v rows) (ht : Tch S h h') (hS : ∀ b ∈ S, b < lo) : Sli e sz lo h' v rows :=
  k.ab ht.1 fun b h1 h2 => ht.2.2 b h2 fun hm => by have := hS b hm; omega
theorem Sli.slc (k : Sli e sz lo h v rows) : Slc h.next h sz v rows := by
  refine ⟨fun l hl => (k.1 l hl).1, ?_⟩
  rcases k.2 with ⟨rfl, rfl⟩ | ⟨c, h1, rfl, h3, h4, t, h5, h6⟩
  · exact .inl ⟨rfl, .inl rfl⟩
  · exact .inr ⟨c, h1, h4, rfl, t, .inr ⟨_, _, h5⟩, h6⟩
theorem flat_all {rows : List (List AV)} (k : ∀ r ∈ rows, r.length = sz ∧ r.all AV.one = true) : rows.flatten.all AV.one = true := by
  rw [List.all_eq_true]
  intro x hx
  obtain ⟨r, hr, hxr⟩ := List.mem_flatten.1 hx
  exact List.all_eq_true.1 (k r hr).2 x hxr
/-- one row more -/
theorem Sli.push (k : Sli e sz lo h v rows) {B : Nat} (he : elemOf P t = some e) (hu : notInt P u = true) (hsz : P.cellsOf e = sz) (hfit : fitB P e B = true) (hex : memB e h.ex = false) (hlo : lo ≤ h.next)
    (hx : lenA x = some 1) (hf : firstA h sz 1 x = some r) (hr : r.length = sz) (hr1 : r.all AV.one = true) (hbig : (rows.length + 1) * B ≤ 1000000000) (hbig2 : rows.length + 1 ≤ 1000000000) :
    ∃ v' h', opAppend P h t u v x = some (.val v', h') ∧ Sli e sz lo h' v' (rows ++ [r]) ∧ Ab lo h h' := by
  have hall : ∀ q ∈ rows ++ [r], q.length = sz ∧ q.all AV.one = true := by
    intro q hq
    rcases List.mem_append.1 hq with hq | hq
    · exact k.1 q hq
    · simp at hq
      subst hq
      exact ⟨hr, hr1⟩
  have hfl : (rows ++ [r]).flatten = rows.flatten ++ r := by simp
  rcases k.2 with ⟨rfl, rfl⟩ | ⟨c, h1, rfl, h3, h4, h5⟩
  · have a1 := append_new (P := P) (h := h) (t := t) (u := u) (n := 0) (x := x) he hu hsz hx hf (bytesFit_of hfit (by simpa using hbig) (by omega)) hr1 hex
    refine ⟨_, _, a1, ⟨hall, .inr ⟨h.next, by simp, rfl, hlo, Nat.lt_succ_self _, ?_⟩⟩, (Ab.refl lo h).new hlo _⟩
    rw [hfl]
    exact RowH.new _ _ _
  · have hl := len_same rows (fun l hl => (k.1 l hl).1)
    have a1 := append_more (P := P) (h := h) (t := t) (u := u) (b := c) (o := 0) (m := rows.length) (n := 0) (x := x) (cs := rows.flatten) he hu hsz hx hf (bytesFit_of hfit hbig hbig2) hr1 hex (by
      have := h5.part (o := 0) (n := rows.flatten.length) (by omega)
      rw [List.drop_zero, List.take_length] at this
      rw [← hl]
      exact this) h5.type
    refine ⟨_, _, a1, ⟨hall, .inr ⟨h.next, by simp, by simp, hlo, Nat.lt_succ_self _, ?_⟩⟩, ((Ab.refl lo h).put h3 _).new (by show lo ≤ h.next; exact hlo) _⟩
    rw [hfl]
    exact RowH.new (h.put c .dead) e _
end
end
end Go.Proofs.Ytikaeeaepnflnaa.Abs
