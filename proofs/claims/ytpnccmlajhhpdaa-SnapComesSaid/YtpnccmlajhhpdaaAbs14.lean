/- A region whose order is open: the world goes behind the plan. -/
import Derived.Test.YtpnccmlajhhpdaaAbs13
namespace Go.Proofs.Ytpnccmlajhhpdaa.Abs
noncomputable section
open Go.RowKit

section
variable {P : Program} {m m0 : Map} {w0 : Base} {w : World} {H H' : AHeap} {nx : ANext} {ops : Array Oper} {N : Nat}

def Pend (P : Program) (ops : Array Oper) (m0 m : Map) (H : AHeap) (a : AAct) (rs : List Rec) (ids : Nat → Option Nat) (i : Nat) (o : Oper) : Prop :=
  (wantedT ops a.tmps.get o.guard = some false ∧ ∀ d, o.dst = some d → a.tmps.get d = some (.tup [])) ∨
  (wantedT ops a.tmps.get o.guard = some true ∧
    ((∃ v, (∀ h, opA P a.eval o h = some (.val v, h)) ∧ ∀ d, o.dst = some d → a.tmps.get d = some v) ∨
     (∃ v r, isRead o.op = true ∧ opA P a.eval o H = some (.val v, H) ∧ (∀ d, o.dst = some d → a.tmps.get d = some v) ∧ r ∈ rs ∧ r.i = i ∧ r.o = o) ∨
     (∃ id x e n t r, ids i = some id ∧ ((o.op = .alloc e ∧ zeroA P e = some x) ∨ ∃ y, o.op = .box e y ∧ a.eval y = some x) ∧ x.cells.all AV.one = true ∧ (∀ d, o.dst = some d → a.tmps.get d = some (.ptr id 0)) ∧
        H.get id = some (.row n t e) ∧ n = x.cells.length ∧ (∀ k, k < n → t.get k = x.cells[k]?) ∧ m[id]? = some none ∧ m0.length ≤ id ∧ r ∈ rs ∧ r.i = i ∧ r.o = o ∧ r.id = id ∧ r.e = e ∧ r.cells = x.cells)))

inductive Ordered (ops : Array Oper) : List Nat → Prop
  | nil : Ordered ops []
  | cons {i : Nat} {l : List Nat} (h : ∀ j ∈ edgesAt ops i, j ∈ l) (hi : i ∉ l) (o : Ordered ops l) : Ordered ops (i :: l)
theorem Ordered.closed {l : List Nat} (h : Ordered ops l) : ∀ i ∈ l, ∀ j ∈ edgesAt ops i, j ∈ l := by
  induction h with
  | nil => intro i hi; simp at hi
  | cons h hi _ ih =>
    intro i hi j hj
    rcases List.mem_cons.1 hi with rfl | hi
    · exact List.mem_cons_of_mem _ (h j hj)
    · exact List.mem_cons_of_mem _ (ih i hi j hj)
theorem Ordered.first {S : Nat → Prop} {l : List Nat} (h : Ordered ops l) : (∃ i ∈ l, ¬ S i) → ∃ i ∈ l, ¬ S i ∧ ∀ j ∈ edgesAt ops i, S j := by
  induction h with
  | nil => rintro ⟨i, hi, _⟩; simp at hi
  | @cons i l h hi o ih =>
    rintro ⟨k, hk, hs⟩
    by_cases hex : ∃ i ∈ l, ¬ S i
    · obtain ⟨j, h1, h2, h3⟩ := ih hex
      exact ⟨j, List.mem_cons_of_mem _ h1, h2, h3⟩
    · have all : ∀ j ∈ l, S j := fun j hj => Classical.byContradiction fun hn => hex ⟨j, hj, hn⟩
      rcases List.mem_cons.1 hk with rfl | hk
      · exact ⟨k, by simp, hs, fun j hj => all j (h j hj)⟩
      · exact absurd (all k hk) hs

/-- the world has done what is listed, the plan what is done -/
structure Lag (P : Program) (ops : Array Oper) (w0 : Base) (m0 : Map) (N : Nat) (don : List Nat) (a : AAct) (H : AHeap) (rs : List Rec) (ids : Nat → Option Nat) (listed : Array Bool) (m : Map) (act : Act) (w : World) : Prop where
  size : listed.size = ops.size
  sub : ∀ i, listed[i]? = some true → i ∈ don
  lt : ∀ i ∈ don, i < ops.size
  closedS : ∀ i, listed[i]? = some true → ∀ j ∈ edgesAt ops i, listed[j]? = some true
  ord : Ordered ops don
  kind : ∀ i ∈ don, listed[i]? ≠ some true → kindAt P ops i < 3
  fits : Fits w0 m H w
  ext : Ext m0 m
  asize : act.tmps.size = N
  slots : ∀ t, (∃ i ∈ don, listed[i]? ≠ some true ∧ dstAt ops i = some t) ∨ Slot m a act t
  defers : RelD m a.defers act.defers
  pend : ∀ i ∈ don, listed[i]? ≠ some true → ∀ o, ops[i]? = some o → Pend P ops m0 m H a rs ids i o
  inj : ∀ i j b, ids i = some b → ids j = some b → i = j
  idlt : ∀ i b, ids i = some b → i ∈ don ∧ b < m.length

theorem okTmps_ok (h : okTmps ops = true) {i j : Nat} (hi : i < ops.size) (hj : j < ops.size) : okTmp ops i j = true := by
  simp only [okTmps, allB_iff] at h
  exact h i (List.mem_range.2 hi) j (List.mem_range.2 hj)
theorem okTmp_reads {i j t : Nat} (h : okTmp ops i j = true) (hd : dstAt ops j = some t) (hr : t ∈ readsAt ops i) : j ∈ edgesAt ops i ∨ i ∈ edgesAt ops j := by
  simp only [okTmp, hd, Bool.and_eq_true, Bool.or_eq_true, Bool.not_eq_true'] at h
  rcases h.1 with (h | h) | h
  · have := memB_iff.2 hr
    rw [this] at h; cases h
  · exact .inl (memB_iff.1 h)
  · exact .inr (memB_iff.1 h)
theorem okTmp_dst {i j t : Nat} (h : okTmp ops i j = true) (hd : dstAt ops j = some t) (hne : i ≠ j) : dstAt ops i ≠ some t := by
  simp only [okTmp, hd, Bool.and_eq_true, Bool.or_eq_true, Bool.not_eq_true'] at h
  rcases h.2 with h | h
  · exact absurd (by simpa using h) hne
  · simpa using h
theorem kind_anti {i : Nat} (h : kindAt P ops i < 3) : antiAt ops i = false := by
  unfold kindAt at h
  split at h
  · unfold kindX at h
    split at h
    · omega
    · assumption
  · omega
theorem kindX_lt {i : Nat} {o : Op} {k : Nat} (h : kindX P ops i o = k) (hk : k < 3) : kindOf P o = k := by
  unfold kindX at h
  split at h
  · omega
  · exact h
theorem anti_ok {i k t : Nat} (h : antiAt ops i = false) (hd : dstAt ops i = some t) (hk : k < ops.size) (hr : t ∈ readsAt ops k) : i ∈ edgesAt ops k := by
  simp only [antiAt, hd, List.any_eq_false, List.mem_range, Bool.and_eq_true, Bool.not_eq_true', not_and] at h
  have := h k hk (memB_iff.2 hr)
  simp only [Bool.not_eq_false] at this
  exact memB_iff.1 this

variable {don : List Nat} {a : AAct} {rs : List Rec} {ids : Nat → Option Nat} {listed : Array Bool} {act : Act}

/-- what an operation reads is there -/
theorem Lag.reads (L : Lag P ops w0 m0 N don a H rs ids listed m act w) (hok : okTmps ops = true) {i : Nat} (hi : i < ops.size) (hS : ∀ j ∈ edgesAt ops i, listed[j]? = some true) : ∀ t ∈ readsAt ops i, Slot m a act t := by
  intro t ht
  rcases L.slots t with ⟨j, hj, hp, hd⟩ | h
  · exfalso
    have hjs := L.lt j hj
    rcases okTmp_reads (okTmps_ok hok hi hjs) hd ht with h | h
    · exact hp (hS j h)
    · exact hp (hS j (anti_ok (kind_anti (L.kind j hj hp)) hd hi ht))
  · exact h
/-- a new operation writes nothing that one that is behind reads or writes -/
theorem Lag.apart (L : Lag P ops w0 m0 N don a H rs ids listed m act w) (hok : okTmps ops = true) {i j t : Nat} (hi : i < ops.size) (hid : i ∉ don) (hj : j ∈ don) (hp : listed[j]? ≠ some true)
    (hx : kindAt P ops i < 3 ∨ ∀ k ∈ edgesAt ops i, listed[k]? = some true) (hd : dstAt ops i = some t) : t ∉ readsAt ops j ∧ dstAt ops j ≠ some t := by
  have hjs := L.lt j hj
  have hne : j ≠ i := fun e => hid (e ▸ hj)
  refine ⟨fun hr => ?_, okTmp_dst (okTmps_ok hok hjs hi) hd hne⟩
  have hno : i ∉ edgesAt ops j := fun h => hid (L.ord.closed j hj i h)
  rcases hx with hx | hx
  · exact hno (anti_ok (kind_anti hx) hd hjs hr)
  · rcases okTmp_reads (okTmps_ok hok hjs hi) hd hr with h | h
    · exact hno h
    · exact hp (hx j h)
theorem reads_of {i : Nat} {o : Oper} (ho : ops[i]? = some o) : readsAt ops i = guardTmp ops o.guard ++ tmpsOf o.op.operands.toList := by simp [readsAt, ho]
theorem dst_of {i : Nat} {o : Oper} (ho : ops[i]? = some o) : dstAt ops i = o.dst := by simp [dstAt, ho]
theorem get_put_slot {a : AAct} {d : Option Tmp} {v : AV} {t : Nat} (h : d ≠ some t) : (a.put d v).tmps.get t = a.tmps.get t := by
  cases d with
  | none => rfl
  | some s => exact T.get_set_other _ _ (fun e => h (by rw [e]))
theorem eval_put {a : AAct} {d : Option Tmp} {v : AV} {x : Operand} (h : ∀ t, x = .tmp t → d ≠ some t) : (a.put d v).eval x = a.eval x := by
  cases x with
  | tmp t => exact get_put_slot (h t rfl)
  | const c => rfl
  | global g => rfl
  | func f => rfl
theorem wantedT_congr {f g : Nat → Option AV} {gd : Option (Nat × Bool)} (h : ∀ t ∈ guardTmp ops gd, f t = g t) : wantedT ops f gd = wantedT ops g gd := by
  unfold wantedT
  split
  · rfl
  · rename_i j want
    cases ho : ops[j]? with
    | none => rfl
    | some o =>
      simp only
      cases hd : o.dst with
      | none => rfl
      | some d =>
        have : dstAt ops j = some d := by simp [dstAt, ho, hd]
        simp only
        rw [h d (by simp [guardTmp, this])]
/-- one that is behind stays as it is: its slots stay, what it read or made stays -/
theorem Pend.keep {m' : Map} {a' : AAct} {rs' : List Rec} {ids' : Nat → Option Nat} {i : Nat} {o : Oper} (ho : ops[i]? = some o) (h : Pend P ops m0 m H a rs ids i o) (hr : ∀ t ∈ readsAt ops i, a'.tmps.get t = a.tmps.get t) (hd : ∀ d, o.dst = some d → a'.tmps.get d = a.tmps.get d)
    (hload : ∀ v r, isRead o.op = true → opA P a.eval o H = some (.val v, H) → (∀ d, o.dst = some d → a.tmps.get d = some v) → opA P a'.eval o H = some (.val v, H) → r ∈ rs → r.i = i → r.o = o → opA P a'.eval o H' = some (.val v, H'))
    (hrow : ∀ id n t e l r, H.get id = some (.row n t e) → n = l.length → (∀ k, k < n → t.get k = l[k]?) → ids i = some id → r ∈ rs → r.i = i → r.o = o → r.id = id → r.e = e → r.cells = l → ((∃ e, o.op = .alloc e) ∨ ∃ e y, o.op = .box e y) → ∃ t', H'.get id = some (.row n t' e) ∧ ∀ k, k < n → t'.get k = l[k]?)
    (hm : ∀ id, ids i = some id → m[id]? = some none → m'[id]? = some none) (hrs : ∀ r ∈ rs, r ∈ rs') (hids : ids' i = ids i) : Pend P ops m0 m' H' a' rs' ids' i o := by
  have hw : wantedT ops a'.tmps.get o.guard = wantedT ops a.tmps.get o.guard := wantedT_congr fun t ht => hr t (by rw [reads_of ho]; exact List.mem_append_left _ ht)
  have he : ∀ x ∈ o.op.operands.toList, a'.eval x = a.eval x := by
    intro x hx
    cases x with
    | tmp t => exact hr t (by rw [reads_of ho]; exact List.mem_append_right _ (mem_tmps hx))
    | const c => rfl
    | global g => rfl
    | func f => rfl
  have hop : ∀ hp, opA P a'.eval o hp = opA P a.eval o hp := opA_congr o he
  rcases h with ⟨h1, h2⟩ | ⟨h1, h⟩
  · exact .inl ⟨hw.trans h1, fun d e => (hd d e).trans (h2 d e)⟩
  · refine .inr ⟨hw.trans h1, ?_⟩
    rcases h with ⟨v, h2, h3⟩ | ⟨v, r, hl, h2, h3, h4, h5, h6⟩ | ⟨id, x, e, n, t, r, h2, h3, h4, h5, h6, h7, h8, h9, h10, h11, h12, h13, h14, h15, h16⟩
    · exact .inl ⟨v, fun hp => (hop hp).trans (h2 hp), fun d e => (hd d e).trans (h3 d e)⟩
    · exact .inr (.inl ⟨v, r, hl, hload v r hl h2 h3 ((hop H).trans h2) h4 h5 h6, fun d e => (hd d e).trans (h3 d e), hrs r h4, h5, h6⟩)
    · obtain ⟨t', h17, h18⟩ := hrow id n t e x.cells r h6 h7 h8 h2 h11 h12 h13 h14 h15 h16 (by
        rcases h3 with ⟨h3, _⟩ | ⟨y, h3, _⟩
        · exact .inl ⟨e, h3⟩
        · exact .inr ⟨e, y, h3⟩)
      refine .inr (.inr ⟨id, x, e, n, t', r, hids.trans h2, ?_, h4, fun d e => (hd d e).trans (h5 d e), h17, h7, h18, hm id h2 h9, h10, hrs r h11, h12, h13, h14, h15, h16⟩)
      rcases h3 with h3 | ⟨y, h3, h3'⟩
      · exact .inl h3
      · exact .inr ⟨y, h3, (he y (by rw [h3]; simp [Op.operands])).trans h3'⟩
end

end
end Go.Proofs.Ytpnccmlajhhpdaa.Abs
