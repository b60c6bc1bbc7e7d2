/- A region whose order is open: all of it. -/
import Derived.Test.YtpnccmlajhhpdaaAbs15
namespace Go.Proofs.Ytpnccmlajhhpdaa.Abs
noncomputable section
open Go.RowKit

section
variable {P : Program} {m m0 : Map} {w0 : Base} {w : World} {H H' : AHeap} {nx : ANext} {ops : Array Oper} {N : Nat}
variable {don : List Nat} {a a' : AAct} {rs : List Rec} {ids : Nat → Option Nat} {listed : Array Bool} {act : Act} {call : CallF}

/-- the records behind an operation -/
def recsOf (P : Program) (ops : Array Oper) (a : AAct) (H : AHeap) (i : Nat) (o : Oper) (rs : List Rec) : List Rec := match kindX P ops i o.op with
  | 0 => rs
  | _ => match wantedT ops a.tmps.get o.guard with
    | some true => ⟨i, o, H.next, boxType o.op, boxCells P a o.op⟩ :: rs
    | _ => rs
theorem recsOf_sub (i : Nat) (o : Oper) : ∀ r ∈ rs, r ∈ recsOf P ops a H i o rs := by
  intro r hr
  unfold recsOf
  split
  · exact hr
  · split
    · exact List.mem_cons_of_mem _ hr
    · exact hr
theorem kindAt_of {i : Nat} {o : Oper} (ho : ops[i]? = some o) : kindAt P ops i = kindX P ops i o.op := by simp [kindAt, ho]

/-- the plan goes on by an operation that the world does later -/
theorem Lag.ahead (L : Lag P ops w0 m0 N don a H rs ids listed m act w) (hok : okTmps ops = true) {i : Nat} {o : Oper} (ho : ops[i]? = some o) (hid : i ∉ don) (hE : ∀ j ∈ edgesAt ops i, j ∈ don) (hk : kindX P ops i o.op < 3) (hst : stepA P call ops o a H = some (.go a' H')) :
    ∃ m' ids', Lag P ops w0 m0 N (i :: don) a' H' (recsOf P ops a H i o rs) ids' listed m' act w := by
  have hi : i < ops.size := (Array.getElem?_eq_some_iff.1 ho).1
  have hkA : kindAt P ops i < 3 := by rw [kindAt_of ho]; exact hk
  -- its own slots
  have hown : ∀ t, o.dst = some t → t ∉ readsAt ops i := by
    intro t ht hr
    have := okTmp_reads (okTmps_ok hok hi hi) (by rw [dst_of ho]; exact ht) hr
    rcases this with h | h <;> exact hid (hE i h)
  have hwput : ∀ v, wantedT ops (a.put o.dst v).tmps.get o.guard = wantedT ops a.tmps.get o.guard := fun v => wantedT_congr fun t ht => get_put_slot fun e => hown t e (by rw [reads_of ho]; exact List.mem_append_left _ ht)
  have heput : ∀ v, ∀ x ∈ o.op.operands.toList, (a.put o.dst v).eval x = a.eval x := fun v x hx => eval_put fun t e he => hown t he (by rw [reads_of ho]; exact List.mem_append_right _ (mem_tmps (e ▸ hx)))
  have hdput : ∀ v d, o.dst = some d → (a.put o.dst v).tmps.get d = some v := by
    intro v d hd
    rw [hd]
    exact T.get_set_same _ _ _
  unfold stepA at hst
  split at hst
  · rename_i hw
    cases hopA : opA P a.eval o H with
    | none => rw [hopA] at hst; cases hst
    | some p =>
      obtain ⟨nx, H1⟩ := p
      rw [hopA] at hst
      have hkk : kindOf P o.op = kindX P ops i o.op := kindX_lt rfl hk
      by_cases h0 : kindX P ops i o.op = 0
      · obtain ⟨v, rfl, rfl, hfree⟩ := kind0 (hkk.trans h0) hopA
        simp only [stepOut, stepPut, Option.some.injEq, AStep.go.injEq] at hst
        obtain ⟨rfl, rfl⟩ := hst
        refine ⟨m, fun k => if k = i then none else ids k, L.more hok ho hid hE hkA (Ext.refl m) L.fits (fun _ _ => rfl) (recsOf_sub i o) (fun j hj => by simp [hj]) (fun b hb => by simp at hb) ?_⟩
        exact .inr ⟨(hwput v).trans hw, .inl ⟨v, fun hp => (opA_congr o (heput v) hp).trans (hfree hp), hdput v⟩⟩
      · have hrec : (⟨i, o, H.next, boxType o.op, boxCells P a o.op⟩ : Rec) ∈ recsOf P ops a H i o rs := by
          unfold recsOf
          split
          · rename_i e; exact absurd e h0
          · rw [hw]; simp
        by_cases h1 : kindX P ops i o.op = 1
        · have hl := kind1 (hkk.trans h1)
          obtain ⟨v, rfl, rfl, _⟩ := read_out hl hopA
          simp only [stepOut, stepPut, Option.some.injEq, AStep.go.injEq] at hst
          obtain ⟨rfl, rfl⟩ := hst
          refine ⟨m, fun k => if k = i then none else ids k, L.more hok ho hid hE hkA (Ext.refl m) L.fits (fun _ _ => rfl) (recsOf_sub i o) (fun j hj => by simp [hj]) (fun b hb => by simp at hb) ?_⟩
          exact .inr ⟨(hwput v).trans hw, .inr (.inl ⟨v, _, hl, (opA_congr o (heput v) H1).trans hopA, hdput v, hrec, rfl, rfl⟩)⟩
        · have h2 : kindOf P o.op = 2 := by rw [hkk]; omega
          have key : ∀ (e : TypeId) (z : Option AV), opBox H e z = some (nx, H1) → boxType o.op = e → (∀ x, z = some x → boxCells P a o.op = x.cells) → (∀ x v, z = some x → (o.op = .alloc e ∧ zeroA P e = some x) ∨ ∃ y, o.op = .box e y ∧ (a.put o.dst v).eval y = some x) →
              ∃ m' ids', Lag P ops w0 m0 N (i :: don) a' H' (recsOf P ops a H i o rs) ids' listed m' act w := by
            intro e z hb ht hcells hop
            obtain ⟨x, rfl, hone, rfl, rfl, _⟩ := box_out hb
            simp only [stepOut, stepPut, Option.some.injEq, AStep.go.injEq] at hst
            obtain ⟨rfl, rfl⟩ := hst
            have hlen := L.fits.len
            refine ⟨m ++ [none], fun k => if k = i then some H.next else ids k, L.more hok ho hid hE hkA (Ext.append m _) (L.fits.later x.cells e) (fun b hb => ?_) (recsOf_sub i o) (fun j hj => by simp [hj]) (fun b hb => ?_) ?_⟩
            · obtain ⟨ob, hob⟩ := Option.isSome_iff_exists.1 hb
              exact get_new_other _ (fun e => by have := L.fits.lt_next hob; omega)
            · simp at hb; subst hb
              simp; omega
            · refine .inr ⟨(hwput _).trans hw, .inr (.inr ⟨H.next, x, e, x.cells.length, T.put .e 0 x.cells, _, by simp, hop x _ rfl, hone, hdput _, get_new_same _, rfl, fun k hk => by rw [rowOf_get], ?_, ?_, hrec, rfl, rfl, rfl, ht, hcells x rfl⟩)⟩
              · rw [← hlen, List.getElem?_append_right (Nat.le_refl _)]; simp
              · rw [← hlen]; exact L.ext.len
          rcases kind2 h2 with ⟨e, hl⟩ | ⟨e, y, hl⟩
          · have hb : opBox H e (zeroA P e) = some (nx, H1) := by
              have : opA P a.eval o H = opBox H e (zeroA P e) := by simp only [opA, opTable, hl, do_alloc]
              rw [← this]; exact hopA
            exact key e _ hb (by rw [hl]; rfl) (fun x hx => by rw [hl]; simp only [boxCells, hx]) (fun x v hx => .inl ⟨hl, hx⟩)
          · have hb : opBox H e (a.eval y) = some (nx, H1) := by
              have : opA P a.eval o H = opBox H e (a.eval y) := by simp only [opA, opTable, hl, do_box]
              rw [← this]; exact hopA
            exact key e _ hb (by rw [hl]; rfl) (fun x hx => by rw [hl]; simp only [boxCells, hx]) (fun x v hx => .inr ⟨y, hl, (heput v y (by rw [hl]; simp [Op.operands])).trans hx⟩)
  · rename_i hw
    simp only [stepPut, Option.some.injEq, AStep.go.injEq] at hst
    obtain ⟨rfl, rfl⟩ := hst
    refine ⟨m, fun k => if k = i then none else ids k, L.more hok ho hid hE hkA (Ext.refl m) L.fits (fun _ _ => rfl) (recsOf_sub i o) (fun j hj => by simp [hj]) (fun b hb => by simp at hb) ?_⟩
    exact .inl ⟨(hwput _).trans hw, hdput _⟩
  · cases hst

/-- both go on -/
theorem Lag.both (L : Lag P ops w0 m0 N don a H rs ids listed m act w) (hok : okTmps ops = true) {i : Nat} {o : Oper} (ho : ops[i]? = some o) (hd : okDst N o = true) (hid : i ∉ don) (hS : ∀ j ∈ edgesAt ops i, listed[j]? = some true) {m' : Map} {w' : World} {v : AV} {v' : Value} {ds : List (FuncId × List AV × List AV)} {ds' : List Deferred}
    (he : Ext m m') (F' : Fits w0 m' H' w') (hv : Rel m' v v') (hds : RelD m' ds ds') (hrec : allRec (recOk P ops i ((⟨a.tmps, ds ++ a.defers⟩ : AAct).put o.dst v) H') rs = true) :
    Lag P ops w0 m0 N (i :: don) ((⟨a.tmps, ds ++ a.defers⟩ : AAct).put o.dst v) H' rs ids (listed.setIfInBounds i true) m' (({ act with defers := ds' ++ act.defers } : Act).put o.dst v') w' := by
  have hi : i < ops.size := (Array.getElem?_eq_some_iff.1 ho).1
  have hil : i < listed.size := by rw [L.size]; exact hi
  have not : ∀ {k}, (listed.setIfInBounds i true)[k]? ≠ some true → k ≠ i ∧ listed[k]? ≠ some true := fun h => ⟨fun e => h ((set_listed hil).2 (.inl e)), fun e => h ((set_listed hil).2 (.inr e))⟩
  have hcl : ∀ k, (listed.setIfInBounds i true)[k]? = some true → ∀ j ∈ edgesAt ops k, (listed.setIfInBounds i true)[j]? = some true := fun k hk j hj => by
    rcases (set_listed hil).1 hk with rfl | hk
    · exact (set_listed hil).2 (.inr (hS j hj))
    · exact (set_listed hil).2 (.inr (L.closedS k hk j hj))
  exact {
    size := by simp [L.size]
    sub := fun k hk => by
      rcases (set_listed hil).1 hk with rfl | hk
      · simp
      · exact List.mem_cons_of_mem _ (L.sub k hk)
    lt := fun k hk => by
      rcases List.mem_cons.1 hk with rfl | hk
      · exact hi
      · exact L.lt k hk
    closedS := hcl
    ord := .cons (fun j hj => L.sub j (hS j hj)) hid L.ord
    kind := fun k hk h => by
      obtain ⟨h1, h2⟩ := not h
      rcases List.mem_cons.1 hk with rfl | hk
      · exact absurd rfl h1
      · exact L.kind k hk h2
    fits := F'
    ext := L.ext.trans he
    asize := by rw [put_size]; exact L.asize
    slots := fun t => by
      by_cases hdt : o.dst = some t
      · right
        exact put_slot (a := ⟨a.tmps, ds ++ a.defers⟩) (act := { act with defers := ds' ++ act.defers }) L.asize (fun s hs => by
          simp only [okDst, hs] at hd
          exact Nat.le_of_ble_eq_true hd) hv (fun h => absurd hdt h)
      · rcases L.slots t with ⟨k, h1, h2, h3⟩ | h
        · left
          refine ⟨k, List.mem_cons_of_mem _ h1, fun h => ?_, h3⟩
          rcases (set_listed hil).1 h with rfl | h
          · exact hid h1
          · exact h2 h
        · right
          exact put_slot (a := ⟨a.tmps, ds ++ a.defers⟩) (act := { act with defers := ds' ++ act.defers }) L.asize (fun s hs => by
            simp only [okDst, hs] at hd
            exact Nat.le_of_ble_eq_true hd) hv (fun _ => h.mono he.le)
    defers := by rw [put_defersA, put_defersV]; exact hds.append (L.defers.mono he.le)
    pend := fun k hk' hkl o' ho' => by
      obtain ⟨hki, hkl'⟩ := not hkl
      rcases List.mem_cons.1 hk' with rfl | hk'
      · exact absurd rfl hki
      · have hap : ∀ t, o.dst = some t → t ∉ readsAt ops k ∧ dstAt ops k ≠ some t := fun t ht => L.apart hok hi hid hk' hkl' (.inr hS) (by rw [dst_of ho]; exact ht)
        have hput : ∀ t, o.dst ≠ some t → ((⟨a.tmps, ds ++ a.defers⟩ : AAct).put o.dst v).tmps.get t = a.tmps.get t := fun t ht => get_put_slot (a := ⟨a.tmps, ds ++ a.defers⟩) ht
        have hdst : ∀ d, o'.dst = some d → ((⟨a.tmps, ds ++ a.defers⟩ : AAct).put o.dst v).tmps.get d = a.tmps.get d := fun d hd => hput d fun e => (hap d e).2 (by rw [dst_of ho']; exact hd)
        -- what the check says
        have hck : ∀ r ∈ rs, r.i = k → r.o = o' → (match isRead r.o.op with
            | true => sameO (valOf (opA P ((⟨a.tmps, ds ++ a.defers⟩ : AAct).put o.dst v).eval r.o H')) (tmpO ((⟨a.tmps, ds ++ a.defers⟩ : AAct).put o.dst v) r.o.dst)
            | false => match H'.get r.id with
              | some (.row n t e) => Nat.beq n r.cells.length && Nat.beq e r.e && sameLO (t.take 0 n) r.cells
              | _ => false) = true := by
          intro r hr h1 h2
          have := allRec_mem rs hrec r hr
          simp only [recOk, Bool.or_eq_true] at this
          rcases this with h | h
          · exfalso
            refine hkl (ancOf_closed (S := fun k => (listed.setIfInBounds i true)[k]? = some true) hcl ops.size i k ((set_listed hil).2 (.inl rfl)) (h1 ▸ h))
          · exact h
        refine (L.pend k hk' hkl' o' ho').keep ho' (fun t ht => hput t fun e => (hap t e).1 ht) hdst ?_ ?_ (fun id _ h => he.virt id h) (fun _ h => h) rfl
        · intro u r hl hold hval hnew hr h1 h2
          have := hck r hr h1 h2
          rw [h2, hl] at this
          simp only at this
          cases hop : opA P ((⟨a.tmps, ds ++ a.defers⟩ : AAct).put o.dst v).eval o' H' with
          | none => rw [hop] at this; simp [valOf, sameO] at this
          | some p =>
            obtain ⟨nx, H2⟩ := p
            obtain ⟨v2, rfl, rfl, _⟩ := read_out hl hop
            rw [hop] at this
            simp only [valOf] at this
            cases hd' : o'.dst with
            | none => rw [hd'] at this; simp [tmpO, sameO] at this
            | some d =>
              rw [hd'] at this
              simp only [tmpO] at this
              rw [hdst d hd', hval d hd'] at this
              simp only [sameO] at this
              rw [AV.same_eq _ _ this]
        · intro id n t e l r hrow hn hget hids hr h1 h2 h3 h4 h5 hshape
          have := hck r hr h1 h2
          have hres : (match H'.get r.id with
              | some (.row n t e) => Nat.beq n r.cells.length && Nat.beq e r.e && sameLO (t.take 0 n) r.cells
              | _ => false) = true := by
            rcases hshape with ⟨e2, hl⟩ | ⟨e2, y, hl⟩
            · rw [h2, hl] at this; exact this
            · rw [h2, hl] at this; exact this
          rw [h3, h4, h5] at hres
          split at hres
          · rename_i n2 t2 e2 hrow2
            simp only [Bool.and_eq_true] at hres
            obtain ⟨⟨hn2, he2⟩, hs⟩ := hres
            have hn2 : n2 = l.length := Nat.eq_of_beq_eq_true hn2
            have he2 : e2 = e := Nat.eq_of_beq_eq_true he2
            subst he2
            cases htk : t2.take 0 n2 with
            | none => rw [htk] at hs; simp [sameLO] at hs
            | some l2 =>
              rw [htk] at hs
              simp only [sameLO] at hs
              have := AV.sameL_eq _ _ hs
              subst this
              obtain ⟨_, hg⟩ := T.take_some t2 n2 0 l2 htk
              refine ⟨t2, by rw [hrow2, hn, hn2], fun q hq => ?_⟩
              have := hg q (by omega)
              rwa [Nat.zero_add] at this
          · cases hres
    inj := L.inj
    idlt := fun k b hk => ⟨List.mem_cons_of_mem _ (L.idlt k b hk).1, Nat.lt_of_lt_of_le (L.idlt k b hk).2 he.len⟩ }
/-- an operation that has an effect: both do it at once -/
theorem Lag.effect (hc : CallOK P w0 call) (L : Lag P ops w0 m0 N don a H rs ids listed m act w) (hok : okTmps ops = true) {i : Nat} {o : Oper} (ho : ops[i]? = some o) (hd : okDst N o = true) (hid : i ∉ don) (hS : ∀ j ∈ edgesAt ops i, listed[j]? = some true) (hst : stepA P call ops o a H = some (.go a' H')) (hrec : allRec (recOk P ops i a' H') rs = true)
    {K : Act → World → Prop} {Q : Exit → Act → World → Prop} (hK : ∀ m' act' w', Lag P ops w0 m0 N (i :: don) a' H' rs ids (listed.setIfInBounds i true) m' act' w' → K act' w') : wpOp P ops Q i K act w := by
  have hi : i < ops.size := (Array.getElem?_eq_some_iff.1 ho).1
  have hsl := L.reads hok hi hS
  rw [reads_of ho] at hsl
  have hop : ∀ x ∈ o.op.operands.toList, ∀ v, a.eval x = some v → Rel m v (act.eval x) := fun x hx v hv => eval_ok (fun t e => hsl t (List.mem_append_right _ (mem_tmps (e ▸ hx)))) v hv
  have hwant : ∀ b, wantedT ops a.tmps.get o.guard = some b → Region.wanted o (yielded ops act.tmps) = b := fun b h => wanted_ok (fun t ht => hsl t (List.mem_append_left _ ht)) h
  unfold wpOp
  simp only [ho]
  unfold stepA at hst
  split at hst
  · rename_i hw
    rw [hwant _ hw]
    simp only [if_true]
    cases hopA : opA P a.eval o H with
    | none => rw [hopA] at hst; cases hst
    | some p =>
      obtain ⟨nx, H1⟩ := p
      rw [hopA] at hst
      refine .inl (upon_ok hc (opA_ok L.fits o hop hopA) hst ?_ (fun v h' e => by cases e))
      intro a2 h2 e m' w' v v' ds ds' he F' hv e2 hds
      cases e
      subst e2
      exact hK m' _ w' (L.both hok ho hd hid hS he F' hv hds hrec)
  · rename_i hw
    rw [hwant _ hw]
    simp only [Bool.false_eq_true, if_false]
    simp only [stepPut, Option.some.injEq, AStep.go.injEq] at hst
    obtain ⟨rfl, rfl⟩ := hst
    exact hK m _ w (L.both hok ho hd hid hS (Ext.refl m) L.fits (v := .tup []) (v' := undef) (ds := []) (ds' := []) (.tup .nil) .nil hrec)
  · cases hst

theorem kindOf_le (P : Program) (o : Op) : kindOf P o ≤ 3 := by
  cases o
  case convert =>
    simp only [kindOf]
    split
    · omega
    · omega
    · split <;> omega
  case slice =>
    simp only [kindOf]
    split <;> omega
  case binOp =>
    simp only [kindOf]
    split
    · omega
    · split <;> omega
  case call =>
    simp only [kindOf]
    split
    · split <;> omega
    · omega
    · omega
    · omega
  all_goals (simp only [kindOf]; try omega)
theorem kindX_le (P : Program) (ops : Array Oper) (i : Nat) (o : Op) : kindX P ops i o ≤ 3 := by
  unfold kindX
  split
  · omega
  · exact kindOf_le P o

/-- what the plan says of its next operation -/
theorem okPlan_cons {i : Nat} {l : List Nat} (h : okPlan P ops don (i :: l) = true) : i < ops.size ∧ i ∉ don ∧ (∀ j ∈ edgesAt ops i, j ∈ don) ∧ (kindAt P ops i < 3 ∨ ∀ j, j < ops.size → j ∉ don → (∀ k ∈ edgesAt ops j, k ∈ don) → j = i) ∧ okPlan P ops (i :: don) l = true := by
  simp only [okPlan, Bool.and_eq_true, Bool.or_eq_true, Bool.not_eq_true'] at h
  obtain ⟨⟨⟨⟨h1, h2⟩, h3⟩, h4⟩, h5⟩ := h
  refine ⟨Nat.le_of_ble_eq_true h1, fun hm => (by rw [memB_iff.2 hm] at h2; cases h2), subB_iff.1 h3, ?_, h5⟩
  rcases h4 with h4 | h4
  · exact .inl (Nat.le_of_ble_eq_true h4)
  · right
    intro j hj hjd hje
    have := allB_iff.1 h4 j (List.mem_range.2 hj)
    simp only [onlyB, Bool.or_eq_true, Bool.not_eq_true'] at this
    rcases this with (h | h) | h
    · exact absurd (memB_iff.1 h) hjd
    · rw [subB_iff.2 hje] at h; cases h
    · exact Nat.eq_of_beq_eq_true h
theorem dGo_cons {i : Nat} {l : List Nat} {R : AExit × AAct × AHeap} (h : dGo P call ops (i :: l) a H rs = some R) : ∃ o a' h', ops[i]? = some o ∧ stepA P call ops o a H = some (.go a' h') ∧
    ((kindX P ops i o.op < 3 ∧ dGo P call ops l a' h' (recsOf P ops a H i o rs) = some R) ∨ (kindX P ops i o.op = 3 ∧ allRec (recOk P ops i a' h') rs = true ∧ dGo P call ops l a' h' rs = some R)) := by
  simp only [dGo] at h
  split at h
  · cases h
  · rename_i o ho
    split at h
    · rename_i a' h' hst
      refine ⟨o, a', h', ho, hst, ?_⟩
      split at h
      · rename_i hk
        left
        refine ⟨by omega, ?_⟩
        simp only [recsOf, hk]
        exact h
      · rename_i hk
        right
        split at h
        · rename_i hc
          exact ⟨hk, hc, h⟩
        · cases h
      · rename_i hk0 hk3
        left
        have hle := kindX_le P ops i o.op
        refine ⟨by
          rcases Nat.lt_or_ge (kindX P ops i o.op) 3 with h3 | h3
          · exact h3
          · exact absurd (by omega) hk3, ?_⟩
        have e : recsOf P ops a H i o rs = (match wantedT ops a.tmps.get o.guard with
            | some true => ⟨i, o, H.next, boxType o.op, boxCells P a o.op⟩ :: rs
            | _ => rs) := by
          unfold recsOf
          split
          · rename_i hk; exact absurd hk hk0
          · rfl
        rw [e]
        split at h
        · rename_i hw
          simp only [hw]; exact h
        · rename_i hw
          split
          · rename_i hw2; exact absurd hw2 hw
          · exact h
    · cases h

/-- an operation that is ready: the plan goes on up to it, and the world does it -/
theorem Lag.walk (hc : CallOK P w0 call) (hok : okTmps ops = true) (hN : ∀ o ∈ ops.toList, okDst N o = true) {R : AExit × AAct × AHeap} {i : Nat} (hi : i < ops.size) {K : Act → World → Prop} {Q : Exit → Act → World → Prop} : ∀ (l don : List Nat) (a : AAct) (H : AHeap) (rs : List Rec) (ids : Nat → Option Nat) (m : Map),
    Lag P ops w0 m0 N don a H rs ids listed m act w → listed[i]? ≠ some true → (∀ j ∈ edgesAt ops i, listed[j]? = some true) → okPlan P ops don l = true → dGo P call ops l a H rs = some R →
    (∀ don' l' a' H' rs' ids' m' act' w', Lag P ops w0 m0 N don' a' H' rs' ids' (listed.setIfInBounds i true) m' act' w' → okPlan P ops don' l' = true → dGo P call ops l' a' H' rs' = some R → K act' w') → wpOp P ops Q i K act w := by
  have ho : ops[i]? = some ops[i] := Array.getElem?_eq_getElem hi
  have mem : ∀ {k : Nat} {o : Oper}, ops[k]? = some o → okDst N o = true := fun h => hN _ (by
    have := Array.getElem?_eq_some_iff.1 h
    obtain ⟨hk, rfl⟩ := this
    simp)
  intro l
  induction l with
  | nil =>
    intro don a H rs ids m L hp hS hplan hgo hK
    have hin : i ∈ don := by
      simp only [okPlan] at hplan
      exact memB_iff.1 (allB_iff.1 hplan i (List.mem_range.2 hi))
    exact L.run hok ho (mem ho) hin hp hS (fun m' act' w' L' => hK don [] a H rs ids m' act' w' L' hplan hgo)
  | cons j l ih =>
    intro don a H rs ids m L hp hS hplan hgo hK
    by_cases hin : i ∈ don
    · exact L.run hok ho (mem ho) hin hp hS (fun m' act' w' L' => hK don (j :: l) a H rs ids m' act' w' L' hplan hgo)
    · obtain ⟨h1, h2, h3, h4, h5⟩ := okPlan_cons hplan
      obtain ⟨o, a', h', hoj, hst, hres⟩ := dGo_cons hgo
      rcases hres with ⟨hk, hgo'⟩ | ⟨hk, hrec, hgo'⟩
      · obtain ⟨m', ids', L'⟩ := L.ahead hok hoj h2 h3 hk hst
        exact ih (j :: don) a' h' _ ids' m' L' hp hS h5 hgo' hK
      · have hij : i = j := by
          rcases h4 with h4 | h4
          · rw [kindAt_of hoj] at h4; omega
          · exact h4 i hi hin (fun k hk => L.sub k (hS k hk))
        subst hij
        exact L.effect hc hok hoj (mem hoj) hin hS hst hrec (fun m' act' w' L' => hK (i :: don) l a' h' rs ids m' act' w' L' h5 hgo')

/-- all of it, in whatever order -/
theorem any_ok (hc : CallOK P w0 call) (hok : okTmps ops = true) (hN : ∀ o ∈ ops.toList, okDst N o = true) {e1 : AExit} {a1 : AAct} {h1 : AHeap} : ∀ (fuel : Nat) (listed : Array Bool) (don l : List Nat) (a : AAct) (H : AHeap) (rs : List Rec) (ids : Nat → Option Nat) (m : Map) (act : Act) (w : World),
    Lag P ops w0 m0 N don a H rs ids listed m act w → okPlan P ops don l = true → dGo P call ops l a H rs = some (e1, a1, h1) → listed.countP (fun b => !b) ≤ fuel → wpAny P .any ops (Post w0 m0 N e1 a1 h1) fuel listed act w := by
  have fin : ∀ (listed : Array Bool) (don l : List Nat) (a : AAct) (H : AHeap) (rs : List Rec) (ids : Nat → Option Nat) (m : Map) (act : Act) (w : World),
      Lag P ops w0 m0 N don a H rs ids listed m act w → okPlan P ops don l = true → dGo P call ops l a H rs = some (e1, a1, h1) → Region.ready .any ops listed = [] → Post w0 m0 N e1 a1 h1 .normal act w := by
    intro listed don l a H rs ids m act w L hplan hgo hr
    have notready : ∀ i, i < ops.size → listed[i]? ≠ some true → (∀ j ∈ edgesAt ops i, listed[j]? = some true) → False := by
      intro i hi hp hS
      have hil : i < listed.size := by rw [L.size]; exact hi
      have : listed[i]? = some false := by
        rw [Array.getElem?_eq_getElem hil] at hp ⊢
        cases hb : listed[i] with
        | true => rw [hb] at hp; exact absurd rfl hp
        | false => rfl
      have := (ready_iff (ops := ops) L.size).2 ⟨hi, this, hS⟩
      rw [hr] at this
      simp at this
    have alld : ∀ i ∈ don, listed[i]? = some true := by
      intro i hi
      apply Classical.byContradiction
      intro hn
      obtain ⟨k, h1, h2, h3⟩ := L.ord.first (S := fun k => listed[k]? = some true) ⟨i, hi, hn⟩
      exact notready k (L.lt k h1) h2 h3
    cases l with
    | cons j l =>
      obtain ⟨h1, h2, h3, _, _⟩ := okPlan_cons hplan
      exact (notready j h1 (fun h => h2 (L.sub j h)) (fun k hk => alld k (h3 k hk))).elim
    | nil =>
      simp only [dGo, Option.some.injEq, Prod.mk.injEq] at hgo
      obtain ⟨rfl, rfl, rfl⟩ := hgo
      refine ⟨m, L.ext, ⟨L.asize, fun t => ?_, L.defers⟩, L.fits, .normal⟩
      rcases L.slots t with ⟨k, h1, h2, _⟩ | h
      · exact absurd (alld k h1) h2
      · exact h
  intro fuel
  induction fuel with
  | zero =>
    intro listed don l a H rs ids m act w L hplan hgo hcnt
    have hr : Region.ready .any ops listed = [] := by
      apply List.eq_nil_iff_forall_not_mem.2
      intro i hi
      obtain ⟨_, h2, _⟩ := (ready_iff L.size).1 hi
      have : 0 < listed.countP (fun b => !b) := by
        rw [Array.countP_pos_iff]
        exact ⟨false, Array.mem_of_getElem? h2, rfl⟩
      omega
    exact ⟨hr, fin listed don l a H rs ids m act w L hplan hgo hr⟩
  | succ fuel ih =>
    intro listed don l a H rs ids m act w L hplan hgo hcnt
    refine ⟨fun hr => fin listed don l a H rs ids m act w L hplan hgo hr, fun i hi => ?_⟩
    obtain ⟨h1, h2, h3⟩ := (ready_iff L.size).1 hi
    refine Lag.walk hc hok hN h1 l don a H rs ids m L (by rw [h2]; simp) h3 hplan hgo ?_
    intro don' l' a' H' rs' ids' m' act' w' L' hplan' hgo'
    refine ih _ don' l' a' H' rs' ids' m' act' w' L' hplan' hgo' ?_
    have hil : i < listed.size := by rw [L.size]; exact h1
    have hli : listed[i] = false := by
      have := Array.getElem?_eq_getElem hil
      rw [h2] at this
      simpa using this.symm
    have hset : listed.setIfInBounds i true = listed.set i true hil := by simp [Array.setIfInBounds, hil]
    rw [hset, Array.countP_set]
    simp only [hli]
    have : 0 < listed.countP (fun b => !b) := by
      rw [Array.countP_pos_iff]
      exact ⟨false, Array.mem_of_getElem? h2, rfl⟩
    simp
    omega
/-- a region whose order is open -/
theorem draw_ok (hm : P.follows .mixedOrders = true) (hc : CallOK P w0 call) {N : Nat} (hN : ∀ o ∈ ops.toList, okDst N o = true) {e1 : AExit} {a1 : AAct} {h1 : AHeap} {id : Nat} (ha : RelAct m N a act) (F : Fits w0 m H w) (h : aDraw P call ops a H = some (e1, a1, h1)) : (Code.region id ops true).wp P (Post w0 m N e1 a1 h1) act w := by
  unfold aDraw at h
  split at h
  · rename_i p hp
    unfold planOf at hp
    split at hp
    · rename_i hc'
      simp only [Bool.and_eq_true] at hc'
      simp only [Option.some.injEq] at hp
      subst hp
      refine wp_region_any hm (any_ok hc hc'.1 hN ops.size _ [] _ a H [] (fun _ => none) m act _ ?_ hc'.2 h (by simp [Array.countP_replicate]))
      have no : ∀ i : Nat, (Array.replicate ops.size false)[i]? ≠ some true := by
        intro i hi
        rw [Array.getElem?_replicate] at hi
        split at hi <;> cases hi
      exact {
        size := by simp
        sub := fun i h => (no i h).elim
        lt := fun i h => by simp at h
        closedS := fun i h => (no i h).elim
        ord := .nil
        kind := fun i h => by simp at h
        fits := F.drew
        ext := Ext.refl m
        asize := ha.size
        slots := fun t => .inr (ha.tmps t)
        defers := ha.defers
        pend := fun i h => by simp at h
        inj := fun _ _ _ h => by cases h
        idlt := fun _ _ h => by cases h }
    · cases hp
  · cases h
end

end
end Go.Proofs.Ytpnccmlajhhpdaa.Abs
