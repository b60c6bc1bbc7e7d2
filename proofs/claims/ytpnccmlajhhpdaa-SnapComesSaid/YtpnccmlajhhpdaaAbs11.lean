/- Frames; one operation, and operations one behind the other. -/
import Derived.Test.YtpnccmlajhhpdaaAbs10
namespace Go.Proofs.Ytpnccmlajhhpdaa.Abs
noncomputable section

section
variable {P : Program} {m : Map} {w0 : Base} {w : World} {H H' : AHeap} {nx : ANext}

inductive RelD (m : Map) : List (FuncId × List AV × List AV) → List Deferred → Prop
  | nil : RelD m [] []
  | cons {f : FuncId} {args cap : List AV} {args' cap' : List Value} {l : List (FuncId × List AV × List AV)} {l' : List Deferred} (h : RelL m args args') (k : RelL m cap cap') (r : RelD m l l') :
    RelD m ((f, args, cap) :: l) ({ target := .fn (.func f) ⟨cap'⟩, args := ⟨args'⟩ } :: l')
  | mark {b g : Nat} {l : List (FuncId × List AV × List AV)} {l' : List Deferred} (h : m[b]? = some (some (g, 0, 0))) (r : RelD m l l') : RelD m ((0, [], [.mrk b]) :: l) ({ target := .collected g, args := #[] } :: l')
theorem RelD.mono {m m' : Map} (hm : Map.le m m') {l : List (FuncId × List AV × List AV)} {l' : List Deferred} (h : RelD m l l') : RelD m' l l' := by
  induction h with
  | nil => exact .nil
  | cons h k _ ih => exact .cons (h.mono hm) (k.mono hm) ih
  | mark h _ ih => exact .mark (hm _ _ h) ih
theorem RelD.append {l k : List (FuncId × List AV × List AV)} {l' k' : List Deferred} (h : RelD m l l') (g : RelD m k k') : RelD m (l ++ k) (l' ++ k') := by
  induction h with
  | nil => exact g
  | cons h k _ ih => exact .cons h k ih
  | mark h _ ih => exact .mark h ih

/-- a slot of a frame -/
def Slot (m : Map) (a : AAct) (act : Act) (t : Nat) : Prop := ∀ v, a.tmps.get t = some v → ∃ v', act.tmps[t]? = some v' ∧ Rel m v v'
structure RelAct (m : Map) (N : Nat) (a : AAct) (act : Act) : Prop where
  size : act.tmps.size = N
  tmps : ∀ t, Slot m a act t
  defers : RelD m a.defers act.defers
theorem Slot.mono {m m' : Map} (hm : Map.le m m') {a : AAct} {act : Act} {t : Nat} (h : Slot m a act t) : Slot m' a act t := fun v hv => by
  obtain ⟨v', h1, h2⟩ := h v hv
  exact ⟨v', h1, h2.mono hm⟩
theorem RelAct.mono {m m' : Map} (hm : Map.le m m') {N : Nat} {a : AAct} {act : Act} (h : RelAct m N a act) : RelAct m' N a act := ⟨h.size, fun t => (h.tmps t).mono hm, h.defers.mono hm⟩
theorem eval_ok {a : AAct} {act : Act} {x : Operand} (hs : ∀ t, x = .tmp t → Slot m a act t) : ∀ v, a.eval x = some v → Rel m v (act.eval x) := by
  intro v hv
  cases x with
  | tmp t =>
    obtain ⟨v', h1, h2⟩ := hs t rfl v hv
    simp only [Act.eval, Array.getD_eq_getD_getElem?, h1, Option.getD_some]
    exact h2
  | const c => exact ofVal_rel m c v hv
  | global g =>
    simp only [AAct.eval, Option.some.injEq] at hv; subst hv
    exact .gptr g 0
  | func f =>
    simp only [AAct.eval, Option.some.injEq] at hv; subst hv
    exact .fn .nil .nil
theorem mem_tmps {t : Nat} : ∀ {l : List Operand}, Operand.tmp t ∈ l → t ∈ tmpsOf l
  | x :: l, h => by
    rcases List.mem_cons.1 h with rfl | h
    · simp [tmpsOf]
    · have := mem_tmps h
      cases x <;> simp [tmpsOf, this]
theorem rel_notbool {v : AV} {b : Bool} (h : Rel m v (.bool b)) : v = .bool b := by cases h; rfl
theorem wanted_ok {ops : Array Oper} {a : AAct} {act : Act} {o : Oper} {b : Bool} (hs : ∀ t ∈ guardTmp ops o.guard, Slot m a act t) (h : wantedT ops a.tmps.get o.guard = some b) : Region.wanted o (yielded ops act.tmps) = b := by
  unfold wantedT at h
  unfold Region.wanted
  split at h
  · rename_i hg
    rw [hg]
    simpa using h
  · rename_i j want hg
    rw [hg] at hs ⊢
    simp only [yielded]
    split at h
    · rename_i o' ho'
      split at h
      · rename_i d hd
        have hdst : dstAt ops j = some d := by simp [dstAt, ho', hd]
        have hslot := hs d (by simp [guardTmp, hdst])
        split at h
        · rename_i b' hb'
          obtain ⟨v', h1, h2⟩ := hslot _ hb'
          have := rel_bool h2; subst this
          simp only [Option.some.injEq] at h
          simp [ho', hd, h1, ← h]
        · rename_i v hnb hv
          obtain ⟨v', h1, h2⟩ := hslot _ hv
          simp only [Option.some.injEq] at h; subst h
          simp only [ho', Option.bind_some, hd, h1]
          split
          · rename_i b' e
            cases e
            exact absurd (rel_notbool h2) (hnb b')
          · rfl
        · cases h
      · rename_i hd
        simp only [Option.some.injEq] at h; subst h
        simp [ho', hd]
    · rename_i ho'
      simp only [Option.some.injEq] at h; subst h
      simp [ho']

/-! ### what a call comes to -/
def RetOK (w0 : Base) (m : Map) (h' : AHeap) (r : ARes) (e : Ending) (w' : World) : Prop := ∃ m', Ext m m' ∧ Fits w0 m' h' w' ∧ match r with
  | .ret v => ∃ v', e = .returned v' ∧ Rel m' v v'
  | .panic v => ∃ v', e = .panicked [{ v := v', recovered := false }] ∧ Rel m' v v'
def CallOK (P : Program) (w0 : Base) (call : CallF) : Prop := ∀ (f : FuncId) (args : List AV) (h : AHeap) (r : ARes) (h' : AHeap), call f args h = some (r, h') →
  ∀ (m : Map) (w : World) (args' : List Value), RelL m args args' → Fits w0 m h w → Calls P f ⟨args'⟩ w (RetOK w0 m h' r)

/-- one operation that is wanted: how it goes on -/
theorem upon_ok {call : CallF} (hc : CallOK P w0 call) {a : AAct} {act : Act} {o : Oper} {st : AStep} {r : Result Next} {K : Act → World → Prop} {Q : Exit → Act → World → Prop}
    (hp : OpPost w0 m H' nx r) (h : stepOut call a o.dst (some (nx, H')) = some st)
    (hgo : ∀ (a' : AAct) (h' : AHeap), st = .go a' h' → ∀ (m' : Map) (w' : World) (v : AV) (v' : Value) (ds : List (FuncId × List AV × List AV)) (ds' : List Deferred), Ext m m' → Fits w0 m' h' w' → Rel m' v v' → a' = (⟨a.tmps, ds ++ a.defers⟩ : AAct).put o.dst v → RelD m' ds ds' →
      K (({ act with defers := ds' ++ act.defers } : Act).put o.dst v') w')
    (hpn : ∀ (v : AV) (h' : AHeap), st = .panic v h' → ∀ (m' : Map) (w' : World) (v' : Value), Ext m m' → Fits w0 m' h' w' → Rel m' v v' → Q (.panic [{ v := v', recovered := false }]) act w') :
    o.upon P act K Q r := by
  obtain ⟨m', w', he, F, ho⟩ := hp
  unfold stepOut at h
  split at h
  · rename_i e
    cases e
    obtain ⟨v', rfl, hv⟩ := ho
    simp only [stepPut, Option.some.injEq] at h
    exact hgo _ _ h.symm m' w' _ v' [] [] he F hv rfl .nil
  · rename_i e
    cases e
    simp only [OutRel] at ho; subst ho
    simp only [stepPut, Option.some.injEq] at h
    exact hgo _ _ h.symm m' w' _ _ [] [] he F (.tup .nil) rfl .nil
  · rename_i f args h1 e
    cases e
    obtain ⟨args', rfl, hr⟩ := ho
    unfold stepRes at h
    split at h
    · rename_i v h2 hcall
      refine Calls.mono (hc _ _ _ _ _ hcall m' w' args' hr F) ?_
      rintro e w'' ⟨m'', he2, F2, v', rfl, hv⟩
      simp only [stepPut, Option.some.injEq] at h
      exact hgo _ _ h.symm m'' w'' _ v' [] [] (he.trans he2) F2 hv rfl .nil
    · rename_i v h2 hcall
      refine Calls.mono (hc _ _ _ _ _ hcall m' w' args' hr F) ?_
      rintro e w'' ⟨m'', he2, F2, v', rfl, hv⟩
      simp only [Option.some.injEq] at h
      exact hpn _ _ h.symm m'' w'' v' (he.trans he2) F2 hv
    · cases h
  · rename_i v h1 e
    cases e
    obtain ⟨v', rfl, hv⟩ := ho
    simp only [Option.some.injEq] at h
    exact hpn _ _ h.symm m' w' v' he F hv
  · rename_i f args cap h1 e
    cases e
    obtain ⟨args', cap', rfl, hr, hr2⟩ := ho
    simp only [stepPut, Option.some.injEq] at h
    exact hgo _ _ h.symm m' w' _ _ [(f, args, cap)] [_] he F (.tup .nil) rfl (.cons hr hr2 .nil)
  · cases h
  · cases h

theorem put_slot {a : AAct} {act : Act} {d : Option Tmp} {v : AV} {v' : Value} {N : Nat} (hN : act.tmps.size = N) (hd : ∀ t, d = some t → t < N) (hv : Rel m v v') {t : Nat} (h : d ≠ some t → Slot m a act t) : Slot m (a.put d v) (act.put d v') t := by
  intro u hu
  cases d with
  | none => exact h (by simp) u hu
  | some s =>
    by_cases e : s = t
    · subst e
      simp only [AAct.put, T.get_set_same, Option.some.injEq] at hu; subst hu
      have := hd s rfl
      exact ⟨v', by simp [Act.put, hN, this], hv⟩
    · simp only [AAct.put, T.get_set_other _ _ e] at hu
      obtain ⟨v2, h1, h2⟩ := h (by simp; exact e) u hu
      exact ⟨v2, by simp only [Act.put]; rw [Array.getElem?_setIfInBounds_ne e]; exact h1, h2⟩
theorem put_size {act : Act} (d : Option Tmp) (v : Value) : (act.put d v).tmps.size = act.tmps.size := by cases d <;> simp [Act.put]
theorem put_defersA (a : AAct) (d : Option Tmp) (v : AV) : (a.put d v).defers = a.defers := by cases d <;> rfl
theorem put_defersV (a : Act) (d : Option Tmp) (v : Value) : (a.put d v).defers = a.defers := by cases d <;> rfl
theorem RelAct.put {N : Nat} {a : AAct} {act : Act} (h : RelAct m N a act) {d : Option Tmp} (hd : ∀ t, d = some t → t < N) {v : AV} {v' : Value} (hv : Rel m v v') {ds : List (FuncId × List AV × List AV)} {ds' : List Deferred} (hds : RelD m ds ds') :
    RelAct m N ((⟨a.tmps, ds ++ a.defers⟩ : AAct).put d v) (({ act with defers := ds' ++ act.defers } : Act).put d v') where
  size := by rw [put_size]; exact h.size
  tmps t := put_slot (a := ⟨a.tmps, ds ++ a.defers⟩) (act := { act with defers := ds' ++ act.defers }) h.size hd hv (fun _ => h.tmps t)
  defers := by rw [put_defersA, put_defersV]; exact hds.append h.defers

inductive RelExit (m : Map) : AExit → Exit → Prop
  | normal : RelExit m .normal .normal
  | exit (id : Nat) : RelExit m (.exit id) (.exit id)
  | goto (l : Nat) : RelExit m (.goto l) (.goto l)
  | ret : RelExit m .ret .ret
  | panic {v : AV} {v' : Value} (h : Rel m v v') : RelExit m (.panic v) (.panic [{ v := v', recovered := false }])
/-- what code comes to -/
def Post (w0 : Base) (m : Map) (N : Nat) (e : AExit) (a : AAct) (h : AHeap) (e' : Exit) (act : Act) (w : World) : Prop := ∃ m', Ext m m' ∧ RelAct m' N a act ∧ Fits w0 m' h w ∧ RelExit m' e e'
theorem Post.ext {m m1 : Map} (hm : Ext m m1) {N : Nat} {e : AExit} {a : AAct} {h : AHeap} {e' : Exit} {act : Act} {w : World} (hp : Post w0 m1 N e a h e' act w) : Post w0 m N e a h e' act w := by
  obtain ⟨m', h1, h2⟩ := hp
  exact ⟨m', hm.trans h1, h2⟩

theorem step_ok {call : CallF} (hc : CallOK P w0 call) {N : Nat} {ops : Array Oper} {o : Oper} {a : AAct} {act : Act} {st : AStep} {K : Act → World → Prop} {Q : Exit → Act → World → Prop} (ha : RelAct m N a act) (F : Fits w0 m H w) (hd : okDst N o = true)
    (h : stepA P call ops o a H = some st)
    (hgo : ∀ (a' : AAct) (h' : AHeap), st = .go a' h' → ∀ (m' : Map) (act' : Act) (w' : World), Ext m m' → RelAct m' N a' act' → Fits w0 m' h' w' → K act' w')
    (hpn : ∀ (v : AV) (h' : AHeap), st = .panic v h' → ∀ (m' : Map) (w' : World) (v' : Value), Ext m m' → Fits w0 m' h' w' → Rel m' v v' → Q (.panic [{ v := v', recovered := false }]) act w') :
    if Region.wanted o (yielded ops act.tmps) then o.wp P act w K Q ∨ (o.asks P act w ∧ LetsOut Q) else K (act.put o.dst undef) w := by
  have hd' : ∀ t, o.dst = some t → t < N := by
    intro t ht
    simp only [okDst, ht] at hd
    exact Nat.le_of_ble_eq_true hd
  unfold stepA at h
  split at h
  · rename_i hw
    rw [wanted_ok (fun t _ => ha.tmps t) hw]
    simp only [if_true]
    cases hop : opA P a.eval o H with
    | none => rw [hop] at h; cases h
    | some p =>
      obtain ⟨nx, H1⟩ := p
      rw [hop] at h
      refine .inl (upon_ok hc (opA_ok F o (fun x _ v hv => eval_ok (fun t _ => ha.tmps t) v hv) hop) h ?_ hpn)
      intro a' h' e m' w' v v' ds ds' he F' hv e2 hds
      subst e2
      exact hgo _ h' e m' _ w' he ((ha.mono he.le).put hd' hv hds) F'
  · rename_i hw
    rw [wanted_ok (fun t _ => ha.tmps t) hw]
    simp only [Bool.false_eq_true, if_false]
    simp only [stepPut, Option.some.injEq] at h
    exact hgo _ _ h.symm m _ w (Ext.refl m) (ha.put hd' (v := .tup []) (v' := undef) (.tup .nil) .nil) F
  · cases h

theorem okOps_mem {N : Nat} : ∀ (l : List Oper), okOps N l = true → ∀ o ∈ l, okDst N o = true := by
  intro l
  induction l with
  | nil => intro _ o ho; simp at ho
  | cons x l ih =>
    intro h o ho
    rw [okOps, Bool.and_eq_true] at h
    rcases List.mem_cons.1 ho with rfl | ho
    · exact h.1
    · exact ih h.2 o ho
/-- operations one behind the other -/
theorem ops_ok {call : CallF} (hc : CallOK P w0 call) {N : Nat} {ops : Array Oper} {e : AExit} {a1 : AAct} {h1 : AHeap} {m0 : Map} : ∀ (l : List Oper), (∀ o ∈ l, okDst N o = true) → ∀ (m : Map) (a : AAct) (act : Act) (H : AHeap) (w : World), Ext m0 m → RelAct m N a act → Fits w0 m H w → aOps P call ops l a H = some (e, a1, h1) →
    wpList P ops (Post w0 m0 N e a1 h1) l act w := by
  intro l
  induction l with
  | nil =>
    intro _ m a act H w hm ha F h
    have h : some (AExit.normal, a, H) = some (e, a1, h1) := h
    simp only [Option.some.injEq, Prod.mk.injEq] at h
    obtain ⟨rfl, rfl, rfl⟩ := h
    exact ⟨m, hm, ha, F, .normal⟩
  | cons o l ih =>
    intro hl m a act H w hm ha F h
    have h : aNext (aOps P call ops l) a (stepA P call ops o a H) = some (e, a1, h1) := h
    cases hst : stepA P call ops o a H with
    | none => rw [hst] at h; cases h
    | some st =>
      rw [hst] at h
      rw [wpList]
      refine step_ok hc ha F (hl o (List.mem_cons_self ..)) hst (fun a' h' e' m' act' w' he ha' F' => ?_) (fun v h' e' m' w' v' he F' hv => ?_)
      · subst e'
        exact ih (fun o ho => hl o (List.mem_cons_of_mem _ ho)) m' a' act' h' w' (hm.trans he) ha' F' h
      · subst e'
        simp only [aNext, Option.some.injEq, Prod.mk.injEq] at h
        obtain ⟨rfl, rfl, rfl⟩ := h
        exact ⟨m', hm.trans he, ha.mono he.le, F', .panic hv⟩
end

end
end Go.Proofs.Ytpnccmlajhhpdaa.Abs
