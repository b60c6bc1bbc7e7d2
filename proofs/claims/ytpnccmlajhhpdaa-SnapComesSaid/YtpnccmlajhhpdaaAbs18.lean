/- Calls, deferred calls, what is recovered: a call comes to what the small machine says. -/
import Derived.Test.YtpnccmlajhhpdaaAbs17
namespace Go.Proofs.Ytpnccmlajhhpdaa.Abs
noncomputable section
open Go.RowKit

section
variable {P : Program} {m : Map} {w0 : Base} {w : World} {lf : Nat} {call : CallF} {H : AHeap}

/-! ### results -/
theorem resA_ok {a : AAct} {act : Act} {h : AHeap} (hs : ∀ t, Slot m a act t) (F : Fits w0 m h w) {r : ResultVar} {v : AV} (hr : resA P a h r = some v) :
    ∃ v', ((match r with
      | .tmp t => pure (act.tmps.getD t undef)
      | .cell a t => do loadVar t (← asAddr (act.tmps.getD a undef)) : Sem Value)).run P w = .ok v' w ∧ Rel m v v' := by
  cases r with
  | tmp t =>
    obtain ⟨v', h1, h2⟩ := hs t v hr
    exact ⟨v', by simp [Array.getD_eq_getD_getElem?, h1], h2⟩
  | cell t ty =>
    simp only [resA] at hr
    split at hr
    · rename_i u H1 hl
      simp only [Option.some.injEq] at hr; subst hr
      obtain ⟨_, b, o, _, _, hx, _, _⟩ := load_out hl
      rcases hx with hx | hx
      · obtain ⟨p, h1, h2⟩ := hs t _ hx
        have := load_ok (P := P) F (x' := p) (fun v hv => by rw [hx] at hv; cases hv; exact h2) hl
        obtain ⟨v, v', e1, _, hrun, hv⟩ := this
        cases e1
        cases h2 with | ptr hm =>
        refine ⟨v', ?_, hv⟩
        rw [← hrun]
        simp [Array.getD_eq_getD_getElem?, h1, asAddr, Instr.loadAt, Instr.sureAddr]
      · obtain ⟨p, h1, h2⟩ := hs t _ hx
        have := load_ok (P := P) F (x' := p) (fun v hv => by rw [hx] at hv; cases hv; exact h2) hl
        obtain ⟨v, v', e1, _, hrun, hv⟩ := this
        cases e1
        cases h2
        refine ⟨v', ?_, hv⟩
        rw [← hrun]
        simp [Array.getD_eq_getD_getElem?, h1, asAddr, Instr.loadAt, Instr.sureAddr]
    · cases hr
theorem resAll_ok {a : AAct} {act : Act} {h : AHeap} (hs : ∀ t, Slot m a act t) (F : Fits w0 m h w) : ∀ (l : List ResultVar) (vs : List AV), resAll P a h l = some vs →
    ∃ vs', (l.mapM (fun r => (match r with
      | .tmp t => pure (act.tmps.getD t undef)
      | .cell a t => do loadVar t (← asAddr (act.tmps.getD a undef)) : Sem Value))).run P w = .ok vs' w ∧ RelL m vs vs' := by
  intro l
  induction l with
  | nil =>
    intro vs h
    simp only [resAll, Option.some.injEq] at h; subst h
    exact ⟨[], by simp, .nil⟩
  | cons r l ih =>
    intro vs h
    simp only [resAll] at h
    split at h
    · rename_i v vs1 h1 h2
      simp only [Option.some.injEq] at h; subst h
      obtain ⟨v', hv1, hv2⟩ := resA_ok hs F h1
      obtain ⟨vs', hs1, hs2⟩ := ih _ h2
      refine ⟨v' :: vs', ?_, .cons hv2 hs2⟩
      rw [List.mapM_cons, Sem.run_bind, hv1, Result.andThen_ok, Sem.run_bind, hs1, Result.andThen_ok, Sem.run_pure]
    · cases h
theorem results_ok {a : AAct} {act : Act} {h h' : AHeap} {fn : Func} {r : ARes} (hs : ∀ t, Slot m a act t) (F : Fits w0 m h w) (hr : retA h (resAll P a h fn.results.toList) = some (r, h')) :
    ∃ v v', r = .ret v ∧ h' = h ∧ (results fn act.tmps).run P w = .ok v' w ∧ Rel m v v' := by
  cases hall : resAll P a h fn.results.toList with
  | none => rw [hall] at hr; cases hr
  | some vs =>
    rw [hall] at hr
    obtain ⟨vs', h1, h2⟩ := resAll_ok hs F _ _ hall
    have hrun : (results fn act.tmps).run P w = .ok (if h : vs'.toArray.size = 1 then vs'.toArray[0] else .tuple vs'.toArray) w := by
      unfold results
      rw [Sem.run_bind, Array.mapM_eq_mapM_toList]
      have fin : ∀ X : Sem (List Value), X.run P w = .ok vs' w → ((List.toArray <$> X).run P w).andThen (fun (vs : Array Value) w' => Sem.run P (pure (if h : vs.size = 1 then vs[0] else Value.tuple vs)) w') = .ok (if h : vs'.toArray.size = 1 then vs'.toArray[0] else .tuple vs'.toArray) w := by
        intro X hX
        simp only [Sem.run_map, hX]
        rfl
      exact fin _ h1
    have hl := h2.length
    unfold retA at hr
    split at hr
    · rename_i v e
      simp only [Option.some.injEq] at e; subst e
      simp only [Option.some.injEq, Prod.mk.injEq] at hr
      obtain ⟨rfl, rfl⟩ := hr
      cases h2 with | cons hv hn =>
      cases hn
      exact ⟨v, _, rfl, rfl, by rw [hrun]; rfl, hv⟩
    · rename_i l hno e
      simp only [Option.some.injEq] at e; subst e
      simp only [Option.some.injEq, Prod.mk.injEq] at hr
      obtain ⟨rfl, rfl⟩ := hr
      refine ⟨_, .tuple vs'.toArray, rfl, rfl, ?_, .tup h2⟩
      rw [hrun]
      have : vs'.toArray.size ≠ 1 := by
        intro h1
        simp only [List.size_toArray] at h1
        rw [h1] at hl
        match vs, hl with
        | [v], _ => exact hno v rfl
      rw [dif_neg this]
    · cases hr

/-! ### deferred functions -/
inductive RelU (m : Map) : Option AV → FrameMode → Prop
  | ret : RelU m none .returning
  | panic {v : AV} {v' : Value} (h : Rel m v v') : RelU m (some v) (.panicking [{ v := v', recovered := false }])
inductive RelR (m : Map) : Option AV → FrameMode → Prop
  | of {u : Option AV} {f : FrameMode} (h : RelU m u f) : RelR m u f
  | done (v' : Value) : RelR m none (.panicking [{ v := v', recovered := true }])
theorem RelU.mono {m m' : Map} (hm : Map.le m m') {u : Option AV} {f : FrameMode} (h : RelU m u f) : RelU m' u f := by
  cases h with
  | ret => exact .ret
  | panic h => exact .panic (h.mono hm)
theorem RelR.mono {m m' : Map} (hm : Map.le m m') {u : Option AV} {f : FrameMode} (h : RelR m u f) : RelR m' u f := by
  cases h with
  | of h => exact .of (h.mono hm)
  | done v => exact .done v
theorem RelR.settle {u : Option AV} {f : FrameMode} (h : RelR m u f) : RelU m u (Go.settle f) := by
  cases h with
  | of h => cases h with
    | ret => exact .ret
    | panic h => exact .panic h
  | done v => exact .ret
theorem RelD.nil_eq {l : List Deferred} (h : RelD m [] l) : l = [] := by cases h; rfl
theorem noCall_ok : CallOK P w0 noCall := fun _ _ _ _ _ h => by cases h
theorem isRecover_ok {o : Op} (h : isRecover o = true) : ∃ c, o = .call c ∧ c.callee = .builtin .recover := by
  unfold isRecover at h
  split at h
  · rename_i c
    split at h
    · rename_i hc
      exact ⟨c, rfl, hc⟩
    · cases h
  · cases h
theorem not_recover {nx : ANext} {r : Result Next} {H' : AHeap} {d : Option Tmp} {a : AAct} {st : AStep} (hp : OpPost w0 m H' nx r) (h : stepOut noCall a d (some (nx, H')) = some st) : ∀ w', r ≠ .ok .recover w' := by
  obtain ⟨m', w', _, _, ho⟩ := hp
  intro w2 e
  subst e
  cases nx with
  | val v => obtain ⟨v', e, _⟩ := ho; cases e
  | skip => cases ho
  | call f args => cases h
  | panic v => obtain ⟨v', e, _⟩ := ho; cases e
  | defer f args cap => obtain ⟨x, y, e, _⟩ := ho; cases e
  | round b args => cases h
/-- the operations at the front of a deferred function -/
theorem dOps_ok {N : Nat} {ops : Array Oper} {a1 : AAct} {u1 : Option AV} {h1 : AHeap} {m0 : Map} {c₀ : Frame} {cs : List Frame} {Q : Exit → Act → List Frame → World → Prop} (hQ : ∀ m' act' mode' w', Ext m0 m' → RelAct m' N a1 act' → RelR m' u1 mode' → Fits w0 m' h1 w' → Q .normal act' ({ c₀ with mode := mode' } :: cs) w') :
    ∀ (l : List Oper) (k : Nat), (∀ j, l[j]? = ops[k + j]?) → (∀ o ∈ l, okDst N o = true) → ∀ (m : Map) (a : AAct) (act : Act) (u : Option AV) (mode : FrameMode) (h : AHeap) (w : World), Ext m0 m → RelAct m N a act → RelR m u mode → Fits w0 m h w → dOps P ops l a u h = some (a1, u1, h1) →
    wpOpsS P ops Q (List.range' k l.length) act ({ c₀ with mode := mode } :: cs) w := by
  intro l
  induction l with
  | nil =>
    intro k _ _ m a act u mode h w hx ha hu F hd
    simp only [dOps, Option.some.injEq, Prod.mk.injEq] at hd
    obtain ⟨rfl, rfl, rfl⟩ := hd
    exact hQ m act mode w hx ha hu F
  | cons o l ih =>
    intro k hk hN m a act u mode h w hx ha hu F hd
    have h0 : ops[k]? = some o := by simpa using (hk 0).symm
    have hk' : ∀ j, l[j]? = ops[k + 1 + j]? := fun j => by have := hk (j + 1); simpa [Nat.add_assoc, Nat.add_comm 1 j] using this
    have hN' : ∀ o ∈ l, okDst N o = true := fun o ho => hN o (List.mem_cons_of_mem _ ho)
    have hdst : ∀ t, o.dst = some t → t < N := by
      intro t ht
      have := hN o (List.mem_cons_self ..)
      simp only [okDst, ht] at this
      exact Nat.le_of_ble_eq_true this
    simp only [List.length_cons, List.range'_succ, wpOpsS, h0]
    simp only [dOps] at hd
    split at hd
    · cases hd
    · rename_i hg
      have hw : Region.wanted o (yielded ops act.tmps) = true := by simp [Region.wanted, hg]
      rw [hw]
      simp only [if_true]
      split at hd
      · rename_i hrec
        obtain ⟨c, hc1, hc2⟩ := isRecover_ok hrec
        have hrun : (execOp act.eval o).run P w = .ok .recover w := by
          obtain ⟨dst, op, ty, pos, after, guard⟩ := o
          simp only at hc1; subst hc1
          simp [execOp, resolve, hc2, invoke, builtin]
        rw [hrun]
        simp only
        simp only [stepPut] at hd
        cases hu with
        | of hu =>
          cases hu with
          | ret =>
            simp only [recoverD]
            exact ih (k + 1) hk' hN' m _ _ none .returning h w hx (ha.put hdst (ds := []) (ds' := []) .nifc .nil) (.of .ret) F hd
          | @panic v v' hv =>
            simp only [recoverD]
            exact ih (k + 1) hk' hN' m _ _ none _ h w hx (ha.put hdst (ds := []) (ds' := []) hv .nil) (.done v') F hd
        | done v' =>
          simp only [recoverD]
          exact ih (k + 1) hk' hN' m _ _ none _ h w hx (ha.put hdst (ds := []) (ds' := []) .nifc .nil) (.done v') F hd
      · split at hd
        · rename_i a2 h2 hst
          have hst' : stepOut noCall a o.dst (opA P a.eval o h) = some (.go a2 h2) := by
            simp only [stepA, hg, wantedT] at hst
            exact hst
          cases hop : opA P a.eval o h with
          | none => rw [hop] at hst'; cases hst'
          | some p =>
            obtain ⟨nx, H1⟩ := p
            rw [hop] at hst'
            have hpost := opA_ok F o (fun x _ v hv => eval_ok (fun t _ => ha.tmps t) v hv) hop
            have hnr := not_recover hpost hst'
            have hup : o.upon P act (fun a' w' => wpOpsS P ops Q (List.range' (k + 1) l.length) a' ({ c₀ with mode := mode } :: cs) w') (fun e a' w' => Q e a' ({ c₀ with mode := mode } :: cs) w') ((execOp act.eval o).run P w) := by
              refine upon_ok noCall_ok hpost hst' ?_ (fun v h' e => by cases e)
              intro a' h' e m' w' v v' ds ds' he F' hv e2 hds
              cases e
              subst e2
              exact ih (k + 1) hk' hN' m' _ _ u mode h2 w' (hx.trans he) ((ha.mono he.le).put hdst hv hds) (hu.mono he.le) F' hd
            split
            · rename_i w' e; exact absurd e (hnr w')
            · exact hup
        · cases hd
/-- a deferred call -/
theorem callD_ok (hm : P.follows .mixedOrders = true) (hc : CallOK P w0 call) {f : FuncId} {args : List AV} {u u' : Option AV} {h h' : AHeap} (hd : callD P call lf f args u h = some (u', h')) {args' : List Value} {mode : FrameMode} (ha : RelL m args args') (hu : RelU m u mode) (F : Fits w0 m h w) :
    hasBody P f = true ∧ CallsD P f ⟨args'⟩ mode w fun e mode' w' => (∃ v, e = .returned v) ∧ ∃ m', Ext m m' ∧ Fits w0 m' h' w' ∧ RelU m' u' (settle mode') := by
  unfold callD at hd
  split at hd
  · cases hd
  · rename_i fn hf
    split at hd
    · cases hd
    · rename_i c hb
      split at hd
      · rename_i hcond
        obtain ⟨hlen, hbody⟩ := hcond
        have hlen := Nat.le_of_ble_eq_true hlen
        refine ⟨hbody, ?_⟩
        unfold dBody at hd
        split at hd
        · rename_i id ops rest
          split at hd
          · rename_i a1 u1 h1 hok hdo
            refine callsD_of_wpS hf hb ?_
            intro c₀ cs hmode
            refine wpS_seq (wpS_region ?_)
            have hc0 : c₀ :: cs = { c₀ with mode := mode } :: cs := by subst hmode; rfl
            have hl := ha.length
            have hra : RelAct m fn.ntmps ⟨T.put .e 0 args, []⟩ { tmps := (⟨args'⟩ : Array Value) ++ Array.replicate (fn.ntmps - (⟨args'⟩ : Array Value).size) undef, defers := [] } := {
              size := by simp; omega
              tmps := fun t v hv => by
                simp only [T.get_put] at hv
                split at hv
                · rename_i hin
                  simp only [Nat.sub_zero] at hv
                  obtain ⟨y, hy, hr⟩ := ha.get t v hv
                  have ht : t < args'.length := by omega
                  refine ⟨y, ?_, hr⟩
                  simp only
                  rw [Array.getElem?_append_left (by simpa using ht)]
                  simpa using hy
                · rw [T.get_e] at hv; cases hv
              defers := .nil }
            rw [hc0, List.range_eq_range', ← Array.length_toList]
            refine dOps_ok (m0 := m) (N := fn.ntmps) (a1 := a1) (u1 := u1) (h1 := h1) ?_ ops.toList 0 (by simp) (okOps_mem _ hok) m _ _ u mode h w (Ext.refl m) hra (.of hu) F hdo
            intro m1 act1 mode1 w1 hx1 hra1 hu1 F1
            simp only [Exit.thenS]
            refine wpS_of_wp ?_
            have key : ∀ (e : AExit) (a2 : AAct) (h2 : AHeap), aCode P call lf fn.ntmps rest a1 h1 = some (e, a2, h2) → (e = .normal ∨ e = .ret) → a2.defers = [] → (∃ vs, resAll P a2 h2 fn.results.toList = some vs) → u' = u1 → h' = h2 →
                rest.wp P (fun e' a' w' => bodyPostS P fn c₀ cs (fun e mode' w' => (∃ v, e = .returned v) ∧ ∃ m', Ext m m' ∧ Fits w0 m' h' w' ∧ RelU m' u' (settle mode')) e' a' ({ c₀ with mode := mode1 } :: cs) w') act1 w1 := by
              intro e a2 h2 hcode he hdef ⟨vs, hvs⟩ e1 e2
              subst e1 e2
              refine wp_mono (aCode_ok hm hc rest _ _ _ _ _ hcode m1 act1 w1 hra1 F1) ?_
              rintro e' act2 w2 ⟨m2, hx2, hra2, F2, hex⟩
              have hret : ∃ r, retA h' (some vs) = some (r, h') := by
                unfold retA
                split
                · exact ⟨_, rfl⟩
                · exact ⟨_, rfl⟩
                · rename_i e; cases e
              obtain ⟨r, hret⟩ := hret
              rw [← hvs] at hret
              obtain ⟨v, v', _, _, hrun, _⟩ := results_ok (fn := fn) hra2.tmps F2 hret
              have hdf : act2.defers = [] := by
                have := hra2.defers
                rw [hdef] at this
                exact this.nil_eq
              have fin : act2.defers = [] ∧ ∃ u2, { c₀ with mode := mode1 } :: cs = { c₀ with mode := u2 } :: cs ∧ ∃ v, (results fn act2.tmps).run P w2 = .ok v w2 ∧ (∃ v_1, Ending.returned v = .returned v_1) ∧ ∃ m', Ext m m' ∧ Fits w0 m' h' w2 ∧ RelU m' u' (settle u2) :=
                ⟨hdf, mode1, rfl, v', hrun, ⟨v', rfl⟩, m2, hx1.trans hx2, F2, (hu1.mono hx2.le).settle⟩
              rcases he with rfl | rfl
              · cases hex; exact fin
              · cases hex; exact fin
            unfold dLeave at hd
            split at hd
            · rename_i a2 h2 hcode
              split at hd
              · rename_i vs hdef hvs
                simp only [Option.some.injEq, Prod.mk.injEq] at hd
                exact key _ a2 h2 hcode (.inl rfl) hdef ⟨_, hvs⟩ hd.1.symm hd.2.symm
              · cases hd
            · rename_i a2 h2 hcode
              split at hd
              · rename_i vs hdef hvs
                simp only [Option.some.injEq, Prod.mk.injEq] at hd
                exact key _ a2 h2 hcode (.inr rfl) hdef ⟨_, hvs⟩ hd.1.symm hd.2.symm
              · cases hd
            · cases hd
          · cases hd
        · cases hd
      · cases hd
end

end
end Go.Proofs.Ytpnccmlajhhpdaa.Abs
