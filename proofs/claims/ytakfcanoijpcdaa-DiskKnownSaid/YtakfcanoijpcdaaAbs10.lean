/- Functions, calls, panics; all the operations in one theorem. -/
import Derived.Test.YtakfcanoijpcdaaAbs9
namespace Go.Proofs.Ytakfcanoijpcdaa.Abs
noncomputable section
open Go.RowKit

section
variable {P : Program} {m : Map} {w0 w : World} {H H' : AHeap} {nx : ANext}

theorem RelL.arr {l : List AV} {a : Array Value} (h : RelL m l a.toList) : ∃ l', a = ⟨l'⟩ ∧ RelL m l l' := ⟨a.toList, by simp, h⟩
theorem PureOK.op {s : Sem Value} (F : Fits w0 m H w) (h : PureOK m w H nx H' (s.run P w)) : OpPost w0 m H' nx ((do pure (Next.value (← s)) : Sem Next).run P w) := (PureOK.post F h).op
theorem unit_op {s : Sem Unit} (h : ∃ w', nx = .skip ∧ Fits w0 m H' w' ∧ s.run P w = .ok () w') : OpPost w0 m H' nx ((do s; pure .skip : Sem Next).run P w) := by
  obtain ⟨w', rfl, F, hr⟩ := h
  exact ⟨m, w', Ext.refl m, F, by simp [OutRel, hr]⟩
theorem makeFunc_ok {ρ : RhoT} {ρ' : Operand → Value} {fn : Fn} {first captured : Array Operand} (hr : ∀ x ∈ first.toList ++ captured.toList, ∀ v, ρ x = some v → Rel m v (ρ' x)) (h : opMakeFunc ρ H fn first captured = some (nx, H')) : PureOK m w H nx H' ((Instr.makeFunc fn (first.map ρ') (captured.map ρ')).run P w) := by
  unfold opMakeFunc at h
  split at h
  · split at h
    · rename_i a b ha hb
      have h1 := args_ok (m := m) _ a (fun x hx => hr x (List.mem_append_left _ hx)) ha
      have h2 := args_ok (m := m) _ b (fun x hx => hr x (List.mem_append_right _ hx)) hb
      refine val_ok h (v' := .func (.func _) ⟨first.toList.map ρ'⟩ ⟨captured.toList.map ρ'⟩) ?_ (.fn h1 h2)
      simp only [Instr.makeFunc, Sem.run_pure]
      congr 2 <;> (apply Array.ext'; simp)
    · cases h
  · cases h
theorem hasBody_ok {f : FuncId} (h : hasBody P f = true) (args : Array Value) (w : World) : (callFunc f args).run P w = .ok (.enter f args) w := by
  unfold hasBody at h
  split at h
  · rename_i fn hf
    simp only [Bool.and_eq_true, Bool.not_eq_true'] at h
    obtain ⟨c, hc⟩ := Option.isSome_iff_exists.1 h.1
    exact Go.MuLone.run_callFunc_enter hf h.2 hc args w
  · cases h
theorem builtin_ok (F : Fits w0 m H w) {b : Builtin} {ts : Array TypeId} {ty : TypeId} {cs : Array Bool} {args : List AV} {args' : List Value} (hr : RelL m args args') (h : builtinA P b ts args H = some (nx, H')) : OpPost w0 m H' nx ((Go.builtin b ts ty cs ⟨args'⟩).run P w) := by
  have hts : ∀ {t : TypeId} {l : List TypeId}, ts.toList = t :: l → ts[0]? = some t := by
    intro t l e; rw [← Array.getElem?_toList, e]; rfl
  have hts1 : ∀ {t u : TypeId} {l : List TypeId}, ts.toList = t :: u :: l → ts[1]? = some u := by
    intro t u l e; rw [← Array.getElem?_toList, e]; rfl
  unfold builtinA at h
  split at h
  · split at h
    · rename_i x t l e
      cases hr with | cons hx hr =>
      cases hr
      exact (len_ok F hx ts ty (hts e) h).op F
    · cases h
  · split at h
    · rename_i s x t u l e
      cases hr with | cons hx hr =>
      cases hr with | cons hy hr =>
      cases hr
      exact (append_ok F hx hy ts ty (hts e) (hts1 e) h).op
    · cases h
  · split at h
    · rename_i d s t l e
      cases hr with | cons hx hr =>
      cases hr with | cons hy hr =>
      cases hr
      exact (copy_ok F hx hy ts ty (hts e) h).op
    · cases h
  · split at h
    · rename_i x t l e
      cases hr with | cons hx hr =>
      cases hr
      exact (clear_ok F hx ts ty (hts e) h).op
    · cases h
  · split at h
    · rename_i m k t l e
      cases hr with | cons hx hr =>
      cases hr with | cons hy hr =>
      cases hr
      exact (delete_ok F hx hy ts ty (hts e) h).op
    · cases h
  · split at h
    · rename_i k a rest
      cases hr with | cons hx hr =>
      have := rel_int hx; subst this
      refine PureOK.op F (s := Builtin.max_ ts ty _) ?_
      unfold outV at h
      split at h
      · rename_i v hv
        obtain ⟨v', h1, h2⟩ := maxInts_ok (P := P) (w := w) k _ _ a v hr hv
        exact val_ok h h1 h2
      · cases h
    · cases h
  · split at h
    · rename_i k a rest
      cases hr with | cons hx hr =>
      have := rel_int hx; subst this
      refine PureOK.op F (s := Builtin.min_ ts ty _) ?_
      unfold outV at h
      split at h
      · rename_i v hv
        obtain ⟨v', h1, h2⟩ := minInts_ok (P := P) (w := w) k _ _ a v hr hv
        exact val_ok h h1 h2
      · cases h
    · cases h
  · split at h
    · rename_i t v
      cases hr with | cons hx hr =>
      cases hr
      simp only [Option.some.injEq, Prod.mk.injEq] at h
      obtain ⟨rfl, rfl⟩ := h
      cases hx with | @ifc _ _ v' hv =>
      exact ⟨m, w, Ext.refl m, F, .iface t v', by simp [Go.builtin, Instr.panic], .ifc hv⟩
    · cases h
  · cases h
theorem argsA_map {ρ : RhoT} {ρ' : Operand → Value} {args : Array Operand} {as : List AV} (hr : ∀ x ∈ args.toList, ∀ v, ρ x = some v → Rel m v (ρ' x)) (h : argsA ρ args.toList = some as) : args.map ρ' = ⟨args.toList.map ρ'⟩ ∧ RelL m as (args.toList.map ρ') :=
  ⟨by apply Array.ext'; simp, args_ok _ as hr h⟩
theorem call_ok (F : Fits w0 m H w) {ρ : RhoT} {ρ' : Operand → Value} {c : Call} {ty : TypeId} (hr : ∀ x ∈ c.operands.toList, ∀ v, ρ x = some v → Rel m v (ρ' x)) (h : opCall P ρ H c = some (nx, H')) : OpPost w0 m H' nx ((do let d ← resolve ρ' c ty; invoke d.target d.args : Sem Next).run P w) := by
  unfold opCall at h
  split at h
  · rename_i args ha
    obtain ⟨he, hra⟩ := argsA_map (m := m) (ρ' := ρ') (fun x hx => hr x (by simp only [Call.operands]; simp [hx])) ha
    split at h
    · rename_i b hb
      have := builtin_ok (ty := ty) (cs := c.args.map fun | .const _ => true | _ => false) F hra h
      simp only [resolve, hb, he, Sem.run_bind, Sem.run_pure, Result.andThen_ok, invoke]
      exact this
    · cases h
    · rename_i f hf
      unfold callV at h
      split at h
      · rename_i g a b e
        split at h
        · rename_i hbody
          simp only [Option.some.injEq, Prod.mk.injEq] at h
          obtain ⟨rfl, rfl⟩ := h
          have hrf := hr f (by simp [Call.operands, hf]) _ e
          generalize hv : ρ' f = vf at hrf
          cases hrf with | @fn _ _ _ l' c' h1 h2 =>
          refine ⟨m, w, Ext.refl m, F, l' ++ c.args.toList.map ρ' ++ c', ?_, (h1.append hra).append h2⟩
          simp only [resolve, hf, he, hv, Deferred.ofValue, Sem.run_bind, Sem.run_pure, Result.andThen_ok, invoke]
          have : (⟨l'⟩ ++ ⟨c.args.toList.map ρ'⟩ ++ ⟨c'⟩ : Array Value) = ⟨l' ++ c.args.toList.map ρ' ++ c'⟩ := by simp
          rw [this]
          exact hasBody_ok hbody _ w
        · cases h
      · cases h
  · cases h
theorem defer_ok (F : Fits w0 m H w) {ρ : RhoT} {ρ' : Operand → Value} {c : Call} {ty : TypeId} (hr : ∀ x ∈ c.operands.toList, ∀ v, ρ x = some v → Rel m v (ρ' x)) (h : opDefer P ρ H c = some (nx, H')) : OpPost w0 m H' nx ((do pure (.defer (← resolve ρ' c ty)) : Sem Next).run P w) := by
  unfold opDefer at h
  split at h
  · rename_i args ha
    obtain ⟨he, hra⟩ := argsA_map (m := m) (ρ' := ρ') (fun x hx => hr x (by simp only [Call.operands]; simp [hx])) ha
    split at h
    · rename_i f hf
      unfold deferV at h
      split at h
      · rename_i g a b e
        split at h
        · rename_i hbody
          simp only [Option.some.injEq, Prod.mk.injEq] at h
          obtain ⟨rfl, rfl⟩ := h
          have hrf := hr f (by simp [Call.operands, hf]) _ e
          generalize hv : ρ' f = vf at hrf
          cases hrf with | @fn _ _ _ l' c' h1 h2 =>
          refine ⟨m, w, Ext.refl m, F, l' ++ c.args.toList.map ρ', c', ?_, h1.append hra, h2⟩
          simp only [resolve, hf, he, hv, Deferred.ofValue, Sem.run_bind, Sem.run_pure, Result.andThen_ok]
          simp
        · cases h
      · cases h
    · cases h
  · cases h

/-- ONE OPERATION comes to what the small machine says. -/
theorem opA_ok (F : Fits w0 m H w) {ρ : RhoT} {ρ' : Operand → Value} (o : Oper) (hr : ∀ x ∈ o.op.operands.toList, ∀ v, ρ x = some v → Rel m v (ρ' x)) (h : opA P ρ o H = some (nx, H')) : OpPost w0 m H' nx ((execOp ρ' o).run P w) := by
  obtain ⟨dst, op, ty, pos, after, guard⟩ := o
  unfold opA opTable at h
  simp only at h hr
  cases op
  case move x =>
    simp only [do_move] at h
    have := outV_ok (m := m) (w := w) (r := .ok (ρ' x) w) (x' := ρ' x) h (fun v hv => ⟨rfl, hr x (by simp [Op.operands]) v hv⟩)
    exact PureOK.op (P := P) (s := pure (ρ' x)) F this
  case assign x =>
    simp only [do_assign] at h
    have := outV_ok (m := m) (w := w) (r := .ok (ρ' x) w) (x' := ρ' x) h (fun v hv => ⟨rfl, hr x (by simp [Op.operands]) v hv⟩)
    exact PureOK.op (P := P) (s := pure (ρ' x)) F this
  case pick c a b =>
    simp only [do_pick, opPick] at h
    split at h
    · rename_i e
      have hc := rel_bool (hr c (by simp [Op.operands]) _ e)
      have := outV_ok (m := m) (w := w) (r := .ok (ρ' a) w) (x' := ρ' a) h (fun v hv => ⟨rfl, hr a (by simp [Op.operands]) v hv⟩)
      have := PureOK.op (P := P) (s := pure (ρ' a)) F this
      simp only [execOp, hc, asBool]
      exact this
    · rename_i e
      have hc := rel_bool (hr c (by simp [Op.operands]) _ e)
      have := outV_ok (m := m) (w := w) (r := .ok (ρ' b) w) (x' := ρ' b) h (fun v hv => ⟨rfl, hr b (by simp [Op.operands]) v hv⟩)
      have := PureOK.op (P := P) (s := pure (ρ' b)) F this
      simp only [execOp, hc, asBool]
      exact this
    · cases h
  case alloc e => exact (alloc_ok F h).op
  case box e x => exact (box_ok F (fun v hv => hr x (by simp [Op.operands]) v hv) h).op
  case build t ps => exact (build_ok (fun x hx v hv => hr x (by simpa [Op.operands] using hx) v hv) h).op F
  case buildSlice t n ps => exact (buildSlice_ok F (fun x hx v hv => hr x (by simpa [Op.operands] using hx) v hv) h).op
  case insert t m' k x => exact unit_op (mapUpdate_ok F (fun v hv => hr m' (by simp [Op.operands]) v hv) (fun v hv => hr k (by simp [Op.operands]) v hv) (fun v hv => hr x (by simp [Op.operands]) v hv) h)
  case load t a => exact (load_ok F (fun v hv => hr a (by simp [Op.operands]) v hv) h).op F
  case store t a x => exact unit_op (store_ok F (fun v hv => hr a (by simp [Op.operands]) v hv) (fun v hv => hr x (by simp [Op.operands]) v hv) h)
  case ready g => cases h
  case waits g => cases h
  case nilCheck x =>
    obtain ⟨v, v', rfl, rfl, h1, h2⟩ := nil_check_ok (P := P) (w := w) (x' := ρ' x) (fun v hv => hr x (by simp [Op.operands]) v hv) h ⟨dst, .nilCheck x, ty, pos, after, guard⟩ x ρ' rfl rfl
    exact ⟨m, w, Ext.refl m, F, v', h1, h2⟩
  case binOp op t x y p =>
    simp only [do_binOp, opBin] at h
    split at h
    · rename_i a b ha hb
      unfold outV at h
      split at h
      · rename_i v hv
        obtain ⟨v', h1, h2⟩ := binA_ok op t x y a b (ρ' x) (ρ' y) (hr x (by simp [Op.operands]) _ ha) (hr y (by simp [Op.operands]) _ hb) v hv w
        exact PureOK.op F (val_ok h h1 h2)
      · cases h
    · cases h
  case unOp op t x => exact (un_ok (fun v hv => hr x (by simp [Op.operands]) v hv) h).op F
  case convert s d x => exact (conv_ok F (fun v hv => hr x (by simp [Op.operands]) v hv) h).op
  case sliceToArrayPointer => cases h
  case makeInterface t x => exact (iface_ok (fun v hv => hr x (by simp [Op.operands]) v hv) h).op F
  case makeFunc fn a b => exact (makeFunc_ok (fun x hx v hv => hr x (by simpa [Op.operands] using hx) v hv) h).op F
  case makeMap t r => exact (makeMap_ok F h).op
  case makeChan => cases h
  case makeSlice t a b => exact (makeSlice_ok F (fun v hv => hr a (by simp [Op.operands]) v hv) (fun v hv => hr b (by simp [Op.operands]) v hv) h).op
  case slice t x lo hi mx => exact (slice_ok (fun o ho v hv => hr o (by
    rcases ho with rfl | rfl | rfl <;> simp [Op.operands]) v hv) h).op F
  case fieldAddr s x f => exact (fieldAddr_ok (fun v hv => hr x (by simp [Op.operands]) v hv) h).op F
  case field t x f => exact (field_ok (fun v hv => hr x (by simp [Op.operands]) v hv) h).op F
  case indexAddr t x i => exact (indexAddr_ok (fun v hv => hr x (by simp [Op.operands]) v hv) (fun v hv => hr i (by simp [Op.operands]) v hv) h).op F
  case index t x i => exact (index_ok (fun v hv => hr x (by simp [Op.operands]) v hv) (fun v hv => hr i (by simp [Op.operands]) v hv) h).op F
  case lookup t x i ok => exact (lookup_ok F (fun v hv => hr x (by simp [Op.operands]) v hv) (fun v hv => hr i (by simp [Op.operands]) v hv) h).op F
  case mapUpdate t m' k x => exact unit_op (mapUpdate_ok F (fun v hv => hr m' (by simp [Op.operands]) v hv) (fun v hv => hr k (by simp [Op.operands]) v hv) (fun v hv => hr x (by simp [Op.operands]) v hv) h)
  case mapEntry => cases h
  case entryStore => cases h
  case range => cases h
  case next => cases h
  case entry => cases h
  case typeAssert x u t ok => exact (assert_ok (fun v hv => hr x (by simp [Op.operands]) v hv) h).op F
  case extract t i => exact (extract_ok (fun v hv => hr t (by simp [Op.operands]) v hv) h).op F
  case call c => exact call_ok F (fun x hx v hv => hr x hx v hv) h
  case go => cases h
  case defer c => exact defer_ok F (fun x hx v hv => hr x hx v hv) h
  case panic x =>
    simp only [do_panic, opPanic] at h
    split at h
    · rename_i t v e
      simp only [Option.some.injEq, Prod.mk.injEq] at h
      obtain ⟨rfl, rfl⟩ := h
      have hx := hr x (by simp [Op.operands]) _ e
      generalize hv : ρ' x = vx at hx
      cases hx with | @ifc _ _ v' hv' =>
      exact ⟨m, w, Ext.refl m, F, .iface t v', by simp [execOp, Instr.panic, hv], .ifc hv'⟩
    · cases h
  case send => cases h
  case recv => cases h
  case select => cases h
end

end
end Go.Proofs.Ytakfcanoijpcdaa.Abs
