/- The operations come to what the small machine says. -/
import Derived.Test.YtpnccmlajhhpdaaAbs4
import Derived.Great.BuildSlice
import Derived.Laws.MakeOwn
import Derived.Laws.Slices
import Derived.Conc.MuLone
namespace Go.Proofs.Ytpnccmlajhhpdaa.Abs
noncomputable section
open Go.RowKit

/-- one map goes on as another one -/
structure Ext (m m' : Map) : Prop where
  le : Map.le m m'
  virt : ∀ k : Nat, m[k]? = some none → m'[k]? = some none
theorem Ext.refl (m : Map) : Ext m m := ⟨Map.le_refl m, fun _ h => h⟩
theorem Ext.trans {a b c : Map} (h : Ext a b) (k : Ext b c) : Ext a c := ⟨Map.le_trans h.le k.le, fun i hi => k.virt i (h.virt i hi)⟩
theorem Ext.append (m e : Map) : Ext m (m ++ e) := ⟨Map.le_append m e, fun k h => by
  have hb : k < m.length := (List.getElem?_eq_some_iff.1 h).1
  rw [List.getElem?_append_left hb]; exact h⟩

def OutRel (m : Map) (w' : World) : ANext → Result Next → Prop
  | .val v, r => ∃ v', r = .ok (.value v') w' ∧ Rel m v v'
  | .skip, r => r = .ok .skip w'
  | .call f args, r => ∃ args', r = .ok (.enter f ⟨args'⟩) w' ∧ RelL m args args'
  | .panic v, r => ∃ v', r = .halt (.panic v') w' ∧ Rel m v v'
  | .defer f args cap, r => ∃ args' cap', r = .ok (.defer { target := .fn (.func f) ⟨cap'⟩, args := ⟨args'⟩ }) w' ∧ RelL m args args' ∧ RelL m cap cap'
  | .round b args, r => ∃ g r' args', m[b]? = some (some (g, 0, 0)) ∧ w'.heap[g]? = some (.loop r') ∧ args.length = r'.params.size ∧ RelL m args args' ∧
      r = .ok (.round g r'.fn ((r'.params.zip ⟨args'⟩).foldl (fun tmps (t, a) => tmps.setIfInBounds t a) r'.tmps) r'.assign r'.body) w'
def OpPost (w0 : Base) (m : Map) (H' : AHeap) (nx : ANext) (r : Result Next) : Prop := ∃ m' w', Ext m m' ∧ Fits w0 m' H' w' ∧ OutRel m' w' nx r
/-- what an operation that yields a value comes to -/
def ValPost (w0 : Base) (m : Map) (H' : AHeap) (nx : ANext) (r : Result Value) : Prop := ∃ m' w' v v', Ext m m' ∧ Fits w0 m' H' w' ∧ nx = .val v ∧ r = .ok v' w' ∧ Rel m' v v'

section
variable {P : Program} {m : Map} {w0 : Base} {w : World} {H H' : AHeap} {nx : ANext}
theorem PureOK.post {r : Result Value} (F : Fits w0 m H w) (h : PureOK m w H nx H' r) : ValPost w0 m H' nx r := by
  obtain ⟨v, v', rfl, rfl, hr, hv⟩ := h
  exact ⟨m, w, v, v', Ext.refl m, F, rfl, hr, hv⟩
theorem ValPost.op {s : Sem Value} (h : ValPost w0 m H' nx (s.run P w)) : OpPost w0 m H' nx ((do pure (Next.value (← s)) : Sem Next).run P w) := by
  obtain ⟨m', w', v, v', he, F, rfl, hr, hv⟩ := h
  refine ⟨m', w', he, F, v', ?_, hv⟩
  simp [hr]

/-! ### struct and array values -/
inductive RelP (m : Map) : List (Nat × AV) → List (Nat × Value) → Prop
  | nil : RelP m [] []
  | cons {i : Nat} {x : AV} {y : Value} {l : List (Nat × AV)} {l' : List (Nat × Value)} (h : Rel m x y) (k : RelP m l l') : RelP m ((i, x) :: l) ((i, y) :: l')
theorem lput_length {α : Type} : ∀ (cs : List α) (o : Nat) (vs : List α), (lput cs o vs).length = cs.length
  | _, _, [] => by unfold lput; rfl
  | [], _, _ :: _ => rfl
  | _ :: cs, 0, _ :: vs => by simp [lput, lput_length cs 0 vs]
  | _ :: cs, o + 1, v :: vs => by simp [lput, lput_length cs o (v :: vs)]
theorem lput_cons {α : Type} : ∀ (cs : List α) (o : Nat) (v : α) (vs : List α), lput cs o (v :: vs) = lput (cs.set o v) (o + 1) vs
  | [], o, v, vs => by cases vs <;> simp [lput]
  | c :: cs, 0, v, vs => by cases vs <;> simp [lput]
  | c :: cs, o + 1, v, vs => by
    have := lput_cons cs o v vs
    cases vs with
    | nil => simp only [List.set_cons_succ]; simp only [lput] at this ⊢; rw [this]
    | cons u vs => simp only [List.set_cons_succ]; simp only [lput] at this ⊢; rw [this]
theorem RelL.lput {a : List AV} {a' : List Value} : ∀ {b : List AV} {b' : List Value} (o : Nat), RelL m a a' → RelL m b b' → RelL m (lput a o b) (lput a' o b') := by
  induction a generalizing a' with
  | nil =>
    intro b b' o h k
    cases h
    cases k <;> (unfold Go.Proofs.Ytpnccmlajhhpdaa.Abs.lput; exact .nil)
  | cons x a ih =>
    intro b b' o h k
    cases k with
    | nil => unfold Go.Proofs.Ytpnccmlajhhpdaa.Abs.lput; exact h
    | cons k1 k2 =>
      cases h with
      | cons h1 h2 =>
        cases o with
        | zero => simp only [Go.Proofs.Ytpnccmlajhhpdaa.Abs.lput]; exact .cons k1 (ih 0 h2 k2)
        | succ o => simp only [Go.Proofs.Ytpnccmlajhhpdaa.Abs.lput]; exact .cons h1 (ih o h2 (.cons k1 k2))
theorem foldl_set (off : Nat) : ∀ (vs : List Value) (k : Nat) (cs : Array Value), ((vs.zipIdx k).foldl (fun (cs : Array Value) (x : Value × Nat) => cs.setIfInBounds (off + x.2) x.1) cs).toList = lput cs.toList (off + k) vs
  | [], k, cs => by simp [lput]
  | v :: vs, k, cs => by
    rw [List.zipIdx_cons, List.foldl_cons, foldl_set off vs (k + 1), lput_cons]
    simp [Nat.add_assoc]
theorem fill_ok {pa : Nat → Option (Nat × Nat)} {pv : Nat → Option (Nat × Nat)} (hp : ∀ i q, pa i = some q → pv i = some q) : ∀ (ps : List (Nat × AV)) (ps' : List (Nat × Value)) (cs : List AV) (cs' : Array Value) (r : List AV),
    RelP m ps ps' → RelL m cs cs'.toList → fillA pa cs ps = some r → ∃ r' : Array Value, Instr.fill pv cs' ps' = some r' ∧ RelL m r r'.toList := by
  intro ps
  induction ps with
  | nil =>
    intro ps' cs cs' r hps hcs h
    cases hps
    simp only [fillA, Option.some.injEq] at h; subst h
    exact ⟨cs', rfl, hcs⟩
  | cons p ps ih =>
    intro ps' cs cs' r hps hcs h
    cases hps with
    | @cons i x y l l' hxy hps =>
      simp only [fillA] at h
      split at h
      · cases h
      · rename_i off size hq
        split at h
        · rename_i hc
          obtain ⟨h1, h2⟩ := hc
          have hl := hxy.cells.length
          have hl2 := hcs.length
          simp only [Array.length_toList] at hl hl2
          have hfold : RelL m (lput cs off x.cells) ((y.cells.zipIdx.foldl (fun (cs : Array Value) (x : Value × Nat) => cs.setIfInBounds (off + x.2) x.1) cs').toList) := by
            rw [← Array.foldl_toList, Array.toList_zipIdx, foldl_set off y.cells.toList 0 cs']
            exact RelL.lput _ hcs hxy.cells
          obtain ⟨r', h3, h4⟩ := ih l' _ _ r hps hfold h
          refine ⟨r', ?_, h4⟩
          simp only [Instr.fill, hp i _ hq]
          rw [if_neg (by simp; omega)]
          exact h3
        · cases h
theorem parts_ok {ρ : RhoT} {ρ' : Operand → Value} : ∀ (l : List (Nat × Operand)) (ps : List (Nat × AV)), (∀ x ∈ l.map (·.2), ∀ v, ρ x = some v → Rel m v (ρ' x)) → partsA ρ l = some ps → RelP m ps (l.map fun (i, x) => (i, ρ' x))
  | [], ps, _, h => by simp only [partsA, Option.some.injEq] at h; subst h; exact .nil
  | (i, x) :: l, ps, hr, h => by
    simp only [partsA] at h
    split at h
    · rename_i v r hv hr'
      simp only [Option.some.injEq] at h; subst h
      exact .cons (hr x (by simp) v hv) (parts_ok l r (fun y hy => hr y (by simp at hy ⊢; exact .inr hy)) hr')
    · cases h
theorem args_ok {ρ : RhoT} {ρ' : Operand → Value} : ∀ (l : List Operand) (ps : List AV), (∀ x ∈ l, ∀ v, ρ x = some v → Rel m v (ρ' x)) → argsA ρ l = some ps → RelL m ps (l.map ρ')
  | [], ps, _, h => by simp only [argsA, Option.some.injEq] at h; subst h; exact .nil
  | x :: l, ps, hr, h => by
    simp only [argsA] at h
    split at h
    · rename_i v r hv hr'
      simp only [Option.some.injEq] at h; subst h
      exact .cons (hr x (by simp) v hv) (args_ok l r (fun y hy => hr y (by simp [hy])) hr')
    · cases h
theorem zero_ok (m : Map) {t : TypeId} {z : AV} (h : zeroA P t = some z) : ∃ i zv, P.info? t = some i ∧ i.zero = some zv ∧ Rel m z zv ∧ z.cells.length = i.size ∧ zv.cells.size = i.size := by
  unfold zeroA at h
  split at h
  · rename_i i hi
    split at h
    · rename_i v hz
      split at h
      · rename_i x hx
        split at h
        · rename_i hl
          simp only [Option.some.injEq] at h; subst h
          have hr := ofVal_rel m v x hx
          exact ⟨i, v, hi, hz, hr, hl, by have := hr.cells.length; simp at this; omega⟩
        · cases h
      · cases h
    · cases h
  · cases h
theorem places_ok : ∀ (fs : List Field), (∀ f ∈ fs, (P.info? f.type).isSome = true) → fs.mapM (fun f => (P.info? f.type).map fun i => (f.offset, i.size)) = some (fs.map fun f => (f.offset, P.cellsOf f.type))
  | [], _ => rfl
  | f :: fs, h => by
    obtain ⟨i, hi⟩ := Option.isSome_iff_exists.1 (h f (by simp))
    have ih := places_ok fs (fun g hg => h g (by simp [hg]))
    simp only [List.mapM_cons, hi, Option.map_some, Option.bind_eq_bind, Option.bind_some, ih, Option.pure_def, List.map_cons, cells_info hi]
theorem build_ok {ρ : RhoT} {ρ' : Operand → Value} {t : TypeId} {parts : Array (Nat × Operand)} (hr : ∀ x ∈ parts.toList.map (·.2), ∀ v, ρ x = some v → Rel m v (ρ' x)) (h : opBuild P ρ H t parts = some (nx, H')) :
    PureOK m w H nx H' ((Instr.build t (parts.map fun (i, x) => (i, ρ' x))).run P w) := by
  unfold opBuild at h
  split at h
  · rename_i z ps hz hps
    obtain ⟨i, zv, hi, hzv, hrel, hl, hl'⟩ := zero_ok m hz
    have hp := parts_ok (m := m) parts.toList ps hr hps
    have fin : ∀ (r : List AV) (r' : Array Value), outAgg H (some r) = some (nx, H') → RelL m r r'.toList → P.built t (parts.map fun (i, x) => (i, ρ' x)).toList = some r' → PureOK m w H nx H' ((Instr.build t (parts.map fun (i, x) => (i, ρ' x))).run P w) := by
      intro r r' ho hrr hb
      simp only [outAgg, Option.some.injEq, Prod.mk.injEq] at ho
      obtain ⟨rfl, rfl⟩ := ho
      exact ⟨.agg r, .agg r', rfl, rfl, run_build w t _ r' hb, .agg hrr⟩
    have hpl : (parts.map fun (i, x) => (i, ρ' x)).toList = parts.toList.map fun (i, x) => (i, ρ' x) := by simp
    split at h
    · rename_i fs hu
      split at h
      · rename_i hf
        unfold outAgg at h
        split at h
        · rename_i r hfill
          have hfs : ∀ f ∈ fs.toList, (P.info? f.type).isSome = true := by
            unfold fieldsOk at hf
            intro f hf'
            exact (Array.all_eq_true_iff_forall_mem.1 hf) f (by simpa using hf')
          obtain ⟨r', h1, h2⟩ := fill_ok (pa := structPlace P fs) (pv := ((fs.toList.map fun f => (f.offset, P.cellsOf f.type)).toArray[·]?)) (fun j q hq => by
            unfold structPlace at hq
            split at hq
            · rename_i f hfj
              simp only [Option.some.injEq] at hq; subst hq
              have : fs.toList[j]? = some f := by simpa using hfj
              simp [this]
            · cases hq) ps _ z.cells zv.cells r hp hrel.cells hfill
          refine fin r r' h h2 ?_
          unfold Program.built
          simp only [hi, hu, hzv, places_ok fs.toList hfs]
          rw [hpl]; exact h1
        · cases h
      · cases h
    · rename_i n e hu
      split at h
      · rename_i he
        obtain ⟨ie, hie⟩ := Option.isSome_iff_exists.1 he
        unfold outAgg at h
        split at h
        · rename_i r hfill
          obtain ⟨r', h1, h2⟩ := fill_ok (pa := fun i => some (i * P.cellsOf e, P.cellsOf e)) (pv := fun i => some (i * ie.size, ie.size)) (fun j q hq => by rw [cells_info hie] at hq; exact hq) ps _ z.cells zv.cells r hp hrel.cells hfill
          refine fin r r' h h2 ?_
          unfold Program.built
          simp only [hi, hu, hzv, hie]
          rw [hpl]; exact h1
        · cases h
      · cases h
    · cases h
  · cases h
end

end
end Go.Proofs.Ytpnccmlajhhpdaa.Abs
