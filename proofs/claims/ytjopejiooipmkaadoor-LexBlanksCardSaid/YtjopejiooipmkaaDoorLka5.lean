/- What lexBlanks_proved stands on, part 5 of 10. -/
import Derived.Test.YtjopejiooipmkaaDoorLka4
import Derived.OpenShut
import Derived.LaidMore
namespace Go.Proofs.YtjopejiooipmkaaDoor.Abs
noncomputable section
open Go.RowKit
inductive KI where
 | code (p : List Nat)
 | inLoop (p : List Nat)
 | inBlock (id : Nat)
 | ops (p : List Nat) (j : Nat)
structure MF where
 f : FuncId
 N : Nat
 a : AAct
 k : List KI
structure MS where
 top : MF
 st : List (Option Tmp × MF)
 h : AHeap
structure LF where
 f : FuncId
 N : Nat
 l : Fr
 ds : List (FuncId × List AV × List AV)
 k : List KI
inductive LO where
 | row (l : List AV) (e : TypeId)
 | map (es : List (AV × AV))
 | glob (l : List AV)
 | dfr
structure LS where
 top : LF
 st : List (Option Tmp × LF)
 next : Nat
 ex : List Nat
 obs : List (Nat × LO)
def LO.obj : LO → AObj
 | .row l e => rowOf l e
 | .map es => .map es
 | .glob l => .glob (T.put .e 0 l)
 | .dfr => .obj .dfr
def obTree : List (Nat × LO) → T AObj
 | [] => .e
 | (b, o) :: r => (obTree r).set b o.obj
def LF.mf (x : LF) : MF := ⟨x.f, x.N, ⟨x.l.tree, x.ds⟩, x.k⟩
def LS.ms (x : LS) : MS := ⟨x.top.mf, x.st.map fun y => (y.1, y.2.mf), ⟨x.next, x.ex, obTree x.obs⟩⟩
end
end Go.Proofs.YtjopejiooipmkaaDoor.Abs
namespace Go.Proofs.YtjopejiooipmkaaDoor.Abs
noncomputable section
open Go.RowKit
section
variable {P : Program} {n : Nat} {F : Fence}
end
section
variable {P : Program}
def LeavesX (P : Program) (fn : Func) (tmps : Array Value) (R : Ending → World → Prop) : List Deferred → FrameMode → World → Prop
  | [], u, w => Leaves P fn tmps R [] u w
  | d :: ds, u, w => u ≠ .run ∧
      ((∃ r w', d.target = .collected r ∧ (Instr.takeDeferred r).run P w = .ok [] w' ∧ LeavesX P fn tmps R ds u w') ∨
       (∃ fv cap f args, d.target = .fn fv cap ∧ (invoke d.target d.args).run P w = .ok (.enter f args) w ∧
        CallsD P f args u w fun
          | .returned _, u', w' => LeavesX P fn tmps R ds (settle u') w'
          | .panicked chain, u', w' => LeavesX P fn tmps R ds (raised u' chain) w'
          | .outgrown, _, w' => R .outgrown w'))
def bodyPostX (P : Program) (fn : Func) (R : Ending → World → Prop) : Exit → Act → World → Prop
 | .normal, a, w | .ret, a, w => LeavesX P fn a.tmps R a.defers .returning w
 | .panic chain, a, w => LeavesX P fn a.tmps R a.defers (.panicking chain) w
 | .outgrown, _, w => R .outgrown w
 | _, _, _ => False
end
section
variable {P : Program} {w0 : Base} {R0 : Ending → World → Prop} {both : BothF} {lf : Nat}
def Bo (P : Program) (f : FuncId) (R : Ending → World → Prop) : Exit → Act → World → Prop := match P.funcs[f]? with
 | some fn => bodyPostX P fn R
 | none => fun _ _ _ => False
theorem Bo.ret {f : FuncId} {R : Ending → World → Prop} {a : Act} {w : World} (h : Bo P f R .normal a w) : Bo P f R .ret a w := by
 revert h
 unfold Bo
 cases P.funcs[f]? with
 | none => exact id
 | some fn => exact id
variable {c : Code} {Q : Exit → Act → World → Prop} {act : Act} {w : World}
end
end
end Go.Proofs.YtjopejiooipmkaaDoor.Abs
namespace Go.Proofs.YtjopejiooipmkaaDoor.Abs
noncomputable section
open Go.RowKit
theorem laidVars_at {P : Program} {W : World} : ∀ {L : List (String × DataW Unit)} {ps : List MemPlace}, DataW.LaidVars P W L ps → ∀ {i : Nat} {n : String} {d : DataW Unit}, L[i]? = some (n, d) →
  ∃ g t cs fuel p, P.globalNamed n = some g ∧ (P.globals[g]?).map (·.type) = some t ∧ W.var? P n = some cs ∧ DataW.trod (fun _ => ()) P W 0 (fun _ => true) false fuel t cs.toList = some (d, p)
 | [], _, _, i, n, d, hi => by simp at hi
 | (n', d') :: L, ps, h, i, n, d, hi => by
  obtain ⟨g, t, cs, fuel, p, q, h1, h2, h3, h4, h5, _⟩ := h
  cases i with
  | zero =>
   simp only [List.getElem?_cons_zero, Option.some.injEq, Prod.mk.injEq] at hi
   obtain ⟨rfl, rfl⟩ := hi
   exact ⟨g, t, cs, fuel, p, h1, h2, h3, h4⟩
  | succ i => exact laidVars_at h5 (by simpa using hi)
theorem laid_ints {P : Program} {W : World} {L : List (String × DataW Unit)} (h : laidMet P L W) {i : Nat} {n : String} {g t e len : Nat} {k : IntKind} {zs : List Int} (hm : L[i]? = some (n, DataW.agg (zs.map fun z => .lit (.int k z))))
  (hg : P.globalNamed n = some g) (ht : (P.globals[g]?).map (·.type) = some t) (hu : P.underlying t = some (.array len e)) (hue : P.underlying e = some (.int k)) (hce : P.cellsOf e = 1) (h0 : 0 < zs.length) :
  g < W.heap.size ∧ ∀ j x, (zs.map fun z => AV.int k z)[j]? = some x → ∃ y, W.cell? ⟨g, j, none⟩ = some y ∧ Rel [] x y ∧ y.oneCell' = true := by
 obtain ⟨ps, hv, _⟩ := h
 obtain ⟨g', t', cs, fuel, p, k1, k2, k3, k4⟩ := laidVars_at hv hm
 rw [hg] at k1
 cases k1
 rw [ht] at k2
 cases k2
 obtain ⟨xs, m, _, ex, _, hl, hel⟩ := DataW.trod_array hu k4
 have e3 : (xs.map (·.1)) = zs.map fun z => (DataW.lit (.int k z) : DataW Unit) := (DataW.agg.inj (Prod.mk.inj ex).1).symm
 have hlen : xs.length = zs.length := by
  have := congrArg List.length e3
  simpa using this
 have cell : ∀ j (hj : j < zs.length), W.cell? ⟨g, j, none⟩ = some (.int k zs[j]) := by
  intro j hj
  have hE := hel j (by omega)
  rw [hce, Nat.mul_one, List.getElem?_eq_getElem (by omega)] at hE
  obtain ⟨z, e1, e2, _⟩ := DataW.trod_int hue hE
  have e4 : (xs.map (·.1))[j]? = (zs.map fun z => (DataW.lit (.int k z) : DataW Unit))[j]? := by rw [e3]
  rw [List.getElem?_map, List.getElem?_map, List.getElem?_eq_getElem (by omega : j < xs.length), List.getElem?_eq_getElem hj, e2] at e4
  simp only [Option.map_some, Option.some.injEq, DataW.lit.injEq, Lit.int.injEq, true_and] at e4
  subst e4
  rw [World.var?_cell hg k3 j]
  have : cs.toList[j]? = some (.int k zs[j]) := by
   have h0 : ((cs.toList.drop j).take 1)[0]? = some (.int k zs[j]) := by rw [e1]; rfl
   simpa using h0
  simpa using this
 refine ⟨?_, fun j x hx => ?_⟩
 ·have := cell 0 h0
  unfold World.cell? at this
  cases hb : W.heap[g]? with
  | none => simp [hb] at this
  | some o => exact heap_lt hb
 ·rw [List.getElem?_map] at hx
  cases hz : zs[j]? with
  | none => rw [hz] at hx; cases hx
  | some z =>
   rw [hz] at hx
   simp only [Option.map_some, Option.some.injEq] at hx
   subst hx
   obtain ⟨hj, rfl⟩ := List.getElem?_eq_some_iff.1 hz
   exact ⟨_, cell j hj, .int k _, rfl⟩
theorem laid_put {GL : Tabs} {W : World} {g : Nat} {l : List AV} (h : g < W.heap.size ∧ ∀ i x, l[i]? = some x → ∃ y, W.cell? ⟨g, i, none⟩ = some y ∧ Rel [] x y ∧ y.oneCell' = true) (hL : Laid GL W) : Laid ((g, l) :: GL) W := fun g' l' hm => by
 rcases List.mem_cons.1 hm with e | hm
 ·cases e; exact h
 ·exact hL g' l' hm
end
end Go.Proofs.YtjopejiooipmkaaDoor.Abs
namespace Go.Proofs.YtjopejiooipmkaaDoor.Abs
noncomputable section
open Go.RowKit
section
variable {P : Program} {w0 : Base} {R0 : Ending → World → Prop} {both : BothF}
end
end
end Go.Proofs.YtjopejiooipmkaaDoor.Abs
namespace Go.Proofs.YtjopejiooipmkaaDoor.Abs
noncomputable section
open Go.RowKit
end
end Go.Proofs.YtjopejiooipmkaaDoor.Abs
namespace Go.Proofs.YtjopejiooipmkaaDoor.Abs
noncomputable section
open Go.RowKit
end
end Go.Proofs.YtjopejiooipmkaaDoor.Abs
namespace Go.Proofs.YtjopejiooipmkaaDoor.Abs
noncomputable section
open Go.RowKit
section
variable {H : Type} {enc : TypeId × Value → H} {P : Program} {W : World}
theorem open_allG {n : Nat} (GL : Tabs) (G : Nat) (X : List Nat) (hL : Laid GL W) (hG : tabsOk G GL = true) {ts : List TypeId} {vs : List Value} {ds : List (DataW H)} {p : List MemPlace} (ht : DataW.TrodAll enc P W 0 (fun _ => true) true ts vs ds p) (hpl : ∀ x ∈ p, x.block < W.heap.size) (hwt : (DataW.weightsEach P ts ds).all (· ≤ reachBytes) = true)
  (hall : ts.all (plainT P n) = true) (hval : ∀ (i : Nat) t v, ts[i]? = some t → vs[i]? = some v → ∃ base, Value.okWide P W .any base t v) :
  ∃ (m : Map) (h : AHeap) (as : List AV), Fits W m h W ∧ h.ex = X ∧ Keeps (startG GL X G) h ∧ RelL m as vs ∧ ArgsP P h.next h n ts as := by
 obtain ⟨m, h, as, _, k, F, _, a, b⟩ := open_each (n := n) ts vs ds p ht hpl (fun k hk => by simpa using List.all_eq_true.1 hwt k hk) hall hval (mapG G) (startG GL X G) (fits_startG hL hG) (fun b o hb => by
  obtain ⟨l, _, rfl⟩ := tabTree_get hb
  rfl)
 exact ⟨m, h, as, F, k.2.1, k, a, b⟩
end
end
end Go.Proofs.YtjopejiooipmkaaDoor.Abs
