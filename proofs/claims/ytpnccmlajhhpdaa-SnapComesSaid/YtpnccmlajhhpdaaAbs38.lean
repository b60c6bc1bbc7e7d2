/- Loops over functions: what the small machine says of them is so. -/
import Derived.Test.YtpnccmlajhhpdaaAbs37
import Derived.RangeFuncCalls
import Derived.RangeFuncLeaves
import Derived.RangeFuncNested
import Derived.TacticsIn
import Derived.OrdersIn
namespace Go.Proofs.Ytpnccmlajhhpdaa.Abs
noncomputable section
open Go.RowKit

abbrev FW (rd : Option Nat) : Fence := { Fence.wide with round := rd }
def RoundOK (P : Program) (w0 : Base) (rnd : Nat → List AV → AHeap → Option (ARes × AHeap)) : Prop := ∀ (b : Nat) (args : List AV) (h : AHeap) (r : ARes) (h' : AHeap), rnd b args h = some (r, h') →
  ∀ (m : Map) (w : World) (args' : List Value) (g : Nat) (r' : Loop), RelL m args args' → Fits w0 m h w → m[b]? = some (some (g, 0, 0)) → w.heap[g]? = some (.loop r') → args.length = r'.params.size →
    ∀ (rd : Option Nat) (n : Nat), RoundIn (FW rd) n P g r'.fn ((r'.params.zip ⟨args'⟩).foldl (fun tmps (t, a) => tmps.setIfInBounds t a) r'.tmps) r'.assign r'.body w (RetOK w0 m h' r)
structure BothOK (P : Program) (w0 : Base) (both : BothF) : Prop where
  call : CallOK P w0 (both false)
  round : RoundOK P w0 (both true)

section
variable {P : Program} {m : Map} {w0 : Base} {w : World} {H H' : AHeap} {nx : ANext} {both : BothF} {rd : Option Nat} {n : Nat}

theorem callsIn_fw {f : FuncId} {args : Array Value} {R : Ending → World → Prop} (h : Calls P f args w R) : CallsIn (FW rd) n P f args w R := by
  cases rd with
  | none => exact callsIn_wide.2 h
  | some l => exact CallsIn.inRound l (callsIn_wide.2 h)
theorem uponR_ok (hc : BothOK P w0 both) {a : AAct} {act : Act} {o : Oper} {st : AStep} {r : Result Next} {K : Act → World → Prop} {Q : Exit → Act → World → Prop}
    (hp : OpPost w0 m H' nx r) (h : stepOutR both a o.dst (some (nx, H')) = some st)
    (hgo : ∀ (a' : AAct) (h' : AHeap), st = .go a' h' → ∀ (m' : Map) (w' : World) (v : AV) (v' : Value), Ext m m' → Fits w0 m' h' w' → Rel m' v v' → a' = a.put o.dst v → K (act.put o.dst v') w')
    (hpn : ∀ (v : AV) (h' : AHeap), st = .panic v h' → ∀ (m' : Map) (w' : World) (v' : Value), Ext m m' → Fits w0 m' h' w' → Rel m' v v' → Q (.panic [{ v := v', recovered := false }]) act w') :
    o.uponIn (FW rd) n P act K Q r := by
  obtain ⟨m', w', he, F, ho⟩ := hp
  unfold stepOutR at h
  split at h
  · rename_i e
    cases e
    obtain ⟨v', rfl, hv⟩ := ho
    simp only [stepPut, Option.some.injEq] at h
    exact hgo _ _ h.symm m' w' _ v' he F hv rfl
  · rename_i e
    cases e
    simp only [OutRel] at ho; subst ho
    simp only [stepPut, Option.some.injEq] at h
    exact hgo _ _ h.symm m' w' _ _ he F (.tup .nil) rfl
  · rename_i f args h1 e
    cases e
    obtain ⟨args', rfl, hr⟩ := ho
    unfold stepRes at h
    split at h
    · rename_i v h2 hcall
      refine ⟨fun hh => (by cases hh), callsIn_fw (Calls.mono (hc.call _ _ _ _ _ hcall m' w' args' hr F) ?_)⟩
      rintro e w'' ⟨m'', he2, F2, v', rfl, hv⟩
      simp only [stepPut, Option.some.injEq] at h
      exact hgo _ _ h.symm m'' w'' _ v' (he.trans he2) F2 hv rfl
    · rename_i v h2 hcall
      refine ⟨fun hh => (by cases hh), callsIn_fw (Calls.mono (hc.call _ _ _ _ _ hcall m' w' args' hr F) ?_)⟩
      rintro e w'' ⟨m'', he2, F2, v', rfl, hv⟩
      simp only [Option.some.injEq] at h
      exact hpn _ _ h.symm m'' w'' v' (he.trans he2) F2 hv
    · cases h
  · rename_i b args h1 e
    cases e
    obtain ⟨g, r', args', hm, hl, hlen, hr, rfl⟩ := ho
    unfold stepRes at h
    split at h
    · rename_i v h2 hcall
      refine ⟨fun hh => (by cases hh), RoundIn.mono (hc.round _ _ _ _ _ hcall m' w' args' g r' hr F hm hl hlen rd (n - 1)) ?_⟩
      rintro e w'' ⟨m'', he2, F2, v', rfl, hv⟩
      simp only [stepPut, Option.some.injEq] at h
      exact hgo _ _ h.symm m'' w'' _ v' (he.trans he2) F2 hv rfl
    · rename_i v h2 hcall
      refine ⟨fun hh => (by cases hh), RoundIn.mono (hc.round _ _ _ _ _ hcall m' w' args' g r' hr F hm hl hlen rd (n - 1)) ?_⟩
      rintro e w'' ⟨m'', he2, F2, v', rfl, hv⟩
      simp only [Option.some.injEq] at h
      exact hpn _ _ h.symm m'' w'' v' (he.trans he2) F2 hv
    · cases h
  · rename_i v h1 e
    cases e
    obtain ⟨v', rfl, hv⟩ := ho
    simp only [Option.some.injEq] at h
    exact hpn _ _ h.symm m' w' v' he F hv
  · cases h
theorem RelAct.put1 {N : Nat} {a : AAct} {act : Act} (h : RelAct m N a act) {d : Option Tmp} (hd : ∀ t, d = some t → t < N) {v : AV} {v' : Value} (hv : Rel m v v') : RelAct m N (a.put d v) (act.put d v') :=
  h.put hd hv (ds := []) (ds' := []) .nil
theorem noDefer_mem {ops : Array Oper} (h : noDefer ops = true) {o : Oper} (ho : o ∈ ops.toList) : ∀ c, o.op ≠ .defer c := by
  intro c e
  have := List.all_eq_true.1 h o ho
  rw [e] at this
  cases this
/-- operations one behind the other -/
theorem opsR_ok (hc : BothOK P w0 both) {N : Nat} {ops : Array Oper} {e : AExit} {a1 : AAct} {h1 : AHeap} {m0 : Map} : ∀ (l : List Oper), (∀ o ∈ l, okDst N o = true) → (∀ o ∈ l, ∀ c, o.op ≠ .defer c) → ∀ (m : Map) (a : AAct) (act : Act) (H : AHeap) (w : World), Ext m0 m → RelAct m N a act → Fits w0 m H w → opsR P both ops l a H = some (e, a1, h1) →
    wpListIn (FW rd) n P ops (Post w0 m0 N e a1 h1) l act w := by
  intro l
  induction l with
  | nil =>
    intro _ _ m a act H w hm ha F h
    have h : some (AExit.normal, a, H) = some (e, a1, h1) := h
    simp only [Option.some.injEq, Prod.mk.injEq] at h
    obtain ⟨rfl, rfl, rfl⟩ := h
    exact ⟨m, hm, ha, F, .normal⟩
  | cons o l ih =>
    intro hl hnd m a act H w hm ha F h
    have h : aNext (opsR P both ops l) a (stepR P both ops o a H) = some (e, a1, h1) := h
    have ho := hl o (List.mem_cons_self ..)
    have hd' : ∀ t, o.dst = some t → t < N := by
      intro t ht
      simp only [okDst, ht] at ho
      exact Nat.le_of_ble_eq_true ho
    rw [wpListIn]
    cases hst : stepR P both ops o a H with
    | none => rw [hst] at h; cases h
    | some st =>
      rw [hst] at h
      unfold stepR at hst
      split at hst
      · rename_i hw
        rw [wanted_ok (fun t _ => ha.tmps t) hw]
        simp only [if_true]
        cases hop : opA P a.eval o H with
        | none => rw [hop] at hst; cases hst
        | some p =>
          obtain ⟨nx, H1⟩ := p
          rw [hop] at hst
          refine ⟨fun _ _ => trivial, ?_⟩
          rw [Oper.semAt_eq _ _ _ (hnd o (List.mem_cons_self ..))]
          refine uponR_ok hc (opA_ok F o (fun x _ v hv => eval_ok (fun t _ => ha.tmps t) v hv) hop) hst (fun a' h' e' m' w' v v' he F' hv ea => ?_) (fun v h' e' m' w' v' he F' hv => ?_)
          · subst e' ea
            exact ih (fun o ho => hl o (List.mem_cons_of_mem _ ho)) (fun o ho => hnd o (List.mem_cons_of_mem _ ho)) m' _ _ h' w' (hm.trans he) ((ha.mono he.le).put1 hd' hv) F' h
          · subst e'
            simp only [aNext, Option.some.injEq, Prod.mk.injEq] at h
            obtain ⟨rfl, rfl, rfl⟩ := h
            exact ⟨m', hm.trans he, ha.mono he.le, F', .panic hv⟩
      · rename_i hw
        rw [wanted_ok (fun t _ => ha.tmps t) hw]
        simp only [Bool.false_eq_true, if_false]
        simp only [stepPut, Option.some.injEq] at hst
        subst hst
        exact ⟨fun _ _ => trivial, ih (fun o ho => hl o (List.mem_cons_of_mem _ ho)) (fun o ho => hnd o (List.mem_cons_of_mem _ ho)) m _ _ H w hm (ha.put1 hd' (v := .tup []) (v' := undef) (.tup .nil)) F h⟩
      · cases hst

/-! ### a drawn region, in whatever frame -/
variable {Q : Exit → Act → World → Prop}
theorem uponIn_of {o : Oper} {a : Act} {next next' : Act → World → Prop} {r : Result Next} (hn : ∀ a w, next a w → next' a w) (h : o.upon P a next Q r) : o.uponIn (FW rd) n P a next' Q r := by
  cases r with
  | ok x w' => cases x with
    | value v => exact hn _ _ h
    | skip => exact hn _ _ h
    | defer d => exact hn _ _ h
    | enter f args =>
      refine ⟨fun hh => (by cases hh), callsIn_fw (Calls.mono h ?_)⟩
      intro e w2 he
      cases e with
      | returned v => exact hn _ _ he
      | panicked c => exact he
      | outgrown => exact he
    | row row args =>
      refine ⟨fun hh => (by cases hh), fun c cs _ => ?_⟩
      obtain ⟨v, w2, r2, s⟩ := h c cs
      exact ⟨v, w2, hn _ _ r2, stepsIn_wide.2 s⟩
    | _ => exact h.elim
  | halt e w' => cases e with
    | panic v => exact h
    | _ => exact h.elim
theorem operIn_of {o : Oper} {a : Act} {w : World} {next next' : Act → World → Prop} (hd : ∀ c, o.op ≠ .defer c) (hn : ∀ a w, next a w → next' a w) (h : o.wp P a w next Q) : o.wpIn (FW rd) n P a w next' Q :=
  ⟨fun _ _ => trivial, by rw [Oper.semAt_eq _ _ _ hd]; exact uponIn_of hn h⟩
theorem opIn_of {ops : Array Oper} (hd : noDefer ops = true) (hQ : ¬ LetsOut Q) {i : Nat} {a : Act} {w : World} {K K' : Act → World → Prop} (hn : ∀ a w, K a w → K' a w) (h : wpOp P ops Q i K a w) : wpOpIn (FW rd) n P ops Q i K' a w := by
  unfold wpOp at h
  unfold wpOpIn
  split at h
  · rename_i ho
    rw [ho]
    exact hn _ _ h
  · rename_i o ho
    rw [ho]
    dsimp only
    have hm : o ∈ ops.toList := by
      obtain ⟨h1, h2⟩ := Array.getElem?_eq_some_iff.1 ho
      rw [← h2]
      simp
    by_cases hw : Region.wanted o (yielded ops a.tmps) = true
    · rw [if_pos hw] at h ⊢
      rcases h with h | ⟨_, h⟩
      · exact operIn_of (noDefer_mem hd hm) hn h
      · exact (hQ h).elim
    · rw [if_neg hw] at h ⊢
      exact ⟨fun _ _ => trivial, hn _ _ h⟩
theorem anyIn_of {ops : Array Oper} {md : Region.Mode} (hd : noDefer ops = true) (hQ : ¬ LetsOut Q) : ∀ (fuel : Nat) (listed : Array Bool) (a : Act) (w : World), wpAny P md ops Q fuel listed a w → wpAnyIn (FW rd) n P md ops Q fuel listed a w
  | 0, _, _, _, h => h
  | fuel + 1, _, _, _, h => ⟨h.1, fun i hi => opIn_of hd hQ (fun a w hk => anyIn_of hd hQ fuel _ a w hk) (h.2 i hi)⟩
theorem draw_any {call : CallF} {ops : Array Oper} {a : AAct} {act : Act} (hc : CallOK P w0 call) {N : Nat} (hN : ∀ o ∈ ops.toList, okDst N o = true) {e1 : AExit} {a1 : AAct} {h1 : AHeap} (ha : RelAct m N a act) (F : Fits w0 m H w) (h : aDraw P call ops a H = some (e1, a1, h1)) :
    wpAny P .any ops (Post w0 m N e1 a1 h1) ops.size (Array.replicate ops.size false) act { w with drawn := w.drawn + 1 } := by
  unfold aDraw at h
  split at h
  · rename_i p hp
    unfold planOf at hp
    split at hp
    · rename_i hc'
      simp only [Bool.and_eq_true] at hc'
      simp only [Option.some.injEq] at hp
      subst hp
      refine any_ok hc hc'.1 hN ops.size _ [] _ a H [] (fun _ => none) m act _ ?_ hc'.2 h (by simp [Array.countP_replicate])
      have no : ∀ i : Nat, (Array.replicate ops.size false)[i]? ≠ some true := by
        intro i hi
        rw [Array.getElem?_replicate] at hi
        split at hi <;> cases hi
      exact {
        size := by simp
        sub := fun i h => (no i h).elim
        lt := fun i h => by simp at h
        closedS := fun i h => (no i h).elim
        ord := .nil
        kind := fun i h => by simp at h
        fits := F.drew
        ext := Ext.refl m
        asize := ha.size
        slots := fun t => .inr (ha.tmps t)
        defers := ha.defers
        pend := fun i h => by simp at h
        inj := fun _ _ _ h => by cases h
        idlt := fun _ _ h => by cases h }
    · cases hp
  · cases h
theorem post_keeps {N : Nat} {e : AExit} {a : AAct} {h : AHeap} : ¬ LetsOut (Post w0 m N e a h) := by
  rintro ⟨a2, w2, m2, hx, ha2, F2, hex⟩
  cases hex
end
end
end Go.Proofs.Ytpnccmlajhhpdaa.Abs
