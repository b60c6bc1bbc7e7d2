/- All of it: a call comes to what the small machine says. -/
import Derived.Test.YtpnccmlajhhpdaaAbs18
namespace Go.Proofs.Ytpnccmlajhhpdaa.Abs
noncomputable section
open Go.RowKit

section
variable {P : Program} {m : Map} {w0 : Base} {w : World} {lf : Nat} {call : CallF} {H : AHeap}

theorem CallsD.mono {f : FuncId} {args : Array Value} {u : FrameMode} {w : World} {R R' : Ending → FrameMode → World → Prop} (h : CallsD P f args u w R) (hr : ∀ e u' w', R e u' w' → R' e u' w') : CallsD P f args u w R' :=
  fun c cs hu => let ⟨e, u', w', fr, r, rest⟩ := h c cs hu; ⟨e, u', w', fr, hr _ _ _ r, rest⟩
theorem RetOK.ext {m m1 : Map} (hm : Ext m m1) {h' : AHeap} {r : ARes} {e : Ending} {w' : World} (hp : RetOK w0 m1 h' r e w') : RetOK w0 m h' r e w' := by
  obtain ⟨m', h1, h2⟩ := hp
  exact ⟨m', hm.trans h1, h2⟩
theorem Leaves.mono {fn : Func} {tmps : Array Value} {R R' : Ending → World → Prop} (hr : ∀ e w, R e w → R' e w) : ∀ (ds : List Deferred) (u : FrameMode) (w : World), Leaves P fn tmps R ds u w → Leaves P fn tmps R' ds u w := by
  intro ds
  induction ds with
  | nil =>
    intro u w h
    cases u with
    | run => exact h
    | returning => obtain ⟨v, h1, h2⟩ := h; exact ⟨v, h1, hr _ _ h2⟩
    | panicking chain => exact hr _ _ h
  | cons d ds ih =>
    intro u w h
    obtain ⟨h1, fv, cap, f, args, h2, h3, h4⟩ := h
    refine ⟨h1, fv, cap, f, args, h2, h3, CallsD.mono h4 ?_⟩
    intro e u' w' he
    cases e with
    | returned v => exact ih _ _ he
    | panicked chain => exact ih _ _ he
    | outgrown => exact hr _ _ he
/-- the deferred calls, one behind the other -/
theorem runD_ok (hm : P.follows .mixedOrders = true) (hc : CallOK P w0 call) {fn : Func} {a : AAct} {act : Act} {r : ARes} {h' : AHeap} : ∀ (ds : List (FuncId × List AV × List AV)) (u : Option AV) (h : AHeap), runD P call lf fn a ds u h = some (r, h') →
    ∀ (m : Map) (ds' : List Deferred) (mode : FrameMode) (w : World), (∀ t, Slot m a act t) → RelD m ds ds' → RelU m u mode → Fits w0 m h w → Leaves P fn act.tmps (RetOK w0 m h' r) ds' mode w := by
  intro ds
  induction ds with
  | nil =>
    intro u h hr m ds' mode w hs hds hu F
    have := hds.nil_eq
    subst this
    cases hu with
    | ret =>
      simp only [runD] at hr
      obtain ⟨v, v', rfl, rfl, hrun, hv⟩ := results_ok hs F hr
      exact ⟨v', hrun, m, Ext.refl m, F, v', rfl, hv⟩
    | @panic v v' hv =>
      simp only [runD, Option.some.injEq, Prod.mk.injEq] at hr
      obtain ⟨rfl, rfl⟩ := hr
      exact ⟨m, Ext.refl m, F, v', rfl, hv⟩
  | cons d ds ih =>
    intro u h hr m ds' mode w hs hds hu F
    cases hds with
    | mark _ _ => cases hr
    | @cons f args cap args' cap' _ l' h1 h2 h3 =>
    simp only [runD] at hr
    split at hr
    · cases hr
    split at hr
    · rename_i u2 h2' hd
      obtain ⟨hbody, hcall⟩ := callD_ok hm hc hd (h1.append h2) hu F
      refine ⟨?_, .func f, ⟨cap'⟩, f, ⟨args' ++ cap'⟩, rfl, ?_, CallsD.mono hcall ?_⟩
      · cases hu <;> simp
      · simp only [invoke]
        have : (⟨args'⟩ ++ ⟨cap'⟩ : Array Value) = ⟨args' ++ cap'⟩ := by simp
        rw [this]
        exact hasBody_ok hbody _ w
      · rintro e u' w' ⟨⟨v, rfl⟩, m', hx, F', hu'⟩
        exact Leaves.mono (fun e w he => he.ext hx) _ _ _ (ih u2 h2' hr m' l' (settle u') w' (fun t => (hs t).mono hx.le) (h3.mono hx.le) hu' F')
    · cases hr
/-- a function's body -/
theorem body_ok (hm : P.follows .mixedOrders = true) (hc : CallOK P w0 call) : CallOK P w0 (bodyA P call lf) := by
  intro f args h r h' hr m w args' ha F
  unfold bodyA at hr
  split at hr
  · cases hr
  · rename_i fn hf
    split at hr
    · cases hr
    · rename_i c hb
      split at hr
      · rename_i hlen
        have hlen := Nat.le_of_ble_eq_true hlen
        have hl := ha.length
        have hra : RelAct m fn.ntmps ⟨T.put .e 0 args, []⟩ { tmps := (⟨args'⟩ : Array Value) ++ Array.replicate (fn.ntmps - (⟨args'⟩ : Array Value).size) undef, defers := [] } := {
          size := by simp; omega
          tmps := fun t v hv => by
            simp only [T.get_put] at hv
            split at hv
            · rename_i hin
              simp only [Nat.sub_zero] at hv
              obtain ⟨y, hy, hr⟩ := ha.get t v hv
              have ht : t < args'.length := by omega
              refine ⟨y, ?_, hr⟩
              simp only
              rw [Array.getElem?_append_left (by simpa using ht)]
              simpa using hy
            · rw [T.get_e] at hv; cases hv
          defers := .nil }
        refine calls_of_wp_defers hf hb ?_
        cases hcode : aCode P call lf fn.ntmps c ⟨T.put .e 0 args, []⟩ h with
        | none => rw [hcode] at hr; cases hr
        | some p =>
          obtain ⟨e, a2, h2⟩ := p
          rw [hcode] at hr
          refine wp_mono (aCode_ok hm hc c _ _ _ _ _ hcode m _ w hra F) ?_
          rintro e' act2 w2 ⟨m2, hx2, hra2, F2, hex⟩
          cases hex with
          | normal => exact Leaves.mono (fun e w he => he.ext hx2) _ _ _ (runD_ok hm hc _ none h2 hr m2 _ .returning w2 hra2.tmps hra2.defers .ret F2)
          | ret => exact Leaves.mono (fun e w he => he.ext hx2) _ _ _ (runD_ok hm hc _ none h2 hr m2 _ .returning w2 hra2.tmps hra2.defers .ret F2)
          | panic hv => exact Leaves.mono (fun e w he => he.ext hx2) _ _ _ (runD_ok hm hc _ _ h2 hr m2 _ _ w2 hra2.tmps hra2.defers (.panic hv) F2)
          | exit id => cases hr
          | goto l => cases hr
      · cases hr

/-- what is said of the library holds -/
def SpecOK (P : Program) (w0 : Base) (spec : SpecT) : Prop := ∀ (f : FuncId) (s : CallF → List AV → AHeap → Option (ARes × AHeap)), spec f = some s → ∀ (call : CallF), CallOK P w0 call → CallOK P w0 (fun g args h => if g = f then s call args h else none)
theorem noSpec_ok (w0 : Base) : SpecOK P w0 (fun _ => none) := fun _ _ h => by cases h
theorem callA_ok (hm : P.follows .mixedOrders = true) {spec : SpecT} (hs : SpecOK P w0 spec) : ∀ (d : Nat), CallOK P w0 (callA P spec lf d)
  | 0 => fun _ _ _ _ _ h => by cases h
  | d + 1 => by
    have ih := callA_ok hm hs d
    intro f args h r h' hr
    have hr : (match spec f with
      | some s => s (callA P spec lf d) args h
      | none => bodyA P (callA P spec lf d) lf f args h) = some (r, h') := hr
    split at hr
    · rename_i s hspec
      exact hs f s hspec _ ih f args h r h' (by simpa using hr)
    · exact body_ok hm ih f args h r h' hr
theorem fits_start (W : World) (X : List Nat) : Fits W [] ⟨0, X, .e⟩ W where
  pin k o hk := by cases hk
  floor := Nat.zero_le _
  below := Below.refl _ _
  len := rfl
  fresh b _ := T.get_e b
  wf b n t e h := by
    have : (T.e : T AObj).get b = some (.row n t e) := h
    rw [T.get_e] at this; cases this
  row b n t e g s z h := by
    have : (T.e : T AObj).get b = some (.row n t e) := h
    rw [T.get_e] at this; cases this
  map b es g s z h := by
    have : (T.e : T AObj).get b = some (.map es) := h
    rw [T.get_e] at this; cases this
  glob b t h := by
    have : (T.e : T AObj).get b = some (.glob t) := h
    rw [T.get_e] at this; cases this
  obj b q g s z h := by
    have : (T.e : T AObj).get b = some (.obj q) := h
    rw [T.get_e] at this; cases this
  exact b n t e g s z h := by
    have : (T.e : T AObj).get b = some (.row n t e) := h
    rw [T.get_e] at this; cases this
  ro b t g s z h := by
    have : (T.e : T AObj).get b = some (.ro t) := h
    rw [T.get_e] at this; cases this
  sep b b' o o' g s z s' z' _ h := by
    have : (T.e : T AObj).get b = some o := h
    rw [T.get_e] at this; cases this

/-- did it return true? -/
def saysTrue : Option (ARes × AHeap) → Bool
  | some (.ret (.bool b), _) => b
  | _ => false
/-- A CALL WITHOUT ARGUMENTS THAT THE SMALL MACHINE SAYS RETURNS TRUE RETURNS TRUE, and leaves what was there as it was. -/
theorem says_true (hm : P.follows .mixedOrders = true) {spec : SpecT} (hs : ∀ w0, SpecOK P w0 spec) {d : Nat} {f : FuncId} {X : List Nat} (h : saysTrue (callA P spec lf d f [] ⟨0, X, .e⟩) = true) (W : World) : Calls P f #[] W fun e W' => e = .returned (.bool true) ∧ Below W.heap.size W W' := by
  unfold saysTrue at h
  split at h
  · rename_i b h' hr
    subst h
    refine Calls.mono (callA_ok (w0 := W) hm (hs W) d f [] _ _ _ hr [] W [] .nil (fits_start W X)) ?_
    rintro e W' ⟨m', _, F, v', rfl, hv⟩
    cases hv
    exact ⟨rfl, F.below⟩
  · cases h
end

end
end Go.Proofs.Ytpnccmlajhhpdaa.Abs
