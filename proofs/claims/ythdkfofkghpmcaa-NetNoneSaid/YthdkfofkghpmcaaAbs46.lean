/- A run from given plain inputs, cut where one operation is done by hand. -/
import Derived.Test.YthdkfofkghpmcaaAbs45
namespace Go.Proofs.Ythdkfofkghpmcaa.Abs
noncomputable section
open Go.RowKit

/-- the beginning of a call -/
def startMS (P : Program) (X : List Nat) (f : FuncId) (args : List AV) : MS := ⟨⟨f, match P.funcs[f]? with
  | some fn => fn.ntmps
  | none => 0, ⟨T.put .e 0 args, []⟩, [.code []]⟩, [], ⟨0, X, .e⟩⟩
theorem runsM_args {P : Program} {X : List Nat} {f : FuncId} {W : World} {fn : Func} (hf : P.funcs[f]? = some fn) (hs : fn.body.isSome = true) {args : List AV} {args' : List Value} (hlen : args.length ≤ fn.ntmps) (ha : RelL [] args args') (h : RunsM P W (R1 W) (startMS P X f args)) :
    Calls P f ⟨args'⟩ W (R1 W) := by
  obtain ⟨c, hc⟩ := Option.isSome_iff_exists.1 hs
  have F := fits_start W X
  have hl := ha.length
  have hN : (startMS P X f args).top.N = fn.ntmps := by simp only [startMS, hf]
  have hra : RelAct [] (startMS P X f args).top.N ⟨T.put .e 0 args, []⟩ { tmps := (⟨args'⟩ : Array Value) ++ Array.replicate (fn.ntmps - (⟨args'⟩ : Array Value).size) undef, defers := [] } := {
    size := by rw [hN]; simp; omega
    tmps := fun t v hv => by
      simp only [T.get_put] at hv
      split at hv
      · rename_i hin
        simp only [Nat.sub_zero] at hv
        obtain ⟨y, hy, hr⟩ := ha.get t v hv
        have ht : t < args'.length := by omega
        refine ⟨y, ?_, hr⟩
        simp only
        rw [Array.getElem?_append_left (by simpa using ht)]
        simpa using hy
      · rw [T.get_e] at hv; cases hv
    defers := .nil }
  have := h [] [] _ W .nil hra F
  have this : (bodyAt P f).wpIn Fence.wide 0 P (Bo P f (R1 W)) _ W := this
  have hb : bodyAt P f = c := by simp only [bodyAt, hf, hc, Option.getD_some]
  have hB : Bo P f (R1 W) = bodyPostX P fn (R1 W) := by
    unfold Bo
    rw [hf]
  rw [hb, hB] at this
  exact calls_of_wp_X hf hc (wpIn_wide.1 this)
theorem says_of_R1 {P : Program} {f : FuncId} {args : List AV} (hs : ∀ (W : World) (args' : List Value), RelL [] args args' → Calls P f ⟨args'⟩ W (R1 W)) (ha : AV.scalL args = true) (h : AHeap) : Says P f args h (.ret (.bool true)) h := by
  intro w0 m w args' hra F
  refine Calls.keep (hs w args' (RelL.scal hra ha)) ?_
  rintro e w' ⟨rfl, hb⟩
  refine ⟨m, Ext.refl m, ?_, .bool true, rfl, .bool true⟩
  refine F.world (F.below.trans (hb.mono F.size)) (fun b o g s z hb' ho hm => hb.block g (F.mapped_lt hb' ho hm)) (fun k o hk => hb.block k (heap_lt (F.pin k o hk).1)) hb.size
/-- a call of plain inputs that returns true -/
theorem says_both {P : Program} (hm : P.follows .mixedOrders = true) {spec : SpecT} (hs : ∀ w0, SpecOK P w0 spec) {L X : List Nat} {lf d : Nat} {f : FuncId} {args : List AV} (hr : saysTrue (bothA P spec (fun _ _ => none) L lf d false f args ⟨0, X, .e⟩) = true) (ha : AV.scalL args = true) (h : AHeap) : Says P f args h (.ret (.bool true)) h := by
  refine says_of_R1 (fun W args' hra => ?_) ha h
  unfold saysTrue at hr
  split at hr
  · rename_i b h' he
    subst hr
    refine Calls.mono ((bothA_ok hm (hs W) (fun _ _ _ hk => by cases hk) d).call f args _ _ h' he [] W args' hra (fits_start W X)) ?_
    rintro e w' ⟨m', _, F, v', rfl, hv⟩
    cases hv
    exact ⟨rfl, F.below⟩
  · cases hr
/-- a piece whose end is what it comes to -/
theorem runM_self {P : Program} {both : BothF} {lf : Nat} {l : List MI} {S : MS} (h : (runM P both lf l S).isSome = true) : runM P both lf l S = some ((runM P both lf l S).getD S) := by
  cases hr : runM P both lf l S with
  | none => rw [hr] at h; cases h
  | some S' => rfl
end
end Go.Proofs.Ythdkfofkghpmcaa.Abs
