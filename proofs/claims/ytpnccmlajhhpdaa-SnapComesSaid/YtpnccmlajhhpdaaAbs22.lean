/- Calls of plain values that have been looked up. -/
import Derived.Test.YtpnccmlajhhpdaaAbs21
namespace Go.Proofs.Ytpnccmlajhhpdaa.Abs
noncomputable section
open Go.RowKit

def ARes.same : ARes → ARes → Bool
  | .ret v, .ret w => AV.same v w
  | .panic v, .panic w => AV.same v w
  | _, _ => false
theorem ARes.same_eq {r s : ARes} (h : ARes.same r s = true) : r = s := by
  cases r <;> cases s <;> first | (simp only [ARes.same] at h; rw [AV.same_eq _ _ h]) | cases h
abbrev Memo := List (FuncId × List AV × ARes)
def Memo.has : Memo → FuncId → Bool
  | [], _ => false
  | (g, _) :: l, f => match Nat.beq g f with
    | true => true
    | false => Memo.has l f
def Memo.find : Memo → FuncId → List AV → Option ARes
  | [], _, _ => none
  | (g, as, r) :: l, f, args => match Nat.beq g f with
    | true => match AV.sameL as args with
      | true => some r
      | false => Memo.find l f args
    | false => Memo.find l f args
def Memo.run (P : Program) (lf : Nat) (L : Memo) (f : FuncId) (call : CallF) (args : List AV) (h : AHeap) : Option (ARes × AHeap) := match L.find f args with
  | some r => some (r, h)
  | none => bodyA P call lf f args h
def Memo.spec (P : Program) (lf : Nat) (L : Memo) : SpecT := fun f => match L.has f with
  | true => some (fun call args h => L.run P lf f call args h)
  | false => none
/-- what was looked up is so -/
def Memo.ok (P : Program) (L : Memo) : Prop := ∀ f args r, L.find f args = some r → ∀ h, Says P f args h r h
theorem Memo.ok_nil {P : Program} : Memo.ok P [] := fun _ _ _ h => by cases h
theorem Memo.ok_cons {P : Program} {f : FuncId} {args : List AV} {r : ARes} {L : Memo} (h1 : ∀ h, Says P f args h r h) (h2 : Memo.ok P L) : Memo.ok P ((f, args, r) :: L) := by
  intro g as s hf h
  unfold Memo.find at hf
  split at hf
  · rename_i e
    have := Nat.eq_of_beq_eq_true e
    subst this
    split at hf
    · rename_i e2
      rw [AV.sameL_eq _ _ e2] at h1
      simp only [Option.some.injEq] at hf; subst hf
      exact h1 h
    · exact h2 _ _ _ hf h
  · exact h2 _ _ _ hf h
theorem Memo.specOK {P : Program} (hm : P.follows .mixedOrders = true) {lf : Nat} {L : Memo} (hL : L.ok P) (w0 : Base) : SpecOK P w0 (L.spec P lf) := by
  intro f s hs call hc g args h r h' hr
  unfold Memo.spec at hs
  split at hs
  · simp only [Option.some.injEq] at hs; subst hs
    have hr : (if g = f then L.run P lf f call args h else none) = some (r, h') := hr
    split at hr
    · rename_i e
      subst e
      unfold Memo.run at hr
      split at hr
      · rename_i r2 hf
        simp only [Option.some.injEq, Prod.mk.injEq] at hr
        obtain ⟨rfl, rfl⟩ := hr
        exact fun m w args' ha F => hL _ _ _ hf h w0 m w args' ha F
      · exact body_ok hm hc g args h r h' hr
    · cases hr
  · cases hs
/-- did it come to this? -/
def came (r : ARes) : Option (ARes × AHeap) → Bool
  | some (s, _) => ARes.same s r
  | none => false
theorem Memo.says {P : Program} (hm : P.follows .mixedOrders = true) {lf d : Nat} {L : Memo} (hL : L.ok P) {f : FuncId} {args : List AV} {r : ARes} {X : List Nat} (ha : AV.scalL args = true) (hv : r.val.scal = true)
    (hr : came r (callA P (L.spec P lf) lf d f args ⟨0, X, .e⟩) = true) (h : AHeap) : Says P f args h r h := by
  unfold came at hr
  split at hr
  · rename_i s hF e
    have := ARes.same_eq hr
    subst this
    refine Says.any (X := X) (hF := hF) ?_ ha hv h
    exact fun w0 m w args' ha F => callA_ok hm (Memo.specOK hm hL w0) d f args _ _ _ e m w args' ha F
  · cases hr
end
end Go.Proofs.Ytpnccmlajhhpdaa.Abs
