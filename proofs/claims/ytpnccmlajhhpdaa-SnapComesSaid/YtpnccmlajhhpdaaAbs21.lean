/- What calls come to: from the walk of a body; what is said of functions put together. -/
import Derived.Test.YtpnccmlajhhpdaaAbs20
namespace Go.Proofs.Ytpnccmlajhhpdaa.Abs
noncomputable section
open Go.RowKit

/-- the call comes to this, wherever the rows lie -/
def Says (P : Program) (f : FuncId) (args : List AV) (h : AHeap) (r : ARes) (h' : AHeap) : Prop :=
  ∀ (w0 : Base) (m : Map) (w : World) (args' : List Value), RelL m args args' → Fits w0 m h w → Calls P f ⟨args'⟩ w (RetOK w0 m h' r)
/-- all that is said is so -/
def SaysAll (P : Program) (call : CallF) : Prop := ∀ (f : FuncId) (args : List AV) (h : AHeap) (r : ARes) (h' : AHeap), call f args h = some (r, h') → Says P f args h r h'
theorem SaysAll.ok {P : Program} {call : CallF} (hs : SaysAll P call) (w0 : Base) : CallOK P w0 call := fun f args h r h' hr m w args' ha F => hs f args h r h' hr w0 m w args' ha F
theorem SaysAll.of {P : Program} {call : CallF} (hs : ∀ w0, CallOK P w0 call) : SaysAll P call := fun f args h r h' hr w0 m w args' ha F => hs w0 f args h r h' hr m w args' ha F

/-- of one function -/
abbrev FnT := List AV → AHeap → Option (ARes × AHeap)
def Holds (P : Program) (f : FuncId) (s : FnT) : Prop := ∀ (args : List AV) (h : AHeap) (r : ARes) (h' : AHeap), s args h = some (r, h') → Says P f args h r h'
/-- of some functions -/
def callOf : List (FuncId × FnT) → CallF
  | [], _, _, _ => none
  | (g, s) :: l, f, args, h => match Nat.beq g f with
    | true => s args h
    | false => callOf l f args h
theorem callOf_nil {P : Program} : SaysAll P (callOf []) := fun _ _ _ _ _ h => by cases h
theorem callOf_cons {P : Program} {g : FuncId} {s : FnT} {l : List (FuncId × FnT)} (hs : Holds P g s) (hl : SaysAll P (callOf l)) : SaysAll P (callOf ((g, s) :: l)) := by
  intro f args h r h' hr
  unfold callOf at hr
  split at hr
  · rename_i e
    have := Nat.eq_of_beq_eq_true e
    subst this
    exact hs _ _ _ _ hr
  · exact hl _ _ _ _ _ hr

/-! ### results -/
def resG (P : Program) (g : Nat → Option AV) (h : AHeap) : ResultVar → Option AV
  | .tmp t => g t
  | .cell t ty => match opLoad P h ty (g t) with
    | some (.val v, _) => some v
    | _ => none
def resGs (P : Program) (g : Nat → Option AV) (h : AHeap) : List ResultVar → Option (List AV)
  | [] => some []
  | r :: l => match resG P g h r, resGs P g h l with
    | some v, some vs => some (v :: vs)
    | _, _ => none
theorem resGs_eq (P : Program) (a : AAct) (h : AHeap) : ∀ (l : List ResultVar), resGs P a.tmps.get h l = resAll P a h l
  | [] => rfl
  | r :: l => by
    have h1 : resG P a.tmps.get h r = resA P a h r := by cases r <;> rfl
    simp only [resGs, resAll, resGs_eq P a h l, h1]
    cases resA P a h r <;> cases resAll P a h l <;> rfl

section
variable {P : Program} {w0 : Base} {m0 : Map} {N : Nat} {l l' : Fr} {ds : DefT} {h h' : AHeap} {r : ARes}
/-- what a body is to come to -/
abbrev Fin (P : Program) (fn : Func) (w0 : Base) (m0 : Map) (r : ARes) (h' : AHeap) : Exit → Act → World → Prop := bodyPostD P fn (RetOK w0 m0 h' r)
theorem Go.leave {fn : Func} (hr : retA h (resGs P l.get h fn.results.toList) = some (r, h')) : Go w0 m0 N (Fin P fn w0 m0 r h' .ret) l [] h := by
  intro m act w he ha F
  have hr : retA h (resAll P ⟨l.tree, []⟩ h fn.results.toList) = some (r, h') := by
    rw [← resGs_eq]
    show retA h (resGs P l.tree.get h _) = _
    rw [Fr.fget_tree]
    exact hr
  obtain ⟨v, v', rfl, rfl, hrun, hv⟩ := results_ok ha.tmps F hr
  have hd : act.defers = [] := (ha.defers).nil_eq
  show Leaves P fn act.tmps (RetOK w0 m0 h' (.ret v)) act.defers .returning w
  rw [hd]
  exact ⟨v', hrun, m, he, F, v', rfl, hv⟩
theorem Go.leaveN {fn : Func} (hr : retA h (resGs P l.get h fn.results.toList) = some (r, h')) : Go w0 m0 N (Fin P fn w0 m0 r h' .normal) l [] h :=
  fun m act w he ha F => Go.leave (m0 := m0) (N := N) hr m act w he ha F
theorem panic_leave {fn : Func} {v : AV} {v' : Value} {m : Map} (he : Ext m0 m) (hv : Rel m v v') {act : Act} {w : World} (ha : RelAct m N ⟨l.tree, []⟩ act) (F : Fits w0 m h' w) : Fin P fn w0 m0 (.panic v) h' (.panic [{ v := v', recovered := false }]) act w := by
  have hd : act.defers = [] := (ha.defers).nil_eq
  show Leaves P fn act.tmps (RetOK w0 m0 h' (.panic v)) act.defers (.panicking [{ v := v', recovered := false }]) w
  rw [hd]
  exact ⟨m, he, F, v', rfl, hv⟩

def argsFr : Nat → List AV → Fr
  | _, [] => []
  | i, v :: l => (i, v) :: argsFr (i + 1) l
theorem argsFr_get : ∀ (l : List AV) (i t : Nat) (v : AV), (argsFr i l).get t = some v → i ≤ t ∧ l[t - i]? = some v
  | [], i, t, v, h => by cases h
  | x :: l, i, t, v, h => by
    unfold argsFr Fr.get at h
    split at h
    · rename_i e
      have := Nat.eq_of_beq_eq_true e
      subst this
      simp only [Option.some.injEq] at h; subst h
      simp
    · obtain ⟨h1, h2⟩ := argsFr_get l (i + 1) t v h
      refine ⟨by omega, ?_⟩
      rw [show t - i = (t - (i + 1)) + 1 by omega, List.getElem?_cons_succ]
      exact h2
/-- FROM THE WALK OF A BODY TO WHAT ITS CALL COMES TO -/
theorem says_of {f : FuncId} {fn : Func} {args : List AV} (hf : P.funcs[f]? = some fn) {c : Code} (hb : fn.body = some c) (hlen : Nat.ble args.length fn.ntmps = true)
    (hw : ∀ w0 m0, W P w0 m0 fn.ntmps c (Fin P fn w0 m0 r h') (argsFr 0 args) [] h) : Says P f args h r h' := by
  intro w0 m w args' ha F
  have hlen := Nat.le_of_ble_eq_true hlen
  have hl := ha.length
  have hra : RelAct m fn.ntmps ⟨(argsFr 0 args).tree, []⟩ { tmps := (⟨args'⟩ : Array Value) ++ Array.replicate (fn.ntmps - (⟨args'⟩ : Array Value).size) undef, defers := [] } := {
    size := by simp; omega
    tmps := fun t v hv => by
      have hv : (argsFr 0 args).tree.get t = some v := hv
      rw [Fr.get_tree] at hv
      obtain ⟨_, hv⟩ := argsFr_get _ _ _ _ hv
      rw [Nat.sub_zero] at hv
      obtain ⟨y, hy, hr⟩ := ha.get t v hv
      have ht : t < args'.length := (List.getElem?_eq_some_iff.1 hy).1
      refine ⟨y, ?_, hr⟩
      simp only
      rw [Array.getElem?_append_left (by simpa using ht)]
      simpa using hy
    defers := .nil }
  exact calls_of_wp_defers hf hb (hw w0 m m _ w (Ext.refl m) hra F)
theorem bodyA_says {call : CallF} {lf : Nat} (hm : P.follows .mixedOrders = true) (hc : SaysAll P call) {f : FuncId} {args : List AV} (hr : bodyA P call lf f args h = some (r, h')) : Says P f args h r h' :=
  fun w0 m w args' ha F => body_ok hm (hc.ok w0) f args h r h' hr m w args' ha F
theorem callA_says {lf d : Nat} (hm : P.follows .mixedOrders = true) {f : FuncId} {args : List AV} (hr : callA P (fun _ => none) lf d f args h = some (r, h')) : Says P f args h r h' :=
  fun w0 m w args' ha F => callA_ok hm (noSpec_ok w0) d f args h r h' hr m w args' ha F
end

/-! ### what is no part of memory -/
mutual
def AV.scal : AV → Bool
  | .bool _ | .int _ _ | .str _ _ | .nilp | .nsl | .nmp | .nfn | .nifc => true
  | .fn _ a b => AV.scalL a && AV.scalL b
  | .ifc _ v => AV.scal v
  | .agg l => AV.scalL l
  | .tup l => AV.scalL l
  | _ => false
def AV.scalL : List AV → Bool
  | [] => true
  | x :: l => AV.scal x && AV.scalL l
end
mutual
theorem Rel.scal {m m' : Map} : ∀ {x : AV} {y : Value}, Rel m x y → x.scal = true → Rel m' x y
  | _, _, .bool b, _ => .bool b
  | _, _, .int k n, _ => .int k n
  | _, _, .str s hn hv, _ => .str s hn hv
  | _, _, .ptr _, h => by simp [AV.scal] at h
  | _, _, .nilp, _ => .nilp
  | _, _, .sl _ _ _, h => by simp [AV.scal] at h
  | _, _, .nsl, _ => .nsl
  | _, _, .esl _ _, h => by simp [AV.scal] at h
  | _, _, .mp _, h => by simp [AV.scal] at h
  | _, _, .nmp, _ => .nmp
  | _, _, .fn a b, h => by
    simp only [AV.scal, Bool.and_eq_true] at h
    exact .fn (RelL.scal a h.1) (RelL.scal b h.2)
  | _, _, .nfn, _ => .nfn
  | _, _, .ifc a, h => by
    simp only [AV.scal] at h
    exact .ifc (Rel.scal a h)
  | _, _, .nifc, _ => .nifc
  | _, _, .agg a, h => by
    simp only [AV.scal] at h
    exact .agg (RelL.scal a h)
  | _, _, .tup a, h => by
    simp only [AV.scal] at h
    exact .tup (RelL.scal a h)
theorem RelL.scal {m m' : Map} : ∀ {x : List AV} {y : List Value}, RelL m x y → AV.scalL x = true → RelL m' x y
  | _, _, .nil, _ => .nil
  | _, _, .cons a b, h => by
    simp only [AV.scalL, Bool.and_eq_true] at h
    exact .cons (Rel.scal a h.1) (RelL.scal b h.2)
end
def ARes.val : ARes → AV
  | .ret v => v
  | .panic v => v
theorem Calls.keep {P : Program} {f : FuncId} {args : Array Value} {w : World} {R R' : Ending → World → Prop} (h : Calls P f args w R) (hr : ∀ e w', R e w' → R' e w') : Calls P f args w R' := Calls.mono h hr
/-- WHAT A CALL OF PLAIN VALUES COMES TO WITHOUT MEMORY IT COMES TO IN ANY, which stays as it was. -/
theorem Says.any {P : Program} {f : FuncId} {args : List AV} {r : ARes} {X : List Nat} {hF : AHeap} (hs : Says P f args ⟨0, X, .e⟩ r hF) (ha : AV.scalL args = true) (hv : r.val.scal = true) (h : AHeap) : Says P f args h r h := by
  intro w0 m w args' hra F
  refine Calls.keep (hs w [] w args' (RelL.scal hra ha) (fits_start w X)) ?_
  rintro e w' ⟨m', _, F', hres⟩
  refine ⟨m, Ext.refl m, ?_, ?_⟩
  · refine F.world ?_ ?_ (fun k o hk => F'.below.block k (heap_lt (F.pin k o hk).1)) F'.below.size
    · exact (F.below).trans (F'.below.mono F.size)
    · intro b o g s z hb ho hm
      exact F'.below.block g (F.mapped_lt hb ho hm)
  · cases r with
    | ret v => obtain ⟨v', e1, e2⟩ := hres; exact ⟨v', e1, e2.scal hv⟩
    | panic v => obtain ⟨v', e1, e2⟩ := hres; exact ⟨v', e1, e2.scal hv⟩
end
end Go.Proofs.Ytpnccmlajhhpdaa.Abs
