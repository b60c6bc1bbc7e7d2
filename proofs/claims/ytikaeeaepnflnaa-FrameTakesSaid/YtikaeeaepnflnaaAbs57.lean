/- Loops over functions in plain functions: a loop's outcome, the marks at the end, a call of what is handed to an iterator. -/
import Derived.Test.YtikaeeaepnflnaaAbs47
import Derived.Test.YtikaeeaepnflnaaAbs56
namespace Go.Proofs.Ytikaeeaepnflnaa.Abs
noncomputable section
open Go.RowKit

def isRng : Code → Bool
  | .rangeFunc _ _ _ _ => true
  | _ => false
def Code.rgo : Code → Operand
  | .rangeFunc f _ _ _ => f
  | _ => .tmp 0
def Code.rgp : Code → Array Tmp
  | .rangeFunc _ ps _ _ => ps
  | _ => #[]
def Code.r1 : Code → Code
  | .rangeFunc _ _ x _ => x
  | _ => .skip
def Code.r2 : Code → Code
  | .rangeFunc _ _ _ y => y
  | _ => .skip
/-- the mark that a loop puts off -/
abbrev dmark (D : Nat) : FuncId × List AV × List AV := (0, [], [.mrk D])
/-- a loop over a function, in a frame of its own -/
def rngX (P : Program) (both : BothF) (N : Nat) (v : AV) (c : Code) (t : T AV) (ds : DefT) (h : AHeap) : CodeT := rangeR P both none N (some v) (Code.rgp c) (Code.r1 c) (Code.r2 c) ⟨t, ds⟩ h
def rngK (x : CodeT) (kn kr : AHeap → R) (ke : Nat → AHeap → R) : R := match x with
  | some (.normal, _, h) => kn h
  | some (.ret, _, h) => kr h
  | some (.exit id, _, h) => ke id h
  | _ => none
theorem rng_frame {P : Program} {both : BothF} {N : Nat} {f : Option AV} {ps : Array Tmp} {x y : Code} {t : T AV} {ds : DefT} {h h' : AHeap} {e : AExit} {a' : AAct} (hr : rangeR P both none N f ps x y ⟨t, ds⟩ h = some (e, a', h')) : a' = ⟨t, dmark h.next :: ds⟩ := by
  unfold rangeR at hr
  split at hr
  · split at hr
    · simp only [enterR] at hr
      unfold endR at hr
      split at hr
      · split at hr
        · split at hr
          · cases hr
          · split at hr <;> · simp only [Option.some.injEq, Prod.mk.injEq] at hr; exact hr.2.1.symm
        · cases hr
      · cases hr
    · cases hr
  · cases hr
section
variable {P : Program} {w0 : Base} {m0 : Map} {N : Nat} {n : Nat} {l l' : Fr} {ds : DefT} {h : AHeap} {Q : Exit → Act → World → Prop} {both : BothF} {r : ARes × AHeap} {kn kr : AHeap → R} {ke : Nat → AHeap → R} {v : AV}
theorem WR.rng (hc : BothAll P both) {c : Code} (z : rngK (rngX P both N v c l.tree ds h) kn kr ke = some r)
    (hn : ∀ h', kn h' = some r → Go w0 m0 N (Q .normal) l (dmark h.next :: ds) h') (hr : ∀ h', kr h' = some r → Go w0 m0 N (Q .ret) l (dmark h.next :: ds) h')
    (he : ∀ id h', ke id h' = some r → Go w0 m0 N (Q (.exit id)) l (dmark h.next :: ds) h') (hk : isRng c = true := by kernel_rfl) (hv : l.eval (Code.rgo c) = some v := by kernel_rfl) : WR P w0 m0 N none n c Q l ds h := by
  cases c with
  | rangeFunc f ps x y =>
    have hv : l.eval f = some v := hv
    unfold rngK rngX at z
    have hx : rangeR P both none N (some v) (Code.rgp (.rangeFunc f ps x y)) (Code.r1 (.rangeFunc f ps x y)) (Code.r2 (.rangeFunc f ps x y)) ⟨l.tree, ds⟩ h = rangeR P both none N (l.eval f) ps x y ⟨l.tree, ds⟩ h := by rw [hv]; rfl
    rw [hx] at z
    cases hr2 : rangeR P both none N (l.eval f) ps x y ⟨l.tree, ds⟩ h with
    | none => rw [hr2] at z; cases z
    | some p =>
      obtain ⟨e, a', h'⟩ := p
      have ha := rng_frame hr2
      subst ha
      rw [hr2] at z
      refine WR.range (l' := l) (hc w0) hr2 fun m act w e' hx hex ha F => ?_
      cases hex with
      | normal => exact hn h' z m act w hx ha F
      | ret => exact hr h' z m act w hx ha F
      | exit id => exact he id h' z m act w hx ha F
      | goto l => cases z
      | panic hv => cases z
  | _ => cases hk
/-! ### the marks at a function's end -/
def marksH : DefT → AHeap → Option AHeap
  | [], h => some h
  | (0, [], [.mrk D]) :: ds, h => match h.get D with
    | some (.obj .dfr) => marksH ds (h.put D (.obj .shut))
    | _ => none
  | _, _ => none
def marksK (ds : DefT) (h : AHeap) (k : AHeap → R) : R := match marksH ds h with
  | some h' => k h'
  | none => none
theorem marksR_H {fn : Func} {a : AAct} : ∀ (ds : DefT) (h h' : AHeap), marksH ds h = some h' → marksR P fn a ds h = retA h' (resAll P a h' fn.results.toList)
  | [], h, h', e => by
    simp only [marksH, Option.some.injEq] at e
    subst e
    rfl
  | d :: ds, h, h', e => by
    unfold marksH at e
    split at e
    · rename_i e'
      cases e'
    · rename_i D ds2 _ e'
      simp only [List.cons.injEq] at e'
      obtain ⟨rfl, rfl⟩ := e'
      split at e
      · rename_i hb
        have ih := marksR_H (fn := fn) (a := a) _ _ _ e
        simp only [marksR, hb]
        exact ih
      · cases e
    · cases e
theorem Go.leaveK {fn : Func} {rR : ARes} {hR : AHeap} {k : AHeap → R} (z : marksK ds h k = some (rR, hR)) (hk : ∀ h', k h' = some (rR, hR) → retA h' (resGs P l.get h' fn.results.toList) = some (rR, hR)) : Go w0 m0 N (FinM P fn w0 m0 rR hR .ret) l ds h := by
  unfold marksK at z
  split at z
  · rename_i h' hm
    refine Go.leaveM ?_
    rw [marksR_H _ _ _ hm]
    have := hk h' z
    rw [← resGs_eq]
    show retA h' (resGs P l.tree.get h' _) = _
    rw [Fr.fget_tree]
    exact this
  · cases z
theorem Go.leaveKN {fn : Func} {rR : ARes} {hR : AHeap} {k : AHeap → R} (z : marksK ds h k = some (rR, hR)) (hk : ∀ h', k h' = some (rR, hR) → retA h' (resGs P l.get h' fn.results.toList) = some (rR, hR)) : Go w0 m0 N (FinM P fn w0 m0 rR hR .normal) l ds h := Go.leaveK (P := P) z hk
end
theorem ret_of {P : Program} {g : Nat → Option AV} {h : AHeap} {fn : Func} {rs : List ResultVar} {vs : List AV} {v : AV} (hrs : fn.results.toList = rs) (hv : resGs P g h rs = some vs) (hr : retA h (some vs) = some (.ret v, h)) : retA h (resGs P g h fn.results.toList) = some (.ret v, h) := by
  rw [hrs, hv]
  exact hr
theorem ifB_id {id k : Nat} {a : R} {r : ARes × AHeap} (z : ifB (Nat.beq id k) a none = some r) : id = k ∧ a = some r := by
  cases hb : Nat.beq id k with
  | true => rw [hb] at z; exact ⟨Nat.eq_of_beq_eq_true hb, z⟩
  | false => rw [hb] at z; cases z
/-! ### a call of a function or of what is handed to an iterator -/
def dynB (P : Program) (both : BothF) (f : AV) (args : List AV) (h : AHeap) : R := match callV P h args (some f) with
  | some (.call g as, h1) => both false g as h1
  | some (.round b as, h1) => both true b as h1
  | some (.val v, h1) => some (.ret v, h1)
  | _ => none
section
variable {P : Program} {w0 : Base} {m0 : Map} {N : Nat} {rd : Option Nat} {n : Nat} {l : Fr} {ds : DefT} {h h' : AHeap} {Q : Exit → Act → World → Prop} {both : BothF}
theorem WLR.dyn (hc : BothAll P both) {ops : Array Oper} {i : Nat} {d : Option Nat} {f v : AV} {args : List AV} (hcall : dynB P both f args h = some (.ret v, h')) (hk : WLR P w0 m0 N rd n ops (i + 1) Q (l.put d v) ds h') (hd : dstR N ops i = some d := by kernel_rfl) (hw : wantAt ops l.get i = some true := by kernel_rfl)
    (hop : opAt P l.eval ops i h = callV P h args (some f) := by kernel_rfl) : WLR P w0 m0 N rd n ops i Q l ds h := by
  unfold dynB at hcall
  split at hcall
  · rename_i g as h1 e
    exact WLR.callB (hc w0) hd hw (hop.trans e) hcall hk
  · rename_i b as h1 e
    exact WLR.round (hc w0) hd hw (hop.trans e) hcall hk
  · rename_i v1 h1 e
    cases hcall
    exact WLR.val hd hw (hop.trans e) hk
  · cases hcall
end
/-! ### a round's code, as plain functions -/
/-- how it ends: 0, 1, 2 + id -/
def decE : ARes → AExit
  | .ret (.int _ z) => match z with
    | 0 => .normal
    | 1 => .ret
    | z => .exit (z - 2).toNat
  | _ => .normal
def tupFr (ts : List Nat) : ARes → Fr
  | .ret (.tup vs) => ts.zip vs
  | _ => []
section
variable {P : Program} {w0 : Base} {m0 : Map} {N : Nat} {l l' : Fr} {ds : DefT} {h : AHeap}
theorem Go.postN (hs : l.sub l') : Go w0 m0 N (Post w0 m0 N .normal ⟨l'.tree, ds⟩ h .normal) l ds h := fun m _ _ he ha F => ⟨m, he, ha.weaken hs, F, .normal⟩
theorem Go.postR : Go w0 m0 N (Post w0 m0 N .ret ⟨Fr.tree [], ds⟩ h .ret) l ds h := fun m _ _ he ha F => ⟨m, he, ha.weaken (Fr.sub_nil _), F, .ret⟩
theorem Go.postE {id : Nat} : Go w0 m0 N (Post w0 m0 N (.exit id) ⟨Fr.tree [], ds⟩ h (.exit id)) l ds h := fun m _ _ he ha F => ⟨m, he, ha.weaken (Fr.sub_nil _), F, .exit id⟩
end
/-! ### what a loop comes to -/
section
variable {P : Program} {both : BothF} {N : Nat} {c : Code} {t : T AV} {ds : DefT} {h h2 : AHeap} {kn kr : AHeap → R} {ke : Nat → AHeap → R} {Q : ARes → AHeap → Prop} {g : FuncId} {first cap : List AV} {v : AV} {q : ALoop}
/-- the memory at its beginning -/
def rngH (N : Nat) (c : Code) (t : T AV) (h : AHeap) : AHeap := (h.new (.obj .dfr)).new (.obj (.loop ⟨.ready, .none, t, N, Code.rgp c, Code.r1 c, Code.r2 c, h.next⟩))
theorem rngX_of (hb : hasBody P g = true) (e : both false g (first ++ [.yld (h.next + 1)] ++ cap) (rngH N c t h) = some (.ret v, h2)) (hq : h2.get (h.next + 1) = some (.obj (.loop q))) (hs : q.st ≠ .busy) :
    rngX P both N (.fn g first cap) c t ds h = (match q.pend with
      | .none => some (.normal, ⟨t, dmark h.next :: ds⟩, h2.put (h.next + 1) (.obj (.loop { q with st := .exhausted })))
      | .ret => some (.ret, ⟨t, dmark h.next :: ds⟩, h2.put (h.next + 1) (.obj (.loop { q with st := .exhausted })))
      | .exit id => some (.exit id, ⟨t, dmark h.next :: ds⟩, h2.put (h.next + 1) (.obj (.loop { q with st := .exhausted })))) := by
  unfold rngX rangeR
  simp only [hb, enterR]
  unfold rngH at e
  rw [e]
  unfold endR
  simp only [hq]
  cases hst : q.st with
  | busy => exact absurd hst hs
  | _ => rfl
theorem Wp.rngN (hb : hasBody P g = true) (e : both false g (first ++ [.yld (h.next + 1)] ++ cap) (rngH N c t h) = some (.ret v, h2)) (hq : h2.get (h.next + 1) = some (.obj (.loop q))) (hs : q.st ≠ .busy) (hp : q.pend = .none) (hk : Wp (kn (h2.put (h.next + 1) (.obj (.loop { q with st := .exhausted })))) Q) : Wp (rngK (rngX P both N (.fn g first cap) c t ds h) kn kr ke) Q := by
  rw [rngX_of hb e hq hs]
  rw [hp] at hk ⊢
  exact hk
theorem Wp.rngR (hb : hasBody P g = true) (e : both false g (first ++ [.yld (h.next + 1)] ++ cap) (rngH N c t h) = some (.ret v, h2)) (hq : h2.get (h.next + 1) = some (.obj (.loop q))) (hs : q.st ≠ .busy) (hp : q.pend = .ret) (hk : Wp (kr (h2.put (h.next + 1) (.obj (.loop { q with st := .exhausted })))) Q) : Wp (rngK (rngX P both N (.fn g first cap) c t ds h) kn kr ke) Q := by
  rw [rngX_of hb e hq hs]
  rw [hp] at hk ⊢
  exact hk
theorem Wp.rngE {id : Nat} (hb : hasBody P g = true) (e : both false g (first ++ [.yld (h.next + 1)] ++ cap) (rngH N c t h) = some (.ret v, h2)) (hq : h2.get (h.next + 1) = some (.obj (.loop q))) (hs : q.st ≠ .busy) (hp : q.pend = .exit id) (hk : Wp (ke id (h2.put (h.next + 1) (.obj (.loop { q with st := .exhausted })))) Q) : Wp (rngK (rngX P both N (.fn g first cap) c t ds h) kn kr ke) Q := by
  rw [rngX_of hb e hq hs]
  rw [hp] at hk ⊢
  exact hk
end
end
end Go.Proofs.Ytikaeeaepnflnaa.Abs
