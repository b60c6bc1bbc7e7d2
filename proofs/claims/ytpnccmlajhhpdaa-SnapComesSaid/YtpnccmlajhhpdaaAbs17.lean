/- Code comes to what the small machine says. -/
import Derived.Test.YtpnccmlajhhpdaaAbs16
namespace Go.Proofs.Ytpnccmlajhhpdaa.Abs
noncomputable section
open Go.RowKit

section
variable {P : Program} {w0 : Base} {N lf : Nat} {call : CallF}

def CodeOK (P : Program) (w0 : Base) (N : Nat) (f : AAct → AHeap → CodeT) (c : Code) : Prop := ∀ (a : AAct) (h : AHeap) (e : AExit) (a' : AAct) (h' : AHeap), f a h = some (e, a', h') →
  ∀ (m : Map) (act : Act) (w : World), RelAct m N a act → Fits w0 m h w → c.wp P (Post w0 m N e a' h') act w
/-- from within a scope -/
def InScope (P : Program) (rest c : Code) (Q : Exit → Act → World → Prop) (act : Act) (w : World) : Prop :=
  ∀ (b : Frame) (k : List Item) (cs : List Frame), ∃ e a' w', Q e a' w' ∧ Arrives P (lone (b.at act (.code rest :: .inScope c :: k)) cs w) b k cs e a' w'
def ScopeOK (P : Program) (w0 : Base) (N : Nat) (K : ScopeK) : Prop := ∀ (rest c : Code) (a : AAct) (h : AHeap) (e : AExit) (a' : AAct) (h' : AHeap), K rest c a h = some (e, a', h') →
  ∀ (m : Map) (act : Act) (w : World), RelAct m N a act → Fits w0 m h w → InScope P rest c (Post w0 m N e a' h') act w

theorem inScope_mono {rest c : Code} {Q Q' : Exit → Act → World → Prop} {act : Act} {w : World} (h : InScope P rest c Q act w) (hq : ∀ e a w, Q e a w → Q' e a w) : InScope P rest c Q' act w :=
  fun b k cs => let ⟨e, a', w', q, r⟩ := h b k cs; ⟨e, a', w', hq _ _ _ q, r⟩
theorem scope_ok {K : ScopeK} (hK : ScopeOK P w0 N K) {rest c : Code} {r : CodeT} {e : AExit} {a' : AAct} {h' : AHeap} (h : aScope K c r = some (e, a', h')) {m : Map} {act : Act} {w : World}
    (hr : ∀ e1 a1 h1, r = some (e1, a1, h1) → rest.wp P (Post w0 m N e1 a1 h1) act w) : InScope P rest c (Post w0 m N e a' h') act w := by
  intro b k cs
  unfold aScope at h
  split at h
  · rename_i l a1 h1
    obtain ⟨e', act1, w1, ⟨m1, hx, hra, hF, hex⟩, harr⟩ := hr _ _ _ rfl b (.inScope c :: k) cs
    cases hex
    split at h
    · rename_i rest' hf
      have hg : gotoIn l (.inScope c :: k) = some (.code rest' :: .inScope c :: k) := by simp [gotoIn, hf]
      obtain ⟨e2, act2, w2, hq, harr2⟩ := hK _ _ _ _ _ _ _ h m1 act1 w1 hra hF b k cs
      exact ⟨e2, act2, w2, hq.ext hx, .of_steps (harr _ hg) harr2⟩
    · rename_i hf
      simp only [Option.some.injEq, Prod.mk.injEq] at h
      obtain ⟨rfl, rfl, rfl⟩ := h
      refine ⟨.goto l, act1, w1, ⟨m1, hx, hra, hF, .goto l⟩, fun k' hk => harr k' (by simp [gotoIn, hf, hk])⟩
  · rename_i hno
    subst h
    obtain ⟨e', act1, w1, ⟨m1, hx, hra, hF, hex⟩, harr⟩ := hr _ _ _ rfl b (.inScope c :: k) cs
    refine ⟨e', act1, w1, ⟨m1, hx, hra, hF, hex⟩, ?_⟩
    cases hex with
    | normal => exact Steps.trans harr (.one step_inScope)
    | exit id => exact fun k' hk => harr k' (by simp [exitTo, hk])
    | goto l => exact absurd rfl (hno l _ _)
    | ret => exact harr
    | panic _ => exact harr
theorem loop_ok {f : AAct → AHeap → CodeT} {c : Code} (hf : CodeOK P w0 N f c) : ∀ (n : Nat), CodeOK P w0 N (aLoop f n) (.loop c) := by
  have key : ∀ (n : Nat) (a : AAct) (h : AHeap) (e : AExit) (a' : AAct) (h' : AHeap), aLoop f n a h = some (e, a', h') → ∀ (m : Map) (act : Act) (w : World), RelAct m N a act → Fits w0 m h w → ∀ (b : Frame) (k : List Item) (cs : List Frame),
      ∃ e1 a1 w1, Post w0 m N e a' h' e1 a1 w1 ∧ Arrives P (lone (b.at act (.code c :: .inLoop c :: k)) cs w) b k cs e1 a1 w1 := by
    intro n
    induction n with
    | zero => intro a h e a' h' hl; cases hl
    | succ n ih =>
      intro a h e a' h' hl m act w ha F b k cs
      have hl : aRound (aLoop f n) (f a h) = some (e, a', h') := hl
      unfold aRound at hl
      split at hl
      · rename_i a2 h2 hfa
        obtain ⟨e1, a1, w1, ⟨m1, hx, hra, hF, hex⟩, harr⟩ := hf _ _ _ _ _ hfa m act w ha F b (.inLoop c :: k) cs
        cases hex
        obtain ⟨e3, a3, w3, hq, harr3⟩ := ih _ _ _ _ _ hl m1 a1 w1 hra hF b k cs
        exact ⟨e3, a3, w3, hq.ext hx, .of_steps (Steps.trans harr (.one step_inLoop)) harr3⟩
      · rename_i hno
        obtain ⟨e1, a1, w1, ⟨m1, hx, hra, hF, hex⟩, harr⟩ := hf _ _ _ _ _ hl m act w ha F b (.inLoop c :: k) cs
        refine ⟨e1, a1, w1, ⟨m1, hx, hra, hF, hex⟩, ?_⟩
        cases hex with
        | normal => exact absurd hl (hno _ _)
        | exit id => exact .pass (x := .inLoop c) rfl (fun _ _ => .inl (by simp)) harr
        | goto l => exact .pass (x := .inLoop c) rfl (fun _ _ => .inl (by simp)) harr
        | ret => exact .pass (x := .inLoop c) rfl (fun _ _ => .inl (by simp)) harr
        | panic _ => exact .pass (x := .inLoop c) rfl (fun _ _ => .inl (by simp)) harr
  intro n a h e a' h' hl m act w ha F b k cs
  obtain ⟨e1, a1, w1, hq, harr⟩ := key n a h e a' h' hl m act w ha F b k cs
  exact ⟨e1, a1, w1, hq, .of_steps (.one step_loop) harr⟩

theorem code_ok (hm : P.follows .mixedOrders = true) (hc : CallOK P w0 call) {K : ScopeK} (hK : ScopeOK P w0 N K) (c : Code) : CodeOK P w0 N (aCodeS P call lf N K c) c := by
  induction c with
  | skip =>
    intro a h e a' h' hr m act w ha F
    have hr : some (AExit.normal, a, h) = some (e, a', h') := hr
    simp only [Option.some.injEq, Prod.mk.injEq] at hr
    obtain ⟨rfl, rfl, rfl⟩ := hr
    exact wp_skip ⟨m, Ext.refl m, ha, F, .normal⟩
  | region id ops d =>
    intro a h e a' h' hr m act w ha F
    have hr : aRegion P call N ops a h d = some (e, a', h') := hr
    unfold aRegion at hr
    split at hr
    · rename_i hok
      split at hr
      · exact draw_ok hm hc (okOps_mem _ hok) ha F hr
      · exact wp_region_list (ops_ok hc ops.toList (okOps_mem _ hok) m a act h w (Ext.refl m) ha F hr)
    · cases hr
  | seq x y ihx ihy =>
    intro a h e a' h' hr m act w ha F
    have hr : aThen (aCodeS P call lf N K x a h) (aCodeS P call lf N K y) = some (e, a', h') := hr
    unfold aThen at hr
    refine wp_seq ?_
    split at hr
    · rename_i a1 h1 hx
      refine wp_mono (ihx _ _ _ _ _ hx m act w ha F) ?_
      rintro e1 act1 w1 ⟨m1, hx1, hra, hF, hex⟩
      cases hex
      exact wp_mono (ihy _ _ _ _ _ hr m1 act1 w1 hra hF) (fun e2 a2 w2 hp => hp.ext hx1)
    · rename_i hno
      refine wp_mono (ihx _ _ _ _ _ hr m act w ha F) ?_
      rintro e1 act1 w1 ⟨m1, hx1, hra, hF, hex⟩
      cases hex with
      | normal => exact absurd hr (hno _ _)
      | exit id => exact ⟨m1, hx1, hra, hF, .exit id⟩
      | goto l => exact ⟨m1, hx1, hra, hF, .goto l⟩
      | ret => exact ⟨m1, hx1, hra, hF, .ret⟩
      | panic hv => exact ⟨m1, hx1, hra, hF, .panic hv⟩
  | cond c x y ihx ihy =>
    intro a h e a' h' hr m act w ha F
    have hr : aCond (a.eval c) (aCodeS P call lf N K x a h) (aCodeS P call lf N K y a h) = some (e, a', h') := hr
    unfold aCond at hr
    split at hr
    · rename_i hcv
      have := rel_bool (eval_ok (m := m) (act := act) (fun t _ => ha.tmps t) _ hcv)
      exact wp_cond_true this (ihx _ _ _ _ _ hr m act w ha F)
    · rename_i hcv
      have := rel_bool (eval_ok (m := m) (act := act) (fun t _ => ha.tmps t) _ hcv)
      exact wp_cond_false this (ihy _ _ _ _ _ hr m act w ha F)
    · cases hr
  | block id c ih =>
    intro a h e a' h' hr m act w ha F
    have hr : aBlock id (aCodeS P call lf N K c a h) = some (e, a', h') := hr
    refine wp_block ?_
    unfold aBlock at hr
    split at hr
    · rename_i id' a1 h1 hx
      refine wp_mono (ih _ _ _ _ _ hx m act w ha F) ?_
      rintro e1 act1 w1 ⟨m1, hx1, hra, hF, hex⟩
      cases hex
      split at hr
      · rename_i hb
        have hid : id' = id := Nat.eq_of_beq_eq_true hb
        simp only [Option.some.injEq, Prod.mk.injEq] at hr
        obtain ⟨rfl, rfl, rfl⟩ := hr
        simp only [Exit.inBlock, hid, if_true]
        exact ⟨m1, hx1, hra, hF, .normal⟩
      · rename_i hb
        have hid : id' ≠ id := fun e => hb (by rw [e]; exact Nat.beq_refl id)
        simp only [Option.some.injEq, Prod.mk.injEq] at hr
        obtain ⟨rfl, rfl, rfl⟩ := hr
        simp only [Exit.inBlock, hid, if_false]
        exact ⟨m1, hx1, hra, hF, .exit id'⟩
    · rename_i hno
      refine wp_mono (ih _ _ _ _ _ hr m act w ha F) ?_
      rintro e1 act1 w1 ⟨m1, hx1, hra, hF, hex⟩
      cases hex with
      | normal => exact ⟨m1, hx1, hra, hF, .normal⟩
      | exit id => exact absurd hr (hno _ _ _)
      | goto l => exact ⟨m1, hx1, hra, hF, .goto l⟩
      | ret => exact ⟨m1, hx1, hra, hF, .ret⟩
      | panic hv => exact ⟨m1, hx1, hra, hF, .panic hv⟩
  | loop c ih =>
    intro a h e a' h' hr
    exact loop_ok ih lf a h e a' h' hr
  | rangeFunc f ps x y ihx ihy =>
    intro a h e a' h' hr
    cases hr
  | exit id =>
    intro a h e a' h' hr m act w ha F
    have hr : some (AExit.exit id, a, h) = some (e, a', h') := hr
    simp only [Option.some.injEq, Prod.mk.injEq] at hr
    obtain ⟨rfl, rfl, rfl⟩ := hr
    exact wp_exit ⟨m, Ext.refl m, ha, F, .exit id⟩
  | scope c ih =>
    intro a h e a' h' hr m act w ha F b k cs
    have hr : aScope K c (aCodeS P call lf N K c a h) = some (e, a', h') := hr
    obtain ⟨e1, a1, w1, hq, harr⟩ := scope_ok hK (rest := c) hr (fun e1 a1 h1 hx => ih _ _ _ _ _ hx m act w ha F) b k cs
    exact ⟨e1, a1, w1, hq, .of_steps (.one step_scope) harr⟩
  | label l =>
    intro a h e a' h' hr m act w ha F
    have hr : some (AExit.normal, a, h) = some (e, a', h') := hr
    simp only [Option.some.injEq, Prod.mk.injEq] at hr
    obtain ⟨rfl, rfl, rfl⟩ := hr
    exact wp_label ⟨m, Ext.refl m, ha, F, .normal⟩
  | goto l =>
    intro a h e a' h' hr m act w ha F
    have hr : some (AExit.goto l, a, h) = some (e, a', h') := hr
    simp only [Option.some.injEq, Prod.mk.injEq] at hr
    obtain ⟨rfl, rfl, rfl⟩ := hr
    exact wp_goto ⟨m, Ext.refl m, ha, F, .goto l⟩
  | ret =>
    intro a h e a' h' hr m act w ha F
    have hr : some (AExit.ret, a, h) = some (e, a', h') := hr
    simp only [Option.some.injEq, Prod.mk.injEq] at hr
    obtain ⟨rfl, rfl, rfl⟩ := hr
    exact wp_ret ⟨m, Ext.refl m, ha, F, .ret⟩
  | _ => intro a h e a' h' hr; cases hr
theorem again_ok (hm : P.follows .mixedOrders = true) (hc : CallOK P w0 call) : ∀ (n : Nat), ScopeOK P w0 N (aAgain P call lf N n)
  | 0 => fun _ _ _ _ _ _ _ h => by cases h
  | n + 1 => fun rest c a h e a' h' hr m act w ha F => by
    have hK := again_ok hm hc n
    have hr : aScope (aAgain P call lf N n) c (aCodeS P call lf N (aAgain P call lf N n) rest a h) = some (e, a', h') := hr
    exact scope_ok hK hr (fun e1 a1 h1 hx => code_ok hm hc hK rest _ _ _ _ _ hx m act w ha F)
theorem aCode_ok (hm : P.follows .mixedOrders = true) (hc : CallOK P w0 call) (c : Code) : CodeOK P w0 N (aCode P call lf N c) c := code_ok hm hc (again_ok hm hc 40) c
end

end
end Go.Proofs.Ytpnccmlajhhpdaa.Abs
