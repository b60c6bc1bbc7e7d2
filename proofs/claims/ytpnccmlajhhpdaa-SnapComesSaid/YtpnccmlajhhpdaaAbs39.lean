/- Loops over functions: code, rounds, calls. -/
import Derived.Test.YtpnccmlajhhpdaaAbs38
namespace Go.Proofs.Ytpnccmlajhhpdaa.Abs
noncomputable section
open Go.RowKit

section
variable {P : Program} {m : Map} {w0 : Base} {w : World} {H H' : AHeap} {both : BothF} {rd rb : Option Nat} {N lf : Nat}

/-- the loop in whose round it runs -/
def RB (m : Map) : Option Nat → Option Nat → Prop
  | none, none => True
  | some b, some l => m[b]? = some (some (l, 0, 0))
  | _, _ => False
theorem RB.ext {m m' : Map} (hx : Ext m m') : ∀ {rb rd : Option Nat}, RB m rb rd → RB m' rb rd
  | none, none, _ => trivial
  | some _, some _, h => hx.le _ _ h
  | none, some _, h => h.elim
  | some _, none, h => h.elim
def CodeROK (P : Program) (w0 : Base) (N : Nat) (rb : Option Nat) (f : AAct → AHeap → CodeT) (c : Code) : Prop := ∀ (a : AAct) (h : AHeap) (e : AExit) (a' : AAct) (h' : AHeap), f a h = some (e, a', h') →
  ∀ (rd : Option Nat) (n : Nat) (m : Map) (act : Act) (w : World), RB m rb rd → RelAct m N a act → Fits w0 m h w → c.wpIn (FW rd) n P (Post w0 m N e a' h') act w

/-! ### objects -/
theorem below_putO {B g : Nat} {a w : World} (h : Below B a w) (hB : B ≤ w.heap.size) (hg : B ≤ g) (o : Obj) : Below B a (w.putObj g o) :=
  h.grown (grownBy_putObj' w g o) hB (fun k e => by cases e; exact hg)
theorem Fits.newObj (F : Fits w0 m H w) {q : AKeep} {o : Obj} (hk : KeepAt (m ++ [some (w.heap.size, 0, 0)]) w.heap.size q (w.alloc o)) : Fits w0 (m ++ [some (w.heap.size, 0, 0)]) (H.new (.obj q)) (w.alloc o) := by
  refine Fits.new (F.alloc o) (.obj q) (fun b o' s' z' hb ho hm => ?_) (fun _ _ _ h => by cases h) (fun _ h => by cases h) (fun _ _ _ h => by cases h) (hpin := fun k o' hk _ e => ?_) (hobj := fun q' h => ?_)
  · have := F.mapped_lt hb ho hm
    omega
  · have := heap_lt (F.pin k o' hk).1
    omega
  · cases h
    exact ⟨rfl, rfl, F.size, hk⟩
theorem Fits.putObj (F : Fits w0 m H w) {b g : Nat} {q q' : AKeep} {o : Obj} (hb : H.get b = some (.obj q)) (hm : m[b]? = some (some (g, 0, 0))) (hk : KeepAt m g q' (w.putObj g o)) : Fits w0 m (H.put b (.obj q')) (w.putObj g o) := by
  have hg := (F.obj b q g 0 0 hb hm).2.2.1
  refine Fits.put F hb rfl rfl hm (below_putO F.below F.size hg o) (fun k hk _ => World.putObj_heap_other hk) (fun _ _ _ h => by cases h) (fun _ h => by cases h) (fun _ _ _ h => by cases h) (hobj := fun q2 h => ?_)
  cases h
  exact ⟨rfl, rfl, hg, hk⟩

/-! ### loops -/
theorem loopR_ok {f : AAct → AHeap → CodeT} {c : Code} (hf : CodeROK P w0 N rb f c) : ∀ (k : Nat), CodeROK P w0 N rb (aLoop f k) (.loop c) := by
  have key : ∀ (k : Nat) (a : AAct) (h : AHeap) (e : AExit) (a' : AAct) (h' : AHeap), aLoop f k a h = some (e, a', h') → ∀ (rd : Option Nat) (n : Nat) (m : Map) (act : Act) (w : World), RB m rb rd → RelAct m N a act → Fits w0 m h w → ∀ (b : Frame) (k : List Item) (cs : List Frame), b.roundOf = (FW rd).round →
      ∃ e1 a1 w1, Post w0 m N e a' h' e1 a1 w1 ∧ ArrivesIn (Machine.fenced P (FW rd)) P (lone (b.atR act (.code c :: .inLoop c :: k)) cs w) b k cs e1 a1 w1 := by
    intro k
    induction k with
    | zero => intro a h e a' h' hl; cases hl
    | succ k ih =>
      intro a h e a' h' hl rd n m act w hrb ha F b k2 cs hro
      have hfn : (FW rd).fn b.fn := trivial
      have hroom : (FW rd).room (cs.length + 1 + n) := room_wide _
      have hl : aRound (aLoop f k) (f a h) = some (e, a', h') := hl
      unfold aRound at hl
      split at hl
      · rename_i a2 h2 hfa
        obtain ⟨e1, a1, w1, ⟨m1, hx, hra, hF, hex⟩, harr⟩ := hf _ _ _ _ _ hfa rd n m act w hrb ha F b (.inLoop c :: k2) cs hro hfn hroom
        cases hex
        obtain ⟨e3, a3, w3, hq, harr3⟩ := ih _ _ _ _ _ hl rd n m1 a1 w1 (hrb.ext hx) hra hF b k2 cs hro
        exact ⟨e3, a3, w3, hq.ext hx, .of_steps (StepsIn.trans harr (.one (fenced_calm hfn hroom rfl) stepR_inLoop)) harr3⟩
      · rename_i hno
        obtain ⟨e1, a1, w1, ⟨m1, hx, hra, hF, hex⟩, harr⟩ := hf _ _ _ _ _ hl rd n m act w hrb ha F b (.inLoop c :: k2) cs hro hfn hroom
        refine ⟨e1, a1, w1, ⟨m1, hx, hra, hF, hex⟩, ?_⟩
        cases hex with
        | normal => exact absurd hl (hno _ _)
        | exit id => exact .pass (x := .inLoop c) rfl (fun _ _ => .inl (by simp)) harr
        | goto l => exact .pass (x := .inLoop c) rfl (fun _ _ => .inl (by simp)) harr
        | ret => exact .pass (x := .inLoop c) rfl (fun _ _ => .inl (by simp)) harr
        | panic _ => exact .pass (x := .inLoop c) rfl (fun _ _ => .inl (by simp)) harr
  intro k a h e a' h' hl rd n m act w hrb ha F b k2 cs hro hfn hroom
  obtain ⟨e1, a1, w1, hq, harr⟩ := key k a h e a' h' hl rd n m act w hrb ha F b k2 cs hro
  exact ⟨e1, a1, w1, hq, .of_steps (.one (fenced_calm hfn hroom rfl) stepR_loop) harr⟩

/-- a loop over a function begins -/
theorem enterR_ok {ps : Array Tmp} {x y : Code} {a a1 : AAct} {l : Nat} {h h1 : AHeap} {act : Act} (he : enterR rb N ps x y a h = some (l, a1, h1)) (hrb : RB m rb rd) (ha : RelAct m N a act) (F : Fits w0 m h w) (fn : FuncId) :
    ∃ (g : Nat) (mark : List Deferred) (w1 : World) (m1 : Map), (Instr.enterLoop fn act.tmps ps x y (FW rd).round).run P w = .ok (g, mark) w1 ∧ Ext m m1 ∧ m1[l]? = some (some (g, 0, 0)) ∧ RelAct m1 N a1 { act with defers := mark ++ act.defers } ∧ Fits w0 m1 h1 w1 := by
  cases rb with
  | none =>
    cases rd with
    | some _ => exact hrb.elim
    | none =>
      simp only [enterR, Option.some.injEq, Prod.mk.injEq] at he
      obtain ⟨rfl, rfl, rfl⟩ := he
      have hn1 : (m ++ [some (w.heap.size, 0, 0)])[h.next]? = some (some (w.heap.size, 0, 0)) := map_new F _
      have F1 : Fits w0 (m ++ [some (w.heap.size, 0, 0)]) (h.new (.obj .dfr)) (w.alloc (.deferred (some []))) := F.newObj (World.alloc_heap_new _ _)
      have hsz : (w.alloc (.deferred (some []))).heap.size = w.heap.size + 1 := World.size_alloc _ _
      have F2 := F1.newObj (q := .loop ⟨.ready, .none, a.tmps, N, ps, x, y, h.next⟩) (o := .loop { state := .ready, pending := none, fn := fn, tmps := act.tmps, params := ps, assign := x, body := y, defers := w.heap.size })
        ⟨_, World.alloc_heap_new _ _, rfl, rfl, ha.size, fun t v hv => by
          obtain ⟨v', h1, h2⟩ := ha.tmps t v hv
          exact ⟨v', h1, (h2.mono (Map.le_append _ _)).mono (Map.le_append _ _)⟩, rfl, rfl, rfl, Map.le_append _ _ _ _ hn1⟩
      have hn2 := map_new F1 ((w.alloc (.deferred (some []))).heap.size, 0, 0)
      have hx : Ext m ((m ++ [some (w.heap.size, 0, 0)]) ++ [some ((w.alloc (.deferred (some []))).heap.size, 0, 0)]) := (Ext.append _ _).trans (Ext.append _ _)
      refine ⟨w.heap.size + 1, [{ target := .collected w.heap.size, args := #[] }], _, _, run_enterLoop_outer _ _ _ _ _, hx, ?_, ?_, F2⟩
      · rw [← hsz]; exact hn2
      · exact ⟨ha.size, fun t => (ha.tmps t).mono hx.le, .mark (Map.le_append _ _ _ _ hn1) (ha.defers.mono hx.le)⟩
  | some b =>
    cases rd with
    | none => exact hrb.elim
    | some lp =>
      simp only [enterR] at he
      split at he
      · rename_i r hb
        simp only [Option.some.injEq, Prod.mk.injEq] at he
        obtain ⟨rfl, rfl, rfl⟩ := he
        obtain ⟨_, _, _, r0, k1, _, _, _, _, _, _, _, k9⟩ := F.obj _ _ _ _ _ hb hrb
        have F2 := F.newObj (q := .loop ⟨.ready, .none, a.tmps, N, ps, x, y, r.dfr⟩) (o := .loop { state := .ready, pending := none, fn := fn, tmps := act.tmps, params := ps, assign := x, body := y, defers := r0.defers })
          ⟨_, World.alloc_heap_new _ _, rfl, rfl, ha.size, fun t v hv => by
            obtain ⟨v', h1, h2⟩ := ha.tmps t v hv
            exact ⟨v', h1, h2.mono (Map.le_append _ _)⟩, rfl, rfl, rfl, Map.le_append _ _ _ _ k9⟩
        exact ⟨w.heap.size, [], _, _, run_enterLoop_inner k1 _ _ _ _ _, Ext.append _ _, map_new F _, ha.mono (Map.le_append _ _), F2⟩
      · cases he
/-- a loop's record as another one -/
theorem Fits.reLoop (F : Fits w0 m H w) {b g : Nat} {r : ALoop} (hb : H.get b = some (.obj (.loop r))) (hm : m[b]? = some (some (g, 0, 0))) (st : LoopState) (pe : AJump) :
    ∃ r' : Loop, w.heap[g]? = some (.loop r') ∧ r'.state = r.st ∧ r'.pending = r.pend.code ∧ r'.body = r.body ∧ Fits w0 m (H.put b (.obj (.loop { r with st := st, pend := pe }))) (w.putObj g (.loop { r' with state := st, pending := pe.code })) := by
  obtain ⟨_, _, hg, r', k1, k2, k3, k4, k5, k6, k7, k8, k9⟩ := F.obj _ _ _ _ _ hb hm
  exact ⟨r', k1, k2, k3, k8, F.putObj hb hm ⟨_, World.putObj_heap_same (heap_lt k1), rfl, rfl, k4, k5, k6, k7, k8, k9⟩⟩
theorem rangeR_ok (hc : BothOK P w0 both) {f : Operand} {ps : Array Tmp} {x y : Code} : CodeROK P w0 N rb (fun a h => rangeR P both rb N (a.eval f) ps x y a h) (.rangeFunc f ps x y) := by
  intro a h e a' h' hr rd n m act w hrb ha F
  have hr : rangeR P both rb N (a.eval f) ps x y a h = some (e, a', h') := hr
  unfold rangeR at hr
  split at hr
  · rename_i g first cap hf
    split at hr
    · rename_i hbody
      split at hr
      · rename_i l a1 h1 hent
        have hev := eval_ok (m := m) (act := act) (fun t _ => ha.tmps t) _ hf
        generalize hvf : act.eval f = vf at hev
        cases hev with | @fn _ _ _ first' cap' k1 k2 =>
        refine wpIn_rangeFunc ?_
        intro fn hfn
        obtain ⟨lc, mark, w1, m1, hrun, hx1, hml, ha1, F1⟩ := enterR_ok (P := P) hent hrb ha F fn
        refine ⟨lc, mark, w1, { target := .fn (.func g) ⟨cap'⟩, args := ⟨first' ++ [.func (.yield lc) #[] #[]]⟩ }, w1, g, ⟨first' ++ [.func (.yield lc) #[] #[]] ++ cap'⟩, w1, hrun, ?_, fun _ _ => trivial, ?_, fun hh => (by cases hh), ?_⟩
        · simp only [resolve, hvf, Deferred.ofValue, Sem.run_pure]
          simp [Act.eval]
        · simp only [invoke]
          have : (⟨first' ++ [.func (.yield lc) #[] #[]]⟩ ++ ⟨cap'⟩ : Array Value) = ⟨first' ++ [.func (.yield lc) #[] #[]] ++ cap'⟩ := by simp
          rw [this]
          exact hasBody_ok hbody _ w1
        · unfold endR at hr
          split at hr
          · rename_i v h2 hcall
            have hcall := hc.call _ _ _ _ _ hcall m1 w1 (first' ++ [.func (.yield lc) #[] #[]] ++ cap') (((k1.mono hx1.le).append (.cons (.yld hml) .nil)).append (k2.mono hx1.le)) F1
            refine callsIn_fw (Calls.mono hcall ?_)
            rintro e2 w2 ⟨m2, hx2, F2, v', rfl, hv⟩
            split at hr
            · rename_i r hb
              have hml2 := hx2.le _ _ hml
              obtain ⟨r', q1, q2, q3, q4, F3⟩ := F2.reLoop hb hml2 .exhausted r.pend
              have hx := hx1.trans hx2
              have ha3 := ha1.mono hx2.le
              have hnb : r'.state ≠ .busy → (Instr.endLoop lc).run P w2 = .ok r.pend.code (w2.putObj lc (.loop { r' with state := .exhausted })) := fun hne => by
                rw [run_endLoop q1 hne, q3]
              have hF3 : w2.putObj lc (.loop { r' with state := .exhausted, pending := r.pend.code }) = w2.putObj lc (.loop { r' with state := .exhausted }) := by rw [← q3]
              rw [hF3] at F3
              have fin : r.st ≠ .busy → (match r.pend with
                  | .none => some (AExit.normal, a1, h2.put l (.obj (.loop { r with st := .exhausted })))
                  | .ret => some (AExit.ret, a1, h2.put l (.obj (.loop { r with st := .exhausted })))
                  | .exit id => some (AExit.exit id, a1, h2.put l (.obj (.loop { r with st := .exhausted })))) = some (e, a', h') →
                  rangePost (FW rd) n P lc (Post w0 m N e a' h') { act with defers := mark ++ act.defers } (.returned v') w2 := by
                intro hst hm
                refine ⟨_, _, hnb (by rw [q2]; exact hst), ?_⟩
                cases hp : r.pend with
                | none =>
                  rw [hp] at hm F3
                  simp only [Option.some.injEq, Prod.mk.injEq] at hm
                  obtain ⟨rfl, rfl, rfl⟩ := hm
                  exact ⟨m2, hx, ha3, F3, .normal⟩
                | ret =>
                  rw [hp] at hm F3
                  simp only [Option.some.injEq, Prod.mk.injEq] at hm
                  obtain ⟨rfl, rfl, rfl⟩ := hm
                  exact wpIn_ret ⟨m2, hx, ha3, F3, .ret⟩
                | exit id =>
                  rw [hp] at hm F3
                  simp only [Option.some.injEq, Prod.mk.injEq] at hm
                  obtain ⟨rfl, rfl, rfl⟩ := hm
                  exact wpIn_exit ⟨m2, hx, ha3, F3, .exit id⟩
              cases hst : r.st with
              | busy => rw [hst] at hr; cases hr
              | ready => exact fin (by rw [hst]; simp) (by rw [hst] at hr; exact hr)
              | done => exact fin (by rw [hst]; simp) (by rw [hst] at hr; exact hr)
              | exhausted => exact fin (by rw [hst]; simp) (by rw [hst] at hr; exact hr)
            · cases hr
          · cases hr
      · cases hr
    · cases hr
  · cases hr
/-! ### code -/
theorem codeR_ok (hm : P.follows .mixedOrders = true) (hc : BothOK P w0 both) (c : Code) : CodeROK P w0 N rb (codeR P both lf N rb c) c := by
  induction c with
  | skip =>
    intro a h e a' h' hr rd n m act w hrb ha F
    have hr : some (AExit.normal, a, h) = some (e, a', h') := hr
    simp only [Option.some.injEq, Prod.mk.injEq] at hr
    obtain ⟨rfl, rfl, rfl⟩ := hr
    exact wpIn_skip ⟨m, Ext.refl m, ha, F, .normal⟩
  | region id ops d =>
    intro a h e a' h' hr rd n m act w hrb ha F
    have hr : regionR P both N ops a h d = some (e, a', h') := hr
    unfold regionR at hr
    split at hr
    · rename_i hok
      rw [Bool.and_eq_true] at hok
      split at hr
      · exact wpIn_mono (wpIn_region_any hm (anyIn_of hok.2 post_keeps _ _ _ _ (draw_any hc.call (okOps_mem _ hok.1) ha F hr))) (fun _ _ _ h => h)
      · exact wpIn_region_list (opsR_ok hc ops.toList (okOps_mem _ hok.1) (fun o ho => noDefer_mem hok.2 ho) m a act h w (Ext.refl m) ha F hr)
    · cases hr
  | seq x y ihx ihy =>
    intro a h e a' h' hr rd n m act w hrb ha F
    have hr : aThen (codeR P both lf N rb x a h) (codeR P both lf N rb y) = some (e, a', h') := hr
    unfold aThen at hr
    refine wpIn_seq ?_
    split at hr
    · rename_i a1 h1 hx
      refine wpIn_mono (ihx _ _ _ _ _ hx rd n m act w hrb ha F) ?_
      rintro e1 act1 w1 ⟨m1, hx1, hra, hF, hex⟩
      cases hex
      exact wpIn_mono (ihy _ _ _ _ _ hr rd n m1 act1 w1 (hrb.ext hx1) hra hF) (fun e2 a2 w2 hp => hp.ext hx1)
    · rename_i hno
      refine wpIn_mono (ihx _ _ _ _ _ hr rd n m act w hrb ha F) ?_
      rintro e1 act1 w1 ⟨m1, hx1, hra, hF, hex⟩
      cases hex with
      | normal => exact absurd hr (hno _ _)
      | exit id => exact ⟨m1, hx1, hra, hF, .exit id⟩
      | goto l => exact ⟨m1, hx1, hra, hF, .goto l⟩
      | ret => exact ⟨m1, hx1, hra, hF, .ret⟩
      | panic hv => exact ⟨m1, hx1, hra, hF, .panic hv⟩
  | cond c x y ihx ihy =>
    intro a h e a' h' hr rd n m act w hrb ha F
    have hr : aCond (a.eval c) (codeR P both lf N rb x a h) (codeR P both lf N rb y a h) = some (e, a', h') := hr
    unfold aCond at hr
    split at hr
    · rename_i hcv
      have := rel_bool (eval_ok (m := m) (act := act) (fun t _ => ha.tmps t) _ hcv)
      exact wpIn_cond_true this (ihx _ _ _ _ _ hr rd n m act w hrb ha F)
    · rename_i hcv
      have := rel_bool (eval_ok (m := m) (act := act) (fun t _ => ha.tmps t) _ hcv)
      exact wpIn_cond_false this (ihy _ _ _ _ _ hr rd n m act w hrb ha F)
    · cases hr
  | block id c ih =>
    intro a h e a' h' hr rd n m act w hrb ha F
    have hr : aBlock id (codeR P both lf N rb c a h) = some (e, a', h') := hr
    refine wpIn_block ?_
    unfold aBlock at hr
    split at hr
    · rename_i id' a1 h1 hx
      refine wpIn_mono (ih _ _ _ _ _ hx rd n m act w hrb ha F) ?_
      rintro e1 act1 w1 ⟨m1, hx1, hra, hF, hex⟩
      cases hex
      split at hr
      · rename_i hb
        have hid : id' = id := Nat.eq_of_beq_eq_true hb
        simp only [Option.some.injEq, Prod.mk.injEq] at hr
        obtain ⟨rfl, rfl, rfl⟩ := hr
        simp only [Exit.inBlock, hid, if_true]
        exact ⟨m1, hx1, hra, hF, .normal⟩
      · rename_i hb
        have hid : id' ≠ id := fun e => hb (by rw [e]; exact Nat.beq_refl id)
        simp only [Option.some.injEq, Prod.mk.injEq] at hr
        obtain ⟨rfl, rfl, rfl⟩ := hr
        simp only [Exit.inBlock, hid, if_false]
        exact ⟨m1, hx1, hra, hF, .exit id'⟩
    · rename_i hno
      refine wpIn_mono (ih _ _ _ _ _ hr rd n m act w hrb ha F) ?_
      rintro e1 act1 w1 ⟨m1, hx1, hra, hF, hex⟩
      cases hex with
      | normal => exact ⟨m1, hx1, hra, hF, .normal⟩
      | exit id => exact absurd hr (hno _ _ _)
      | goto l => exact ⟨m1, hx1, hra, hF, .goto l⟩
      | ret => exact ⟨m1, hx1, hra, hF, .ret⟩
      | panic hv => exact ⟨m1, hx1, hra, hF, .panic hv⟩
  | loop c ih =>
    intro a h e a' h' hr
    exact loopR_ok ih lf a h e a' h' hr
  | rangeFunc f ps x y ihx ihy =>
    intro a h e a' h' hr
    exact rangeR_ok hc a h e a' h' hr
  | exit id =>
    intro a h e a' h' hr rd n m act w hrb ha F
    have hr : some (AExit.exit id, a, h) = some (e, a', h') := hr
    simp only [Option.some.injEq, Prod.mk.injEq] at hr
    obtain ⟨rfl, rfl, rfl⟩ := hr
    exact wpIn_exit ⟨m, Ext.refl m, ha, F, .exit id⟩
  | ret =>
    intro a h e a' h' hr rd n m act w hrb ha F
    have hr : some (AExit.ret, a, h) = some (e, a', h') := hr
    simp only [Option.some.injEq, Prod.mk.injEq] at hr
    obtain ⟨rfl, rfl, rfl⟩ := hr
    exact wpIn_ret ⟨m, Ext.refl m, ha, F, .ret⟩
  | _ => intro a h e a' h' hr; cases hr

/-! ### a round -/
theorem putPs_ok {m : Map} {N : Nat} : ∀ (ps : List Tmp) (vs : List AV) (vs' : List Value) (t t' : T AV) (tm : Array Value), putPs N ps vs t = some t' → RelL m vs vs' → tm.size = N → (∀ i v, t.get i = some v → ∃ v', tm[i]? = some v' ∧ Rel m v v') →
    ((ps.zip vs').foldl (fun tmps (p : Tmp × Value) => tmps.setIfInBounds p.1 p.2) tm).size = N ∧ ∀ i v, t'.get i = some v → ∃ v', ((ps.zip vs').foldl (fun tmps (p : Tmp × Value) => tmps.setIfInBounds p.1 p.2) tm)[i]? = some v' ∧ Rel m v v' := by
  intro ps
  induction ps with
  | nil =>
    intro vs vs' t t' tm h hr hT ht
    cases vs with
    | nil =>
      simp only [putPs, Option.some.injEq] at h
      subst h
      exact ⟨hT, ht⟩
    | cons v vs => cases h
  | cons p ps ih =>
    intro vs vs' t t' tm h hr hT ht
    cases vs with
    | nil => cases h
    | cons v vs =>
      cases hr with | @cons _ v' _ vs'' h1 h2 =>
      simp only [putPs] at h
      split at h
      · rename_i hp
        have hp : p < N := Nat.le_of_ble_eq_true hp
        refine ih vs vs'' _ t' (tm.setIfInBounds p v') h h2 (by simpa using hT) (fun i x hx => ?_)
        by_cases e : p = i
        · subst e
          rw [T.get_set_same] at hx
          simp only [Option.some.injEq] at hx
          subst hx
          exact ⟨v', by simp [hT, hp], h1⟩
        · rw [T.get_set_other _ _ e] at hx
          obtain ⟨y, k1, k2⟩ := ht i x hx
          exact ⟨y, by rw [Array.getElem?_setIfInBounds_ne e]; exact k1, k2⟩
      · cases h
theorem roundR_ok (hm : P.follows .mixedOrders = true) (hc : BothOK P w0 both) : RoundOK P w0 (roundR P both lf) := by
  intro b args h r h' hr m w args' g r' hra F hmb hl hlen rd n
  unfold roundR at hr
  split at hr
  · rename_i rr hb
    split at hr
    · rename_i t ht
      obtain ⟨_, _, _, r2, k1, k2, k3, k4, k5, k6, k7, k8, k9⟩ := F.obj _ _ _ _ _ hb hmb
      rw [hl] at k1
      cases k1
      have hfr := putPs_ok rr.ps.toList args args' rr.tmps t r'.tmps ht hra k4 k5
      have hz : (r'.params.zip ⟨args'⟩).foldl (fun tmps (x : Tmp × Value) => tmps.setIfInBounds x.1 x.2) r'.tmps = (rr.ps.toList.zip args').foldl (fun tmps (p : Tmp × Value) => tmps.setIfInBounds p.1 p.2) r'.tmps := by
        rw [k6, ← Array.foldl_toList, Array.toList_zip]
      rw [← hz] at hfr
      refine roundIn_of_wpIn trivial ?_
      have hrel : RelAct m rr.N ⟨t, []⟩ { tmps := (r'.params.zip ⟨args'⟩).foldl (fun tmps (x : Tmp × Value) => tmps.setIfInBounds x.1 x.2) r'.tmps, defers := [] } := ⟨hfr.1, fun i v hv => hfr.2 i v hv, .nil⟩
      unfold midRound at hr
      split at hr
      · rename_i a1 h1 hcode
        have h1w := codeR_ok (N := rr.N) (rb := some b) (lf := lf) hm hc rr.assign _ _ _ _ _ hcode (some g) n m _ w hmb hrel F
        rw [k7]
        refine wpIn_mono h1w ?_
        rintro e1 act1 w1 ⟨m1, hx1, ha1, F1, hex⟩
        cases hex
        split at hr
        · rename_i r1 hb1
          split at hr
          · rename_i hst
            have hmb1 := hx1.le _ _ hmb
            obtain ⟨r1', q1, q2, q3, q4, F2⟩ := F1.reLoop hb1 hmb1 .busy r1.pend
            rw [← q3] at F2
            refine ⟨_, run_beginRound q1 (by rw [q2]; exact hst), ?_⟩
            unfold endRound at hr
            split at hr
            · rename_i e3 a3 h3 hbody
              split at hr
              · rename_i j hj
                split at hr
                · rename_i r3 hb3
                  simp only [Option.some.injEq, Prod.mk.injEq] at hr
                  obtain ⟨rfl, rfl⟩ := hr
                  have h2w := codeR_ok (N := rr.N) (rb := some b) (lf := lf) hm hc rr.body _ _ _ _ _ hbody (some g) n m1 _ _ hmb1 ha1 F2
                  rw [k8]
                  refine wpIn_mono h2w ?_
                  rintro e4 act4 w4 ⟨m4, hx4, ha4, F4, hex⟩
                  have hmb4 := hx4.le _ _ hmb1
                  obtain ⟨r3', p1, p2, p3, p4, F5⟩ := F4.reLoop hb3 hmb4 (if j.isNone then .ready else .done) j
                  have hx := hx1.trans hx4
                  cases hex with
                  | normal =>
                    simp only [jumpOf, Option.some.injEq] at hj
                    subst hj
                    exact ⟨_, _, run_endRound none p1, m4, hx, F5, _, rfl, .bool _⟩
                  | ret =>
                    simp only [jumpOf, Option.some.injEq] at hj
                    subst hj
                    exact ⟨_, _, run_endRound (some .ret) p1, m4, hx, F5, _, rfl, .bool _⟩
                  | exit id =>
                    simp only [jumpOf, Option.some.injEq] at hj
                    subst hj
                    exact ⟨_, _, run_endRound (some (.exit id)) p1, m4, hx, F5, _, rfl, .bool _⟩
                  | goto l => cases hj
                  | panic hv => cases hj
                · cases hr
              · cases hr
            · cases hr
          · cases hr
        · cases hr
      · cases hr
    · cases hr
  · cases hr

/-! ### calls -/
theorem takeMark {D g : Nat} (F : Fits w0 m H w) (hb : H.get D = some (.obj .dfr)) (hm : m[D]? = some (some (g, 0, 0))) : (Instr.takeDeferred g).run P w = .ok [] (w.putObj g (.deferred none)) ∧ Fits w0 m (H.put D (.obj .shut)) (w.putObj g (.deferred none)) := by
  obtain ⟨_, _, _, hk⟩ := F.obj _ _ _ _ _ hb hm
  have hk : w.heap[g]? = some (.deferred (some [])) := hk
  exact ⟨run_takeDeferred hk, F.putObj hb hm (World.putObj_heap_same (heap_lt hk))⟩
theorem marksR_ok {fn : Func} {a : AAct} {act : Act} {r : ARes} {h' : AHeap} {n : Nat} : ∀ (ds : List (FuncId × List AV × List AV)) (h : AHeap), marksR P fn a ds h = some (r, h') →
    ∀ (m : Map) (ds' : List Deferred) (w : World), (∀ t, Slot m a act t) → RelD m ds ds' → Fits w0 m h w → LeavesInM Fence.wide n P fn act.tmps (RetOK w0 m h' r) ds' .returning w := by
  intro ds
  induction ds with
  | nil =>
    intro h hr m ds' w hs hds F
    have := hds.nil_eq
    subst this
    simp only [marksR] at hr
    obtain ⟨v, v', rfl, rfl, hrun, hv⟩ := results_ok hs F hr
    exact ⟨v', hrun, m, Ext.refl m, F, v', rfl, hv⟩
  | cons d ds ih =>
    intro h hr m ds' w hs hds F
    unfold marksR at hr
    split at hr
    · rename_i e
      cases e
    · rename_i D ds2 e
      simp only [List.cons.injEq] at e
      obtain ⟨rfl, rfl⟩ := e
      split at hr
      · rename_i hb
        cases hds with
        | mark hmD hrest =>
          obtain ⟨ht, F2⟩ := takeMark (P := P) F hb hmD
          exact ⟨by simp, .inl ⟨_, _, rfl, ht, ih _ hr m _ _ hs hrest F2⟩⟩
        | cons k1 k2 k3 =>
          cases k2 with | cons k _ => cases k
      · cases hr
    · cases hr
theorem marksP_ok {fn : Func} {tmps : Array Value} {v : AV} {v' : Value} {r : ARes} {h' : AHeap} {n : Nat} : ∀ (ds : List (FuncId × List AV × List AV)) (h : AHeap), marksP v ds h = some (r, h') →
    ∀ (m : Map) (ds' : List Deferred) (w : World), Rel m v v' → RelD m ds ds' → Fits w0 m h w → LeavesInM Fence.wide n P fn tmps (RetOK w0 m h' r) ds' (.panicking [{ v := v', recovered := false }]) w := by
  intro ds
  induction ds with
  | nil =>
    intro h hr m ds' w hv hds F
    have := hds.nil_eq
    subst this
    simp only [marksP, Option.some.injEq, Prod.mk.injEq] at hr
    obtain ⟨rfl, rfl⟩ := hr
    exact ⟨m, Ext.refl m, F, v', rfl, hv⟩
  | cons d ds ih =>
    intro h hr m ds' w hv hds F
    unfold marksP at hr
    split at hr
    · rename_i e
      cases e
    · rename_i D ds2 e
      simp only [List.cons.injEq] at e
      obtain ⟨rfl, rfl⟩ := e
      split at hr
      · rename_i hb
        cases hds with
        | mark hmD hrest =>
          obtain ⟨ht, F2⟩ := takeMark (P := P) F hb hmD
          exact ⟨by simp, .inl ⟨_, _, rfl, ht, ih _ hr m _ _ hv hrest F2⟩⟩
        | cons k1 k2 k3 =>
          cases k2 with | cons k _ => cases k
      · cases hr
    · cases hr
theorem LeavesInM.mono {fn : Func} {tmps : Array Value} {n : Nat} {R R' : Ending → World → Prop} (hr : ∀ e w, R e w → R' e w) : ∀ (ds : List Deferred) (u : FrameMode) (w : World), (∀ d ∈ ds, ∃ g, d.target = .collected g) → LeavesInM Fence.wide n P fn tmps R ds u w → LeavesInM Fence.wide n P fn tmps R' ds u w := by
  intro ds
  induction ds with
  | nil =>
    intro u w _ h
    cases u with
    | run => exact h
    | returning => obtain ⟨v, h1, h2⟩ := h; exact ⟨v, h1, hr _ _ h2⟩
    | panicking chain => exact hr _ _ h
  | cons d ds ih =>
    intro u w hd h
    obtain ⟨h1, h2⟩ := h
    refine ⟨h1, ?_⟩
    rcases h2 with ⟨g, w', k1, k2, k3⟩ | ⟨_, fv, cap, f, args, k1, _⟩
    · exact .inl ⟨g, w', k1, k2, ih _ _ (fun d hd' => hd d (List.mem_cons_of_mem _ hd')) k3⟩
    · obtain ⟨g, hg⟩ := hd d (List.mem_cons_self ..)
      rw [hg] at k1
      cases k1
theorem marksR_all {fn : Func} {a : AAct} {r : ARes} {h' : AHeap} : ∀ (ds : List (FuncId × List AV × List AV)) (h : AHeap), marksR P fn a ds h = some (r, h') → ∀ (m : Map) (ds' : List Deferred), RelD m ds ds' → ∀ d ∈ ds', ∃ g, d.target = .collected g := by
  intro ds
  induction ds with
  | nil => intro h hr m ds' hds d hd; rw [hds.nil_eq] at hd; cases hd
  | cons d ds ih =>
    intro h hr m ds' hds d2 hd2
    unfold marksR at hr
    split at hr
    · rename_i e; cases e
    · rename_i D ds2 e
      simp only [List.cons.injEq] at e
      obtain ⟨rfl, rfl⟩ := e
      split at hr
      · cases hds with
        | mark hmD hrest =>
          rcases List.mem_cons.1 hd2 with rfl | hd2
          · exact ⟨_, rfl⟩
          · exact ih _ hr m _ hrest d2 hd2
        | cons k1 k2 k3 => cases k2 with | cons k _ => cases k
      · cases hr
    · cases hr
theorem marksP_all {v : AV} {r : ARes} {h' : AHeap} : ∀ (ds : List (FuncId × List AV × List AV)) (h : AHeap), marksP v ds h = some (r, h') → ∀ (m : Map) (ds' : List Deferred), RelD m ds ds' → ∀ d ∈ ds', ∃ g, d.target = .collected g := by
  intro ds
  induction ds with
  | nil => intro h hr m ds' hds d hd; rw [hds.nil_eq] at hd; cases hd
  | cons d ds ih =>
    intro h hr m ds' hds d2 hd2
    unfold marksP at hr
    split at hr
    · rename_i e; cases e
    · rename_i D ds2 e
      simp only [List.cons.injEq] at e
      obtain ⟨rfl, rfl⟩ := e
      split at hr
      · cases hds with
        | mark hmD hrest =>
          rcases List.mem_cons.1 hd2 with rfl | hd2
          · exact ⟨_, rfl⟩
          · exact ih _ hr m _ hrest d2 hd2
        | cons k1 k2 k3 => cases k2 with | cons k _ => cases k
      · cases hr
    · cases hr
theorem bodyR_ok (hm : P.follows .mixedOrders = true) (hc : BothOK P w0 both) : CallOK P w0 (bodyR P both lf) := by
  intro f args h r h' hr m w args' ha F
  unfold bodyR at hr
  split at hr
  · cases hr
  · rename_i fn hf
    split at hr
    · cases hr
    · rename_i c hb
      split at hr
      · rename_i hlen
        have hlen := Nat.le_of_ble_eq_true hlen
        have hl := ha.length
        have hra : RelAct m fn.ntmps ⟨T.put .e 0 args, []⟩ { tmps := (⟨args'⟩ : Array Value) ++ Array.replicate (fn.ntmps - (⟨args'⟩ : Array Value).size) undef, defers := [] } := {
          size := by simp; omega
          tmps := fun t v hv => by
            simp only [T.get_put] at hv
            split at hv
            · rename_i hin
              simp only [Nat.sub_zero] at hv
              obtain ⟨y, hy, hr⟩ := ha.get t v hv
              have ht : t < args'.length := by omega
              refine ⟨y, ?_, hr⟩
              simp only
              rw [Array.getElem?_append_left (by simpa using ht)]
              simpa using hy
            · rw [T.get_e] at hv; cases hv
          defers := .nil }
        refine callsIn_wide.1 (callsIn_of_wp_marks (n := 0) hf hb trivial ?_)
        cases hcode : codeR P both lf fn.ntmps none c ⟨T.put .e 0 args, []⟩ h with
        | none => rw [hcode] at hr; cases hr
        | some p =>
          obtain ⟨e, a2, h2⟩ := p
          rw [hcode] at hr
          refine wpIn_mono (codeR_ok (N := fn.ntmps) (rb := none) (lf := lf) hm hc c _ _ _ _ _ hcode none 0 m _ w trivial hra F) ?_
          rintro e' act2 w2 ⟨m2, hx2, hra2, F2, hex⟩
          cases hex with
          | normal => exact LeavesInM.mono (fun e w he => he.ext hx2) _ _ _ (marksR_all _ _ hr m2 _ hra2.defers) (marksR_ok _ h2 hr m2 _ w2 hra2.tmps hra2.defers F2)
          | ret => exact LeavesInM.mono (fun e w he => he.ext hx2) _ _ _ (marksR_all _ _ hr m2 _ hra2.defers) (marksR_ok _ h2 hr m2 _ w2 hra2.tmps hra2.defers F2)
          | panic hv => exact LeavesInM.mono (fun e w he => he.ext hx2) _ _ _ (marksP_all _ _ hr m2 _ hra2.defers) (marksP_ok _ h2 hr m2 _ w2 hv hra2.defers F2)
          | exit id => cases hr
          | goto l => cases hr
      · cases hr
/-- what has been looked up is so -/
def LookOK (P : Program) (w0 : Base) (look : FuncId → List AV → Option ARes) : Prop := ∀ f args r, look f args = some r → ∀ (h : AHeap) (m : Map) (w : World) (args' : List Value), RelL m args args' → Fits w0 m h w → Calls P f ⟨args'⟩ w (RetOK w0 m h r)
theorem bothA_ok (hm : P.follows .mixedOrders = true) {spec : SpecT} (hs : SpecOK P w0 spec) {look : FuncId → List AV → Option ARes} (hk : LookOK P w0 look) {L : List FuncId} : ∀ (d : Nat), BothOK P w0 (bothA P spec look L lf d)
  | 0 => ⟨fun _ _ _ _ _ h => (by cases h), fun _ _ _ _ _ h => (by cases h)⟩
  | d + 1 => by
    have ih := bothA_ok hm hs hk (L := L) d
    refine ⟨fun f args h r h' hr => ?_, fun f args h r h' hr => ?_⟩
    · have hr : (match spec f with
        | some s => s (bothA P spec look L lf d false) args h
        | none => match look f args with
          | some r => some (r, h)
          | none => match memB f L with
            | true => bodyR P (bothA P spec look L lf d) lf f args h
            | false => bodyA P (bothA P spec look L lf d false) lf f args h) = some (r, h') := hr
      split at hr
      · rename_i s hspec
        exact hs f s hspec _ ih.call f args h r h' (by simpa using hr)
      · split at hr
        · rename_i r2 hl
          simp only [Option.some.injEq, Prod.mk.injEq] at hr
          obtain ⟨rfl, rfl⟩ := hr
          exact fun m w args' ha F => hk _ _ _ hl h m w args' ha F
        · split at hr
          · exact bodyR_ok hm ih f args h r h' hr
          · exact body_ok hm ih.call f args h r h' hr
    · exact roundR_ok hm ih f args h r h' hr
end
end
end Go.Proofs.Ytpnccmlajhhpdaa.Abs
