/- Rounds by plain functions of slots; a round's outcome; a world with rounds above another world. -/
import Derived.Test.YtikaeeaepnflnaaAbs58
namespace Go.Proofs.Ytikaeeaepnflnaa.Abs
noncomputable section
open Go.RowKit

/-- the first that answers -/
def orF (a b : CallF) : CallF := fun f args h => match a f args h with
  | some r => some r
  | none => b f args h
theorem orF_ok {P : Program} {a b : CallF} (ha : SaysAll P a) (hb : SaysAll P b) : SaysAll P (orF a b) := by
  intro f args h r h' e
  unfold orF at e
  split at e
  · rename_i r' e2
    cases e
    exact ha _ _ _ _ _ e2
  · exact hb _ _ _ _ _ e
theorem orF_l {a b : CallF} {f : FuncId} {args : List AV} {h : AHeap} {x : ARes × AHeap} (e : a f args h = some x) : orF a b f args h = some x := by
  unfold orF
  rw [e]
theorem orF_r {a b : CallF} {f : FuncId} {args : List AV} {h : AHeap} (e : a f args h = none) : orF a b f args h = b f args h := by
  unfold orF
  rw [e]
theorem callOf_one {f : FuncId} {s : FnT} {l : List (FuncId × FnT)} {args : List AV} {h : AHeap} : callOf ((f, s) :: l) f args h = s args h := by
  unfold callOf
  rw [Nat.beq_refl]
theorem callOf_none {f : FuncId} : ∀ (l : List (FuncId × FnT)) (args : List AV) (h : AHeap), (l.all fun p => !Nat.beq p.1 f) = true → callOf l f args h = none
  | [], _, _, _ => rfl
  | (g, s) :: l, args, h, e => by
    rw [List.all_cons, Bool.and_eq_true] at e
    unfold callOf
    have e1 : Nat.beq g f = false := by simpa using e.1
    rw [e1]
    exact callOf_none l args h e.2
/-- what a code may be told by -/
def Code.tag : Code → Nat
  | .region id _ _ => id + 1
  | .seq a b => Code.tag a * 3 + Code.tag b
  | .cond _ a b => Code.tag a * 5 + Code.tag b
  | .block _ a => Code.tag a
  | .loop a => Code.tag a
  | _ => 0
/-- a loop over a function: where it stands, and who does its rounds: the slots that laying what is handed reads, what it leaves in which slots, the body -/
structure LSite where
  N : Nat
  c : Code
  sa : List Nat
  fa : BothF → FnT
  ts : List Nat
  fb : BothF → FnT
open Classical in
def lsite (sites : List LSite) (q : ALoop) : Option LSite := sites.find? fun s => Nat.beq s.N q.N && (Nat.beq (Code.tag (Code.r2 s.c)) (Code.tag q.body) && decide (Code.r1 s.c = q.assign ∧ Code.r2 s.c = q.body))
theorem lsite_some {sites : List LSite} {q : ALoop} {s : LSite} (h : lsite sites q = some s) : s ∈ sites ∧ s.N = q.N ∧ Code.r1 s.c = q.assign ∧ Code.r2 s.c = q.body := by
  have h1 := List.mem_of_find?_eq_some h
  have h2 := List.find?_some h
  simp only [Bool.and_eq_true, decide_eq_true_eq] at h2
  exact ⟨h1, Nat.eq_of_beq_eq_true h2.1, h2.2.2.1, h2.2.2.2⟩
open Classical in
theorem lsite_hit {s : LSite} {l : List LSite} {q : ALoop} (h1 : s.N = q.N) (h2 : Code.r1 s.c = q.assign) (h3 : Code.r2 s.c = q.body) : lsite (s :: l) q = some s := by
  unfold lsite
  rw [List.find?_cons_of_pos]
  rw [h1, h2, h3, Nat.beq_refl, Nat.beq_refl]
  exact decide_eq_true ⟨rfl, rfl⟩
theorem lsite_miss {s : LSite} {l : List LSite} {q : ALoop} (h : (Nat.beq s.N q.N && Nat.beq (Code.tag (Code.r2 s.c)) (Code.tag q.body)) = false) : lsite (s :: l) q = lsite l q := by
  unfold lsite
  rw [List.find?_cons_of_neg]
  rw [← Bool.and_assoc, h]
  exact Bool.false_ne_true
def slotsC (t : T AV) : List Nat → Option (List AV)
  | [] => some []
  | i :: l => match t.get i, slotsC t l with
    | some v, some vs => some (v :: vs)
    | _, _ => none
theorem slotsC_get {t : T AV} : ∀ {l : List Nat} {vs : List AV}, slotsC t l = some vs → ∀ i v, Fr.get (l.zip vs) i = some v → t.get i = some v
  | [], vs, h, i, v, e => by
    cases h
    cases e
  | j :: l, vs, h, i, v, e => by
    unfold slotsC at h
    split at h
    · rename_i w ws e1 e2
      cases h
      rw [List.zip_cons_cons] at e
      unfold Fr.get at e
      split at e
      · rename_i hb
        have := Nat.eq_of_beq_eq_true hb
        subst this
        cases e
        exact e1
      · exact slotsC_get e2 i v e
    · cases h
def LSite.A (s : LSite) (both : BothF) : AAct → AHeap → CodeT := fun a h => match slotsC a.tmps s.sa with
  | some vs => decA s.ts a.defers (s.fa both vs h)
  | none => none
def LSite.B (s : LSite) (both : BothF) : AAct → AHeap → CodeT := fun a h => match slotsC a.tmps s.ts with
  | some vs => decB a.defers (s.fb both vs h)
  | none => none
/-- of its plain functions -/
structure LSite.ok (P : Program) (s : LSite) : Prop where
  A : ∀ {both : BothF}, BothAll P both → ∀ {vs : List AV} {h : AHeap} {r : ARes} {h' : AHeap}, s.fa both vs h = some (r, h') → ∀ (w0 : Base) (m0 : Map) (rd : Option Nat) (n : Nat) (ds : DefT), WR P w0 m0 s.N rd n (Code.r1 s.c) (Post w0 m0 s.N .normal ⟨Fr.tree (tupFr s.ts r), ds⟩ h') (s.sa.zip vs) ds h
  B : ∀ {both : BothF}, BothAll P both → ∀ {vs : List AV} {h : AHeap} {r : ARes} {h' : AHeap}, s.fb both vs h = some (r, h') → ∀ (w0 : Base) (m0 : Map) (rd : Option Nat) (n : Nat) (ds : DefT), WR P w0 m0 s.N rd n (Code.r2 s.c) (Post w0 m0 s.N (decE r) ⟨Fr.tree [], ds⟩ h') (s.ts.zip vs) ds h
theorem LSite.okA {P : Program} {s : LSite} (hs : s.ok P) {both : BothF} (hc : BothAll P both) (w0 : Base) (rb : Option Nat) : CodeROK P w0 s.N rb (s.A both) (Code.r1 s.c) := by
  refine codeROK_of (fun t ds h e a' h' hr => ?_) rb
  unfold LSite.A at hr
  split at hr
  · rename_i vs hv
    obtain ⟨r, e1, rfl, rfl⟩ := decA_some hr
    exact ⟨s.sa.zip vs, slotsC_get hv, fun rd n m0 => hs.A hc e1 w0 m0 rd n ds⟩
  · cases hr
theorem LSite.okB {P : Program} {s : LSite} (hs : s.ok P) {both : BothF} (hc : BothAll P both) (w0 : Base) (rb : Option Nat) : CodeROK P w0 s.N rb (s.B both) (Code.r2 s.c) := by
  refine codeROK_of (fun t ds h e a' h' hr => ?_) rb
  unfold LSite.B at hr
  split at hr
  · rename_i vs hv
    obtain ⟨r, e1, rfl, rfl⟩ := decB_some hr
    exact ⟨s.ts.zip vs, slotsC_get hv, fun rd n m0 => hs.B hc e1 w0 m0 rd n ds⟩
  · cases hr
/-! ### rounds, by the record -/
def roundQ (fa fb : ALoop → AAct → AHeap → CodeT) (b : Nat) (args : List AV) (h : AHeap) : Option (ARes × AHeap) := match h.get b with
  | some (.obj (.loop r)) => match putPs r.N r.ps.toList args r.tmps with
    | some t => midRound (fb r) b (fa r ⟨t, []⟩ h)
    | none => none
  | _ => none
theorem roundQ_ok {P : Program} {w0 : Base} {fa fb : ALoop → AAct → AHeap → CodeT} (ha : ∀ (q : ALoop) (b : Nat), CodeROK P w0 q.N (some b) (fa q) q.assign) (hb : ∀ (q : ALoop) (b : Nat), CodeROK P w0 q.N (some b) (fb q) q.body) : RoundOK P w0 (roundQ fa fb) := by
  intro b args h r h' hr m w args' g r' hra F hmb hl hlen rd n
  unfold roundQ at hr
  split at hr
  · rename_i rr hb0
    split at hr
    · rename_i t ht
      obtain ⟨_, _, _, r2, k1, k2, k3, k4, k5, k6, k7, k8, k9⟩ := F.obj _ _ _ _ _ hb0 hmb
      rw [hl] at k1
      cases k1
      have hfr := putPs_ok rr.ps.toList args args' rr.tmps t r'.tmps ht hra k4 k5
      have hz : (r'.params.zip ⟨args'⟩).foldl (fun tmps (x : Tmp × Value) => tmps.setIfInBounds x.1 x.2) r'.tmps = (rr.ps.toList.zip args').foldl (fun tmps (p : Tmp × Value) => tmps.setIfInBounds p.1 p.2) r'.tmps := by
        rw [k6, ← Array.foldl_toList, Array.toList_zip]
      rw [← hz] at hfr
      refine roundIn_of_wpIn trivial ?_
      have hrel : RelAct m rr.N ⟨t, []⟩ { tmps := (r'.params.zip ⟨args'⟩).foldl (fun tmps (x : Tmp × Value) => tmps.setIfInBounds x.1 x.2) r'.tmps, defers := [] } := ⟨hfr.1, fun i v hv => hfr.2 i v hv, .nil⟩
      unfold midRound at hr
      split at hr
      · rename_i a1 h1 hcode
        have h1w := ha rr b _ _ _ _ _ hcode (some g) n m _ w hmb hrel F
        rw [k7]
        refine wpIn_mono h1w ?_
        rintro e1 act1 w1 ⟨m1, hx1, ha1, F1, hex⟩
        cases hex
        split at hr
        · rename_i r1 hb1
          split at hr
          · rename_i hst
            have hmb1 := hx1.le _ _ hmb
            obtain ⟨r1', q1, q2, q3, q4, F2⟩ := F1.reLoop hb1 hmb1 .busy r1.pend
            rw [← q3] at F2
            refine ⟨_, run_beginRound q1 (by rw [q2]; exact hst), ?_⟩
            unfold endRound at hr
            split at hr
            · rename_i e3 a3 h3 hbody
              split at hr
              · rename_i j hj
                split at hr
                · rename_i r3 hb3
                  simp only [Option.some.injEq, Prod.mk.injEq] at hr
                  obtain ⟨rfl, rfl⟩ := hr
                  have h2w := hb rr b _ _ _ _ _ hbody (some g) n m1 _ _ hmb1 ha1 F2
                  rw [k8]
                  refine wpIn_mono h2w ?_
                  rintro e4 act4 w4 ⟨m4, hx4, ha4, F4, hex⟩
                  have hmb4 := hx4.le _ _ hmb1
                  obtain ⟨r3', p1, p2, p3, p4, F5⟩ := F4.reLoop hb3 hmb4 (if j.isNone then .ready else .done) j
                  have hx := hx1.trans hx4
                  cases hex with
                  | normal =>
                    simp only [jumpOf, Option.some.injEq] at hj
                    subst hj
                    exact ⟨_, _, run_endRound none p1, m4, hx, F5, _, rfl, .bool _⟩
                  | ret =>
                    simp only [jumpOf, Option.some.injEq] at hj
                    subst hj
                    exact ⟨_, _, run_endRound (some .ret) p1, m4, hx, F5, _, rfl, .bool _⟩
                  | exit id =>
                    simp only [jumpOf, Option.some.injEq] at hj
                    subst hj
                    exact ⟨_, _, run_endRound (some (.exit id)) p1, m4, hx, F5, _, rfl, .bool _⟩
                  | goto l => cases hj
                  | panic hv => cases hj
                · cases hr
              · cases hr
            · cases hr
          · cases hr
        · cases hr
      · cases hr
    · cases hr
  · cases hr
def roundL (sites : List LSite) (both : BothF) : Nat → List AV → AHeap → Option (ARes × AHeap) := roundQ
  (fun q => match lsite sites q with
    | some s => s.A both
    | none => fun _ _ => none)
  (fun q => match lsite sites q with
    | some s => s.B both
    | none => fun _ _ => none)
theorem roundL_ok {P : Program} {sites : List LSite} (hs : ∀ s ∈ sites, s.ok P) {both : BothF} (hc : BothAll P both) (w0 : Base) : RoundOK P w0 (roundL sites both) := by
  refine roundQ_ok (fun q b => ?_) (fun q b => ?_)
  · cases hf : lsite sites q with
    | none => exact fun _ _ _ _ _ e => nomatch e
    | some s =>
      obtain ⟨h1, h2, h3, _⟩ := lsite_some hf
      rw [← h2, ← h3]
      exact LSite.okA (hs s h1) hc w0 (some b)
  · cases hf : lsite sites q with
    | none => exact fun _ _ _ _ _ e => nomatch e
    | some s =>
      obtain ⟨h1, h2, _, h4⟩ := lsite_some hf
      rw [← h2, ← h4]
      exact LSite.okB (hs s h1) hc w0 (some b)
/-- functions (by what is there below) above a world of calls, and rounds -/
def worldL (sites : List LSite) (top : BothF → List (FuncId × FnT)) (base : CallF) : Nat → BothF := worldB (fun both => orF (callOf (top both)) base) (roundL sites)
theorem worldL_ok {P : Program} {sites : List LSite} (hs : ∀ s ∈ sites, s.ok P) {top : BothF → List (FuncId × FnT)} (ht : ∀ both, BothAll P both → SaysAll P (callOf (top both))) {base : CallF} (hb : SaysAll P base) (d : Nat) : BothAll P (worldL sites top base d) :=
  worldB_ok (fun _ hc => orF_ok (ht _ hc) hb) (fun _ hc w0 => roundL_ok hs hc w0) d
section
variable {sites : List LSite} {top : BothF → List (FuncId × FnT)} {base : CallF} {d : Nat} {f : FuncId} {args : List AV} {h : AHeap} {x : ARes × AHeap}
theorem worldL_top (e : callOf (top (worldL sites top base d)) f args h = some x) : worldL sites top base (d + 1) false f args h = some x := orF_l e
theorem worldL_base (e : callOf (top (worldL sites top base d)) f args h = none) : worldL sites top base (d + 1) false f args h = base f args h := orF_r e
theorem worldL_round {b : Nat} : worldL sites top base (d + 1) true b args h = roundL sites (worldL sites top base d) b args h := rfl
end
/-! ### a round's outcome -/
/-- a loop's record -/
def recQ (s : LoopState) (j : AJump) (N : Nat) (c : Code) (t : T AV) (D : Nat) : AObj := .obj (.loop ⟨s, j, t, N, Code.rgp c, Code.r1 c, Code.r2 c, D⟩)
theorem rngH_rec (N : Nat) (c : Code) (t : T AV) (h : AHeap) : (rngH N c t h).get (h.next + 1) = some (recQ .ready .none N c t h.next) := get_new_same _
theorem rngH_mark (N : Nat) (c : Code) (t : T AV) (h : AHeap) : (rngH N c t h).get h.next = some (.obj .dfr) := by
  refine (get_new_other _ ?_).trans (get_new_same _)
  show h.next + 1 ≠ h.next
  omega
theorem rngH_next (N : Nat) (c : Code) (t : T AV) (h : AHeap) : (rngH N c t h).next = h.next + 2 := rfl
theorem rngH_tch (S : List Nat) (N : Nat) (c : Code) (t : T AV) (h : AHeap) : Tch S h (rngH N c t h) := (Tch.new S h _).trans (Tch.new S _ _)
/-- what a body's number says of how the loop goes on -/
def jumpZ (z : Int) : AJump := match decE (.ret (.int .i64 z)) with
  | .ret => .ret
  | .exit id => .exit id
  | _ => .none
def stZ (j : AJump) : LoopState := if j.isNone then .ready else .done
theorem jumpOf_decE (k : IntKind) (z : Int) : jumpOf (decE (.ret (.int k z))) = some (jumpZ z) := by
  show jumpOf (match z with
    | 0 => AExit.normal
    | 1 => .ret
    | z => .exit (z - 2).toNat) = some (match (match z with
    | 0 => AExit.normal
    | 1 => .ret
    | z => .exit (z - 2).toNat) with
    | .ret => AJump.ret
    | .exit id => .exit id
    | _ => .none)
  split <;> rfl
section
variable {sites : List LSite} {both : BothF} {s : LSite} {b N D : Nat} {c : Code} {t t0 : T AV} {h h1 h2 : AHeap} {args vs ws : List AV} {z : Int} {j : AJump}
theorem round_L (hb : h.get b = some (recQ .ready j N c t0 D)) (hs : ∀ st jj, lsite sites ⟨st, jj, t0, N, Code.rgp c, Code.r1 c, Code.r2 c, D⟩ = some s) (hp : putPs N (Code.rgp c).toList args t0 = some t) (hg : slotsC t s.sa = some vs)
    (ea : s.fa both vs h = some (.ret (.tup ws), h1)) (k1 : h1.get b = h.get b) (hg2 : slotsC (Fr.tree (s.ts.zip ws)) s.ts = some ws)
    (eb : s.fb both ws (h1.put b (recQ .busy j N c t0 D)) = some (.ret (.int .i64 z), h2)) (k2 : h2.get b = some (recQ .busy j N c t0 D)) :
    roundL sites both b args h = some (.ret (.bool (jumpZ z).isNone), h2.put b (recQ (stZ (jumpZ z)) (jumpZ z) N c t0 D)) := by
  unfold roundL roundQ
  unfold recQ at hb k2 eb ⊢
  rw [hb]
  simp only [hp]
  rw [hs]
  have e1 : s.A both ⟨t, []⟩ h = some (.normal, ⟨Fr.tree (s.ts.zip ws), []⟩, h1) := by
    unfold LSite.A
    simp only [hg, ea]
    rfl
  simp only [e1, midRound]
  rw [k1, hb]
  have e2 : s.B both ⟨Fr.tree (s.ts.zip ws), []⟩ (h1.put b (.obj (.loop ⟨.busy, j, t0, N, Code.rgp c, Code.r1 c, Code.r2 c, D⟩))) = some (decE (.ret (.int .i64 z)), ⟨Fr.tree [], []⟩, h2) := by
    unfold LSite.B
    simp only [hg2, eb]
    rfl
  simp only [e2, endRound, jumpOf_decE, k2]
  rfl
end
end
end Go.Proofs.Ytikaeeaepnflnaa.Abs
