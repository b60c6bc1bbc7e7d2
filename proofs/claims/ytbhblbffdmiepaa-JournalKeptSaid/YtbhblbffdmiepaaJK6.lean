/- What journalKept_proved stands on, part 6 of 8. -/
import Derived.Test.YtbhblbffdmiepaaJK5
namespace Go.Proofs.Ytbhblbffdmiepaa.Abs
noncomputable section
open Go.RowKit
def orF (a b : CallF) : CallF := fun f args h => match a f args h with
 | some r => some r
 | none => b f args h
theorem orF_ok {P : Program} {a b : CallF} (ha : SaysAll P a) (hb : SaysAll P b) : SaysAll P (orF a b) := by
 intro f args h r h' e
 unfold orF at e
 split at e
 ·rename_i r' e2
  cases e
  exact ha _ _ _ _ _ e2
 ·exact hb _ _ _ _ _ e
theorem orF_l {a b : CallF} {f : FuncId} {args : List AV} {h : AHeap} {x : ARes × AHeap} (e : a f args h = some x) : orF a b f args h = some x := by
 unfold orF
 rw [e]
theorem orF_r {a b : CallF} {f : FuncId} {args : List AV} {h : AHeap} (e : a f args h = none) : orF a b f args h = b f args h := by
 unfold orF
 rw [e]
theorem callOf_none {f : FuncId} : ∀ (l : List (FuncId × FnT)) (args : List AV) (h : AHeap), (l.all fun p => !Nat.beq p.1 f) = true → callOf l f args h = none
 | [], _, _, _ => rfl
 | (g, s) :: l, args, h, e => by
  rw [List.all_cons, Bool.and_eq_true] at e
  unfold callOf
  have e1 : Nat.beq g f = false := by simpa using e.1
  rw [e1]
  exact callOf_none l args h e.2
def Code.tag : Code → Nat
 | .region id _ _ => id + 1
 | .seq a b => Code.tag a * 3 + Code.tag b
 | .cond _ a b => Code.tag a * 5 + Code.tag b
 | .block _ a => Code.tag a
 | .loop a => Code.tag a
 | _ => 0
structure LSite where
 N : Nat
 c : Code
 sa : List Nat
 fa : BothF → FnT
 ts : List Nat
 fb : BothF → FnT
open Classical in
def lsite (sites : List LSite) (q : ALoop) : Option LSite := sites.find? fun s => Nat.beq s.N q.N && (Nat.beq (Code.tag (Code.r2 s.c)) (Code.tag q.body) && decide (Code.r1 s.c = q.assign ∧ Code.r2 s.c = q.body))
theorem lsite_some {sites : List LSite} {q : ALoop} {s : LSite} (h : lsite sites q = some s) : s ∈ sites ∧ s.N = q.N ∧ Code.r1 s.c = q.assign ∧ Code.r2 s.c = q.body := by
 have h1 := List.mem_of_find?_eq_some h
 have h2 := List.find?_some h
 simp only [Bool.and_eq_true, decide_eq_true_eq] at h2
 exact ⟨h1, Nat.eq_of_beq_eq_true h2.1, h2.2.2.1, h2.2.2.2⟩
open Classical in
theorem lsite_hit {s : LSite} {l : List LSite} {q : ALoop} (h1 : s.N = q.N) (h2 : Code.r1 s.c = q.assign) (h3 : Code.r2 s.c = q.body) : lsite (s :: l) q = some s := by
 unfold lsite
 rw [List.find?_cons_of_pos]
 rw [h1, h2, h3, Nat.beq_refl, Nat.beq_refl]
 exact decide_eq_true ⟨rfl, rfl⟩
theorem lsite_miss {s : LSite} {l : List LSite} {q : ALoop} (h : (Nat.beq s.N q.N && Nat.beq (Code.tag (Code.r2 s.c)) (Code.tag q.body)) = false) : lsite (s :: l) q = lsite l q := by
 unfold lsite
 rw [List.find?_cons_of_neg]
 rw [← Bool.and_assoc, h]
 exact Bool.false_ne_true
def slotsC (t : T AV) : List Nat → Option (List AV)
 | [] => some []
 | i :: l => match t.get i, slotsC t l with
  | some v, some vs => some (v :: vs)
  | _, _ => none
theorem slotsC_get {t : T AV} : ∀ {l : List Nat} {vs : List AV}, slotsC t l = some vs → ∀ i v, Fr.get (l.zip vs) i = some v → t.get i = some v
 | [], vs, h, i, v, e => by
  cases h
  cases e
 | j :: l, vs, h, i, v, e => by
  unfold slotsC at h
  split at h
  ·rename_i w ws e1 e2
   cases h
   rw [List.zip_cons_cons] at e
   unfold Fr.get at e
   split at e
   ·rename_i hb
    have := Nat.eq_of_beq_eq_true hb
    subst this
    cases e
    exact e1
   ·exact slotsC_get e2 i v e
  ·cases h
def LSite.A (s : LSite) (both : BothF) : AAct → AHeap → CodeT := fun a h => match slotsC a.tmps s.sa with
 | some vs => decA s.ts a.defers (s.fa both vs h)
 | none => none
def LSite.B (s : LSite) (both : BothF) : AAct → AHeap → CodeT := fun a h => match slotsC a.tmps s.ts with
 | some vs => decB a.defers (s.fb both vs h)
 | none => none
structure LSite.ok (P : Program) (s : LSite) : Prop where
 A : ∀ {both : BothF}, BothAll P both → ∀ {vs : List AV} {h : AHeap} {r : ARes} {h' : AHeap}, s.fa both vs h = some (r, h') → ∀ (w0 : Base) (m0 : Map) (rd : Option Nat) (n : Nat) (ds : DefT), WR P w0 m0 s.N rd n (Code.r1 s.c) (Post w0 m0 s.N .normal ⟨Fr.tree (tupFr s.ts r), ds⟩ h') (s.sa.zip vs) ds h
 B : ∀ {both : BothF}, BothAll P both → ∀ {vs : List AV} {h : AHeap} {r : ARes} {h' : AHeap}, s.fb both vs h = some (r, h') → ∀ (w0 : Base) (m0 : Map) (rd : Option Nat) (n : Nat) (ds : DefT), WR P w0 m0 s.N rd n (Code.r2 s.c) (Post w0 m0 s.N (decE r) ⟨Fr.tree [], ds⟩ h') (s.ts.zip vs) ds h
theorem LSite.okA {P : Program} {s : LSite} (hs : s.ok P) {both : BothF} (hc : BothAll P both) (w0 : Base) (rb : Option Nat) : CodeROK P w0 s.N rb (s.A both) (Code.r1 s.c) := by
 refine codeROK_of (fun t ds h e a' h' hr => ?_) rb
 unfold LSite.A at hr
 split at hr
 ·rename_i vs hv
  obtain ⟨r, e1, rfl, rfl⟩ := decA_some hr
  exact ⟨s.sa.zip vs, slotsC_get hv, fun rd n m0 => hs.A hc e1 w0 m0 rd n ds⟩
 ·cases hr
theorem LSite.okB {P : Program} {s : LSite} (hs : s.ok P) {both : BothF} (hc : BothAll P both) (w0 : Base) (rb : Option Nat) : CodeROK P w0 s.N rb (s.B both) (Code.r2 s.c) := by
 refine codeROK_of (fun t ds h e a' h' hr => ?_) rb
 unfold LSite.B at hr
 split at hr
 ·rename_i vs hv
  obtain ⟨r, e1, rfl, rfl⟩ := decB_some hr
  exact ⟨s.ts.zip vs, slotsC_get hv, fun rd n m0 => hs.B hc e1 w0 m0 rd n ds⟩
 ·cases hr
def roundQ (fa fb : ALoop → AAct → AHeap → CodeT) (b : Nat) (args : List AV) (h : AHeap) : Option (ARes × AHeap) := match h.get b with
 | some (.obj (.loop r)) => match putPs r.N r.ps.toList args r.tmps with
  | some t => midRound (fb r) b (fa r ⟨t, []⟩ h)
  | none => none
 | _ => none
theorem roundQ_ok {P : Program} {w0 : Base} {fa fb : ALoop → AAct → AHeap → CodeT} (ha : ∀ (q : ALoop) (b : Nat), CodeROK P w0 q.N (some b) (fa q) q.assign) (hb : ∀ (q : ALoop) (b : Nat), CodeROK P w0 q.N (some b) (fb q) q.body) : RoundOK P w0 (roundQ fa fb) := by
 intro b args h r h' hr m w args' g r' hra F hmb hl hlen rd n
 unfold roundQ at hr
 split at hr
 ·rename_i rr hb0
  split at hr
  ·rename_i t ht
   obtain ⟨_, _, _, r2, k1, k2, k3, k4, k5, k6, k7, k8, k9⟩ := F.obj _ _ _ _ _ hb0 hmb
   rw [hl] at k1
   cases k1
   have hfr := putPs_ok rr.ps.toList args args' rr.tmps t r'.tmps ht hra k4 k5
   have hz : (r'.params.zip ⟨args'⟩).foldl (fun tmps (x : Tmp × Value) => tmps.setIfInBounds x.1 x.2) r'.tmps = (rr.ps.toList.zip args').foldl (fun tmps (p : Tmp × Value) => tmps.setIfInBounds p.1 p.2) r'.tmps := by
    rw [k6, ← Array.foldl_toList, Array.toList_zip]
   rw [← hz] at hfr
   refine roundIn_of_wpIn trivial ?_
   have hrel : RelAct m rr.N ⟨t, []⟩ { tmps := (r'.params.zip ⟨args'⟩).foldl (fun tmps (x : Tmp × Value) => tmps.setIfInBounds x.1 x.2) r'.tmps, defers := [] } := ⟨hfr.1, fun i v hv => hfr.2 i v hv, .nil⟩
   unfold midRound at hr
   split at hr
   ·rename_i a1 h1 hcode
    have h1w := ha rr b _ _ _ _ _ hcode (some g) n m _ w hmb hrel F
    rw [k7]
    refine wpIn_mono h1w ?_
    rintro e1 act1 w1 ⟨m1, hx1, ha1, F1, hex⟩
    cases hex
    split at hr
    ·rename_i r1 hb1
     split at hr
     ·rename_i hst
      have hmb1 := hx1.le _ _ hmb
      obtain ⟨r1', q1, q2, q3, q4, F2⟩ := F1.reLoop hb1 hmb1 .busy r1.pend
      rw [← q3] at F2
      refine ⟨_, run_beginRound q1 (by rw [q2]; exact hst), ?_⟩
      unfold endRound at hr
      split at hr
      ·rename_i e3 a3 h3 hbody
       split at hr
       ·rename_i j hj
        split at hr
        ·rename_i r3 hb3
         simp only [Option.some.injEq, Prod.mk.injEq] at hr
         obtain ⟨rfl, rfl⟩ := hr
         have h2w := hb rr b _ _ _ _ _ hbody (some g) n m1 _ _ hmb1 ha1 F2
         rw [k8]
         refine wpIn_mono h2w ?_
         rintro e4 act4 w4 ⟨m4, hx4, ha4, F4, hex⟩
         have hmb4 := hx4.le _ _ hmb1
         obtain ⟨r3', p1, p2, p3, p4, F5⟩ := F4.reLoop hb3 hmb4 (if j.isNone then .ready else .done) j
         have hx := hx1.trans hx4
         cases hex with
         | normal =>
          simp only [jumpOf, Option.some.injEq] at hj
          subst hj
          exact ⟨_, _, run_endRound none p1, m4, hx, F5, _, rfl, .bool _⟩
         | ret =>
          simp only [jumpOf, Option.some.injEq] at hj
          subst hj
          exact ⟨_, _, run_endRound (some .ret) p1, m4, hx, F5, _, rfl, .bool _⟩
         | exit id =>
          simp only [jumpOf, Option.some.injEq] at hj
          subst hj
          exact ⟨_, _, run_endRound (some (.exit id)) p1, m4, hx, F5, _, rfl, .bool _⟩
         | goto l => cases hj
         | panic hv => cases hj
        ·cases hr
       ·cases hr
      ·cases hr
     ·cases hr
    ·cases hr
   ·cases hr
  ·cases hr
 ·cases hr
def roundL (sites : List LSite) (both : BothF) : Nat → List AV → AHeap → Option (ARes × AHeap) := roundQ
 (fun q => match lsite sites q with
  | some s => s.A both
  | none => fun _ _ => none)
 (fun q => match lsite sites q with
  | some s => s.B both
  | none => fun _ _ => none)
theorem roundL_ok {P : Program} {sites : List LSite} (hs : ∀ s ∈ sites, s.ok P) {both : BothF} (hc : BothAll P both) (w0 : Base) : RoundOK P w0 (roundL sites both) := by
 refine roundQ_ok (fun q b => ?_) (fun q b => ?_)
 ·cases hf : lsite sites q with
  | none => exact fun _ _ _ _ _ e => nomatch e
  | some s =>
   obtain ⟨h1, h2, h3, _⟩ := lsite_some hf
   rw [← h2, ← h3]
   exact LSite.okA (hs s h1) hc w0 (some b)
 ·cases hf : lsite sites q with
  | none => exact fun _ _ _ _ _ e => nomatch e
  | some s =>
   obtain ⟨h1, h2, _, h4⟩ := lsite_some hf
   rw [← h2, ← h4]
   exact LSite.okB (hs s h1) hc w0 (some b)
def worldL (sites : List LSite) (top : BothF → List (FuncId × FnT)) (base : CallF) : Nat → BothF := worldB (fun both => orF (callOf (top both)) base) (roundL sites)
theorem worldL_ok {P : Program} {sites : List LSite} (hs : ∀ s ∈ sites, s.ok P) {top : BothF → List (FuncId × FnT)} (ht : ∀ both, BothAll P both → SaysAll P (callOf (top both))) {base : CallF} (hb : SaysAll P base) (d : Nat) : BothAll P (worldL sites top base d) :=
 worldB_ok (fun _ hc => orF_ok (ht _ hc) hb) (fun _ hc w0 => roundL_ok hs hc w0) d
section
variable {sites : List LSite} {top : BothF → List (FuncId × FnT)} {base : CallF} {d : Nat} {f : FuncId} {args : List AV} {h : AHeap} {x : ARes × AHeap}
theorem worldL_top (e : callOf (top (worldL sites top base d)) f args h = some x) : worldL sites top base (d + 1) false f args h = some x := orF_l e
theorem worldL_base (e : callOf (top (worldL sites top base d)) f args h = none) : worldL sites top base (d + 1) false f args h = base f args h := orF_r e
end
def recQ (s : LoopState) (j : AJump) (N : Nat) (c : Code) (t : T AV) (D : Nat) : AObj := .obj (.loop ⟨s, j, t, N, Code.rgp c, Code.r1 c, Code.r2 c, D⟩)
theorem rngH_rec (N : Nat) (c : Code) (t : T AV) (h : AHeap) : (rngH N c t h).get (h.next + 1) = some (recQ .ready .none N c t h.next) := get_new_same _
theorem rngH_mark (N : Nat) (c : Code) (t : T AV) (h : AHeap) : (rngH N c t h).get h.next = some (.obj .dfr) := by
 refine (get_new_other _ ?_).trans (get_new_same _)
 show h.next + 1 ≠ h.next
 omega
theorem rngH_next (N : Nat) (c : Code) (t : T AV) (h : AHeap) : (rngH N c t h).next = h.next + 2 := rfl
theorem rngH_tch (S : List Nat) (N : Nat) (c : Code) (t : T AV) (h : AHeap) : Tch S h (rngH N c t h) := (Tch.new S h _).trans (Tch.new S _ _)
def jumpZ (z : Int) : AJump := match decE (.ret (.int .i64 z)) with
 | .ret => .ret
 | .exit id => .exit id
 | _ => .none
def stZ (j : AJump) : LoopState := if j.isNone then .ready else .done
theorem jumpOf_decE (k : IntKind) (z : Int) : jumpOf (decE (.ret (.int k z))) = some (jumpZ z) := by
 show jumpOf (match z with
  | 0 => AExit.normal
  | 1 => .ret
  | z => .exit (z - 2).toNat) = some (match (match z with
  | 0 => AExit.normal
  | 1 => .ret
  | z => .exit (z - 2).toNat) with
  | .ret => AJump.ret
  | .exit id => .exit id
  | _ => .none)
 split <;> rfl
section
variable {sites : List LSite} {both : BothF} {s : LSite} {b N D : Nat} {c : Code} {t t0 : T AV} {h h1 h2 : AHeap} {args vs ws : List AV} {z : Int} {j : AJump}
theorem round_L (hb : h.get b = some (recQ .ready j N c t0 D)) (hs : ∀ st jj, lsite sites ⟨st, jj, t0, N, Code.rgp c, Code.r1 c, Code.r2 c, D⟩ = some s) (hp : putPs N (Code.rgp c).toList args t0 = some t) (hg : slotsC t s.sa = some vs)
  (ea : s.fa both vs h = some (.ret (.tup ws), h1)) (k1 : h1.get b = h.get b) (hg2 : slotsC (Fr.tree (s.ts.zip ws)) s.ts = some ws)
  (eb : s.fb both ws (h1.put b (recQ .busy j N c t0 D)) = some (.ret (.int .i64 z), h2)) (k2 : h2.get b = some (recQ .busy j N c t0 D)) :
  roundL sites both b args h = some (.ret (.bool (jumpZ z).isNone), h2.put b (recQ (stZ (jumpZ z)) (jumpZ z) N c t0 D)) := by
 unfold roundL roundQ
 unfold recQ at hb k2 eb ⊢
 rw [hb]
 simp only [hp]
 rw [hs]
 have e1 : s.A both ⟨t, []⟩ h = some (.normal, ⟨Fr.tree (s.ts.zip ws), []⟩, h1) := by
  unfold LSite.A
  simp only [hg, ea]
  rfl
 simp only [e1, midRound]
 rw [k1, hb]
 have e2 : s.B both ⟨Fr.tree (s.ts.zip ws), []⟩ (h1.put b (.obj (.loop ⟨.busy, j, t0, N, Code.rgp c, Code.r1 c, Code.r2 c, D⟩))) = some (decE (.ret (.int .i64 z)), ⟨Fr.tree [], []⟩, h2) := by
  unfold LSite.B
  simp only [hg2, eb]
  rfl
 simp only [e2, endRound, jumpOf_decE, k2]
 rfl
end
end
end Go.Proofs.Ytbhblbffdmiepaa.Abs
namespace Go.Proofs.Ytbhblbffdmiepaa.Abs
noncomputable section
open Go.RowKit
section
variable {P : Program} {both : BothF} {sites : List LSite} {s : LSite} {b N D : Nat} {c : Code} {t0 : T AV} {h : AHeap} {args vs : List AV} {j : AJump} {st : LoopState} {Q : ARes → AHeap → Prop}
theorem dynB_yld (hb : h.get b = some (recQ st j N c t0 D)) (hl : Nat.beq args.length (Code.rgp c).size = true) : dynB P both (.yld b) args h = both true b args h := by
 have e : callV P h args (some (.yld b)) = some (.round b args, h) := by
  show yieldV h args b = _
  unfold yieldV
  rw [hb]
  unfold recQ
  simp only [hl, if_true]
 unfold dynB
 rw [e]
theorem Wp.marks0 {k : AHeap → R} (hk : Wp (k h) Q) : Wp (marksK [] h k) Q := hk
theorem Wp.marks1 {k : AHeap → R} {ds : DefT} (hD : h.get D = some (.obj .dfr)) (hk : Wp (marksK ds (h.put D (.obj .shut)) k) Q) : Wp (marksK (dmark D :: ds) h k) Q := by
 unfold marksK at hk ⊢
 have e : marksH (dmark D :: ds) h = marksH ds (h.put D (.obj .shut)) := by
  show (match h.get D with
   | some (.obj .dfr) => marksH ds (h.put D (.obj .shut))
   | _ => none) = _
  rw [hD]
 rw [e]
 exact hk
theorem round_W {G : Int → AHeap → Prop} (hb : h.get b = some (recQ .ready j N c t0 D)) (hs : ∀ st jj, lsite sites ⟨st, jj, t0, N, Code.rgp c, Code.r1 c, Code.r2 c, D⟩ = some s) (hg : ((putPs N (Code.rgp c).toList args t0).bind fun t => slotsC t s.sa) = some vs)
  (ea : Wp (s.fa both vs h) fun r h1 => ∃ ws, r = .ret (.tup ws) ∧ h1.get b = h.get b ∧ slotsC (Fr.tree (s.ts.zip ws)) s.ts = some ws ∧
   Wp (s.fb both ws (h1.put b (recQ .busy j N c t0 D))) fun r2 h2 => ∃ z, r2 = .ret (.int .i64 z) ∧ h2.get b = some (recQ .busy j N c t0 D) ∧ G z (h2.put b (recQ (stZ (jumpZ z)) (jumpZ z) N c t0 D))) :
  ∃ z h', roundL sites both b args h = some (.ret (.bool (jumpZ z).isNone), h') ∧ G z h' := by
 obtain ⟨t, hp, hg⟩ := Option.bind_eq_some_iff.1 hg
 obtain ⟨_, h1, e1, ws, rfl, k1, g2, _, h2, e2, z, rfl, k2, hG⟩ := ea
 exact ⟨z, _, round_L hb hs hp hg e1 k1 g2 e2 k2, hG⟩
end
section
variable {P : Program} {both : BothF} {N : Nat} {c : Code} {t : T AV} {ds : DefT} {h h2 : AHeap} {kn kr : AHeap → R} {ke : Nat → AHeap → R} {Q : ARes → AHeap → Prop} {g : FuncId} {first cap : List AV} {v : AV} {st : LoopState} {j : AJump}
theorem Wp.rng (hb : hasBody P g = true) (e : both false g (first ++ [.yld (h.next + 1)] ++ cap) (rngH N c t h) = some (.ret v, h2)) (hq : h2.get (h.next + 1) = some (recQ st j N c t h.next)) (hs : st ≠ .busy)
  (hn : j = .none → Wp (kn (h2.put (h.next + 1) (recQ .exhausted j N c t h.next))) Q) (hr : j = .ret → Wp (kr (h2.put (h.next + 1) (recQ .exhausted j N c t h.next))) Q) (he : ∀ id, j = .exit id → Wp (ke id (h2.put (h.next + 1) (recQ .exhausted j N c t h.next))) Q) : Wp (rngK (rngX P both N (.fn g first cap) c t ds h) kn kr ke) Q := by
 cases j with
 | none => exact Wp.rngN hb e hq hs rfl (hn rfl)
 | ret => exact Wp.rngR hb e hq hs rfl (hr rfl)
 | exit id => exact Wp.rngE hb e hq hs rfl (he id rfl)
end
theorem Wp.lettG {α : Type} {a : α} {K : α → R} {Q : ARes → AHeap → Prop} (hk : ∀ x, x = a → Wp (K x) Q) : Wp (Abs.lett a K) Q := hk a rfl
end
end Go.Proofs.Ytbhblbffdmiepaa.Abs
namespace Go.Proofs.Ytbhblbffdmiepaa
open Go.RowKit Abs
noncomputable def frame_All_1_L0b (both : BothF) (t0 : AV) (t1 : AV) (self : Int → AHeap → R) (t3 : Int) (h_4 : AHeap) : R :=
 obind (ldCell h_4 t1) fun v8 =>
 obind (avStr v8) fun t8 =>
 obind (sliceS t8 t3 (lenS t8)) fun t10 =>
 callN (both false 74 [strA t10] h_4) fun r11 h_10 =>
 obind (extT 0 r11) fun v12 =>
 obind (avStr v12) fun t12 =>
 obind (extT 1 r11) fun v13 =>
 obind (avInt .i64 v13) fun t13 =>
 obind (extT 2 r11) fun v14 =>
 obind (avInt .i64 v14) fun t14 =>
 lett ((t14 : Int) != 0) fun (t16 : Bool) =>
 lett (fun (t23 : Bool) (h_21 : AHeap) =>
  ifB t23
  (
   marksK [] h_21 fun h_24 =>
   some (.ret (.tup []), h_24))
  (
   lett (IntKind.i64.wrap (t3 + t13)) fun (t26 : Int) =>
   self t26 h_21)) fun j23 =>
 ifB t16
 (
  j23 true h_10)
 (
  callN (dynB Try.prog both t0 [.int .i64 t3, strA t12] h_10) fun r21 h_26 =>
  obind (avBool r21) fun t21 =>
  lett (!t21) fun (t22 : Bool) =>
  j23 t22 h_26)
noncomputable def frame_All_1_L0 (both : BothF) (t0 : AV) (t1 : AV) : Nat → Int → AHeap → R := iterR (fun _ _ => none) (frame_All_1_L0b both t0 t1)
theorem frame_All_1_L0_s (both : BothF) (t0 : AV) (t1 : AV) (m : Nat) : frame_All_1_L0 both t0 t1 (m + 1) = frame_All_1_L0b both t0 t1 (frame_All_1_L0 both t0 t1 m) := rfl
noncomputable def frame_All_1 (both : BothF) (n : Nat) (t0 : AV) (t1 : AV) (h : AHeap) : R :=
 frame_All_1_L0 both t0 t1 n 0 h
set_option maxHeartbeats 4000000 in
set_option maxRecDepth 20000 in
theorem frame_All_1_ok {both : BothF} (hc : BothAll Try.prog both) {n : Nat} {t0 : AV} {t1 : AV} {h : AHeap} {rR : ARes} {hR : AHeap} (hF : frame_All_1 both n t0 t1 h = some (rR, hR)) : Says Try.prog 73 [t0, t1] h rR hR := by
 unfold frame_All_1 at hF
 refine says_ofM (fn := Try.f73) Try.func73 (c := codeOf Try.f73) (by kernel_rfl) (by kernel_rfl) (fun w0 m0 => ?_)
 refine WR.weaken (l' := [(0, t0), (1, t1)]) (Fr.sub_cons (by kernel_rfl) (Fr.sub_cons (by kernel_rfl) (Fr.sub_nil _))) ?_
 refine WR.seqK (by kernel_rfl) (fun K1 n1 e1 q1 p1 => ?_)
 refine WR.region (by kernel_rfl) ?_
 refine WLR.val (d := (some 3)) (v := .int .i64 0) (h' := h) (by kernel_rfl) (by kernel_rfl) (by kernel_rfl) ?_
 refine WLR.nil (by kernel_rfl) ?_
 refine Go.weaken (l' := [(0, t0), (1, t1), (3, .int .i64 0)]) (Fr.sub_cons (by kernel_rfl) (Fr.sub_cons (by kernel_rfl) (Fr.sub_cons (by kernel_rfl) (Fr.sub_nil _)))) ?_
 refine n1 ?_
 refine WR.blockK (by kernel_rfl) (fun K2 n2 s2 o2 q2 p2 => ?_)
 refine WR.loopK (by kernel_rfl) (fun I3 K3 b3 n3 e3 q3 p3 => ?_)
 have L3 : ∀ (m : Nat) (t3 : Int) (h_4 : AHeap), frame_All_1_L0 both t0 t1 m t3 h_4 = some (rR, hR) → Go w0 m0 (Func.ntmps Try.f73) I3 [(0, t0), (1, t1), (3, .int .i64 t3)] [] h_4 := by
  intro m
  induction m with
  | zero => intro t3 h_4 hF; cases hF
  | succ m ih3 =>
   intro t3 h_4 hF
   rw [frame_All_1_L0_s] at hF; unfold frame_All_1_L0b at hF
   refine b3 ?_
   refine WR.blockK (by kernel_rfl) (fun K5 n5 s5 o5 q5 p5 => ?_)
   refine WR.seqK (by kernel_rfl) (fun K6 n6 e6 q6 p6 => ?_)
   refine WR.region (by kernel_rfl) ?_
   replace hF := obind_some hF; obtain ⟨v8, e7, hF⟩ := hF
   replace hF := obind_some hF; obtain ⟨t8, c8, hF⟩ := hF
   have c8 := avStr_some c8
   subst c8
   refine WLR.val (d := (some 8)) (v := strA t8) (h' := h_4) (by kernel_rfl) (by kernel_rfl) (Eq.trans (by kernel_rfl) (load_cell (P := Try.prog) (h := h_4) (t := 9) (by kernel_rfl) e7)) ?_
   refine WLR.val (d := (some 9)) (v := .int .i64 t3) (h' := h_4) (by kernel_rfl) (by kernel_rfl) (by kernel_rfl) ?_
   replace hF := obind_some hF; obtain ⟨t10, e9, hF⟩ := hF
   refine WLR.val (d := (some 10)) (v := strA t10) (h' := h_4) (by kernel_rfl) (by kernel_rfl) (Eq.trans (by kernel_rfl) (slice_str (P := Try.prog) (h := h_4) (t := 9) (A := (some (.int .i64 t3))) (B := none) (by kernel_rfl) (.inl ⟨_, rfl⟩) (.inr ⟨rfl, rfl⟩) e9)) ?_
   replace hF := callN_some hF; obtain ⟨r11, h_10, e11, hF⟩ := hF
   refine WLR.call (hc.says.ok w0) (d := (some 11)) (by kernel_rfl) (by kernel_rfl) (by kernel_rfl) e11 ?_
   refine WLR.val (d := (some 7)) (v := r11) (h' := h_10) (by kernel_rfl) (by kernel_rfl) (by kernel_rfl) ?_
   replace hF := obind_some hF; obtain ⟨v12, e12, hF⟩ := hF
   replace hF := obind_some hF; obtain ⟨t12, c13, hF⟩ := hF
   have c13 := avStr_some c13
   subst c13
   refine WLR.val (d := (some 12)) (v := strA t12) (h' := h_10) (by kernel_rfl) (by kernel_rfl) (Eq.trans (by kernel_rfl) (extract_tup (h := h_10) e12)) ?_
   replace hF := obind_some hF; obtain ⟨v13, e14, hF⟩ := hF
   replace hF := obind_some hF; obtain ⟨t13, c15, hF⟩ := hF
   have c15 := avInt_some c15
   subst c15
   refine WLR.val (d := (some 13)) (v := .int .i64 t13) (h' := h_10) (by kernel_rfl) (by kernel_rfl) (Eq.trans (by kernel_rfl) (extract_tup (h := h_10) e14)) ?_
   replace hF := obind_some hF; obtain ⟨v14, e16, hF⟩ := hF
   replace hF := obind_some hF; obtain ⟨t14, c17, hF⟩ := hF
   have c17 := avInt_some c17
   subst c17
   refine WLR.val (d := (some 14)) (v := .int .i64 t14) (h' := h_10) (by kernel_rfl) (by kernel_rfl) (Eq.trans (by kernel_rfl) (extract_tup (h := h_10) e16)) ?_
   refine WLR.val (d := (some 4)) (v := strA t12) (h' := h_10) (by kernel_rfl) (by kernel_rfl) (by kernel_rfl) ?_
   refine WLR.val (d := (some 5)) (v := .int .i64 t13) (h' := h_10) (by kernel_rfl) (by kernel_rfl) (by kernel_rfl) ?_
   refine WLR.val (d := (some 6)) (v := .int .i64 t14) (h' := h_10) (by kernel_rfl) (by kernel_rfl) (by kernel_rfl) ?_
   refine WLR.nil (by kernel_rfl) ?_
   refine Go.weaken (l' := [(0, t0), (1, t1), (3, .int .i64 t3), (4, strA t12), (5, .int .i64 t13), (6, .int .i64 t14)]) (Fr.sub_cons (by kernel_rfl) (Fr.sub_cons (by kernel_rfl) (Fr.sub_cons (by kernel_rfl) (Fr.sub_cons (by kernel_rfl) (Fr.sub_cons (by kernel_rfl) (Fr.sub_cons (by kernel_rfl) (Fr.sub_nil _))))))) ?_
   refine n6 ?_
   refine WR.seqK (by kernel_rfl) (fun K18 n18 e18 q18 p18 => ?_)
   refine WR.seqK (by kernel_rfl) (fun K19 n19 e19 q19 p19 => ?_)
   refine WR.region (by kernel_rfl) ?_
   refine WLR.val (d := (some 15)) (v := .int .i64 t14) (h' := h_10) (by kernel_rfl) (by kernel_rfl) (by kernel_rfl) ?_
   replace hF := lett_some hF; obtain ⟨t16, e20, hF⟩ := hF
   refine WLR.val (d := (some 16)) (v := .bool t16) (h' := h_10) (by kernel_rfl) (by kernel_rfl) (val_of AV.bool e20 (by kernel_rfl)) ?_
   refine WLR.val (d := (some 17)) (v := .bool t16) (h' := h_10) (by kernel_rfl) (by kernel_rfl) (by kernel_rfl) ?_
   replace hF := lett_some hF; obtain ⟨j23, e22, hF⟩ := hF
   have J23 : ∀ (t23 : Bool) (h_21 : AHeap), j23 t23 h_21 = some (rR, hR) → WLR Try.prog w0 m0 (Func.ntmps Try.f73) none 0 (Code.ops (Code.p1 (Code.p1 (Code.p2 (Code.p1 (Code.p1 (Code.p1 (Code.p2 (codeOf Try.f73))))))))) 9 K19 [(0, t0), (1, t1), (3, .int .i64 t3), (5, .int .i64 t13), (23, .bool t23)] [] h_21 := by
    intro t23 h_21 hF
    rw [e22] at hF
    refine WLR.nil (by kernel_rfl) ?_
    refine Go.weaken (l' := [(0, t0), (1, t1), (3, .int .i64 t3), (5, .int .i64 t13), (23, .bool t23)]) (Fr.sub_cons (by kernel_rfl) (Fr.sub_cons (by kernel_rfl) (Fr.sub_cons (by kernel_rfl) (Fr.sub_cons (by kernel_rfl) (Fr.sub_cons (by kernel_rfl) (Fr.sub_nil _)))))) ?_
    refine n19 ?_
    cases t23 with
    | true =>
     replace hF := ifB_t hF
     refine WR.cond_true (by kernel_rfl) (by kernel_rfl) ?_
     refine WR.ret (by kernel_rfl) ?_
     refine q18 ?_
     refine q5 ?_
     refine q3 ?_
     refine q2 ?_
     refine Go.leaveK hF (fun h_24 hF => ?_)
     obtain ⟨hF, hF2⟩ := ret_inj hF; subst hF; subst hF2
     exact ret_of (rs := []) (vs := []) (by kernel_rfl) res_nil (by kernel_rfl)
    | false =>
     replace hF := ifB_f hF
     refine WR.cond_false (by kernel_rfl) (by kernel_rfl) ?_
     refine WR.skip (by kernel_rfl) ?_
     refine n18 ?_
     refine WR.region (by kernel_rfl) ?_
     refine WLR.val (d := (some 24)) (v := .int .i64 t3) (h' := h_21) (by kernel_rfl) (by kernel_rfl) (by kernel_rfl) ?_
     refine WLR.val (d := (some 25)) (v := .int .i64 t13) (h' := h_21) (by kernel_rfl) (by kernel_rfl) (by kernel_rfl) ?_
     replace hF := lett_some hF; obtain ⟨t26, e25, hF⟩ := hF
     refine WLR.val (d := (some 26)) (v := .int .i64 t26) (h' := h_21) (by kernel_rfl) (by kernel_rfl) (val_of (AV.int .i64) e25 (by kernel_rfl)) ?_
     refine WLR.val (d := (some 3)) (v := .int .i64 t26) (h' := h_21) (by kernel_rfl) (by kernel_rfl) (by kernel_rfl) ?_
     refine WLR.nil (by kernel_rfl) ?_
     refine Go.weaken (l' := [(0, t0), (1, t1), (3, .int .i64 t26)]) (Fr.sub_cons (by kernel_rfl) (Fr.sub_cons (by kernel_rfl) (Fr.sub_cons (by kernel_rfl) (Fr.sub_nil _)))) ?_
     refine n5 ?_
     refine n3 ?_
     exact Go.weaken (Fr.sub_cons (by kernel_rfl) (Fr.sub_cons (by kernel_rfl) (Fr.sub_cons (by kernel_rfl) (Fr.sub_nil _)))) (ih3 _ _ hF)
   cases t16 with
   | true =>
    replace hF := ifB_t hF
    refine WLR.not (d := (some 18)) (by kernel_rfl) (by kernel_rfl) ?_
    refine WLR.not (d := (some 19)) (by kernel_rfl) (by kernel_rfl) ?_
    refine WLR.not (d := (some 20)) (by kernel_rfl) (by kernel_rfl) ?_
    refine WLR.not (d := (some 21)) (by kernel_rfl) (by kernel_rfl) ?_
    refine WLR.not (d := (some 22)) (by kernel_rfl) (by kernel_rfl) ?_
    refine WLR.val (d := (some 23)) (v := .bool true) (h' := h_10) (by kernel_rfl) (by kernel_rfl) (by kernel_rfl) ?_
    exact WLR.weaken (Fr.sub_cons (by kernel_rfl) (Fr.sub_cons (by kernel_rfl) (Fr.sub_cons (by kernel_rfl) (Fr.sub_cons (by kernel_rfl) (Fr.sub_cons (by kernel_rfl) (Fr.sub_nil _)))))) (J23 _ _ hF)
   | false =>
    replace hF := ifB_f hF
    refine WLR.val (d := (some 18)) (v := t0) (h' := h_10) (by kernel_rfl) (by kernel_rfl) (by kernel_rfl) ?_
    refine WLR.val (d := (some 19)) (v := .int .i64 t3) (h' := h_10) (by kernel_rfl) (by kernel_rfl) (by kernel_rfl) ?_
    refine WLR.val (d := (some 20)) (v := strA t12) (h' := h_10) (by kernel_rfl) (by kernel_rfl) (by kernel_rfl) ?_
    replace hF := callN_some hF; obtain ⟨r21, h_26, e27, hF⟩ := hF
    replace hF := obind_some hF; obtain ⟨t21, c28, hF⟩ := hF
    have c28 := avBool_some c28
    subst c28
    refine WLR.dyn (d := (some 21)) hc e27 ?_
    replace hF := lett_some hF; obtain ⟨t22, e29, hF⟩ := hF
    refine WLR.val (d := (some 22)) (v := .bool t22) (h' := h_26) (by kernel_rfl) (by kernel_rfl) (val_of AV.bool e29 (by kernel_rfl)) ?_
    refine WLR.val (d := (some 23)) (v := .bool t22) (h' := h_26) (by kernel_rfl) (by kernel_rfl) (by kernel_rfl) ?_
    exact WLR.weaken (Fr.sub_cons (by kernel_rfl) (Fr.sub_cons (by kernel_rfl) (Fr.sub_cons (by kernel_rfl) (Fr.sub_cons (by kernel_rfl) (Fr.sub_cons (by kernel_rfl) (Fr.sub_nil _)))))) (J23 _ _ hF)
 exact Go.weaken (Fr.sub_cons (by kernel_rfl) (Fr.sub_cons (by kernel_rfl) (Fr.sub_cons (by kernel_rfl) (Fr.sub_nil _)))) (L3 _ _ _ hF)
noncomputable def frame_All_1_fn (both : BothF) (n : Nat) : FnT := fun args h => match args with
 | [x0, x1] => frame_All_1 both n x0 x1 h
 | _ => none
set_option maxRecDepth 100000 in
theorem frame_All_1_fn_eq (both : BothF) (n : Nat) (t0 : AV) (t1 : AV) (h : AHeap) : frame_All_1_fn both n [t0, t1] h = frame_All_1 both n t0 t1 h :=
 rfl
theorem frame_All_1_holds {both : BothF} (hc : BothAll Try.prog both) (n : Nat) : Holds Try.prog 73 (frame_All_1_fn both n) := by
 intro args h r h2 e
 unfold frame_All_1_fn at e
 split at e
 ·exact frame_All_1_ok hc (n := n) e
 ·cases e
noncomputable def journal_Journal_All_1_L0b (both : BothF) (t0 : AV) (v10 : AV) (t11 : Int) (k15 : AHeap → R) (self : Int → AHeap → R) (t12 : Int) (h_19 : AHeap) : R :=
 lett (decide (t12 < t11)) fun (t13 : Bool) =>
 ifB t13
 (
  obind (idxP 5 v10 t12) fun t14 =>
  obind (ldRow h_19 5 t14) fun t15 =>
  lett (newH h_19 35 [.int .i64 0, .int .i64 0, .int .i64 0, .int .i64 0, .str 0 0]) fun h_28 =>
  obind (stRow h_28 5 t15 (newP h_19)) fun h_30 =>
  obind (ldRow h_30 5 (newP h_19)) fun t17 =>
  callN (dynB Try.prog both t0 [.agg t17] h_30) fun r18 h_34 =>
  obind (avBool r18) fun t18 =>
  lett (!t18) fun (t19 : Bool) =>
  ifB t19
  (
   marksK [] h_34 fun h_38 =>
   some (.ret (.tup []), h_38))
  (
   lett (IntKind.i64.wrap (t12 + 1)) fun (t20 : Int) =>
   self t20 h_34))
 (
  k15 h_19)
noncomputable def journal_Journal_All_1_L0 (both : BothF) (t0 : AV) (v10 : AV) (t11 : Int) (k15 : AHeap → R) : Nat → Int → AHeap → R := iterR (fun _ _ => none) (journal_Journal_All_1_L0b both t0 v10 t11 k15)
theorem journal_Journal_All_1_L0_s (both : BothF) (t0 : AV) (v10 : AV) (t11 : Int) (k15 : AHeap → R) (m : Nat) : journal_Journal_All_1_L0 both t0 v10 t11 k15 (m + 1) = journal_Journal_All_1_L0b both t0 v10 t11 k15 (journal_Journal_All_1_L0 both t0 v10 t11 k15 m) := rfl
noncomputable def journal_Journal_All_1 (both : BothF) (n : Nat) (t0 : AV) (t1 : AV) (h : AHeap) : R :=
 obind (ldCell h t1) fun v5 =>
 outK (opBin Try.prog h .eql 25 true (some v5) (some AV.nilp)) fun v6 h_4 =>
 obind (avBool v6) fun t6 =>
 ifB t6
 (
  marksK [] h_4 fun h_7 =>
  some (.ret (.tup []), h_7))
 (
  obind (ldCell h_4 t1) fun v7 =>
  obind (nilC v7) fun t8 =>
  obind (fldP 1 t8) fun t9 =>
  obind (ldCell h_4 t9) fun v10 =>
  obind (lenL v10) fun t11 =>
  lett (fun  (h_16 : AHeap) =>
   marksK [] h_16 fun h_17 =>
   some (.ret (.tup []), h_17)) fun k15 =>
  journal_Journal_All_1_L0 both t0 v10 t11 k15 n 0 h_4)
set_option maxHeartbeats 4000000 in
set_option maxRecDepth 20000 in
theorem journal_Journal_All_1_ok {both : BothF} (hc : BothAll Try.prog both) {n : Nat} {t0 : AV} {t1 : AV} {h : AHeap} {rR : ARes} {hR : AHeap} (hF : journal_Journal_All_1 both n t0 t1 h = some (rR, hR)) : Says Try.prog 62 [t0, t1] h rR hR := by
 unfold journal_Journal_All_1 at hF
 refine says_ofM (fn := Try.f62) Try.func62 (c := codeOf Try.f62) (by kernel_rfl) (by kernel_rfl) (fun w0 m0 => ?_)
 refine WR.weaken (l' := [(0, t0), (1, t1)]) (Fr.sub_cons (by kernel_rfl) (Fr.sub_cons (by kernel_rfl) (Fr.sub_nil _))) ?_
 refine WR.seqK (by kernel_rfl) (fun K1 n1 e1 q1 p1 => ?_)
 refine WR.seqK (by kernel_rfl) (fun K2 n2 e2 q2 p2 => ?_)
 refine WR.region (by kernel_rfl) ?_
 replace hF := obind_some hF; obtain ⟨v5, e3, hF⟩ := hF
 refine WLR.val (d := (some 5)) (v := v5) (h' := h) (by kernel_rfl) (by kernel_rfl) (Eq.trans (by kernel_rfl) (load_cell (P := Try.prog) (h := h) (t := 25) (by kernel_rfl) e3)) ?_
 replace hF := outK_some hF; obtain ⟨v6, h_4, e5, hF⟩ := hF
 replace hF := obind_some hF; obtain ⟨t6, c6, hF⟩ := hF
 have c6 := avBool_some c6
 subst c6
 refine WLR.val (d := (some 6)) (v := .bool t6) (h' := h_4) (by kernel_rfl) (by kernel_rfl) (Eq.trans (by kernel_rfl) e5) ?_
 refine WLR.nil (by kernel_rfl) ?_
 refine Go.weaken (l' := [(0, t0), (1, t1), (6, .bool t6)]) (Fr.sub_cons (by kernel_rfl) (Fr.sub_cons (by kernel_rfl) (Fr.sub_cons (by kernel_rfl) (Fr.sub_nil _)))) ?_
 refine n2 ?_
 cases t6 with
 | true =>
  replace hF := ifB_t hF
  refine WR.cond_true (by kernel_rfl) (by kernel_rfl) ?_
  refine WR.ret (by kernel_rfl) ?_
  refine q1 ?_
  refine Go.leaveK hF (fun h_7 hF => ?_)
  obtain ⟨hF, hF2⟩ := ret_inj hF; subst hF; subst hF2
  exact ret_of (rs := []) (vs := []) (by kernel_rfl) res_nil (by kernel_rfl)
 | false =>
  replace hF := ifB_f hF
  refine WR.cond_false (by kernel_rfl) (by kernel_rfl) ?_
  refine WR.skip (by kernel_rfl) ?_
  refine n1 ?_
  refine WR.seqK (by kernel_rfl) (fun K8 n8 e8 q8 p8 => ?_)
  refine WR.region (by kernel_rfl) ?_
  replace hF := obind_some hF; obtain ⟨v7, e9, hF⟩ := hF
  refine WLR.val (d := (some 7)) (v := v7) (h' := h_4) (by kernel_rfl) (by kernel_rfl) (Eq.trans (by kernel_rfl) (load_cell (P := Try.prog) (h := h_4) (t := 25) (by kernel_rfl) e9)) ?_
  replace hF := obind_some hF; obtain ⟨t8, e10, hF⟩ := hF
  refine WLR.val (d := (some 8)) (v := t8) (h' := h_4) (by kernel_rfl) (by kernel_rfl) (Eq.trans (by kernel_rfl) (nil_chk (h := h_4) e10)) ?_
  replace hF := obind_some hF; obtain ⟨t9, e11, hF⟩ := hF
  refine WLR.val (d := (some 9)) (v := t9) (h' := h_4) (by kernel_rfl) (by kernel_rfl) (Eq.trans (by kernel_rfl) (field_ptr (P := Try.prog) (h := h_4) (s := 89) (f := 1) (by kernel_rfl) e11)) ?_
  replace hF := obind_some hF; obtain ⟨v10, e12, hF⟩ := hF
  refine WLR.val (d := (some 10)) (v := v10) (h' := h_4) (by kernel_rfl) (by kernel_rfl) (Eq.trans (by kernel_rfl) (load_cell (P := Try.prog) (h := h_4) (t := 39) (by kernel_rfl) e12)) ?_
  replace hF := obind_some hF; obtain ⟨t11, e13, hF⟩ := hF
  refine WLR.val (d := (some 11)) (v := .int .i64 t11) (h' := h_4) (by kernel_rfl) (by kernel_rfl) (Eq.trans (by kernel_rfl) (len_row (P := Try.prog) (h := h_4) (t := 39) (e' := 35) (by kernel_rfl) e13)) ?_
  refine WLR.val (d := (some 12)) (v := .int .i64 0) (h' := h_4) (by kernel_rfl) (by kernel_rfl) (by kernel_rfl) ?_
  refine WLR.nil (by kernel_rfl) ?_
  refine Go.weaken (l' := [(0, t0), (10, v10), (11, .int .i64 t11), (12, .int .i64 0)]) (Fr.sub_cons (by kernel_rfl) (Fr.sub_cons (by kernel_rfl) (Fr.sub_cons (by kernel_rfl) (Fr.sub_cons (by kernel_rfl) (Fr.sub_nil _))))) ?_
  refine n8 ?_
  replace hF := lett_some hF; obtain ⟨k15, e15, hF⟩ := hF
  have J15 : ∀  (h_16 : AHeap), k15 h_16 = some (rR, hR) → Go w0 m0 (Func.ntmps Try.f62) (FinM Try.prog Try.f62 w0 m0 rR hR .normal) [] [] h_16 := by
   intro  h_16 hF
   rw [e15] at hF
   refine Go.leaveKN hF (fun h_17 hF => ?_)
   obtain ⟨hF, hF2⟩ := ret_inj hF; subst hF; subst hF2
   exact ret_of (rs := []) (vs := []) (by kernel_rfl) res_nil (by kernel_rfl)
  refine WR.blockK (by kernel_rfl) (fun K14 n14 s14 o14 q14 p14 => ?_)
  refine WR.loopK (by kernel_rfl) (fun I18 K18 b18 n18 e18 q18 p18 => ?_)
  have L18 : ∀ (m : Nat) (t12 : Int) (h_19 : AHeap), journal_Journal_All_1_L0 both t0 v10 t11 k15 m t12 h_19 = some (rR, hR) → Go w0 m0 (Func.ntmps Try.f62) I18 [(0, t0), (10, v10), (11, .int .i64 t11), (12, .int .i64 t12)] [] h_19 := by
   intro m
   induction m with
   | zero => intro t12 h_19 hF; cases hF
   | succ m ih18 =>
    intro t12 h_19 hF
    rw [journal_Journal_All_1_L0_s] at hF; unfold journal_Journal_All_1_L0b at hF
    refine b18 ?_
    refine WR.seqK (by kernel_rfl) (fun K20 n20 e20 q20 p20 => ?_)
    refine WR.region (by kernel_rfl) ?_
    replace hF := lett_some hF; obtain ⟨t13, e21, hF⟩ := hF
    refine WLR.val (d := (some 13)) (v := .bool t13) (h' := h_19) (by kernel_rfl) (by kernel_rfl) (val_of AV.bool e21 (by kernel_rfl)) ?_
    refine WLR.nil (by kernel_rfl) ?_
    refine Go.weaken (l' := [(0, t0), (10, v10), (11, .int .i64 t11), (12, .int .i64 t12), (13, .bool t13)]) (Fr.sub_cons (by kernel_rfl) (Fr.sub_cons (by kernel_rfl) (Fr.sub_cons (by kernel_rfl) (Fr.sub_cons (by kernel_rfl) (Fr.sub_cons (by kernel_rfl) (Fr.sub_nil _)))))) ?_
    refine n20 ?_
    refine WR.seqK (by kernel_rfl) (fun K22 n22 e22 q22 p22 => ?_)
    cases t13 with
    | true =>
     replace hF := ifB_t hF
     refine WR.cond_true (by kernel_rfl) (by kernel_rfl) ?_
     refine WR.skip (by kernel_rfl) ?_
     refine n22 ?_
     refine WR.seqK (by kernel_rfl) (fun K23 n23 e23 q23 p23 => ?_)
     refine WR.blockK (by kernel_rfl) (fun K24 n24 s24 o24 q24 p24 => ?_)
     refine WR.seqK (by kernel_rfl) (fun K25 n25 e25 q25 p25 => ?_)
     refine WR.region (by kernel_rfl) ?_
     replace hF := obind_some hF; obtain ⟨t14, e26, hF⟩ := hF
     refine WLR.val (d := (some 14)) (v := t14) (h' := h_19) (by kernel_rfl) (by kernel_rfl) (Eq.trans (by kernel_rfl) (index_row (P := Try.prog) (h := h_19) (t := 39) (e' := 35) (k := .i64) (by kernel_rfl) (by kernel_rfl) (by kernel_rfl) e26)) ?_
     replace hF := obind_some hF; obtain ⟨t15, e27, hF⟩ := hF
     refine WLR.val (d := (some 15)) (v := .agg t15) (h' := h_19) (by kernel_rfl) (by kernel_rfl) (Eq.trans (by kernel_rfl) (load_row (P := Try.prog) (h := h_19) (t := 35) (by kernel_rfl) (by kernel_rfl) e27)) ?_
     replace hF := lett_some hF; obtain ⟨h_28, e29, hF⟩ := hF
     refine WLR.val (d := (some 4)) (v := (newP h_19)) (h' := h_28) (by kernel_rfl) (by kernel_rfl) (val_ofH e29 (by kernel_rfl)) ?_
     replace hF := obind_some hF; obtain ⟨h_30, e31, hF⟩ := hF
     refine WLR.eff (h' := h_30) (by kernel_rfl) (by kernel_rfl) (Eq.trans (by kernel_rfl) (store_row (P := Try.prog) (h := h_28) (t := 35) (v := (.agg t15)) (by kernel_rfl) (by kernel_rfl) e31)) ?_
     refine WLR.nil (by kernel_rfl) ?_
     refine Go.weaken (l' := [(0, t0), (4, (newP h_19)), (10, v10), (11, .int .i64 t11), (12, .int .i64 t12)]) (Fr.sub_cons (by kernel_rfl) (Fr.sub_cons (by kernel_rfl) (Fr.sub_cons (by kernel_rfl) (Fr.sub_cons (by kernel_rfl) (Fr.sub_cons (by kernel_rfl) (Fr.sub_nil _)))))) ?_
     refine n25 ?_
     refine WR.seqK (by kernel_rfl) (fun K32 n32 e32 q32 p32 => ?_)
     refine WR.region (by kernel_rfl) ?_
     refine WLR.val (d := (some 16)) (v := t0) (h' := h_30) (by kernel_rfl) (by kernel_rfl) (by kernel_rfl) ?_
     replace hF := obind_some hF; obtain ⟨t17, e33, hF⟩ := hF
     refine WLR.val (d := (some 17)) (v := .agg t17) (h' := h_30) (by kernel_rfl) (by kernel_rfl) (Eq.trans (by kernel_rfl) (load_row (P := Try.prog) (h := h_30) (t := 35) (by kernel_rfl) (by kernel_rfl) e33)) ?_
     replace hF := callN_some hF; obtain ⟨r18, h_34, e35, hF⟩ := hF
     replace hF := obind_some hF; obtain ⟨t18, c36, hF⟩ := hF
     have c36 := avBool_some c36
     subst c36
     refine WLR.dyn (d := (some 18)) hc e35 ?_
     replace hF := lett_some hF; obtain ⟨t19, e37, hF⟩ := hF
     refine WLR.val (d := (some 19)) (v := .bool t19) (h' := h_34) (by kernel_rfl) (by kernel_rfl) (val_of AV.bool e37 (by kernel_rfl)) ?_
     refine WLR.nil (by kernel_rfl) ?_
     refine Go.weaken (l' := [(0, t0), (10, v10), (11, .int .i64 t11), (12, .int .i64 t12), (19, .bool t19)]) (Fr.sub_cons (by kernel_rfl) (Fr.sub_cons (by kernel_rfl) (Fr.sub_cons (by kernel_rfl) (Fr.sub_cons (by kernel_rfl) (Fr.sub_cons (by kernel_rfl) (Fr.sub_nil _)))))) ?_
     refine n32 ?_
     cases t19 with
     | true =>
      replace hF := ifB_t hF
      refine WR.cond_true (by kernel_rfl) (by kernel_rfl) ?_
      refine WR.ret (by kernel_rfl) ?_
      refine q24 ?_
      refine q23 ?_
      refine q18 ?_
      refine q14 ?_
      refine Go.leaveK hF (fun h_38 hF => ?_)
      obtain ⟨hF, hF2⟩ := ret_inj hF; subst hF; subst hF2
      exact ret_of (rs := []) (vs := []) (by kernel_rfl) res_nil (by kernel_rfl)
     | false =>
      replace hF := ifB_f hF
      refine WR.cond_false (by kernel_rfl) (by kernel_rfl) ?_
      refine WR.skip (by kernel_rfl) ?_
      refine n24 ?_
      refine n23 ?_
      refine WR.region (by kernel_rfl) ?_
      replace hF := lett_some hF; obtain ⟨t20, e39, hF⟩ := hF
      refine WLR.val (d := (some 20)) (v := .int .i64 t20) (h' := h_34) (by kernel_rfl) (by kernel_rfl) (val_of (AV.int .i64) e39 (by kernel_rfl)) ?_
      refine WLR.val (d := (some 12)) (v := .int .i64 t20) (h' := h_34) (by kernel_rfl) (by kernel_rfl) (by kernel_rfl) ?_
      refine WLR.nil (by kernel_rfl) ?_
      refine Go.weaken (l' := [(0, t0), (10, v10), (11, .int .i64 t11), (12, .int .i64 t20)]) (Fr.sub_cons (by kernel_rfl) (Fr.sub_cons (by kernel_rfl) (Fr.sub_cons (by kernel_rfl) (Fr.sub_cons (by kernel_rfl) (Fr.sub_nil _))))) ?_
      refine n18 ?_
      exact Go.weaken (Fr.sub_cons (by kernel_rfl) (Fr.sub_cons (by kernel_rfl) (Fr.sub_cons (by kernel_rfl) (Fr.sub_cons (by kernel_rfl) (Fr.sub_nil _))))) (ih18 _ _ hF)
    | false =>
     replace hF := ifB_f hF
     refine WR.cond_false (by kernel_rfl) (by kernel_rfl) ?_
     refine WR.exit (by kernel_rfl) ?_
     refine e22 ?_
     refine e18 ?_
     refine s14 (by kernel_rfl) ?_
     exact Go.weaken (Fr.sub_nil _) (J15 _ hF)
  exact Go.weaken (Fr.sub_cons (by kernel_rfl) (Fr.sub_cons (by kernel_rfl) (Fr.sub_cons (by kernel_rfl) (Fr.sub_cons (by kernel_rfl) (Fr.sub_nil _))))) (L18 _ _ _ hF)
noncomputable def journal_Journal_All_1_fn (both : BothF) (n : Nat) : FnT := fun args h => match args with
 | [x0, x1] => journal_Journal_All_1 both n x0 x1 h
 | _ => none
set_option maxRecDepth 100000 in
theorem journal_Journal_All_1_fn_eq (both : BothF) (n : Nat) (t0 : AV) (t1 : AV) (h : AHeap) : journal_Journal_All_1_fn both n [t0, t1] h = journal_Journal_All_1 both n t0 t1 h :=
 rfl
theorem journal_Journal_All_1_holds {both : BothF} (hc : BothAll Try.prog both) (n : Nat) : Holds Try.prog 62 (journal_Journal_All_1_fn both n) := by
 intro args h r h2 e
 unfold journal_Journal_All_1_fn at e
 split at e
 ·exact journal_Journal_All_1_ok hc (n := n) e
 ·cases e
noncomputable def journal_Journal_read_R0A (_ : BothF) (_ : Nat) (t2 : AV) (t5 : AV) (t12 : Int) (t13 : Bytes) (h : AHeap) : R :=
 some (.ret (.tup [t2, t5, .int .i64 t12, strA t13]), h)
set_option maxHeartbeats 4000000 in
set_option maxRecDepth 20000 in
theorem journal_Journal_read_R0A_ok {both : BothF} (_ : BothAll Try.prog both) {n : Nat} {t2 : AV} {t5 : AV} {t12 : Int} {t13 : Bytes} {h : AHeap} {rR : ARes} {hR : AHeap} (hF : journal_Journal_read_R0A both n t2 t5 t12 t13 h = some (rR, hR)) {w0 : Base} {m0 : Map} {rd : Option Nat} {nR : Nat} {ds : DefT} : WR Try.prog w0 m0 (Func.ntmps Try.f32) rd nR (Code.r1 (Code.p1 (Code.p2 (Code.p1 (Code.p2 (Code.p2 (codeOf Try.f32))))))) (Post w0 m0 (Func.ntmps Try.f32) .normal ⟨Fr.tree (tupFr [2, 5, 6, 7] rR), ds⟩ hR) [(2, t2), (5, t5), (12, .int .i64 t12), (13, strA t13)] ds h := by
 unfold journal_Journal_read_R0A at hF
 refine WR.seqK (by kernel_rfl) (fun K23 n23 e23 q23 p23 => ?_)
 refine WR.region (by kernel_rfl) ?_
 refine WLR.val (d := (some 6)) (v := .int .i64 t12) (h' := h) (by kernel_rfl) (by kernel_rfl) (by kernel_rfl) ?_
 refine WLR.nil (by kernel_rfl) ?_
 refine Go.weaken (l' := [(2, t2), (5, t5), (6, .int .i64 t12), (13, strA t13)]) (Fr.sub_cons (by kernel_rfl) (Fr.sub_cons (by kernel_rfl) (Fr.sub_cons (by kernel_rfl) (Fr.sub_cons (by kernel_rfl) (Fr.sub_nil _))))) ?_
 refine n23 ?_
 refine WR.region (by kernel_rfl) ?_
 refine WLR.val (d := (some 7)) (v := strA t13) (h' := h) (by kernel_rfl) (by kernel_rfl) (by kernel_rfl) ?_
 refine WLR.nil (by kernel_rfl) ?_
 refine Go.weaken (l' := [(2, t2), (5, t5), (6, .int .i64 t12), (7, strA t13)]) (Fr.sub_cons (by kernel_rfl) (Fr.sub_cons (by kernel_rfl) (Fr.sub_cons (by kernel_rfl) (Fr.sub_cons (by kernel_rfl) (Fr.sub_nil _))))) ?_
 obtain ⟨hF, hF2⟩ := ret_inj hF; subst hF; subst hF2
 exact Go.postN (l' := [(2, t2), (5, t5), (6, .int .i64 t12), (7, strA t13)]) (Fr.sub_cons (by kernel_rfl) (Fr.sub_cons (by kernel_rfl) (Fr.sub_cons (by kernel_rfl) (Fr.sub_cons (by kernel_rfl) (Fr.sub_nil _)))))
noncomputable def journal_Journal_read_R0A_fn (both : BothF) (n : Nat) : FnT := fun args h => match args with
 | [x2, x5, x12, x13] => obind (avInt .i64 x12) fun t12 => obind (avStr x13) fun t13 => journal_Journal_read_R0A both n x2 x5 t12 t13 h
 | _ => none
set_option maxRecDepth 100000 in
theorem journal_Journal_read_R0A_fn_eq (both : BothF) (n : Nat) (t2 : AV) (t5 : AV) (t12 : Int) (t13 : Bytes) (h : AHeap) : journal_Journal_read_R0A_fn both n [t2, t5, .int .i64 t12, strA t13] h = journal_Journal_read_R0A both n t2 t5 t12 t13 h :=
 (Eq.trans (obind_eq (fun t12 => obind (avStr (strA t13)) fun t13 => journal_Journal_read_R0A both n t2 t5 t12 t13 h) (avInt_int .i64 t12)) (Eq.trans (obind_eq (fun t13 => journal_Journal_read_R0A both n t2 t5 t12 t13 h) (avStr_str t13)) rfl))
noncomputable def journal_Journal_read_R0B (both : BothF) (_ : Nat) (t2 : AV) (t5 : AV) (t6 : Int) (t7 : Bytes) (h : AHeap) : R :=
 callN (both false 55 [strA t7] h) fun r16 h_26 =>
 obind (extT 0 r16) fun v17 =>
 obind (avAgg v17) fun t17 =>
 obind (extT 1 r16) fun v18 =>
 obind (avBool v18) fun t18 =>
 lett (newH h_26 35 [.int .i64 0, .int .i64 0, .int .i64 0, .int .i64 0, .str 0 0]) fun h_32 =>
 obind (stRow h_32 5 t17 (newP h_26)) fun h_34 =>
 lett (!t18) fun (t20 : Bool) =>
 lett (fun (t26 : Bool) (h_39 : AHeap) =>
  ifB t26
  (
   some (.ret (.int .i64 2), h_39))
  (
   obind (ldCell h_39 t2) fun v27 =>
   obind (ldRow h_39 5 (newP h_26)) fun t28 =>
   callN (both false 37 [v27, .agg t28] h_39) fun _ h_45 =>
   lett (IntKind.i64.wrap (t6 + (lenS t7))) fun (t33 : Int) =>
   lett (IntKind.i64.wrap (t33 + 12)) fun (t34 : Int) =>
   obind (stRow h_45 1 [.int .i64 t34] t5) fun h_49 =>
   some (.ret (.int .i64 0), h_49))) fun j26 =>
 ifB t20
 (
  j26 true h_34)
 (
  obind (ldCell h_34 t2) fun v22 =>
  obind (ldRow h_34 5 (newP h_26)) fun t23 =>
  callN (both false 35 [v22, .agg t23] h_34) fun r24 h_53 =>
  obind (avInt .i64 r24) fun t24 =>
  lett ((t24 : Int) != 0) fun (t25 : Bool) =>
  j26 t25 h_53)
set_option maxHeartbeats 4000000 in
set_option maxRecDepth 20000 in
theorem journal_Journal_read_R0B_ok {both : BothF} (hc : BothAll Try.prog both) {n : Nat} {t2 : AV} {t5 : AV} {t6 : Int} {t7 : Bytes} {h : AHeap} {rR : ARes} {hR : AHeap} (hF : journal_Journal_read_R0B both n t2 t5 t6 t7 h = some (rR, hR)) {w0 : Base} {m0 : Map} {rd : Option Nat} {nR : Nat} {ds : DefT} : WR Try.prog w0 m0 (Func.ntmps Try.f32) rd nR (Code.r2 (Code.p1 (Code.p2 (Code.p1 (Code.p2 (Code.p2 (codeOf Try.f32))))))) (Post w0 m0 (Func.ntmps Try.f32) (decE rR) ⟨Fr.tree [], ds⟩ hR) [(2, t2), (5, t5), (6, .int .i64 t6), (7, strA t7)] ds h := by
 unfold journal_Journal_read_R0B at hF
 refine WR.blockK (by kernel_rfl) (fun K24 n24 s24 o24 q24 p24 => ?_)
 refine WR.seqK (by kernel_rfl) (fun K25 n25 e25 q25 p25 => ?_)
 refine WR.region (by kernel_rfl) ?_
 refine WLR.val (d := (some 15)) (v := strA t7) (h' := h) (by kernel_rfl) (by kernel_rfl) (by kernel_rfl) ?_
 replace hF := callN_some hF; obtain ⟨r16, h_26, e27, hF⟩ := hF
 refine WLR.call (hc.says.ok w0) (d := (some 16)) (by kernel_rfl) (by kernel_rfl) (by kernel_rfl) e27 ?_
 refine WLR.val (d := (some 14)) (v := r16) (h' := h_26) (by kernel_rfl) (by kernel_rfl) (by kernel_rfl) ?_
 replace hF := obind_some hF; obtain ⟨v17, e28, hF⟩ := hF
 replace hF := obind_some hF; obtain ⟨t17, c29, hF⟩ := hF
 have c29 := avAgg_some c29
 subst c29
 refine WLR.val (d := (some 17)) (v := .agg t17) (h' := h_26) (by kernel_rfl) (by kernel_rfl) (Eq.trans (by kernel_rfl) (extract_tup (h := h_26) e28)) ?_
 replace hF := obind_some hF; obtain ⟨v18, e30, hF⟩ := hF
 replace hF := obind_some hF; obtain ⟨t18, c31, hF⟩ := hF
 have c31 := avBool_some c31
 subst c31
 refine WLR.val (d := (some 18)) (v := .bool t18) (h' := h_26) (by kernel_rfl) (by kernel_rfl) (Eq.trans (by kernel_rfl) (extract_tup (h := h_26) e30)) ?_
 replace hF := lett_some hF; obtain ⟨h_32, e33, hF⟩ := hF
 refine WLR.val (d := (some 8)) (v := (newP h_26)) (h' := h_32) (by kernel_rfl) (by kernel_rfl) (val_ofH e33 (by kernel_rfl)) ?_
 replace hF := obind_some hF; obtain ⟨h_34, e35, hF⟩ := hF
 refine WLR.eff (h' := h_34) (by kernel_rfl) (by kernel_rfl) (Eq.trans (by kernel_rfl) (store_row (P := Try.prog) (h := h_32) (t := 35) (v := (.agg t17)) (by kernel_rfl) (by kernel_rfl) e35)) ?_
 refine WLR.val (d := (some 9)) (v := .bool t18) (h' := h_34) (by kernel_rfl) (by kernel_rfl) (by kernel_rfl) ?_
 refine WLR.nil (by kernel_rfl) ?_
 refine Go.weaken (l' := [(2, t2), (5, t5), (6, .int .i64 t6), (7, strA t7), (8, (newP h_26)), (9, .bool t18)]) (Fr.sub_cons (by kernel_rfl) (Fr.sub_cons (by kernel_rfl) (Fr.sub_cons (by kernel_rfl) (Fr.sub_cons (by kernel_rfl) (Fr.sub_cons (by kernel_rfl) (Fr.sub_cons (by kernel_rfl) (Fr.sub_nil _))))))) ?_
 refine n25 ?_
 refine WR.seqK (by kernel_rfl) (fun K36 n36 e36 q36 p36 => ?_)
 refine WR.seqK (by kernel_rfl) (fun K37 n37 e37 q37 p37 => ?_)
 refine WR.region (by kernel_rfl) ?_
 refine WLR.val (d := (some 19)) (v := .bool t18) (h' := h_34) (by kernel_rfl) (by kernel_rfl) (by kernel_rfl) ?_
 replace hF := lett_some hF; obtain ⟨t20, e38, hF⟩ := hF
 refine WLR.val (d := (some 20)) (v := .bool t20) (h' := h_34) (by kernel_rfl) (by kernel_rfl) (val_of AV.bool e38 (by kernel_rfl)) ?_
 refine WLR.val (d := (some 21)) (v := .bool t20) (h' := h_34) (by kernel_rfl) (by kernel_rfl) (by kernel_rfl) ?_
 replace hF := lett_some hF; obtain ⟨j26, e40, hF⟩ := hF
 have J41 : ∀ (t26 : Bool) (h_39 : AHeap), j26 t26 h_39 = some (rR, hR) → WLR Try.prog w0 m0 (Func.ntmps Try.f32) rd nR (Code.ops (Code.p1 (Code.p1 (Code.p2 (Code.p1 (Code.r2 (Code.p1 (Code.p2 (Code.p1 (Code.p2 (Code.p2 (codeOf Try.f32)))))))))))) 8 K37 [(2, t2), (5, t5), (6, .int .i64 t6), (7, strA t7), (8, (newP h_26)), (26, .bool t26)] ds h_39 := by
  intro t26 h_39 hF
  rw [e40] at hF
  refine WLR.nil (by kernel_rfl) ?_
  refine Go.weaken (l' := [(2, t2), (5, t5), (6, .int .i64 t6), (7, strA t7), (8, (newP h_26)), (26, .bool t26)]) (Fr.sub_cons (by kernel_rfl) (Fr.sub_cons (by kernel_rfl) (Fr.sub_cons (by kernel_rfl) (Fr.sub_cons (by kernel_rfl) (Fr.sub_cons (by kernel_rfl) (Fr.sub_cons (by kernel_rfl) (Fr.sub_nil _))))))) ?_
  refine n37 ?_
  cases t26 with
  | true =>
   replace hF := ifB_t hF
   refine WR.cond_true (by kernel_rfl) (by kernel_rfl) ?_
   refine WR.exit (by kernel_rfl) ?_
   refine e36 ?_
   refine o24 (by kernel_rfl) ?_
   obtain ⟨hF, hF2⟩ := ret_inj hF; subst hF; subst hF2
   exact Go.postE
  | false =>
   replace hF := ifB_f hF
   refine WR.cond_false (by kernel_rfl) (by kernel_rfl) ?_
   refine WR.skip (by kernel_rfl) ?_
   refine n36 ?_
   refine WR.seqK (by kernel_rfl) (fun K42 n42 e42 q42 p42 => ?_)
   refine WR.region (by kernel_rfl) ?_
   replace hF := obind_some hF; obtain ⟨v27, e43, hF⟩ := hF
   refine WLR.val (d := (some 27)) (v := v27) (h' := h_39) (by kernel_rfl) (by kernel_rfl) (Eq.trans (by kernel_rfl) (load_cell (P := Try.prog) (h := h_39) (t := 25) (by kernel_rfl) e43)) ?_
   replace hF := obind_some hF; obtain ⟨t28, e44, hF⟩ := hF
   refine WLR.val (d := (some 28)) (v := .agg t28) (h' := h_39) (by kernel_rfl) (by kernel_rfl) (Eq.trans (by kernel_rfl) (load_row (P := Try.prog) (h := h_39) (t := 35) (by kernel_rfl) (by kernel_rfl) e44)) ?_
   replace hF := callN_some hF; obtain ⟨r29, h_45, e46, hF⟩ := hF
   refine WLR.call (hc.says.ok w0) (d := (some 29)) (by kernel_rfl) (by kernel_rfl) (by kernel_rfl) e46 ?_
   refine WLR.nil (by kernel_rfl) ?_
   refine Go.weaken (l' := [(5, t5), (6, .int .i64 t6), (7, strA t7)]) (Fr.sub_cons (by kernel_rfl) (Fr.sub_cons (by kernel_rfl) (Fr.sub_cons (by kernel_rfl) (Fr.sub_nil _)))) ?_
   refine n42 ?_
   refine WR.region (by kernel_rfl) ?_
   refine WLR.val (d := (some 30)) (v := .int .i64 t6) (h' := h_45) (by kernel_rfl) (by kernel_rfl) (by kernel_rfl) ?_
   refine WLR.val (d := (some 31)) (v := strA t7) (h' := h_45) (by kernel_rfl) (by kernel_rfl) (by kernel_rfl) ?_
   refine WLR.val (d := (some 32)) (v := .int .i64 (lenS t7)) (h' := h_45) (by kernel_rfl) (by kernel_rfl) (by kernel_rfl) ?_
   replace hF := lett_some hF; obtain ⟨t33, e47, hF⟩ := hF
   refine WLR.val (d := (some 33)) (v := .int .i64 t33) (h' := h_45) (by kernel_rfl) (by kernel_rfl) (val_of (AV.int .i64) e47 (by kernel_rfl)) ?_
   replace hF := lett_some hF; obtain ⟨t34, e48, hF⟩ := hF
   refine WLR.val (d := (some 34)) (v := .int .i64 t34) (h' := h_45) (by kernel_rfl) (by kernel_rfl) (val_of (AV.int .i64) e48 (by kernel_rfl)) ?_
   replace hF := obind_some hF; obtain ⟨h_49, e50, hF⟩ := hF
   refine WLR.eff (h' := h_49) (by kernel_rfl) (by kernel_rfl) (Eq.trans (by kernel_rfl) (store_row (P := Try.prog) (h := h_45) (t := 3) (v := (.int .i64 t34)) (by kernel_rfl) (by kernel_rfl) e50)) ?_
   refine WLR.nil (by kernel_rfl) ?_
   refine Go.weaken (l' := []) (Fr.sub_nil _) ?_
   refine n24 ?_
   obtain ⟨hF, hF2⟩ := ret_inj hF; subst hF; subst hF2
   exact Go.postN (l' := []) (Fr.sub_nil _)
 cases t20 with
 | true =>
  replace hF := ifB_t hF
  refine WLR.not (d := (some 22)) (by kernel_rfl) (by kernel_rfl) ?_
  refine WLR.not (d := (some 23)) (by kernel_rfl) (by kernel_rfl) ?_
  refine WLR.not (d := (some 24)) (by kernel_rfl) (by kernel_rfl) ?_
  refine WLR.not (d := (some 25)) (by kernel_rfl) (by kernel_rfl) ?_
  refine WLR.val (d := (some 26)) (v := .bool true) (h' := h_34) (by kernel_rfl) (by kernel_rfl) (by kernel_rfl) ?_
  exact WLR.weaken (Fr.sub_cons (by kernel_rfl) (Fr.sub_cons (by kernel_rfl) (Fr.sub_cons (by kernel_rfl) (Fr.sub_cons (by kernel_rfl) (Fr.sub_cons (by kernel_rfl) (Fr.sub_cons (by kernel_rfl) (Fr.sub_nil _))))))) (J41 _ _ hF)
 | false =>
  replace hF := ifB_f hF
  replace hF := obind_some hF; obtain ⟨v22, e51, hF⟩ := hF
  refine WLR.val (d := (some 22)) (v := v22) (h' := h_34) (by kernel_rfl) (by kernel_rfl) (Eq.trans (by kernel_rfl) (load_cell (P := Try.prog) (h := h_34) (t := 25) (by kernel_rfl) e51)) ?_
  replace hF := obind_some hF; obtain ⟨t23, e52, hF⟩ := hF
  refine WLR.val (d := (some 23)) (v := .agg t23) (h' := h_34) (by kernel_rfl) (by kernel_rfl) (Eq.trans (by kernel_rfl) (load_row (P := Try.prog) (h := h_34) (t := 35) (by kernel_rfl) (by kernel_rfl) e52)) ?_
  replace hF := callN_some hF; obtain ⟨r24, h_53, e54, hF⟩ := hF
  replace hF := obind_some hF; obtain ⟨t24, c55, hF⟩ := hF
  have c55 := avInt_some c55
  subst c55
  refine WLR.call (hc.says.ok w0) (d := (some 24)) (by kernel_rfl) (by kernel_rfl) (by kernel_rfl) e54 ?_
  replace hF := lett_some hF; obtain ⟨t25, e56, hF⟩ := hF
  refine WLR.val (d := (some 25)) (v := .bool t25) (h' := h_53) (by kernel_rfl) (by kernel_rfl) (val_of AV.bool e56 (by kernel_rfl)) ?_
  refine WLR.val (d := (some 26)) (v := .bool t25) (h' := h_53) (by kernel_rfl) (by kernel_rfl) (by kernel_rfl) ?_
  exact WLR.weaken (Fr.sub_cons (by kernel_rfl) (Fr.sub_cons (by kernel_rfl) (Fr.sub_cons (by kernel_rfl) (Fr.sub_cons (by kernel_rfl) (Fr.sub_cons (by kernel_rfl) (Fr.sub_cons (by kernel_rfl) (Fr.sub_nil _))))))) (J41 _ _ hF)
noncomputable def journal_Journal_read_R0B_fn (both : BothF) (n : Nat) : FnT := fun args h => match args with
 | [x2, x5, x6, x7] => obind (avInt .i64 x6) fun t6 => obind (avStr x7) fun t7 => journal_Journal_read_R0B both n x2 x5 t6 t7 h
 | _ => none
set_option maxRecDepth 100000 in
theorem journal_Journal_read_R0B_fn_eq (both : BothF) (n : Nat) (t2 : AV) (t5 : AV) (t6 : Int) (t7 : Bytes) (h : AHeap) : journal_Journal_read_R0B_fn both n [t2, t5, .int .i64 t6, strA t7] h = journal_Journal_read_R0B both n t2 t5 t6 t7 h :=
 (Eq.trans (obind_eq (fun t6 => obind (avStr (strA t7)) fun t7 => journal_Journal_read_R0B both n t2 t5 t6 t7 h) (avInt_int .i64 t6)) (Eq.trans (obind_eq (fun t7 => journal_Journal_read_R0B both n t2 t5 t6 t7 h) (avStr_str t7)) rfl))
noncomputable def journal_Journal_read_R0 (n : Nat) : LSite := ⟨Func.ntmps Try.f32, (Code.p1 (Code.p2 (Code.p1 (Code.p2 (Code.p2 (codeOf Try.f32)))))), [2, 5, 12, 13], fun both => journal_Journal_read_R0A_fn both n, [2, 5, 6, 7], fun both => journal_Journal_read_R0B_fn both n⟩
set_option maxRecDepth 20000 in
theorem journal_Journal_read_R0_ok (n : Nat) : LSite.ok Try.prog (journal_Journal_read_R0 n) where
 A := fun hc vs h r h2 e0 w0 m0 rd n2 ds => by
   have e : journal_Journal_read_R0A_fn _ n vs h = some (r, h2) := e0
   clear e0
   unfold journal_Journal_read_R0A_fn at e
   split at e
   ·replace e := obind_some e; obtain ⟨t12, c12, e⟩ := e; have c12 := avInt_some c12; subst c12
    replace e := obind_some e; obtain ⟨t13, c13, e⟩ := e; have c13 := avStr_some c13; subst c13
    exact journal_Journal_read_R0A_ok hc (n := n) e
   ·cases e
 B := fun hc vs h r h2 e0 w0 m0 rd n2 ds => by
   have e : journal_Journal_read_R0B_fn _ n vs h = some (r, h2) := e0
   clear e0
   unfold journal_Journal_read_R0B_fn at e
   split at e
   ·replace e := obind_some e; obtain ⟨t6, c6, e⟩ := e; have c6 := avInt_some c6; subst c6
    replace e := obind_some e; obtain ⟨t7, c7, e⟩ := e; have c7 := avStr_some c7; subst c7
    exact journal_Journal_read_R0B_ok hc (n := n) e
   ·cases e
noncomputable def journal_Journal_read (both : BothF) (_ : Nat) (t0 : AV) (t1 : Bytes) (h : AHeap) : R :=
 outK (opBox h 25 (some t0)) fun v2 h_2 =>
 lett (newH h_2 3 [.int .i64 0]) fun h_5 =>
 obind (stRow h_5 1 [.int .i64 0] (newP h_2)) fun h_7 =>
 callN (both false 54 [strA t1] h_7) fun r11 h_11 =>
 lett (fun (d : DefT) (h_15 : AHeap) =>
  obind (ldCell h_15 (newP h_2)) fun v35 =>
  obind (avInt .i64 v35) fun t35 =>
  marksK d h_15 fun h_19 =>
  some (.ret (.int .i64 t35), h_19)) fun k14 =>
 rngK (rngX Try.prog both (Func.ntmps Try.f32) r11 (Code.p1 (Code.p2 (Code.p1 (Code.p2 (Code.p2 (codeOf Try.f32)))))) (Fr.tree [(2, v2), (4, .int .i64 0), (5, (newP h_2)), (11, r11)]) [] h_11) (fun h_20 =>
  k14 (dmark (AHeap.next h_11) :: []) h_20) (fun _ =>
  none) (fun id h_22 =>
  ifB (Nat.beq id 0)
  (
   k14 (dmark (AHeap.next h_11) :: []) h_22)
  (
   none))
set_option maxHeartbeats 4000000 in
set_option maxRecDepth 20000 in
theorem journal_Journal_read_ok {both : BothF} (hc : BothAll Try.prog both) {n : Nat} {t0 : AV} {t1 : Bytes} {h : AHeap} {rR : ARes} {hR : AHeap} (hF : journal_Journal_read both n t0 t1 h = some (rR, hR)) : Says Try.prog 32 [t0, strA t1] h rR hR := by
 unfold journal_Journal_read at hF
 refine says_ofM (fn := Try.f32) Try.func32 (c := codeOf Try.f32) (by kernel_rfl) (by kernel_rfl) (fun w0 m0 => ?_)
 refine WR.weaken (l' := [(0, t0), (1, strA t1)]) (Fr.sub_cons (by kernel_rfl) (Fr.sub_cons (by kernel_rfl) (Fr.sub_nil _))) ?_
 refine WR.seqK (by kernel_rfl) (fun K1 n1 e1 q1 p1 => ?_)
 refine WR.region (by kernel_rfl) ?_
 replace hF := outK_some hF; obtain ⟨v2, h_2, e3, hF⟩ := hF
 refine WLR.val (d := (some 2)) (v := v2) (h' := h_2) (by kernel_rfl) (by kernel_rfl) (Eq.trans (by kernel_rfl) e3) ?_
 refine WLR.val (d := (some 4)) (v := .int .i64 0) (h' := h_2) (by kernel_rfl) (by kernel_rfl) (by kernel_rfl) ?_
 refine WLR.nil (by kernel_rfl) ?_
 refine Go.weaken (l' := [(1, strA t1), (2, v2), (4, .int .i64 0)]) (Fr.sub_cons (by kernel_rfl) (Fr.sub_cons (by kernel_rfl) (Fr.sub_cons (by kernel_rfl) (Fr.sub_nil _)))) ?_
 refine n1 ?_
 refine WR.seqK (by kernel_rfl) (fun K4 n4 e4 q4 p4 => ?_)
 refine WR.region (by kernel_rfl) ?_
 replace hF := lett_some hF; obtain ⟨h_5, e6, hF⟩ := hF
 refine WLR.val (d := (some 5)) (v := (newP h_2)) (h' := h_5) (by kernel_rfl) (by kernel_rfl) (val_ofH e6 (by kernel_rfl)) ?_
 replace hF := obind_some hF; obtain ⟨h_7, e8, hF⟩ := hF
 refine WLR.eff (h' := h_7) (by kernel_rfl) (by kernel_rfl) (Eq.trans (by kernel_rfl) (store_row (P := Try.prog) (h := h_5) (t := 3) (v := (.int .i64 0)) (by kernel_rfl) (by kernel_rfl) e8)) ?_
 refine WLR.nil (by kernel_rfl) ?_
 refine Go.weaken (l' := [(1, strA t1), (2, v2), (4, .int .i64 0), (5, (newP h_2))]) (Fr.sub_cons (by kernel_rfl) (Fr.sub_cons (by kernel_rfl) (Fr.sub_cons (by kernel_rfl) (Fr.sub_cons (by kernel_rfl) (Fr.sub_nil _))))) ?_
 refine n4 ?_
 refine WR.seqK (by kernel_rfl) (fun K9 n9 e9 q9 p9 => ?_)
 refine WR.seqK (by kernel_rfl) (fun K10 n10 e10 q10 p10 => ?_)
 refine WR.region (by kernel_rfl) ?_
 refine WLR.val (d := (some 10)) (v := strA t1) (h' := h_7) (by kernel_rfl) (by kernel_rfl) (by kernel_rfl) ?_
 replace hF := callN_some hF; obtain ⟨r11, h_11, e12, hF⟩ := hF
 refine WLR.call (hc.says.ok w0) (d := (some 11)) (by kernel_rfl) (by kernel_rfl) (by kernel_rfl) e12 ?_
 refine WLR.nil (by kernel_rfl) ?_
 refine Go.weaken (l' := [(2, v2), (4, .int .i64 0), (5, (newP h_2)), (11, r11)]) (Fr.sub_cons (by kernel_rfl) (Fr.sub_cons (by kernel_rfl) (Fr.sub_cons (by kernel_rfl) (Fr.sub_cons (by kernel_rfl) (Fr.sub_nil _))))) ?_
 refine n10 ?_
 replace hF := lett_some hF; obtain ⟨k14, e14, hF⟩ := hF
 have J14 : ∀ (d : DefT) (h_15 : AHeap), k14 d h_15 = some (rR, hR) → Go w0 m0 (Func.ntmps Try.f32) (K9 .normal) [(5, (newP h_2))] d h_15 := by
  intro d h_15 hF
  rw [e14] at hF
  refine n9 ?_
  refine WR.seqK (by kernel_rfl) (fun K16 n16 e16 q16 p16 => ?_)
  refine WR.region (by kernel_rfl) ?_
  replace hF := obind_some hF; obtain ⟨v35, e17, hF⟩ := hF
  replace hF := obind_some hF; obtain ⟨t35, c18, hF⟩ := hF
  have c18 := avInt_some c18
  subst c18
  refine WLR.val (d := (some 35)) (v := .int .i64 t35) (h' := h_15) (by kernel_rfl) (by kernel_rfl) (Eq.trans (by kernel_rfl) (load_cell (P := Try.prog) (h := h_15) (t := 3) (by kernel_rfl) e17)) ?_
  refine WLR.val (d := (some 4)) (v := .int .i64 t35) (h' := h_15) (by kernel_rfl) (by kernel_rfl) (by kernel_rfl) ?_
  refine WLR.nil (by kernel_rfl) ?_
  refine Go.weaken (l' := [(4, .int .i64 t35)]) (Fr.sub_cons (by kernel_rfl) (Fr.sub_nil _)) ?_
  refine n16 ?_
  refine WR.ret (by kernel_rfl) ?_
  refine Go.leaveK hF (fun h_19 hF => ?_)
  obtain ⟨hF, hF2⟩ := ret_inj hF; subst hF; subst hF2
  exact ret_of (rs := [.tmp 4]) (vs := [.int .i64 t35]) (by kernel_rfl) (res_tmp (by kernel_rfl) res_nil) (by kernel_rfl)
 refine WR.blockK (by kernel_rfl) (fun K13 n13 s13 o13 q13 p13 => ?_)
 refine WR.rng hc hF (fun h_20 hF => ?_) (fun h_21 hF => ?_) (fun id h_22 hF => ?_)
 ·skip
  refine n13 ?_
  exact Go.weaken (Fr.sub_cons (by kernel_rfl) (Fr.sub_nil _)) (J14 _ _ hF)
 ·skip
  cases hF
 ·skip
  obtain ⟨rfl, hF⟩ := ifB_id hF
  refine s13 (by kernel_rfl) ?_
  exact Go.weaken (Fr.sub_cons (by kernel_rfl) (Fr.sub_nil _)) (J14 _ _ hF)
noncomputable def journal_Journal_read_fn (both : BothF) (n : Nat) : FnT := fun args h => match args with
 | [x0, x1] => obind (avStr x1) fun t1 => journal_Journal_read both n x0 t1 h
 | _ => none
set_option maxRecDepth 100000 in
theorem journal_Journal_read_fn_eq (both : BothF) (n : Nat) (t0 : AV) (t1 : Bytes) (h : AHeap) : journal_Journal_read_fn both n [t0, strA t1] h = journal_Journal_read both n t0 t1 h :=
 (Eq.trans (obind_eq (fun t1 => journal_Journal_read both n t0 t1 h) (avStr_str t1)) rfl)
theorem journal_Journal_read_holds {both : BothF} (hc : BothAll Try.prog both) (n : Nat) : Holds Try.prog 32 (journal_Journal_read_fn both n) := by
 intro args h r h2 e
 unfold journal_Journal_read_fn at e
 split at e
 ·replace e := obind_some e; obtain ⟨t1, c1, e⟩ := e; have c1 := avStr_some c1; subst c1
  exact journal_Journal_read_ok hc (n := n) e
 ·cases e
noncomputable def law22_list_R0A (_ : BothF) (_ : Nat) (t5 : AV) (t12 : List AV) (h : AHeap) : R :=
 lett (newH h 35 [.int .i64 0, .int .i64 0, .int .i64 0, .int .i64 0, .str 0 0]) fun h_24 =>
 obind (stRow h_24 5 t12 (newP h)) fun h_26 =>
 some (.ret (.tup [t5, (newP h)]), h_26)
set_option maxHeartbeats 4000000 in
set_option maxRecDepth 20000 in
theorem law22_list_R0A_ok {both : BothF} (_ : BothAll Try.prog both) {n : Nat} {t5 : AV} {t12 : List AV} {h : AHeap} {rR : ARes} {hR : AHeap} (hF : law22_list_R0A both n t5 t12 h = some (rR, hR)) {w0 : Base} {m0 : Map} {rd : Option Nat} {nR : Nat} {ds : DefT} : WR Try.prog w0 m0 (Func.ntmps Try.f14) rd nR (Code.r1 (Code.p1 (Code.p2 (Code.p1 (Code.p2 (Code.p2 (Code.p2 (Code.p2 (codeOf Try.f14))))))))) (Post w0 m0 (Func.ntmps Try.f14) .normal ⟨Fr.tree (tupFr [5, 6] rR), ds⟩ hR) [(5, t5), (12, .agg t12)] ds h := by
 unfold law22_list_R0A at hF
 refine WR.region (by kernel_rfl) ?_
 replace hF := lett_some hF; obtain ⟨h_24, e25, hF⟩ := hF
 refine WLR.val (d := (some 6)) (v := (newP h)) (h' := h_24) (by kernel_rfl) (by kernel_rfl) (val_ofH e25 (by kernel_rfl)) ?_
 replace hF := obind_some hF; obtain ⟨h_26, e27, hF⟩ := hF
 refine WLR.eff (h' := h_26) (by kernel_rfl) (by kernel_rfl) (Eq.trans (by kernel_rfl) (store_row (P := Try.prog) (h := h_24) (t := 35) (v := (.agg t12)) (by kernel_rfl) (by kernel_rfl) e27)) ?_
 refine WLR.nil (by kernel_rfl) ?_
 refine Go.weaken (l' := [(5, t5), (6, (newP h))]) (Fr.sub_cons (by kernel_rfl) (Fr.sub_cons (by kernel_rfl) (Fr.sub_nil _))) ?_
 obtain ⟨hF, hF2⟩ := ret_inj hF; subst hF; subst hF2
 exact Go.postN (l' := [(5, t5), (6, (newP h))]) (Fr.sub_cons (by kernel_rfl) (Fr.sub_cons (by kernel_rfl) (Fr.sub_nil _)))
noncomputable def law22_list_R0A_fn (both : BothF) (n : Nat) : FnT := fun args h => match args with
 | [x5, x12] => obind (avAgg x12) fun t12 => law22_list_R0A both n x5 t12 h
 | _ => none
set_option maxRecDepth 100000 in
theorem law22_list_R0A_fn_eq (both : BothF) (n : Nat) (t5 : AV) (t12 : List AV) (h : AHeap) : law22_list_R0A_fn both n [t5, .agg t12] h = law22_list_R0A both n t5 t12 h :=
 (Eq.trans (obind_eq (fun t12 => law22_list_R0A both n t5 t12 h) (avAgg_agg t12)) rfl)
noncomputable def law22_list_R0B (_ : BothF) (_ : Nat) (t5 : AV) (t6 : AV) (h : AHeap) : R :=
 obind (ldCell h t5) fun v13 =>
 obind (ldRow h 5 t6) fun t14 =>
 outK (bldSl Try.prog h 39 1 [(0, .agg t14)]) fun v15 h_31 =>
 outK (opAppend Try.prog h_31 39 39 v13 v15) fun v16 h_33 =>
 obind (stRow h_33 1 (AV.cells v16) t5) fun h_35 =>
 some (.ret (.int .i64 0), h_35)
set_option maxHeartbeats 4000000 in
set_option maxRecDepth 20000 in
theorem law22_list_R0B_ok {both : BothF} (_ : BothAll Try.prog both) {n : Nat} {t5 : AV} {t6 : AV} {h : AHeap} {rR : ARes} {hR : AHeap} (hF : law22_list_R0B both n t5 t6 h = some (rR, hR)) {w0 : Base} {m0 : Map} {rd : Option Nat} {nR : Nat} {ds : DefT} : WR Try.prog w0 m0 (Func.ntmps Try.f14) rd nR (Code.r2 (Code.p1 (Code.p2 (Code.p1 (Code.p2 (Code.p2 (Code.p2 (Code.p2 (codeOf Try.f14))))))))) (Post w0 m0 (Func.ntmps Try.f14) (decE rR) ⟨Fr.tree [], ds⟩ hR) [(5, t5), (6, t6)] ds h := by
 unfold law22_list_R0B at hF
 refine WR.blockK (by kernel_rfl) (fun K28 n28 s28 o28 q28 p28 => ?_)
 refine WR.region (by kernel_rfl) ?_
 replace hF := obind_some hF; obtain ⟨v13, e29, hF⟩ := hF
 refine WLR.val (d := (some 13)) (v := v13) (h' := h) (by kernel_rfl) (by kernel_rfl) (Eq.trans (by kernel_rfl) (load_cell (P := Try.prog) (h := h) (t := 39) (by kernel_rfl) e29)) ?_
 replace hF := obind_some hF; obtain ⟨t14, e30, hF⟩ := hF
 refine WLR.val (d := (some 14)) (v := .agg t14) (h' := h) (by kernel_rfl) (by kernel_rfl) (Eq.trans (by kernel_rfl) (load_row (P := Try.prog) (h := h) (t := 35) (by kernel_rfl) (by kernel_rfl) e30)) ?_
 replace hF := outK_some hF; obtain ⟨v15, h_31, e32, hF⟩ := hF
 refine WLR.val (d := (some 15)) (v := v15) (h' := h_31) (by kernel_rfl) (by kernel_rfl) (Eq.trans (by kernel_rfl) e32) ?_
 replace hF := outK_some hF; obtain ⟨v16, h_33, e34, hF⟩ := hF
 refine WLR.val (d := (some 16)) (v := v16) (h' := h_33) (by kernel_rfl) (by kernel_rfl) (Eq.trans (by kernel_rfl) e34) ?_
 replace hF := obind_some hF; obtain ⟨h_35, e36, hF⟩ := hF
 refine WLR.eff (h' := h_35) (by kernel_rfl) (by kernel_rfl) (Eq.trans (by kernel_rfl) (store_row (P := Try.prog) (h := h_33) (t := 39) (v := v16) (by kernel_rfl) (by kernel_rfl) e36)) ?_
 refine WLR.nil (by kernel_rfl) ?_
 refine Go.weaken (l' := []) (Fr.sub_nil _) ?_
 refine n28 ?_
 obtain ⟨hF, hF2⟩ := ret_inj hF; subst hF; subst hF2
 exact Go.postN (l' := []) (Fr.sub_nil _)
noncomputable def law22_list_R0B_fn (both : BothF) (n : Nat) : FnT := fun args h => match args with
 | [x5, x6] => law22_list_R0B both n x5 x6 h
 | _ => none
set_option maxRecDepth 100000 in
theorem law22_list_R0B_fn_eq (both : BothF) (n : Nat) (t5 : AV) (t6 : AV) (h : AHeap) : law22_list_R0B_fn both n [t5, t6] h = law22_list_R0B both n t5 t6 h :=
 rfl
noncomputable def law22_list_R0 (n : Nat) : LSite := ⟨Func.ntmps Try.f14, (Code.p1 (Code.p2 (Code.p1 (Code.p2 (Code.p2 (Code.p2 (Code.p2 (codeOf Try.f14)))))))), [5, 12], fun both => law22_list_R0A_fn both n, [5, 6], fun both => law22_list_R0B_fn both n⟩
set_option maxRecDepth 20000 in
theorem law22_list_R0_ok (n : Nat) : LSite.ok Try.prog (law22_list_R0 n) where
 A := fun hc vs h r h2 e0 w0 m0 rd n2 ds => by
   have e : law22_list_R0A_fn _ n vs h = some (r, h2) := e0
   clear e0
   unfold law22_list_R0A_fn at e
   split at e
   ·replace e := obind_some e; obtain ⟨t12, c12, e⟩ := e; have c12 := avAgg_some c12; subst c12
    exact law22_list_R0A_ok hc (n := n) e
   ·cases e
 B := fun hc vs h r h2 e0 w0 m0 rd n2 ds => by
   have e : law22_list_R0B_fn _ n vs h = some (r, h2) := e0
   clear e0
   unfold law22_list_R0B_fn at e
   split at e
   ·exact law22_list_R0B_ok hc (n := n) e
   ·cases e
noncomputable def law22_list (both : BothF) (_ : Nat) (t0 : AV) (h : AHeap) : R :=
 callN (both false 39 [t0] h) fun r8 h_3 =>
 outK (opBin Try.prog h_3 .eql 96 true (some r8) (some AV.nfn)) fun v10 h_7 =>
 obind (avBool v10) fun t10 =>
 ifB t10
 (
  marksK [] h_7 fun h_11 =>
  some (.ret (.tup [AV.nsl, .bool false]), h_11))
 (
  lett (newH h_7 39 [.nsl]) fun h_13 =>
  rngK (rngX Try.prog both (Func.ntmps Try.f14) r8 (Code.p1 (Code.p2 (Code.p1 (Code.p2 (Code.p2 (Code.p2 (Code.p2 (codeOf Try.f14)))))))) (Fr.tree [(2, AV.nsl), (3, .bool false), (5, (newP h_7)), (11, r8)]) [] h_13) (fun h_18 =>
   obind (ldCell h_18 (newP h_7)) fun v17 =>
   marksK (dmark (AHeap.next h_13) :: []) h_18 fun h_23 =>
   some (.ret (.tup [v17, .bool true]), h_23)) (fun _ =>
   none) (fun _ _ =>
   none))
set_option maxHeartbeats 4000000 in
set_option maxRecDepth 20000 in
theorem law22_list_ok {both : BothF} (hc : BothAll Try.prog both) {n : Nat} {t0 : AV} {h : AHeap} {rR : ARes} {hR : AHeap} (hF : law22_list both n t0 h = some (rR, hR)) : Says Try.prog 14 [t0] h rR hR := by
 unfold law22_list at hF
 refine says_ofM (fn := Try.f14) Try.func14 (c := codeOf Try.f14) (by kernel_rfl) (by kernel_rfl) (fun w0 m0 => ?_)
 refine WR.weaken (l' := [(0, t0)]) (Fr.sub_cons (by kernel_rfl) (Fr.sub_nil _)) ?_
 refine WR.seqK (by kernel_rfl) (fun K1 n1 e1 q1 p1 => ?_)
 refine WR.region (by kernel_rfl) ?_
 refine WLR.val (d := (some 2)) (v := AV.nsl) (h' := h) (by kernel_rfl) (by kernel_rfl) (by kernel_rfl) ?_
 refine WLR.val (d := (some 3)) (v := .bool false) (h' := h) (by kernel_rfl) (by kernel_rfl) (by kernel_rfl) ?_
 refine WLR.nil (by kernel_rfl) ?_
 refine Go.weaken (l' := [(0, t0), (2, AV.nsl), (3, .bool false)]) (Fr.sub_cons (by kernel_rfl) (Fr.sub_cons (by kernel_rfl) (Fr.sub_cons (by kernel_rfl) (Fr.sub_nil _)))) ?_
 refine n1 ?_
 refine WR.seqK (by kernel_rfl) (fun K2 n2 e2 q2 p2 => ?_)
 refine WR.region (by kernel_rfl) ?_
 refine WLR.val (d := (some 7)) (v := t0) (h' := h) (by kernel_rfl) (by kernel_rfl) (by kernel_rfl) ?_
 replace hF := callN_some hF; obtain ⟨r8, h_3, e4, hF⟩ := hF
 refine WLR.call (hc.says.ok w0) (d := (some 8)) (by kernel_rfl) (by kernel_rfl) (by kernel_rfl) e4 ?_
 refine WLR.val (d := (some 4)) (v := r8) (h' := h_3) (by kernel_rfl) (by kernel_rfl) (by kernel_rfl) ?_
 refine WLR.nil (by kernel_rfl) ?_
 refine Go.weaken (l' := [(2, AV.nsl), (3, .bool false), (4, r8)]) (Fr.sub_cons (by kernel_rfl) (Fr.sub_cons (by kernel_rfl) (Fr.sub_cons (by kernel_rfl) (Fr.sub_nil _)))) ?_
 refine n2 ?_
 refine WR.seqK (by kernel_rfl) (fun K5 n5 e5 q5 p5 => ?_)
 refine WR.seqK (by kernel_rfl) (fun K6 n6 e6 q6 p6 => ?_)
 refine WR.region (by kernel_rfl) ?_
 refine WLR.val (d := (some 9)) (v := r8) (h' := h_3) (by kernel_rfl) (by kernel_rfl) (by kernel_rfl) ?_
 replace hF := outK_some hF; obtain ⟨v10, h_7, e8, hF⟩ := hF
 replace hF := obind_some hF; obtain ⟨t10, c9, hF⟩ := hF
 have c9 := avBool_some c9
 subst c9
 refine WLR.val (d := (some 10)) (v := .bool t10) (h' := h_7) (by kernel_rfl) (by kernel_rfl) (Eq.trans (by kernel_rfl) e8) ?_
 refine WLR.nil (by kernel_rfl) ?_
 refine Go.weaken (l' := [(2, AV.nsl), (3, .bool false), (4, r8), (10, .bool t10)]) (Fr.sub_cons (by kernel_rfl) (Fr.sub_cons (by kernel_rfl) (Fr.sub_cons (by kernel_rfl) (Fr.sub_cons (by kernel_rfl) (Fr.sub_nil _))))) ?_
 refine n6 ?_
 cases t10 with
 | true =>
  replace hF := ifB_t hF
  refine WR.cond_true (by kernel_rfl) (by kernel_rfl) ?_
  refine WR.seqK (by kernel_rfl) (fun K10 n10 e10 q10 p10 => ?_)
  refine WR.region (by kernel_rfl) ?_
  refine WLR.val (d := (some 2)) (v := AV.nsl) (h' := h_7) (by kernel_rfl) (by kernel_rfl) (by kernel_rfl) ?_
  refine WLR.val (d := (some 3)) (v := .bool false) (h' := h_7) (by kernel_rfl) (by kernel_rfl) (by kernel_rfl) ?_
  refine WLR.nil (by kernel_rfl) ?_
  refine Go.weaken (l' := [(2, AV.nsl), (3, .bool false)]) (Fr.sub_cons (by kernel_rfl) (Fr.sub_cons (by kernel_rfl) (Fr.sub_nil _))) ?_
  refine n10 ?_
  refine WR.ret (by kernel_rfl) ?_
  refine q5 ?_
  refine Go.leaveK hF (fun h_11 hF => ?_)
  obtain ⟨hF, hF2⟩ := ret_inj hF; subst hF; subst hF2
  exact ret_of (rs := [.tmp 2, .tmp 3]) (vs := [AV.nsl, .bool false]) (by kernel_rfl) (res_tmp (by kernel_rfl) (res_tmp (by kernel_rfl) res_nil)) (by kernel_rfl)
 | false =>
  replace hF := ifB_f hF
  refine WR.cond_false (by kernel_rfl) (by kernel_rfl) ?_
  refine WR.skip (by kernel_rfl) ?_
  refine n5 ?_
  refine WR.seqK (by kernel_rfl) (fun K12 n12 e12 q12 p12 => ?_)
  refine WR.region (by kernel_rfl) ?_
  replace hF := lett_some hF; obtain ⟨h_13, e14, hF⟩ := hF
  refine WLR.val (d := (some 5)) (v := (newP h_7)) (h' := h_13) (by kernel_rfl) (by kernel_rfl) (val_ofH e14 (by kernel_rfl)) ?_
  refine WLR.nil (by kernel_rfl) ?_
  refine Go.weaken (l' := [(2, AV.nsl), (3, .bool false), (4, r8), (5, (newP h_7))]) (Fr.sub_cons (by kernel_rfl) (Fr.sub_cons (by kernel_rfl) (Fr.sub_cons (by kernel_rfl) (Fr.sub_cons (by kernel_rfl) (Fr.sub_nil _))))) ?_
  refine n12 ?_
  refine WR.seqK (by kernel_rfl) (fun K15 n15 e15 q15 p15 => ?_)
  refine WR.seqK (by kernel_rfl) (fun K16 n16 e16 q16 p16 => ?_)
  refine WR.region (by kernel_rfl) ?_
  refine WLR.val (d := (some 11)) (v := r8) (h' := h_13) (by kernel_rfl) (by kernel_rfl) (by kernel_rfl) ?_
  refine WLR.nil (by kernel_rfl) ?_
  refine Go.weaken (l' := [(2, AV.nsl), (3, .bool false), (5, (newP h_7)), (11, r8)]) (Fr.sub_cons (by kernel_rfl) (Fr.sub_cons (by kernel_rfl) (Fr.sub_cons (by kernel_rfl) (Fr.sub_cons (by kernel_rfl) (Fr.sub_nil _))))) ?_
  refine n16 ?_
  refine WR.blockK (by kernel_rfl) (fun K17 n17 s17 o17 q17 p17 => ?_)
  refine WR.rng hc hF (fun h_18 hF => ?_) (fun h_19 hF => ?_) (fun id h_20 hF => ?_)
  ·skip
   refine n17 ?_
   refine n15 ?_
   refine WR.seqK (by kernel_rfl) (fun K21 n21 e21 q21 p21 => ?_)
   refine WR.region (by kernel_rfl) ?_
   replace hF := obind_some hF; obtain ⟨v17, e22, hF⟩ := hF
   refine WLR.val (d := (some 17)) (v := v17) (h' := h_18) (by kernel_rfl) (by kernel_rfl) (Eq.trans (by kernel_rfl) (load_cell (P := Try.prog) (h := h_18) (t := 39) (by kernel_rfl) e22)) ?_
   refine WLR.val (d := (some 2)) (v := v17) (h' := h_18) (by kernel_rfl) (by kernel_rfl) (by kernel_rfl) ?_
   refine WLR.val (d := (some 3)) (v := .bool true) (h' := h_18) (by kernel_rfl) (by kernel_rfl) (by kernel_rfl) ?_
   refine WLR.nil (by kernel_rfl) ?_
   refine Go.weaken (l' := [(2, v17), (3, .bool true)]) (Fr.sub_cons (by kernel_rfl) (Fr.sub_cons (by kernel_rfl) (Fr.sub_nil _))) ?_
   refine n21 ?_
   refine WR.ret (by kernel_rfl) ?_
   refine Go.leaveK hF (fun h_23 hF => ?_)
   obtain ⟨hF, hF2⟩ := ret_inj hF; subst hF; subst hF2
   exact ret_of (rs := [.tmp 2, .tmp 3]) (vs := [v17, .bool true]) (by kernel_rfl) (res_tmp (by kernel_rfl) (res_tmp (by kernel_rfl) res_nil)) (by kernel_rfl)
  ·skip
   cases hF
  ·skip
   cases hF
noncomputable def law22_list_fn (both : BothF) (n : Nat) : FnT := fun args h => match args with
 | [x0] => law22_list both n x0 h
 | _ => none
set_option maxRecDepth 100000 in
theorem law22_list_fn_eq (both : BothF) (n : Nat) (t0 : AV) (h : AHeap) : law22_list_fn both n [t0] h = law22_list both n t0 h :=
 rfl
theorem law22_list_holds {both : BothF} (hc : BothAll Try.prog both) (n : Nat) : Holds Try.prog 14 (law22_list_fn both n) := by
 intro args h r h2 e
 unfold law22_list_fn at e
 split at e
 ·exact law22_list_ok hc (n := n) e
 ·cases e
noncomputable def journal_Open (call : CallF) (_ : Nat) (t0 : AV) (h : AHeap) : R :=
 callN (call 31 [t0, .int .i64 0] h) fun r12 h_3 =>
 obind (extT 0 r12) fun v13 =>
 obind (avStr v13) fun t13 =>
 obind (extT 1 r12) fun v14 =>
 obind (avInt .i64 v14) fun t14 =>
 lett ((t14 : Int) != 0) fun (t16 : Bool) =>
 lett (fun (t20 : Bool) (h_12 : AHeap) =>
  ifB t20
  (
   some (.ret (.tup [AV.nilp, .int .i64 t14]), h_12))
  (
   lett (AHeap.new h_12 (.map [])) fun h_17 =>
   obind (bldS Try.prog 89 [(0, t0), (2, (AV.mp (AHeap.next h_12)))]) fun t24 =>
   outK (opBox h_17 89 (some (.agg t24))) fun v25 h_20 =>
   callN (call 32 [v25, strA t13] h_20) fun r28 h_23 =>
   obind (avInt .i64 r28) fun t28 =>
   lett ((t28 : Int) == (lenS t13)) fun (t32 : Bool) =>
   ifB t32
   (
    some (.ret (.tup [v25, .int .i64 0]), h_23))
   (
    callN (call 33 [t0, .int .i64 0, .int .i64 t28] h_23) fun r36 h_32 =>
    obind (avInt .i64 r36) fun t36 =>
    lett ((t36 : Int) != 0) fun (t38 : Bool) =>
    ifB t38
    (
     some (.ret (.tup [AV.nilp, .int .i64 t36]), h_32))
    (
     callN (call 34 [t0, .int .i64 0] h_32) fun r41 h_40 =>
     obind (avInt .i64 r41) fun t41 =>
     lett ((t41 : Int) != 0) fun (t43 : Bool) =>
     ifB t43
     (
      some (.ret (.tup [AV.nilp, .int .i64 t41]), h_40))
     (
      some (.ret (.tup [v25, .int .i64 0]), h_40)))))) fun j20 =>
 ifB t16
 (
  lett ((t14 : Int) != 4) fun (t19 : Bool) =>
  j20 t19 h_3)
 (
  j20 false h_3)
set_option maxHeartbeats 4000000 in
set_option maxRecDepth 20000 in
theorem journal_Open_ok {call : CallF} (hc : SaysAll Try.prog call) {n : Nat} {t0 : AV} {h : AHeap} {rR : ARes} {hR : AHeap} (hF : journal_Open call n t0 h = some (rR, hR)) : Says Try.prog 9 [t0] h rR hR := by
 unfold journal_Open at hF
 refine sO Try.func9 fun w0 m0 => ?_
 refine wW [(0, t0)] ?_
 refine oG fun n1 => W.r ?_
 refine oA 2 AV.nilp ?_
 refine oA 3 (.int .i64 0) ?_
 refine oV [(0, t0)] (n1 ?_)
 refine oG fun n2 => W.r ?_
 refine oA 11 t0 ?_
 refine oC hc (some 12) hF fun r12 h_3 hF => ?_
 refine oA 10 r12 ?_
 refine oEs 13 hF fun t13 hF => ?_
 refine oEi 14 hF fun t14 hF => ?_
 refine oA 4 (strA t13) ?_
 refine oA 5 (.int .i64 t14) ?_
 refine oV [(0, t0), (4, strA t13), (5, .int .i64 t14)] (n2 ?_)
 refine oH fun n9 q9 => ?_
 refine W.s (fun K10 n10 e10 q10 p10 => ?_)
 refine W.r ?_
 refine oA 15 (.int .i64 t14) ?_
 refine oB 16 hF fun t16 hF => ?_
 refine oA 17 (.bool t16) ?_
 obtain ⟨j20, e13, hF⟩ := lett_some hF
 have J14 : ∀ (t20 : Bool) (h_12 : AHeap), j20 t20 h_12 = some (rR, hR) → WL Try.prog w0 m0 (Func.ntmps Try.f9) (Code.ops (Code.p1 (Code.p1 (Code.p2 (Code.p2 (codeOf Try.f9)))))) 6 K10 [(0, t0), (4, strA t13), (5, .int .i64 t14), (20, .bool t20)] [] h_12 := by
  intro t20 h_12 hF
  rw [e13] at hF
  refine oV [(0, t0), (4, strA t13), (5, .int .i64 t14), (20, .bool t20)] (n10 ?_)
  cases t20 with
  | true =>
   refine oT hF fun hF => ?_
   refine oG fun n15 => W.r ?_
   refine oA 21 (.int .i64 t14) ?_
   refine oA 2 AV.nilp ?_
   refine oA 3 (.int .i64 t14) ?_
   refine oV [(2, AV.nilp), (3, .int .i64 t14)] (n15 (oY (q9 ?_)))
   exact lZ hF [.tmp 2, .tmp 3] [AV.nilp, .int .i64 t14] (rT (rT res_nil))
  | false =>
   refine oU hF fun hF => ?_
   refine oZ (n9 ?_)
   refine oG fun n16 => W.r ?_
   refine oA 22 t0 ?_
   obtain ⟨h_17, e18, hF⟩ := lett_some hF
   refine WL.val (d := (some 23)) (v := (AV.mp (AHeap.next h_12))) (h' := h_17) (by kernel_rfl) (by kernel_rfl) (val_ofH e18 (by kernel_rfl)) ?_
   obtain ⟨t24, e19, hF⟩ := obind_some hF
   refine WL.val (d := (some 24)) (v := .agg t24) (h' := h_17) (by kernel_rfl) (by kernel_rfl) (bld_ok (by kernel_rfl) e19) ?_
   refine oK 25 hF fun v25 h_20 hF => ?_
   refine oA 6 v25 ?_
   refine oV [(0, t0), (4, strA t13), (6, v25)] (n16 ?_)
   refine oG fun n22 => W.r ?_
   refine oA 26 v25 ?_
   refine oA 27 (strA t13) ?_
   refine oCi hc 28 hF fun t28 h_23 hF => ?_
   refine oA 7 (.int .i64 t28) ?_
   refine oV [(0, t0), (4, strA t13), (6, v25), (7, .int .i64 t28)] (n22 ?_)
   refine oH fun n26 q26 => ?_
   refine oG fun n27 => W.r ?_
   refine oA 29 (.int .i64 t28) ?_
   refine oA 30 (strA t13) ?_
   refine oA 31 (.int .i64 (lenS t13)) ?_
   refine oB 32 hF fun t32 hF => ?_
   refine oV [(0, t0), (6, v25), (7, .int .i64 t28), (32, .bool t32)] (n27 ?_)
   cases t32 with
   | true =>
    refine oT hF fun hF => ?_
    refine oG fun n29 => W.r ?_
    refine oA 33 v25 ?_
    refine oA 2 v25 ?_
    refine oA 3 (.int .i64 0) ?_
    refine oV [(2, v25), (3, .int .i64 0)] (n29 (oY (q26 ?_)))
    exact lZ hF [.tmp 2, .tmp 3] [v25, .int .i64 0] (rT (rT res_nil))
   | false =>
    refine oU hF fun hF => ?_
    refine oZ (n26 ?_)
    refine oH fun n30 q30 => ?_
    refine oG fun n31 => W.r ?_
    refine oA 34 t0 ?_
    refine oA 35 (.int .i64 t28) ?_
    refine oCi hc 36 hF fun t36 h_32 hF => ?_
    refine oA 8 (.int .i64 t36) ?_
    refine oV [(0, t0), (6, v25), (8, .int .i64 t36)] (n31 ?_)
    refine oG fun n35 => W.r ?_
    refine oA 37 (.int .i64 t36) ?_
    refine oB 38 hF fun t38 hF => ?_
    refine oV [(0, t0), (6, v25), (8, .int .i64 t36), (38, .bool t38)] (n35 ?_)
    cases t38 with
    | true =>
     refine oT hF fun hF => ?_
     refine oG fun n37 => W.r ?_
     refine oA 39 (.int .i64 t36) ?_
     refine oA 2 AV.nilp ?_
     refine oA 3 (.int .i64 t36) ?_
     refine oV [(2, AV.nilp), (3, .int .i64 t36)] (n37 (oY (q30 ?_)))
     exact lZ hF [.tmp 2, .tmp 3] [AV.nilp, .int .i64 t36] (rT (rT res_nil))
    | false =>
     refine oU hF fun hF => ?_
     refine oZ (n30 ?_)
     refine oH fun n38 q38 => ?_
     refine oG fun n39 => W.r ?_
     refine oA 40 t0 ?_
     refine oCi hc 41 hF fun t41 h_40 hF => ?_
     refine oA 9 (.int .i64 t41) ?_
     refine oV [(6, v25), (9, .int .i64 t41)] (n39 ?_)
     refine oG fun n43 => W.r ?_
     refine oA 42 (.int .i64 t41) ?_
     refine oB 43 hF fun t43 hF => ?_
     refine oV [(6, v25), (9, .int .i64 t41), (43, .bool t43)] (n43 ?_)
     cases t43 with
     | true =>
      refine oT hF fun hF => ?_
      refine oG fun n45 => W.r ?_
      refine oA 44 (.int .i64 t41) ?_
      refine oA 2 AV.nilp ?_
      refine oA 3 (.int .i64 t41) ?_
      refine oV [(2, AV.nilp), (3, .int .i64 t41)] (n45 (oY (q38 ?_)))
      exact lZ hF [.tmp 2, .tmp 3] [AV.nilp, .int .i64 t41] (rT (rT res_nil))
     | false =>
      refine oU hF fun hF => ?_
      refine oZ (n38 ?_)
      refine oG fun n46 => W.r ?_
      refine oA 45 v25 ?_
      refine oA 2 v25 ?_
      refine oA 3 (.int .i64 0) ?_
      refine oV [(2, v25), (3, .int .i64 0)] (n46 (oY ?_))
      exact lZ hF [.tmp 2, .tmp 3] [v25, .int .i64 0] (rT (rT res_nil))
 cases t16 with
 | true =>
  replace hF := ifB_t hF
  refine oA 18 (.int .i64 t14) ?_
  refine oB 19 hF fun t19 hF => ?_
  refine oA 20 (.bool t19) ?_
  exact lW _ (J14 _ _ hF)
 | false =>
  replace hF := ifB_f hF
  refine WL.o (some 18) ?_
  refine WL.o (some 19) ?_
  refine oA 20 (.bool false) ?_
  exact lW _ (J14 _ _ hF)
noncomputable def law22_works (call : CallF) (_ : Nat)  (h : AHeap) : R :=
 callN (call 8 [] h) fun r6 h_3 =>
 callN (call 9 [r6] h_3) fun r9 h_6 =>
 obind (extT 0 r9) fun v10 =>
 obind (extT 1 r9) fun v11 =>
 obind (avInt .i64 v11) fun t11 =>
 lett ((t11 : Int) != 0) fun (t13 : Bool) =>
 lett (fun (t17 : Bool) (h_14 : AHeap) =>
  lett (fun (t23 : Bool) (h_17 : AHeap) =>
   lett (fun (t28 : Bool) (h_20 : AHeap) =>
    ifB t28
    (
     some (.ret (.bool false), h_20))
    (
     callN (call 9 [r6] h_20) fun r31 h_25 =>
     obind (extT 0 r31) fun v32 =>
     obind (extT 1 r31) fun v33 =>
     obind (avInt .i64 v33) fun t33 =>
     lett ((t33 : Int) != 0) fun (t35 : Bool) =>
     lett (fun (t39 : Bool) (h_33 : AHeap) =>
      ifB t39
      (
       some (.ret (.bool false), h_33))
      (
       callN (call 14 [v32] h_33) fun r42 h_38 =>
       obind (extT 0 r42) fun v43 =>
       obind (extT 1 r42) fun v44 =>
       obind (avBool v44) fun t44 =>
       lett (fun (t51 : Bool) (h_44 : AHeap) =>
        some (.ret (.bool t51), h_44)) fun j51 =>
       ifB t44
       (
        callN (call 12 [.int .i64 1, .int .i64 2, .int .i64 1, .int .i64 1, strA ([97] : Bytes)] h_38) fun r48 h_47 =>
        obind (avAgg r48) fun t48 =>
        outK (bldSl Try.prog h_47 39 1 [(0, .agg t48)]) fun v49 h_50 =>
        callN (call 15 [v43, v49] h_50) fun r50 h_52 =>
        obind (avBool r50) fun t50 =>
        j51 t50 h_52)
       (
        j51 false h_38))) fun j39 =>
     ifB t35
     (
      j39 true h_25)
     (
      outK (opBin Try.prog h_25 .eql 25 true (some v32) (some AV.nilp)) fun v38 h_55 =>
      obind (avBool v38) fun t38 =>
      j39 t38 h_55))) fun j28 =>
   ifB t23
   (
    j28 true h_17)
   (
    callN (call 13 [r6, AV.nsl, .int .i64 0] h_17) fun r26 h_58 =>
    obind (avInt .i64 r26) fun t26 =>
    lett ((t26 : Int) != 0) fun (t27 : Bool) =>
    j28 t27 h_58)) fun j23 =>
  ifB t17
  (
   j23 true h_14)
  (
   callN (call 12 [.int .i64 1, .int .i64 2, .int .i64 1, .int .i64 1, strA ([97] : Bytes)] h_14) fun r20 h_62 =>
   obind (avAgg r20) fun t20 =>
   callN (call 11 [v10, .agg t20] h_62) fun r21 h_65 =>
   obind (avInt .i64 r21) fun t21 =>
   lett ((t21 : Int) != 0) fun (t22 : Bool) =>
   j23 t22 h_65)) fun j17 =>
 ifB t13
 (
  j17 true h_6)
 (
  outK (opBin Try.prog h_6 .eql 25 true (some v10) (some AV.nilp)) fun v16 h_69 =>
  obind (avBool v16) fun t16 =>
  j17 t16 h_69)
set_option maxHeartbeats 4000000 in
set_option maxRecDepth 20000 in
theorem law22_works_ok {call : CallF} (hc : SaysAll Try.prog call) {n : Nat}  {h : AHeap} {rR : ARes} {hR : AHeap} (hF : law22_works call n  h = some (rR, hR)) : Says Try.prog 7 [] h rR hR := by
 unfold law22_works at hF
 refine sO Try.func7 fun w0 m0 => ?_
 refine wW [] ?_
 refine oG fun n1 => W.r ?_
 refine oA 0 (.bool false) ?_
 refine oV [] (n1 ?_)
 refine oG fun n2 => W.r ?_
 refine oC hc (some 6) hF fun r6 h_3 hF => ?_
 refine oA 1 r6 ?_
 refine oV [(1, r6)] (n2 ?_)
 refine oG fun n5 => W.r ?_
 refine oA 8 r6 ?_
 refine oC hc (some 9) hF fun r9 h_6 hF => ?_
 refine oA 7 r9 ?_
 refine oE 10 hF fun v10 hF => ?_
 refine oEi 11 hF fun t11 hF => ?_
 refine oA 2 v10 ?_
 refine oA 3 (.int .i64 t11) ?_
 refine oV [(1, r6), (2, v10), (3, .int .i64 t11)] (n5 ?_)
 refine oH fun n11 q11 => ?_
 refine W.s (fun K12 n12 e12 q12 p12 => ?_)
 refine W.r ?_
 refine oA 12 (.int .i64 t11) ?_
 refine oB 13 hF fun t13 hF => ?_
 refine oA 14 (.bool t13) ?_
 obtain ⟨j17, e15, hF⟩ := lett_some hF
 have J16 : ∀ (t17 : Bool) (h_14 : AHeap), j17 t17 h_14 = some (rR, hR) → WL Try.prog w0 m0 (Func.ntmps Try.f7) (Code.ops (Code.p1 (Code.p1 (Code.p2 (Code.p2 (Code.p2 (codeOf Try.f7))))))) 6 K12 [(1, r6), (2, v10), (17, .bool t17)] [] h_14 := by
  intro t17 h_14 hF
  rw [e15] at hF
  refine oA 18 (.bool t17) ?_
  obtain ⟨j23, e18, hF⟩ := lett_some hF
  have J19 : ∀ (t23 : Bool) (h_17 : AHeap), j23 t23 h_17 = some (rR, hR) → WL Try.prog w0 m0 (Func.ntmps Try.f7) (Code.ops (Code.p1 (Code.p1 (Code.p2 (Code.p2 (Code.p2 (codeOf Try.f7))))))) 12 K12 [(1, r6), (23, .bool t23)] [] h_17 := by
   intro t23 h_17 hF
   rw [e18] at hF
   refine oA 24 (.bool t23) ?_
   obtain ⟨j28, e21, hF⟩ := lett_some hF
   have J22 : ∀ (t28 : Bool) (h_20 : AHeap), j28 t28 h_20 = some (rR, hR) → WL Try.prog w0 m0 (Func.ntmps Try.f7) (Code.ops (Code.p1 (Code.p1 (Code.p2 (Code.p2 (Code.p2 (codeOf Try.f7))))))) 17 K12 [(1, r6), (28, .bool t28)] [] h_20 := by
    intro t28 h_20 hF
    rw [e21] at hF
    refine oV [(1, r6), (28, .bool t28)] (n12 ?_)
    cases t28 with
    | true =>
     refine oT hF fun hF => ?_
     refine oG fun n23 => W.r ?_
     refine oA 0 (.bool false) ?_
     refine oV [(0, .bool false)] (n23 (oY (q11 ?_)))
     exact lZ hF [.tmp 0] [.bool false] (rT res_nil)
    | false =>
     refine oU hF fun hF => ?_
     refine oZ (n11 ?_)
     refine oG fun n24 => W.r ?_
     refine oA 30 r6 ?_
     refine oC hc (some 31) hF fun r31 h_25 hF => ?_
     refine oA 29 r31 ?_
     refine oE 32 hF fun v32 hF => ?_
     refine oEi 33 hF fun t33 hF => ?_
     refine oA 2 v32 ?_
     refine oA 3 (.int .i64 t33) ?_
     refine oV [(2, v32), (3, .int .i64 t33)] (n24 ?_)
     refine oH fun n30 q30 => ?_
     refine W.s (fun K31 n31 e31 q31 p31 => ?_)
     refine W.r ?_
     refine oA 34 (.int .i64 t33) ?_
     refine oB 35 hF fun t35 hF => ?_
     refine oA 36 (.bool t35) ?_
     obtain ⟨j39, e34, hF⟩ := lett_some hF
     have J35 : ∀ (t39 : Bool) (h_33 : AHeap), j39 t39 h_33 = some (rR, hR) → WL Try.prog w0 m0 (Func.ntmps Try.f7) (Code.ops (Code.p1 (Code.p1 (Code.p2 (Code.p2 (Code.p2 (Code.p2 (Code.p2 (codeOf Try.f7))))))))) 6 K31 [(2, v32), (39, .bool t39)] [] h_33 := by
      intro t39 h_33 hF
      rw [e34] at hF
      refine oV [(2, v32), (39, .bool t39)] (n31 ?_)
      cases t39 with
      | true =>
       refine oT hF fun hF => ?_
       refine oG fun n36 => W.r ?_
       refine oA 0 (.bool false) ?_
       refine oV [(0, .bool false)] (n36 (oY (q30 ?_)))
       exact lZ hF [.tmp 0] [.bool false] (rT res_nil)
      | false =>
       refine oU hF fun hF => ?_
       refine oZ (n30 ?_)
       refine oG fun n37 => W.r ?_
       refine oA 41 v32 ?_
       refine oC hc (some 42) hF fun r42 h_38 hF => ?_
       refine oA 40 r42 ?_
       refine oE 43 hF fun v43 hF => ?_
       refine oEb 44 hF fun t44 hF => ?_
       refine oA 4 v43 ?_
       refine oA 5 (.bool t44) ?_
       refine oV [(4, v43), (5, .bool t44)] (n37 ?_)
       refine W.s (fun K43 n43 e43 q43 p43 => ?_)
       refine W.r ?_
       refine oA 45 (.bool t44) ?_
       refine oA 46 (.bool t44) ?_
       obtain ⟨j51, e45, hF⟩ := lett_some hF
       have J46 : ∀ (t51 : Bool) (h_44 : AHeap), j51 t51 h_44 = some (rR, hR) → WL Try.prog w0 m0 (Func.ntmps Try.f7) (Code.ops (Code.p1 (Code.p2 (Code.p2 (Code.p2 (Code.p2 (Code.p2 (Code.p2 (Code.p2 (codeOf Try.f7)))))))))) 7 K43 [(51, .bool t51)] [] h_44 := by
        intro t51 h_44 hF
        rw [e45] at hF
        refine oA 0 (.bool t51) ?_
        refine oV [(0, .bool t51)] (n43 (oY ?_))
        exact lZ hF [.tmp 0] [.bool t51] (rT res_nil)
       cases t44 with
       | true =>
        replace hF := ifB_t hF
        refine oA 47 v43 ?_
        refine oCa hc 48 hF fun t48 h_47 hF => ?_
        refine oK 49 hF fun v49 h_50 hF => ?_
        refine oCb hc 50 hF fun t50 h_52 hF => ?_
        refine oA 51 (.bool t50) ?_
        exact lW _ (J46 _ _ hF)
       | false =>
        replace hF := ifB_f hF
        refine WL.o (some 47) ?_
        refine WL.o (some 48) ?_
        refine WL.o (some 49) ?_
        refine WL.o (some 50) ?_
        refine oA 51 (.bool false) ?_
        exact lW _ (J46 _ _ hF)
     cases t35 with
     | true =>
      replace hF := ifB_t hF
      refine WL.o (some 37) ?_
      refine WL.o (some 38) ?_
      refine oA 39 (.bool true) ?_
      exact lW _ (J35 _ _ hF)
     | false =>
      replace hF := ifB_f hF
      refine oA 37 v32 ?_
      replace hF := outK_some hF; obtain ⟨v38, h_55, e56, hF⟩ := hF
      replace hF := obind_some hF; obtain ⟨t38, c57, hF⟩ := hF
      have c57 := avBool_some c57
      subst c57
      refine WL.b (some 38) (.bool t38) h_55 e56 ?_
      refine oA 39 (.bool t38) ?_
      exact lW _ (J35 _ _ hF)
   cases t23 with
   | true =>
    replace hF := ifB_t hF
    refine WL.o (some 25) ?_
    refine WL.o (some 26) ?_
    refine WL.o (some 27) ?_
    refine oA 28 (.bool true) ?_
    exact lW _ (J22 _ _ hF)
   | false =>
    replace hF := ifB_f hF
    refine oA 25 r6 ?_
    refine oCi hc 26 hF fun t26 h_58 hF => ?_
    refine oB 27 hF fun t27 hF => ?_
    refine oA 28 (.bool t27) ?_
    exact lW _ (J22 _ _ hF)
  cases t17 with
  | true =>
   replace hF := ifB_t hF
   refine WL.o (some 19) ?_
   refine WL.o (some 20) ?_
   refine WL.o (some 21) ?_
   refine WL.o (some 22) ?_
   refine oA 23 (.bool true) ?_
   exact lW _ (J19 _ _ hF)
  | false =>
   replace hF := ifB_f hF
   refine oA 19 v10 ?_
   refine oCa hc 20 hF fun t20 h_62 hF => ?_
   refine oCi hc 21 hF fun t21 h_65 hF => ?_
   refine oB 22 hF fun t22 hF => ?_
   refine oA 23 (.bool t22) ?_
   exact lW _ (J19 _ _ hF)
 cases t13 with
 | true =>
  replace hF := ifB_t hF
  refine WL.o (some 15) ?_
  refine WL.o (some 16) ?_
  refine oA 17 (.bool true) ?_
  exact lW _ (J16 _ _ hF)
 | false =>
  replace hF := ifB_f hF
  refine oA 15 v10 ?_
  replace hF := outK_some hF; obtain ⟨v16, h_69, e70, hF⟩ := hF
  replace hF := obind_some hF; obtain ⟨t16, c71, hF⟩ := hF
  have c71 := avBool_some c71
  subst c71
  refine WL.b (some 16) (.bool t16) h_69 e70 ?_
  refine oA 17 (.bool t16) ?_
  exact lW _ (J16 _ _ hF)
noncomputable def law22_heavy_L0b (t0 : AV) (t7 : Int) (k7 : AHeap → R) (self : Int → Int → AHeap → R) (t3 : Int) (t8 : Int) (h_13 : AHeap) : R :=
 lett (decide (t8 < t7)) fun (t9 : Bool) =>
 ifB t9
 (
  obind (idxP 9 t0 t8) fun t10 =>
  obind (ldRow h_13 9 t10) fun t11 =>
  lett (newH h_13 53 [.int .i64 0, .int .i64 0, .int .i64 0, .int .i64 0, .int .i64 0, .int .i64 0, .str 0 0, .str 0 0, .int .i64 0]) fun h_22 =>
  obind (stRow h_22 9 t11 (newP h_13)) fun h_24 =>
  obind (ldCell h_24 (AV.ptr (AHeap.next h_13) 7)) fun v14 =>
  obind (avStr v14) fun t14 =>
  obind (ldCell h_24 (AV.ptr (AHeap.next h_13) 6)) fun v18 =>
  obind (avStr v18) fun t18 =>
  lett (IntKind.i64.wrap ((lenS t14) + (lenS t18))) fun (t20 : Int) =>
  lett (if 65536 < t20 then 65536 else t20) fun (t21 : Int) =>
  lett (IntKind.i64.wrap (t3 + t21)) fun (t22 : Int) =>
  lett (decide (t22 > 16384)) fun (t24 : Bool) =>
  ifB t24
  (
   some (.ret (.bool true), h_24))
  (
   lett (IntKind.i64.wrap (t8 + 1)) fun (t25 : Int) =>
   self t22 t25 h_24))
 (
  k7 h_13)
noncomputable def law22_heavy_L0 (t0 : AV) (t7 : Int) (k7 : AHeap → R) : Nat → Int → Int → AHeap → R := iterR (fun _ _ _ => none) (law22_heavy_L0b t0 t7 k7)
theorem law22_heavy_L0_s (t0 : AV) (t7 : Int) (k7 : AHeap → R) (m : Nat) : law22_heavy_L0 t0 t7 k7 (m + 1) = law22_heavy_L0b t0 t7 k7 (law22_heavy_L0 t0 t7 k7 m) := rfl
noncomputable def law22_heavy (_ : CallF) (n : Nat) (t0 : AV) (h : AHeap) : R :=
 obind (lenL t0) fun t7 =>
 lett (fun  (h_8 : AHeap) =>
  obind (lenL t0) fun t27 =>
  lett (decide (t27 > 100)) fun (t28 : Bool) =>
  some (.ret (.bool t28), h_8)) fun k7 =>
 law22_heavy_L0 t0 t7 k7 n 0 0 h
set_option maxHeartbeats 4000000 in
set_option maxRecDepth 20000 in
theorem law22_heavy_ok {call : CallF} (_ : SaysAll Try.prog call) {n : Nat} {t0 : AV} {h : AHeap} {rR : ARes} {hR : AHeap} (hF : law22_heavy call n t0 h = some (rR, hR)) : Says Try.prog 18 [t0] h rR hR := by
 unfold law22_heavy at hF
 refine sO Try.func18 fun w0 m0 => ?_
 refine wW [(0, t0)] ?_
 refine oG fun n1 => W.r ?_
 refine oA 2 (.bool false) ?_
 refine oV [(0, t0)] (n1 ?_)
 refine oG fun n2 => W.r ?_
 refine oA 3 (.int .i64 0) ?_
 refine oV [(0, t0), (3, .int .i64 0)] (n2 ?_)
 refine W.s (fun K3 n3 e3 q3 p3 => ?_)
 refine oG fun n4 => W.r ?_
 refine oA 6 t0 ?_
 refine oM 7 45 53 hF fun t7 hF => ?_
 refine oA 8 (.int .i64 0) ?_
 refine oV [(0, t0), (3, .int .i64 0), (6, t0), (7, .int .i64 t7), (8, .int .i64 0)] (n4 ?_)
 obtain ⟨k7, e7, hF⟩ := lett_some hF
 have J7 : ∀  (h_8 : AHeap), k7 h_8 = some (rR, hR) → Go w0 m0 (Func.ntmps Try.f18) (K3 .normal) [(0, t0)] [] h_8 := by
  intro  h_8 hF
  rw [e7] at hF
  refine n3 ?_
  refine oG fun n9 => W.r ?_
  refine oA 26 t0 ?_
  refine oM 27 45 53 hF fun t27 hF => ?_
  refine oB 28 hF fun t28 hF => ?_
  refine oA 2 (.bool t28) ?_
  refine oV [(2, .bool t28)] (n9 (oY ?_))
  exact lZ hF [.tmp 2] [.bool t28] (rT res_nil)
 refine W.blockK (by kernel_rfl) (fun K6 n6 s6 o6 q6 p6 => ?_)
 refine W.loopK (by kernel_rfl) (fun I12 K12 b12 n12 e12 q12 p12 => ?_)
 have L12 : ∀ (m : Nat) (t3 : Int) (t8 : Int) (h_13 : AHeap), law22_heavy_L0 t0 t7 k7 m t3 t8 h_13 = some (rR, hR) → Go w0 m0 (Func.ntmps Try.f18) I12 [(0, t0), (3, .int .i64 t3), (6, t0), (7, .int .i64 t7), (8, .int .i64 t8)] [] h_13 := by
  intro m
  induction m with
  | zero => intro t3 t8 h_13 hF; cases hF
  | succ m ih12 =>
   intro t3 t8 h_13 hF
   rw [law22_heavy_L0_s] at hF; unfold law22_heavy_L0b at hF
   refine b12 ?_
   refine oG fun n14 => W.r ?_
   refine oB 9 hF fun t9 hF => ?_
   refine oV [(0, t0), (3, .int .i64 t3), (6, t0), (7, .int .i64 t7), (8, .int .i64 t8), (9, .bool t9)] (n14 ?_)
   refine W.s (fun K16 n16 e16 q16 p16 => ?_)
   cases t9 with
   | true =>
    refine oT hF fun hF => ?_
    refine oZ (n16 ?_)
    refine oH fun n17 q17 => ?_
    refine W.blockK (by kernel_rfl) (fun K18 n18 s18 o18 q18 p18 => ?_)
    refine oG fun n19 => W.r ?_
    refine oP 10 45 53 .i64 hF fun t10 hF => ?_
    refine oR 11 53 hF fun t11 hF => ?_
    refine oN 5 hF fun h_22 hF => ?_
    refine oW 53 (.agg t11) hF fun h_24 hF => ?_
    refine oV [(0, t0), (3, .int .i64 t3), (5, (newP h_13)), (6, t0), (7, .int .i64 t7), (8, .int .i64 t8)] (n19 ?_)
    refine oG fun n26 => W.r ?_
    refine oA 12 (.int .i64 t3) ?_
    refine oA 13 (AV.ptr (AHeap.next h_13) 7) ?_
    refine oLs 14 9 hF fun t14 hF => ?_
    refine oA 15 (.int .i64 (lenS t14)) ?_
    refine oA 16 (AV.ptr (AHeap.next h_13) 2) ?_
    refine oA 17 (AV.ptr (AHeap.next h_13) 6) ?_
    refine oLs 18 9 hF fun t18 hF => ?_
    refine oA 19 (.int .i64 (lenS t18)) ?_
    refine oI 20 .i64 hF fun t20 hF => ?_
    refine oI 21 .i64 hF fun t21 hF => ?_
    refine oI 22 .i64 hF fun t22 hF => ?_
    refine oA 3 (.int .i64 t22) ?_
    refine oV [(0, t0), (3, .int .i64 t22), (6, t0), (7, .int .i64 t7), (8, .int .i64 t8)] (n26 ?_)
    refine oG fun n34 => W.r ?_
    refine oA 23 (.int .i64 t22) ?_
    refine oB 24 hF fun t24 hF => ?_
    refine oV [(0, t0), (3, .int .i64 t22), (6, t0), (7, .int .i64 t7), (8, .int .i64 t8), (24, .bool t24)] (n34 ?_)
    cases t24 with
    | true =>
     refine oT hF fun hF => ?_
     refine oG fun n36 => W.r ?_
     refine oA 2 (.bool true) ?_
     refine oV [(2, .bool true)] (n36 (oY (q18 (q17 (q12 (q6 (q3 ?_)))))))
     exact lZ hF [.tmp 2] [.bool true] (rT res_nil)
    | false =>
     refine oU hF fun hF => ?_
     refine oZ (n18 (n17 (W.r ?_)))
     refine oI 25 .i64 hF fun t25 hF => ?_
     refine oA 8 (.int .i64 t25) ?_
     refine oV [(0, t0), (3, .int .i64 t22), (6, t0), (7, .int .i64 t7), (8, .int .i64 t25)] (n12 ?_)
     exact gW _ (ih12 _ _ _ hF)
   | false =>
    refine oU hF fun hF => ?_
    refine W.exit (by kernel_rfl) ?_
    refine e16 (e12 ?_)
    refine s6 (by kernel_rfl) ?_
    exact gW _ (J7 _ hF)
 exact gW _ (L12 _ _ _ _ hF)
noncomputable def law22_same_L0b (t0 : AV) (t1 : AV) (t12 : Int) (k12 : AHeap → R) (self : Int → AHeap → R) (t13 : Int) (h_16 : AHeap) : R :=
 lett (decide (t13 < t12)) fun (t14 : Bool) =>
 ifB t14
 (
  obind (idxP 5 t0 t13) fun t18 =>
  obind (ldRow h_16 5 t18) fun t19 =>
  obind (idxP 5 t1 t13) fun t22 =>
  obind (ldRow h_16 5 t22) fun t23 =>
  obind (eqOther Try.prog 35 (.agg t19) (.agg t23)) fun t24 =>
  lett (!t24) fun (t24_29 : Bool) =>
  ifB t24_29
  (
   some (.ret (.bool false), h_16))
  (
   lett (IntKind.i64.wrap (t13 + 1)) fun (t25 : Int) =>
   self t25 h_16))
 (
  k12 h_16)
noncomputable def law22_same_L0 (t0 : AV) (t1 : AV) (t12 : Int) (k12 : AHeap → R) : Nat → Int → AHeap → R := iterR (fun _ _ => none) (law22_same_L0b t0 t1 t12 k12)
theorem law22_same_L0_s (t0 : AV) (t1 : AV) (t12 : Int) (k12 : AHeap → R) (m : Nat) : law22_same_L0 t0 t1 t12 k12 (m + 1) = law22_same_L0b t0 t1 t12 k12 (law22_same_L0 t0 t1 t12 k12 m) := rfl
noncomputable def law22_same (_ : CallF) (n : Nat) (t0 : AV) (t1 : AV) (h : AHeap) : R :=
 obind (lenL t0) fun t7 =>
 obind (lenL t1) fun t9 =>
 lett ((t7 : Int) != t9) fun (t10 : Bool) =>
 ifB t10
 (
  some (.ret (.bool false), h))
 (
  obind (lenL t0) fun t12 =>
  lett (fun  (h_13 : AHeap) =>
   some (.ret (.bool true), h_13)) fun k12 =>
  law22_same_L0 t0 t1 t12 k12 n 0 h)
set_option maxHeartbeats 4000000 in
set_option maxRecDepth 20000 in
theorem law22_same_ok {call : CallF} (hc : SaysAll Try.prog call) {n : Nat} {t0 : AV} {t1 : AV} {h : AHeap} {rR : ARes} {hR : AHeap} (hF : law22_same call n t0 t1 h = some (rR, hR)) : Says Try.prog 15 [t0, t1] h rR hR := by
 unfold law22_same at hF
 refine sO Try.func15 fun w0 m0 => ?_
 refine wW [(0, t0), (1, t1)] ?_
 refine oG fun n1 => W.r ?_
 refine oA 4 (.bool false) ?_
 refine oV [(0, t0), (1, t1)] (n1 ?_)
 refine oH fun n2 q2 => ?_
 refine oG fun n3 => W.r ?_
 refine oA 6 t0 ?_
 refine oM 7 39 35 hF fun t7 hF => ?_
 refine oA 8 t1 ?_
 refine oM 9 39 35 hF fun t9 hF => ?_
 refine oB 10 hF fun t10 hF => ?_
 refine oV [(0, t0), (1, t1), (10, .bool t10)] (n3 ?_)
 cases t10 with
 | true =>
  refine oT hF fun hF => ?_
  refine oG fun n7 => W.r ?_
  refine oA 4 (.bool false) ?_
  refine oV [(4, .bool false)] (n7 (oY (q2 ?_)))
  exact lZ hF [.tmp 4] [.bool false] (rT res_nil)
 | false =>
  refine oU hF fun hF => ?_
  refine oZ (n2 ?_)
  refine W.s (fun K8 n8 e8 q8 p8 => ?_)
  refine oG fun n9 => W.r ?_
  refine oA 11 t0 ?_
  refine oM 12 39 35 hF fun t12 hF => ?_
  refine oA 13 (.int .i64 0) ?_
  refine oV [(0, t0), (1, t1), (12, .int .i64 t12), (13, .int .i64 0)] (n9 ?_)
  obtain ⟨k12, e12, hF⟩ := lett_some hF
  have J12 : ∀  (h_13 : AHeap), k12 h_13 = some (rR, hR) → Go w0 m0 (Func.ntmps Try.f15) (K8 .normal) [] [] h_13 := by
   intro  h_13 hF
   rw [e12] at hF
   refine n8 ?_
   refine oG fun n14 => W.r ?_
   refine oA 4 (.bool true) ?_
   refine oV [(4, .bool true)] (n14 (oY ?_))
   exact lZ hF [.tmp 4] [.bool true] (rT res_nil)
  refine W.blockK (by kernel_rfl) (fun K11 n11 s11 o11 q11 p11 => ?_)
  refine W.loopK (by kernel_rfl) (fun I15 K15 b15 n15 e15 q15 p15 => ?_)
  have L15 : ∀ (m : Nat) (t13 : Int) (h_16 : AHeap), law22_same_L0 t0 t1 t12 k12 m t13 h_16 = some (rR, hR) → Go w0 m0 (Func.ntmps Try.f15) I15 [(0, t0), (1, t1), (12, .int .i64 t12), (13, .int .i64 t13)] [] h_16 := by
   intro m
   induction m with
   | zero => intro t13 h_16 hF; cases hF
   | succ m ih15 =>
    intro t13 h_16 hF
    rw [law22_same_L0_s] at hF; unfold law22_same_L0b at hF
    refine b15 ?_
    refine oG fun n17 => W.r ?_
    refine oB 14 hF fun t14 hF => ?_
    refine oV [(0, t0), (1, t1), (12, .int .i64 t12), (13, .int .i64 t13), (14, .bool t14)] (n17 ?_)
    refine W.s (fun K19 n19 e19 q19 p19 => ?_)
    cases t14 with
    | true =>
     refine oT hF fun hF => ?_
     refine oZ (n19 ?_)
     refine oH fun n20 q20 => ?_
     refine W.blockK (by kernel_rfl) (fun K21 n21 s21 o21 q21 p21 => ?_)
     refine oG fun n22 => W.r ?_
     refine oA 15 (.int .i64 t13) ?_
     refine oA 5 (.int .i64 t13) ?_
     refine oV [(0, t0), (1, t1), (5, .int .i64 t13), (12, .int .i64 t12), (13, .int .i64 t13)] (n22 ?_)
     refine oG fun n23 => ?_
     refine W.draw (by kernel_rfl) (hc.ok w0) (plan := [0, 1, 2, 3, 4, 5, 6, 7, 8]) (by kernel_rfl) (by kernel_rfl) (by kernel_rfl) ?_
     refine WD.a 0 (some 16) t0 h_16 ?_
     refine WD.a 0 (some 17) (.int .i64 t13) h_16 ?_
     obtain ⟨t18, e24, hF⟩ := obind_some hF
     refine WD.b 0 (some 18) t18 h_16 (index_row (P := Try.prog) (h := h_16) (t := 39) (e' := 35) (k := .i64) (by kernel_rfl) (by kernel_rfl) (by kernel_rfl) e24) ?_
     obtain ⟨t19, e25, hF⟩ := obind_some hF
     refine WD.b 1 (some 19) (.agg t19) h_16 (load_row (P := Try.prog) (h := h_16) (t := 35) (by kernel_rfl) (by kernel_rfl) e25) ?_
     refine WD.a 0 (some 20) t1 h_16 ?_
     refine WD.a 0 (some 21) (.int .i64 t13) h_16 ?_
     obtain ⟨t22, e26, hF⟩ := obind_some hF
     refine WD.b 0 (some 22) t22 h_16 (index_row (P := Try.prog) (h := h_16) (t := 39) (e' := 35) (k := .i64) (by kernel_rfl) (by kernel_rfl) (by kernel_rfl) e26) ?_
     obtain ⟨t23, e27, hF⟩ := obind_some hF
     refine WD.b 1 (some 23) (.agg t23) h_16 (load_row (P := Try.prog) (h := h_16) (t := 35) (by kernel_rfl) (by kernel_rfl) e27) ?_
     obtain ⟨t24, e28, hF⟩ := obind_some hF
     obtain ⟨t24_29, e30, hF⟩ := lett_some hF
     refine WD.val (d := (some 24)) (v := .bool t24_29) (h' := h_16) (by kernel_rfl) (by kernel_rfl) (val_of AV.bool e30 (Eq.trans (by kernel_rfl) (neq_other (P := Try.prog) (h := h_16) (t := 35) (lit := false) (by kernel_rfl) e28))) (k := 0) (by kernel_rfl) (fun e => absurd e (by decide)) (by decide) ?_
     refine WD.nil ?_
     refine gW [(0, t0), (1, t1), (12, .int .i64 t12), (13, .int .i64 t13), (24, .bool t24_29)] (n23 ?_)
     cases t24_29 with
     | true =>
      refine oT hF fun hF => ?_
      refine oG fun n31 => W.r ?_
      refine oA 4 (.bool false) ?_
      refine oV [(4, .bool false)] (n31 (oY (q21 (q20 (q15 (q11 (q8 ?_)))))))
      exact lZ hF [.tmp 4] [.bool false] (rT res_nil)
     | false =>
      refine oU hF fun hF => ?_
      refine oZ (n21 (n20 (W.r ?_)))
      refine oI 25 .i64 hF fun t25 hF => ?_
      refine oA 13 (.int .i64 t25) ?_
      refine oV [(0, t0), (1, t1), (12, .int .i64 t12), (13, .int .i64 t25)] (n15 ?_)
      exact gW _ (ih15 _ _ hF)
    | false =>
     refine oU hF fun hF => ?_
     refine W.exit (by kernel_rfl) ?_
     refine e19 (e15 ?_)
     refine s11 (by kernel_rfl) ?_
     exact gW _ (J12 _ hF)
  exact gW _ (L15 _ _ _ hF)
noncomputable def law22_one (_ : CallF) (_ : Nat) (t0 : Int) (t1 : Int) (t2 : Int) (t3 : Int) (t4 : Bytes) (h : AHeap) : R :=
 lett (newH h 35 [.int .i64 0, .int .i64 0, .int .i64 0, .int .i64 0, .str 0 0]) fun h_2 =>
 obind (bldS Try.prog 35 [(0, .int .i64 t0), (1, .agg ([.int .i64 t1, .int .i64 t2] : List AV)), (2, .int .i64 t3), (3, strA t4)]) fun t17 =>
 obind (stRow h_2 5 t17 (newP h)) fun h_6 =>
 obind (ldRow h_6 5 (newP h)) fun w10 =>
 some (.ret (.agg w10), h_6)
set_option maxHeartbeats 4000000 in
set_option maxRecDepth 20000 in
theorem law22_one_ok {call : CallF} (_ : SaysAll Try.prog call) {n : Nat} {t0 : Int} {t1 : Int} {t2 : Int} {t3 : Int} {t4 : Bytes} {h : AHeap} {rR : ARes} {hR : AHeap} (hF : law22_one call n t0 t1 t2 t3 t4 h = some (rR, hR)) : Says Try.prog 12 [.int .i64 t0, .int .i64 t1, .int .i64 t2, .int .i64 t3, strA t4] h rR hR := by
 unfold law22_one at hF
 refine sO Try.func12 fun w0 m0 => ?_
 refine wW [(0, .int .i64 t0), (1, .int .i64 t1), (2, .int .i64 t2), (3, .int .i64 t3), (4, strA t4)] ?_
 refine oG fun n1 => W.r ?_
 refine oN 10 hF fun h_2 hF => ?_
 refine oV [(0, .int .i64 t0), (1, .int .i64 t1), (2, .int .i64 t2), (3, .int .i64 t3), (4, strA t4), (10, (newP h))] (n1 ?_)
 refine oG fun n4 => W.r ?_
 refine oA 11 (.int .i64 t0) ?_
 refine oA 12 (.int .i64 t1) ?_
 refine oA 13 (.int .i64 t2) ?_
 refine oA 14 (.agg ([.int .i64 t1, .int .i64 t2] : List AV)) ?_
 refine oA 15 (.int .i64 t3) ?_
 refine oA 16 (strA t4) ?_
 obtain ⟨t17, e5, hF⟩ := obind_some hF
 refine WL.val (d := (some 17)) (v := .agg t17) (h' := h_2) (by kernel_rfl) (by kernel_rfl) (bld_ok (by kernel_rfl) e5) ?_
 refine oW 35 (.agg t17) hF fun h_6 hF => ?_
 refine oV [(10, (newP h))] (n4 (oY ?_))
 obtain ⟨w10, e8, hF⟩ := obind_some hF
 exact lZ hF [.cell 10 35] [.agg w10] (rY e8 res_nil)
noncomputable def law22_fenced_L1b (h_10 : AHeap) (h_21 : AHeap) (v18 : AV) (t19 : Int) (k33 : Int → AHeap → R) (self : Int → Int → AHeap → R) (t5_50 : Int) (t20 : Int) (h_51 : AHeap) : R :=
 lett (decide (t20 < t19)) fun (t21 : Bool) =>
 ifB t21
 (
  obind (idxP 5 v18 t20) fun t22 =>
  obind (ldRow h_51 5 t22) fun t23 =>
  lett (newH h_51 35 [.int .i64 0, .int .i64 0, .int .i64 0, .int .i64 0, .str 0 0]) fun h_60 =>
  obind (stRow h_60 5 t23 (newP h_51)) fun h_62 =>
  obind (ldCell h_62 (AV.ptr (AHeap.next h_51) 0)) fun v25 =>
  obind (avInt .i64 v25) fun t25 =>
  obind (ldCell h_62 (AV.ptr (AHeap.next h_10) 0)) fun v27 =>
  obind (avInt .i64 v27) fun t27 =>
  lett ((t25 : Int) == t27) fun (t28 : Bool) =>
  lett (fun (t5_71 : Int) (h_72 : AHeap) =>
   lett (IntKind.i64.wrap (t20 + 1)) fun (t34 : Int) =>
   self t5_71 t34 h_72) fun k70 =>
  ifB t28
  (
   obind (ldCell h_62 (AV.ptr (AHeap.next h_51) 3)) fun v30 =>
   obind (avInt .i64 v30) fun t30 =>
   lett (IntKind.i64.wrap (t30 + 1)) fun (t31 : Int) =>
   obind (ldRow h_62 2 (AV.ptr (AHeap.next h_51) 1)) fun t33 =>
   obind (stRow h_62 2 t33 (newP h_21)) fun h_78 =>
   k70 t31 h_78)
  (
   k70 t5_50 h_62))
 (
  k33 t5_50 h_51)
noncomputable def law22_fenced_L1 (h_10 : AHeap) (h_21 : AHeap) (v18 : AV) (t19 : Int) (k33 : Int → AHeap → R) : Nat → Int → Int → AHeap → R := iterR (fun _ _ _ => none) (law22_fenced_L1b h_10 h_21 v18 t19 k33)
theorem law22_fenced_L1_s (h_10 : AHeap) (h_21 : AHeap) (v18 : AV) (t19 : Int) (k33 : Int → AHeap → R) (m : Nat) : law22_fenced_L1 h_10 h_21 v18 t19 k33 (m + 1) = law22_fenced_L1b h_10 h_21 v18 t19 k33 (law22_fenced_L1 h_10 h_21 v18 t19 k33 m) := rfl
noncomputable def law22_fenced_L0b (call : CallF) (n : Nat) (t0 : AV) (t10 : Int) (k6 : AHeap → R) (self : Int → AHeap → R) (t11 : Int) (h_10 : AHeap) : R :=
 lett (decide (t11 < t10)) fun (t12 : Bool) =>
 ifB t12
 (
  obind (idxP 5 t0 t11) fun t14 =>
  obind (ldRow h_10 5 t14) fun t15 =>
  lett (newH h_10 35 [.int .i64 0, .int .i64 0, .int .i64 0, .int .i64 0, .str 0 0]) fun h_19 =>
  obind (stRow h_19 5 t15 (newP h_10)) fun h_21 =>
  lett (newH h_21 30 [.int .i64 0, .int .i64 0]) fun h_25 =>
  outK (sliceA Try.prog h_25 39 t0 none (some (.int .i64 t11))) fun v18 h_29 =>
  obind (lenL v18) fun t19 =>
  lett (fun (t5 : Int) (h_34 : AHeap) =>
   obind (ldCell h_34 (AV.ptr (AHeap.next h_10) 3)) fun v36 =>
   obind (avInt .i64 v36) fun t36 =>
   lett ((t36 : Int) != t5) fun (t38 : Bool) =>
   lett (fun (t44 : Bool) (h_39 : AHeap) =>
    ifB t44
    (
     some (.ret (.bool false), h_39))
    (
     lett (IntKind.i64.wrap (t11 + 1)) fun (t45 : Int) =>
     self t45 h_39)) fun j44 =>
   ifB t38
   (
    j44 true h_34)
   (
    obind (ldRow h_34 2 (newP h_21)) fun t40 =>
    obind (ldRow h_34 2 (AV.ptr (AHeap.next h_10) 1)) fun t42 =>
    callN (call 53 [.agg t40, .agg t42] h_34) fun r43 h_46 =>
    obind (avBool r43) fun t43 =>
    j44 t43 h_46)) fun k33 =>
  law22_fenced_L1 h_10 h_21 v18 t19 k33 n 1 0 h_29)
 (
  k6 h_10)
noncomputable def law22_fenced_L0 (call : CallF) (n : Nat) (t0 : AV) (t10 : Int) (k6 : AHeap → R) : Nat → Int → AHeap → R := iterR (fun _ _ => none) (law22_fenced_L0b call n t0 t10 k6)
theorem law22_fenced_L0_s (call : CallF) (n : Nat) (t0 : AV) (t10 : Int) (k6 : AHeap → R) (m : Nat) : law22_fenced_L0 call n t0 t10 k6 (m + 1) = law22_fenced_L0b call n t0 t10 k6 (law22_fenced_L0 call n t0 t10 k6 m) := rfl
noncomputable def law22_fenced (call : CallF) (n : Nat) (t0 : AV) (h : AHeap) : R :=
 obind (lenL t0) fun t10 =>
 lett (fun  (h_7 : AHeap) =>
  some (.ret (.bool true), h_7)) fun k6 =>
 law22_fenced_L0 call n t0 t10 k6 n 0 h
set_option maxHeartbeats 4000000 in
set_option maxRecDepth 20000 in
theorem law22_fenced_ok {call : CallF} (hc : SaysAll Try.prog call) {n : Nat} {t0 : AV} {h : AHeap} {rR : ARes} {hR : AHeap} (hF : law22_fenced call n t0 h = some (rR, hR)) : Says Try.prog 30 [t0] h rR hR := by
 unfold law22_fenced at hF
 refine sO Try.func30 fun w0 m0 => ?_
 refine wW [(0, t0)] ?_
 refine oG fun n1 => W.r ?_
 refine oA 2 (.bool false) ?_
 refine oV [(0, t0)] (n1 ?_)
 refine W.s (fun K2 n2 e2 q2 p2 => ?_)
 refine oG fun n3 => W.r ?_
 refine oA 9 t0 ?_
 refine oM 10 39 35 hF fun t10 hF => ?_
 refine oA 11 (.int .i64 0) ?_
 refine oV [(0, t0), (9, t0), (10, .int .i64 t10), (11, .int .i64 0)] (n3 ?_)
 obtain ⟨k6, e6, hF⟩ := lett_some hF
 have J6 : ∀  (h_7 : AHeap), k6 h_7 = some (rR, hR) → Go w0 m0 (Func.ntmps Try.f30) (K2 .normal) [] [] h_7 := by
  intro  h_7 hF
  rw [e6] at hF
  refine n2 ?_
  refine oG fun n8 => W.r ?_
  refine oA 2 (.bool true) ?_
  refine oV [(2, .bool true)] (n8 (oY ?_))
  exact lZ hF [.tmp 2] [.bool true] (rT res_nil)
 refine W.blockK (by kernel_rfl) (fun K5 n5 s5 o5 q5 p5 => ?_)
 refine W.loopK (by kernel_rfl) (fun I9 K9 b9 n9 e9 q9 p9 => ?_)
 have L9 : ∀ (m : Nat) (t11 : Int) (h_10 : AHeap), law22_fenced_L0 call n t0 t10 k6 m t11 h_10 = some (rR, hR) → Go w0 m0 (Func.ntmps Try.f30) I9 [(0, t0), (9, t0), (10, .int .i64 t10), (11, .int .i64 t11)] [] h_10 := by
  intro m
  induction m with
  | zero => intro t11 h_10 hF; cases hF
  | succ m ih9 =>
   intro t11 h_10 hF
   rw [law22_fenced_L0_s] at hF; unfold law22_fenced_L0b at hF
   refine b9 ?_
   refine oG fun n11 => W.r ?_
   refine oB 12 hF fun t12 hF => ?_
   refine oV [(0, t0), (9, t0), (10, .int .i64 t10), (11, .int .i64 t11), (12, .bool t12)] (n11 ?_)
   refine W.s (fun K13 n13 e13 q13 p13 => ?_)
   cases t12 with
   | true =>
    refine oT hF fun hF => ?_
    refine oZ (n13 ?_)
    refine oH fun n14 q14 => ?_
    refine W.blockK (by kernel_rfl) (fun K15 n15 s15 o15 q15 p15 => ?_)
    refine oG fun n16 => W.r ?_
    refine oA 13 (.int .i64 t11) ?_
    refine oP 14 39 35 .i64 hF fun t14 hF => ?_
    refine oR 15 35 hF fun t15 hF => ?_
    refine oN 4 hF fun h_19 hF => ?_
    refine oA 3 (.int .i64 t11) ?_
    refine oW 35 (.agg t15) hF fun h_21 hF => ?_
    refine oV [(0, t0), (3, .int .i64 t11), (4, (newP h_10)), (9, t0), (10, .int .i64 t10), (11, .int .i64 t11)] (n16 ?_)
    refine oG fun n23 => W.r ?_
    refine oA 5 (.int .i64 1) ?_
    refine oV [(0, t0), (3, .int .i64 t11), (4, (newP h_10)), (5, .int .i64 1), (9, t0), (10, .int .i64 t10), (11, .int .i64 t11)] (n23 ?_)
    refine oG fun n24 => W.r ?_
    refine oN 6 hF fun h_25 hF => ?_
    refine oV [(0, t0), (3, .int .i64 t11), (4, (newP h_10)), (5, .int .i64 1), (6, (newP h_21)), (9, t0), (10, .int .i64 t10), (11, .int .i64 t11)] (n24 ?_)
    refine W.s (fun K27 n27 e27 q27 p27 => ?_)
    refine oG fun n28 => W.r ?_
    refine oA 16 t0 ?_
    refine oA 17 (.int .i64 t11) ?_
    refine oK 18 hF fun v18 h_29 hF => ?_
    refine oM 19 39 35 hF fun t19 hF => ?_
    refine oA 20 (.int .i64 0) ?_
    refine oV [(0, t0), (4, (newP h_10)), (5, .int .i64 1), (6, (newP h_21)), (9, t0), (10, .int .i64 t10), (11, .int .i64 t11), (18, v18), (19, .int .i64 t19), (20, .int .i64 0)] (n28 ?_)
    obtain ⟨k33, e33, hF⟩ := lett_some hF
    have J33 : ∀ (t5 : Int) (h_34 : AHeap), k33 t5 h_34 = some (rR, hR) → Go w0 m0 (Func.ntmps Try.f30) (K27 .normal) [(0, t0), (4, (newP h_10)), (5, .int .i64 t5), (6, (newP h_21)), (9, t0), (10, .int .i64 t10), (11, .int .i64 t11)] [] h_34 := by
     intro t5 h_34 hF
     rw [e33] at hF
     refine n27 ?_
     refine W.s (fun K35 n35 e35 q35 p35 => ?_)
     refine W.r ?_
     refine oA 35 (AV.ptr (AHeap.next h_10) 3) ?_
     refine oLi 36 3 hF fun t36 hF => ?_
     refine oA 37 (.int .i64 t5) ?_
     refine oB 38 hF fun t38 hF => ?_
     refine oA 39 (.bool t38) ?_
     obtain ⟨j44, e40, hF⟩ := lett_some hF
     have J41 : ∀ (t44 : Bool) (h_39 : AHeap), j44 t44 h_39 = some (rR, hR) → WL Try.prog w0 m0 (Func.ntmps Try.f30) (Code.ops (Code.p1 (Code.p2 (Code.p2 (Code.p2 (Code.p2 (Code.p1 (Code.p1 (Code.p2 (Code.p2 (Code.p1 (Code.p1 (Code.p2 (Code.p1 (Code.p2 (codeOf Try.f30)))))))))))))))) 10 K35 [(0, t0), (9, t0), (10, .int .i64 t10), (11, .int .i64 t11), (44, .bool t44)] [] h_39 := by
      intro t44 h_39 hF
      rw [e40] at hF
      refine oV [(0, t0), (9, t0), (10, .int .i64 t10), (11, .int .i64 t11), (44, .bool t44)] (n35 ?_)
      cases t44 with
      | true =>
       refine oT hF fun hF => ?_
       refine oG fun n42 => W.r ?_
       refine oA 2 (.bool false) ?_
       refine oV [(2, .bool false)] (n42 (oY (q15 (q14 (q9 (q5 (q2 ?_)))))))
       exact lZ hF [.tmp 2] [.bool false] (rT res_nil)
      | false =>
       refine oU hF fun hF => ?_
       refine oZ (n15 (n14 (W.r ?_)))
       refine oI 45 .i64 hF fun t45 hF => ?_
       refine oA 11 (.int .i64 t45) ?_
       refine oV [(0, t0), (9, t0), (10, .int .i64 t10), (11, .int .i64 t45)] (n9 ?_)
       exact gW _ (ih9 _ _ hF)
     cases t38 with
     | true =>
      replace hF := ifB_t hF
      refine WL.o (some 40) ?_
      refine WL.o (some 41) ?_
      refine WL.o (some 42) ?_
      refine WL.o (some 43) ?_
      refine oA 44 (.bool true) ?_
      exact lW _ (J41 _ _ hF)
     | false =>
      replace hF := ifB_f hF
      refine oR 40 30 hF fun t40 hF => ?_
      refine oA 41 (AV.ptr (AHeap.next h_10) 1) ?_
      refine oR 42 30 hF fun t42 hF => ?_
      refine oCb hc 43 hF fun t43 h_46 hF => ?_
      refine oA 44 (.bool t43) ?_
      exact lW _ (J41 _ _ hF)
    refine W.blockK (by kernel_rfl) (fun K32 n32 s32 o32 q32 p32 => ?_)
    refine W.loopK (by kernel_rfl) (fun I49 K49 b49 n49 e49 q49 p49 => ?_)
    have L49 : ∀ (m : Nat) (t5_50 : Int) (t20 : Int) (h_51 : AHeap), law22_fenced_L1 h_10 h_21 v18 t19 k33 m t5_50 t20 h_51 = some (rR, hR) → Go w0 m0 (Func.ntmps Try.f30) I49 [(0, t0), (4, (newP h_10)), (5, .int .i64 t5_50), (6, (newP h_21)), (9, t0), (10, .int .i64 t10), (11, .int .i64 t11), (18, v18), (19, .int .i64 t19), (20, .int .i64 t20)] [] h_51 := by
     intro m
     induction m with
     | zero => intro t5_50 t20 h_51 hF; cases hF
     | succ m ih49 =>
      intro t5_50 t20 h_51 hF
      rw [law22_fenced_L1_s] at hF; unfold law22_fenced_L1b at hF
      refine b49 ?_
      refine oG fun n52 => W.r ?_
      refine oB 21 hF fun t21 hF => ?_
      refine oV [(0, t0), (4, (newP h_10)), (5, .int .i64 t5_50), (6, (newP h_21)), (9, t0), (10, .int .i64 t10), (11, .int .i64 t11), (18, v18), (19, .int .i64 t19), (20, .int .i64 t20), (21, .bool t21)] (n52 ?_)
      refine W.s (fun K54 n54 e54 q54 p54 => ?_)
      cases t21 with
      | true =>
       refine oT hF fun hF => ?_
       refine oZ (n54 ?_)
       refine oG fun n55 => ?_
       refine W.blockK (by kernel_rfl) (fun K56 n56 s56 o56 q56 p56 => ?_)
       refine oG fun n57 => W.r ?_
       refine oP 22 39 35 .i64 hF fun t22 hF => ?_
       refine oR 23 35 hF fun t23 hF => ?_
       refine oN 8 hF fun h_60 hF => ?_
       refine oW 35 (.agg t23) hF fun h_62 hF => ?_
       refine oV [(0, t0), (4, (newP h_10)), (5, .int .i64 t5_50), (6, (newP h_21)), (8, (newP h_51)), (9, t0), (10, .int .i64 t10), (11, .int .i64 t11), (18, v18), (19, .int .i64 t19), (20, .int .i64 t20)] (n57 ?_)
       refine oG fun n64 => W.r ?_
       refine oA 24 (AV.ptr (AHeap.next h_51) 0) ?_
       refine oLi 25 3 hF fun t25 hF => ?_
       refine oA 26 (AV.ptr (AHeap.next h_10) 0) ?_
       refine oLi 27 3 hF fun t27 hF => ?_
       refine oB 28 hF fun t28 hF => ?_
       refine oV [(0, t0), (4, (newP h_10)), (5, .int .i64 t5_50), (6, (newP h_21)), (8, (newP h_51)), (9, t0), (10, .int .i64 t10), (11, .int .i64 t11), (18, v18), (19, .int .i64 t19), (20, .int .i64 t20), (28, .bool t28)] (n64 ?_)
       obtain ⟨k70, e70, hF⟩ := lett_some hF
       have J70 : ∀ (t5_71 : Int) (h_72 : AHeap), k70 t5_71 h_72 = some (rR, hR) → Go w0 m0 (Func.ntmps Try.f30) (K56 .normal) [(0, t0), (4, (newP h_10)), (5, .int .i64 t5_71), (6, (newP h_21)), (9, t0), (10, .int .i64 t10), (11, .int .i64 t11), (18, v18), (19, .int .i64 t19), (20, .int .i64 t20)] [] h_72 := by
        intro t5_71 h_72 hF
        rw [e70] at hF
        refine n56 (n55 (W.r ?_))
        refine oI 34 .i64 hF fun t34 hF => ?_
        refine oA 20 (.int .i64 t34) ?_
        refine oV [(0, t0), (4, (newP h_10)), (5, .int .i64 t5_71), (6, (newP h_21)), (9, t0), (10, .int .i64 t10), (11, .int .i64 t11), (18, v18), (19, .int .i64 t19), (20, .int .i64 t34)] (n49 ?_)
        exact gW _ (ih49 _ _ _ hF)
       cases t28 with
       | true =>
        refine oT hF fun hF => ?_
        refine W.draw (by kernel_rfl) (hc.ok w0) (plan := [0, 1, 2, 3, 4, 5, 6]) (by kernel_rfl) (by kernel_rfl) (by kernel_rfl) ?_
        refine WD.a 0 (some 29) (AV.ptr (AHeap.next h_51) 3) h_62 ?_
        replace hF := obind_some hF; obtain ⟨v30, e74, hF⟩ := hF
        replace hF := obind_some hF; obtain ⟨t30, c75, hF⟩ := hF
        have c75 := avInt_some c75
        subst c75
        refine WD.b 1 (some 30) (.int .i64 t30) h_62 (load_cell (P := Try.prog) (h := h_62) (t := 3) (by kernel_rfl) e74) ?_
        obtain ⟨t31, e76, hF⟩ := lett_some hF
        refine WD.val (d := (some 31)) (v := .int .i64 t31) (h' := h_62) (by kernel_rfl) (by kernel_rfl) (val_of (AV.int .i64) e76 (by kernel_rfl)) (k := 0) (by kernel_rfl) (fun e => absurd e (by decide)) (by decide) ?_
        refine WD.a 0 (some 32) (AV.ptr (AHeap.next h_51) 1) h_62 ?_
        obtain ⟨t33, e77, hF⟩ := obind_some hF
        refine WD.b 1 (some 33) (.agg t33) h_62 (load_row (P := Try.prog) (h := h_62) (t := 30) (by kernel_rfl) (by kernel_rfl) e77) ?_
        refine WD.a 0 (some 5) (.int .i64 t31) h_62 ?_
        obtain ⟨h_78, e79, hF⟩ := obind_some hF
        refine WD.eff (h' := h_78) (by kernel_rfl) (by kernel_rfl) (Eq.trans (by kernel_rfl) (store_row (P := Try.prog) (h := h_62) (t := 30) (v := (.agg t33)) (by kernel_rfl) (by kernel_rfl) e79)) (k := 2) (by kernel_rfl) (fun _ => (by kernel_rfl)) (by decide) ?_
        refine WD.nil ?_
        refine gW [(0, t0), (4, (newP h_10)), (5, .int .i64 t31), (6, (newP h_21)), (9, t0), (10, .int .i64 t10), (11, .int .i64 t11), (18, v18), (19, .int .i64 t19), (20, .int .i64 t20)] ?_
        exact gW _ (J70 _ _ hF)
       | false =>
        refine oU hF fun hF => ?_
        refine oZ ?_
        exact gW _ (J70 _ _ hF)
      | false =>
       refine oU hF fun hF => ?_
       refine W.exit (by kernel_rfl) ?_
       refine e54 (e49 ?_)
       refine s32 (by kernel_rfl) ?_
       exact gW _ (J33 _ _ hF)
    exact gW _ (L49 _ _ _ _ hF)
   | false =>
    refine oU hF fun hF => ?_
    refine W.exit (by kernel_rfl) ?_
    refine e13 (e9 ?_)
    refine s5 (by kernel_rfl) ?_
    exact gW _ (J6 _ hF)
 exact gW _ (L9 _ _ _ hF)
noncomputable def wLS (n : Nat) : List LSite := [journal_Journal_read_R0 n, law22_list_R0 n]
theorem wLS_ok (n : Nat) : ∀ s ∈ wLS n, s.ok Try.prog := by
 intro s hs
 unfold wLS at hs
 rcases List.mem_cons.1 hs with rfl | hs
 ·exact journal_Journal_read_R0_ok n
 rcases List.mem_cons.1 hs with rfl | hs
 ·exact law22_list_R0_ok n
 cases hs
theorem wLS_journal_Journal_read_R0 (n : Nat) (st : LoopState) (j : AJump) (t : T AV) (D : Nat) : lsite (wLS n) ⟨st, j, t, (journal_Journal_read_R0 n).N, Code.rgp (journal_Journal_read_R0 n).c, Code.r1 (journal_Journal_read_R0 n).c, Code.r2 (journal_Journal_read_R0 n).c, D⟩ = some (journal_Journal_read_R0 n) := lsite_hit rfl rfl rfl
theorem wLS_law22_list_R0 (n : Nat) (st : LoopState) (j : AJump) (t : T AV) (D : Nat) : lsite (wLS n) ⟨st, j, t, (law22_list_R0 n).N, Code.rgp (law22_list_R0 n).c, Code.r1 (law22_list_R0 n).c, Code.r2 (law22_list_R0 n).c, D⟩ = some (law22_list_R0 n) := (lsite_miss (by kernel_rfl)).trans (lsite_hit rfl rfl rfl)
noncomputable def wLT (n : Nat) (both : BothF) : List (FuncId × FnT) := [(73, frame_All_1_fn both n), (62, journal_Journal_All_1_fn both n), (32, journal_Journal_read_fn both n), (14, law22_list_fn both n), (9, fn1 Dv (journal_Open (both false) n)), (7, fn0 (law22_works (both false) n)), (18, fn1 Dv (law22_heavy (both false) n)), (15, fn2 Dv Dv (law22_same (both false) n)), (12, fn5 (Di .i64) (Di .i64) (Di .i64) (Di .i64) Ds (law22_one (both false) n)), (30, fn1 Dv (law22_fenced (both false) n))]
theorem wLT_ok (n : Nat) (both : BothF) (hc : BothAll Try.prog both) : SaysAll Try.prog (callOf (wLT n both)) := callOf_cons (frame_All_1_holds hc n) (callOf_cons (journal_Journal_All_1_holds hc n) (callOf_cons (journal_Journal_read_holds hc n) (callOf_cons (law22_list_holds hc n) (callOf_cons (fn1_holds Dv (journal_Open_ok hc.says)) (callOf_cons (fn0_holds (law22_works_ok hc.says)) (callOf_cons (fn1_holds Dv (law22_heavy_ok hc.says)) (callOf_cons (fn2_holds Dv Dv (law22_same_ok hc.says)) (callOf_cons (fn5_holds (Di .i64) (Di .i64) (Di .i64) (Di .i64) Ds (law22_one_ok hc.says)) (callOf_cons (fn1_holds Dv (law22_fenced_ok hc.says)) (callOf_nil))))))))))
noncomputable def wL (n D d : Nat) : BothF := worldL (wLS n) (wLT n) (world n D) d
theorem wL_ok (n D d : Nat) : BothAll Try.prog (wL n D d) := worldL_ok (wLS_ok n) (wLT_ok n) (world_ok n D) d
theorem wL_r (n D d b : Nat) (args : List AV) (h : AHeap) : wL n D (d + 1) true b args h = roundL (wLS n) (wL n D d) b args h := rfl
theorem wL_b (f : FuncId) {n D d : Nat} {args : List AV} {h : AHeap} (hf : ([73, 62, 32, 14, 9, 7, 18, 15, 12, 30].all fun i => !Nat.beq i f) = true := by kernel_rfl) : wL n D (d + 1) false f args h = world n D f args h := worldL_base (callOf_none _ _ _ hf)
theorem wL_frame_All_1 (n D d : Nat) (t0 : AV) (t1 : AV) {h : AHeap} {x : ARes × AHeap} (e : frame_All_1 (wL n D d) n t0 t1 h = some x) : wL n D (d + 1) false 73 [t0, t1] h = some x :=
 worldL_top (Eq.trans (b := frame_All_1_fn (wL n D d) n [t0, t1] h) (by kernel_rfl) ((frame_All_1_fn_eq (wL n D d) n t0 t1 h).trans e))
theorem wL_journal_Journal_All_1 (n D d : Nat) (t0 : AV) (t1 : AV) {h : AHeap} {x : ARes × AHeap} (e : journal_Journal_All_1 (wL n D d) n t0 t1 h = some x) : wL n D (d + 1) false 62 [t0, t1] h = some x :=
 worldL_top (Eq.trans (b := journal_Journal_All_1_fn (wL n D d) n [t0, t1] h) (by kernel_rfl) ((journal_Journal_All_1_fn_eq (wL n D d) n t0 t1 h).trans e))
theorem wL_journal_Journal_read (n D d : Nat) (t0 : AV) (t1 : Bytes) {h : AHeap} {x : ARes × AHeap} (e : journal_Journal_read (wL n D d) n t0 t1 h = some x) : wL n D (d + 1) false 32 [t0, strA t1] h = some x :=
 worldL_top (Eq.trans (b := journal_Journal_read_fn (wL n D d) n [t0, strA t1] h) (by kernel_rfl) ((journal_Journal_read_fn_eq (wL n D d) n t0 t1 h).trans e))
theorem wL_law22_list (n D d : Nat) (t0 : AV) {h : AHeap} {x : ARes × AHeap} (e : law22_list (wL n D d) n t0 h = some x) : wL n D (d + 1) false 14 [t0] h = some x :=
 worldL_top (Eq.trans (b := law22_list_fn (wL n D d) n [t0] h) (by kernel_rfl) ((law22_list_fn_eq (wL n D d) n t0 h).trans e))
theorem wL_journal_Open (n D d : Nat) (t0 : AV) {h : AHeap} {x : ARes × AHeap} (e : journal_Open ((wL n D d) false) n t0 h = some x) : wL n D (d + 1) false 9 [t0] h = some x :=
 worldL_top (Eq.trans (b := fn1 Dv (journal_Open ((wL n D d) false) n) [t0] h) (by kernel_rfl) ((fn1_eq Dv _ t0 h).trans e))
theorem wL_law22_works (n D d : Nat)  {h : AHeap} {x : ARes × AHeap} (e : law22_works ((wL n D d) false) n  h = some x) : wL n D (d + 1) false 7 [] h = some x :=
 worldL_top (Eq.trans (b := fn0 (law22_works ((wL n D d) false) n) [] h) (by kernel_rfl) ((fn0_eq  _  h).trans e))
theorem wL_law22_heavy (n D d : Nat) (t0 : AV) {h : AHeap} {x : ARes × AHeap} (e : law22_heavy ((wL n D d) false) n t0 h = some x) : wL n D (d + 1) false 18 [t0] h = some x :=
 worldL_top (Eq.trans (b := fn1 Dv (law22_heavy ((wL n D d) false) n) [t0] h) (by kernel_rfl) ((fn1_eq Dv _ t0 h).trans e))
theorem wL_law22_same (n D d : Nat) (t0 : AV) (t1 : AV) {h : AHeap} {x : ARes × AHeap} (e : law22_same ((wL n D d) false) n t0 t1 h = some x) : wL n D (d + 1) false 15 [t0, t1] h = some x :=
 worldL_top (Eq.trans (b := fn2 Dv Dv (law22_same ((wL n D d) false) n) [t0, t1] h) (by kernel_rfl) ((fn2_eq Dv Dv _ t0 t1 h).trans e))
theorem wL_law22_one (n D d : Nat) (t0 : Int) (t1 : Int) (t2 : Int) (t3 : Int) (t4 : Bytes) {h : AHeap} {x : ARes × AHeap} (e : law22_one ((wL n D d) false) n t0 t1 t2 t3 t4 h = some x) : wL n D (d + 1) false 12 [.int .i64 t0, .int .i64 t1, .int .i64 t2, .int .i64 t3, strA t4] h = some x :=
 worldL_top (Eq.trans (b := fn5 (Di .i64) (Di .i64) (Di .i64) (Di .i64) Ds (law22_one ((wL n D d) false) n) [.int .i64 t0, .int .i64 t1, .int .i64 t2, .int .i64 t3, strA t4] h) (by kernel_rfl) ((fn5_eq (Di .i64) (Di .i64) (Di .i64) (Di .i64) Ds _ t0 t1 t2 t3 t4 h).trans e))
theorem wL_law22_fenced (n D d : Nat) (t0 : AV) {h : AHeap} {x : ARes × AHeap} (e : law22_fenced ((wL n D d) false) n t0 h = some x) : wL n D (d + 1) false 30 [t0] h = some x :=
 worldL_top (Eq.trans (b := fn1 Dv (law22_fenced ((wL n D d) false) n) [t0] h) (by kernel_rfl) ((fn1_eq Dv _ t0 h).trans e))
end Go.Proofs.Ytbhblbffdmiepaa
namespace Go.Proofs.Ytbhblbffdmiepaa.Abs
noncomputable section
open Go.RowKit
def BuB (U8 : TypeId) (h : AHeap) (b c : Nat) (buf : AV) (l : Bytes) : Prop :=
 (buf = .nsl ∧ l = [] ∧ c = b) ∨ (buf = .sl c 0 l.length 1 ∧ l ≠ [] ∧ c ≠ b ∧ c < h.next ∧ RowH h c U8 (bytesC l))
section
variable {P : Program} {TB U8 : TypeId} {h h' : AHeap} {b c : Nat} {buf : AV} {l : Bytes} {S : List Nat}
theorem BuB.one (k : BuB U8 h b c buf l) : buf.one = true ∧ AV.cells buf = [buf] ∧ lenL buf = some (l.length : Int) := by
 rcases k with ⟨rfl, rfl, _⟩ | ⟨rfl, _⟩ <;> exact ⟨rfl, rfl, rfl⟩
end
end
end Go.Proofs.Ytbhblbffdmiepaa.Abs
namespace Go.Proofs.Ytbhblbffdmiepaa.Abs
noncomputable section
open Go.RowKit
section
variable {P : Program}
end
end
end Go.Proofs.Ytbhblbffdmiepaa.Abs
namespace Go.Proofs.Ytbhblbffdmiepaa.Abs
noncomputable section
open Go.RowKit
abbrev RowT := Nat × TypeId × List AV
structure Mem (S : List Nat) (h0 h : AHeap) (rs : List RowT) : Prop where
 row : ∀ x ∈ rs, RowH h x.1 x.2.1 x.2.2 ∧ x.1 < h.next ∧ (x.1 ∈ S ∨ h0.next ≤ x.1)
 apart : (rs.map (·.1)).Nodup
 tch : Tch S h0 h
section
variable {S : List Nat} {h0 h h' : AHeap} {xs ys rs : List RowT} {b o n : Nat} {e : TypeId} {l l' vs : List AV} {v : AV} {Q : ARes → AHeap → Prop} {K : AHeap → R} {x : R} {x0 x1 x2 x3 x4 : RowT}
theorem Mem.nil (S : List Nat) (h : AHeap) : Mem S h h [] := ⟨by simp, by simp, Tch.refl _ _⟩
theorem Mem.one (k : RowH h b e l) (hb : b < h.next) : Mem [b] h h [(b, e, l)] := ⟨by simpa using ⟨k, hb⟩, by simp, Tch.refl _ _⟩
theorem Mem.at (M : Mem S h0 h (xs ++ (b, e, l) :: ys)) : RowH h b e l ∧ b < h.next ∧ (b ∈ S ∨ h0.next ≤ b) := M.row (b, e, l) (by simp)
theorem Mem.upd (M : Mem S h0 h (xs ++ (b, e, l) :: ys)) (ht : Tch [b] h h') (k : RowH h' b e l') : Mem S h0 h' (xs ++ (b, e, l') :: ys) := by
 have hap := M.apart
 have hle := ht.1
 simp only [List.map_append, List.map_cons] at hap
 have hne : ∀ x ∈ xs ++ ys, x.1 ≠ b := by
  intro x hx hxb
  rw [List.nodup_append] at hap
  obtain ⟨_, h2, h3⟩ := hap
  rw [List.nodup_cons] at h2
  rcases List.mem_append.1 hx with hx | hx
  ·exact h3 x.1 (List.mem_map_of_mem hx) b (by simp) hxb
  ·exact h2.1 (by rw [← hxb]; exact List.mem_map_of_mem hx)
 refine ⟨fun x hx => ?_, by simpa only [List.map_append, List.map_cons] using hap, M.tch.trans' ht fun i hi => ?_⟩
 ·have hx' : x ∈ xs ++ ys ∨ x = (b, e, l') := by
   rcases List.mem_append.1 hx with hx | hx
   ·exact .inl (List.mem_append_left _ hx)
   ·rcases List.mem_cons.1 hx with hx | hx
    ·exact .inr hx
    ·exact .inl (List.mem_append_right _ hx)
  rcases hx' with hx' | rfl
  ·obtain ⟨h1, h2, h3⟩ := M.row x (by
    rcases List.mem_append.1 hx' with hx | hx
    ·exact List.mem_append_left _ hx
    ·exact List.mem_append_right _ (List.mem_cons_of_mem _ hx))
   exact ⟨h1.tch ht h2 (by simpa using hne x hx'), by omega, h3⟩
  ·have := M.at
   exact ⟨k, by show b < h'.next; omega, this.2.2⟩
 ·simp only [List.mem_cons, List.not_mem_nil, or_false] at hi
  subst hi
  exact M.at.2.2
theorem Mem.keep (M : Mem S h0 h rs) (ht : Tch [] h h') : Mem S h0 h' rs := by
 have hle := ht.1
 refine ⟨fun x hx => ?_, M.apart, M.tch.trans (ht.mono (by simp))⟩
 obtain ⟨h1, h2, h3⟩ := M.row x hx
 exact ⟨h1.tch ht h2 (by simp), by omega, h3⟩
theorem Mem.new (M : Mem S h0 h rs) (ht : Tch [] h h') (k : RowH h' b e l) (hb : h.next ≤ b) (hb2 : b < h'.next) : Mem S h0 h' ((b, e, l) :: rs) := by
 have M' := M.keep ht
 have hle := M.tch.1
 refine ⟨fun x hx => ?_, ?_, M'.tch⟩
 ·rcases List.mem_cons.1 hx with rfl | hx
  ·exact ⟨k, hb2, .inr (by show h0.next ≤ b; omega)⟩
  ·exact M'.row x hx
 ·rw [List.map_cons, List.nodup_cons]
  refine ⟨fun hm => ?_, M.apart⟩
  obtain ⟨x, hx, hxb⟩ := List.mem_map.1 hm
  have := (M.row x hx).2.1
  omega
theorem Mem.newH (M : Mem S h0 h rs) (e : TypeId) (l : List AV) : Mem S h0 (newH h e l) ((h.next, e, l) :: rs) := M.new (Tch.newH _ _ _ _) (RowH.new _ _ _) (Nat.le_refl _) (Nat.lt_succ_self _)
theorem Mem.ex (M : Mem S h0 h rs) : h.ex = h0.ex := M.tch.2.1
theorem Wp.mnew (M : Mem S h0 h rs) (hk : ∀ h', Mem S h0 h' ((h.next, e, l) :: rs) → Wp (K h') Q) : Wp (Abs.lett (Abs.newH h e l) K) Q := hk _ (M.newH e l)
theorem Wp.mbox {K : AV → AHeap → R} (M : Mem S h0 h rs) (h1 : l.all AV.one = true) (hk : ∀ h', Mem S h0 h' ((h.next, e, l) :: rs) → Wp (K (.ptr h.next 0) h') Q) : Wp (Abs.outK (opBox h e (some (.agg l))) K) Q :=
 Wp.outK (box_agg h1) (hk _ (M.newH e l))
theorem Wp.mnews {K : AV → AHeap → R} {w : OutT} {sz : Nat} (M : Mem S h0 h rs) (eb : w = outNewS h e l n sz) (h1 : l.all AV.one = true) (hex : memB e h0.ex = false) (hk : ∀ h', Mem S h0 h' ((h.next, e, l) :: rs) → Wp (K (.sl h.next 0 n sz) h') Q) : Wp (Abs.outK w K) Q := by
 refine Wp.outK (v := .sl h.next 0 n sz) (h1 := Abs.newH h e l) ?_ (hk _ (M.newH e l))
 rw [eb]
 unfold outNewS
 rw [if_pos ⟨h1, by rw [M.ex]; exact hex⟩]
 rfl
theorem and_t {a c : Bool} (h1 : a = true) (h2 : c = true) : (a && c) = true := by rw [h1, h2]; rfl
theorem Mem.at0 (M : Mem S h0 h ((b, e, l) :: ys)) : RowH h b e l ∧ b < h.next ∧ (b ∈ S ∨ h0.next ≤ b) := Mem.at (xs := []) M
theorem Wp.ld0 {K : AV → R} (M : Mem S h0 h ((b, e, l) :: ys)) (ho : l[o]? = some v) (hk : Wp (K v) Q) : Wp (Abs.obind (ldCell h (.ptr b o)) K) Q := Wp.obind (RowH.cell' (Mem.at (xs := []) M).1 ho) hk
theorem Wp.lr0 {K : List AV → R} (M : Mem S h0 h ((b, e, l) :: ys)) (hn : l.length = n) (hk : Wp (K l) Q) : Wp (Abs.obind (ldRow h n (.ptr b 0)) K) Q := Wp.obind (RowH.ldAll (Mem.at (xs := []) M).1 hn) hk
theorem Wp.sa0 (M : Mem S h0 h ((b, e, l) :: ys)) (hn : vs.length = n) (hl : l.length = n) (h1 : vs.all AV.one = true) (hk : ∀ h', Mem S h0 h' ((b, e, vs) :: ys) → Wp (K h') Q) : Wp (Abs.obind (stRow h n vs (.ptr b 0)) K) Q :=
 Wp.stAll (Mem.at (xs := []) M).1 hn hl h1 fun h' k' t' _ => hk h' (Mem.upd (xs := []) M t' k')
theorem Wp.ms0 (M : Mem S h0 h ((b, e, l) :: ys)) (ho : o < l.length) (h1 : v.one = true) (hk : ∀ h', Mem S h0 h' ((b, e, l.set o v) :: ys) → Wp (K h') Q) : Wp (Abs.obind (stRow h 1 [v] (.ptr b o)) K) Q :=
 Wp.st1 (Mem.at (xs := []) M).1 ho h1 fun h' k' t' _ => hk h' (Mem.upd (xs := []) M t' k')
theorem Mem.at1 (M : Mem S h0 h (x0 :: (b, e, l) :: ys)) : RowH h b e l ∧ b < h.next ∧ (b ∈ S ∨ h0.next ≤ b) := Mem.at (xs := [x0]) M
end
end
end Go.Proofs.Ytbhblbffdmiepaa.Abs
namespace Go.Proofs.Ytbhblbffdmiepaa.Abs
noncomputable section
open Go.RowKit
def GrowT (e : TypeId) (sz : Nat) (rows : List (List AV)) (v : AV) (T : List RowT) : Prop :=
 (∀ r ∈ rows, r.length = sz ∧ r.all AV.one = true) ∧ ((rows = [] ∧ v = .nsl ∧ T = []) ∨ (rows ≠ [] ∧ ∃ c, v = .sl c 0 rows.length sz ∧ T = [(c, e, rows.flatten)]))
section
variable {P : Program} {S : List Nat} {h0 h h' : AHeap} {xs ys rs T : List RowT} {b o n sz B : Nat} {e t u : TypeId} {l l' vs r : List AV} {v x : AV} {rows : List (List AV)} {Q : ARes → AHeap → Prop}
theorem GrowT.one (g : GrowT e sz rows v T) : v.one = true ∧ AV.cells v = [v] := by
 rcases g.2 with ⟨rfl, rfl, _⟩ | ⟨_, c, rfl, _⟩ <;> exact ⟨rfl, rfl⟩
theorem Mem.frame (M : Mem S h0 h (xs ++ rs)) (M' : Mem (xs.map (·.1)) h h' ys) : Mem S h0 h' (ys ++ rs) := by
 have hap := M.apart
 rw [List.map_append, List.nodup_append] at hap
 obtain ⟨a1, a2, a3⟩ := hap
 have hxs : ∀ b ∈ xs.map (·.1), b ∈ S ∨ h0.next ≤ b := by
  intro b hb
  obtain ⟨x, hx, rfl⟩ := List.mem_map.1 hb
  exact (M.row x (List.mem_append_left _ hx)).2.2
 have hle := M.tch.1
 have hle' := M'.tch.1
 refine ⟨fun x hx => ?_, ?_, M.tch.trans' M'.tch hxs⟩
 ·rcases List.mem_append.1 hx with hx | hx
  ·obtain ⟨h1, h2, h3⟩ := M'.row x hx
   exact ⟨h1, h2, h3.elim (fun h => hxs _ h) (fun h => .inr (by omega))⟩
  ·obtain ⟨h1, h2, h3⟩ := M.row x (List.mem_append_right _ hx)
   exact ⟨h1.tch M'.tch h2 (fun hm => a3 x.1 hm x.1 (List.mem_map_of_mem hx) rfl), by omega, h3⟩
 ·rw [List.map_append, List.nodup_append]
  refine ⟨M'.apart, a2, fun a ha b hb hab => ?_⟩
  subst hab
  obtain ⟨x, hx, rfl⟩ := List.mem_map.1 ha
  rcases (M'.row x hx).2.2 with h | h
  ·exact a3 _ h _ hb rfl
  ·obtain ⟨y, hy, hyx⟩ := List.mem_map.1 hb
   have := (M.row y (List.mem_append_right _ hy)).2.1
   omega
end
end
end Go.Proofs.Ytbhblbffdmiepaa.Abs
