/- What lexBlanks_proved stands on, part 6 of 10. -/
import Derived.Test.YtjopejiooipmkaaDoorLka5
import Derived.Test.YtjopejiooipmkaaDoorRows
import Derived.WalkKit
import Derived.ProofKit
import Derived.OpenShut
import Derived.SizedLaws
import Derived.SliceStrings
namespace Go.Proofs.YtjopejiooipmkaaDoor
open Go.ChangeShapes Go.WideShapes Go.ChangeAt Go.RowKit
open Go.ChangeMaps (open_string shut_string)
theorem Tryd.own : ownKnob Tryd.prog.godebug = none := by kernel_rfl
theorem Tryd.laidOut : laidOutB Tryd.prog = true := by kernel_rfl
section
variable {H : Type} {enc : TypeId × Value → H}
theorem stays {P : Program} (hP : laidOutB P = true) {W W' : World} (hb : Below W.heap.size W W') (ts : List TypeId) : ∀ (vs : List Value) (ds : List (DataW H)) (ps : List MemPlace),
  DataW.TrodAll enc P W 0 (fun _ => true) true ts vs ds ps → (∀ t ∈ ts, P.readableRec t = true ∧ t < P.types.size) → (∀ x ∈ ps, x.block < W.heap.size) →
  DataW.TrodAll enc P W' 0 (fun b => decide (b < W.heap.size)) true ts vs ds ps := by
 induction ts with
 | nil =>
  intro vs ds ps h _ _
  obtain ⟨rfl, rfl, rfl⟩ := trodAll_nil h
  exact trodAll_mk0
 | cons t ts ih =>
  intro vs ds ps h hr hlt
  obtain ⟨v, vs', d, ds', p, q, rfl, rfl, rfl, h1, h2⟩ := trodAll_cons h
  obtain ⟨hr1, hr2⟩ := hr t (List.mem_cons_self ..)
  exact trodAll_cons_mk (Below.trod hP hr1 hr2 h1 hb (fun x hx => hlt x (List.mem_append_left _ hx))) (ih _ _ _ h2 (fun t ht => hr t (List.mem_cons_of_mem _ ht)) (fun x hx => hlt x (List.mem_append_right _ hx)))
theorem readable_of {P : Program} {ts : List TypeId} (h : (ts.all fun t => P.readableRec t && decide (t < P.types.size)) = true) : ∀ t ∈ ts, P.readableRec t = true ∧ t < P.types.size := by
 intro t ht
 have h1 := List.all_eq_true.1 h t ht
 rw [Bool.and_eq_true] at h1
 exact ⟨h1.1, of_decide_eq_true h1.2⟩
end
end Go.Proofs.YtjopejiooipmkaaDoor
namespace Go.Proofs.YtjopejiooipmkaaDoor
open Go.RowKit Abs
set_option maxRecDepth 100000 in
theorem works_run : came (.ret (.bool true)) (callA Tryd.prog (Memo.spec Tryd.prog 5000 []) 5000 30 6 [] ⟨0, [52], .e⟩) = true := by kernel_rfl
theorem works_holds : Holds Tryd.prog 6 (constF (.ret (.bool true))) :=
 constF_holds (fun h => Memo.says (by kernel_rfl) Memo.ok_nil (by kernel_rfl) (by kernel_rfl) works_run h)
def plainB (c : Nat) : Bool := decide (32 ≤ c) && decide (c ≤ 126)
def hexV (c : Nat) : Option Nat := if 48 ≤ c ∧ c ≤ 57 then some (c - 48) else if 97 ≤ c ∧ c ≤ 102 then some (c - 87) else none
def shortB (c : Nat) : Nat := if c = 34 ∨ c = 92 then c else if c = 10 then 110 else if c = 13 then 114 else if c = 9 then 116 else 0
def byD (c : Nat) : Bool := decide (shortB c = 0) && !plainB c
def mayB (hi : Nat) : Bool := decide (hi < 2) || decide (7 ≤ hi)
inductive FR where
 | ok (c p : Nat)
 | bad (p : Nat)
def at? (u : Bytes) (p : Nat) : Option Nat := (u[p]?).map UInt8.toNat
def hexAt (u : Bytes) (p : Nat) : FR := match (at? u p).bind hexV with
 | none => .bad p
 | some hi => if mayB hi = false then .bad p else match (at? u (p + 1)).bind hexV with
  | none => .bad (p + 1)
  | some lo => if byD (hi * 16 + lo) = true then .ok (hi * 16 + lo) (p + 2) else .bad (p + 1)
def escAt (u : Bytes) (p : Nat) : FR := match at? u p with
 | none => .bad p
 | some d => if d = 34 ∨ d = 92 then .ok d (p + 1) else if d = 110 then .ok 10 (p + 1) else if d = 114 then .ok 13 (p + 1) else if d = 116 then .ok 9 (p + 1) else if d = 120 then hexAt u (p + 1) else .bad p
def formAt (u : Bytes) (p : Nat) : FR := match at? u p with
 | none => .bad p
 | some a => if a = 92 then escAt u (p + 1) else if plainB a = true ∧ a ≠ 34 then .ok a (p + 1) else .bad p
theorem at?_lt {u : Bytes} {p : Nat} (h : p < u.length) : at? u p = some (u[p]).toNat := by
 unfold at?
 rw [List.getElem?_eq_getElem h]
 rfl
theorem at?_ge {u : Bytes} {p : Nat} (h : u.length ≤ p) : at? u p = none := by
 unfold at?
 rw [List.getElem?_eq_none h]
 rfl
theorem at?_some {u : Bytes} {p c : Nat} (h : at? u p = some c) : ∃ hp : p < u.length, (u[p]).toNat = c := by
 by_cases hp : p < u.length
 ·rw [at?_lt hp] at h
  exact ⟨hp, by simpa using h⟩
 ·rw [at?_ge (by omega)] at h
  cases h
theorem hexV_lt {c v : Nat} (h : hexV c = some v) : v < 16 ∧ c < 128 := by
 unfold hexV at h
 split at h
 ·simp at h; omega
 ·split at h
  ·simp at h; omega
  ·cases h
theorem hexAt_ok {u : Bytes} {p c q : Nat} (h : hexAt u p = .ok c q) : c < 256 ∧ q = p + 2 ∧ q ≤ u.length := by
 unfold hexAt at h
 split at h
 ·cases h
 ·rename_i hi h1
  split at h
  ·cases h
  ·split at h
   ·cases h
   ·rename_i lo h2
    split at h
    ·simp only [FR.ok.injEq] at h
     obtain ⟨rfl, rfl⟩ := h
     obtain ⟨a, _, ha⟩ := Option.bind_eq_some_iff.1 h1
     obtain ⟨b, hb0, hb⟩ := Option.bind_eq_some_iff.1 h2
     have := hexV_lt ha
     have := hexV_lt hb
     obtain ⟨hp, _⟩ := at?_some hb0
     omega
    ·cases h
theorem formAt_ok {u : Bytes} {p c q : Nat} (h : formAt u p = .ok c q) : c < 256 ∧ p < q ∧ q ≤ u.length := by
 unfold formAt at h
 split at h
 ·cases h
 ·rename_i a ha
  obtain ⟨hp, hpa⟩ := at?_some ha
  have hlt := (u[p]).toNat_lt
  split at h
  ·unfold escAt at h
   split at h
   ·cases h
   ·rename_i d hd
    obtain ⟨hp2, hpd⟩ := at?_some hd
    have hlt2 := (u[p + 1]).toNat_lt
    (repeat' split at h) <;> first | (simp only [FR.ok.injEq] at h; omega) | (cases h; done) | skip
    have := hexAt_ok h
    omega
  ·split at h
   ·simp only [FR.ok.injEq] at h
    omega
   ·cases h
theorem hexAt_bad {u : Bytes} {p q : Nat} (h : hexAt u p = .bad q) : q ≤ p + 1 ∧ p ≤ q ∧ (p ≤ u.length → q ≤ u.length) := by
 unfold hexAt at h
 split at h
 ·simp only [FR.bad.injEq] at h
  omega
 ·rename_i hi h1
  obtain ⟨a, ha0, _⟩ := Option.bind_eq_some_iff.1 h1
  obtain ⟨hp, _⟩ := at?_some ha0
  split at h
  ·simp only [FR.bad.injEq] at h
   omega
  ·split at h
   ·simp only [FR.bad.injEq] at h
    omega
   ·split at h
    ·cases h
    ·simp only [FR.bad.injEq] at h
     omega
theorem formAt_bad {u : Bytes} {p q : Nat} (h : formAt u p = .bad q) (hp : p ≤ u.length) : p ≤ q ∧ q ≤ u.length := by
 unfold formAt at h
 split at h
 ·simp only [FR.bad.injEq] at h
  omega
 ·rename_i a ha
  obtain ⟨hp, hpa⟩ := at?_some ha
  split at h
  ·unfold escAt at h
   split at h
   ·simp only [FR.bad.injEq] at h
    omega
   ·rename_i d hd
    obtain ⟨hp2, _⟩ := at?_some hd
    (repeat' split at h) <;> first | (cases h; done) | (simp only [FR.bad.injEq] at h; omega) | skip
    have := hexAt_bad h
    omega
  ·split at h
   ·cases h
   ·simp only [FR.bad.injEq] at h
    omega
inductive QR where
 | ok (l : Bytes) (p : Nat)
 | bad (e : Int) (p : Nat)
def scanQ (u : Bytes) (most : Int) : Nat → Nat → Bytes → QR
 | 0, p, _ => .bad 6 p
 | n + 1, p, acc => if at? u p = some 34 then .ok acc (p + 1) else if (acc.length : Int) = most then .bad 3 p else match formAt u p with
  | .ok c q => scanQ u most n q (acc ++ [UInt8.ofNat c])
  | .bad q => .bad 6 q
def quotedQ (u : Bytes) (most : Int) : QR := if at? u 0 = some 34 then scanQ u most (u.length + 1) 1 [] else .bad 6 0
def hx (v : Nat) : UInt8 := UInt8.ofNat (if v < 10 then 48 + v else 87 + v)
def signB (c : Nat) : Bytes := if c = 34 then [92, 34] else if c = 92 then [92, 92] else if c = 10 then [92, 110] else if c = 13 then [92, 114] else if c = 9 then [92, 116] else if plainB c = true then [UInt8.ofNat c] else [92, 120, hx (c / 16), hx (c % 16)]
def hexW (w : Bytes) : FR := match w with
 | [] => .bad 2
 | x :: w => match hexV x.toNat with
  | none => .bad 2
  | some hi => if mayB hi = false then .bad 2 else match w with
   | [] => .bad 3
   | y :: _ => match hexV y.toNat with
    | none => .bad 3
    | some lo => if byD (hi * 16 + lo) = true then .ok (hi * 16 + lo) 4 else .bad 3
def escW (w : Bytes) : FR := match w with
 | [] => .bad 1
 | d :: w => if d.toNat = 34 ∨ d.toNat = 92 then .ok d.toNat 2 else if d.toNat = 110 then .ok 10 2 else if d.toNat = 114 then .ok 13 2 else if d.toNat = 116 then .ok 9 2 else if d.toNat = 120 then hexW w else .bad 1
def formW (w : Bytes) : FR := match w with
 | [] => .bad 0
 | a :: w => if a.toNat = 92 then escW w else if plainB a.toNat = true ∧ a.toNat ≠ 34 then .ok a.toNat 1 else .bad 0
def shiftF (p : Nat) : FR → FR
 | .ok c k => .ok c (p + k)
 | .bad k => .bad (p + k)
theorem at?_drop (u : Bytes) (p i : Nat) : at? u (p + i) = (((u.drop p)[i]?).map UInt8.toNat) := by
 unfold at?
 rw [List.getElem?_drop]
theorem formAt_W (u : Bytes) (p : Nat) : formAt u p = shiftF p (formW (u.drop p)) := by
 have h0 := at?_drop u p 0
 have h1 := at?_drop u p 1
 have h2 := at?_drop u p 2
 have h3 := at?_drop u p 3
 rw [Nat.add_zero] at h0
 unfold formAt formW
 cases hw : u.drop p with
 | nil =>
  rw [hw] at h0
  rw [h0]
  rfl
 | cons a w =>
  rw [hw] at h0 h1 h2 h3
  rw [h0]
  simp only [List.getElem?_cons_zero, Option.map_some]
  by_cases ha : a.toNat = 92
  ·rw [if_pos ha, if_pos ha]
   unfold escAt escW
   rw [h1]
   cases w with
   | nil => rfl
   | cons b w =>
    simp only [List.getElem?_cons_succ, List.getElem?_cons_zero, Option.map_some]
    by_cases c1 : b.toNat = 34 ∨ b.toNat = 92
    ·rw [if_pos c1, if_pos c1]; rfl
    rw [if_neg c1, if_neg c1]
    by_cases c2 : b.toNat = 110
    ·rw [if_pos c2, if_pos c2]; rfl
    rw [if_neg c2, if_neg c2]
    by_cases c3 : b.toNat = 114
    ·rw [if_pos c3, if_pos c3]; rfl
    rw [if_neg c3, if_neg c3]
    by_cases c4 : b.toNat = 116
    ·rw [if_pos c4, if_pos c4]; rfl
    rw [if_neg c4, if_neg c4]
    by_cases c5 : b.toNat = 120
    ·rw [if_pos c5, if_pos c5]
     unfold hexAt hexW
     rw [show p + 1 + 1 = p + 2 from rfl, h2, show p + 2 + 1 = p + 3 from rfl, h3]
     cases w with
     | nil => rfl
     | cons x w =>
      simp only [List.getElem?_cons_succ, List.getElem?_cons_zero, Option.map_some, Option.bind_some]
      cases hexV x.toNat with
      | none => rfl
      | some hi =>
       simp only
       by_cases hm : mayB hi = false
       ·rw [if_pos hm, if_pos hm]; rfl
       rw [if_neg hm, if_neg hm]
       cases w with
       | nil => rfl
       | cons y w =>
        simp only [List.getElem?_cons_zero, Option.map_some, Option.bind_some]
        cases hexV y.toNat with
        | none => rfl
        | some lo =>
         simp only
         by_cases hb : byD (hi * 16 + lo) = true
         ·rw [if_pos hb, if_pos hb]; rfl
         ·rw [if_neg hb, if_neg hb]; rfl
    ·rw [if_neg c5, if_neg c5]; rfl
  ·rw [if_neg ha, if_neg ha]
   by_cases hp : plainB a.toNat = true ∧ a.toNat ≠ 34
   ·rw [if_pos hp, if_pos hp]; rfl
   ·rw [if_neg hp, if_neg hp]; rfl
theorem hexV_hx : ∀ v : Fin 16, hexV (hx v.val).toNat = some v.val := by decide
theorem hx_of {x : UInt8} {v : Nat} (h : hexV x.toNat = some v) : x = hx v := by
 have hv := hexV_lt h
 unfold hexV at h
 apply UInt8.toNat_inj.1
 unfold hx
 rw [UInt8.toNat_ofNat']
 split at h
 ·simp at h
  rw [if_pos (by omega), Nat.mod_eq_of_lt (by omega)]
  omega
 ·split at h
  ·simp at h
   rw [if_neg (by omega), Nat.mod_eq_of_lt (by omega)]
   omega
  ·cases h
theorem mayB_of {hi lo : Nat} (hh : hi < 16) (hl : lo < 16) (hb : byD (hi * 16 + lo) = true) : mayB hi = true := by
 have h : ∀ a b : Fin 16, byD (a.val * 16 + b.val) = true → mayB a.val = true := by decide
 exact h ⟨hi, hh⟩ ⟨lo, hl⟩ hb
inductive Cls (c : Nat) : Prop where
 | esc (e : UInt8) (h : signB c = [92, e]) (he : (c = 34 ∧ e = 34) ∨ (c = 92 ∧ e = 92) ∨ (c = 10 ∧ e = 110) ∨ (c = 13 ∧ e = 114) ∨ (c = 9 ∧ e = 116))
 | plain (h : signB c = [UInt8.ofNat c]) (hp : plainB c = true) (h1 : c ≠ 34) (h2 : c ≠ 92)
 | dig (h : signB c = [92, 120, hx (c / 16), hx (c % 16)]) (hb : byD c = true)
theorem cls (c : Nat) : Cls c := by
 by_cases c1 : c = 34
 ·exact .esc 34 (by unfold signB; rw [if_pos c1]) (.inl ⟨c1, rfl⟩)
 by_cases c2 : c = 92
 ·exact .esc 92 (by unfold signB; rw [if_neg c1, if_pos c2]) (.inr (.inl ⟨c2, rfl⟩))
 by_cases c3 : c = 10
 ·exact .esc 110 (by unfold signB; rw [if_neg c1, if_neg c2, if_pos c3]) (.inr (.inr (.inl ⟨c3, rfl⟩)))
 by_cases c4 : c = 13
 ·exact .esc 114 (by unfold signB; rw [if_neg c1, if_neg c2, if_neg c3, if_pos c4]) (.inr (.inr (.inr (.inl ⟨c4, rfl⟩))))
 by_cases c5 : c = 9
 ·exact .esc 116 (by unfold signB; rw [if_neg c1, if_neg c2, if_neg c3, if_neg c4, if_pos c5]) (.inr (.inr (.inr (.inr ⟨c5, rfl⟩))))
 by_cases c6 : plainB c = true
 ·exact .plain (by unfold signB; rw [if_neg c1, if_neg c2, if_neg c3, if_neg c4, if_neg c5, if_pos c6]) c6 c1 c2
 ·refine .dig (by unfold signB; rw [if_neg c1, if_neg c2, if_neg c3, if_neg c4, if_neg c5, if_neg c6]) ?_
  unfold byD shortB
  rw [if_neg (by omega), if_neg c3, if_neg c4, if_neg c5]
  simpa using c6
theorem ofNat_toNat {c : Nat} (h : c < 256) : (UInt8.ofNat c).toNat = c := by
 rw [UInt8.toNat_ofNat', Nat.mod_eq_of_lt (by omega)]
theorem formW_sign {c : Nat} (hc : c < 256) (r : Bytes) : formW (signB c ++ r) = .ok c (signB c).length := by
 rcases cls c with ⟨e, h, he⟩ | ⟨h, hp, h1, h2⟩ | ⟨h, hb⟩
 ·rw [h]
  rcases he with ⟨rfl, rfl⟩ | ⟨rfl, rfl⟩ | ⟨rfl, rfl⟩ | ⟨rfl, rfl⟩ | ⟨rfl, rfl⟩ <;> rfl
 ·rw [h]
  show (if (UInt8.ofNat c).toNat = 92 then _ else _) = _
  rw [ofNat_toNat hc, if_neg h2, if_pos ⟨hp, h1⟩]
  rfl
 ·rw [h]
  show hexW (hx (c / 16) :: hx (c % 16) :: r) = _
  have hh : c / 16 < 16 := by omega
  have hl : c % 16 < 16 := by omega
  have e1 := hexV_hx ⟨c / 16, hh⟩
  have e2 := hexV_hx ⟨c % 16, hl⟩
  have e3 : c / 16 * 16 + c % 16 = c := by omega
  simp only at e1 e2
  unfold hexW
  simp only [e1, e2, e3, hb, if_true]
  rw [if_neg (by rw [mayB_of hh hl (by rw [e3]; exact hb)]; simp)]
  rfl
theorem formW_ok {w : Bytes} {c k : Nat} (h : formW w = .ok c k) : c < 256 ∧ k = (signB c).length ∧ ∃ r, w = signB c ++ r := by
 unfold formW at h
 cases w with
 | nil => cases h
 | cons a w =>
  simp only at h
  have ha := a.toNat_lt
  by_cases h92 : a.toNat = 92
  ·rw [if_pos h92] at h
   have ea : a = 92 := UInt8.toNat_inj.1 h92
   subst ea
   unfold escW at h
   cases w with
   | nil => cases h
   | cons d w =>
    simp only at h
    by_cases c1 : d.toNat = 34 ∨ d.toNat = 92
    ·rw [if_pos c1] at h
     simp only [FR.ok.injEq] at h
     obtain ⟨rfl, rfl⟩ := h
     rcases c1 with c1 | c1
     ·have : d = 34 := UInt8.toNat_inj.1 c1
      subst this
      exact ⟨by decide, rfl, w, rfl⟩
     ·have : d = 92 := UInt8.toNat_inj.1 c1
      subst this
      exact ⟨by decide, rfl, w, rfl⟩
    rw [if_neg c1] at h
    by_cases c2 : d.toNat = 110
    ·rw [if_pos c2] at h
     have : d = 110 := UInt8.toNat_inj.1 c2
     subst this
     cases h
     exact ⟨by decide, rfl, w, rfl⟩
    rw [if_neg c2] at h
    by_cases c3 : d.toNat = 114
    ·rw [if_pos c3] at h
     have : d = 114 := UInt8.toNat_inj.1 c3
     subst this
     cases h
     exact ⟨by decide, rfl, w, rfl⟩
    rw [if_neg c3] at h
    by_cases c4 : d.toNat = 116
    ·rw [if_pos c4] at h
     have : d = 116 := UInt8.toNat_inj.1 c4
     subst this
     cases h
     exact ⟨by decide, rfl, w, rfl⟩
    rw [if_neg c4] at h
    by_cases c5 : d.toNat = 120
    ·rw [if_pos c5] at h
     have : d = 120 := UInt8.toNat_inj.1 c5
     subst this
     unfold hexW at h
     cases w with
     | nil => cases h
     | cons x w =>
      simp only at h
      cases hv : hexV x.toNat with
      | none => rw [hv] at h; cases h
      | some hi =>
       rw [hv] at h
       simp only at h
       split at h
       ·cases h
       ·cases w with
        | nil => cases h
        | cons y w =>
         simp only at h
         cases hv2 : hexV y.toNat with
         | none => rw [hv2] at h; cases h
         | some lo =>
          rw [hv2] at h
          simp only at h
          split at h
          ·rename_i hb
           simp only [FR.ok.injEq] at h
           obtain ⟨rfl, rfl⟩ := h
           have l1 := (hexV_lt hv).1
           have l2 := (hexV_lt hv2).1
           have s : signB (hi * 16 + lo) = [92, 120, hx hi, hx lo] := by
            rcases cls (hi * 16 + lo) with ⟨e, hs, he⟩ | ⟨hs, hp, h1, h2⟩ | ⟨hs, hb2⟩
            ·rcases he with ⟨he, _⟩ | ⟨he, _⟩ | ⟨he, _⟩ | ⟨he, _⟩ | ⟨he, _⟩ <;> (rw [he] at hb; exact absurd hb (by decide))
            ·unfold byD at hb
             rw [hp] at hb
             simp at hb
            ·rw [hs, show (hi * 16 + lo) / 16 = hi by omega, show (hi * 16 + lo) % 16 = lo by omega]
           rw [s, hx_of hv, hx_of hv2]
           exact ⟨by omega, rfl, w, rfl⟩
          ·cases h
    ·rw [if_neg c5] at h
     cases h
  ·rw [if_neg h92] at h
   split at h
   ·rename_i hp
    simp only [FR.ok.injEq] at h
    obtain ⟨rfl, rfl⟩ := h
    have s : signB a.toNat = [a] := by
     rcases cls a.toNat with ⟨e, hs, he⟩ | ⟨hs, _, _, _⟩ | ⟨hs, hb2⟩
     ·rcases he with ⟨he, _⟩ | ⟨he, _⟩ | ⟨he, _⟩ | ⟨he, _⟩ | ⟨he, _⟩
      ·exact absurd he hp.2
      ·exact absurd he h92
      all_goals (have := hp.1; rw [he] at this; exact absurd this (by decide))
     ·rw [hs]
      simp
     ·unfold byD at hb2
      rw [hp.1] at hb2
      simp at hb2
    rw [s]
    exact ⟨ha, rfl, w, rfl⟩
   ·cases h
abbrev digitsB : Bytes := [48, 49, 50, 51, 52, 53, 54, 55, 56, 57, 97, 98, 99, 100, 101, 102]
def ibV (k : Nat) : Int := match hexV k with
 | some v => (v : Int)
 | none => -1
noncomputable def ibArgs (k : Nat) : List AV := [strA digitsB, .int .u8 (k : Int)]
noncomputable def ibGo (k : Nat) : Bool := came (.ret (.int .i64 (ibV k))) (callA Tryd.prog (Memo.spec Tryd.prog 5000 []) 5000 30 71 (ibArgs k) ⟨0, [], .e⟩)
set_option maxRecDepth 100000 in
theorem ib_all : (List.range 256).all ibGo = true := by kernel_rfl
theorem ib_one {k : Nat} (hk : k < 256) : ibGo k = true := List.all_eq_true.1 ib_all k (List.mem_range.2 hk)
noncomputable def ibF : FnT := fun args h => match args with
 | [d, .int .u8 z] => @ite _ (d = strA digitsB ∧ 0 ≤ z ∧ z < 256) (Classical.propDecidable _) (some (.ret (.int .i64 (ibV z.toNat)), h)) none
 | _ => none
theorem ibF_holds : Holds Tryd.prog 71 ibF := by
 intro args h r h' e
 unfold ibF at e
 split at e
 ·rename_i d z
  split at e
  ·rename_i hk
   obtain ⟨rfl, h1, h2⟩ := hk
   obtain ⟨k, rfl⟩ := Int.eq_ofNat_of_zero_le h1
   simp only [Option.some.injEq, Prod.mk.injEq] at e
   obtain ⟨rfl, rfl⟩ := e
   exact Memo.says (by kernel_rfl) Memo.ok_nil rfl rfl (ib_one (k := k) (by omega)) h
  ·cases e
 ·cases e
theorem ibF_eq {k : Nat} (hk : k < 256) (h : AHeap) : ibF [strA digitsB, .int .u8 (k : Int)] h = some (.ret (.int .i64 (ibV k)), h) := by
 have : ibF [strA digitsB, .int .u8 (k : Int)] h = @ite _ (strA digitsB = strA digitsB ∧ 0 ≤ (k : Int) ∧ (k : Int) < 256) (Classical.propDecidable _) (some (.ret (.int .i64 (ibV (k : Int).toNat)), h)) none := rfl
 rw [this, if_pos ⟨rfl, by omega, by omega⟩]
 rfl
end Go.Proofs.YtjopejiooipmkaaDoor
namespace Go.Proofs.YtjopejiooipmkaaDoor.Abs
noncomputable section
open Go.RowKit
section
variable {P : Program} {w0 : Base} {m0 : Map} {N : Nat} {l l' : Fr} {ds : DefT} {h : AHeap} {Q : Exit → Act → World → Prop} {K : Act → World → Prop} {Y : OutT} {ops : Array Oper} {i : Nat}
theorem WL.a (d : Option Nat) (v : AV) (h' : AHeap) (hk : WL P w0 m0 N ops (i + 1) Q (l.put d v) ds h') (h1 : dstN N ops i = some d := by kernel_rfl) (h2 : wantAt ops l.get i = some true := by kernel_rfl) (h3 : opAt P l.eval ops i h = some (.val v, h') := by kernel_rfl) : WL P w0 m0 N ops i Q l ds h := WL.val h1 h2 h3 hk
theorem WL.b (d : Option Nat) (v : AV) (h' : AHeap) (x : Y = some (.val v, h')) (hk : WL P w0 m0 N ops (i + 1) Q (l.put d v) ds h') (h1 : dstN N ops i = some d := by kernel_rfl) (h2 : wantAt ops l.get i = some true := by kernel_rfl) (h3 : opAt P l.eval ops i h = Y := by kernel_rfl) : WL P w0 m0 N ops i Q l ds h := WL.val h1 h2 (h3.trans x) hk
theorem WL.e (h' : AHeap) (x : Y = some (.skip, h')) (hk : WL P w0 m0 N ops (i + 1) Q l ds h') (h1 : dstN N ops i = some none := by kernel_rfl) (h2 : wantAt ops l.get i = some true := by kernel_rfl) (h3 : opAt P l.eval ops i h = Y := by kernel_rfl) : WL P w0 m0 N ops i Q l ds h := WL.eff h1 h2 (h3.trans x) hk
theorem WL.o (d : Option Nat) (hk : WL P w0 m0 N ops (i + 1) Q (l.put d (.tup [])) ds h) (h1 : dstN N ops i = some d := by kernel_rfl) (h2 : wantAt ops l.get i = some false := by kernel_rfl) : WL P w0 m0 N ops i Q l ds h := WL.not h1 h2 hk
theorem WL.c {call : CallF} (hc : CallOK P w0 call) (d : Option Nat) {f : FuncId} {args : List AV} {v : AV} {h1 h' : AHeap} (hcall : call f args h1 = some (.ret v, h')) (hk : WL P w0 m0 N ops (i + 1) Q (l.put d v) ds h') (h2 : dstN N ops i = some d := by kernel_rfl) (h3 : wantAt ops l.get i = some true := by kernel_rfl) (h4 : opAt P l.eval ops i h = some (.call f args, h1) := by kernel_rfl) : WL P w0 m0 N ops i Q l ds h := WL.call hc h2 h3 h4 hcall hk
theorem WL.n (hk : Go w0 m0 N (Q .normal) l ds h) (hi : Nat.beq ops.size i = true := by kernel_rfl) : WL P w0 m0 N ops i Q l ds h := WL.nil hi hk
theorem WD.a {call : CallF} {plan : List Nat} {rs : List Rec} (k : Nat) (d : Option Nat) (v : AV) (h' : AHeap) (hk : WD P w0 m0 N call ops plan (recsD k (recAt P ops i l h) rs) K (l.put d v) ds h') (h1 : dstN N ops i = some d := by kernel_rfl) (h2 : wantAt ops l.get i = some true := by kernel_rfl) (h3 : opAt P l.eval ops i h = some (.val v, h') := by kernel_rfl)
  (h4 : kindD P ops i = k := by kernel_rfl) (h5 : Nat.beq k 2 = false := by kernel_rfl) (h6 : Nat.beq k 9 = false := by kernel_rfl) : WD P w0 m0 N call ops (i :: plan) rs K l ds h :=
 WD.val h1 h2 h3 h4 (fun e => by subst e; cases h5) (fun e => by subst e; cases h6) hk
theorem WD.b {call : CallF} {plan : List Nat} {rs : List Rec} (k : Nat) (d : Option Nat) (v : AV) (h' : AHeap) (x : Y = some (.val v, h')) (hk : WD P w0 m0 N call ops plan (recsD k (recAt P ops i l h) rs) K (l.put d v) ds h') (h1 : dstN N ops i = some d := by kernel_rfl) (h2 : wantAt ops l.get i = some true := by kernel_rfl) (h3 : opAt P l.eval ops i h = Y := by kernel_rfl)
  (h4 : kindD P ops i = k := by kernel_rfl) (h5 : Nat.beq k 2 = false := by kernel_rfl) (h6 : Nat.beq k 9 = false := by kernel_rfl) : WD P w0 m0 N call ops (i :: plan) rs K l ds h :=
 WD.val h1 h2 (h3.trans x) h4 (fun e => by subst e; cases h5) (fun e => by subst e; cases h6) hk
theorem W.r {c : Code} (hk : WL P w0 m0 N (Code.ops c) 0 Q l ds h) (hc : Code.kind c = 7 := by kernel_rfl) : W P w0 m0 N c Q l ds h := W.region hc hk
theorem W.s {c : Code} (hk : ∀ K : Exit → Act → World → Prop, (∀ {ds : DefT} {l : Fr} {h : AHeap}, W P w0 m0 N (Code.p2 c) Q l ds h → Go w0 m0 N (K .normal) l ds h) →
  (∀ {id : Nat} {ds : DefT} {l : Fr} {h : AHeap}, Go w0 m0 N (Q (.exit id)) l ds h → Go w0 m0 N (K (.exit id)) l ds h) → (∀ {ds : DefT} {l : Fr} {h : AHeap}, Go w0 m0 N (Q .ret) l ds h → Go w0 m0 N (K .ret) l ds h) →
  (∀ {ds : DefT} {l : Fr} {v : AV} {h : AHeap}, Pan w0 m0 N Q l ds v h → Pan w0 m0 N K l ds v h) → W P w0 m0 N (Code.p1 c) K l ds h) (hc : Code.kind c = 1 := by kernel_rfl) : W P w0 m0 N c Q l ds h := W.seqK hc hk
theorem W.t {c : Code} (hk : W P w0 m0 N (Code.p1 c) Q l ds h) (hc : Code.kind c = 2 := by kernel_rfl) (hv : l.eval (Code.opd c) = some (.bool true) := by kernel_rfl) : W P w0 m0 N c Q l ds h := W.cond_true hc hv hk
theorem W.f {c : Code} (hk : W P w0 m0 N (Code.p2 c) Q l ds h) (hc : Code.kind c = 2 := by kernel_rfl) (hv : l.eval (Code.opd c) = some (.bool false) := by kernel_rfl) : W P w0 m0 N c Q l ds h := W.cond_false hc hv hk
end
theorem Fr.c {l l' : Fr} {t : Nat} {v : AV} (k : l.sub l') (h : l.get t = some v := by kernel_rfl) : l.sub ((t, v) :: l') := Fr.sub_cons h k
theorem Fr.n {l : Fr} : l.sub [] := Fr.sub_nil l
end
end Go.Proofs.YtjopejiooipmkaaDoor.Abs
namespace Go.Proofs.YtjopejiooipmkaaDoor
open Go.RowKit Abs
set_option maxHeartbeats 4000000
set_option maxRecDepth 20000
noncomputable abbrev Pg : Program := Tryd.prog
theorem oS {α : Type} {x : Option α} {k : α → R} {r : ARes × AHeap} (h : obind x k = some r) : ∃ a, x = some a ∧ k a = some r := obind_some h
theorem lS {α : Type} {v : α} {k : α → R} {r : ARes × AHeap} (h : lett v k = some r) : ∃ x, x = v ∧ k x = some r := lett_some h
noncomputable def pattern_guard_1_d (_ : CallF) (_ : Nat) (t0 : AV) (x : AV) (h : AHeap) : R :=
 outK (opBin Pg h .neq 20 true (some x) (some AV.nifc)) fun v6 h_2 =>
 obind (avBool v6) fun t6 =>
 lett (fun  (h_6 : AHeap) =>
  some (.ret (.tup []), h_6)) fun k5 =>
 ifB t6
 (
  outK (opAssert Pg h_2 91 true (some x)) fun v9 h_8 =>
  obind (extT 0 v9) fun v10 =>
  obind (avAgg v10) fun t10 =>
  obind (extT 1 v9) fun v11 =>
  obind (avBool v11) fun t11 =>
  lett (newH h_8 91 [.int .i64 0, .int .i64 0]) fun h_14 =>
  obind (stRow h_14 2 t10 (newP h_8)) fun h_16 =>
  lett (!t11) fun (t13 : Bool) =>
  lett (fun  (h_22 : AHeap) =>
   obind (ldRow h_22 2 (AV.ptr (AHeap.next h_8) 0)) fun t16 =>
   obind (stRow h_22 2 t16 t0) fun h_24 =>
   k5 h_24) fun k21 =>
  ifB t13
  (
   none)
  (
   k21 h_16))
 (
  k5 h_2)
theorem pattern_guard_1_d_ok {call : CallF} (_ : SaysAll Pg call) {n : Nat} {t0 : AV} {x : AV} {u : Option AV} (hu : u.getD .nifc = x) {h : AHeap} {rR : ARes} {hR : AHeap} (z : pattern_guard_1_d call n t0 x h = some (rR, hR)) : DSays Pg 57 [t0] u h none hR := by
 unfold pattern_guard_1_d at z
 subst hu
 refine dsays_of (fn := Tryd.f57) (u' := none) (h1 := h) (l := [(1, (u.getD .nifc)), (4, (u.getD .nifc)), (0, t0)]) Tryd.func57 (c := codeOf Tryd.f57) (by kernel_rfl) (by kernel_rfl) (by kernel_rfl) (by kernel_rfl) (by kernel_rfl) (by kernel_rfl) (by kernel_rfl) (fun w0 m0 => ?_)
 refine W.weaken (l' := [(0, t0), (1, (u.getD .nifc))]) (Fr.c (Fr.c Fr.n)) ?_
 refine W.s (fun _ n1 _ _ _ => ?_)
 refine W.r ?_
 refine WL.a (some 5) (u.getD .nifc) h ?_
 replace z := outK_some z; obtain ⟨v6, h_2, e3, z⟩ := z
 replace z := oS z; obtain ⟨t6, c4, z⟩ := z
 have c4 := avBool_some c4
 subst c4
 refine WL.b (some 6) (.bool t6) h_2 e3 ?_
 refine WL.n ?_
 refine Go.weaken (l' := [(0, t0), (1, (u.getD .nifc)), (6, .bool t6)]) (Fr.c (Fr.c (Fr.c Fr.n))) ?_
 refine n1 ?_
 replace z := lS z; obtain ⟨k5, e5, z⟩ := z
 have J5 : ∀  (h_6 : AHeap), k5 h_6 = some (rR, hR) → Go w0 m0 (Func.ntmps Tryd.f57) (DFin w0 m0 hR .normal) [] [] h_6 := by
  intro  h_6 z
  rw [e5] at z
  obtain ⟨z, hF2⟩ := ret_inj z; subst hF2
  exact Go.dleave
 cases t6 with
 | true =>
  replace z := ifB_t z
  refine W.t ?_
  refine W.s (fun _ n7 _ _ _ => ?_)
  refine W.r ?_
  refine WL.a (some 8) (u.getD .nifc) h_2 ?_
  replace z := outK_some z; obtain ⟨v9, h_8, e9, z⟩ := z
  refine WL.b (some 9) v9 h_8 e9 ?_
  refine WL.a (some 7) v9 h_8 ?_
  replace z := oS z; obtain ⟨v10, e10, z⟩ := z
  replace z := oS z; obtain ⟨t10, c11, z⟩ := z
  have c11 := avAgg_some c11
  subst c11
  refine WL.b (some 10) (.agg t10) h_8 (extract_tup (h := h_8) e10) ?_
  replace z := oS z; obtain ⟨v11, e12, z⟩ := z
  replace z := oS z; obtain ⟨t11, c13, z⟩ := z
  have c13 := avBool_some c13
  subst c13
  refine WL.b (some 11) (.bool t11) h_8 (extract_tup (h := h_8) e12) ?_
  replace z := lS z; obtain ⟨h_14, e15, z⟩ := z
  refine WL.val (d := (some 2)) (v := (newP h_8)) (h' := h_14) (by kernel_rfl) (by kernel_rfl) (val_ofH e15 (by kernel_rfl)) ?_
  replace z := oS z; obtain ⟨h_16, e17, z⟩ := z
  refine WL.e h_16 (store_row (P := Pg) (h := h_14) (t := 91) (v := (.agg t10)) (by kernel_rfl) (by kernel_rfl) e17) ?_
  refine WL.a (some 3) (.bool t11) h_16 ?_
  refine WL.n ?_
  refine Go.weaken (l' := [(0, t0), (1, (u.getD .nifc)), (2, newP h_8), (3, .bool t11)]) (Fr.c (Fr.c (Fr.c (Fr.c Fr.n)))) ?_
  refine n7 ?_
  refine W.s (fun K18 n18 _ _ _ => ?_)
  refine W.s (fun _ n19 _ _ _ => ?_)
  refine W.r ?_
  refine WL.a (some 12) (.bool t11) h_16 ?_
  replace z := lS z; obtain ⟨t13, e20, z⟩ := z
  refine WL.val (d := (some 13)) (v := .bool t13) (h' := h_16) (by kernel_rfl) (by kernel_rfl) (val_of AV.bool e20 (by kernel_rfl)) ?_
  refine WL.n ?_
  refine Go.weaken (l' := [(0, t0), (1, (u.getD .nifc)), (2, newP h_8), (13, .bool t13)]) (Fr.c (Fr.c (Fr.c (Fr.c Fr.n)))) ?_
  refine n19 ?_
  replace z := lS z; obtain ⟨k21, e21, z⟩ := z
  have J21 : ∀  (h_22 : AHeap), k21 h_22 = some (rR, hR) → Go w0 m0 (Func.ntmps Tryd.f57) (K18 .normal) [(0, t0), (2, newP h_8)] [] h_22 := by
   intro  h_22 z
   rw [e21] at z
   refine n18 ?_
   refine W.r ?_
   refine WL.a (some 15) (AV.ptr (AHeap.next h_8) 0) h_22 ?_
   replace z := oS z; obtain ⟨t16, e23, z⟩ := z
   refine WL.b (some 16) (.agg t16) h_22 (load_row (P := Pg) (h := h_22) (t := 27) (by kernel_rfl) (by kernel_rfl) e23) ?_
   replace z := oS z; obtain ⟨h_24, e25, z⟩ := z
   refine WL.e h_24 (store_row (P := Pg) (h := h_22) (t := 27) (v := (.agg t16)) (by kernel_rfl) (by kernel_rfl) e25) ?_
   refine WL.n ?_
   refine Go.weaken (l' := []) Fr.n ?_
   exact Go.weaken Fr.n (J5 _ z)
  cases t13 with
  | true =>
   replace z := ifB_t z
   refine W.t ?_
   refine W.r ?_
   refine WL.a (some 14) (u.getD .nifc) h_16 ?_
   cases z
  | false =>
   replace z := ifB_f z
   refine W.f ?_
   refine W.skip (by kernel_rfl) ?_
   exact Go.weaken (Fr.c (Fr.c Fr.n)) (J21 _ z)
 | false =>
  replace z := ifB_f z
  refine W.f ?_
  refine W.skip (by kernel_rfl) ?_
  exact Go.weaken Fr.n (J5 _ z)
noncomputable def pattern_guard (call : CallF) (n : Nat) (t0 : AV) (h : AHeap) : R :=
 lett (newH h 27 [.int .i64 0, .int .i64 0]) fun h_2 =>
 callKd (dynC Pg call t0 [] h_2) (fun pv h_14 =>
  callN (pattern_guard_1_d call n (newP h) pv h_14) fun _ h_15 =>
  obind (ldRow h_15 2 (newP h)) fun w2_18 =>
  some (.ret (.agg w2_18), h_15)) fun _ h_6 =>
 obind (stRow h_6 2 ([.int .i64 0, .int .i64 0] : List AV) (newP h)) fun h_9 =>
 callN (pattern_guard_1_d call n (newP h) .nifc h_9) fun _ h_11 =>
 obind (ldRow h_11 2 (newP h)) fun w2 =>
 some (.ret (.agg w2), h_11)
theorem pattern_guard_ok {call : CallF} (hc : SaysAll Pg call) {n : Nat} {t0 : AV} {h : AHeap} {rR : ARes} {hR : AHeap} (z : pattern_guard call n t0 h = some (rR, hR)) : Says Pg 52 [t0] h rR hR := by
 unfold pattern_guard at z
 refine says_of (fn := Tryd.f52) Tryd.func52 (c := codeOf Tryd.f52) (by kernel_rfl) (by kernel_rfl) (fun w0 m0 => ?_)
 refine W.weaken (l' := [(0, t0)]) (Fr.c Fr.n) ?_
 refine W.s (fun _ n1 _ _ _ => ?_)
 refine W.r ?_
 replace z := lS z; obtain ⟨h_2, e3, z⟩ := z
 refine WL.val (d := (some 2)) (v := (newP h)) (h' := h_2) (by kernel_rfl) (by kernel_rfl) (val_ofH e3 (by kernel_rfl)) ?_
 refine WL.n ?_
 refine Go.weaken (l' := [(0, t0), (2, newP h)]) (Fr.c (Fr.c Fr.n)) ?_
 refine n1 ?_
 refine W.s (fun _ n4 _ _ _ => ?_)
 refine W.r ?_
 refine WL.a (some 3) (AV.fn 57 [] [(newP h)]) h_2 ?_
 refine WL.dfr (d := none) (f := 57) (args := []) (cap := [(newP h)]) (h' := h_2) (by kernel_rfl) (by kernel_rfl) (by kernel_rfl) ?_
 refine WL.n ?_
 refine Go.weaken (l' := [(0, t0), (2, newP h)]) (Fr.c (Fr.c Fr.n)) ?_
 refine n4 ?_
 refine W.s (fun _ n5 _ _ p5 => ?_)
 refine W.r ?_
 refine WL.a (some 4) t0 h_2 ?_
 replace z := callKd_some z; rcases z with ⟨r5, h_6, e7, z⟩ | ⟨pv, h_14, e7, z⟩
 ·rcases dynC_some e7 with ⟨d19g, d19as, d19h, d191, d192⟩ | ⟨d19v, d19h, d191, d192⟩
  rotate_left
  ·cases d192
   refine WL.val (d := (some 5)) (by kernel_rfl) (by kernel_rfl) (Eq.trans (by kernel_rfl) d191) ?_
   refine WL.n ?_
   refine Go.weaken (l' := [(2, newP h)]) (Fr.c Fr.n) ?_
   refine n5 ?_
   refine W.s (fun K8 n8 e8 q8 p8 => ?_)
   refine W.r ?_
   refine WL.a (some 6) (.agg ([.int .i64 0, .int .i64 0] : List AV)) h_6 ?_
   replace z := oS z; obtain ⟨h_9, e10, z⟩ := z
   refine WL.e h_9 (store_row (P := Pg) (h := h_6) (t := 27) (v := (.agg ([.int .i64 0, .int .i64 0] : List AV))) (by kernel_rfl) (by kernel_rfl) e10) ?_
   refine WL.n ?_
   refine Go.weaken (l' := [(2, newP h)]) (Fr.c Fr.n) ?_
   refine n8 ?_
   refine W.ret (by kernel_rfl) ?_
   replace z := callN_some z; obtain ⟨_, h_11, e12, z⟩ := z
   replace z := oS z; obtain ⟨w2, e13, z⟩ := z
   obtain ⟨z, hF2⟩ := ret_inj z; subst z; subst hF2
   exact Go.leaveD (by kernel_rfl) (pattern_guard_1_d_ok hc (u := none) rfl e12) (ends_of (rs := [.cell 2 27]) (vs := [.agg w2]) (by kernel_rfl) (res_cell (by kernel_rfl) (load_row (P := Pg) (h := h_11) (t := 27) (by kernel_rfl) (by kernel_rfl) e13) res_nil) (by kernel_rfl))
  ·refine WL.call (hc.ok w0) (d := (some 5)) (by kernel_rfl) (by kernel_rfl) (Eq.trans (by kernel_rfl) d191) d192 ?_
   refine WL.n ?_
   refine Go.weaken (l' := [(2, newP h)]) (Fr.c Fr.n) ?_
   refine n5 ?_
   refine W.s (fun K8 n8 e8 q8 p8 => ?_)
   refine W.r ?_
   refine WL.a (some 6) (.agg ([.int .i64 0, .int .i64 0] : List AV)) h_6 ?_
   replace z := oS z; obtain ⟨h_9, e10, z⟩ := z
   refine WL.e h_9 (store_row (P := Pg) (h := h_6) (t := 27) (v := (.agg ([.int .i64 0, .int .i64 0] : List AV))) (by kernel_rfl) (by kernel_rfl) e10) ?_
   refine WL.n ?_
   refine Go.weaken (l' := [(2, newP h)]) (Fr.c Fr.n) ?_
   refine n8 ?_
   refine W.ret (by kernel_rfl) ?_
   replace z := callN_some z; obtain ⟨_, h_11, e12, z⟩ := z
   replace z := oS z; obtain ⟨w2, e13, z⟩ := z
   obtain ⟨z, hF2⟩ := ret_inj z; subst z; subst hF2
   exact Go.leaveD (by kernel_rfl) (pattern_guard_1_d_ok hc (u := none) rfl e12) (ends_of (rs := [.cell 2 27]) (vs := [.agg w2]) (by kernel_rfl) (res_cell (by kernel_rfl) (load_row (P := Pg) (h := h_11) (t := 27) (by kernel_rfl) (by kernel_rfl) e13) res_nil) (by kernel_rfl))
 ·replace z := callN_some z; obtain ⟨_, h_15, e16, z⟩ := z
  replace z := oS z; obtain ⟨w2_18, e17, z⟩ := z
  obtain ⟨z, hF2⟩ := ret_inj z; subst z; subst hF2
  rcases dynC_some e7 with ⟨d19g, d19as, d19h, d191, d192⟩ | ⟨d19v, d19h, d191, d192⟩
  ·exact WL.callPanic (hc.ok w0) (d := (some 5)) (by kernel_rfl) (by kernel_rfl) (Eq.trans (by kernel_rfl) d191) d192 (p5 (Pan.leaveD (by kernel_rfl) (pattern_guard_1_d_ok hc (u := (some pv)) rfl e16) (ends_of (rs := [.cell 2 27]) (vs := [.agg w2_18]) (by kernel_rfl) (res_cell (by kernel_rfl) (load_row (P := Pg) (h := h_15) (t := 27) (by kernel_rfl) (by kernel_rfl) e17) res_nil) (by kernel_rfl))))
  ·cases d192
noncomputable def pattern_guard_fn (call : CallF) (n : Nat) : FnT := fun args h => match args with
 | [x0] => pattern_guard call n x0 h
 | _ => none
set_option maxRecDepth 100000 in
theorem pattern_guard_fn_eq (call : CallF) (n : Nat) (t0 : AV) (h : AHeap) : pattern_guard_fn call n [t0] h = pattern_guard call n t0 h :=
 rfl
theorem pattern_guard_holds {call : CallF} (hc : SaysAll Pg call) (n : Nat) : Holds Pg 52 (pattern_guard_fn call n) := by
 intro args h r h2 e
 unfold pattern_guard_fn at e
 split at e
 ·exact pattern_guard_ok hc e
 ·cases e
noncomputable def pattern_Quoted (call : CallF) (_ : Nat) (t0 : Bytes) (t1 : Int) (h : AHeap) : R :=
 lett (newH h 3 [.int .i64 t1]) fun h_2 =>
 lett (newH h_2 9 [.str 0 0]) fun h_4 =>
 lett (newH h_4 27 [.int .i64 0, .int .i64 0]) fun h_6 =>
 outK (opBox h_6 87 (some (.agg ([strA t0, .int .i64 0] : List AV)))) fun v10 h_9 =>
 lett (newH h_9 85 [.nilp]) fun h_11 =>
 obind (stRow h_11 1 (AV.cells v10) (newP h_9)) fun h_13 =>
 callN (call 52 [(AV.fn 53 [] [(newP h_9), (newP h), (newP h_2)])] h_13) fun r12 h_16 =>
 obind (avAgg r12) fun t12 =>
 obind (stRow h_16 2 t12 (newP h_4)) fun h_19 =>
 obind (ldCell h_19 (AV.ptr (AHeap.next h_4) 0)) fun v14 =>
 obind (avInt .i64 v14) fun t14 =>
 lett ((t14 : Int) != 0) fun (t15 : Bool) =>
 ifB t15
 (
  obind (ldRow h_19 2 (newP h_4)) fun t16 =>
  obind (stRow h_19 1 [strA ([] : Bytes)] (newP h_2)) fun h_28 =>
  chk (reLoad Pg h_28 27 (newP h_4) (.agg t16) && true) <|
  obind (stRow h_28 2 t16 (newP h_4)) fun h_31 =>
  obind (ldCell h_31 (newP h_2)) fun w4 =>
  obind (ldRow h_31 2 (newP h_4)) fun w6 =>
  some (.ret (.tup [w4, .int .i64 0, .agg w6]), h_31))
 (
  obind (ldCell h_19 (newP h_2)) fun v17 =>
  obind (avStr v17) fun t17 =>
  obind (ldCell h_19 (newP h_9)) fun v18 =>
  obind (nilC v18) fun t19 =>
  obind (fldP 1 t19) fun t20 =>
  obind (ldCell h_19 t20) fun v21 =>
  obind (avInt .i64 v21) fun t21 =>
  obind (ldRow h_19 2 (newP h_4)) fun t22 =>
  obind (stRow h_19 1 [strA t17] (newP h_2)) fun h_44 =>
  chk (reLoad Pg h_44 27 (newP h_4) (.agg t22) && (reLoad Pg h_44 3 t20 (.int .i64 t21) && (reLoad Pg h_44 85 (newP h_9) v18 && (true && true)))) <|
  obind (stRow h_44 2 t22 (newP h_4)) fun h_47 =>
  obind (ldCell h_47 (newP h_2)) fun w4_50 =>
  obind (ldRow h_47 2 (newP h_4)) fun w6_52 =>
  some (.ret (.tup [w4_50, .int .i64 t21, .agg w6_52]), h_47))
theorem pattern_Quoted_ok {call : CallF} (hc : SaysAll Pg call) {n : Nat} {t0 : Bytes} {t1 : Int} {h : AHeap} {rR : ARes} {hR : AHeap} (z : pattern_Quoted call n t0 t1 h = some (rR, hR)) : Says Pg 46 [strA t0, .int .i64 t1] h rR hR := by
 unfold pattern_Quoted at z
 refine says_of (fn := Tryd.f46) Tryd.func46 (c := codeOf Tryd.f46) (by kernel_rfl) (by kernel_rfl) (fun w0 m0 => ?_)
 refine W.weaken (l' := [(0, strA t0), (1, .int .i64 t1)]) (Fr.c (Fr.c Fr.n)) ?_
 refine W.s (fun _ n1 _ _ _ => ?_)
 refine W.r ?_
 replace z := lS z; obtain ⟨h_2, e3, z⟩ := z
 refine WL.val (d := (some 3)) (v := (newP h)) (h' := h_2) (by kernel_rfl) (by kernel_rfl) (val_ofH e3 (by kernel_rfl)) ?_
 replace z := lS z; obtain ⟨h_4, e5, z⟩ := z
 refine WL.val (d := (some 4)) (v := (newP h_2)) (h' := h_4) (by kernel_rfl) (by kernel_rfl) (val_ofH e5 (by kernel_rfl)) ?_
 refine WL.a (some 5) (.int .i64 0) h_4 ?_
 replace z := lS z; obtain ⟨h_6, e7, z⟩ := z
 refine WL.val (d := (some 6)) (v := (newP h_4)) (h' := h_6) (by kernel_rfl) (by kernel_rfl) (val_ofH e7 (by kernel_rfl)) ?_
 refine WL.n ?_
 refine Go.weaken (l' := [(0, strA t0), (3, newP h), (4, newP h_2), (6, newP h_4)]) (Fr.c (Fr.c (Fr.c (Fr.c Fr.n)))) ?_
 refine n1 ?_
 refine W.s (fun _ n8 _ _ _ => ?_)
 refine W.r ?_
 refine WL.a (some 8) (strA t0) h_6 ?_
 refine WL.a (some 9) (.agg ([strA t0, .int .i64 0] : List AV)) h_6 ?_
 replace z := outK_some z; obtain ⟨v10, h_9, e10, z⟩ := z
 refine WL.b (some 10) v10 h_9 e10 ?_
 replace z := lS z; obtain ⟨h_11, e12, z⟩ := z
 refine WL.val (d := (some 7)) (v := (newP h_9)) (h' := h_11) (by kernel_rfl) (by kernel_rfl) (val_ofH e12 (by kernel_rfl)) ?_
 replace z := oS z; obtain ⟨h_13, e14, z⟩ := z
 refine WL.e h_13 (store_row (P := Pg) (h := h_11) (t := 85) (v := v10) (by kernel_rfl) (by kernel_rfl) e14) ?_
 refine WL.n ?_
 refine Go.weaken (l' := [(3, newP h), (4, newP h_2), (6, newP h_4), (7, newP h_9)]) (Fr.c (Fr.c (Fr.c (Fr.c Fr.n)))) ?_
 refine n8 ?_
 refine W.s (fun _ n15 _ _ _ => ?_)
 refine W.r ?_
 refine WL.a (some 11) (AV.fn 53 [] [(newP h_9), (newP h), (newP h_2)]) h_13 ?_
 replace z := callN_some z; obtain ⟨r12, h_16, e17, z⟩ := z
 replace z := oS z; obtain ⟨t12, c18, z⟩ := z
 have c18 := avAgg_some c18
 subst c18
 refine WL.c (hc.ok w0) (some 12) e17 ?_
 replace z := oS z; obtain ⟨h_19, e20, z⟩ := z
 refine WL.e h_19 (store_row (P := Pg) (h := h_16) (t := 27) (v := (.agg t12)) (by kernel_rfl) (by kernel_rfl) e20) ?_
 refine WL.n ?_
 refine Go.weaken (l' := [(4, newP h_2), (6, newP h_4), (7, newP h_9)]) (Fr.c (Fr.c (Fr.c Fr.n))) ?_
 refine n15 ?_
 refine W.s (fun _ n21 _ q21 _ => ?_)
 refine W.s (fun _ n22 _ _ _ => ?_)
 refine W.r ?_
 refine WL.a (some 13) (AV.ptr (AHeap.next h_4) 0) h_19 ?_
 replace z := oS z; obtain ⟨v14, e23, z⟩ := z
 replace z := oS z; obtain ⟨t14, c24, z⟩ := z
 have c24 := avInt_some c24
 subst c24
 refine WL.b (some 14) (.int .i64 t14) h_19 (load_cell (P := Pg) (h := h_19) (t := 25) (by kernel_rfl) e23) ?_
 replace z := lS z; obtain ⟨t15, e25, z⟩ := z
 refine WL.val (d := (some 15)) (v := .bool t15) (h' := h_19) (by kernel_rfl) (by kernel_rfl) (val_of AV.bool e25 (by kernel_rfl)) ?_
 refine WL.n ?_
 refine Go.weaken (l' := [(4, newP h_2), (6, newP h_4), (7, newP h_9), (15, .bool t15)]) (Fr.c (Fr.c (Fr.c (Fr.c Fr.n)))) ?_
 refine n22 ?_
 cases t15 with
 | true =>
  replace z := ifB_t z
  refine W.t ?_
  refine W.s (fun _ n26 _ _ _ => ?_)
  refine W.draw (by kernel_rfl) (hc.ok w0) (plan := [0, 1, 2, 3]) (by kernel_rfl) (by kernel_rfl) (by kernel_rfl) ?_
  replace z := oS z; obtain ⟨t16, e27, z⟩ := z
  refine WD.b 1 (some 16) (.agg t16) h_19 (load_row (P := Pg) (h := h_19) (t := 27) (by kernel_rfl) (by kernel_rfl) e27) ?_
  replace z := oS z; obtain ⟨h_28, e29, z⟩ := z
  replace z := chk_some z; obtain ⟨k30, z⟩ := z
  refine WD.eff (h' := h_28) (by kernel_rfl) (by kernel_rfl) (Eq.trans (by kernel_rfl) (store_row (P := Pg) (h := h_19) (t := 9) (v := (strA ([] : Bytes))) (by kernel_rfl) (by kernel_rfl) e29)) (k := 2) (by kernel_rfl) (fun _ => (Eq.trans (by kernel_rfl) k30)) (by decide) ?_
  refine WD.a 0 (some 5) (.int .i64 0) h_28 ?_
  replace z := oS z; obtain ⟨h_31, e32, z⟩ := z
  refine WD.eff (h' := h_31) (by kernel_rfl) (by kernel_rfl) (Eq.trans (by kernel_rfl) (store_row (P := Pg) (h := h_28) (t := 27) (v := (.agg t16)) (by kernel_rfl) (by kernel_rfl) e32)) (k := 2) (by kernel_rfl) (fun _ => (by kernel_rfl)) (by decide) ?_
  refine WD.nil ?_
  refine Go.weaken (l' := [(4, newP h_2), (5, .int .i64 0), (6, newP h_4)]) (Fr.c (Fr.c (Fr.c Fr.n))) ?_
  refine n26 ?_
  refine W.ret (by kernel_rfl) ?_
  refine q21 ?_
  replace z := oS z; obtain ⟨w4, e33, z⟩ := z
  replace z := oS z; obtain ⟨w6, e34, z⟩ := z
  obtain ⟨z, hF2⟩ := ret_inj z; subst z; subst hF2
  exact leave_of (rs := [.cell 4 9, .tmp 5, .cell 6 27]) (vs := [w4, .int .i64 0, .agg w6]) (by kernel_rfl) (res_cell (by kernel_rfl) (load_cell (P := Pg) (h := h_31) (t := 9) (by kernel_rfl) e33) (res_tmp (by kernel_rfl) (res_cell (by kernel_rfl) (load_row (P := Pg) (h := h_31) (t := 27) (by kernel_rfl) (by kernel_rfl) e34) res_nil))) (by kernel_rfl)
 | false =>
  replace z := ifB_f z
  refine W.f ?_
  refine W.skip (by kernel_rfl) ?_
  refine n21 ?_
  refine W.s (fun _ n35 _ _ _ => ?_)
  refine W.draw (by kernel_rfl) (hc.ok w0) (plan := [0, 1, 2, 3, 4, 5, 6, 7, 8]) (by kernel_rfl) (by kernel_rfl) (by kernel_rfl) ?_
  replace z := oS z; obtain ⟨v17, e36, z⟩ := z
  replace z := oS z; obtain ⟨t17, c37, z⟩ := z
  have c37 := avStr_some c37
  subst c37
  refine WD.b 1 (some 17) (strA t17) h_19 (load_cell (P := Pg) (h := h_19) (t := 9) (by kernel_rfl) e36) ?_
  replace z := oS z; obtain ⟨v18, e38, z⟩ := z
  refine WD.b 1 (some 18) v18 h_19 (load_cell (P := Pg) (h := h_19) (t := 85) (by kernel_rfl) e38) ?_
  replace z := oS z; obtain ⟨t19, e39, z⟩ := z
  refine WD.b 0 (some 19) t19 h_19 (nil_chk (h := h_19) e39) ?_
  replace z := oS z; obtain ⟨t20, e40, z⟩ := z
  refine WD.b 0 (some 20) t20 h_19 (field_ptr (P := Pg) (h := h_19) (s := 87) (f := 1) (by kernel_rfl) e40) ?_
  replace z := oS z; obtain ⟨v21, e41, z⟩ := z
  replace z := oS z; obtain ⟨t21, c42, z⟩ := z
  have c42 := avInt_some c42
  subst c42
  refine WD.b 1 (some 21) (.int .i64 t21) h_19 (load_cell (P := Pg) (h := h_19) (t := 3) (by kernel_rfl) e41) ?_
  replace z := oS z; obtain ⟨t22, e43, z⟩ := z
  refine WD.b 1 (some 22) (.agg t22) h_19 (load_row (P := Pg) (h := h_19) (t := 27) (by kernel_rfl) (by kernel_rfl) e43) ?_
  replace z := oS z; obtain ⟨h_44, e45, z⟩ := z
  replace z := chk_some z; obtain ⟨k46, z⟩ := z
  refine WD.eff (h' := h_44) (by kernel_rfl) (by kernel_rfl) (Eq.trans (by kernel_rfl) (store_row (P := Pg) (h := h_19) (t := 9) (v := (strA t17)) (by kernel_rfl) (by kernel_rfl) e45)) (k := 2) (by kernel_rfl) (fun _ => (Eq.trans (by kernel_rfl) k46)) (by decide) ?_
  refine WD.a 0 (some 5) (.int .i64 t21) h_44 ?_
  replace z := oS z; obtain ⟨h_47, e48, z⟩ := z
  refine WD.eff (h' := h_47) (by kernel_rfl) (by kernel_rfl) (Eq.trans (by kernel_rfl) (store_row (P := Pg) (h := h_44) (t := 27) (v := (.agg t22)) (by kernel_rfl) (by kernel_rfl) e48)) (k := 2) (by kernel_rfl) (fun _ => (by kernel_rfl)) (by decide) ?_
  refine WD.nil ?_
  refine Go.weaken (l' := [(4, newP h_2), (5, .int .i64 t21), (6, newP h_4)]) (Fr.c (Fr.c (Fr.c Fr.n))) ?_
  refine n35 ?_
  refine W.ret (by kernel_rfl) ?_
  replace z := oS z; obtain ⟨w4_50, e49, z⟩ := z
  replace z := oS z; obtain ⟨w6_52, e51, z⟩ := z
  obtain ⟨z, hF2⟩ := ret_inj z; subst z; subst hF2
  exact leave_of (rs := [.cell 4 9, .tmp 5, .cell 6 27]) (vs := [w4_50, .int .i64 t21, .agg w6_52]) (by kernel_rfl) (res_cell (by kernel_rfl) (load_cell (P := Pg) (h := h_47) (t := 9) (by kernel_rfl) e49) (res_tmp (by kernel_rfl) (res_cell (by kernel_rfl) (load_row (P := Pg) (h := h_47) (t := 27) (by kernel_rfl) (by kernel_rfl) e51) res_nil))) (by kernel_rfl)
noncomputable def pattern_Quoted_fn (call : CallF) (n : Nat) : FnT := fun args h => match args with
 | [x0, x1] => obind (avStr x0) fun t0 => obind (avInt .i64 x1) fun t1 => pattern_Quoted call n t0 t1 h
 | _ => none
set_option maxRecDepth 100000 in
theorem pattern_Quoted_fn_eq (call : CallF) (n : Nat) (t0 : Bytes) (t1 : Int) (h : AHeap) : pattern_Quoted_fn call n [strA t0, .int .i64 t1] h = pattern_Quoted call n t0 t1 h :=
 (Eq.trans (obind_eq (fun t0 => obind (avInt .i64 (.int .i64 t1)) fun t1 => pattern_Quoted call n t0 t1 h) (avStr_str t0)) (Eq.trans (obind_eq (fun t1 => pattern_Quoted call n t0 t1 h) (avInt_int .i64 t1)) rfl))
theorem pattern_Quoted_holds {call : CallF} (hc : SaysAll Pg call) (n : Nat) : Holds Pg 46 (pattern_Quoted_fn call n) := by
 intro args h r h2 e
 unfold pattern_Quoted_fn at e
 split at e
 ·replace e := oS e; obtain ⟨t0, c0, e⟩ := e; have c0 := avStr_some c0; subst c0
  replace e := oS e; obtain ⟨t1, c1, e⟩ := e; have c1 := avInt_some c1; subst c1
  exact pattern_Quoted_ok hc e
 ·cases e
noncomputable def pattern_Quoted_1 (call : CallF) (_ : Nat) (t0 : AV) (t1 : AV) (t2 : AV) (h : AHeap) : R :=
 obind (ldCell h t0) fun v3 =>
 obind (ldCell h t1) fun v4 =>
 obind (avInt .i64 v4) fun t4 =>
 callK (call 54 [v3, .int .i64 t4] h) fun r5 h_4 =>
 obind (avStr r5) fun t5 =>
 obind (stRow h_4 1 [strA t5] t2) fun h_7 =>
 some (.ret (.tup []), h_7)
theorem pattern_Quoted_1_ok {call : CallF} (hc : SaysAll Pg call) {n : Nat} {t0 : AV} {t1 : AV} {t2 : AV} {h : AHeap} {rR : ARes} {hR : AHeap} (z : pattern_Quoted_1 call n t0 t1 t2 h = some (rR, hR)) : Says Pg 53 [t0, t1, t2] h rR hR := by
 unfold pattern_Quoted_1 at z
 refine says_of (fn := Tryd.f53) Tryd.func53 (c := codeOf Tryd.f53) (by kernel_rfl) (by kernel_rfl) (fun w0 m0 => ?_)
 refine W.weaken (l' := [(0, t0), (1, t1), (2, t2)]) (Fr.c (Fr.c (Fr.c Fr.n))) ?_
 refine W.r ?_
 replace z := oS z; obtain ⟨v3, e1, z⟩ := z
 refine WL.b (some 3) v3 h (load_cell (P := Pg) (h := h) (t := 85) (by kernel_rfl) e1) ?_
 replace z := oS z; obtain ⟨v4, e2, z⟩ := z
 replace z := oS z; obtain ⟨t4, c3, z⟩ := z
 have c3 := avInt_some c3
 subst c3
 refine WL.b (some 4) (.int .i64 t4) h (load_cell (P := Pg) (h := h) (t := 3) (by kernel_rfl) e2) ?_
 replace z := callK_some z; rcases z with ⟨r5, h_4, e5, z⟩ | ⟨r5, h_4, e5, q9⟩
 ·replace z := oS z; obtain ⟨t5, c6, z⟩ := z
  have c6 := avStr_some c6
  subst c6
  refine WL.c (hc.ok w0) (some 5) e5 ?_
  replace z := oS z; obtain ⟨h_7, e8, z⟩ := z
  refine WL.e h_7 (store_row (P := Pg) (h := h_4) (t := 9) (v := (strA t5)) (by kernel_rfl) (by kernel_rfl) e8) ?_
  refine WL.n ?_
  refine Go.weaken (l' := []) Fr.n ?_
  obtain ⟨z, hF2⟩ := ret_inj z; subst z; subst hF2
  exact leaveN_of (rs := []) (vs := []) (by kernel_rfl) res_nil (by kernel_rfl)
 ·obtain ⟨zq, zr⟩ := pan_inj q9; subst zq; subst zr
  exact WL.callPanic (hc.ok w0) (d := (some 5)) (by kernel_rfl) (by kernel_rfl) (by kernel_rfl) e5 Pan.fin
noncomputable def pattern_Quoted_1_fn (call : CallF) (n : Nat) : FnT := fun args h => match args with
 | [x0, x1, x2] => pattern_Quoted_1 call n x0 x1 x2 h
 | _ => none
set_option maxRecDepth 100000 in
theorem pattern_Quoted_1_fn_eq (call : CallF) (n : Nat) (t0 : AV) (t1 : AV) (t2 : AV) (h : AHeap) : pattern_Quoted_1_fn call n [t0, t1, t2] h = pattern_Quoted_1 call n t0 t1 t2 h :=
 rfl
theorem pattern_Quoted_1_holds {call : CallF} (hc : SaysAll Pg call) (n : Nat) : Holds Pg 53 (pattern_Quoted_1_fn call n) := by
 intro args h r h2 e
 unfold pattern_Quoted_1_fn at e
 split at e
 ·exact pattern_Quoted_1_ok hc e
 ·cases e
noncomputable def pattern_reader_quoted_L0b (call : CallF) (t0 : AV) (t1 : Int) (h_3 : AHeap) (k10 : AHeap → R) (self : AHeap → R) (h_17 : AHeap) : R :=
 callN (call 59 [t0, .int .u8 34] h_17) fun r9 h_20 =>
 obind (avBool r9) fun t9 =>
 lett (!t9) fun (t10 : Bool) =>
 ifB t10
 (
  callN (call 60 [(newP h_3)] h_20) fun r11 h_27 =>
  obind (avInt .i64 r11) fun t11 =>
  lett ((t11 : Int) == t1) fun (t13 : Bool) =>
  lett (fun  (h_32 : AHeap) =>
   callK (call 62 [t0] h_32) fun r20 h_33 =>
   obind (avInt .u8 r20) fun t20 =>
   callN (call 23 [(newP h_3), .int .u8 t20] h_33) fun _ h_36 =>
   self h_36) fun k31 =>
  ifB t13
  (
   obind (nilC t0) fun t15 =>
   obind (fldP 1 t15) fun t16 =>
   obind (ldCell h_27 t16) fun v17 =>
   obind (avInt .i64 v17) fun t17 =>
   callK (call 61 [.int .i64 3, .int .i64 t17] h_27) fun _ h_43 =>
   k31 h_43)
  (
   k31 h_27))
 (
  k10 h_20)
noncomputable def pattern_reader_quoted_L0 (call : CallF) (t0 : AV) (t1 : Int) (h_3 : AHeap) (k10 : AHeap → R) : Nat → AHeap → R := iterR (fun _ => none) (pattern_reader_quoted_L0b call t0 t1 h_3 k10)
theorem pattern_reader_quoted_L0_s (call : CallF) (t0 : AV) (t1 : Int) (h_3 : AHeap) (k10 : AHeap → R) (m : Nat) : pattern_reader_quoted_L0 call t0 t1 h_3 k10 (m + 1) = pattern_reader_quoted_L0b call t0 t1 h_3 k10 (pattern_reader_quoted_L0 call t0 t1 h_3 k10 m) := rfl
noncomputable def pattern_reader_quoted (call : CallF) (n : Nat) (t0 : AV) (t1 : Int) (h : AHeap) : R :=
 callK (call 58 [t0, .int .u8 34] h) fun _ h_3 =>
 lett (newH h_3 52 [.nilp, .nsl]) fun h_6 =>
 lett (fun  (h_11 : AHeap) =>
  callN (call 25 [(newP h_3)] h_11) fun r22 h_13 =>
  obind (avStr r22) fun t22 =>
  some (.ret (strA t22), h_13)) fun k10 =>
 pattern_reader_quoted_L0 call t0 t1 h_3 k10 n  h_6
theorem pattern_reader_quoted_ok {call : CallF} (hc : SaysAll Pg call) {n : Nat} {t0 : AV} {t1 : Int} {h : AHeap} {rR : ARes} {hR : AHeap} (z : pattern_reader_quoted call n t0 t1 h = some (rR, hR)) : Says Pg 54 [t0, .int .i64 t1] h rR hR := by
 unfold pattern_reader_quoted at z
 refine says_of (fn := Tryd.f54) Tryd.func54 (c := codeOf Tryd.f54) (by kernel_rfl) (by kernel_rfl) (fun w0 m0 => ?_)
 refine W.weaken (l' := [(0, t0), (1, .int .i64 t1)]) (Fr.c (Fr.c Fr.n)) ?_
 refine W.s (fun _ n1 _ _ _ => ?_)
 refine W.r ?_
 refine WL.a (some 4) (strA ([] : Bytes)) h ?_
 refine WL.n ?_
 refine Go.weaken (l' := [(0, t0), (1, .int .i64 t1)]) (Fr.c (Fr.c Fr.n)) ?_
 refine n1 ?_
 refine W.s (fun _ n2 _ _ p2 => ?_)
 refine W.r ?_
 refine WL.a (some 6) t0 h ?_
 replace z := callK_some z; rcases z with ⟨r7, h_3, e4, z⟩ | ⟨r7, h_3, e4, q46⟩
 ·refine WL.c (hc.ok w0) (some 7) e4 ?_
  refine WL.n ?_
  refine Go.weaken (l' := [(0, t0), (1, .int .i64 t1)]) (Fr.c (Fr.c Fr.n)) ?_
  refine n2 ?_
  refine W.s (fun _ n5 _ _ _ => ?_)
  refine W.r ?_
  replace z := lS z; obtain ⟨h_6, e7, z⟩ := z
  refine WL.val (d := (some 5)) (v := (newP h_3)) (h' := h_6) (by kernel_rfl) (by kernel_rfl) (val_ofH e7 (by kernel_rfl)) ?_
  refine WL.n ?_
  refine Go.weaken (l' := [(0, t0), (1, .int .i64 t1), (5, newP h_3)]) (Fr.c (Fr.c (Fr.c Fr.n))) ?_
  refine n5 ?_
  refine W.s (fun K8 n8 _ _ p8 => ?_)
  replace z := lS z; obtain ⟨k10, e10, z⟩ := z
  have J10 : ∀  (h_11 : AHeap), k10 h_11 = some (rR, hR) → Go w0 m0 (Func.ntmps Tryd.f54) (K8 .normal) [(5, newP h_3)] [] h_11 := by
   intro  h_11 z
   rw [e10] at z
   refine n8 ?_
   refine W.s (fun _ n12 _ _ _ => ?_)
   refine W.r ?_
   replace z := callN_some z; obtain ⟨r22, h_13, e14, z⟩ := z
   replace z := oS z; obtain ⟨t22, c15, z⟩ := z
   have c15 := avStr_some c15
   subst c15
   refine WL.c (hc.ok w0) (some 22) e14 ?_
   refine WL.a (some 4) (strA t22) h_13 ?_
   refine WL.n ?_
   refine Go.weaken (l' := [(4, strA t22)]) (Fr.c Fr.n) ?_
   refine n12 ?_
   refine W.ret (by kernel_rfl) ?_
   obtain ⟨z, hF2⟩ := ret_inj z; subst z; subst hF2
   exact leave_of (rs := [.tmp 4]) (vs := [strA t22]) (by kernel_rfl) (res_tmp (by kernel_rfl) res_nil) (by kernel_rfl)
  refine W.blockK (by kernel_rfl) (fun K9 n9 s9 o9 q9 p9 => ?_)
  refine W.loopK (by kernel_rfl) (fun I16 K16 b16 n16 e16 q16 p16 => ?_)
  have L16 : ∀ (m : Nat)  (h_17 : AHeap), pattern_reader_quoted_L0 call t0 t1 h_3 k10 m  h_17 = some (rR, hR) → Go w0 m0 (Func.ntmps Tryd.f54) I16 [(0, t0), (1, .int .i64 t1), (5, newP h_3)] [] h_17 := by
   intro m
   induction m with
   | zero => intro  h_17 z; cases z
   | succ m ih16 =>
    intro  h_17 z
    rw [pattern_reader_quoted_L0_s] at z; unfold pattern_reader_quoted_L0b at z
    refine b16 ?_
    refine W.s (fun _ n18 e18 _ _ => ?_)
    refine W.s (fun _ n19 _ _ _ => ?_)
    refine W.r ?_
    refine WL.a (some 8) t0 h_17 ?_
    replace z := callN_some z; obtain ⟨r9, h_20, e21, z⟩ := z
    replace z := oS z; obtain ⟨t9, c22, z⟩ := z
    have c22 := avBool_some c22
    subst c22
    refine WL.c (hc.ok w0) (some 9) e21 ?_
    replace z := lS z; obtain ⟨t10, e23, z⟩ := z
    refine WL.val (d := (some 10)) (v := .bool t10) (h' := h_20) (by kernel_rfl) (by kernel_rfl) (val_of AV.bool e23 (by kernel_rfl)) ?_
    refine WL.n ?_
    refine Go.weaken (l' := [(0, t0), (1, .int .i64 t1), (5, newP h_3), (10, .bool t10)]) (Fr.c (Fr.c (Fr.c (Fr.c Fr.n)))) ?_
    refine n19 ?_
    cases t10 with
    | true =>
     replace z := ifB_t z
     refine W.t ?_
     refine W.skip (by kernel_rfl) ?_
     refine n18 ?_
     refine W.blockK (by kernel_rfl) (fun K24 n24 s24 o24 q24 p24 => ?_)
     refine W.s (fun K25 n25 _ _ p25 => ?_)
     refine W.s (fun _ n26 _ _ _ => ?_)
     refine W.r ?_
     replace z := callN_some z; obtain ⟨r11, h_27, e28, z⟩ := z
     replace z := oS z; obtain ⟨t11, c29, z⟩ := z
     have c29 := avInt_some c29
     subst c29
     refine WL.c (hc.ok w0) (some 11) e28 ?_
     refine WL.a (some 12) (.int .i64 t1) h_27 ?_
     replace z := lS z; obtain ⟨t13, e30, z⟩ := z
     refine WL.val (d := (some 13)) (v := .bool t13) (h' := h_27) (by kernel_rfl) (by kernel_rfl) (val_of AV.bool e30 (by kernel_rfl)) ?_
     refine WL.n ?_
     refine Go.weaken (l' := [(0, t0), (1, .int .i64 t1), (5, newP h_3), (13, .bool t13)]) (Fr.c (Fr.c (Fr.c (Fr.c Fr.n)))) ?_
     refine n26 ?_
     replace z := lS z; obtain ⟨k31, e31, z⟩ := z
     have J31 : ∀  (h_32 : AHeap), k31 h_32 = some (rR, hR) → Go w0 m0 (Func.ntmps Tryd.f54) (K25 .normal) [(0, t0), (1, .int .i64 t1), (5, newP h_3)] [] h_32 := by
      intro  h_32 z
      rw [e31] at z
      refine n25 ?_
      refine W.r ?_
      refine WL.a (some 19) t0 h_32 ?_
      replace z := callK_some z; rcases z with ⟨r20, h_33, e34, z⟩ | ⟨r20, h_33, e34, q38⟩
      ·replace z := oS z; obtain ⟨t20, c35, z⟩ := z
       have c35 := avInt_some c35
       subst c35
       refine WL.c (hc.ok w0) (some 20) e34 ?_
       replace z := callN_some z; obtain ⟨r21, h_36, e37, z⟩ := z
       refine WL.c (hc.ok w0) (some 21) e37 ?_
       refine WL.n ?_
       refine Go.weaken (l' := [(0, t0), (1, .int .i64 t1), (5, newP h_3)]) (Fr.c (Fr.c (Fr.c Fr.n))) ?_
       refine n24 ?_
       refine n16 ?_
       exact Go.weaken (Fr.c (Fr.c (Fr.c Fr.n))) (ih16 _ z)
      ·obtain ⟨zq, zr⟩ := pan_inj q38; subst zq; subst zr
       exact WL.callPanic (hc.ok w0) (d := (some 20)) (by kernel_rfl) (by kernel_rfl) (by kernel_rfl) e34 (p24 (p16 (p9 (p8 Pan.fin))))
     cases t13 with
     | true =>
      replace z := ifB_t z
      refine W.t ?_
      refine W.r ?_
      refine WL.a (some 14) t0 h_27 ?_
      replace z := oS z; obtain ⟨t15, e39, z⟩ := z
      refine WL.b (some 15) t15 h_27 (nil_chk (h := h_27) e39) ?_
      replace z := oS z; obtain ⟨t16, e40, z⟩ := z
      refine WL.b (some 16) t16 h_27 (field_ptr (P := Pg) (h := h_27) (s := 87) (f := 1) (by kernel_rfl) e40) ?_
      replace z := oS z; obtain ⟨v17, e41, z⟩ := z
      replace z := oS z; obtain ⟨t17, c42, z⟩ := z
      have c42 := avInt_some c42
      subst c42
      refine WL.b (some 17) (.int .i64 t17) h_27 (load_cell (P := Pg) (h := h_27) (t := 3) (by kernel_rfl) e41) ?_
      replace z := callK_some z; rcases z with ⟨r18, h_43, e44, z⟩ | ⟨r18, h_43, e44, q45⟩
      ·refine WL.c (hc.ok w0) (some 18) e44 ?_
       refine WL.n ?_
       refine Go.weaken (l' := [(0, t0), (1, .int .i64 t1), (5, newP h_3)]) (Fr.c (Fr.c (Fr.c Fr.n))) ?_
       exact Go.weaken (Fr.c (Fr.c (Fr.c Fr.n))) (J31 _ z)
      ·obtain ⟨zq, zr⟩ := pan_inj q45; subst zq; subst zr
       exact WL.callPanic (hc.ok w0) (d := (some 18)) (by kernel_rfl) (by kernel_rfl) (by kernel_rfl) e44 (p25 (p24 (p16 (p9 (p8 Pan.fin)))))
     | false =>
      replace z := ifB_f z
      refine W.f ?_
      refine W.skip (by kernel_rfl) ?_
      exact Go.weaken (Fr.c (Fr.c (Fr.c Fr.n))) (J31 _ z)
    | false =>
     replace z := ifB_f z
     refine W.f ?_
     refine W.exit (by kernel_rfl) ?_
     refine e18 ?_
     refine e16 ?_
     refine s9 (by kernel_rfl) ?_
     exact Go.weaken (Fr.c Fr.n) (J10 _ z)
  exact Go.weaken (Fr.c (Fr.c (Fr.c Fr.n))) (L16 _ _ z)
 ·obtain ⟨zq, zr⟩ := pan_inj q46; subst zq; subst zr
  exact WL.callPanic (hc.ok w0) (d := (some 7)) (by kernel_rfl) (by kernel_rfl) (by kernel_rfl) e4 (p2 Pan.fin)
noncomputable def pattern_reader_quoted_fn (call : CallF) (n : Nat) : FnT := fun args h => match args with
 | [x0, x1] => obind (avInt .i64 x1) fun t1 => pattern_reader_quoted call n x0 t1 h
 | _ => none
set_option maxRecDepth 100000 in
theorem pattern_reader_quoted_fn_eq (call : CallF) (n : Nat) (t0 : AV) (t1 : Int) (h : AHeap) : pattern_reader_quoted_fn call n [t0, .int .i64 t1] h = pattern_reader_quoted call n t0 t1 h :=
 (Eq.trans (obind_eq (fun t1 => pattern_reader_quoted call n t0 t1 h) (avInt_int .i64 t1)) rfl)
theorem pattern_reader_quoted_holds {call : CallF} (hc : SaysAll Pg call) (n : Nat) : Holds Pg 54 (pattern_reader_quoted_fn call n) := by
 intro args h r h2 e
 unfold pattern_reader_quoted_fn at e
 split at e
 ·replace e := oS e; obtain ⟨t1, c1, e⟩ := e; have c1 := avInt_some c1; subst c1
  exact pattern_reader_quoted_ok hc e
 ·cases e
noncomputable def pattern_reader_take (call : CallF) (_ : Nat) (t0 : AV) (t1 : Int) (h : AHeap) : R :=
 callN (call 59 [t0, .int .u8 t1] h) fun r6 h_2 =>
 obind (avBool r6) fun t6 =>
 lett (!t6) fun (t7 : Bool) =>
 lett (fun  (h_7 : AHeap) =>
  some (.ret (.tup []), h_7)) fun k6 =>
 ifB t7
 (
  obind (nilC t0) fun t9 =>
  obind (fldP 1 t9) fun t10 =>
  obind (ldCell h_2 t10) fun v11 =>
  obind (avInt .i64 v11) fun t11 =>
  callK (call 61 [.int .i64 6, .int .i64 t11] h_2) fun _ h_12 =>
  k6 h_12)
 (
  k6 h_2)
theorem pattern_reader_take_ok {call : CallF} (hc : SaysAll Pg call) {n : Nat} {t0 : AV} {t1 : Int} {h : AHeap} {rR : ARes} {hR : AHeap} (z : pattern_reader_take call n t0 t1 h = some (rR, hR)) : Says Pg 58 [t0, .int .u8 t1] h rR hR := by
 unfold pattern_reader_take at z
 refine says_of (fn := Tryd.f58) Tryd.func58 (c := codeOf Tryd.f58) (by kernel_rfl) (by kernel_rfl) (fun w0 m0 => ?_)
 refine W.weaken (l' := [(0, t0), (1, .int .u8 t1)]) (Fr.c (Fr.c Fr.n)) ?_
 refine W.s (fun _ n1 _ _ _ => ?_)
 refine W.r ?_
 refine WL.a (some 4) t0 h ?_
 refine WL.a (some 5) (.int .u8 t1) h ?_
 replace z := callN_some z; obtain ⟨r6, h_2, e3, z⟩ := z
 replace z := oS z; obtain ⟨t6, c4, z⟩ := z
 have c4 := avBool_some c4
 subst c4
 refine WL.c (hc.ok w0) (some 6) e3 ?_
 replace z := lS z; obtain ⟨t7, e5, z⟩ := z
 refine WL.val (d := (some 7)) (v := .bool t7) (h' := h_2) (by kernel_rfl) (by kernel_rfl) (val_of AV.bool e5 (by kernel_rfl)) ?_
 refine WL.n ?_
 refine Go.weaken (l' := [(0, t0), (7, .bool t7)]) (Fr.c (Fr.c Fr.n)) ?_
 refine n1 ?_
 replace z := lS z; obtain ⟨k6, e6, z⟩ := z
 have J6 : ∀  (h_7 : AHeap), k6 h_7 = some (rR, hR) → Go w0 m0 (Func.ntmps Tryd.f58) (Fin Pg Tryd.f58 w0 m0 rR hR .normal) [] [] h_7 := by
  intro  h_7 z
  rw [e6] at z
  obtain ⟨z, hF2⟩ := ret_inj z; subst z; subst hF2
  exact leaveN_of (rs := []) (vs := []) (by kernel_rfl) res_nil (by kernel_rfl)
 cases t7 with
 | true =>
  replace z := ifB_t z
  refine W.t ?_
  refine W.r ?_
  refine WL.a (some 8) t0 h_2 ?_
  replace z := oS z; obtain ⟨t9, e8, z⟩ := z
  refine WL.b (some 9) t9 h_2 (nil_chk (h := h_2) e8) ?_
  replace z := oS z; obtain ⟨t10, e9, z⟩ := z
  refine WL.b (some 10) t10 h_2 (field_ptr (P := Pg) (h := h_2) (s := 87) (f := 1) (by kernel_rfl) e9) ?_
  replace z := oS z; obtain ⟨v11, e10, z⟩ := z
  replace z := oS z; obtain ⟨t11, c11, z⟩ := z
  have c11 := avInt_some c11
  subst c11
  refine WL.b (some 11) (.int .i64 t11) h_2 (load_cell (P := Pg) (h := h_2) (t := 3) (by kernel_rfl) e10) ?_
  replace z := callK_some z; rcases z with ⟨r12, h_12, e13, z⟩ | ⟨r12, h_12, e13, q14⟩
  ·refine WL.c (hc.ok w0) (some 12) e13 ?_
   refine WL.n ?_
   refine Go.weaken (l' := []) Fr.n ?_
   exact Go.weaken Fr.n (J6 _ z)
  ·obtain ⟨zq, zr⟩ := pan_inj q14; subst zq; subst zr
   exact WL.callPanic (hc.ok w0) (d := (some 12)) (by kernel_rfl) (by kernel_rfl) (by kernel_rfl) e13 Pan.fin
 | false =>
  replace z := ifB_f z
  refine W.f ?_
  refine W.skip (by kernel_rfl) ?_
  exact Go.weaken Fr.n (J6 _ z)
noncomputable def pattern_reader_take_fn (call : CallF) (n : Nat) : FnT := fun args h => match args with
 | [x0, x1] => obind (avInt .u8 x1) fun t1 => pattern_reader_take call n x0 t1 h
 | _ => none
set_option maxRecDepth 100000 in
theorem pattern_reader_take_fn_eq (call : CallF) (n : Nat) (t0 : AV) (t1 : Int) (h : AHeap) : pattern_reader_take_fn call n [t0, .int .u8 t1] h = pattern_reader_take call n t0 t1 h :=
 (Eq.trans (obind_eq (fun t1 => pattern_reader_take call n t0 t1 h) (avInt_int .u8 t1)) rfl)
theorem pattern_reader_take_holds {call : CallF} (hc : SaysAll Pg call) (n : Nat) : Holds Pg 58 (pattern_reader_take_fn call n) := by
 intro args h r h2 e
 unfold pattern_reader_take_fn at e
 split at e
 ·replace e := oS e; obtain ⟨t1, c1, e⟩ := e; have c1 := avInt_some c1; subst c1
  exact pattern_reader_take_ok hc e
 ·cases e
noncomputable def pattern_reader_skips (call : CallF) (_ : Nat) (t0 : AV) (t1 : Int) (h : AHeap) : R :=
 callN (call 63 [t0, .int .u8 t1] h) fun r7 h_4 =>
 obind (avBool r7) fun t7 =>
 lett (!t7) fun (t8 : Bool) =>
 ifB t8
 (
  some (.ret (.bool false), h_4))
 (
  obind (nilC t0) fun t10 =>
  obind (fldP 1 t10) fun t11 =>
  obind (ldCell h_4 t11) fun v12 =>
  obind (avInt .i64 v12) fun t12 =>
  lett (IntKind.i64.wrap (t12 + 1)) fun (t13 : Int) =>
  obind (nilC t0) fun t14 =>
  obind (fldP 1 t14) fun t15 =>
  obind (stRow h_4 1 [.int .i64 t13] t15) fun h_17 =>
  some (.ret (.bool true), h_17))
theorem pattern_reader_skips_ok {call : CallF} (hc : SaysAll Pg call) {n : Nat} {t0 : AV} {t1 : Int} {h : AHeap} {rR : ARes} {hR : AHeap} (z : pattern_reader_skips call n t0 t1 h = some (rR, hR)) : Says Pg 59 [t0, .int .u8 t1] h rR hR := by
 unfold pattern_reader_skips at z
 refine says_of (fn := Tryd.f59) Tryd.func59 (c := codeOf Tryd.f59) (by kernel_rfl) (by kernel_rfl) (fun w0 m0 => ?_)
 refine W.weaken (l' := [(0, t0), (1, .int .u8 t1)]) (Fr.c (Fr.c Fr.n)) ?_
 refine W.s (fun _ n1 _ _ _ => ?_)
 refine W.r ?_
 refine WL.a (some 4) (.bool false) h ?_
 refine WL.n ?_
 refine Go.weaken (l' := [(0, t0), (1, .int .u8 t1)]) (Fr.c (Fr.c Fr.n)) ?_
 refine n1 ?_
 refine W.s (fun _ n2 _ q2 _ => ?_)
 refine W.s (fun _ n3 _ _ _ => ?_)
 refine W.r ?_
 refine WL.a (some 5) t0 h ?_
 refine WL.a (some 6) (.int .u8 t1) h ?_
 replace z := callN_some z; obtain ⟨r7, h_4, e5, z⟩ := z
 replace z := oS z; obtain ⟨t7, c6, z⟩ := z
 have c6 := avBool_some c6
 subst c6
 refine WL.c (hc.ok w0) (some 7) e5 ?_
 replace z := lS z; obtain ⟨t8, e7, z⟩ := z
 refine WL.val (d := (some 8)) (v := .bool t8) (h' := h_4) (by kernel_rfl) (by kernel_rfl) (val_of AV.bool e7 (by kernel_rfl)) ?_
 refine WL.n ?_
 refine Go.weaken (l' := [(0, t0), (8, .bool t8)]) (Fr.c (Fr.c Fr.n)) ?_
 refine n3 ?_
 cases t8 with
 | true =>
  replace z := ifB_t z
  refine W.t ?_
  refine W.s (fun _ n8 _ _ _ => ?_)
  refine W.r ?_
  refine WL.a (some 4) (.bool false) h_4 ?_
  refine WL.n ?_
  refine Go.weaken (l' := [(4, .bool false)]) (Fr.c Fr.n) ?_
  refine n8 ?_
  refine W.ret (by kernel_rfl) ?_
  refine q2 ?_
  obtain ⟨z, hF2⟩ := ret_inj z; subst z; subst hF2
  exact leave_of (rs := [.tmp 4]) (vs := [.bool false]) (by kernel_rfl) (res_tmp (by kernel_rfl) res_nil) (by kernel_rfl)
 | false =>
  replace z := ifB_f z
  refine W.f ?_
  refine W.skip (by kernel_rfl) ?_
  refine n2 ?_
  refine W.s (fun _ n9 _ _ _ => ?_)
  refine W.r ?_
  refine WL.a (some 9) t0 h_4 ?_
  replace z := oS z; obtain ⟨t10, e10, z⟩ := z
  refine WL.b (some 10) t10 h_4 (nil_chk (h := h_4) e10) ?_
  replace z := oS z; obtain ⟨t11, e11, z⟩ := z
  refine WL.b (some 11) t11 h_4 (field_ptr (P := Pg) (h := h_4) (s := 87) (f := 1) (by kernel_rfl) e11) ?_
  replace z := oS z; obtain ⟨v12, e12, z⟩ := z
  replace z := oS z; obtain ⟨t12, c13, z⟩ := z
  have c13 := avInt_some c13
  subst c13
  refine WL.b (some 12) (.int .i64 t12) h_4 (load_cell (P := Pg) (h := h_4) (t := 3) (by kernel_rfl) e12) ?_
  replace z := lS z; obtain ⟨t13, e14, z⟩ := z
  refine WL.val (d := (some 13)) (v := .int .i64 t13) (h' := h_4) (by kernel_rfl) (by kernel_rfl) (val_of (AV.int .i64) e14 (by kernel_rfl)) ?_
  replace z := oS z; obtain ⟨t14, e15, z⟩ := z
  refine WL.b (some 14) t14 h_4 (nil_chk (h := h_4) e15) ?_
  replace z := oS z; obtain ⟨t15, e16, z⟩ := z
  refine WL.b (some 15) t15 h_4 (field_ptr (P := Pg) (h := h_4) (s := 87) (f := 1) (by kernel_rfl) e16) ?_
  replace z := oS z; obtain ⟨h_17, e18, z⟩ := z
  refine WL.e h_17 (store_row (P := Pg) (h := h_4) (t := 3) (v := (.int .i64 t13)) (by kernel_rfl) (by kernel_rfl) e18) ?_
  refine WL.n ?_
  refine Go.weaken (l' := []) Fr.n ?_
  refine n9 ?_
  refine W.s (fun _ n19 _ _ _ => ?_)
  refine W.r ?_
  refine WL.a (some 4) (.bool true) h_17 ?_
  refine WL.n ?_
  refine Go.weaken (l' := [(4, .bool true)]) (Fr.c Fr.n) ?_
  refine n19 ?_
  refine W.ret (by kernel_rfl) ?_
  obtain ⟨z, hF2⟩ := ret_inj z; subst z; subst hF2
  exact leave_of (rs := [.tmp 4]) (vs := [.bool true]) (by kernel_rfl) (res_tmp (by kernel_rfl) res_nil) (by kernel_rfl)
noncomputable def pattern_reader_skips_fn (call : CallF) (n : Nat) : FnT := fun args h => match args with
 | [x0, x1] => obind (avInt .u8 x1) fun t1 => pattern_reader_skips call n x0 t1 h
 | _ => none
set_option maxRecDepth 100000 in
theorem pattern_reader_skips_fn_eq (call : CallF) (n : Nat) (t0 : AV) (t1 : Int) (h : AHeap) : pattern_reader_skips_fn call n [t0, .int .u8 t1] h = pattern_reader_skips call n t0 t1 h :=
 (Eq.trans (obind_eq (fun t1 => pattern_reader_skips call n t0 t1 h) (avInt_int .u8 t1)) rfl)
theorem pattern_reader_skips_holds {call : CallF} (hc : SaysAll Pg call) (n : Nat) : Holds Pg 59 (pattern_reader_skips_fn call n) := by
 intro args h r h2 e
 unfold pattern_reader_skips_fn at e
 split at e
 ·replace e := oS e; obtain ⟨t1, c1, e⟩ := e; have c1 := avInt_some c1; subst c1
  exact pattern_reader_skips_ok hc e
 ·cases e
noncomputable def pattern_reader_sees (call : CallF) (_ : Nat) (t0 : AV) (t1 : Int) (h : AHeap) : R :=
 lett (fun (t4 : Bool) (h_4 : AHeap) =>
  some (.ret (.bool t4), h_4)) fun k3 =>
 callN (call 67 [t0] h) fun r6 h_5 =>
 obind (avBool r6) fun t6 =>
 lett (!t6) fun (t7 : Bool) =>
 ifB t7
 (
  obind (nilC t0) fun t10 =>
  obind (fldP 0 t10) fun t11 =>
  obind (ldCell h_5 t11) fun v12 =>
  obind (avStr v12) fun t12 =>
  obind (nilC t0) fun t14 =>
  obind (fldP 1 t14) fun t15 =>
  obind (ldCell h_5 t15) fun v16 =>
  obind (avInt .i64 v16) fun t16 =>
  obind (idxS t12 t16) fun t17 =>
  lett ((t17 : Int) == t1) fun (t19 : Bool) =>
  k3 t19 h_5)
 (
  k3 false h_5)
theorem pattern_reader_sees_ok {call : CallF} (hc : SaysAll Pg call) {n : Nat} {t0 : AV} {t1 : Int} {h : AHeap} {rR : ARes} {hR : AHeap} (z : pattern_reader_sees call n t0 t1 h = some (rR, hR)) : Says Pg 63 [t0, .int .u8 t1] h rR hR := by
 unfold pattern_reader_sees at z
 refine says_of (fn := Tryd.f63) Tryd.func63 (c := codeOf Tryd.f63) (by kernel_rfl) (by kernel_rfl) (fun w0 m0 => ?_)
 refine W.weaken (l' := [(0, t0), (1, .int .u8 t1)]) (Fr.c (Fr.c Fr.n)) ?_
 refine W.s (fun _ n1 _ _ _ => ?_)
 refine W.r ?_
 refine WL.a (some 4) (.bool false) h ?_
 refine WL.n ?_
 refine Go.weaken (l' := [(0, t0), (1, .int .u8 t1)]) (Fr.c (Fr.c Fr.n)) ?_
 refine n1 ?_
 refine W.s (fun K2 n2 _ _ _ => ?_)
 replace z := lS z; obtain ⟨k3, e3, z⟩ := z
 have J3 : ∀ (t4 : Bool) (h_4 : AHeap), k3 t4 h_4 = some (rR, hR) → Go w0 m0 (Func.ntmps Tryd.f63) (K2 .normal) [(4, .bool t4)] [] h_4 := by
  intro t4 h_4 z
  rw [e3] at z
  refine n2 ?_
  refine W.ret (by kernel_rfl) ?_
  obtain ⟨z, hF2⟩ := ret_inj z; subst z; subst hF2
  exact leave_of (rs := [.tmp 4]) (vs := [.bool t4]) (by kernel_rfl) (res_tmp (by kernel_rfl) res_nil) (by kernel_rfl)
 refine W.draw (by kernel_rfl) (hc.ok w0) (plan := [0, 1, 2, 3, 4, 5, 6, 7, 8, 9, 10, 11, 12, 13, 14, 15, 16]) (by kernel_rfl) (by kernel_rfl) (by kernel_rfl) ?_
 refine WD.a 0 (some 5) t0 h ?_
 replace z := callN_some z; obtain ⟨r6, h_5, e6, z⟩ := z
 replace z := oS z; obtain ⟨t6, c7, z⟩ := z
 have c7 := avBool_some c7
 subst c7
 refine WD.call (d := (some 6)) (by kernel_rfl) (by kernel_rfl) (by kernel_rfl) e6 (k := 2) (by kernel_rfl) (fun _ => (by kernel_rfl)) (by decide) ?_
 replace z := lS z; obtain ⟨t7, e8, z⟩ := z
 refine WD.val (d := (some 7)) (v := .bool t7) (h' := h_5) (by kernel_rfl) (by kernel_rfl) (val_of AV.bool e8 (by kernel_rfl)) (k := 0) (by kernel_rfl) (fun e => absurd e (by decide)) (by decide) ?_
 refine WD.a 0 (some 8) (.bool t7) h_5 ?_
 cases t7 with
 | true =>
  replace z := ifB_t z
  refine WD.a 0 (some 9) t0 h_5 ?_
  replace z := oS z; obtain ⟨t10, e9, z⟩ := z
  refine WD.b 0 (some 10) t10 h_5 (nil_chk (h := h_5) e9) ?_
  replace z := oS z; obtain ⟨t11, e10, z⟩ := z
  refine WD.b 0 (some 11) t11 h_5 (field_ptr (P := Pg) (h := h_5) (s := 87) (f := 0) (by kernel_rfl) e10) ?_
  replace z := oS z; obtain ⟨v12, e11, z⟩ := z
  replace z := oS z; obtain ⟨t12, c12, z⟩ := z
  have c12 := avStr_some c12
  subst c12
  refine WD.b 1 (some 12) (strA t12) h_5 (load_cell (P := Pg) (h := h_5) (t := 9) (by kernel_rfl) e11) ?_
  refine WD.a 0 (some 13) t0 h_5 ?_
  replace z := oS z; obtain ⟨t14, e13, z⟩ := z
  refine WD.b 0 (some 14) t14 h_5 (nil_chk (h := h_5) e13) ?_
  replace z := oS z; obtain ⟨t15, e14, z⟩ := z
  refine WD.b 0 (some 15) t15 h_5 (field_ptr (P := Pg) (h := h_5) (s := 87) (f := 1) (by kernel_rfl) e14) ?_
  replace z := oS z; obtain ⟨v16, e15, z⟩ := z
  replace z := oS z; obtain ⟨t16, c16, z⟩ := z
  have c16 := avInt_some c16
  subst c16
  refine WD.b 1 (some 16) (.int .i64 t16) h_5 (load_cell (P := Pg) (h := h_5) (t := 3) (by kernel_rfl) e15) ?_
  replace z := oS z; obtain ⟨t17, e17, z⟩ := z
  refine WD.b 0 (some 17) (.int .u8 t17) h_5 (index_str (P := Pg) (h := h_5) (t := 9) (k := .i64) (by kernel_rfl) e17) ?_
  refine WD.a 0 (some 18) (.int .u8 t1) h_5 ?_
  replace z := lS z; obtain ⟨t19, e18, z⟩ := z
  refine WD.val (d := (some 19)) (v := .bool t19) (h' := h_5) (by kernel_rfl) (by kernel_rfl) (val_of AV.bool e18 (by kernel_rfl)) (k := 0) (by kernel_rfl) (fun e => absurd e (by decide)) (by decide) ?_
  refine WD.a 0 (some 20) (.bool t19) h_5 ?_
  refine WD.a 0 (some 4) (.bool t19) h_5 ?_
  refine WD.nil ?_
  exact Go.weaken (Fr.c Fr.n) (J3 _ _ z)
 | false =>
  replace z := ifB_f z
  refine WD.not (d := (some 9)) (by kernel_rfl) (by kernel_rfl) (k := 0) (by kernel_rfl) (fun e => absurd e (by decide)) (by decide) ?_
  refine WD.not (d := (some 10)) (by kernel_rfl) (by kernel_rfl) (k := 0) (by kernel_rfl) (fun e => absurd e (by decide)) (by decide) ?_
  refine WD.not (d := (some 11)) (by kernel_rfl) (by kernel_rfl) (k := 0) (by kernel_rfl) (fun e => absurd e (by decide)) (by decide) ?_
  refine WD.not (d := (some 12)) (by kernel_rfl) (by kernel_rfl) (k := 1) (by kernel_rfl) (fun e => absurd e (by decide)) (by decide) ?_
  refine WD.not (d := (some 13)) (by kernel_rfl) (by kernel_rfl) (k := 0) (by kernel_rfl) (fun e => absurd e (by decide)) (by decide) ?_
  refine WD.not (d := (some 14)) (by kernel_rfl) (by kernel_rfl) (k := 0) (by kernel_rfl) (fun e => absurd e (by decide)) (by decide) ?_
  refine WD.not (d := (some 15)) (by kernel_rfl) (by kernel_rfl) (k := 0) (by kernel_rfl) (fun e => absurd e (by decide)) (by decide) ?_
  refine WD.not (d := (some 16)) (by kernel_rfl) (by kernel_rfl) (k := 1) (by kernel_rfl) (fun e => absurd e (by decide)) (by decide) ?_
  refine WD.not (d := (some 17)) (by kernel_rfl) (by kernel_rfl) (k := 0) (by kernel_rfl) (fun e => absurd e (by decide)) (by decide) ?_
  refine WD.not (d := (some 18)) (by kernel_rfl) (by kernel_rfl) (k := 0) (by kernel_rfl) (fun e => absurd e (by decide)) (by decide) ?_
  refine WD.not (d := (some 19)) (by kernel_rfl) (by kernel_rfl) (k := 0) (by kernel_rfl) (fun e => absurd e (by decide)) (by decide) ?_
  refine WD.a 0 (some 20) (.bool false) h_5 ?_
  refine WD.a 0 (some 4) (.bool false) h_5 ?_
  refine WD.nil ?_
  exact Go.weaken (Fr.c Fr.n) (J3 _ _ z)
noncomputable def pattern_reader_sees_fn (call : CallF) (n : Nat) : FnT := fun args h => match args with
 | [x0, x1] => obind (avInt .u8 x1) fun t1 => pattern_reader_sees call n x0 t1 h
 | _ => none
set_option maxRecDepth 100000 in
theorem pattern_reader_sees_fn_eq (call : CallF) (n : Nat) (t0 : AV) (t1 : Int) (h : AHeap) : pattern_reader_sees_fn call n [t0, .int .u8 t1] h = pattern_reader_sees call n t0 t1 h :=
 (Eq.trans (obind_eq (fun t1 => pattern_reader_sees call n t0 t1 h) (avInt_int .u8 t1)) rfl)
theorem pattern_reader_sees_holds {call : CallF} (hc : SaysAll Pg call) (n : Nat) : Holds Pg 63 (pattern_reader_sees_fn call n) := by
 intro args h r h2 e
 unfold pattern_reader_sees_fn at e
 split at e
 ·replace e := oS e; obtain ⟨t1, c1, e⟩ := e; have c1 := avInt_some c1; subst c1
  exact pattern_reader_sees_ok hc e
 ·cases e
noncomputable def pattern_reader_ended (_ : CallF) (_ : Nat) (t0 : AV) (h : AHeap) : R :=
 obind (nilC t0) fun t4 =>
 obind (fldP 1 t4) fun t5 =>
 obind (ldCell h t5) fun v6 =>
 obind (avInt .i64 v6) fun t6 =>
 obind (nilC t0) fun t8 =>
 obind (fldP 0 t8) fun t9 =>
 obind (ldCell h t9) fun v10 =>
 obind (avStr v10) fun t10 =>
 lett ((t6 : Int) == (lenS t10)) fun (t12 : Bool) =>
 some (.ret (.bool t12), h)
theorem pattern_reader_ended_ok {call : CallF} (hc : SaysAll Pg call) {n : Nat} {t0 : AV} {h : AHeap} {rR : ARes} {hR : AHeap} (z : pattern_reader_ended call n t0 h = some (rR, hR)) : Says Pg 67 [t0] h rR hR := by
 unfold pattern_reader_ended at z
 refine says_of (fn := Tryd.f67) Tryd.func67 (c := codeOf Tryd.f67) (by kernel_rfl) (by kernel_rfl) (fun w0 m0 => ?_)
 refine W.weaken (l' := [(0, t0)]) (Fr.c Fr.n) ?_
 refine W.s (fun _ n1 _ _ _ => ?_)
 refine W.r ?_
 refine WL.a (some 2) (.bool false) h ?_
 refine WL.n ?_
 refine Go.weaken (l' := [(0, t0)]) (Fr.c Fr.n) ?_
 refine n1 ?_
 refine W.s (fun _ n2 _ _ _ => ?_)
 refine W.draw (by kernel_rfl) (hc.ok w0) (plan := [0, 1, 2, 3, 4, 5, 6, 7, 8, 9, 10]) (by kernel_rfl) (by kernel_rfl) (by kernel_rfl) ?_
 refine WD.a 0 (some 3) t0 h ?_
 replace z := oS z; obtain ⟨t4, e3, z⟩ := z
 refine WD.b 0 (some 4) t4 h (nil_chk (h := h) e3) ?_
 replace z := oS z; obtain ⟨t5, e4, z⟩ := z
 refine WD.b 0 (some 5) t5 h (field_ptr (P := Pg) (h := h) (s := 87) (f := 1) (by kernel_rfl) e4) ?_
 replace z := oS z; obtain ⟨v6, e5, z⟩ := z
 replace z := oS z; obtain ⟨t6, c6, z⟩ := z
 have c6 := avInt_some c6
 subst c6
 refine WD.b 1 (some 6) (.int .i64 t6) h (load_cell (P := Pg) (h := h) (t := 3) (by kernel_rfl) e5) ?_
 refine WD.a 0 (some 7) t0 h ?_
 replace z := oS z; obtain ⟨t8, e7, z⟩ := z
 refine WD.b 0 (some 8) t8 h (nil_chk (h := h) e7) ?_
 replace z := oS z; obtain ⟨t9, e8, z⟩ := z
 refine WD.b 0 (some 9) t9 h (field_ptr (P := Pg) (h := h) (s := 87) (f := 0) (by kernel_rfl) e8) ?_
 replace z := oS z; obtain ⟨v10, e9, z⟩ := z
 replace z := oS z; obtain ⟨t10, c10, z⟩ := z
 have c10 := avStr_some c10
 subst c10
 refine WD.b 1 (some 10) (strA t10) h (load_cell (P := Pg) (h := h) (t := 9) (by kernel_rfl) e9) ?_
 refine WD.a 0 (some 11) (.int .i64 (lenS t10)) h ?_
 replace z := lS z; obtain ⟨t12, e11, z⟩ := z
 refine WD.val (d := (some 12)) (v := .bool t12) (h' := h) (by kernel_rfl) (by kernel_rfl) (val_of AV.bool e11 (by kernel_rfl)) (k := 0) (by kernel_rfl) (fun e => absurd e (by decide)) (by decide) ?_
 refine WD.a 0 (some 2) (.bool t12) h ?_
 refine WD.nil ?_
 refine Go.weaken (l' := [(2, .bool t12)]) (Fr.c Fr.n) ?_
 refine n2 ?_
 refine W.ret (by kernel_rfl) ?_
 obtain ⟨z, hF2⟩ := ret_inj z; subst z; subst hF2
 exact leave_of (rs := [.tmp 2]) (vs := [.bool t12]) (by kernel_rfl) (res_tmp (by kernel_rfl) res_nil) (by kernel_rfl)
noncomputable def pattern_reader_ended_fn (call : CallF) (n : Nat) : FnT := fun args h => match args with
 | [x0] => pattern_reader_ended call n x0 h
 | _ => none
set_option maxRecDepth 100000 in
theorem pattern_reader_ended_fn_eq (call : CallF) (n : Nat) (t0 : AV) (h : AHeap) : pattern_reader_ended_fn call n [t0] h = pattern_reader_ended call n t0 h :=
 rfl
theorem pattern_reader_ended_holds {call : CallF} (hc : SaysAll Pg call) (n : Nat) : Holds Pg 67 (pattern_reader_ended_fn call n) := by
 intro args h r h2 e
 unfold pattern_reader_ended_fn at e
 split at e
 ·exact pattern_reader_ended_ok hc e
 ·cases e
noncomputable def pattern_reader_form (call : CallF) (_ : Nat) (t0 : AV) (h : AHeap) : R :=
 callK (call 64 [t0] h) fun r5 h_3 =>
 obind (avInt .u8 r5) fun t5 =>
 lett ((t5 : Int) != 92) fun (t7 : Bool) =>
 ifB t7
 (
  callN (call 36 [.int .u8 t5] h_3) fun r9 h_11 =>
  obind (avBool r9) fun t9 =>
  lett (!t9) fun (t10 : Bool) =>
  lett (fun  (h_16 : AHeap) =>
   some (.ret (.int .u8 t5), h_16)) fun k15 =>
  ifB t10
  (
   callK (call 65 [t0] h_11) fun _ h_18 =>
   k15 h_18)
  (
   k15 h_11))
 (
  callK (call 64 [t0] h_3) fun r15 h_23 =>
  obind (avInt .u8 r15) fun t15 =>
  lett ((t15 : Int) == 34) fun (t18 : Bool) =>
  lett (fun (t17 : Bool) (h_32 : AHeap) =>
   ifB t17
   (
    some (.ret (.int .u8 t15), h_32))
   (
    lett ((t15 : Int) == 110) fun (t22 : Bool) =>
    ifB t22
    (
     some (.ret (.int .u8 10), h_32))
    (
     lett ((t15 : Int) == 114) fun (t24 : Bool) =>
     ifB t24
     (
      some (.ret (.int .u8 13), h_32))
     (
      lett ((t15 : Int) == 116) fun (t26 : Bool) =>
      ifB t26
      (
       some (.ret (.int .u8 9), h_32))
      (
       lett ((t15 : Int) == 120) fun (t28 : Bool) =>
       ifB t28
       (
        callK (call 66 [t0] h_32) fun r30 h_46 =>
        obind (avInt .u8 r30) fun t30 =>
        some (.ret (.int .u8 t30), h_46))
       (
        callK (call 65 [t0] h_32) fun _ h_51 =>
        some (.ret (.int .u8 0), h_51))))))) fun k31 =>
  ifB t18
  (
   k31 true h_23)
  (
   lett ((t15 : Int) == 92) fun (t19 : Bool) =>
   k31 t19 h_23))
theorem pattern_reader_form_ok {call : CallF} (hc : SaysAll Pg call) {n : Nat} {t0 : AV} {h : AHeap} {rR : ARes} {hR : AHeap} (z : pattern_reader_form call n t0 h = some (rR, hR)) : Says Pg 62 [t0] h rR hR := by
 unfold pattern_reader_form at z
 refine says_of (fn := Tryd.f62) Tryd.func62 (c := codeOf Tryd.f62) (by kernel_rfl) (by kernel_rfl) (fun w0 m0 => ?_)
 refine W.weaken (l' := [(0, t0)]) (Fr.c Fr.n) ?_
 refine W.s (fun _ n1 _ _ _ => ?_)
 refine W.r ?_
 refine WL.a (some 2) (.int .u8 0) h ?_
 refine WL.n ?_
 refine Go.weaken (l' := [(0, t0)]) (Fr.c Fr.n) ?_
 refine n1 ?_
 refine W.s (fun _ n2 _ _ p2 => ?_)
 refine W.r ?_
 refine WL.a (some 4) t0 h ?_
 replace z := callK_some z; rcases z with ⟨r5, h_3, e4, z⟩ | ⟨r5, h_3, e4, q57⟩
 ·replace z := oS z; obtain ⟨t5, c5, z⟩ := z
  have c5 := avInt_some c5
  subst c5
  refine WL.c (hc.ok w0) (some 5) e4 ?_
  refine WL.a (some 3) (.int .u8 t5) h_3 ?_
  refine WL.n ?_
  refine Go.weaken (l' := [(0, t0), (3, .int .u8 t5)]) (Fr.c (Fr.c Fr.n)) ?_
  refine n2 ?_
  refine W.s (fun _ n6 _ q6 p6 => ?_)
  refine W.s (fun _ n7 _ _ _ => ?_)
  refine W.r ?_
  refine WL.a (some 6) (.int .u8 t5) h_3 ?_
  replace z := lS z; obtain ⟨t7, e8, z⟩ := z
  refine WL.val (d := (some 7)) (v := .bool t7) (h' := h_3) (by kernel_rfl) (by kernel_rfl) (val_of AV.bool e8 (by kernel_rfl)) ?_
  refine WL.n ?_
  refine Go.weaken (l' := [(0, t0), (3, .int .u8 t5), (7, .bool t7)]) (Fr.c (Fr.c (Fr.c Fr.n))) ?_
  refine n7 ?_
  cases t7 with
  | true =>
   replace z := ifB_t z
   refine W.t ?_
   refine W.s (fun K9 n9 _ _ p9 => ?_)
   refine W.s (fun _ n10 _ _ _ => ?_)
   refine W.r ?_
   refine WL.a (some 8) (.int .u8 t5) h_3 ?_
   replace z := callN_some z; obtain ⟨r9, h_11, e12, z⟩ := z
   replace z := oS z; obtain ⟨t9, c13, z⟩ := z
   have c13 := avBool_some c13
   subst c13
   refine WL.c (hc.ok w0) (some 9) e12 ?_
   replace z := lS z; obtain ⟨t10, e14, z⟩ := z
   refine WL.val (d := (some 10)) (v := .bool t10) (h' := h_11) (by kernel_rfl) (by kernel_rfl) (val_of AV.bool e14 (by kernel_rfl)) ?_
   refine WL.n ?_
   refine Go.weaken (l' := [(0, t0), (3, .int .u8 t5), (10, .bool t10)]) (Fr.c (Fr.c (Fr.c Fr.n))) ?_
   refine n10 ?_
   replace z := lS z; obtain ⟨k15, e15, z⟩ := z
   have J15 : ∀  (h_16 : AHeap), k15 h_16 = some (rR, hR) → Go w0 m0 (Func.ntmps Tryd.f62) (K9 .normal) [(3, .int .u8 t5)] [] h_16 := by
    intro  h_16 z
    rw [e15] at z
    refine n9 ?_
    refine W.s (fun _ n17 _ _ _ => ?_)
    refine W.r ?_
    refine WL.a (some 13) (.int .u8 t5) h_16 ?_
    refine WL.a (some 2) (.int .u8 t5) h_16 ?_
    refine WL.n ?_
    refine Go.weaken (l' := [(2, .int .u8 t5)]) (Fr.c Fr.n) ?_
    refine n17 ?_
    refine W.ret (by kernel_rfl) ?_
    refine q6 ?_
    obtain ⟨z, hF2⟩ := ret_inj z; subst z; subst hF2
    exact leave_of (rs := [.tmp 2]) (vs := [.int .u8 t5]) (by kernel_rfl) (res_tmp (by kernel_rfl) res_nil) (by kernel_rfl)
   cases t10 with
   | true =>
    replace z := ifB_t z
    refine W.t ?_
    refine W.r ?_
    refine WL.a (some 11) t0 h_11 ?_
    replace z := callK_some z; rcases z with ⟨r12, h_18, e19, z⟩ | ⟨r12, h_18, e19, q20⟩
    ·refine WL.c (hc.ok w0) (some 12) e19 ?_
     refine WL.n ?_
     refine Go.weaken (l' := [(3, .int .u8 t5)]) (Fr.c Fr.n) ?_
     exact Go.weaken (Fr.c Fr.n) (J15 _ z)
    ·obtain ⟨zq, zr⟩ := pan_inj q20; subst zq; subst zr
     exact WL.callPanic (hc.ok w0) (d := (some 12)) (by kernel_rfl) (by kernel_rfl) (by kernel_rfl) e19 (p9 (p6 Pan.fin))
   | false =>
    replace z := ifB_f z
    refine W.f ?_
    refine W.skip (by kernel_rfl) ?_
    exact Go.weaken (Fr.c Fr.n) (J15 _ z)
  | false =>
   replace z := ifB_f z
   refine W.f ?_
   refine W.skip (by kernel_rfl) ?_
   refine n6 ?_
   refine W.s (fun _ n21 _ q21 p21 => ?_)
   refine W.s (fun _ n22 _ _ p22 => ?_)
   refine W.r ?_
   refine WL.a (some 14) t0 h_3 ?_
   replace z := callK_some z; rcases z with ⟨r15, h_23, e24, z⟩ | ⟨r15, h_23, e24, q56⟩
   ·replace z := oS z; obtain ⟨t15, c25, z⟩ := z
    have c25 := avInt_some c25
    subst c25
    refine WL.c (hc.ok w0) (some 15) e24 ?_
    refine WL.a (some 3) (.int .u8 t15) h_23 ?_
    refine WL.n ?_
    refine Go.weaken (l' := [(0, t0), (3, .int .u8 t15)]) (Fr.c (Fr.c Fr.n)) ?_
    refine n22 ?_
    refine W.s (fun _ n26 _ _ _ => ?_)
    refine W.r ?_
    refine WL.a (some 16) (.int .u8 t15) h_23 ?_
    refine WL.n ?_
    refine Go.weaken (l' := [(0, t0), (3, .int .u8 t15), (16, .int .u8 t15)]) (Fr.c (Fr.c (Fr.c Fr.n))) ?_
    refine n26 ?_
    refine W.blockK (by kernel_rfl) (fun K27 n27 s27 o27 q27 p27 => ?_)
    refine W.s (fun K28 n28 _ _ _ => ?_)
    refine W.s (fun _ n29 _ _ _ => ?_)
    refine W.r ?_
    replace z := lS z; obtain ⟨t18, e30, z⟩ := z
    refine WL.val (d := (some 18)) (v := .bool t18) (h' := h_23) (by kernel_rfl) (by kernel_rfl) (val_of AV.bool e30 (by kernel_rfl)) ?_
    refine WL.a (some 17) (.bool t18) h_23 ?_
    refine WL.n ?_
    refine Go.weaken (l' := [(0, t0), (3, .int .u8 t15), (16, .int .u8 t15), (17, .bool t18)]) (Fr.c (Fr.c (Fr.c (Fr.c Fr.n)))) ?_
    refine n29 ?_
    replace z := lS z; obtain ⟨k31, e31, z⟩ := z
    have J31 : ∀ (t17 : Bool) (h_32 : AHeap), k31 t17 h_32 = some (rR, hR) → Go w0 m0 (Func.ntmps Tryd.f62) (K28 .normal) [(0, t0), (3, .int .u8 t15), (16, .int .u8 t15), (17, .bool t17)] [] h_32 := by
     intro t17 h_32 z
     rw [e31] at z
     refine n28 ?_
     cases t17 with
     | true =>
      replace z := ifB_t z
      refine W.t ?_
      refine W.s (fun _ n33 _ _ _ => ?_)
      refine W.r ?_
      refine WL.a (some 20) (.int .u8 t15) h_32 ?_
      refine WL.a (some 2) (.int .u8 t15) h_32 ?_
      refine WL.n ?_
      refine Go.weaken (l' := [(2, .int .u8 t15)]) (Fr.c Fr.n) ?_
      refine n33 ?_
      refine W.ret (by kernel_rfl) ?_
      refine q27 ?_
      refine q21 ?_
      obtain ⟨z, hF2⟩ := ret_inj z; subst z; subst hF2
      exact leave_of (rs := [.tmp 2]) (vs := [.int .u8 t15]) (by kernel_rfl) (res_tmp (by kernel_rfl) res_nil) (by kernel_rfl)
     | false =>
      replace z := ifB_f z
      refine W.f ?_
      refine W.s (fun _ n34 _ _ _ => ?_)
      refine W.r ?_
      replace z := lS z; obtain ⟨t22, e35, z⟩ := z
      refine WL.val (d := (some 22)) (v := .bool t22) (h' := h_32) (by kernel_rfl) (by kernel_rfl) (val_of AV.bool e35 (by kernel_rfl)) ?_
      refine WL.a (some 21) (.bool t22) h_32 ?_
      refine WL.n ?_
      refine Go.weaken (l' := [(0, t0), (16, .int .u8 t15), (21, .bool t22)]) (Fr.c (Fr.c (Fr.c Fr.n))) ?_
      refine n34 ?_
      cases t22 with
      | true =>
       replace z := ifB_t z
       refine W.t ?_
       refine W.s (fun _ n36 _ _ _ => ?_)
       refine W.r ?_
       refine WL.a (some 2) (.int .u8 10) h_32 ?_
       refine WL.n ?_
       refine Go.weaken (l' := [(2, .int .u8 10)]) (Fr.c Fr.n) ?_
       refine n36 ?_
       refine W.ret (by kernel_rfl) ?_
       refine q27 ?_
       refine q21 ?_
       obtain ⟨z, hF2⟩ := ret_inj z; subst z; subst hF2
       exact leave_of (rs := [.tmp 2]) (vs := [.int .u8 10]) (by kernel_rfl) (res_tmp (by kernel_rfl) res_nil) (by kernel_rfl)
      | false =>
       replace z := ifB_f z
       refine W.f ?_
       refine W.s (fun _ n37 _ _ _ => ?_)
       refine W.r ?_
       replace z := lS z; obtain ⟨t24, e38, z⟩ := z
       refine WL.val (d := (some 24)) (v := .bool t24) (h' := h_32) (by kernel_rfl) (by kernel_rfl) (val_of AV.bool e38 (by kernel_rfl)) ?_
       refine WL.a (some 23) (.bool t24) h_32 ?_
       refine WL.n ?_
       refine Go.weaken (l' := [(0, t0), (16, .int .u8 t15), (23, .bool t24)]) (Fr.c (Fr.c (Fr.c Fr.n))) ?_
       refine n37 ?_
       cases t24 with
       | true =>
        replace z := ifB_t z
        refine W.t ?_
        refine W.s (fun _ n39 _ _ _ => ?_)
        refine W.r ?_
        refine WL.a (some 2) (.int .u8 13) h_32 ?_
        refine WL.n ?_
        refine Go.weaken (l' := [(2, .int .u8 13)]) (Fr.c Fr.n) ?_
        refine n39 ?_
        refine W.ret (by kernel_rfl) ?_
        refine q27 ?_
        refine q21 ?_
        obtain ⟨z, hF2⟩ := ret_inj z; subst z; subst hF2
        exact leave_of (rs := [.tmp 2]) (vs := [.int .u8 13]) (by kernel_rfl) (res_tmp (by kernel_rfl) res_nil) (by kernel_rfl)
       | false =>
        replace z := ifB_f z
        refine W.f ?_
        refine W.s (fun _ n40 _ _ _ => ?_)
        refine W.r ?_
        replace z := lS z; obtain ⟨t26, e41, z⟩ := z
        refine WL.val (d := (some 26)) (v := .bool t26) (h' := h_32) (by kernel_rfl) (by kernel_rfl) (val_of AV.bool e41 (by kernel_rfl)) ?_
        refine WL.a (some 25) (.bool t26) h_32 ?_
        refine WL.n ?_
        refine Go.weaken (l' := [(0, t0), (16, .int .u8 t15), (25, .bool t26)]) (Fr.c (Fr.c (Fr.c Fr.n))) ?_
        refine n40 ?_
        cases t26 with
        | true =>
         replace z := ifB_t z
         refine W.t ?_
         refine W.s (fun _ n42 _ _ _ => ?_)
         refine W.r ?_
         refine WL.a (some 2) (.int .u8 9) h_32 ?_
         refine WL.n ?_
         refine Go.weaken (l' := [(2, .int .u8 9)]) (Fr.c Fr.n) ?_
         refine n42 ?_
         refine W.ret (by kernel_rfl) ?_
         refine q27 ?_
         refine q21 ?_
         obtain ⟨z, hF2⟩ := ret_inj z; subst z; subst hF2
         exact leave_of (rs := [.tmp 2]) (vs := [.int .u8 9]) (by kernel_rfl) (res_tmp (by kernel_rfl) res_nil) (by kernel_rfl)
        | false =>
         replace z := ifB_f z
         refine W.f ?_
         refine W.s (fun _ n43 _ _ _ => ?_)
         refine W.r ?_
         replace z := lS z; obtain ⟨t28, e44, z⟩ := z
         refine WL.val (d := (some 28)) (v := .bool t28) (h' := h_32) (by kernel_rfl) (by kernel_rfl) (val_of AV.bool e44 (by kernel_rfl)) ?_
         refine WL.a (some 27) (.bool t28) h_32 ?_
         refine WL.n ?_
         refine Go.weaken (l' := [(0, t0), (27, .bool t28)]) (Fr.c (Fr.c Fr.n)) ?_
         refine n43 ?_
         cases t28 with
         | true =>
          replace z := ifB_t z
          refine W.t ?_
          refine W.s (fun _ n45 _ _ p45 => ?_)
          refine W.r ?_
          refine WL.a (some 29) t0 h_32 ?_
          replace z := callK_some z; rcases z with ⟨r30, h_46, e47, z⟩ | ⟨r30, h_46, e47, q49⟩
          ·replace z := oS z; obtain ⟨t30, c48, z⟩ := z
           have c48 := avInt_some c48
           subst c48
           refine WL.c (hc.ok w0) (some 30) e47 ?_
           refine WL.a (some 2) (.int .u8 t30) h_46 ?_
           refine WL.n ?_
           refine Go.weaken (l' := [(2, .int .u8 t30)]) (Fr.c Fr.n) ?_
           refine n45 ?_
           refine W.ret (by kernel_rfl) ?_
           refine q27 ?_
           refine q21 ?_
           obtain ⟨z, hF2⟩ := ret_inj z; subst z; subst hF2
           exact leave_of (rs := [.tmp 2]) (vs := [.int .u8 t30]) (by kernel_rfl) (res_tmp (by kernel_rfl) res_nil) (by kernel_rfl)
          ·obtain ⟨zq, zr⟩ := pan_inj q49; subst zq; subst zr
           exact WL.callPanic (hc.ok w0) (d := (some 30)) (by kernel_rfl) (by kernel_rfl) (by kernel_rfl) e47 (p45 (p27 (p21 Pan.fin)))
         | false =>
          replace z := ifB_f z
          refine W.f ?_
          refine W.skip (by kernel_rfl) ?_
          refine n27 ?_
          refine n21 ?_
          refine W.s (fun _ n50 _ _ p50 => ?_)
          refine W.r ?_
          refine WL.a (some 31) t0 h_32 ?_
          replace z := callK_some z; rcases z with ⟨r32, h_51, e52, z⟩ | ⟨r32, h_51, e52, q54⟩
          ·refine WL.c (hc.ok w0) (some 32) e52 ?_
           refine WL.n ?_
           refine Go.weaken (l' := []) Fr.n ?_
           refine n50 ?_
           refine W.s (fun _ n53 _ _ _ => ?_)
           refine W.r ?_
           refine WL.a (some 2) (.int .u8 0) h_51 ?_
           refine WL.n ?_
           refine Go.weaken (l' := [(2, .int .u8 0)]) (Fr.c Fr.n) ?_
           refine n53 ?_
           refine W.ret (by kernel_rfl) ?_
           obtain ⟨z, hF2⟩ := ret_inj z; subst z; subst hF2
           exact leave_of (rs := [.tmp 2]) (vs := [.int .u8 0]) (by kernel_rfl) (res_tmp (by kernel_rfl) res_nil) (by kernel_rfl)
          ·obtain ⟨zq, zr⟩ := pan_inj q54; subst zq; subst zr
           exact WL.callPanic (hc.ok w0) (d := (some 32)) (by kernel_rfl) (by kernel_rfl) (by kernel_rfl) e52 (p50 Pan.fin)
    cases t18 with
    | true =>
     replace z := ifB_t z
     refine W.t ?_
     refine W.skip (by kernel_rfl) ?_
     exact Go.weaken (Fr.c (Fr.c (Fr.c (Fr.c Fr.n)))) (J31 _ _ z)
    | false =>
     replace z := ifB_f z
     refine W.f ?_
     refine W.r ?_
     replace z := lS z; obtain ⟨t19, e55, z⟩ := z
     refine WL.val (d := (some 19)) (v := .bool t19) (h' := h_23) (by kernel_rfl) (by kernel_rfl) (val_of AV.bool e55 (by kernel_rfl)) ?_
     refine WL.a (some 17) (.bool t19) h_23 ?_
     refine WL.n ?_
     refine Go.weaken (l' := [(0, t0), (3, .int .u8 t15), (16, .int .u8 t15), (17, .bool t19)]) (Fr.c (Fr.c (Fr.c (Fr.c Fr.n)))) ?_
     exact Go.weaken (Fr.c (Fr.c (Fr.c (Fr.c Fr.n)))) (J31 _ _ z)
   ·obtain ⟨zq, zr⟩ := pan_inj q56; subst zq; subst zr
    exact WL.callPanic (hc.ok w0) (d := (some 15)) (by kernel_rfl) (by kernel_rfl) (by kernel_rfl) e24 (p22 (p21 Pan.fin))
 ·obtain ⟨zq, zr⟩ := pan_inj q57; subst zq; subst zr
  exact WL.callPanic (hc.ok w0) (d := (some 5)) (by kernel_rfl) (by kernel_rfl) (by kernel_rfl) e4 (p2 Pan.fin)
noncomputable def pattern_reader_form_fn (call : CallF) (n : Nat) : FnT := fun args h => match args with
 | [x0] => pattern_reader_form call n x0 h
 | _ => none
set_option maxRecDepth 100000 in
theorem pattern_reader_form_fn_eq (call : CallF) (n : Nat) (t0 : AV) (h : AHeap) : pattern_reader_form_fn call n [t0] h = pattern_reader_form call n t0 h :=
 rfl
theorem pattern_reader_form_holds {call : CallF} (hc : SaysAll Pg call) (n : Nat) : Holds Pg 62 (pattern_reader_form_fn call n) := by
 intro args h r h2 e
 unfold pattern_reader_form_fn at e
 split at e
 ·exact pattern_reader_form_ok hc e
 ·cases e
noncomputable def pattern_reader_next (call : CallF) (_ : Nat) (t0 : AV) (h : AHeap) : R :=
 callN (call 67 [t0] h) fun r4 h_4 =>
 obind (avBool r4) fun t4 =>
 lett (fun  (h_8 : AHeap) =>
  obind (nilC t0) fun t11 =>
  obind (fldP 1 t11) fun t12 =>
  obind (ldCell h_8 t12) fun v13 =>
  obind (avInt .i64 v13) fun t13 =>
  lett (IntKind.i64.wrap (t13 + 1)) fun (t14 : Int) =>
  obind (nilC t0) fun t15 =>
  obind (fldP 1 t15) fun t16 =>
  obind (stRow h_8 1 [.int .i64 t14] t16) fun h_17 =>
  obind (nilC t0) fun t18 =>
  obind (fldP 0 t18) fun t19 =>
  obind (ldCell h_17 t19) fun v20 =>
  obind (avStr v20) fun t20 =>
  obind (nilC t0) fun t22 =>
  obind (fldP 1 t22) fun t23 =>
  obind (ldCell h_17 t23) fun v24 =>
  obind (avInt .i64 v24) fun t24 =>
  lett (IntKind.i64.wrap (t24 - 1)) fun (t25 : Int) =>
  obind (idxS t20 t25) fun t26 =>
  some (.ret (.int .u8 t26), h_17)) fun k7 =>
 ifB t4
 (
  obind (nilC t0) fun t6 =>
  obind (fldP 1 t6) fun t7 =>
  obind (ldCell h_4 t7) fun v8 =>
  obind (avInt .i64 v8) fun t8 =>
  callK (call 61 [.int .i64 6, .int .i64 t8] h_4) fun _ h_34 =>
  k7 h_34)
 (
  k7 h_4)
theorem pattern_reader_next_ok {call : CallF} (hc : SaysAll Pg call) {n : Nat} {t0 : AV} {h : AHeap} {rR : ARes} {hR : AHeap} (z : pattern_reader_next call n t0 h = some (rR, hR)) : Says Pg 64 [t0] h rR hR := by
 unfold pattern_reader_next at z
 refine says_of (fn := Tryd.f64) Tryd.func64 (c := codeOf Tryd.f64) (by kernel_rfl) (by kernel_rfl) (fun w0 m0 => ?_)
 refine W.weaken (l' := [(0, t0)]) (Fr.c Fr.n) ?_
 refine W.s (fun _ n1 _ _ _ => ?_)
 refine W.r ?_
 refine WL.a (some 2) (.int .u8 0) h ?_
 refine WL.n ?_
 refine Go.weaken (l' := [(0, t0)]) (Fr.c Fr.n) ?_
 refine n1 ?_
 refine W.s (fun K2 n2 _ _ p2 => ?_)
 refine W.s (fun _ n3 _ _ _ => ?_)
 refine W.r ?_
 refine WL.a (some 3) t0 h ?_
 replace z := callN_some z; obtain ⟨r4, h_4, e5, z⟩ := z
 replace z := oS z; obtain ⟨t4, c6, z⟩ := z
 have c6 := avBool_some c6
 subst c6
 refine WL.c (hc.ok w0) (some 4) e5 ?_
 refine WL.n ?_
 refine Go.weaken (l' := [(0, t0), (4, .bool t4)]) (Fr.c (Fr.c Fr.n)) ?_
 refine n3 ?_
 replace z := lS z; obtain ⟨k7, e7, z⟩ := z
 have J7 : ∀  (h_8 : AHeap), k7 h_8 = some (rR, hR) → Go w0 m0 (Func.ntmps Tryd.f64) (K2 .normal) [(0, t0)] [] h_8 := by
  intro  h_8 z
  rw [e7] at z
  refine n2 ?_
  refine W.s (fun _ n9 _ _ _ => ?_)
  refine W.r ?_
  refine WL.a (some 10) t0 h_8 ?_
  replace z := oS z; obtain ⟨t11, e10, z⟩ := z
  refine WL.b (some 11) t11 h_8 (nil_chk (h := h_8) e10) ?_
  replace z := oS z; obtain ⟨t12, e11, z⟩ := z
  refine WL.b (some 12) t12 h_8 (field_ptr (P := Pg) (h := h_8) (s := 87) (f := 1) (by kernel_rfl) e11) ?_
  replace z := oS z; obtain ⟨v13, e12, z⟩ := z
  replace z := oS z; obtain ⟨t13, c13, z⟩ := z
  have c13 := avInt_some c13
  subst c13
  refine WL.b (some 13) (.int .i64 t13) h_8 (load_cell (P := Pg) (h := h_8) (t := 3) (by kernel_rfl) e12) ?_
  replace z := lS z; obtain ⟨t14, e14, z⟩ := z
  refine WL.val (d := (some 14)) (v := .int .i64 t14) (h' := h_8) (by kernel_rfl) (by kernel_rfl) (val_of (AV.int .i64) e14 (by kernel_rfl)) ?_
  replace z := oS z; obtain ⟨t15, e15, z⟩ := z
  refine WL.b (some 15) t15 h_8 (nil_chk (h := h_8) e15) ?_
  replace z := oS z; obtain ⟨t16, e16, z⟩ := z
  refine WL.b (some 16) t16 h_8 (field_ptr (P := Pg) (h := h_8) (s := 87) (f := 1) (by kernel_rfl) e16) ?_
  replace z := oS z; obtain ⟨h_17, e18, z⟩ := z
  refine WL.e h_17 (store_row (P := Pg) (h := h_8) (t := 3) (v := (.int .i64 t14)) (by kernel_rfl) (by kernel_rfl) e18) ?_
  refine WL.n ?_
  refine Go.weaken (l' := [(0, t0)]) (Fr.c Fr.n) ?_
  refine n9 ?_
  refine W.s (fun _ n19 _ _ _ => ?_)
  refine W.draw (by kernel_rfl) (hc.ok w0) (plan := [0, 1, 2, 3, 4, 5, 6, 7, 8, 9, 10]) (by kernel_rfl) (by kernel_rfl) (by kernel_rfl) ?_
  refine WD.a 0 (some 17) t0 h_17 ?_
  replace z := oS z; obtain ⟨t18, e20, z⟩ := z
  refine WD.b 0 (some 18) t18 h_17 (nil_chk (h := h_17) e20) ?_
  replace z := oS z; obtain ⟨t19, e21, z⟩ := z
  refine WD.b 0 (some 19) t19 h_17 (field_ptr (P := Pg) (h := h_17) (s := 87) (f := 0) (by kernel_rfl) e21) ?_
  replace z := oS z; obtain ⟨v20, e22, z⟩ := z
  replace z := oS z; obtain ⟨t20, c23, z⟩ := z
  have c23 := avStr_some c23
  subst c23
  refine WD.b 1 (some 20) (strA t20) h_17 (load_cell (P := Pg) (h := h_17) (t := 9) (by kernel_rfl) e22) ?_
  refine WD.a 0 (some 21) t0 h_17 ?_
  replace z := oS z; obtain ⟨t22, e24, z⟩ := z
  refine WD.b 0 (some 22) t22 h_17 (nil_chk (h := h_17) e24) ?_
  replace z := oS z; obtain ⟨t23, e25, z⟩ := z
  refine WD.b 0 (some 23) t23 h_17 (field_ptr (P := Pg) (h := h_17) (s := 87) (f := 1) (by kernel_rfl) e25) ?_
  replace z := oS z; obtain ⟨v24, e26, z⟩ := z
  replace z := oS z; obtain ⟨t24, c27, z⟩ := z
  have c27 := avInt_some c27
  subst c27
  refine WD.b 1 (some 24) (.int .i64 t24) h_17 (load_cell (P := Pg) (h := h_17) (t := 3) (by kernel_rfl) e26) ?_
  replace z := lS z; obtain ⟨t25, e28, z⟩ := z
  refine WD.val (d := (some 25)) (v := .int .i64 t25) (h' := h_17) (by kernel_rfl) (by kernel_rfl) (val_of (AV.int .i64) e28 (by kernel_rfl)) (k := 0) (by kernel_rfl) (fun e => absurd e (by decide)) (by decide) ?_
  replace z := oS z; obtain ⟨t26, e29, z⟩ := z
  refine WD.b 0 (some 26) (.int .u8 t26) h_17 (index_str (P := Pg) (h := h_17) (t := 9) (k := .i64) (by kernel_rfl) e29) ?_
  refine WD.a 0 (some 2) (.int .u8 t26) h_17 ?_
  refine WD.nil ?_
  refine Go.weaken (l' := [(2, .int .u8 t26)]) (Fr.c Fr.n) ?_
  refine n19 ?_
  refine W.ret (by kernel_rfl) ?_
  obtain ⟨z, hF2⟩ := ret_inj z; subst z; subst hF2
  exact leave_of (rs := [.tmp 2]) (vs := [.int .u8 t26]) (by kernel_rfl) (res_tmp (by kernel_rfl) res_nil) (by kernel_rfl)
 cases t4 with
 | true =>
  replace z := ifB_t z
  refine W.t ?_
  refine W.r ?_
  refine WL.a (some 5) t0 h_4 ?_
  replace z := oS z; obtain ⟨t6, e30, z⟩ := z
  refine WL.b (some 6) t6 h_4 (nil_chk (h := h_4) e30) ?_
  replace z := oS z; obtain ⟨t7, e31, z⟩ := z
  refine WL.b (some 7) t7 h_4 (field_ptr (P := Pg) (h := h_4) (s := 87) (f := 1) (by kernel_rfl) e31) ?_
  replace z := oS z; obtain ⟨v8, e32, z⟩ := z
  replace z := oS z; obtain ⟨t8, c33, z⟩ := z
  have c33 := avInt_some c33
  subst c33
  refine WL.b (some 8) (.int .i64 t8) h_4 (load_cell (P := Pg) (h := h_4) (t := 3) (by kernel_rfl) e32) ?_
  replace z := callK_some z; rcases z with ⟨r9, h_34, e35, z⟩ | ⟨r9, h_34, e35, q36⟩
  ·refine WL.c (hc.ok w0) (some 9) e35 ?_
   refine WL.n ?_
   refine Go.weaken (l' := [(0, t0)]) (Fr.c Fr.n) ?_
   exact Go.weaken (Fr.c Fr.n) (J7 _ z)
  ·obtain ⟨zq, zr⟩ := pan_inj q36; subst zq; subst zr
   exact WL.callPanic (hc.ok w0) (d := (some 9)) (by kernel_rfl) (by kernel_rfl) (by kernel_rfl) e35 (p2 Pan.fin)
 | false =>
  replace z := ifB_f z
  refine W.f ?_
  refine W.skip (by kernel_rfl) ?_
  exact Go.weaken (Fr.c Fr.n) (J7 _ z)
noncomputable def pattern_reader_next_fn (call : CallF) (n : Nat) : FnT := fun args h => match args with
 | [x0] => pattern_reader_next call n x0 h
 | _ => none
set_option maxRecDepth 100000 in
theorem pattern_reader_next_fn_eq (call : CallF) (n : Nat) (t0 : AV) (h : AHeap) : pattern_reader_next_fn call n [t0] h = pattern_reader_next call n t0 h :=
 rfl
theorem pattern_reader_next_holds {call : CallF} (hc : SaysAll Pg call) (n : Nat) : Holds Pg 64 (pattern_reader_next_fn call n) := by
 intro args h r h2 e
 unfold pattern_reader_next_fn at e
 split at e
 ·exact pattern_reader_next_ok hc e
 ·cases e
noncomputable def pattern_reader_refuseLast (call : CallF) (_ : Nat) (t0 : AV) (h : AHeap) : R :=
 obind (nilC t0) fun t3 =>
 obind (fldP 1 t3) fun t4 =>
 obind (ldCell h t4) fun v5 =>
 obind (avInt .i64 v5) fun t5 =>
 lett (IntKind.i64.wrap (t5 - 1)) fun (t6 : Int) =>
 callK (call 61 [.int .i64 6, .int .i64 t6] h) fun _ h_6 =>
 some (.ret (.tup []), h_6)
theorem pattern_reader_refuseLast_ok {call : CallF} (hc : SaysAll Pg call) {n : Nat} {t0 : AV} {h : AHeap} {rR : ARes} {hR : AHeap} (z : pattern_reader_refuseLast call n t0 h = some (rR, hR)) : Says Pg 65 [t0] h rR hR := by
 unfold pattern_reader_refuseLast at z
 refine says_of (fn := Tryd.f65) Tryd.func65 (c := codeOf Tryd.f65) (by kernel_rfl) (by kernel_rfl) (fun w0 m0 => ?_)
 refine W.weaken (l' := [(0, t0)]) (Fr.c Fr.n) ?_
 refine W.r ?_
 refine WL.a (some 2) t0 h ?_
 replace z := oS z; obtain ⟨t3, e1, z⟩ := z
 refine WL.b (some 3) t3 h (nil_chk (h := h) e1) ?_
 replace z := oS z; obtain ⟨t4, e2, z⟩ := z
 refine WL.b (some 4) t4 h (field_ptr (P := Pg) (h := h) (s := 87) (f := 1) (by kernel_rfl) e2) ?_
 replace z := oS z; obtain ⟨v5, e3, z⟩ := z
 replace z := oS z; obtain ⟨t5, c4, z⟩ := z
 have c4 := avInt_some c4
 subst c4
 refine WL.b (some 5) (.int .i64 t5) h (load_cell (P := Pg) (h := h) (t := 3) (by kernel_rfl) e3) ?_
 replace z := lS z; obtain ⟨t6, e5, z⟩ := z
 refine WL.val (d := (some 6)) (v := .int .i64 t6) (h' := h) (by kernel_rfl) (by kernel_rfl) (val_of (AV.int .i64) e5 (by kernel_rfl)) ?_
 replace z := callK_some z; rcases z with ⟨r7, h_6, e7, z⟩ | ⟨r7, h_6, e7, q8⟩
 ·refine WL.c (hc.ok w0) (some 7) e7 ?_
  refine WL.n ?_
  refine Go.weaken (l' := []) Fr.n ?_
  obtain ⟨z, hF2⟩ := ret_inj z; subst z; subst hF2
  exact leaveN_of (rs := []) (vs := []) (by kernel_rfl) res_nil (by kernel_rfl)
 ·obtain ⟨zq, zr⟩ := pan_inj q8; subst zq; subst zr
  exact WL.callPanic (hc.ok w0) (d := (some 7)) (by kernel_rfl) (by kernel_rfl) (by kernel_rfl) e7 Pan.fin
noncomputable def pattern_reader_refuseLast_fn (call : CallF) (n : Nat) : FnT := fun args h => match args with
 | [x0] => pattern_reader_refuseLast call n x0 h
 | _ => none
set_option maxRecDepth 100000 in
theorem pattern_reader_refuseLast_fn_eq (call : CallF) (n : Nat) (t0 : AV) (h : AHeap) : pattern_reader_refuseLast_fn call n [t0] h = pattern_reader_refuseLast call n t0 h :=
 rfl
theorem pattern_reader_refuseLast_holds {call : CallF} (hc : SaysAll Pg call) (n : Nat) : Holds Pg 65 (pattern_reader_refuseLast_fn call n) := by
 intro args h r h2 e
 unfold pattern_reader_refuseLast_fn at e
 split at e
 ·exact pattern_reader_refuseLast_ok hc e
 ·cases e
noncomputable def pattern_refuse (_ : CallF) (_ : Nat) (t0 : Int) (t1 : Int) (h : AHeap) : R :=
 obind (bldS Pg 91 [(0, .agg ([.int .i64 t0, .int .i64 t1] : List AV))]) fun t7 =>
 panK (AV.ifc 91 (.agg t7)) h
theorem pattern_refuse_ok {call : CallF} (_ : SaysAll Pg call) {n : Nat} {t0 : Int} {t1 : Int} {h : AHeap} {rR : ARes} {hR : AHeap} (z : pattern_refuse call n t0 t1 h = some (rR, hR)) : Says Pg 61 [.int .i64 t0, .int .i64 t1] h rR hR := by
 unfold pattern_refuse at z
 refine says_of (fn := Tryd.f61) Tryd.func61 (c := codeOf Tryd.f61) (by kernel_rfl) (by kernel_rfl) (fun w0 m0 => ?_)
 refine W.weaken (l' := [(0, .int .i64 t0), (1, .int .i64 t1)]) (Fr.c (Fr.c Fr.n)) ?_
 refine W.r ?_
 refine WL.a (some 4) (.int .i64 t0) h ?_
 refine WL.a (some 5) (.int .i64 t1) h ?_
 refine WL.a (some 6) (.agg ([.int .i64 t0, .int .i64 t1] : List AV)) h ?_
 replace z := oS z; obtain ⟨t7, e1, z⟩ := z
 refine WL.val (d := (some 7)) (v := .agg t7) (h' := h) (by kernel_rfl) (by kernel_rfl) (bld_ok (by kernel_rfl) e1) ?_
 refine WL.a (some 8) (AV.ifc 91 (.agg t7)) h ?_
 replace z := panK_some z; obtain ⟨a3t, a3v, e2, e22⟩ := z
 cases e22
 exact WL.pan (d := none) (by kernel_rfl) (by kernel_rfl) (Eq.trans (by kernel_rfl) (congrArg (fun x => opPanic _ (some x)) e2)) Pan.fin
noncomputable def pattern_refuse_fn (call : CallF) (n : Nat) : FnT := fun args h => match args with
 | [x0, x1] => obind (avInt .i64 x0) fun t0 => obind (avInt .i64 x1) fun t1 => pattern_refuse call n t0 t1 h
 | _ => none
set_option maxRecDepth 100000 in
theorem pattern_refuse_fn_eq (call : CallF) (n : Nat) (t0 : Int) (t1 : Int) (h : AHeap) : pattern_refuse_fn call n [.int .i64 t0, .int .i64 t1] h = pattern_refuse call n t0 t1 h :=
 (Eq.trans (obind_eq (fun t0 => obind (avInt .i64 (.int .i64 t1)) fun t1 => pattern_refuse call n t0 t1 h) (avInt_int .i64 t0)) (Eq.trans (obind_eq (fun t1 => pattern_refuse call n t0 t1 h) (avInt_int .i64 t1)) rfl))
theorem pattern_refuse_holds {call : CallF} (hc : SaysAll Pg call) (n : Nat) : Holds Pg 61 (pattern_refuse_fn call n) := by
 intro args h r h2 e
 unfold pattern_refuse_fn at e
 split at e
 ·replace e := oS e; obtain ⟨t0, c0, e⟩ := e; have c0 := avInt_some c0; subst c0
  replace e := oS e; obtain ⟨t1, c1, e⟩ := e; have c1 := avInt_some c1; subst c1
  exact pattern_refuse_ok hc e
 ·cases e
noncomputable def pattern_reader_twoDigits (call : CallF) (_ : Nat) (t0 : AV) (h : AHeap) : R :=
 callK (call 68 [t0] h) fun r6 h_3 =>
 obind (avInt .u8 r6) fun t6 =>
 obind (shlI .u8 t6 4) fun t7 =>
 callN (call 69 [.int .u8 t7] h_3) fun r9 h_9 =>
 obind (avBool r9) fun t9 =>
 lett (!t9) fun (t10 : Bool) =>
 lett (fun  (h_14 : AHeap) =>
  callK (call 68 [t0] h_14) fun r15 h_16 =>
  obind (avInt .u8 r15) fun t15 =>
  lett (orI .u8 t7 t15) fun (t16 : Int) =>
  callN (call 70 [.int .u8 t16] h_16) fun r18 h_22 =>
  obind (avBool r18) fun t18 =>
  lett (!t18) fun (t19 : Bool) =>
  lett (fun  (h_27 : AHeap) =>
   some (.ret (.int .u8 t16), h_27)) fun k26 =>
  ifB t19
  (
   callK (call 65 [t0] h_22) fun _ h_29 =>
   k26 h_29)
  (
   k26 h_22)) fun k13 =>
 ifB t10
 (
  callK (call 65 [t0] h_9) fun _ h_33 =>
  k13 h_33)
 (
  k13 h_9)
theorem pattern_reader_twoDigits_ok {call : CallF} (hc : SaysAll Pg call) {n : Nat} {t0 : AV} {h : AHeap} {rR : ARes} {hR : AHeap} (z : pattern_reader_twoDigits call n t0 h = some (rR, hR)) : Says Pg 66 [t0] h rR hR := by
 unfold pattern_reader_twoDigits at z
 refine says_of (fn := Tryd.f66) Tryd.func66 (c := codeOf Tryd.f66) (by kernel_rfl) (by kernel_rfl) (fun w0 m0 => ?_)
 refine W.weaken (l' := [(0, t0)]) (Fr.c Fr.n) ?_
 refine W.s (fun _ n1 _ _ _ => ?_)
 refine W.r ?_
 refine WL.a (some 2) (.int .u8 0) h ?_
 refine WL.n ?_
 refine Go.weaken (l' := [(0, t0)]) (Fr.c Fr.n) ?_
 refine n1 ?_
 refine W.s (fun _ n2 _ _ p2 => ?_)
 refine W.r ?_
 refine WL.a (some 5) t0 h ?_
 replace z := callK_some z; rcases z with ⟨r6, h_3, e4, z⟩ | ⟨r6, h_3, e4, q36⟩
 ·replace z := oS z; obtain ⟨t6, c5, z⟩ := z
  have c5 := avInt_some c5
  subst c5
  refine WL.c (hc.ok w0) (some 6) e4 ?_
  replace z := oS z; obtain ⟨t7, e6, z⟩ := z
  refine WL.b (some 7) (.int .u8 t7) h_3 (shl_int (P := Pg) (h := h_3) (t := 5) (k' := .u64) (lit := true) e6) ?_
  refine WL.a (some 3) (.int .u8 t7) h_3 ?_
  refine WL.n ?_
  refine Go.weaken (l' := [(0, t0), (3, .int .u8 t7)]) (Fr.c (Fr.c Fr.n)) ?_
  refine n2 ?_
  refine W.s (fun K7 n7 _ _ p7 => ?_)
  refine W.s (fun _ n8 _ _ _ => ?_)
  refine W.r ?_
  refine WL.a (some 8) (.int .u8 t7) h_3 ?_
  replace z := callN_some z; obtain ⟨r9, h_9, e10, z⟩ := z
  replace z := oS z; obtain ⟨t9, c11, z⟩ := z
  have c11 := avBool_some c11
  subst c11
  refine WL.c (hc.ok w0) (some 9) e10 ?_
  replace z := lS z; obtain ⟨t10, e12, z⟩ := z
  refine WL.val (d := (some 10)) (v := .bool t10) (h' := h_9) (by kernel_rfl) (by kernel_rfl) (val_of AV.bool e12 (by kernel_rfl)) ?_
  refine WL.n ?_
  refine Go.weaken (l' := [(0, t0), (3, .int .u8 t7), (10, .bool t10)]) (Fr.c (Fr.c (Fr.c Fr.n))) ?_
  refine n8 ?_
  replace z := lS z; obtain ⟨k13, e13, z⟩ := z
  have J13 : ∀  (h_14 : AHeap), k13 h_14 = some (rR, hR) → Go w0 m0 (Func.ntmps Tryd.f66) (K7 .normal) [(0, t0), (3, .int .u8 t7)] [] h_14 := by
   intro  h_14 z
   rw [e13] at z
   refine n7 ?_
   refine W.s (fun _ n15 _ _ p15 => ?_)
   refine W.r ?_
   refine WL.a (some 13) (.int .u8 t7) h_14 ?_
   refine WL.a (some 14) t0 h_14 ?_
   replace z := callK_some z; rcases z with ⟨r15, h_16, e17, z⟩ | ⟨r15, h_16, e17, q32⟩
   ·replace z := oS z; obtain ⟨t15, c18, z⟩ := z
    have c18 := avInt_some c18
    subst c18
    refine WL.c (hc.ok w0) (some 15) e17 ?_
    replace z := lS z; obtain ⟨t16, e19, z⟩ := z
    refine WL.val (d := (some 16)) (v := .int .u8 t16) (h' := h_16) (by kernel_rfl) (by kernel_rfl) (val_of (AV.int .u8) e19 (by kernel_rfl)) ?_
    refine WL.a (some 4) (.int .u8 t16) h_16 ?_
    refine WL.n ?_
    refine Go.weaken (l' := [(0, t0), (4, .int .u8 t16)]) (Fr.c (Fr.c Fr.n)) ?_
    refine n15 ?_
    refine W.s (fun K20 n20 _ _ p20 => ?_)
    refine W.s (fun _ n21 _ _ _ => ?_)
    refine W.r ?_
    refine WL.a (some 17) (.int .u8 t16) h_16 ?_
    replace z := callN_some z; obtain ⟨r18, h_22, e23, z⟩ := z
    replace z := oS z; obtain ⟨t18, c24, z⟩ := z
    have c24 := avBool_some c24
    subst c24
    refine WL.c (hc.ok w0) (some 18) e23 ?_
    replace z := lS z; obtain ⟨t19, e25, z⟩ := z
    refine WL.val (d := (some 19)) (v := .bool t19) (h' := h_22) (by kernel_rfl) (by kernel_rfl) (val_of AV.bool e25 (by kernel_rfl)) ?_
    refine WL.n ?_
    refine Go.weaken (l' := [(0, t0), (4, .int .u8 t16), (19, .bool t19)]) (Fr.c (Fr.c (Fr.c Fr.n))) ?_
    refine n21 ?_
    replace z := lS z; obtain ⟨k26, e26, z⟩ := z
    have J26 : ∀  (h_27 : AHeap), k26 h_27 = some (rR, hR) → Go w0 m0 (Func.ntmps Tryd.f66) (K20 .normal) [(4, .int .u8 t16)] [] h_27 := by
     intro  h_27 z
     rw [e26] at z
     refine n20 ?_
     refine W.s (fun _ n28 _ _ _ => ?_)
     refine W.r ?_
     refine WL.a (some 22) (.int .u8 t16) h_27 ?_
     refine WL.a (some 2) (.int .u8 t16) h_27 ?_
     refine WL.n ?_
     refine Go.weaken (l' := [(2, .int .u8 t16)]) (Fr.c Fr.n) ?_
     refine n28 ?_
     refine W.ret (by kernel_rfl) ?_
     obtain ⟨z, hF2⟩ := ret_inj z; subst z; subst hF2
     exact leave_of (rs := [.tmp 2]) (vs := [.int .u8 t16]) (by kernel_rfl) (res_tmp (by kernel_rfl) res_nil) (by kernel_rfl)
    cases t19 with
    | true =>
     replace z := ifB_t z
     refine W.t ?_
     refine W.r ?_
     refine WL.a (some 20) t0 h_22 ?_
     replace z := callK_some z; rcases z with ⟨r21, h_29, e30, z⟩ | ⟨r21, h_29, e30, q31⟩
     ·refine WL.c (hc.ok w0) (some 21) e30 ?_
      refine WL.n ?_
      refine Go.weaken (l' := [(4, .int .u8 t16)]) (Fr.c Fr.n) ?_
      exact Go.weaken (Fr.c Fr.n) (J26 _ z)
     ·obtain ⟨zq, zr⟩ := pan_inj q31; subst zq; subst zr
      exact WL.callPanic (hc.ok w0) (d := (some 21)) (by kernel_rfl) (by kernel_rfl) (by kernel_rfl) e30 (p20 Pan.fin)
    | false =>
     replace z := ifB_f z
     refine W.f ?_
     refine W.skip (by kernel_rfl) ?_
     exact Go.weaken (Fr.c Fr.n) (J26 _ z)
   ·obtain ⟨zq, zr⟩ := pan_inj q32; subst zq; subst zr
    exact WL.callPanic (hc.ok w0) (d := (some 15)) (by kernel_rfl) (by kernel_rfl) (by kernel_rfl) e17 (p15 Pan.fin)
  cases t10 with
  | true =>
   replace z := ifB_t z
   refine W.t ?_
   refine W.r ?_
   refine WL.a (some 11) t0 h_9 ?_
   replace z := callK_some z; rcases z with ⟨r12, h_33, e34, z⟩ | ⟨r12, h_33, e34, q35⟩
   ·refine WL.c (hc.ok w0) (some 12) e34 ?_
    refine WL.n ?_
    refine Go.weaken (l' := [(0, t0), (3, .int .u8 t7)]) (Fr.c (Fr.c Fr.n)) ?_
    exact Go.weaken (Fr.c (Fr.c Fr.n)) (J13 _ z)
   ·obtain ⟨zq, zr⟩ := pan_inj q35; subst zq; subst zr
    exact WL.callPanic (hc.ok w0) (d := (some 12)) (by kernel_rfl) (by kernel_rfl) (by kernel_rfl) e34 (p7 Pan.fin)
  | false =>
   replace z := ifB_f z
   refine W.f ?_
   refine W.skip (by kernel_rfl) ?_
   exact Go.weaken (Fr.c (Fr.c Fr.n)) (J13 _ z)
 ·obtain ⟨zq, zr⟩ := pan_inj q36; subst zq; subst zr
  exact WL.callPanic (hc.ok w0) (d := (some 6)) (by kernel_rfl) (by kernel_rfl) (by kernel_rfl) e4 (p2 Pan.fin)
noncomputable def pattern_reader_twoDigits_fn (call : CallF) (n : Nat) : FnT := fun args h => match args with
 | [x0] => pattern_reader_twoDigits call n x0 h
 | _ => none
set_option maxRecDepth 100000 in
theorem pattern_reader_twoDigits_fn_eq (call : CallF) (n : Nat) (t0 : AV) (h : AHeap) : pattern_reader_twoDigits_fn call n [t0] h = pattern_reader_twoDigits call n t0 h :=
 rfl
theorem pattern_reader_twoDigits_holds {call : CallF} (hc : SaysAll Pg call) (n : Nat) : Holds Pg 66 (pattern_reader_twoDigits_fn call n) := by
 intro args h r h2 e
 unfold pattern_reader_twoDigits_fn at e
 split at e
 ·exact pattern_reader_twoDigits_ok hc e
 ·cases e
noncomputable def pattern_reader_digit (call : CallF) (_ : Nat) (t0 : AV) (h : AHeap) : R :=
 callK (call 64 [t0] h) fun r5 h_3 =>
 obind (avInt .u8 r5) fun t5 =>
 callN (call 71 [strA ([48, 49, 50, 51, 52, 53, 54, 55, 56, 57, 97, 98, 99, 100, 101, 102] : Bytes), .int .u8 t5] h_3) fun r6 h_6 =>
 obind (avInt .i64 r6) fun t6 =>
 lett (decide (t6 < 0)) fun (t8 : Bool) =>
 lett (fun  (h_13 : AHeap) =>
  lett (IntKind.u8.wrap t6) fun (t12 : Int) =>
  some (.ret (.int .u8 t12), h_13)) fun k12 =>
 ifB t8
 (
  callK (call 65 [t0] h_6) fun _ h_16 =>
  k12 h_16)
 (
  k12 h_6)
theorem pattern_reader_digit_ok {call : CallF} (hc : SaysAll Pg call) {n : Nat} {t0 : AV} {h : AHeap} {rR : ARes} {hR : AHeap} (z : pattern_reader_digit call n t0 h = some (rR, hR)) : Says Pg 68 [t0] h rR hR := by
 unfold pattern_reader_digit at z
 refine says_of (fn := Tryd.f68) Tryd.func68 (c := codeOf Tryd.f68) (by kernel_rfl) (by kernel_rfl) (fun w0 m0 => ?_)
 refine W.weaken (l' := [(0, t0)]) (Fr.c Fr.n) ?_
 refine W.s (fun _ n1 _ _ _ => ?_)
 refine W.r ?_
 refine WL.a (some 2) (.int .u8 0) h ?_
 refine WL.n ?_
 refine Go.weaken (l' := [(0, t0)]) (Fr.c Fr.n) ?_
 refine n1 ?_
 refine W.s (fun _ n2 _ _ p2 => ?_)
 refine W.r ?_
 refine WL.a (some 4) t0 h ?_
 replace z := callK_some z; rcases z with ⟨r5, h_3, e4, z⟩ | ⟨r5, h_3, e4, q19⟩
 ·replace z := oS z; obtain ⟨t5, c5, z⟩ := z
  have c5 := avInt_some c5
  subst c5
  refine WL.c (hc.ok w0) (some 5) e4 ?_
  replace z := callN_some z; obtain ⟨r6, h_6, e7, z⟩ := z
  replace z := oS z; obtain ⟨t6, c8, z⟩ := z
  have c8 := avInt_some c8
  subst c8
  refine WL.c (hc.ok w0) (some 6) e7 ?_
  refine WL.a (some 3) (.int .i64 t6) h_6 ?_
  refine WL.n ?_
  refine Go.weaken (l' := [(0, t0), (3, .int .i64 t6)]) (Fr.c (Fr.c Fr.n)) ?_
  refine n2 ?_
  refine W.s (fun K9 n9 _ _ p9 => ?_)
  refine W.s (fun _ n10 _ _ _ => ?_)
  refine W.r ?_
  refine WL.a (some 7) (.int .i64 t6) h_6 ?_
  replace z := lS z; obtain ⟨t8, e11, z⟩ := z
  refine WL.val (d := (some 8)) (v := .bool t8) (h' := h_6) (by kernel_rfl) (by kernel_rfl) (val_of AV.bool e11 (by kernel_rfl)) ?_
  refine WL.n ?_
  refine Go.weaken (l' := [(0, t0), (3, .int .i64 t6), (8, .bool t8)]) (Fr.c (Fr.c (Fr.c Fr.n))) ?_
  refine n10 ?_
  replace z := lS z; obtain ⟨k12, e12, z⟩ := z
  have J12 : ∀  (h_13 : AHeap), k12 h_13 = some (rR, hR) → Go w0 m0 (Func.ntmps Tryd.f68) (K9 .normal) [(3, .int .i64 t6)] [] h_13 := by
   intro  h_13 z
   rw [e12] at z
   refine n9 ?_
   refine W.s (fun _ n14 _ _ _ => ?_)
   refine W.r ?_
   refine WL.a (some 11) (.int .i64 t6) h_13 ?_
   replace z := lS z; obtain ⟨t12, e15, z⟩ := z
   refine WL.val (d := (some 12)) (v := .int .u8 t12) (h' := h_13) (by kernel_rfl) (by kernel_rfl) (val_of (AV.int .u8) e15 (by kernel_rfl)) ?_
   refine WL.a (some 2) (.int .u8 t12) h_13 ?_
   refine WL.n ?_
   refine Go.weaken (l' := [(2, .int .u8 t12)]) (Fr.c Fr.n) ?_
   refine n14 ?_
   refine W.ret (by kernel_rfl) ?_
   obtain ⟨z, hF2⟩ := ret_inj z; subst z; subst hF2
   exact leave_of (rs := [.tmp 2]) (vs := [.int .u8 t12]) (by kernel_rfl) (res_tmp (by kernel_rfl) res_nil) (by kernel_rfl)
  cases t8 with
  | true =>
   replace z := ifB_t z
   refine W.t ?_
   refine W.r ?_
   refine WL.a (some 9) t0 h_6 ?_
   replace z := callK_some z; rcases z with ⟨r10, h_16, e17, z⟩ | ⟨r10, h_16, e17, q18⟩
   ·refine WL.c (hc.ok w0) (some 10) e17 ?_
    refine WL.n ?_
    refine Go.weaken (l' := [(3, .int .i64 t6)]) (Fr.c Fr.n) ?_
    exact Go.weaken (Fr.c Fr.n) (J12 _ z)
   ·obtain ⟨zq, zr⟩ := pan_inj q18; subst zq; subst zr
    exact WL.callPanic (hc.ok w0) (d := (some 10)) (by kernel_rfl) (by kernel_rfl) (by kernel_rfl) e17 (p9 Pan.fin)
  | false =>
   replace z := ifB_f z
   refine W.f ?_
   refine W.skip (by kernel_rfl) ?_
   exact Go.weaken (Fr.c Fr.n) (J12 _ z)
 ·obtain ⟨zq, zr⟩ := pan_inj q19; subst zq; subst zr
  exact WL.callPanic (hc.ok w0) (d := (some 5)) (by kernel_rfl) (by kernel_rfl) (by kernel_rfl) e4 (p2 Pan.fin)
noncomputable def pattern_reader_digit_fn (call : CallF) (n : Nat) : FnT := fun args h => match args with
 | [x0] => pattern_reader_digit call n x0 h
 | _ => none
set_option maxRecDepth 100000 in
theorem pattern_reader_digit_fn_eq (call : CallF) (n : Nat) (t0 : AV) (h : AHeap) : pattern_reader_digit_fn call n [t0] h = pattern_reader_digit call n t0 h :=
 rfl
theorem pattern_reader_digit_holds {call : CallF} (hc : SaysAll Pg call) (n : Nat) : Holds Pg 68 (pattern_reader_digit_fn call n) := by
 intro args h r h2 e
 unfold pattern_reader_digit_fn at e
 split at e
 ·exact pattern_reader_digit_ok hc e
 ·cases e
noncomputable def pattern_mayBegin_L0b (call : CallF) (t0 : Int) (k5 : AHeap → R) (self : Int → AHeap → R) (t4 : Int) (h_9 : AHeap) : R :=
 lett (decide (t4 < 16)) fun (t5 : Bool) =>
 ifB t5
 (
  lett (IntKind.u8.wrap t4) fun (t9 : Int) =>
  lett (orI .u8 t0 t9) fun (t10 : Int) =>
  callN (call 70 [.int .u8 t10] h_9) fun r11 h_19 =>
  obind (avBool r11) fun t11 =>
  ifB t11
  (
   some (.ret (.bool true), h_19))
  (
   lett (IntKind.i64.wrap (t4 + 1)) fun (t12 : Int) =>
   self t12 h_19))
 (
  k5 h_9)
noncomputable def pattern_mayBegin_L0 (call : CallF) (t0 : Int) (k5 : AHeap → R) : Nat → Int → AHeap → R := iterR (fun _ _ => none) (pattern_mayBegin_L0b call t0 k5)
theorem pattern_mayBegin_L0_s (call : CallF) (t0 : Int) (k5 : AHeap → R) (m : Nat) : pattern_mayBegin_L0 call t0 k5 (m + 1) = pattern_mayBegin_L0b call t0 k5 (pattern_mayBegin_L0 call t0 k5 m) := rfl
noncomputable def pattern_mayBegin (call : CallF) (n : Nat) (t0 : Int) (h : AHeap) : R :=
 lett (fun  (h_6 : AHeap) =>
  some (.ret (.bool false), h_6)) fun k5 =>
 pattern_mayBegin_L0 call t0 k5 n 0 h
theorem pattern_mayBegin_ok {call : CallF} (hc : SaysAll Pg call) {n : Nat} {t0 : Int} {h : AHeap} {rR : ARes} {hR : AHeap} (z : pattern_mayBegin call n t0 h = some (rR, hR)) : Says Pg 69 [.int .u8 t0] h rR hR := by
 unfold pattern_mayBegin at z
 refine says_of (fn := Tryd.f69) Tryd.func69 (c := codeOf Tryd.f69) (by kernel_rfl) (by kernel_rfl) (fun w0 m0 => ?_)
 refine W.weaken (l' := [(0, .int .u8 t0)]) (Fr.c Fr.n) ?_
 refine W.s (fun _ n1 _ _ _ => ?_)
 refine W.r ?_
 refine WL.a (some 2) (.bool false) h ?_
 refine WL.n ?_
 refine Go.weaken (l' := [(0, .int .u8 t0)]) (Fr.c Fr.n) ?_
 refine n1 ?_
 refine W.s (fun K2 n2 _ q2 _ => ?_)
 refine W.s (fun _ n3 _ _ _ => ?_)
 refine W.r ?_
 refine WL.a (some 4) (.int .i64 0) h ?_
 refine WL.n ?_
 refine Go.weaken (l' := [(0, .int .u8 t0), (4, .int .i64 0)]) (Fr.c (Fr.c Fr.n)) ?_
 refine n3 ?_
 replace z := lS z; obtain ⟨k5, e5, z⟩ := z
 have J5 : ∀  (h_6 : AHeap), k5 h_6 = some (rR, hR) → Go w0 m0 (Func.ntmps Tryd.f69) (K2 .normal) [] [] h_6 := by
  intro  h_6 z
  rw [e5] at z
  refine n2 ?_
  refine W.s (fun _ n7 _ _ _ => ?_)
  refine W.r ?_
  refine WL.a (some 2) (.bool false) h_6 ?_
  refine WL.n ?_
  refine Go.weaken (l' := [(2, .bool false)]) (Fr.c Fr.n) ?_
  refine n7 ?_
  refine W.ret (by kernel_rfl) ?_
  obtain ⟨z, hF2⟩ := ret_inj z; subst z; subst hF2
  exact leave_of (rs := [.tmp 2]) (vs := [.bool false]) (by kernel_rfl) (res_tmp (by kernel_rfl) res_nil) (by kernel_rfl)
 refine W.blockK (by kernel_rfl) (fun K4 n4 s4 o4 q4 p4 => ?_)
 refine W.loopK (by kernel_rfl) (fun I8 K8 b8 n8 e8 q8 p8 => ?_)
 have L8 : ∀ (m : Nat) (t4 : Int) (h_9 : AHeap), pattern_mayBegin_L0 call t0 k5 m t4 h_9 = some (rR, hR) → Go w0 m0 (Func.ntmps Tryd.f69) I8 [(0, .int .u8 t0), (4, .int .i64 t4)] [] h_9 := by
  intro m
  induction m with
  | zero => intro t4 h_9 z; cases z
  | succ m ih8 =>
   intro t4 h_9 z
   rw [pattern_mayBegin_L0_s] at z; unfold pattern_mayBegin_L0b at z
   refine b8 ?_
   refine W.s (fun _ n10 _ _ _ => ?_)
   refine W.r ?_
   replace z := lS z; obtain ⟨t5, e11, z⟩ := z
   refine WL.val (d := (some 5)) (v := .bool t5) (h' := h_9) (by kernel_rfl) (by kernel_rfl) (val_of AV.bool e11 (by kernel_rfl)) ?_
   refine WL.n ?_
   refine Go.weaken (l' := [(0, .int .u8 t0), (4, .int .i64 t4), (5, .bool t5)]) (Fr.c (Fr.c (Fr.c Fr.n))) ?_
   refine n10 ?_
   refine W.s (fun _ n12 e12 _ _ => ?_)
   cases t5 with
   | true =>
    replace z := ifB_t z
    refine W.t ?_
    refine W.skip (by kernel_rfl) ?_
    refine n12 ?_
    refine W.s (fun _ n13 _ q13 _ => ?_)
    refine W.blockK (by kernel_rfl) (fun K14 n14 s14 o14 q14 p14 => ?_)
    refine W.s (fun _ n15 _ _ _ => ?_)
    refine W.r ?_
    refine WL.a (some 6) (.int .i64 t4) h_9 ?_
    refine WL.a (some 3) (.int .i64 t4) h_9 ?_
    refine WL.n ?_
    refine Go.weaken (l' := [(0, .int .u8 t0), (3, .int .i64 t4), (4, .int .i64 t4)]) (Fr.c (Fr.c (Fr.c Fr.n))) ?_
    refine n15 ?_
    refine W.s (fun _ n16 _ _ _ => ?_)
    refine W.r ?_
    refine WL.a (some 7) (.int .u8 t0) h_9 ?_
    refine WL.a (some 8) (.int .i64 t4) h_9 ?_
    replace z := lS z; obtain ⟨t9, e17, z⟩ := z
    refine WL.val (d := (some 9)) (v := .int .u8 t9) (h' := h_9) (by kernel_rfl) (by kernel_rfl) (val_of (AV.int .u8) e17 (by kernel_rfl)) ?_
    replace z := lS z; obtain ⟨t10, e18, z⟩ := z
    refine WL.val (d := (some 10)) (v := .int .u8 t10) (h' := h_9) (by kernel_rfl) (by kernel_rfl) (val_of (AV.int .u8) e18 (by kernel_rfl)) ?_
    replace z := callN_some z; obtain ⟨r11, h_19, e20, z⟩ := z
    replace z := oS z; obtain ⟨t11, c21, z⟩ := z
    have c21 := avBool_some c21
    subst c21
    refine WL.c (hc.ok w0) (some 11) e20 ?_
    refine WL.n ?_
    refine Go.weaken (l' := [(0, .int .u8 t0), (4, .int .i64 t4), (11, .bool t11)]) (Fr.c (Fr.c (Fr.c Fr.n))) ?_
    refine n16 ?_
    cases t11 with
    | true =>
     replace z := ifB_t z
     refine W.t ?_
     refine W.s (fun _ n22 _ _ _ => ?_)
     refine W.r ?_
     refine WL.a (some 2) (.bool true) h_19 ?_
     refine WL.n ?_
     refine Go.weaken (l' := [(2, .bool true)]) (Fr.c Fr.n) ?_
     refine n22 ?_
     refine W.ret (by kernel_rfl) ?_
     refine q14 ?_
     refine q13 ?_
     refine q8 ?_
     refine q4 ?_
     refine q2 ?_
     obtain ⟨z, hF2⟩ := ret_inj z; subst z; subst hF2
     exact leave_of (rs := [.tmp 2]) (vs := [.bool true]) (by kernel_rfl) (res_tmp (by kernel_rfl) res_nil) (by kernel_rfl)
    | false =>
     replace z := ifB_f z
     refine W.f ?_
     refine W.skip (by kernel_rfl) ?_
     refine n14 ?_
     refine n13 ?_
     refine W.r ?_
     replace z := lS z; obtain ⟨t12, e23, z⟩ := z
     refine WL.val (d := (some 12)) (v := .int .i64 t12) (h' := h_19) (by kernel_rfl) (by kernel_rfl) (val_of (AV.int .i64) e23 (by kernel_rfl)) ?_
     refine WL.a (some 4) (.int .i64 t12) h_19 ?_
     refine WL.n ?_
     refine Go.weaken (l' := [(0, .int .u8 t0), (4, .int .i64 t12)]) (Fr.c (Fr.c Fr.n)) ?_
     refine n8 ?_
     exact Go.weaken (Fr.c (Fr.c Fr.n)) (ih8 _ _ z)
   | false =>
    replace z := ifB_f z
    refine W.f ?_
    refine W.exit (by kernel_rfl) ?_
    refine e12 ?_
    refine e8 ?_
    refine s4 (by kernel_rfl) ?_
    exact Go.weaken Fr.n (J5 _ z)
 exact Go.weaken (Fr.c (Fr.c Fr.n)) (L8 _ _ _ z)
noncomputable def pattern_mayBegin_fn (call : CallF) (n : Nat) : FnT := fun args h => match args with
 | [x0] => obind (avInt .u8 x0) fun t0 => pattern_mayBegin call n t0 h
 | _ => none
set_option maxRecDepth 100000 in
theorem pattern_mayBegin_fn_eq (call : CallF) (n : Nat) (t0 : Int) (h : AHeap) : pattern_mayBegin_fn call n [.int .u8 t0] h = pattern_mayBegin call n t0 h :=
 (Eq.trans (obind_eq (fun t0 => pattern_mayBegin call n t0 h) (avInt_int .u8 t0)) rfl)
theorem pattern_mayBegin_holds {call : CallF} (hc : SaysAll Pg call) (n : Nat) : Holds Pg 69 (pattern_mayBegin_fn call n) := by
 intro args h r h2 e
 unfold pattern_mayBegin_fn at e
 split at e
 ·replace e := oS e; obtain ⟨t0, c0, e⟩ := e; have c0 := avInt_some c0; subst c0
  exact pattern_mayBegin_ok hc e
 ·cases e
noncomputable def pattern_byDigits (call : CallF) (_ : Nat) (t0 : Int) (h : AHeap) : R :=
 callN (call 35 [.int .u8 t0] h) fun r4 h_3 =>
 obind (avInt .u8 r4) fun t4 =>
 lett ((t4 : Int) == 0) fun (t5 : Bool) =>
 lett (fun (t10 : Bool) (h_7 : AHeap) =>
  some (.ret (.bool t10), h_7)) fun j10 =>
 ifB t5
 (
  callN (call 36 [.int .u8 t0] h_3) fun r8 h_10 =>
  obind (avBool r8) fun t8 =>
  lett (!t8) fun (t9 : Bool) =>
  j10 t9 h_10)
 (
  j10 false h_3)
theorem pattern_byDigits_ok {call : CallF} (hc : SaysAll Pg call) {n : Nat} {t0 : Int} {h : AHeap} {rR : ARes} {hR : AHeap} (z : pattern_byDigits call n t0 h = some (rR, hR)) : Says Pg 70 [.int .u8 t0] h rR hR := by
 unfold pattern_byDigits at z
 refine says_of (fn := Tryd.f70) Tryd.func70 (c := codeOf Tryd.f70) (by kernel_rfl) (by kernel_rfl) (fun w0 m0 => ?_)
 refine W.weaken (l' := [(0, .int .u8 t0)]) (Fr.c Fr.n) ?_
 refine W.s (fun _ n1 _ _ p1 => ?_)
 refine W.r ?_
 refine WL.a (some 2) (.bool false) h ?_
 refine WL.n ?_
 refine Go.weaken (l' := [(0, .int .u8 t0)]) (Fr.c Fr.n) ?_
 refine n1 ?_
 refine W.s (fun K2 n2 _ _ p2 => ?_)
 refine W.r ?_
 refine WL.a (some 3) (.int .u8 t0) h ?_
 replace z := callN_some z; obtain ⟨r4, h_3, e4, z⟩ := z
 replace z := oS z; obtain ⟨t4, c5, z⟩ := z
 have c5 := avInt_some c5
 subst c5
 refine WL.c (hc.ok w0) (some 4) e4 ?_
 replace z := lS z; obtain ⟨t5, e6, z⟩ := z
 refine WL.val (d := (some 5)) (v := .bool t5) (h' := h_3) (by kernel_rfl) (by kernel_rfl) (val_of AV.bool e6 (by kernel_rfl)) ?_
 refine WL.a (some 6) (.bool t5) h_3 ?_
 replace z := lS z; obtain ⟨j10, e8, z⟩ := z
 have J9 : ∀ (t10 : Bool) (h_7 : AHeap), j10 t10 h_7 = some (rR, hR) → WL Pg w0 m0 (Func.ntmps Tryd.f70) (Code.ops (Code.p1 (Code.p2 (codeOf Tryd.f70)))) 8 K2 [(10, .bool t10)] [] h_7 := by
  intro t10 h_7 z
  rw [e8] at z
  refine WL.a (some 2) (.bool t10) h_7 ?_
  refine WL.n ?_
  refine Go.weaken (l' := [(2, .bool t10)]) (Fr.c Fr.n) ?_
  refine n2 ?_
  refine W.ret (by kernel_rfl) ?_
  obtain ⟨z, hF2⟩ := ret_inj z; subst z; subst hF2
  exact leave_of (rs := [.tmp 2]) (vs := [.bool t10]) (by kernel_rfl) (res_tmp (by kernel_rfl) res_nil) (by kernel_rfl)
 cases t5 with
 | true =>
  replace z := ifB_t z
  refine WL.a (some 7) (.int .u8 t0) h_3 ?_
  replace z := callN_some z; obtain ⟨r8, h_10, e11, z⟩ := z
  replace z := oS z; obtain ⟨t8, c12, z⟩ := z
  have c12 := avBool_some c12
  subst c12
  refine WL.c (hc.ok w0) (some 8) e11 ?_
  replace z := lS z; obtain ⟨t9, e13, z⟩ := z
  refine WL.val (d := (some 9)) (v := .bool t9) (h' := h_10) (by kernel_rfl) (by kernel_rfl) (val_of AV.bool e13 (by kernel_rfl)) ?_
  refine WL.a (some 10) (.bool t9) h_10 ?_
  exact WL.weaken (Fr.c Fr.n) (J9 _ _ z)
 | false =>
  replace z := ifB_f z
  refine WL.o (some 7) ?_
  refine WL.o (some 8) ?_
  refine WL.o (some 9) ?_
  refine WL.a (some 10) (.bool false) h_3 ?_
  exact WL.weaken (Fr.c Fr.n) (J9 _ _ z)
noncomputable def pattern_byDigits_fn (call : CallF) (n : Nat) : FnT := fun args h => match args with
 | [x0] => obind (avInt .u8 x0) fun t0 => pattern_byDigits call n t0 h
 | _ => none
set_option maxRecDepth 100000 in
theorem pattern_byDigits_fn_eq (call : CallF) (n : Nat) (t0 : Int) (h : AHeap) : pattern_byDigits_fn call n [.int .u8 t0] h = pattern_byDigits call n t0 h :=
 (Eq.trans (obind_eq (fun t0 => pattern_byDigits call n t0 h) (avInt_int .u8 t0)) rfl)
theorem pattern_byDigits_holds {call : CallF} (hc : SaysAll Pg call) (n : Nat) : Holds Pg 70 (pattern_byDigits_fn call n) := by
 intro args h r h2 e
 unfold pattern_byDigits_fn at e
 split at e
 ·replace e := oS e; obtain ⟨t0, c0, e⟩ := e; have c0 := avInt_some c0; subst c0
  exact pattern_byDigits_ok hc e
 ·cases e
noncomputable def pattern_short (_ : CallF) (_ : Nat) (t0 : Int) (h : AHeap) : R :=
 lett ((t0 : Int) == 34) fun (t5 : Bool) =>
 lett (fun (t4 : Bool) (h_9 : AHeap) =>
  ifB t4
  (
   some (.ret (.int .u8 t0), h_9))
  (
   lett ((t0 : Int) == 10) fun (t9 : Bool) =>
   ifB t9
   (
    some (.ret (.int .u8 110), h_9))
   (
    lett ((t0 : Int) == 13) fun (t11 : Bool) =>
    ifB t11
    (
     some (.ret (.int .u8 114), h_9))
    (
     lett ((t0 : Int) == 9) fun (t13 : Bool) =>
     ifB t13
     (
      some (.ret (.int .u8 116), h_9))
     (
      some (.ret (.int .u8 0), h_9)))))) fun k8 =>
 ifB t5
 (
  k8 true h)
 (
  lett ((t0 : Int) == 92) fun (t6 : Bool) =>
  k8 t6 h)
theorem pattern_short_ok {call : CallF} (_ : SaysAll Pg call) {n : Nat} {t0 : Int} {h : AHeap} {rR : ARes} {hR : AHeap} (z : pattern_short call n t0 h = some (rR, hR)) : Says Pg 35 [.int .u8 t0] h rR hR := by
 unfold pattern_short at z
 refine says_of (fn := Tryd.f35) Tryd.func35 (c := codeOf Tryd.f35) (by kernel_rfl) (by kernel_rfl) (fun w0 m0 => ?_)
 refine W.weaken (l' := [(0, .int .u8 t0)]) (Fr.c Fr.n) ?_
 refine W.s (fun _ n1 _ _ _ => ?_)
 refine W.r ?_
 refine WL.a (some 2) (.int .u8 0) h ?_
 refine WL.n ?_
 refine Go.weaken (l' := [(0, .int .u8 t0)]) (Fr.c Fr.n) ?_
 refine n1 ?_
 refine W.s (fun _ n2 _ q2 _ => ?_)
 refine W.s (fun _ n3 _ _ _ => ?_)
 refine W.r ?_
 refine WL.a (some 3) (.int .u8 t0) h ?_
 refine WL.n ?_
 refine Go.weaken (l' := [(0, .int .u8 t0), (3, .int .u8 t0)]) (Fr.c (Fr.c Fr.n)) ?_
 refine n3 ?_
 refine W.blockK (by kernel_rfl) (fun K4 n4 s4 o4 q4 p4 => ?_)
 refine W.s (fun K5 n5 _ _ _ => ?_)
 refine W.s (fun _ n6 _ _ _ => ?_)
 refine W.r ?_
 replace z := lS z; obtain ⟨t5, e7, z⟩ := z
 refine WL.val (d := (some 5)) (v := .bool t5) (h' := h) (by kernel_rfl) (by kernel_rfl) (val_of AV.bool e7 (by kernel_rfl)) ?_
 refine WL.a (some 4) (.bool t5) h ?_
 refine WL.n ?_
 refine Go.weaken (l' := [(0, .int .u8 t0), (3, .int .u8 t0), (4, .bool t5)]) (Fr.c (Fr.c (Fr.c Fr.n))) ?_
 refine n6 ?_
 replace z := lS z; obtain ⟨k8, e8, z⟩ := z
 have J8 : ∀ (t4 : Bool) (h_9 : AHeap), k8 t4 h_9 = some (rR, hR) → Go w0 m0 (Func.ntmps Tryd.f35) (K5 .normal) [(0, .int .u8 t0), (3, .int .u8 t0), (4, .bool t4)] [] h_9 := by
  intro t4 h_9 z
  rw [e8] at z
  refine n5 ?_
  cases t4 with
  | true =>
   replace z := ifB_t z
   refine W.t ?_
   refine W.s (fun _ n10 _ _ _ => ?_)
   refine W.r ?_
   refine WL.a (some 7) (.int .u8 t0) h_9 ?_
   refine WL.a (some 2) (.int .u8 t0) h_9 ?_
   refine WL.n ?_
   refine Go.weaken (l' := [(2, .int .u8 t0)]) (Fr.c Fr.n) ?_
   refine n10 ?_
   refine W.ret (by kernel_rfl) ?_
   refine q4 ?_
   refine q2 ?_
   obtain ⟨z, hF2⟩ := ret_inj z; subst z; subst hF2
   exact leave_of (rs := [.tmp 2]) (vs := [.int .u8 t0]) (by kernel_rfl) (res_tmp (by kernel_rfl) res_nil) (by kernel_rfl)
  | false =>
   replace z := ifB_f z
   refine W.f ?_
   refine W.s (fun _ n11 _ _ _ => ?_)
   refine W.r ?_
   replace z := lS z; obtain ⟨t9, e12, z⟩ := z
   refine WL.val (d := (some 9)) (v := .bool t9) (h' := h_9) (by kernel_rfl) (by kernel_rfl) (val_of AV.bool e12 (by kernel_rfl)) ?_
   refine WL.a (some 8) (.bool t9) h_9 ?_
   refine WL.n ?_
   refine Go.weaken (l' := [(3, .int .u8 t0), (8, .bool t9)]) (Fr.c (Fr.c Fr.n)) ?_
   refine n11 ?_
   cases t9 with
   | true =>
    replace z := ifB_t z
    refine W.t ?_
    refine W.s (fun _ n13 _ _ _ => ?_)
    refine W.r ?_
    refine WL.a (some 2) (.int .u8 110) h_9 ?_
    refine WL.n ?_
    refine Go.weaken (l' := [(2, .int .u8 110)]) (Fr.c Fr.n) ?_
    refine n13 ?_
    refine W.ret (by kernel_rfl) ?_
    refine q4 ?_
    refine q2 ?_
    obtain ⟨z, hF2⟩ := ret_inj z; subst z; subst hF2
    exact leave_of (rs := [.tmp 2]) (vs := [.int .u8 110]) (by kernel_rfl) (res_tmp (by kernel_rfl) res_nil) (by kernel_rfl)
   | false =>
    replace z := ifB_f z
    refine W.f ?_
    refine W.s (fun _ n14 _ _ _ => ?_)
    refine W.r ?_
    replace z := lS z; obtain ⟨t11, e15, z⟩ := z
    refine WL.val (d := (some 11)) (v := .bool t11) (h' := h_9) (by kernel_rfl) (by kernel_rfl) (val_of AV.bool e15 (by kernel_rfl)) ?_
    refine WL.a (some 10) (.bool t11) h_9 ?_
    refine WL.n ?_
    refine Go.weaken (l' := [(3, .int .u8 t0), (10, .bool t11)]) (Fr.c (Fr.c Fr.n)) ?_
    refine n14 ?_
    cases t11 with
    | true =>
     replace z := ifB_t z
     refine W.t ?_
     refine W.s (fun _ n16 _ _ _ => ?_)
     refine W.r ?_
     refine WL.a (some 2) (.int .u8 114) h_9 ?_
     refine WL.n ?_
     refine Go.weaken (l' := [(2, .int .u8 114)]) (Fr.c Fr.n) ?_
     refine n16 ?_
     refine W.ret (by kernel_rfl) ?_
     refine q4 ?_
     refine q2 ?_
     obtain ⟨z, hF2⟩ := ret_inj z; subst z; subst hF2
     exact leave_of (rs := [.tmp 2]) (vs := [.int .u8 114]) (by kernel_rfl) (res_tmp (by kernel_rfl) res_nil) (by kernel_rfl)
    | false =>
     replace z := ifB_f z
     refine W.f ?_
     refine W.s (fun _ n17 _ _ _ => ?_)
     refine W.r ?_
     replace z := lS z; obtain ⟨t13, e18, z⟩ := z
     refine WL.val (d := (some 13)) (v := .bool t13) (h' := h_9) (by kernel_rfl) (by kernel_rfl) (val_of AV.bool e18 (by kernel_rfl)) ?_
     refine WL.a (some 12) (.bool t13) h_9 ?_
     refine WL.n ?_
     refine Go.weaken (l' := [(12, .bool t13)]) (Fr.c Fr.n) ?_
     refine n17 ?_
     cases t13 with
     | true =>
      replace z := ifB_t z
      refine W.t ?_
      refine W.s (fun _ n19 _ _ _ => ?_)
      refine W.r ?_
      refine WL.a (some 2) (.int .u8 116) h_9 ?_
      refine WL.n ?_
      refine Go.weaken (l' := [(2, .int .u8 116)]) (Fr.c Fr.n) ?_
      refine n19 ?_
      refine W.ret (by kernel_rfl) ?_
      refine q4 ?_
      refine q2 ?_
      obtain ⟨z, hF2⟩ := ret_inj z; subst z; subst hF2
      exact leave_of (rs := [.tmp 2]) (vs := [.int .u8 116]) (by kernel_rfl) (res_tmp (by kernel_rfl) res_nil) (by kernel_rfl)
     | false =>
      replace z := ifB_f z
      refine W.f ?_
      refine W.skip (by kernel_rfl) ?_
      refine n4 ?_
      refine n2 ?_
      refine W.s (fun _ n20 _ _ _ => ?_)
      refine W.r ?_
      refine WL.a (some 2) (.int .u8 0) h_9 ?_
      refine WL.n ?_
      refine Go.weaken (l' := [(2, .int .u8 0)]) (Fr.c Fr.n) ?_
      refine n20 ?_
      refine W.ret (by kernel_rfl) ?_
      obtain ⟨z, hF2⟩ := ret_inj z; subst z; subst hF2
      exact leave_of (rs := [.tmp 2]) (vs := [.int .u8 0]) (by kernel_rfl) (res_tmp (by kernel_rfl) res_nil) (by kernel_rfl)
 cases t5 with
 | true =>
  replace z := ifB_t z
  refine W.t ?_
  refine W.skip (by kernel_rfl) ?_
  exact Go.weaken (Fr.c (Fr.c (Fr.c Fr.n))) (J8 _ _ z)
 | false =>
  replace z := ifB_f z
  refine W.f ?_
  refine W.r ?_
  replace z := lS z; obtain ⟨t6, e21, z⟩ := z
  refine WL.val (d := (some 6)) (v := .bool t6) (h' := h) (by kernel_rfl) (by kernel_rfl) (val_of AV.bool e21 (by kernel_rfl)) ?_
  refine WL.a (some 4) (.bool t6) h ?_
  refine WL.n ?_
  refine Go.weaken (l' := [(0, .int .u8 t0), (3, .int .u8 t0), (4, .bool t6)]) (Fr.c (Fr.c (Fr.c Fr.n))) ?_
  exact Go.weaken (Fr.c (Fr.c (Fr.c Fr.n))) (J8 _ _ z)
noncomputable def pattern_short_fn (call : CallF) (n : Nat) : FnT := fun args h => match args with
 | [x0] => obind (avInt .u8 x0) fun t0 => pattern_short call n t0 h
 | _ => none
set_option maxRecDepth 100000 in
theorem pattern_short_fn_eq (call : CallF) (n : Nat) (t0 : Int) (h : AHeap) : pattern_short_fn call n [.int .u8 t0] h = pattern_short call n t0 h :=
 (Eq.trans (obind_eq (fun t0 => pattern_short call n t0 h) (avInt_int .u8 t0)) rfl)
theorem pattern_short_holds {call : CallF} (hc : SaysAll Pg call) (n : Nat) : Holds Pg 35 (pattern_short_fn call n) := by
 intro args h r h2 e
 unfold pattern_short_fn at e
 split at e
 ·replace e := oS e; obtain ⟨t0, c0, e⟩ := e; have c0 := avInt_some c0; subst c0
  exact pattern_short_ok hc e
 ·cases e
noncomputable def pattern_plain (_ : CallF) (_ : Nat) (t0 : Int) (h : AHeap) : R :=
 lett (decide (t0 ≥ 32)) fun (t4 : Bool) =>
 lett (fun (t8 : Bool) (h_4 : AHeap) =>
  some (.ret (.bool t8), h_4)) fun j8 =>
 ifB t4
 (
  lett (decide (t0 ≤ 126)) fun (t7 : Bool) =>
  j8 t7 h)
 (
  j8 false h)
theorem pattern_plain_ok {call : CallF} (_ : SaysAll Pg call) {n : Nat} {t0 : Int} {h : AHeap} {rR : ARes} {hR : AHeap} (z : pattern_plain call n t0 h = some (rR, hR)) : Says Pg 36 [.int .u8 t0] h rR hR := by
 unfold pattern_plain at z
 refine says_of (fn := Tryd.f36) Tryd.func36 (c := codeOf Tryd.f36) (by kernel_rfl) (by kernel_rfl) (fun w0 m0 => ?_)
 refine W.weaken (l' := [(0, .int .u8 t0)]) (Fr.c Fr.n) ?_
 refine W.s (fun _ n1 _ _ p1 => ?_)
 refine W.r ?_
 refine WL.a (some 2) (.bool false) h ?_
 refine WL.n ?_
 refine Go.weaken (l' := [(0, .int .u8 t0)]) (Fr.c Fr.n) ?_
 refine n1 ?_
 refine W.s (fun K2 n2 _ _ p2 => ?_)
 refine W.r ?_
 refine WL.a (some 3) (.int .u8 t0) h ?_
 replace z := lS z; obtain ⟨t4, e3, z⟩ := z
 refine WL.val (d := (some 4)) (v := .bool t4) (h' := h) (by kernel_rfl) (by kernel_rfl) (val_of AV.bool e3 (by kernel_rfl)) ?_
 refine WL.a (some 5) (.bool t4) h ?_
 replace z := lS z; obtain ⟨j8, e5, z⟩ := z
 have J6 : ∀ (t8 : Bool) (h_4 : AHeap), j8 t8 h_4 = some (rR, hR) → WL Pg w0 m0 (Func.ntmps Tryd.f36) (Code.ops (Code.p1 (Code.p2 (codeOf Tryd.f36)))) 6 K2 [(8, .bool t8)] [] h_4 := by
  intro t8 h_4 z
  rw [e5] at z
  refine WL.a (some 2) (.bool t8) h_4 ?_
  refine WL.n ?_
  refine Go.weaken (l' := [(2, .bool t8)]) (Fr.c Fr.n) ?_
  refine n2 ?_
  refine W.ret (by kernel_rfl) ?_
  obtain ⟨z, hF2⟩ := ret_inj z; subst z; subst hF2
  exact leave_of (rs := [.tmp 2]) (vs := [.bool t8]) (by kernel_rfl) (res_tmp (by kernel_rfl) res_nil) (by kernel_rfl)
 cases t4 with
 | true =>
  replace z := ifB_t z
  refine WL.a (some 6) (.int .u8 t0) h ?_
  replace z := lS z; obtain ⟨t7, e7, z⟩ := z
  refine WL.val (d := (some 7)) (v := .bool t7) (h' := h) (by kernel_rfl) (by kernel_rfl) (val_of AV.bool e7 (by kernel_rfl)) ?_
  refine WL.a (some 8) (.bool t7) h ?_
  exact WL.weaken (Fr.c Fr.n) (J6 _ _ z)
 | false =>
  replace z := ifB_f z
  refine WL.o (some 6) ?_
  refine WL.o (some 7) ?_
  refine WL.a (some 8) (.bool false) h ?_
  exact WL.weaken (Fr.c Fr.n) (J6 _ _ z)
noncomputable def pattern_plain_fn (call : CallF) (n : Nat) : FnT := fun args h => match args with
 | [x0] => obind (avInt .u8 x0) fun t0 => pattern_plain call n t0 h
 | _ => none
set_option maxRecDepth 100000 in
theorem pattern_plain_fn_eq (call : CallF) (n : Nat) (t0 : Int) (h : AHeap) : pattern_plain_fn call n [.int .u8 t0] h = pattern_plain call n t0 h :=
 (Eq.trans (obind_eq (fun t0 => pattern_plain call n t0 h) (avInt_int .u8 t0)) rfl)
theorem pattern_plain_holds {call : CallF} (hc : SaysAll Pg call) (n : Nat) : Holds Pg 36 (pattern_plain_fn call n) := by
 intro args h r h2 e
 unfold pattern_plain_fn at e
 split at e
 ·replace e := oS e; obtain ⟨t0, c0, e⟩ := e; have c0 := avInt_some c0; subst c0
  exact pattern_plain_ok hc e
 ·cases e
noncomputable def strings_Builder_WriteByte (call : CallF) (_ : Nat) (t0 : AV) (t1 : Int) (h : AHeap) : R :=
 callN (call 34 [t0] h) fun _ h_3 =>
 obind (nilC t0) fun t9 =>
 obind (fldP 1 t9) fun t10 =>
 obind (ldCell h_3 t10) fun v11 =>
 outK (bldSl Pg h_3 50 1 [(0, .int .u8 t1)]) fun v13 h_9 =>
 outK (opAppend Pg h_9 50 50 v11 v13) fun v14 h_11 =>
 obind (nilC t0) fun t15 =>
 obind (fldP 1 t15) fun t16 =>
 obind (stRow h_11 1 (AV.cells v14) t16) fun h_15 =>
 some (.ret (AV.nifc), h_15)
theorem strings_Builder_WriteByte_ok {call : CallF} (hc : SaysAll Pg call) {n : Nat} {t0 : AV} {t1 : Int} {h : AHeap} {rR : ARes} {hR : AHeap} (z : strings_Builder_WriteByte call n t0 t1 h = some (rR, hR)) : Says Pg 23 [t0, .int .u8 t1] h rR hR := by
 unfold strings_Builder_WriteByte at z
 refine says_of (fn := Tryd.f23) Tryd.func23 (c := codeOf Tryd.f23) (by kernel_rfl) (by kernel_rfl) (fun w0 m0 => ?_)
 refine W.weaken (l' := [(0, t0), (1, .int .u8 t1)]) (Fr.c (Fr.c Fr.n)) ?_
 refine W.s (fun _ n1 _ _ _ => ?_)
 refine W.r ?_
 refine WL.a (some 4) AV.nifc h ?_
 refine WL.n ?_
 refine Go.weaken (l' := [(0, t0), (1, .int .u8 t1)]) (Fr.c (Fr.c Fr.n)) ?_
 refine n1 ?_
 refine W.s (fun _ n2 _ _ _ => ?_)
 refine W.r ?_
 refine WL.a (some 5) t0 h ?_
 replace z := callN_some z; obtain ⟨r6, h_3, e4, z⟩ := z
 refine WL.c (hc.ok w0) (some 6) e4 ?_
 refine WL.n ?_
 refine Go.weaken (l' := [(0, t0), (1, .int .u8 t1)]) (Fr.c (Fr.c Fr.n)) ?_
 refine n2 ?_
 refine W.s (fun _ n5 _ _ _ => ?_)
 refine W.r ?_
 refine WL.a (some 7) t0 h_3 ?_
 refine WL.a (some 8) t0 h_3 ?_
 replace z := oS z; obtain ⟨t9, e6, z⟩ := z
 refine WL.b (some 9) t9 h_3 (nil_chk (h := h_3) e6) ?_
 replace z := oS z; obtain ⟨t10, e7, z⟩ := z
 refine WL.b (some 10) t10 h_3 (field_ptr (P := Pg) (h := h_3) (s := 52) (f := 1) (by kernel_rfl) e7) ?_
 replace z := oS z; obtain ⟨v11, e8, z⟩ := z
 refine WL.b (some 11) v11 h_3 (load_cell (P := Pg) (h := h_3) (t := 50) (by kernel_rfl) e8) ?_
 refine WL.a (some 12) (.int .u8 t1) h_3 ?_
 replace z := outK_some z; obtain ⟨v13, h_9, e10, z⟩ := z
 refine WL.b (some 13) v13 h_9 e10 ?_
 replace z := outK_some z; obtain ⟨v14, h_11, e12, z⟩ := z
 refine WL.b (some 14) v14 h_11 e12 ?_
 replace z := oS z; obtain ⟨t15, e13, z⟩ := z
 refine WL.b (some 15) t15 h_11 (nil_chk (h := h_11) e13) ?_
 replace z := oS z; obtain ⟨t16, e14, z⟩ := z
 refine WL.b (some 16) t16 h_11 (field_ptr (P := Pg) (h := h_11) (s := 52) (f := 1) (by kernel_rfl) e14) ?_
 replace z := oS z; obtain ⟨h_15, e16, z⟩ := z
 refine WL.e h_15 (store_row (P := Pg) (h := h_11) (t := 50) (v := v14) (by kernel_rfl) (by kernel_rfl) e16) ?_
 refine WL.n ?_
 refine Go.weaken (l' := []) Fr.n ?_
 refine n5 ?_
 refine W.s (fun _ n17 _ _ _ => ?_)
 refine W.r ?_
 refine WL.a (some 4) AV.nifc h_15 ?_
 refine WL.n ?_
 refine Go.weaken (l' := [(4, AV.nifc)]) (Fr.c Fr.n) ?_
 refine n17 ?_
 refine W.ret (by kernel_rfl) ?_
 obtain ⟨z, hF2⟩ := ret_inj z; subst z; subst hF2
 exact leave_of (rs := [.tmp 4]) (vs := [AV.nifc]) (by kernel_rfl) (res_tmp (by kernel_rfl) res_nil) (by kernel_rfl)
noncomputable def strings_Builder_WriteByte_fn (call : CallF) (n : Nat) : FnT := fun args h => match args with
 | [x0, x1] => obind (avInt .u8 x1) fun t1 => strings_Builder_WriteByte call n x0 t1 h
 | _ => none
set_option maxRecDepth 100000 in
theorem strings_Builder_WriteByte_fn_eq (call : CallF) (n : Nat) (t0 : AV) (t1 : Int) (h : AHeap) : strings_Builder_WriteByte_fn call n [t0, .int .u8 t1] h = strings_Builder_WriteByte call n t0 t1 h :=
 (Eq.trans (obind_eq (fun t1 => strings_Builder_WriteByte call n t0 t1 h) (avInt_int .u8 t1)) rfl)
theorem strings_Builder_WriteByte_holds {call : CallF} (hc : SaysAll Pg call) (n : Nat) : Holds Pg 23 (strings_Builder_WriteByte_fn call n) := by
 intro args h r h2 e
 unfold strings_Builder_WriteByte_fn at e
 split at e
 ·replace e := oS e; obtain ⟨t1, c1, e⟩ := e; have c1 := avInt_some c1; subst c1
  exact strings_Builder_WriteByte_ok hc e
 ·cases e
noncomputable def strings_Builder_Len (_ : CallF) (_ : Nat) (t0 : AV) (h : AHeap) : R :=
 obind (nilC t0) fun t4 =>
 obind (fldP 1 t4) fun t5 =>
 obind (ldCell h t5) fun v6 =>
 obind (lenL v6) fun t7 =>
 some (.ret (.int .i64 t7), h)
theorem strings_Builder_Len_ok {call : CallF} (_ : SaysAll Pg call) {n : Nat} {t0 : AV} {h : AHeap} {rR : ARes} {hR : AHeap} (z : strings_Builder_Len call n t0 h = some (rR, hR)) : Says Pg 60 [t0] h rR hR := by
 unfold strings_Builder_Len at z
 refine says_of (fn := Tryd.f60) Tryd.func60 (c := codeOf Tryd.f60) (by kernel_rfl) (by kernel_rfl) (fun w0 m0 => ?_)
 refine W.weaken (l' := [(0, t0)]) (Fr.c Fr.n) ?_
 refine W.s (fun _ n1 _ _ _ => ?_)
 refine W.r ?_
 refine WL.a (some 2) (.int .i64 0) h ?_
 refine WL.n ?_
 refine Go.weaken (l' := [(0, t0)]) (Fr.c Fr.n) ?_
 refine n1 ?_
 refine W.s (fun _ n2 _ _ _ => ?_)
 refine W.r ?_
 refine WL.a (some 3) t0 h ?_
 replace z := oS z; obtain ⟨t4, e3, z⟩ := z
 refine WL.b (some 4) t4 h (nil_chk (h := h) e3) ?_
 replace z := oS z; obtain ⟨t5, e4, z⟩ := z
 refine WL.b (some 5) t5 h (field_ptr (P := Pg) (h := h) (s := 52) (f := 1) (by kernel_rfl) e4) ?_
 replace z := oS z; obtain ⟨v6, e5, z⟩ := z
 refine WL.b (some 6) v6 h (load_cell (P := Pg) (h := h) (t := 50) (by kernel_rfl) e5) ?_
 replace z := oS z; obtain ⟨t7, e6, z⟩ := z
 refine WL.b (some 7) (.int .i64 t7) h (len_row (P := Pg) (h := h) (t := 50) (e' := 5) (by kernel_rfl) e6) ?_
 refine WL.a (some 2) (.int .i64 t7) h ?_
 refine WL.n ?_
 refine Go.weaken (l' := [(2, .int .i64 t7)]) (Fr.c Fr.n) ?_
 refine n2 ?_
 refine W.ret (by kernel_rfl) ?_
 obtain ⟨z, hF2⟩ := ret_inj z; subst z; subst hF2
 exact leave_of (rs := [.tmp 2]) (vs := [.int .i64 t7]) (by kernel_rfl) (res_tmp (by kernel_rfl) res_nil) (by kernel_rfl)
noncomputable def strings_Builder_Len_fn (call : CallF) (n : Nat) : FnT := fun args h => match args with
 | [x0] => strings_Builder_Len call n x0 h
 | _ => none
set_option maxRecDepth 100000 in
theorem strings_Builder_Len_fn_eq (call : CallF) (n : Nat) (t0 : AV) (h : AHeap) : strings_Builder_Len_fn call n [t0] h = strings_Builder_Len call n t0 h :=
 rfl
theorem strings_Builder_Len_holds {call : CallF} (hc : SaysAll Pg call) (n : Nat) : Holds Pg 60 (strings_Builder_Len_fn call n) := by
 intro args h r h2 e
 unfold strings_Builder_Len_fn at e
 split at e
 ·exact strings_Builder_Len_ok hc e
 ·cases e
noncomputable def strings_Builder_String (_ : CallF) (_ : Nat) (t0 : AV) (h : AHeap) : R :=
 obind (nilC t0) fun t4 =>
 obind (fldP 1 t4) fun t5 =>
 obind (ldCell h t5) fun v6 =>
 obind (nilC t0) fun t9 =>
 obind (fldP 1 t9) fun t10 =>
 obind (ldCell h t10) fun v11 =>
 obind (lenL v11) fun t12 =>
 outK (opSliceData h v6) fun v7 h_10 =>
 chk (reLoad Pg h_10 50 t10 v11 && (true && true)) <|
 outK (opUnsafeStr Pg h_10 67 v7 (.int .i64 t12)) fun v13 h_13 =>
 obind (avStr v13) fun t13 =>
 some (.ret (strA t13), h_13)
theorem strings_Builder_String_ok {call : CallF} (hc : SaysAll Pg call) {n : Nat} {t0 : AV} {h : AHeap} {rR : ARes} {hR : AHeap} (z : strings_Builder_String call n t0 h = some (rR, hR)) : Says Pg 25 [t0] h rR hR := by
 unfold strings_Builder_String at z
 refine says_of (fn := Tryd.f25) Tryd.func25 (c := codeOf Tryd.f25) (by kernel_rfl) (by kernel_rfl) (fun w0 m0 => ?_)
 refine W.weaken (l' := [(0, t0)]) (Fr.c Fr.n) ?_
 refine W.s (fun _ n1 _ _ _ => ?_)
 refine W.r ?_
 refine WL.a (some 2) (strA ([] : Bytes)) h ?_
 refine WL.n ?_
 refine Go.weaken (l' := [(0, t0)]) (Fr.c Fr.n) ?_
 refine n1 ?_
 refine W.s (fun _ n2 _ _ _ => ?_)
 refine W.draw (by kernel_rfl) (hc.ok w0) (plan := [0, 1, 2, 3, 5, 6, 7, 8, 9, 4, 10, 11]) (by kernel_rfl) (by kernel_rfl) (by kernel_rfl) ?_
 refine WD.a 0 (some 3) t0 h ?_
 replace z := oS z; obtain ⟨t4, e3, z⟩ := z
 refine WD.b 0 (some 4) t4 h (nil_chk (h := h) e3) ?_
 replace z := oS z; obtain ⟨t5, e4, z⟩ := z
 refine WD.b 0 (some 5) t5 h (field_ptr (P := Pg) (h := h) (s := 52) (f := 1) (by kernel_rfl) e4) ?_
 replace z := oS z; obtain ⟨v6, e5, z⟩ := z
 refine WD.b 1 (some 6) v6 h (load_cell (P := Pg) (h := h) (t := 50) (by kernel_rfl) e5) ?_
 refine WD.a 0 (some 8) t0 h ?_
 replace z := oS z; obtain ⟨t9, e6, z⟩ := z
 refine WD.b 0 (some 9) t9 h (nil_chk (h := h) e6) ?_
 replace z := oS z; obtain ⟨t10, e7, z⟩ := z
 refine WD.b 0 (some 10) t10 h (field_ptr (P := Pg) (h := h) (s := 52) (f := 1) (by kernel_rfl) e7) ?_
 replace z := oS z; obtain ⟨v11, e8, z⟩ := z
 refine WD.b 1 (some 11) v11 h (load_cell (P := Pg) (h := h) (t := 50) (by kernel_rfl) e8) ?_
 replace z := oS z; obtain ⟨t12, e9, z⟩ := z
 refine WD.b 0 (some 12) (.int .i64 t12) h (len_row (P := Pg) (h := h) (t := 50) (e' := 5) (by kernel_rfl) e9) ?_
 replace z := outK_some z; obtain ⟨v7, h_10, e11, z⟩ := z
 replace z := chk_some z; obtain ⟨k12, z⟩ := z
 refine WD.val (d := (some 7)) (v := v7) (h' := h_10) (by kernel_rfl) (by kernel_rfl) (Eq.trans (by kernel_rfl) e11) (k := 2) (by kernel_rfl) (fun _ => (Eq.trans (by kernel_rfl) k12)) (by decide) ?_
 replace z := outK_some z; obtain ⟨v13, h_13, e14, z⟩ := z
 replace z := oS z; obtain ⟨t13, c15, z⟩ := z
 have c15 := avStr_some c15
 subst c15
 refine WD.val (d := (some 13)) (v := strA t13) (h' := h_13) (by kernel_rfl) (by kernel_rfl) (Eq.trans (by kernel_rfl) e14) (k := 2) (by kernel_rfl) (fun _ => (by kernel_rfl)) (by decide) ?_
 refine WD.a 0 (some 2) (strA t13) h_13 ?_
 refine WD.nil ?_
 refine Go.weaken (l' := [(2, strA t13)]) (Fr.c Fr.n) ?_
 refine n2 ?_
 refine W.ret (by kernel_rfl) ?_
 obtain ⟨z, hF2⟩ := ret_inj z; subst z; subst hF2
 exact leave_of (rs := [.tmp 2]) (vs := [strA t13]) (by kernel_rfl) (res_tmp (by kernel_rfl) res_nil) (by kernel_rfl)
noncomputable def strings_Builder_String_fn (call : CallF) (n : Nat) : FnT := fun args h => match args with
 | [x0] => strings_Builder_String call n x0 h
 | _ => none
set_option maxRecDepth 100000 in
theorem strings_Builder_String_fn_eq (call : CallF) (n : Nat) (t0 : AV) (h : AHeap) : strings_Builder_String_fn call n [t0] h = strings_Builder_String call n t0 h :=
 rfl
theorem strings_Builder_String_holds {call : CallF} (hc : SaysAll Pg call) (n : Nat) : Holds Pg 25 (strings_Builder_String_fn call n) := by
 intro args h r h2 e
 unfold strings_Builder_String_fn at e
 split at e
 ·exact strings_Builder_String_ok hc e
 ·cases e
noncomputable def strings_Builder_copyCheck (_ : CallF) (_ : Nat) (t0 : AV) (h : AHeap) : R :=
 obind (nilC t0) fun t3 =>
 obind (fldP 0 t3) fun t4 =>
 obind (ldCell h t4) fun v5 =>
 outK (opBin Pg h .eql 49 true (some v5) (some AV.nilp)) fun v6 h_5 =>
 obind (avBool v6) fun t6 =>
 lett (fun  (h_9 : AHeap) =>
  some (.ret (.tup []), h_9)) fun k8 =>
 ifB t6
 (
  outK (opConv Pg h_5 49 74 (some t0)) fun v9 h_10 =>
  outK (externA Pg h_10 45 [v9]) fun v10 h_14 =>
  outK (opConv Pg h_14 74 49 (some v10)) fun v11 h_16 =>
  obind (nilC t0) fun t12 =>
  obind (fldP 0 t12) fun t13 =>
  obind (stRow h_16 1 (AV.cells v11) t13) fun h_20 =>
  k8 h_20)
 (
  obind (nilC t0) fun t15 =>
  obind (fldP 0 t15) fun t16 =>
  obind (ldCell h_5 t16) fun v17 =>
  outK (opBinV Pg h_5 .neq 49 false (some v17) (some t0)) fun v19 h_26 =>
  obind (avBool v19) fun t19 =>
  ifB t19
  (
   none)
  (
   k8 h_26))
theorem strings_Builder_copyCheck_ok {call : CallF} (_ : SaysAll Pg call) {n : Nat} {t0 : AV} {h : AHeap} {rR : ARes} {hR : AHeap} (z : strings_Builder_copyCheck call n t0 h = some (rR, hR)) : Says Pg 34 [t0] h rR hR := by
 unfold strings_Builder_copyCheck at z
 refine says_of (fn := Tryd.f34) Tryd.func34 (c := codeOf Tryd.f34) (by kernel_rfl) (by kernel_rfl) (fun w0 m0 => ?_)
 refine W.weaken (l' := [(0, t0)]) (Fr.c Fr.n) ?_
 refine W.s (fun _ n1 _ _ _ => ?_)
 refine W.r ?_
 refine WL.a (some 2) t0 h ?_
 replace z := oS z; obtain ⟨t3, e2, z⟩ := z
 refine WL.b (some 3) t3 h (nil_chk (h := h) e2) ?_
 replace z := oS z; obtain ⟨t4, e3, z⟩ := z
 refine WL.b (some 4) t4 h (field_ptr (P := Pg) (h := h) (s := 52) (f := 0) (by kernel_rfl) e3) ?_
 replace z := oS z; obtain ⟨v5, e4, z⟩ := z
 refine WL.b (some 5) v5 h (load_cell (P := Pg) (h := h) (t := 49) (by kernel_rfl) e4) ?_
 replace z := outK_some z; obtain ⟨v6, h_5, e6, z⟩ := z
 replace z := oS z; obtain ⟨t6, c7, z⟩ := z
 have c7 := avBool_some c7
 subst c7
 refine WL.b (some 6) (.bool t6) h_5 e6 ?_
 refine WL.n ?_
 refine Go.weaken (l' := [(0, t0), (6, .bool t6)]) (Fr.c (Fr.c Fr.n)) ?_
 refine n1 ?_
 replace z := lS z; obtain ⟨k8, e8, z⟩ := z
 have J8 : ∀  (h_9 : AHeap), k8 h_9 = some (rR, hR) → Go w0 m0 (Func.ntmps Tryd.f34) (Fin Pg Tryd.f34 w0 m0 rR hR .normal) [] [] h_9 := by
  intro  h_9 z
  rw [e8] at z
  obtain ⟨z, hF2⟩ := ret_inj z; subst z; subst hF2
  exact leaveN_of (rs := []) (vs := []) (by kernel_rfl) res_nil (by kernel_rfl)
 cases t6 with
 | true =>
  replace z := ifB_t z
  refine W.t ?_
  refine W.r ?_
  refine WL.a (some 7) t0 h_5 ?_
  refine WL.a (some 8) t0 h_5 ?_
  replace z := outK_some z; obtain ⟨v9, h_10, e11, z⟩ := z
  refine WL.b (some 9) v9 h_10 e11 ?_
  replace z := outK_some z; obtain ⟨v10, h_14, e15, z⟩ := z
  refine WL.b (some 10) v10 h_14 e15 ?_
  replace z := outK_some z; obtain ⟨v11, h_16, e17, z⟩ := z
  refine WL.b (some 11) v11 h_16 e17 ?_
  replace z := oS z; obtain ⟨t12, e18, z⟩ := z
  refine WL.b (some 12) t12 h_16 (nil_chk (h := h_16) e18) ?_
  replace z := oS z; obtain ⟨t13, e19, z⟩ := z
  refine WL.b (some 13) t13 h_16 (field_ptr (P := Pg) (h := h_16) (s := 52) (f := 0) (by kernel_rfl) e19) ?_
  replace z := oS z; obtain ⟨h_20, e21, z⟩ := z
  refine WL.e h_20 (store_row (P := Pg) (h := h_16) (t := 49) (v := v11) (by kernel_rfl) (by kernel_rfl) e21) ?_
  refine WL.n ?_
  refine Go.weaken (l' := []) Fr.n ?_
  exact Go.weaken Fr.n (J8 _ z)
 | false =>
  replace z := ifB_f z
  refine W.f ?_
  refine W.s (fun _ n22 _ _ _ => ?_)
  refine W.r ?_
  refine WL.a (some 14) t0 h_5 ?_
  replace z := oS z; obtain ⟨t15, e23, z⟩ := z
  refine WL.b (some 15) t15 h_5 (nil_chk (h := h_5) e23) ?_
  replace z := oS z; obtain ⟨t16, e24, z⟩ := z
  refine WL.b (some 16) t16 h_5 (field_ptr (P := Pg) (h := h_5) (s := 52) (f := 0) (by kernel_rfl) e24) ?_
  replace z := oS z; obtain ⟨v17, e25, z⟩ := z
  refine WL.b (some 17) v17 h_5 (load_cell (P := Pg) (h := h_5) (t := 49) (by kernel_rfl) e25) ?_
  refine WL.a (some 18) t0 h_5 ?_
  replace z := outK_some z; obtain ⟨v19, h_26, e27, z⟩ := z
  replace z := oS z; obtain ⟨t19, c28, z⟩ := z
  have c28 := avBool_some c28
  subst c28
  refine WL.b (some 19) (.bool t19) h_26 e27 ?_
  refine WL.n ?_
  refine Go.weaken (l' := [(19, .bool t19)]) (Fr.c Fr.n) ?_
  refine n22 ?_
  cases t19 with
  | true =>
   replace z := ifB_t z
   refine W.t ?_
   cases z
  | false =>
   replace z := ifB_f z
   refine W.f ?_
   refine W.skip (by kernel_rfl) ?_
   exact Go.weaken Fr.n (J8 _ z)
noncomputable def strings_Builder_copyCheck_fn (call : CallF) (n : Nat) : FnT := fun args h => match args with
 | [x0] => strings_Builder_copyCheck call n x0 h
 | _ => none
set_option maxRecDepth 100000 in
theorem strings_Builder_copyCheck_fn_eq (call : CallF) (n : Nat) (t0 : AV) (h : AHeap) : strings_Builder_copyCheck_fn call n [t0] h = strings_Builder_copyCheck call n t0 h :=
 rfl
theorem strings_Builder_copyCheck_holds {call : CallF} (hc : SaysAll Pg call) (n : Nat) : Holds Pg 34 (strings_Builder_copyCheck_fn call n) := by
 intro args h r h2 e
 unfold strings_Builder_copyCheck_fn at e
 split at e
 ·exact strings_Builder_copyCheck_ok hc e
 ·cases e
end Go.Proofs.YtjopejiooipmkaaDoor
