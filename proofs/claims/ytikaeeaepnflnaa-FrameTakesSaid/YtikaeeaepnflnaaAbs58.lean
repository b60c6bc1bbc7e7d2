/- Rounds by plain functions, site by site. -/
import Derived.Test.YtikaeeaepnflnaaAbs57
namespace Go.Proofs.Ytikaeeaepnflnaa.Abs
noncomputable section
open Go.RowKit

/-- a code of rounds, and who does it -/
structure Site where
  N : Nat
  code : Code
  run : BothF → AAct → AHeap → CodeT
open Classical in
def siteOf (sites : List Site) (N : Nat) (c : Code) : Option Site := sites.find? fun s => decide (s.N = N ∧ s.code = c)
def cfOf (P : Program) (lf : Nat) (sites : List Site) (both : BothF) : CodeFT := fun N b c a h => match siteOf sites N c with
  | some s => s.run both a h
  | none => codeR P both lf N (some b) c a h
def Site.ok (P : Program) (s : Site) : Prop := ∀ both, BothAll P both → ∀ w0 rb, CodeROK P w0 s.N rb (s.run both) s.code
open Classical in
theorem cfOf_ok {P : Program} (hm : P.follows .mixedOrders = true) {lf : Nat} {sites : List Site} (hs : ∀ s ∈ sites, s.ok P) {both : BothF} (hc : BothAll P both) (w0 : Base) (N b : Nat) (c : Code) : CodeROK P w0 N (some b) (cfOf P lf sites both N b c) c := by
  intro a h e a' h' hr
  unfold cfOf at hr
  split at hr
  · rename_i s hf
    have h1 := List.mem_of_find?_eq_some hf
    have h2 := List.find?_some hf
    have h2 : s.N = N ∧ s.code = c := by simpa using h2
    obtain ⟨rfl, rfl⟩ := h2
    exact hs s h1 both hc w0 (some b) a h e a' h' hr
  · exact codeR_ok hm (hc w0) c a h e a' h' hr
/-- a world with rounds -/
def worldS (P : Program) (lf : Nat) (sites : List Site) (cf : BothF → CallF) : Nat → BothF := worldB cf fun both => roundG (cfOf P lf sites both)
theorem worldS_ok {P : Program} (hm : P.follows .mixedOrders = true) {lf : Nat} {sites : List Site} (hs : ∀ s ∈ sites, s.ok P) {cf : BothF → CallF} (hcf : ∀ both, BothAll P both → SaysAll P (cf both)) (d : Nat) : BothAll P (worldS P lf sites cf d) :=
  worldB_ok hcf (fun _ hb w0 => roundG_ok fun N b c => cfOf_ok hm hs hb w0 N b c) d
/-- what a plain function says of a round's code -/
def decA (ts : List Nat) (ds : DefT) : R → CodeT
  | some (r, h) => some (.normal, ⟨Fr.tree (tupFr ts r), ds⟩, h)
  | none => none
def decB (ds : DefT) : R → CodeT
  | some (r, h) => some (decE r, ⟨Fr.tree [], ds⟩, h)
  | none => none
theorem decA_some {ts : List Nat} {ds : DefT} {x : R} {e : AExit} {a' : AAct} {h' : AHeap} (z : decA ts ds x = some (e, a', h')) : ∃ r, x = some (r, h') ∧ e = .normal ∧ a' = ⟨Fr.tree (tupFr ts r), ds⟩ := by
  cases x with
  | none => cases z
  | some p =>
    obtain ⟨r, h⟩ := p
    simp only [decA, Option.some.injEq, Prod.mk.injEq] at z
    obtain ⟨rfl, rfl, rfl⟩ := z
    exact ⟨r, rfl, rfl, rfl⟩
theorem decB_some {ds : DefT} {x : R} {e : AExit} {a' : AAct} {h' : AHeap} (z : decB ds x = some (e, a', h')) : ∃ r, x = some (r, h') ∧ e = decE r ∧ a' = ⟨Fr.tree [], ds⟩ := by
  cases x with
  | none => cases z
  | some p =>
    obtain ⟨r, h⟩ := p
    simp only [decB, Option.some.injEq, Prod.mk.injEq] at z
    obtain ⟨rfl, rfl, rfl⟩ := z
    exact ⟨r, rfl, rfl, rfl⟩
/-- a slot of the frame -/
def slotC (t : T AV) (i : Nat) (k : AV → CodeT) : CodeT := match t.get i with
  | some v => k v
  | none => none
theorem slotC_some {t : T AV} {i : Nat} {k : AV → CodeT} {p : AExit × AAct × AHeap} (z : slotC t i k = some p) : ∃ v, t.get i = some v ∧ k v = some p := by
  unfold slotC at z
  split at z
  · rename_i v hv
    exact ⟨v, hv, z⟩
  · cases z
/-- a round, from what its two codes come to -/
theorem round_of {cf : CodeFT} {b : Nat} {args : List AV} {h h1 h2 : AHeap} {q q1 q2 : ALoop} {t : T AV} {a1 a2 : AAct} {e : AExit} {j : AJump} (hq : h.get b = some (.obj (.loop q))) (hp : putPs q.N q.ps.toList args q.tmps = some t)
    (ea : cf q.N b q.assign ⟨t, []⟩ h = some (.normal, a1, h1)) (hq1 : h1.get b = some (.obj (.loop q1))) (hs1 : q1.st = .ready)
    (eb : cf q.N b q.body a1 (h1.put b (.obj (.loop { q1 with st := .busy }))) = some (e, a2, h2)) (hj : jumpOf e = some j) (hq2 : h2.get b = some (.obj (.loop q2))) :
    roundG cf b args h = some (.ret (.bool j.isNone), h2.put b (.obj (.loop { q2 with st := if j.isNone then .ready else .done, pend := j }))) := by
  unfold roundG
  rw [hq]
  simp only [hp]
  rw [ea]
  simp only [midRound, hq1, hs1]
  rw [hs1] at *
  simp only [eb, endRound, hj, hq2]
end
end Go.Proofs.Ytikaeeaepnflnaa.Abs
