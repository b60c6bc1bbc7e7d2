/- Bytes in quotes, without a program. -/
import Derived.Test.YteibdplpbcobbaaAbs52
namespace Go.Proofs.Yteibdplpbcobbaa
open Go.RowKit Abs

def plainB (c : Nat) : Bool := decide (32 ≤ c) && decide (c ≤ 126)
def hexV (c : Nat) : Option Nat := if 48 ≤ c ∧ c ≤ 57 then some (c - 48) else if 97 ≤ c ∧ c ≤ 102 then some (c - 87) else none
def shortB (c : Nat) : Nat := if c = 34 ∨ c = 92 then c else if c = 10 then 110 else if c = 13 then 114 else if c = 9 then 116 else 0
def byD (c : Nat) : Bool := decide (shortB c = 0) && !plainB c
def mayB (hi : Nat) : Bool := decide (hi < 2) || decide (7 ≤ hi)
inductive FR where
  | ok (c p : Nat)
  | bad (p : Nat)
/-- a byte's number at a place -/
def at? (u : Bytes) (p : Nat) : Option Nat := (u[p]?).map UInt8.toNat
def hexAt (u : Bytes) (p : Nat) : FR := match (at? u p).bind hexV with
  | none => .bad p
  | some hi => if mayB hi = false then .bad p else match (at? u (p + 1)).bind hexV with
    | none => .bad (p + 1)
    | some lo => if byD (hi * 16 + lo) = true then .ok (hi * 16 + lo) (p + 2) else .bad (p + 1)
def escAt (u : Bytes) (p : Nat) : FR := match at? u p with
  | none => .bad p
  | some d => if d = 34 ∨ d = 92 then .ok d (p + 1) else if d = 110 then .ok 10 (p + 1) else if d = 114 then .ok 13 (p + 1) else if d = 116 then .ok 9 (p + 1) else if d = 120 then hexAt u (p + 1) else .bad p
def formAt (u : Bytes) (p : Nat) : FR := match at? u p with
  | none => .bad p
  | some a => if a = 92 then escAt u (p + 1) else if plainB a = true ∧ a ≠ 34 then .ok a (p + 1) else .bad p
theorem at?_lt {u : Bytes} {p : Nat} (h : p < u.length) : at? u p = some (u[p]).toNat := by
  unfold at?
  rw [List.getElem?_eq_getElem h]
  rfl
theorem at?_ge {u : Bytes} {p : Nat} (h : u.length ≤ p) : at? u p = none := by
  unfold at?
  rw [List.getElem?_eq_none h]
  rfl
theorem at?_some {u : Bytes} {p c : Nat} (h : at? u p = some c) : ∃ hp : p < u.length, (u[p]).toNat = c := by
  by_cases hp : p < u.length
  · rw [at?_lt hp] at h
    exact ⟨hp, by simpa using h⟩
  · rw [at?_ge (by omega)] at h
    cases h
theorem hexV_lt {c v : Nat} (h : hexV c = some v) : v < 16 ∧ c < 128 := by
  unfold hexV at h
  split at h
  · simp at h; omega
  · split at h
    · simp at h; omega
    · cases h
theorem hexAt_ok {u : Bytes} {p c q : Nat} (h : hexAt u p = .ok c q) : c < 256 ∧ q = p + 2 ∧ q ≤ u.length := by
  unfold hexAt at h
  split at h
  · cases h
  · rename_i hi h1
    split at h
    · cases h
    · split at h
      · cases h
      · rename_i lo h2
        split at h
        · simp only [FR.ok.injEq] at h
          obtain ⟨rfl, rfl⟩ := h
          obtain ⟨a, _, ha⟩ := Option.bind_eq_some_iff.1 h1
          obtain ⟨b, hb0, hb⟩ := Option.bind_eq_some_iff.1 h2
          have := hexV_lt ha
          have := hexV_lt hb
          obtain ⟨hp, _⟩ := at?_some hb0
          omega
        · cases h
theorem formAt_ok {u : Bytes} {p c q : Nat} (h : formAt u p = .ok c q) : c < 256 ∧ p < q ∧ q ≤ u.length := by
  unfold formAt at h
  split at h
  · cases h
  · rename_i a ha
    obtain ⟨hp, hpa⟩ := at?_some ha
    have hlt := (u[p]).toNat_lt
    split at h
    · unfold escAt at h
      split at h
      · cases h
      · rename_i d hd
        obtain ⟨hp2, hpd⟩ := at?_some hd
        have hlt2 := (u[p + 1]).toNat_lt
        (repeat' split at h) <;> first | (simp only [FR.ok.injEq] at h; omega) | (cases h; done) | skip
        have := hexAt_ok h
        omega
    · split at h
      · simp only [FR.ok.injEq] at h
        omega
      · cases h
theorem hexAt_bad {u : Bytes} {p q : Nat} (h : hexAt u p = .bad q) : q ≤ p + 1 ∧ p ≤ q ∧ (p ≤ u.length → q ≤ u.length) := by
  unfold hexAt at h
  split at h
  · simp only [FR.bad.injEq] at h
    omega
  · rename_i hi h1
    obtain ⟨a, ha0, _⟩ := Option.bind_eq_some_iff.1 h1
    obtain ⟨hp, _⟩ := at?_some ha0
    split at h
    · simp only [FR.bad.injEq] at h
      omega
    · split at h
      · simp only [FR.bad.injEq] at h
        omega
      · split at h
        · cases h
        · simp only [FR.bad.injEq] at h
          omega
theorem formAt_bad {u : Bytes} {p q : Nat} (h : formAt u p = .bad q) (hp : p ≤ u.length) : p ≤ q ∧ q ≤ u.length := by
  unfold formAt at h
  split at h
  · simp only [FR.bad.injEq] at h
    omega
  · rename_i a ha
    obtain ⟨hp, hpa⟩ := at?_some ha
    split at h
    · unfold escAt at h
      split at h
      · simp only [FR.bad.injEq] at h
        omega
      · rename_i d hd
        obtain ⟨hp2, _⟩ := at?_some hd
        (repeat' split at h) <;> first | (cases h; done) | (simp only [FR.bad.injEq] at h; omega) | skip
        have := hexAt_bad h
        omega
    · split at h
      · cases h
      · simp only [FR.bad.injEq] at h
        omega
inductive QR where
  | ok (l : Bytes) (p : Nat)
  | bad (e : Int) (p : Nat)
/-- what stands in quotes from a place on; below 0: no limit -/
def scanQ (u : Bytes) (most : Int) : Nat → Nat → Bytes → QR
  | 0, p, _ => .bad 6 p
  | n + 1, p, acc => if at? u p = some 34 then .ok acc (p + 1) else if (acc.length : Int) = most then .bad 3 p else match formAt u p with
    | .ok c q => scanQ u most n q (acc ++ [UInt8.ofNat c])
    | .bad q => .bad 6 q
def quotedQ (u : Bytes) (most : Int) : QR := if at? u 0 = some 34 then scanQ u most (u.length + 1) 1 [] else .bad 6 0
end Go.Proofs.Yteibdplpbcobbaa
