/- What stands for bytes: which one begins a text. -/
import Derived.Test.YteibdplpbcobbaaQp
namespace Go.Proofs.Yteibdplpbcobbaa
open Go.RowKit Abs

def hx (v : Nat) : UInt8 := UInt8.ofNat (if v < 10 then 48 + v else 87 + v)
def signB (c : Nat) : Bytes := if c = 34 then [92, 34] else if c = 92 then [92, 92] else if c = 10 then [92, 110] else if c = 13 then [92, 114] else if c = 9 then [92, 116] else if plainB c = true then [UInt8.ofNat c] else [92, 120, hx (c / 16), hx (c % 16)]
def lcpN : Bytes → Bytes → Nat
  | a :: x, b :: w => if a = b then lcpN x w + 1 else 0
  | _, _ => 0
theorem lcpN_le : ∀ (x w : Bytes), lcpN x w ≤ x.length ∧ lcpN x w ≤ w.length
  | [], w => by simp [lcpN]
  | a :: x, [] => by simp [lcpN]
  | a :: x, b :: w => by
    have := lcpN_le x w
    rw [lcpN]
    split <;> simp only [List.length_cons] <;> omega
theorem lcpN_full : ∀ (x w : Bytes), lcpN x w = x.length → ∃ r, w = x ++ r
  | [], w, _ => ⟨w, rfl⟩
  | a :: x, [], h => by simp [lcpN] at h
  | a :: x, b :: w, h => by
    rw [lcpN] at h
    split at h
    · rename_i hab
      subst hab
      obtain ⟨r, rfl⟩ := lcpN_full x w (by simpa using h)
      exact ⟨r, rfl⟩
    · simp at h
theorem lcpN_append : ∀ (x r : Bytes), lcpN x (x ++ r) = x.length
  | [], r => by cases r <;> rfl
  | a :: x, r => by rw [List.cons_append, lcpN, if_pos rfl, lcpN_append x r]; rfl
def hexW (w : Bytes) : FR := match w with
  | [] => .bad 2
  | x :: w => match hexV x.toNat with
    | none => .bad 2
    | some hi => if mayB hi = false then .bad 2 else match w with
      | [] => .bad 3
      | y :: _ => match hexV y.toNat with
        | none => .bad 3
        | some lo => if byD (hi * 16 + lo) = true then .ok (hi * 16 + lo) 4 else .bad 3
def escW (w : Bytes) : FR := match w with
  | [] => .bad 1
  | d :: w => if d.toNat = 34 ∨ d.toNat = 92 then .ok d.toNat 2 else if d.toNat = 110 then .ok 10 2 else if d.toNat = 114 then .ok 13 2 else if d.toNat = 116 then .ok 9 2 else if d.toNat = 120 then hexW w else .bad 1
def formW (w : Bytes) : FR := match w with
  | [] => .bad 0
  | a :: w => if a.toNat = 92 then escW w else if plainB a.toNat = true ∧ a.toNat ≠ 34 then .ok a.toNat 1 else .bad 0
def shiftF (p : Nat) : FR → FR
  | .ok c k => .ok c (p + k)
  | .bad k => .bad (p + k)
theorem at?_drop (u : Bytes) (p i : Nat) : at? u (p + i) = (((u.drop p)[i]?).map UInt8.toNat) := by
  unfold at?
  rw [List.getElem?_drop]
theorem formAt_W (u : Bytes) (p : Nat) : formAt u p = shiftF p (formW (u.drop p)) := by
  have h0 := at?_drop u p 0
  have h1 := at?_drop u p 1
  have h2 := at?_drop u p 2
  have h3 := at?_drop u p 3
  rw [Nat.add_zero] at h0
  unfold formAt formW
  cases hw : u.drop p with
  | nil =>
    rw [hw] at h0
    rw [h0]
    rfl
  | cons a w =>
    rw [hw] at h0 h1 h2 h3
    rw [h0]
    simp only [List.getElem?_cons_zero, Option.map_some]
    by_cases ha : a.toNat = 92
    · rw [if_pos ha, if_pos ha]
      unfold escAt escW
      rw [h1]
      cases w with
      | nil => rfl
      | cons b w =>
        simp only [List.getElem?_cons_succ, List.getElem?_cons_zero, Option.map_some]
        by_cases c1 : b.toNat = 34 ∨ b.toNat = 92
        · rw [if_pos c1, if_pos c1]; rfl
        rw [if_neg c1, if_neg c1]
        by_cases c2 : b.toNat = 110
        · rw [if_pos c2, if_pos c2]; rfl
        rw [if_neg c2, if_neg c2]
        by_cases c3 : b.toNat = 114
        · rw [if_pos c3, if_pos c3]; rfl
        rw [if_neg c3, if_neg c3]
        by_cases c4 : b.toNat = 116
        · rw [if_pos c4, if_pos c4]; rfl
        rw [if_neg c4, if_neg c4]
        by_cases c5 : b.toNat = 120
        · rw [if_pos c5, if_pos c5]
          unfold hexAt hexW
          rw [show p + 1 + 1 = p + 2 from rfl, h2, show p + 2 + 1 = p + 3 from rfl, h3]
          cases w with
          | nil => rfl
          | cons x w =>
            simp only [List.getElem?_cons_succ, List.getElem?_cons_zero, Option.map_some, Option.bind_some]
            cases hexV x.toNat with
            | none => rfl
            | some hi =>
              simp only
              by_cases hm : mayB hi = false
              · rw [if_pos hm, if_pos hm]; rfl
              rw [if_neg hm, if_neg hm]
              cases w with
              | nil => rfl
              | cons y w =>
                simp only [List.getElem?_cons_zero, Option.map_some, Option.bind_some]
                cases hexV y.toNat with
                | none => rfl
                | some lo =>
                  simp only
                  by_cases hb : byD (hi * 16 + lo) = true
                  · rw [if_pos hb, if_pos hb]; rfl
                  · rw [if_neg hb, if_neg hb]; rfl
        · rw [if_neg c5, if_neg c5]; rfl
    · rw [if_neg ha, if_neg ha]
      by_cases hp : plainB a.toNat = true ∧ a.toNat ≠ 34
      · rw [if_pos hp, if_pos hp]; rfl
      · rw [if_neg hp, if_neg hp]; rfl
theorem hexV_hx : ∀ v : Fin 16, hexV (hx v.val).toNat = some v.val := by decide
theorem hx_of {x : UInt8} {v : Nat} (h : hexV x.toNat = some v) : x = hx v := by
  have hv := hexV_lt h
  unfold hexV at h
  apply UInt8.toNat_inj.1
  unfold hx
  rw [UInt8.toNat_ofNat']
  split at h
  · simp at h
    rw [if_pos (by omega), Nat.mod_eq_of_lt (by omega)]
    omega
  · split at h
    · simp at h
      rw [if_neg (by omega), Nat.mod_eq_of_lt (by omega)]
      omega
    · cases h
theorem mayB_of {hi lo : Nat} (hh : hi < 16) (hl : lo < 16) (hb : byD (hi * 16 + lo) = true) : mayB hi = true := by
  have h : ∀ a b : Fin 16, byD (a.val * 16 + b.val) = true → mayB a.val = true := by decide
  exact h ⟨hi, hh⟩ ⟨lo, hl⟩ hb
theorem mayB_ex {hi : Nat} (hh : hi < 16) (hm : mayB hi = true) : ∃ lo, lo < 16 ∧ byD (hi * 16 + lo) = true := by
  have h : ∀ a : Fin 16, mayB a.val = true → ∃ b : Fin 16, byD (a.val * 16 + b.val) = true := by decide
  obtain ⟨b, hb⟩ := h ⟨hi, hh⟩ hm
  exact ⟨b.val, b.isLt, hb⟩
inductive Cls (c : Nat) : Prop where
  | esc (e : UInt8) (h : signB c = [92, e]) (he : (c = 34 ∧ e = 34) ∨ (c = 92 ∧ e = 92) ∨ (c = 10 ∧ e = 110) ∨ (c = 13 ∧ e = 114) ∨ (c = 9 ∧ e = 116))
  | plain (h : signB c = [UInt8.ofNat c]) (hp : plainB c = true) (h1 : c ≠ 34) (h2 : c ≠ 92)
  | dig (h : signB c = [92, 120, hx (c / 16), hx (c % 16)]) (hb : byD c = true)
theorem cls (c : Nat) : Cls c := by
  by_cases c1 : c = 34
  · exact .esc 34 (by unfold signB; rw [if_pos c1]) (.inl ⟨c1, rfl⟩)
  by_cases c2 : c = 92
  · exact .esc 92 (by unfold signB; rw [if_neg c1, if_pos c2]) (.inr (.inl ⟨c2, rfl⟩))
  by_cases c3 : c = 10
  · exact .esc 110 (by unfold signB; rw [if_neg c1, if_neg c2, if_pos c3]) (.inr (.inr (.inl ⟨c3, rfl⟩)))
  by_cases c4 : c = 13
  · exact .esc 114 (by unfold signB; rw [if_neg c1, if_neg c2, if_neg c3, if_pos c4]) (.inr (.inr (.inr (.inl ⟨c4, rfl⟩))))
  by_cases c5 : c = 9
  · exact .esc 116 (by unfold signB; rw [if_neg c1, if_neg c2, if_neg c3, if_neg c4, if_pos c5]) (.inr (.inr (.inr (.inr ⟨c5, rfl⟩))))
  by_cases c6 : plainB c = true
  · exact .plain (by unfold signB; rw [if_neg c1, if_neg c2, if_neg c3, if_neg c4, if_neg c5, if_pos c6]) c6 c1 c2
  · refine .dig (by unfold signB; rw [if_neg c1, if_neg c2, if_neg c3, if_neg c4, if_neg c5, if_neg c6]) ?_
    unfold byD shortB
    rw [if_neg (by omega), if_neg c3, if_neg c4, if_neg c5]
    simpa using c6
theorem ofNat_toNat {c : Nat} (h : c < 256) : (UInt8.ofNat c).toNat = c := by
  rw [UInt8.toNat_ofNat', Nat.mod_eq_of_lt (by omega)]
/-- a text that begins with what stands for a byte -/
theorem formW_sign {c : Nat} (hc : c < 256) (r : Bytes) : formW (signB c ++ r) = .ok c (signB c).length := by
  rcases cls c with ⟨e, h, he⟩ | ⟨h, hp, h1, h2⟩ | ⟨h, hb⟩
  · rw [h]
    rcases he with ⟨rfl, rfl⟩ | ⟨rfl, rfl⟩ | ⟨rfl, rfl⟩ | ⟨rfl, rfl⟩ | ⟨rfl, rfl⟩ <;> rfl
  · rw [h]
    show (if (UInt8.ofNat c).toNat = 92 then _ else _) = _
    rw [ofNat_toNat hc, if_neg h2, if_pos ⟨hp, h1⟩]
    rfl
  · rw [h]
    show hexW (hx (c / 16) :: hx (c % 16) :: r) = _
    have hh : c / 16 < 16 := by omega
    have hl : c % 16 < 16 := by omega
    have e1 := hexV_hx ⟨c / 16, hh⟩
    have e2 := hexV_hx ⟨c % 16, hl⟩
    have e3 : c / 16 * 16 + c % 16 = c := by omega
    simp only at e1 e2
    unfold hexW
    simp only [e1, e2, e3, hb, if_true]
    rw [if_neg (by rw [mayB_of hh hl (by rw [e3]; exact hb)]; simp)]
    rfl
theorem formW_ok {w : Bytes} {c k : Nat} (h : formW w = .ok c k) : c < 256 ∧ k = (signB c).length ∧ ∃ r, w = signB c ++ r := by
  unfold formW at h
  cases w with
  | nil => cases h
  | cons a w =>
    simp only at h
    have ha := a.toNat_lt
    by_cases h92 : a.toNat = 92
    · rw [if_pos h92] at h
      have ea : a = 92 := UInt8.toNat_inj.1 h92
      subst ea
      unfold escW at h
      cases w with
      | nil => cases h
      | cons d w =>
        simp only at h
        by_cases c1 : d.toNat = 34 ∨ d.toNat = 92
        · rw [if_pos c1] at h
          simp only [FR.ok.injEq] at h
          obtain ⟨rfl, rfl⟩ := h
          rcases c1 with c1 | c1
          · have : d = 34 := UInt8.toNat_inj.1 c1
            subst this
            exact ⟨by decide, rfl, w, rfl⟩
          · have : d = 92 := UInt8.toNat_inj.1 c1
            subst this
            exact ⟨by decide, rfl, w, rfl⟩
        rw [if_neg c1] at h
        by_cases c2 : d.toNat = 110
        · rw [if_pos c2] at h
          have : d = 110 := UInt8.toNat_inj.1 c2
          subst this
          cases h
          exact ⟨by decide, rfl, w, rfl⟩
        rw [if_neg c2] at h
        by_cases c3 : d.toNat = 114
        · rw [if_pos c3] at h
          have : d = 114 := UInt8.toNat_inj.1 c3
          subst this
          cases h
          exact ⟨by decide, rfl, w, rfl⟩
        rw [if_neg c3] at h
        by_cases c4 : d.toNat = 116
        · rw [if_pos c4] at h
          have : d = 116 := UInt8.toNat_inj.1 c4
          subst this
          cases h
          exact ⟨by decide, rfl, w, rfl⟩
        rw [if_neg c4] at h
        by_cases c5 : d.toNat = 120
        · rw [if_pos c5] at h
          have : d = 120 := UInt8.toNat_inj.1 c5
          subst this
          unfold hexW at h
          cases w with
          | nil => cases h
          | cons x w =>
            simp only at h
            cases hv : hexV x.toNat with
            | none => rw [hv] at h; cases h
            | some hi =>
              rw [hv] at h
              simp only at h
              split at h
              · cases h
              · cases w with
                | nil => cases h
                | cons y w =>
                  simp only at h
                  cases hv2 : hexV y.toNat with
                  | none => rw [hv2] at h; cases h
                  | some lo =>
                    rw [hv2] at h
                    simp only at h
                    split at h
                    · rename_i hb
                      simp only [FR.ok.injEq] at h
                      obtain ⟨rfl, rfl⟩ := h
                      have l1 := (hexV_lt hv).1
                      have l2 := (hexV_lt hv2).1
                      have s : signB (hi * 16 + lo) = [92, 120, hx hi, hx lo] := by
                        rcases cls (hi * 16 + lo) with ⟨e, hs, he⟩ | ⟨hs, hp, h1, h2⟩ | ⟨hs, hb2⟩
                        · rcases he with ⟨he, _⟩ | ⟨he, _⟩ | ⟨he, _⟩ | ⟨he, _⟩ | ⟨he, _⟩ <;> (rw [he] at hb; exact absurd hb (by decide))
                        · unfold byD at hb
                          rw [hp] at hb
                          simp at hb
                        · rw [hs, show (hi * 16 + lo) / 16 = hi by omega, show (hi * 16 + lo) % 16 = lo by omega]
                      rw [s, hx_of hv, hx_of hv2]
                      exact ⟨by omega, rfl, w, rfl⟩
                    · cases h
        · rw [if_neg c5] at h
          cases h
    · rw [if_neg h92] at h
      split at h
      · rename_i hp
        simp only [FR.ok.injEq] at h
        obtain ⟨rfl, rfl⟩ := h
        have s : signB a.toNat = [a] := by
          rcases cls a.toNat with ⟨e, hs, he⟩ | ⟨hs, _, _, _⟩ | ⟨hs, hb2⟩
          · rcases he with ⟨he, _⟩ | ⟨he, _⟩ | ⟨he, _⟩ | ⟨he, _⟩ | ⟨he, _⟩
            · exact absurd he hp.2
            · exact absurd he h92
            all_goals (have := hp.1; rw [he] at this; exact absurd this (by decide))
          · rw [hs]
            simp
          · unfold byD at hb2
            rw [hp.1] at hb2
            simp at hb2
        rw [s]
        exact ⟨ha, rfl, w, rfl⟩
      · cases h
theorem formW_bad {w : Bytes} {k : Nat} (h : formW w = .bad k) : (∀ c, c < 256 → lcpN (signB c) w ≤ k ∧ lcpN (signB c) w ≠ (signB c).length) ∧ (k = 0 ∨ ∃ c, c < 256 ∧ lcpN (signB c) w = k) := by
  have hno : ∀ c, c < 256 → lcpN (signB c) w ≠ (signB c).length := by
    intro c hc he
    obtain ⟨r, rfl⟩ := lcpN_full _ _ he
    rw [formW_sign hc] at h
    cases h
  suffices hK : (∀ c, c < 256 → lcpN (signB c) w ≤ k) ∧ (k = 0 ∨ ∃ c, c < 256 ∧ lcpN (signB c) w = k) from ⟨fun c hc => ⟨hK.1 c hc, hno c hc⟩, hK.2⟩
  have h34 : signB 34 = [92, 34] := rfl
  have h00 : signB 0 = [92, 120, 48, 48] := by decide
  cases w with
  | nil =>
    cases h
    exact ⟨fun c _ => (lcpN_le _ _).2, .inl rfl⟩
  | cons a w =>
    unfold formW at h
    simp only at h
    by_cases h92 : a.toNat = 92
    case neg =>
      rw [if_neg h92] at h
      split at h
      · cases h
      · rename_i hp
        cases h
        refine ⟨fun c hc => ?_, .inl rfl⟩
        have na : a ≠ 92 := fun e => h92 (by rw [e]; rfl)
        rcases cls c with ⟨e, hs, _⟩ | ⟨hs, hp2, h1, h2⟩ | ⟨hs, _⟩
        · rw [hs, lcpN, if_neg (Ne.symm na)]
          exact Nat.le_refl 0
        · rw [hs, lcpN, if_neg]
          · exact Nat.le_refl 0
          · intro e
            rw [← e, ofNat_toNat hc] at hp
            exact hp ⟨hp2, h1⟩
        · rw [hs, lcpN, if_neg (Ne.symm na)]
          exact Nat.le_refl 0
    case pos =>
      have ea : a = 92 := UInt8.toNat_inj.1 h92
      subst ea
      rw [if_pos h92] at h
      unfold escW at h
      cases w with
      | nil =>
        cases h
        exact ⟨fun c _ => (lcpN_le _ _).2, .inr ⟨34, by decide, by rw [h34]; rfl⟩⟩
      | cons d w =>
        simp only at h
        have n34 : ∀ {e : UInt8}, d.toNat ≠ e.toNat → e ≠ d := fun hh he => hh (by rw [he])
        by_cases c1 : d.toNat = 34 ∨ d.toNat = 92
        · rw [if_pos c1] at h; cases h
        rw [if_neg c1] at h
        by_cases c2 : d.toNat = 110
        · rw [if_pos c2] at h; cases h
        rw [if_neg c2] at h
        by_cases c3 : d.toNat = 114
        · rw [if_pos c3] at h; cases h
        rw [if_neg c3] at h
        by_cases c4 : d.toNat = 116
        · rw [if_pos c4] at h; cases h
        rw [if_neg c4] at h
        by_cases c5 : d.toNat = 120
        case neg =>
          rw [if_neg c5] at h
          cases h
          refine ⟨fun c hc => ?_, .inr ⟨34, by decide, ?_⟩⟩
          · rcases cls c with ⟨e, hs, he⟩ | ⟨hs, hp2, h1, h2⟩ | ⟨hs, _⟩
            · rw [hs, lcpN, if_pos rfl, lcpN, if_neg]
              · exact Nat.le_refl 1
              · rintro rfl
                rcases he with ⟨_, he⟩ | ⟨_, he⟩ | ⟨_, he⟩ | ⟨_, he⟩ | ⟨_, he⟩ <;> (subst he; first | exact c1 (.inl rfl) | exact c1 (.inr rfl) | exact c2 rfl | exact c3 rfl | exact c4 rfl)
            · have := (lcpN_le (signB c) (92 :: d :: w)).1
              rw [hs] at this ⊢
              exact this
            · rw [hs, lcpN, if_pos rfl, lcpN, if_neg]
              · exact Nat.le_refl 1
              · rintro rfl
                exact c5 rfl
          · rw [h34, lcpN, if_pos rfl, lcpN, if_neg]
            rintro rfl
            exact c1 (.inl rfl)
        case pos =>
          have ed : d = 120 := UInt8.toNat_inj.1 c5
          subst ed
          rw [if_pos c5] at h
          -- what stands for a byte, held against \x
          have up : ∀ (c : Nat) (y : Bytes), (∀ v v', signB c = [92, 120, v, v'] → byD c = true → v = hx (c / 16) → v' = hx (c % 16) → lcpN [v, v'] w ≤ y.length) → c < 256 → lcpN (signB c) (92 :: 120 :: w) ≤ y.length + 2 := by
            intro c y hy hc
            rcases cls c with ⟨e, hs, he⟩ | ⟨hs, hp2, h1, h2⟩ | ⟨hs, hb⟩
            · have := (lcpN_le (signB c) (92 :: 120 :: w)).1
              rw [hs] at this ⊢
              simp only [List.length_cons, List.length_nil] at this
              omega
            · have := (lcpN_le (signB c) (92 :: 120 :: w)).1
              rw [hs] at this ⊢
              simp only [List.length_cons, List.length_nil] at this
              omega
            · have := hy _ _ hs hb rfl rfl
              rw [hs, lcpN, if_pos rfl, lcpN, if_pos rfl]
              omega
          unfold hexW at h
          cases w with
          | nil =>
            cases h
            exact ⟨fun c _ => (lcpN_le _ _).2, .inr ⟨0, by decide, by rw [h00]; rfl⟩⟩
          | cons x w =>
            simp only at h
            cases hv : hexV x.toNat with
            | none =>
              rw [hv] at h
              cases h
              have nx : ∀ v, v < 16 → hx v ≠ x := by
                rintro v hl rfl
                rw [hexV_hx ⟨v, hl⟩] at hv
                cases hv
              refine ⟨fun c hc => up c [] (fun v v' _ _ e1 _ => by rw [e1, lcpN, if_neg (nx _ (by omega))]; exact Nat.le_refl 0) hc, .inr ⟨0, by decide, ?_⟩⟩
              rw [h00, lcpN, if_pos rfl, lcpN, if_pos rfl, lcpN, if_neg]
              exact nx 0 (by decide)
            | some hi =>
              rw [hv] at h
              simp only at h
              have ex := hx_of hv
              have l1 := (hexV_lt hv).1
              have inj : ∀ v, v < 16 → hx v = x → v = hi := by
                rintro v hl e
                have := hexV_hx ⟨v, hl⟩
                simp only [e, hv, Option.some.injEq] at this
                exact this.symm
              by_cases hm : mayB hi = false
              · rw [if_pos hm] at h
                cases h
                refine ⟨fun c hc => up c [] (fun v v' _ hb e1 _ => ?_) hc, .inr ⟨0, by decide, ?_⟩⟩
                · rw [e1, lcpN, if_neg]
                  · exact Nat.le_refl 0
                  · intro e
                    have e2 := inj _ (by omega) e
                    have := mayB_of (hi := c / 16) (lo := c % 16) (by omega) (by omega) (by rw [show c / 16 * 16 + c % 16 = c by omega]; exact hb)
                    rw [e2, hm] at this
                    cases this
                · rw [h00, lcpN, if_pos rfl, lcpN, if_pos rfl, lcpN, if_neg]
                  intro e
                  have e2 := inj 0 (by decide) e
                  rw [← e2] at hm
                  exact absurd hm (by decide)
              · rw [if_neg hm] at h
                have hm : mayB hi = true := by simpa using hm
                obtain ⟨lo0, hl0, hb0⟩ := mayB_ex l1 hm
                have s0 : signB (hi * 16 + lo0) = [92, 120, hx hi, hx lo0] := by
                  rcases cls (hi * 16 + lo0) with ⟨e, hs, he⟩ | ⟨hs, hp, h1, h2⟩ | ⟨hs, hb2⟩
                  · rcases he with ⟨he, _⟩ | ⟨he, _⟩ | ⟨he, _⟩ | ⟨he, _⟩ | ⟨he, _⟩ <;> (rw [he] at hb0; exact absurd hb0 (by decide))
                  · unfold byD at hb0
                    rw [hp] at hb0
                    simp at hb0
                  · rw [hs, show (hi * 16 + lo0) / 16 = hi by omega, show (hi * 16 + lo0) % 16 = lo0 by omega]
                cases w with
                | nil =>
                  cases h
                  exact ⟨fun c _ => (lcpN_le _ _).2, .inr ⟨hi * 16 + lo0, by omega, by rw [s0, ex]; simp [lcpN]⟩⟩
                | cons y w =>
                  simp only at h
                  have fin : (∀ lo, lo < 16 → hx lo = y → byD (hi * 16 + lo) ≠ true) → k = 3 → (∀ c, c < 256 → lcpN (signB c) (92 :: 120 :: x :: y :: w) ≤ k) ∧ (k = 0 ∨ ∃ c, c < 256 ∧ lcpN (signB c) (92 :: 120 :: x :: y :: w) = k) := by
                    rintro hy rfl
                    refine ⟨fun c hc => up c [0] (fun v v' _ hb e1 e2 => ?_) hc, .inr ⟨hi * 16 + lo0, by omega, ?_⟩⟩
                    · rw [e1, e2, lcpN]
                      split
                      · rename_i e3
                        have e4 := inj _ (by omega) e3
                        rw [lcpN, if_neg]
                        · exact Nat.le_refl 1
                        · intro e5
                          exact hy _ (by omega) e5 (by rw [← e4, show c / 16 * 16 + c % 16 = c by omega]; exact hb)
                      · exact Nat.zero_le _
                    · rw [s0, ex, lcpN, if_pos rfl, lcpN, if_pos rfl, lcpN, if_pos rfl, lcpN, if_neg]
                      intro e5
                      exact hy lo0 hl0 e5 hb0
                  cases hv2 : hexV y.toNat with
                  | none =>
                    rw [hv2] at h
                    cases h
                    refine fin (fun lo hl e => ?_) rfl
                    have := hexV_hx ⟨lo, hl⟩
                    simp only [e, hv2] at this
                    cases this
                  | some lo =>
                    rw [hv2] at h
                    simp only at h
                    split at h
                    · cases h
                    · rename_i hb
                      cases h
                      refine fin (fun lo' hl e => ?_) rfl
                      have := hexV_hx ⟨lo', hl⟩
                      simp only [e, hv2, Option.some.injEq] at this
                      rw [← this]
                      exact hb
end Go.Proofs.Yteibdplpbcobbaa
