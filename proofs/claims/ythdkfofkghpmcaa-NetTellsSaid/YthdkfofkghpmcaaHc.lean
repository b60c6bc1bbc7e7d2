/- NetTells. -/
import Derived.Test.YthdkfofkghpmcaaHb
namespace Go.Proofs.Ythdkfofkghpmcaa
open Go.RowKit Abs
section
variable {n D d nb : Nat} {H h : AHeap} {ls : List Lt} {s : NS} {lo : Nat → Prop} {Q : ARes → AHeap → Prop} {lv : AV} {z1 : Int}
/-- the first loop tells all letters -/
theorem loop0 (hn : 1000000 < n) {bx kb lb : Nat} {rv : AV} {t0 : T AV} {ds : DefT} (K : NetAt lo H nb s) (kx : RowH H bx TPN [.ptr nb 0]) (hbx : bx < H.next) (kk : RowH H kb TI [.int .i64 0]) (hkb : kb < H.next) (kl : RowH H lb TLets [lv]) (hlb : lb < H.next) (L : LAt H lv s.ls)
    (hg : ∀ x : Lt, ((putPs (law05_NetTells_R0 n).N (Code.rgp (law05_NetTells_R0 n).c).toList [.int .i64 x.id, .agg (letC x)] t0).bind fun t => slotsC t (law05_NetTells_R0 n).sa) = some [rv, .ptr lb 0, .ptr kb 0, .int .i64 x.id, .agg (letC x)])
    {kn kr : AHeap → R} {ke : Nat → AHeap → R} (hk : ∀ H', Tch [kb] H H' → RowH H' kb TI [.int .i64 (s.ls.length : Int)] → H'.get H.next = some (.obj .dfr) → H.next + 2 ≤ H'.next → Wp (kn H') Q) :
    Wp (rngK (rngX Try.prog (wL n (D + 2) (d + 3)) (law05_NetTells_R0 n).N (.fn 30 [] [.ptr bx 0]) (law05_NetTells_R0 n).c t0 ds H) kn kr ke) Q := by
  have t1 := rngH_tch [] (law05_NetTells_R0 n).N (law05_NetTells_R0 n).c t0 H
  have n1 := rngH_next (law05_NetTells_R0 n).N (law05_NetTells_R0 n).c t0 H
  have hlen : s.ls.length ≤ 256 := by
    obtain ⟨_, _, K⟩ := K
    exact K.len
  have hLb := L.lt
  have K1 := K.tch t1 (fun _ h => nomatch h)
  have kx1 := kx.tch t1 hbx (fun h => nomatch h)
  have kk1 := kk.tch t1 hkb (fun h => nomatch h)
  have kl1 := kl.tch t1 hlb (fun h => nomatch h)
  have L1 := L.tch t1 (fun _ _ h => nomatch h)
  have r1 := rngH_rec (law05_NetTells_R0 n).N (law05_NetTells_R0 n).c t0 H
  have nkb := rec_ne kk1 r1
  have nlb : lb ≠ kb := fun e => by
    subst e
    exact RowH.ne kl1 kk1 (by decide) rfl
  obtain ⟨H', e, t2, hq⟩ := all_iter (D := D) (d := d + 1) hn K1 kx1 (S := [kb, H.next + 1]) (y := H.next + 1)
    (Inv := fun i H2 => Tch [kb, H.next + 1] (rngH (law05_NetTells_R0 n).N (law05_NetTells_R0 n).c t0 H) H2 ∧ RowH H2 kb TI [.int .i64 (i : Int)] ∧ H2.get (H.next + 1) = some (recQ .ready .none (law05_NetTells_R0 n).N (law05_NetTells_R0 n).c t0 H.next)) (Fin := fun _ _ => False)
    (fun b hb => by
      rcases List.mem_cons.1 hb with rfl | hb
      · omega
      · rw [List.mem_singleton.1 hb]
        omega)
    (fun i H2 H3 I t => ⟨I.1.trans' t (fun _ h => nomatch h), I.2.1.tch t (by have := I.1.1; omega) (fun h => nomatch h), by rw [t.2.2 _ (by have := I.1.1; omega) (fun h => nomatch h)]; exact I.2.2⟩)
    (fun i H2 hi I => by
      obtain ⟨t3, k3, q3⟩ := I
      have n3 := t3.1
      have kl3 := kl1.tch t3 (by omega) (fun h => by
        rcases List.mem_cons.1 h with h | h
        · exact nlb h
        · have := List.mem_singleton.1 h
          omega)
      have L3 := L1.tch t3 (fun b hb h => by
        have hb2 := hLb b hb
        rcases List.mem_cons.1 h with h | h
        · subst h
          rcases L1 with ⟨e, _⟩ | ⟨c, rest, e, k, _⟩
          · rw [e] at hb
            cases hb
          · rw [e] at hb
            have := List.mem_singleton.1 hb
            subst this
            exact RowH.ne k kk1 (by decide) rfl
        · have := List.mem_singleton.1 h
          omega)
      obtain ⟨H3, e3, k4, q4, t4⟩ := round0 (n := n) (D := D + 2) (d := d + 1) q3 (by omega) hi (by omega) k3 (by omega) kl3 (by omega) L3 (fun c hc => by have := hLb c hc; omega) (hg _)
      refine ⟨true, H3, ?_, t4, fun _ => ⟨t3.trans t4, k4, q4⟩, fun h => nomatch h⟩
      rw [dynB_yld q3 (by kernel_rfl)]
      exact e3)
    ⟨Tch.refl _ _, kk1, r1⟩
  rcases hq with ⟨_, k3, q3⟩ | ⟨_, _, hF⟩
  · have n2 := t2.1
    refine Wp.rng (by kernel_rfl) e q3 (by decide) (fun _ => ?_) (fun h => nomatch h) (fun _ h => nomatch h)
    have tp : Tch [H.next + 1] H' (H'.put (H.next + 1) (recQ .exhausted .none (law05_NetTells_R0 n).N (law05_NetTells_R0 n).c t0 H.next)) := Tch.put (.inl (List.mem_singleton.2 rfl)) _
    refine hk _ (((t1.mono (S' := [kb]) fun _ h => nomatch h).trans' t2 fun b hb => ?_).trans' tp fun b hb => .inr (by rw [List.mem_singleton.1 hb]; omega)) (k3.tch tp (by omega) (fun h => nkb (List.mem_singleton.1 h))) ?_ (by show _ ≤ H'.next; omega)
    · rcases List.mem_cons.1 hb with rfl | hb
      · exact .inl (List.mem_singleton.2 rfl)
      · exact .inr (by rw [List.mem_singleton.1 hb]; omega)
    · rw [get_put_other _ (by omega), t2.2.2 H.next (by omega) (fun h => by
        rcases List.mem_cons.1 h with h | h
        · omega
        · have := List.mem_singleton.1 h
          omega)]
      exact rngH_mark _ _ _ _
  · exact hF.elim
/-- how often the second loop counts -/
def cnt (z : Int) (m : Nat) (e : Nat) : Prop := e ≤ m ∧ (m = 0 → e = 0) ∧ (0 < m → (e : Int) = if (m : Int) < (if 1 > z then 1 else z) then (m : Int) else (if 1 > z then 1 else z))
theorem loop1 (hn : 1000000 < n) {bx kb lb : Nat} {t0 : T AV} {ds : DefT} (K : NetAt lo H nb s) (kx : RowH H bx TPN [.ptr nb 0]) (hbx : bx < H.next) (kk : RowH H kb TI [.int .i64 0]) (hkb : kb < H.next) (kl : RowH H lb TI [.int .i64 z1]) (hlb : lb < H.next) (nlb : lb ≠ kb)
    (hg : ∀ x : Lt, ((putPs (law05_NetTells_R1 n).N (Code.rgp (law05_NetTells_R1 n).c).toList [.int .i64 x.id, .agg (letC x)] t0).bind fun t => slotsC t (law05_NetTells_R1 n).sa) = some [.ptr lb 0, .ptr kb 0])
    {kn kr : AHeap → R} {ke : Nat → AHeap → R} (hk : ∀ H' e, cnt z1 s.ls.length e → Tch [kb] H H' → RowH H' kb TI [.int .i64 (e : Int)] → H'.get H.next = some (.obj .dfr) → H.next + 2 ≤ H'.next → Wp (kn H') Q ∧ Wp (ke 4 H') Q) :
    Wp (rngK (rngX Try.prog (wL n (D + 2) (d + 3)) (law05_NetTells_R1 n).N (.fn 30 [] [.ptr bx 0]) (law05_NetTells_R1 n).c t0 ds H) kn kr ke) Q := by
  have t1 := rngH_tch [] (law05_NetTells_R1 n).N (law05_NetTells_R1 n).c t0 H
  have n1 := rngH_next (law05_NetTells_R1 n).N (law05_NetTells_R1 n).c t0 H
  have hlen : s.ls.length ≤ 256 := by
    obtain ⟨_, _, K⟩ := K
    exact K.len
  have K1 := K.tch t1 (fun _ h => nomatch h)
  have kx1 := kx.tch t1 hbx (fun h => nomatch h)
  have kk1 := kk.tch t1 hkb (fun h => nomatch h)
  have kl1 := kl.tch t1 hlb (fun h => nomatch h)
  have r1 := rngH_rec (law05_NetTells_R1 n).N (law05_NetTells_R1 n).c t0 H
  have nkb := rec_ne kk1 r1
  obtain ⟨H', e, t2, hq⟩ := all_iter (D := D) (d := d + 1) hn K1 kx1 (S := [kb, H.next + 1]) (y := H.next + 1)
    (Inv := fun i H2 => Tch [kb, H.next + 1] (rngH (law05_NetTells_R1 n).N (law05_NetTells_R1 n).c t0 H) H2 ∧ RowH H2 kb TI [.int .i64 (i : Int)] ∧ H2.get (H.next + 1) = some (recQ .ready .none (law05_NetTells_R1 n).N (law05_NetTells_R1 n).c t0 H.next) ∧ (i = 0 ∨ (i : Int) < z1))
    (Fin := fun i H2 => RowH H2 kb TI [.int .i64 (i : Int)] ∧ H2.get (H.next + 1) = some (recQ .done (.exit 4) (law05_NetTells_R1 n).N (law05_NetTells_R1 n).c t0 H.next) ∧ (i = 1 ∨ (i : Int) - 1 < z1) ∧ z1 ≤ (i : Int))
    (fun b hb => by
      rcases List.mem_cons.1 hb with rfl | hb
      · omega
      · rw [List.mem_singleton.1 hb]
        omega)
    (fun i H2 H3 I t => ⟨I.1.trans' t (fun _ h => nomatch h), I.2.1.tch t (by have := I.1.1; omega) (fun h => nomatch h), by rw [t.2.2 _ (by have := I.1.1; omega) (fun h => nomatch h)]; exact I.2.2.1, I.2.2.2⟩)
    (fun i H2 hi I => by
      obtain ⟨t3, k3, q3, c3⟩ := I
      have n3 := t3.1
      have kl3 := kl1.tch t3 (by omega) (fun h => by
        rcases List.mem_cons.1 h with h | h
        · exact nlb h
        · have := List.mem_singleton.1 h
          omega)
      obtain ⟨H3, e3, k4, q4, t4⟩ := round1 (n := n) (D := D + 2) (d := d + 1) q3 (by omega) (show i < 1000000 by omega) k3 (by omega) kl3 (by omega) nlb (hg s.ls[i])
      refine ⟨decide ((i : Int) + 1 < z1), H3, ?_, t4, fun hc => ?_, fun hc => ?_⟩
      · rw [dynB_yld q3 (by kernel_rfl)]
        exact e3
      · have hc := of_decide_eq_true hc
        rw [if_pos hc, if_pos hc] at q4
        exact ⟨t3.trans t4, k4, q4, .inr (by omega)⟩
      · have hc := of_decide_eq_false hc
        rw [if_neg hc, if_neg hc] at q4
        refine ⟨k4, q4, ?_, by omega⟩
        rcases c3 with h | h
        · exact .inl (by omega)
        · exact .inr (by omega))
    ⟨Tch.refl _ _, kk1, r1, .inl rfl⟩
  have n2 := t2.1
  have fin : ∀ (st : LoopState) (j : AJump) (e : Nat), cnt z1 s.ls.length e → RowH H' kb TI [.int .i64 (e : Int)] → Wp (kn (H'.put (H.next + 1) (recQ st j (law05_NetTells_R1 n).N (law05_NetTells_R1 n).c t0 H.next))) Q ∧ Wp (ke 4 (H'.put (H.next + 1) (recQ st j (law05_NetTells_R1 n).N (law05_NetTells_R1 n).c t0 H.next))) Q := fun st j e hc k3 => by
    have tp : Tch [H.next + 1] H' (H'.put (H.next + 1) (recQ st j (law05_NetTells_R1 n).N (law05_NetTells_R1 n).c t0 H.next)) := Tch.put (.inl (List.mem_singleton.2 rfl)) _
    refine hk _ e hc (((t1.mono (S' := [kb]) fun _ h => nomatch h).trans' t2 fun b hb => ?_).trans' tp fun b hb => .inr (by rw [List.mem_singleton.1 hb]; omega)) (k3.tch tp (by omega) (fun h => nkb (List.mem_singleton.1 h))) ?_ (by show _ ≤ H'.next; omega)
    · rcases List.mem_cons.1 hb with rfl | hb
      · exact .inl (List.mem_singleton.2 rfl)
      · exact .inr (by rw [List.mem_singleton.1 hb]; omega)
    · rw [get_put_other _ (by omega), t2.2.2 H.next (by omega) (fun h => by
        rcases List.mem_cons.1 h with h | h
        · omega
        · have := List.mem_singleton.1 h
          omega)]
      exact rngH_mark _ _ _ _
  rcases hq with ⟨_, k3, q3, c3⟩ | ⟨i, hi, k3, q3, c3, c4⟩
  · refine Wp.rng (by kernel_rfl) e q3 (by decide) (fun _ => (fin _ _ s.ls.length ⟨Nat.le_refl _, id, fun hm => ?_⟩ k3).1) (fun h => nomatch h) (fun _ h => nomatch h)
    have c3 := c3.resolve_left (by omega)
    rw [if_neg (show ¬ 1 > z1 by omega), if_pos c3]
  · refine Wp.rng (by kernel_rfl) e q3 (by decide) (fun h => nomatch h) (fun h => nomatch h) (fun id h => ?_)
    cases h
    refine (fin _ _ (i + 1) ⟨hi, fun h => absurd h (by omega), fun _ => ?_⟩ k3).2
    by_cases hz : 1 > z1
    · rw [if_pos hz, if_neg (show ¬ (s.ls.length : Int) < 1 by omega)]
      rcases c3 with h | h <;> omega
    · rw [if_neg hz, if_neg (show ¬ (s.ls.length : Int) < z1 by omega)]
      rcases c3 with h | h <;> omega
end
end Go.Proofs.Ythdkfofkghpmcaa
