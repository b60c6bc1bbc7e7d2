/- What voteOnce_proved stands on, part 8 of 8. -/
import Derived.Test.YteecmjmglmpbpaaKO7
namespace Go.Proofs.Yteecmjmglmpbpaa
open Go.RowKit Abs
structure FileIs (y : FileS) (E : List Ent) : Prop where
 loose : y.loose = []
 same : y.sure = y.seen
 u : y.seen.u = fileB E
 th : y.seen.th = false → E = []
def tornL (fr : Bool) (u : Bytes) : List (List Chg) := if fr = true then [[], [chR], [chR, chA u], [chA u]] else [[], [chA u]]
structure TornF (y : FileS) (E : List Ent) (fr : Bool) (u : Bytes) : Prop where
 l : y.loose ∈ tornL fr u
 su : y.sure.u = fileB E
 th : y.sure.th = false → E = []
 new : fr = true → y.loose = [chA u] → E = []
theorem FileIs.torn {y : FileS} {E : List Ent} (k : FileIs y E) (fr : Bool) (u : Bytes) : TornF y E fr u :=
 ⟨by rw [k.loose]; unfold tornL; split <;> exact List.mem_cons_self .., by rw [k.same]; exact k.u, by rw [k.same]; exact k.th, fun _ h => by rw [k.loose] at h; cases h⟩
theorem part_bad {p : Bytes} (hp : p.length ≤ 4096) {k : Nat} (hk : k < p.length + 12) : (takeR ((frameB p).take k)).2.2 ≠ 0 := by
 intro h
 have hl := takeR_len h
 have hf := take_frame h
 have hfl := frameB_length p
 obtain ⟨q, hq⟩ : ∃ q, (takeR ((frameB p).take k)).1 = q := ⟨_, rfl⟩
 rw [hq] at hf hl
 rw [List.length_take] at hl
 rw [List.take_take, Nat.min_eq_left (by omega)] at hf
 have e1 : frameB p = frameB q ++ (frameB p).drop (takeR ((frameB p).take k)).2.1 := by
  rw [← hf, List.take_append_drop]
 have e2 := frame_take (p := q) (rest := (frameB p).drop (takeR ((frameB p).take k)).2.1) (by omega)
 rw [← e1] at e2
 have e3 := frame_take (p := p) (rest := []) hp
 rw [List.append_nil, e2] at e3
 have : q.length + 12 = p.length + 12 := congrArg (fun z => z.2.1) e3
 omega
theorem fileB_one (e : Ent) : fileB [e] = frameB (entB e) := List.append_nil _
def Left (c : Cont) (E : List Ent) (fr : Bool) (e : Ent) : Prop :=
 ∃ E' tl, c.u = fileB E' ++ tl ∧ (takeR tl).2.2 ≠ 0 ∧ (c.th = false → E' = [] ∧ tl = []) ∧ (E' = E ∨ (fr = true ∧ E' = []) ∨ (fr = true ∧ E' = [e]) ∨ (fr = false ∧ E' = E ++ [e]))
theorem crash_torn {y : FileS} {E : List Ent} {fr : Bool} {e : Ent} (k : TornF y E fr (frameB (entB e))) (kept torn : Int) : Left (crashC y kept torn) E fr e := by
 have h29 : (frameB (entB e)).length = 29 := by rw [frameB_length, entB_len]
 have keep : Left y.sure E fr e := ⟨E, [], by rw [List.append_nil]; exact k.su, takeR_nil, fun h => ⟨k.th h, rfl⟩, .inl rfl⟩
 have gone : fr = true → Left ⟨false, []⟩ E fr e := fun hfr => ⟨[], [], rfl, takeR_nil, fun _ => ⟨rfl, rfl⟩, .inr (.inl ⟨hfr, rfl⟩)⟩
 have part : ∀ (c : Cont) (F : List Ent), c.u = fileB F → (F = E ∨ (fr = true ∧ F = [])) → Left (do1 c (tornC (chA (frameB (entB e))) torn)) E fr e := fun c F hc hF => by
  refine ⟨F, (frameB (entB e)).take (min torn (((frameB (entB e)).length : Int) - 1)).toNat, ?_, part_bad (by rw [entB_len]; omega) (by rw [entB_len]; omega), (fun h => by cases h), ?_⟩
  ·rw [← hc]
   rfl
  ·rcases hF with h | h
   ·exact .inl h
   ·exact .inr (.inl h)
 have c1 : ∀ l : List Chg, y.loose = l → ∀ i, min kept.toNat l.length = i → crashC y kept torn = (match l[i]? with
   | some c => if tears c torn then do1 (doL y.sure (l.take i)) (tornC c torn) else doL y.sure (l.take i)
   | none => doL y.sure (l.take i)) := fun l hl i hi => by
  unfold crashC keptN
  rw [hl, hi]
  rfl
 have none_ : y.loose = [] → Left (crashC y kept torn) E fr e := fun hl => by
  rw [c1 [] hl 0 (Nat.min_zero _)]
  exact keep
 have grow : y.loose = [chA (frameB (entB e))] → (fr = true → E = []) → Left (crashC y kept torn) E fr e := fun hl hE => by
  rcases (show min kept.toNat 1 = 0 ∨ min kept.toNat 1 = 1 by omega) with hm | hm
  ·rw [c1 _ hl 0 hm]
   show Left (if tears (chA (frameB (entB e))) torn then do1 y.sure (tornC (chA (frameB (entB e))) torn) else y.sure) E fr e
   split
   ·exact part _ E k.su (.inl rfl)
   ·exact keep
  ·rw [c1 _ hl 1 hm]
   show Left ⟨true, y.sure.u ++ frameB (entB e)⟩ E fr e
   refine ⟨E ++ [e], [], ?_, takeR_nil, (fun h => by cases h), ?_⟩
   ·show y.sure.u ++ frameB (entB e) = _
    rw [k.su, List.append_nil, fileB_app, fileB_one]
   ·cases fr with
    | true => rw [hE rfl]; exact .inr (.inr (.inl ⟨rfl, rfl⟩))
    | false => exact .inr (.inr (.inr ⟨rfl, rfl⟩))
 have kl := k.l
 unfold tornL at kl
 split at kl
 ·rename_i hfr
  rcases List.mem_cons.1 kl with hl | kl
  ·exact none_ hl
  rcases List.mem_cons.1 kl with hl | kl
  ·rcases (show min kept.toNat 1 = 0 ∨ min kept.toNat 1 = 1 by omega) with hm | hm
   ·rw [c1 _ hl 0 hm]
    show Left (if tears chR torn then _ else y.sure) E fr e
    rw [if_neg (fun h => by cases h.2.1)]
    exact keep
   ·rw [c1 _ hl 1 hm]
    exact gone hfr
  rcases List.mem_cons.1 kl with hl | kl
  ·rcases (show min kept.toNat 2 = 0 ∨ min kept.toNat 2 = 1 ∨ min kept.toNat 2 = 2 by omega) with hm | hm | hm
   ·rw [c1 _ hl 0 hm]
    show Left (if tears chR torn then _ else y.sure) E fr e
    rw [if_neg (fun h => by cases h.2.1)]
    exact keep
   ·rw [c1 _ hl 1 hm]
    show Left (if tears (chA (frameB (entB e))) torn then do1 ⟨false, []⟩ (tornC (chA (frameB (entB e))) torn) else ⟨false, []⟩) E fr e
    split
    ·exact part _ [] rfl (.inr ⟨hfr, rfl⟩)
    ·exact gone hfr
   ·rw [c1 _ hl 2 hm]
    show Left ⟨true, [] ++ frameB (entB e)⟩ E fr e
    refine ⟨[e], [], ?_, takeR_nil, (fun h => by cases h), .inr (.inr (.inl ⟨hfr, rfl⟩))⟩
    show [] ++ frameB (entB e) = _
    rw [List.append_nil, fileB_one]
    rfl
  ·have hl := List.mem_singleton.1 kl
   exact grow hl fun h => k.new h hl
 ·rename_i hfr
  rcases List.mem_cons.1 kl with hl | kl
  ·exact none_ hl
  ·exact grow (List.mem_singleton.1 kl) fun h => absurd h hfr
theorem upd_same {α : Type} (f : Nat → α) (i : Nat) (x : α) : upd f i x i = x := if_pos rfl
theorem upd_other {α : Type} (f : Nat → α) {i j : Nat} (x : α) (h : j ≠ i) : upd f i x j = f j := if_neg h
theorem stp_out {s : DS} {g : Nat} {E : List Ent} {fr : Bool} {e : Ent} (hg : g < 2) (k : FileIs (s.fs g) E) (hsz : (fileB E).length < 900000) :
  (∀ f, f ≠ g → (stpW s (g : Int) fr (frameB (entB e))).2.fs f = s.fs f) ∧
  ((stpW s (g : Int) fr (frameB (entB e))).1 = 0 → FileIs ((stpW s (g : Int) fr (frameB (entB e))).2.fs g) ((if fr = true then [] else E) ++ [e])) ∧
  ((stpW s (g : Int) fr (frameB (entB e))).1 ≠ 0 → (stpW s (g : Int) fr (frameB (entB e))).1 = 40 ∧ TornF ((stpW s (g : Int) fr (frameB (entB e))).2.fs g) E fr (frameB (entB e))) := by
 obtain ⟨u, hu⟩ : ∃ u, frameB (entB e) = u := ⟨_, rfl⟩
 have hul : u.length = 29 := by rw [← hu, frameB_length, entB_len]
 have hone : fileB [e] = u := by rw [fileB_one, hu]
 rw [hu]
 have ref0 : ∀ p : Int, p ≠ 0 → refP p (g : Int) = 0 := fun p hp => by
  unfold refP
  rw [if_neg hp, if_pos (by omega)]
 have ref40 : refP 0 (g : Int) = 40 := if_pos rfl
 -- behind the first step: the file as it is now
 have second : ∀ (s1 : DS) (y : FileS) (F : List Ent), stp1 s (g : Int) fr = (0, s1) → s1.fs g = y → (∀ f, f ≠ g → s1.fs f = s.fs f) → y.seen.u = fileB F → (fileB F).length < 900000 → TornF y E fr u → TornF (moreF y (chA u)) E fr u → F ++ [e] = (if fr = true then [] else E) ++ [e] →
   (∀ f, f ≠ g → (stpW s (g : Int) fr u).2.fs f = s.fs f) ∧ ((stpW s (g : Int) fr u).1 = 0 → FileIs ((stpW s (g : Int) fr u).2.fs g) ((if fr = true then [] else E) ++ [e])) ∧ ((stpW s (g : Int) fr u).1 ≠ 0 → (stpW s (g : Int) fr u).1 = 40 ∧ TornF ((stpW s (g : Int) fr u).2.fs g) E fr u) := by
  intro s1 y F h1 hy ho hF hFl hT hT2 hE
  have hw : stpW s (g : Int) fr u = if errP s1 (g : Int) (chA u) ≠ 0 then (errP s1 (g : Int) (chA u), actD s1 (g : Int) (chA u)) else (refP (actD s1 (g : Int) (chA u)).p (g : Int), synD (actD s1 (g : Int) (chA u)) (g : Int)) := by
   unfold stpW
   rw [h1]
   exact if_neg (by simp)
  rw [hw]
  by_cases hp : s1.p = 0
  ·have h40 : errP s1 (g : Int) (chA u) = 40 := by
    rw [err_ref (by rw [hp, ref40]; decide), hp, ref40]
   rw [if_pos (by rw [h40]; decide), act_no (by rw [h40]; decide), h40]
   exact ⟨ho, (fun h => by cases h), fun _ => ⟨rfl, by rw [hy]; exact hT⟩⟩
  ·have hown : ownE (s1.fs g) (chA u) = 0 := by
    have h0 : ownE (s1.fs g) (chA u) = if (1048576 : Int) - ((s1.fs g).seen.u.length : Int) < (u.length : Int) then 8 else 0 := if_pos rfl
    rw [h0, hy, hF, if_neg (by omega)]
   have he : errP s1 (g : Int) (chA u) = 0 := (err_ok (ref0 _ hp)).trans hown
   have ha := act_ok (c := chA u) (ref0 _ hp) hown
   rw [if_neg (by rw [he]; simp), ha]
   have oth : ∀ f, f ≠ g → (upd s1.fs g (moreF (s1.fs g) (chA u))) f = s.fs f := fun f hf => by rw [upd_other _ _ hf]; exact ho f hf
   by_cases hp2 : stepP s1.p = 0
   ·have hs : synD ⟨upd s1.fs g (moreF (s1.fs g) (chA u)), stepP s1.p, s1.ops + 1⟩ (g : Int) = ⟨upd s1.fs g (moreF (s1.fs g) (chA u)), stepP s1.p, s1.ops + 1⟩ := by
     unfold synD
     rw [if_neg (by show ¬ refP (stepP s1.p) (g : Int) = 0; rw [hp2, ref40]; decide)]
    rw [hs]
    refine ⟨oth, fun h => ?_, fun _ => ⟨?_, ?_⟩⟩
    ·have h : refP (stepP s1.p) (g : Int) = 0 := h
     rw [hp2, ref40] at h
     cases h
    ·show refP (stepP s1.p) (g : Int) = 40
     rw [hp2, ref40]
    ·show TornF (upd s1.fs g (moreF (s1.fs g) (chA u)) g) E fr u
     rw [upd_same, hy]
     exact hT2
   ·have hs : synD ⟨upd s1.fs g (moreF (s1.fs g) (chA u)), stepP s1.p, s1.ops + 1⟩ (g : Int) = ⟨upd (upd s1.fs g (moreF (s1.fs g) (chA u))) g (synF (upd s1.fs g (moreF (s1.fs g) (chA u)) g)), stepP (stepP s1.p), s1.ops + 1 + 1⟩ := by
     unfold synD
     rw [if_pos (show refP (stepP s1.p) (g : Int) = 0 from ref0 _ hp2)]
     rfl
    rw [hs]
    refine ⟨fun f hf => ?_, fun _ => ?_, fun h => absurd (show refP (stepP s1.p) (g : Int) = 0 from ref0 _ hp2) h⟩
    ·show upd (upd s1.fs g (moreF (s1.fs g) (chA u))) g (synF (upd s1.fs g (moreF (s1.fs g) (chA u)) g)) f = s.fs f
     rw [upd_other _ _ hf]
     exact oth f hf
    ·show FileIs (upd (upd s1.fs g (moreF (s1.fs g) (chA u))) g (synF (upd s1.fs g (moreF (s1.fs g) (chA u)) g)) g) _
     rw [upd_same, upd_same, hy, ← hE]
     refine ⟨rfl, rfl, ?_, fun h => nomatch h⟩
     show y.seen.u ++ u = _
     rw [hF, fileB_app, hone]
 by_cases hc : (fr && there s (g : Int)) = true
 ·rw [Bool.and_eq_true] at hc
  obtain ⟨hfr, hth⟩ := hc
  have hth : (s.fs g).seen.th = true := hth
  subst hfr
  have hs1 : stp1 s (g : Int) true = (errP s (g : Int) chR, actD s (g : Int) chR) := if_pos (show (true && (s.fs g).seen.th) = true by rw [hth]; rfl)
  by_cases hp : s.p = 0
  ·have h40 : errP s (g : Int) chR = 40 := by
    rw [err_ref (by rw [hp, ref40]; decide), hp, ref40]
   have hw : stpW s (g : Int) true u = (40, s) := by
    unfold stpW
    rw [hs1, act_no (by rw [h40]; decide), h40]
    exact if_pos (show (40 : Int) ≠ 0 by decide)
   rw [hw]
   exact ⟨fun _ _ => rfl, (fun h => by cases h), fun _ => ⟨rfl, k.torn _ _⟩⟩
  ·have hown : ownE (s.fs g) chR = 0 := by
    unfold ownE
    rw [if_neg (by decide), if_neg (by rw [hth]; decide), if_neg (fun h => absurd h.1 (by decide))]
   have he : errP s (g : Int) chR = 0 := (err_ok (ref0 _ hp)).trans hown
   have ha := act_ok (c := chR) (ref0 _ hp) hown
   rw [ha, he] at hs1
   refine second _ (moreF (s.fs g) chR) [] hs1 (upd_same ..) (fun f hf => upd_other _ _ hf) rfl (by decide) ⟨?_, ?_, ?_, ?_⟩ ⟨?_, ?_, ?_, ?_⟩ rfl
   ·show (s.fs g).loose ++ [chR] ∈ _
    rw [k.loose]
    exact List.mem_cons_of_mem _ (List.mem_cons_self ..)
   ·show (s.fs g).sure.u = _
    rw [k.same]
    exact k.u
   ·show (s.fs g).sure.th = false → _
    rw [k.same]
    exact k.th
   ·show _ → (s.fs g).loose ++ [chR] = _ → _
    rw [k.loose]
    intro _ h
    injection h with h _
    cases h
   ·show (s.fs g).loose ++ [chR] ++ [chA u] ∈ _
    rw [k.loose]
    exact List.mem_cons_of_mem _ (List.mem_cons_of_mem _ (List.mem_cons_self ..))
   ·show (s.fs g).sure.u = _
    rw [k.same]
    exact k.u
   ·show (s.fs g).sure.th = false → _
    rw [k.same]
    exact k.th
   ·show _ → (s.fs g).loose ++ [chR] ++ [chA u] = _ → _
    rw [k.loose]
    intro _ h
    injection h with _ h
    cases h
 ·have hs1 : stp1 s (g : Int) fr = (0, s) := if_neg hc
  have hnew : fr = true → E = [] := fun hfr => by
   refine k.th ?_
   rw [hfr, Bool.true_and] at hc
   exact Bool.eq_false_iff.2 hc
  refine second s (s.fs g) E hs1 rfl (fun _ _ => rfl) k.u hsz (k.torn _ _) ⟨?_, ?_, ?_, fun h _ => hnew h⟩ ?_
  ·show (s.fs g).loose ++ [chA u] ∈ _
   rw [k.loose]
   unfold tornL
   split
   ·exact List.mem_cons_of_mem _ (List.mem_cons_of_mem _ (List.mem_cons_of_mem _ (List.mem_cons_self ..)))
   ·exact List.mem_cons_of_mem _ (List.mem_cons_self ..)
  ·show (s.fs g).sure.u = _
   rw [k.same]
   exact k.u
  ·show (s.fs g).sure.th = false → _
   rw [k.same]
   exact k.th
  ·split
   ·rename_i hfr
    rw [hnew hfr]
   ·rfl
theorem pick_none {f : Int} : ∀ (l : List Ent) (a : Ent × Int), (∀ e ∈ l, e.c ≤ a.1.c) → pickF f l a = a
 | [], _, _ => rfl
 | e :: l, a, h => by
  show pickF f l (if e.c > a.1.c then (e, f) else a) = a
  rw [if_neg (by have := h e (List.mem_cons_self ..); omega)]
  exact pick_none l a fun x hx => h x (List.mem_cons_of_mem _ hx)
theorem pick_lt {f K : Int} : ∀ (l : List Ent) (a : Ent × Int), (∀ e ∈ l, e.c < K) → a.1.c < K → (pickF f l a).1.c < K
 | [], _, _, h => h
 | e :: l, a, h, ha => by
  show (pickF f l (if e.c > a.1.c then (e, f) else a)).1.c < K
  refine pick_lt l _ (fun x hx => h x (List.mem_cons_of_mem _ hx)) ?_
  split
  ·exact h e (List.mem_cons_self ..)
  ·exact ha
theorem pick_max {f : Int} {m : Ent} : ∀ (l : List Ent) (a : Ent × Int), m ∈ l → a.1.c < m.c → (∀ e ∈ l, e.c ≤ m.c ∧ (e.c = m.c → e = m)) → pickF f l a = (m, f)
 | [], _, h, _, _ => nomatch h
 | e :: l, a, hm, ha, h => by
  show pickF f l (if e.c > a.1.c then (e, f) else a) = (m, f)
  obtain ⟨h1, h2⟩ := h e (List.mem_cons_self ..)
  have hr := fun x hx => h x (List.mem_cons_of_mem _ hx)
  by_cases he : e.c = m.c
  ·have := h2 he
   subst this
   rw [if_pos ha]
   exact pick_none l _ fun x hx => (hr x hx).1
  ·have hml : m ∈ l := by
    rcases List.mem_cons.1 hm with h | h
    ·subst h
     exact absurd rfl he
    ·exact h
   split
   ·exact pick_max l _ hml (show e.c < m.c by omega) hr
   ·exact pick_max l _ hml ha hr
structure Ord (E : Nat → List Ent) (m : Ent) (g : Nat) : Prop where
 g01 : g = 0 ∨ g = 1
 ok : (m = ne0 ∧ E 0 = [] ∧ E 1 = [] ∧ g = 0) ∨ (EntOk m ∧ m ∈ E g ∧ (∀ e ∈ E g, EntOk e ∧ e.c ≤ m.c ∧ (e.c = m.c → e = m)) ∧ ∀ e ∈ E (1 - g), EntOk e ∧ e.c < m.c)
theorem Ord.c0 {E : Nat → List Ent} {m : Ent} {g : Nat} (o : Ord E m g) : 0 ≤ m.c := by
 rcases o.ok with ⟨rfl, _⟩ | ⟨h, _⟩
 ·decide
 ·have := h.1
  omega
theorem Ord.pick {E : Nat → List Ent} {m : Ent} {g : Nat} (o : Ord E m g) : pickF 1 (E 1) (pickF 0 (E 0) (ne0, 0)) = (m, (g : Int)) := by
 rcases o.ok with ⟨rfl, h0, h1, rfl⟩ | ⟨hm, hin, hg, ho⟩
 ·rw [h0, h1]
  rfl
 ·have := hm.1
  rcases o.g01 with rfl | rfl
  ·rw [pick_max (E 0) (ne0, 0) hin (show (0 : Int) < m.c by omega) fun e he => (hg e he).2]
   exact pick_none _ _ fun e he => by have := (ho e he).2; show e.c ≤ m.c; omega
  ·exact pick_max (E 1) _ hin (pick_lt (E 0) _ (fun e he => (ho e he).2) (show (0 : Int) < m.c by omega)) fun e he => (hg e he).2
theorem Ord.ents {E : Nat → List Ent} {m : Ent} {g : Nat} (o : Ord E m g) {f : Nat} (hf : f = 0 ∨ f = 1) : ∀ e ∈ E f, EntOk e ∧ e.c ≤ m.c := by
 intro e he
 rcases o.ok with ⟨rfl, h0, h1, rfl⟩ | ⟨hm, hin, hg, ho⟩
 ·rcases hf with rfl | rfl
  ·rw [h0] at he
   cases he
  ·rw [h1] at he
   cases he
 ·by_cases hfg : f = g
  ·subst hfg
   exact ⟨(hg e he).1, (hg e he).2.1⟩
  ·have : f = 1 - g := by
    rcases hf with rfl | rfl <;> rcases o.g01 with h | h <;> omega
   subst this
   have := ho e he
   exact ⟨this.1, by omega⟩
structure VInv (s : DS) (x : BoxS) (E : Nat → List Ent) (g : Nat) : Prop where
 o : Ord E x.ne g
 fi : ∀ f, f = 0 ∨ f = 1 → FileIs (s.fs f) (E f)
 file : x.file = (g : Int)
 m0 : x.m0 = ((E 0).length : Int)
 m1 : x.m1 = ((E 1).length : Int)
 br : x.br = 0
def Place (m : Ent) (g g' : Nat) (fr : Bool) : Prop := (fr = false ∧ g' = g ∧ m.c ≠ 0) ∨ (fr = true ∧ ((m.c = 0 ∧ g' = 0) ∨ (m.c ≠ 0 ∧ g' = 1 - g)))
def Broken (s : DS) (E : Nat → List Ent) (m : Ent) (g : Nat) (y : Ent) : Prop := ∃ g' fr, (g' = 0 ∨ g' = 1) ∧ Place m g g' fr ∧ (∀ f, f = 0 ∨ f = 1 → f ≠ g' → FileIs (s.fs f) (E f)) ∧ TornF (s.fs g') (E g') fr (frameB (entB y))
theorem ord_new {E : Nat → List Ent} {m y : Ent} {g g' : Nat} {fr : Bool} (o : Ord E m g) (hy : EntOk y) (hc : y.c = m.c + 1) (hg' : g' = 0 ∨ g' = 1) (hp : Place m g g' fr) : Ord (upd E g' ((if fr = true then [] else E g') ++ [y])) y g' := by
 have hen : ∀ f, (f = 0 ∨ f = 1) → ∀ e ∈ E f, EntOk e ∧ e.c < y.c := fun f hf e he => by
  have := o.ents hf e he
  exact ⟨this.1, by omega⟩
 refine ⟨hg', .inr ⟨hy, ?_, fun e he => ?_, fun e he => ?_⟩⟩
 ·rw [upd_same]
  exact List.mem_append_right _ (List.mem_singleton.2 rfl)
 ·rw [upd_same] at he
  rcases List.mem_append.1 he with he | he
  ·split at he
   ·cases he
   ·have := hen g' hg' e he
    exact ⟨this.1, by omega, fun h => by omega⟩
  ·rw [List.mem_singleton.1 he]
   exact ⟨hy, Int.le_refl _, fun _ => rfl⟩
 ·rw [upd_other _ _ (by rcases hg' with rfl | rfl <;> decide)] at he
  exact hen (1 - g') (by rcases hg' with rfl | rfl <;> decide) e he
theorem ord_old {E : Nat → List Ent} {m : Ent} {g g' : Nat} {fr : Bool} {L : List Ent} (o : Ord E m g) (hp : Place m g g' fr) (hL : L = E g' ∨ (fr = true ∧ L = [])) : Ord (upd E g' L) m g := by
 have same : L = E g' → Ord (upd E g' L) m g := fun h => by
  have : upd E g' L = E := by
   funext f
   unfold upd
   split
   ·rename_i hf
    rw [hf, h]
   ·rfl
  rw [this]
  exact o
 rcases hL with h | ⟨hfr, rfl⟩
 ·exact same h
 rcases hp with ⟨h, _⟩ | ⟨_, ⟨h0, rfl⟩ | ⟨h0, rfl⟩⟩
 ·rw [h] at hfr
  cases hfr
 ·rcases o.ok with ⟨_, h1, _⟩ | ⟨hm, _⟩
  ·exact same h1.symm
  ·have := hm.1
   omega
 ·refine ⟨o.g01, ?_⟩
  rcases o.ok with ⟨rfl, _⟩ | ⟨hm, hin, hg, ho⟩
  ·exact absurd rfl h0
  ·have hne : g ≠ 1 - g := by rcases o.g01 with rfl | rfl <;> decide
   refine .inr ⟨hm, by rw [upd_other _ _ hne]; exact hin, fun e he => hg e (by rw [upd_other _ _ hne] at he; exact he), fun e he => ?_⟩
   rw [upd_same] at he
   cases he
theorem place_ok {x : BoxS} {g : Nat} (hg : g = 0 ∨ g = 1) (hf : x.file = (g : Int)) : ∃ g' : Nat, placeF x = (g' : Int) ∧ (g' = 0 ∨ g' = 1) ∧ Place x.ne g g' (placeN x) := by
 unfold placeF placeN Place
 by_cases h1 : x.ne.c = 0
 ·rw [if_pos h1, if_pos h1]
  exact ⟨0, rfl, .inl rfl, .inr ⟨rfl, .inl ⟨h1, rfl⟩⟩⟩
 rw [if_neg h1, if_neg h1]
 by_cases h2 : (if x.file = 0 then x.m0 else x.m1) < 8
 ·rw [if_pos h2, if_pos h2]
  exact ⟨g, hf, hg, .inl ⟨rfl, rfl, h1⟩⟩
 rw [if_neg h2, if_neg h2, hf]
 rcases hg with rfl | rfl
 ·exact ⟨1, rfl, .inr rfl, .inr ⟨rfl, .inr ⟨h1, rfl⟩⟩⟩
 ·exact ⟨0, rfl, .inl rfl, .inr ⟨rfl, .inr ⟨h1, rfl⟩⟩⟩
section
variable {s : DS} {x : BoxS} {E : Nat → List Ent} {g : Nat} {t f : Int}
theorem wr_out (I : VInv s x E g) (hsz : ∀ f, f = 0 ∨ f = 1 → (fileB (E f)).length < 900000) :
  (((wr s x t f).1 = 2 ∨ (wr s x t f).1 = 5) ∧ (wr s x t f).2 = (x, s)) ∨ (wr s x t f = (0, x, s) ∧ t = x.ne.t ∧ f = x.ne.f) ∨
  (mayB t f x.ne.t x.ne.f = true ∧ balOk t f ∧ (((wr s x t f).1 = 0 ∧ ∃ E' g', VInv (wr s x t f).2.2 (wr s x t f).2.1 E' g' ∧ (wr s x t f).2.1.ne = nextE x t f) ∨ ((wr s x t f).1 = 40 ∧ EntOk (nextE x t f) ∧ Broken (wr s x t f).2.2 E x.ne g (nextE x t f)))) := by
 have hc0 := I.o.c0
 by_cases c1 : refV x t f = 0
 case neg =>
  have hw : wr s x t f = (refV x t f, x, s) := if_pos c1
  rw [hw]
  refine .inl ⟨?_, rfl⟩
  show refV x t f = 2 ∨ refV x t f = 5
  unfold refV at c1 ⊢
  rw [if_neg (by rw [I.br]; simp)] at c1 ⊢
  split at c1
  ·rename_i h1
   rw [if_pos h1]
   split at c1
   ·exact absurd rfl c1
   ·rename_i h2
    rw [if_neg h2]
    exact .inr rfl
  ·rename_i h1
   rw [if_neg h1]
   exact .inl rfl
 obtain ⟨_, hbo, hmay⟩ := refV_ok c1
 by_cases c2 : t = x.ne.t ∧ f = x.ne.f
 ·exact .inr (.inl ⟨(if_neg (by simpa using c1)).trans (if_pos c2), c2.1, c2.2⟩)
 by_cases c3 : x.ne.c ≥ 4611686018427387904
 ·have hw : wr s x t f = (5, x, s) := (if_neg (by simpa using c1)).trans ((if_neg c2).trans (if_pos c3))
  rw [hw]
  exact .inl ⟨.inr rfl, rfl⟩
 have hyo : EntOk (nextE x t f) := ⟨by show (1 : Int) ≤ x.ne.c + 1; omega, by show x.ne.c + 1 ≤ 4611686018427387904; omega, hbo⟩
 obtain ⟨g', hpf, hg', hpl⟩ := place_ok I.o.g01 I.file
 have hw : wr s x t f = if (stpW s (placeF x) (placeN x) (frameB (entB (nextE x t f)))).1 ≠ 0 then ((stpW s (placeF x) (placeN x) (frameB (entB (nextE x t f)))).1, { x with br := (stpW s (placeF x) (placeN x) (frameB (entB (nextE x t f)))).1 }, (stpW s (placeF x) (placeN x) (frameB (entB (nextE x t f)))).2) else (0, newX x t f, (stpW s (placeF x) (placeN x) (frameB (entB (nextE x t f)))).2) := by
  unfold wr
  rw [if_neg (by simpa using c1), if_neg c2, if_neg c3]
 rw [hpf] at hw
 obtain ⟨o1, o2, o3⟩ := stp_out (s := s) (g := g') (E := E g') (fr := placeN x) (e := nextE x t f) (by omega) (I.fi g' hg') (hsz g' hg')
 refine .inr (.inr ⟨hmay, hbo, ?_⟩)
 by_cases c4 : (stpW s (g' : Int) (placeN x) (frameB (entB (nextE x t f)))).1 = 0
 ·rw [if_neg (by simpa using c4)] at hw
  rw [hw]
  refine .inl ⟨rfl, upd E g' ((if placeN x = true then [] else E g') ++ [nextE x t f]), g', ⟨?_, fun k hk => ?_, ?_, ?_, ?_, rfl⟩, rfl⟩
  ·exact ord_new I.o hyo rfl hg' hpl
  ·by_cases hkg : k = g'
   ·rw [hkg, upd_same]
    exact o2 c4
   ·rw [upd_other _ _ hkg]
    show FileIs ((stpW s (g' : Int) (placeN x) (frameB (entB (nextE x t f)))).2.fs k) _
    rw [o1 k hkg]
    exact I.fi k hk
  ·exact hpf
  ·show (setM x (placeF x).toNat ((if placeN x = true then 0 else if placeF x = 0 then x.m0 else x.m1) + 1)).m0 = _
   rw [hpf, Int.toNat_natCast]
   have h0 := I.m0
   rcases hg' with rfl | rfl
   ·rw [upd_same]
    cases placeN x
    ·show x.m0 + 1 = _
     rw [h0]
     simp
    ·show (0 : Int) + 1 = _
     simp
   ·rw [upd_other _ _ (by decide)]
    exact h0
  ·show (setM x (placeF x).toNat ((if placeN x = true then 0 else if placeF x = 0 then x.m0 else x.m1) + 1)).m1 = _
   rw [hpf, Int.toNat_natCast]
   have h1 := I.m1
   rcases hg' with rfl | rfl
   ·rw [upd_other _ _ (by decide)]
    exact h1
   ·rw [upd_same]
    cases placeN x
    ·show x.m1 + 1 = _
     rw [h1]
     simp
    ·show (0 : Int) + 1 = _
     simp
 ·rw [if_pos c4] at hw
  rw [hw]
  obtain ⟨h40, hT⟩ := o3 c4
  exact .inr ⟨h40, hyo, g', placeN x, hg', hpl, fun k hk hkg => by
   show FileIs ((stpW s (g' : Int) (placeN x) (frameB (entB (nextE x t f)))).2.fs k) _
   rw [o1 k hkg]
   exact I.fi k hk, hT⟩
theorem crash_norm {y : FileS} (hl : y.loose = []) (kept torn : Int) : crashC y kept torn = y.sure := by
 unfold crashC keptN
 rw [hl]
 have e0 : min kept.toNat ([] : List Chg).length = 0 := Nat.min_zero _
 rw [e0]
 rfl
structure Behind (y : FileS) (E : List Ent) (tl : Bytes) : Prop where
 loose : y.loose = []
 same : y.sure = y.seen
 u : y.seen.u = fileB E ++ tl
 tlb : (takeR tl).2.2 ≠ 0
 th : y.seen.th = false → E = [] ∧ tl = []
theorem mend_file {s : DS} {z : Nat} {E : List Ent} {tl : Bytes} (hz : z < 2) (hp : s.p = -1) (hE : ∀ e ∈ E, EntOk e) (k : Behind (s.fs z) E tl) :
  readS s (z : Int) = fileB E ++ tl ∧ lookE (readS s (z : Int)) = E ∧ mendE s (z : Int) (g0 s z) (z0 s z) = 0 ∧ FileIs ((mendD s (z : Int) (g0 s z) (z0 s z)).fs z) E ∧ (∀ f, f ≠ z → (mendD s (z : Int) (g0 s z) (z0 s z)).fs f = s.fs f) ∧ (mendD s (z : Int) (g0 s z) (z0 s z)).p = -1 := by
 have r0 : ∀ p : Int, p = -1 → refP p (z : Int) = 0 := fun p h => by
  unfold refP
  rw [if_neg (by omega), if_pos (by omega)]
 have hr : readS s (z : Int) = fileB E ++ tl := by
  unfold readS
  rw [if_pos (r0 _ hp), Int.toNat_natCast]
  split
  ·exact k.u
  ·rename_i hth
   obtain ⟨rfl, rfl⟩ := k.th (Bool.eq_false_iff.2 hth)
   rfl
 have hl : lookE (readS s (z : Int)) = E := by
  rw [hr]
  exact look_file hE k.tlb
 have hlen := fileB_len E
 have hg : g0 s z = ((29 * E.length : Nat) : Int) := by
  unfold g0
  rw [hl]
 have hzz : z0 s z = ((29 * E.length + tl.length : Nat) : Int) := by
  unfold z0
  rw [hr, List.length_append, hlen]
 refine ⟨hr, hl, ?_⟩
 unfold mendE mendD
 by_cases ht : tl = []
 ·have he : g0 s z = z0 s z := by rw [hg, hzz, ht]; rfl
  rw [if_pos he, if_pos he]
  refine ⟨rfl, ⟨k.loose, k.same, by rw [k.u, ht, List.append_nil], fun h => (k.th h).1⟩, fun _ _ => rfl, hp⟩
 ·have htl : tl.length ≠ 0 := fun h => ht (List.length_eq_zero_iff.1 h)
  have he : g0 s z ≠ z0 s z := by rw [hg, hzz]; omega
  rw [if_neg he, if_neg he]
  have hth : (s.fs z).seen.th = true := by
   cases h : (s.fs z).seen.th with
   | true => rfl
   | false => exact absurd (k.th h).2 ht
  have hown : ownE (s.fs z) ⟨1, [], g0 s z⟩ = 0 := by
   unfold ownE
   rw [if_neg (by show ¬ (1 : Nat) = 0; decide), if_neg (by rw [hth]; decide), if_neg]
   rintro ⟨_, h⟩
   rw [k.u, List.length_append, hlen, hg] at h
   have h : ((29 * E.length : Nat) : Int) < 0 ∨ ((29 * E.length + tl.length : Nat) : Int) < ((29 * E.length : Nat) : Int) := h
   rcases h with h | h <;> omega
  have hE0 : errP s (z : Int) ⟨1, [], g0 s z⟩ = 0 := (err_ok (r0 _ hp)).trans hown
  have ha := act_ok (c := ⟨1, [], g0 s z⟩) (r0 _ hp) hown
  have hsp : stepP s.p = -1 := by rw [hp]; rfl
  rw [if_neg (by rw [hE0]; simp), if_neg (by rw [hE0]; simp), ha]
  have hs : synD ⟨upd s.fs z (moreF (s.fs z) ⟨1, [], g0 s z⟩), stepP s.p, s.ops + 1⟩ (z : Int) = ⟨upd (upd s.fs z (moreF (s.fs z) ⟨1, [], g0 s z⟩)) z (synF (upd s.fs z (moreF (s.fs z) ⟨1, [], g0 s z⟩) z)), stepP (stepP s.p), s.ops + 1 + 1⟩ := by
   unfold synD
   rw [if_pos (show refP (stepP s.p) (z : Int) = 0 from r0 _ hsp)]
   rfl
  rw [hs]
  refine ⟨r0 _ hsp, ?_, fun f hf => ?_, ?_⟩
  ·show FileIs (upd (upd s.fs z (moreF (s.fs z) ⟨1, [], g0 s z⟩)) z (synF (upd s.fs z (moreF (s.fs z) ⟨1, [], g0 s z⟩) z)) z) E
   rw [upd_same, upd_same]
   refine ⟨rfl, rfl, ?_, fun h => ?_⟩
   ·show (s.fs z).seen.u.take (g0 s z).toNat = fileB E
    rw [hg, Int.toNat_natCast, k.u, List.take_left' hlen]
   ·have h : (s.fs z).seen.th = false := h
    rw [hth] at h
    cases h
  ·show upd (upd s.fs z (moreF (s.fs z) ⟨1, [], g0 s z⟩)) z (synF (upd s.fs z (moreF (s.fs z) ⟨1, [], g0 s z⟩) z)) f = s.fs f
   rw [upd_other _ _ hf, upd_other _ _ hf]
  ·show stepP (stepP s.p) = -1
   rw [hsp]
   rfl
theorem reopen {s : DS} {E : Nat → List Ent} {m : Ent} {g : Nat} {tl : Nat → Bytes} (o : Ord E m g) (hp : s.p = -1) (k : ∀ f, f = 0 ∨ f = 1 → Behind (s.fs f) (E f) (tl f)) :
  mendE s 0 (g0 s 0) (z0 s 0) = 0 ∧ mendE (mendD s 0 (g0 s 0) (z0 s 0)) 1 (g0 s 1) (z0 s 1) = 0 ∧ VInv (opD s) (opX s) E g ∧ (opX s).ne = m ∧ (opD s).p = -1 := by
 obtain ⟨a1, a2, a3, a4, a5, a6⟩ := mend_file (s := s) (z := 0) (by decide) hp (fun e he => (o.ents (.inl rfl) e he).1) (k 0 (.inl rfl))
 have k1 : Behind ((mendD s ((0 : Nat) : Int) (g0 s ((0 : Nat) : Int)) (z0 s ((0 : Nat) : Int))).fs 1) (E 1) (tl 1) := by
  rw [a5 1 (by decide)]
  exact k 1 (.inr rfl)
 obtain ⟨b1, b2, b3, b4, b5, b6⟩ := mend_file (s := mendD s ((0 : Nat) : Int) (g0 s ((0 : Nat) : Int)) (z0 s ((0 : Nat) : Int))) (z := 1) (by decide) a6 (fun e he => (o.ents (.inr rfl) e he).1) k1
 obtain ⟨c1, c2, _⟩ := mend_file (s := s) (z := 1) (by decide) hp (fun e he => (o.ents (.inr rfl) e he).1) (k 1 (.inr rfl))
 have hg1 : g0 (mendD s ((0 : Nat) : Int) (g0 s ((0 : Nat) : Int)) (z0 s ((0 : Nat) : Int))) ((1 : Nat) : Int) = g0 s 1 := by
  show ((29 * (lookE (readS (mendD s ((0 : Nat) : Int) (g0 s ((0 : Nat) : Int)) (z0 s ((0 : Nat) : Int))) ((1 : Nat) : Int))).length : Nat) : Int) = ((29 * (lookE (readS s ((1 : Nat) : Int))).length : Nat) : Int)
  rw [b2, c2]
 have hz1 : z0 (mendD s ((0 : Nat) : Int) (g0 s ((0 : Nat) : Int)) (z0 s ((0 : Nat) : Int))) ((1 : Nat) : Int) = z0 s 1 := by
  show ((readS (mendD s ((0 : Nat) : Int) (g0 s ((0 : Nat) : Int)) (z0 s ((0 : Nat) : Int))) ((1 : Nat) : Int)).length : Int) = ((readS s ((1 : Nat) : Int)).length : Int)
  rw [b1, c1]
 rw [hg1, hz1] at b3 b4 b5 b6
 have hpk : opP s = (m, (g : Int)) := by
  unfold opP
  show pickF 1 (lookE (readS s ((1 : Nat) : Int))) (pickF 0 (lookE (readS s ((0 : Nat) : Int))) (ne0, 0)) = _
  rw [c2, a2]
  exact o.pick
 refine ⟨a3, b3, ⟨?_, fun f hf => ?_, ?_, ?_, ?_, rfl⟩, ?_, b6⟩
 ·show Ord E (opP s).1 g
  rw [hpk]
  exact o
 ·rcases hf with rfl | rfl
  ·show FileIs ((opD s).fs 0) (E 0)
   rw [show (opD s).fs 0 = (mendD s ((0 : Nat) : Int) (g0 s ((0 : Nat) : Int)) (z0 s ((0 : Nat) : Int))).fs 0 from b5 0 (by decide)]
   exact a4
  ·exact b4
 ·show (opP s).2 = (g : Int)
  rw [hpk]
 ·show ((lookE (readS s ((0 : Nat) : Int))).length : Int) = _
  rw [a2]
 ·show ((lookE (readS s ((1 : Nat) : Int))).length : Int) = _
  rw [c2]
 ·show (opP s).1 = m
  rw [hpk]
theorem FileIs.behind {y : FileS} {E : List Ent} (k : FileIs y E) : Behind y E [] := ⟨k.loose, k.same, by rw [List.append_nil]; exact k.u, takeR_nil, fun h => ⟨k.th h, rfl⟩⟩
theorem crash_whole (I : VInv s x E g) (zs : List Int) (torn : Int) : ∀ f, f = 0 ∨ f = 1 → Behind ((crashD s zs torn).fs f) (E f) [] := fun f hf => by
 have k := I.fi f hf
 have e : (crashD s zs torn).fs f = crashF (s.fs f) (keepAt zs f) torn := if_pos (by rcases hf with rfl | rfl <;> decide)
 have ec : crashC (s.fs f) (keepAt zs f) torn = (s.fs f).sure := crash_norm k.loose _ _
 rw [e]
 unfold crashF
 rw [ec, k.same]
 exact ⟨rfl, rfl, by rw [List.append_nil]; exact k.u, takeR_nil, fun h => ⟨k.th h, rfl⟩⟩
theorem crash_mid {m y : Ent} (o : Ord E m g) (hy : EntOk y) (hc : y.c = m.c + 1) (W : Broken s E m g y) (zs : List Int) (torn : Int) : ∃ (E' : Nat → List Ent) (m' : Ent) (g' : Nat) (tl : Nat → Bytes), Ord E' m' g' ∧ (m' = m ∨ m' = y) ∧ ∀ f, f = 0 ∨ f = 1 → Behind ((crashD s zs torn).fs f) (E' f) (tl f) := by
 obtain ⟨g', fr, hg', hpl, hoth, hT⟩ := W
 obtain ⟨L, tl, l1, l2, l3, l4⟩ := crash_torn hT (keepAt zs g') torn
 have eg : ∀ f, f = 0 ∨ f = 1 → (crashD s zs torn).fs f = crashF (s.fs f) (keepAt zs f) torn := fun f hf => if_pos (by rcases hf with rfl | rfl <;> decide)
 have beh : ∀ f, f = 0 ∨ f = 1 → Behind ((crashD s zs torn).fs f) (upd E g' L f) ((fun f => if f = g' then tl else []) f) := fun f hf => by
  by_cases hfg : f = g'
  ·subst hfg
   rw [eg f hf, upd_same]
   show Behind _ L (if f = f then tl else [])
   rw [if_pos rfl]
   exact ⟨rfl, rfl, l1, l2, l3⟩
  ·rw [eg f hf, upd_other _ _ hfg]
   show Behind _ (E f) (if f = g' then tl else [])
   rw [if_neg hfg]
   have k := hoth f hf hfg
   unfold crashF
   rw [crash_norm k.loose, k.same]
   exact ⟨rfl, rfl, by rw [List.append_nil]; exact k.u, takeR_nil, fun h => ⟨k.th h, rfl⟩⟩
 have old : (L = E g' ∨ (fr = true ∧ L = [])) → ∃ (E' : Nat → List Ent) (m' : Ent) (g' : Nat) (tl : Nat → Bytes), Ord E' m' g' ∧ (m' = m ∨ m' = y) ∧ ∀ f, f = 0 ∨ f = 1 → Behind ((crashD s zs torn).fs f) (E' f) (tl f) := fun h => ⟨_, m, g, _, ord_old o hpl h, .inl rfl, beh⟩
 have new : L = (if fr = true then [] else E g') ++ [y] → ∃ (E' : Nat → List Ent) (m' : Ent) (g' : Nat) (tl : Nat → Bytes), Ord E' m' g' ∧ (m' = m ∨ m' = y) ∧ ∀ f, f = 0 ∨ f = 1 → Behind ((crashD s zs torn).fs f) (E' f) (tl f) := fun h => ⟨_, y, g', _, h ▸ ord_new o hy hc hg' hpl, .inr rfl, beh⟩
 rcases l4 with h | h | ⟨h1, h2⟩ | ⟨h1, h2⟩
 ·exact old (.inl h)
 ·exact old (.inr h)
 ·exact new (by rw [h1, h2]; rfl)
 ·exact new (by rw [h1, h2]; rfl)
end
def shr (lo : Nat → Prop) (a b : Nat) : Nat → Prop := fun i => lo i ∧ (i < a ∨ b ≤ i)
theorem neqBox (b : Nat) (h : AHeap) : opBin Try.prog h .neq 25 true (some (.ptr b 0)) (some AV.nilp) = some (.val (.bool true), h) := by kernel_rfl
structure Sy (N : Nat) (lo : Nat → Prop) (H : AHeap) (db xb : Nat) (s : DS) (x : BoxS) (B : Nat) (m : Ent) : Prop where
 K : At lo H db s B
 row : RowH H xb TBox (boxC db x)
 hxb : xb < H.next
 hxl : ¬ lo xb
 inv : ∃ E g, VInv s x E g
 ne : x.ne = m
 hl : ∀ b, lo b → N ≤ b
 hx : N ≤ xb
 hN : N ≤ H.next
structure Crd (N : Nat) (lo : Nat → Prop) (H : AHeap) (db : Nat) (s : DS) (B : Nat) (m : Ent) : Prop where
 K : At lo H db s B
 p : s.p = -1
 ord : ∃ (E : Nat → List Ent) (g : Nat) (tl : Nat → Bytes), Ord E m g ∧ ∀ f, f = 0 ∨ f = 1 → Behind (s.fs f) (E f) (tl f)
 hl : ∀ b, lo b → N ≤ b
 hN : N ≤ H.next
structure Mid (N : Nat) (lo : Nat → Prop) (H : AHeap) (db : Nat) (s : DS) (B : Nat) (m y : Ent) : Prop where
 K : At lo H db s B
 ord : ∃ E g, Ord E m g ∧ Broken s E m g y
 hy : EntOk y
 hc : y.c = m.c + 1
 hl : ∀ b, lo b → N ≤ b
 hN : N ≤ H.next
section
variable {N n d D db xb B : Nat} {lo lo' : Nat → Prop} {H H' : AHeap} {s : DS} {x : BoxS} {m y : Ent} {t f : Int}
theorem nlo_part {h0 h1 : AHeap} {b : Nat} (h2 : h0.next ≤ b) (h3 : b < h1.next) : ¬ shr lo h0.next h1.next b := fun hh => by
 rcases hh.2 with h | h <;> omega
theorem At.seen_len (K : At lo H db s B) {z : Nat} (hz : z < 32) : (s.fs z).seen.u.length ≤ B := by
 obtain ⟨_, _, K⟩ := K
 obtain ⟨o1, _, o3, _⟩ := K.ok z hz
 have := doL_len (s.fs z).loose (s.fs z).sure
 rw [← o1] at this
 omega
theorem At.read_len (K : At lo H db s B) {z : Nat} (hz : z < 32) : (readS s (z : Int)).length ≤ B := by
 unfold readS
 split
 ·split
  ·rw [Int.toNat_natCast]
   exact K.seen_len hz
  ·exact Nat.zero_le _
 ·exact Nat.zero_le _
theorem Sy.alloc (Y : Sy N lo H db xb s x B m) (t : Tch [] H H') : Sy N (shr lo H.next H'.next) H' db xb s x B m :=
 ⟨Y.K.part t (fun _ h => nomatch h), Y.row.tch t Y.hxb (fun h => nomatch h), Nat.lt_of_lt_of_le Y.hxb t.1, fun hh => Y.hxl hh.1, Y.inv, Y.ne, fun b hb => Y.hl b hb.1, Y.hx, Nat.le_trans Y.hN t.1⟩
theorem Sy.other {S : List Nat} (Y : Sy N lo H db xb s x B m) (t : Tch S H H') (hS : ∀ b ∈ S, ¬ lo b ∧ b ≠ xb) : Sy N lo H' db xb s x B m :=
 ⟨Y.K.tch t (fun b hb => .inl (hS b hb).1), Y.row.tch t Y.hxb (fun h => (hS _ h).2 rfl), Nat.lt_of_lt_of_le Y.hxb t.1, Y.hxl, Y.inv, Y.ne, Y.hl, Y.hx, Nat.le_trans Y.hN t.1⟩
theorem new_crd (hN : N ≤ H.next) (K : At (fun b => H.next ≤ b) H' H.next newS 0) (t : Tch [] H H') : Crd N (fun b => H.next ≤ b) H' H.next newS 0 ne0 :=
 ⟨K, rfl, ⟨fun _ => [], 0, fun _ => [], ⟨.inl rfl, .inl ⟨rfl, rfl, rfl, rfl⟩⟩, fun _ _ => ⟨rfl, rfl, rfl, takeR_nil, fun _ => ⟨rfl, rfl⟩⟩⟩, fun _ hb => Nat.le_trans hN hb, Nat.le_trans hN t.1⟩
theorem Sy.now (Y : Sy N lo H db xb s x B m) : ∃ H', wL n (D + 6) (d + 1) false 16 [.ptr xb 0] H = some (.ret (.agg [.int .i64 m.t, .int .i64 m.f]), H') ∧ Tch [] H H' := by
 obtain ⟨H', e, t⟩ := now_w (n := n) (d := D + 5) Y.row Y.hxb
 rw [Y.ne] at e
 exact ⟨H', (wL_b 16).trans e, t⟩
theorem Sy.power (Y : Sy N lo H db xb s x B m) {p : Int} (hp : p < 9223372036854775808) : ∃ H' S, wL n (D + 6) (d + 1) false 14 [.ptr db 0, .int .i64 p] H = some (.ret (.int .i64 0), H') ∧ Sy N lo H' db xb ⟨s.fs, if -1 > p then -1 else p, s.ops⟩ x B m ∧ Tch S H H' ∧ ∀ b ∈ S, lo b := by
 obtain ⟨H', S, e, K', t, hS⟩ := power_ok (n := n) (d := D + 5) hp Y.K
 obtain ⟨E, g, I⟩ := Y.inv
 exact ⟨H', S, (wL_b 14).trans e, ⟨K', Y.row.tch t Y.hxb (fun h => Y.hxl (hS _ h)), Nat.lt_of_lt_of_le Y.hxb t.1, Y.hxl, ⟨E, g, ⟨I.o, I.fi, I.file, I.m0, I.m1, I.br⟩⟩, Y.ne, Y.hl, Y.hx, Nat.le_trans Y.hN t.1⟩, t, hS⟩
theorem Sy.crash (Y : Sy N lo H db xb s x B m) (hn : 1000000 < n) (hB : B < 900000) {torn : Int} (ht : torn < 9223372036854775808) {lv : AV} {zs : List Int} (hz : zs.length < 9223372036854775808) (rd : RdI lo H lv zs) :
  ∃ H' S s', wL n (D + 6) (d + 1) false 15 [.ptr db 0, lv, .int .i64 torn] H = some (.ret (.int .i64 0), H') ∧ Crd N lo H' db s' B m ∧ Tch S H H' ∧ ∀ b ∈ S, lo b := by
 obtain ⟨H', S, e, K', t, hS⟩ := crash_ok (n := n) (d := D + 2) hn hB ht hz Y.K rd
 obtain ⟨E, g, I⟩ := Y.inv
 exact ⟨H', S, _, (wL_b 15).trans e, ⟨K', rfl, ⟨E, g, fun _ => [], Y.ne ▸ I.o, crash_whole I zs torn⟩, Y.hl, Nat.le_trans Y.hN t.1⟩, t, hS⟩
theorem Mid.crash (Y : Mid N lo H db s B m y) (hn : 1000000 < n) (hB : B < 900000) {torn : Int} (ht : torn < 9223372036854775808) {lv : AV} {zs : List Int} (hz : zs.length < 9223372036854775808) (rd : RdI lo H lv zs) :
  ∃ H' S s' m', wL n (D + 6) (d + 1) false 15 [.ptr db 0, lv, .int .i64 torn] H = some (.ret (.int .i64 0), H') ∧ (m' = m ∨ m' = y) ∧ Crd N lo H' db s' B m' ∧ Tch S H H' ∧ ∀ b ∈ S, lo b := by
 obtain ⟨H', S, e, K', t, hS⟩ := crash_ok (n := n) (d := D + 2) hn hB ht hz Y.K rd
 obtain ⟨E, g, o, W⟩ := Y.ord
 obtain ⟨E', m', g', tl, o', hm, hb⟩ := crash_mid o Y.hy Y.hc W zs torn
 exact ⟨H', S, _, m', (wL_b 15).trans e, hm, ⟨K', rfl, ⟨E', g', tl, o', hb⟩, Y.hl, Nat.le_trans Y.hN t.1⟩, t, hS⟩
theorem Crd.open (Y : Crd N lo H db s B m) (hn : 1000000000 < n) (hB : B < 700000) :
  ∃ lo' H' xb' S s' x', wL n (D + 6) (d + 6) false 10 [.ptr db 0] H = some (.ret (.tup [.ptr xb' 0, .int .i64 0]), H') ∧ Sy N lo' H' db xb' s' x' (B + 6) m ∧ s'.p = -1 ∧ Less lo lo' ∧ H.next ≤ xb' ∧ Tch S H H' ∧ ∀ b ∈ S, lo b := by
 obtain ⟨E, g, tl, o, hb⟩ := Y.ord
 obtain ⟨r1, r2, r3, r4, r5⟩ := reopen o Y.p hb
 have l0 := Y.K.read_len (z := 0) (by decide)
 have l1 := Y.K.read_len (z := 1) (by decide)
 have l0 : (readS s 0).length ≤ B := l0
 have l1 : (readS s 1).length ≤ B := l1
 obtain ⟨lo', H', xb', S, e, K', L, kx, hx1, hx2, hx3, t, hS⟩ := open_w (n := n) (D := D + 1) (d := d) Y.K hB hn (by rw [Y.p]; decide) (by omega) (by omega) r1 r2
 exact ⟨lo', H', xb', S, opD s, opX s, e, ⟨K', kx, hx1, hx3, ⟨E, g, r3⟩, r4, fun b hb => Y.hl b (L b hb), Nat.le_trans Y.hN hx2, Nat.le_trans Y.hN t.1⟩, r5, L, hx2, t, hS⟩
theorem err40 {s : DS} {g : Nat} {c : Chg} (hg : g < 32) (hp : s.p = -1) : errP s (g : Int) c ≠ 40 ∧ (actD s (g : Int) c).p = -1 := by
 have r0 : refP s.p (g : Int) = 0 := by
  unfold refP
  rw [if_neg (by omega), if_pos (by omega)]
 constructor
 ·rw [err_ok r0]
  unfold ownE
  split
  ·split <;> decide
  ·split
   ·decide
   ·split <;> decide
 ·unfold actD
  split
  ·show stepP s.p = -1
   rw [hp]
   rfl
  ·exact hp
theorem stp40 {s : DS} {g : Nat} {fr : Bool} {u : Bytes} (hg : g < 32) (hp : s.p = -1) : (stpW s (g : Int) fr u).1 ≠ 40 := by
 have h1 : (stp1 s (g : Int) fr).1 ≠ 40 ∧ (stp1 s (g : Int) fr).2.p = -1 := by
  unfold stp1
  split
  ·exact err40 hg hp
  ·exact ⟨(by decide : (0 : Int) ≠ 40), hp⟩
 have h2 := err40 (c := chA u) hg h1.2
 unfold stpW
 split
 ·exact h1.1
 ·split
  ·exact h2.1
  ·show refP _ (g : Int) ≠ 40
   rw [h2.2]
   unfold refP
   rw [if_neg (by decide), if_pos (by omega)]
   decide
theorem VInv.size {E : Nat → List Ent} {g : Nat} (I : VInv s x E g) (K : At lo H db s B) {z : Nat} (hz : z = 0 ∨ z = 1) : 29 * (E z).length ≤ B ∧ (fileB (E z)).length ≤ B := by
 have h1 := K.seen_len (z := z) (by omega)
 rw [(I.fi z hz).u] at h1
 have h2 := fileB_len (E z)
 omega
theorem wr_done {E : Nat → List Ent} {g : Nat} (I : VInv s x E g) (hsz : ∀ f, f = 0 ∨ f = 1 → (fileB (E f)).length < 900000) (hb : balOk t f) (hm : mayB t f x.ne.t x.ne.f = true) (hc : x.ne.c < 4611686018427387904) (hp : s.p = -1) : (wr s x t f).1 = 0 := by
 have c1 : refV x t f = 0 := by
  unfold refV
  rw [if_neg (by rw [I.br]; simp), if_pos hb, if_pos hm]
 obtain ⟨g', hpf, hg', hpl⟩ := place_ok I.o.g01 I.file
 obtain ⟨o1, o2, o3⟩ := stp_out (s := s) (g := g') (E := E g') (fr := placeN x) (e := nextE x t f) (by omega) (I.fi g' hg') (hsz g' hg')
 unfold wr
 rw [if_neg (by simpa using c1)]
 split
 ·rfl
 rw [if_neg (by omega), hpf]
 by_cases c4 : (stpW s (g' : Int) (placeN x) (frameB (entB (nextE x t f)))).1 = 0
 ·rw [if_neg (by simpa using c4)]
 ·exact absurd (o3 c4).1 (stp40 (by omega) hp)
theorem Sy.write (Y : Sy N lo H db xb s x B m) (hn : 1000000 < n) (hB : B < 600000) (t f : Int) :
  ∃ lo' H' S e s' x', wL n (D + 6) (d + 1) false 11 [.ptr xb 0, .agg [.int .i64 t, .int .i64 f]] H = some (.ret (.int .i64 e), H') ∧ Less lo lo' ∧ Tch S H H' ∧ (∀ b ∈ S, lo b ∨ b = xb) ∧ (s.p = -1 → balOk t f → mayB t f m.t m.f = true → m.c < 4611686018427387904 → e = 0) ∧
   (((e = 2 ∨ e = 5) ∧ Sy N lo' H' db xb s' x' (B + 40) m) ∨ (e = 0 ∧ ∃ m' : Ent, m'.t = t ∧ m'.f = f ∧ (m' = m ∨ mayB t f m.t m.f = true) ∧ Sy N lo' H' db xb s' x' (B + 40) m') ∨ (e = 40 ∧ ∃ y : Ent, y.t = t ∧ y.f = f ∧ mayB t f m.t m.f = true ∧ Mid N lo' H' db s' (B + 40) m y)) := by
 obtain ⟨E, g, I⟩ := Y.inv
 have s0 := I.size Y.K (z := 0) (.inl rfl)
 have s1 := I.size Y.K (z := 1) (.inr rfl)
 have hm0 := I.m0
 have hm1 := I.m1
 have hfile : x.file = 0 ∨ x.file = 1 := by
  have := I.file
  rcases I.o.g01 with h | h <;> omega
 have hsz : ∀ f, f = 0 ∨ f = 1 → (fileB (E f)).length < 900000 := fun f hf => by
  have := (I.size Y.K hf).2
  omega
 obtain ⟨lo', H', S, e, K', L, kx, hxl, tc, hS⟩ := write_w (n := n) (d := D) (t := t) (f := f) hn Y.K (by omega) Y.row Y.hxb Y.hxl hfile I.o.c0 (by omega) (by omega)
 have hl' : ∀ b, lo' b → N ≤ b := fun b hb => Y.hl b (L b hb)
 have hN' := Nat.le_trans Y.hN tc.1
 have hxb' := Nat.lt_of_lt_of_le Y.hxb tc.1
 refine ⟨lo', H', S, (wr s x t f).1, (wr s x t f).2.2, (wr s x t f).2.1, (wL_b 11).trans e, L, tc, hS, fun h1 h2 h3 h4 => ?_, ?_⟩
 ·rw [← Y.ne] at h3 h4
  exact wr_done I hsz h2 h3 h4 h1
 rcases wr_out (t := t) (f := f) I hsz with ⟨h1, h2⟩ | ⟨h1, h2, h3⟩ | ⟨hm, hbo, h⟩
 ·have e1 : (wr s x t f).2.1 = x := by rw [h2]
  have e2 : (wr s x t f).2.2 = s := by rw [h2]
  rw [e1] at kx ⊢
  rw [e2] at K' ⊢
  exact .inl ⟨h1, K', kx, hxb', hxl, ⟨E, g, I⟩, Y.ne, hl', Y.hx, hN'⟩
 ·rw [h1] at kx K' ⊢
  exact .inr (.inl ⟨rfl, m, by rw [h2, Y.ne], by rw [h3, Y.ne], .inl rfl, K', kx, hxb', hxl, ⟨E, g, I⟩, Y.ne, hl', Y.hx, hN'⟩)
 ·rw [Y.ne] at hm h
  rcases h with ⟨h0, E', g', I', hne⟩ | ⟨h0, hy, W⟩
  ·exact .inr (.inl ⟨h0, nextE x t f, rfl, rfl, .inr hm, K', kx, hxb', hxl, ⟨E', g', I'⟩, hne, hl', Y.hx, hN'⟩)
  ·exact .inr (.inr ⟨h0, nextE x t f, rfl, rfl, hm, K', ⟨E, g, Y.ne ▸ I.o, W⟩, hy, by show x.ne.c + 1 = m.c + 1; rw [Y.ne], hl', hN'⟩)
end
theorem rdi_nil (lo : Nat → Prop) (h : AHeap) : RdI lo h .nsl [] := ⟨rfl, fun _ _ _ _ _ hi => absurd hi (Nat.not_lt_zero _)⟩
section
variable {n d D : Nat} {H : AHeap}
theorem fresh {N : Nat} (hX : H.ex = []) (hn : 1000000000 < n) (hN : N ≤ H.next) : ∃ H1, wL n (D + 6) (d + 6) false 9 [] H = some (.ret (.ptr H.next 0), H1) ∧ Tch [] H H1 ∧ ∃ lo' H' xb' S s' x', wL n (D + 6) (d + 6) false 10 [.ptr H.next 0] H1 = some (.ret (.tup [.ptr xb' 0, .int .i64 0]), H') ∧ Sy N lo' H' H.next xb' s' x' 6 ne0 ∧ s'.p = -1 ∧ Tch S H1 H' ∧ (∀ b ∈ S, N ≤ b) ∧ ∀ b, lo' b → H.next ≤ b := by
 obtain ⟨H1, e1, K, t1⟩ := new_ok (n := n) (d := D + 5) (h := H) hX
 have C := new_crd hN K t1
 obtain ⟨lo', H', xb', S, s', x', e, Y, hp, L, _, t, hS⟩ := C.open (D := D) (d := d) hn (by decide)
 exact ⟨H1, (wL_b 9).trans e1, t1, lo', H', xb', S, s', x', e, Y, hp, t, fun b hb => Nat.le_trans hN (hS b hb), fun b hb => L b hb⟩
theorem works_w (hX : H.ex = []) (hn : 1000000000 < n) : ∃ H', wL n (D + 6) (d + 7) false 8 [] H = some (.ret (.bool true), H') ∧ ∃ S, Tch S H H' ∧ ∀ b ∈ S, H.next ≤ b := by
 suffices hK : Wp (law08_works ((wL n (D + 6) (d + 6)) false) n H) fun r H' => r = .ret (.bool true) ∧ ∃ S, Tch S H H' ∧ ∀ b ∈ S, H.next ≤ b by
  obtain ⟨_, H', e, rfl, k⟩ := hK
  exact ⟨H', wL_law08_works n (D + 6) (d + 6) e, k⟩
 unfold law08_works
 obtain ⟨H1, e1, t1, lo2, H2, xb, S2, s2, x2, e2, Y2, hp2, t2, hS2, _⟩ := fresh (D := D) (d := d) (N := H.next) hX hn (Nat.le_refl _)
 refine Wp.callN e1 (Wp.callN e2 (Wp.obind (extT_0 _ _) (Wp.obind (extT_1 _ _ _) (Wp.obind (avInt_int _ _) (Wp.lett (Wp.lettG fun j15 e15 => Wp.iff rfl (Wp.outK (eqBox xb H2) (Wp.obind (avBool_bool _) ?_))))))))
 rw [e15]
 obtain ⟨H3, e3, t3⟩ := Y2.now (n := n) (D := D) (d := d + 5)
 have Y3 := Y2.alloc t3
 refine Wp.lettG fun j21 e21 => Wp.iff rfl (Wp.callN e3 (Wp.obind (avAgg_agg _) (Wp.obind (eqBal _ _ _ _) (Wp.lett ?_))))
 rw [e21]
 obtain ⟨lo4, H4, S4, e, s4, x4, e4, L4, t4, hS4, hok, hcase⟩ := Y3.write (n := n) (D := D) (d := d + 5) (by omega) (by decide) 1 2
 have h0 : e = 0 := hok hp2 (by decide) (by decide) (by decide)
 subst h0
 refine Wp.lettG fun j27 e27 => Wp.iff rfl (Wp.callN e4 (Wp.obind (avInt_int _ _) (Wp.lett ?_)))
 rw [e27]
 rcases hcase with ⟨h, _⟩ | ⟨_, m', hm1, hm2, _, Y4⟩ | ⟨h, _⟩
 ·rcases h with h | h <;> cases h
 ·obtain ⟨H5, S5, s5, e5, C5, t5, hS5⟩ := Y4.crash (n := n) (D := D) (d := d + 5) (by omega) (by decide) (torn := 0) (by decide) (zs := []) (by decide) (rdi_nil _ _)
  refine Wp.lettG fun j32 e32 => Wp.iff rfl (Wp.callN e5 (Wp.obind (avInt_int _ _) (Wp.lett ?_)))
  rw [e32]
  obtain ⟨lo6, H6, xb6, S6, s6, x6, e6, Y6, _, L6, _, t6, hS6⟩ := C5.open (n := n) (D := D) (d := d) hn (by decide)
  refine Wp.iff rfl (Wp.callN e6 (Wp.obind (extT_0 _ _) (Wp.obind (extT_1 _ _ _) (Wp.obind (avInt_int _ _) (Wp.lett (Wp.lettG fun j43 e43 => Wp.ift rfl (Wp.outK (neqBox xb6 H6) (Wp.obind (avBool_bool _) ?_))))))))
  rw [e43]
  obtain ⟨H7, e7, t7⟩ := Y6.now (n := n) (D := D) (d := d + 5)
  refine Wp.lettG fun j49 e49 => Wp.ift rfl (Wp.callN e7 (Wp.obind (avAgg_agg _) (Wp.obind (eqBal _ _ _ _) ?_)))
  rw [e49, hm1, hm2]
  refine Wp.ret ⟨rfl, S2 ++ (S4 ++ (S5 ++ S6)), ?_, fun b hb => ?_⟩
  ·exact (((((((t1.mono fun _ h => nomatch h).trans (t2.mono fun b hb => .inl (List.mem_append_left _ hb))).trans (t3.mono fun _ h => nomatch h)).trans (t4.mono fun b hb => .inl (List.mem_append_right _ (List.mem_append_left _ hb)))).trans (t5.mono fun b hb => .inl (List.mem_append_right _ (List.mem_append_right _ (List.mem_append_left _ hb))))).trans (t6.mono fun b hb => .inl (List.mem_append_right _ (List.mem_append_right _ (List.mem_append_right _ hb)))))).trans (t7.mono fun _ h => nomatch h)
  ·rcases List.mem_append.1 hb with hb | hb
   ·exact hS2 b hb
   rcases List.mem_append.1 hb with hb | hb
   ·rcases hS4 b hb with h | h
    ·exact Y3.hl b h
    ·exact h ▸ Y3.hx
   rcases List.mem_append.1 hb with hb | hb
   ·exact Y4.hl b (hS5 b hb)
   ·exact C5.hl b (hS6 b hb)
 ·cases h
end
end Go.Proofs.Yteecmjmglmpbpaa
namespace Go.Proofs.Yteecmjmglmpbpaa
open Go.RowKit Abs
theorem slc_rdi {lo : Nat → Prop} {N : Nat} {h : AHeap} {v : AV} {zs : List Int} (k : Slc N h 1 v (zs.map fun z => [.int .i64 z])) (hN : N ≤ h.next) (hl : ∀ b, lo b → N ≤ b) : RdI lo h v zs := by
 refine ⟨by have := k.len; rw [List.length_map] at this; exact this, fun S H t hS i hi => ?_⟩
 obtain ⟨b, _, h1, h2⟩ := (k.tch t hN fun b hb => hl b (hS b hb)).cell (f := .int .i64) hi
 exact ⟨_, h1, h2⟩
section
variable {N n d D db xb B : Nat} {lo lo' : Nat → Prop} {h0 H H' : AHeap} {s : DS} {x : BoxS} {m y su la : Ent} {t f : Int} {a : AV} {ls : List (Int × Int)} {Q : ARes → AHeap → Prop} {A : Nat} {v : Int × Int}
end
noncomputable def law08_VoteOnce_L0b (call : CallF) (t0 : AV) (r18 : AV) (h_19 : AHeap) (t28 : Int) (k36 : AHeap → R) (self : AV → Int → Int → AHeap → R) (t4 : AV) (t7 : Int) (t29 : Int) (h_40 : AHeap) : R :=
 lett (decide (t29 < t28)) fun (t30 : Bool) =>
 ifB t30
 (
  obind (idxP 6 t0 t29) fun t31 =>
  obind (ldRow h_40 6 t31) fun t32 =>
  lett (newH h_40 49 [.int .i64 0, .int .i64 0, .int .i64 0, .int .i64 0, .str 0 0, .nsl]) fun h_49 =>
  obind (stRow h_49 6 t32 (newP h_40)) fun h_51 =>
  obind (ldCell h_51 (AV.ptr (AHeap.next h_40) 0)) fun v34 =>
  obind (avInt .i64 v34) fun t34 =>
  obind (remI .i64 t34 2) fun t35 =>
  lett ((t35 : Int) == 1) fun (t36 : Bool) =>
  lett (fun  (h_60 : AHeap) =>
   obind (ldRow h_60 2 (AV.ptr (AHeap.next h_40) 2)) fun t44 =>
   callN (call 11 [t4, .agg t44] h_60) fun r45 h_63 =>
   obind (avInt .i64 r45) fun t45 =>
   lett ((t45 : Int) == 40) fun (t47 : Bool) =>
   lett (fun (t4_70 : AV) (h_71 : AHeap) =>
    callN (call 16 [t4_70] h_71) fun r66 h_73 =>
    obind (avAgg r66) fun t66 =>
    lett (newH h_73 31 [.int .i64 0, .int .i64 0]) fun h_76 =>
    obind (stRow h_76 2 t66 (newP h_73)) fun h_78 =>
    obind (ldCell h_78 (AV.ptr (AHeap.next h_73) 0)) fun v68 =>
    obind (avInt .i64 v68) fun t68 =>
    lett (decide (t68 < t7)) fun (t70 : Bool) =>
    ifB t70
    (
     some (.ret (.bool false), h_78))
    (
     obind (ldCell h_78 (AV.ptr (AHeap.next h_73) 0)) fun v72 =>
     obind (avInt .i64 v72) fun t72 =>
     outK (opLookup Try.prog h_78 72 true (some (AV.mp (AHeap.next h_19))) (some (.int .i64 t72))) fun v76 h_91 =>
     obind (extT 0 v76) fun v77 =>
     obind (avInt .i64 v77) fun t77 =>
     obind (extT 1 v76) fun v78 =>
     obind (avBool v78) fun t78 =>
     lett (fun (t85 : Bool) (h_98 : AHeap) =>
      ifB t85
      (
       some (.ret (.bool false), h_98))
      (
       obind (ldCell h_98 (AV.ptr (AHeap.next h_73) 1)) fun v87 =>
       obind (avInt .i64 v87) fun t87 =>
       lett (decide (t87 ≥ 0)) fun (t88 : Bool) =>
       lett (fun  (h_107 : AHeap) =>
        lett (IntKind.i64.wrap (t29 + 1)) fun (t93 : Int) =>
        self t4_70 t72 t93 h_107) fun k106 =>
       ifB t88
       (
        obind (ldCell h_98 (AV.ptr (AHeap.next h_73) 1)) fun v92 =>
        obind (avInt .i64 v92) fun t92 =>
        effK (opMapUpdate Try.prog h_98 72 (some (AV.mp (AHeap.next h_19))) (some (.int .i64 t72)) (some (.int .i64 t92))) fun h_111 =>
        k106 h_111)
       (
        k106 h_98))) fun j85 =>
     ifB t78
     (
      obind (ldCell h_91 (AV.ptr (AHeap.next h_73) 1)) fun v83 =>
      obind (avInt .i64 v83) fun t83 =>
      lett ((t77 : Int) != t83) fun (t84 : Bool) =>
      j85 t84 h_91)
     (
      j85 false h_91))) fun k69 =>
   ifB t47
   (
    obind (ldCell h_63 (AV.ptr (AHeap.next h_40) 5)) fun v50 =>
    obind (ldCell h_63 (AV.ptr (AHeap.next h_40) 1)) fun v52 =>
    obind (avInt .i64 v52) fun t52 =>
    callN (call 15 [r18, v50, .int .i64 t52] h_63) fun r53 h_120 =>
    obind (avInt .i64 r53) fun _ =>
    callN (call 10 [r18] h_120) fun r56 h_124 =>
    obind (extT 0 r56) fun v57 =>
    obind (extT 1 r56) fun v58 =>
    obind (avInt .i64 v58) fun t58 =>
    lett ((t58 : Int) != 0) fun (t60 : Bool) =>
    lett (fun (t64 : Bool) (h_131 : AHeap) =>
     ifB t64
     (
      some (.ret (.bool false), h_131))
     (
      k69 v57 h_131)) fun j64 =>
    ifB t60
    (
     j64 true h_124)
    (
     outK (opBin Try.prog h_124 .eql 25 true (some v57) (some AV.nilp)) fun v63 h_135 =>
     obind (avBool v63) fun t63 =>
     j64 t63 h_135))
   (
    k69 t4 h_63)) fun k59 =>
  ifB t36
  (
   obind (ldCell h_51 (AV.ptr (AHeap.next h_40) 1)) fun v39 =>
   obind (avInt .i64 v39) fun t39 =>
   lett (if 0 > t39 then 0 else t39) fun (t40 : Int) =>
   callN (call 14 [r18, .int .i64 t40] h_51) fun r41 h_141 =>
   obind (avInt .i64 r41) fun _ =>
   k59 h_141)
  (
   k59 h_51))
 (
  k36 h_40)
noncomputable def law08_VoteOnce_L0 (call : CallF) (t0 : AV) (r18 : AV) (h_19 : AHeap) (t28 : Int) (k36 : AHeap → R) : Nat → AV → Int → Int → AHeap → R := iterR (fun _ _ _ _ => none) (law08_VoteOnce_L0b call t0 r18 h_19 t28 k36)
theorem law08_VoteOnce_L0_s (call : CallF) (t0 : AV) (r18 : AV) (h_19 : AHeap) (t28 : Int) (k36 : AHeap → R) (m : Nat) : law08_VoteOnce_L0 call t0 r18 h_19 t28 k36 (m + 1) = law08_VoteOnce_L0b call t0 r18 h_19 t28 k36 (law08_VoteOnce_L0 call t0 r18 h_19 t28 k36 m) := rfl
noncomputable def law08_VoteOnce (call : CallF) (n : Nat) (t0 : AV) (h : AHeap) : R :=
 callN (call 8 [] h) fun r14 h_4 =>
 obind (avBool r14) fun t14 =>
 lett (!t14) fun (t15 : Bool) =>
 ifB t15
 (
  some (.ret (.bool false), h_4))
 (
  callN (call 19 [t0] h_4) fun r17 h_11 =>
  obind (avBool r17) fun t17 =>
  ifB t17
  (
   some (.ret (.bool true), h_11))
  (
   callN (call 9 [] h_11) fun r18 h_16 =>
   callN (call 10 [r18] h_16) fun r21 h_19 =>
   obind (extT 0 r21) fun v22 =>
   obind (extT 1 r21) fun v23 =>
   obind (avInt .i64 v23) fun t23 =>
   lett ((t23 : Int) != 0) fun (t25 : Bool) =>
   ifB t25
   (
    some (.ret (.bool false), h_19))
   (
    lett (AHeap.new h_19 (.map [])) fun h_29 =>
    obind (lenL t0) fun t28 =>
    lett (fun  (h_37 : AHeap) =>
     some (.ret (.bool true), h_37)) fun k36 =>
    law08_VoteOnce_L0 call t0 r18 h_19 t28 k36 n v22 0 0 h_29)))
set_option maxHeartbeats 4000000 in
set_option maxRecDepth 20000 in
theorem law08_VoteOnce_ok {call : CallF} (hc : SaysAll Try.prog call) {n : Nat} {t0 : AV} {h : AHeap} {rR : ARes} {hR : AHeap} (hF : law08_VoteOnce call n t0 h = some (rR, hR)) : Says Try.prog 7 [t0] h rR hR := by
 unfold law08_VoteOnce at hF
 refine sO Try.func7 fun w0 m0 => ?_
 refine wW [(0, t0)] ?_
 refine oG fun n1 => W.r ?_
 refine oA 2 (.bool false) ?_
 refine oV [(0, t0)] (n1 ?_)
 refine oH fun n2 q2 => ?_
 refine oG fun n3 => W.r ?_
 refine oCb hc 14 hF fun t14 h_4 hF => ?_
 refine oB 15 hF fun t15 hF => ?_
 refine oV [(0, t0), (15, .bool t15)] (n3 ?_)
 cases t15 with
 | true =>
  refine oT hF fun hF => ?_
  refine oG fun n8 => W.r ?_
  refine oA 2 (.bool false) ?_
  refine oV [(2, .bool false)] (n8 (oY (q2 ?_)))
  exact lZ hF [.tmp 2] [.bool false] (rT res_nil)
 | false =>
  refine oU hF fun hF => ?_
  refine oZ (n2 ?_)
  refine oH fun n9 q9 => ?_
  refine oG fun n10 => W.r ?_
  refine oA 16 t0 ?_
  refine oCb hc 17 hF fun t17 h_11 hF => ?_
  refine oV [(0, t0), (17, .bool t17)] (n10 ?_)
  cases t17 with
  | true =>
   refine oT hF fun hF => ?_
   refine oG fun n14 => W.r ?_
   refine oA 2 (.bool true) ?_
   refine oV [(2, .bool true)] (n14 (oY (q9 ?_)))
   exact lZ hF [.tmp 2] [.bool true] (rT res_nil)
  | false =>
   refine oU hF fun hF => ?_
   refine oZ (n9 ?_)
   refine oG fun n15 => W.r ?_
   refine oC hc (some 18) hF fun r18 h_16 hF => ?_
   refine oA 3 r18 ?_
   refine oV [(0, t0), (3, r18)] (n15 ?_)
   refine oG fun n18 => W.r ?_
   refine oA 20 r18 ?_
   refine oC hc (some 21) hF fun r21 h_19 hF => ?_
   refine oA 19 r21 ?_
   refine oE 22 hF fun v22 hF => ?_
   refine oEi 23 hF fun t23 hF => ?_
   refine oA 4 v22 ?_
   refine oA 5 (.int .i64 t23) ?_
   refine oV [(0, t0), (3, r18), (4, v22), (5, .int .i64 t23)] (n18 ?_)
   refine oH fun n24 q24 => ?_
   refine oG fun n25 => W.r ?_
   refine oA 24 (.int .i64 t23) ?_
   refine oB 25 hF fun t25 hF => ?_
   refine oV [(0, t0), (3, r18), (4, v22), (25, .bool t25)] (n25 ?_)
   cases t25 with
   | true =>
    refine oT hF fun hF => ?_
    refine oG fun n27 => W.r ?_
    refine oA 2 (.bool false) ?_
    refine oV [(2, .bool false)] (n27 (oY (q24 ?_)))
    exact lZ hF [.tmp 2] [.bool false] (rT res_nil)
   | false =>
    refine oU hF fun hF => ?_
    refine oZ (n24 ?_)
    refine oG fun n28 => W.r ?_
    obtain ⟨h_29, e30, hF⟩ := lett_some hF
    refine WL.val (d := (some 26)) (v := (AV.mp (AHeap.next h_19))) (h' := h_29) (by kernel_rfl) (by kernel_rfl) (val_ofH e30 (by kernel_rfl)) ?_
    refine oA 6 (AV.mp (AHeap.next h_19)) ?_
    refine oV [(0, t0), (3, r18), (4, v22), (6, (AV.mp (AHeap.next h_19)))] (n28 ?_)
    refine oG fun n31 => W.r ?_
    refine oA 7 (.int .i64 0) ?_
    refine oV [(0, t0), (3, r18), (4, v22), (6, (AV.mp (AHeap.next h_19))), (7, .int .i64 0)] (n31 ?_)
    refine W.s (fun K32 n32 e32 q32 p32 => ?_)
    refine oG fun n33 => W.r ?_
    refine oA 27 t0 ?_
    refine oM 28 41 49 hF fun t28 hF => ?_
    refine oA 29 (.int .i64 0) ?_
    refine oV [(3, r18), (4, v22), (6, (AV.mp (AHeap.next h_19))), (7, .int .i64 0), (27, t0), (28, .int .i64 t28), (29, .int .i64 0)] (n33 ?_)
    obtain ⟨k36, e36, hF⟩ := lett_some hF
    have J36 : ∀  (h_37 : AHeap), k36 h_37 = some (rR, hR) → Go w0 m0 (Func.ntmps Try.f7) (K32 .normal) [] [] h_37 := by
     intro  h_37 hF
     rw [e36] at hF
     refine n32 ?_
     refine oG fun n38 => W.r ?_
     refine oA 2 (.bool true) ?_
     refine oV [(2, .bool true)] (n38 (oY ?_))
     exact lZ hF [.tmp 2] [.bool true] (rT res_nil)
    refine W.blockK (by kernel_rfl) (fun K35 n35 s35 o35 q35 p35 => ?_)
    refine W.loopK (by kernel_rfl) (fun I39 K39 b39 n39 e39 q39 p39 => ?_)
    have L39 : ∀ (m : Nat) (t4 : AV) (t7 : Int) (t29 : Int) (h_40 : AHeap), law08_VoteOnce_L0 call t0 r18 h_19 t28 k36 m t4 t7 t29 h_40 = some (rR, hR) → Go w0 m0 (Func.ntmps Try.f7) I39 [(3, r18), (4, t4), (6, (AV.mp (AHeap.next h_19))), (7, .int .i64 t7), (27, t0), (28, .int .i64 t28), (29, .int .i64 t29)] [] h_40 := by
     intro m
     induction m with
     | zero => intro t4 t7 t29 h_40 hF; cases hF
     | succ m ih39 =>
      intro t4 t7 t29 h_40 hF
      rw [law08_VoteOnce_L0_s] at hF; unfold law08_VoteOnce_L0b at hF
      refine b39 ?_
      refine oG fun n41 => W.r ?_
      refine oB 30 hF fun t30 hF => ?_
      refine oV [(3, r18), (4, t4), (6, (AV.mp (AHeap.next h_19))), (7, .int .i64 t7), (27, t0), (28, .int .i64 t28), (29, .int .i64 t29), (30, .bool t30)] (n41 ?_)
      refine W.s (fun K43 n43 e43 q43 p43 => ?_)
      cases t30 with
      | true =>
       refine oT hF fun hF => ?_
       refine oZ (n43 ?_)
       refine oH fun n44 q44 => ?_
       refine W.blockK (by kernel_rfl) (fun K45 n45 s45 o45 q45 p45 => ?_)
       refine oG fun n46 => W.r ?_
       refine oP 31 41 49 .i64 hF fun t31 hF => ?_
       refine oR 32 49 hF fun t32 hF => ?_
       refine oN 9 hF fun h_49 hF => ?_
       refine oW 49 (.agg t32) hF fun h_51 hF => ?_
       refine oV [(3, r18), (4, t4), (6, (AV.mp (AHeap.next h_19))), (7, .int .i64 t7), (9, (newP h_40)), (27, t0), (28, .int .i64 t28), (29, .int .i64 t29)] (n46 ?_)
       refine W.s (fun K53 n53 e53 q53 p53 => ?_)
       refine oG fun n54 => W.r ?_
       refine oA 33 (AV.ptr (AHeap.next h_40) 0) ?_
       refine oLi 34 3 hF fun t34 hF => ?_
       obtain ⟨t35, e57, hF⟩ := obind_some hF
       refine WL.b (some 35) (.int .i64 t35) h_51 (rem_int (P := Try.prog) (h := h_51) (t := 3) (lit := true) e57) ?_
       refine oB 36 hF fun t36 hF => ?_
       refine oV [(3, r18), (4, t4), (6, (AV.mp (AHeap.next h_19))), (7, .int .i64 t7), (9, (newP h_40)), (27, t0), (28, .int .i64 t28), (29, .int .i64 t29), (36, .bool t36)] (n54 ?_)
       obtain ⟨k59, e59, hF⟩ := lett_some hF
       have J59 : ∀  (h_60 : AHeap), k59 h_60 = some (rR, hR) → Go w0 m0 (Func.ntmps Try.f7) (K53 .normal) [(3, r18), (4, t4), (6, (AV.mp (AHeap.next h_19))), (7, .int .i64 t7), (9, (newP h_40)), (27, t0), (28, .int .i64 t28), (29, .int .i64 t29)] [] h_60 := by
        intro  h_60 hF
        rw [e59] at hF
        refine n53 ?_
        refine oG fun n61 => W.r ?_
        refine oA 42 t4 ?_
        refine oA 43 (AV.ptr (AHeap.next h_40) 2) ?_
        refine oR 44 31 hF fun t44 hF => ?_
        refine oCi hc 45 hF fun t45 h_63 hF => ?_
        refine oA 10 (.int .i64 t45) ?_
        refine oV [(3, r18), (4, t4), (6, (AV.mp (AHeap.next h_19))), (7, .int .i64 t7), (9, (newP h_40)), (10, .int .i64 t45), (27, t0), (28, .int .i64 t28), (29, .int .i64 t29)] (n61 ?_)
        refine W.s (fun K66 n66 e66 q66 p66 => ?_)
        refine oG fun n67 => W.r ?_
        refine oA 46 (.int .i64 t45) ?_
        refine oB 47 hF fun t47 hF => ?_
        refine oV [(3, r18), (4, t4), (6, (AV.mp (AHeap.next h_19))), (7, .int .i64 t7), (9, (newP h_40)), (27, t0), (28, .int .i64 t28), (29, .int .i64 t29), (47, .bool t47)] (n67 ?_)
        obtain ⟨k69, e69, hF⟩ := lett_some hF
        have J69 : ∀ (t4_70 : AV) (h_71 : AHeap), k69 t4_70 h_71 = some (rR, hR) → Go w0 m0 (Func.ntmps Try.f7) (K66 .normal) [(3, r18), (4, t4_70), (6, (AV.mp (AHeap.next h_19))), (7, .int .i64 t7), (27, t0), (28, .int .i64 t28), (29, .int .i64 t29)] [] h_71 := by
         intro t4_70 h_71 hF
         rw [e69] at hF
         refine n66 ?_
         refine oG fun n72 => W.r ?_
         refine oA 65 t4_70 ?_
         refine oCa hc 66 hF fun t66 h_73 hF => ?_
         refine oN 11 hF fun h_76 hF => ?_
         refine oW 31 (.agg t66) hF fun h_78 hF => ?_
         refine oV [(3, r18), (4, t4_70), (6, (AV.mp (AHeap.next h_19))), (7, .int .i64 t7), (11, (newP h_73)), (27, t0), (28, .int .i64 t28), (29, .int .i64 t29)] (n72 ?_)
         refine oH fun n80 q80 => ?_
         refine oG fun n81 => W.r ?_
         refine oA 67 (AV.ptr (AHeap.next h_73) 0) ?_
         refine oLi 68 3 hF fun t68 hF => ?_
         refine oA 69 (.int .i64 t7) ?_
         refine oB 70 hF fun t70 hF => ?_
         refine oV [(3, r18), (4, t4_70), (6, (AV.mp (AHeap.next h_19))), (11, (newP h_73)), (27, t0), (28, .int .i64 t28), (29, .int .i64 t29), (70, .bool t70)] (n81 ?_)
         cases t70 with
         | true =>
          refine oT hF fun hF => ?_
          refine oG fun n85 => W.r ?_
          refine oA 2 (.bool false) ?_
          refine oV [(2, .bool false)] (n85 (oY (q80 (q45 (q44 (q39 (q35 (q32 ?_))))))))
          exact lZ hF [.tmp 2] [.bool false] (rT res_nil)
         | false =>
          refine oU hF fun hF => ?_
          refine oZ (n80 ?_)
          refine oG fun n86 => W.r ?_
          refine oA 71 (AV.ptr (AHeap.next h_73) 0) ?_
          refine oLi 72 3 hF fun t72 hF => ?_
          refine oA 7 (.int .i64 t72) ?_
          refine oV [(3, r18), (4, t4_70), (6, (AV.mp (AHeap.next h_19))), (7, .int .i64 t72), (11, (newP h_73)), (27, t0), (28, .int .i64 t28), (29, .int .i64 t29)] (n86 ?_)
          refine oH fun n89 q89 => ?_
          refine oG fun n90 => W.r ?_
          refine oA 74 (AV.mp (AHeap.next h_19)) ?_
          refine oA 75 (.int .i64 t72) ?_
          refine oK 76 hF fun v76 h_91 hF => ?_
          refine oA 73 v76 ?_
          refine oEi 77 hF fun t77 hF => ?_
          refine oEb 78 hF fun t78 hF => ?_
          refine oA 12 (.int .i64 t77) ?_
          refine oA 13 (.bool t78) ?_
          refine oV [(3, r18), (4, t4_70), (6, (AV.mp (AHeap.next h_19))), (7, .int .i64 t72), (11, (newP h_73)), (12, .int .i64 t77), (13, .bool t78), (27, t0), (28, .int .i64 t28), (29, .int .i64 t29)] (n90 ?_)
          refine W.s (fun K97 n97 e97 q97 p97 => ?_)
          refine W.r ?_
          refine oA 79 (.bool t78) ?_
          refine oA 80 (.bool t78) ?_
          obtain ⟨j85, e99, hF⟩ := lett_some hF
          have J100 : ∀ (t85 : Bool) (h_98 : AHeap), j85 t85 h_98 = some (rR, hR) → WL Try.prog w0 m0 (Func.ntmps Try.f7) (Code.ops (Code.p1 (Code.p2 (Code.p1 (Code.p2 (Code.p2 (Code.p2 (Code.p2 (Code.p2 (Code.p2 (Code.p2 (Code.p1 (Code.p1 (Code.p2 (Code.p2 (Code.p1 (Code.p1 (Code.p2 (Code.p1 (Code.p2 (Code.p2 (Code.p2 (Code.p2 (Code.p2 (Code.p2 (Code.p2 (Code.p2 (codeOf Try.f7)))))))))))))))))))))))))))) 7 K97 [(3, r18), (4, t4_70), (6, (AV.mp (AHeap.next h_19))), (7, .int .i64 t72), (11, (newP h_73)), (27, t0), (28, .int .i64 t28), (29, .int .i64 t29), (85, .bool t85)] [] h_98 := by
           intro t85 h_98 hF
           rw [e99] at hF
           refine oV [(3, r18), (4, t4_70), (6, (AV.mp (AHeap.next h_19))), (7, .int .i64 t72), (11, (newP h_73)), (27, t0), (28, .int .i64 t28), (29, .int .i64 t29), (85, .bool t85)] (n97 ?_)
           cases t85 with
           | true =>
            refine oT hF fun hF => ?_
            refine oG fun n101 => W.r ?_
            refine oA 2 (.bool false) ?_
            refine oV [(2, .bool false)] (n101 (oY (q89 (q45 (q44 (q39 (q35 (q32 ?_))))))))
            exact lZ hF [.tmp 2] [.bool false] (rT res_nil)
           | false =>
            refine oU hF fun hF => ?_
            refine oZ (n89 ?_)
            refine oG fun n102 => W.r ?_
            refine oA 86 (AV.ptr (AHeap.next h_73) 1) ?_
            refine oLi 87 3 hF fun t87 hF => ?_
            refine oB 88 hF fun t88 hF => ?_
            refine oV [(3, r18), (4, t4_70), (6, (AV.mp (AHeap.next h_19))), (7, .int .i64 t72), (11, (newP h_73)), (27, t0), (28, .int .i64 t28), (29, .int .i64 t29), (88, .bool t88)] (n102 ?_)
            obtain ⟨k106, e106, hF⟩ := lett_some hF
            have J106 : ∀  (h_107 : AHeap), k106 h_107 = some (rR, hR) → Go w0 m0 (Func.ntmps Try.f7) (K45 .normal) [(3, r18), (4, t4_70), (6, (AV.mp (AHeap.next h_19))), (7, .int .i64 t72), (27, t0), (28, .int .i64 t28), (29, .int .i64 t29)] [] h_107 := by
             intro  h_107 hF
             rw [e106] at hF
             refine n45 (n44 (W.r ?_))
             refine oI 93 .i64 hF fun t93 hF => ?_
             refine oA 29 (.int .i64 t93) ?_
             refine oV [(3, r18), (4, t4_70), (6, (AV.mp (AHeap.next h_19))), (7, .int .i64 t72), (27, t0), (28, .int .i64 t28), (29, .int .i64 t93)] (n39 ?_)
             exact gW _ (ih39 _ _ _ _ hF)
            cases t88 with
            | true =>
             refine oT hF fun hF => ?_
             refine W.r ?_
             refine oA 89 (AV.mp (AHeap.next h_19)) ?_
             refine oA 90 (.int .i64 t72) ?_
             refine oA 91 (AV.ptr (AHeap.next h_73) 1) ?_
             refine oLi 92 3 hF fun t92 hF => ?_
             obtain ⟨h_111, e112, hF⟩ := effK_some hF
             refine WL.e h_111 e112 ?_
             refine oV [(3, r18), (4, t4_70), (6, (AV.mp (AHeap.next h_19))), (7, .int .i64 t72), (27, t0), (28, .int .i64 t28), (29, .int .i64 t29)] ?_
             exact gW _ (J106 _ hF)
            | false =>
             refine oU hF fun hF => ?_
             refine oZ ?_
             exact gW _ (J106 _ hF)
          cases t78 with
          | true =>
           replace hF := ifB_t hF
           refine oA 81 (.int .i64 t77) ?_
           refine oA 82 (AV.ptr (AHeap.next h_73) 1) ?_
           refine oLi 83 3 hF fun t83 hF => ?_
           refine oB 84 hF fun t84 hF => ?_
           refine oA 85 (.bool t84) ?_
           exact lW _ (J100 _ _ hF)
          | false =>
           replace hF := ifB_f hF
           refine WL.o (some 81) ?_
           refine WL.o (some 82) ?_
           refine WL.o (some 83) ?_
           refine WL.o (some 84) ?_
           refine oA 85 (.bool false) ?_
           exact lW _ (J100 _ _ hF)
        cases t47 with
        | true =>
         refine oT hF fun hF => ?_
         refine oG fun n116 => W.r ?_
         refine oA 48 r18 ?_
         refine oA 49 (AV.ptr (AHeap.next h_40) 5) ?_
         refine oL 50 32 hF fun v50 hF => ?_
         refine oA 51 (AV.ptr (AHeap.next h_40) 1) ?_
         refine oLi 52 3 hF fun t52 hF => ?_
         refine oCi hc 53 hF fun t53 h_120 hF => ?_
         refine oV [(3, r18), (6, (AV.mp (AHeap.next h_19))), (7, .int .i64 t7), (27, t0), (28, .int .i64 t28), (29, .int .i64 t29)] (n116 ?_)
         refine oG fun n123 => W.r ?_
         refine oA 55 r18 ?_
         refine oC hc (some 56) hF fun r56 h_124 hF => ?_
         refine oA 54 r56 ?_
         refine oE 57 hF fun v57 hF => ?_
         refine oEi 58 hF fun t58 hF => ?_
         refine oA 4 v57 ?_
         refine oA 10 (.int .i64 t58) ?_
         refine oV [(3, r18), (4, v57), (6, (AV.mp (AHeap.next h_19))), (7, .int .i64 t7), (10, .int .i64 t58), (27, t0), (28, .int .i64 t28), (29, .int .i64 t29)] (n123 ?_)
         refine W.s (fun K129 n129 e129 q129 p129 => ?_)
         refine W.r ?_
         refine oA 59 (.int .i64 t58) ?_
         refine oB 60 hF fun t60 hF => ?_
         refine oA 61 (.bool t60) ?_
         obtain ⟨j64, e132, hF⟩ := lett_some hF
         have J133 : ∀ (t64 : Bool) (h_131 : AHeap), j64 t64 h_131 = some (rR, hR) → WL Try.prog w0 m0 (Func.ntmps Try.f7) (Code.ops (Code.p1 (Code.p2 (Code.p2 (Code.p1 (Code.p2 (Code.p1 (Code.p2 (Code.p2 (Code.p2 (Code.p1 (Code.p1 (Code.p2 (Code.p2 (Code.p1 (Code.p1 (Code.p2 (Code.p1 (Code.p2 (Code.p2 (Code.p2 (Code.p2 (Code.p2 (Code.p2 (Code.p2 (Code.p2 (codeOf Try.f7))))))))))))))))))))))))))) 6 K129 [(3, r18), (4, v57), (6, (AV.mp (AHeap.next h_19))), (7, .int .i64 t7), (27, t0), (28, .int .i64 t28), (29, .int .i64 t29), (64, .bool t64)] [] h_131 := by
          intro t64 h_131 hF
          rw [e132] at hF
          refine oV [(3, r18), (4, v57), (6, (AV.mp (AHeap.next h_19))), (7, .int .i64 t7), (27, t0), (28, .int .i64 t28), (29, .int .i64 t29), (64, .bool t64)] (n129 ?_)
          cases t64 with
          | true =>
           refine oT hF fun hF => ?_
           refine oG fun n134 => W.r ?_
           refine oA 2 (.bool false) ?_
           refine oV [(2, .bool false)] (n134 (oY (q66 (q45 (q44 (q39 (q35 (q32 ?_))))))))
           exact lZ hF [.tmp 2] [.bool false] (rT res_nil)
          | false =>
           refine oU hF fun hF => ?_
           refine oZ ?_
           exact gW _ (J69 _ _ hF)
         cases t60 with
         | true =>
          replace hF := ifB_t hF
          refine WL.o (some 62) ?_
          refine WL.o (some 63) ?_
          refine oA 64 (.bool true) ?_
          exact lW _ (J133 _ _ hF)
         | false =>
          replace hF := ifB_f hF
          refine oA 62 v57 ?_
          replace hF := outK_some hF; obtain ⟨v63, h_135, e136, hF⟩ := hF
          replace hF := obind_some hF; obtain ⟨t63, c137, hF⟩ := hF
          have c137 := avBool_some c137
          subst c137
          refine WL.b (some 63) (.bool t63) h_135 e136 ?_
          refine oA 64 (.bool t63) ?_
          exact lW _ (J133 _ _ hF)
        | false =>
         refine oU hF fun hF => ?_
         refine oZ ?_
         exact gW _ (J69 _ _ hF)
       cases t36 with
       | true =>
        refine oT hF fun hF => ?_
        refine W.r ?_
        refine oA 37 r18 ?_
        refine oA 38 (AV.ptr (AHeap.next h_40) 1) ?_
        refine oLi 39 3 hF fun t39 hF => ?_
        refine oI 40 .i64 hF fun t40 hF => ?_
        refine oCi hc 41 hF fun t41 h_141 hF => ?_
        refine oV [(3, r18), (4, t4), (6, (AV.mp (AHeap.next h_19))), (7, .int .i64 t7), (9, (newP h_40)), (27, t0), (28, .int .i64 t28), (29, .int .i64 t29)] ?_
        exact gW _ (J59 _ hF)
       | false =>
        refine oU hF fun hF => ?_
        refine oZ ?_
        exact gW _ (J59 _ hF)
      | false =>
       refine oU hF fun hF => ?_
       refine W.exit (by kernel_rfl) ?_
       refine e43 (e39 ?_)
       refine s35 (by kernel_rfl) ?_
       exact gW _ (J36 _ hF)
    exact gW _ (L39 _ _ _ _ _ hF)
abbrev TSp : Nat := 49
structure Sp where
 k : Int
 n : Int
 t : Int
 f : Int
 s : Bytes
 v : AV
noncomputable def spC (x : Sp) : List AV := [.int .i64 x.k, .int .i64 x.n, .int .i64 x.t, .int .i64 x.f, strA x.s, x.v]
def SpOk (N : Nat) (h : AHeap) (x : Sp) : Prop := I64 x.k ∧ I64 x.n ∧ x.s.length ≤ reachBytes ∧ ∃ zs : List Int, Slc N h 1 x.v (zs.map fun z => [.int .i64 z]) ∧ zs.length < 9223372036854775808
def sumV : List Sp → Nat
 | [] => 0
 | c :: l => c.s.length + sumV l
theorem sp_one {x : Sp} (hv : x.v.one = true) : (spC x).all AV.one = true := by
 show (true && (true && (true && (true && (true && (x.v.one && true)))))) = true
 rw [hv]
 rfl
theorem SpOk.one {N : Nat} {h : AHeap} {x : Sp} (k : SpOk N h x) : x.v.one = true := by
 obtain ⟨_, _, _, zs, hs, _⟩ := k
 rcases hs.2 with ⟨_, e | e⟩ | ⟨b, _, _, e, _⟩ <;> rw [e] <;> rfl
set_option maxRecDepth 100000 in
theorem sp_of {N m : Nat} {h : AHeap} {l : List AV} (hp : Plain Try.prog N h (m + 4) TSp l) : ∃ x : Sp, l = spC x ∧ SpOk N h x := by
 obtain ⟨ls, rfl, hlen, hf⟩ := hp.structEach Try.underlying49
 obtain ⟨l0, l1, l2, l3, l4, rfl⟩ : ∃ l0 l1 l2 l3 l4, ls = [l0, l1, l2, l3, l4] := by
  match ls, hlen with
  | [a, b, c, d, e], _ => exact ⟨a, b, c, d, e, rfl⟩
 obtain ⟨z0, rfl, w0⟩ := (hf 0 _ _ rfl rfl).int Try.underlying3
 obtain ⟨z1, rfl, w1⟩ := (hf 1 _ _ rfl rfl).int Try.underlying3
 obtain ⟨ms, rfl, hml, hmf⟩ := (hf 2 _ _ rfl rfl).structEach Try.underlying31
 obtain ⟨m0, m1, rfl⟩ : ∃ m0 m1, ms = [m0, m1] := by
  match ms, hml with
  | [a, b], _ => exact ⟨a, b, rfl⟩
 obtain ⟨y0, rfl, _⟩ := (hmf 0 _ _ rfl rfl).int Try.underlying3
 obtain ⟨y1, rfl, _⟩ := (hmf 1 _ _ rfl rfl).int Try.underlying3
 obtain ⟨u, rfl, w3⟩ := (hf 3 _ _ rfl rfl).str Try.underlying9
 obtain ⟨x, ks, rfl, w4, w5, w6⟩ := (hf 4 _ _ rfl rfl).slice Try.underlying32
 obtain ⟨zs, rfl, w7⟩ := ints_of Try.underlying3 w6
 have hc : Try.prog.cellsOf 3 = 1 := by kernel_rfl
 have hb : Try.prog.bytesOf 3 = 8 := by kernel_rfl
 have hrb : reachBytes = 140737488351232 := rfl
 rw [hc] at w4
 rw [hb, List.length_map] at w5
 exact ⟨⟨z0, z1, y0, y1, u, x⟩, rfl, wf_i64 w0, wf_i64 w1, w3, zs, w4, by omega⟩
set_option maxRecDepth 100000 in
theorem sps_of {N m : Nat} {h : AHeap} {a : AV} (hp : ArgP Try.prog N h (m + 5) 41 a) : ∃ xs : List Sp, Slc N h 6 a (xs.map spC) ∧ (∀ x ∈ xs, SpOk N h x) ∧ xs.length ≤ reachBytes := by
 obtain ⟨ls, h1, h2, h3⟩ := hp.slice Try.underlying41
 obtain ⟨xs, rfl, h4⟩ := map_of (f := spC) (Q := SpOk N h) ls fun l hl => sp_of (h3 l hl)
 have hc : Try.prog.cellsOf TSp = 6 := by kernel_rfl
 have hb : Try.prog.bytesOf TSp = 72 := by kernel_rfl
 rw [hc] at h1
 rw [hb, List.length_map] at h2
 exact ⟨xs, h1, h4, by omega⟩
section
variable {n d D N : Nat} {h : AHeap} {a : AV} {xs : List Sp}
theorem heavy_loop (hs : Slc N h 6 a (xs.map spC)) (hN : N ≤ h.next) (ho : ∀ x ∈ xs, x.s.length ≤ reachBytes ∧ x.v.one = true) {k7 : AHeap → R} {Q : ARes → AHeap → Prop} (hk : ∀ H, Tch [] h H → sumV xs ≤ 4096 → Wp (k7 H) Q) (hq : ∀ H, Tch [] h H → Q (.ret (.bool true)) H) :
  ∀ (todo : List Sp) (i fu t : Nat) (H : AHeap), xs.drop i = todo → todo.length < fu → t ≤ 4096 → t + sumV todo = sumV xs → Tch [] h H → xs.length ≤ reachBytes → Wp (law08_heavy_L0 a (xs.length : Int) k7 fu (t : Int) (i : Int) H) Q
 | _, _, 0, _, _, _, hf, _, _, _, _ => by omega
 | [], i, fu + 1, t, H, hd, hf, ht, hsum, T, _ => by
  have := dropN hd
  rw [law08_heavy_L0_s]
  unfold law08_heavy_L0b
  refine Wp.lett (Wp.iff (by rw [decide_eq_false_iff_not]; omega) ?_)
  exact hk H T (by have h0 : sumV [] = 0 := rfl; omega)
 | c :: todo, i, fu + 1, t, H, hd, hf, ht, hsum, T, hl => by
  obtain ⟨hi, hci, hd2⟩ := dropC hd
  rw [List.length_cons] at hf
  have hrb : reachBytes = 140737488351232 := rfl
  have hs2 := hs.tch T hN (fun b hb => nomatch hb)
  obtain ⟨b, hb, e1, e2⟩ := hs2.row (i := i) (by rw [List.length_map]; exact hi)
  rw [List.getElem_map, hci] at e2
  obtain ⟨hc, hv1⟩ := ho c (hci ▸ List.getElem_mem hi)
  have hss : sumV (c :: todo) = c.s.length + sumV todo := rfl
  rw [law08_heavy_L0_s]
  unfold law08_heavy_L0b
  refine Wp.lett (Wp.ift (by rw [decide_eq_true_eq]; omega) (Wp.obind e1 (Wp.obind e2 (Wp.mnew (Mem.nil [] H) fun h2 M2 => ?_))))
  rw [newP_eq]
  refine Wp.sa0 M2 rfl rfl (sp_one hv1) fun h3 M3 => ?_
  have t3 := M3.tch
  have T3 := T.trans t3
  have g4 : (spC c)[4]? = some (strA c.s) := rfl
  have hlc := lenS_nat c.s
  refine Wp.ld0 M3 g4 (Wp.obind (avStr_str _) (Wp.lettw (by omega) (by omega) (Wp.lett ?_)))
  by_cases h1 : (c.s.length : Int) > 4096 - (t : Int)
  ·refine Wp.ift (by rw [decide_eq_true_eq]; omega) ?_
   exact Wp.ret (hq _ T3)
  ·refine Wp.iff (by rw [decide_eq_false_iff_not]; omega) ?_
   refine Wp.ld0 M3 g4 (Wp.obind (avStr_str _) (Wp.lettw (by omega) (by omega) (Wp.lettw (by omega) (by omega) ?_)))
   rw [show (t : Int) + lenS c.s = ((t + c.s.length : Nat) : Int) by omega, show (i : Int) + 1 = ((i + 1 : Nat) : Int) by omega]
   exact heavy_loop hs hN ho hk hq todo (i + 1) fu (t + c.s.length) h3 hd2 (by omega) (by omega) (by omega) T3 hl
theorem heavy_w (hs : Slc N h 6 a (xs.map spC)) (hN : N ≤ h.next) (ho : ∀ x ∈ xs, x.s.length ≤ reachBytes ∧ x.v.one = true) (hl : xs.length ≤ reachBytes) (hn : reachBytes < n) : ∃ h' b, wL n D (d + 1) false 19 [a] h = some (.ret (.bool b), h') ∧ Tch [] h h' ∧ (b = false → sumV xs ≤ 4096 ∧ xs.length ≤ 100) := by
 suffices hK : Wp (law08_heavy (wL n D d false) n a h) fun r h' => ∃ b, r = .ret (.bool b) ∧ Tch [] h h' ∧ (b = false → sumV xs ≤ 4096 ∧ xs.length ≤ 100) by
  obtain ⟨_, h', e, b, rfl, k⟩ := hK
  exact ⟨h', b, wL_law08_heavy n D d _ e, k⟩
 unfold law08_heavy
 have hlen := hs.len
 rw [List.length_map] at hlen
 refine Wp.obind hlen (Wp.lettG fun k7 e7 => ?_)
 refine heavy_loop hs hN ho (fun H T hsum => ?_) (fun H T => ⟨true, rfl, T, fun h => nomatch h⟩) xs 0 n 0 h rfl (by omega) (by omega) (by omega) (Tch.refl _ _) hl
 rw [e7]
 refine Wp.obind hlen (Wp.lett (Wp.ret ⟨_, rfl, T, fun h => ?_⟩))
 rw [decide_eq_false_iff_not] at h
 exact ⟨hsum, by omega⟩
end
def miE (l : List (Int × Int)) : List (AV × AV) := l.map fun p => (.int .i64 p.1, .int .i64 p.2)
def lookI (k : Int) : List (Int × Int) → Option Int
 | [] => none
 | p :: l => if k = p.1 then some p.2 else lookI k l
def putI (k v : Int) : List (Int × Int) → List (Int × Int)
 | [] => [(k, v)]
 | p :: l => if k = p.1 then (k, v) :: l else p :: putI k v l
theorem sameKI (P : Program) (t : TypeId) (a b : Int) : keySame P t (.int .i64 a) (.int .i64 b) = some (decide (a = b)) := by
 show sameKey (.int .i64 a) (.int .i64 b) = _
 unfold sameKey
 by_cases h : a = b
 ·subst h
  simp
 ·simp [h]
theorem find_mi (P : Program) (t : TypeId) (k : Int) : ∀ l : List (Int × Int), findM P t (.int .i64 k) (miE l) = some ((lookI k l).map (.int .i64))
 | [] => rfl
 | p :: l => by
  show (match keySame P t (.int .i64 k) (.int .i64 p.1) with
   | some true => some (some (AV.int .i64 p.2))
   | some false => findM P t (.int .i64 k) (miE l)
   | none => none) = _
  rw [sameKI]
  unfold lookI
  by_cases h : k = p.1
  ·rw [decide_eq_true h, if_pos h]
   rfl
  ·rw [decide_eq_false h, if_neg h]
   exact find_mi P t k l
theorem put_mi (P : Program) (t : TypeId) (k v : Int) : ∀ l : List (Int × Int), putM P t (.int .i64 k) (.int .i64 v) (miE l) = some (miE (putI k v l))
 | [] => rfl
 | p :: l => by
  show (match keySame P t (.int .i64 k) (.int .i64 p.1) with
   | some true => some ((AV.int .i64 k, AV.int .i64 v) :: miE l)
   | some false => match putM P t (.int .i64 k) (.int .i64 v) (miE l) with
    | some r => some ((AV.int .i64 p.1, AV.int .i64 p.2) :: r)
    | none => none
   | none => none) = _
  rw [sameKI]
  unfold putI
  by_cases h : k = p.1
  ·rw [decide_eq_true h, if_pos h]
   rfl
  ·rw [decide_eq_false h, if_neg h]
   dsimp only
   rw [put_mi P t k v l]
   rfl
abbrev TMi : Nat := 72
theorem undMi : Try.prog.underlying TMi = some (.map 3 3) := by kernel_rfl
theorem keyI (k : Int) : keyT Try.prog 3 (.int .i64 k) = true := by
 unfold keyT
 rw [Try.underlying3]
section
variable {H : AHeap} {mb : Nat} {l : List (Int × Int)}
theorem mapLook (k : Int) (hm : H.get mb = some (.map (miE l))) : opLookup Try.prog H TMi true (some (.mp mb)) (some (.int .i64 k)) = some (.val (.tup [.int .i64 ((lookI k l).getD 0), .bool (lookI k l).isSome]), H) := by
 unfold opLookup
 rw [undMi]
 dsimp only
 rw [keyI, if_pos rfl]
 have hg : mapGet H (.mp mb) = some (miE l) := by
  unfold mapGet
  dsimp only
  rw [hm]
 rw [hg]
 dsimp only
 rw [find_mi]
 cases lookI k l with
 | none =>
  have hz : zeroA Try.prog 3 = some (.int .i64 0) := by kernel_rfl
  unfold lookOut
  dsimp only [Option.map]
  rw [hz]
  rfl
 | some w => rfl
theorem mapPutI (k v : Int) (hm : H.get mb = some (.map (miE l))) : opMapUpdate Try.prog H TMi (some (.mp mb)) (some (.int .i64 k)) (some (.int .i64 v)) = some (.skip, H.put mb (.map (miE (putI k v l)))) := by
 unfold opMapUpdate
 rw [undMi]
 dsimp only
 rw [keyI, if_pos rfl]
 have hg : mapGet H (.mp mb) = some (miE l) := by
  unfold mapGet
  dsimp only
  rw [hm]
 rw [hg]
 dsimp only
 rw [put_mi]
 rfl
end
def Vt (l : List (Int × Int)) (t f : Int) : Prop := ∀ p ∈ l, 0 ≤ p.2 ∧ (p.1 < t ∨ (p.1 = t ∧ p.2 = f))
theorem Vt.step {l : List (Int × Int)} {t f t' f' : Int} (V : Vt l t f) (h : (t' = t ∧ f' = f) ∨ mayB t' f' t f = true) : t ≤ t' ∧ Vt l t' f' := by
 rcases h with ⟨rfl, rfl⟩ | h
 ·exact ⟨Int.le_refl _, V⟩
 ·unfold mayB at h
  by_cases ht : t' = t
  ·rw [if_neg (by simpa using ht)] at h
   subst ht
   refine ⟨Int.le_refl _, fun p hp => ?_⟩
   obtain ⟨h1, h2⟩ := V p hp
   refine ⟨h1, h2.imp_right fun h3 => ⟨h3.1, ?_⟩⟩
   rcases Bool.or_eq_true _ _ ▸ h with h4 | h4
   ·have := eq_of_beq h4
    omega
   ·have := eq_of_beq h4
    omega
  ·rw [if_pos ht, decide_eq_true_eq] at h
   refine ⟨by omega, fun p hp => ?_⟩
   obtain ⟨h1, h2⟩ := V p hp
   exact ⟨h1, .inl (by omega)⟩
theorem Vt.put {t f : Int} (hf : 0 ≤ f) : ∀ {l : List (Int × Int)}, Vt l t f → Vt (putI t f l) t f
 | [], _ => fun p hp => by
  rw [List.mem_singleton.1 hp]
  exact ⟨hf, .inr ⟨rfl, rfl⟩⟩
 | q :: l, V => fun p hp => by
  unfold putI at hp
  split at hp
  ·rcases List.mem_cons.1 hp with rfl | hp
   ·exact ⟨hf, .inr ⟨rfl, rfl⟩⟩
   ·exact V p (List.mem_cons_of_mem _ hp)
  ·rcases List.mem_cons.1 hp with rfl | hp
   ·exact V p (List.mem_cons_self ..)
   ·exact Vt.put hf (fun p hp => V p (List.mem_cons_of_mem _ hp)) p hp
theorem Vt.look {t f w : Int} : ∀ {l : List (Int × Int)}, Vt l t f → lookI t l = some w → w = f
 | [], _, h => by cases h
 | q :: l, V, h => by
  unfold lookI at h
  split at h
  ·rename_i hq
   have := (V q (List.mem_cons_self ..)).2
   cases h
   omega
  ·exact Vt.look (fun p hp => V p (List.mem_cons_of_mem _ hp)) h
theorem rem2 (z : Int) : remI .i64 z 2 = some (z.tmod 2) := by
 unfold remI
 rw [if_neg (by decide)]
structure Mk (H : AHeap) (lo : Nat → Prop) (mb : Nat) (l : List (Int × Int)) : Prop where
 get : H.get mb = some (.map (miE l))
 lt : mb < H.next
 nlo : ¬ lo mb
section
variable {n d D db xb B mb : Nat} {lo lo' : Nat → Prop} {h0 H H' : AHeap} {s : DS} {x : BoxS} {m : Ent} {a : AV} {xs : List Sp} {l : List (Int × Int)} {Q : ARes → AHeap → Prop}
theorem Mk.tch {S : List Nat} (k : Mk H lo mb l) (t : Tch S H H') (hS : mb ∉ S) (L : Less lo lo') : Mk H' lo' mb l := ⟨(t.2.2 mb k.lt hS).trans k.get, Nat.lt_of_lt_of_le k.lt t.1, fun h => k.nlo (L _ h)⟩
theorem Mk.alloc (k : Mk H lo mb l) (t : Tch [] H H') : Mk H' (shr lo H.next H'.next) mb l := k.tch t (fun h => nomatch h) fun _ h => h.1
set_option maxHeartbeats 2000000 in
theorem once_loop (hn : 1000000000 < n) (hs : Slc h0.next h0 6 a (xs.map spC)) (ho : ∀ x ∈ xs, SpOk h0.next h0 x) (hl : xs.length ≤ 100) {h19 : AHeap} (h0m : h0.next ≤ h19.next) {k36 : AHeap → R} (hk : ∀ H, Wp (k36 H) Q) :
  ∀ (todo : List Sp) (i fu : Nat) (H : AHeap) (lo : Nat → Prop) (s : DS) (x : BoxS) (xb B : Nat) (m : Ent) (l : List (Int × Int)), xs.drop i = todo → todo.length < fu → Sy h0.next lo H db xb s x B m → B + 46 * todo.length ≤ 5000 → Mk H lo h19.next l → h19.next ≠ xb → Vt l m.t m.f → Tch [] h0 H →
   Wp (law08_VoteOnce_L0 (wL n (D + 6) (d + 6) false) a (.ptr db 0) h19 (xs.length : Int) k36 fu (.ptr xb 0) m.t (i : Int) H) Q
 | _, _, 0, _, _, _, _, _, _, _, _, _, hf, _, _, _, _, _, _ => by omega
 | [], i, fu + 1, H, lo, s, x, xb, B, m, l, hd, hf, Y, hB, km, hmx, V, T => by
  have := dropN hd
  rw [law08_VoteOnce_L0_s]
  unfold law08_VoteOnce_L0b
  exact Wp.lett (Wp.iff (by rw [decide_eq_false_iff_not]; omega) (hk H))
 | c :: todo, i, fu + 1, H, lo, s, x, xb, B, m, l, hd, hf, Y, hB, km, hmx, V, T => by
  obtain ⟨hi, hci, hd2⟩ := dropC hd
  rw [List.length_cons] at hf hB
  have hs2 := hs.tch T (Nat.le_refl _) (fun b hb => nomatch hb)
  obtain ⟨b, hb, e1, e2⟩ := hs2.row (i := i) (by rw [List.length_map]; exact hi)
  rw [List.getElem_map, hci] at e2
  have oc := ho c (hci ▸ List.getElem_mem hi)
  have oc1 := oc.one
  obtain ⟨_, icn, _, zs, hzs, hzl⟩ := oc
  rw [law08_VoteOnce_L0_s]
  unfold law08_VoteOnce_L0b
  refine Wp.lett (Wp.ift (by rw [decide_eq_true_eq]; omega) (Wp.obind e1 (Wp.obind e2 (Wp.mnew (Mem.nil [] H) fun h2 M2 => ?_))))
  rw [newP_eq H]
  refine Wp.sa0 M2 rfl rfl (sp_one oc1) fun h3 M3 => ?_
  have t3 := M3.tch
  have k3 := M3.at0.1
  have l3 := M3.at0.2.1
  have Y3 := Y.alloc t3
  have km3 := km.alloc t3
  have T3 := T.trans t3
  have nb3 : ¬ shr lo H.next h3.next H.next := nlo_part (Nat.le_refl _) l3
  have hlx := Y.hxb
  have g0 : (spC c)[0]? = some (.int .i64 c.k) := rfl
  have g1 : (spC c)[1]? = some (.int .i64 c.n) := rfl
  have g5 : (spC c)[5]? = some c.v := rfl
  refine Wp.ld0 M3 g0 (Wp.obind (avInt_int _ _) (Wp.obind (rem2 _) (Wp.lett (Wp.lettG fun k59 e59 => ?_))))
  have K59 : ∀ (h60 : AHeap) (s1 : DS), Sy h0.next (shr lo H.next h3.next) h60 db xb s1 x B m → RowH h60 H.next TSp (spC c) → H.next < h60.next → Mk h60 (shr lo H.next h3.next) h19.next l → Tch [] h0 h60 → Wp (k59 h60) Q := by
   intro h60 s1 Y60 k60 l60 km60 T60
   rw [e59]
   obtain ⟨lo4, h4, S4, e, s4, x4, e4, L4, t4, hS4, _, hcase⟩ := Y60.write (n := n) (D := D) (d := d + 5) (by omega) (by omega) c.t c.f
   have fr : ∀ {A : Nat}, ¬ shr lo H.next h3.next A → A ≠ xb → A ∉ S4 := fun h1 h2 hm => (hS4 _ hm).elim h1 h2
   have k4 := k60.tch t4 l60 (fr nb3 (by omega))
   have km4 := km60.tch t4 (fr km60.nlo hmx) L4
   have T4 : Tch [] h0 h4 := T60.trans' t4 fun b hb => .inr ((hS4 b hb).elim (Y60.hl b) fun h => h ▸ Y60.hx)
   refine Wp.obind (show ldRow h60 2 (.ptr H.next 2) = some [.int .i64 c.t, .int .i64 c.f] from k60.ld (o := 2) (n := 2) (show 2 + 2 ≤ 6 by decide)) (Wp.callN e4 (Wp.obind (avInt_int _ _) (Wp.lett (Wp.lettG fun k69 e69 => ?_))))
   have K69 : ∀ (lo5 : Nat → Prop) (h5 : AHeap) (xb5 : Nat) (s5 : DS) (x5 : BoxS) (B5 : Nat) (m5 : Ent), Sy h0.next lo5 h5 db xb5 s5 x5 B5 m5 → B5 + 46 * todo.length ≤ 5000 → Mk h5 lo5 h19.next l → h19.next ≠ xb5 → ((m5.t = m.t ∧ m5.f = m.f) ∨ mayB m5.t m5.f m.t m.f = true) → Tch [] h0 h5 → Wp (k69 (.ptr xb5 0) h5) Q := by
    intro lo5 h5 xb5 s5 x5 B5 m5 Y5 hB5 km5 hmx5 hrel T5
    obtain ⟨hge, V5⟩ := V.step hrel
    obtain ⟨h6, e6, t6⟩ := Y5.now (n := n) (D := D) (d := d + 5)
    rw [e69]
    refine Wp.callN e6 (Wp.obind (avAgg_agg _) (Wp.mnew (Mem.nil [] h6) fun h7 M7 => ?_))
    rw [newP_eq h6]
    refine Wp.sa0 M7 rfl rfl rfl fun h8 M8 => Wp.ld0 M8 rfl (Wp.obind (avInt_int _ _) (Wp.lett (Wp.iff (by rw [decide_eq_false_iff_not]; omega) (Wp.ld0 M8 rfl (Wp.obind (avInt_int _ _) ?_)))))
    have t8 := t6.trans M8.tch
    have Y8 := Y5.alloc t8
    have km8 := km5.alloc t8
    have T8 := T5.trans t8
    refine Wp.outK (mapLook m5.t km8.get) (Wp.obind (extT_0 _ _) (Wp.obind (avInt_int _ _) (Wp.obind (extT_1 _ _ _) (Wp.obind (avBool_bool _) (Wp.lettG fun j85 e85 => ?_)))))
    have fin : Wp (j85 false h8) Q := by
     rw [e85]
     refine Wp.iff rfl (Wp.ld0 M8 rfl (Wp.obind (avInt_int _ _) (Wp.lett (Wp.lettG fun k106 e106 => ?_))))
     by_cases hf0 : m5.f ≥ 0
     ·refine Wp.ift (by rw [decide_eq_true_eq]; exact hf0) (Wp.ld0 M8 rfl (Wp.obind (avInt_int _ _) (Wp.effK (mapPutI m5.t m5.f km8.get) ?_)))
      have t9 : Tch [h19.next] h8 (h8.put h19.next (.map (miE (putI m5.t m5.f l)))) := Tch.put (.inl (List.mem_singleton.2 rfl)) _
      rw [e106]
      refine Wp.lettw (by omega) (by omega) ?_
      rw [show (i : Int) + 1 = ((i + 1 : Nat) : Int) by omega]
      refine once_loop hn hs ho hl h0m hk todo (i + 1) fu _ _ s5 x5 xb5 B5 m5 (putI m5.t m5.f l) hd2 (by omega) (Y8.other t9 fun b hb => ?_) hB5 ⟨get_put_same _ _, km8.lt, km8.nlo⟩ hmx5 (V5.put hf0) (T8.trans' t9 fun b hb => .inr ?_)
      ·rw [List.mem_singleton.1 hb]
       exact ⟨km8.nlo, hmx5⟩
      ·rw [List.mem_singleton.1 hb]
       exact h0m
     ·refine Wp.iff (by rw [decide_eq_false_iff_not]; exact hf0) ?_
      rw [e106]
      refine Wp.lettw (by omega) (by omega) ?_
      rw [show (i : Int) + 1 = ((i + 1 : Nat) : Int) by omega]
      exact once_loop hn hs ho hl h0m hk todo (i + 1) fu _ _ s5 x5 xb5 B5 m5 l hd2 (by omega) Y8 hB5 km8 hmx5 V5 T8
    cases hw : lookI m5.t l with
    | none => exact Wp.iff rfl fin
    | some w =>
     refine Wp.ift rfl (Wp.ld0 M8 rfl (Wp.obind (avInt_int _ _) (Wp.lett ?_)))
     rw [show (((some w).getD 0 : Int) != m5.f) = false from bne_f (V5.look hw)]
     exact fin
   rcases hcase with ⟨he, Y4⟩ | ⟨he, m', hm1, hm2, hm3, Y4⟩ | ⟨he, y, hy1, hy2, hm3, Y4⟩
   ·refine Wp.iff (beq_f (by omega)) ?_
    exact K69 lo4 h4 xb s4 x4 (B + 40) m Y4 (by omega) km4 hmx (.inl ⟨rfl, rfl⟩) T4
   ·refine Wp.iff (beq_f (by omega)) ?_
    refine K69 lo4 h4 xb s4 x4 (B + 40) m' Y4 (by omega) km4 hmx ?_ T4
    rcases hm3 with h | h
    ·exact .inl ⟨by rw [h], by rw [h]⟩
    ·exact .inr (by rw [hm1, hm2]; exact h)
   ·have hz4 := hzs.tch T4 (Nat.le_refl _) (fun b hb => nomatch hb)
    obtain ⟨h5, S5, s5, m', e5, hm', C5, t5, hS5⟩ := Y4.crash (n := n) (D := D) (d := d + 5) (by omega) (by omega) (torn := c.n) icn.2 hzl (slc_rdi hz4 T4.1 Y4.hl)
    obtain ⟨lo6, h6, xb6, S6, s6, x6, e6, Y6, _, L6, hx6, t6, hS6⟩ := C5.open (n := n) (D := D) (d := d) hn (by omega)
    have km5 := km4.tch t5 (fun h => km4.nlo (hS5 _ h)) (fun _ h => h)
    have km6 := km5.tch t6 (fun h => km4.nlo (hS6 _ h)) L6
    have l5 := km5.lt
    have T6 := (T4.trans' t5 fun b hb => .inr (Y4.hl b (hS5 b hb))).trans' t6 fun b hb => .inr (Y4.hl b (hS6 b hb))
    refine Wp.ift (beq_t he) (Wp.obind (RowH.cell' k4 g5) (Wp.obind (RowH.cell' k4 g1) (Wp.obind (avInt_int _ _) (Wp.callN e5 (Wp.obind (avInt_int _ _) (Wp.callN e6 (Wp.obind (extT_0 _ _) (Wp.obind (extT_1 _ _ _) (Wp.obind (avInt_int _ _) (Wp.lett (Wp.lettG fun j64 e64 => Wp.iff rfl (Wp.outK (eqBox xb6 h6) (Wp.obind (avBool_bool _) ?_)))))))))))))
    rw [e64]
    refine Wp.iff rfl (K69 lo6 h6 xb6 s6 x6 (B + 40 + 6) m' Y6 (by omega) km6 (by omega) ?_ T6)
    rcases hm' with h | h
    ·exact .inl ⟨by rw [h], by rw [h]⟩
    ·exact .inr (by rw [h, hy1, hy2]; exact hm3)
  by_cases hodd : c.k.tmod 2 = 1
  ·have hp : (if 0 > c.n then (0 : Int) else c.n) < 9223372036854775808 := by
    have := icn.2
    split <;> omega
   obtain ⟨h4, S4, e4, Y4, t4, hS4⟩ := Y3.power (n := n) (D := D) (d := d + 5) hp
   refine Wp.ift (beq_t hodd) (Wp.ld0 M3 g1 (Wp.obind (avInt_int _ _) (Wp.lett (Wp.callN e4 (Wp.obind (avInt_int _ _) ?_)))))
   exact K59 h4 _ Y4 (k3.tch t4 l3 (fun h => nb3 (hS4 _ h))) (Nat.lt_of_lt_of_le l3 t4.1) (km3.tch t4 (fun h => km3.nlo (hS4 _ h)) (fun _ h => h)) (T3.trans' t4 fun b hb => .inr (Y3.hl b (hS4 b hb)))
  ·exact Wp.iff (beq_f hodd) (K59 h3 s Y3 k3 l3 km3 T3)
end
set_option maxRecDepth 100000 in
set_option maxHeartbeats 1000000 in
theorem voteOnce_says (h : AHeap) (hX : h.ex = []) (xs : List AV) (hP : ArgsP Try.prog h.next h 12 [41] xs) : ∃ h', Says Try.prog 7 xs h (.ret (.bool true)) h' := by
 obtain ⟨a, _, rfl, hp0, hP⟩ := args_cons hP
 obtain rfl := args0 hP
 obtain ⟨l, hs, ho, hll⟩ := sps_of hp0
 have hrb : reachBytes = 140737488351232 := rfl
 obtain ⟨n, hn⟩ : ∃ n, 140737488351232 < n := ⟨140737488351233, Nat.lt_succ_self _⟩
 suffices hK : Wp (law08_VoteOnce (wL n (0 + 6) (1 + 6) false) n a h) fun r _ => r = .ret (.bool true) by
  obtain ⟨_, h', e, rfl⟩ := hK
  exact ⟨h', law08_VoteOnce_ok (wL_ok n (0 + 6) (1 + 6)).says e⟩
 unfold law08_VoteOnce
 obtain ⟨h2, e2, S2, t2, hS2⟩ := works_w (n := n) (D := 0) (d := 0) hX (by omega)
 have T2 : Tch [] h h2 := t2.mono fun b hb => .inr (hS2 b hb)
 have hs2 := hs.tch T2 (Nat.le_refl _) (fun b hb => nomatch hb)
 obtain ⟨h3, hv, e3, t3, hhv⟩ := heavy_w (n := n) (D := 0 + 6) (d := 6) hs2 T2.1 (fun x hx => ⟨(ho x hx).2.2.1, (ho x hx).one⟩) hll (by omega)
 refine Wp.callN e2 (Wp.obind (avBool_bool _) (Wp.lett (Wp.iff rfl (Wp.callN e3 (Wp.obind (avBool_bool _) ?_)))))
 cases hv with
 | true => exact Wp.ift rfl (Wp.ret rfl)
 | false =>
 obtain ⟨_, hlen⟩ := hhv rfl
 have T3 := T2.trans t3
 refine Wp.iff rfl ?_
 obtain ⟨h4, e4, t4, lo5, h5, xb, S5, s5, x5, e5, Y5, _, t5, hS5, _⟩ := fresh (H := h3) (n := n) (D := 0) (d := 1) (N := h.next) (by rw [T3.2.1, hX]) (by omega) T3.1
 have T5 : Tch [] h h5 := (T3.trans t4).trans' t5 fun b hb => .inr (hS5 b hb)
 have hlenL := hs.len
 rw [List.length_map] at hlenL
 refine Wp.callN e4 (Wp.callN e5 (Wp.obind (extT_0 _ _) (Wp.obind (extT_1 _ _ _) (Wp.obind (avInt_int _ _) (Wp.lett (Wp.iff rfl (Wp.lettG fun h6 e6 => Wp.obind hlenL (Wp.lettG fun k36 e36 => ?_))))))))
 have t6 : Tch [] h5 h6 := by rw [e6]; exact Tch.new _ _ _
 have l6 : h5.next < h6.next := by rw [e6]; exact Nat.lt_succ_self _
 have g6 : h6.get h5.next = some (.map (miE [])) := by rw [e6]; exact T.get_set_same _ _ _
 have hxb := Y5.hxb
 refine once_loop (D := 0) (d := 1) (h0 := h) (m := ne0) (l := []) (by omega) hs ho hlen (h19 := h5) T5.1 (fun H => ?_) l 0 n h6 _ s5 x5 xb 6 rfl (by omega) (Y5.alloc t6) (by omega) ⟨g6, l6, nlo_part (Nat.le_refl _) l6⟩ (by omega) (fun p hp => nomatch hp) (T5.trans t6)
 rw [e36]
 exact Wp.ret rfl
end Go.Proofs.Yteecmjmglmpbpaa
