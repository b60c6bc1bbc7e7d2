/- What voteKept_proved stands on, part 8 of 8. -/
import Derived.Test.YteecmjmglmpbpaaKK7
namespace Go.Proofs.Yteecmjmglmpbpaa
open Go.RowKit Abs
structure FileIs (y : FileS) (E : List Ent) : Prop where
 loose : y.loose = []
 same : y.sure = y.seen
 u : y.seen.u = fileB E
 th : y.seen.th = false → E = []
def tornL (fr : Bool) (u : Bytes) : List (List Chg) := if fr = true then [[], [chR], [chR, chA u], [chA u]] else [[], [chA u]]
structure TornF (y : FileS) (E : List Ent) (fr : Bool) (u : Bytes) : Prop where
 l : y.loose ∈ tornL fr u
 su : y.sure.u = fileB E
 th : y.sure.th = false → E = []
 new : fr = true → y.loose = [chA u] → E = []
theorem FileIs.torn {y : FileS} {E : List Ent} (k : FileIs y E) (fr : Bool) (u : Bytes) : TornF y E fr u :=
 ⟨by rw [k.loose]; unfold tornL; split <;> exact List.mem_cons_self .., by rw [k.same]; exact k.u, by rw [k.same]; exact k.th, fun _ h => by rw [k.loose] at h; cases h⟩
theorem part_bad {p : Bytes} (hp : p.length ≤ 4096) {k : Nat} (hk : k < p.length + 12) : (takeR ((frameB p).take k)).2.2 ≠ 0 := by
 intro h
 have hl := takeR_len h
 have hf := take_frame h
 have hfl := frameB_length p
 obtain ⟨q, hq⟩ : ∃ q, (takeR ((frameB p).take k)).1 = q := ⟨_, rfl⟩
 rw [hq] at hf hl
 rw [List.length_take] at hl
 rw [List.take_take, Nat.min_eq_left (by omega)] at hf
 have e1 : frameB p = frameB q ++ (frameB p).drop (takeR ((frameB p).take k)).2.1 := by
  rw [← hf, List.take_append_drop]
 have e2 := frame_take (p := q) (rest := (frameB p).drop (takeR ((frameB p).take k)).2.1) (by omega)
 rw [← e1] at e2
 have e3 := frame_take (p := p) (rest := []) hp
 rw [List.append_nil, e2] at e3
 have : q.length + 12 = p.length + 12 := congrArg (fun z => z.2.1) e3
 omega
theorem fileB_one (e : Ent) : fileB [e] = frameB (entB e) := List.append_nil _
def Left (c : Cont) (E : List Ent) (fr : Bool) (e : Ent) : Prop :=
 ∃ E' tl, c.u = fileB E' ++ tl ∧ (takeR tl).2.2 ≠ 0 ∧ (c.th = false → E' = [] ∧ tl = []) ∧ (E' = E ∨ (fr = true ∧ E' = []) ∨ (fr = true ∧ E' = [e]) ∨ (fr = false ∧ E' = E ++ [e]))
theorem crash_torn {y : FileS} {E : List Ent} {fr : Bool} {e : Ent} (k : TornF y E fr (frameB (entB e))) (kept torn : Int) : Left (crashC y kept torn) E fr e := by
 have h29 : (frameB (entB e)).length = 29 := by rw [frameB_length, entB_len]
 have keep : Left y.sure E fr e := ⟨E, [], by rw [List.append_nil]; exact k.su, takeR_nil, fun h => ⟨k.th h, rfl⟩, .inl rfl⟩
 have gone : fr = true → Left ⟨false, []⟩ E fr e := fun hfr => ⟨[], [], rfl, takeR_nil, fun _ => ⟨rfl, rfl⟩, .inr (.inl ⟨hfr, rfl⟩)⟩
 have part : ∀ (c : Cont) (F : List Ent), c.u = fileB F → (F = E ∨ (fr = true ∧ F = [])) → Left (do1 c (tornC (chA (frameB (entB e))) torn)) E fr e := fun c F hc hF => by
  refine ⟨F, (frameB (entB e)).take (min torn (((frameB (entB e)).length : Int) - 1)).toNat, ?_, part_bad (by rw [entB_len]; omega) (by rw [entB_len]; omega), (fun h => by cases h), ?_⟩
  ·rw [← hc]
   rfl
  ·rcases hF with h | h
   ·exact .inl h
   ·exact .inr (.inl h)
 have c1 : ∀ l : List Chg, y.loose = l → ∀ i, min kept.toNat l.length = i → crashC y kept torn = (match l[i]? with
   | some c => if tears c torn then do1 (doL y.sure (l.take i)) (tornC c torn) else doL y.sure (l.take i)
   | none => doL y.sure (l.take i)) := fun l hl i hi => by
  unfold crashC keptN
  rw [hl, hi]
  rfl
 have none_ : y.loose = [] → Left (crashC y kept torn) E fr e := fun hl => by
  rw [c1 [] hl 0 (Nat.min_zero _)]
  exact keep
 have grow : y.loose = [chA (frameB (entB e))] → (fr = true → E = []) → Left (crashC y kept torn) E fr e := fun hl hE => by
  rcases (show min kept.toNat 1 = 0 ∨ min kept.toNat 1 = 1 by omega) with hm | hm
  ·rw [c1 _ hl 0 hm]
   show Left (if tears (chA (frameB (entB e))) torn then do1 y.sure (tornC (chA (frameB (entB e))) torn) else y.sure) E fr e
   split
   ·exact part _ E k.su (.inl rfl)
   ·exact keep
  ·rw [c1 _ hl 1 hm]
   show Left ⟨true, y.sure.u ++ frameB (entB e)⟩ E fr e
   refine ⟨E ++ [e], [], ?_, takeR_nil, (fun h => by cases h), ?_⟩
   ·show y.sure.u ++ frameB (entB e) = _
    rw [k.su, List.append_nil, fileB_app, fileB_one]
   ·cases fr with
    | true => rw [hE rfl]; exact .inr (.inr (.inl ⟨rfl, rfl⟩))
    | false => exact .inr (.inr (.inr ⟨rfl, rfl⟩))
 have kl := k.l
 unfold tornL at kl
 split at kl
 ·rename_i hfr
  rcases List.mem_cons.1 kl with hl | kl
  ·exact none_ hl
  rcases List.mem_cons.1 kl with hl | kl
  ·rcases (show min kept.toNat 1 = 0 ∨ min kept.toNat 1 = 1 by omega) with hm | hm
   ·rw [c1 _ hl 0 hm]
    show Left (if tears chR torn then _ else y.sure) E fr e
    rw [if_neg (fun h => by cases h.2.1)]
    exact keep
   ·rw [c1 _ hl 1 hm]
    exact gone hfr
  rcases List.mem_cons.1 kl with hl | kl
  ·rcases (show min kept.toNat 2 = 0 ∨ min kept.toNat 2 = 1 ∨ min kept.toNat 2 = 2 by omega) with hm | hm | hm
   ·rw [c1 _ hl 0 hm]
    show Left (if tears chR torn then _ else y.sure) E fr e
    rw [if_neg (fun h => by cases h.2.1)]
    exact keep
   ·rw [c1 _ hl 1 hm]
    show Left (if tears (chA (frameB (entB e))) torn then do1 ⟨false, []⟩ (tornC (chA (frameB (entB e))) torn) else ⟨false, []⟩) E fr e
    split
    ·exact part _ [] rfl (.inr ⟨hfr, rfl⟩)
    ·exact gone hfr
   ·rw [c1 _ hl 2 hm]
    show Left ⟨true, [] ++ frameB (entB e)⟩ E fr e
    refine ⟨[e], [], ?_, takeR_nil, (fun h => by cases h), .inr (.inr (.inl ⟨hfr, rfl⟩))⟩
    show [] ++ frameB (entB e) = _
    rw [List.append_nil, fileB_one]
    rfl
  ·have hl := List.mem_singleton.1 kl
   exact grow hl fun h => k.new h hl
 ·rename_i hfr
  rcases List.mem_cons.1 kl with hl | kl
  ·exact none_ hl
  ·exact grow (List.mem_singleton.1 kl) fun h => absurd h hfr
theorem upd_same {α : Type} (f : Nat → α) (i : Nat) (x : α) : upd f i x i = x := if_pos rfl
theorem upd_other {α : Type} (f : Nat → α) {i j : Nat} (x : α) (h : j ≠ i) : upd f i x j = f j := if_neg h
theorem stp_out {s : DS} {g : Nat} {E : List Ent} {fr : Bool} {e : Ent} (hg : g < 2) (k : FileIs (s.fs g) E) (hsz : (fileB E).length < 900000) :
  (∀ f, f ≠ g → (stpW s (g : Int) fr (frameB (entB e))).2.fs f = s.fs f) ∧
  ((stpW s (g : Int) fr (frameB (entB e))).1 = 0 → FileIs ((stpW s (g : Int) fr (frameB (entB e))).2.fs g) ((if fr = true then [] else E) ++ [e])) ∧
  ((stpW s (g : Int) fr (frameB (entB e))).1 ≠ 0 → (stpW s (g : Int) fr (frameB (entB e))).1 = 40 ∧ TornF ((stpW s (g : Int) fr (frameB (entB e))).2.fs g) E fr (frameB (entB e))) := by
 obtain ⟨u, hu⟩ : ∃ u, frameB (entB e) = u := ⟨_, rfl⟩
 have hul : u.length = 29 := by rw [← hu, frameB_length, entB_len]
 have hone : fileB [e] = u := by rw [fileB_one, hu]
 rw [hu]
 have ref0 : ∀ p : Int, p ≠ 0 → refP p (g : Int) = 0 := fun p hp => by
  unfold refP
  rw [if_neg hp, if_pos (by omega)]
 have ref40 : refP 0 (g : Int) = 40 := if_pos rfl
 -- behind the first step: the file as it is now
 have second : ∀ (s1 : DS) (y : FileS) (F : List Ent), stp1 s (g : Int) fr = (0, s1) → s1.fs g = y → (∀ f, f ≠ g → s1.fs f = s.fs f) → y.seen.u = fileB F → (fileB F).length < 900000 → TornF y E fr u → TornF (moreF y (chA u)) E fr u → F ++ [e] = (if fr = true then [] else E) ++ [e] →
   (∀ f, f ≠ g → (stpW s (g : Int) fr u).2.fs f = s.fs f) ∧ ((stpW s (g : Int) fr u).1 = 0 → FileIs ((stpW s (g : Int) fr u).2.fs g) ((if fr = true then [] else E) ++ [e])) ∧ ((stpW s (g : Int) fr u).1 ≠ 0 → (stpW s (g : Int) fr u).1 = 40 ∧ TornF ((stpW s (g : Int) fr u).2.fs g) E fr u) := by
  intro s1 y F h1 hy ho hF hFl hT hT2 hE
  have hw : stpW s (g : Int) fr u = if errP s1 (g : Int) (chA u) ≠ 0 then (errP s1 (g : Int) (chA u), actD s1 (g : Int) (chA u)) else (refP (actD s1 (g : Int) (chA u)).p (g : Int), synD (actD s1 (g : Int) (chA u)) (g : Int)) := by
   unfold stpW
   rw [h1]
   exact if_neg (by simp)
  rw [hw]
  by_cases hp : s1.p = 0
  ·have h40 : errP s1 (g : Int) (chA u) = 40 := by
    rw [err_ref (by rw [hp, ref40]; decide), hp, ref40]
   rw [if_pos (by rw [h40]; decide), act_no (by rw [h40]; decide), h40]
   exact ⟨ho, (fun h => by cases h), fun _ => ⟨rfl, by rw [hy]; exact hT⟩⟩
  ·have hown : ownE (s1.fs g) (chA u) = 0 := by
    have h0 : ownE (s1.fs g) (chA u) = if (1048576 : Int) - ((s1.fs g).seen.u.length : Int) < (u.length : Int) then 8 else 0 := if_pos rfl
    rw [h0, hy, hF, if_neg (by omega)]
   have he : errP s1 (g : Int) (chA u) = 0 := (err_ok (ref0 _ hp)).trans hown
   have ha := act_ok (c := chA u) (ref0 _ hp) hown
   rw [if_neg (by rw [he]; simp), ha]
   have oth : ∀ f, f ≠ g → (upd s1.fs g (moreF (s1.fs g) (chA u))) f = s.fs f := fun f hf => by rw [upd_other _ _ hf]; exact ho f hf
   by_cases hp2 : stepP s1.p = 0
   ·have hs : synD ⟨upd s1.fs g (moreF (s1.fs g) (chA u)), stepP s1.p, s1.ops + 1⟩ (g : Int) = ⟨upd s1.fs g (moreF (s1.fs g) (chA u)), stepP s1.p, s1.ops + 1⟩ := by
     unfold synD
     rw [if_neg (by show ¬ refP (stepP s1.p) (g : Int) = 0; rw [hp2, ref40]; decide)]
    rw [hs]
    refine ⟨oth, fun h => ?_, fun _ => ⟨?_, ?_⟩⟩
    ·have h : refP (stepP s1.p) (g : Int) = 0 := h
     rw [hp2, ref40] at h
     cases h
    ·show refP (stepP s1.p) (g : Int) = 40
     rw [hp2, ref40]
    ·show TornF (upd s1.fs g (moreF (s1.fs g) (chA u)) g) E fr u
     rw [upd_same, hy]
     exact hT2
   ·have hs : synD ⟨upd s1.fs g (moreF (s1.fs g) (chA u)), stepP s1.p, s1.ops + 1⟩ (g : Int) = ⟨upd (upd s1.fs g (moreF (s1.fs g) (chA u))) g (synF (upd s1.fs g (moreF (s1.fs g) (chA u)) g)), stepP (stepP s1.p), s1.ops + 1 + 1⟩ := by
     unfold synD
     rw [if_pos (show refP (stepP s1.p) (g : Int) = 0 from ref0 _ hp2)]
     rfl
    rw [hs]
    refine ⟨fun f hf => ?_, fun _ => ?_, fun h => absurd (show refP (stepP s1.p) (g : Int) = 0 from ref0 _ hp2) h⟩
    ·show upd (upd s1.fs g (moreF (s1.fs g) (chA u))) g (synF (upd s1.fs g (moreF (s1.fs g) (chA u)) g)) f = s.fs f
     rw [upd_other _ _ hf]
     exact oth f hf
    ·show FileIs (upd (upd s1.fs g (moreF (s1.fs g) (chA u))) g (synF (upd s1.fs g (moreF (s1.fs g) (chA u)) g)) g) _
     rw [upd_same, upd_same, hy, ← hE]
     refine ⟨rfl, rfl, ?_, fun h => nomatch h⟩
     show y.seen.u ++ u = _
     rw [hF, fileB_app, hone]
 by_cases hc : (fr && there s (g : Int)) = true
 ·rw [Bool.and_eq_true] at hc
  obtain ⟨hfr, hth⟩ := hc
  have hth : (s.fs g).seen.th = true := hth
  subst hfr
  have hs1 : stp1 s (g : Int) true = (errP s (g : Int) chR, actD s (g : Int) chR) := if_pos (show (true && (s.fs g).seen.th) = true by rw [hth]; rfl)
  by_cases hp : s.p = 0
  ·have h40 : errP s (g : Int) chR = 40 := by
    rw [err_ref (by rw [hp, ref40]; decide), hp, ref40]
   have hw : stpW s (g : Int) true u = (40, s) := by
    unfold stpW
    rw [hs1, act_no (by rw [h40]; decide), h40]
    exact if_pos (show (40 : Int) ≠ 0 by decide)
   rw [hw]
   exact ⟨fun _ _ => rfl, (fun h => by cases h), fun _ => ⟨rfl, k.torn _ _⟩⟩
  ·have hown : ownE (s.fs g) chR = 0 := by
    unfold ownE
    rw [if_neg (by decide), if_neg (by rw [hth]; decide), if_neg (fun h => absurd h.1 (by decide))]
   have he : errP s (g : Int) chR = 0 := (err_ok (ref0 _ hp)).trans hown
   have ha := act_ok (c := chR) (ref0 _ hp) hown
   rw [ha, he] at hs1
   refine second _ (moreF (s.fs g) chR) [] hs1 (upd_same ..) (fun f hf => upd_other _ _ hf) rfl (by decide) ⟨?_, ?_, ?_, ?_⟩ ⟨?_, ?_, ?_, ?_⟩ rfl
   ·show (s.fs g).loose ++ [chR] ∈ _
    rw [k.loose]
    exact List.mem_cons_of_mem _ (List.mem_cons_self ..)
   ·show (s.fs g).sure.u = _
    rw [k.same]
    exact k.u
   ·show (s.fs g).sure.th = false → _
    rw [k.same]
    exact k.th
   ·show _ → (s.fs g).loose ++ [chR] = _ → _
    rw [k.loose]
    intro _ h
    injection h with h _
    cases h
   ·show (s.fs g).loose ++ [chR] ++ [chA u] ∈ _
    rw [k.loose]
    exact List.mem_cons_of_mem _ (List.mem_cons_of_mem _ (List.mem_cons_self ..))
   ·show (s.fs g).sure.u = _
    rw [k.same]
    exact k.u
   ·show (s.fs g).sure.th = false → _
    rw [k.same]
    exact k.th
   ·show _ → (s.fs g).loose ++ [chR] ++ [chA u] = _ → _
    rw [k.loose]
    intro _ h
    injection h with _ h
    cases h
 ·have hs1 : stp1 s (g : Int) fr = (0, s) := if_neg hc
  have hnew : fr = true → E = [] := fun hfr => by
   refine k.th ?_
   rw [hfr, Bool.true_and] at hc
   exact Bool.eq_false_iff.2 hc
  refine second s (s.fs g) E hs1 rfl (fun _ _ => rfl) k.u hsz (k.torn _ _) ⟨?_, ?_, ?_, fun h _ => hnew h⟩ ?_
  ·show (s.fs g).loose ++ [chA u] ∈ _
   rw [k.loose]
   unfold tornL
   split
   ·exact List.mem_cons_of_mem _ (List.mem_cons_of_mem _ (List.mem_cons_of_mem _ (List.mem_cons_self ..)))
   ·exact List.mem_cons_of_mem _ (List.mem_cons_self ..)
  ·show (s.fs g).sure.u = _
   rw [k.same]
   exact k.u
  ·show (s.fs g).sure.th = false → _
   rw [k.same]
   exact k.th
  ·split
   ·rename_i hfr
    rw [hnew hfr]
   ·rfl
theorem pick_none {f : Int} : ∀ (l : List Ent) (a : Ent × Int), (∀ e ∈ l, e.c ≤ a.1.c) → pickF f l a = a
 | [], _, _ => rfl
 | e :: l, a, h => by
  show pickF f l (if e.c > a.1.c then (e, f) else a) = a
  rw [if_neg (by have := h e (List.mem_cons_self ..); omega)]
  exact pick_none l a fun x hx => h x (List.mem_cons_of_mem _ hx)
theorem pick_lt {f K : Int} : ∀ (l : List Ent) (a : Ent × Int), (∀ e ∈ l, e.c < K) → a.1.c < K → (pickF f l a).1.c < K
 | [], _, _, h => h
 | e :: l, a, h, ha => by
  show (pickF f l (if e.c > a.1.c then (e, f) else a)).1.c < K
  refine pick_lt l _ (fun x hx => h x (List.mem_cons_of_mem _ hx)) ?_
  split
  ·exact h e (List.mem_cons_self ..)
  ·exact ha
theorem pick_max {f : Int} {m : Ent} : ∀ (l : List Ent) (a : Ent × Int), m ∈ l → a.1.c < m.c → (∀ e ∈ l, e.c ≤ m.c ∧ (e.c = m.c → e = m)) → pickF f l a = (m, f)
 | [], _, h, _, _ => nomatch h
 | e :: l, a, hm, ha, h => by
  show pickF f l (if e.c > a.1.c then (e, f) else a) = (m, f)
  obtain ⟨h1, h2⟩ := h e (List.mem_cons_self ..)
  have hr := fun x hx => h x (List.mem_cons_of_mem _ hx)
  by_cases he : e.c = m.c
  ·have := h2 he
   subst this
   rw [if_pos ha]
   exact pick_none l _ fun x hx => (hr x hx).1
  ·have hml : m ∈ l := by
    rcases List.mem_cons.1 hm with h | h
    ·subst h
     exact absurd rfl he
    ·exact h
   split
   ·exact pick_max l _ hml (show e.c < m.c by omega) hr
   ·exact pick_max l _ hml ha hr
structure Ord (E : Nat → List Ent) (m : Ent) (g : Nat) : Prop where
 g01 : g = 0 ∨ g = 1
 ok : (m = ne0 ∧ E 0 = [] ∧ E 1 = [] ∧ g = 0) ∨ (EntOk m ∧ m ∈ E g ∧ (∀ e ∈ E g, EntOk e ∧ e.c ≤ m.c ∧ (e.c = m.c → e = m)) ∧ ∀ e ∈ E (1 - g), EntOk e ∧ e.c < m.c)
theorem Ord.c0 {E : Nat → List Ent} {m : Ent} {g : Nat} (o : Ord E m g) : 0 ≤ m.c := by
 rcases o.ok with ⟨rfl, _⟩ | ⟨h, _⟩
 ·decide
 ·have := h.1
  omega
theorem Ord.pick {E : Nat → List Ent} {m : Ent} {g : Nat} (o : Ord E m g) : pickF 1 (E 1) (pickF 0 (E 0) (ne0, 0)) = (m, (g : Int)) := by
 rcases o.ok with ⟨rfl, h0, h1, rfl⟩ | ⟨hm, hin, hg, ho⟩
 ·rw [h0, h1]
  rfl
 ·have := hm.1
  rcases o.g01 with rfl | rfl
  ·rw [pick_max (E 0) (ne0, 0) hin (show (0 : Int) < m.c by omega) fun e he => (hg e he).2]
   exact pick_none _ _ fun e he => by have := (ho e he).2; show e.c ≤ m.c; omega
  ·exact pick_max (E 1) _ hin (pick_lt (E 0) _ (fun e he => (ho e he).2) (show (0 : Int) < m.c by omega)) fun e he => (hg e he).2
theorem Ord.ents {E : Nat → List Ent} {m : Ent} {g : Nat} (o : Ord E m g) {f : Nat} (hf : f = 0 ∨ f = 1) : ∀ e ∈ E f, EntOk e ∧ e.c ≤ m.c := by
 intro e he
 rcases o.ok with ⟨rfl, h0, h1, rfl⟩ | ⟨hm, hin, hg, ho⟩
 ·rcases hf with rfl | rfl
  ·rw [h0] at he
   cases he
  ·rw [h1] at he
   cases he
 ·by_cases hfg : f = g
  ·subst hfg
   exact ⟨(hg e he).1, (hg e he).2.1⟩
  ·have : f = 1 - g := by
    rcases hf with rfl | rfl <;> rcases o.g01 with h | h <;> omega
   subst this
   have := ho e he
   exact ⟨this.1, by omega⟩
structure VInv (s : DS) (x : BoxS) (E : Nat → List Ent) (g : Nat) : Prop where
 o : Ord E x.ne g
 fi : ∀ f, f = 0 ∨ f = 1 → FileIs (s.fs f) (E f)
 file : x.file = (g : Int)
 m0 : x.m0 = ((E 0).length : Int)
 m1 : x.m1 = ((E 1).length : Int)
 br : x.br = 0
def Place (m : Ent) (g g' : Nat) (fr : Bool) : Prop := (fr = false ∧ g' = g ∧ m.c ≠ 0) ∨ (fr = true ∧ ((m.c = 0 ∧ g' = 0) ∨ (m.c ≠ 0 ∧ g' = 1 - g)))
def Broken (s : DS) (E : Nat → List Ent) (m : Ent) (g : Nat) (y : Ent) : Prop := ∃ g' fr, (g' = 0 ∨ g' = 1) ∧ Place m g g' fr ∧ (∀ f, f = 0 ∨ f = 1 → f ≠ g' → FileIs (s.fs f) (E f)) ∧ TornF (s.fs g') (E g') fr (frameB (entB y))
theorem ord_new {E : Nat → List Ent} {m y : Ent} {g g' : Nat} {fr : Bool} (o : Ord E m g) (hy : EntOk y) (hc : y.c = m.c + 1) (hg' : g' = 0 ∨ g' = 1) (hp : Place m g g' fr) : Ord (upd E g' ((if fr = true then [] else E g') ++ [y])) y g' := by
 have hen : ∀ f, (f = 0 ∨ f = 1) → ∀ e ∈ E f, EntOk e ∧ e.c < y.c := fun f hf e he => by
  have := o.ents hf e he
  exact ⟨this.1, by omega⟩
 refine ⟨hg', .inr ⟨hy, ?_, fun e he => ?_, fun e he => ?_⟩⟩
 ·rw [upd_same]
  exact List.mem_append_right _ (List.mem_singleton.2 rfl)
 ·rw [upd_same] at he
  rcases List.mem_append.1 he with he | he
  ·split at he
   ·cases he
   ·have := hen g' hg' e he
    exact ⟨this.1, by omega, fun h => by omega⟩
  ·rw [List.mem_singleton.1 he]
   exact ⟨hy, Int.le_refl _, fun _ => rfl⟩
 ·rw [upd_other _ _ (by rcases hg' with rfl | rfl <;> decide)] at he
  exact hen (1 - g') (by rcases hg' with rfl | rfl <;> decide) e he
theorem ord_old {E : Nat → List Ent} {m : Ent} {g g' : Nat} {fr : Bool} {L : List Ent} (o : Ord E m g) (hp : Place m g g' fr) (hL : L = E g' ∨ (fr = true ∧ L = [])) : Ord (upd E g' L) m g := by
 have same : L = E g' → Ord (upd E g' L) m g := fun h => by
  have : upd E g' L = E := by
   funext f
   unfold upd
   split
   ·rename_i hf
    rw [hf, h]
   ·rfl
  rw [this]
  exact o
 rcases hL with h | ⟨hfr, rfl⟩
 ·exact same h
 rcases hp with ⟨h, _⟩ | ⟨_, ⟨h0, rfl⟩ | ⟨h0, rfl⟩⟩
 ·rw [h] at hfr
  cases hfr
 ·rcases o.ok with ⟨_, h1, _⟩ | ⟨hm, _⟩
  ·exact same h1.symm
  ·have := hm.1
   omega
 ·refine ⟨o.g01, ?_⟩
  rcases o.ok with ⟨rfl, _⟩ | ⟨hm, hin, hg, ho⟩
  ·exact absurd rfl h0
  ·have hne : g ≠ 1 - g := by rcases o.g01 with rfl | rfl <;> decide
   refine .inr ⟨hm, by rw [upd_other _ _ hne]; exact hin, fun e he => hg e (by rw [upd_other _ _ hne] at he; exact he), fun e he => ?_⟩
   rw [upd_same] at he
   cases he
theorem place_ok {x : BoxS} {g : Nat} (hg : g = 0 ∨ g = 1) (hf : x.file = (g : Int)) : ∃ g' : Nat, placeF x = (g' : Int) ∧ (g' = 0 ∨ g' = 1) ∧ Place x.ne g g' (placeN x) := by
 unfold placeF placeN Place
 by_cases h1 : x.ne.c = 0
 ·rw [if_pos h1, if_pos h1]
  exact ⟨0, rfl, .inl rfl, .inr ⟨rfl, .inl ⟨h1, rfl⟩⟩⟩
 rw [if_neg h1, if_neg h1]
 by_cases h2 : (if x.file = 0 then x.m0 else x.m1) < 8
 ·rw [if_pos h2, if_pos h2]
  exact ⟨g, hf, hg, .inl ⟨rfl, rfl, h1⟩⟩
 rw [if_neg h2, if_neg h2, hf]
 rcases hg with rfl | rfl
 ·exact ⟨1, rfl, .inr rfl, .inr ⟨rfl, .inr ⟨h1, rfl⟩⟩⟩
 ·exact ⟨0, rfl, .inl rfl, .inr ⟨rfl, .inr ⟨h1, rfl⟩⟩⟩
section
variable {s : DS} {x : BoxS} {E : Nat → List Ent} {g : Nat} {t f : Int}
theorem wr_out (I : VInv s x E g) (hsz : ∀ f, f = 0 ∨ f = 1 → (fileB (E f)).length < 900000) :
  (((wr s x t f).1 = 2 ∨ (wr s x t f).1 = 5) ∧ (wr s x t f).2 = (x, s)) ∨ (wr s x t f = (0, x, s) ∧ t = x.ne.t ∧ f = x.ne.f) ∨
  (mayB t f x.ne.t x.ne.f = true ∧ balOk t f ∧ (((wr s x t f).1 = 0 ∧ ∃ E' g', VInv (wr s x t f).2.2 (wr s x t f).2.1 E' g' ∧ (wr s x t f).2.1.ne = nextE x t f) ∨ ((wr s x t f).1 = 40 ∧ EntOk (nextE x t f) ∧ Broken (wr s x t f).2.2 E x.ne g (nextE x t f)))) := by
 have hc0 := I.o.c0
 by_cases c1 : refV x t f = 0
 case neg =>
  have hw : wr s x t f = (refV x t f, x, s) := if_pos c1
  rw [hw]
  refine .inl ⟨?_, rfl⟩
  show refV x t f = 2 ∨ refV x t f = 5
  unfold refV at c1 ⊢
  rw [if_neg (by rw [I.br]; simp)] at c1 ⊢
  split at c1
  ·rename_i h1
   rw [if_pos h1]
   split at c1
   ·exact absurd rfl c1
   ·rename_i h2
    rw [if_neg h2]
    exact .inr rfl
  ·rename_i h1
   rw [if_neg h1]
   exact .inl rfl
 obtain ⟨_, hbo, hmay⟩ := refV_ok c1
 by_cases c2 : t = x.ne.t ∧ f = x.ne.f
 ·exact .inr (.inl ⟨(if_neg (by simpa using c1)).trans (if_pos c2), c2.1, c2.2⟩)
 by_cases c3 : x.ne.c ≥ 4611686018427387904
 ·have hw : wr s x t f = (5, x, s) := (if_neg (by simpa using c1)).trans ((if_neg c2).trans (if_pos c3))
  rw [hw]
  exact .inl ⟨.inr rfl, rfl⟩
 have hyo : EntOk (nextE x t f) := ⟨by show (1 : Int) ≤ x.ne.c + 1; omega, by show x.ne.c + 1 ≤ 4611686018427387904; omega, hbo⟩
 obtain ⟨g', hpf, hg', hpl⟩ := place_ok I.o.g01 I.file
 have hw : wr s x t f = if (stpW s (placeF x) (placeN x) (frameB (entB (nextE x t f)))).1 ≠ 0 then ((stpW s (placeF x) (placeN x) (frameB (entB (nextE x t f)))).1, { x with br := (stpW s (placeF x) (placeN x) (frameB (entB (nextE x t f)))).1 }, (stpW s (placeF x) (placeN x) (frameB (entB (nextE x t f)))).2) else (0, newX x t f, (stpW s (placeF x) (placeN x) (frameB (entB (nextE x t f)))).2) := by
  unfold wr
  rw [if_neg (by simpa using c1), if_neg c2, if_neg c3]
 rw [hpf] at hw
 obtain ⟨o1, o2, o3⟩ := stp_out (s := s) (g := g') (E := E g') (fr := placeN x) (e := nextE x t f) (by omega) (I.fi g' hg') (hsz g' hg')
 refine .inr (.inr ⟨hmay, hbo, ?_⟩)
 by_cases c4 : (stpW s (g' : Int) (placeN x) (frameB (entB (nextE x t f)))).1 = 0
 ·rw [if_neg (by simpa using c4)] at hw
  rw [hw]
  refine .inl ⟨rfl, upd E g' ((if placeN x = true then [] else E g') ++ [nextE x t f]), g', ⟨?_, fun k hk => ?_, ?_, ?_, ?_, rfl⟩, rfl⟩
  ·exact ord_new I.o hyo rfl hg' hpl
  ·by_cases hkg : k = g'
   ·rw [hkg, upd_same]
    exact o2 c4
   ·rw [upd_other _ _ hkg]
    show FileIs ((stpW s (g' : Int) (placeN x) (frameB (entB (nextE x t f)))).2.fs k) _
    rw [o1 k hkg]
    exact I.fi k hk
  ·exact hpf
  ·show (setM x (placeF x).toNat ((if placeN x = true then 0 else if placeF x = 0 then x.m0 else x.m1) + 1)).m0 = _
   rw [hpf, Int.toNat_natCast]
   have h0 := I.m0
   rcases hg' with rfl | rfl
   ·rw [upd_same]
    cases placeN x
    ·show x.m0 + 1 = _
     rw [h0]
     simp
    ·show (0 : Int) + 1 = _
     simp
   ·rw [upd_other _ _ (by decide)]
    exact h0
  ·show (setM x (placeF x).toNat ((if placeN x = true then 0 else if placeF x = 0 then x.m0 else x.m1) + 1)).m1 = _
   rw [hpf, Int.toNat_natCast]
   have h1 := I.m1
   rcases hg' with rfl | rfl
   ·rw [upd_other _ _ (by decide)]
    exact h1
   ·rw [upd_same]
    cases placeN x
    ·show x.m1 + 1 = _
     rw [h1]
     simp
    ·show (0 : Int) + 1 = _
     simp
 ·rw [if_pos c4] at hw
  rw [hw]
  obtain ⟨h40, hT⟩ := o3 c4
  exact .inr ⟨h40, hyo, g', placeN x, hg', hpl, fun k hk hkg => by
   show FileIs ((stpW s (g' : Int) (placeN x) (frameB (entB (nextE x t f)))).2.fs k) _
   rw [o1 k hkg]
   exact I.fi k hk, hT⟩
theorem crash_norm {y : FileS} (hl : y.loose = []) (kept torn : Int) : crashC y kept torn = y.sure := by
 unfold crashC keptN
 rw [hl]
 have e0 : min kept.toNat ([] : List Chg).length = 0 := Nat.min_zero _
 rw [e0]
 rfl
structure Behind (y : FileS) (E : List Ent) (tl : Bytes) : Prop where
 loose : y.loose = []
 same : y.sure = y.seen
 u : y.seen.u = fileB E ++ tl
 tlb : (takeR tl).2.2 ≠ 0
 th : y.seen.th = false → E = [] ∧ tl = []
theorem mend_file {s : DS} {z : Nat} {E : List Ent} {tl : Bytes} (hz : z < 2) (hp : s.p = -1) (hE : ∀ e ∈ E, EntOk e) (k : Behind (s.fs z) E tl) :
  readS s (z : Int) = fileB E ++ tl ∧ lookE (readS s (z : Int)) = E ∧ mendE s (z : Int) (g0 s z) (z0 s z) = 0 ∧ FileIs ((mendD s (z : Int) (g0 s z) (z0 s z)).fs z) E ∧ (∀ f, f ≠ z → (mendD s (z : Int) (g0 s z) (z0 s z)).fs f = s.fs f) ∧ (mendD s (z : Int) (g0 s z) (z0 s z)).p = -1 := by
 have r0 : ∀ p : Int, p = -1 → refP p (z : Int) = 0 := fun p h => by
  unfold refP
  rw [if_neg (by omega), if_pos (by omega)]
 have hr : readS s (z : Int) = fileB E ++ tl := by
  unfold readS
  rw [if_pos (r0 _ hp), Int.toNat_natCast]
  split
  ·exact k.u
  ·rename_i hth
   obtain ⟨rfl, rfl⟩ := k.th (Bool.eq_false_iff.2 hth)
   rfl
 have hl : lookE (readS s (z : Int)) = E := by
  rw [hr]
  exact look_file hE k.tlb
 have hlen := fileB_len E
 have hg : g0 s z = ((29 * E.length : Nat) : Int) := by
  unfold g0
  rw [hl]
 have hzz : z0 s z = ((29 * E.length + tl.length : Nat) : Int) := by
  unfold z0
  rw [hr, List.length_append, hlen]
 refine ⟨hr, hl, ?_⟩
 unfold mendE mendD
 by_cases ht : tl = []
 ·have he : g0 s z = z0 s z := by rw [hg, hzz, ht]; rfl
  rw [if_pos he, if_pos he]
  refine ⟨rfl, ⟨k.loose, k.same, by rw [k.u, ht, List.append_nil], fun h => (k.th h).1⟩, fun _ _ => rfl, hp⟩
 ·have htl : tl.length ≠ 0 := fun h => ht (List.length_eq_zero_iff.1 h)
  have he : g0 s z ≠ z0 s z := by rw [hg, hzz]; omega
  rw [if_neg he, if_neg he]
  have hth : (s.fs z).seen.th = true := by
   cases h : (s.fs z).seen.th with
   | true => rfl
   | false => exact absurd (k.th h).2 ht
  have hown : ownE (s.fs z) ⟨1, [], g0 s z⟩ = 0 := by
   unfold ownE
   rw [if_neg (by show ¬ (1 : Nat) = 0; decide), if_neg (by rw [hth]; decide), if_neg]
   rintro ⟨_, h⟩
   rw [k.u, List.length_append, hlen, hg] at h
   have h : ((29 * E.length : Nat) : Int) < 0 ∨ ((29 * E.length + tl.length : Nat) : Int) < ((29 * E.length : Nat) : Int) := h
   rcases h with h | h <;> omega
  have hE0 : errP s (z : Int) ⟨1, [], g0 s z⟩ = 0 := (err_ok (r0 _ hp)).trans hown
  have ha := act_ok (c := ⟨1, [], g0 s z⟩) (r0 _ hp) hown
  have hsp : stepP s.p = -1 := by rw [hp]; rfl
  rw [if_neg (by rw [hE0]; simp), if_neg (by rw [hE0]; simp), ha]
  have hs : synD ⟨upd s.fs z (moreF (s.fs z) ⟨1, [], g0 s z⟩), stepP s.p, s.ops + 1⟩ (z : Int) = ⟨upd (upd s.fs z (moreF (s.fs z) ⟨1, [], g0 s z⟩)) z (synF (upd s.fs z (moreF (s.fs z) ⟨1, [], g0 s z⟩) z)), stepP (stepP s.p), s.ops + 1 + 1⟩ := by
   unfold synD
   rw [if_pos (show refP (stepP s.p) (z : Int) = 0 from r0 _ hsp)]
   rfl
  rw [hs]
  refine ⟨r0 _ hsp, ?_, fun f hf => ?_, ?_⟩
  ·show FileIs (upd (upd s.fs z (moreF (s.fs z) ⟨1, [], g0 s z⟩)) z (synF (upd s.fs z (moreF (s.fs z) ⟨1, [], g0 s z⟩) z)) z) E
   rw [upd_same, upd_same]
   refine ⟨rfl, rfl, ?_, fun h => ?_⟩
   ·show (s.fs z).seen.u.take (g0 s z).toNat = fileB E
    rw [hg, Int.toNat_natCast, k.u, List.take_left' hlen]
   ·have h : (s.fs z).seen.th = false := h
    rw [hth] at h
    cases h
  ·show upd (upd s.fs z (moreF (s.fs z) ⟨1, [], g0 s z⟩)) z (synF (upd s.fs z (moreF (s.fs z) ⟨1, [], g0 s z⟩) z)) f = s.fs f
   rw [upd_other _ _ hf, upd_other _ _ hf]
  ·show stepP (stepP s.p) = -1
   rw [hsp]
   rfl
theorem reopen {s : DS} {E : Nat → List Ent} {m : Ent} {g : Nat} {tl : Nat → Bytes} (o : Ord E m g) (hp : s.p = -1) (k : ∀ f, f = 0 ∨ f = 1 → Behind (s.fs f) (E f) (tl f)) :
  mendE s 0 (g0 s 0) (z0 s 0) = 0 ∧ mendE (mendD s 0 (g0 s 0) (z0 s 0)) 1 (g0 s 1) (z0 s 1) = 0 ∧ VInv (opD s) (opX s) E g ∧ (opX s).ne = m ∧ (opD s).p = -1 := by
 obtain ⟨a1, a2, a3, a4, a5, a6⟩ := mend_file (s := s) (z := 0) (by decide) hp (fun e he => (o.ents (.inl rfl) e he).1) (k 0 (.inl rfl))
 have k1 : Behind ((mendD s ((0 : Nat) : Int) (g0 s ((0 : Nat) : Int)) (z0 s ((0 : Nat) : Int))).fs 1) (E 1) (tl 1) := by
  rw [a5 1 (by decide)]
  exact k 1 (.inr rfl)
 obtain ⟨b1, b2, b3, b4, b5, b6⟩ := mend_file (s := mendD s ((0 : Nat) : Int) (g0 s ((0 : Nat) : Int)) (z0 s ((0 : Nat) : Int))) (z := 1) (by decide) a6 (fun e he => (o.ents (.inr rfl) e he).1) k1
 obtain ⟨c1, c2, _⟩ := mend_file (s := s) (z := 1) (by decide) hp (fun e he => (o.ents (.inr rfl) e he).1) (k 1 (.inr rfl))
 have hg1 : g0 (mendD s ((0 : Nat) : Int) (g0 s ((0 : Nat) : Int)) (z0 s ((0 : Nat) : Int))) ((1 : Nat) : Int) = g0 s 1 := by
  show ((29 * (lookE (readS (mendD s ((0 : Nat) : Int) (g0 s ((0 : Nat) : Int)) (z0 s ((0 : Nat) : Int))) ((1 : Nat) : Int))).length : Nat) : Int) = ((29 * (lookE (readS s ((1 : Nat) : Int))).length : Nat) : Int)
  rw [b2, c2]
 have hz1 : z0 (mendD s ((0 : Nat) : Int) (g0 s ((0 : Nat) : Int)) (z0 s ((0 : Nat) : Int))) ((1 : Nat) : Int) = z0 s 1 := by
  show ((readS (mendD s ((0 : Nat) : Int) (g0 s ((0 : Nat) : Int)) (z0 s ((0 : Nat) : Int))) ((1 : Nat) : Int)).length : Int) = ((readS s ((1 : Nat) : Int)).length : Int)
  rw [b1, c1]
 rw [hg1, hz1] at b3 b4 b5 b6
 have hpk : opP s = (m, (g : Int)) := by
  unfold opP
  show pickF 1 (lookE (readS s ((1 : Nat) : Int))) (pickF 0 (lookE (readS s ((0 : Nat) : Int))) (ne0, 0)) = _
  rw [c2, a2]
  exact o.pick
 refine ⟨a3, b3, ⟨?_, fun f hf => ?_, ?_, ?_, ?_, rfl⟩, ?_, b6⟩
 ·show Ord E (opP s).1 g
  rw [hpk]
  exact o
 ·rcases hf with rfl | rfl
  ·show FileIs ((opD s).fs 0) (E 0)
   rw [show (opD s).fs 0 = (mendD s ((0 : Nat) : Int) (g0 s ((0 : Nat) : Int)) (z0 s ((0 : Nat) : Int))).fs 0 from b5 0 (by decide)]
   exact a4
  ·exact b4
 ·show (opP s).2 = (g : Int)
  rw [hpk]
 ·show ((lookE (readS s ((0 : Nat) : Int))).length : Int) = _
  rw [a2]
 ·show ((lookE (readS s ((1 : Nat) : Int))).length : Int) = _
  rw [c2]
 ·show (opP s).1 = m
  rw [hpk]
theorem FileIs.behind {y : FileS} {E : List Ent} (k : FileIs y E) : Behind y E [] := ⟨k.loose, k.same, by rw [List.append_nil]; exact k.u, takeR_nil, fun h => ⟨k.th h, rfl⟩⟩
theorem crash_whole (I : VInv s x E g) (zs : List Int) (torn : Int) : ∀ f, f = 0 ∨ f = 1 → Behind ((crashD s zs torn).fs f) (E f) [] := fun f hf => by
 have k := I.fi f hf
 have e : (crashD s zs torn).fs f = crashF (s.fs f) (keepAt zs f) torn := if_pos (by rcases hf with rfl | rfl <;> decide)
 have ec : crashC (s.fs f) (keepAt zs f) torn = (s.fs f).sure := crash_norm k.loose _ _
 rw [e]
 unfold crashF
 rw [ec, k.same]
 exact ⟨rfl, rfl, by rw [List.append_nil]; exact k.u, takeR_nil, fun h => ⟨k.th h, rfl⟩⟩
theorem crash_mid {m y : Ent} (o : Ord E m g) (hy : EntOk y) (hc : y.c = m.c + 1) (W : Broken s E m g y) (zs : List Int) (torn : Int) : ∃ (E' : Nat → List Ent) (m' : Ent) (g' : Nat) (tl : Nat → Bytes), Ord E' m' g' ∧ (m' = m ∨ m' = y) ∧ ∀ f, f = 0 ∨ f = 1 → Behind ((crashD s zs torn).fs f) (E' f) (tl f) := by
 obtain ⟨g', fr, hg', hpl, hoth, hT⟩ := W
 obtain ⟨L, tl, l1, l2, l3, l4⟩ := crash_torn hT (keepAt zs g') torn
 have eg : ∀ f, f = 0 ∨ f = 1 → (crashD s zs torn).fs f = crashF (s.fs f) (keepAt zs f) torn := fun f hf => if_pos (by rcases hf with rfl | rfl <;> decide)
 have beh : ∀ f, f = 0 ∨ f = 1 → Behind ((crashD s zs torn).fs f) (upd E g' L f) ((fun f => if f = g' then tl else []) f) := fun f hf => by
  by_cases hfg : f = g'
  ·subst hfg
   rw [eg f hf, upd_same]
   show Behind _ L (if f = f then tl else [])
   rw [if_pos rfl]
   exact ⟨rfl, rfl, l1, l2, l3⟩
  ·rw [eg f hf, upd_other _ _ hfg]
   show Behind _ (E f) (if f = g' then tl else [])
   rw [if_neg hfg]
   have k := hoth f hf hfg
   unfold crashF
   rw [crash_norm k.loose, k.same]
   exact ⟨rfl, rfl, by rw [List.append_nil]; exact k.u, takeR_nil, fun h => ⟨k.th h, rfl⟩⟩
 have old : (L = E g' ∨ (fr = true ∧ L = [])) → ∃ (E' : Nat → List Ent) (m' : Ent) (g' : Nat) (tl : Nat → Bytes), Ord E' m' g' ∧ (m' = m ∨ m' = y) ∧ ∀ f, f = 0 ∨ f = 1 → Behind ((crashD s zs torn).fs f) (E' f) (tl f) := fun h => ⟨_, m, g, _, ord_old o hpl h, .inl rfl, beh⟩
 have new : L = (if fr = true then [] else E g') ++ [y] → ∃ (E' : Nat → List Ent) (m' : Ent) (g' : Nat) (tl : Nat → Bytes), Ord E' m' g' ∧ (m' = m ∨ m' = y) ∧ ∀ f, f = 0 ∨ f = 1 → Behind ((crashD s zs torn).fs f) (E' f) (tl f) := fun h => ⟨_, y, g', _, h ▸ ord_new o hy hc hg' hpl, .inr rfl, beh⟩
 rcases l4 with h | h | ⟨h1, h2⟩ | ⟨h1, h2⟩
 ·exact old (.inl h)
 ·exact old (.inr h)
 ·exact new (by rw [h1, h2]; rfl)
 ·exact new (by rw [h1, h2]; rfl)
end
def shr (lo : Nat → Prop) (a b : Nat) : Nat → Prop := fun i => lo i ∧ (i < a ∨ b ≤ i)
theorem neqBox (b : Nat) (h : AHeap) : opBin Try.prog h .neq 25 true (some (.ptr b 0)) (some AV.nilp) = some (.val (.bool true), h) := by kernel_rfl
structure Sy (N : Nat) (lo : Nat → Prop) (H : AHeap) (db xb : Nat) (s : DS) (x : BoxS) (B : Nat) (m : Ent) : Prop where
 K : At lo H db s B
 row : RowH H xb TBox (boxC db x)
 hxb : xb < H.next
 hxl : ¬ lo xb
 inv : ∃ E g, VInv s x E g
 ne : x.ne = m
 hl : ∀ b, lo b → N ≤ b
 hx : N ≤ xb
 hN : N ≤ H.next
structure Crd (N : Nat) (lo : Nat → Prop) (H : AHeap) (db : Nat) (s : DS) (B : Nat) (m : Ent) : Prop where
 K : At lo H db s B
 p : s.p = -1
 ord : ∃ (E : Nat → List Ent) (g : Nat) (tl : Nat → Bytes), Ord E m g ∧ ∀ f, f = 0 ∨ f = 1 → Behind (s.fs f) (E f) (tl f)
 hl : ∀ b, lo b → N ≤ b
 hN : N ≤ H.next
structure Mid (N : Nat) (lo : Nat → Prop) (H : AHeap) (db : Nat) (s : DS) (B : Nat) (m y : Ent) : Prop where
 K : At lo H db s B
 ord : ∃ E g, Ord E m g ∧ Broken s E m g y
 hy : EntOk y
 hc : y.c = m.c + 1
 hl : ∀ b, lo b → N ≤ b
 hN : N ≤ H.next
section
variable {N n d D db xb B : Nat} {lo lo' : Nat → Prop} {H H' : AHeap} {s : DS} {x : BoxS} {m y : Ent} {t f : Int}
theorem nlo_part {h0 h1 : AHeap} {b : Nat} (h2 : h0.next ≤ b) (h3 : b < h1.next) : ¬ shr lo h0.next h1.next b := fun hh => by
 rcases hh.2 with h | h <;> omega
theorem At.seen_len (K : At lo H db s B) {z : Nat} (hz : z < 32) : (s.fs z).seen.u.length ≤ B := by
 obtain ⟨_, _, K⟩ := K
 obtain ⟨o1, _, o3, _⟩ := K.ok z hz
 have := doL_len (s.fs z).loose (s.fs z).sure
 rw [← o1] at this
 omega
theorem At.read_len (K : At lo H db s B) {z : Nat} (hz : z < 32) : (readS s (z : Int)).length ≤ B := by
 unfold readS
 split
 ·split
  ·rw [Int.toNat_natCast]
   exact K.seen_len hz
  ·exact Nat.zero_le _
 ·exact Nat.zero_le _
theorem Sy.alloc (Y : Sy N lo H db xb s x B m) (t : Tch [] H H') : Sy N (shr lo H.next H'.next) H' db xb s x B m :=
 ⟨Y.K.part t (fun _ h => nomatch h), Y.row.tch t Y.hxb (fun h => nomatch h), Nat.lt_of_lt_of_le Y.hxb t.1, fun hh => Y.hxl hh.1, Y.inv, Y.ne, fun b hb => Y.hl b hb.1, Y.hx, Nat.le_trans Y.hN t.1⟩
theorem Sy.other {S : List Nat} (Y : Sy N lo H db xb s x B m) (t : Tch S H H') (hS : ∀ b ∈ S, ¬ lo b ∧ b ≠ xb) : Sy N lo H' db xb s x B m :=
 ⟨Y.K.tch t (fun b hb => .inl (hS b hb).1), Y.row.tch t Y.hxb (fun h => (hS _ h).2 rfl), Nat.lt_of_lt_of_le Y.hxb t.1, Y.hxl, Y.inv, Y.ne, Y.hl, Y.hx, Nat.le_trans Y.hN t.1⟩
theorem Sy.crd (Y : Sy N lo H db xb s x B m) (hp : s.p = -1) : Crd N lo H db s B m := by
 obtain ⟨E, g, I⟩ := Y.inv
 exact ⟨Y.K, hp, ⟨E, g, fun _ => [], Y.ne ▸ I.o, fun f hf => (I.fi f hf).behind⟩, Y.hl, Y.hN⟩
theorem new_crd (hN : N ≤ H.next) (K : At (fun b => H.next ≤ b) H' H.next newS 0) (t : Tch [] H H') : Crd N (fun b => H.next ≤ b) H' H.next newS 0 ne0 :=
 ⟨K, rfl, ⟨fun _ => [], 0, fun _ => [], ⟨.inl rfl, .inl ⟨rfl, rfl, rfl, rfl⟩⟩, fun _ _ => ⟨rfl, rfl, rfl, takeR_nil, fun _ => ⟨rfl, rfl⟩⟩⟩, fun _ hb => Nat.le_trans hN hb, Nat.le_trans hN t.1⟩
theorem Sy.now (Y : Sy N lo H db xb s x B m) : ∃ H', wL n (D + 6) (d + 1) false 16 [.ptr xb 0] H = some (.ret (.agg [.int .i64 m.t, .int .i64 m.f]), H') ∧ Tch [] H H' := by
 obtain ⟨H', e, t⟩ := now_w (n := n) (d := D + 5) Y.row Y.hxb
 rw [Y.ne] at e
 exact ⟨H', (wL_b 16).trans e, t⟩
theorem Sy.power (Y : Sy N lo H db xb s x B m) {p : Int} (hp : p < 9223372036854775808) : ∃ H' S, wL n (D + 6) (d + 1) false 14 [.ptr db 0, .int .i64 p] H = some (.ret (.int .i64 0), H') ∧ Sy N lo H' db xb ⟨s.fs, if -1 > p then -1 else p, s.ops⟩ x B m ∧ Tch S H H' ∧ ∀ b ∈ S, lo b := by
 obtain ⟨H', S, e, K', t, hS⟩ := power_ok (n := n) (d := D + 5) hp Y.K
 obtain ⟨E, g, I⟩ := Y.inv
 exact ⟨H', S, (wL_b 14).trans e, ⟨K', Y.row.tch t Y.hxb (fun h => Y.hxl (hS _ h)), Nat.lt_of_lt_of_le Y.hxb t.1, Y.hxl, ⟨E, g, ⟨I.o, I.fi, I.file, I.m0, I.m1, I.br⟩⟩, Y.ne, Y.hl, Y.hx, Nat.le_trans Y.hN t.1⟩, t, hS⟩
theorem Sy.crash (Y : Sy N lo H db xb s x B m) (hn : 1000000 < n) (hB : B < 900000) {torn : Int} (ht : torn < 9223372036854775808) {lv : AV} {zs : List Int} (hz : zs.length < 9223372036854775808) (rd : RdI lo H lv zs) :
  ∃ H' S s', wL n (D + 6) (d + 1) false 15 [.ptr db 0, lv, .int .i64 torn] H = some (.ret (.int .i64 0), H') ∧ Crd N lo H' db s' B m ∧ Tch S H H' ∧ ∀ b ∈ S, lo b := by
 obtain ⟨H', S, e, K', t, hS⟩ := crash_ok (n := n) (d := D + 2) hn hB ht hz Y.K rd
 obtain ⟨E, g, I⟩ := Y.inv
 exact ⟨H', S, _, (wL_b 15).trans e, ⟨K', rfl, ⟨E, g, fun _ => [], Y.ne ▸ I.o, crash_whole I zs torn⟩, Y.hl, Nat.le_trans Y.hN t.1⟩, t, hS⟩
theorem Mid.crash (Y : Mid N lo H db s B m y) (hn : 1000000 < n) (hB : B < 900000) {torn : Int} (ht : torn < 9223372036854775808) {lv : AV} {zs : List Int} (hz : zs.length < 9223372036854775808) (rd : RdI lo H lv zs) :
  ∃ H' S s' m', wL n (D + 6) (d + 1) false 15 [.ptr db 0, lv, .int .i64 torn] H = some (.ret (.int .i64 0), H') ∧ (m' = m ∨ m' = y) ∧ Crd N lo H' db s' B m' ∧ Tch S H H' ∧ ∀ b ∈ S, lo b := by
 obtain ⟨H', S, e, K', t, hS⟩ := crash_ok (n := n) (d := D + 2) hn hB ht hz Y.K rd
 obtain ⟨E, g, o, W⟩ := Y.ord
 obtain ⟨E', m', g', tl, o', hm, hb⟩ := crash_mid o Y.hy Y.hc W zs torn
 exact ⟨H', S, _, m', (wL_b 15).trans e, hm, ⟨K', rfl, ⟨E', g', tl, o', hb⟩, Y.hl, Nat.le_trans Y.hN t.1⟩, t, hS⟩
theorem Crd.open (Y : Crd N lo H db s B m) (hn : 1000000000 < n) (hB : B < 700000) :
  ∃ lo' H' xb' S s' x', wL n (D + 6) (d + 6) false 10 [.ptr db 0] H = some (.ret (.tup [.ptr xb' 0, .int .i64 0]), H') ∧ Sy N lo' H' db xb' s' x' (B + 6) m ∧ s'.p = -1 ∧ Less lo lo' ∧ H.next ≤ xb' ∧ Tch S H H' ∧ ∀ b ∈ S, lo b := by
 obtain ⟨E, g, tl, o, hb⟩ := Y.ord
 obtain ⟨r1, r2, r3, r4, r5⟩ := reopen o Y.p hb
 have l0 := Y.K.read_len (z := 0) (by decide)
 have l1 := Y.K.read_len (z := 1) (by decide)
 have l0 : (readS s 0).length ≤ B := l0
 have l1 : (readS s 1).length ≤ B := l1
 obtain ⟨lo', H', xb', S, e, K', L, kx, hx1, hx2, hx3, t, hS⟩ := open_w (n := n) (D := D + 1) (d := d) Y.K hB hn (by rw [Y.p]; decide) (by omega) (by omega) r1 r2
 exact ⟨lo', H', xb', S, opD s, opX s, e, ⟨K', kx, hx1, hx3, ⟨E, g, r3⟩, r4, fun b hb => Y.hl b (L b hb), Nat.le_trans Y.hN hx2, Nat.le_trans Y.hN t.1⟩, r5, L, hx2, t, hS⟩
theorem err40 {s : DS} {g : Nat} {c : Chg} (hg : g < 32) (hp : s.p = -1) : errP s (g : Int) c ≠ 40 ∧ (actD s (g : Int) c).p = -1 := by
 have r0 : refP s.p (g : Int) = 0 := by
  unfold refP
  rw [if_neg (by omega), if_pos (by omega)]
 constructor
 ·rw [err_ok r0]
  unfold ownE
  split
  ·split <;> decide
  ·split
   ·decide
   ·split <;> decide
 ·unfold actD
  split
  ·show stepP s.p = -1
   rw [hp]
   rfl
  ·exact hp
theorem stp40 {s : DS} {g : Nat} {fr : Bool} {u : Bytes} (hg : g < 32) (hp : s.p = -1) : (stpW s (g : Int) fr u).1 ≠ 40 := by
 have h1 : (stp1 s (g : Int) fr).1 ≠ 40 ∧ (stp1 s (g : Int) fr).2.p = -1 := by
  unfold stp1
  split
  ·exact err40 hg hp
  ·exact ⟨(by decide : (0 : Int) ≠ 40), hp⟩
 have h2 := err40 (c := chA u) hg h1.2
 unfold stpW
 split
 ·exact h1.1
 ·split
  ·exact h2.1
  ·show refP _ (g : Int) ≠ 40
   rw [h2.2]
   unfold refP
   rw [if_neg (by decide), if_pos (by omega)]
   decide
theorem VInv.size {E : Nat → List Ent} {g : Nat} (I : VInv s x E g) (K : At lo H db s B) {z : Nat} (hz : z = 0 ∨ z = 1) : 29 * (E z).length ≤ B ∧ (fileB (E z)).length ≤ B := by
 have h1 := K.seen_len (z := z) (by omega)
 rw [(I.fi z hz).u] at h1
 have h2 := fileB_len (E z)
 omega
theorem wr_done {E : Nat → List Ent} {g : Nat} (I : VInv s x E g) (hsz : ∀ f, f = 0 ∨ f = 1 → (fileB (E f)).length < 900000) (hb : balOk t f) (hm : mayB t f x.ne.t x.ne.f = true) (hc : x.ne.c < 4611686018427387904) (hp : s.p = -1) : (wr s x t f).1 = 0 := by
 have c1 : refV x t f = 0 := by
  unfold refV
  rw [if_neg (by rw [I.br]; simp), if_pos hb, if_pos hm]
 obtain ⟨g', hpf, hg', hpl⟩ := place_ok I.o.g01 I.file
 obtain ⟨o1, o2, o3⟩ := stp_out (s := s) (g := g') (E := E g') (fr := placeN x) (e := nextE x t f) (by omega) (I.fi g' hg') (hsz g' hg')
 unfold wr
 rw [if_neg (by simpa using c1)]
 split
 ·rfl
 rw [if_neg (by omega), hpf]
 by_cases c4 : (stpW s (g' : Int) (placeN x) (frameB (entB (nextE x t f)))).1 = 0
 ·rw [if_neg (by simpa using c4)]
 ·exact absurd (o3 c4).1 (stp40 (by omega) hp)
theorem Sy.write (Y : Sy N lo H db xb s x B m) (hn : 1000000 < n) (hB : B < 600000) (t f : Int) :
  ∃ lo' H' S e s' x', wL n (D + 6) (d + 1) false 11 [.ptr xb 0, .agg [.int .i64 t, .int .i64 f]] H = some (.ret (.int .i64 e), H') ∧ Less lo lo' ∧ Tch S H H' ∧ (∀ b ∈ S, lo b ∨ b = xb) ∧ (s.p = -1 → balOk t f → mayB t f m.t m.f = true → m.c < 4611686018427387904 → e = 0) ∧
   (((e = 2 ∨ e = 5) ∧ Sy N lo' H' db xb s' x' (B + 40) m) ∨ (e = 0 ∧ ∃ m' : Ent, m'.t = t ∧ m'.f = f ∧ (m' = m ∨ mayB t f m.t m.f = true) ∧ Sy N lo' H' db xb s' x' (B + 40) m') ∨ (e = 40 ∧ ∃ y : Ent, y.t = t ∧ y.f = f ∧ mayB t f m.t m.f = true ∧ Mid N lo' H' db s' (B + 40) m y)) := by
 obtain ⟨E, g, I⟩ := Y.inv
 have s0 := I.size Y.K (z := 0) (.inl rfl)
 have s1 := I.size Y.K (z := 1) (.inr rfl)
 have hm0 := I.m0
 have hm1 := I.m1
 have hfile : x.file = 0 ∨ x.file = 1 := by
  have := I.file
  rcases I.o.g01 with h | h <;> omega
 have hsz : ∀ f, f = 0 ∨ f = 1 → (fileB (E f)).length < 900000 := fun f hf => by
  have := (I.size Y.K hf).2
  omega
 obtain ⟨lo', H', S, e, K', L, kx, hxl, tc, hS⟩ := write_w (n := n) (d := D) (t := t) (f := f) hn Y.K (by omega) Y.row Y.hxb Y.hxl hfile I.o.c0 (by omega) (by omega)
 have hl' : ∀ b, lo' b → N ≤ b := fun b hb => Y.hl b (L b hb)
 have hN' := Nat.le_trans Y.hN tc.1
 have hxb' := Nat.lt_of_lt_of_le Y.hxb tc.1
 refine ⟨lo', H', S, (wr s x t f).1, (wr s x t f).2.2, (wr s x t f).2.1, (wL_b 11).trans e, L, tc, hS, fun h1 h2 h3 h4 => ?_, ?_⟩
 ·rw [← Y.ne] at h3 h4
  exact wr_done I hsz h2 h3 h4 h1
 rcases wr_out (t := t) (f := f) I hsz with ⟨h1, h2⟩ | ⟨h1, h2, h3⟩ | ⟨hm, hbo, h⟩
 ·have e1 : (wr s x t f).2.1 = x := by rw [h2]
  have e2 : (wr s x t f).2.2 = s := by rw [h2]
  rw [e1] at kx ⊢
  rw [e2] at K' ⊢
  exact .inl ⟨h1, K', kx, hxb', hxl, ⟨E, g, I⟩, Y.ne, hl', Y.hx, hN'⟩
 ·rw [h1] at kx K' ⊢
  exact .inr (.inl ⟨rfl, m, by rw [h2, Y.ne], by rw [h3, Y.ne], .inl rfl, K', kx, hxb', hxl, ⟨E, g, I⟩, Y.ne, hl', Y.hx, hN'⟩)
 ·rw [Y.ne] at hm h
  rcases h with ⟨h0, E', g', I', hne⟩ | ⟨h0, hy, W⟩
  ·exact .inr (.inl ⟨h0, nextE x t f, rfl, rfl, .inr hm, K', kx, hxb', hxl, ⟨E', g', I'⟩, hne, hl', Y.hx, hN'⟩)
  ·exact .inr (.inr ⟨h0, nextE x t f, rfl, rfl, hm, K', ⟨E, g, Y.ne ▸ I.o, W⟩, hy, by show x.ne.c + 1 = m.c + 1; rw [Y.ne], hl', hN'⟩)
end
theorem rdi_nil (lo : Nat → Prop) (h : AHeap) : RdI lo h .nsl [] := ⟨rfl, fun _ _ _ _ _ hi => absurd hi (Nat.not_lt_zero _)⟩
section
variable {n d D : Nat} {H : AHeap}
theorem fresh {N : Nat} (hX : H.ex = []) (hn : 1000000000 < n) (hN : N ≤ H.next) : ∃ H1, wL n (D + 6) (d + 6) false 9 [] H = some (.ret (.ptr H.next 0), H1) ∧ Tch [] H H1 ∧ ∃ lo' H' xb' S s' x', wL n (D + 6) (d + 6) false 10 [.ptr H.next 0] H1 = some (.ret (.tup [.ptr xb' 0, .int .i64 0]), H') ∧ Sy N lo' H' H.next xb' s' x' 6 ne0 ∧ s'.p = -1 ∧ Tch S H1 H' ∧ (∀ b ∈ S, N ≤ b) ∧ ∀ b, lo' b → H.next ≤ b := by
 obtain ⟨H1, e1, K, t1⟩ := new_ok (n := n) (d := D + 5) (h := H) hX
 have C := new_crd hN K t1
 obtain ⟨lo', H', xb', S, s', x', e, Y, hp, L, _, t, hS⟩ := C.open (D := D) (d := d) hn (by decide)
 exact ⟨H1, (wL_b 9).trans e1, t1, lo', H', xb', S, s', x', e, Y, hp, t, fun b hb => Nat.le_trans hN (hS b hb), fun b hb => L b hb⟩
theorem works_w (hX : H.ex = []) (hn : 1000000000 < n) : ∃ H', wL n (D + 6) (d + 7) false 8 [] H = some (.ret (.bool true), H') ∧ ∃ S, Tch S H H' ∧ ∀ b ∈ S, H.next ≤ b := by
 suffices hK : Wp (law08_works ((wL n (D + 6) (d + 6)) false) n H) fun r H' => r = .ret (.bool true) ∧ ∃ S, Tch S H H' ∧ ∀ b ∈ S, H.next ≤ b by
  obtain ⟨_, H', e, rfl, k⟩ := hK
  exact ⟨H', wL_law08_works n (D + 6) (d + 6) e, k⟩
 unfold law08_works
 obtain ⟨H1, e1, t1, lo2, H2, xb, S2, s2, x2, e2, Y2, hp2, t2, hS2, _⟩ := fresh (D := D) (d := d) (N := H.next) hX hn (Nat.le_refl _)
 refine Wp.callN e1 (Wp.callN e2 (Wp.obind (extT_0 _ _) (Wp.obind (extT_1 _ _ _) (Wp.obind (avInt_int _ _) (Wp.lett (Wp.lettG fun j15 e15 => Wp.iff rfl (Wp.outK (eqBox xb H2) (Wp.obind (avBool_bool _) ?_))))))))
 rw [e15]
 obtain ⟨H3, e3, t3⟩ := Y2.now (n := n) (D := D) (d := d + 5)
 have Y3 := Y2.alloc t3
 refine Wp.lettG fun j21 e21 => Wp.iff rfl (Wp.callN e3 (Wp.obind (avAgg_agg _) (Wp.obind (eqBal _ _ _ _) (Wp.lett ?_))))
 rw [e21]
 obtain ⟨lo4, H4, S4, e, s4, x4, e4, L4, t4, hS4, hok, hcase⟩ := Y3.write (n := n) (D := D) (d := d + 5) (by omega) (by decide) 1 2
 have h0 : e = 0 := hok hp2 (by decide) (by decide) (by decide)
 subst h0
 refine Wp.lettG fun j27 e27 => Wp.iff rfl (Wp.callN e4 (Wp.obind (avInt_int _ _) (Wp.lett ?_)))
 rw [e27]
 rcases hcase with ⟨h, _⟩ | ⟨_, m', hm1, hm2, _, Y4⟩ | ⟨h, _⟩
 ·rcases h with h | h <;> cases h
 ·obtain ⟨H5, S5, s5, e5, C5, t5, hS5⟩ := Y4.crash (n := n) (D := D) (d := d + 5) (by omega) (by decide) (torn := 0) (by decide) (zs := []) (by decide) (rdi_nil _ _)
  refine Wp.lettG fun j32 e32 => Wp.iff rfl (Wp.callN e5 (Wp.obind (avInt_int _ _) (Wp.lett ?_)))
  rw [e32]
  obtain ⟨lo6, H6, xb6, S6, s6, x6, e6, Y6, _, L6, _, t6, hS6⟩ := C5.open (n := n) (D := D) (d := d) hn (by decide)
  refine Wp.iff rfl (Wp.callN e6 (Wp.obind (extT_0 _ _) (Wp.obind (extT_1 _ _ _) (Wp.obind (avInt_int _ _) (Wp.lett (Wp.lettG fun j43 e43 => Wp.ift rfl (Wp.outK (neqBox xb6 H6) (Wp.obind (avBool_bool _) ?_))))))))
  rw [e43]
  obtain ⟨H7, e7, t7⟩ := Y6.now (n := n) (D := D) (d := d + 5)
  refine Wp.lettG fun j49 e49 => Wp.ift rfl (Wp.callN e7 (Wp.obind (avAgg_agg _) (Wp.obind (eqBal _ _ _ _) ?_)))
  rw [e49, hm1, hm2]
  refine Wp.ret ⟨rfl, S2 ++ (S4 ++ (S5 ++ S6)), ?_, fun b hb => ?_⟩
  ·exact (((((((t1.mono fun _ h => nomatch h).trans (t2.mono fun b hb => .inl (List.mem_append_left _ hb))).trans (t3.mono fun _ h => nomatch h)).trans (t4.mono fun b hb => .inl (List.mem_append_right _ (List.mem_append_left _ hb)))).trans (t5.mono fun b hb => .inl (List.mem_append_right _ (List.mem_append_right _ (List.mem_append_left _ hb))))).trans (t6.mono fun b hb => .inl (List.mem_append_right _ (List.mem_append_right _ (List.mem_append_right _ hb)))))).trans (t7.mono fun _ h => nomatch h)
  ·rcases List.mem_append.1 hb with hb | hb
   ·exact hS2 b hb
   rcases List.mem_append.1 hb with hb | hb
   ·rcases hS4 b hb with h | h
    ·exact Y3.hl b h
    ·exact h ▸ Y3.hx
   rcases List.mem_append.1 hb with hb | hb
   ·exact Y4.hl b (hS5 b hb)
   ·exact C5.hl b (hS6 b hb)
 ·cases h
end
noncomputable def law08_VoteKept_L0b (call : CallF) (t0 : AV) (v32 : AV) (h_38 : AHeap) (h_41 : AHeap) (t44 : Int) (k53 : AHeap → R) (self : Int → AHeap → R) (t45 : Int) (h_118 : AHeap) : R :=
 lett (decide (t45 < t44)) fun (t46 : Bool) =>
 ifB t46
 (
  obind (idxP 2 t0 t45) fun t47 =>
  obind (ldRow h_118 2 t47) fun t48 =>
  lett (newH h_118 31 [.int .i64 0, .int .i64 0]) fun h_127 =>
  obind (stRow h_127 2 t48 (newP h_118)) fun h_129 =>
  obind (ldRow h_129 2 (newP h_118)) fun t50 =>
  callN (call 11 [v32, .agg t50] h_129) fun r51 h_133 =>
  obind (avInt .i64 r51) fun t51 =>
  lett ((t51 : Int) == 0) fun (t53 : Bool) =>
  lett (fun  (h_140 : AHeap) =>
   lett ((t51 : Int) == 40) fun (t57 : Bool) =>
   ifB t57
   (
    obind (ldRow h_140 2 (newP h_118)) fun t58 =>
    obind (stRow h_140 2 t58 (newP h_41)) fun h_145 =>
    k53 h_145)
   (
    lett (IntKind.i64.wrap (t45 + 1)) fun (t59 : Int) =>
    self t59 h_140)) fun k139 =>
  ifB t53
  (
   obind (ldRow h_133 2 (newP h_118)) fun t54 =>
   obind (ldRow h_133 2 (newP h_118)) fun t55 =>
   obind (stRow h_133 2 t54 (newP h_38)) fun h_150 =>
   chk (reLoad Try.prog h_150 31 (newP h_118) (.agg t55) && (true && true)) <|
   obind (stRow h_150 2 t55 (newP h_41)) fun h_153 =>
   k139 h_153)
  (
   k139 h_133))
 (
  k53 h_118)
noncomputable def law08_VoteKept_L0 (call : CallF) (t0 : AV) (v32 : AV) (h_38 : AHeap) (h_41 : AHeap) (t44 : Int) (k53 : AHeap → R) : Nat → Int → AHeap → R := iterR (fun _ _ => none) (law08_VoteKept_L0b call t0 v32 h_38 h_41 t44 k53)
theorem law08_VoteKept_L0_s (call : CallF) (t0 : AV) (v32 : AV) (h_38 : AHeap) (h_41 : AHeap) (t44 : Int) (k53 : AHeap → R) (m : Nat) : law08_VoteKept_L0 call t0 v32 h_38 h_41 t44 k53 (m + 1) = law08_VoteKept_L0b call t0 v32 h_38 h_41 t44 k53 (law08_VoteKept_L0 call t0 v32 h_38 h_41 t44 k53 m) := rfl
noncomputable def law08_VoteKept (call : CallF) (n : Nat) (t0 : AV) (t1 : Int) (t2 : AV) (t3 : Int) (h : AHeap) : R :=
 callN (call 8 [] h) fun r19 h_4 =>
 obind (avBool r19) fun t19 =>
 lett (!t19) fun (t20 : Bool) =>
 ifB t20
 (
  some (.ret (.bool false), h_4))
 (
  obind (lenL t0) fun t22 =>
  lett (decide (t22 > 60)) fun (t23 : Bool) =>
  lett (fun (t27 : Bool) (h_13 : AHeap) =>
   ifB t27
   (
    some (.ret (.bool true), h_13))
   (
    callN (call 9 [] h_13) fun r28 h_18 =>
    callN (call 10 [r28] h_18) fun r31 h_21 =>
    obind (extT 0 r31) fun v32 =>
    obind (extT 1 r31) fun v33 =>
    obind (avInt .i64 v33) fun t33 =>
    lett ((t33 : Int) != 0) fun (t35 : Bool) =>
    ifB t35
    (
     some (.ret (.bool false), h_21))
    (
     callN (call 14 [r28, .int .i64 t1] h_21) fun r38 h_31 =>
     obind (avInt .i64 r38) fun _ =>
     callN (call 16 [v32] h_31) fun r40 h_35 =>
     obind (avAgg r40) fun t40 =>
     callN (call 16 [v32] h_35) fun r42 h_38 =>
     obind (avAgg r42) fun t42 =>
     lett (newH h_38 31 [.int .i64 0, .int .i64 0]) fun h_41 =>
     lett (newH h_41 31 [.int .i64 0, .int .i64 0]) fun h_43 =>
     obind (stRow h_43 2 t40 (newP h_38)) fun h_45 =>
     obind (stRow h_45 2 t42 (newP h_41)) fun h_47 =>
     obind (lenL t0) fun t44 =>
     lett (fun  (h_54 : AHeap) =>
      callN (call 15 [r28, t2, .int .i64 t3] h_54) fun r63 h_57 =>
      obind (avInt .i64 r63) fun t63 =>
      lett ((t63 : Int) != 0) fun (t64 : Bool) =>
      ifB t64
      (
       some (.ret (.bool false), h_57))
      (
       callN (call 10 [r28] h_57) fun r67 h_63 =>
       obind (extT 0 r67) fun v68 =>
       obind (extT 1 r67) fun v69 =>
       obind (avInt .i64 v69) fun t69 =>
       lett (fun (t87 : Bool) (h_71 : AHeap) =>
        ifB t87
        (
         some (.ret (.bool false), h_71))
        (
         callN (call 10 [r28] h_71) fun r90 h_74 =>
         obind (extT 0 r90) fun v91 =>
         obind (extT 1 r90) fun v92 =>
         obind (avInt .i64 v92) fun t92 =>
         lett ((t92 : Int) == 0) fun (t94 : Bool) =>
         lett (fun (t98 : Bool) (h_81 : AHeap) =>
          lett (fun (t105 : Bool) (h_84 : AHeap) =>
           some (.ret (.bool t105), h_84)) fun j105 =>
          ifB t98
          (
           callN (call 16 [v91] h_81) fun r101 h_87 =>
           obind (avAgg r101) fun t101 =>
           callN (call 16 [v68] h_87) fun r103 h_90 =>
           obind (avAgg r103) fun t103 =>
           obind (eqOther Try.prog 31 (.agg t101) (.agg t103)) fun t104 =>
           j105 t104 h_90)
          (
           j105 false h_81)) fun j98 =>
         ifB t94
         (
          outK (opBin Try.prog h_74 .neq 25 true (some v91) (some AV.nilp)) fun v97 h_94 =>
          obind (avBool v97) fun t97 =>
          j98 t97 h_94)
         (
          j98 false h_74))) fun k70 =>
       lett ((t69 : Int) != 0) fun (t71 : Bool) =>
       ifB t71
       (
        k70 true h_63)
       (
        outK (opBin Try.prog h_63 .eql 25 true (some v68) (some AV.nilp)) fun v74 h_98 =>
        obind (avBool v74) fun t74 =>
        ifB t74
        (
         k70 true h_98)
        (
         obind (ldRow h_98 2 (newP h_38)) fun t79 =>
         callN (call 16 [v68] h_98) fun r78 h_102 =>
         obind (avAgg r78) fun t78 =>
         chk (reLoad Try.prog h_102 31 (newP h_38) (.agg t79) && true) <|
         obind (eqOther Try.prog 31 (.agg t78) (.agg t79)) fun t80 =>
         lett (!t80) fun (t80_107 : Bool) =>
         ifB t80_107
         (
          obind (ldRow h_102 2 (newP h_41)) fun t84 =>
          callN (call 16 [v68] h_102) fun r83 h_110 =>
          obind (avAgg r83) fun t83 =>
          chk (reLoad Try.prog h_110 31 (newP h_41) (.agg t84) && (true && true)) <|
          obind (eqOther Try.prog 31 (.agg t83) (.agg t84)) fun t85 =>
          lett (!t85) fun (t85_115 : Bool) =>
          k70 t85_115 h_110)
         (
          k70 false h_102))))) fun k53 =>
     law08_VoteKept_L0 call t0 v32 h_38 h_41 t44 k53 n 0 h_47))) fun j27 =>
  ifB t23
  (
   j27 true h_4)
  (
   lett (decide (t1 < 0)) fun (t26 : Bool) =>
   j27 t26 h_4))
set_option maxHeartbeats 4000000 in
set_option maxRecDepth 20000 in
theorem law08_VoteKept_ok {call : CallF} (hc : SaysAll Try.prog call) {n : Nat} {t0 : AV} {t1 : Int} {t2 : AV} {t3 : Int} {h : AHeap} {rR : ARes} {hR : AHeap} (hF : law08_VoteKept call n t0 t1 t2 t3 h = some (rR, hR)) : Says Try.prog 6 [t0, .int .i64 t1, t2, .int .i64 t3] h rR hR := by
 unfold law08_VoteKept at hF
 refine sO Try.func6 fun w0 m0 => ?_
 refine wW [(0, t0), (1, .int .i64 t1), (2, t2), (3, .int .i64 t3)] ?_
 refine oG fun n1 => W.r ?_
 refine oA 8 (.bool false) ?_
 refine oV [(0, t0), (1, .int .i64 t1), (2, t2), (3, .int .i64 t3)] (n1 ?_)
 refine oH fun n2 q2 => ?_
 refine oG fun n3 => W.r ?_
 refine oCb hc 19 hF fun t19 h_4 hF => ?_
 refine oB 20 hF fun t20 hF => ?_
 refine oV [(0, t0), (1, .int .i64 t1), (2, t2), (3, .int .i64 t3), (20, .bool t20)] (n3 ?_)
 cases t20 with
 | true =>
  refine oT hF fun hF => ?_
  refine oG fun n8 => W.r ?_
  refine oA 8 (.bool false) ?_
  refine oV [(8, .bool false)] (n8 (oY (q2 ?_)))
  exact lZ hF [.tmp 8] [.bool false] (rT res_nil)
 | false =>
  refine oU hF fun hF => ?_
  refine oZ (n2 ?_)
  refine oH fun n9 q9 => ?_
  refine W.s (fun K10 n10 e10 q10 p10 => ?_)
  refine W.r ?_
  refine oA 21 t0 ?_
  refine oM 22 70 31 hF fun t22 hF => ?_
  refine oB 23 hF fun t23 hF => ?_
  refine oA 24 (.bool t23) ?_
  obtain ⟨j27, e14, hF⟩ := lett_some hF
  have J15 : ∀ (t27 : Bool) (h_13 : AHeap), j27 t27 h_13 = some (rR, hR) → WL Try.prog w0 m0 (Func.ntmps Try.f6) (Code.ops (Code.p1 (Code.p1 (Code.p2 (Code.p2 (codeOf Try.f6)))))) 7 K10 [(0, t0), (1, .int .i64 t1), (2, t2), (3, .int .i64 t3), (27, .bool t27)] [] h_13 := by
   intro t27 h_13 hF
   rw [e14] at hF
   refine oV [(0, t0), (1, .int .i64 t1), (2, t2), (3, .int .i64 t3), (27, .bool t27)] (n10 ?_)
   cases t27 with
   | true =>
    refine oT hF fun hF => ?_
    refine oG fun n16 => W.r ?_
    refine oA 8 (.bool true) ?_
    refine oV [(8, .bool true)] (n16 (oY (q9 ?_)))
    exact lZ hF [.tmp 8] [.bool true] (rT res_nil)
   | false =>
    refine oU hF fun hF => ?_
    refine oZ (n9 ?_)
    refine oG fun n17 => W.r ?_
    refine oC hc (some 28) hF fun r28 h_18 hF => ?_
    refine oA 9 r28 ?_
    refine oV [(0, t0), (1, .int .i64 t1), (2, t2), (3, .int .i64 t3), (9, r28)] (n17 ?_)
    refine oG fun n20 => W.r ?_
    refine oA 30 r28 ?_
    refine oC hc (some 31) hF fun r31 h_21 hF => ?_
    refine oA 29 r31 ?_
    refine oE 32 hF fun v32 hF => ?_
    refine oEi 33 hF fun t33 hF => ?_
    refine oA 10 v32 ?_
    refine oA 11 (.int .i64 t33) ?_
    refine oV [(0, t0), (1, .int .i64 t1), (2, t2), (3, .int .i64 t3), (9, r28), (10, v32), (11, .int .i64 t33)] (n20 ?_)
    refine oH fun n26 q26 => ?_
    refine oG fun n27 => W.r ?_
    refine oA 34 (.int .i64 t33) ?_
    refine oB 35 hF fun t35 hF => ?_
    refine oV [(0, t0), (1, .int .i64 t1), (2, t2), (3, .int .i64 t3), (9, r28), (10, v32), (35, .bool t35)] (n27 ?_)
    cases t35 with
    | true =>
     refine oT hF fun hF => ?_
     refine oG fun n29 => W.r ?_
     refine oA 8 (.bool false) ?_
     refine oV [(8, .bool false)] (n29 (oY (q26 ?_)))
     exact lZ hF [.tmp 8] [.bool false] (rT res_nil)
    | false =>
     refine oU hF fun hF => ?_
     refine oZ (n26 ?_)
     refine oG fun n30 => W.r ?_
     refine oA 36 r28 ?_
     refine oA 37 (.int .i64 t1) ?_
     refine oCi hc 38 hF fun t38 h_31 hF => ?_
     refine oV [(0, t0), (2, t2), (3, .int .i64 t3), (9, r28), (10, v32)] (n30 ?_)
     refine oG fun n34 => W.r ?_
     refine oA 39 v32 ?_
     refine oCa hc 40 hF fun t40 h_35 hF => ?_
     refine oA 41 v32 ?_
     refine oCa hc 42 hF fun t42 h_38 hF => ?_
     refine oN 12 hF fun h_41 hF => ?_
     refine oN 13 hF fun h_43 hF => ?_
     refine oW 31 (.agg t40) hF fun h_45 hF => ?_
     refine oW 31 (.agg t42) hF fun h_47 hF => ?_
     refine oV [(0, t0), (2, t2), (3, .int .i64 t3), (9, r28), (10, v32), (12, (newP h_38)), (13, (newP h_41))] (n34 ?_)
     refine W.s (fun K49 n49 e49 q49 p49 => ?_)
     refine oG fun n50 => W.r ?_
     refine oA 43 t0 ?_
     refine oM 44 70 31 hF fun t44 hF => ?_
     refine oA 45 (.int .i64 0) ?_
     refine oV [(2, t2), (3, .int .i64 t3), (9, r28), (10, v32), (12, (newP h_38)), (13, (newP h_41)), (43, t0), (44, .int .i64 t44), (45, .int .i64 0)] (n50 ?_)
     obtain ⟨k53, e53, hF⟩ := lett_some hF
     have J53 : ∀  (h_54 : AHeap), k53 h_54 = some (rR, hR) → Go w0 m0 (Func.ntmps Try.f6) (K49 .normal) [(2, t2), (3, .int .i64 t3), (9, r28), (12, (newP h_38)), (13, (newP h_41))] [] h_54 := by
      intro  h_54 hF
      rw [e53] at hF
      refine n49 ?_
      refine oH fun n55 q55 => ?_
      refine oG fun n56 => W.r ?_
      refine oA 60 r28 ?_
      refine oA 61 t2 ?_
      refine oA 62 (.int .i64 t3) ?_
      refine oCi hc 63 hF fun t63 h_57 hF => ?_
      refine oB 64 hF fun t64 hF => ?_
      refine oV [(9, r28), (12, (newP h_38)), (13, (newP h_41)), (64, .bool t64)] (n56 ?_)
      cases t64 with
      | true =>
       refine oT hF fun hF => ?_
       refine oG fun n61 => W.r ?_
       refine oA 8 (.bool false) ?_
       refine oV [(8, .bool false)] (n61 (oY (q55 ?_)))
       exact lZ hF [.tmp 8] [.bool false] (rT res_nil)
      | false =>
       refine oU hF fun hF => ?_
       refine oZ (n55 ?_)
       refine oG fun n62 => W.r ?_
       refine oA 66 r28 ?_
       refine oC hc (some 67) hF fun r67 h_63 hF => ?_
       refine oA 65 r67 ?_
       refine oE 68 hF fun v68 hF => ?_
       refine oEi 69 hF fun t69 hF => ?_
       refine oA 17 v68 ?_
       refine oA 11 (.int .i64 t69) ?_
       refine oV [(9, r28), (11, .int .i64 t69), (12, (newP h_38)), (13, (newP h_41)), (17, v68)] (n62 ?_)
       refine oH fun n68 q68 => ?_
       refine W.s (fun K69 n69 e69 q69 p69 => ?_)
       obtain ⟨k70, e70, hF⟩ := lett_some hF
       have J70 : ∀ (t87 : Bool) (h_71 : AHeap), k70 t87 h_71 = some (rR, hR) → Go w0 m0 (Func.ntmps Try.f6) (K69 .normal) [(9, r28), (17, v68), (87, .bool t87)] [] h_71 := by
        intro t87 h_71 hF
        rw [e70] at hF
        refine n69 ?_
        cases t87 with
        | true =>
         refine oT hF fun hF => ?_
         refine oG fun n72 => W.r ?_
         refine oA 8 (.bool false) ?_
         refine oV [(8, .bool false)] (n72 (oY (q68 ?_)))
         exact lZ hF [.tmp 8] [.bool false] (rT res_nil)
        | false =>
         refine oU hF fun hF => ?_
         refine oZ (n68 ?_)
         refine oG fun n73 => W.r ?_
         refine oA 89 r28 ?_
         refine oC hc (some 90) hF fun r90 h_74 hF => ?_
         refine oA 88 r90 ?_
         refine oE 91 hF fun v91 hF => ?_
         refine oEi 92 hF fun t92 hF => ?_
         refine oA 18 v91 ?_
         refine oA 11 (.int .i64 t92) ?_
         refine oV [(11, .int .i64 t92), (17, v68), (18, v91)] (n73 ?_)
         refine W.s (fun K79 n79 e79 q79 p79 => ?_)
         refine W.r ?_
         refine oA 93 (.int .i64 t92) ?_
         refine oB 94 hF fun t94 hF => ?_
         refine oA 95 (.bool t94) ?_
         obtain ⟨j98, e82, hF⟩ := lett_some hF
         have J83 : ∀ (t98 : Bool) (h_81 : AHeap), j98 t98 h_81 = some (rR, hR) → WL Try.prog w0 m0 (Func.ntmps Try.f6) (Code.ops (Code.p1 (Code.p2 (Code.p2 (Code.p2 (Code.p2 (Code.p2 (Code.p2 (Code.p2 (Code.p2 (Code.p2 (Code.p2 (Code.p2 (Code.p2 (Code.p2 (codeOf Try.f6)))))))))))))))) 6 K79 [(17, v68), (18, v91), (98, .bool t98)] [] h_81 := by
          intro t98 h_81 hF
          rw [e82] at hF
          refine oA 99 (.bool t98) ?_
          obtain ⟨j105, e85, hF⟩ := lett_some hF
          have J86 : ∀ (t105 : Bool) (h_84 : AHeap), j105 t105 h_84 = some (rR, hR) → WL Try.prog w0 m0 (Func.ntmps Try.f6) (Code.ops (Code.p1 (Code.p2 (Code.p2 (Code.p2 (Code.p2 (Code.p2 (Code.p2 (Code.p2 (Code.p2 (Code.p2 (Code.p2 (Code.p2 (Code.p2 (Code.p2 (codeOf Try.f6)))))))))))))))) 13 K79 [(105, .bool t105)] [] h_84 := by
           intro t105 h_84 hF
           rw [e85] at hF
           refine oA 8 (.bool t105) ?_
           refine oV [(8, .bool t105)] (n79 (oY ?_))
           exact lZ hF [.tmp 8] [.bool t105] (rT res_nil)
          cases t98 with
          | true =>
           replace hF := ifB_t hF
           refine oA 100 v91 ?_
           refine oCa hc 101 hF fun t101 h_87 hF => ?_
           refine oA 102 v68 ?_
           refine oCa hc 103 hF fun t103 h_90 hF => ?_
           obtain ⟨t104, e93, hF⟩ := obind_some hF
           refine WL.b (some 104) (.bool t104) h_90 (eq_other (P := Try.prog) (h := h_90) (t := 31) (lit := false) (by kernel_rfl) e93) ?_
           refine oA 105 (.bool t104) ?_
           exact lW _ (J86 _ _ hF)
          | false =>
           replace hF := ifB_f hF
           refine WL.o (some 100) ?_
           refine WL.o (some 101) ?_
           refine WL.o (some 102) ?_
           refine WL.o (some 103) ?_
           refine WL.o (some 104) ?_
           refine oA 105 (.bool false) ?_
           exact lW _ (J86 _ _ hF)
         cases t94 with
         | true =>
          replace hF := ifB_t hF
          refine oA 96 v91 ?_
          replace hF := outK_some hF; obtain ⟨v97, h_94, e95, hF⟩ := hF
          replace hF := obind_some hF; obtain ⟨t97, c96, hF⟩ := hF
          have c96 := avBool_some c96
          subst c96
          refine WL.b (some 97) (.bool t97) h_94 e95 ?_
          refine oA 98 (.bool t97) ?_
          exact lW _ (J83 _ _ hF)
         | false =>
          replace hF := ifB_f hF
          refine WL.o (some 96) ?_
          refine WL.o (some 97) ?_
          refine oA 98 (.bool false) ?_
          exact lW _ (J83 _ _ hF)
       refine W.draw (by kernel_rfl) (hc.ok w0) (plan := [0, 1, 2, 3, 4, 5, 6, 7, 9, 8, 10, 11, 12, 14, 13, 15, 16, 17]) (by kernel_rfl) (by kernel_rfl) (by kernel_rfl) ?_
       refine WD.a 0 (some 70) (.int .i64 t69) h_63 ?_
       obtain ⟨t71, e97, hF⟩ := lett_some hF
       refine WD.val (d := (some 71)) (v := .bool t71) (h' := h_63) (by kernel_rfl) (by kernel_rfl) (val_of AV.bool e97 (by kernel_rfl)) (k := 0) (by kernel_rfl) (fun e => absurd e (by decide)) (by decide) ?_
       refine WD.a 0 (some 72) (.bool t71) h_63 ?_
       cases t71 with
       | true =>
        replace hF := ifB_t hF
        refine oD 0 (some 73) ?_
        refine oD 0 (some 74) ?_
        refine WD.a 0 (some 75) (.bool true) h_63 ?_
        refine WD.a 0 (some 76) (.bool true) h_63 ?_
        refine oD 0 (some 77) ?_
        refine oD 1 (some 79) ?_
        refine WD.not (d := (some 78)) (by kernel_rfl) (by kernel_rfl) (k := 2) (by kernel_rfl) (fun _ => (by kernel_rfl)) (by decide) ?_
        refine oD 0 (some 80) ?_
        refine oD 0 (some 81) ?_
        refine oD 0 (some 82) ?_
        refine oD 1 (some 84) ?_
        refine WD.not (d := (some 83)) (by kernel_rfl) (by kernel_rfl) (k := 2) (by kernel_rfl) (fun _ => (by kernel_rfl)) (by decide) ?_
        refine oD 0 (some 85) ?_
        refine oD 0 (some 86) ?_
        refine WD.a 0 (some 87) (.bool true) h_63 ?_
        refine WD.nil ?_
        exact gW _ (J70 _ _ hF)
       | false =>
        replace hF := ifB_f hF
        refine WD.a 0 (some 73) v68 h_63 ?_
        replace hF := outK_some hF; obtain ⟨v74, h_98, e99, hF⟩ := hF
        replace hF := obind_some hF; obtain ⟨t74, c100, hF⟩ := hF
        have c100 := avBool_some c100
        subst c100
        refine WD.b 0 (some 74) (.bool t74) h_98 e99 ?_
        refine WD.a 0 (some 75) (.bool t74) h_98 ?_
        refine WD.a 0 (some 76) (.bool t74) h_98 ?_
        cases t74 with
        | true =>
         replace hF := ifB_t hF
         refine oD 0 (some 77) ?_
         refine oD 1 (some 79) ?_
         refine WD.not (d := (some 78)) (by kernel_rfl) (by kernel_rfl) (k := 2) (by kernel_rfl) (fun _ => (by kernel_rfl)) (by decide) ?_
         refine oD 0 (some 80) ?_
         refine oD 0 (some 81) ?_
         refine oD 0 (some 82) ?_
         refine oD 1 (some 84) ?_
         refine WD.not (d := (some 83)) (by kernel_rfl) (by kernel_rfl) (k := 2) (by kernel_rfl) (fun _ => (by kernel_rfl)) (by decide) ?_
         refine oD 0 (some 85) ?_
         refine oD 0 (some 86) ?_
         refine WD.a 0 (some 87) (.bool true) h_98 ?_
         refine WD.nil ?_
         exact gW _ (J70 _ _ hF)
        | false =>
         replace hF := ifB_f hF
         refine WD.a 0 (some 77) v68 h_98 ?_
         obtain ⟨t79, e101, hF⟩ := obind_some hF
         refine WD.b 1 (some 79) (.agg t79) h_98 (load_row (P := Try.prog) (h := h_98) (t := 31) (by kernel_rfl) (by kernel_rfl) e101) ?_
         replace hF := callN_some hF; obtain ⟨r78, h_102, e103, hF⟩ := hF
         replace hF := obind_some hF; obtain ⟨t78, c104, hF⟩ := hF
         have c104 := avAgg_some c104
         subst c104
         obtain ⟨k105, hF⟩ := chk_some hF
         refine WD.call (d := (some 78)) (by kernel_rfl) (by kernel_rfl) (by kernel_rfl) e103 (k := 2) (by kernel_rfl) (fun _ => (Eq.trans (by kernel_rfl) k105)) (by decide) ?_
         obtain ⟨t80, e106, hF⟩ := obind_some hF
         obtain ⟨t80_107, e108, hF⟩ := lett_some hF
         refine WD.val (d := (some 80)) (v := .bool t80_107) (h' := h_102) (by kernel_rfl) (by kernel_rfl) (val_of AV.bool e108 (Eq.trans (by kernel_rfl) (neq_other (P := Try.prog) (h := h_102) (t := 31) (lit := false) (by kernel_rfl) e106))) (k := 0) (by kernel_rfl) (fun e => absurd e (by decide)) (by decide) ?_
         refine WD.a 0 (some 81) (.bool t80_107) h_102 ?_
         cases t80_107 with
         | true =>
          replace hF := ifB_t hF
          refine WD.a 0 (some 82) v68 h_102 ?_
          obtain ⟨t84, e109, hF⟩ := obind_some hF
          refine WD.b 1 (some 84) (.agg t84) h_102 (load_row (P := Try.prog) (h := h_102) (t := 31) (by kernel_rfl) (by kernel_rfl) e109) ?_
          replace hF := callN_some hF; obtain ⟨r83, h_110, e111, hF⟩ := hF
          replace hF := obind_some hF; obtain ⟨t83, c112, hF⟩ := hF
          have c112 := avAgg_some c112
          subst c112
          obtain ⟨k113, hF⟩ := chk_some hF
          refine WD.call (d := (some 83)) (by kernel_rfl) (by kernel_rfl) (by kernel_rfl) e111 (k := 2) (by kernel_rfl) (fun _ => (Eq.trans (by kernel_rfl) k113)) (by decide) ?_
          obtain ⟨t85, e114, hF⟩ := obind_some hF
          obtain ⟨t85_115, e116, hF⟩ := lett_some hF
          refine WD.val (d := (some 85)) (v := .bool t85_115) (h' := h_110) (by kernel_rfl) (by kernel_rfl) (val_of AV.bool e116 (Eq.trans (by kernel_rfl) (neq_other (P := Try.prog) (h := h_110) (t := 31) (lit := false) (by kernel_rfl) e114))) (k := 0) (by kernel_rfl) (fun e => absurd e (by decide)) (by decide) ?_
          refine WD.a 0 (some 86) (.bool t85_115) h_110 ?_
          refine WD.a 0 (some 87) (.bool t85_115) h_110 ?_
          refine WD.nil ?_
          exact gW _ (J70 _ _ hF)
         | false =>
          replace hF := ifB_f hF
          refine oD 0 (some 82) ?_
          refine oD 1 (some 84) ?_
          refine WD.not (d := (some 83)) (by kernel_rfl) (by kernel_rfl) (k := 2) (by kernel_rfl) (fun _ => (by kernel_rfl)) (by decide) ?_
          refine oD 0 (some 85) ?_
          refine WD.a 0 (some 86) (.bool false) h_102 ?_
          refine WD.a 0 (some 87) (.bool false) h_102 ?_
          refine WD.nil ?_
          exact gW _ (J70 _ _ hF)
     refine W.blockK (by kernel_rfl) (fun K52 n52 s52 o52 q52 p52 => ?_)
     refine W.loopK (by kernel_rfl) (fun I117 K117 b117 n117 e117 q117 p117 => ?_)
     have L117 : ∀ (m : Nat) (t45 : Int) (h_118 : AHeap), law08_VoteKept_L0 call t0 v32 h_38 h_41 t44 k53 m t45 h_118 = some (rR, hR) → Go w0 m0 (Func.ntmps Try.f6) I117 [(2, t2), (3, .int .i64 t3), (9, r28), (10, v32), (12, (newP h_38)), (13, (newP h_41)), (43, t0), (44, .int .i64 t44), (45, .int .i64 t45)] [] h_118 := by
      intro m
      induction m with
      | zero => intro t45 h_118 hF; cases hF
      | succ m ih117 =>
       intro t45 h_118 hF
       rw [law08_VoteKept_L0_s] at hF; unfold law08_VoteKept_L0b at hF
       refine b117 ?_
       refine oG fun n119 => W.r ?_
       refine oB 46 hF fun t46 hF => ?_
       refine oV [(2, t2), (3, .int .i64 t3), (9, r28), (10, v32), (12, (newP h_38)), (13, (newP h_41)), (43, t0), (44, .int .i64 t44), (45, .int .i64 t45), (46, .bool t46)] (n119 ?_)
       refine W.s (fun K121 n121 e121 q121 p121 => ?_)
       cases t46 with
       | true =>
        refine oT hF fun hF => ?_
        refine oZ (n121 ?_)
        refine W.s (fun K122 n122 e122 q122 p122 => ?_)
        refine W.blockK (by kernel_rfl) (fun K123 n123 s123 o123 q123 p123 => ?_)
        refine oG fun n124 => W.r ?_
        refine oP 47 70 31 .i64 hF fun t47 hF => ?_
        refine oR 48 31 hF fun t48 hF => ?_
        refine oN 15 hF fun h_127 hF => ?_
        refine oW 31 (.agg t48) hF fun h_129 hF => ?_
        refine oV [(2, t2), (3, .int .i64 t3), (9, r28), (10, v32), (12, (newP h_38)), (13, (newP h_41)), (15, (newP h_118)), (43, t0), (44, .int .i64 t44), (45, .int .i64 t45)] (n124 ?_)
        refine oG fun n131 => W.r ?_
        refine oA 49 v32 ?_
        refine oR 50 31 hF fun t50 hF => ?_
        refine oCi hc 51 hF fun t51 h_133 hF => ?_
        refine oA 16 (.int .i64 t51) ?_
        refine oV [(2, t2), (3, .int .i64 t3), (9, r28), (10, v32), (12, (newP h_38)), (13, (newP h_41)), (15, (newP h_118)), (16, .int .i64 t51), (43, t0), (44, .int .i64 t44), (45, .int .i64 t45)] (n131 ?_)
        refine W.s (fun K136 n136 e136 q136 p136 => ?_)
        refine oG fun n137 => W.r ?_
        refine oA 52 (.int .i64 t51) ?_
        refine oB 53 hF fun t53 hF => ?_
        refine oV [(2, t2), (3, .int .i64 t3), (9, r28), (10, v32), (12, (newP h_38)), (13, (newP h_41)), (15, (newP h_118)), (16, .int .i64 t51), (43, t0), (44, .int .i64 t44), (45, .int .i64 t45), (53, .bool t53)] (n137 ?_)
        obtain ⟨k139, e139, hF⟩ := lett_some hF
        have J139 : ∀  (h_140 : AHeap), k139 h_140 = some (rR, hR) → Go w0 m0 (Func.ntmps Try.f6) (K136 .normal) [(2, t2), (3, .int .i64 t3), (9, r28), (10, v32), (12, (newP h_38)), (13, (newP h_41)), (15, (newP h_118)), (16, .int .i64 t51), (43, t0), (44, .int .i64 t44), (45, .int .i64 t45)] [] h_140 := by
         intro  h_140 hF
         rw [e139] at hF
         refine n136 ?_
         refine oG fun n141 => W.r ?_
         refine oA 56 (.int .i64 t51) ?_
         refine oB 57 hF fun t57 hF => ?_
         refine oV [(2, t2), (3, .int .i64 t3), (9, r28), (10, v32), (12, (newP h_38)), (13, (newP h_41)), (15, (newP h_118)), (43, t0), (44, .int .i64 t44), (45, .int .i64 t45), (57, .bool t57)] (n141 ?_)
         cases t57 with
         | true =>
          refine oT hF fun hF => ?_
          refine oG fun n143 => W.r ?_
          refine oR 58 31 hF fun t58 hF => ?_
          refine oW 31 (.agg t58) hF fun h_145 hF => ?_
          refine oV [(2, t2), (3, .int .i64 t3), (9, r28), (12, (newP h_38)), (13, (newP h_41))] (n143 ?_)
          refine W.exit (by kernel_rfl) ?_
          refine o123 (by kernel_rfl) ?_
          refine e122 (e117 ?_)
          refine s52 (by kernel_rfl) ?_
          exact gW _ (J53 _ hF)
         | false =>
          refine oU hF fun hF => ?_
          refine oZ (n123 (n122 (W.r ?_)))
          refine oI 59 .i64 hF fun t59 hF => ?_
          refine oA 45 (.int .i64 t59) ?_
          refine oV [(2, t2), (3, .int .i64 t3), (9, r28), (10, v32), (12, (newP h_38)), (13, (newP h_41)), (43, t0), (44, .int .i64 t44), (45, .int .i64 t59)] (n117 ?_)
          exact gW _ (ih117 _ _ hF)
        cases t53 with
        | true =>
         refine oT hF fun hF => ?_
         refine W.draw (by kernel_rfl) (hc.ok w0) (plan := [0, 1, 2, 3]) (by kernel_rfl) (by kernel_rfl) (by kernel_rfl) ?_
         obtain ⟨t54, e148, hF⟩ := obind_some hF
         refine WD.b 1 (some 54) (.agg t54) h_133 (load_row (P := Try.prog) (h := h_133) (t := 31) (by kernel_rfl) (by kernel_rfl) e148) ?_
         obtain ⟨t55, e149, hF⟩ := obind_some hF
         refine WD.b 1 (some 55) (.agg t55) h_133 (load_row (P := Try.prog) (h := h_133) (t := 31) (by kernel_rfl) (by kernel_rfl) e149) ?_
         obtain ⟨h_150, e151, hF⟩ := obind_some hF
         obtain ⟨k152, hF⟩ := chk_some hF
         refine WD.eff (h' := h_150) (by kernel_rfl) (by kernel_rfl) (Eq.trans (by kernel_rfl) (store_row (P := Try.prog) (h := h_133) (t := 31) (v := (.agg t54)) (by kernel_rfl) (by kernel_rfl) e151)) (k := 2) (by kernel_rfl) (fun _ => (Eq.trans (by kernel_rfl) k152)) (by decide) ?_
         obtain ⟨h_153, e154, hF⟩ := obind_some hF
         refine WD.eff (h' := h_153) (by kernel_rfl) (by kernel_rfl) (Eq.trans (by kernel_rfl) (store_row (P := Try.prog) (h := h_150) (t := 31) (v := (.agg t55)) (by kernel_rfl) (by kernel_rfl) e154)) (k := 2) (by kernel_rfl) (fun _ => (by kernel_rfl)) (by decide) ?_
         refine WD.nil ?_
         refine gW [(2, t2), (3, .int .i64 t3), (9, r28), (10, v32), (12, (newP h_38)), (13, (newP h_41)), (15, (newP h_118)), (16, .int .i64 t51), (43, t0), (44, .int .i64 t44), (45, .int .i64 t45)] ?_
         exact gW _ (J139 _ hF)
        | false =>
         refine oU hF fun hF => ?_
         refine oZ ?_
         exact gW _ (J139 _ hF)
       | false =>
        refine oU hF fun hF => ?_
        refine W.exit (by kernel_rfl) ?_
        refine e121 (e117 ?_)
        refine s52 (by kernel_rfl) ?_
        exact gW _ (J53 _ hF)
     exact gW _ (L117 _ _ _ hF)
  cases t23 with
  | true =>
   replace hF := ifB_t hF
   refine WL.o (some 25) ?_
   refine WL.o (some 26) ?_
   refine oA 27 (.bool true) ?_
   exact lW _ (J15 _ _ hF)
  | false =>
   replace hF := ifB_f hF
   refine oA 25 (.int .i64 t1) ?_
   refine oB 26 hF fun t26 hF => ?_
   refine oA 27 (.bool t26) ?_
   exact lW _ (J15 _ _ hF)
theorem slc_rdi {lo : Nat → Prop} {N : Nat} {h : AHeap} {v : AV} {zs : List Int} (k : Slc N h 1 v (zs.map fun z => [.int .i64 z])) (hN : N ≤ h.next) (hl : ∀ b, lo b → N ≤ b) : RdI lo h v zs := by
 refine ⟨by have := k.len; rw [List.length_map] at this; exact this, fun S H t hS i hi => ?_⟩
 obtain ⟨b, _, h1, h2⟩ := (k.tch t hN fun b hb => hl b (hS b hb)).cell (f := .int .i64) hi
 exact ⟨_, h1, h2⟩
def balC (b : Int × Int) : List AV := [.int .i64 b.1, .int .i64 b.2]
abbrev entP (e : Ent) : Int × Int := (e.t, e.f)
set_option maxRecDepth 100000 in
theorem bals_of {N m : Nat} {h : AHeap} {a : AV} (hp : ArgP Try.prog N h (m + 5) 70 a) : ∃ ls : List (Int × Int), Slc N h 2 a (ls.map balC) := by
 obtain ⟨ls, h1, h2, h3⟩ := hp.slice Try.underlying70
 obtain ⟨xs, rfl, _⟩ := map_of (f := balC) (Q := fun _ => True) ls fun l hl => by
  obtain ⟨ls, rfl, hlen, hf⟩ := (h3 l hl).structEach Try.underlying31
  obtain ⟨l0, l1, rfl⟩ : ∃ l0 l1, ls = [l0, l1] := by
   match ls, hlen with
   | [a, b], _ => exact ⟨a, b, rfl⟩
  obtain ⟨z0, rfl, _⟩ := (hf 0 _ _ rfl rfl).int Try.underlying3
  obtain ⟨z1, rfl, _⟩ := (hf 1 _ _ rfl rfl).int Try.underlying3
  exact ⟨(z0, z1), rfl, trivial⟩
 have hc : Try.prog.cellsOf 31 = 2 := by kernel_rfl
 rw [hc] at h1
 exact ⟨xs, h1⟩
set_option maxRecDepth 100000 in
theorem ints_arg {N m : Nat} {h : AHeap} {a : AV} (hp : ArgP Try.prog N h (m + 5) 32 a) : ∃ zs : List Int, Slc N h 1 a (zs.map fun z => [.int .i64 z]) ∧ zs.length < 9223372036854775808 := by
 obtain ⟨ls, h1, h2, h3⟩ := hp.slice Try.underlying32
 obtain ⟨zs, rfl, _⟩ := ints_of Try.underlying3 h3
 have hc : Try.prog.cellsOf 3 = 1 := by kernel_rfl
 have hb : Try.prog.bytesOf 3 = 8 := by kernel_rfl
 have hrb : reachBytes = 140737488351232 := rfl
 rw [hc] at h1
 rw [hb, List.length_map] at h2
 exact ⟨zs, h1, by omega⟩
structure Lk (H : AHeap) (lo : Nat → Prop) (A : Nat) (v : Int × Int) : Prop where
 row : RowH H A TBal (balC v)
 lt : A < H.next
 nlo : ¬ lo A
def Rest (N : Nat) (lo : Nat → Prop) (H : AHeap) (db : Nat) (s : DS) (B : Nat) (su la : Ent) : Prop := (la = su ∧ ∃ xb x, Sy N lo H db xb s x B su) ∨ Mid N lo H db s B su la
section
variable {N n d D db xb B : Nat} {lo lo' : Nat → Prop} {h0 H H' : AHeap} {s : DS} {x : BoxS} {m y su la : Ent} {t f : Int} {a : AV} {ls : List (Int × Int)} {Q : ARes → AHeap → Prop} {A : Nat} {v : Int × Int}
theorem Lk.tch {S : List Nat} (k : Lk H lo A v) (t : Tch S H H') (hS : A ∉ S) (L : Less lo lo') : Lk H' lo' A v := ⟨k.row.tch t k.lt hS, Nat.lt_of_lt_of_le k.lt t.1, fun h => k.nlo (L _ h)⟩
theorem Lk.alloc (k : Lk H lo A v) (t : Tch [] H H') : Lk H' (shr lo H.next H'.next) A v := k.tch t (fun h => nomatch h) fun _ h => h.1
theorem Rest.crash (Y : Rest N lo H db s B su la) (hn : 1000000 < n) (hB : B < 900000) {torn : Int} (ht : torn < 9223372036854775808) {lv : AV} {zs : List Int} (hz : zs.length < 9223372036854775808) (rd : RdI lo H lv zs) :
  ∃ H' S s' m', wL n (D + 6) (d + 1) false 15 [.ptr db 0, lv, .int .i64 torn] H = some (.ret (.int .i64 0), H') ∧ (m' = su ∨ m' = la) ∧ Crd N lo H' db s' B m' ∧ Tch S H H' ∧ ∀ b ∈ S, lo b := by
 rcases Y with ⟨_, xb, x, Y⟩ | Y
 ·obtain ⟨H', S, s', e, k⟩ := Y.crash (D := D) (d := d) hn hB ht hz rd
  exact ⟨H', S, s', su, e, .inl rfl, k⟩
 ·exact Y.crash hn hB ht hz rd
set_option maxHeartbeats 1000000 in
theorem kept_loop (hn : 1000000 < n) (hs : Slc h0.next h0 2 a (ls.map balC)) (hl : ls.length < 1000000) {h38 h41 : AHeap} (hab : h38.next ≠ h41.next) {k53 : AHeap → R}
  (hk : ∀ H lo s B su la, Rest h0.next lo H db s B su la → B ≤ 5000 → Lk H lo h38.next (entP su) → Lk H lo h41.next (entP la) → Tch [] h0 H → Wp (k53 H) Q) :
  ∀ (todo : List (Int × Int)) (i fu : Nat) (H : AHeap) (lo : Nat → Prop) (s : DS) (x : BoxS) (B : Nat) (m : Ent), ls.drop i = todo → todo.length < fu → Sy h0.next lo H db xb s x B m → B + 40 * todo.length ≤ 5000 → Lk H lo h38.next (entP m) → Lk H lo h41.next (entP m) → h38.next ≠ xb → h41.next ≠ xb → h0.next ≤ h38.next → h0.next ≤ h41.next → Tch [] h0 H →
   Wp (law08_VoteKept_L0 (wL n (D + 6) (d + 1) false) a (.ptr xb 0) h38 h41 (ls.length : Int) k53 fu (i : Int) H) Q
 | _, _, 0, _, _, _, _, _, _, _, hf, _, _, _, _, _, _, _, _, _ => by omega
 | [], i, fu + 1, H, lo, s, x, B, m, hd, hf, Y, hB, ka, kb, _, _, _, _, T => by
  have := dropN hd
  rw [law08_VoteKept_L0_s]
  unfold law08_VoteKept_L0b
  refine Wp.lett (Wp.iff (by rw [decide_eq_false_iff_not]; omega) ?_)
  exact hk H lo s B m m (.inl ⟨rfl, xb, x, Y⟩) (by omega) ka kb T
 | c :: todo, i, fu + 1, H, lo, s, x, B, m, hd, hf, Y, hB, ka, kb, hxa, hxb, h0a, h0b, T => by
  obtain ⟨hi, hci, hd2⟩ := dropC hd
  rw [List.length_cons] at hf hB
  have hs2 := hs.tch T (Nat.le_refl _) (fun b hb => nomatch hb)
  obtain ⟨b, hb, e1, e2⟩ := hs2.row (i := i) (by rw [List.length_map]; exact hi)
  rw [List.getElem_map, hci] at e2
  rw [law08_VoteKept_L0_s]
  unfold law08_VoteKept_L0b
  refine Wp.lett (Wp.ift (by rw [decide_eq_true_eq]; omega) (Wp.obind e1 (Wp.obind e2 (Wp.mnew (Mem.nil [] H) fun h2 M2 => ?_))))
  rw [newP_eq H, newP_eq h38, newP_eq h41]
  refine Wp.sa0 M2 rfl rfl rfl fun h3 M3 => Wp.lr0 M3 rfl ?_
  have t3 := M3.tch
  have k3 := M3.at0.1
  have l3 := M3.at0.2.1
  have Y3 := Y.alloc t3
  have ka3 := ka.alloc t3
  have kb3 := kb.alloc t3
  have nb3 : ¬ shr lo H.next h3.next H.next := nlo_part (Nat.le_refl _) l3
  have hlx := Y.hxb
  obtain ⟨lo4, h4, S4, e, s4, x4, e4, L4, t4, hS4, _, hcase⟩ := Y3.write (n := n) (D := D) (d := d) hn (by omega) c.1 c.2
  have n4 := t4.1
  have fr : ∀ {A : Nat}, ¬ shr lo H.next h3.next A → A ≠ xb → A ∉ S4 := fun h1 h2 hm => (hS4 _ hm).elim h1 h2
  have k4 := k3.tch t4 l3 (fr nb3 (by omega))
  have ka4 := ka3.tch t4 (fr ka3.nlo hxa) L4
  have kb4 := kb3.tch t4 (fr kb3.nlo hxb) L4
  have T4 : Tch [] h0 h4 := (T.trans t3).trans' t4 fun b hb => .inr ((hS4 b hb).elim (Y3.hl b) fun h => h ▸ Y3.hx)
  refine Wp.callN e4 (Wp.obind (avInt_int _ _) (Wp.lett (Wp.lettG fun k139 e139 => ?_)))
  have go : ∀ (H5 : AHeap) (s5 : DS) (x5 : BoxS) (m5 : Ent), Sy h0.next lo4 H5 db xb s5 x5 (B + 40) m5 → Lk H5 lo4 h38.next (entP m5) → Lk H5 lo4 h41.next (entP m5) → Tch [] h0 H5 → e ≠ 40 → Wp (k139 H5) Q := by
   intro H5 s5 x5 m5 Y5 ka5 kb5 T5 he
   rw [e139]
   refine Wp.lett (Wp.iff (beq_f he) (Wp.lettw (by omega) (by omega) ?_))
   rw [show (i : Int) + 1 = ((i + 1 : Nat) : Int) by omega]
   exact kept_loop hn hs hl hab hk todo (i + 1) fu H5 lo4 s5 x5 (B + 40) m5 hd2 (by omega) Y5 (by omega) ka5 kb5 hxa hxb h0a h0b T5
  rcases hcase with ⟨he, Y4⟩ | ⟨he, m', hm1, hm2, _, Y4⟩ | ⟨he, y, hy1, hy2, _, Y4⟩
  ·refine Wp.iff (beq_f (by omega)) ?_
   exact go h4 s4 x4 m Y4 ka4 kb4 T4 (by omega)
  ·refine Wp.ift (beq_t he) (Wp.obind (k4.ldAll rfl) (Wp.obind (k4.ldAll rfl) ?_))
   have hc : balC c = balC (entP m') := by
    show [AV.int .i64 c.1, AV.int .i64 c.2] = [AV.int .i64 m'.t, AV.int .i64 m'.f]
    rw [hm1, hm2]
   refine Wp.stAll ka4.row rfl rfl rfl fun h5 ka5 t5 n5 => ?_
   have k5 := k4.tch t5 (by omega) (fun h => by
    have := List.mem_singleton.1 h
    have := ka.lt
    omega)
   have kb5 := kb4.tch t5 (fun h => hab (List.mem_singleton.1 h).symm) (fun _ h => h)
   have Y5 := Y4.other t5 fun b hb => by
    rw [List.mem_singleton.1 hb]
    exact ⟨ka4.nlo, hxa⟩
   refine Wp.chk (and_t (reLoad_r (by kernel_rfl) (by kernel_rfl) (k5.ldAll rfl)) rfl) (Wp.stAll kb5.row rfl rfl rfl fun h6 kb6 t6 n6 => ?_)
   have ka6 := ka5.tch t6 (by have := ka4.lt; omega) (fun h => hab (List.mem_singleton.1 h))
   have Y6 := Y5.other t6 fun b hb => by
    rw [List.mem_singleton.1 hb]
    exact ⟨kb4.nlo, hxb⟩
   have T6 : Tch [] h0 h6 := (T4.trans' t5 fun b hb => .inr (by rw [List.mem_singleton.1 hb]; exact h0a)).trans' t6 fun b hb => .inr (by rw [List.mem_singleton.1 hb]; exact h0b)
   exact go h6 s4 x4 m' Y6 ⟨hc ▸ ka6, by have := ka4.lt; omega, ka4.nlo⟩ ⟨hc ▸ kb6, by have := kb4.lt; omega, kb4.nlo⟩ T6 (by omega)
  ·refine Wp.iff (beq_f (by omega)) ?_
   rw [e139]
   refine Wp.lett (Wp.ift (beq_t he) (Wp.obind (k4.ldAll rfl) (Wp.stAll kb4.row rfl rfl rfl fun h5 kb5 t5 n5 => ?_)))
   have hc : balC c = balC (entP y) := by
    show [AV.int .i64 c.1, AV.int .i64 c.2] = [AV.int .i64 y.t, AV.int .i64 y.f]
    rw [hy1, hy2]
   have ka5 := ka4.tch t5 (fun h => hab (List.mem_singleton.1 h)) (fun _ h => h)
   refine hk h5 lo4 s4 (B + 40) m y (.inr ⟨Y4.K.tch t5 (fun b hb => .inl (by rw [List.mem_singleton.1 hb]; exact kb4.nlo)), Y4.ord, Y4.hy, Y4.hc, Y4.hl, Nat.le_trans Y4.hN t5.1⟩) (by omega) ka5 ⟨hc ▸ kb5, by have := kb4.lt; omega, kb4.nlo⟩ ?_
   exact T4.trans' t5 fun b hb => .inr (by rw [List.mem_singleton.1 hb]; exact h0b)
end
set_option maxRecDepth 100000 in
set_option maxHeartbeats 1000000 in
theorem voteKept_says (h : AHeap) (hX : h.ex = []) (xs : List AV) (hP : ArgsP Try.prog h.next h 12 [70, 3, 32, 3] xs) : ∃ h', Says Try.prog 6 xs h (.ret (.bool true)) h' := by
 obtain ⟨a, _, rfl, hp0, hP⟩ := args_cons hP
 obtain ⟨a1, _, rfl, hp1, hP⟩ := args_cons hP
 obtain ⟨kv, _, rfl, hp2, hP⟩ := args_cons hP
 obtain ⟨a3, _, rfl, hp3, hP⟩ := args_cons hP
 obtain rfl := args0 hP
 obtain ⟨ls, hs⟩ := bals_of hp0
 obtain ⟨pw, rfl, wpw⟩ := hp1.int Try.underlying3
 obtain ⟨zs, hz, hzl⟩ := ints_arg hp2
 obtain ⟨torn, rfl, wtn⟩ := hp3.int Try.underlying3
 have ipw := (wf_i64 wpw).2
 have itn := (wf_i64 wtn).2
 obtain ⟨n, hn⟩ : ∃ n, 140737488351232 < n := ⟨140737488351233, Nat.lt_succ_self _⟩
 suffices hK : Wp (law08_VoteKept (wL n (0 + 6) (1 + 6) false) n a pw kv torn h) fun r _ => r = .ret (.bool true) by
  obtain ⟨_, h', e, rfl⟩ := hK
  exact ⟨h', law08_VoteKept_ok (wL_ok n (0 + 6) (1 + 6)).says e⟩
 unfold law08_VoteKept
 obtain ⟨h2, e2, S2, t2, hS2⟩ := works_w (n := n) (D := 0) (d := 0) hX (by omega)
 have T2 : Tch [] h h2 := t2.mono fun b hb => .inr (hS2 b hb)
 have hlen := hs.len
 rw [List.length_map] at hlen
 refine Wp.callN e2 (Wp.obind (avBool_bool _) (Wp.lett (Wp.iff rfl (Wp.obind hlen (Wp.lett (Wp.lettG fun j27 e27 => ?_))))))
 by_cases hbig : (ls.length : Int) > 60
 ·refine Wp.ift (by rw [decide_eq_true_eq]; exact hbig) ?_
  rw [e27]
  exact Wp.ift rfl (Wp.ret rfl)
 refine Wp.iff (by rw [decide_eq_false_iff_not]; exact hbig) (Wp.lett ?_)
 rw [e27]
 by_cases hp0 : pw < 0
 ·exact Wp.ift (by rw [decide_eq_true_eq]; exact hp0) (Wp.ret rfl)
 refine Wp.iff (by rw [decide_eq_false_iff_not]; exact hp0) ?_
 obtain ⟨h3, e3, t3, lo4, h4, xb, S4, s4, x4, e4, Y4, _, t4, hS4, _⟩ := fresh (H := h2) (n := n) (D := 0) (d := 1) (N := h.next) (by rw [T2.2.1, hX]) (by omega) T2.1
 have T4 : Tch [] h h4 := (T2.trans t3).trans' t4 fun b hb => .inr (hS4 b hb)
 obtain ⟨h5, S5, e5, Y5, t5, hS5⟩ := Y4.power (n := n) (D := 0) (d := 6) (p := pw) ipw
 have T5 := T4.trans' t5 fun b hb => .inr (Y4.hl b (hS5 b hb))
 obtain ⟨h6, e6, t6⟩ := Y5.now (n := n) (D := 0) (d := 6)
 have Y6 := Y5.alloc t6
 obtain ⟨h7, e7, t7⟩ := Y6.now (n := n) (D := 0) (d := 6)
 have Y7 := Y6.alloc t7
 refine Wp.callN e3 (Wp.callN e4 (Wp.obind (extT_0 _ _) (Wp.obind (extT_1 _ _ _) (Wp.obind (avInt_int _ _) (Wp.lett (Wp.iff rfl (Wp.callN e5 (Wp.obind (avInt_int _ _) (Wp.callN e6 (Wp.obind (avAgg_agg _) (Wp.callN e7 (Wp.obind (avAgg_agg _) ?_))))))))))))
 refine Wp.mnew (Mem.nil [] h7) fun h8 M8 => Wp.mnew M8 fun h9 M9 => ?_
 rw [newP_eq h7, newP_eq h8]
 have l8 := M8.at0.2.1
 refine Wp.stAll M9.at1.1 rfl rfl rfl fun h10 r10 t10 n10 => ?_
 have M10 := Mem.upd (xs := [(h8.next, _, _)]) M9 t10 r10
 refine Wp.stAll M10.at0.1 rfl rfl rfl fun h11 r11 t11 n11 => Wp.obind hlen (Wp.lettG fun k53 e53 => ?_)
 have M11 := Mem.upd (xs := []) M10 t11 r11
 have t12 := M11.tch
 have Y11 := Y7.alloc t12
 have T11 := (((T5.trans t6).trans t7).trans t12)
 have ra := M11.at1.1
 have rb := M11.at0.1
 have la := M11.at1.2.1
 have lb := M11.at0.2.1
 have hxb := Y7.hxb
 have hN7 := Y7.hN
 refine kept_loop (D := 0) (d := 6) (h0 := h) (by omega) hs (by omega) (h38 := h7) (h41 := h8) (by omega) (fun H lo s B su la R hB ka kb T => ?_) ls 0 n h11 _ _ x4 6 ne0 rfl (by omega) Y11 (by omega) ⟨ra, la, nlo_part (Nat.le_refl _) la⟩ ⟨rb, lb, nlo_part (by omega) lb⟩ (by omega) (by omega) (by omega) (by omega) T11
 rw [e53]
 have hl : ∀ b, lo b → h.next ≤ b := by
  rcases R with ⟨_, _, _, R⟩ | R <;> exact R.hl
 have hzH := hz.tch T (Nat.le_refl _) (fun b hb => nomatch hb)
 obtain ⟨h20, S20, s20, m', e20, hm, C20, t20, hS20⟩ := R.crash (n := n) (D := 0) (d := 6) (by omega) (by omega) (torn := torn) itn hzl (slc_rdi hzH T.1 hl)
 have ka20 := ka.tch t20 (fun h => ka.nlo (hS20 _ h)) (fun _ h => h)
 have kb20 := kb.tch t20 (fun h => kb.nlo (hS20 _ h)) (fun _ h => h)
 obtain ⟨lo21, h21, xb21, S21, s21, x21, e21, Y21, hp21, L21, hx21, t21, hS21⟩ := C20.open (n := n) (D := 0) (d := 1) (by omega) (by omega)
 have ka21 := ka20.tch t21 (fun h => ka.nlo (hS21 _ h)) L21
 have kb21 := kb20.tch t21 (fun h => kb.nlo (hS21 _ h)) L21
 refine Wp.callN e20 (Wp.obind (avInt_int _ _) (Wp.lett (Wp.iff rfl (Wp.callN e21 (Wp.obind (extT_0 _ _) (Wp.obind (extT_1 _ _ _) (Wp.obind (avInt_int _ _) (Wp.lettG fun k70 e70 => Wp.lett (Wp.iff rfl (Wp.outK (eqBox xb21 h21) (Wp.obind (avBool_bool _) (Wp.iff rfl ?_))))))))))))
 have fin : ∀ H5, Tch [] h21 H5 → Wp (k70 false H5) fun r _ => r = .ret (.bool true) := by
  intro H5 t5
  have C5 := (Y21.alloc t5).crd hp21
  obtain ⟨lo6, h6, xb6, S6, s6, x6, e6, Y6, _, _, hx6, t6, hS6⟩ := C5.open (n := n) (D := 0) (d := 1) (by omega) (by omega)
  rw [e70]
  refine Wp.iff rfl (Wp.callN e6 (Wp.obind (extT_0 _ _) (Wp.obind (extT_1 _ _ _) (Wp.obind (avInt_int _ _) (Wp.lett (Wp.lettG fun j98 e98 => Wp.ift rfl (Wp.outK (neqBox xb6 h6) (Wp.obind (avBool_bool _) ?_))))))))
  rw [e98]
  obtain ⟨h7, e7, t7⟩ := Y6.now (n := n) (D := 0) (d := 6)
  have r5 := Y21.row.tch t5 Y21.hxb (fun h => nomatch h)
  have l5 := Nat.lt_of_lt_of_le Y21.hxb t5.1
  have r6 := r5.tch t6 l5 (fun h => Y21.hxl (hS6 _ h).1)
  have r7 := r6.tch t7 (Nat.lt_of_lt_of_le l5 t6.1) (fun h => nomatch h)
  obtain ⟨h8, e8, t8⟩ := now_w (n := n) (d := 5) r7 (Nat.lt_of_lt_of_le (Nat.lt_of_lt_of_le l5 t6.1) t7.1)
  rw [Y21.ne] at e8
  refine Wp.lettG fun j105 e105 => Wp.ift rfl (Wp.callN e7 (Wp.obind (avAgg_agg _) (Wp.callN ((wL_b 16).trans e8) (Wp.obind (avAgg_agg _) (Wp.obind (eqBal _ _ _ _) ?_)))))
  rw [e105, decide_eq_true (⟨rfl, rfl⟩ : m'.t = m'.t ∧ m'.f = m'.f)]
  exact Wp.ret rfl
 obtain ⟨h22, e22, t22⟩ := Y21.now (n := n) (D := 0) (d := 6)
 have ka22 := ka21.alloc t22
 have kb22 := kb21.alloc t22
 have Y22 := Y21.alloc t22
 refine Wp.obind (ka21.row.ldAll rfl) (Wp.callN e22 (Wp.obind (avAgg_agg _) (Wp.chk (and_t (reLoad_r (by kernel_rfl) (by kernel_rfl) (ka22.row.ldAll rfl)) rfl) (Wp.obind (eqBal _ _ _ _) (Wp.lett ?_)))))
 by_cases hs1 : m'.t = su.t ∧ m'.f = su.f
 ·rw [decide_eq_true hs1]
  exact Wp.iff rfl (fin h22 t22)
 rw [decide_eq_false hs1]
 have hs2 : m' = la := hm.resolve_left fun h => hs1 (by rw [h]; exact ⟨rfl, rfl⟩)
 obtain ⟨h23, e23, t23⟩ := Y22.now (n := n) (D := 0) (d := 6)
 have kb23 := kb22.alloc t23
 refine Wp.ift rfl (Wp.obind (kb22.row.ldAll rfl) (Wp.callN e23 (Wp.obind (avAgg_agg _) (Wp.chk (and_t (reLoad_r (by kernel_rfl) (by kernel_rfl) (kb23.row.ldAll rfl)) rfl) (Wp.obind (eqBal _ _ _ _) (Wp.lett ?_))))))
 rw [decide_eq_true (show m'.t = (entP la).1 ∧ m'.f = (entP la).2 by rw [hs2]; exact ⟨rfl, rfl⟩)]
 exact fin h23 (t22.trans t23)
end Go.Proofs.Yteecmjmglmpbpaa
