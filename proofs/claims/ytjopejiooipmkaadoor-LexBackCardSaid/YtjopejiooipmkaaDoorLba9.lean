/- What lexBack_proved stands on, part 9 of 10. -/
import Derived.Test.YtjopejiooipmkaaDoorLba8
namespace Go.Proofs.YtjopejiooipmkaaDoor
open Go.RowKit Abs
/-- nothing but blanks and remarks between two places; line's ends too, if no token stands ahead in the line -/
inductive Gap (u : Bytes) (s : Bool) : Nat → Nat → Prop
 | here {p} : Gap u s p p
 | blank {p q} (h : p < u.length) (hb : blankB (u[p]).toNat = true) (k : Gap u s (p + 1) q) : Gap u s p q
 | remark {p q} (h : p < u.length) (hb : (u[p]).toNat = 35) (k : Gap u s (p + spanN restB (u.drop p)) q) : Gap u s p q
 | nl {p q} (h : p < u.length) (hb : (u[p]).toNat = 10) (hs : s = false) (k : Gap u s (p + 1) q) : Gap u s p q
/-- tokens, each where it says, from a place on -/
inductive Places (u : Bytes) : Bool → Nat → List (List AV) → Prop
 | nil {p} : Places u false p []
 | tok {s p q k t m q' rest} (g : Gap u s p q) (hq : q < u.length) (ht : tokenQ u q = .ok k t m q q') (r : Places u true q' rest) : Places u s p (tokC k t m q :: rest)
 | eol {p q rest} (g : Gap u true p q) (hq : q ≤ u.length) (he : endsB u q = true) (r : Places u false q rest) : Places u true p (tokC 6 [] 0 q :: rest)
section
variable {u : Bytes} {p q : Nat} {s : Bool} {l rest : List (List AV)} {x : LR}
theorem Gap.le (g : Gap u s p q) : p ≤ q := by
 induction g with
 | here => exact Nat.le_refl _
 | blank _ _ _ ih => omega
 | remark _ _ _ ih => omega
 | nl _ _ _ _ ih => omega
theorem Places.blank (h : p < u.length) (hb : blankB (u[p]).toNat = true) (k : Places u s (p + 1) rest) : Places u s p rest := by
 cases k with
 | nil => exact .nil
 | tok g hq ht r => exact .tok (.blank h hb g) hq ht r
 | eol g hq he r => exact .eol (.blank h hb g) hq he r
theorem Places.remark (h : p < u.length) (hb : (u[p]).toNat = 35) (k : Places u s (p + spanN restB (u.drop p)) rest) : Places u s p rest := by
 cases k with
 | nil => exact .nil
 | tok g hq ht r => exact .tok (.remark h hb g) hq ht r
 | eol g hq he r => exact .eol (.remark h hb g) hq he r
theorem Places.line (h : p < u.length) (hb : (u[p]).toNat = 10) (k : Places u false (p + 1) rest) : Places u false p rest := by
 cases k with
 | nil => exact .nil
 | tok g hq ht r => exact .tok (.nl h hb rfl g) hq ht r
theorem ref_places (h : RefTo u p s l x) : (p = u.length + 1 → s = false) → p ≤ u.length + 1 → ∀ l' q', x = .ok l' q' → ∃ rest, l' = l ++ rest ∧ Places u s p rest ∧ (u.length < p → rest = []) := by
 induction h with
 | @done p s l h =>
  intro hs hp l' q' e
  cases e
  have := hs (by omega)
  subst this
  exact ⟨[], by simp, .nil, fun _ => rfl⟩
 | @nl p s l x h1 h2 k ih =>
  intro hs hp l' q' e
  obtain ⟨rest, e1, pl, hz⟩ := ih (fun _ => rfl) (by omega) l' q' e
  have pl2 : Places u false p rest := by
   by_cases hl : p < u.length
   ·exact pl.line hl (by
     unfold endsB at h2
     rw [at?_lt hl] at h2
     dsimp only at h2
     have : ((u[p]).toNat : Int) = 10 := by simpa using h2
     exact_mod_cast this)
   ·rw [hz (by omega)]
    exact .nil
  cases s with
  | false => exact ⟨rest, e1, pl2, fun hh => by omega⟩
  | true =>
   rw [if_pos rfl] at e1
   exact ⟨tokC 6 [] 0 p :: rest, by rw [e1]; simp, .eol .here h1 h2 pl2, fun hh => by omega⟩
 | @blank p s l x h1 h2 k ih =>
  intro hs hp l' q' e
  have hp1 : p + 1 = u.length + 1 → s = false := fun hh => by omega
  obtain ⟨rest, e1, pl, hz⟩ := ih hp1 (by omega) l' q' e
  exact ⟨rest, e1, pl.blank h1 h2, fun hh => by omega⟩
 | @remark p s l x h1 h2 k ih =>
  intro hs hp l' q' e
  have hle := span_le restB (u.drop p)
  rw [List.length_drop] at hle
  obtain ⟨rest, e1, pl, hz⟩ := ih (fun hh => by omega) (by omega) l' q' e
  exact ⟨rest, e1, pl.remark h1 h2, fun hh => by omega⟩
 | @tok p s l x k t m a q h1 h2 h3 h4 h5 _ ih =>
  intro hs hp l' q' e
  obtain ⟨_, ha, hpq, hq, _⟩ := token_word h1 h5
  subst ha
  obtain ⟨rest, e1, pl, hz⟩ := ih (fun hh => by omega) (by omega) l' q' e
  exact ⟨tokC k t m a :: rest, by rw [e1]; simp, .tok .here h1 h5 pl, fun hh => by omega⟩
 | @bad p s l e q h1 h2 h3 h4 h5 =>
  intro hs hp l' q' e
  cases e
theorem lexAll_places {q : Nat} (hu : u.length ≤ 2048) (hh : lexAll u = .ok l q) : Places u false 0 l := by
 have h1 : RefTo u 0 false [] (lexAll u).norm := by
  unfold lexAll
  rw [if_neg (by omega)]
  exact lex_to _ _ _ (by omega) (by omega)
 rw [hh] at h1
 obtain ⟨rest, e, pl, _⟩ := ref_places h1 (by omega) (by omega) l 0 rfl
 rw [e]
 exact pl
/-- the last one is a line's end -/
theorem Places.last (h : Places u s p l) : (s = true → l ≠ []) ∧ (l ≠ [] → ∃ l0 q, l = l0 ++ [tokC 6 [] 0 q]) := by
 induction h with
 | nil => exact ⟨by simp, by simp⟩
 | @tok s p q k t m q' rest g hq ht r ih =>
  refine ⟨by simp, fun _ => ?_⟩
  obtain ⟨l0, q0, e⟩ := ih.2 (ih.1 rfl)
  exact ⟨tokC k t m q :: l0, q0, by rw [e]; rfl⟩
 | @eol p q rest g hq he r ih =>
  refine ⟨by simp, fun _ => ?_⟩
  by_cases hr : rest = []
  ·exact ⟨[], q, by rw [hr]; rfl⟩
  ·obtain ⟨l0, q0, e⟩ := ih.2 hr
   exact ⟨tokC 6 [] 0 q :: l0, q0, by rw [e]; rfl⟩
end
end Go.Proofs.YtjopejiooipmkaaDoor

namespace Go.Proofs.YtjopejiooipmkaaDoor
open Go.RowKit Abs
section
variable {a r w : Bytes} {p q : Nat} {f : Nat → Bool}
end
def shR (k : Nat) : List AV → List AV
 | [a, b, c, .int .i64 x] => [a, b, c, .int .i64 (x + (k : Int))]
 | r => r
def TR.sh (k : Nat) : TR → TR
 | .ok kk t m a q => .ok kk t m (k + a) (k + q)
 | .bad e q => .bad e (k + q)
section
variable {pre b : Bytes} {p q : Nat} {f : Nat → Bool}
theorem at?_end : at? (pre ++ b) (pre.length + p) = at? b p := by
 unfold at?
 rw [List.getElem?_append_right (by omega), Nat.add_sub_cancel_left]
theorem drop_end : (pre ++ b).drop (pre.length + p) = b.drop p := by
 rw [List.drop_append]
 simp
theorem readQ_end : readQ (pre ++ b) (pre.length + p) = (readQ b p).sh pre.length := by
 unfold readQ
 rw [at?_end]
 cases h : at? b p with
 | none => rfl
 | some c =>
  dsimp only
  have e1 : readWordQ (pre ++ b) (pre.length + p) = (readWordQ b p).sh pre.length := by
   unfold readWordQ
   rw [drop_end, Nat.add_assoc, at?_end]
   split
   ·split
    ·rfl
    ·rfl
   ·show TR.bad 3 _ = TR.bad 3 _
    rw [Nat.add_assoc]
  have e2 : readNumQ (pre ++ b) (pre.length + p) = (readNumQ b p).sh pre.length := by
   unfold readNumQ
   rw [drop_end, at?_end]
   split
   ·rfl
   ·split
    ·show TR.ok _ _ _ _ _ = TR.ok _ _ _ _ _
     rw [Nat.add_assoc]
    ·show TR.bad 3 _ = TR.bad 3 _
     rw [Nat.add_assoc]
  have e3 : readTextQ (pre ++ b) (pre.length + p) = (readTextQ b p).sh pre.length := by
   unfold readTextQ
   rw [drop_end]
   cases quotedQ (b.drop p) 64 with
   | ok l q =>
    show TR.ok _ _ _ _ _ = TR.ok _ _ _ _ _
    rw [Nat.add_assoc]
   | bad e q =>
    show TR.bad _ _ = TR.bad _ _
    rw [Nat.add_assoc]
  rw [e1, e2, e3, drop_end]
  split
  ·rfl
  ·split
   ·rfl
   ·split
    ·rfl
    ·split
     ·rfl
     ·rfl
def LR.sh (l0 : List (List AV)) (k : Nat) : LR → LR
 | .ok l _ => .ok (l0 ++ l.map (shR k)) 0
 | .bad e q => .bad e (k + q)
end
section
variable {u : Bytes} {p : Nat} {s : Bool} {l : List (List AV)} {x y : LR}
theorem ends_some (h : p < u.length) (he : endsB u p = true) : (u[p]).toNat = 10 := by
 unfold endsB at he
 rw [at?_lt h] at he
 dsimp only at he
 have : ((u[p]).toNat : Int) = 10 := by simpa using he
 exact_mod_cast this
theorem ref_one (h : RefTo u p s l x) : RefTo u p s l y → x = y := by
 induction h with
 | @done p s l h =>
  intro k
  cases k with
  | done => rfl
  | nl => omega
  | blank => omega
  | remark => omega
  | tok => omega
  | bad => omega
 | @nl p s l x h1 h2 _ ih =>
  intro k
  cases k with
  | done => omega
  | nl _ _ k => exact ih k
  | blank h3 h4 k => rw [ends_some h3 h2] at h4; cases h4
  | remark h3 h4 k => rw [ends_some h3 h2] at h4; cases h4
  | tok h3 h4 => rw [h2] at h4; cases h4
  | bad h3 h4 => rw [h2] at h4; cases h4
 | @blank p s l x h1 h2 _ ih =>
  intro k
  cases k with
  | done => omega
  | nl h3 h4 k => rw [ends_some h1 h4] at h2; cases h2
  | blank h3 h4 k => exact ih k
  | remark h3 h4 k => rw [h4] at h2; cases h2
  | tok h3 h4 h5 => rw [h2] at h5; cases h5
  | bad h3 h4 h5 => rw [h2] at h5; cases h5
 | @remark p s l x h1 h2 _ ih =>
  intro k
  cases k with
  | done => omega
  | nl h3 h4 k => rw [ends_some h1 h4] at h2; cases h2
  | blank h3 h4 k => rw [h2] at h4; cases h4
  | remark h3 h4 k => exact ih k
  | tok h3 h4 h5 h6 => exact absurd h2 h6
  | bad h3 h4 h5 h6 => exact absurd h2 h6
 | @tok p s l x k t m a' q h1 h2 h3 h4 h5 _ ih =>
  intro k
  cases k with
  | done => omega
  | nl g3 g4 k => rw [h2] at g4; cases g4
  | blank g3 g4 k => rw [h3] at g4; cases g4
  | remark g3 g4 k => exact absurd g4 h4
  | tok g3 g4 g5 g6 g7 k =>
   rw [h5] at g7
   cases g7
   exact ih k
  | bad g3 g4 g5 g6 g7 => rw [h5] at g7; cases g7
 | @bad p s l e q h1 h2 h3 h4 h5 =>
  intro k
  cases k with
  | nl g3 g4 k => rw [h2] at g4; cases g4
  | blank g3 g4 k => rw [h3] at g4; cases g4
  | remark g3 g4 k => exact absurd g4 h4
  | tok g3 g4 g5 g6 g7 k => rw [h5] at g7; cases g7
  | bad g3 g4 g5 g6 g7 =>
   rw [h5] at g7
   cases g7
   rfl
  | done => omega
theorem lexAll_to (hu : u.length ≤ 2048) : RefTo u 0 false [] (lexAll u).norm := by
 unfold lexAll
 rw [if_neg (by omega)]
 exact lex_to _ _ _ (by omega) (by omega)
end
end Go.Proofs.YtjopejiooipmkaaDoor

namespace Go.Proofs.YtjopejiooipmkaaDoor
open Go.RowKit Abs
structure Tk where
 k : Int
 t : Bytes
 m : Int
 a : Nat
noncomputable def Tk.c (x : Tk) : List AV := tokC x.k x.t x.m x.a
noncomputable def Tk.w (x : Tk) : Bytes := wordQ x.k x.t x.m
/-- the same, but for the places -/
def SameT : List Tk → List Tk → Prop
 | [], [] => True
 | x :: l, y :: r => x.k = y.k ∧ x.t = y.t ∧ x.m = y.m ∧ SameT l r
 | _, _ => False
inductive PlacesT (u : Bytes) : Bool → Nat → List Tk → Prop
 | nil {p} : PlacesT u false p []
 | tok {s p q' x rest} (g : Gap u s p x.a) (hq : x.a < u.length) (ht : tokenQ u x.a = .ok x.k x.t x.m x.a q') (r : PlacesT u true q' rest) : PlacesT u s p (x :: rest)
 | eol {p q rest} (g : Gap u true p q) (hq : q ≤ u.length) (he : endsB u q = true) (r : PlacesT u false q rest) : PlacesT u true p (⟨6, [], 0, q⟩ :: rest)
/-- what is written -/
noncomputable def wr : Bool → List Tk → Bytes
 | _, [] => []
 | s, x :: r => if x.k ≠ 6 then (if s = true then [32] else []) ++ (x.w ++ wr true r) else (if r ≠ [] then [10] else []) ++ wr false r
/-- nothing, or a blank or a line's end -/
def Stop : Bytes → Prop
 | [] => True
 | c :: _ => c.toNat = 32 ∨ c.toNat = 9 ∨ c.toNat = 10
section
variable {u z r r1 r2 : Bytes} {p q q' : Nat} {s : Bool} {l : List (List AV)} {ts ts' : List Tk} {k m : Int} {t : Bytes} {f : Nat → Bool}
theorem places_t (h : Places u s p l) : ∃ ts, l = ts.map Tk.c ∧ PlacesT u s p ts := by
 induction h with
 | nil => exact ⟨[], rfl, .nil⟩
 | @tok s p q k t m q' rest g hq ht r ih =>
  obtain ⟨ts, e, h⟩ := ih
  exact ⟨⟨k, t, m, q⟩ :: ts, by rw [e]; rfl, .tok g hq ht h⟩
 | @eol p q rest g hq he r ih =>
  obtain ⟨ts, e, h⟩ := ih
  exact ⟨⟨6, [], 0, q⟩ :: ts, by rw [e]; rfl, .eol g hq he h⟩
theorem SameT.wr : ∀ {ts ts' : List Tk} {s : Bool}, SameT ts ts' → wr s ts = wr s ts'
 | [], [], _, _ => rfl
 | [], _ :: _, _, h => h.elim
 | _ :: _, [], _, h => h.elim
 | x :: l, y :: r, s, ⟨h1, h2, h3, h4⟩ => by
  have e1 := SameT.wr (s := true) h4
  have e2 := SameT.wr (s := false) h4
  have e3 : (l ≠ []) = (r ≠ []) := by
   cases l <;> cases r <;> first | rfl | exact h4.elim | skip
   simp
  unfold Go.Proofs.YtjopejiooipmkaaDoor.wr Tk.w
  rw [h1, h2, h3, e1, e2]
  simp only [e3]
theorem span_all : ∀ {z : Bytes}, (∀ i (h : i < z.length), f (z[i]).toNat = true) → (∀ c w, r = c :: w → f c.toNat = false) → spanN f (z ++ r) = z.length
 | [], _, hr => by
  cases r with
  | nil => rfl
  | cons c w =>
   show spanN f (c :: w) = 0
   unfold spanN
   rw [hr c w rfl]
   rfl
 | x :: z, hz, hr => by
  show spanN f (x :: (z ++ r)) = z.length + 1
  unfold spanN
  have h0 := hz 0 (by simp)
  simp only [List.getElem_cons_zero] at h0
  rw [if_pos h0, span_all (z := z) (fun i h => by have := hz (i + 1) (by simp; omega); simpa using this) hr]
theorem all_span (h : z.length ≤ spanN f (z ++ r)) : ∀ i (h : i < z.length), f (z[i]).toNat = true := by
 intro i hi
 have := span_lt (f := f) (w := z ++ r) (i := i) (by omega) (by simp; omega)
 rw [List.getElem_append_left hi] at this
 exact this
theorem stop_f (h : Stop r) (h1 : f 32 = false) (h2 : f 9 = false) (h3 : f 10 = false) : ∀ c w, r = c :: w → f c.toNat = false := by
 intro c w e
 subst e
 rcases h with h | h | h <;> rw [h] <;> assumption
theorem sign_head (c : Nat) (hc : c < 256) : ∃ x w, signB c = x :: w ∧ x.toNat ≠ 34 := by
 rcases cls c with ⟨e, h, _⟩ | ⟨h, hp, h1, h2⟩ | ⟨h, _⟩
 ·exact ⟨92, [e], h, by decide⟩
 ·exact ⟨UInt8.ofNat c, [], h, by rw [ofNat_toNat hc]; exact h1⟩
 ·exact ⟨92, _, h, by decide⟩
theorem scan_fwd : ∀ (mid : Bytes) (fuel : Nat) (pre acc : Bytes), mid.length < fuel → acc.length + mid.length ≤ 64 → scanQ (pre ++ ((mid.flatMap fun a => signB a.toNat) ++ 34 :: r)) 64 fuel pre.length acc = .ok (acc ++ mid) (pre.length + (mid.flatMap fun a => signB a.toNat).length + 1)
 | [], fuel, pre, acc, hf, _ => by
  cases fuel with
  | zero => simp at hf
  | succ fuel =>
   rw [scanQ, if_pos]
   ·simp
   ·rw [at?_lt (by simp)]
    simp
 | x :: mid, fuel, pre, acc, hf, hl => by
  cases fuel with
  | zero => simp at hf
  | succ fuel =>
   simp only [List.length_cons] at hf hl
   have hx := x.toNat_lt
   obtain ⟨y, w, e1, e2⟩ := sign_head x.toNat hx
   rw [scanQ, if_neg, if_neg (by omega), formAt_W]
   ·have e3 : (pre ++ (((x :: mid).flatMap fun a => signB a.toNat) ++ 34 :: r)).drop pre.length = signB x.toNat ++ ((mid.flatMap fun a => signB a.toNat) ++ 34 :: r) := by simp
    rw [e3, formW_sign hx]
    have ih := scan_fwd mid fuel (pre ++ signB x.toNat) (acc ++ [x]) (by omega) (by simp; omega)
    simp only [shiftF]
    rw [UInt8.ofNat_toNat]
    have e4 : pre ++ (((x :: mid).flatMap fun a => signB a.toNat) ++ 34 :: r) = (pre ++ signB x.toNat) ++ ((mid.flatMap fun a => signB a.toNat) ++ 34 :: r) := by simp
    rw [e4, show pre.length + (signB x.toNat).length = (pre ++ signB x.toNat).length by simp, ih]
    simp [Nat.add_assoc]
   ·rw [at?_lt (by simp; omega)]
    simp only [List.getElem_append_right (Nat.le_refl _), Nat.sub_self, List.flatMap_cons, e1, List.cons_append, List.getElem_cons_zero]
    simpa using e2
theorem flat_len1 (w : Bytes) : w.length ≤ (w.flatMap fun a => signB a.toNat).length := by
 induction w with
 | nil => simp
 | cons a w ih =>
  obtain ⟨x, v, e, _⟩ := sign_head a.toNat a.toNat_lt
  rw [List.flatMap_cons, List.length_append, List.length_cons, e, List.length_cons]
  omega
theorem quoted_fwd {l : Bytes} (hl : l.length ≤ 64) : quotedQ (quoteB l ++ r) 64 = .ok l (quoteB l).length := by
 unfold quotedQ quoteB
 have h := scan_fwd (r := r) l ((34 :: (l.flatMap fun (a : UInt8) => signB a.toNat) ++ [34] ++ r).length + 1) [34] [] (by
  have := flat_len1 l
  simp only [List.length_cons, List.length_append, List.length_nil]
  omega) (by simpa using hl)
 have e : (34 :: (l.flatMap fun (a : UInt8) => signB a.toNat) ++ [34] ++ r : Bytes) = [34] ++ ((l.flatMap fun a => signB a.toNat) ++ 34 :: r) := by simp
 rw [if_pos (by rw [e]; rfl)]
 rw [e] at h ⊢
 refine Eq.trans (show scanQ _ 64 _ 1 [] = _ from h) ?_
 simp [Nat.add_comm]
end
end Go.Proofs.YtjopejiooipmkaaDoor

namespace Go.Proofs.YtjopejiooipmkaaDoor
open Go.RowKit Abs
def StopAt (u : Bytes) (q : Nat) : Prop := endsB u q = true ∨ ((at? u q).map blankB = some true)
section
variable {u z r r1 r2 : Bytes} {p q q' : Nat} {s : Bool} {l : List (List AV)} {ts ts' : List Tk} {k m : Int} {t : Bytes} {f : Nat → Bool}
theorem at?_app (hp : p < z.length) : at? (z ++ r) p = at? z p := by
 rw [at?_lt hp, at?_lt (by rw [List.length_append]; omega), List.getElem_append_left hp]
theorem span_short : ∀ {z : Bytes}, spanN f (z ++ r1) < z.length → spanN f (z ++ r2) = spanN f (z ++ r1)
 | [], h => by simp at h
 | x :: z, h => by
  have h : spanN f (x :: (z ++ r1)) < (x :: z).length := h
  show spanN f (x :: (z ++ r2)) = spanN f (x :: (z ++ r1))
  unfold spanN at h ⊢
  split
  ·rename_i hx
   rw [if_pos hx] at h
   rw [span_short (z := z) (by simp at h; omega)]
  ·rfl
theorem take_app {n : Nat} (h : n ≤ z.length) : (z ++ r).take n = z.take n := List.take_append_of_le_length h
theorem stop_at (h : Stop r) : StopAt (z ++ r) z.length := by
 unfold StopAt endsB
 cases r with
 | nil =>
  left
  rw [at?_ge (by simp)]
 | cons c w =>
  rw [at?_lt (by simp)]
  simp only [List.getElem_append_right (Nat.le_refl _), Nat.sub_self, List.getElem_cons_zero]
  rcases h with h | h | h
  ·right
   rw [h]
   rfl
  ·right
   rw [h]
   rfl
  ·left
   rw [h]
   rfl
theorem stop_58 (h : Stop r) : at? (z ++ r) z.length ≠ some 58 := by
 cases r with
 | nil => rw [at?_ge (by simp)]; simp
 | cons c w =>
  rw [at?_lt (by simp)]
  simp only [List.getElem_append_right (Nat.le_refl _), Nat.sub_self, List.getElem_cons_zero]
  intro e
  simp only [Option.some.injEq] at e
  rcases h with h | h | h <;> omega
theorem read_stop (h : readQ (z ++ r1) 0 = .ok k t m 0 z.length) (s2 : Stop r2) : readQ (z ++ r2) 0 = .ok k t m 0 z.length := by
 have hz : 0 < z.length := by
  by_cases h0 : 0 < (z ++ r1).length
  ·exact readQ_lt h0 h
  ·exfalso
   unfold readQ at h
   rw [at?_ge (by omega)] at h
   cases h
 unfold readQ at h ⊢
 rw [at?_app hz] at h ⊢
 rw [at?_lt hz] at h ⊢
 dsimp only at h ⊢
 split at h
 ·rename_i hs
  rw [if_pos hs]
  unfold readWordQ at h ⊢
  simp only [List.drop_zero, Nat.zero_add] at h ⊢
  split at h
  ·rename_i h16
   split at h
   ·rename_i h58
    simp only [TR.ok.injEq] at h
    obtain ⟨rfl, rfl, rfl, _, e⟩ := h
    have e2 := span_short (r1 := r1) (r2 := r2) (f := wordB) (z := z) (by omega)
    rw [e2, if_pos h16, if_pos (by rw [at?_app (by omega)] at h58 ⊢; exact h58), take_app (by omega), take_app (by omega), e]
   ·simp only [TR.ok.injEq] at h
    obtain ⟨rfl, rfl, rfl, _, e⟩ := h
    have e2 := span_all (f := wordB) (r := r2) (all_span (f := wordB) (r := r1) (z := z) (by omega)) (stop_f s2 (by decide) (by decide) (by decide))
    rw [e2, if_pos (by omega), if_neg (stop_58 s2), take_app (Nat.le_refl _), e, take_app (Nat.le_refl _)]
  ·cases h
 ·rename_i hs
  rw [if_neg hs]
  split at h
  ·rename_i hd
   rw [if_pos hd]
   unfold readNumQ at h ⊢
   simp only [List.drop_zero, Nat.zero_add] at h ⊢
   rw [at?_app hz] at h ⊢
   split at h
   ·rename_i h48
    rw [if_pos h48]
    exact h
   ·rename_i h48
    rw [if_neg h48]
    split at h
    ·rename_i h4
     simp only [TR.ok.injEq] at h
     obtain ⟨rfl, rfl, rfl, _, e⟩ := h
     have e2 := span_all (f := digB) (r := r2) (all_span (f := digB) (r := r1) (z := z) (by omega)) (stop_f s2 (by decide) (by decide) (by decide))
     rw [e2, if_pos (by omega), take_app (Nat.le_refl _), e, take_app (Nat.le_refl _)]
    ·cases h
  ·rename_i hd
   rw [if_neg hd]
   split at h
   ·rename_i h34
    rw [if_pos h34]
    unfold readTextQ at h ⊢
    simp only [List.drop_zero, Nat.zero_add] at h ⊢
    cases hq : quotedQ (z ++ r1) 64 with
    | bad e q' => rw [hq] at h; cases h
    | ok l q' =>
     rw [hq] at h
     simp only [TR.ok.injEq] at h
     obtain ⟨rfl, rfl, rfl, _, e⟩ := h
     subst e
     have hw := (quoted_word hq).1
     rw [take_app (Nat.le_refl _), List.take_length] at hw
     have h3 := (quoted_fact hq).2.2.1 (by decide)
     have := quoted_fwd (r := r2) (l := l) (by omega)
     rw [← hw] at this
     rw [this]
   ·rename_i h34
    rw [if_neg h34]
    split at h
    ·rename_i hc
     rw [if_pos hc]
     simp only [List.drop_zero, Nat.zero_add] at h ⊢
     simp only [TR.ok.injEq] at h
     obtain ⟨rfl, rfl, rfl, _, e⟩ := h
     rw [take_app (r := r2) (by omega), take_app (r := r1) (by omega), ← e]
    ·cases h
theorem first_not (hp : p < u.length) (h : readQ u p = .ok k t m q q') : endsB u p = false ∧ blankB (u[p]).toNat = false ∧ (u[p]).toNat ≠ 35 := by
 unfold readQ at h
 rw [at?_lt hp] at h
 dsimp only at h
 unfold endsB
 rw [at?_lt hp]
 dsimp only
 generalize (u[p]).toNat = c at *
 refine ⟨?_, ?_, ?_⟩
 ·by_cases hc : c = 10
  ·subst hc
   cases h
  ·exact beq_f (by omega)
 ·by_cases hc : c = 32
  ·subst hc
   cases h
  ·by_cases hc2 : c = 9
   ·subst hc2
    cases h
   ·unfold blankB
    rw [beq_f (by omega), beq_f (by omega)]
    rfl
 ·intro hc
  subst hc
  cases h
/-- a token, written anywhere ahead of a stop -/
theorem token_at (pre : Bytes) (hp : p < u.length) (h : tokenQ u p = .ok k t m p q) (hr : Stop r) : tokenQ (pre ++ (wordQ k t m ++ r)) pre.length = .ok k t m pre.length (pre.length + (wordQ k t m).length) ∧ 0 < (wordQ k t m).length ∧ readQ (pre ++ (wordQ k t m ++ r)) pre.length = .ok k t m pre.length (pre.length + (wordQ k t m).length) := by
 obtain ⟨hR, _, hpq, hqu, hst, hw, _⟩ := token_word hp h
 have hl : (wordQ k t m).length = q - p := by rw [← hw, List.length_take, List.length_drop]; omega
 have e1 : u = u.take p ++ u.drop p := (List.take_append_drop p u).symm
 have e2 : (u.take p).length = p := by rw [List.length_take]; omega
 have h0 : readQ (u.drop p) 0 = .ok k t m 0 (wordQ k t m).length := by
  have := readQ_end (pre := u.take p) (b := u.drop p) (p := 0)
  rw [← e1, e2, Nat.add_zero, hR] at this
  cases hx : readQ (u.drop p) 0 with
  | bad e q' => rw [hx] at this; cases this
  | ok k' t' m' a' q' =>
   rw [hx] at this
   simp only [TR.sh, TR.ok.injEq] at this
   obtain ⟨rfl, rfl, rfl, h4, h5⟩ := this
   rw [show a' = 0 by omega, show q' = (wordQ k t m).length by omega]
 have e3 : u.drop p = wordQ k t m ++ u.drop q := by
  rw [← hw]
  have := (List.take_append_drop (q - p) (u.drop p)).symm
  rw [List.drop_drop, show p + (q - p) = q by omega] at this
  exact this
 rw [e3] at h0
 have h1 := read_stop (r2 := r) h0 hr
 have h2 := readQ_end (pre := pre) (b := wordQ k t m ++ r) (p := 0)
 rw [h1, Nat.add_zero] at h2
 have h3 : readQ (pre ++ (wordQ k t m ++ r)) pre.length = .ok k t m pre.length (pre.length + (wordQ k t m).length) := h2
 refine ⟨?_, by omega, h3⟩
 unfold tokenQ
 rw [h3]
 dsimp only
 rw [if_pos]
 have := stop_at (z := pre ++ wordQ k t m) hr
 rw [List.append_assoc, List.length_append] at this
 exact this
theorem wr_tok {x : Tk} {rs : List Tk} (h : x.k ≠ 6) : wr s (x :: rs) = (if s = true then [32] else []) ++ (x.w ++ wr true rs) := by rw [wr, if_pos h]
theorem wr_eol {x : Tk} {rs : List Tk} (h : x.k = 6) : wr s (x :: rs) = (if rs ≠ [] then [10] else []) ++ wr false rs := by rw [wr, if_neg (by simpa using h)]
theorem stop_wr (h : PlacesT u true p ts) : Stop (wr true ts) := by
 cases h with
 | @tok s p q' x rest g hq ht r =>
  have hk := (token_word hq ht).2.2.2.2.2.2.2.2.1
  unfold wr
  rw [if_pos (by omega), if_pos rfl]
  exact .inl rfl
 | @eol p q rest g hq he r =>
  unfold wr
  rw [if_neg (by simp)]
  split
  ·exact .inr (.inr rfl)
  ·rename_i hr
   have : rest = [] := by simpa using hr
   subst this
   trivial
/-- WHAT IS WRITTEN IS READ AGAIN -/
theorem wr_ref (h : PlacesT u s p ts) : ∀ (pre : Bytes) (l0 : List (List AV)), ∃ ts', SameT ts' ts ∧ RefTo (pre ++ wr s ts) pre.length s l0 (.ok (l0 ++ ts'.map Tk.c) 0) := by
 induction h with
 | @nil p =>
  intro pre l0
  refine ⟨[], trivial, ?_⟩
  have e : pre ++ wr false [] = pre := by unfold wr; simp
  rw [e]
  refine RefTo.nl (Nat.le_refl _) (by unfold endsB; rw [at?_ge (Nat.le_refl _)]) ?_
  rw [if_neg (by decide)]
  simpa using RefTo.done (u := pre) (p := pre.length + 1) (s := false) (l := l0) (by omega)
 | @tok s p q' x rest g hq ht r ih =>
  intro pre l0
  have hk := (token_word hq ht).2.2.2.2.2.2.2.2.1
  have hst := stop_wr r
  obtain ⟨pre1, e1⟩ : ∃ pre1, pre1 = pre ++ (if s = true then [32] else []) := ⟨_, rfl⟩
  obtain ⟨h1, h2, h3⟩ := token_at (r := wr true rest) pre1 hq ht hst
  obtain ⟨ts', hs, hR⟩ := ih (pre1 ++ x.w) (l0 ++ [tokC x.k x.t x.m pre1.length])
  refine ⟨⟨x.k, x.t, x.m, pre1.length⟩ :: ts', ⟨rfl, rfl, rfl, hs⟩, ?_⟩
  have e2 : pre ++ wr s (x :: rest) = pre1 ++ (wordQ x.k x.t x.m ++ wr true rest) := by
   conv => lhs; unfold wr
   rw [if_pos (by omega), e1, List.append_assoc]
   rfl
  have e3 : pre1 ++ x.w ++ wr true rest = pre1 ++ (wordQ x.k x.t x.m ++ wr true rest) := by rw [List.append_assoc]; rfl
  rw [e3, List.length_append] at hR
  rw [e2]
  have hlt : pre1.length < (pre1 ++ (wordQ x.k x.t x.m ++ wr true rest)).length := by simp only [List.length_append]; omega
  obtain ⟨f1, f2, f3⟩ := first_not hlt h3
  have hT : RefTo (pre1 ++ (wordQ x.k x.t x.m ++ wr true rest)) pre1.length s l0 (.ok (l0 ++ (⟨x.k, x.t, x.m, pre1.length⟩ :: ts').map Tk.c) 0) := by
   refine RefTo.tok hlt f1 f2 f3 h1 ?_
   have e4 : l0 ++ List.map Tk.c (⟨x.k, x.t, x.m, pre1.length⟩ :: ts') = l0 ++ [tokC x.k x.t x.m pre1.length] ++ ts'.map Tk.c := by simp [Tk.c]
   rw [e4]
   exact hR
  cases s with
  | false =>
   rw [if_neg (by decide), List.append_nil] at e1
   subst e1
   exact hT
  | true =>
   rw [if_pos rfl] at e1
   have e5 : pre1.length = pre.length + 1 := by rw [e1]; simp
   have hlt2 : pre.length < (pre1 ++ (wordQ x.k x.t x.m ++ wr true rest)).length := by omega
   refine RefTo.blank hlt2 ?_ (by rw [← e5]; exact hT)
   have : (pre1 ++ (wordQ x.k x.t x.m ++ wr true rest))[pre.length]'hlt2 = 32 := by
    simp only [e1]
    simp
   rw [this]
   rfl
 | @eol p q rest g hq he r ih =>
  intro pre l0
  by_cases hr : rest = []
  ·subst hr
   refine ⟨[⟨6, [], 0, pre.length⟩], ⟨rfl, rfl, rfl, trivial⟩, ?_⟩
   have e : pre ++ wr true [⟨6, [], 0, q⟩] = pre := by
    unfold wr
    rw [if_neg (by simp), if_neg (by simp)]
    unfold wr
    simp
   rw [e]
   refine RefTo.nl (Nat.le_refl _) (by unfold endsB; rw [at?_ge (Nat.le_refl _)]) ?_
   rw [if_pos rfl]
   exact RefTo.done (by omega)
  ·obtain ⟨ts', hs, hR⟩ := ih (pre ++ [10]) (l0 ++ [tokC 6 [] 0 pre.length])
   refine ⟨⟨6, [], 0, pre.length⟩ :: ts', ⟨rfl, rfl, rfl, hs⟩, ?_⟩
   have e : pre ++ wr true (⟨6, [], 0, q⟩ :: rest) = pre ++ [10] ++ wr false rest := by
    conv => lhs; unfold wr
    rw [if_neg (by simp), if_pos hr, List.append_assoc]
   rw [e]
   have e4 : l0 ++ List.map Tk.c (⟨6, [], 0, pre.length⟩ :: ts') = l0 ++ [tokC 6 [] 0 pre.length] ++ ts'.map Tk.c := by simp [Tk.c]
   rw [e4]
   refine RefTo.nl (by simp) ?_ ?_
   ·unfold endsB
    rw [at?_lt (by simp)]
    simp
   ·rw [if_pos rfl]
    simpa using hR
/-- and it is no longer -/
theorem wr_len (h : PlacesT u s p ts) : ts ≠ [] → ∃ q1, p ≤ q1 ∧ (wr false ts).length + q1 ≤ u.length ∧ (∀ x r, ts = x :: r → x.k ≠ 6 → ¬ StopAt u q1) := by
 induction h with
 | nil => intro hh; exact absurd rfl hh
 | @tok s p q' x rest g hq ht r ih =>
  intro _
  obtain ⟨hR, _, hpq, hqu, hst, hw, _, hk1, hk5, _⟩ := token_word hq ht
  have hl : (wordQ x.k x.t x.m).length = q' - x.a := by rw [← hw, List.length_take, List.length_drop]; omega
  obtain ⟨f1, f2, _⟩ := first_not hq hR
  refine ⟨x.a, g.le, ?_, fun y r' e hy => ?_⟩
  ·have hne : rest ≠ [] := by
    intro e
    subst e
    cases r
   obtain ⟨q2, h1, h2, h3⟩ := ih hne
   have e1 : (wr false (x :: rest)).length = (q' - x.a) + (wr true rest).length := by
    conv => lhs; unfold wr
    rw [if_pos (by omega), if_neg (by decide), List.nil_append, List.length_append]
    show (wordQ x.k x.t x.m).length + _ = _
    rw [hl]
   cases rest with
   | nil => exact absurd rfl hne
   | cons y rest =>
    by_cases hy : y.k = 6
    ·have e2 : wr true (y :: rest) = wr false (y :: rest) := by rw [wr_eol hy, wr_eol hy]
     rw [e1, e2]
     omega
    ·have e2 : (wr true (y :: rest)).length = (wr false (y :: rest)).length + 1 := by
      rw [wr_tok hy, wr_tok hy, if_pos rfl, if_neg (by decide)]
      simp only [List.length_append, List.length_cons, List.length_nil]
      omega
     have h4 := h3 y rest rfl hy
     have : q2 ≠ q' := by
      intro e
      subst e
      exact h4 hst
     rw [e1, e2]
     omega
  ·cases e
   intro hS
   rcases hS with hS | hS
   ·rw [f1] at hS
    cases hS
   ·rw [at?_lt hq] at hS
    simp only [Option.map_some, Option.some.injEq] at hS
    rw [f2] at hS
    cases hS
 | @eol p q rest g hq he r ih =>
  intro _
  refine ⟨q, g.le, ?_, fun y r' e hy => ?_⟩
  ·unfold wr
   rw [if_neg (by simp)]
   by_cases hr : rest = []
   ·subst hr
    rw [if_neg (by simp)]
    unfold wr
    simpa using hq
   ·rw [if_pos hr]
    obtain ⟨q2, h1, h2, h3⟩ := ih hr
    cases r with
    | nil => exact absurd rfl hr
    | @tok s p q' x rest g hq ht r =>
     have hk5 := (token_word hq ht).2.2.2.2.2.2.2.2.1
     have h4 := h3 x rest rfl (by omega)
     have : q2 ≠ q := by
      intro e
      subst e
      exact h4 (.inl he)
     simp only [List.length_append, List.length_cons, List.length_nil]
     omega
  ·cases e
   exact absurd rfl hy
end
end Go.Proofs.YtjopejiooipmkaaDoor

namespace Go.Proofs.YtjopejiooipmkaaDoor
open Go.RowKit Abs

end Go.Proofs.YtjopejiooipmkaaDoor

namespace Go.Proofs.YtjopejiooipmkaaDoor
open Go.RowKit Abs
theorem take_head {t : T AV} {o n : Nat} {x : AV} {xs : List AV} (h : t.take o (n + 1) = some (x :: xs)) : t.get o = some x := by
 unfold T.take at h
 cases e1 : t.get o with
 | none => rw [e1] at h; cases h
 | some y =>
  rw [e1] at h
  cases e2 : t.take (o + 1) n with
  | none => rw [e2] at h; cases h
  | some ys =>
   rw [e2] at h
   cases h
   rfl
theorem row_head {H : AHeap} {b o n : Nat} {x : AV} {xs : List AV} (h : ldRow H (n + 1) (.ptr b o) = some (x :: xs)) : ldCell H (.ptr b o) = some x := by
 simp only [ldRow, rowGet] at h
 simp only [ldCell, cellGet]
 split at h
 ·exact take_head h
 ·exact take_head h
 ·exact take_head h
 ·cases h
section
variable {n d p q a b c N i : Nat} {h h0 H : AHeap} {u : Bytes} {Q : ARes → AHeap → Prop} {v : AV} {S : List Nat} {ys T : List RowT} {rows ls l : List (List AV)} {s : Bool}
end
end Go.Proofs.YtjopejiooipmkaaDoor

namespace Go.Proofs.YtjopejiooipmkaaDoor
open Go.RowKit Abs
theorem works_w (n d : Nat) (h : AHeap) : world n (d + 1) 6 [] h = some (.ret (.bool true), h) := w_true n d [] h
theorem great_w (n d : Nat) (u : Bytes) (h : AHeap) : world n (d + 1) 7 [strA u] h = some (.ret (.bool (decide (lenS u > 65536))), h) := by
 rw [w_law12_great]
 unfold law12_great
 rw [lett_eq, gcR_self]
theorem GrowT.slc' {S : List Nat} {h0 H : AHeap} {T rs : List RowT} {rows : List (List AV)} {v : AV} (g : GrowT TTok 4 rows v T) (M : Mem S h0 H rs) (hT : ∀ x ∈ T, x ∈ rs) : Slc H.next H 4 v rows := by
 refine ⟨fun l hl => (g.1 l hl).1, ?_⟩
 rcases g.2 with ⟨rfl, rfl, _⟩ | ⟨h1, c, rfl, rfl⟩
 ·exact .inl ⟨rfl, .inl rfl⟩
 ·obtain ⟨⟨t, h5, h6⟩, h3, _⟩ := M.row (c, TTok, rows.flatten) (hT _ (by simp))
  exact .inr ⟨c, h1, h3, rfl, t, .inr ⟨_, _, h5⟩, h6⟩
section
variable {u : Bytes}
theorem lex_le : ∀ (f p : Nat) (l l' : List (List AV)) (q : Nat), lexQ u f p l = .ok l' q → p ≤ u.length + 1 → l'.length + p ≤ l.length + q ∧ q ≤ u.length + 1
 | 0, p, l, l', q, hh, hp => by
  rw [lexQ] at hh
  cases hh
  omega
 | f + 1, p, l, l', q, hh, hp => by
  rw [lexQ] at hh
  split at hh
  ·rename_i hlt
   cases hL : lineQ u p l with
   | bad e q' => rw [hL] at hh; cases hh
   | ok l2 q2 =>
    rw [hL] at hh
    obtain ⟨a1, a2, a3, a4⟩ := lineQ_fact hL (by omega)
    have := lex_le f _ _ _ _ hh a2
    omega
  ·cases hh
   omega
end
/-- the tables that are laid, beside what came in -/
def powG : Tabs := [(0, powT)]
theorem pow_of {h : AHeap} {X : List Nat} {G : Nat} (hG : 0 < G) (k : Keeps (startG powG X G) h) : HasPow h :=
 ⟨k.2.2 _ _ (by show (tabTree powG).get _ = _; unfold powG tabTree; rw [T.get_set_same]), Nat.lt_of_lt_of_le hG k.1⟩
end Go.Proofs.YtjopejiooipmkaaDoor

namespace Go.Proofs.YtjopejiooipmkaaDoor
open Go.RowKit Abs

noncomputable def law12_LexBack (call : CallF) (_ : Nat) (t0 : Bytes) (h : AHeap) : R :=
 callN (call 6 [] h) fun r8 h_4 =>
 obind (avBool r8) fun t8 =>
 lett (!t8) fun (t9 : Bool) =>
 ifB t9
 (
  some (.ret (.bool false), h_4))
 (
  callN (call 7 [strA t0] h_4) fun r11 h_11 =>
  obind (avBool r11) fun t11 =>
  ifB t11
  (
   some (.ret (.bool true), h_11))
  (
   callN (call 8 [strA t0] h_11) fun r14 h_16 =>
   obind (extT 0 r14) fun v15 =>
   obind (extT 1 r14) fun v16 =>
   obind (avAgg v16) fun t16 =>
   lett (newH h_16 27 [.int .i64 0, .int .i64 0]) fun h_21 =>
   obind (stRow h_21 2 t16 (newP h_16)) fun h_23 =>
   obind (ldCell h_23 (AV.ptr (AHeap.next h_16) 0)) fun v18 =>
   obind (avInt .i64 v18) fun t18 =>
   lett ((t18 : Int) != 0) fun (t19 : Bool) =>
   ifB t19
   (
    obind (lenL v15) fun t21 =>
    lett ((t21 : Int) == 0) fun (t22 : Bool) =>
    lett (fun (t27 : Bool) (h_33 : AHeap) =>
     lett (fun (t34 : Bool) (h_36 : AHeap) =>
      some (.ret (.bool t34), h_36)) fun j34 =>
     ifB t27
     (
      obind (ldCell h_33 (AV.ptr (AHeap.next h_16) 1)) fun v30 =>
      obind (avInt .i64 v30) fun t30 =>
      lett (decide (t30 ≤ (lenS t0))) fun (t33 : Bool) =>
      j34 t33 h_33)
     (
      j34 false h_33)) fun j27 =>
    ifB t22
    (
     obind (ldCell h_23 (AV.ptr (AHeap.next h_16) 1)) fun v25 =>
     obind (avInt .i64 v25) fun t25 =>
     lett (decide (t25 ≥ 0)) fun (t26 : Bool) =>
     j27 t26 h_23)
    (
     j27 false h_23))
   (
    callK (call 9 [v15] h_23) fun r36 h_46 =>
    obind (avStr r36) fun t36 =>
    callN (call 8 [strA t36] h_46) fun r39 h_50 =>
    obind (extT 0 r39) fun v40 =>
    obind (extT 1 r39) fun v41 =>
    obind (avAgg v41) fun t41 =>
    lett (newH h_50 27 [.int .i64 0, .int .i64 0]) fun h_55 =>
    obind (stRow h_55 2 t41 (newP h_50)) fun h_57 =>
    obind (ldRow h_57 2 (newP h_50)) fun t42 =>
    obind (eqOther Tryd.prog 27 (.agg t42) (.agg ([.int .i64 0, .int .i64 0] : List AV))) fun t44 =>
    lett (fun (t51 : Bool) (h_62 : AHeap) =>
     lett (fun (t56 : Bool) (h_65 : AHeap) =>
      lett (fun (t62 : Bool) (h_68 : AHeap) =>
       some (.ret (.bool t62), h_68)) fun j62 =>
      ifB t56
      (
       callK (call 9 [v40] h_65) fun r59 h_71 =>
       obind (avStr r59) fun t59 =>
       lett (eqS t59 t36) fun (t61 : Bool) =>
       j62 t61 h_71)
      (
       j62 false h_65)) fun j56 =>
     ifB t51
     (
      callN (call 10 [v40, v15] h_62) fun r55 h_76 =>
      obind (avBool r55) fun t55 =>
      j56 t55 h_76)
     (
      j56 false h_62)) fun j51 =>
    ifB t44
    (
     lett (decide ((lenS t36) ≤ (lenS t0))) fun (t50 : Bool) =>
     j51 t50 h_57)
    (
     j51 false h_57))))
set_option maxHeartbeats 4000000 in
set_option maxRecDepth 20000 in
theorem law12_LexBack_ok {call : CallF} (hc : SaysAll Tryd.prog call) {n : Nat} {t0 : Bytes} {h : AHeap} {rR : ARes} {hR : AHeap} (hF : law12_LexBack call n t0 h = some (rR, hR)) : Says Tryd.prog 3 [strA t0] h rR hR := by
 unfold law12_LexBack at hF
 refine says_of (fn := Tryd.f3) Tryd.func3 (c := codeOf Tryd.f3) (by kernel_rfl) (by kernel_rfl) (fun w0 m0 => ?_)
 refine W.weaken (l' := [(0, strA t0)]) (Fr.c Fr.n) ?_
 refine W.s (fun K1 n1 e1 q1 p1 => ?_)
 refine W.r ?_
 refine WL.a (some 2) (.bool false) h ?_
 refine WL.n ?_
 refine Go.weaken (l' := [(0, strA t0)]) (Fr.c Fr.n) ?_
 refine n1 ?_
 refine W.s (fun K2 n2 e2 q2 p2 => ?_)
 refine W.s (fun K3 n3 e3 q3 p3 => ?_)
 refine W.r ?_
 replace hF := callN_some hF; obtain ⟨r8, h_4, e5, hF⟩ := hF
 replace hF := obind_some hF; obtain ⟨t8, c6, hF⟩ := hF
 have c6 := avBool_some c6
 subst c6
 refine WL.c (hc.ok w0) (some 8) e5 ?_
 replace hF := lett_some hF; obtain ⟨t9, e7, hF⟩ := hF
 refine WL.val (d := (some 9)) (v := .bool t9) (h' := h_4) (by kernel_rfl) (by kernel_rfl) (val_of AV.bool e7 (by kernel_rfl)) ?_
 refine WL.n ?_
 refine Go.weaken (l' := [(0, strA t0), (9, .bool t9)]) (Fr.c (Fr.c Fr.n)) ?_
 refine n3 ?_
 cases t9 with
 | true =>
  replace hF := ifB_t hF
  refine W.t ?_
  refine W.s (fun K8 n8 e8 q8 p8 => ?_)
  refine W.r ?_
  refine WL.a (some 2) (.bool false) h_4 ?_
  refine WL.n ?_
  refine Go.weaken (l' := [(2, .bool false)]) (Fr.c Fr.n) ?_
  refine n8 ?_
  refine W.ret (by kernel_rfl) ?_
  refine q2 ?_
  obtain ⟨hF, hF2⟩ := ret_inj hF; subst hF; subst hF2
  exact leave_of (rs := [.tmp 2]) (vs := [.bool false]) (by kernel_rfl) (res_tmp (by kernel_rfl) res_nil) (by kernel_rfl)
 | false =>
  replace hF := ifB_f hF
  refine W.f ?_
  refine W.skip (by kernel_rfl) ?_
  refine n2 ?_
  refine W.s (fun K9 n9 e9 q9 p9 => ?_)
  refine W.s (fun K10 n10 e10 q10 p10 => ?_)
  refine W.r ?_
  refine WL.a (some 10) (strA t0) h_4 ?_
  replace hF := callN_some hF; obtain ⟨r11, h_11, e12, hF⟩ := hF
  replace hF := obind_some hF; obtain ⟨t11, c13, hF⟩ := hF
  have c13 := avBool_some c13
  subst c13
  refine WL.c (hc.ok w0) (some 11) e12 ?_
  refine WL.n ?_
  refine Go.weaken (l' := [(0, strA t0), (11, .bool t11)]) (Fr.c (Fr.c Fr.n)) ?_
  refine n10 ?_
  cases t11 with
  | true =>
   replace hF := ifB_t hF
   refine W.t ?_
   refine W.s (fun K14 n14 e14 q14 p14 => ?_)
   refine W.r ?_
   refine WL.a (some 2) (.bool true) h_11 ?_
   refine WL.n ?_
   refine Go.weaken (l' := [(2, .bool true)]) (Fr.c Fr.n) ?_
   refine n14 ?_
   refine W.ret (by kernel_rfl) ?_
   refine q9 ?_
   obtain ⟨hF, hF2⟩ := ret_inj hF; subst hF; subst hF2
   exact leave_of (rs := [.tmp 2]) (vs := [.bool true]) (by kernel_rfl) (res_tmp (by kernel_rfl) res_nil) (by kernel_rfl)
  | false =>
   replace hF := ifB_f hF
   refine W.f ?_
   refine W.skip (by kernel_rfl) ?_
   refine n9 ?_
   refine W.s (fun K15 n15 e15 q15 p15 => ?_)
   refine W.r ?_
   refine WL.a (some 13) (strA t0) h_11 ?_
   replace hF := callN_some hF; obtain ⟨r14, h_16, e17, hF⟩ := hF
   refine WL.c (hc.ok w0) (some 14) e17 ?_
   refine WL.a (some 12) r14 h_16 ?_
   replace hF := obind_some hF; obtain ⟨v15, e18, hF⟩ := hF
   refine WL.b (some 15) v15 h_16 (extract_tup (h := h_16) e18) ?_
   replace hF := obind_some hF; obtain ⟨v16, e19, hF⟩ := hF
   replace hF := obind_some hF; obtain ⟨t16, c20, hF⟩ := hF
   have c20 := avAgg_some c20
   subst c20
   refine WL.b (some 16) (.agg t16) h_16 (extract_tup (h := h_16) e19) ?_
   replace hF := lett_some hF; obtain ⟨h_21, e22, hF⟩ := hF
   refine WL.val (d := (some 4)) (v := (newP h_16)) (h' := h_21) (by kernel_rfl) (by kernel_rfl) (val_ofH e22 (by kernel_rfl)) ?_
   refine WL.a (some 3) v15 h_21 ?_
   replace hF := obind_some hF; obtain ⟨h_23, e24, hF⟩ := hF
   refine WL.e h_23 (store_row (P := Tryd.prog) (h := h_21) (t := 27) (v := (.agg t16)) (by kernel_rfl) (by kernel_rfl) e24) ?_
   refine WL.n ?_
   refine Go.weaken (l' := [(0, strA t0), (3, v15), (4, (newP h_16))]) (Fr.c (Fr.c (Fr.c Fr.n))) ?_
   refine n15 ?_
   refine W.s (fun K25 n25 e25 q25 p25 => ?_)
   refine W.s (fun K26 n26 e26 q26 p26 => ?_)
   refine W.r ?_
   refine WL.a (some 17) (AV.ptr (AHeap.next h_16) 0) h_23 ?_
   replace hF := obind_some hF; obtain ⟨v18, e27, hF⟩ := hF
   replace hF := obind_some hF; obtain ⟨t18, c28, hF⟩ := hF
   have c28 := avInt_some c28
   subst c28
   refine WL.b (some 18) (.int .i64 t18) h_23 (load_cell (P := Tryd.prog) (h := h_23) (t := 25) (by kernel_rfl) e27) ?_
   replace hF := lett_some hF; obtain ⟨t19, e29, hF⟩ := hF
   refine WL.val (d := (some 19)) (v := .bool t19) (h' := h_23) (by kernel_rfl) (by kernel_rfl) (val_of AV.bool e29 (by kernel_rfl)) ?_
   refine WL.n ?_
   refine Go.weaken (l' := [(0, strA t0), (3, v15), (4, (newP h_16)), (19, .bool t19)]) (Fr.c (Fr.c (Fr.c (Fr.c Fr.n)))) ?_
   refine n26 ?_
   cases t19 with
   | true =>
    replace hF := ifB_t hF
    refine W.t ?_
    refine W.s (fun K30 n30 e30 q30 p30 => ?_)
    refine W.r ?_
    refine WL.a (some 20) v15 h_23 ?_
    replace hF := obind_some hF; obtain ⟨t21, e31, hF⟩ := hF
    refine WL.b (some 21) (.int .i64 t21) h_23 (len_row (P := Tryd.prog) (h := h_23) (t := 24) (e' := 37) (by kernel_rfl) e31) ?_
    replace hF := lett_some hF; obtain ⟨t22, e32, hF⟩ := hF
    refine WL.val (d := (some 22)) (v := .bool t22) (h' := h_23) (by kernel_rfl) (by kernel_rfl) (val_of AV.bool e32 (by kernel_rfl)) ?_
    refine WL.a (some 23) (.bool t22) h_23 ?_
    replace hF := lett_some hF; obtain ⟨j27, e34, hF⟩ := hF
    have J35 : ∀ (t27 : Bool) (h_33 : AHeap), j27 t27 h_33 = some (rR, hR) → WL Tryd.prog w0 m0 (Func.ntmps Tryd.f3) (Code.ops (Code.p1 (Code.p1 (Code.p2 (Code.p1 (Code.p2 (Code.p2 (Code.p2 (Code.p2 (codeOf Tryd.f3)))))))))) 8 K30 [(0, strA t0), (4, (newP h_16)), (27, .bool t27)] [] h_33 := by
     intro t27 h_33 hF
     rw [e34] at hF
     refine WL.a (some 28) (.bool t27) h_33 ?_
     replace hF := lett_some hF; obtain ⟨j34, e37, hF⟩ := hF
     have J38 : ∀ (t34 : Bool) (h_36 : AHeap), j34 t34 h_36 = some (rR, hR) → WL Tryd.prog w0 m0 (Func.ntmps Tryd.f3) (Code.ops (Code.p1 (Code.p1 (Code.p2 (Code.p1 (Code.p2 (Code.p2 (Code.p2 (Code.p2 (codeOf Tryd.f3)))))))))) 15 K30 [(34, .bool t34)] [] h_36 := by
      intro t34 h_36 hF
      rw [e37] at hF
      refine WL.a (some 2) (.bool t34) h_36 ?_
      refine WL.n ?_
      refine Go.weaken (l' := [(2, .bool t34)]) (Fr.c Fr.n) ?_
      refine n30 ?_
      refine W.ret (by kernel_rfl) ?_
      refine q25 ?_
      obtain ⟨hF, hF2⟩ := ret_inj hF; subst hF; subst hF2
      exact leave_of (rs := [.tmp 2]) (vs := [.bool t34]) (by kernel_rfl) (res_tmp (by kernel_rfl) res_nil) (by kernel_rfl)
     cases t27 with
     | true =>
      replace hF := ifB_t hF
      refine WL.a (some 29) (AV.ptr (AHeap.next h_16) 1) h_33 ?_
      replace hF := obind_some hF; obtain ⟨v30, e39, hF⟩ := hF
      replace hF := obind_some hF; obtain ⟨t30, c40, hF⟩ := hF
      have c40 := avInt_some c40
      subst c40
      refine WL.b (some 30) (.int .i64 t30) h_33 (load_cell (P := Tryd.prog) (h := h_33) (t := 3) (by kernel_rfl) e39) ?_
      refine WL.a (some 31) (strA t0) h_33 ?_
      refine WL.a (some 32) (.int .i64 (lenS t0)) h_33 ?_
      replace hF := lett_some hF; obtain ⟨t33, e41, hF⟩ := hF
      refine WL.val (d := (some 33)) (v := .bool t33) (h' := h_33) (by kernel_rfl) (by kernel_rfl) (val_of AV.bool e41 (by kernel_rfl)) ?_
      refine WL.a (some 34) (.bool t33) h_33 ?_
      exact WL.weaken (Fr.c Fr.n) (J38 _ _ hF)
     | false =>
      replace hF := ifB_f hF
      refine WL.o (some 29) ?_
      refine WL.o (some 30) ?_
      refine WL.o (some 31) ?_
      refine WL.o (some 32) ?_
      refine WL.o (some 33) ?_
      refine WL.a (some 34) (.bool false) h_33 ?_
      exact WL.weaken (Fr.c Fr.n) (J38 _ _ hF)
    cases t22 with
    | true =>
     replace hF := ifB_t hF
     refine WL.a (some 24) (AV.ptr (AHeap.next h_16) 1) h_23 ?_
     replace hF := obind_some hF; obtain ⟨v25, e42, hF⟩ := hF
     replace hF := obind_some hF; obtain ⟨t25, c43, hF⟩ := hF
     have c43 := avInt_some c43
     subst c43
     refine WL.b (some 25) (.int .i64 t25) h_23 (load_cell (P := Tryd.prog) (h := h_23) (t := 3) (by kernel_rfl) e42) ?_
     replace hF := lett_some hF; obtain ⟨t26, e44, hF⟩ := hF
     refine WL.val (d := (some 26)) (v := .bool t26) (h' := h_23) (by kernel_rfl) (by kernel_rfl) (val_of AV.bool e44 (by kernel_rfl)) ?_
     refine WL.a (some 27) (.bool t26) h_23 ?_
     exact WL.weaken (Fr.c (Fr.c (Fr.c Fr.n))) (J35 _ _ hF)
    | false =>
     replace hF := ifB_f hF
     refine WL.o (some 24) ?_
     refine WL.o (some 25) ?_
     refine WL.o (some 26) ?_
     refine WL.a (some 27) (.bool false) h_23 ?_
     exact WL.weaken (Fr.c (Fr.c (Fr.c Fr.n))) (J35 _ _ hF)
   | false =>
    replace hF := ifB_f hF
    refine W.f ?_
    refine W.skip (by kernel_rfl) ?_
    refine n25 ?_
    refine W.s (fun K45 n45 e45 q45 p45 => ?_)
    refine W.r ?_
    refine WL.a (some 35) v15 h_23 ?_
    replace hF := callK_some hF; rcases hF with ⟨r36, h_46, e47, hF⟩ | ⟨r36, h_46, e47, q80⟩
    ·replace hF := obind_some hF; obtain ⟨t36, c48, hF⟩ := hF
     have c48 := avStr_some c48
     subst c48
     refine WL.c (hc.ok w0) (some 36) e47 ?_
     refine WL.a (some 5) (strA t36) h_46 ?_
     refine WL.n ?_
     refine Go.weaken (l' := [(0, strA t0), (3, v15), (5, strA t36)]) (Fr.c (Fr.c (Fr.c Fr.n))) ?_
     refine n45 ?_
     refine W.s (fun K49 n49 e49 q49 p49 => ?_)
     refine W.r ?_
     refine WL.a (some 38) (strA t36) h_46 ?_
     replace hF := callN_some hF; obtain ⟨r39, h_50, e51, hF⟩ := hF
     refine WL.c (hc.ok w0) (some 39) e51 ?_
     refine WL.a (some 37) r39 h_50 ?_
     replace hF := obind_some hF; obtain ⟨v40, e52, hF⟩ := hF
     refine WL.b (some 40) v40 h_50 (extract_tup (h := h_50) e52) ?_
     replace hF := obind_some hF; obtain ⟨v41, e53, hF⟩ := hF
     replace hF := obind_some hF; obtain ⟨t41, c54, hF⟩ := hF
     have c54 := avAgg_some c54
     subst c54
     refine WL.b (some 41) (.agg t41) h_50 (extract_tup (h := h_50) e53) ?_
     replace hF := lett_some hF; obtain ⟨h_55, e56, hF⟩ := hF
     refine WL.val (d := (some 7)) (v := (newP h_50)) (h' := h_55) (by kernel_rfl) (by kernel_rfl) (val_ofH e56 (by kernel_rfl)) ?_
     refine WL.a (some 6) v40 h_55 ?_
     replace hF := obind_some hF; obtain ⟨h_57, e58, hF⟩ := hF
     refine WL.e h_57 (store_row (P := Tryd.prog) (h := h_55) (t := 27) (v := (.agg t41)) (by kernel_rfl) (by kernel_rfl) e58) ?_
     refine WL.n ?_
     refine Go.weaken (l' := [(0, strA t0), (3, v15), (5, strA t36), (6, v40), (7, (newP h_50))]) (Fr.c (Fr.c (Fr.c (Fr.c (Fr.c Fr.n))))) ?_
     refine n49 ?_
     refine W.s (fun K59 n59 e59 q59 p59 => ?_)
     refine W.r ?_
     replace hF := obind_some hF; obtain ⟨t42, e60, hF⟩ := hF
     refine WL.b (some 42) (.agg t42) h_57 (load_row (P := Tryd.prog) (h := h_57) (t := 27) (by kernel_rfl) (by kernel_rfl) e60) ?_
     refine WL.a (some 43) (.agg ([.int .i64 0, .int .i64 0] : List AV)) h_57 ?_
     replace hF := obind_some hF; obtain ⟨t44, e61, hF⟩ := hF
     refine WL.b (some 44) (.bool t44) h_57 (eq_other (P := Tryd.prog) (h := h_57) (t := 27) (lit := false) (by kernel_rfl) e61) ?_
     refine WL.a (some 45) (.bool t44) h_57 ?_
     replace hF := lett_some hF; obtain ⟨j51, e63, hF⟩ := hF
     have J64 : ∀ (t51 : Bool) (h_62 : AHeap), j51 t51 h_62 = some (rR, hR) → WL Tryd.prog w0 m0 (Func.ntmps Tryd.f3) (Code.ops (Code.p1 (Code.p2 (Code.p2 (Code.p2 (Code.p2 (Code.p2 (Code.p2 (Code.p2 (codeOf Tryd.f3)))))))))) 10 K59 [(3, v15), (5, strA t36), (6, v40), (51, .bool t51)] [] h_62 := by
      intro t51 h_62 hF
      rw [e63] at hF
      refine WL.a (some 52) (.bool t51) h_62 ?_
      replace hF := lett_some hF; obtain ⟨j56, e66, hF⟩ := hF
      have J67 : ∀ (t56 : Bool) (h_65 : AHeap), j56 t56 h_65 = some (rR, hR) → WL Tryd.prog w0 m0 (Func.ntmps Tryd.f3) (Code.ops (Code.p1 (Code.p2 (Code.p2 (Code.p2 (Code.p2 (Code.p2 (Code.p2 (Code.p2 (codeOf Tryd.f3)))))))))) 15 K59 [(5, strA t36), (6, v40), (56, .bool t56)] [] h_65 := by
       intro t56 h_65 hF
       rw [e66] at hF
       refine WL.a (some 57) (.bool t56) h_65 ?_
       replace hF := lett_some hF; obtain ⟨j62, e69, hF⟩ := hF
       have J70 : ∀ (t62 : Bool) (h_68 : AHeap), j62 t62 h_68 = some (rR, hR) → WL Tryd.prog w0 m0 (Func.ntmps Tryd.f3) (Code.ops (Code.p1 (Code.p2 (Code.p2 (Code.p2 (Code.p2 (Code.p2 (Code.p2 (Code.p2 (codeOf Tryd.f3)))))))))) 21 K59 [(62, .bool t62)] [] h_68 := by
        intro t62 h_68 hF
        rw [e69] at hF
        refine WL.a (some 2) (.bool t62) h_68 ?_
        refine WL.n ?_
        refine Go.weaken (l' := [(2, .bool t62)]) (Fr.c Fr.n) ?_
        refine n59 ?_
        refine W.ret (by kernel_rfl) ?_
        obtain ⟨hF, hF2⟩ := ret_inj hF; subst hF; subst hF2
        exact leave_of (rs := [.tmp 2]) (vs := [.bool t62]) (by kernel_rfl) (res_tmp (by kernel_rfl) res_nil) (by kernel_rfl)
       cases t56 with
       | true =>
        replace hF := ifB_t hF
        refine WL.a (some 58) v40 h_65 ?_
        replace hF := callK_some hF; rcases hF with ⟨r59, h_71, e72, hF⟩ | ⟨r59, h_71, e72, q75⟩
        ·replace hF := obind_some hF; obtain ⟨t59, c73, hF⟩ := hF
         have c73 := avStr_some c73
         subst c73
         refine WL.c (hc.ok w0) (some 59) e72 ?_
         refine WL.a (some 60) (strA t36) h_71 ?_
         replace hF := lett_some hF; obtain ⟨t61, e74, hF⟩ := hF
         refine WL.val (d := (some 61)) (v := .bool t61) (h' := h_71) (by kernel_rfl) (by kernel_rfl) (val_of AV.bool e74 (by kernel_rfl)) ?_
         refine WL.a (some 62) (.bool t61) h_71 ?_
         exact WL.weaken (Fr.c Fr.n) (J70 _ _ hF)
        ·obtain ⟨zq, zr⟩ := pan_inj q75; subst zq; subst zr
         exact WL.callPanic (hc.ok w0) (d := (some 59)) (by kernel_rfl) (by kernel_rfl) (by kernel_rfl) e72 (p59 Pan.fin)
       | false =>
        replace hF := ifB_f hF
        refine WL.o (some 58) ?_
        refine WL.o (some 59) ?_
        refine WL.o (some 60) ?_
        refine WL.o (some 61) ?_
        refine WL.a (some 62) (.bool false) h_65 ?_
        exact WL.weaken (Fr.c Fr.n) (J70 _ _ hF)
      cases t51 with
      | true =>
       replace hF := ifB_t hF
       refine WL.a (some 53) v40 h_62 ?_
       refine WL.a (some 54) v15 h_62 ?_
       replace hF := callN_some hF; obtain ⟨r55, h_76, e77, hF⟩ := hF
       replace hF := obind_some hF; obtain ⟨t55, c78, hF⟩ := hF
       have c78 := avBool_some c78
       subst c78
       refine WL.c (hc.ok w0) (some 55) e77 ?_
       refine WL.a (some 56) (.bool t55) h_76 ?_
       exact WL.weaken (Fr.c (Fr.c (Fr.c Fr.n))) (J67 _ _ hF)
      | false =>
       replace hF := ifB_f hF
       refine WL.o (some 53) ?_
       refine WL.o (some 54) ?_
       refine WL.o (some 55) ?_
       refine WL.a (some 56) (.bool false) h_62 ?_
       exact WL.weaken (Fr.c (Fr.c (Fr.c Fr.n))) (J67 _ _ hF)
     cases t44 with
     | true =>
      replace hF := ifB_t hF
      refine WL.a (some 46) (strA t36) h_57 ?_
      refine WL.a (some 47) (.int .i64 (lenS t36)) h_57 ?_
      refine WL.a (some 48) (strA t0) h_57 ?_
      refine WL.a (some 49) (.int .i64 (lenS t0)) h_57 ?_
      replace hF := lett_some hF; obtain ⟨t50, e79, hF⟩ := hF
      refine WL.val (d := (some 50)) (v := .bool t50) (h' := h_57) (by kernel_rfl) (by kernel_rfl) (val_of AV.bool e79 (by kernel_rfl)) ?_
      refine WL.a (some 51) (.bool t50) h_57 ?_
      exact WL.weaken (Fr.c (Fr.c (Fr.c (Fr.c Fr.n)))) (J64 _ _ hF)
     | false =>
      replace hF := ifB_f hF
      refine WL.o (some 46) ?_
      refine WL.o (some 47) ?_
      refine WL.o (some 48) ?_
      refine WL.o (some 49) ?_
      refine WL.o (some 50) ?_
      refine WL.a (some 51) (.bool false) h_57 ?_
      exact WL.weaken (Fr.c (Fr.c (Fr.c (Fr.c Fr.n)))) (J64 _ _ hF)
    ·obtain ⟨zq, zr⟩ := pan_inj q80; subst zq; subst zr
     exact WL.callPanic (hc.ok w0) (d := (some 36)) (by kernel_rfl) (by kernel_rfl) (by kernel_rfl) e47 (p45 Pan.fin)
noncomputable def law12_LexBack_fn (call : CallF) (n : Nat) : FnT := fun args h => match args with
 | [x0] => obind (avStr x0) fun t0 => law12_LexBack call n t0 h
 | _ => none
noncomputable def law12_written_L0b (call : CallF) (t0 : AV) (k6 : Bytes → AHeap → R) (self : Bytes → Int → AHeap → R) (t3_10 : Bytes) (t4 : Int) (h_11 : AHeap) : R :=
 obind (lenL t0) fun t7 =>
 lett (decide (t4 < t7)) fun (t8 : Bool) =>
 ifB t8
 (
  obind (idxP 4 t0 t4) fun t14 =>
  obind (fldP 0 t14) fun t15 =>
  obind (ldCell h_11 t15) fun v16 =>
  obind (avInt .i64 v16) fun t16 =>
  lett ((t16 : Int) != 6) fun (t17 : Bool) =>
  lett (fun (t3_26 : Bytes) (h_27 : AHeap) =>
   lett (IntKind.i64.wrap (t4 + 1)) fun (t10 : Int) =>
   self t3_26 t10 h_27) fun k25 =>
  ifB t17
  (
   lett (decide (t4 > 0)) fun (t19 : Bool) =>
   lett (fun (t28 : Bool) (h_32 : AHeap) =>
    lett (fun (t3_36 : Bytes) (h_37 : AHeap) =>
     obind (idxP 4 t0 t4) fun t34 =>
     obind (ldRow h_37 4 t34) fun t35 =>
     callK (call 11 [.agg t35] h_37) fun r36 h_40 =>
     obind (avStr r36) fun t36 =>
     obind (addS t3_36 t36) fun t37 =>
     k25 t37 h_40) fun k35 =>
    ifB t28
    (
     obind (addS t3_10 ([32] : Bytes)) fun t30 =>
     k35 t30 h_32)
    (
     k35 t3_10 h_32)) fun j28 =>
   ifB t19
   (
    lett (IntKind.i64.wrap (t4 - 1)) fun (t23 : Int) =>
    obind (idxP 4 t0 t23) fun t24 =>
    obind (fldP 0 t24) fun t25 =>
    obind (ldCell h_11 t25) fun v26 =>
    obind (avInt .i64 v26) fun t26 =>
    lett ((t26 : Int) != 6) fun (t27 : Bool) =>
    j28 t27 h_11)
   (
    j28 false h_11))
  (
   lett (IntKind.i64.wrap (t4 + 1)) fun (t40 : Int) =>
   obind (lenL t0) fun t42 =>
   lett (decide (t40 < t42)) fun (t43 : Bool) =>
   lett (fun (t3_57 : Bytes) (h_58 : AHeap) =>
    k25 t3_57 h_58) fun k56 =>
   ifB t43
   (
    obind (addS t3_10 ([10] : Bytes)) fun t45 =>
    k56 t45 h_11)
   (
    k56 t3_10 h_11)))
 (
  k6 t3_10 h_11)
noncomputable def law12_written_L0 (call : CallF) (t0 : AV) (k6 : Bytes → AHeap → R) : Nat → Bytes → Int → AHeap → R := iterR (fun _ _ _ => none) (law12_written_L0b call t0 k6)
theorem law12_written_L0_s (call : CallF) (t0 : AV) (k6 : Bytes → AHeap → R) (m : Nat) : law12_written_L0 call t0 k6 (m + 1) = law12_written_L0b call t0 k6 (law12_written_L0 call t0 k6 m) := rfl
noncomputable def law12_written (call : CallF) (n : Nat) (t0 : AV) (h : AHeap) : R :=
 lett (fun (t3 : Bytes) (h_7 : AHeap) =>
  some (.ret (strA t3), h_7)) fun k6 =>
 law12_written_L0 call t0 k6 n ([] : Bytes) 0 h
set_option maxHeartbeats 4000000 in
set_option maxRecDepth 20000 in
theorem law12_written_ok {call : CallF} (hc : SaysAll Tryd.prog call) {n : Nat} {t0 : AV} {h : AHeap} {rR : ARes} {hR : AHeap} (hF : law12_written call n t0 h = some (rR, hR)) : Says Tryd.prog 9 [t0] h rR hR := by
 unfold law12_written at hF
 refine says_of (fn := Tryd.f9) Tryd.func9 (c := codeOf Tryd.f9) (by kernel_rfl) (by kernel_rfl) (fun w0 m0 => ?_)
 refine W.weaken (l' := [(0, t0)]) (Fr.c Fr.n) ?_
 refine W.s (fun K1 n1 e1 q1 p1 => ?_)
 refine W.r ?_
 refine WL.a (some 2) (strA ([] : Bytes)) h ?_
 refine WL.n ?_
 refine Go.weaken (l' := [(0, t0)]) (Fr.c Fr.n) ?_
 refine n1 ?_
 refine W.s (fun K2 n2 e2 q2 p2 => ?_)
 refine W.r ?_
 refine WL.a (some 3) (strA ([] : Bytes)) h ?_
 refine WL.n ?_
 refine Go.weaken (l' := [(0, t0), (3, strA ([] : Bytes))]) (Fr.c (Fr.c Fr.n)) ?_
 refine n2 ?_
 refine W.s (fun K3 n3 e3 q3 p3 => ?_)
 refine W.s (fun K4 n4 e4 q4 p4 => ?_)
 refine W.r ?_
 refine WL.a (some 4) (.int .i64 0) h ?_
 refine WL.n ?_
 refine Go.weaken (l' := [(0, t0), (3, strA ([] : Bytes)), (4, .int .i64 0)]) (Fr.c (Fr.c (Fr.c Fr.n))) ?_
 refine n4 ?_
 replace hF := lett_some hF; obtain ⟨k6, e6, hF⟩ := hF
 have J6 : ∀ (t3 : Bytes) (h_7 : AHeap), k6 t3 h_7 = some (rR, hR) → Go w0 m0 (Func.ntmps Tryd.f9) (K3 .normal) [(3, strA t3)] [] h_7 := by
  intro t3 h_7 hF
  rw [e6] at hF
  refine n3 ?_
  refine W.s (fun K8 n8 e8 q8 p8 => ?_)
  refine W.r ?_
  refine WL.a (some 46) (strA t3) h_7 ?_
  refine WL.a (some 2) (strA t3) h_7 ?_
  refine WL.n ?_
  refine Go.weaken (l' := [(2, strA t3)]) (Fr.c Fr.n) ?_
  refine n8 ?_
  refine W.ret (by kernel_rfl) ?_
  obtain ⟨hF, hF2⟩ := ret_inj hF; subst hF; subst hF2
  exact leave_of (rs := [.tmp 2]) (vs := [strA t3]) (by kernel_rfl) (res_tmp (by kernel_rfl) res_nil) (by kernel_rfl)
 refine W.blockK (by kernel_rfl) (fun K5 n5 s5 o5 q5 p5 => ?_)
 refine W.loopK (by kernel_rfl) (fun I9 K9 b9 n9 e9 q9 p9 => ?_)
 have L9 : ∀ (m : Nat) (t3_10 : Bytes) (t4 : Int) (h_11 : AHeap), law12_written_L0 call t0 k6 m t3_10 t4 h_11 = some (rR, hR) → Go w0 m0 (Func.ntmps Tryd.f9) I9 [(0, t0), (3, strA t3_10), (4, .int .i64 t4)] [] h_11 := by
  intro m
  induction m with
  | zero => intro t3_10 t4 h_11 hF; cases hF
  | succ m ih9 =>
   intro t3_10 t4 h_11 hF
   rw [law12_written_L0_s] at hF; unfold law12_written_L0b at hF
   refine b9 ?_
   refine W.s (fun K12 n12 e12 q12 p12 => ?_)
   refine W.s (fun K13 n13 e13 q13 p13 => ?_)
   refine W.r ?_
   refine WL.a (some 5) (.int .i64 t4) h_11 ?_
   refine WL.a (some 6) t0 h_11 ?_
   replace hF := obind_some hF; obtain ⟨t7, e14, hF⟩ := hF
   refine WL.b (some 7) (.int .i64 t7) h_11 (len_row (P := Tryd.prog) (h := h_11) (t := 24) (e' := 37) (by kernel_rfl) e14) ?_
   replace hF := lett_some hF; obtain ⟨t8, e15, hF⟩ := hF
   refine WL.val (d := (some 8)) (v := .bool t8) (h' := h_11) (by kernel_rfl) (by kernel_rfl) (val_of AV.bool e15 (by kernel_rfl)) ?_
   refine WL.n ?_
   refine Go.weaken (l' := [(0, t0), (3, strA t3_10), (4, .int .i64 t4), (8, .bool t8)]) (Fr.c (Fr.c (Fr.c (Fr.c Fr.n)))) ?_
   refine n13 ?_
   cases t8 with
   | true =>
    replace hF := ifB_t hF
    refine W.t ?_
    refine W.skip (by kernel_rfl) ?_
    refine n12 ?_
    refine W.s (fun K16 n16 e16 q16 p16 => ?_)
    refine W.blockK (by kernel_rfl) (fun K17 n17 s17 o17 q17 p17 => ?_)
    refine W.blockK (by kernel_rfl) (fun K18 n18 s18 o18 q18 p18 => ?_)
    refine W.s (fun K19 n19 e19 q19 p19 => ?_)
    refine W.r ?_
    refine WL.a (some 12) t0 h_11 ?_
    refine WL.a (some 13) (.int .i64 t4) h_11 ?_
    replace hF := obind_some hF; obtain ⟨t14, e20, hF⟩ := hF
    refine WL.b (some 14) t14 h_11 (index_row (P := Tryd.prog) (h := h_11) (t := 24) (e' := 37) (k := .i64) (by kernel_rfl) (by kernel_rfl) (by kernel_rfl) e20) ?_
    replace hF := obind_some hF; obtain ⟨t15, e21, hF⟩ := hF
    refine WL.b (some 15) t15 h_11 (field_ptr (P := Tryd.prog) (h := h_11) (s := 37) (f := 0) (by kernel_rfl) e21) ?_
    replace hF := obind_some hF; obtain ⟨v16, e22, hF⟩ := hF
    replace hF := obind_some hF; obtain ⟨t16, c23, hF⟩ := hF
    have c23 := avInt_some c23
    subst c23
    refine WL.b (some 16) (.int .i64 t16) h_11 (load_cell (P := Tryd.prog) (h := h_11) (t := 3) (by kernel_rfl) e22) ?_
    replace hF := lett_some hF; obtain ⟨t17, e24, hF⟩ := hF
    refine WL.val (d := (some 17)) (v := .bool t17) (h' := h_11) (by kernel_rfl) (by kernel_rfl) (val_of AV.bool e24 (by kernel_rfl)) ?_
    refine WL.a (some 11) (.bool t17) h_11 ?_
    refine WL.n ?_
    refine Go.weaken (l' := [(0, t0), (3, strA t3_10), (4, .int .i64 t4), (11, .bool t17)]) (Fr.c (Fr.c (Fr.c (Fr.c Fr.n)))) ?_
    refine n19 ?_
    replace hF := lett_some hF; obtain ⟨k25, e25, hF⟩ := hF
    have J25 : ∀ (t3_26 : Bytes) (h_27 : AHeap), k25 t3_26 h_27 = some (rR, hR) → Go w0 m0 (Func.ntmps Tryd.f9) (K18 .normal) [(0, t0), (3, strA t3_26), (4, .int .i64 t4)] [] h_27 := by
     intro t3_26 h_27 hF
     rw [e25] at hF
     refine n18 ?_
     refine n17 ?_
     refine n16 ?_
     refine W.r ?_
     refine WL.a (some 9) (.int .i64 t4) h_27 ?_
     replace hF := lett_some hF; obtain ⟨t10, e28, hF⟩ := hF
     refine WL.val (d := (some 10)) (v := .int .i64 t10) (h' := h_27) (by kernel_rfl) (by kernel_rfl) (val_of (AV.int .i64) e28 (by kernel_rfl)) ?_
     refine WL.a (some 4) (.int .i64 t10) h_27 ?_
     refine WL.n ?_
     refine Go.weaken (l' := [(0, t0), (3, strA t3_26), (4, .int .i64 t10)]) (Fr.c (Fr.c (Fr.c Fr.n))) ?_
     refine n9 ?_
     exact Go.weaken (Fr.c (Fr.c (Fr.c Fr.n))) (ih9 _ _ _ hF)
    cases t17 with
    | true =>
     replace hF := ifB_t hF
     refine W.t ?_
     refine W.s (fun K29 n29 e29 q29 p29 => ?_)
     refine W.s (fun K30 n30 e30 q30 p30 => ?_)
     refine W.r ?_
     refine WL.a (some 18) (.int .i64 t4) h_11 ?_
     replace hF := lett_some hF; obtain ⟨t19, e31, hF⟩ := hF
     refine WL.val (d := (some 19)) (v := .bool t19) (h' := h_11) (by kernel_rfl) (by kernel_rfl) (val_of AV.bool e31 (by kernel_rfl)) ?_
     refine WL.a (some 20) (.bool t19) h_11 ?_
     replace hF := lett_some hF; obtain ⟨j28, e33, hF⟩ := hF
     have J34 : ∀ (t28 : Bool) (h_32 : AHeap), j28 t28 h_32 = some (rR, hR) → WL Tryd.prog w0 m0 (Func.ntmps Tryd.f9) (Code.ops (Code.p1 (Code.p1 (Code.p1 (Code.p2 (Code.p1 (Code.p1 (Code.p1 (Code.p2 (Code.p1 (Code.p1 (Code.p2 (Code.p1 (Code.p2 (Code.p2 (codeOf Tryd.f9)))))))))))))))) 11 K30 [(0, t0), (3, strA t3_10), (4, .int .i64 t4), (28, .bool t28)] [] h_32 := by
      intro t28 h_32 hF
      rw [e33] at hF
      refine WL.n ?_
      refine Go.weaken (l' := [(0, t0), (3, strA t3_10), (4, .int .i64 t4), (28, .bool t28)]) (Fr.c (Fr.c (Fr.c (Fr.c Fr.n)))) ?_
      refine n30 ?_
      replace hF := lett_some hF; obtain ⟨k35, e35, hF⟩ := hF
      have J35 : ∀ (t3_36 : Bytes) (h_37 : AHeap), k35 t3_36 h_37 = some (rR, hR) → Go w0 m0 (Func.ntmps Tryd.f9) (K29 .normal) [(0, t0), (3, strA t3_36), (4, .int .i64 t4)] [] h_37 := by
       intro t3_36 h_37 hF
       rw [e35] at hF
       refine n29 ?_
       refine W.r ?_
       refine WL.a (some 31) (strA t3_36) h_37 ?_
       refine WL.a (some 32) t0 h_37 ?_
       refine WL.a (some 33) (.int .i64 t4) h_37 ?_
       replace hF := obind_some hF; obtain ⟨t34, e38, hF⟩ := hF
       refine WL.b (some 34) t34 h_37 (index_row (P := Tryd.prog) (h := h_37) (t := 24) (e' := 37) (k := .i64) (by kernel_rfl) (by kernel_rfl) (by kernel_rfl) e38) ?_
       replace hF := obind_some hF; obtain ⟨t35, e39, hF⟩ := hF
       refine WL.b (some 35) (.agg t35) h_37 (load_row (P := Tryd.prog) (h := h_37) (t := 37) (by kernel_rfl) (by kernel_rfl) e39) ?_
       replace hF := callK_some hF; rcases hF with ⟨r36, h_40, e41, hF⟩ | ⟨r36, h_40, e41, q44⟩
       ·replace hF := obind_some hF; obtain ⟨t36, c42, hF⟩ := hF
        have c42 := avStr_some c42
        subst c42
        refine WL.c (hc.ok w0) (some 36) e41 ?_
        replace hF := obind_some hF; obtain ⟨t37, e43, hF⟩ := hF
        refine WL.b (some 37) (strA t37) h_40 (add_str (P := Tryd.prog) (h := h_40) (t := 9) (lit := false) e43) ?_
        refine WL.a (some 3) (strA t37) h_40 ?_
        refine WL.n ?_
        refine Go.weaken (l' := [(0, t0), (3, strA t37), (4, .int .i64 t4)]) (Fr.c (Fr.c (Fr.c Fr.n))) ?_
        exact Go.weaken (Fr.c (Fr.c (Fr.c Fr.n))) (J25 _ _ hF)
       ·obtain ⟨zq, zr⟩ := pan_inj q44; subst zq; subst zr
        exact WL.callPanic (hc.ok w0) (d := (some 36)) (by kernel_rfl) (by kernel_rfl) (by kernel_rfl) e41 (p18 (p17 (p16 (p9 (p5 (p3 Pan.fin))))))
      cases t28 with
      | true =>
       replace hF := ifB_t hF
       refine W.t ?_
       refine W.r ?_
       refine WL.a (some 29) (strA t3_10) h_32 ?_
       replace hF := obind_some hF; obtain ⟨t30, e45, hF⟩ := hF
       refine WL.b (some 30) (strA t30) h_32 (add_str (P := Tryd.prog) (h := h_32) (t := 9) (lit := true) e45) ?_
       refine WL.a (some 3) (strA t30) h_32 ?_
       refine WL.n ?_
       refine Go.weaken (l' := [(0, t0), (3, strA t30), (4, .int .i64 t4)]) (Fr.c (Fr.c (Fr.c Fr.n))) ?_
       exact Go.weaken (Fr.c (Fr.c (Fr.c Fr.n))) (J35 _ _ hF)
      | false =>
       replace hF := ifB_f hF
       refine W.f ?_
       refine W.skip (by kernel_rfl) ?_
       exact Go.weaken (Fr.c (Fr.c (Fr.c Fr.n))) (J35 _ _ hF)
     cases t19 with
     | true =>
      replace hF := ifB_t hF
      refine WL.a (some 21) t0 h_11 ?_
      refine WL.a (some 22) (.int .i64 t4) h_11 ?_
      replace hF := lett_some hF; obtain ⟨t23, e46, hF⟩ := hF
      refine WL.val (d := (some 23)) (v := .int .i64 t23) (h' := h_11) (by kernel_rfl) (by kernel_rfl) (val_of (AV.int .i64) e46 (by kernel_rfl)) ?_
      replace hF := obind_some hF; obtain ⟨t24, e47, hF⟩ := hF
      refine WL.b (some 24) t24 h_11 (index_row (P := Tryd.prog) (h := h_11) (t := 24) (e' := 37) (k := .i64) (by kernel_rfl) (by kernel_rfl) (by kernel_rfl) e47) ?_
      replace hF := obind_some hF; obtain ⟨t25, e48, hF⟩ := hF
      refine WL.b (some 25) t25 h_11 (field_ptr (P := Tryd.prog) (h := h_11) (s := 37) (f := 0) (by kernel_rfl) e48) ?_
      replace hF := obind_some hF; obtain ⟨v26, e49, hF⟩ := hF
      replace hF := obind_some hF; obtain ⟨t26, c50, hF⟩ := hF
      have c50 := avInt_some c50
      subst c50
      refine WL.b (some 26) (.int .i64 t26) h_11 (load_cell (P := Tryd.prog) (h := h_11) (t := 3) (by kernel_rfl) e49) ?_
      replace hF := lett_some hF; obtain ⟨t27, e51, hF⟩ := hF
      refine WL.val (d := (some 27)) (v := .bool t27) (h' := h_11) (by kernel_rfl) (by kernel_rfl) (val_of AV.bool e51 (by kernel_rfl)) ?_
      refine WL.a (some 28) (.bool t27) h_11 ?_
      exact WL.weaken (Fr.c (Fr.c (Fr.c (Fr.c Fr.n)))) (J34 _ _ hF)
     | false =>
      replace hF := ifB_f hF
      refine WL.o (some 21) ?_
      refine WL.o (some 22) ?_
      refine WL.o (some 23) ?_
      refine WL.o (some 24) ?_
      refine WL.o (some 25) ?_
      refine WL.o (some 26) ?_
      refine WL.o (some 27) ?_
      refine WL.a (some 28) (.bool false) h_11 ?_
      exact WL.weaken (Fr.c (Fr.c (Fr.c (Fr.c Fr.n)))) (J34 _ _ hF)
    | false =>
     replace hF := ifB_f hF
     refine W.f ?_
     refine W.s (fun K52 n52 e52 q52 p52 => ?_)
     refine W.r ?_
     refine WL.a (some 39) (.int .i64 t4) h_11 ?_
     replace hF := lett_some hF; obtain ⟨t40, e53, hF⟩ := hF
     refine WL.val (d := (some 40)) (v := .int .i64 t40) (h' := h_11) (by kernel_rfl) (by kernel_rfl) (val_of (AV.int .i64) e53 (by kernel_rfl)) ?_
     refine WL.a (some 41) t0 h_11 ?_
     replace hF := obind_some hF; obtain ⟨t42, e54, hF⟩ := hF
     refine WL.b (some 42) (.int .i64 t42) h_11 (len_row (P := Tryd.prog) (h := h_11) (t := 24) (e' := 37) (by kernel_rfl) e54) ?_
     replace hF := lett_some hF; obtain ⟨t43, e55, hF⟩ := hF
     refine WL.val (d := (some 43)) (v := .bool t43) (h' := h_11) (by kernel_rfl) (by kernel_rfl) (val_of AV.bool e55 (by kernel_rfl)) ?_
     refine WL.a (some 38) (.bool t43) h_11 ?_
     refine WL.n ?_
     refine Go.weaken (l' := [(0, t0), (3, strA t3_10), (4, .int .i64 t4), (38, .bool t43)]) (Fr.c (Fr.c (Fr.c (Fr.c Fr.n)))) ?_
     refine n52 ?_
     replace hF := lett_some hF; obtain ⟨k56, e56, hF⟩ := hF
     have J56 : ∀ (t3_57 : Bytes) (h_58 : AHeap), k56 t3_57 h_58 = some (rR, hR) → Go w0 m0 (Func.ntmps Tryd.f9) (K18 .normal) [(0, t0), (3, strA t3_57), (4, .int .i64 t4)] [] h_58 := by
      intro t3_57 h_58 hF
      rw [e56] at hF
      exact Go.weaken (Fr.c (Fr.c (Fr.c Fr.n))) (J25 _ _ hF)
     cases t43 with
     | true =>
      replace hF := ifB_t hF
      refine W.t ?_
      refine W.r ?_
      refine WL.a (some 44) (strA t3_10) h_11 ?_
      replace hF := obind_some hF; obtain ⟨t45, e59, hF⟩ := hF
      refine WL.b (some 45) (strA t45) h_11 (add_str (P := Tryd.prog) (h := h_11) (t := 9) (lit := true) e59) ?_
      refine WL.a (some 3) (strA t45) h_11 ?_
      refine WL.n ?_
      refine Go.weaken (l' := [(0, t0), (3, strA t45), (4, .int .i64 t4)]) (Fr.c (Fr.c (Fr.c Fr.n))) ?_
      exact Go.weaken (Fr.c (Fr.c (Fr.c Fr.n))) (J56 _ _ hF)
     | false =>
      replace hF := ifB_f hF
      refine W.f ?_
      refine W.skip (by kernel_rfl) ?_
      exact Go.weaken (Fr.c (Fr.c (Fr.c Fr.n))) (J56 _ _ hF)
   | false =>
    replace hF := ifB_f hF
    refine W.f ?_
    refine W.exit (by kernel_rfl) ?_
    refine e12 ?_
    refine e9 ?_
    refine s5 (by kernel_rfl) ?_
    exact Go.weaken (Fr.c Fr.n) (J6 _ _ hF)
 exact Go.weaken (Fr.c (Fr.c (Fr.c Fr.n))) (L9 _ _ _ _ hF)
noncomputable def law12_written_fn (call : CallF) (n : Nat) : FnT := fun args h => match args with
 | [x0] => law12_written call n x0 h
 | _ => none
set_option maxRecDepth 100000 in
theorem law12_written_fn_eq (call : CallF) (n : Nat) (t0 : AV) (h : AHeap) : law12_written_fn call n [t0] h = law12_written call n t0 h :=
 rfl
theorem law12_written_holds {call : CallF} (hc : SaysAll Tryd.prog call) (n : Nat) : Holds Tryd.prog 9 (law12_written_fn call n) := by
 intro args h r h2 e
 unfold law12_written_fn at e
 split at e
 ·exact law12_written_ok hc e
 ·cases e

noncomputable def ref12_Same_L0b (t0 : AV) (t1 : AV) (k11 : AHeap → R) (self : Int → AHeap → R) (t5 : Int) (h_15 : AHeap) : R :=
 obind (lenL t0) fun t13 =>
 lett (decide (t5 < t13)) fun (t14 : Bool) =>
 ifB t14
 (
  lett (fun (t53 : Bool) (h_24 : AHeap) =>
   ifB t53
   (
    some (.ret (.bool false), h_24))
   (
    lett (IntKind.i64.wrap (t5 + 1)) fun (t16 : Int) =>
    self t16 h_24)) fun k23 =>
  obind (idxP 4 t0 t5) fun t19 =>
  obind (fldP 0 t19) fun t20 =>
  obind (ldCell h_15 t20) fun v21 =>
  obind (avInt .i64 v21) fun t21 =>
  obind (idxP 4 t1 t5) fun t24 =>
  obind (fldP 0 t24) fun t25 =>
  obind (ldCell h_15 t25) fun v26 =>
  obind (avInt .i64 v26) fun t26 =>
  lett ((t21 : Int) != t26) fun (t27 : Bool) =>
  ifB t27
  (
   k23 true h_15)
  (
   obind (idxP 4 t0 t5) fun t31 =>
   obind (fldP 1 t31) fun t32 =>
   obind (ldCell h_15 t32) fun v33 =>
   obind (avStr v33) fun t33 =>
   obind (idxP 4 t1 t5) fun t36 =>
   obind (fldP 1 t36) fun t37 =>
   obind (ldCell h_15 t37) fun v38 =>
   obind (avStr v38) fun t38 =>
   lett (!eqS t33 t38) fun (t39 : Bool) =>
   ifB t39
   (
    k23 true h_15)
   (
    obind (idxP 4 t0 t5) fun t44 =>
    obind (fldP 2 t44) fun t45 =>
    obind (ldCell h_15 t45) fun v46 =>
    obind (avInt .i64 v46) fun t46 =>
    obind (idxP 4 t1 t5) fun t49 =>
    obind (fldP 2 t49) fun t50 =>
    obind (ldCell h_15 t50) fun v51 =>
    obind (avInt .i64 v51) fun t51 =>
    lett ((t46 : Int) != t51) fun (t52 : Bool) =>
    k23 t52 h_15)))
 (
  k11 h_15)
noncomputable def ref12_Same_L0 (t0 : AV) (t1 : AV) (k11 : AHeap → R) : Nat → Int → AHeap → R := iterR (fun _ _ => none) (ref12_Same_L0b t0 t1 k11)
theorem ref12_Same_L0_s (t0 : AV) (t1 : AV) (k11 : AHeap → R) (m : Nat) : ref12_Same_L0 t0 t1 k11 (m + 1) = ref12_Same_L0b t0 t1 k11 (ref12_Same_L0 t0 t1 k11 m) := rfl
noncomputable def ref12_Same (_ : CallF) (n : Nat) (t0 : AV) (t1 : AV) (h : AHeap) : R :=
 obind (lenL t0) fun t7 =>
 obind (lenL t1) fun t9 =>
 lett ((t7 : Int) != t9) fun (t10 : Bool) =>
 ifB t10
 (
  some (.ret (.bool false), h))
 (
  lett (fun  (h_12 : AHeap) =>
   some (.ret (.bool true), h_12)) fun k11 =>
  ref12_Same_L0 t0 t1 k11 n 0 h)
set_option maxHeartbeats 4000000 in
set_option maxRecDepth 20000 in
theorem ref12_Same_ok {call : CallF} (hc : SaysAll Tryd.prog call) {n : Nat} {t0 : AV} {t1 : AV} {h : AHeap} {rR : ARes} {hR : AHeap} (hF : ref12_Same call n t0 t1 h = some (rR, hR)) : Says Tryd.prog 10 [t0, t1] h rR hR := by
 unfold ref12_Same at hF
 refine says_of (fn := Tryd.f10) Tryd.func10 (c := codeOf Tryd.f10) (by kernel_rfl) (by kernel_rfl) (fun w0 m0 => ?_)
 refine W.weaken (l' := [(0, t0), (1, t1)]) (Fr.c (Fr.c Fr.n)) ?_
 refine W.s (fun K1 n1 e1 q1 p1 => ?_)
 refine W.r ?_
 refine WL.a (some 4) (.bool false) h ?_
 refine WL.n ?_
 refine Go.weaken (l' := [(0, t0), (1, t1)]) (Fr.c (Fr.c Fr.n)) ?_
 refine n1 ?_
 refine W.s (fun K2 n2 e2 q2 p2 => ?_)
 refine W.s (fun K3 n3 e3 q3 p3 => ?_)
 refine W.r ?_
 refine WL.a (some 6) t0 h ?_
 replace hF := obind_some hF; obtain ⟨t7, e4, hF⟩ := hF
 refine WL.b (some 7) (.int .i64 t7) h (len_row (P := Tryd.prog) (h := h) (t := 24) (e' := 37) (by kernel_rfl) e4) ?_
 refine WL.a (some 8) t1 h ?_
 replace hF := obind_some hF; obtain ⟨t9, e5, hF⟩ := hF
 refine WL.b (some 9) (.int .i64 t9) h (len_row (P := Tryd.prog) (h := h) (t := 24) (e' := 37) (by kernel_rfl) e5) ?_
 replace hF := lett_some hF; obtain ⟨t10, e6, hF⟩ := hF
 refine WL.val (d := (some 10)) (v := .bool t10) (h' := h) (by kernel_rfl) (by kernel_rfl) (val_of AV.bool e6 (by kernel_rfl)) ?_
 refine WL.n ?_
 refine Go.weaken (l' := [(0, t0), (1, t1), (10, .bool t10)]) (Fr.c (Fr.c (Fr.c Fr.n))) ?_
 refine n3 ?_
 cases t10 with
 | true =>
  replace hF := ifB_t hF
  refine W.t ?_
  refine W.s (fun K7 n7 e7 q7 p7 => ?_)
  refine W.r ?_
  refine WL.a (some 4) (.bool false) h ?_
  refine WL.n ?_
  refine Go.weaken (l' := [(4, .bool false)]) (Fr.c Fr.n) ?_
  refine n7 ?_
  refine W.ret (by kernel_rfl) ?_
  refine q2 ?_
  obtain ⟨hF, hF2⟩ := ret_inj hF; subst hF; subst hF2
  exact leave_of (rs := [.tmp 4]) (vs := [.bool false]) (by kernel_rfl) (res_tmp (by kernel_rfl) res_nil) (by kernel_rfl)
 | false =>
  replace hF := ifB_f hF
  refine W.f ?_
  refine W.skip (by kernel_rfl) ?_
  refine n2 ?_
  refine W.s (fun K8 n8 e8 q8 p8 => ?_)
  refine W.s (fun K9 n9 e9 q9 p9 => ?_)
  refine W.r ?_
  refine WL.a (some 5) (.int .i64 0) h ?_
  refine WL.n ?_
  refine Go.weaken (l' := [(0, t0), (1, t1), (5, .int .i64 0)]) (Fr.c (Fr.c (Fr.c Fr.n))) ?_
  refine n9 ?_
  replace hF := lett_some hF; obtain ⟨k11, e11, hF⟩ := hF
  have J11 : ∀  (h_12 : AHeap), k11 h_12 = some (rR, hR) → Go w0 m0 (Func.ntmps Tryd.f10) (K8 .normal) [] [] h_12 := by
   intro  h_12 hF
   rw [e11] at hF
   refine n8 ?_
   refine W.s (fun K13 n13 e13 q13 p13 => ?_)
   refine W.r ?_
   refine WL.a (some 4) (.bool true) h_12 ?_
   refine WL.n ?_
   refine Go.weaken (l' := [(4, .bool true)]) (Fr.c Fr.n) ?_
   refine n13 ?_
   refine W.ret (by kernel_rfl) ?_
   obtain ⟨hF, hF2⟩ := ret_inj hF; subst hF; subst hF2
   exact leave_of (rs := [.tmp 4]) (vs := [.bool true]) (by kernel_rfl) (res_tmp (by kernel_rfl) res_nil) (by kernel_rfl)
  refine W.blockK (by kernel_rfl) (fun K10 n10 s10 o10 q10 p10 => ?_)
  refine W.loopK (by kernel_rfl) (fun I14 K14 b14 n14 e14 q14 p14 => ?_)
  have L14 : ∀ (m : Nat) (t5 : Int) (h_15 : AHeap), ref12_Same_L0 t0 t1 k11 m t5 h_15 = some (rR, hR) → Go w0 m0 (Func.ntmps Tryd.f10) I14 [(0, t0), (1, t1), (5, .int .i64 t5)] [] h_15 := by
   intro m
   induction m with
   | zero => intro t5 h_15 hF; cases hF
   | succ m ih14 =>
    intro t5 h_15 hF
    rw [ref12_Same_L0_s] at hF; unfold ref12_Same_L0b at hF
    refine b14 ?_
    refine W.s (fun K16 n16 e16 q16 p16 => ?_)
    refine W.s (fun K17 n17 e17 q17 p17 => ?_)
    refine W.r ?_
    refine WL.a (some 11) (.int .i64 t5) h_15 ?_
    refine WL.a (some 12) t0 h_15 ?_
    replace hF := obind_some hF; obtain ⟨t13, e18, hF⟩ := hF
    refine WL.b (some 13) (.int .i64 t13) h_15 (len_row (P := Tryd.prog) (h := h_15) (t := 24) (e' := 37) (by kernel_rfl) e18) ?_
    replace hF := lett_some hF; obtain ⟨t14, e19, hF⟩ := hF
    refine WL.val (d := (some 14)) (v := .bool t14) (h' := h_15) (by kernel_rfl) (by kernel_rfl) (val_of AV.bool e19 (by kernel_rfl)) ?_
    refine WL.n ?_
    refine Go.weaken (l' := [(0, t0), (1, t1), (5, .int .i64 t5), (14, .bool t14)]) (Fr.c (Fr.c (Fr.c (Fr.c Fr.n)))) ?_
    refine n17 ?_
    cases t14 with
    | true =>
     replace hF := ifB_t hF
     refine W.t ?_
     refine W.skip (by kernel_rfl) ?_
     refine n16 ?_
     refine W.s (fun K20 n20 e20 q20 p20 => ?_)
     refine W.blockK (by kernel_rfl) (fun K21 n21 s21 o21 q21 p21 => ?_)
     refine W.s (fun K22 n22 e22 q22 p22 => ?_)
     replace hF := lett_some hF; obtain ⟨k23, e23, hF⟩ := hF
     have J23 : ∀ (t53 : Bool) (h_24 : AHeap), k23 t53 h_24 = some (rR, hR) → Go w0 m0 (Func.ntmps Tryd.f10) (K22 .normal) [(0, t0), (1, t1), (5, .int .i64 t5), (53, .bool t53)] [] h_24 := by
      intro t53 h_24 hF
      rw [e23] at hF
      refine n22 ?_
      cases t53 with
      | true =>
       replace hF := ifB_t hF
       refine W.t ?_
       refine W.s (fun K25 n25 e25 q25 p25 => ?_)
       refine W.r ?_
       refine WL.a (some 4) (.bool false) h_24 ?_
       refine WL.n ?_
       refine Go.weaken (l' := [(4, .bool false)]) (Fr.c Fr.n) ?_
       refine n25 ?_
       refine W.ret (by kernel_rfl) ?_
       refine q21 ?_
       refine q20 ?_
       refine q14 ?_
       refine q10 ?_
       refine q8 ?_
       obtain ⟨hF, hF2⟩ := ret_inj hF; subst hF; subst hF2
       exact leave_of (rs := [.tmp 4]) (vs := [.bool false]) (by kernel_rfl) (res_tmp (by kernel_rfl) res_nil) (by kernel_rfl)
      | false =>
       replace hF := ifB_f hF
       refine W.f ?_
       refine W.skip (by kernel_rfl) ?_
       refine n21 ?_
       refine n20 ?_
       refine W.r ?_
       refine WL.a (some 15) (.int .i64 t5) h_24 ?_
       replace hF := lett_some hF; obtain ⟨t16, e26, hF⟩ := hF
       refine WL.val (d := (some 16)) (v := .int .i64 t16) (h' := h_24) (by kernel_rfl) (by kernel_rfl) (val_of (AV.int .i64) e26 (by kernel_rfl)) ?_
       refine WL.a (some 5) (.int .i64 t16) h_24 ?_
       refine WL.n ?_
       refine Go.weaken (l' := [(0, t0), (1, t1), (5, .int .i64 t16)]) (Fr.c (Fr.c (Fr.c Fr.n))) ?_
       refine n14 ?_
       exact Go.weaken (Fr.c (Fr.c (Fr.c Fr.n))) (ih14 _ _ hF)
     refine W.draw (by kernel_rfl) (hc.ok w0) (plan := [0, 1, 2, 3, 4, 5, 6, 7, 8, 9, 10, 11, 12, 13, 14, 15, 16, 17, 18, 19, 20, 21, 22, 23, 24, 25, 26, 27, 28, 29, 30, 31, 32, 33, 34, 35, 36]) (by kernel_rfl) (by kernel_rfl) (by kernel_rfl) ?_
     refine WD.a 0 (some 17) t0 h_15 ?_
     refine WD.a 0 (some 18) (.int .i64 t5) h_15 ?_
     replace hF := obind_some hF; obtain ⟨t19, e27, hF⟩ := hF
     refine WD.b 0 (some 19) t19 h_15 (index_row (P := Tryd.prog) (h := h_15) (t := 24) (e' := 37) (k := .i64) (by kernel_rfl) (by kernel_rfl) (by kernel_rfl) e27) ?_
     replace hF := obind_some hF; obtain ⟨t20, e28, hF⟩ := hF
     refine WD.b 0 (some 20) t20 h_15 (field_ptr (P := Tryd.prog) (h := h_15) (s := 37) (f := 0) (by kernel_rfl) e28) ?_
     replace hF := obind_some hF; obtain ⟨v21, e29, hF⟩ := hF
     replace hF := obind_some hF; obtain ⟨t21, c30, hF⟩ := hF
     have c30 := avInt_some c30
     subst c30
     refine WD.b 1 (some 21) (.int .i64 t21) h_15 (load_cell (P := Tryd.prog) (h := h_15) (t := 3) (by kernel_rfl) e29) ?_
     refine WD.a 0 (some 22) t1 h_15 ?_
     refine WD.a 0 (some 23) (.int .i64 t5) h_15 ?_
     replace hF := obind_some hF; obtain ⟨t24, e31, hF⟩ := hF
     refine WD.b 0 (some 24) t24 h_15 (index_row (P := Tryd.prog) (h := h_15) (t := 24) (e' := 37) (k := .i64) (by kernel_rfl) (by kernel_rfl) (by kernel_rfl) e31) ?_
     replace hF := obind_some hF; obtain ⟨t25, e32, hF⟩ := hF
     refine WD.b 0 (some 25) t25 h_15 (field_ptr (P := Tryd.prog) (h := h_15) (s := 37) (f := 0) (by kernel_rfl) e32) ?_
     replace hF := obind_some hF; obtain ⟨v26, e33, hF⟩ := hF
     replace hF := obind_some hF; obtain ⟨t26, c34, hF⟩ := hF
     have c34 := avInt_some c34
     subst c34
     refine WD.b 1 (some 26) (.int .i64 t26) h_15 (load_cell (P := Tryd.prog) (h := h_15) (t := 3) (by kernel_rfl) e33) ?_
     replace hF := lett_some hF; obtain ⟨t27, e35, hF⟩ := hF
     refine WD.val (d := (some 27)) (v := .bool t27) (h' := h_15) (by kernel_rfl) (by kernel_rfl) (val_of AV.bool e35 (by kernel_rfl)) (k := 0) (by kernel_rfl) (fun e => absurd e (by decide)) (by decide) ?_
     refine WD.a 0 (some 28) (.bool t27) h_15 ?_
     cases t27 with
     | true =>
      replace hF := ifB_t hF
      refine WD.not (d := (some 29)) (by kernel_rfl) (by kernel_rfl) (k := 0) (by kernel_rfl) (fun e => absurd e (by decide)) (by decide) ?_
      refine WD.not (d := (some 30)) (by kernel_rfl) (by kernel_rfl) (k := 0) (by kernel_rfl) (fun e => absurd e (by decide)) (by decide) ?_
      refine WD.not (d := (some 31)) (by kernel_rfl) (by kernel_rfl) (k := 0) (by kernel_rfl) (fun e => absurd e (by decide)) (by decide) ?_
      refine WD.not (d := (some 32)) (by kernel_rfl) (by kernel_rfl) (k := 0) (by kernel_rfl) (fun e => absurd e (by decide)) (by decide) ?_
      refine WD.not (d := (some 33)) (by kernel_rfl) (by kernel_rfl) (k := 1) (by kernel_rfl) (fun e => absurd e (by decide)) (by decide) ?_
      refine WD.not (d := (some 34)) (by kernel_rfl) (by kernel_rfl) (k := 0) (by kernel_rfl) (fun e => absurd e (by decide)) (by decide) ?_
      refine WD.not (d := (some 35)) (by kernel_rfl) (by kernel_rfl) (k := 0) (by kernel_rfl) (fun e => absurd e (by decide)) (by decide) ?_
      refine WD.not (d := (some 36)) (by kernel_rfl) (by kernel_rfl) (k := 0) (by kernel_rfl) (fun e => absurd e (by decide)) (by decide) ?_
      refine WD.not (d := (some 37)) (by kernel_rfl) (by kernel_rfl) (k := 0) (by kernel_rfl) (fun e => absurd e (by decide)) (by decide) ?_
      refine WD.not (d := (some 38)) (by kernel_rfl) (by kernel_rfl) (k := 1) (by kernel_rfl) (fun e => absurd e (by decide)) (by decide) ?_
      refine WD.not (d := (some 39)) (by kernel_rfl) (by kernel_rfl) (k := 0) (by kernel_rfl) (fun e => absurd e (by decide)) (by decide) ?_
      refine WD.a 0 (some 40) (.bool true) h_15 ?_
      refine WD.a 0 (some 41) (.bool true) h_15 ?_
      refine WD.not (d := (some 42)) (by kernel_rfl) (by kernel_rfl) (k := 0) (by kernel_rfl) (fun e => absurd e (by decide)) (by decide) ?_
      refine WD.not (d := (some 43)) (by kernel_rfl) (by kernel_rfl) (k := 0) (by kernel_rfl) (fun e => absurd e (by decide)) (by decide) ?_
      refine WD.not (d := (some 44)) (by kernel_rfl) (by kernel_rfl) (k := 0) (by kernel_rfl) (fun e => absurd e (by decide)) (by decide) ?_
      refine WD.not (d := (some 45)) (by kernel_rfl) (by kernel_rfl) (k := 0) (by kernel_rfl) (fun e => absurd e (by decide)) (by decide) ?_
      refine WD.not (d := (some 46)) (by kernel_rfl) (by kernel_rfl) (k := 1) (by kernel_rfl) (fun e => absurd e (by decide)) (by decide) ?_
      refine WD.not (d := (some 47)) (by kernel_rfl) (by kernel_rfl) (k := 0) (by kernel_rfl) (fun e => absurd e (by decide)) (by decide) ?_
      refine WD.not (d := (some 48)) (by kernel_rfl) (by kernel_rfl) (k := 0) (by kernel_rfl) (fun e => absurd e (by decide)) (by decide) ?_
      refine WD.not (d := (some 49)) (by kernel_rfl) (by kernel_rfl) (k := 0) (by kernel_rfl) (fun e => absurd e (by decide)) (by decide) ?_
      refine WD.not (d := (some 50)) (by kernel_rfl) (by kernel_rfl) (k := 0) (by kernel_rfl) (fun e => absurd e (by decide)) (by decide) ?_
      refine WD.not (d := (some 51)) (by kernel_rfl) (by kernel_rfl) (k := 1) (by kernel_rfl) (fun e => absurd e (by decide)) (by decide) ?_
      refine WD.not (d := (some 52)) (by kernel_rfl) (by kernel_rfl) (k := 0) (by kernel_rfl) (fun e => absurd e (by decide)) (by decide) ?_
      refine WD.a 0 (some 53) (.bool true) h_15 ?_
      refine WD.nil ?_
      exact Go.weaken (Fr.c (Fr.c (Fr.c (Fr.c Fr.n)))) (J23 _ _ hF)
     | false =>
      replace hF := ifB_f hF
      refine WD.a 0 (some 29) t0 h_15 ?_
      refine WD.a 0 (some 30) (.int .i64 t5) h_15 ?_
      replace hF := obind_some hF; obtain ⟨t31, e36, hF⟩ := hF
      refine WD.b 0 (some 31) t31 h_15 (index_row (P := Tryd.prog) (h := h_15) (t := 24) (e' := 37) (k := .i64) (by kernel_rfl) (by kernel_rfl) (by kernel_rfl) e36) ?_
      replace hF := obind_some hF; obtain ⟨t32, e37, hF⟩ := hF
      refine WD.b 0 (some 32) t32 h_15 (field_ptr (P := Tryd.prog) (h := h_15) (s := 37) (f := 1) (by kernel_rfl) e37) ?_
      replace hF := obind_some hF; obtain ⟨v33, e38, hF⟩ := hF
      replace hF := obind_some hF; obtain ⟨t33, c39, hF⟩ := hF
      have c39 := avStr_some c39
      subst c39
      refine WD.b 1 (some 33) (strA t33) h_15 (load_cell (P := Tryd.prog) (h := h_15) (t := 9) (by kernel_rfl) e38) ?_
      refine WD.a 0 (some 34) t1 h_15 ?_
      refine WD.a 0 (some 35) (.int .i64 t5) h_15 ?_
      replace hF := obind_some hF; obtain ⟨t36, e40, hF⟩ := hF
      refine WD.b 0 (some 36) t36 h_15 (index_row (P := Tryd.prog) (h := h_15) (t := 24) (e' := 37) (k := .i64) (by kernel_rfl) (by kernel_rfl) (by kernel_rfl) e40) ?_
      replace hF := obind_some hF; obtain ⟨t37, e41, hF⟩ := hF
      refine WD.b 0 (some 37) t37 h_15 (field_ptr (P := Tryd.prog) (h := h_15) (s := 37) (f := 1) (by kernel_rfl) e41) ?_
      replace hF := obind_some hF; obtain ⟨v38, e42, hF⟩ := hF
      replace hF := obind_some hF; obtain ⟨t38, c43, hF⟩ := hF
      have c43 := avStr_some c43
      subst c43
      refine WD.b 1 (some 38) (strA t38) h_15 (load_cell (P := Tryd.prog) (h := h_15) (t := 9) (by kernel_rfl) e42) ?_
      replace hF := lett_some hF; obtain ⟨t39, e44, hF⟩ := hF
      refine WD.val (d := (some 39)) (v := .bool t39) (h' := h_15) (by kernel_rfl) (by kernel_rfl) (val_of AV.bool e44 (by kernel_rfl)) (k := 0) (by kernel_rfl) (fun e => absurd e (by decide)) (by decide) ?_
      refine WD.a 0 (some 40) (.bool t39) h_15 ?_
      refine WD.a 0 (some 41) (.bool t39) h_15 ?_
      cases t39 with
      | true =>
       replace hF := ifB_t hF
       refine WD.not (d := (some 42)) (by kernel_rfl) (by kernel_rfl) (k := 0) (by kernel_rfl) (fun e => absurd e (by decide)) (by decide) ?_
       refine WD.not (d := (some 43)) (by kernel_rfl) (by kernel_rfl) (k := 0) (by kernel_rfl) (fun e => absurd e (by decide)) (by decide) ?_
       refine WD.not (d := (some 44)) (by kernel_rfl) (by kernel_rfl) (k := 0) (by kernel_rfl) (fun e => absurd e (by decide)) (by decide) ?_
       refine WD.not (d := (some 45)) (by kernel_rfl) (by kernel_rfl) (k := 0) (by kernel_rfl) (fun e => absurd e (by decide)) (by decide) ?_
       refine WD.not (d := (some 46)) (by kernel_rfl) (by kernel_rfl) (k := 1) (by kernel_rfl) (fun e => absurd e (by decide)) (by decide) ?_
       refine WD.not (d := (some 47)) (by kernel_rfl) (by kernel_rfl) (k := 0) (by kernel_rfl) (fun e => absurd e (by decide)) (by decide) ?_
       refine WD.not (d := (some 48)) (by kernel_rfl) (by kernel_rfl) (k := 0) (by kernel_rfl) (fun e => absurd e (by decide)) (by decide) ?_
       refine WD.not (d := (some 49)) (by kernel_rfl) (by kernel_rfl) (k := 0) (by kernel_rfl) (fun e => absurd e (by decide)) (by decide) ?_
       refine WD.not (d := (some 50)) (by kernel_rfl) (by kernel_rfl) (k := 0) (by kernel_rfl) (fun e => absurd e (by decide)) (by decide) ?_
       refine WD.not (d := (some 51)) (by kernel_rfl) (by kernel_rfl) (k := 1) (by kernel_rfl) (fun e => absurd e (by decide)) (by decide) ?_
       refine WD.not (d := (some 52)) (by kernel_rfl) (by kernel_rfl) (k := 0) (by kernel_rfl) (fun e => absurd e (by decide)) (by decide) ?_
       refine WD.a 0 (some 53) (.bool true) h_15 ?_
       refine WD.nil ?_
       exact Go.weaken (Fr.c (Fr.c (Fr.c (Fr.c Fr.n)))) (J23 _ _ hF)
      | false =>
       replace hF := ifB_f hF
       refine WD.a 0 (some 42) t0 h_15 ?_
       refine WD.a 0 (some 43) (.int .i64 t5) h_15 ?_
       replace hF := obind_some hF; obtain ⟨t44, e45, hF⟩ := hF
       refine WD.b 0 (some 44) t44 h_15 (index_row (P := Tryd.prog) (h := h_15) (t := 24) (e' := 37) (k := .i64) (by kernel_rfl) (by kernel_rfl) (by kernel_rfl) e45) ?_
       replace hF := obind_some hF; obtain ⟨t45, e46, hF⟩ := hF
       refine WD.b 0 (some 45) t45 h_15 (field_ptr (P := Tryd.prog) (h := h_15) (s := 37) (f := 2) (by kernel_rfl) e46) ?_
       replace hF := obind_some hF; obtain ⟨v46, e47, hF⟩ := hF
       replace hF := obind_some hF; obtain ⟨t46, c48, hF⟩ := hF
       have c48 := avInt_some c48
       subst c48
       refine WD.b 1 (some 46) (.int .i64 t46) h_15 (load_cell (P := Tryd.prog) (h := h_15) (t := 3) (by kernel_rfl) e47) ?_
       refine WD.a 0 (some 47) t1 h_15 ?_
       refine WD.a 0 (some 48) (.int .i64 t5) h_15 ?_
       replace hF := obind_some hF; obtain ⟨t49, e49, hF⟩ := hF
       refine WD.b 0 (some 49) t49 h_15 (index_row (P := Tryd.prog) (h := h_15) (t := 24) (e' := 37) (k := .i64) (by kernel_rfl) (by kernel_rfl) (by kernel_rfl) e49) ?_
       replace hF := obind_some hF; obtain ⟨t50, e50, hF⟩ := hF
       refine WD.b 0 (some 50) t50 h_15 (field_ptr (P := Tryd.prog) (h := h_15) (s := 37) (f := 2) (by kernel_rfl) e50) ?_
       replace hF := obind_some hF; obtain ⟨v51, e51, hF⟩ := hF
       replace hF := obind_some hF; obtain ⟨t51, c52, hF⟩ := hF
       have c52 := avInt_some c52
       subst c52
       refine WD.b 1 (some 51) (.int .i64 t51) h_15 (load_cell (P := Tryd.prog) (h := h_15) (t := 3) (by kernel_rfl) e51) ?_
       replace hF := lett_some hF; obtain ⟨t52, e53, hF⟩ := hF
       refine WD.val (d := (some 52)) (v := .bool t52) (h' := h_15) (by kernel_rfl) (by kernel_rfl) (val_of AV.bool e53 (by kernel_rfl)) (k := 0) (by kernel_rfl) (fun e => absurd e (by decide)) (by decide) ?_
       refine WD.a 0 (some 53) (.bool t52) h_15 ?_
       refine WD.nil ?_
       exact Go.weaken (Fr.c (Fr.c (Fr.c (Fr.c Fr.n)))) (J23 _ _ hF)
    | false =>
     replace hF := ifB_f hF
     refine W.f ?_
     refine W.exit (by kernel_rfl) ?_
     refine e16 ?_
     refine e14 ?_
     refine s10 (by kernel_rfl) ?_
     exact Go.weaken Fr.n (J11 _ hF)
  exact Go.weaken (Fr.c (Fr.c (Fr.c Fr.n))) (L14 _ _ _ hF)
noncomputable def ref12_Same_fn (call : CallF) (n : Nat) : FnT := fun args h => match args with
 | [x0, x1] => ref12_Same call n x0 x1 h
 | _ => none
set_option maxRecDepth 100000 in
theorem ref12_Same_fn_eq (call : CallF) (n : Nat) (t0 : AV) (t1 : AV) (h : AHeap) : ref12_Same_fn call n [t0, t1] h = ref12_Same call n t0 t1 h :=
 rfl
theorem ref12_Same_holds {call : CallF} (hc : SaysAll Tryd.prog call) (n : Nat) : Holds Tryd.prog 10 (ref12_Same_fn call n) := by
 intro args h r h2 e
 unfold ref12_Same_fn at e
 split at e
 ·exact ref12_Same_ok hc e
 ·cases e

end Go.Proofs.YtjopejiooipmkaaDoor

namespace Go.Proofs.YtjopejiooipmkaaDoor
open Go.RowKit Abs
/-- the first that answers -/
noncomputable def orC (a b : CallF) : CallF := fun f args h => match a f args h with
 | some r => some r
 | none => b f args h
theorem orC_ok {P : Program} {a b : CallF} (ha : SaysAll P a) (hb : SaysAll P b) : SaysAll P (orC a b) := by
 intro f args h r h' e
 unfold orC at e
 split at e
 ·rename_i r' e2
  cases e
  exact ha _ _ _ _ _ e2
 ·exact hb _ _ _ _ _ e
noncomputable def world2 (n d : Nat) : CallF := orC (callOf [(9, law12_written_fn (world n d) n), (10, ref12_Same_fn (world n d) n)]) (world n d)
theorem world2_ok (n d : Nat) : SaysAll Tryd.prog (world2 n d) := orC_ok (callOf_cons (law12_written_holds (world_ok n d) n) (callOf_cons (ref12_Same_holds (world_ok n d) n) callOf_nil)) (world_ok n d)
theorem w2_written {n d : Nat} {v : AV} {h : AHeap} {x : ARes × AHeap} (e : law12_written (world n d) n v h = some x) : world2 n d 9 [v] h = some x := by
 have e2 : law12_written_fn (world n d) n [v] h = some x := by rw [law12_written_fn_eq]; exact e
 show (match law12_written_fn (world n d) n [v] h with
  | some r => some r
  | none => _) = some x
 rw [e2]
theorem w2_same {n d : Nat} {v w : AV} {h : AHeap} {x : ARes × AHeap} (e : ref12_Same (world n d) n v w h = some x) : world2 n d 10 [v, w] h = some x := by
 have e2 : ref12_Same_fn (world n d) n [v, w] h = some x := by rw [ref12_Same_fn_eq]; exact e
 show (match ref12_Same_fn (world n d) n [v, w] h with
  | some r => some r
  | none => _) = some x
 rw [e2]
theorem w2_lex (n d : Nat) (args : List AV) (h : AHeap) : world2 n d 8 args h = world n d 8 args h := rfl
theorem w2_works (n d : Nat) (args : List AV) (h : AHeap) : world2 n d 6 args h = world n d 6 args h := rfl
theorem w2_great (n d : Nat) (args : List AV) (h : AHeap) : world2 n d 7 args h = world n d 7 args h := rfl
theorem take_tail {t : T AV} {o n : Nat} {x : AV} {xs : List AV} (h : t.take o (n + 1) = some (x :: xs)) : t.take (o + 1) n = some xs := by
 unfold T.take at h
 cases e1 : t.get o with
 | none => rw [e1] at h; cases h
 | some y =>
  rw [e1] at h
  cases e2 : t.take (o + 1) n with
  | none => rw [e2] at h; cases h
  | some ys =>
   rw [e2] at h
   cases h
   rfl
theorem row_tail {H : AHeap} {b o n : Nat} {x : AV} {xs : List AV} (h : ldRow H (n + 1) (.ptr b o) = some (x :: xs)) : ldRow H n (.ptr b (o + 1)) = some xs := by
 simp only [ldRow, rowGet] at h ⊢
 split at h
 ·exact take_tail h
 ·exact take_tail h
 ·exact take_tail h
 ·cases h
/-- a token that can be written -/
def TokOk (x : Tk) : Prop := (x.k = 3 → ∃ y : Nat, x.m = y ∧ y < 10000) ∧ x.t.length ≤ 100000
section
variable {n d p q a b c N i : Nat} {h h0 H : AHeap} {u : Bytes} {Q : ARes → AHeap → Prop} {v v1 v2 : AV} {S : List Nat} {ys T : List RowT} {s : Bool} {ts ts' full : List Tk}
theorem tk_cells (hs : Slc H.next H 4 v (full.map Tk.c)) {i : Nat} (hi : i < full.length) : ∃ b, idxP 4 v (i : Int) = some (.ptr b (i * 4)) ∧ ldRow H 4 (.ptr b (i * 4)) = some (tokC full[i].k full[i].t full[i].m full[i].a) ∧
  ldCell H (.ptr b (i * 4 + 0)) = some (.int .i64 full[i].k) ∧ ldCell H (.ptr b (i * 4 + 1)) = some (strA full[i].t) ∧ ldCell H (.ptr b (i * 4 + 2)) = some (.int .i64 full[i].m) := by
 obtain ⟨b, _, x1, r1⟩ := hs.row (i := i) (by simpa using hi)
 rw [List.getElem_map] at r1
 have r2 : ldRow H 4 (.ptr b (i * 4)) = some (tokC full[i].k full[i].t full[i].m full[i].a) := r1
 have r3 := r2
 unfold tokC at r3
 exact ⟨b, x1, r2, row_head r3, row_head (row_tail r3), row_head (row_tail (row_tail r3))⟩
theorem written_loop {k6 : Bytes → AHeap → R} (hs : Slc H.next H 4 v (full.map Tk.c)) (hok : ∀ x ∈ full, TokOk x) (hn : 200000 < n) (hP : HasPow H) (hxB : memB TBld H.ex = true) (hx8 : memB TU8 H.ex = false) (hl : full.length ≤ 1000000) (htot : (wr false full).length ≤ 1000000) (hk : Wp (k6 (wr false full) H) Q) :
  ∀ (rest : List Tk) (f i : Nat) (acc : Bytes) (s : Bool), full.drop i = rest → i ≤ full.length → rest.length < f → acc ++ wr s rest = wr false full → (s = false → i = 0 ∨ ∃ x : Tk, full[i - 1]? = some x ∧ x.k = 6) → (s = true → 0 < i ∧ ∃ x : Tk, full[i - 1]? = some x ∧ x.k ≠ 6) →
   Wp (law12_written_L0 (world n (d + 7)) v k6 f acc (i : Int) H) Q
 | _, 0, i, acc, s, _, _, hf, _, _, _ => by omega
 | [], f + 1, i, acc, s, hd, hi, hf, ha, hp1, hp2 => by
  rw [law12_written_L0_s]
  unfold law12_written_L0b
  have hle := hs.len
  simp only [List.length_map] at hle
  have : i = full.length := by
   have := congrArg List.length hd
   rw [List.length_drop] at this
   simp at this
   omega
  have e : acc = wr false full := by
   rw [← ha]
   unfold wr
   simp
  rw [← e] at hk
  repeat (first | (with_reducible refine Wp.lett ?_) | ((with_reducible apply Wp.obind); (with_reducible exact hle)) | ((with_reducible refine Wp.iff ?_ ?_); ((with_reducible apply decide_eq_false); omega)))
  exact hk
 | x :: rest, f + 1, i, acc, s, hd, hi, hf, ha, hp1, hp2 => by
  rw [law12_written_L0_s]
  unfold law12_written_L0b
  have hle := hs.len
  simp only [List.length_map] at hle
  have hil : i < full.length := by
   have := congrArg List.length hd
   rw [List.length_drop] at this
   simp at this
   omega
  have hli : full[i] = x ∧ full.drop (i + 1) = rest := by
   rw [List.drop_eq_getElem_cons hil] at hd
   exact ⟨(List.cons.inj hd).1, (List.cons.inj hd).2⟩
  have hrl : rest.length + (i + 1) = full.length := by
   rw [← hli.2, List.length_drop]
   omega
  obtain ⟨b, x1, r1, r2, _, _⟩ := tk_cells hs hil
  rw [hli.1] at r1 r2
  have hx := hok x (by rw [← hli.1]; exact List.getElem_mem hil)
  have hlast : full[i + 1 - 1]? = some x := by rw [Nat.add_sub_cancel, List.getElem?_eq_getElem hil, hli.1]
  have htot2 := htot
  rw [← ha] at htot2
  by_cases h6 : x.k = 6
  ·have ew : wr s (x :: rest) = (if rest ≠ [] then [10] else []) ++ wr false rest := wr_eol h6
   rw [ew, ← List.append_assoc] at ha
   rw [ew] at htot2
   have hrest := fun acc' (e : acc' = acc ++ (if rest ≠ [] then [10] else [])) => written_loop hs hok hn hP hxB hx8 hl htot hk rest f (i + 1) acc' false hli.2 (by omega) (by simp at hf; omega) (by rw [e]; exact ha) (fun _ => .inr ⟨x, hlast, h6⟩) (fun hh => by cases hh)
   rw [h6] at r2
   by_cases hr : rest = []
   ·subst hr
    have := hrest acc (by simp)
    simp at hrl
    repeat (first | (with_reducible refine Wp.join1 (fun _ _ => ?_)) | ((with_reducible refine Wp.lettw ?_ ?_ ?_); omega; omega) | (with_reducible refine Wp.lett ?_) | ((with_reducible apply Wp.obind); (with_reducible first | exact hle | exact x1 | exact r2 | exact avInt_int _ _ | exact fldP_ptr _ _ _)) | ((with_reducible refine Wp.ift ?_ ?_); ((with_reducible first | apply decide_eq_true | apply bne_t); omega)) | ((with_reducible refine Wp.iff ?_ ?_); ((with_reducible first | apply decide_eq_false | apply bne_f); omega)) | (with_reducible refine Wp.go1 (by assumption) ?_))
    rw [show (i : Int) + 1 = ((i + 1 : Nat) : Int) by omega]
    exact this
   ·rw [if_pos hr] at hrest htot2
    have ad : addS acc [10] = some (acc ++ [10]) := addS_val (by simp at htot2 ⊢; omega)
    have : 0 < rest.length := List.length_pos_iff.2 hr
    repeat (first | (with_reducible refine Wp.join1 (fun _ _ => ?_)) | ((with_reducible refine Wp.lettw ?_ ?_ ?_); omega; omega) | (with_reducible refine Wp.lett ?_) | ((with_reducible apply Wp.obind); (with_reducible first | exact hle | exact x1 | exact r2 | exact ad | exact avInt_int _ _ | exact fldP_ptr _ _ _)) | ((with_reducible refine Wp.ift ?_ ?_); ((with_reducible first | apply decide_eq_true | apply bne_t); omega)) | ((with_reducible refine Wp.iff ?_ ?_); ((with_reducible apply bne_f); omega)) | (with_reducible refine Wp.go1 (by assumption) ?_))
    rw [show (i : Int) + 1 = ((i + 1 : Nat) : Int) by omega]
    exact hrest _ rfl
  ·have ew : wr s (x :: rest) = (if s = true then [32] else []) ++ (x.w ++ wr true rest) := wr_tok h6
   rw [ew] at ha htot2
   have hw := lword_w (n := n) (d := d) (h := H) (p := x.a) (k := x.k) (m := x.m) (t := x.t) hx.1 (by have := hx.2; omega) (by have := hx.2; omega) (by omega) hP hxB hx8
   have hrest := fun acc' (e : acc' = acc ++ (if s = true then [32] else []) ++ x.w) => written_loop hs hok hn hP hxB hx8 hl htot hk rest f (i + 1) acc' true hli.2 (by omega) (by simp at hf; omega) (by rw [e, ← ha]; simp) (fun hh => by cases hh) (fun _ => ⟨by omega, x, hlast, h6⟩)
   cases s with
   | false =>
    rw [if_neg (by decide)] at hrest htot2
    have ad : addS acc (wordQ x.k x.t x.m) = some (acc ++ x.w) := addS_val (by
     have : (wordQ x.k x.t x.m).length = x.w.length := rfl
     simp at htot2 ⊢
     omega)
    rcases hp1 rfl with h0 | ⟨y, e, hy⟩
    ·subst h0
     repeat (first | (with_reducible refine Wp.join1 (fun _ _ => ?_)) | ((with_reducible refine Wp.lettw ?_ ?_ ?_); omega; omega) | (with_reducible refine Wp.lett ?_) | ((with_reducible apply Wp.obind); (with_reducible first | exact hle | exact x1 | exact r2 | exact r1 | exact ad | exact avInt_int _ _ | exact avStr_str _ | exact fldP_ptr _ _ _)) | ((with_reducible refine Wp.ift ?_ ?_); ((with_reducible first | apply decide_eq_true | apply bne_t); omega)) | ((with_reducible refine Wp.iff ?_ ?_); first | (with_reducible rfl) | ((with_reducible apply decide_eq_false); omega)) | ((with_reducible apply Wp.callK); (with_reducible exact hw)) | (with_reducible refine Wp.go1 (by assumption) ?_))
     rw [show ((0 : Nat) : Int) + 1 = ((0 + 1 : Nat) : Int) by omega]
     exact hrest _ (by simp)
    ·obtain ⟨hj, ej⟩ := List.getElem?_eq_some_iff.1 e
     obtain ⟨b2, x2, _, r4, _, _⟩ := tk_cells hs hj
     rw [ej, hy] at r4
     by_cases h0 : 0 < i
     ·rw [← show (i : Int) - 1 = ((i - 1 : Nat) : Int) by omega] at x2
      repeat (first | (with_reducible refine Wp.join1 (fun _ _ => ?_)) | ((with_reducible refine Wp.lettw ?_ ?_ ?_); omega; omega) | (with_reducible refine Wp.lett ?_) | ((with_reducible apply Wp.obind); (with_reducible first | exact hle | exact x1 | exact r2 | exact r1 | exact ad | exact x2 | exact r4 | exact avInt_int _ _ | exact avStr_str _ | exact fldP_ptr _ _ _)) | ((with_reducible refine Wp.ift ?_ ?_); ((with_reducible first | apply decide_eq_true | apply bne_t); omega)) | ((with_reducible refine Wp.iff ?_ ?_); ((with_reducible apply bne_f); omega)) | ((with_reducible apply Wp.callK); (with_reducible exact hw)) | (with_reducible refine Wp.go1 (by assumption) ?_))
      rw [show (i : Int) + 1 = ((i + 1 : Nat) : Int) by omega]
      exact hrest _ (by simp)
     ·repeat (first | (with_reducible refine Wp.join1 (fun _ _ => ?_)) | ((with_reducible refine Wp.lettw ?_ ?_ ?_); omega; omega) | (with_reducible refine Wp.lett ?_) | ((with_reducible apply Wp.obind); (with_reducible first | exact hle | exact x1 | exact r2 | exact r1 | exact ad | exact avInt_int _ _ | exact avStr_str _ | exact fldP_ptr _ _ _)) | ((with_reducible refine Wp.ift ?_ ?_); ((with_reducible first | apply decide_eq_true | apply bne_t); omega)) | ((with_reducible refine Wp.iff ?_ ?_); first | (with_reducible rfl) | ((with_reducible apply decide_eq_false); omega)) | ((with_reducible apply Wp.callK); (with_reducible exact hw)) | (with_reducible refine Wp.go1 (by assumption) ?_))
      rw [show (i : Int) + 1 = ((i + 1 : Nat) : Int) by omega]
      exact hrest _ (by simp)
   | true =>
    rw [if_pos rfl] at hrest htot2
    obtain ⟨h0, y, e, hy⟩ := hp2 rfl
    obtain ⟨hj, ej⟩ := List.getElem?_eq_some_iff.1 e
    obtain ⟨b2, x2, _, r4, _, _⟩ := tk_cells hs hj
    rw [ej] at r4
    rw [← show (i : Int) - 1 = ((i - 1 : Nat) : Int) by omega] at x2
    have ad : addS acc [32] = some (acc ++ [32]) := addS_val (by simp at htot2 ⊢; omega)
    have ad2 : addS (acc ++ [32]) (wordQ x.k x.t x.m) = some (acc ++ [32] ++ x.w) := addS_val (by
     have : (wordQ x.k x.t x.m).length = x.w.length := rfl
     simp at htot2 ⊢
     omega)
    repeat (first | (with_reducible refine Wp.join1 (fun _ _ => ?_)) | ((with_reducible refine Wp.lettw ?_ ?_ ?_); omega; omega) | (with_reducible refine Wp.lett ?_) | ((with_reducible apply Wp.obind); (with_reducible first | exact hle | exact x1 | exact r2 | exact r1 | exact ad | exact ad2 | exact x2 | exact r4 | exact avInt_int _ _ | exact avStr_str _ | exact fldP_ptr _ _ _)) | ((with_reducible refine Wp.ift ?_ ?_); ((with_reducible first | apply decide_eq_true | apply bne_t); omega)) | ((with_reducible apply Wp.callK); (with_reducible exact hw)) | (with_reducible refine Wp.go1 (by assumption) ?_))
    rw [show (i : Int) + 1 = ((i + 1 : Nat) : Int) by omega]
    exact hrest _ rfl
theorem written_w (hs : Slc H.next H 4 v (full.map Tk.c)) (hok : ∀ x ∈ full, TokOk x) (hn : 200000 < n) (hP : HasPow H) (hxB : memB TBld H.ex = true) (hx8 : memB TU8 H.ex = false) (hl : full.length ≤ 100000) (htot : (wr false full).length ≤ 1000000) : world2 n (d + 7) 9 [v] H = some (.ret (strA (wr false full)), H) := by
 refine w2_written (Wp.eq ?_)
 unfold law12_written
 refine Wp.join1 (fun k hk => ?_)
 refine written_loop hs hok hn hP hxB hx8 (by omega) htot ?_ full n 0 [] false rfl (by omega) (by omega) rfl (fun _ => .inl rfl) (fun hh => by cases hh)
 rw [hk]
 exact Wp.ret ⟨rfl, rfl⟩
end
end Go.Proofs.YtjopejiooipmkaaDoor

namespace Go.Proofs.YtjopejiooipmkaaDoor
open Go.RowKit Abs
theorem SameT.len : ∀ {ts ts' : List Tk}, SameT ts ts' → ts.length = ts'.length
 | [], [], _ => rfl
 | [], _ :: _, h => h.elim
 | _ :: _, [], h => h.elim
 | _ :: l, _ :: r, ⟨_, _, _, h⟩ => by
  rw [List.length_cons, List.length_cons, SameT.len h]
theorem SameT.at : ∀ {ts ts' : List Tk} (_ : SameT ts ts') (i : Nat) (h1 : i < ts.length) (h2 : i < ts'.length), ts[i].k = ts'[i].k ∧ ts[i].t = ts'[i].t ∧ ts[i].m = ts'[i].m
 | [], [], _, i, h1, _ => by simp at h1
 | [], _ :: _, h, _, _, _ => h.elim
 | _ :: _, [], h, _, _, _ => h.elim
 | x :: l, y :: r, ⟨a1, a2, a3, h⟩, i, h1, h2 => by
  cases i with
  | zero => exact ⟨a1, a2, a3⟩
  | succ i => exact SameT.at h i (by simpa using h1) (by simpa using h2)
theorem places_ok {u : Bytes} {s : Bool} {p : Nat} {ts : List Tk} (hu : u.length ≤ 2048) (h : PlacesT u s p ts) : ∀ x ∈ ts, TokOk x := by
 induction h with
 | nil => simp
 | @tok s p q' x rest g hq ht r ih =>
  intro y hy
  rcases List.mem_cons.1 hy with rfl | hy
  ·obtain ⟨_, _, _, _, _, _, h3, _, _, h4⟩ := token_word hq ht
   exact ⟨h3, by omega⟩
  ·exact ih y hy
 | @eol p q rest g hq he r ih =>
  intro y hy
  rcases List.mem_cons.1 hy with rfl | hy
  ·exact ⟨(fun hh => by simp at hh), by simp⟩
  ·exact ih y hy
theorem same_ok : ∀ {ts ts' : List Tk}, SameT ts ts' → (∀ x ∈ ts', TokOk x) → ∀ x ∈ ts, TokOk x
 | [], _, _, _ => by simp
 | _ :: _, [], h, _ => h.elim
 | x :: l, y :: r, ⟨a1, a2, a3, h⟩, hk => by
  intro z hz
  rcases List.mem_cons.1 hz with rfl | hz
  ·have := hk y (List.mem_cons_self ..)
   unfold TokOk at this ⊢
   rw [a1, a2, a3]
   exact this
  ·exact same_ok h (fun x hx => hk x (List.mem_cons_of_mem _ hx)) z hz
section
variable {n d p q a b c N i : Nat} {h h0 H : AHeap} {u : Bytes} {Q : ARes → AHeap → Prop} {v v1 v2 : AV} {S : List Nat} {ys T : List RowT} {s : Bool} {ts ts' full : List Tk}
theorem same_loop {k11 : AHeap → R} (s1 : Slc H.next H 4 v1 (ts.map Tk.c)) (s2 : Slc H.next H 4 v2 (ts'.map Tk.c)) (hS : SameT ts ts') (hl : ts.length ≤ 1000000) (hk : Wp (k11 H) Q) :
  ∀ (f i : Nat), ts.length < f + i → i ≤ ts.length → Wp (ref12_Same_L0 v1 v2 k11 f (i : Int) H) Q
 | 0, i, hf, hi => by omega
 | f + 1, i, hf, hi => by
  rw [ref12_Same_L0_s]
  unfold ref12_Same_L0b
  have hle := s1.len
  simp only [List.length_map] at hle
  by_cases hlt : i < ts.length
  ·have hlt2 : i < ts'.length := by rw [← hS.len]; exact hlt
   obtain ⟨b1, x1, _, r1, r2, r3⟩ := tk_cells s1 hlt
   obtain ⟨b2, x2, _, q1, q2, q3⟩ := tk_cells s2 hlt2
   obtain ⟨a1, a2, a3⟩ := hS.at i hlt hlt2
   rw [← a1] at q1
   rw [← a2] at q2
   rw [← a3] at q3
   have es : eqS ts[i].t ts[i].t = true := eqS_true.2 rfl
   repeat (first | (rw [es]) | (with_reducible refine Wp.join1 (fun _ _ => ?_)) | ((with_reducible refine Wp.lettw ?_ ?_ ?_); omega; omega) | (with_reducible refine Wp.lett ?_) | ((with_reducible apply Wp.obind); (with_reducible first | exact hle | exact x1 | exact x2 | exact r1 | exact r2 | exact r3 | exact q1 | exact q2 | exact q3 | exact avInt_int _ _ | exact avStr_str _ | exact fldP_ptr _ _ _)) | ((with_reducible refine Wp.ift ?_ ?_); ((with_reducible first | apply decide_eq_true | apply bne_t); omega)) | ((with_reducible refine Wp.iff ?_ ?_); first | (with_reducible exact Bool.not_true) | ((with_reducible apply bne_f); omega)) | (with_reducible refine Wp.go1 (by assumption) ?_))
   rw [show (i : Int) + 1 = ((i + 1 : Nat) : Int) by omega]
   exact same_loop s1 s2 hS hl hk f (i + 1) (by omega) (by omega)
  ·repeat (first | (with_reducible refine Wp.lett ?_) | ((with_reducible apply Wp.obind); (with_reducible exact hle)) | ((with_reducible refine Wp.iff ?_ ?_); ((with_reducible apply decide_eq_false); omega)))
   exact hk
theorem same_w (s1 : Slc H.next H 4 v1 (ts.map Tk.c)) (s2 : Slc H.next H 4 v2 (ts'.map Tk.c)) (hS : SameT ts ts') (hl : ts.length ≤ 100000) (hn : 200000 < n) : world2 n d 10 [v1, v2] H = some (.ret (.bool true), H) := by
 refine w2_same (Wp.eq ?_)
 unfold ref12_Same
 have l1 := s1.len
 have l2 := s2.len
 have hlen := hS.len
 simp only [List.length_map] at l1 l2
 rw [← hlen] at l2
 repeat (first | (with_reducible refine Wp.join0 (fun _ _ => ?_)) | (with_reducible refine Wp.lett ?_) | ((with_reducible apply Wp.obind); (with_reducible first | exact l1 | exact l2)) | ((with_reducible refine Wp.iff ?_ ?_); ((with_reducible apply bne_f); omega)))
 refine same_loop s1 s2 hS (by omega) ?_ n 0 (by omega) (by omega)
 repeat ((with_reducible refine Wp.go0 (by assumption) ?_))
 exact Wp.ret ⟨rfl, rfl⟩
theorem lex_back {l : List (List AV)} {q : Nat} (hu : u.length ≤ 2048) (hh : lexAll u = .ok l q) : ∃ ts ts', l = ts.map Tk.c ∧ PlacesT u false 0 ts ∧ SameT ts' ts ∧ (wr false ts).length ≤ u.length ∧ ∃ q', lexAll (wr false ts) = .ok (ts'.map Tk.c) q' := by
 obtain ⟨ts, e, pl⟩ := places_t (lexAll_places hu hh)
 have hlen : (wr false ts).length ≤ u.length := by
  by_cases h0 : ts = []
  ·subst h0
   unfold wr
   simp
  ·obtain ⟨q1, _, h2, _⟩ := wr_len pl h0
   omega
 obtain ⟨ts', hs, hR⟩ := wr_ref pl [] []
 refine ⟨ts, ts', e, pl, hs, hlen, ?_⟩
 have h1 := lexAll_to (u := wr false ts) (by omega)
 have h2 := ref_one h1 hR
 cases hL : lexAll (wr false ts) with
 | bad e' q' => rw [hL] at h2; cases h2
 | ok l' q' =>
  rw [hL] at h2
  cases h2
  exact ⟨q', rfl⟩
end
theorem flatSpot : flatB Tryd.prog TSpot [1, 1] = true := by kernel_rfl
theorem eqSpot_zero : eqOther Tryd.prog TSpot (.agg [.int .i64 0, .int .i64 0]) (.agg [.int .i64 0, .int .i64 0]) = some true := eq_flat flatSpot (eqL_cons rfl (eqCell_int _ _ _) (eqL_cons rfl (eqCell_int _ _ _) rfl))
theorem tokenQ_at {u : Bytes} {p : Nat} {e : Int} {q : Nat} (hp : p < u.length) (hh : tokenQ u p = .bad e q) : q ≤ u.length := by
 unfold tokenQ at hh
 cases hR : readQ u p with
 | ok k t m a q' =>
  rw [hR] at hh
  dsimp only at hh
  split at hh
  ·cases hh
  ·simp only [TR.bad.injEq] at hh
   have := (readQ_le hp hR).1
   omega
 | bad e' q' =>
  rw [hR] at hh
  simp only [TR.bad.injEq] at hh
  obtain ⟨_, rfl⟩ := hh
  unfold readQ at hR
  rw [at?_lt hp] at hR
  dsimp only at hR
  have hw := span_le wordB (u.drop p)
  have hd := span_le digB (u.drop p)
  rw [List.length_drop] at hw hd
  split at hR
  ·unfold readWordQ at hR
   split at hR
   ·split at hR <;> cases hR
   ·simp only [TR.bad.injEq] at hR
    omega
  ·split at hR
   ·unfold readNumQ at hR
    split at hR
    ·cases hR
    ·split at hR
     ·cases hR
     ·simp only [TR.bad.injEq] at hR
      omega
   ·split at hR
    ·unfold readTextQ at hR
     cases hq : quotedQ (u.drop p) 64 with
     | ok l q2 => rw [hq] at hR; cases hR
     | bad e2 q2 =>
      rw [hq] at hR
      have := quoted_bad hq
      rw [List.length_drop] at this
      simp only [TR.bad.injEq] at hR
      omega
    ·split at hR
     ·cases hR
     ·simp only [TR.bad.injEq] at hR
      omega
theorem ref_at {u : Bytes} {p : Nat} {s : Bool} {l : List (List AV)} {x : LR} (h : RefTo u p s l x) : ∀ e q, x = .bad e q → q ≤ u.length := by
 induction h with
 | done h =>
  intro e q hh
  cases hh
 | nl h1 h2 _ ih => exact ih
 | blank h1 h2 _ ih => exact ih
 | remark h1 h2 _ ih => exact ih
 | tok h1 h2 h3 h4 h5 _ ih => exact ih
 | bad h1 h2 h3 h4 h5 =>
  intro e' q' hh
  cases hh
  exact tokenQ_at h1 h5
theorem bad_at {u : Bytes} {e : Int} {q : Nat} (hh : lexAll u = .bad e q) : q ≤ u.length := by
 unfold lexAll at hh
 split at hh
 ·cases hh
  omega
 ·rename_i hu
  have h := lex_to (u := u) (u.length + 1) 0 [] (by omega) (by omega)
  rw [hh] at h
  exact ref_at h e q rfl
set_option maxRecDepth 100000 in
/-- the law -/
theorem lexBack_says (h : AHeap) (hX : h.ex = [52]) (hPw : HasPow h) (xs : List AV) (hP : ArgsP Tryd.prog h.next h 12 [9] xs) : ∃ h', Says Tryd.prog 3 xs h (.ret (.bool true)) h' := by
 obtain ⟨_, _, rfl, hp0, hP⟩ := args_cons hP
 obtain rfl := args0 hP
 obtain ⟨u, rfl, hs⟩ := hp0.str Tryd.underlying9
 obtain ⟨n, hn⟩ : ∃ n, n = 1000000 := ⟨_, rfl⟩
 suffices hK : Wp (law12_LexBack (world2 n 14) n u h) fun r _ => r = .ret (.bool true) by
  obtain ⟨_, h', e, rfl⟩ := hK
  exact ⟨h', law12_LexBack_ok (world2_ok n 14) e⟩
 unfold law12_LexBack
 have lu := lenS_nat u
 have hwk := (w2_works n 14 _ _).trans (works_w n 13 h)
 have hlg := (w2_great n 14 _ _).trans (great_w n 13 u h)
 have Mx := Mem.nil [] h
 by_cases hl : lenS u > 65536
 ·rw [decide_eq_true hl] at hlg
  repeat (first | (with_reducible refine Wp.lett ?_) | ((with_reducible apply Wp.obind); (with_reducible exact avBool_bool _)) | ((with_reducible refine Wp.ift ?_ ?_); (with_reducible rfl)) | ((with_reducible refine Wp.iff ?_ ?_); (with_reducible exact Bool.not_true)) | ((with_reducible apply Wp.callN); (with_reducible first | exact hwk | exact hlg)))
  exact Wp.ret rfl
 ·rw [decide_eq_false hl] at hlg
  have hlx := fun (w : Bytes) (hw : w.length ≤ 100000) (H : AHeap) (hx : H.ex = [52]) => lex_w (n := n) (d := 0) (h := H) (u := w) (by omega) (by omega) (by rw [hx]; rfl) (by rw [hx]; rfl) (by rw [hx]; rfl)
  have hp := hlx u (by omega) h hX
  cases hQ : lexAll u with
  | bad e q =>
   rw [hQ] at hp
   dsimp only at hp
   obtain ⟨hne, h1, e1, M1⟩ := hp
   have e1 := (w2_lex n 14 _ _).trans e1
   have hq := bad_at hQ
   clear Mx
   have Mx := M1
   have ln : lenL .nsl = some 0 := rfl
   repeat (first | ((with_reducible apply Wp.obind); (with_reducible first | exact avInt_int _ _ | exact avBool_bool _)) | ((with_reducible apply Wp.ld0 Mx); rfl) | ((with_reducible apply Wp.sa0 Mx); rfl; rfl; (rfl); intro _ Mz; clear Mx; have Mx := Mz; clear Mz) | ((with_reducible apply Wp.mnew Mx); intro _ Mz; clear Mx; have Mx := Mz; clear Mz) | (with_reducible refine Wp.join1 (fun _ _ => ?_)) | (with_reducible refine Wp.lett ?_) | ((with_reducible apply Wp.obind); (with_reducible first | exact ln | exact avAgg_agg _ | exact extT_0 _ _ | exact extT_1 _ _ _)) | ((with_reducible refine Wp.ift ?_ ?_); ((with_reducible first | apply decide_eq_true | apply bne_t | apply beq_t); omega)) | ((with_reducible refine Wp.iff ?_ ?_); (with_reducible first | rfl | exact Bool.not_true)) | ((with_reducible apply Wp.callN); (with_reducible first | exact hwk | exact hlg | exact e1)) | (with_reducible refine Wp.go1 (by assumption) ?_) | rw [newP_eq])
   exact Wp.ret (by rw [decide_eq_true (by omega)])
  | ok l q =>
   rw [hQ] at hp
   dsimp only at hp
   obtain ⟨h1, v1, T1, e1, g1, M1⟩ := hp
   have e1 := (w2_lex n 14 _ _).trans e1
   have hu : u.length ≤ 2048 := by
    unfold lexAll at hQ
    split at hQ
    ·cases hQ
    ·omega
   obtain ⟨ts, ts', el, pl, hsm, hlen, q', hL2⟩ := lex_back hu hQ
   have hll : l.length ≤ 3000 := by
    unfold lexAll at hQ
    rw [if_neg (by omega)] at hQ
    have := lex_le _ _ _ _ _ hQ (by omega)
    simp at this
    omega
   have htl : ts.length ≤ 3000 := by
    have := congrArg List.length el
    rw [List.length_map] at this
    omega
   have hok := places_ok hu pl
   have hok2 := same_ok hsm hok
   have lw := lenS_nat (wr false ts)
   rw [el] at g1
   clear Mx
   have Mx := M1
   repeat (first | ((with_reducible apply Wp.obind); (with_reducible first | exact avInt_int _ _ | exact avBool_bool _)) | ((with_reducible apply Wp.ld0 Mx); rfl) | ((with_reducible apply Wp.sa0 Mx); rfl; rfl; (rfl); intro _ Mz; clear Mx; have Mx := Mz; clear Mz) | ((with_reducible apply Wp.mnew Mx); intro _ Mz; clear Mx; have Mx := Mz; clear Mz) | (with_reducible refine Wp.lett ?_) | ((with_reducible apply Wp.obind); (with_reducible first | exact avAgg_agg _ | exact extT_0 _ _ | exact extT_1 _ _ _)) | ((with_reducible refine Wp.iff ?_ ?_); first | (with_reducible first | rfl | exact Bool.not_true) | ((with_reducible apply bne_f); omega)) | ((with_reducible first | apply Wp.callN | apply Wp.callK); (with_reducible first | exact hwk | exact hlg | exact e1)) | rw [newP_eq])
   have sl1 := GrowT.slc' g1 Mx (fun x hx => by simp [hx])
   have ew := written_w (n := n) (d := 7) sl1 hok (by omega) (hPw.tch Mx.tch (by simp)) (by rw [Mx.ex, hX]; rfl) (by rw [Mx.ex, hX]; rfl) (by omega) (by omega)
   have hp2 := hlx (wr false ts) (by omega) _ (by rw [Mx.ex]; exact hX)
   rw [hL2] at hp2
   dsimp only at hp2
   obtain ⟨h2, v2, T2, e2, g2, M2⟩ := hp2
   have e2 := (w2_lex n 14 _ _).trans e2
   refine Wp.callK ew ?_
   iterate 3 (first | ((with_reducible apply Wp.obind); (with_reducible exact avStr_str _)) | ((with_reducible apply Wp.obind); (with_reducible exact extT_0 _ _)) | ((with_reducible apply Wp.callN); (with_reducible exact e2)))
   have M3 := Mem.frame (xs := []) Mx M2
   clear Mx
   have Mx := M3.perm List.perm_append_comm
   clear M3
   simp only [List.cons_append] at Mx
   repeat (first | ((with_reducible apply Wp.lr0 Mx); rfl) | ((with_reducible apply Wp.sa0 Mx); rfl; rfl; (rfl); intro _ Mz; clear Mx; have Mx := Mz; clear Mz) | ((with_reducible apply Wp.mnew Mx); intro _ Mz; clear Mx; have Mx := Mz; clear Mz) | (with_reducible refine Wp.join1 (fun _ _ => ?_)) | (with_reducible refine Wp.lett ?_) | ((with_reducible apply Wp.obind); (with_reducible first | exact eqSpot_zero | exact avAgg_agg _ | exact extT_1 _ _ _)) | ((with_reducible refine Wp.ift ?_ ?_); first | (with_reducible rfl) | ((with_reducible apply decide_eq_true); omega)) | (with_reducible refine Wp.go1 (by assumption) ?_) | rw [newP_eq])
   have sl1' := GrowT.slc' g1 Mx (fun x hx => by simp [hx])
   have sl2 := GrowT.slc' g2 Mx (fun x hx => by simp [hx])
   have hsl := hsm.len
   have es := same_w (n := n) (d := 14) sl2 sl1' hsm (by omega) (by omega)
   have ew2 := written_w (n := n) (d := 7) sl2 hok2 (by omega) (hPw.tch Mx.tch (by simp)) (by rw [Mx.ex, hX]; rfl) (by rw [Mx.ex, hX]; rfl) (by omega) (by rw [hsm.wr]; omega)
   rw [hsm.wr] at ew2
   have eq1 : eqS (wr false ts) (wr false ts) = true := eqS_true.2 rfl
   repeat (first | (rw [eq1]) | ((with_reducible apply Wp.obind); (with_reducible first | exact avBool_bool _ | exact avStr_str _)) | (with_reducible refine Wp.join1 (fun _ _ => ?_)) | (with_reducible refine Wp.lett ?_) | ((with_reducible refine Wp.ift ?_ ?_); (with_reducible rfl)) | ((with_reducible first | apply Wp.callN | apply Wp.callK); (with_reducible first | exact es | exact ew2)) | (with_reducible refine Wp.go1 (by assumption) ?_))
   exact Wp.ret rfl
end Go.Proofs.YtjopejiooipmkaaDoor
